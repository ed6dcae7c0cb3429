/- The program's Text: every tree. -/
import Derived.Test.YtifapidjkelnfaaGreatDoorG34
import Derived.Test.YtifapidjkelnfaaGreatDoorG02
import Derived.Test.YtifapidjkelnfaaGreatDoorG41
namespace Go.Proofs.YtifapidjkelnfaaGreatDoor
open Go.RowKit Go.Maps Go.WideMaps Go.WideElems
set_option maxHeartbeats 4000000
set_option maxRecDepth 1000000
theorem tA (w0 : World) (wb : Nat) (hp : PT w0) (f : Nat) (hf : f < 900) (w : World) (S : Bs) (t : T) (sv : Value) (h : Wr w0 wb w S 0) (ha : AT w0 t.subs sv) (ht : Well .module t) (hd : zS t <= f) (hlen : S.length + (yw f t).length <= 1000000000) :
  Calls Tryz.prog 45 #[ptr wb,zq t sv] w (WP w0 wb w S 0 (yw f t)) := by
 obtain ⟨x,p,is,N,O,Q,R,U,rfl,-,D,E,F,G,H,I⟩ := gY ht; obtain ⟨s,g,rfl,-⟩ := yk D; obtain ⟨i,b,rfl,v⟩ := yk E; obtain ⟨y,j,rfl,z⟩ := yk F; obtain ⟨A,k,rfl,B⟩ := yk G; obtain ⟨m,d,rfl,C⟩ := yk H; obtain ⟨r,n,rfl,J⟩ := yk I
 have a : ∀ (q : Int) (l : List T),T.mk 1 [] 0 q l ∈ (T.mk 2 x 0 p [.mk 1 [] 0 s g,.mk 1 [] 0 i b,.mk 1 [] 0 y j,.mk 1 [] 0 A k,.mk 1 [] 0 m d,.mk 1 [] 0 r n]).subs -> ∀ u ∈ l,zS u <= f := by
  intro q l L u M; have V := yp (t := .mk 1 [] 0 q l) (u := u) M; have X := yp L
  omega
 by_cases K : n = []
 ·subst K
  have e : yw f (.mk 2 x 0 p [.mk 1 [] 0 s g,.mk 1 [] 0 i b,.mk 1 [] 0 y j,.mk 1 [] 0 A k,.mk 1 [] 0 m d,.mk 1 [] 0 r []]) = ([77,79,68,85,76,69,32] ++ (x ++ ([59] ++ ([10] ++ (yj g ++ (zy [67,79,78,83,84] (yt f) b ++ (zy [84,89,80,69] yu j ++ zy VARw zF k))))))) ++ (yA f d ++ (([69,78,68,32] ++ (x ++ ([46] ++ [10]))))) := by
   simp [yw,zI,T.subs,T.name,yA]
  rw [e] at hlen ⊢
  exact fS w0 wb hp f (by omega) w S x 0 p s i y A m r g b j k d [] sv h ha [] v (a i b (by simp [T.subs])) z B C (a m d (by simp [T.subs])) hlen
 ·have e : yw f (.mk 2 x 0 p [.mk 1 [] 0 s g,.mk 1 [] 0 i b,.mk 1 [] 0 y j,.mk 1 [] 0 A k,.mk 1 [] 0 m d,.mk 1 [] 0 r n]) = ([77,79,68,85,76,69,32] ++ (x ++ ([59] ++ ([10] ++ (yj g ++ (zy [67,79,78,83,84] (yt f) b ++ (zy [84,89,80,69] yu j ++ zy VARw zF k))))))) ++ (yA f d ++ ([66,69,71,73,78] ++ ([10] ++ (yr f 0 n ++ ([69,78,68,32] ++ (x ++ ([46] ++ [10]))))))) := by
   simp [yw,zI,T.subs,T.name,yA,K]
  rw [e] at hlen ⊢
  exact fR w0 wb hp f (by omega) w S x 0 p s i y A m r g b j k d n sv h ha _ v (a i b (by simp [T.subs])) z B C (a m d (by simp [T.subs])) (dK w0 wb hp f 0 n (by omega) (a r n (by simp [T.subs])) J) K hlen
abbrev mt (n : Int) : Value := .iface 25 (.int .i64 n)
noncomputable def jF (t : T) (f : Nat) : Value :=
 if zh .module t = true then (if 4000 < (yw f t).length then .tuple #[.string ⟨#[]⟩,mt 3] else .tuple #[.string ⟨(yw f t).toArray⟩,.nilIface]) else .tuple #[.string ⟨#[]⟩,mt 10]
theorem dQ (f : Nat) (t : T) : yw f t ≠ [] := by simp [yw]
theorem nC (t : T) (sv : Value) (w : World) (f : Nat) (hf : f < 900) (hfit : Fits t) (ha : AT w t.subs sv) (hcount : zn t <= 3000) (hd : zS t <= f) (htab : Lib.TabIs Tryz.prog w "strings.asciiSpace" .u8 Lib.asciiSpaceTab) (hp : PT w) (hlen : zh .module t = true -> (yw f t).length <= 900000000) :
  Calls Tryz.prog 16 #[zq t sv] w (Sy w (jF t f)) := by
 have v : Hid (∀ w',w.grownBy w' none -> Calls Tryz.prog 43 #[zq t sv] w' fun e w'' => w'.grownBy w'' none /\ ((zh .module t = true /\ e = .returned (.tuple #[.int .i64 (zn t),.bool true])) \/ (zh .module t = false /\ e = .returned (.tuple #[.int .i64 0,.bool false])))) := fun w' hg => kK t sv w' hfit (ha.kept hg) (by omega) (va htab ⟨hg.os,hg.tape,hg.output,hg.size,fun i hi => hg.block i hi (by simp)⟩)
 have I : Hid (∀ b d w',w.grownBy b none -> zh .module t = true -> Wr b d w' [] 0 -> Calls Tryz.prog 45 #[ptr d,zq t sv] w' (WP b d w' [] 0 (yw f t))) := fun b d w' hg hw hr => tA b d (hp.kept hg) f hf w' [] t sv hr (ha.kept hg) (xf.1 hw) hd (by have := hlen hw; simp only [List.length_nil]; omega)
 have HL := zb hlen; have y := zb (dQ f t)
 unfold jF
 obtain ⟨a,n,c,rfl,_,_,M⟩ := ha.any; obtain ⟨j,x,m,p,l⟩ := t; clear ha hfit htab hp hlen hd M
 change Calls Tryz.prog 16 #[.agg #[.int .i64 j,.string ⟨x.toArray⟩,.int .i64 m,.int .i64 p,.slice a n c]] w _
 generalize N : yw f (.mk j x m p l) = X at *
 generalize O : zn (.mk j x m p l) = C at *
 generalize Q : zh .module (.mk j x m p l) = B at *
 clear N O Q; have J : Hid (Box (w.alloc (.cells #[.int .i64 j,.string ⟨x.toArray⟩,.int .i64 m,.int .i64 p,.slice a n c] 24)) w.heap.size (.mk j x m p l) (.slice a n c)) := Box.new w (.mk j x m p l) (.slice a n c) 24; cases B
 ·go_enter Tryz.func16,Tryz.ntmps16
  go_wp2_with fail; go_at_call 43; refine (v _ gan).mono ?_; rintro e b ⟨g,⟨s,-⟩ | ⟨-,rfl⟩⟩
  ·cases s
  ·have k := za gan g
   clear g; go_wp2_with fail
   go_ret2
   exact ⟨rfl,k⟩
 ·by_cases K : 4000 < X.length
  ·rw [if_pos rfl,if_pos K]
   go_enter Tryz.func16,Tryz.ntmps16
   go_wp2_with fail; go_at_call 43; refine (v _ gan).mono ?_; rintro e b ⟨g,⟨-,rfl⟩ | ⟨s,-⟩⟩
   ·have k := za gan g
    have z := J.kept (za grn g); clear g
    have R : ¬ (4000 : Int) < (C : Int) := by omega
    go_wp2_with fail; go_at_call 44; refine (jc b).mono ?_; rintro e A ⟨d,rfl,h⟩; have D := zb h; have E : Hid (b.grownBy A none) := h.gb; obtain ⟨U,V,Y,Z,b4⟩ := (z.kept E).p
    have F := h.lt; clear h; go_wp2_with fail; go_at_call 45; refine (I b d _ k (by first | trivial | rfl) (D.grown grn)).mono ?_; rintro e G ⟨rfl,r,-⟩; rw [List.nil_append] at r; have u := zb r; clear r; go_wp2_with fail; go_at_call 46; refine (rk b d G X 0 u).mono ?_; rintro e w4 ⟨rfl,rfl⟩
    have H : (4000 : Int) < (X.length : Int) := by omega
    go_wp2_with fail
    go_ret2
    exact ⟨rfl,za k u.gb⟩
   ·cases s
  ·rw [if_pos rfl,if_neg K]
   go_enter Tryz.func16,Tryz.ntmps16
   go_wp2_with fail; go_at_call 43; refine (v _ gan).mono ?_; rintro e b ⟨g,⟨-,rfl⟩ | ⟨s,-⟩⟩
   ·have k := za gan g
    have z := J.kept (za grn g); clear g
    have R : ¬ (4000 : Int) < (C : Int) := by omega
    go_wp2_with fail; go_at_call 44; refine (jc b).mono ?_; rintro e A ⟨d,rfl,h⟩; have D := zb h; have E : Hid (b.grownBy A none) := h.gb; obtain ⟨U,V,Y,Z,b4⟩ := (z.kept E).p
    have F := h.lt; clear h; go_wp2_with fail; go_at_call 45; refine (I b d _ k (by first | trivial | rfl) (D.grown grn)).mono ?_; rintro e G ⟨rfl,r,-⟩; rw [List.nil_append] at r; have u := zb r; clear r; go_wp2_with fail; go_at_call 46; refine (rk b d G X 0 u).mono ?_; rintro e w4 ⟨rfl,rfl⟩
    have H : ¬ (4000 : Int) < (X.length : Int) := by omega
    go_wp2_with fail; go_at_call 47; refine (tt b d _ X 0 u y).mono ?_; rintro e w5 ⟨rfl,L⟩; have G5 := zb L; clear L; go_wp2_with fail
    go_ret2
    exact ⟨rfl,za k G5⟩
   ·cases s
end Go.Proofs.YtifapidjkelnfaaGreatDoor
