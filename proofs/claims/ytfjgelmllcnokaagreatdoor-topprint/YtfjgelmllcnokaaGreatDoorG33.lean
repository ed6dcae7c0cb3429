/- The program's Text: every tree. -/
import Derived.Test.YtfjgelmllcnokaaGreatDoorG27
import Derived.Test.YtfjgelmllcnokaaGreatDoorG04
import Derived.Test.YtfjgelmllcnokaaGreatDoorG32
namespace Go.Proofs.YtfjgelmllcnokaaGreatDoor
open Go.RowKit Go.Maps Go.WideMaps Go.WideElems
set_option maxHeartbeats 4000000
set_option maxRecDepth 1000000
theorem iK (w0 : World) (wb : Nat) (hp : PT w0) (f : Nat) (hf : f < 19000) (w : World) (S : List UInt8) (t : T) (sv : Value) (h : Wr w0 wb w S 0) (ha : AT w0 t.subs sv) (ht : Well .module t) (hd : zA t <= f) (hlen : S.length + (zP f t).length <= 1000000000) :
  Calls Tryz.prog 19 #[ptr wb,yl t sv] w (WP w0 wb w S 0 (zP f t)) := by
 obtain ⟨x,p,is,U,V,X,ps,bs,rfl,-,v,y,z,A,B,C⟩ := zce ht; obtain ⟨D,j,rfl,-⟩ := xL v; obtain ⟨m,g,rfl,E⟩ := xL y; obtain ⟨F,n,rfl,H⟩ := xL z; obtain ⟨I,o,rfl,J⟩ := xL A; obtain ⟨r,i,rfl,K⟩ := xL B; obtain ⟨s,b,rfl,L⟩ := xL C
 have d : ∀ (q : Int) (l : List T),T.mk 1 [] 0 q l ∈ (T.mk 2 x 0 p [.mk 1 [] 0 D j,.mk 1 [] 0 m g,.mk 1 [] 0 F n,.mk 1 [] 0 I o,.mk 1 [] 0 r i,.mk 1 [] 0 s b]).subs -> ∀ u ∈ l,zA u <= f := by
  intro q l N u O; have h1 := ui (t := .mk 1 [] 0 q l) (u := u) O; have h2 := ui N
  omega
 have e : ∃ Y,zP f (.mk 2 x 0 p [.mk 1 [] 0 D j,.mk 1 [] 0 m g,.mk 1 [] 0 F n,.mk 1 [] 0 I o,.mk 1 [] 0 r i,.mk 1 [] 0 s b]) = ([77,79,68,85,76,69,32] ++ (x ++ ([59] ++ ([10] ++ (xm j ++ (zO [67,79,78,83,84] (xJ f) g ++ (zO [84,89,80,69] xM n ++ zO VARw zG o))))))) ++ (vo f i ++ Y) /\ ((b = [] /\ Y = [69,78,68,32] ++ (x ++ ([46] ++ [10]))) \/ ∃ Z,¬ b = [] /\ LW w0 wb 0 b Z /\ Y = [66,69,71,73,78] ++ ([10] ++ (Z ++ ([69,78,68,32] ++ (x ++ ([46] ++ [10])))))) := by
  by_cases M : b = []
  ·subst M
   exact ⟨_,by simp [zP,yo,T.subs,T.name,vo],.inl ⟨rfl,rfl⟩⟩
  ·exact ⟨_,by simp [zP,yo,T.subs,T.name,vo,M],.inr ⟨zW f 0 b,M,ic w0 wb hp f 0 b (by omega) (d s b (by simp [T.subs])) L,rfl⟩⟩
 obtain ⟨Y,e,R⟩ := e
 rw [e] at hlen ⊢
 exact zdc w0 wb hp f (by omega) w S x 0 p D m F I r s j g n o i b sv h ha Y E (d m g (by simp [T.subs])) H J K (d r i (by simp [T.subs])) R hlen
abbrev bZ (n : Int) : Value := .iface 35 (.int .i64 n)
noncomputable def zbq (t : T) (f : Nat) : Value :=
 if jY .module t = true then (if 4000 < (zP f t).length then .tuple #[.string ⟨#[]⟩,bZ 3] else .tuple #[.string ⟨(zP f t).toArray⟩,.nilIface]) else .tuple #[.string ⟨#[]⟩,bZ 10]
theorem dR (f : Nat) (t : T) : zP f t ≠ [] := by simp [zP]
theorem zdk (t : T) (sv : Value) (w : World) (f : Nat) (hf : f < 19000) (hfit : Fits t) (ha : AT w t.subs sv) (hcount : zr t <= 4000) (hd : zA t <= f) (htab : Lib.TabIs Tryz.prog w "strings.asciiSpace" .u8 Lib.asciiSpaceTab) (hp : PT w) (hlen : jY .module t = true -> (zP f t).length <= 900000000) :
  Calls Tryz.prog 7 #[yl t sv] w (Sy w (zbq t f)) := by
 have v : Hid (∀ w',w.grownBy w' none -> Calls Tryz.prog 17 #[yl t sv] w' fun e w'' => w'.grownBy w'' none /\ ((jY .module t = true /\ e = .returned (.tuple #[.int .i64 (zr t),.bool true])) \/ (jY .module t = false /\ e = .returned (.tuple #[.int .i64 0,.bool false])))) := fun w' hg => td t sv w' hfit (ha.kept hg) (by omega) (ki htab ⟨hg.os,hg.tape,hg.output,hg.size,fun i hi => hg.block i hi (by simp)⟩)
 have J : Hid (∀ b d w',w.grownBy b none -> jY .module t = true -> Wr b d w' [] 0 -> Calls Tryz.prog 19 #[ptr d,yl t sv] w' (WP b d w' [] 0 (zP f t))) := fun b d w' hg hw hr => iK b d (hp.kept hg) f hf w' [] t sv hr (ha.kept hg) (qx.1 hw) hd (by have := hlen hw; simp only [List.length_nil]; omega)
 have HL := za hlen; have y := za (dR f t)
 unfold zbq
 obtain ⟨a,n,c,rfl,_,_,N⟩ := ha.any; obtain ⟨j,x,m,p,l⟩ := t; clear ha hfit htab hp hlen hd N
 change Calls Tryz.prog 7 #[.agg #[.int .i64 j,.string ⟨x.toArray⟩,.int .i64 m,.int .i64 p,.slice a n c]] w _
 generalize O : zP f (.mk j x m p l) = X at *
 generalize R : zr (.mk j x m p l) = C at *
 generalize U : jY .module (.mk j x m p l) = B at *
 clear O R U; have K : Hid (Box (w.alloc (.cells #[.int .i64 j,.string ⟨x.toArray⟩,.int .i64 m,.int .i64 p,.slice a n c] 28)) w.heap.size (.mk j x m p l) (.slice a n c)) := Box.new w (.mk j x m p l) (.slice a n c) 28; cases B
 ·go_enter Tryz.func7,Tryz.ntmps7
  go_wp2_with fail; go_at_call 17; refine (v.out _ gan).mono ?_; rintro e b ⟨g,⟨s,-⟩ | ⟨-,rfl⟩⟩
  ·cases s
  ·have o := za (zb gan g)
   clear g; go_wp2_with fail
   go_ret2
   exact ⟨rfl,o.out⟩
 ·by_cases L : 4000 < X.length
  ·rw [if_pos rfl,if_pos L]
   go_enter Tryz.func7,Tryz.ntmps7
   go_wp2_with fail; go_at_call 17; refine (v.out _ gan).mono ?_; rintro e b ⟨g,⟨-,rfl⟩ | ⟨s,-⟩⟩
   ·have o := za (zb gan g)
    have z := za (K.out.kept (zb grn g)); clear g
    have V : ¬ (4000 : Int) < (C : Int) := by omega
    go_wp2_with fail; go_at_call 18; refine (gS b).mono ?_; rintro e A ⟨d,rfl,h⟩; have D := za h; have E : Hid (b.grownBy A none) := h.gb; obtain ⟨Y,Z,b2,b3,b4⟩ := (z.out.kept E.out).p
    have F := h.lt; clear h; go_wp2_with fail; go_at_call 19; refine (J.out b d _ o.out (by first | trivial | rfl) (D.out.grown grn)).mono ?_; rintro e H ⟨rfl,r,-⟩; rw [List.nil_append] at r; have u := za r; clear r; go_wp2_with fail; go_at_call 20; refine (bN b d H X 0 u.out).mono ?_; rintro e w4 ⟨rfl,rfl⟩
    have I : (4000 : Int) < (X.length : Int) := by omega
    go_wp2_with fail
    go_ret2
    exact ⟨rfl,zb o.out u.out.gb⟩
   ·cases s
  ·rw [if_pos rfl,if_neg L]
   go_enter Tryz.func7,Tryz.ntmps7
   go_wp2_with fail; go_at_call 17; refine (v.out _ gan).mono ?_; rintro e b ⟨g,⟨-,rfl⟩ | ⟨s,-⟩⟩
   ·have o := za (zb gan g)
    have z := za (K.out.kept (zb grn g)); clear g
    have V : ¬ (4000 : Int) < (C : Int) := by omega
    go_wp2_with fail; go_at_call 18; refine (gS b).mono ?_; rintro e A ⟨d,rfl,h⟩; have D := za h; have E : Hid (b.grownBy A none) := h.gb; obtain ⟨Y,Z,b2,b3,b4⟩ := (z.out.kept E.out).p
    have F := h.lt; clear h; go_wp2_with fail; go_at_call 19; refine (J.out b d _ o.out (by first | trivial | rfl) (D.out.grown grn)).mono ?_; rintro e H ⟨rfl,r,-⟩; rw [List.nil_append] at r; have u := za r; clear r; go_wp2_with fail; go_at_call 20; refine (bN b d H X 0 u.out).mono ?_; rintro e w4 ⟨rfl,rfl⟩
    have I : ¬ (4000 : Int) < (X.length : Int) := by omega
    go_wp2_with fail; go_at_call 21; refine (cD b d _ X 0 u.out y.out).mono ?_; rintro e w5 ⟨rfl,M⟩; have G5 := za M; clear M; go_wp2_with fail
    go_ret2
    exact ⟨rfl,zb o.out G5.out⟩
   ·cases s
end Go.Proofs.YtfjgelmllcnokaaGreatDoor
