/- The program's Fold,for every tree that is not huge. -/
import Derived.Test.YtifapidjkelnfaaGreatDoorG50
import Derived.Test.YtifapidjkelnfaaGreatDoorG02
import Derived.Test.YtifapidjkelnfaaGreatDoorG41
namespace Go.Proofs.YtifapidjkelnfaaGreatDoor
open Go.RowKit
set_option maxHeartbeats 2000000
set_option maxRecDepth 100000
theorem pe (t : T) (sv : Value) (w : World) (hf : Fits t) (ha : AT w t.subs sv) (hcount : zn t <= 10000) (htab : Lib.TabIs Tryz.prog w "strings.asciiSpace" .u8 Lib.asciiSpaceTab) :
  Calls Tryz.prog 49 #[zq t sv] w (Sy w (.bool (zh .module t))) := by
 have g : Hid (∀ w',w.grownBy w' none -> Calls Tryz.prog 43 #[zq t sv] w' fun e w'' => w'.grownBy w'' none /\ ((zh .module t = true /\ e = .returned (.tuple #[.int .i64 (zn t),.bool true])) \/ (zh .module t = false /\ e = .returned (.tuple #[.int .i64 0,.bool false])))) := fun w' hg => kK t sv w' hf (ha.kept hg) hcount (va htab ⟨hg.os,hg.tape,hg.output,hg.size,fun i hi => hg.block i hi (by simp)⟩)
 obtain ⟨a,n,c,rfl,_,_,h⟩ := ha.any; obtain ⟨d,x,m,p,l⟩ := t; clear ha hf htab h hcount
 change Calls Tryz.prog 49 #[.agg #[.int .i64 d,.string ⟨x.toArray⟩,.int .i64 m,.int .i64 p,.slice a n c]] w _
 generalize j : zn (.mk d x m p l) = C at *
 generalize k : zh .module (.mk d x m p l) = B at *
 clear j k
 go_enter Tryz.func49,Tryz.ntmps49
 go_wp2_with fail; go_at_call 43; refine (g.out _ gan).mono ?_; rintro e r ⟨b,⟨rfl,rfl⟩ | ⟨rfl,rfl⟩⟩
 ·have f := zb (za gan b)
  clear b; go_wp2
  go_ret
  exact ⟨rfl,f.out⟩
 ·have f := zb (za gan b)
  clear b; go_wp2
  go_ret
  exact ⟨rfl,f.out⟩
def FJ (w0 : World) (fb : Nat) (r : T) (n : Nat) (w : World) : Prop := ∃ l v,VS w0 fb w l v /\ Stk r l /\ xG l <= n
theorem oT (t : T) (sv : Value) (w : World) (hf : Fits t) (ha : AT w t.subs sv) (hcount : zn t <= 3000) (htab : Lib.TabIs Tryz.prog w "strings.asciiSpace" .u8 Lib.asciiSpaceTab) :
  Calls Tryz.prog 19 #[zq t sv] w fun e w' => w.grownBy w' none /\ ((zh .module t = false /\ e = .returned (.tuple #[ja,.iface 25 (.int .i64 10)])) \/ (zh .module t = true /\ ∃ sv',e = .returned (.tuple #[zq (yh t) sv',.nilIface]) /\ LR w' (fun k => w.heap.size <= k) (yh t).subs sv')) := by
 have U : Hid (∀ w',w.grownBy w' none -> Calls Tryz.prog 49 #[zq t sv] w' (Sy w' (.bool (zh .module t)))) := fun w' hg => pe t sv w' hf (ha.kept hg) (by omega) (va htab ⟨hg.os,hg.tape,hg.output,hg.size,fun i F => hg.block i F (by simp)⟩)
 have HF := zb hf; have HA := zb ha; have L := zb hcount
 have V : Hid (zh .module t = true -> GT t) := fun h => gE (xf.1 h)
 obtain ⟨a,n,c,rfl,_,_,hl⟩ := ha.any; obtain ⟨f,x,m,p,g⟩ := t; have B0 : Hid (Box (w.alloc (.cells #[.int .i64 f,.string ⟨x.toArray⟩,.int .i64 m,.int .i64 p,.slice a n c] 24)) w.heap.size (.mk f x m p g) (.slice a n c)) := Box.new w (.mk f x m p g) (.slice a n c) 24; clear hf ha htab hl hcount; obtain ⟨X,Y⟩ : ∃ X,X = yh (.mk f x m p g) := ⟨_,rfl⟩; rw [<- Y]; obtain ⟨kr,xr,mr,pr,Z⟩ := X; have a0 := zb Y; clear Y
 change Calls Tryz.prog 19 #[.agg #[.int .i64 f,.string ⟨x.toArray⟩,.int .i64 m,.int .i64 p,.slice a n c]] w _
 go_enter Tryz.func19,Tryz.ntmps19
 go_wp2_with fail; go_at_call 49; refine (U.out _ (zf gan _)).mono ?_; rintro e d ⟨rfl,M⟩; have N := zb (za (zf gan _) M); have B1 := zb (B0.out.kept (za gan M)); have E : Hid (RB d (w.heap.size + 1)) := (RB.new' (by simp)).kept M (by simp); obtain ⟨b0,b1,b2,b3,b4⟩ := B1.out; have b8 := zc b0; have b9 : w.heap.size + 1 < d.heap.size := E.out.lt; clear M B0; cases j : zh .module (.mk f x m p g)
 case false =>
  obtain ⟨_,_,_,_,_,r0,r1,r2,r3,r4,rz⟩ := E.out; have rl := E.out.lt; go_wp2_with fail; refine xC Tryz.results19 rfl rfl (RB.five E.out) rfl ?_
  exact ⟨(yC N.out (by omega)),.inl ⟨j,rfl⟩⟩
 case true =>
 have HG := zb (V.out j); have a3 := zb (HA.out.kept N.out); go_wp2_with fail; go_at_call 50; refine (dN d d.heap.size _ [] (.slice none 0 0) (.mk f x m p g) _ (VS.init grn rfl) (by simp) HF.out a3.out (by have := fq (.mk f x m p g); have := L.out; omega)).mono ?_; rintro e w2 ⟨B,rfl,V2⟩
 have J2 : Hid (FJ d d.heap.size (.mk f x m p g) 6001 w2) := ⟨_,B,V2,Stk.one 0 (Nat.zero_le _),by
  have h8 := L.out; rw [jo] at h8
  show xG [⟨T.mk f x m p g,0,_⟩] <= 6001
  simp only [xG,Lv.left,List.drop_zero]
  omega⟩
 clear V2 b0 b1 b2 b3 b4; go_wp2_with fail
 go_loopw [] (fun wr => Hid (∃ n,FJ d d.heap.size (.mk f x m p g) n wr /\ n <= 6001)) (fun wr => kq (FJ d d.heap.size (.mk f x m p g)) wr)
 case atStart => exact ⟨_,J2.out,by omega⟩
 case round =>
  obtain ⟨_,hJ,a4⟩ := hrel.out; have a5 := dO hJ; obtain ⟨l,v,O,S0,a6⟩ := oV hJ
  have GH : ∀ w',(∃ y B,VS d d.heap.size w' y B /\ Stk (.mk f x m p g) y /\ xG y < xG l) -> Hid (∃ n,FJ d d.heap.size (.mk f x m p g) n w' /\ n <= 6001) /\ kq (FJ d d.heap.size (.mk f x m p g)) w' < kq (FJ d d.heap.size (.mk f x m p g)) wr := fun w' h => by
   obtain ⟨y,B,a1,a2,_⟩ := h; have G : FJ d d.heap.size (.mk f x m p g) (xG y) w' := ⟨y,B,a1,a2,Nat.le_refl _⟩; have := dO G
   exact ⟨⟨xG y,G,by omega⟩,by omega⟩
  have C := zb GH; have a7 := oC l
  have a8 : Hid (l.length <= 6001) := by show _ <= _; omega
  clear GH hJ a5 a6 a7 hrel a4
  generalize kq (FJ d d.heap.size (.mk f x m p g)) wr = gh at *
  obtain ⟨l,x9,rfl⟩ := S0.snoc; have VV := zb O; have Q := zb S0; have RR : Hid (RB wr (w.heap.size + 1)) := E.out.kept O.gb (by simp); have c0 := O.lt; clear O S0; obtain ⟨z,H,r⟩ := x9
  rcases Nat.lt_or_ge H z.subs.length with F | F
  ·obtain ⟨u9,hu⟩ : ∃ u,z.subs[H]? = some u := ⟨_,List.getElem?_eq_getElem F⟩
   go_wp2_with fail; go_at_call 51; refine (nA d d.heap.size wr l z u9 H r v VV.out hu).mono ?_; rintro e w4 ⟨su,rfl,fu,au,D⟩; have HU := zb hu; have FU := zb fu; have AU := zb au; have D := zb D; have a9 := D.out.lt; obtain ⟨_,_,rfl,b5,b6⟩ := au.form; obtain ⟨ku,xu,mu,pu,lu⟩ := u9; clear fu au hu b5 b6; go_wp2_with fail; go_at_call 50; refine (dN d d.heap.size _ (l ++ [⟨z,H + 1,r⟩]) v (.mk ku xu mu pu lu) _ (D.out.grown gan) (by have := a8.out; simp at this ⊢; omega) FU.out AU.out ?_).mono ?_
   ·have h1 := Q.out.next HU.out
    have h2 := h1.small L.out ⟨.mk ku xu mu pu lu,0,[]⟩ (by simp); have h3 := fq (.mk ku xu mu pu lu); simp only at h2
    omega
   rintro e I ⟨v5,rfl,J⟩; have H5 := zb (C.out I ⟨_,v5,J,Q.out.next HU.out,rL HU.out⟩); clear J; go_wp2_with fail
   exact H5.out
  ·have b7 : H = z.subs.length := by have := Q.out.top.2; simp only at this; omega
   subst b7; clear F; go_wp2_with fail; go_at_call 51; refine (lj d d.heap.size wr l z r v VV.out).mono ?_; rintro e w4 ⟨K,g4⟩
   unfold ja at K
   subst K; have D := zb (VV.out.grown g4); have R4 : Hid (RB w4 (w.heap.size + 1)) := RR.out.kept g4 (by simp); have a9 := D.out.lt; clear g4; go_wp2_with fail; go_at_call 52; refine (pH _ HG.out L.out d d.heap.size _ l ⟨z,z.subs.length,r⟩ v (D.out.grown gan) Q.out rfl).mono ?_; rintro e I (⟨sx,s,R,g5⟩ | ⟨y,B,s,J,S5,A⟩)
   ·rw [<- a0.out] at s R
    subst s; obtain ⟨ax,cx,rfl⟩ := R.form; have R5 : Hid (RB I (w.heap.size + 1)) := E.out.kept g5 (by simp); have G5 := zb (za N.out g5); have L5 : Hid (LR I (fun k => d.heap.size <= k) (T.mk kr xr mr pr Z).subs (.slice ax Z.length cx)) := R; obtain ⟨_,_,_,_,_,r0,r1,r2,r3,r4,rz⟩ := R5.out; have rl := R5.out.lt; clear R g5 C; go_wp2_with fail; refine xC Tryz.results19 rfl rfl ((RB.five R5.out).alloc _) rfl ?_; refine ⟨(zf (yC G5.out (by omega)) _),.inr ⟨j,.slice ax Z.length cx,rfl,?_⟩⟩; refine ((L5.out.kept (xw (w.heap.size + 1)) (fun b hb hk => ?_)).kept gan (fun _ hk => by cases hk)).mono (fun k hk => ?_)
    ·cases hb; have h8 : d.heap.size <= w.heap.size + 1 := hk; omega
    ·have := N.out.size; have h8 : d.heap.size <= k := hk; omega
   ·unfold ja at s
    subst s; have H5 := zb (fun o => C.out (I.alloc o) ⟨y,B,J.grown (zf grn o),S5,A⟩); clear J S5 A; go_wp2_with fail
    exact H5.out _
end Go.Proofs.YtifapidjkelnfaaGreatDoor
