/- The law TidySays: its one call answers true,whatever the tree,and memory that was there stays as it was. -/
import Derived.Test.YtifapidjkelnfaaGreatDoorG51
import Derived.Test.YtifapidjkelnfaaGreatDoorG02
import Derived.Test.YtifapidjkelnfaaGreatDoorG46
import Derived.Test.YtifapidjkelnfaaGreatDoorG44
import Derived.Test.YtifapidjkelnfaaGreatDoorG45
import Derived.Deep.RegionHeld
namespace Go.Proofs.YtifapidjkelnfaaGreatDoor
open Go.RowKit
set_option maxHeartbeats 2000000
set_option maxRecDepth 100000
theorem oZ {w : World} {S : Nat -> Prop} {l : List T} {v : Value} (h : LR w S l v) : LR w (fun _ => True) l v := h.mono (fun _ _ => trivial)
theorem oe (t : T) (sv : Value) (w : World) (hfit : Fits t) (ha : AT w t.subs sv) (hk : KW w) (htab : Lib.TabIs Tryz.prog w "strings.asciiSpace" .u8 Lib.asciiSpaceTab) (he : HasErr w) :
  Calls Tryz.prog 6 #[zq t sv] w fun e w' => e = .returned (.bool true) /\ Below w.heap.size w w' := by
 have N : Hid (∀ w',w.grownBy w' none -> Calls Tryz.prog 13 #[zq t sv] w' (Sy w' (.bool (vS t)))) := fun w' hg => dS t sv w' (ha.kept hg)
 have i : Hid (∀ w',w.grownBy w' none -> Calls Tryz.prog 14 #[zq t sv] w' (Sy w' (.bool (zh .module t)))) := fun w' hg => qY t sv w' (hk.kept hg) hfit (ha.kept hg)
 have O : Hid (∀ w',w.grownBy w' none -> vS t = false -> Calls Tryz.prog 19 #[zq t sv] w' fun e s => w'.grownBy s none /\ ((zh .module t = false /\ e = .returned (.tuple #[ja,.iface 25 (.int .i64 10)])) \/ (zh .module t = true /\ ∃ sv',e = .returned (.tuple #[zq (yh t) sv',.nilIface]) /\ LR s (fun k => w'.heap.size <= k) (yh t).subs sv'))) := fun w' hg h1 => oT t sv w' hfit (ha.kept hg) (xZ h1).1 (va htab (xQ hg))
 have Q : Hid (∀ w',w.grownBy w' none -> vS t = false -> zh .module t = true -> Calls Tryz.prog 21 #[zq t sv] w' (NL w' (fun b => w'.heap.size <= b) (yh t))) := fun w' hg h1 h2 => qO t (gE (xf.1 h2)) (xZ h1).1 w' sv (ha.kept hg)
 have R : Hid (∀ w',w.grownBy w' none -> HasErr w') := fun w' hg => he.grown hg (fun k h => by cases h)
 obtain ⟨a,n,c,rfl,_,_,hl⟩ := ha.any; obtain ⟨y,x,m,p,l⟩ := t; have B0 : Hid (Box (w.alloc (.cells #[.int .i64 y,.string ⟨x.toArray⟩,.int .i64 m,.int .i64 p,.slice a n c] 24)) w.heap.size (.mk y x m p l) (.slice a n c)) := Box.new w (.mk y x m p l) (.slice a n c) 24; clear hfit ha hk htab he hl
 generalize HE : yh (.mk y x m p l) = X at *
 clear HE; obtain ⟨U,V,Y,Z,z⟩ := X
 go_enter Tryz.func6,Tryz.ntmps6
 go_wp2_with fail; go_at_call 13; refine (N _ gan).mono ?_; rintro e w1 ⟨rfl,u⟩; have E := za gan u; have B1 := B0.kept u; obtain ⟨b0,b1,b2,b3,b4⟩ := id B1; clear u; cases r : vS (.mk y x m p l)
 case true =>
  go_wp2
  go_ret
  exact ⟨rfl,xQ E⟩
 case false =>
 go_wp2_with fail; go_at_call 19; refine (O _ E r).mono ?_; rintro e s ⟨hg2,⟨d,B⟩ | ⟨d,sx,rfl,lx⟩⟩
 ·unfold ja at B
  subst B; have C := za E hg2; have F := B1.kept hg2; obtain ⟨G,c1,c2,c3,c4⟩ := id F; have cl := zc G; have a0 := hg2.size; clear hg2 b0 b1 b2 b3 b4; rw [d] at i; go_wp2_with fail; go_at_call 14; refine (i _ (zf C _)).mono ?_; rintro e w3 ⟨rfl,f⟩; have H := za (zf C _) f; have A := zb ((NB.new' (b := s.heap.size) (by simp)).kept f (by simp)); clear f; obtain ⟨n0,n1,n2,n3,n4,nz⟩ := id A; have nl := A.lt; go_wp2_with fail; go_at_call 18; refine (jz 10 _).mono ?_; rintro e w4 ⟨rfl,g⟩; have I := za H g; have J := A.kept (za grn g) (by simp); clear g; go_wp2_with fail; go_at_call 17; refine (hH 10 _ (R _ I)).mono ?_; rintro e w5 ⟨rfl,v⟩; have G5 := za I (uF v); have K := J.kept (za grn (uF v)) (by simp); clear v n0 n1 n2 n3 n4 nz; obtain ⟨n0,n1,n2,n3,n4,nz⟩ := id K; have a1 := K.lt; go_wp2_with fail; go_at_call 20; refine (kf (.mk 0 [] 0 0 []) _ (.slice none 0 0) (.slice none 0 0) (LR.nil _ _) (LR.nil _ _)).mono ?_; rintro e w6 ⟨rfl,D⟩; have G6 := za G5 D; clear D; go_wp2
  go_ret
  exact ⟨rfl,xQ G6⟩
 ·obtain ⟨L,M,rfl⟩ := lx.form
  have C := za E hg2; have F := B1.kept hg2; have L2 : Hid (LR s (fun _ => True) z (.slice L z.length M)) := oZ lx; obtain ⟨G,c1,c2,c3,c4⟩ := id F; have cl := zc G; clear hg2 b0 b1 b2 b3 b4 lx; rw [d] at i; go_wp2_with fail; go_at_call 14; refine (i _ (zf C _)).mono ?_; rintro e w3 ⟨rfl,f⟩; have H := za (zf C _) f; have A : Hid (NB w3 s.heap.size (.int .i64 U) (.string ⟨V.toArray⟩) (.int .i64 Y) (.int .i64 Z) (.slice L z.length M)) := (NB.new' (by simp)).kept f (by simp); have B3 := F.kept (za gan f); have L3 := L2.kept (za gan f) (fun _ hk => by cases hk); clear f G c1 c2 c3 c4; go_wp2_with fail; refine wp_region_held_drew (S := (fun w' => NB w' s.heap.size (.int .i64 U) (.string ⟨V.toArray⟩) (.int .i64 Y) (.int .i64 Z) (.slice L z.length M) /\ Box w' w.heap.size (.mk y x m p l) (.slice a n c))) (by kernel_rfl) ?_ (fun hHeld => ?_)
  ·exact ⟨A.drew,B3.kept (ze grn)⟩
  refine tQ 0 ?_; refine tQ 1 ?_; refine tQ 2 ?_; refine tQ 3 ?_; refine tQ 4 ?_; refine rd 5 rfl fun KK hKK => ?_
  go_simp
  go_at_call 21; refine (Q _ (ze H) r d).mono ?_; rintro e w4 ⟨sy,rfl,ly,g⟩; have I := za (ze H) g; have J := A.kept (za (ze grn) g) (by simp); have B4 := B3.kept (za (ze grn) g); have L4 := L3.kept (za (ze grn) g) (fun _ hk => by cases hk); have M4 := zb (oZ ly); clear ly g
  go_simp
  refine hKK _ _ ⟨J,B4⟩ fun hHeld => ?_
  clear hKK KK; refine rd 6 rfl fun KK hKK => ?_
  go_simp
  go_at_call 20; refine (kf (.mk U V Y Z z) _ (.slice L z.length M) sy L4 M4).mono ?_; rintro e w5 ⟨rfl,j⟩; have G5 := za I j; have K := J.kept j (by simp); have B5 := B4.kept j; clear j
  go_simp
  refine hKK _ _ ⟨K,B5⟩ fun hHeld => ?_
  clear hKK KK; refine tQ 7 ?_; refine tQ 8 ?_; refine wpAnyH_done (by kernel_rfl) ?_ _; clear hHeld; go_wp2
  go_ret
  exact ⟨rfl,xQ G5⟩
end Go.Proofs.YtifapidjkelnfaaGreatDoor
