/- The law PrintSays: its one call answers true, whatever the tree, and memory that was there stays as it was. -/
import Derived.Test.YtapfecciakijhaaGreatDoorG28
import Derived.Test.YtapfecciakijhaaGreatDoorG45
import Derived.Test.YtapfecciakijhaaGreatDoorG47
import Derived.Test.YtapfecciakijhaaGreatDoorG04
import Derived.Test.YtapfecciakijhaaGreatDoorG50
namespace Go.Proofs.YtapfecciakijhaaGreatDoor
open Go.RowKit
set_option maxHeartbeats 2000000
set_option maxRecDepth 100000

theorem gb_below {w w' : World} (hg : w.grownBy w' none) : Below w.heap.size w w' := ⟨hg.os, hg.tape, hg.output, hg.size, fun i hi => hg.block i hi (by simp)⟩
theorem below_gb {w w' : World} (hb : Below w.heap.size w w') : w.grownBy w' none := ⟨hb.os, hb.tape, hb.output, hb.size, fun i hi _ => hb.block i hi⟩
theorem rerr_any (n : Int) (w : World) : Calls Tryz.prog 10 #[.int .i64 n] w (Sy w (.agg #[.int .i64 n, .int .i64 (-1), .int .i64 (-1)])) := by
  go_enter Tryz.func10, Tryz.ntmps10
  go_wp2; refine bodyPost_ret (v := .agg #[.int .i64 n, .int .i64 (-1), .int .i64 (-1)]) (by simp [results, Tryz.results10, go_sem]) rfl ⟨rfl, (by exact gb_alloc (gb_refl w none) _)⟩
theorem huge_small {t : T} (h : hugeB t = false) : countT t ≤ 3000 ∧ depthT t ≤ 60 := by
  unfold hugeB at h
  rw [decide_eq_false_iff_not] at h
  omega

theorem qsays_any (t : T) (sv : Value) (w : World) (hfit : Fits t) (ha : AT w t.subs sv) (hk : KW w) (htab : Lib.TabIs Tryz.prog w "strings.asciiSpace" .u8 Lib.asciiSpaceTab) (hp : PT w) (he : HasErr w) :
    Calls Tryz.prog 3 #[nodeV t sv] w fun e w' => e = .returned (.bool true) ∧ Below w.heap.size w w' := by
  have HUG : Hid (∀ w', w.grownBy w' none → Calls Tryz.prog 5 #[nodeV t sv] w' (Sy w' (.bool (hugeB t)))) := fun w' hg => huge_any t sv w' (ha.kept hg)
  have HSH : Hid (∀ w', w.grownBy w' none → Calls Tryz.prog 6 #[nodeV t sv] w' (Sy w' (.bool (wellB .module t)))) := fun w' hg => shaped_any t sv w' (hk.kept hg) hfit (ha.kept hg)
  have HPR : Hid (∀ w', w.grownBy w' none → hugeB t = false → wellB .module t = true → Calls Tryz.prog 7 #[nodeV t sv] w' (Sy w' (.string ⟨(moduleTx 60 t).toArray⟩))) := fun w' hg h1 h2 => printed_any 60 (by omega) (wellB_true.1 h2) (huge_small h1).2 (huge_small h1).1 w' sv (ha.kept hg)
  have HML : Hid (hugeB t = false → wellB .module t = true → (moduleTx 60 t).length ≤ 9000000) := fun h1 h2 => by have := module_len 60 (by omega) (wellB_true.1 h2); have := (huge_small h1).1; omega
  have HTX : Hid (∀ w', w.grownBy w' none → hugeB t = false → Calls Tryz.prog 8 #[nodeV t sv] w' (Sy w' (textV t 60))) := fun w' hg h1 => text_any t sv w' 60 (by omega) hfit (ha.kept hg) (huge_small h1).1 (huge_small h1).2 (tab_below htab (gb_below hg)) (hp.kept hg) (fun h2 => by have := HML.out h1 h2; omega)
  have HER : Hid (∀ w', w.grownBy w' none → HasErr w') := fun w' hg => he.grown hg (fun k h => by cases h)
  obtain ⟨kd,x,m,p,l⟩ := t; obtain ⟨a,n,c,rfl,_,_,_⟩ := ha.any; have B0 : Hid (Box (w.alloc (.cells #[.int .i64 kd, .string ⟨x.toArray⟩, .int .i64 m, .int .i64 p, .slice a n c] 24)) w.heap.size (.mk kd x m p l) (.slice a n c)) := Box.new w (.mk kd x m p l) (.slice a n c) 24; clear hfit ha hk htab hp he
  go_enter Tryz.func3, Tryz.ntmps3
  go_wp2_with fail; go_at_call 5; refine (HUG.out _ (by exact gb_alloc (gb_refl w none) _)).mono ?_; rintro e w1 ⟨rfl, hg1⟩; have G1 := hide (gb_trans (by exact gb_alloc (gb_refl w none) _) hg1); have B1 := hide (B0.out.kept hg1); obtain ⟨b0,b1,b2,b3,b4⟩ := B1.out; clear hg1; cases hhug : hugeB (.mk kd x m p l)
  case true =>
    go_wp2
    go_ret
    exact ⟨rfl, gb_below G1.out⟩
  case false =>
  go_wp2_with fail; go_at_call 6; refine (HSH.out _ G1.out).mono ?_; rintro e w2 ⟨rfl, hg2⟩; have G2 := hide (gb_trans G1.out hg2); have B2 := hide (B1.out.kept (gb_trans (gb_refl w1 none) hg2)); obtain ⟨c0,c1,c2,c3,c4⟩ := B2.out; clear hg2 b0 b1 b2 b3 b4; cases hwell : wellB .module (.mk kd x m p l)
  case false =>
    have hv : textV (.mk kd x m p l) 60 = .tuple #[.string ⟨#[]⟩, errV 10] := by unfold textV; rw [if_neg (by rw [hwell]; simp)]
    go_wp2_with fail; go_at_call 8; refine (HTX.out _ G2.out hhug).mono ?_; rintro e w3 ⟨he3, hg3⟩; rw [hv] at he3; subst he3; have G3 := hide (gb_trans G2.out hg3); clear hg3; go_wp2_with fail; go_at_call 10; refine (rerr_any 10 _).mono ?_; rintro e w4 ⟨rfl, hg4⟩; have G4 := hide (gb_trans G3.out hg4); clear hg4; go_wp2_with fail; go_at_call 9; refine (is_errno 10 _ (HER.out _ G4.out)).mono ?_; rintro e w5 ⟨rfl, hb5⟩; have G5 := hide (gb_trans G4.out (below_gb hb5)); clear hb5; go_wp2
    go_ret
    exact ⟨rfl, gb_below G5.out⟩
  case true =>
  have hML := HML.out hhug hwell; go_wp2_with fail; go_at_call 7; refine (HPR.out _ G2.out hhug hwell).mono ?_; rintro e w3 ⟨rfl, hg3⟩; have G3 := hide (gb_trans G2.out hg3); have B3 := hide (B2.out.kept (gb_trans (gb_refl w2 none) hg3)); obtain ⟨b0,b1,b2,b3,b4⟩ := B3.out; clear hg3 c0 c1 c2 c3 c4
  by_cases h4 : 4000 < (moduleTx 60 (.mk kd x m p l)).length
  · have hv : textV (.mk kd x m p l) 60 = .tuple #[.string ⟨#[]⟩, errV 3] := by unfold textV; rw [if_pos hwell, if_pos h4]
    generalize moduleTx 60 (.mk kd x m p l) = Y at *
    have h4' : (4000 : Int) < (Y.length : Int) := by omega
    go_wp2_with fail; go_at_call 8; refine (HTX.out _ G3.out hhug).mono ?_; rintro e w4 ⟨he4, hg4⟩; rw [hv] at he4; subst he4; have G4 := hide (gb_trans G3.out hg4); clear hg4; go_wp2_with fail; go_at_call 10; refine (rerr_any 3 _).mono ?_; rintro e w5 ⟨rfl, hg5⟩; have G5 := hide (gb_trans G4.out hg5); clear hg5; go_wp2_with fail; go_at_call 9; refine (is_errno 3 _ (HER.out _ G5.out)).mono ?_; rintro e w6 ⟨rfl, hb6⟩; have G6 := hide (gb_trans G5.out (below_gb hb6)); clear hb6; go_wp2
    go_ret
    exact ⟨rfl, gb_below G6.out⟩
  · have hv : textV (.mk kd x m p l) 60 = .tuple #[.string ⟨(moduleTx 60 (.mk kd x m p l)).toArray⟩, .nilIface] := by unfold textV; rw [if_pos hwell, if_neg h4]
    generalize moduleTx 60 (.mk kd x m p l) = Y at *
    have h4' : ¬ (4000 : Int) < (Y.length : Int) := by omega
    go_wp2_with fail; go_at_call 8; refine (HTX.out _ G3.out hhug).mono ?_; rintro e w4 ⟨he4, hg4⟩; rw [hv] at he4; subst he4; have G4 := hide (gb_trans G3.out hg4); clear hg4; go_wp2_with fail; go_at_call 10; refine (rerr_any 0 _).mono ?_; rintro e w5 ⟨rfl, hg5⟩; have G5 := hide (gb_trans G4.out hg5); clear hg5; go_wp2_with fail; go_at_call 9; refine (is_nil _).mono ?_; rintro e w6 ⟨rfl, hb6⟩; have G6 := hide (gb_trans G5.out (below_gb hb6)); clear hb6; go_wp2
    go_ret
    exact ⟨rfl, gb_below G6.out⟩
end Go.Proofs.YtapfecciakijhaaGreatDoor
