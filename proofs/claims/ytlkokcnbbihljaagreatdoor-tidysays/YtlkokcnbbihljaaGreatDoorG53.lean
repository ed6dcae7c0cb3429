/- The law TidySays: its one call answers true, whatever the tree, and memory that was there stays as it was. -/
import Derived.Test.YtlkokcnbbihljaaGreatDoorG38
import Derived.Test.YtlkokcnbbihljaaGreatDoorG41
import Derived.Test.YtlkokcnbbihljaaGreatDoorG42
import Derived.Test.YtlkokcnbbihljaaGreatDoorG52
import Derived.Deep.RegionHeld
namespace Go.Proofs.YtlkokcnbbihljaaGreatDoor
open Go.RowKit

theorem gb_below {w w' : World} (hg : w.grownBy w' none) : Below w.heap.size w w' := ⟨hg.os, hg.tape, hg.output, hg.size, fun i hi => hg.block i hi (by simp)⟩
theorem below_gb {w w' : World} (hb : Below w.heap.size w w') : w.grownBy w' none := ⟨hb.os, hb.tape, hb.output, hb.size, fun i hi _ => hb.block i hi⟩
theorem rerr_any (n : Int) (w : World) : Calls Tryz.prog 10 #[.int .i64 n] w (Sy w (.agg #[.int .i64 n, .int .i64 (-1), .int .i64 (-1)])) := by
  go_enter Tryz.func10, Tryz.ntmps10
  go_wp2
  refine bodyPost_ret (v := .agg #[.int .i64 n, .int .i64 (-1), .int .i64 (-1)]) (by simp [results, Tryz.results10, go_sem]) rfl ⟨rfl, (by repeat (first | with_reducible exact gb_refl w none | with_reducible refine gb_put ?_ (by omega) _ _ | with_reducible refine gb_alloc ?_ _ | with_reducible refine gb_drewN ?_ _ | with_reducible refine gb_drew ?_))⟩
theorem huge_small {t : T} (h : hugeB t = false) : countT t ≤ 3000 ∧ depthT t ≤ 60 := by
  unfold hugeB at h
  rw [decide_eq_false_iff_not] at h
  omega
theorem lr_all {w : World} {S : Nat → Prop} {l : List T} {v : Value} (h : LR w S l v) : LR w (fun _ => True) l v := h.mono (fun _ _ => trivial)
set_option maxRecDepth 100000 in
set_option maxHeartbeats 2000000 in
theorem tsays_any (t : T) (sv : Value) (w : World) (hfit : Fits t) (ha : AT w t.subs sv) (hk : KW w) (htab : Lib.TabIs Tryz.prog w "strings.asciiSpace" .u8 Lib.asciiSpaceTab) (he : HasErr w) :
    Calls Tryz.prog 4 #[nodeV t sv] w fun e w' => e = .returned (.bool true) ∧ Below w.heap.size w w' := by
  have HUG : Hid (∀ w', w.grownBy w' none → Calls Tryz.prog 5 #[nodeV t sv] w' (Sy w' (.bool (hugeB t)))) := fun w' hg => huge_any t sv w' (ha.kept hg)
  have HSH : Hid (∀ w', w.grownBy w' none → Calls Tryz.prog 6 #[nodeV t sv] w' (Sy w' (.bool (wellB .module t)))) := fun w' hg => shaped_any t sv w' (hk.kept hg) hfit (ha.kept hg)
  have HFD : Hid (∀ w', w.grownBy w' none → hugeB t = false → Calls Tryz.prog 11 #[nodeV t sv] w' fun e w2 => w'.grownBy w2 none ∧ ((wellB .module t = false ∧ e = .returned (.tuple #[zeroN, .iface 26 (.int .i64 10)])) ∨ (wellB .module t = true ∧ ∃ sv', e = .returned (.tuple #[nodeV (foldT t) sv', .nilIface]) ∧ LR w2 (fun k => w'.heap.size ≤ k) (foldT t).subs sv'))) := fun w' hg h1 => fold_any t sv w' hfit (ha.kept hg) (huge_small h1).1 (tab_below htab (gb_below hg))
  have HRF : Hid (∀ w', w.grownBy w' none → hugeB t = false → wellB .module t = true → Calls Tryz.prog 13 #[nodeV t sv] w' (NL w' (fun b => w'.heap.size ≤ b) (foldT t))) := fun w' hg h1 h2 => folded_any t (gt_module (wellB_true.1 h2)) (huge_small h1).1 w' sv (ha.kept hg)
  have HER : Hid (∀ w', w.grownBy w' none → HasErr w') := fun w' hg => he.grown hg (fun k h => by cases h)
  obtain ⟨a, n, c, rfl, hn, hc, hl⟩ := ha.any
  obtain ⟨kd, x, m, p, l⟩ := t
  have B0 : Hid (Box (w.alloc (.cells #[.int .i64 kd, .string ⟨x.toArray⟩, .int .i64 m, .int .i64 p, .slice a n c] 24)) w.heap.size (.mk kd x m p l) (.slice a n c)) := Box.new w (.mk kd x m p l) (.slice a n c) 24
  clear hfit ha hk htab he hl
  generalize HE : foldT (.mk kd x m p l) = X at *
  clear HE
  obtain ⟨kr, xr, mr, pr, lr⟩ := X
  go_enter Tryz.func4, Tryz.ntmps4
  go_wp2_with fail
  go_at_call 5
  refine (HUG.out _ (by repeat (first | with_reducible exact gb_refl w none | with_reducible refine gb_put ?_ (by omega) _ _ | with_reducible refine gb_alloc ?_ _ | with_reducible refine gb_drewN ?_ _ | with_reducible refine gb_drew ?_))).mono ?_
  rintro e w1 ⟨rfl, hg1⟩
  have G1 : Hid (w.grownBy w1 none) := gb_trans (by repeat (first | with_reducible exact gb_refl w none | with_reducible refine gb_put ?_ (by omega) _ _ | with_reducible refine gb_alloc ?_ _ | with_reducible refine gb_drewN ?_ _ | with_reducible refine gb_drew ?_)) hg1
  have B1 := hide (B0.out.kept hg1)
  obtain ⟨b0, b1, b2, b3, b4⟩ := B1.out
  clear hg1
  cases hhug : hugeB (.mk kd x m p l)
  case true =>
    go_wp2
    go_ret
    exact ⟨rfl, gb_below G1.out⟩
  case false =>
  go_wp2_with fail
  go_at_call 11
  refine (HFD.out _ (by repeat (first | with_reducible exact G1.out | with_reducible refine gb_put ?_ (by omega) _ _ | with_reducible refine gb_alloc ?_ _ | with_reducible refine gb_drewN ?_ _ | with_reducible refine gb_drew ?_)) hhug).mono ?_
  rintro e w2 ⟨hg2, ⟨hwell, he2⟩ | ⟨hwell, sx, rfl, lx⟩⟩
  · unfold zeroN at he2
    subst he2
    have G2 : Hid (w.grownBy w2 none) := gb_trans (by repeat (first | with_reducible exact G1.out | with_reducible refine gb_put ?_ (by omega) _ _ | with_reducible refine gb_alloc ?_ _ | with_reducible refine gb_drewN ?_ _ | with_reducible refine gb_drew ?_)) hg2
    have B2 := hide (B1.out.kept hg2)
    obtain ⟨c0, c1, c2, c3, c4⟩ := B2.out
    have cl := block_lt c0
    have hg2' := hg2.size
    clear hg2 b0 b1 b2 b3 b4
    rw [hwell] at HSH
    go_wp2_with fail
    go_at_call 6
    refine (HSH.out _ (by repeat (first | with_reducible exact G2.out | with_reducible refine gb_put ?_ (by omega) _ _ | with_reducible refine gb_alloc ?_ _ | with_reducible refine gb_drewN ?_ _ | with_reducible refine gb_drew ?_))).mono ?_
    rintro e w3 ⟨rfl, hg3⟩
    have G3 : Hid (w.grownBy w3 none) := gb_trans (by repeat (first | with_reducible exact G2.out | with_reducible refine gb_put ?_ (by omega) _ _ | with_reducible refine gb_alloc ?_ _ | with_reducible refine gb_drewN ?_ _ | with_reducible refine gb_drew ?_)) hg3
    have N3 := hide ((NB.new' (b := w2.heap.size) (by simp)).kept hg3 (by simp))
    clear hg3
    obtain ⟨n0, n1, n2, n3, n4, nz⟩ := N3.out
    have nl := N3.out.lt
    go_wp2_with fail
    go_at_call 10
    refine (rerr_any 10 _).mono ?_
    rintro e w4 ⟨rfl, hg4⟩
    have G4 : Hid (w.grownBy w4 none) := gb_trans (by repeat (first | with_reducible exact G3.out | with_reducible refine gb_put ?_ (by omega) _ _ | with_reducible refine gb_alloc ?_ _ | with_reducible refine gb_drewN ?_ _ | with_reducible refine gb_drew ?_)) hg4
    have N4 := hide (N3.out.kept (gb_trans (by repeat (first | with_reducible exact gb_refl w3 none | with_reducible refine gb_put ?_ (by omega) _ _ | with_reducible refine gb_alloc ?_ _ | with_reducible refine gb_drewN ?_ _ | with_reducible refine gb_drew ?_)) hg4) (by simp))
    clear hg4
    go_wp2_with fail
    go_at_call 9
    refine (is_errno 10 _ (HER.out _ (by repeat (first | with_reducible exact G4.out | with_reducible refine gb_put ?_ (by omega) _ _ | with_reducible refine gb_alloc ?_ _ | with_reducible refine gb_drewN ?_ _ | with_reducible refine gb_drew ?_)))).mono ?_
    rintro e w5 ⟨rfl, hb5⟩
    have G5 : Hid (w.grownBy w5 none) := gb_trans (by repeat (first | with_reducible exact G4.out | with_reducible refine gb_put ?_ (by omega) _ _ | with_reducible refine gb_alloc ?_ _ | with_reducible refine gb_drewN ?_ _ | with_reducible refine gb_drew ?_)) (below_gb hb5)
    have N5 := hide (N4.out.kept (gb_trans (by repeat (first | with_reducible exact gb_refl w4 none | with_reducible refine gb_put ?_ (by omega) _ _ | with_reducible refine gb_alloc ?_ _ | with_reducible refine gb_drewN ?_ _ | with_reducible refine gb_drew ?_)) (below_gb hb5)) (by simp))
    clear hb5 n0 n1 n2 n3 n4 nz
    obtain ⟨n0, n1, n2, n3, n4, nz⟩ := N5.out
    have nl5 := N5.out.lt
    go_wp2_with fail
    go_at_call 12
    refine (equal_any (.mk 0 [] 0 0 []) _ (.slice none 0 0) (.slice none 0 0) (LR.nil _ _) (LR.nil _ _)).mono ?_
    rintro e w6 ⟨rfl, hg6⟩
    have G6 : Hid (w.grownBy w6 none) := gb_trans (by repeat (first | with_reducible exact G5.out | with_reducible refine gb_put ?_ (by omega) _ _ | with_reducible refine gb_alloc ?_ _ | with_reducible refine gb_drewN ?_ _ | with_reducible refine gb_drew ?_)) hg6
    clear hg6
    go_wp2
    go_ret
    exact ⟨rfl, gb_below G6.out⟩
  · obtain ⟨ax, cx, rfl⟩ := lx.form
    have G2 : Hid (w.grownBy w2 none) := gb_trans (by repeat (first | with_reducible exact G1.out | with_reducible refine gb_put ?_ (by omega) _ _ | with_reducible refine gb_alloc ?_ _ | with_reducible refine gb_drewN ?_ _ | with_reducible refine gb_drew ?_)) hg2
    have B2 := hide (B1.out.kept hg2)
    have L2 : Hid (LR w2 (fun _ => True) lr (.slice ax lr.length cx)) := lr_all lx
    obtain ⟨c0, c1, c2, c3, c4⟩ := B2.out
    have cl := block_lt c0
    clear hg2 b0 b1 b2 b3 b4 lx
    rw [hwell] at HSH
    go_wp2_with fail
    go_at_call 6
    refine (HSH.out _ (by repeat (first | with_reducible exact G2.out | with_reducible refine gb_put ?_ (by omega) _ _ | with_reducible refine gb_alloc ?_ _ | with_reducible refine gb_drewN ?_ _ | with_reducible refine gb_drew ?_))).mono ?_
    rintro e w3 ⟨rfl, hg3⟩
    have G3 : Hid (w.grownBy w3 none) := gb_trans (by repeat (first | with_reducible exact G2.out | with_reducible refine gb_put ?_ (by omega) _ _ | with_reducible refine gb_alloc ?_ _ | with_reducible refine gb_drewN ?_ _ | with_reducible refine gb_drew ?_)) hg3
    have N3 : Hid (NB w3 w2.heap.size (.int .i64 kr) (.string ⟨xr.toArray⟩) (.int .i64 mr) (.int .i64 pr) (.slice ax lr.length cx)) := (NB.new' (by simp)).kept hg3 (by simp)
    have B3 := hide (B2.out.kept (gb_trans (by repeat (first | with_reducible exact gb_refl w2 none | with_reducible refine gb_put ?_ (by omega) _ _ | with_reducible refine gb_alloc ?_ _ | with_reducible refine gb_drewN ?_ _ | with_reducible refine gb_drew ?_)) hg3))
    have L3 := hide (L2.out.kept (gb_trans (by repeat (first | with_reducible exact gb_refl w2 none | with_reducible refine gb_put ?_ (by omega) _ _ | with_reducible refine gb_alloc ?_ _ | with_reducible refine gb_drewN ?_ _ | with_reducible refine gb_drew ?_)) hg3) (fun _ hk => by cases hk))
    clear hg3 c0 c1 c2 c3 c4
    go_wp2_with fail
    refine wp_region_held_drew (S := (fun w' => NB w' w2.heap.size (.int .i64 kr) (.string ⟨xr.toArray⟩) (.int .i64 mr) (.int .i64 pr) (.slice ax lr.length cx) ∧ Box w' w.heap.size (.mk kd x m p l) (.slice a n c))) (by kernel_rfl) ?_ (fun hHeld => ?_)
    · exact ⟨N3.out.drew, B3.out.kept (gb_drew (gb_refl _ none))⟩
    refine wpAnyH_take (i := 0) (v := .nilIface) rfl (by kernel_rfl) (by kernel_rfl) (by kernel_rfl) (fun _ _ _ h => h) (Or.inl ⟨by kernel_rfl, fun w9 _ => by go_simp⟩) hHeld ?_
    simp only [Act.put, List.setIfInBounds_toArray]
    refine wpAnyH_take (i := 1) (v := .bool true) rfl (by kernel_rfl) (by kernel_rfl) (by kernel_rfl) (fun _ _ _ h => h) (Or.inl ⟨by kernel_rfl, fun w9 _ => by go_simp⟩) hHeld ?_
    simp only [Act.put]
    refine wpAnyH_take (i := 2) (v := .bool true) rfl (by kernel_rfl) (by kernel_rfl) (by kernel_rfl) (fun _ _ _ h => h) (Or.inl ⟨by kernel_rfl, fun w9 _ => by go_simp⟩) hHeld ?_
    simp only [Act.put]
    refine wpAnyH_take (i := 3) (v := .agg #[.int .i64 kr, .string ⟨xr.toArray⟩, .int .i64 mr, .int .i64 pr, .slice ax lr.length cx]) rfl (by kernel_rfl) (by kernel_rfl) (by kernel_rfl) (fun _ _ _ h => h) (Or.inl ⟨by kernel_rfl, by intro w9 hSw; obtain ⟨⟨y0, y1, y2, y3, y4, _⟩, ⟨z0, z1, z2, z3, z4⟩⟩ := hSw; go_simp⟩) hHeld ?_
    simp only [Act.put]
    refine wpAnyH_take (i := 4) (v := nodeV (.mk kd x m p l) (.slice a n c)) rfl (by kernel_rfl) (by kernel_rfl) (by kernel_rfl) (fun _ _ _ h => h) (Or.inl ⟨by kernel_rfl, by intro w9 hSw; obtain ⟨⟨y0, y1, y2, y3, y4, _⟩, ⟨z0, z1, z2, z3, z4⟩⟩ := hSw; go_simp⟩) hHeld ?_
    simp only [Act.put]
    refine wpAnyH_ready (rs := [5]) (by kernel_rfl) (by simp) ?_
    refine AllReadyH.cons rfl (fun KK hKK => ?_) AllReadyH.nil
    go_simp
    go_at_call 13
    refine (HRF.out _ (by repeat (first | with_reducible exact G3.out | with_reducible refine gb_put ?_ (by omega) _ _ | with_reducible refine gb_alloc ?_ _ | with_reducible refine gb_drewN ?_ _ | with_reducible refine gb_drew ?_)) hhug hwell).mono ?_
    rintro e w4 ⟨sy, rfl, ly, hg4⟩
    have G4 : Hid (w.grownBy w4 none) := gb_trans (by repeat (first | with_reducible exact G3.out | with_reducible refine gb_put ?_ (by omega) _ _ | with_reducible refine gb_alloc ?_ _ | with_reducible refine gb_drewN ?_ _ | with_reducible refine gb_drew ?_)) hg4
    have N4 := hide (N3.out.kept (gb_trans (by repeat (first | with_reducible exact gb_refl w3 none | with_reducible refine gb_put ?_ (by omega) _ _ | with_reducible refine gb_alloc ?_ _ | with_reducible refine gb_drewN ?_ _ | with_reducible refine gb_drew ?_)) hg4) (by simp))
    have B4 := hide (B3.out.kept (gb_trans (by repeat (first | with_reducible exact gb_refl w3 none | with_reducible refine gb_put ?_ (by omega) _ _ | with_reducible refine gb_alloc ?_ _ | with_reducible refine gb_drewN ?_ _ | with_reducible refine gb_drew ?_)) hg4))
    have L4 := hide (L3.out.kept (gb_trans (by repeat (first | with_reducible exact gb_refl w3 none | with_reducible refine gb_put ?_ (by omega) _ _ | with_reducible refine gb_alloc ?_ _ | with_reducible refine gb_drewN ?_ _ | with_reducible refine gb_drew ?_)) hg4) (fun _ hk => by cases hk))
    have M4 := hide (lr_all ly)
    clear ly hg4
    go_simp
    refine hKK.out _ _ ?_ (fun hHeld => ?_)
    · exact ⟨N4.out, B4.out⟩
    clear hKK KK
    refine wpAnyH_ready (rs := [6]) (by kernel_rfl) (by simp) ?_
    refine AllReadyH.cons rfl (fun KK hKK => ?_) AllReadyH.nil
    go_simp
    go_at_call 12
    refine (equal_any (.mk kr xr mr pr lr) _ (.slice ax lr.length cx) sy L4.out M4.out).mono ?_
    rintro e w5 ⟨rfl, hg5⟩
    have G5 : Hid (w.grownBy w5 none) := gb_trans (by repeat (first | with_reducible exact G4.out | with_reducible refine gb_put ?_ (by omega) _ _ | with_reducible refine gb_alloc ?_ _ | with_reducible refine gb_drewN ?_ _ | with_reducible refine gb_drew ?_)) hg5
    have N5 := hide (N4.out.kept hg5 (by simp))
    have B5 := hide (B4.out.kept hg5)
    clear hg5
    go_simp
    refine hKK.out _ _ ?_ (fun hHeld => ?_)
    · exact ⟨N5.out, B5.out⟩
    clear hKK KK
    refine wpAnyH_ready (rs := [7]) (by kernel_rfl) (by simp) ?_
    refine AllReadyH.cons rfl (fun KK hKK => ?_) AllReadyH.nil
    go_simp
    refine hKK.out _ _ ?_ (fun hHeld => ?_)
    · exact hHeld
    clear hKK KK
    refine wpAnyH_ready (rs := [8]) (by kernel_rfl) (by simp) ?_
    refine AllReadyH.cons rfl (fun KK hKK => ?_) AllReadyH.nil
    go_simp
    refine hKK.out _ _ ?_ (fun hHeld => ?_)
    · exact hHeld
    clear hKK KK
    refine wpAnyH_done (by kernel_rfl) ?_ _
    clear hHeld
    go_wp2
    go_ret
    exact ⟨rfl, gb_below G5.out⟩
end Go.Proofs.YtlkokcnbbihljaaGreatDoor
