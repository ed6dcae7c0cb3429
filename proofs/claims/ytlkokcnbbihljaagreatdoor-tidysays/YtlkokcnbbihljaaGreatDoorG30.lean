/- What is put for an operator of two numbers: tidy.worked. -/
import Derived.Test.YtlkokcnbbihljaaGreatDoorG09
namespace Go.Proofs.YtlkokcnbbihljaaGreatDoor
open Go.RowKit

theorem nl_wide {w : World} {S S' : Nat → Prop} {t : T} {e : Ending} {w' : World} (h : NL w S t e w') (hs : ∀ k, S k → S' k) : NL w S' t e w' := by
  obtain ⟨sv, e1, l, g⟩ := h
  exact ⟨sv, e1, l.mono hs, g⟩
theorem lr_put5 {w : World} (b : Nat) {v0 v1 v2 v3 v4 : Value} : w.grownBy (((((w.setCell ⟨b, 0, none⟩ v0).setCell ⟨b, 1, none⟩ v1).setCell ⟨b, 2, none⟩ v2).setCell ⟨b, 3, none⟩ v3).setCell ⟨b, 4, none⟩ v4) (some b) := gb_set (gb_set (gb_set (gb_set (gb_set (gb_refl w (some b)) _ _) _ _) _ _) _ _) _ _
set_option maxRecDepth 100000 in
set_option maxHeartbeats 1000000 in
theorem worked_add (m p : Int) (l : List T) (sv : Value) (S : Nat → Prop) (u v : Int) (w : World) (ha : LR w S l sv) (hu : -2147483647 ≤ u ∧ u ≤ 2147483647) (hv : -2147483647 ≤ v ∧ v ≤ 2147483647) : Calls Tryz.prog 135 #[nodeV (.mk 36 [43] m p l) sv, .int .i32 u, .int .i32 v] w (NL w (fun k => S k ∨ w.heap.size ≤ k) (workT (.mk 36 [43] m p l) u v)) := by
  have HA := hide ha
  obtain ⟨sa, sc, rfl⟩ := ha.form
  clear ha
  change Calls Tryz.prog 135 #[.agg #[.int .i64 36, .string ⟨List.toArray [43]⟩, .int .i64 m, .int .i64 p, .slice sa l.length sc], .int .i32 u, .int .i32 v] w _
  have B0 : Hid (NB (w.alloc (.cells #[.int .i64 36, .string ⟨List.toArray [43]⟩, .int .i64 m, .int .i64 p, .slice sa l.length sc] 24)) w.heap.size (.int .i64 36) (.string ⟨List.toArray [43]⟩) (.int .i64 m) (.int .i64 p) (.slice sa l.length sc)) := NB.new _ _
  have R0 : Hid (RB ((w.alloc (.cells #[.int .i64 36, .string ⟨List.toArray [43]⟩, .int .i64 m, .int .i64 p, .slice sa l.length sc] 24)).alloc (.cells #[.int .i64 0, .string ⟨#[]⟩, .int .i64 0, .int .i64 0, .slice none 0 0] 24)) (w.heap.size + 1)) := RB.new' (by simp)
  have HZ : Hid (opZ (T.mk 36 [43] m p l).name u v = some (arZ (u + v))) := by show _ = _; simp [opZ, T.name]
  have HR := opZ_rng hu hv HZ.out
  have HE : Hid (workT (.mk 36 [43] m p l) u v = if arZ (u + v) = -2147483648 then .mk 36 [43] m p l else numT (arZ (u + v)) p) := by
    show _ = _
    unfold workT
    rw [if_neg (show ¬ levelOf (T.mk 36 [43] m p l).name = 0 by simp only [T.name]; decide), HZ.out]
    rfl
  rw [HE.out]
  have HC := fun w' => hide (operate_add u v w')
  generalize arZ (u + v) = z at *
  by_cases hz : z = -2147483648
  · rw [if_pos hz]
    have hz2 : (z == -2147483648) = true := by rw [hz]; rfl
    go_enter Tryz.func135, Tryz.ntmps135
    go_wp2_with fail
    go_at_call 143
    refine ((HC _).out).mono ?_
    rintro e w1 ⟨rfl, hg1⟩
    have G1 : Hid (w.grownBy w1 none) := gb_trans (by repeat (first | with_reducible exact gb_refl w none | with_reducible refine gb_put ?_ (by omega) _ _ | with_reducible refine gb_alloc ?_ _ | with_reducible refine gb_drewN ?_ _ | with_reducible refine gb_drew ?_)) hg1
    have B1 := hide ((B0.out.alloc _).kept hg1 (by simp))
    have R1 := hide (R0.out.kept hg1 (by simp))
    obtain ⟨b0, b1, b2, b3, b4, bz⟩ := B1.out
    obtain ⟨_, _, _, _, _, r0, r1, r2, r3, r4, rz⟩ := R1.out
    have bl := B1.out.lt
    have rl := R1.out.lt
    clear hg1
    go_wp2_with fail
    refine node_ret Tryz.results135 rfl (RB.five R1.out) rfl ?_
    exact nl_wide (nl_kept (x := [43]) HA.out (by repeat (first | with_reducible exact G1.out | with_reducible refine gb_put ?_ (by omega) _ _ | with_reducible refine gb_alloc ?_ _ | with_reducible refine gb_drewN ?_ _ | with_reducible refine gb_drew ?_))) (fun k hk => Or.inl hk)
  · rw [if_neg hz]
    have hz2 : (z == -2147483648) = false := by rw [beq_eq_false_iff_ne]; exact hz
    have HN := fun w' => hide (numberNode_any z p (by omega) (by omega) w')
    generalize numT z p = t at *
    obtain ⟨k2, x2, m2, p2, l2s⟩ := t
    go_enter Tryz.func135, Tryz.ntmps135
    go_wp2_with fail
    go_at_call 143
    refine ((HC _).out).mono ?_
    rintro e w1 ⟨rfl, hg1⟩
    have G1 : Hid (w.grownBy w1 none) := gb_trans (by repeat (first | with_reducible exact gb_refl w none | with_reducible refine gb_put ?_ (by omega) _ _ | with_reducible refine gb_alloc ?_ _ | with_reducible refine gb_drewN ?_ _ | with_reducible refine gb_drew ?_)) hg1
    have B1 := hide ((B0.out.alloc _).kept hg1 (by simp))
    have R1 := hide (R0.out.kept hg1 (by simp))
    obtain ⟨b0, b1, b2, b3, b4, bz⟩ := B1.out
    obtain ⟨_, _, _, _, _, r0, r1, r2, r3, r4, rz⟩ := R1.out
    have bl := B1.out.lt
    have rl := R1.out.lt
    clear hg1
    go_wp2_with fail
    go_at_call 144
    refine ((HN _).out).mono ?_
    rintro e w2 ⟨sv2, rfl, l2, hg2⟩
    have G2 : Hid (w.grownBy w2 none) := gb_trans G1.out hg2
    have R2 := hide (R1.out.kept hg2 (by simp))
    have L2 := hide l2
    clear r0 r1 r2 r3 r4 rz
    obtain ⟨_, _, _, _, _, r0, r1, r2, r3, r4, rz⟩ := R2.out
    have rl2 := R2.out.lt
    have hs2 := G1.out.size
    obtain ⟨sa2, sc2, rfl⟩ := l2.form
    clear hg2 l2
    go_wp2_with fail
    refine node_ret Tryz.results135 rfl (RB.five R2.out) rfl ?_
    refine ⟨_, rfl, ?_, (by repeat (first | with_reducible exact G2.out | with_reducible refine gb_put ?_ (by omega) _ _ | with_reducible refine gb_alloc ?_ _ | with_reducible refine gb_drewN ?_ _ | with_reducible refine gb_drew ?_))⟩
    exact ((L2.out.bounded).kept (lr_put5 (w.heap.size + 1)) (fun b hb hk => by cases hb; have := hk.1; omega)).mono (fun k hk => Or.inr (Nat.le_trans hs2 hk.1))
set_option maxRecDepth 100000 in
set_option maxHeartbeats 1000000 in
theorem worked_sub (m p : Int) (l : List T) (sv : Value) (S : Nat → Prop) (u v : Int) (w : World) (ha : LR w S l sv) (hu : -2147483647 ≤ u ∧ u ≤ 2147483647) (hv : -2147483647 ≤ v ∧ v ≤ 2147483647) : Calls Tryz.prog 135 #[nodeV (.mk 36 [45] m p l) sv, .int .i32 u, .int .i32 v] w (NL w (fun k => S k ∨ w.heap.size ≤ k) (workT (.mk 36 [45] m p l) u v)) := by
  have HA := hide ha
  obtain ⟨sa, sc, rfl⟩ := ha.form
  clear ha
  change Calls Tryz.prog 135 #[.agg #[.int .i64 36, .string ⟨List.toArray [45]⟩, .int .i64 m, .int .i64 p, .slice sa l.length sc], .int .i32 u, .int .i32 v] w _
  have B0 : Hid (NB (w.alloc (.cells #[.int .i64 36, .string ⟨List.toArray [45]⟩, .int .i64 m, .int .i64 p, .slice sa l.length sc] 24)) w.heap.size (.int .i64 36) (.string ⟨List.toArray [45]⟩) (.int .i64 m) (.int .i64 p) (.slice sa l.length sc)) := NB.new _ _
  have R0 : Hid (RB ((w.alloc (.cells #[.int .i64 36, .string ⟨List.toArray [45]⟩, .int .i64 m, .int .i64 p, .slice sa l.length sc] 24)).alloc (.cells #[.int .i64 0, .string ⟨#[]⟩, .int .i64 0, .int .i64 0, .slice none 0 0] 24)) (w.heap.size + 1)) := RB.new' (by simp)
  have HZ : Hid (opZ (T.mk 36 [45] m p l).name u v = some (arZ (u - v))) := by show _ = _; simp [opZ, T.name]
  have HR := opZ_rng hu hv HZ.out
  have HE : Hid (workT (.mk 36 [45] m p l) u v = if arZ (u - v) = -2147483648 then .mk 36 [45] m p l else numT (arZ (u - v)) p) := by
    show _ = _
    unfold workT
    rw [if_neg (show ¬ levelOf (T.mk 36 [45] m p l).name = 0 by simp only [T.name]; decide), HZ.out]
    rfl
  rw [HE.out]
  have HC := fun w' => hide (operate_sub u v w')
  generalize arZ (u - v) = z at *
  by_cases hz : z = -2147483648
  · rw [if_pos hz]
    have hz2 : (z == -2147483648) = true := by rw [hz]; rfl
    go_enter Tryz.func135, Tryz.ntmps135
    go_wp2_with fail
    go_at_call 143
    refine ((HC _).out).mono ?_
    rintro e w1 ⟨rfl, hg1⟩
    have G1 : Hid (w.grownBy w1 none) := gb_trans (by repeat (first | with_reducible exact gb_refl w none | with_reducible refine gb_put ?_ (by omega) _ _ | with_reducible refine gb_alloc ?_ _ | with_reducible refine gb_drewN ?_ _ | with_reducible refine gb_drew ?_)) hg1
    have B1 := hide ((B0.out.alloc _).kept hg1 (by simp))
    have R1 := hide (R0.out.kept hg1 (by simp))
    obtain ⟨b0, b1, b2, b3, b4, bz⟩ := B1.out
    obtain ⟨_, _, _, _, _, r0, r1, r2, r3, r4, rz⟩ := R1.out
    have bl := B1.out.lt
    have rl := R1.out.lt
    clear hg1
    go_wp2_with fail
    refine node_ret Tryz.results135 rfl (RB.five R1.out) rfl ?_
    exact nl_wide (nl_kept (x := [45]) HA.out (by repeat (first | with_reducible exact G1.out | with_reducible refine gb_put ?_ (by omega) _ _ | with_reducible refine gb_alloc ?_ _ | with_reducible refine gb_drewN ?_ _ | with_reducible refine gb_drew ?_))) (fun k hk => Or.inl hk)
  · rw [if_neg hz]
    have hz2 : (z == -2147483648) = false := by rw [beq_eq_false_iff_ne]; exact hz
    have HN := fun w' => hide (numberNode_any z p (by omega) (by omega) w')
    generalize numT z p = t at *
    obtain ⟨k2, x2, m2, p2, l2s⟩ := t
    go_enter Tryz.func135, Tryz.ntmps135
    go_wp2_with fail
    go_at_call 143
    refine ((HC _).out).mono ?_
    rintro e w1 ⟨rfl, hg1⟩
    have G1 : Hid (w.grownBy w1 none) := gb_trans (by repeat (first | with_reducible exact gb_refl w none | with_reducible refine gb_put ?_ (by omega) _ _ | with_reducible refine gb_alloc ?_ _ | with_reducible refine gb_drewN ?_ _ | with_reducible refine gb_drew ?_)) hg1
    have B1 := hide ((B0.out.alloc _).kept hg1 (by simp))
    have R1 := hide (R0.out.kept hg1 (by simp))
    obtain ⟨b0, b1, b2, b3, b4, bz⟩ := B1.out
    obtain ⟨_, _, _, _, _, r0, r1, r2, r3, r4, rz⟩ := R1.out
    have bl := B1.out.lt
    have rl := R1.out.lt
    clear hg1
    go_wp2_with fail
    go_at_call 144
    refine ((HN _).out).mono ?_
    rintro e w2 ⟨sv2, rfl, l2, hg2⟩
    have G2 : Hid (w.grownBy w2 none) := gb_trans G1.out hg2
    have R2 := hide (R1.out.kept hg2 (by simp))
    have L2 := hide l2
    clear r0 r1 r2 r3 r4 rz
    obtain ⟨_, _, _, _, _, r0, r1, r2, r3, r4, rz⟩ := R2.out
    have rl2 := R2.out.lt
    have hs2 := G1.out.size
    obtain ⟨sa2, sc2, rfl⟩ := l2.form
    clear hg2 l2
    go_wp2_with fail
    refine node_ret Tryz.results135 rfl (RB.five R2.out) rfl ?_
    refine ⟨_, rfl, ?_, (by repeat (first | with_reducible exact G2.out | with_reducible refine gb_put ?_ (by omega) _ _ | with_reducible refine gb_alloc ?_ _ | with_reducible refine gb_drewN ?_ _ | with_reducible refine gb_drew ?_))⟩
    exact ((L2.out.bounded).kept (lr_put5 (w.heap.size + 1)) (fun b hb hk => by cases hb; have := hk.1; omega)).mono (fun k hk => Or.inr (Nat.le_trans hs2 hk.1))
set_option maxRecDepth 100000 in
set_option maxHeartbeats 1000000 in
theorem worked_mul (m p : Int) (l : List T) (sv : Value) (S : Nat → Prop) (u v : Int) (w : World) (ha : LR w S l sv) (hu : -2147483647 ≤ u ∧ u ≤ 2147483647) (hv : -2147483647 ≤ v ∧ v ≤ 2147483647) : Calls Tryz.prog 135 #[nodeV (.mk 36 [42] m p l) sv, .int .i32 u, .int .i32 v] w (NL w (fun k => S k ∨ w.heap.size ≤ k) (workT (.mk 36 [42] m p l) u v)) := by
  have HA := hide ha
  obtain ⟨sa, sc, rfl⟩ := ha.form
  clear ha
  change Calls Tryz.prog 135 #[.agg #[.int .i64 36, .string ⟨List.toArray [42]⟩, .int .i64 m, .int .i64 p, .slice sa l.length sc], .int .i32 u, .int .i32 v] w _
  have B0 : Hid (NB (w.alloc (.cells #[.int .i64 36, .string ⟨List.toArray [42]⟩, .int .i64 m, .int .i64 p, .slice sa l.length sc] 24)) w.heap.size (.int .i64 36) (.string ⟨List.toArray [42]⟩) (.int .i64 m) (.int .i64 p) (.slice sa l.length sc)) := NB.new _ _
  have R0 : Hid (RB ((w.alloc (.cells #[.int .i64 36, .string ⟨List.toArray [42]⟩, .int .i64 m, .int .i64 p, .slice sa l.length sc] 24)).alloc (.cells #[.int .i64 0, .string ⟨#[]⟩, .int .i64 0, .int .i64 0, .slice none 0 0] 24)) (w.heap.size + 1)) := RB.new' (by simp)
  have HZ : Hid (opZ (T.mk 36 [42] m p l).name u v = some (arZ (u * v))) := by show _ = _; simp [opZ, T.name]
  have HR := opZ_rng hu hv HZ.out
  have HE : Hid (workT (.mk 36 [42] m p l) u v = if arZ (u * v) = -2147483648 then .mk 36 [42] m p l else numT (arZ (u * v)) p) := by
    show _ = _
    unfold workT
    rw [if_neg (show ¬ levelOf (T.mk 36 [42] m p l).name = 0 by simp only [T.name]; decide), HZ.out]
    rfl
  rw [HE.out]
  have HC := fun w' => hide (operate_mul u v w')
  generalize arZ (u * v) = z at *
  by_cases hz : z = -2147483648
  · rw [if_pos hz]
    have hz2 : (z == -2147483648) = true := by rw [hz]; rfl
    go_enter Tryz.func135, Tryz.ntmps135
    go_wp2_with fail
    go_at_call 143
    refine ((HC _).out).mono ?_
    rintro e w1 ⟨rfl, hg1⟩
    have G1 : Hid (w.grownBy w1 none) := gb_trans (by repeat (first | with_reducible exact gb_refl w none | with_reducible refine gb_put ?_ (by omega) _ _ | with_reducible refine gb_alloc ?_ _ | with_reducible refine gb_drewN ?_ _ | with_reducible refine gb_drew ?_)) hg1
    have B1 := hide ((B0.out.alloc _).kept hg1 (by simp))
    have R1 := hide (R0.out.kept hg1 (by simp))
    obtain ⟨b0, b1, b2, b3, b4, bz⟩ := B1.out
    obtain ⟨_, _, _, _, _, r0, r1, r2, r3, r4, rz⟩ := R1.out
    have bl := B1.out.lt
    have rl := R1.out.lt
    clear hg1
    go_wp2_with fail
    refine node_ret Tryz.results135 rfl (RB.five R1.out) rfl ?_
    exact nl_wide (nl_kept (x := [42]) HA.out (by repeat (first | with_reducible exact G1.out | with_reducible refine gb_put ?_ (by omega) _ _ | with_reducible refine gb_alloc ?_ _ | with_reducible refine gb_drewN ?_ _ | with_reducible refine gb_drew ?_))) (fun k hk => Or.inl hk)
  · rw [if_neg hz]
    have hz2 : (z == -2147483648) = false := by rw [beq_eq_false_iff_ne]; exact hz
    have HN := fun w' => hide (numberNode_any z p (by omega) (by omega) w')
    generalize numT z p = t at *
    obtain ⟨k2, x2, m2, p2, l2s⟩ := t
    go_enter Tryz.func135, Tryz.ntmps135
    go_wp2_with fail
    go_at_call 143
    refine ((HC _).out).mono ?_
    rintro e w1 ⟨rfl, hg1⟩
    have G1 : Hid (w.grownBy w1 none) := gb_trans (by repeat (first | with_reducible exact gb_refl w none | with_reducible refine gb_put ?_ (by omega) _ _ | with_reducible refine gb_alloc ?_ _ | with_reducible refine gb_drewN ?_ _ | with_reducible refine gb_drew ?_)) hg1
    have B1 := hide ((B0.out.alloc _).kept hg1 (by simp))
    have R1 := hide (R0.out.kept hg1 (by simp))
    obtain ⟨b0, b1, b2, b3, b4, bz⟩ := B1.out
    obtain ⟨_, _, _, _, _, r0, r1, r2, r3, r4, rz⟩ := R1.out
    have bl := B1.out.lt
    have rl := R1.out.lt
    clear hg1
    go_wp2_with fail
    go_at_call 144
    refine ((HN _).out).mono ?_
    rintro e w2 ⟨sv2, rfl, l2, hg2⟩
    have G2 : Hid (w.grownBy w2 none) := gb_trans G1.out hg2
    have R2 := hide (R1.out.kept hg2 (by simp))
    have L2 := hide l2
    clear r0 r1 r2 r3 r4 rz
    obtain ⟨_, _, _, _, _, r0, r1, r2, r3, r4, rz⟩ := R2.out
    have rl2 := R2.out.lt
    have hs2 := G1.out.size
    obtain ⟨sa2, sc2, rfl⟩ := l2.form
    clear hg2 l2
    go_wp2_with fail
    refine node_ret Tryz.results135 rfl (RB.five R2.out) rfl ?_
    refine ⟨_, rfl, ?_, (by repeat (first | with_reducible exact G2.out | with_reducible refine gb_put ?_ (by omega) _ _ | with_reducible refine gb_alloc ?_ _ | with_reducible refine gb_drewN ?_ _ | with_reducible refine gb_drew ?_))⟩
    exact ((L2.out.bounded).kept (lr_put5 (w.heap.size + 1)) (fun b hb hk => by cases hb; have := hk.1; omega)).mono (fun k hk => Or.inr (Nat.le_trans hs2 hk.1))
set_option maxRecDepth 100000 in
set_option maxHeartbeats 1000000 in
theorem worked_div (m p : Int) (l : List T) (sv : Value) (S : Nat → Prop) (u v : Int) (w : World) (ha : LR w S l sv) (hu : -2147483647 ≤ u ∧ u ≤ 2147483647) (hv : -2147483647 ≤ v ∧ v ≤ 2147483647) : Calls Tryz.prog 135 #[nodeV (.mk 36 [68, 73, 86] m p l) sv, .int .i32 u, .int .i32 v] w (NL w (fun k => S k ∨ w.heap.size ≤ k) (workT (.mk 36 [68, 73, 86] m p l) u v)) := by
  have HA := hide ha
  obtain ⟨sa, sc, rfl⟩ := ha.form
  clear ha
  change Calls Tryz.prog 135 #[.agg #[.int .i64 36, .string ⟨List.toArray [68, 73, 86]⟩, .int .i64 m, .int .i64 p, .slice sa l.length sc], .int .i32 u, .int .i32 v] w _
  have B0 : Hid (NB (w.alloc (.cells #[.int .i64 36, .string ⟨List.toArray [68, 73, 86]⟩, .int .i64 m, .int .i64 p, .slice sa l.length sc] 24)) w.heap.size (.int .i64 36) (.string ⟨List.toArray [68, 73, 86]⟩) (.int .i64 m) (.int .i64 p) (.slice sa l.length sc)) := NB.new _ _
  have R0 : Hid (RB ((w.alloc (.cells #[.int .i64 36, .string ⟨List.toArray [68, 73, 86]⟩, .int .i64 m, .int .i64 p, .slice sa l.length sc] 24)).alloc (.cells #[.int .i64 0, .string ⟨#[]⟩, .int .i64 0, .int .i64 0, .slice none 0 0] 24)) (w.heap.size + 1)) := RB.new' (by simp)
  by_cases h0 : v ≤ 0
  · have HE : Hid (workT (.mk 36 [68, 73, 86] m p l) u v = .mk 36 [68, 73, 86] m p l) := by
      show _ = _
      unfold workT
      rw [if_neg (show ¬ levelOf (T.mk 36 [68, 73, 86] m p l).name = 0 by simp only [T.name]; decide)]
      have : opZ (T.mk 36 [68, 73, 86] m p l).name u v = none := by simp [opZ, T.name, h0]
      rw [this]
    rw [HE.out]
    go_enter Tryz.func135, Tryz.ntmps135
    go_wp2_with fail
    refine node_ret Tryz.results135 rfl (NB.new' (by simp)) rfl ?_
    exact nl_wide (nl_kept (x := [68, 73, 86]) HA.out (by repeat (first | with_reducible exact gb_refl w none | with_reducible refine gb_put ?_ (by omega) _ _ | with_reducible refine gb_alloc ?_ _ | with_reducible refine gb_drewN ?_ _ | with_reducible refine gb_drew ?_))) (fun k hk => Or.inl hk)
  have HZ : Hid (opZ (T.mk 36 [68, 73, 86] m p l).name u v = some (u / v)) := by show _ = _; simp [opZ, T.name, h0]
  have HR := opZ_rng hu hv HZ.out
  have HE : Hid (workT (.mk 36 [68, 73, 86] m p l) u v = if u / v = -2147483648 then .mk 36 [68, 73, 86] m p l else numT (u / v) p) := by
    show _ = _
    unfold workT
    rw [if_neg (show ¬ levelOf (T.mk 36 [68, 73, 86] m p l).name = 0 by simp only [T.name]; decide), HZ.out]
    rfl
  rw [HE.out]
  have HC := fun w' => hide (operate_div u v w' hu (by omega) (by omega))
  generalize u / v = z at *
  by_cases hz : z = -2147483648
  · rw [if_pos hz]
    have hz2 : (z == -2147483648) = true := by rw [hz]; rfl
    go_enter Tryz.func135, Tryz.ntmps135
    go_wp2_with fail
    go_at_call 143
    refine ((HC _).out).mono ?_
    rintro e w1 ⟨rfl, hg1⟩
    have G1 : Hid (w.grownBy w1 none) := gb_trans (by repeat (first | with_reducible exact gb_refl w none | with_reducible refine gb_put ?_ (by omega) _ _ | with_reducible refine gb_alloc ?_ _ | with_reducible refine gb_drewN ?_ _ | with_reducible refine gb_drew ?_)) hg1
    have B1 := hide ((B0.out.alloc _).kept hg1 (by simp))
    have R1 := hide (R0.out.kept hg1 (by simp))
    obtain ⟨b0, b1, b2, b3, b4, bz⟩ := B1.out
    obtain ⟨_, _, _, _, _, r0, r1, r2, r3, r4, rz⟩ := R1.out
    have bl := B1.out.lt
    have rl := R1.out.lt
    clear hg1
    go_wp2_with fail
    refine node_ret Tryz.results135 rfl (RB.five R1.out) rfl ?_
    exact nl_wide (nl_kept (x := [68, 73, 86]) HA.out (by repeat (first | with_reducible exact G1.out | with_reducible refine gb_put ?_ (by omega) _ _ | with_reducible refine gb_alloc ?_ _ | with_reducible refine gb_drewN ?_ _ | with_reducible refine gb_drew ?_))) (fun k hk => Or.inl hk)
  · rw [if_neg hz]
    have hz2 : (z == -2147483648) = false := by rw [beq_eq_false_iff_ne]; exact hz
    have HN := fun w' => hide (numberNode_any z p (by omega) (by omega) w')
    generalize numT z p = t at *
    obtain ⟨k2, x2, m2, p2, l2s⟩ := t
    go_enter Tryz.func135, Tryz.ntmps135
    go_wp2_with fail
    go_at_call 143
    refine ((HC _).out).mono ?_
    rintro e w1 ⟨rfl, hg1⟩
    have G1 : Hid (w.grownBy w1 none) := gb_trans (by repeat (first | with_reducible exact gb_refl w none | with_reducible refine gb_put ?_ (by omega) _ _ | with_reducible refine gb_alloc ?_ _ | with_reducible refine gb_drewN ?_ _ | with_reducible refine gb_drew ?_)) hg1
    have B1 := hide ((B0.out.alloc _).kept hg1 (by simp))
    have R1 := hide (R0.out.kept hg1 (by simp))
    obtain ⟨b0, b1, b2, b3, b4, bz⟩ := B1.out
    obtain ⟨_, _, _, _, _, r0, r1, r2, r3, r4, rz⟩ := R1.out
    have bl := B1.out.lt
    have rl := R1.out.lt
    clear hg1
    go_wp2_with fail
    go_at_call 144
    refine ((HN _).out).mono ?_
    rintro e w2 ⟨sv2, rfl, l2, hg2⟩
    have G2 : Hid (w.grownBy w2 none) := gb_trans G1.out hg2
    have R2 := hide (R1.out.kept hg2 (by simp))
    have L2 := hide l2
    clear r0 r1 r2 r3 r4 rz
    obtain ⟨_, _, _, _, _, r0, r1, r2, r3, r4, rz⟩ := R2.out
    have rl2 := R2.out.lt
    have hs2 := G1.out.size
    obtain ⟨sa2, sc2, rfl⟩ := l2.form
    clear hg2 l2
    go_wp2_with fail
    refine node_ret Tryz.results135 rfl (RB.five R2.out) rfl ?_
    refine ⟨_, rfl, ?_, (by repeat (first | with_reducible exact G2.out | with_reducible refine gb_put ?_ (by omega) _ _ | with_reducible refine gb_alloc ?_ _ | with_reducible refine gb_drewN ?_ _ | with_reducible refine gb_drew ?_))⟩
    exact ((L2.out.bounded).kept (lr_put5 (w.heap.size + 1)) (fun b hb hk => by cases hb; have := hk.1; omega)).mono (fun k hk => Or.inr (Nat.le_trans hs2 hk.1))
set_option maxRecDepth 100000 in
set_option maxHeartbeats 1000000 in
theorem worked_mod (m p : Int) (l : List T) (sv : Value) (S : Nat → Prop) (u v : Int) (w : World) (ha : LR w S l sv) (hu : -2147483647 ≤ u ∧ u ≤ 2147483647) (hv : -2147483647 ≤ v ∧ v ≤ 2147483647) : Calls Tryz.prog 135 #[nodeV (.mk 36 [77, 79, 68] m p l) sv, .int .i32 u, .int .i32 v] w (NL w (fun k => S k ∨ w.heap.size ≤ k) (workT (.mk 36 [77, 79, 68] m p l) u v)) := by
  have HA := hide ha
  obtain ⟨sa, sc, rfl⟩ := ha.form
  clear ha
  change Calls Tryz.prog 135 #[.agg #[.int .i64 36, .string ⟨List.toArray [77, 79, 68]⟩, .int .i64 m, .int .i64 p, .slice sa l.length sc], .int .i32 u, .int .i32 v] w _
  have B0 : Hid (NB (w.alloc (.cells #[.int .i64 36, .string ⟨List.toArray [77, 79, 68]⟩, .int .i64 m, .int .i64 p, .slice sa l.length sc] 24)) w.heap.size (.int .i64 36) (.string ⟨List.toArray [77, 79, 68]⟩) (.int .i64 m) (.int .i64 p) (.slice sa l.length sc)) := NB.new _ _
  have R0 : Hid (RB ((w.alloc (.cells #[.int .i64 36, .string ⟨List.toArray [77, 79, 68]⟩, .int .i64 m, .int .i64 p, .slice sa l.length sc] 24)).alloc (.cells #[.int .i64 0, .string ⟨#[]⟩, .int .i64 0, .int .i64 0, .slice none 0 0] 24)) (w.heap.size + 1)) := RB.new' (by simp)
  by_cases h0 : v ≤ 0
  · have HE : Hid (workT (.mk 36 [77, 79, 68] m p l) u v = .mk 36 [77, 79, 68] m p l) := by
      show _ = _
      unfold workT
      rw [if_neg (show ¬ levelOf (T.mk 36 [77, 79, 68] m p l).name = 0 by simp only [T.name]; decide)]
      have : opZ (T.mk 36 [77, 79, 68] m p l).name u v = none := by simp [opZ, T.name, h0]
      rw [this]
    rw [HE.out]
    go_enter Tryz.func135, Tryz.ntmps135
    go_wp2_with fail
    refine node_ret Tryz.results135 rfl (NB.new' (by simp)) rfl ?_
    exact nl_wide (nl_kept (x := [77, 79, 68]) HA.out (by repeat (first | with_reducible exact gb_refl w none | with_reducible refine gb_put ?_ (by omega) _ _ | with_reducible refine gb_alloc ?_ _ | with_reducible refine gb_drewN ?_ _ | with_reducible refine gb_drew ?_))) (fun k hk => Or.inl hk)
  have HZ : Hid (opZ (T.mk 36 [77, 79, 68] m p l).name u v = some (u % v)) := by show _ = _; simp [opZ, T.name, h0]
  have HR := opZ_rng hu hv HZ.out
  have HE : Hid (workT (.mk 36 [77, 79, 68] m p l) u v = if u % v = -2147483648 then .mk 36 [77, 79, 68] m p l else numT (u % v) p) := by
    show _ = _
    unfold workT
    rw [if_neg (show ¬ levelOf (T.mk 36 [77, 79, 68] m p l).name = 0 by simp only [T.name]; decide), HZ.out]
    rfl
  rw [HE.out]
  have HC := fun w' => hide (operate_mod u v w' hu (by omega) (by omega))
  generalize u % v = z at *
  by_cases hz : z = -2147483648
  · rw [if_pos hz]
    have hz2 : (z == -2147483648) = true := by rw [hz]; rfl
    go_enter Tryz.func135, Tryz.ntmps135
    go_wp2_with fail
    go_at_call 143
    refine ((HC _).out).mono ?_
    rintro e w1 ⟨rfl, hg1⟩
    have G1 : Hid (w.grownBy w1 none) := gb_trans (by repeat (first | with_reducible exact gb_refl w none | with_reducible refine gb_put ?_ (by omega) _ _ | with_reducible refine gb_alloc ?_ _ | with_reducible refine gb_drewN ?_ _ | with_reducible refine gb_drew ?_)) hg1
    have B1 := hide ((B0.out.alloc _).kept hg1 (by simp))
    have R1 := hide (R0.out.kept hg1 (by simp))
    obtain ⟨b0, b1, b2, b3, b4, bz⟩ := B1.out
    obtain ⟨_, _, _, _, _, r0, r1, r2, r3, r4, rz⟩ := R1.out
    have bl := B1.out.lt
    have rl := R1.out.lt
    clear hg1
    go_wp2_with fail
    refine node_ret Tryz.results135 rfl (RB.five R1.out) rfl ?_
    exact nl_wide (nl_kept (x := [77, 79, 68]) HA.out (by repeat (first | with_reducible exact G1.out | with_reducible refine gb_put ?_ (by omega) _ _ | with_reducible refine gb_alloc ?_ _ | with_reducible refine gb_drewN ?_ _ | with_reducible refine gb_drew ?_))) (fun k hk => Or.inl hk)
  · rw [if_neg hz]
    have hz2 : (z == -2147483648) = false := by rw [beq_eq_false_iff_ne]; exact hz
    have HN := fun w' => hide (numberNode_any z p (by omega) (by omega) w')
    generalize numT z p = t at *
    obtain ⟨k2, x2, m2, p2, l2s⟩ := t
    go_enter Tryz.func135, Tryz.ntmps135
    go_wp2_with fail
    go_at_call 143
    refine ((HC _).out).mono ?_
    rintro e w1 ⟨rfl, hg1⟩
    have G1 : Hid (w.grownBy w1 none) := gb_trans (by repeat (first | with_reducible exact gb_refl w none | with_reducible refine gb_put ?_ (by omega) _ _ | with_reducible refine gb_alloc ?_ _ | with_reducible refine gb_drewN ?_ _ | with_reducible refine gb_drew ?_)) hg1
    have B1 := hide ((B0.out.alloc _).kept hg1 (by simp))
    have R1 := hide (R0.out.kept hg1 (by simp))
    obtain ⟨b0, b1, b2, b3, b4, bz⟩ := B1.out
    obtain ⟨_, _, _, _, _, r0, r1, r2, r3, r4, rz⟩ := R1.out
    have bl := B1.out.lt
    have rl := R1.out.lt
    clear hg1
    go_wp2_with fail
    go_at_call 144
    refine ((HN _).out).mono ?_
    rintro e w2 ⟨sv2, rfl, l2, hg2⟩
    have G2 : Hid (w.grownBy w2 none) := gb_trans G1.out hg2
    have R2 := hide (R1.out.kept hg2 (by simp))
    have L2 := hide l2
    clear r0 r1 r2 r3 r4 rz
    obtain ⟨_, _, _, _, _, r0, r1, r2, r3, r4, rz⟩ := R2.out
    have rl2 := R2.out.lt
    have hs2 := G1.out.size
    obtain ⟨sa2, sc2, rfl⟩ := l2.form
    clear hg2 l2
    go_wp2_with fail
    refine node_ret Tryz.results135 rfl (RB.five R2.out) rfl ?_
    refine ⟨_, rfl, ?_, (by repeat (first | with_reducible exact G2.out | with_reducible refine gb_put ?_ (by omega) _ _ | with_reducible refine gb_alloc ?_ _ | with_reducible refine gb_drewN ?_ _ | with_reducible refine gb_drew ?_))⟩
    exact ((L2.out.bounded).kept (lr_put5 (w.heap.size + 1)) (fun b hb hk => by cases hb; have := hk.1; omega)).mono (fun k hk => Or.inr (Nat.le_trans hs2 hk.1))
set_option maxRecDepth 100000 in
set_option maxHeartbeats 1000000 in
theorem worked_r0 (m p : Int) (l : List T) (sv : Value) (S : Nat → Prop) (u v : Int) (w : World) (ha : LR w S l sv) : Calls Tryz.prog 135 #[nodeV (.mk 36 [61] m p l) sv, .int .i32 u, .int .i32 v] w (NL w (fun k => S k ∨ w.heap.size ≤ k) (workT (.mk 36 [61] m p l) u v)) := by
  have HA := hide ha
  obtain ⟨sa, sc, rfl⟩ := ha.form
  clear ha
  change Calls Tryz.prog 135 #[.agg #[.int .i64 36, .string ⟨List.toArray [61]⟩, .int .i64 m, .int .i64 p, .slice sa l.length sc], .int .i32 u, .int .i32 v] w _
  have B0 : Hid (NB (w.alloc (.cells #[.int .i64 36, .string ⟨List.toArray [61]⟩, .int .i64 m, .int .i64 p, .slice sa l.length sc] 24)) w.heap.size (.int .i64 36) (.string ⟨List.toArray [61]⟩) (.int .i64 m) (.int .i64 p) (.slice sa l.length sc)) := NB.new _ _
  have R0 : Hid (RB ((w.alloc (.cells #[.int .i64 36, .string ⟨List.toArray [61]⟩, .int .i64 m, .int .i64 p, .slice sa l.length sc] 24)).alloc (.cells #[.int .i64 0, .string ⟨#[]⟩, .int .i64 0, .int .i64 0, .slice none 0 0] 24)) (w.heap.size + 1)) := RB.new' (by simp)
  have HE : Hid (workT (.mk 36 [61] m p l) u v = boolT (relZ [61] u v) p) := by
    show _ = _
    unfold workT
    rw [if_pos (show levelOf (T.mk 36 [61] m p l).name = 0 by simp only [T.name]; decide)]
    rfl
  rw [HE.out]
  have HC := fun w' => hide (operate_r0 u v w')
  have HT := fun w' => hide (truthNode_any (relZ [61] u v) p w')
  have h1 : ((if relZ [61] u v = true then (1 : Int) else 0) == 1) = relZ [61] u v := by cases relZ [61] u v <;> rfl
  generalize (if relZ [61] u v = true then (1 : Int) else 0) = z at *
  generalize hbt : boolT (relZ [61] u v) p = t at *
  generalize relZ [61] u v = r at *
  have HL : Hid (t.subs = []) := by rw [← hbt]; show (boolT r p).subs = []; cases r <;> rfl
  clear hbt
  obtain ⟨k2, x2, m2, p2, l2s⟩ := t
  go_enter Tryz.func135, Tryz.ntmps135
  go_wp2_with fail
  go_region_with (first
    | (go_at_call 143
       refine ((HC _).out).mono ?_
       rintro e w1 ⟨rfl, hg1⟩
       have G1 : Hid (w.grownBy w1 none) := gb_trans (by repeat (first | with_reducible exact gb_refl w none | with_reducible refine gb_put ?_ (by omega) _ _ | with_reducible refine gb_alloc ?_ _ | with_reducible refine gb_drewN ?_ _ | with_reducible refine gb_drew ?_)) hg1
       have R1 := hide ((R0.out.drewN _).kept hg1 (by simp))
       have B1 := hide (((B0.out.alloc _).drewN _).kept hg1 (by simp))
       obtain ⟨b0, b1, b2, b3, b4, bz⟩ := B1.out
       clear hg1)
    | (go_at_call 107
       refine ((HT _).out).mono ?_
       rintro e w2 ⟨rfl, hg2⟩
       have G2 : Hid (w.grownBy w2 none) := gb_trans (by repeat (first | with_reducible exact G1.out | with_reducible refine gb_put ?_ (by omega) _ _ | with_reducible refine gb_alloc ?_ _ | with_reducible refine gb_drewN ?_ _ | with_reducible refine gb_drew ?_)) hg2
       have R2 := hide ((R1.out).kept (gb_trans (by repeat (first | with_reducible exact gb_refl w1 none | with_reducible refine gb_put ?_ (by omega) _ _ | with_reducible refine gb_alloc ?_ _ | with_reducible refine gb_drewN ?_ _ | with_reducible refine gb_drew ?_)) hg2) (by simp))
       obtain ⟨_, _, _, _, _, r0, r1, r2, r3, r4, rz⟩ := R2.out
       have rl := R2.out.lt
       clear hg2))
  all_goals
    go_wp2_with fail
    refine node_ret Tryz.results135 rfl (RB.five R2.out) rfl ?_
    refine ⟨.slice none 0 0, rfl, ?_, (by repeat (first | with_reducible exact G2.out | with_reducible refine gb_put ?_ (by omega) _ _ | with_reducible refine gb_alloc ?_ _ | with_reducible refine gb_drewN ?_ _ | with_reducible refine gb_drew ?_))⟩
    rw [HL.out]
    exact LR.nil _ _
set_option maxRecDepth 100000 in
set_option maxHeartbeats 1000000 in
theorem worked_r1 (m p : Int) (l : List T) (sv : Value) (S : Nat → Prop) (u v : Int) (w : World) (ha : LR w S l sv) : Calls Tryz.prog 135 #[nodeV (.mk 36 [35] m p l) sv, .int .i32 u, .int .i32 v] w (NL w (fun k => S k ∨ w.heap.size ≤ k) (workT (.mk 36 [35] m p l) u v)) := by
  have HA := hide ha
  obtain ⟨sa, sc, rfl⟩ := ha.form
  clear ha
  change Calls Tryz.prog 135 #[.agg #[.int .i64 36, .string ⟨List.toArray [35]⟩, .int .i64 m, .int .i64 p, .slice sa l.length sc], .int .i32 u, .int .i32 v] w _
  have B0 : Hid (NB (w.alloc (.cells #[.int .i64 36, .string ⟨List.toArray [35]⟩, .int .i64 m, .int .i64 p, .slice sa l.length sc] 24)) w.heap.size (.int .i64 36) (.string ⟨List.toArray [35]⟩) (.int .i64 m) (.int .i64 p) (.slice sa l.length sc)) := NB.new _ _
  have R0 : Hid (RB ((w.alloc (.cells #[.int .i64 36, .string ⟨List.toArray [35]⟩, .int .i64 m, .int .i64 p, .slice sa l.length sc] 24)).alloc (.cells #[.int .i64 0, .string ⟨#[]⟩, .int .i64 0, .int .i64 0, .slice none 0 0] 24)) (w.heap.size + 1)) := RB.new' (by simp)
  have HE : Hid (workT (.mk 36 [35] m p l) u v = boolT (relZ [35] u v) p) := by
    show _ = _
    unfold workT
    rw [if_pos (show levelOf (T.mk 36 [35] m p l).name = 0 by simp only [T.name]; decide)]
    rfl
  rw [HE.out]
  have HC := fun w' => hide (operate_r1 u v w')
  have HT := fun w' => hide (truthNode_any (relZ [35] u v) p w')
  have h1 : ((if relZ [35] u v = true then (1 : Int) else 0) == 1) = relZ [35] u v := by cases relZ [35] u v <;> rfl
  generalize (if relZ [35] u v = true then (1 : Int) else 0) = z at *
  generalize hbt : boolT (relZ [35] u v) p = t at *
  generalize relZ [35] u v = r at *
  have HL : Hid (t.subs = []) := by rw [← hbt]; show (boolT r p).subs = []; cases r <;> rfl
  clear hbt
  obtain ⟨k2, x2, m2, p2, l2s⟩ := t
  go_enter Tryz.func135, Tryz.ntmps135
  go_wp2_with fail
  go_region_with (first
    | (go_at_call 143
       refine ((HC _).out).mono ?_
       rintro e w1 ⟨rfl, hg1⟩
       have G1 : Hid (w.grownBy w1 none) := gb_trans (by repeat (first | with_reducible exact gb_refl w none | with_reducible refine gb_put ?_ (by omega) _ _ | with_reducible refine gb_alloc ?_ _ | with_reducible refine gb_drewN ?_ _ | with_reducible refine gb_drew ?_)) hg1
       have R1 := hide ((R0.out.drewN _).kept hg1 (by simp))
       have B1 := hide (((B0.out.alloc _).drewN _).kept hg1 (by simp))
       obtain ⟨b0, b1, b2, b3, b4, bz⟩ := B1.out
       clear hg1)
    | (go_at_call 107
       refine ((HT _).out).mono ?_
       rintro e w2 ⟨rfl, hg2⟩
       have G2 : Hid (w.grownBy w2 none) := gb_trans (by repeat (first | with_reducible exact G1.out | with_reducible refine gb_put ?_ (by omega) _ _ | with_reducible refine gb_alloc ?_ _ | with_reducible refine gb_drewN ?_ _ | with_reducible refine gb_drew ?_)) hg2
       have R2 := hide ((R1.out).kept (gb_trans (by repeat (first | with_reducible exact gb_refl w1 none | with_reducible refine gb_put ?_ (by omega) _ _ | with_reducible refine gb_alloc ?_ _ | with_reducible refine gb_drewN ?_ _ | with_reducible refine gb_drew ?_)) hg2) (by simp))
       obtain ⟨_, _, _, _, _, r0, r1, r2, r3, r4, rz⟩ := R2.out
       have rl := R2.out.lt
       clear hg2))
  all_goals
    go_wp2_with fail
    refine node_ret Tryz.results135 rfl (RB.five R2.out) rfl ?_
    refine ⟨.slice none 0 0, rfl, ?_, (by repeat (first | with_reducible exact G2.out | with_reducible refine gb_put ?_ (by omega) _ _ | with_reducible refine gb_alloc ?_ _ | with_reducible refine gb_drewN ?_ _ | with_reducible refine gb_drew ?_))⟩
    rw [HL.out]
    exact LR.nil _ _
set_option maxRecDepth 100000 in
set_option maxHeartbeats 1000000 in
theorem worked_r2 (m p : Int) (l : List T) (sv : Value) (S : Nat → Prop) (u v : Int) (w : World) (ha : LR w S l sv) : Calls Tryz.prog 135 #[nodeV (.mk 36 [60] m p l) sv, .int .i32 u, .int .i32 v] w (NL w (fun k => S k ∨ w.heap.size ≤ k) (workT (.mk 36 [60] m p l) u v)) := by
  have HA := hide ha
  obtain ⟨sa, sc, rfl⟩ := ha.form
  clear ha
  change Calls Tryz.prog 135 #[.agg #[.int .i64 36, .string ⟨List.toArray [60]⟩, .int .i64 m, .int .i64 p, .slice sa l.length sc], .int .i32 u, .int .i32 v] w _
  have B0 : Hid (NB (w.alloc (.cells #[.int .i64 36, .string ⟨List.toArray [60]⟩, .int .i64 m, .int .i64 p, .slice sa l.length sc] 24)) w.heap.size (.int .i64 36) (.string ⟨List.toArray [60]⟩) (.int .i64 m) (.int .i64 p) (.slice sa l.length sc)) := NB.new _ _
  have R0 : Hid (RB ((w.alloc (.cells #[.int .i64 36, .string ⟨List.toArray [60]⟩, .int .i64 m, .int .i64 p, .slice sa l.length sc] 24)).alloc (.cells #[.int .i64 0, .string ⟨#[]⟩, .int .i64 0, .int .i64 0, .slice none 0 0] 24)) (w.heap.size + 1)) := RB.new' (by simp)
  have HE : Hid (workT (.mk 36 [60] m p l) u v = boolT (relZ [60] u v) p) := by
    show _ = _
    unfold workT
    rw [if_pos (show levelOf (T.mk 36 [60] m p l).name = 0 by simp only [T.name]; decide)]
    rfl
  rw [HE.out]
  have HC := fun w' => hide (operate_r2 u v w')
  have HT := fun w' => hide (truthNode_any (relZ [60] u v) p w')
  have h1 : ((if relZ [60] u v = true then (1 : Int) else 0) == 1) = relZ [60] u v := by cases relZ [60] u v <;> rfl
  generalize (if relZ [60] u v = true then (1 : Int) else 0) = z at *
  generalize hbt : boolT (relZ [60] u v) p = t at *
  generalize relZ [60] u v = r at *
  have HL : Hid (t.subs = []) := by rw [← hbt]; show (boolT r p).subs = []; cases r <;> rfl
  clear hbt
  obtain ⟨k2, x2, m2, p2, l2s⟩ := t
  go_enter Tryz.func135, Tryz.ntmps135
  go_wp2_with fail
  go_region_with (first
    | (go_at_call 143
       refine ((HC _).out).mono ?_
       rintro e w1 ⟨rfl, hg1⟩
       have G1 : Hid (w.grownBy w1 none) := gb_trans (by repeat (first | with_reducible exact gb_refl w none | with_reducible refine gb_put ?_ (by omega) _ _ | with_reducible refine gb_alloc ?_ _ | with_reducible refine gb_drewN ?_ _ | with_reducible refine gb_drew ?_)) hg1
       have R1 := hide ((R0.out.drewN _).kept hg1 (by simp))
       have B1 := hide (((B0.out.alloc _).drewN _).kept hg1 (by simp))
       obtain ⟨b0, b1, b2, b3, b4, bz⟩ := B1.out
       clear hg1)
    | (go_at_call 107
       refine ((HT _).out).mono ?_
       rintro e w2 ⟨rfl, hg2⟩
       have G2 : Hid (w.grownBy w2 none) := gb_trans (by repeat (first | with_reducible exact G1.out | with_reducible refine gb_put ?_ (by omega) _ _ | with_reducible refine gb_alloc ?_ _ | with_reducible refine gb_drewN ?_ _ | with_reducible refine gb_drew ?_)) hg2
       have R2 := hide ((R1.out).kept (gb_trans (by repeat (first | with_reducible exact gb_refl w1 none | with_reducible refine gb_put ?_ (by omega) _ _ | with_reducible refine gb_alloc ?_ _ | with_reducible refine gb_drewN ?_ _ | with_reducible refine gb_drew ?_)) hg2) (by simp))
       obtain ⟨_, _, _, _, _, r0, r1, r2, r3, r4, rz⟩ := R2.out
       have rl := R2.out.lt
       clear hg2))
  all_goals
    go_wp2_with fail
    refine node_ret Tryz.results135 rfl (RB.five R2.out) rfl ?_
    refine ⟨.slice none 0 0, rfl, ?_, (by repeat (first | with_reducible exact G2.out | with_reducible refine gb_put ?_ (by omega) _ _ | with_reducible refine gb_alloc ?_ _ | with_reducible refine gb_drewN ?_ _ | with_reducible refine gb_drew ?_))⟩
    rw [HL.out]
    exact LR.nil _ _
set_option maxRecDepth 100000 in
set_option maxHeartbeats 1000000 in
theorem worked_r3 (m p : Int) (l : List T) (sv : Value) (S : Nat → Prop) (u v : Int) (w : World) (ha : LR w S l sv) : Calls Tryz.prog 135 #[nodeV (.mk 36 [60, 61] m p l) sv, .int .i32 u, .int .i32 v] w (NL w (fun k => S k ∨ w.heap.size ≤ k) (workT (.mk 36 [60, 61] m p l) u v)) := by
  have HA := hide ha
  obtain ⟨sa, sc, rfl⟩ := ha.form
  clear ha
  change Calls Tryz.prog 135 #[.agg #[.int .i64 36, .string ⟨List.toArray [60, 61]⟩, .int .i64 m, .int .i64 p, .slice sa l.length sc], .int .i32 u, .int .i32 v] w _
  have B0 : Hid (NB (w.alloc (.cells #[.int .i64 36, .string ⟨List.toArray [60, 61]⟩, .int .i64 m, .int .i64 p, .slice sa l.length sc] 24)) w.heap.size (.int .i64 36) (.string ⟨List.toArray [60, 61]⟩) (.int .i64 m) (.int .i64 p) (.slice sa l.length sc)) := NB.new _ _
  have R0 : Hid (RB ((w.alloc (.cells #[.int .i64 36, .string ⟨List.toArray [60, 61]⟩, .int .i64 m, .int .i64 p, .slice sa l.length sc] 24)).alloc (.cells #[.int .i64 0, .string ⟨#[]⟩, .int .i64 0, .int .i64 0, .slice none 0 0] 24)) (w.heap.size + 1)) := RB.new' (by simp)
  have HE : Hid (workT (.mk 36 [60, 61] m p l) u v = boolT (relZ [60, 61] u v) p) := by
    show _ = _
    unfold workT
    rw [if_pos (show levelOf (T.mk 36 [60, 61] m p l).name = 0 by simp only [T.name]; decide)]
    rfl
  rw [HE.out]
  have HC := fun w' => hide (operate_r3 u v w')
  have HT := fun w' => hide (truthNode_any (relZ [60, 61] u v) p w')
  have h1 : ((if relZ [60, 61] u v = true then (1 : Int) else 0) == 1) = relZ [60, 61] u v := by cases relZ [60, 61] u v <;> rfl
  generalize (if relZ [60, 61] u v = true then (1 : Int) else 0) = z at *
  generalize hbt : boolT (relZ [60, 61] u v) p = t at *
  generalize relZ [60, 61] u v = r at *
  have HL : Hid (t.subs = []) := by rw [← hbt]; show (boolT r p).subs = []; cases r <;> rfl
  clear hbt
  obtain ⟨k2, x2, m2, p2, l2s⟩ := t
  go_enter Tryz.func135, Tryz.ntmps135
  go_wp2_with fail
  go_region_with (first
    | (go_at_call 143
       refine ((HC _).out).mono ?_
       rintro e w1 ⟨rfl, hg1⟩
       have G1 : Hid (w.grownBy w1 none) := gb_trans (by repeat (first | with_reducible exact gb_refl w none | with_reducible refine gb_put ?_ (by omega) _ _ | with_reducible refine gb_alloc ?_ _ | with_reducible refine gb_drewN ?_ _ | with_reducible refine gb_drew ?_)) hg1
       have R1 := hide ((R0.out.drewN _).kept hg1 (by simp))
       have B1 := hide (((B0.out.alloc _).drewN _).kept hg1 (by simp))
       obtain ⟨b0, b1, b2, b3, b4, bz⟩ := B1.out
       clear hg1)
    | (go_at_call 107
       refine ((HT _).out).mono ?_
       rintro e w2 ⟨rfl, hg2⟩
       have G2 : Hid (w.grownBy w2 none) := gb_trans (by repeat (first | with_reducible exact G1.out | with_reducible refine gb_put ?_ (by omega) _ _ | with_reducible refine gb_alloc ?_ _ | with_reducible refine gb_drewN ?_ _ | with_reducible refine gb_drew ?_)) hg2
       have R2 := hide ((R1.out).kept (gb_trans (by repeat (first | with_reducible exact gb_refl w1 none | with_reducible refine gb_put ?_ (by omega) _ _ | with_reducible refine gb_alloc ?_ _ | with_reducible refine gb_drewN ?_ _ | with_reducible refine gb_drew ?_)) hg2) (by simp))
       obtain ⟨_, _, _, _, _, r0, r1, r2, r3, r4, rz⟩ := R2.out
       have rl := R2.out.lt
       clear hg2))
  all_goals
    go_wp2_with fail
    refine node_ret Tryz.results135 rfl (RB.five R2.out) rfl ?_
    refine ⟨.slice none 0 0, rfl, ?_, (by repeat (first | with_reducible exact G2.out | with_reducible refine gb_put ?_ (by omega) _ _ | with_reducible refine gb_alloc ?_ _ | with_reducible refine gb_drewN ?_ _ | with_reducible refine gb_drew ?_))⟩
    rw [HL.out]
    exact LR.nil _ _
set_option maxRecDepth 100000 in
set_option maxHeartbeats 1000000 in
theorem worked_r4 (m p : Int) (l : List T) (sv : Value) (S : Nat → Prop) (u v : Int) (w : World) (ha : LR w S l sv) : Calls Tryz.prog 135 #[nodeV (.mk 36 [62] m p l) sv, .int .i32 u, .int .i32 v] w (NL w (fun k => S k ∨ w.heap.size ≤ k) (workT (.mk 36 [62] m p l) u v)) := by
  have HA := hide ha
  obtain ⟨sa, sc, rfl⟩ := ha.form
  clear ha
  change Calls Tryz.prog 135 #[.agg #[.int .i64 36, .string ⟨List.toArray [62]⟩, .int .i64 m, .int .i64 p, .slice sa l.length sc], .int .i32 u, .int .i32 v] w _
  have B0 : Hid (NB (w.alloc (.cells #[.int .i64 36, .string ⟨List.toArray [62]⟩, .int .i64 m, .int .i64 p, .slice sa l.length sc] 24)) w.heap.size (.int .i64 36) (.string ⟨List.toArray [62]⟩) (.int .i64 m) (.int .i64 p) (.slice sa l.length sc)) := NB.new _ _
  have R0 : Hid (RB ((w.alloc (.cells #[.int .i64 36, .string ⟨List.toArray [62]⟩, .int .i64 m, .int .i64 p, .slice sa l.length sc] 24)).alloc (.cells #[.int .i64 0, .string ⟨#[]⟩, .int .i64 0, .int .i64 0, .slice none 0 0] 24)) (w.heap.size + 1)) := RB.new' (by simp)
  have HE : Hid (workT (.mk 36 [62] m p l) u v = boolT (relZ [62] u v) p) := by
    show _ = _
    unfold workT
    rw [if_pos (show levelOf (T.mk 36 [62] m p l).name = 0 by simp only [T.name]; decide)]
    rfl
  rw [HE.out]
  have HC := fun w' => hide (operate_r4 u v w')
  have HT := fun w' => hide (truthNode_any (relZ [62] u v) p w')
  have h1 : ((if relZ [62] u v = true then (1 : Int) else 0) == 1) = relZ [62] u v := by cases relZ [62] u v <;> rfl
  generalize (if relZ [62] u v = true then (1 : Int) else 0) = z at *
  generalize hbt : boolT (relZ [62] u v) p = t at *
  generalize relZ [62] u v = r at *
  have HL : Hid (t.subs = []) := by rw [← hbt]; show (boolT r p).subs = []; cases r <;> rfl
  clear hbt
  obtain ⟨k2, x2, m2, p2, l2s⟩ := t
  go_enter Tryz.func135, Tryz.ntmps135
  go_wp2_with fail
  go_region_with (first
    | (go_at_call 143
       refine ((HC _).out).mono ?_
       rintro e w1 ⟨rfl, hg1⟩
       have G1 : Hid (w.grownBy w1 none) := gb_trans (by repeat (first | with_reducible exact gb_refl w none | with_reducible refine gb_put ?_ (by omega) _ _ | with_reducible refine gb_alloc ?_ _ | with_reducible refine gb_drewN ?_ _ | with_reducible refine gb_drew ?_)) hg1
       have R1 := hide ((R0.out.drewN _).kept hg1 (by simp))
       have B1 := hide (((B0.out.alloc _).drewN _).kept hg1 (by simp))
       obtain ⟨b0, b1, b2, b3, b4, bz⟩ := B1.out
       clear hg1)
    | (go_at_call 107
       refine ((HT _).out).mono ?_
       rintro e w2 ⟨rfl, hg2⟩
       have G2 : Hid (w.grownBy w2 none) := gb_trans (by repeat (first | with_reducible exact G1.out | with_reducible refine gb_put ?_ (by omega) _ _ | with_reducible refine gb_alloc ?_ _ | with_reducible refine gb_drewN ?_ _ | with_reducible refine gb_drew ?_)) hg2
       have R2 := hide ((R1.out).kept (gb_trans (by repeat (first | with_reducible exact gb_refl w1 none | with_reducible refine gb_put ?_ (by omega) _ _ | with_reducible refine gb_alloc ?_ _ | with_reducible refine gb_drewN ?_ _ | with_reducible refine gb_drew ?_)) hg2) (by simp))
       obtain ⟨_, _, _, _, _, r0, r1, r2, r3, r4, rz⟩ := R2.out
       have rl := R2.out.lt
       clear hg2))
  all_goals
    go_wp2_with fail
    refine node_ret Tryz.results135 rfl (RB.five R2.out) rfl ?_
    refine ⟨.slice none 0 0, rfl, ?_, (by repeat (first | with_reducible exact G2.out | with_reducible refine gb_put ?_ (by omega) _ _ | with_reducible refine gb_alloc ?_ _ | with_reducible refine gb_drewN ?_ _ | with_reducible refine gb_drew ?_))⟩
    rw [HL.out]
    exact LR.nil _ _
set_option maxRecDepth 100000 in
set_option maxHeartbeats 1000000 in
theorem worked_r5 (m p : Int) (l : List T) (sv : Value) (S : Nat → Prop) (u v : Int) (w : World) (ha : LR w S l sv) : Calls Tryz.prog 135 #[nodeV (.mk 36 [62, 61] m p l) sv, .int .i32 u, .int .i32 v] w (NL w (fun k => S k ∨ w.heap.size ≤ k) (workT (.mk 36 [62, 61] m p l) u v)) := by
  have HA := hide ha
  obtain ⟨sa, sc, rfl⟩ := ha.form
  clear ha
  change Calls Tryz.prog 135 #[.agg #[.int .i64 36, .string ⟨List.toArray [62, 61]⟩, .int .i64 m, .int .i64 p, .slice sa l.length sc], .int .i32 u, .int .i32 v] w _
  have B0 : Hid (NB (w.alloc (.cells #[.int .i64 36, .string ⟨List.toArray [62, 61]⟩, .int .i64 m, .int .i64 p, .slice sa l.length sc] 24)) w.heap.size (.int .i64 36) (.string ⟨List.toArray [62, 61]⟩) (.int .i64 m) (.int .i64 p) (.slice sa l.length sc)) := NB.new _ _
  have R0 : Hid (RB ((w.alloc (.cells #[.int .i64 36, .string ⟨List.toArray [62, 61]⟩, .int .i64 m, .int .i64 p, .slice sa l.length sc] 24)).alloc (.cells #[.int .i64 0, .string ⟨#[]⟩, .int .i64 0, .int .i64 0, .slice none 0 0] 24)) (w.heap.size + 1)) := RB.new' (by simp)
  have HE : Hid (workT (.mk 36 [62, 61] m p l) u v = boolT (relZ [62, 61] u v) p) := by
    show _ = _
    unfold workT
    rw [if_pos (show levelOf (T.mk 36 [62, 61] m p l).name = 0 by simp only [T.name]; decide)]
    rfl
  rw [HE.out]
  have HC := fun w' => hide (operate_r5 u v w')
  have HT := fun w' => hide (truthNode_any (relZ [62, 61] u v) p w')
  have h1 : ((if relZ [62, 61] u v = true then (1 : Int) else 0) == 1) = relZ [62, 61] u v := by cases relZ [62, 61] u v <;> rfl
  generalize (if relZ [62, 61] u v = true then (1 : Int) else 0) = z at *
  generalize hbt : boolT (relZ [62, 61] u v) p = t at *
  generalize relZ [62, 61] u v = r at *
  have HL : Hid (t.subs = []) := by rw [← hbt]; show (boolT r p).subs = []; cases r <;> rfl
  clear hbt
  obtain ⟨k2, x2, m2, p2, l2s⟩ := t
  go_enter Tryz.func135, Tryz.ntmps135
  go_wp2_with fail
  go_region_with (first
    | (go_at_call 143
       refine ((HC _).out).mono ?_
       rintro e w1 ⟨rfl, hg1⟩
       have G1 : Hid (w.grownBy w1 none) := gb_trans (by repeat (first | with_reducible exact gb_refl w none | with_reducible refine gb_put ?_ (by omega) _ _ | with_reducible refine gb_alloc ?_ _ | with_reducible refine gb_drewN ?_ _ | with_reducible refine gb_drew ?_)) hg1
       have R1 := hide ((R0.out.drewN _).kept hg1 (by simp))
       have B1 := hide (((B0.out.alloc _).drewN _).kept hg1 (by simp))
       obtain ⟨b0, b1, b2, b3, b4, bz⟩ := B1.out
       clear hg1)
    | (go_at_call 107
       refine ((HT _).out).mono ?_
       rintro e w2 ⟨rfl, hg2⟩
       have G2 : Hid (w.grownBy w2 none) := gb_trans (by repeat (first | with_reducible exact G1.out | with_reducible refine gb_put ?_ (by omega) _ _ | with_reducible refine gb_alloc ?_ _ | with_reducible refine gb_drewN ?_ _ | with_reducible refine gb_drew ?_)) hg2
       have R2 := hide ((R1.out).kept (gb_trans (by repeat (first | with_reducible exact gb_refl w1 none | with_reducible refine gb_put ?_ (by omega) _ _ | with_reducible refine gb_alloc ?_ _ | with_reducible refine gb_drewN ?_ _ | with_reducible refine gb_drew ?_)) hg2) (by simp))
       obtain ⟨_, _, _, _, _, r0, r1, r2, r3, r4, rz⟩ := R2.out
       have rl := R2.out.lt
       clear hg2))
  all_goals
    go_wp2_with fail
    refine node_ret Tryz.results135 rfl (RB.five R2.out) rfl ?_
    refine ⟨.slice none 0 0, rfl, ?_, (by repeat (first | with_reducible exact G2.out | with_reducible refine gb_put ?_ (by omega) _ _ | with_reducible refine gb_alloc ?_ _ | with_reducible refine gb_drewN ?_ _ | with_reducible refine gb_drew ?_))⟩
    rw [HL.out]
    exact LR.nil _ _
end Go.Proofs.YtlkokcnbbihljaaGreatDoor
