/- The document's small functions of H1: numbers, relations, what operators make. -/
import Derived.Test.YtlkokcnbbihljaaGreatDoorG09
namespace Go.Proofs.YtlkokcnbbihljaaGreatDoor
open Go.RowKit

theorem mul_rng {a b : Int} (ha : -2147483647 ≤ a ∧ a ≤ 2147483647) (hb : -2147483647 ≤ b ∧ b ≤ 2147483647) : -4611686014132420609 ≤ a * b ∧ a * b ≤ 4611686014132420609 := by
  have h1 : (a * b).natAbs ≤ 2147483647 * 2147483647 := by
    rw [Int.natAbs_mul]
    exact Nat.mul_le_mul (by omega) (by omega)
  omega
theorem ret_ib {a b : Int} {c : Bool} (h : a = b) : Ending.returned (.tuple #[.int .i64 a, .bool c]) = .returned (.tuple #[.int .i64 b, .bool c]) := by rw [h]
theorem ret_i64 {a b : Int} (h : a = b) : Ending.returned (.int .i64 a) = .returned (.int .i64 b) := by rw [h]
set_option maxRecDepth 100000 in
theorem around_any (n : Int) (w : World) (_h0 : -9223372036854775807 ≤ n) (_h1 : n ≤ 9223372036854775807) : Calls Tryz.prog 67 #[.int .i64 n] w (Sy w (.int .i64 (arZ n))) := by
  go_enter Tryz.func67, Tryz.ntmps67
  have h2 := Int.mul_tdiv_add_tmod n 4294967296
  have h3 := Int.tmod_lt_of_pos n (show (0 : Int) < 4294967296 by decide)
  have h4 := Int.lt_tmod_of_pos n (show (0 : Int) < 4294967296 by decide)
  go_wp2_with fail
  all_goals
    go_ret
    refine ⟨ret_i64 ?_, gb_refl w none⟩
    unfold arZ
    omega
set_option maxRecDepth 100000 in
theorem relates_0 (a b : Int) (w : World) : Calls Tryz.prog 34 #[.string ⟨List.toArray [61]⟩, .int .i64 a, .int .i64 b] w (Sy w (.bool (relZ [61] a b))) := by
  go_enter Tryz.func34, Tryz.ntmps34
  go_wp2
  go_ret
  exact ⟨by simp [relZ]; rfl, gb_refl w none⟩
set_option maxRecDepth 100000 in
theorem relates_1 (a b : Int) (w : World) : Calls Tryz.prog 34 #[.string ⟨List.toArray [35]⟩, .int .i64 a, .int .i64 b] w (Sy w (.bool (relZ [35] a b))) := by
  go_enter Tryz.func34, Tryz.ntmps34
  go_wp2
  go_ret
  exact ⟨by simp [relZ]; rfl, gb_refl w none⟩
set_option maxRecDepth 100000 in
theorem relates_2 (a b : Int) (w : World) : Calls Tryz.prog 34 #[.string ⟨List.toArray [60]⟩, .int .i64 a, .int .i64 b] w (Sy w (.bool (relZ [60] a b))) := by
  go_enter Tryz.func34, Tryz.ntmps34
  go_wp2
  go_ret
  exact ⟨by simp [relZ], gb_refl w none⟩
set_option maxRecDepth 100000 in
theorem relates_3 (a b : Int) (w : World) : Calls Tryz.prog 34 #[.string ⟨List.toArray [60, 61]⟩, .int .i64 a, .int .i64 b] w (Sy w (.bool (relZ [60, 61] a b))) := by
  go_enter Tryz.func34, Tryz.ntmps34
  go_wp2
  go_ret
  exact ⟨by simp [relZ], gb_refl w none⟩
set_option maxRecDepth 100000 in
theorem relates_4 (a b : Int) (w : World) : Calls Tryz.prog 34 #[.string ⟨List.toArray [62]⟩, .int .i64 a, .int .i64 b] w (Sy w (.bool (relZ [62] a b))) := by
  go_enter Tryz.func34, Tryz.ntmps34
  go_wp2
  go_ret
  exact ⟨by simp [relZ], gb_refl w none⟩
set_option maxRecDepth 100000 in
theorem relates_5 (a b : Int) (w : World) : Calls Tryz.prog 34 #[.string ⟨List.toArray [62, 61]⟩, .int .i64 a, .int .i64 b] w (Sy w (.bool (relZ [62, 61] a b))) := by
  go_enter Tryz.func34, Tryz.ntmps34
  go_wp2
  go_ret
  exact ⟨by simp [relZ], gb_refl w none⟩
set_option maxRecDepth 100000 in
theorem rworked_add (a b : Int) (w : World) (ha : -2147483647 ≤ a ∧ a ≤ 2147483647) (hb : -2147483647 ≤ b ∧ b ≤ 2147483647) : Calls Tryz.prog 35 #[.string ⟨List.toArray [43]⟩, .int .i64 a, .int .i64 b] w (Sy w (.tuple #[.int .i64 (arZ (a + b)), .bool true])) := by
  have hr : -4611686014132420609 ≤ a + b ∧ a + b ≤ 4611686014132420609 := by omega
  have HR := fun w' => hide (around_any (a + b) w' (by omega) (by omega))
  go_enter Tryz.func35, Tryz.ntmps35
  go_wp2_with fail
  go_at_call 67
  refine ((HR _).out).mono ?_
  rintro e w1 ⟨rfl, hg1⟩
  go_wp2_with fail
  go_ret2
  exact ⟨rfl, hg1⟩
set_option maxRecDepth 100000 in
theorem rworked_sub (a b : Int) (w : World) (ha : -2147483647 ≤ a ∧ a ≤ 2147483647) (hb : -2147483647 ≤ b ∧ b ≤ 2147483647) : Calls Tryz.prog 35 #[.string ⟨List.toArray [45]⟩, .int .i64 a, .int .i64 b] w (Sy w (.tuple #[.int .i64 (arZ (a - b)), .bool true])) := by
  have hr : -4611686014132420609 ≤ a - b ∧ a - b ≤ 4611686014132420609 := by omega
  have HR := fun w' => hide (around_any (a - b) w' (by omega) (by omega))
  go_enter Tryz.func35, Tryz.ntmps35
  go_wp2_with fail
  go_at_call 67
  refine ((HR _).out).mono ?_
  rintro e w1 ⟨rfl, hg1⟩
  go_wp2_with fail
  go_ret2
  exact ⟨rfl, hg1⟩
set_option maxRecDepth 100000 in
theorem rworked_mul (a b : Int) (w : World) (ha : -2147483647 ≤ a ∧ a ≤ 2147483647) (hb : -2147483647 ≤ b ∧ b ≤ 2147483647) : Calls Tryz.prog 35 #[.string ⟨List.toArray [42]⟩, .int .i64 a, .int .i64 b] w (Sy w (.tuple #[.int .i64 (arZ (a * b)), .bool true])) := by
  have hr : -4611686014132420609 ≤ a * b ∧ a * b ≤ 4611686014132420609 := by exact mul_rng ha hb
  have HR := fun w' => hide (around_any (a * b) w' (by omega) (by omega))
  go_enter Tryz.func35, Tryz.ntmps35
  go_wp2_with fail
  go_at_call 67
  refine ((HR _).out).mono ?_
  rintro e w1 ⟨rfl, hg1⟩
  go_wp2_with fail
  go_ret2
  exact ⟨rfl, hg1⟩
set_option maxRecDepth 100000 in
theorem rworked_div (a b : Int) (w : World) (ha : -2147483647 ≤ a ∧ a ≤ 2147483647) (hb : 0 < b) (hb2 : b ≤ 2147483647) : Calls Tryz.prog 35 #[.string ⟨List.toArray [68, 73, 86]⟩, .int .i64 a, .int .i64 b] w (Sy w (.tuple #[.int .i64 (a / b), .bool true])) := by
  have hb0 : b ≠ 0 := by omega
  have hbb : (b == 0) = false := by rw [beq_eq_false_iff_ne]; exact hb0
  have hb9 : ¬ b ≤ 0 := by omega
  have h1 := Int.mul_tdiv_add_tmod a b
  have h2 := Int.tmod_lt_of_pos a hb
  have h3 := Int.lt_tmod_of_pos a hb
  have k1 := Int.mul_ediv_add_emod a b
  have k2 := Int.emod_nonneg a hb0
  have k3 := Int.emod_lt_of_pos a hb
  have hq := tdiv_rng ha hb
  have hn : a.tmod b < 0 → a % b = a.tmod b + b := fun h => ((Int.ediv_emod_unique hb).2 ⟨(show a.tmod b + b + b * (a.tdiv b - 1) = a by rw [Int.mul_sub, Int.mul_one]; omega), by omega, by omega⟩).2
  have hp : 0 ≤ a.tmod b → a % b = a.tmod b := fun h => ((Int.ediv_emod_unique hb).2 ⟨(show a.tmod b + b * a.tdiv b = a by omega), by omega, by omega⟩).2
  have hd : (a - a % b).tdiv b = a / b := by
    have : a - a % b = b * (a / b) := by omega
    rw [this]
    exact Int.mul_tdiv_cancel_left _ hb0
  go_enter Tryz.func35, Tryz.ntmps35
  go_wp2_with fail
  · rename_i h9
    go_ret2
    refine ⟨ret_ib ?_, gb_refl w none⟩
    rw [hn h9] at hd
    first | exact hd | (rw [← hd]; congr 1; omega)
  · rename_i h9
    go_ret2
    refine ⟨ret_ib ?_, gb_refl w none⟩
    rw [hp h9] at hd
    first | exact hd | (rw [← hd]; congr 1; omega)
set_option maxRecDepth 100000 in
theorem rworked_mod (a b : Int) (w : World) (ha : -2147483647 ≤ a ∧ a ≤ 2147483647) (hb : 0 < b) (hb2 : b ≤ 2147483647) : Calls Tryz.prog 35 #[.string ⟨List.toArray [77, 79, 68]⟩, .int .i64 a, .int .i64 b] w (Sy w (.tuple #[.int .i64 (a % b), .bool true])) := by
  have hb0 : b ≠ 0 := by omega
  have hbb : (b == 0) = false := by rw [beq_eq_false_iff_ne]; exact hb0
  have hb9 : ¬ b ≤ 0 := by omega
  have h1 := Int.mul_tdiv_add_tmod a b
  have h2 := Int.tmod_lt_of_pos a hb
  have h3 := Int.lt_tmod_of_pos a hb
  have k1 := Int.mul_ediv_add_emod a b
  have k2 := Int.emod_nonneg a hb0
  have k3 := Int.emod_lt_of_pos a hb
  have hq := tdiv_rng ha hb
  have hn : a.tmod b < 0 → a % b = a.tmod b + b := fun h => ((Int.ediv_emod_unique hb).2 ⟨(show a.tmod b + b + b * (a.tdiv b - 1) = a by rw [Int.mul_sub, Int.mul_one]; omega), by omega, by omega⟩).2
  have hp : 0 ≤ a.tmod b → a % b = a.tmod b := fun h => ((Int.ediv_emod_unique hb).2 ⟨(show a.tmod b + b * a.tdiv b = a by omega), by omega, by omega⟩).2
  have hd : (a - a % b).tdiv b = a / b := by
    have : a - a % b = b * (a / b) := by omega
    rw [this]
    exact Int.mul_tdiv_cancel_left _ hb0
  go_enter Tryz.func35, Tryz.ntmps35
  go_wp2_with fail
  · go_ret2
    exact ⟨rfl, gb_refl w none⟩
  · go_ret2
    exact ⟨rfl, gb_refl w none⟩
set_option maxRecDepth 100000 in
theorem rworked_no (x : List UInt8) (hx : x = [68, 73, 86] ∨ x = [77, 79, 68]) (a b : Int) (w : World) (hb : b ≤ 0) : Calls Tryz.prog 35 #[.string ⟨x.toArray⟩, .int .i64 a, .int .i64 b] w (Sy w (.tuple #[.int .i64 0, .bool false])) := by
  rcases hx with rfl | rfl
  · go_enter Tryz.func35, Tryz.ntmps35
    go_wp2
    go_ret2
    exact ⟨rfl, gb_refl w none⟩
  · go_enter Tryz.func35, Tryz.ntmps35
    go_wp2
    go_ret2
    exact ⟨rfl, gb_refl w none⟩
theorem relates_any {x : List UInt8} (hx : levelOf x = 0) (a b : Int) (w : World) : Calls Tryz.prog 34 #[.string ⟨x.toArray⟩, .int .i64 a, .int .i64 b] w (Sy w (.bool (relZ x a b))) := by
  have h9 : inB relL x = true := by
    unfold levelOf at hx
    split at hx
    · assumption
    · split at hx
      · cases hx
      · split at hx <;> cases hx
  have h8 : x = [61] ∨ x = [35] ∨ x = [60] ∨ x = [60, 61] ∨ x = [62] ∨ x = [62, 61] := by simpa [inB, relL] using h9
  rcases h8 with rfl | rfl | rfl | rfl | rfl | rfl
  · exact relates_0 a b w
  · exact relates_1 a b w
  · exact relates_2 a b w
  · exact relates_3 a b w
  · exact relates_4 a b w
  · exact relates_5 a b w
def workV (o : Option Int) : Value := match o with
  | some z => .tuple #[.int .i64 z, .bool true]
  | none => .tuple #[.int .i64 0, .bool false]
theorem rworked_any {x : List UInt8} (hx : x = [43] ∨ x = [45] ∨ x = [42] ∨ x = [68, 73, 86] ∨ x = [77, 79, 68]) (a b : Int) (w : World) (ha : -2147483647 ≤ a ∧ a ≤ 2147483647) (hb : -2147483647 ≤ b ∧ b ≤ 2147483647) : Calls Tryz.prog 35 #[.string ⟨x.toArray⟩, .int .i64 a, .int .i64 b] w (Sy w (workV (opZ x a b))) := by
  rcases hx with rfl | rfl | rfl | rfl | rfl
  · exact rworked_add a b w ha hb
  · exact rworked_sub a b w ha hb
  · exact rworked_mul a b w ha hb
  · by_cases h0 : b ≤ 0
    · rw [show opZ [68, 73, 86] a b = none by simp [opZ, h0]]
      exact rworked_no _ (Or.inl rfl) a b w h0
    · rw [show opZ [68, 73, 86] a b = some (a / b) by simp [opZ, h0]]
      exact rworked_div a b w ha (by omega) (by omega)
  · by_cases h0 : b ≤ 0
    · rw [show opZ [77, 79, 68] a b = none by simp [opZ, h0]]
      exact rworked_no _ (Or.inr rfl) a b w h0
    · rw [show opZ [77, 79, 68] a b = some (a % b) by simp [opZ, h0]]
      exact rworked_mod a b w ha (by omega) (by omega)
set_option maxRecDepth 100000 in
set_option maxHeartbeats 400000 in
theorem numberOf_any (t : T) (sv : Value) (S : Nat → Prop) (w : World) (ha : LR w S t.subs sv) (hg : GT t) : Calls Tryz.prog 32 #[nodeV t sv] w (Sy w (workV (numOf t))) := by
  have hrg : ∀ {v}, numOf t = some v → _ := fun {v} h => numOf_rng hg (v := v) h
  cases hg with
  | mk k x m p l hl h1 h2 h3 h4 h5 =>
    by_cases h35 : k = 35
    · subst h35
      obtain ⟨u, rfl⟩ := one_of (h1 (Or.inr rfl))
      obtain ⟨g, c, su, rfl, hn, hc, n5, au⟩ := LR.one (show LR w S [u] sv from ha)
      unfold maxLen at hc
      have hgl := block_lt n5.c0
      obtain ⟨k', x', m', p', l'⟩ := u
      obtain ⟨sa, sc, rfl⟩ := au.form
      obtain ⟨c0, c1, c2, c3, c4⟩ := n5
      by_cases hk : k' = 29
      · subst hk
        have HE : Hid (numOf (T.mk 35 x m p [T.mk 29 x' m' p' l']) = some (-m')) := rfl
        have hr := hrg HE.out
        rw [HE.out]
        clear ha au hl h1 h2 h3 h4 h5 hrg
        change Calls Tryz.prog 32 #[.agg #[.int .i64 35, .string ⟨x.toArray⟩, .int .i64 m, .int .i64 p, .slice (some ⟨g, 0, none⟩) 1 c]] w (Sy w (.tuple #[.int .i64 (-m'), .bool true]))
        change w.cell? ⟨g, 0, none⟩ = some (.int .i64 29) at c0
        change w.cell? ⟨g, 2, none⟩ = some (.int .i64 m') at c2
        go_enter Tryz.func32, Tryz.ntmps32
        go_wp2_with fail
        go_ret2
        exact ⟨rfl, (by repeat (first | with_reducible exact gb_refl w none | with_reducible refine gb_put ?_ (by omega) _ _ | with_reducible refine gb_alloc ?_ _ | with_reducible refine gb_drewN ?_ _ | with_reducible refine gb_drew ?_))⟩
      · have HE : Hid (numOf (T.mk 35 x m p [T.mk k' x' m' p' l']) = none) := by
          show _ = _
          unfold numOf
          rw [if_neg (show ¬ (T.mk 35 x m p [T.mk k' x' m' p' l']).kind = 29 by simp [T.kind]), if_neg (fun h9 => hk h9.2)]
        have hkb : (k' == 29) = false := by rw [beq_eq_false_iff_ne]; exact hk
        rw [HE.out]
        clear ha au hl h1 h2 h3 h4 h5 hrg
        change Calls Tryz.prog 32 #[.agg #[.int .i64 35, .string ⟨x.toArray⟩, .int .i64 m, .int .i64 p, .slice (some ⟨g, 0, none⟩) 1 c]] w (Sy w (.tuple #[.int .i64 0, .bool false]))
        change w.cell? ⟨g, 0, none⟩ = some (.int .i64 k') at c0
        go_enter Tryz.func32, Tryz.ntmps32
        go_wp2_with fail
        go_ret2
        exact ⟨rfl, (by repeat (first | with_reducible exact gb_refl w none | with_reducible refine gb_put ?_ (by omega) _ _ | with_reducible refine gb_alloc ?_ _ | with_reducible refine gb_drewN ?_ _ | with_reducible refine gb_drew ?_))⟩
    · obtain ⟨sa, sc, rfl⟩ := ha.form
      by_cases hk : k = 29
      · subst hk
        rw [show numOf (T.mk 29 x m p l) = some m from rfl]
        clear ha hl h1 h2 h3 h4 h5 hrg
        change Calls Tryz.prog 32 #[.agg #[.int .i64 29, .string ⟨x.toArray⟩, .int .i64 m, .int .i64 p, .slice sa l.length sc]] w (Sy w (.tuple #[.int .i64 m, .bool true]))
        go_enter Tryz.func32, Tryz.ntmps32
        go_wp2_with fail
        go_ret2
        exact ⟨rfl, (by repeat (first | with_reducible exact gb_refl w none | with_reducible refine gb_put ?_ (by omega) _ _ | with_reducible refine gb_alloc ?_ _ | with_reducible refine gb_drewN ?_ _ | with_reducible refine gb_drew ?_))⟩
      · have HE : Hid (numOf (T.mk k x m p l) = none) := by
          show _ = _
          unfold numOf
          rw [if_neg (show ¬ (T.mk k x m p l).kind = 29 from hk), if_neg (fun h9 => h35 h9.1)]
        have hk1 : (k == 29) = false := by rw [beq_eq_false_iff_ne]; exact hk
        have hk2 : (k == 35) = false := by rw [beq_eq_false_iff_ne]; exact h35
        rw [HE.out]
        clear ha hl h1 h2 h3 h4 h5 hrg
        change Calls Tryz.prog 32 #[.agg #[.int .i64 k, .string ⟨x.toArray⟩, .int .i64 m, .int .i64 p, .slice sa l.length sc]] w (Sy w (.tuple #[.int .i64 0, .bool false]))
        go_enter Tryz.func32, Tryz.ntmps32
        go_wp2_with fail
        go_ret2
        exact ⟨rfl, (by repeat (first | with_reducible exact gb_refl w none | with_reducible refine gb_put ?_ (by omega) _ _ | with_reducible refine gb_alloc ?_ _ | with_reducible refine gb_drewN ?_ _ | with_reducible refine gb_drew ?_))⟩
end Go.Proofs.YtlkokcnbbihljaaGreatDoor
