/- The program's small functions of tidy: truths, numbers, what is idle. -/
import Derived.Test.YtlkokcnbbihljaaGreatDoorG04
import Derived.Test.YtlkokcnbbihljaaGreatDoorG05
namespace Go.Proofs.YtlkokcnbbihljaaGreatDoor
open Go.RowKit

set_option maxRecDepth 100000 in
theorem truthNode_any (b : Bool) (p : Int) (w : World) : Calls Tryz.prog 107 #[.bool b, .int .i64 p] w (Sy w (nodeV (boolT b p) (.slice none 0 0))) := by
  cases b
  · go_enter Tryz.func107, Tryz.ntmps107
    go_wp2
    refine bodyPost_ret (v := .agg #[.int .i64 31, .string ⟨#[]⟩, .int .i64 0, .int .i64 p, .slice none 0 0]) (by simp [results, Tryz.results107, go_sem]) rfl ⟨rfl, (by repeat (first | with_reducible exact gb_refl w none | with_reducible refine gb_put ?_ (by omega) _ _ | with_reducible refine gb_alloc ?_ _ | with_reducible refine gb_drewN ?_ _ | with_reducible refine gb_drew ?_))⟩
  · go_enter Tryz.func107, Tryz.ntmps107
    go_wp2
    refine bodyPost_ret (v := .agg #[.int .i64 30, .string ⟨#[]⟩, .int .i64 0, .int .i64 p, .slice none 0 0]) (by simp [results, Tryz.results107, go_sem]) rfl ⟨rfl, (by repeat (first | with_reducible exact gb_refl w none | with_reducible refine gb_put ?_ (by omega) _ _ | with_reducible refine gb_alloc ?_ _ | with_reducible refine gb_drewN ?_ _ | with_reducible refine gb_drew ?_))⟩
set_option maxRecDepth 100000 in
theorem truth_any (k : Int) (x : List UInt8) (m p : Int) (sa : Option Addr) (sn sc : Nat) (w : World) : Calls Tryz.prog 106 #[.agg #[.int .i64 k, .string ⟨x.toArray⟩, .int .i64 m, .int .i64 p, .slice sa sn sc]] w (Sy w (.tuple #[.bool (decide (k = 30)), .bool (decide (k = 30 ∨ k = 31))])) := by
  by_cases h30 : k = 30
  · have h1 : (k == 30) = true := by rw [h30]; rfl
    have e1 : decide (k = 30) = true := by simp [h30]
    have e2 : decide (k = 30 ∨ k = 31) = true := by simp [h30]
    rw [e1, e2]
    clear e1 e2 h30
    go_enter Tryz.func106, Tryz.ntmps106
    go_wp2_with fail
    go_region
    go_wp2_with fail
    go_ret2
    exact ⟨rfl, (by repeat (first | with_reducible exact gb_refl w none | with_reducible refine gb_put ?_ (by omega) _ _ | with_reducible refine gb_alloc ?_ _ | with_reducible refine gb_drewN ?_ _ | with_reducible refine gb_drew ?_))⟩
  · by_cases h31 : k = 31
    · have h1 : (k == 30) = false := by rw [beq_eq_false_iff_ne]; exact h30
      have h2 : (k == 31) = true := by rw [h31]; rfl
      have e1 : decide (k = 30) = false := by simp [h30]
      have e2 : decide (k = 30 ∨ k = 31) = true := by simp [h31]
      rw [e1, e2]
      clear e1 e2 h30 h31
      go_enter Tryz.func106, Tryz.ntmps106
      go_wp2_with fail
      go_region
      go_wp2_with fail
      go_ret2
      exact ⟨rfl, (by repeat (first | with_reducible exact gb_refl w none | with_reducible refine gb_put ?_ (by omega) _ _ | with_reducible refine gb_alloc ?_ _ | with_reducible refine gb_drewN ?_ _ | with_reducible refine gb_drew ?_))⟩
    · have h1 : (k == 30) = false := by rw [beq_eq_false_iff_ne]; exact h30
      have h2 : (k == 31) = false := by rw [beq_eq_false_iff_ne]; exact h31
      have e1 : decide (k = 30) = false := by simp [h30]
      have e2 : decide (k = 30 ∨ k = 31) = false := by simp [h30, h31]
      rw [e1, e2]
      clear e1 e2 h30 h31
      go_enter Tryz.func106, Tryz.ntmps106
      go_wp2_with fail
      go_region
      go_wp2_with fail
      go_ret2
      exact ⟨rfl, (by repeat (first | with_reducible exact gb_refl w none | with_reducible refine gb_put ?_ (by omega) _ _ | with_reducible refine gb_alloc ?_ _ | with_reducible refine gb_drewN ?_ _ | with_reducible refine gb_drew ?_))⟩
set_option maxRecDepth 100000 in
theorem positive_any (k : Int) (x : List UInt8) (m p : Int) (sa : Option Addr) (sn sc : Nat) (w : World) : Calls Tryz.prog 142 #[.agg #[.int .i64 k, .string ⟨x.toArray⟩, .int .i64 m, .int .i64 p, .slice sa sn sc]] w (Sy w (.tuple #[.int .i32 (wrap32 m), .bool (k == 29)])) := by
  go_enter Tryz.func142, Tryz.ntmps142
  go_wp2_with fail
  go_region
  go_wp2_with fail
  go_ret2
  exact ⟨rfl, (by repeat (first | with_reducible exact gb_refl w none | with_reducible refine gb_put ?_ (by omega) _ _ | with_reducible refine gb_alloc ?_ _ | with_reducible refine gb_drewN ?_ _ | with_reducible refine gb_drew ?_))⟩
theorem w32_in {m : Int} (h0 : -2147483648 ≤ m) (h1 : m ≤ 2147483647) : wrap32 m = m := by unfold wrap32; omega
/-- A node comes out, its parts in memory; what was there stays. -/
def NO (w : World) (t : T) : Ending → World → Prop := fun e w' => ∃ sv, e = .returned (nodeV t sv) ∧ AT w' t.subs sv ∧ w.grownBy w' none
set_option maxRecDepth 100000 in
set_option maxHeartbeats 400000 in
theorem number_any (t : T) (sv : Value) (w : World) (ha : AT w t.subs sv) (hg : GT t) : Calls Tryz.prog 134 #[nodeV t sv] w fun e w' => ∃ z, e = .returned (.tuple #[.int .i32 z, .bool (numOf t).isSome]) ∧ (∀ v, numOf t = some v → z = v) ∧ w.grownBy w' none := by
  cases hg with
  | mk k x m p l hl h1 h2 h3 h4 h5 =>
    by_cases h35 : k = 35
    · subst h35
      obtain ⟨u, rfl⟩ : ∃ u, l = [u] := by
        have := h1 (Or.inr rfl)
        match l, this with
        | [u], _ => exact ⟨u, rfl⟩
      have hgu := hl u (by simp)
      obtain ⟨g, o, c, u', su, rfl, hn, hc, hl9, n5, fu, au⟩ := ha.one rfl
      obtain rfl : u = u' := by simpa [T.subs] using hl9
      have hgl := block_lt n5.c0
      obtain ⟨sa, sn, sc, rfl⟩ : ∃ a n c, su = .slice a n c := by obtain ⟨a, c, e, _, _⟩ := au.form; exact ⟨_, _, _, e⟩
      have HN : Hid (numOf (T.mk 35 x m p [u]) = if u.kind = 29 then some (-u.num) else none) := by
        show _ = _
        have e : subT (T.mk 35 x m p [u]) 0 = u := rfl
        unfold numOf
        rw [e, if_neg (by simp [T.kind])]
        by_cases h : u.kind = 29
        · rw [if_pos ⟨rfl, h⟩, if_pos h]
        · rw [if_neg (fun h9 => h h9.2), if_neg h]
      obtain ⟨k', x', m', p', l'⟩ := u
      have hm : k' = 29 → 0 ≤ m' ∧ m' ≤ 2147483647 := by cases hgu with | mk _ _ _ _ _ _ _ _ _ h9 _ => exact h9
      have HG := hide hm
      obtain ⟨c0, c1, c2, c3, c4⟩ := n5
      clear ha fu au hl h1 h2 h3 h4 h5 hl9 hgu hm
      change Calls Tryz.prog 134 #[.agg #[.int .i64 35, .string ⟨x.toArray⟩, .int .i64 m, .int .i64 p, .slice (some ⟨g, o, none⟩) 1 c]] w _
      go_enter Tryz.func134, Tryz.ntmps134
      go_wp2_with fail
      go_at_call 142
      refine (positive_any k' x' m' p' sa sn sc _).mono ?_
      rintro e w1 ⟨rfl, hg1⟩
      have G1 : Hid (w.grownBy w1 none) := gb_trans (by repeat (first | with_reducible exact gb_refl w none | with_reducible refine gb_put ?_ (by omega) _ _ | with_reducible refine gb_alloc ?_ _ | with_reducible refine gb_drewN ?_ _ | with_reducible refine gb_drew ?_)) hg1
      clear hg1
      go_wp2_with fail
      go_ret2
      refine ⟨wrap32 (-wrap32 m'), ?_, ?_, G1.out⟩
      · show Ending.returned (.tuple #[.int .i32 (wrap32 (-wrap32 m')), .bool (k' == 29)]) = _
        rw [HN.out]
        change _ = Ending.returned (.tuple #[_, .bool (if k' = 29 then some (-m') else none).isSome])
        by_cases h : k' = 29
        · rw [if_pos h]
          subst h
          rfl
        · rw [if_neg h, beq_eq_false_iff_ne.2 h]
          rfl
      · intro v hv
        rw [HN.out] at hv
        split at hv
        · rename_i h
          have := HG.out h
          cases hv
          rw [w32_in (m := m') (by omega) (by omega)]
          exact w32_in (by show -2147483648 ≤ -m'; omega) (by show -m' ≤ 2147483647; omega)
        · cases hv
    · obtain ⟨sa, sc, rfl, hn, hcc⟩ := ha.form
      have hk0 : (k == 35) = false := by rw [beq_eq_false_iff_ne]; exact h35
      have HN : Hid (numOf (T.mk k x m p l) = if k = 29 then some m else none) := by
        show _ = _
        unfold numOf
        by_cases h : k = 29
        · rw [if_pos (show (T.mk k x m p l).kind = 29 from h), if_pos h]; rfl
        · rw [if_neg (show ¬ (T.mk k x m p l).kind = 29 from h), if_neg (fun h9 => h35 h9.1), if_neg h]
      have HG := hide h4
      clear ha hl h1 h2 h3 h4 h5 hcc
      change Calls Tryz.prog 134 #[.agg #[.int .i64 k, .string ⟨x.toArray⟩, .int .i64 m, .int .i64 p, .slice sa l.length sc]] w _
      go_enter Tryz.func134, Tryz.ntmps134
      go_wp2_with fail
      go_at_call 142
      refine (positive_any k x m p sa l.length sc _).mono ?_
      rintro e w1 ⟨rfl, hg1⟩
      have G1 : Hid (w.grownBy w1 none) := gb_trans (by repeat (first | with_reducible exact gb_refl w none | with_reducible refine gb_put ?_ (by omega) _ _ | with_reducible refine gb_alloc ?_ _ | with_reducible refine gb_drewN ?_ _ | with_reducible refine gb_drew ?_)) hg1
      clear hg1
      go_wp2_with fail
      go_ret2
      refine ⟨wrap32 m, ?_, ?_, G1.out⟩
      · show Ending.returned (.tuple #[.int .i32 (wrap32 m), .bool (k == 29)]) = _
        rw [HN.out]
        by_cases h : k = 29
        · rw [if_pos h]
          subst h
          rfl
        · rw [if_neg h, beq_eq_false_iff_ne.2 h]
          rfl
      · intro v hv
        rw [HN.out] at hv
        split at hv
        · rename_i h
          have := HG.out h
          cases hv
          exact w32_in (by omega) (by omega)
        · cases hv
set_option maxRecDepth 100000 in
theorem numberNode_pos (v p : Int) (h0 : 0 ≤ v) (h1 : v ≤ 2147483647) (w : World) : Calls Tryz.prog 144 #[.int .i32 v, .int .i64 p] w (Sy w (nodeV (.mk 29 [] v p []) (.slice none 0 0))) := by
  have h2 : ¬ v < 0 := by omega
  go_enter Tryz.func144, Tryz.ntmps144
  go_wp2
  refine bodyPost_ret (v := .agg #[.int .i64 29, .string ⟨#[]⟩, .int .i64 v, .int .i64 p, .slice none 0 0]) (by simp [results, Tryz.results144, go_sem]) rfl ⟨rfl, (by repeat (first | with_reducible exact gb_refl w none | with_reducible refine gb_put ?_ (by omega) _ _ | with_reducible refine gb_alloc ?_ _ | with_reducible refine gb_drewN ?_ _ | with_reducible refine gb_drew ?_))⟩
end Go.Proofs.YtlkokcnbbihljaaGreatDoor
