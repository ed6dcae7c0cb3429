/- How many nodes a tree has, and how deep it is, as the document counts them, up to a bound. -/
import Derived.Test.YtlkokcnbbihljaaGreatDoorG05
import Derived.Test.YtlkokcnbbihljaaGreatDoorG26
namespace Go.Proofs.YtlkokcnbbihljaaGreatDoor
open Go.RowKit

theorem countL_take {l : List T} {i : Nat} {u : T} (hu : l[i]? = some u) : countL (l.take (i + 1)) = countL (l.take i) + countT u := by
  rw [List.take_add_one, hu, countL_append]
  simp [countL]
theorem depthL_append (l m : List T) : depthL (l ++ m) = max (depthL l) (depthL m) := by
  induction l with
  | nil => rw [List.nil_append, depthL]; omega
  | cons t l ih => rw [List.cons_append, depthL, depthL, ih]; omega
theorem depthL_take {l : List T} {i : Nat} {u : T} (hu : l[i]? = some u) : depthL (l.take (i + 1)) = max (depthL (l.take i)) (depthT u) := by
  rw [List.take_add_one, hu, depthL_append]
  simp [depthL]
theorem depthT_eq (t : T) : depthT t = 1 + depthL t.subs := by obtain ⟨k, x, n, a, l⟩ := t; rw [depthT]; rfl
theorem countL_le (l : List T) (i : Nat) : countL (l.take i) ≤ countL l := by
  have h : countL (l.take i ++ l.drop i) = countL (l.take i) + countL (l.drop i) := countL_append _ _
  rw [List.take_append_drop] at h
  omega
theorem depthL_le (l : List T) (i : Nat) : depthL (l.take i) ≤ depthL l := by
  have h : depthL (l.take i ++ l.drop i) = max (depthL (l.take i)) (depthL (l.drop i)) := depthL_append _ _
  rw [List.take_append_drop] at h
  omega

set_option maxRecDepth 1000000 in
set_option maxHeartbeats 1000000 in
theorem count_step (t : T) (IH : ∀ u, u ∈ t.subs → ∀ (sv : Value) (w : World) (most : Nat), most ≤ 3000 → AT w u.subs sv → Calls Tryz.prog 14 #[nodeV u sv, .int .i64 most] w (Sy w (.int .i64 ↑(min (countT u) (most + 1)))))
    (sv : Value) (w : World) (most : Nat) (hm : most ≤ 3000) (ha : AT w t.subs sv) : Calls Tryz.prog 14 #[nodeV t sv, .int .i64 most] w (Sy w (.int .i64 ↑(min (countT t) (most + 1)))) := by
  obtain ⟨kd, x, m, p, l⟩ := t
  have HA := hide ha
  have HI := hide IH
  obtain ⟨a, n, c, rfl, hn, hc, hl⟩ := ha.any
  change l.length = n at hl
  subst hl
  clear ha IH
  change Calls Tryz.prog 14 #[.agg #[.int .i64 kd, .string ⟨x.toArray⟩, .int .i64 m, .int .i64 p, .slice a l.length c], .int .i64 most] w _
  go_enter Tryz.func14, Tryz.ntmps14
  go_wp2_with fail
  go_loopw [5, 6] (fun kv iv wr => ∃ (k i : Nat), i ≤ l.length ∧ k ≤ 3001 ∧ iv = .int .i64 ↑i ∧ kv = .int .i64 ↑k ∧ Hid (k = min (1 + countL (l.take i)) (most + 1)) ∧ Hid (w.grownBy wr none) ∧ Hid (Box wr w.heap.size (.mk kd x m p l) (.slice a l.length c))) (fun _ iv _ => l.length - (intOf iv).toNat)
  case atStart => exact ⟨1, 0, Nat.zero_le _, by omega, rfl, rfl, by show _ = _; simp [countL], gb_alloc (gb_refl w none) _, Box.new w (.mk kd x m p l) (.slice a l.length c) 24⟩
  case round =>
    obtain ⟨k, i, hi, hk, rfl, rfl, HC, HG, HX⟩ := hrel
    obtain ⟨b0, b1, b2, b3, b4⟩ := HX.out
    by_cases hlt : i < l.length
    · by_cases hle : k ≤ most
      · obtain ⟨u, hu⟩ : ∃ u, l[i]? = some u := ⟨_, List.getElem?_eq_getElem hlt⟩
        obtain ⟨g, o, su, e1, n5, -, au⟩ := (HA.out.kept HG.out).node i u hu
        cases e1
        have HN : Hid (k + min (countT u) (most - k + 1) = min (1 + countL (l.take (i + 1))) (most + 1)) := by
          show _ = _
          have h1 := HC.out
          rw [countL_take hu]
          omega
        have IU := hide (fun w' => HI.out u (List.mem_of_getElem? hu) su w' (most - k) (by omega))
        have AU := hide au
        have hcast : ((most - k : Nat) : Int) = (most : Int) - (k : Int) := by omega
        obtain ⟨c0, c1, c2, c3, c4⟩ := n5
        clear hu au
        have IV : Hid (Calls Tryz.prog 14 #[nodeV u su, .int .i64 ((most : Int) - (k : Int))] wr (Sy wr (.int .i64 ↑(min (countT u) (most - k + 1))))) := by
          have h8 := IU.out wr AU.out
          rw [hcast] at h8
          exact h8
        have hb9 : min (countT u) (most - k + 1) ≤ 3001 := by omega
        clear IU hcast
        generalize min (countT u) (most - k + 1) = r at *
        go_wp2_with fail
        go_at_call 14
        refine IV.out.mono ?_
        rintro e w1 ⟨rfl, hg1⟩
        have G1 : Hid (w.grownBy w1 none) := gb_trans HG.out hg1
        have B1 := hide (HX.out.kept hg1)
        clear hg1
        have hk2 : k + r ≤ 3001 := by have := HN.out; omega
        go_wp2_with fail
        exact ⟨⟨k + r, i + 1, by omega, hk2, by go_num, by go_num, HN, G1, B1⟩, by simp [intOf]; omega⟩
      · have HQ : Hid (k = min (countT (T.mk kd x m p l)) (most + 1)) := by
          show _ = _
          have h1 := HC.out
          have h2 := countL_le l i
          have h3 : countT (T.mk kd x m p l) = 1 + countL l := countT_eq _
          omega
        have hleb : decide ((k : Int) ≤ (most : Int)) = false := by simp; omega
        go_wp2_with fail
        go_ret
        exact ⟨by rw [HQ.out]; rfl, HG.out⟩
    · have HQ : Hid (k = min (countT (T.mk kd x m p l)) (most + 1)) := by
        show _ = _
        have h1 := HC.out
        rw [List.take_of_length_le (by omega)] at h1
        have h3 : countT (T.mk kd x m p l) = 1 + countL l := countT_eq _
        omega
      go_wp2_with fail
      go_ret
      exact ⟨by rw [HQ.out]; rfl, HG.out⟩
theorem count_any (t : T) : ∀ (sv : Value) (w : World) (most : Nat), most ≤ 3000 → AT w t.subs sv → Calls Tryz.prog 14 #[nodeV t sv, .int .i64 most] w (Sy w (.int .i64 ↑(min (countT t) (most + 1)))) :=
  fun sv w most hm ha => count_step t (fun u _hu => count_any u) sv w most hm ha
  termination_by SizeOf.sizeOf t
  decreasing_by
    obtain ⟨k, x, m, a, l⟩ := t
    have h9 := List.sizeOf_lt_of_mem (show u ∈ l from _hu)
    simp only [T.mk.sizeOf_spec]
    omega

set_option maxRecDepth 1000000 in
set_option maxHeartbeats 1000000 in
theorem deep_step (t : T) (IH : ∀ u, u ∈ t.subs → ∀ (sv : Value) (w : World) (most : Nat), most ≤ 60 → AT w u.subs sv → Calls Tryz.prog 15 #[nodeV u sv, .int .i64 most] w (Sy w (.int .i64 ↑(min (depthT u) (most + 1)))))
    (sv : Value) (w : World) (most : Nat) (hm : most ≤ 60) (ha : AT w t.subs sv) : Calls Tryz.prog 15 #[nodeV t sv, .int .i64 most] w (Sy w (.int .i64 ↑(min (depthT t) (most + 1)))) := by
  obtain ⟨kd, x, m, p, l⟩ := t
  have HA := hide ha
  have HI := hide IH
  obtain ⟨a, n, c, rfl, hn, hc, hl⟩ := ha.any
  change l.length = n at hl
  subst hl
  clear ha IH
  change Calls Tryz.prog 15 #[.agg #[.int .i64 kd, .string ⟨x.toArray⟩, .int .i64 m, .int .i64 p, .slice a l.length c], .int .i64 most] w _
  go_enter Tryz.func15, Tryz.ntmps15
  go_wp2_with fail
  go_loopw [5, 6] (fun kv iv wr => ∃ (k i : Nat), i ≤ l.length ∧ k ≤ 60 ∧ iv = .int .i64 ↑i ∧ kv = .int .i64 ↑k ∧ Hid (k = min (depthL (l.take i)) most) ∧ Hid (w.grownBy wr none) ∧ Hid (Box wr w.heap.size (.mk kd x m p l) (.slice a l.length c))) (fun _ iv _ => l.length - (intOf iv).toNat)
  case atStart => exact ⟨0, 0, Nat.zero_le _, by omega, rfl, rfl, by show _ = _; simp [depthL], gb_alloc (gb_refl w none) _, Box.new w (.mk kd x m p l) (.slice a l.length c) 24⟩
  case round =>
    obtain ⟨k, i, hi, hk, rfl, rfl, HC, HG, HX⟩ := hrel
    obtain ⟨b0, b1, b2, b3, b4⟩ := HX.out
    have h3 : depthT (T.mk kd x m p l) = 1 + depthL l := depthT_eq _
    by_cases hlt : i < l.length
    · by_cases hle : k < most
      · obtain ⟨u, hu⟩ : ∃ u, l[i]? = some u := ⟨_, List.getElem?_eq_getElem hlt⟩
        obtain ⟨g, o, su, e1, n5, -, au⟩ := (HA.out.kept HG.out).node i u hu
        cases e1
        have HN : Hid (max k (min (depthT u) (most - 1 + 1)) = min (depthL (l.take (i + 1))) most) := by
          show _ = _
          have h1 := HC.out
          rw [depthL_take hu]
          omega
        have IU := hide (fun w' => HI.out u (List.mem_of_getElem? hu) su w' (most - 1) (by omega))
        have AU := hide au
        have hcast : ((most - 1 : Nat) : Int) = (most : Int) - 1 := by omega
        obtain ⟨c0, c1, c2, c3, c4⟩ := n5
        clear hu au h3
        have IV : Hid (Calls Tryz.prog 15 #[nodeV u su, .int .i64 ((most : Int) - 1)] wr (Sy wr (.int .i64 ↑(min (depthT u) (most - 1 + 1))))) := by
          have h8 := IU.out wr AU.out
          rw [hcast] at h8
          exact h8
        have hb9 : min (depthT u) (most - 1 + 1) ≤ 60 := by omega
        clear IU hcast
        generalize min (depthT u) (most - 1 + 1) = r at *
        by_cases hgt : k < r
        · have HN2 : Hid (r = min (depthL (l.take (i + 1))) most) := by show _ = _; have := HN.out; omega
          clear HN
          go_wp2_with fail
          go_at_call 15
          refine IV.out.mono ?_
          rintro e w1 ⟨rfl, hg1⟩
          have G1 : Hid (w.grownBy w1 none) := gb_trans HG.out hg1
          have B1 := hide (HX.out.kept hg1)
          clear hg1
          go_wp2_with fail
          exact ⟨⟨r, i + 1, by omega, hb9, by go_num, rfl, HN2, G1, B1⟩, by simp [intOf]; omega⟩
        · have HN2 : Hid (k = min (depthL (l.take (i + 1))) most) := by show _ = _; have := HN.out; omega
          clear HN
          go_wp2_with fail
          go_at_call 15
          refine IV.out.mono ?_
          rintro e w1 ⟨rfl, hg1⟩
          have G1 : Hid (w.grownBy w1 none) := gb_trans HG.out hg1
          have B1 := hide (HX.out.kept hg1)
          clear hg1
          go_wp2_with fail
          exact ⟨⟨k, i + 1, by omega, hk, by go_num, rfl, HN2, G1, B1⟩, by simp [intOf]; omega⟩
      · have HQ : Hid (k + 1 = min (depthT (T.mk kd x m p l)) (most + 1)) := by
          show _ = _
          have h1 := HC.out
          have h2 := depthL_le l i
          omega
        have hleb : decide ((k : Int) < (most : Int)) = false := by simp; omega
        clear h3
        go_wp2_with fail
        go_ret
        exact ⟨by rw [← HQ.out]; go_num, HG.out⟩
    · have HQ : Hid (k + 1 = min (depthT (T.mk kd x m p l)) (most + 1)) := by
        show _ = _
        have h1 := HC.out
        rw [List.take_of_length_le (by omega)] at h1
        omega
      clear h3
      go_wp2_with fail
      go_ret
      exact ⟨by rw [← HQ.out]; go_num, HG.out⟩
theorem deep_any (t : T) : ∀ (sv : Value) (w : World) (most : Nat), most ≤ 60 → AT w t.subs sv → Calls Tryz.prog 15 #[nodeV t sv, .int .i64 most] w (Sy w (.int .i64 ↑(min (depthT t) (most + 1)))) :=
  fun sv w most hm ha => deep_step t (fun u _hu => deep_any u) sv w most hm ha
  termination_by SizeOf.sizeOf t
  decreasing_by
    obtain ⟨k, x, m, a, l⟩ := t
    have h9 := List.sizeOf_lt_of_mem (show u ∈ l from _hu)
    simp only [T.mk.sizeOf_spec]
    omega
def hugeB (t : T) : Bool := decide (3000 < countT t ∨ 60 < depthT t)
set_option maxRecDepth 1000000 in
set_option maxHeartbeats 1000000 in
theorem huge_any (t : T) (sv : Value) (w : World) (ha : AT w t.subs sv) : Calls Tryz.prog 5 #[nodeV t sv] w (Sy w (.bool (hugeB t))) := by
  obtain ⟨kd, x, m, p, l⟩ := t
  have HA := hide ha
  obtain ⟨a, n, c, rfl, hn, hc, hl⟩ := ha.any
  change l.length = n at hl
  subst hl
  clear ha
  change Calls Tryz.prog 5 #[.agg #[.int .i64 kd, .string ⟨x.toArray⟩, .int .i64 m, .int .i64 p, .slice a l.length c]] w _
  have HC := fun w' h => hide (count_any (.mk kd x m p l) (.slice a l.length c) w' 3000 (by omega) h)
  have HD := fun w' h => hide (deep_any (.mk kd x m p l) (.slice a l.length c) w' 60 (by omega) h)
  have h1 : min (countT (T.mk kd x m p l)) (3000 + 1) ≤ 3001 := by omega
  have h2 : min (depthT (T.mk kd x m p l)) (60 + 1) ≤ 61 := by omega
  have HH : Hid (hugeB (.mk kd x m p l) = decide (3000 < min (countT (T.mk kd x m p l)) (3000 + 1) ∨ 60 < min (depthT (T.mk kd x m p l)) (60 + 1))) := by
    show _ = _
    unfold hugeB
    congr 1
    rw [eq_iff_iff]
    omega
  generalize min (countT (T.mk kd x m p l)) (3000 + 1) = r at *
  generalize min (depthT (T.mk kd x m p l)) (60 + 1) = d at *
  rw [HH.out]
  by_cases h3 : 3000 < r
  · rw [decide_eq_true (Or.inl h3)]
    go_enter Tryz.func5, Tryz.ntmps5
    go_wp2_with fail
    go_at_call 14
    refine (HC _ (HA.out.kept (gb_alloc (gb_refl w none) _))).out.mono ?_
    rintro e w1 ⟨rfl, hg1⟩
    have G1 : Hid (w.grownBy w1 none) := gb_trans (gb_alloc (gb_refl w none) _) hg1
    go_wp2_with fail
    go_ret
    exact ⟨rfl, G1.out⟩
  · rw [show decide (3000 < r ∨ 60 < d) = decide (60 < d) by simp [h3]]
    have h3b : decide ((3000 : Int) < (r : Int)) = false := by simp; omega
    go_enter Tryz.func5, Tryz.ntmps5
    go_wp2_with fail
    go_at_call 14
    refine (HC _ (HA.out.kept (gb_alloc (gb_refl w none) _))).out.mono ?_
    rintro e w1 ⟨rfl, hg1⟩
    have G1 : Hid (w.grownBy w1 none) := gb_trans (gb_alloc (gb_refl w none) _) hg1
    have B1 := hide ((Box.new w (.mk kd x m p l) (.slice a l.length c) 24).kept hg1)
    obtain ⟨b0, b1, b2, b3, b4⟩ := B1.out
    go_wp2_with fail
    go_at_call 15
    refine (HD _ (HA.out.kept G1.out)).out.mono ?_
    rintro e w2 ⟨rfl, hg2⟩
    have G2 : Hid (w.grownBy w2 none) := gb_trans G1.out hg2
    go_wp2_with fail
    go_ret
    refine ⟨ret_bool ?_, G2.out⟩
    rw [Bool.eq_iff_iff]
    simp
    omega
end Go.Proofs.YtlkokcnbbihljaaGreatDoor
