/- Two trees in memory of one tree are equal. -/
import Derived.Test.YtlkokcnbbihljaaGreatDoorG07
namespace Go.Proofs.YtlkokcnbbihljaaGreatDoor
open Go.RowKit

theorem flatN_get : ∀ (ts : List T) (svs : List Value) (i : Nat) (t : T) (sv : Value) (j : Nat), svs.length = ts.length → ts[i]? = some t → svs[i]? = some sv → j < 5 → (flatN ts svs)[i * 5 + j]? = (headC t sv)[j]?
  | [], _, i, t, sv, j, _, h, _, _ => by simp at h
  | t0 :: ts, [], i, t, sv, j, h, _, _, _ => by simp at h
  | t0 :: ts, s0 :: svs, 0, t, sv, j, h, ht, hs, hj => by
    cases ht
    cases hs
    rw [flatN, Nat.zero_mul, Nat.zero_add, List.getElem?_append_left (by simpa [headC] using hj)]
  | t0 :: ts, s0 :: svs, i + 1, t, sv, j, h, ht, hs, hj => by
    rw [flatN, List.getElem?_append_right (by simp [headC]; omega)]
    have := flatN_get ts svs i t sv j (by simpa using h) (by simpa using ht) (by simpa using hs) hj
    rw [← this]
    congr 1
    simp [headC]
    omega

/-- The cells of one of a list's trees, and what is below it. -/
theorem LR.node {w : World} {S : Nat → Prop} {ts : List T} {v : Value} (h : LR w S ts v) (i : Nat) (t : T) (ht : ts[i]? = some t) : ∃ g cap sv, v = .slice (some ⟨g, 0, none⟩) ts.length cap ∧ ts.length ≤ maxLen ∧ LR w (fun _ => True) t.subs sv ∧
    w.cell? ⟨g, i * 5, none⟩ = some (.int .i64 t.kind) ∧ w.cell? ⟨g, i * 5 + 1, none⟩ = some (.string ⟨t.name.toArray⟩) ∧ w.cell? ⟨g, i * 5 + 2, none⟩ = some (.int .i64 t.num) ∧ w.cell? ⟨g, i * 5 + 3, none⟩ = some (.int .i64 t.at') ∧ w.cell? ⟨g, i * 5 + 4, none⟩ = some sv := by
  obtain ⟨svs, hl, own, hin, hsub⟩ := h.own
  have hi : i < ts.length := by
    rcases Nat.lt_or_ge i ts.length with h9 | h9
    · exact h9
    · rw [List.getElem?_eq_none h9] at ht; cases ht
  obtain ⟨sv, hsv⟩ : ∃ sv, svs[i]? = some sv := ⟨_, List.getElem?_eq_getElem (by omega)⟩
  rcases own.2 with ⟨_, h0⟩ | ⟨g, cap, cur, rfl, hx⟩
  · omega
  · have key : ∀ j, j < 5 → w.cell? ⟨g, i * 5 + j, none⟩ = (headC t sv)[j]? := fun j hj => (own.cellAt (i * 5 + j) (by omega)).trans (flatN_get ts svs i t sv j hl ht hsv hj)
    exact ⟨g, cap, sv, rfl, by omega, (hsub i t sv ht hsv).mono (fun _ _ => trivial), key 0 (by omega), key 1 (by omega), key 2 (by omega), key 3 (by omega), key 4 (by omega)⟩

theorem LR.nodeS {w : World} {S : Nat → Prop} {ts : List T} {v : Value} (h : LR w S ts v) (i : Nat) (t : T) (ht : ts[i]? = some t) : ∃ g cap sv, v = .slice (some ⟨g, 0, none⟩) ts.length cap ∧ ts.length ≤ cap ∧ cap ≤ maxLen ∧ S g ∧ Node5 w g (i * 5) t sv ∧ LR w (fun k => S k ∧ g ≠ k) t.subs sv := by
  obtain ⟨svs, hl, own, hin, hsub⟩ := h.own
  have hi : i < ts.length := by
    rcases Nat.lt_or_ge i ts.length with h9 | h9
    · exact h9
    · rw [List.getElem?_eq_none h9] at ht; cases ht
  obtain ⟨sv, hsv⟩ : ∃ sv, svs[i]? = some sv := ⟨_, List.getElem?_eq_getElem (by omega)⟩
  rcases own.2 with ⟨_, h0⟩ | ⟨g, cap, cur, rfl, hx⟩
  · omega
  · have key : ∀ j, j < 5 → w.cell? ⟨g, i * 5 + j, none⟩ = (headC t sv)[j]? := fun j hj => (own.cellAt (i * 5 + j) (by omega)).trans (flatN_get ts svs i t sv j hl ht hsv hj)
    exact ⟨g, cap, sv, rfl, hx.2.2.1, hx.2.2.2.1, hin g rfl, ⟨key 0 (by omega), key 1 (by omega), key 2 (by omega), key 3 (by omega), key 4 (by omega)⟩, (hsub i t sv ht hsv).mono (fun k hk => ⟨hk.1, fun e => hk.2 (by rw [e]; rfl)⟩)⟩
theorem LR.one {w : World} {S : Nat → Prop} {a : T} {v : Value} (h : LR w S [a] v) : ∃ g cap sa, v = .slice (some ⟨g, 0, none⟩) 1 cap ∧ 1 ≤ cap ∧ cap ≤ maxLen ∧ Node5 w g 0 a sa ∧ LR w S a.subs sa := by
  obtain ⟨g, cap, sa, e, h1, h2, _, h3, h4⟩ := h.nodeS 0 a rfl
  exact ⟨g, cap, sa, e, h1, h2, by simpa using h3, h4.mono (fun k hk => hk.1)⟩
theorem LR.two {w : World} {S : Nat → Prop} {a b : T} {v : Value} (h : LR w S [a, b] v) : ∃ g cap sa sb, v = .slice (some ⟨g, 0, none⟩) 2 cap ∧ 2 ≤ cap ∧ cap ≤ maxLen ∧ Node5 w g 0 a sa ∧ Node5 w g 5 b sb ∧ LR w S a.subs sa ∧ LR w S b.subs sb := by
  obtain ⟨g, cap, sa, e, h1, h2, _, h3, h4⟩ := h.nodeS 0 a rfl
  obtain ⟨g', cap', sb, e', _, _, _, h5, h6⟩ := h.nodeS 1 b rfl
  rw [e] at e'
  cases e'
  exact ⟨g, cap, sa, sb, e, h1, h2, by simpa using h3, by simpa using h5, h4.mono (fun k hk => hk.1), h6.mono (fun k hk => hk.1)⟩

set_option maxRecDepth 100000 in
set_option maxHeartbeats 1000000 in
theorem equal_step (t : T) (ih : ∀ u, u ∈ t.subs → ∀ (w : World) (sv1 sv2 : Value), LR w (fun _ => True) u.subs sv1 → LR w (fun _ => True) u.subs sv2 → Calls Tryz.prog 12 #[nodeV u sv1, nodeV u sv2] w fun e w' => e = .returned (.bool true) ∧ w.grownBy w' none)
    (w : World) (sv1 sv2 : Value) (h1 : LR w (fun _ => True) t.subs sv1) (h2 : LR w (fun _ => True) t.subs sv2) :
    Calls Tryz.prog 12 #[nodeV t sv1, nodeV t sv2] w fun e w' => e = .returned (.bool true) ∧ w.grownBy w' none := by
  obtain ⟨k, x, m, a, l⟩ := t
  simp only [T.subs] at h1 h2 ih
  obtain ⟨ad1, cp1, rfl⟩ := h1.form
  obtain ⟨ad2, cp2, rfl⟩ := h2.form
  have H1 := hide h1
  have H2 := hide h2
  have IH := hide ih
  have hml : l.length ≤ maxLen := by
    cases l with
    | nil => simp
    | cons u us =>
      obtain ⟨_, _, _, _, h9, _⟩ := h1.node 0 u rfl
      exact h9
  unfold maxLen at hml
  clear h1 h2 ih
  show Calls Tryz.prog 12 #[.agg #[.int .i64 k, .string ⟨x.toArray⟩, .int .i64 m, .int .i64 a, .slice ad1 l.length cp1], .agg #[.int .i64 k, .string ⟨x.toArray⟩, .int .i64 m, .int .i64 a, .slice ad2 l.length cp2]] w _
  go_enter Tryz.func12, Tryz.ntmps12
  go_wp2
  go_loopw [5] (fun iv wr => ∃ j : Nat, j ≤ l.length ∧ iv = .int .i64 j ∧ NB wr w.heap.size (.int .i64 k) (.string ⟨x.toArray⟩) (.int .i64 m) (.int .i64 a) (.slice ad1 l.length cp1) ∧ NB wr (w.heap.size + 1) (.int .i64 k) (.string ⟨x.toArray⟩) (.int .i64 m) (.int .i64 a) (.slice ad2 l.length cp2) ∧ Hid (w.grownBy wr none)) (fun iv _ => l.length - (intOf iv).toNat)
  case atStart => exact ⟨0, Nat.zero_le _, rfl, (by repeat (first | with_reducible exact NB.new' (by simp) | with_reducible refine NB.far ?_ (by omega) _ _ | with_reducible apply NB.s0 | with_reducible apply NB.s1 | with_reducible apply NB.s2 | with_reducible apply NB.s3 | with_reducible apply NB.s4 | with_reducible refine NB.alloc ?_ _ | with_reducible refine NB.drewN ?_ _ | with_reducible refine NB.drew ?_)), (by repeat (first | with_reducible exact NB.new' (by simp) | with_reducible refine NB.far ?_ (by omega) _ _ | with_reducible apply NB.s0 | with_reducible apply NB.s1 | with_reducible apply NB.s2 | with_reducible apply NB.s3 | with_reducible apply NB.s4 | with_reducible refine NB.alloc ?_ _ | with_reducible refine NB.drewN ?_ _ | with_reducible refine NB.drew ?_)), gb_alloc (gb_alloc (gb_refl w none) _) _⟩
  case round =>
    obtain ⟨j, hj, rfl, na, nb, HG⟩ := hrel
    have nal := na.lt
    have nbl := nb.lt
    have NA := hide na
    have NBB := hide nb
    obtain ⟨x0, x1, x2, x3, x4, xz⟩ := id na
    obtain ⟨y0, y1, y2, y3, y4, yz⟩ := id nb
    by_cases hlt : j < l.length
    · obtain ⟨u, hu⟩ : ∃ u, l[j]? = some u := ⟨_, List.getElem?_eq_getElem hlt⟩
      have hmem : u ∈ l := List.mem_of_getElem? hu
      have lr1 := H1.out.kept HG.out (fun _ hk => by cases hk)
      have lr2 := H2.out.kept HG.out (fun _ hk => by cases hk)
      obtain ⟨g1, c1, sv1, e1, _, L1, p0, p1, p2, p3, p4⟩ := lr1.node j u hu
      obtain ⟨g2, c2, sv2, e2, _, L2, q0, q1, q2, q3, q4⟩ := lr2.node j u hu
      cases e1
      cases e2
      have IHu := fun w9 s1 s2 hl1 hl2 => IH.out u hmem w9 s1 s2 hl1 hl2
      clear lr1 lr2 hu
      have HL1 := hide L1
      have HL2 := hide L2
      have HI := hide IHu
      clear L1 L2 IHu
      go_wp2_with fail
      go_region_with (go_at_call 12
                      refine (HI.out _ sv1 sv2 (HL1.out.kept (gb_drewN (gb_refl wr none) _) (fun _ hk => by cases hk)) (HL2.out.kept (gb_drewN (gb_refl wr none) _) (fun _ hk => by cases hk))).mono ?_
                      rintro e w9 ⟨rfl, hg9⟩)
      all_goals
        go_wp2
        have G9 : wr.grownBy w9 none := gb_trans (gb_drewN (gb_refl wr none) _) hg9
        exact ⟨⟨j + 1, by omega, by go_num, NA.out.kept G9 (by simp), NBB.out.kept G9 (by simp), gb_trans HG.out G9⟩, by simp [intOf]; omega⟩
    · go_wp2
      go_ret
      exact ⟨rfl, HG.out⟩

theorem equal_any (t : T) (w : World) (sv1 sv2 : Value) (h1 : LR w (fun _ => True) t.subs sv1) (h2 : LR w (fun _ => True) t.subs sv2) :
    Calls Tryz.prog 12 #[nodeV t sv1, nodeV t sv2] w fun e w' => e = .returned (.bool true) ∧ w.grownBy w' none :=
  equal_step t (fun u _hu w sv1 sv2 h1 h2 => equal_any u w sv1 sv2 h1 h2) w sv1 sv2 h1 h2
  termination_by SizeOf.sizeOf t
  decreasing_by
    obtain ⟨k, x, m, a, l⟩ := t
    have h9 := List.sizeOf_lt_of_mem (show u ∈ l from _hu)
    simp only [T.mk.sizeOf_spec]
    omega
end Go.Proofs.YtlkokcnbbihljaaGreatDoor
