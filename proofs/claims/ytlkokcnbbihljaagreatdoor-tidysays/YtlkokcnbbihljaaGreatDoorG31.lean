/- What is put for an operator: tidy.operation. -/
import Derived.Test.YtlkokcnbbihljaaGreatDoorG30
import Derived.Deep.CutRange
import Derived.Deep.RegionHeld
namespace Go.Proofs.YtlkokcnbbihljaaGreatDoor
open Go.RowKit

set_option maxRecDepth 100000 in
set_option maxHeartbeats 400000 in
theorem number_lr (t : T) (sv : Value) (S : Nat → Prop) (w : World) (ha : LR w S t.subs sv) (hg : GT t) : Calls Tryz.prog 134 #[nodeV t sv] w fun e w' => ∃ z, e = .returned (.tuple #[.int .i32 z, .bool (numOf t).isSome]) ∧ (∀ v, numOf t = some v → z = v) ∧ w.grownBy w' none := by
  cases hg with
  | mk k x m p l hl h1 h2 h3 h4 h5 =>
    by_cases h35 : k = 35
    · subst h35
      obtain ⟨u, rfl⟩ : ∃ u, l = [u] := by
        have := h1 (Or.inr rfl)
        match l, this with
        | [u], _ => exact ⟨u, rfl⟩
      have hgu := hl u (by simp)
      obtain ⟨g, c, su, rfl, hn, hc, n5, au⟩ := LR.one (show LR w S [u] sv from ha)
      unfold maxLen at hc
      have hgl := block_lt n5.c0
      obtain ⟨sa, sn, sc, rfl⟩ : ∃ a n c, su = .slice a n c := by obtain ⟨a, c, e⟩ := au.form; exact ⟨_, _, _, e⟩
      have HN : Hid (numOf (T.mk 35 x m p [u]) = if u.kind = 29 then some (-u.num) else none) := by
        show _ = _
        have e : subT (T.mk 35 x m p [u]) 0 = u := rfl
        unfold numOf
        rw [e, if_neg (by simp [T.kind])]
        by_cases h : u.kind = 29
        · rw [if_pos ⟨rfl, h⟩, if_pos h]
        · rw [if_neg (fun h9 => h h9.2), if_neg h]
      obtain ⟨k', x', m', p', l'⟩ := u
      have hm : k' = 29 → 0 ≤ m' ∧ m' ≤ 2147483647 := by cases hgu with | mk _ _ _ _ _ _ _ _ _ h9 _ => exact h9
      have HG := hide hm
      obtain ⟨c0, c1, c2, c3, c4⟩ := n5
      clear ha au hl h1 h2 h3 h4 h5 hgu hm
      change Calls Tryz.prog 134 #[.agg #[.int .i64 35, .string ⟨x.toArray⟩, .int .i64 m, .int .i64 p, .slice (some ⟨g, 0, none⟩) 1 c]] w _
      go_enter Tryz.func134, Tryz.ntmps134
      go_wp2_with fail
      go_at_call 142
      refine (positive_any k' x' m' p' sa sn sc _).mono ?_
      rintro e w1 ⟨rfl, hg1⟩
      have G1 : Hid (w.grownBy w1 none) := gb_trans (by repeat (first | with_reducible exact gb_refl w none | with_reducible refine gb_put ?_ (by omega) _ _ | with_reducible refine gb_alloc ?_ _ | with_reducible refine gb_drewN ?_ _ | with_reducible refine gb_drew ?_)) hg1
      clear hg1
      go_wp2_with fail
      go_ret2
      refine ⟨wrap32 (-wrap32 m'), ?_, ?_, G1.out⟩
      · show Ending.returned (.tuple #[.int .i32 (wrap32 (-wrap32 m')), .bool (k' == 29)]) = _
        rw [HN.out]
        change _ = Ending.returned (.tuple #[_, .bool (if k' = 29 then some (-m') else none).isSome])
        by_cases h : k' = 29
        · rw [if_pos h]
          subst h
          rfl
        · rw [if_neg h, beq_eq_false_iff_ne.2 h]
          rfl
      · intro v hv
        rw [HN.out] at hv
        split at hv
        · rename_i h
          have := HG.out h
          cases hv
          rw [w32_in (m := m') (by omega) (by omega)]
          exact w32_in (by show -2147483648 ≤ -m'; omega) (by show -m' ≤ 2147483647; omega)
        · cases hv
    · obtain ⟨sa, sc, rfl⟩ := ha.form
      have hk0 : (k == 35) = false := by rw [beq_eq_false_iff_ne]; exact h35
      have HN : Hid (numOf (T.mk k x m p l) = if k = 29 then some m else none) := by
        show _ = _
        unfold numOf
        by_cases h : k = 29
        · rw [if_pos (show (T.mk k x m p l).kind = 29 from h), if_pos h]; rfl
        · rw [if_neg (show ¬ (T.mk k x m p l).kind = 29 from h), if_neg (fun h9 => h35 h9.1), if_neg h]
      have HG := hide h4
      clear ha hl h1 h2 h3 h4 h5
      change Calls Tryz.prog 134 #[.agg #[.int .i64 k, .string ⟨x.toArray⟩, .int .i64 m, .int .i64 p, .slice sa l.length sc]] w _
      go_enter Tryz.func134, Tryz.ntmps134
      go_wp2_with fail
      go_at_call 142
      refine (positive_any k x m p sa l.length sc _).mono ?_
      rintro e w1 ⟨rfl, hg1⟩
      have G1 : Hid (w.grownBy w1 none) := gb_trans (by repeat (first | with_reducible exact gb_refl w none | with_reducible refine gb_put ?_ (by omega) _ _ | with_reducible refine gb_alloc ?_ _ | with_reducible refine gb_drewN ?_ _ | with_reducible refine gb_drew ?_)) hg1
      clear hg1
      go_wp2_with fail
      go_ret2
      refine ⟨wrap32 m, ?_, ?_, G1.out⟩
      · show Ending.returned (.tuple #[.int .i32 (wrap32 m), .bool (k == 29)]) = _
        rw [HN.out]
        by_cases h : k = 29
        · rw [if_pos h]
          subst h
          rfl
        · rw [if_neg h, beq_eq_false_iff_ne.2 h]
          rfl
      · intro v hv
        rw [HN.out] at hv
        split at hv
        · rename_i h
          have := HG.out h
          cases hv
          exact w32_in (by omega) (by omega)
        · cases hv
theorem number_some (t : T) (sv : Value) (S : Nat → Prop) (w : World) (ha : LR w S t.subs sv) (hg : GT t) {u : Int} (hu : numOf t = some u) : Calls Tryz.prog 134 #[nodeV t sv] w (Sy w (.tuple #[.int .i32 u, .bool true])) := by
  refine (number_lr t sv S w ha hg).mono ?_
  rintro e w1 ⟨z, rfl, hz, h9⟩
  have := hz u hu
  subst this
  rw [hu]
  exact ⟨rfl, h9⟩
theorem op_names {x : List UInt8} (h : 0 ≤ levelOf x) : (x = [61] ∨ x = [35] ∨ x = [60] ∨ x = [60, 61] ∨ x = [62] ∨ x = [62, 61]) ∨ (x = [43] ∨ x = [45] ∨ x = [79, 82]) ∨ (x = [42] ∨ x = [68, 73, 86] ∨ x = [77, 79, 68] ∨ x = [38]) := by
  unfold levelOf at h
  split at h
  · rename_i h9
    left
    simpa [inB, relL] using h9
  · split at h
    · rename_i h9
      right; left
      simpa [inB, sumL] using h9
    · split at h
      · rename_i h9
        right; right
        simpa [inB, proL] using h9
      · omega
theorem worked_any {x : List UInt8} (hx : 0 ≤ levelOf x) (h1 : x ≠ [38]) (h2 : x ≠ [79, 82]) (m p : Int) (l : List T) (sv : Value) (S : Nat → Prop) (u v : Int) (w : World) (ha : LR w S l sv) (hu : -2147483647 ≤ u ∧ u ≤ 2147483647) (hv : -2147483647 ≤ v ∧ v ≤ 2147483647) : Calls Tryz.prog 135 #[nodeV (.mk 36 x m p l) sv, .int .i32 u, .int .i32 v] w (NL w (fun k => S k ∨ w.heap.size ≤ k) (workT (.mk 36 x m p l) u v)) := by
  rcases op_names hx with (rfl | rfl | rfl | rfl | rfl | rfl) | (rfl | rfl | rfl) | (rfl | rfl | rfl | rfl)
  · exact worked_r0 m p l sv S u v w ha
  · exact worked_r1 m p l sv S u v w ha
  · exact worked_r2 m p l sv S u v w ha
  · exact worked_r3 m p l sv S u v w ha
  · exact worked_r4 m p l sv S u v w ha
  · exact worked_r5 m p l sv S u v w ha
  · exact worked_add m p l sv S u v w ha hu hv
  · exact worked_sub m p l sv S u v w ha hu hv
  · exact absurd rfl h2
  · exact worked_mul m p l sv S u v w ha hu hv
  · exact worked_div m p l sv S u v w ha hu hv
  · exact worked_mod m p l sv S u v w ha hu hv
  · exact absurd rfl h1
set_option maxRecDepth 100000 in
set_option maxHeartbeats 2000000 in
theorem op_and30 (m p : Int) (xa : List UInt8) (ma pa : Int) (la : List T) (kb : Int) (xb : List UInt8) (mb pb : Int) (lb : List T) (sv : Value) (S : Nat → Prop) (w : World) (ha : LR w S [(.mk 30 xa ma pa la), (.mk kb xb mb pb lb)] sv) : Calls Tryz.prog 108 #[nodeV (.mk 36 [38] m p [(.mk 30 xa ma pa la), (.mk kb xb mb pb lb)]) sv] w (NL w (fun k => S k ∨ w.heap.size ≤ k) (opT (.mk 36 [38] m p [(.mk 30 xa ma pa la), (.mk kb xb mb pb lb)]))) := by
  have HA := hide ha.bounded
  obtain ⟨g, c, sa, sb, rfl, hc1, hc2, na, nb, la', lb'⟩ := LR.two ha
  unfold maxLen at hc2
  have hgl := block_lt na.c0
  obtain ⟨aa, ac, rfl⟩ := la'.form
  obtain ⟨ba, bc, rfl⟩ := lb'.form
  have LA := hide la'
  have LB := hide lb'
  obtain ⟨c0, c1, c2, c3, c4⟩ := na
  obtain ⟨d0, d1, d2, d3, d4⟩ := nb
  clear ha la' lb'
  have HE : Hid (opT (.mk 36 [38] m p [(.mk 30 xa ma pa la), (.mk kb xb mb pb lb)]) = (.mk kb xb mb pb lb)) := rfl
  rw [HE.out]
  change Calls Tryz.prog 108 #[.agg #[.int .i64 36, .string ⟨List.toArray [38]⟩, .int .i64 m, .int .i64 p, .slice (some ⟨g, 0, none⟩) 2 c]] w _
  go_enter Tryz.func108, Tryz.ntmps108
  go_upto_region 1 with fail
  obtain ⟨wq, hwq⟩ : ∃ q, q = (w.alloc (.cells #[.int .i64 36, .string ⟨List.toArray [38]⟩, .int .i64 m, .int .i64 p, .slice (some ⟨g, 0, none⟩) 2 c] 24)).alloc (.cells #[.int .i64 0, .string ⟨#[]⟩, .int .i64 0, .int .i64 0, .slice none 0 0] 24) := ⟨_, rfl⟩
  rw [← hwq]
  have GQ : Hid (w.grownBy wq none) := by rw [hwq]; exact gb_alloc (gb_alloc (gb_refl w none) _) _
  have BQ : Hid (NB wq w.heap.size (.int .i64 36) (.string ⟨List.toArray [38]⟩) (.int .i64 m) (.int .i64 p) (.slice (some ⟨g, 0, none⟩) 2 c)) := by rw [hwq]; exact NB.alloc (NB.new _ _) _
  have RQ : Hid (RB wq (w.heap.size + 1)) := by rw [hwq]; exact RB.new' (by simp)
  have szq : wq.heap.size = w.heap.size + 2 := by rw [hwq]; simp
  clear hwq
  have HS : Hid (∀ w', wq.grownBy w' none → w'.cell? ⟨w.heap.size, 4, none⟩ = some (.slice (some ⟨g, 0, none⟩) 2 c) ∧ w'.cell? ⟨g, 0, none⟩ = some (.int .i64 30) ∧ w'.cell? ⟨g, 1, none⟩ = some (.string ⟨xa.toArray⟩) ∧ w'.cell? ⟨g, 2, none⟩ = some (.int .i64 ma) ∧ w'.cell? ⟨g, 3, none⟩ = some (.int .i64 pa) ∧ w'.cell? ⟨g, 4, none⟩ = some (.slice aa la.length ac) ∧ w'.cell? ⟨g, 5, none⟩ = some (.int .i64 kb) ∧ w'.cell? ⟨g, 6, none⟩ = some (.string ⟨xb.toArray⟩) ∧ w'.cell? ⟨g, 7, none⟩ = some (.int .i64 mb) ∧ w'.cell? ⟨g, 8, none⟩ = some (.int .i64 pb) ∧ w'.cell? ⟨g, 9, none⟩ = some (.slice ba lb.length bc)) := fun w' hg => by
    have hh := gb_trans GQ.out hg
    exact ⟨gb_cell hg BQ.out.c4, gb_cell hh c0, gb_cell hh c1, gb_cell hh c2, gb_cell hh c3, gb_cell hh c4, gb_cell hh d0, gb_cell hh d1, gb_cell hh d2, gb_cell hh d3, gb_cell hh d4⟩
  clear c0 c1 c2 c3 c4 d0 d1 d2 d3 d4
  go_cut [3, 4] from 11 (fun s3 s4 wx => ∃ (P Q : Nat), s3 = .pointer (some ⟨P, 0, none⟩) ∧ s4 = .pointer (some ⟨Q, 0, none⟩) ∧ NB wx P (.int .i64 30) (.string ⟨xa.toArray⟩) (.int .i64 ma) (.int .i64 pa) (.slice aa la.length ac) ∧ NB wx Q (.int .i64 kb) (.string ⟨xb.toArray⟩) (.int .i64 mb) (.int .i64 pb) (.slice ba lb.length bc) ∧ wq.grownBy wx none)
  case first =>
    go_region_held (fun w' => w'.cell? ⟨w.heap.size, 4, none⟩ = some (.slice (some ⟨g, 0, none⟩) 2 c) ∧ w'.cell? ⟨g, 0, none⟩ = some (.int .i64 30) ∧ w'.cell? ⟨g, 1, none⟩ = some (.string ⟨xa.toArray⟩) ∧ w'.cell? ⟨g, 2, none⟩ = some (.int .i64 ma) ∧ w'.cell? ⟨g, 3, none⟩ = some (.int .i64 pa) ∧ w'.cell? ⟨g, 4, none⟩ = some (.slice aa la.length ac) ∧ w'.cell? ⟨g, 5, none⟩ = some (.int .i64 kb) ∧ w'.cell? ⟨g, 6, none⟩ = some (.string ⟨xb.toArray⟩) ∧ w'.cell? ⟨g, 7, none⟩ = some (.int .i64 mb) ∧ w'.cell? ⟨g, 8, none⟩ = some (.int .i64 pb) ∧ w'.cell? ⟨g, 9, none⟩ = some (.slice ba lb.length bc)) (exact HS.out _ (by repeat (first | with_reducible exact gb_refl wq none | with_reducible refine gb_put ?_ (by omega) _ _ | with_reducible refine gb_alloc ?_ _ | with_reducible refine gb_drewN ?_ _ | with_reducible refine gb_drew ?_))) (fail)
    all_goals
      go_wp2_with fail
      go_meet
    case rel => exact ⟨_, _, rfl, rfl, ((NB.new' szq.symm).alloc _).drew, (NB.new' (by simp [szq])).drew, (by repeat (first | with_reducible exact gb_refl wq none | with_reducible refine gb_put ?_ (by omega) _ _ | with_reducible refine gb_alloc ?_ _ | with_reducible refine gb_drewN ?_ _ | with_reducible refine gb_drew ?_))⟩
    case rel => exact ⟨_, _, rfl, rfl, (NB.new' (by simp [szq])).drew, ((NB.new' szq.symm).alloc _).drew, (by repeat (first | with_reducible exact gb_refl wq none | with_reducible refine gb_put ?_ (by omega) _ _ | with_reducible refine gb_alloc ?_ _ | with_reducible refine gb_drewN ?_ _ | with_reducible refine gb_drew ?_))⟩
  case rest =>
    obtain ⟨P, Q, rfl, rfl, nP, nQ, gx⟩ := hcut
    have BX := hide (BQ.out.kept gx (by simp))
    have RX := hide (RQ.out.kept gx (by simp))
    have GX : Hid (w.grownBy wc none) := gb_trans GQ.out gx
    have NP := hide nP
    have NQ := hide nQ
    obtain ⟨b0, b1, b2, b3, b4, bz⟩ := BX.out
    obtain ⟨p0, p1, p2, p3, p4, pz⟩ := nP
    obtain ⟨q0, q1, q2, q3, q4, qz⟩ := nQ
    obtain ⟨_, _, _, _, _, r0, r1, r2, r3, r4, rz⟩ := RX.out
    have rl := RX.out.lt
    clear gx
    go_wp2_with fail
    go_at_call 106
    refine (truth_any 30 xa ma pa aa la.length ac _).mono ?_
    rintro e w1 ⟨rfl, hg1⟩
    have G1 : Hid (w.grownBy w1 none) := gb_trans GX.out hg1
    have R1 := hide (RX.out.kept hg1 (by simp))
    have B1 := hide (BX.out.kept hg1 (by simp))
    have P1 := hide (NP.out.kept hg1 (by simp))
    have Q1 := hide (NQ.out.kept hg1 (by simp))
    clear b0 b1 b2 b3 b4 bz p0 p1 p2 p3 p4 pz q0 q1 q2 q3 q4 qz r0 r1 r2 r3 r4 rz
    obtain ⟨b0, b1, b2, b3, b4, bz⟩ := B1.out
    obtain ⟨p0, p1, p2, p3, p4, pz⟩ := P1.out
    obtain ⟨q0, q1, q2, q3, q4, qz⟩ := Q1.out
    obtain ⟨_, _, _, _, _, r0, r1, r2, r3, r4, rz⟩ := R1.out
    have rl1 := R1.out.lt
    clear hg1
    have HD := fun (w' : World) (hg : w.grownBy w' none) => hide (decided_any [38] m p (.mk 30 xa ma pa la) (.mk kb xb mb pb lb) _ _ true w' (HA.out.kept hg (fun _ hk => by cases hk)) (by decide))
    go_wp2_with fail
    go_at_call 133
    refine ((HD _ (by repeat (first | with_reducible exact G1.out | with_reducible refine gb_put ?_ (by omega) _ _ | with_reducible refine gb_alloc ?_ _ | with_reducible refine gb_drewN ?_ _ | with_reducible refine gb_drew ?_))).out).mono ?_
    rw [if_pos (by decide)]
    rintro e w2 ⟨sv2, rfl, l2, hg2⟩
    have L2 := hide l2
    obtain ⟨sa2, sc2, rfl⟩ := l2.form
    clear l2
    have G2 : Hid (w.grownBy w2 none) := gb_trans G1.out hg2
    have R2 := hide (R1.out.kept hg2 (by simp))
    have B2 := hide (B1.out.kept hg2 (by simp))
    have P2 := hide (P1.out.kept hg2 (by simp))
    have Q2 := hide (Q1.out.kept hg2 (by simp))
    clear b0 b1 b2 b3 b4 bz p0 p1 p2 p3 p4 pz q0 q1 q2 q3 q4 qz r0 r1 r2 r3 r4 rz
    obtain ⟨b0, b1, b2, b3, b4, bz⟩ := B2.out
    obtain ⟨p0, p1, p2, p3, p4, pz⟩ := P2.out
    obtain ⟨q0, q1, q2, q3, q4, qz⟩ := Q2.out
    obtain ⟨_, _, _, _, _, r0, r1, r2, r3, r4, rz⟩ := R2.out
    have rl2 := R2.out.lt
    clear hg2
    go_wp2_with fail
    refine node_ret Tryz.results108 rfl (RB.five R2.out) rfl ?_
    refine ⟨_, rfl, ?_, (by repeat (first | with_reducible exact G2.out | with_reducible refine gb_put ?_ (by omega) _ _ | with_reducible refine gb_alloc ?_ _ | with_reducible refine gb_drewN ?_ _ | with_reducible refine gb_drew ?_))⟩
    exact (L2.out.kept (lr_put5 (w.heap.size + 1)) (fun b hb hk => by cases hb; have := hk.2; omega)).mono (fun k hk => Or.inl hk.1)
set_option maxRecDepth 100000 in
set_option maxHeartbeats 2000000 in
theorem op_and31 (m p : Int) (xa : List UInt8) (ma pa : Int) (la : List T) (kb : Int) (xb : List UInt8) (mb pb : Int) (lb : List T) (sv : Value) (S : Nat → Prop) (w : World) (ha : LR w S [(.mk 31 xa ma pa la), (.mk kb xb mb pb lb)] sv) : Calls Tryz.prog 108 #[nodeV (.mk 36 [38] m p [(.mk 31 xa ma pa la), (.mk kb xb mb pb lb)]) sv] w (NL w (fun k => S k ∨ w.heap.size ≤ k) (opT (.mk 36 [38] m p [(.mk 31 xa ma pa la), (.mk kb xb mb pb lb)]))) := by
  have HA := hide ha.bounded
  obtain ⟨g, c, sa, sb, rfl, hc1, hc2, na, nb, la', lb'⟩ := LR.two ha
  unfold maxLen at hc2
  have hgl := block_lt na.c0
  obtain ⟨aa, ac, rfl⟩ := la'.form
  obtain ⟨ba, bc, rfl⟩ := lb'.form
  have LA := hide la'
  have LB := hide lb'
  obtain ⟨c0, c1, c2, c3, c4⟩ := na
  obtain ⟨d0, d1, d2, d3, d4⟩ := nb
  clear ha la' lb'
  have HE : Hid (opT (.mk 36 [38] m p [(.mk 31 xa ma pa la), (.mk kb xb mb pb lb)]) = (.mk 31 xa ma pa la)) := rfl
  rw [HE.out]
  change Calls Tryz.prog 108 #[.agg #[.int .i64 36, .string ⟨List.toArray [38]⟩, .int .i64 m, .int .i64 p, .slice (some ⟨g, 0, none⟩) 2 c]] w _
  go_enter Tryz.func108, Tryz.ntmps108
  go_upto_region 1 with fail
  obtain ⟨wq, hwq⟩ : ∃ q, q = (w.alloc (.cells #[.int .i64 36, .string ⟨List.toArray [38]⟩, .int .i64 m, .int .i64 p, .slice (some ⟨g, 0, none⟩) 2 c] 24)).alloc (.cells #[.int .i64 0, .string ⟨#[]⟩, .int .i64 0, .int .i64 0, .slice none 0 0] 24) := ⟨_, rfl⟩
  rw [← hwq]
  have GQ : Hid (w.grownBy wq none) := by rw [hwq]; exact gb_alloc (gb_alloc (gb_refl w none) _) _
  have BQ : Hid (NB wq w.heap.size (.int .i64 36) (.string ⟨List.toArray [38]⟩) (.int .i64 m) (.int .i64 p) (.slice (some ⟨g, 0, none⟩) 2 c)) := by rw [hwq]; exact NB.alloc (NB.new _ _) _
  have RQ : Hid (RB wq (w.heap.size + 1)) := by rw [hwq]; exact RB.new' (by simp)
  have szq : wq.heap.size = w.heap.size + 2 := by rw [hwq]; simp
  clear hwq
  have HS : Hid (∀ w', wq.grownBy w' none → w'.cell? ⟨w.heap.size, 4, none⟩ = some (.slice (some ⟨g, 0, none⟩) 2 c) ∧ w'.cell? ⟨g, 0, none⟩ = some (.int .i64 31) ∧ w'.cell? ⟨g, 1, none⟩ = some (.string ⟨xa.toArray⟩) ∧ w'.cell? ⟨g, 2, none⟩ = some (.int .i64 ma) ∧ w'.cell? ⟨g, 3, none⟩ = some (.int .i64 pa) ∧ w'.cell? ⟨g, 4, none⟩ = some (.slice aa la.length ac) ∧ w'.cell? ⟨g, 5, none⟩ = some (.int .i64 kb) ∧ w'.cell? ⟨g, 6, none⟩ = some (.string ⟨xb.toArray⟩) ∧ w'.cell? ⟨g, 7, none⟩ = some (.int .i64 mb) ∧ w'.cell? ⟨g, 8, none⟩ = some (.int .i64 pb) ∧ w'.cell? ⟨g, 9, none⟩ = some (.slice ba lb.length bc)) := fun w' hg => by
    have hh := gb_trans GQ.out hg
    exact ⟨gb_cell hg BQ.out.c4, gb_cell hh c0, gb_cell hh c1, gb_cell hh c2, gb_cell hh c3, gb_cell hh c4, gb_cell hh d0, gb_cell hh d1, gb_cell hh d2, gb_cell hh d3, gb_cell hh d4⟩
  clear c0 c1 c2 c3 c4 d0 d1 d2 d3 d4
  go_cut [3, 4] from 11 (fun s3 s4 wx => ∃ (P Q : Nat), s3 = .pointer (some ⟨P, 0, none⟩) ∧ s4 = .pointer (some ⟨Q, 0, none⟩) ∧ NB wx P (.int .i64 31) (.string ⟨xa.toArray⟩) (.int .i64 ma) (.int .i64 pa) (.slice aa la.length ac) ∧ NB wx Q (.int .i64 kb) (.string ⟨xb.toArray⟩) (.int .i64 mb) (.int .i64 pb) (.slice ba lb.length bc) ∧ wq.grownBy wx none)
  case first =>
    go_region_held (fun w' => w'.cell? ⟨w.heap.size, 4, none⟩ = some (.slice (some ⟨g, 0, none⟩) 2 c) ∧ w'.cell? ⟨g, 0, none⟩ = some (.int .i64 31) ∧ w'.cell? ⟨g, 1, none⟩ = some (.string ⟨xa.toArray⟩) ∧ w'.cell? ⟨g, 2, none⟩ = some (.int .i64 ma) ∧ w'.cell? ⟨g, 3, none⟩ = some (.int .i64 pa) ∧ w'.cell? ⟨g, 4, none⟩ = some (.slice aa la.length ac) ∧ w'.cell? ⟨g, 5, none⟩ = some (.int .i64 kb) ∧ w'.cell? ⟨g, 6, none⟩ = some (.string ⟨xb.toArray⟩) ∧ w'.cell? ⟨g, 7, none⟩ = some (.int .i64 mb) ∧ w'.cell? ⟨g, 8, none⟩ = some (.int .i64 pb) ∧ w'.cell? ⟨g, 9, none⟩ = some (.slice ba lb.length bc)) (exact HS.out _ (by repeat (first | with_reducible exact gb_refl wq none | with_reducible refine gb_put ?_ (by omega) _ _ | with_reducible refine gb_alloc ?_ _ | with_reducible refine gb_drewN ?_ _ | with_reducible refine gb_drew ?_))) (fail)
    all_goals
      go_wp2_with fail
      go_meet
    case rel => exact ⟨_, _, rfl, rfl, ((NB.new' szq.symm).alloc _).drew, (NB.new' (by simp [szq])).drew, (by repeat (first | with_reducible exact gb_refl wq none | with_reducible refine gb_put ?_ (by omega) _ _ | with_reducible refine gb_alloc ?_ _ | with_reducible refine gb_drewN ?_ _ | with_reducible refine gb_drew ?_))⟩
    case rel => exact ⟨_, _, rfl, rfl, (NB.new' (by simp [szq])).drew, ((NB.new' szq.symm).alloc _).drew, (by repeat (first | with_reducible exact gb_refl wq none | with_reducible refine gb_put ?_ (by omega) _ _ | with_reducible refine gb_alloc ?_ _ | with_reducible refine gb_drewN ?_ _ | with_reducible refine gb_drew ?_))⟩
  case rest =>
    obtain ⟨P, Q, rfl, rfl, nP, nQ, gx⟩ := hcut
    have BX := hide (BQ.out.kept gx (by simp))
    have RX := hide (RQ.out.kept gx (by simp))
    have GX : Hid (w.grownBy wc none) := gb_trans GQ.out gx
    have NP := hide nP
    have NQ := hide nQ
    obtain ⟨b0, b1, b2, b3, b4, bz⟩ := BX.out
    obtain ⟨p0, p1, p2, p3, p4, pz⟩ := nP
    obtain ⟨q0, q1, q2, q3, q4, qz⟩ := nQ
    obtain ⟨_, _, _, _, _, r0, r1, r2, r3, r4, rz⟩ := RX.out
    have rl := RX.out.lt
    clear gx
    go_wp2_with fail
    go_at_call 106
    refine (truth_any 31 xa ma pa aa la.length ac _).mono ?_
    rintro e w1 ⟨rfl, hg1⟩
    have G1 : Hid (w.grownBy w1 none) := gb_trans GX.out hg1
    have R1 := hide (RX.out.kept hg1 (by simp))
    have B1 := hide (BX.out.kept hg1 (by simp))
    have P1 := hide (NP.out.kept hg1 (by simp))
    have Q1 := hide (NQ.out.kept hg1 (by simp))
    clear b0 b1 b2 b3 b4 bz p0 p1 p2 p3 p4 pz q0 q1 q2 q3 q4 qz r0 r1 r2 r3 r4 rz
    obtain ⟨b0, b1, b2, b3, b4, bz⟩ := B1.out
    obtain ⟨p0, p1, p2, p3, p4, pz⟩ := P1.out
    obtain ⟨q0, q1, q2, q3, q4, qz⟩ := Q1.out
    obtain ⟨_, _, _, _, _, r0, r1, r2, r3, r4, rz⟩ := R1.out
    have rl1 := R1.out.lt
    clear hg1
    have HD := fun (w' : World) (hg : w.grownBy w' none) => hide (decided_any [38] m p (.mk 31 xa ma pa la) (.mk kb xb mb pb lb) _ _ false w' (HA.out.kept hg (fun _ hk => by cases hk)) (by decide))
    go_wp2_with fail
    go_at_call 133
    refine ((HD _ (by repeat (first | with_reducible exact G1.out | with_reducible refine gb_put ?_ (by omega) _ _ | with_reducible refine gb_alloc ?_ _ | with_reducible refine gb_drewN ?_ _ | with_reducible refine gb_drew ?_))).out).mono ?_
    rw [if_neg (by decide)]
    rintro e w2 ⟨sv2, rfl, l2, hg2⟩
    have L2 := hide l2
    obtain ⟨sa2, sc2, rfl⟩ := l2.form
    clear l2
    have G2 : Hid (w.grownBy w2 none) := gb_trans G1.out hg2
    have R2 := hide (R1.out.kept hg2 (by simp))
    have B2 := hide (B1.out.kept hg2 (by simp))
    have P2 := hide (P1.out.kept hg2 (by simp))
    have Q2 := hide (Q1.out.kept hg2 (by simp))
    clear b0 b1 b2 b3 b4 bz p0 p1 p2 p3 p4 pz q0 q1 q2 q3 q4 qz r0 r1 r2 r3 r4 rz
    obtain ⟨b0, b1, b2, b3, b4, bz⟩ := B2.out
    obtain ⟨p0, p1, p2, p3, p4, pz⟩ := P2.out
    obtain ⟨q0, q1, q2, q3, q4, qz⟩ := Q2.out
    obtain ⟨_, _, _, _, _, r0, r1, r2, r3, r4, rz⟩ := R2.out
    have rl2 := R2.out.lt
    clear hg2
    go_wp2_with fail
    refine node_ret Tryz.results108 rfl (RB.five R2.out) rfl ?_
    refine ⟨_, rfl, ?_, (by repeat (first | with_reducible exact G2.out | with_reducible refine gb_put ?_ (by omega) _ _ | with_reducible refine gb_alloc ?_ _ | with_reducible refine gb_drewN ?_ _ | with_reducible refine gb_drew ?_))⟩
    exact (L2.out.kept (lr_put5 (w.heap.size + 1)) (fun b hb hk => by cases hb; have := hk.2; omega)).mono (fun k hk => Or.inl hk.1)
set_option maxRecDepth 100000 in
set_option maxHeartbeats 2000000 in
theorem op_andn (ka : Int) (m p : Int) (xa : List UInt8) (ma pa : Int) (la : List T) (kb : Int) (xb : List UInt8) (mb pb : Int) (lb : List T) (sv : Value) (S : Nat → Prop) (w : World) (ha : LR w S [(.mk ka xa ma pa la), (.mk kb xb mb pb lb)] sv) (hk1 : ka ≠ 30) (hk2 : ka ≠ 31) : Calls Tryz.prog 108 #[nodeV (.mk 36 [38] m p [(.mk ka xa ma pa la), (.mk kb xb mb pb lb)]) sv] w (NL w (fun k => S k ∨ w.heap.size ≤ k) (opT (.mk 36 [38] m p [(.mk ka xa ma pa la), (.mk kb xb mb pb lb)]))) := by
  have HA := hide ha.bounded
  obtain ⟨g, c, sa, sb, rfl, hc1, hc2, na, nb, la', lb'⟩ := LR.two ha
  unfold maxLen at hc2
  have hgl := block_lt na.c0
  obtain ⟨aa, ac, rfl⟩ := la'.form
  obtain ⟨ba, bc, rfl⟩ := lb'.form
  have LA := hide la'
  have LB := hide lb'
  obtain ⟨c0, c1, c2, c3, c4⟩ := na
  obtain ⟨d0, d1, d2, d3, d4⟩ := nb
  clear ha la' lb'
  have h30 : decide (ka = 30) = false := decide_eq_false hk1
  have h31 : decide (ka = 30 ∨ ka = 31) = false := decide_eq_false (by omega)
  have HE : Hid (opT (.mk 36 [38] m p [(.mk ka xa ma pa la), (.mk kb xb mb pb lb)]) = (.mk 36 [38] m p [(.mk ka xa ma pa la), (.mk kb xb mb pb lb)])) := by
    show _ = _
    unfold opT
    rw [if_pos (by simp [T.name]), if_neg (show ¬ (subT (.mk 36 [38] m p [(.mk ka xa ma pa la), (.mk kb xb mb pb lb)]) 0).kind = 30 from hk1), if_neg (show ¬ (subT (.mk 36 [38] m p [(.mk ka xa ma pa la), (.mk kb xb mb pb lb)]) 0).kind = 31 from hk2)]
  rw [HE.out]
  change Calls Tryz.prog 108 #[.agg #[.int .i64 36, .string ⟨List.toArray [38]⟩, .int .i64 m, .int .i64 p, .slice (some ⟨g, 0, none⟩) 2 c]] w _
  go_enter Tryz.func108, Tryz.ntmps108
  go_upto_region 1 with fail
  obtain ⟨wq, hwq⟩ : ∃ q, q = (w.alloc (.cells #[.int .i64 36, .string ⟨List.toArray [38]⟩, .int .i64 m, .int .i64 p, .slice (some ⟨g, 0, none⟩) 2 c] 24)).alloc (.cells #[.int .i64 0, .string ⟨#[]⟩, .int .i64 0, .int .i64 0, .slice none 0 0] 24) := ⟨_, rfl⟩
  rw [← hwq]
  have GQ : Hid (w.grownBy wq none) := by rw [hwq]; exact gb_alloc (gb_alloc (gb_refl w none) _) _
  have BQ : Hid (NB wq w.heap.size (.int .i64 36) (.string ⟨List.toArray [38]⟩) (.int .i64 m) (.int .i64 p) (.slice (some ⟨g, 0, none⟩) 2 c)) := by rw [hwq]; exact NB.alloc (NB.new _ _) _
  have RQ : Hid (RB wq (w.heap.size + 1)) := by rw [hwq]; exact RB.new' (by simp)
  have szq : wq.heap.size = w.heap.size + 2 := by rw [hwq]; simp
  clear hwq
  have HS : Hid (∀ w', wq.grownBy w' none → w'.cell? ⟨w.heap.size, 4, none⟩ = some (.slice (some ⟨g, 0, none⟩) 2 c) ∧ w'.cell? ⟨g, 0, none⟩ = some (.int .i64 ka) ∧ w'.cell? ⟨g, 1, none⟩ = some (.string ⟨xa.toArray⟩) ∧ w'.cell? ⟨g, 2, none⟩ = some (.int .i64 ma) ∧ w'.cell? ⟨g, 3, none⟩ = some (.int .i64 pa) ∧ w'.cell? ⟨g, 4, none⟩ = some (.slice aa la.length ac) ∧ w'.cell? ⟨g, 5, none⟩ = some (.int .i64 kb) ∧ w'.cell? ⟨g, 6, none⟩ = some (.string ⟨xb.toArray⟩) ∧ w'.cell? ⟨g, 7, none⟩ = some (.int .i64 mb) ∧ w'.cell? ⟨g, 8, none⟩ = some (.int .i64 pb) ∧ w'.cell? ⟨g, 9, none⟩ = some (.slice ba lb.length bc)) := fun w' hg => by
    have hh := gb_trans GQ.out hg
    exact ⟨gb_cell hg BQ.out.c4, gb_cell hh c0, gb_cell hh c1, gb_cell hh c2, gb_cell hh c3, gb_cell hh c4, gb_cell hh d0, gb_cell hh d1, gb_cell hh d2, gb_cell hh d3, gb_cell hh d4⟩
  clear c0 c1 c2 c3 c4 d0 d1 d2 d3 d4
  go_cut [3, 4] from 11 (fun s3 s4 wx => ∃ (P Q : Nat), s3 = .pointer (some ⟨P, 0, none⟩) ∧ s4 = .pointer (some ⟨Q, 0, none⟩) ∧ NB wx P (.int .i64 ka) (.string ⟨xa.toArray⟩) (.int .i64 ma) (.int .i64 pa) (.slice aa la.length ac) ∧ NB wx Q (.int .i64 kb) (.string ⟨xb.toArray⟩) (.int .i64 mb) (.int .i64 pb) (.slice ba lb.length bc) ∧ wq.grownBy wx none)
  case first =>
    go_region_held (fun w' => w'.cell? ⟨w.heap.size, 4, none⟩ = some (.slice (some ⟨g, 0, none⟩) 2 c) ∧ w'.cell? ⟨g, 0, none⟩ = some (.int .i64 ka) ∧ w'.cell? ⟨g, 1, none⟩ = some (.string ⟨xa.toArray⟩) ∧ w'.cell? ⟨g, 2, none⟩ = some (.int .i64 ma) ∧ w'.cell? ⟨g, 3, none⟩ = some (.int .i64 pa) ∧ w'.cell? ⟨g, 4, none⟩ = some (.slice aa la.length ac) ∧ w'.cell? ⟨g, 5, none⟩ = some (.int .i64 kb) ∧ w'.cell? ⟨g, 6, none⟩ = some (.string ⟨xb.toArray⟩) ∧ w'.cell? ⟨g, 7, none⟩ = some (.int .i64 mb) ∧ w'.cell? ⟨g, 8, none⟩ = some (.int .i64 pb) ∧ w'.cell? ⟨g, 9, none⟩ = some (.slice ba lb.length bc)) (exact HS.out _ (by repeat (first | with_reducible exact gb_refl wq none | with_reducible refine gb_put ?_ (by omega) _ _ | with_reducible refine gb_alloc ?_ _ | with_reducible refine gb_drewN ?_ _ | with_reducible refine gb_drew ?_))) (fail)
    all_goals
      go_wp2_with fail
      go_meet
    case rel => exact ⟨_, _, rfl, rfl, ((NB.new' szq.symm).alloc _).drew, (NB.new' (by simp [szq])).drew, (by repeat (first | with_reducible exact gb_refl wq none | with_reducible refine gb_put ?_ (by omega) _ _ | with_reducible refine gb_alloc ?_ _ | with_reducible refine gb_drewN ?_ _ | with_reducible refine gb_drew ?_))⟩
    case rel => exact ⟨_, _, rfl, rfl, (NB.new' (by simp [szq])).drew, ((NB.new' szq.symm).alloc _).drew, (by repeat (first | with_reducible exact gb_refl wq none | with_reducible refine gb_put ?_ (by omega) _ _ | with_reducible refine gb_alloc ?_ _ | with_reducible refine gb_drewN ?_ _ | with_reducible refine gb_drew ?_))⟩
  case rest =>
    obtain ⟨P, Q, rfl, rfl, nP, nQ, gx⟩ := hcut
    have BX := hide (BQ.out.kept gx (by simp))
    have RX := hide (RQ.out.kept gx (by simp))
    have GX : Hid (w.grownBy wc none) := gb_trans GQ.out gx
    have NP := hide nP
    have NQ := hide nQ
    obtain ⟨b0, b1, b2, b3, b4, bz⟩ := BX.out
    obtain ⟨p0, p1, p2, p3, p4, pz⟩ := nP
    obtain ⟨q0, q1, q2, q3, q4, qz⟩ := nQ
    obtain ⟨_, _, _, _, _, r0, r1, r2, r3, r4, rz⟩ := RX.out
    have rl := RX.out.lt
    clear gx
    go_wp2_with fail
    go_at_call 106
    have HT := fun w' => hide (truth_any ka xa ma pa aa la.length ac w')
    rw [h30, h31] at HT
    refine (truth_any ka xa ma pa aa la.length ac _).mono ?_
    rintro e w1 ⟨rfl, hg1⟩
    have G1 : Hid (w.grownBy w1 none) := gb_trans GX.out hg1
    have R1 := hide (RX.out.kept hg1 (by simp))
    have B1 := hide (BX.out.kept hg1 (by simp))
    have P1 := hide (NP.out.kept hg1 (by simp))
    have Q1 := hide (NQ.out.kept hg1 (by simp))
    clear b0 b1 b2 b3 b4 bz p0 p1 p2 p3 p4 pz q0 q1 q2 q3 q4 qz r0 r1 r2 r3 r4 rz
    obtain ⟨b0, b1, b2, b3, b4, bz⟩ := B1.out
    obtain ⟨p0, p1, p2, p3, p4, pz⟩ := P1.out
    obtain ⟨q0, q1, q2, q3, q4, qz⟩ := Q1.out
    obtain ⟨_, _, _, _, _, r0, r1, r2, r3, r4, rz⟩ := R1.out
    have rl1 := R1.out.lt
    clear hg1
    go_wp2_with fail
    refine node_ret Tryz.results108 rfl (RB.five R1.out) rfl ?_
    exact nl_wide (nl_kept HA.out (by repeat (first | with_reducible exact G1.out | with_reducible refine gb_put ?_ (by omega) _ _ | with_reducible refine gb_alloc ?_ _ | with_reducible refine gb_drewN ?_ _ | with_reducible refine gb_drew ?_))) (fun k hk => Or.inl hk.1)
set_option maxRecDepth 100000 in
set_option maxHeartbeats 2000000 in
theorem op_or30 (m p : Int) (xa : List UInt8) (ma pa : Int) (la : List T) (kb : Int) (xb : List UInt8) (mb pb : Int) (lb : List T) (sv : Value) (S : Nat → Prop) (w : World) (ha : LR w S [(.mk 30 xa ma pa la), (.mk kb xb mb pb lb)] sv) : Calls Tryz.prog 108 #[nodeV (.mk 36 [79, 82] m p [(.mk 30 xa ma pa la), (.mk kb xb mb pb lb)]) sv] w (NL w (fun k => S k ∨ w.heap.size ≤ k) (opT (.mk 36 [79, 82] m p [(.mk 30 xa ma pa la), (.mk kb xb mb pb lb)]))) := by
  have HA := hide ha.bounded
  obtain ⟨g, c, sa, sb, rfl, hc1, hc2, na, nb, la', lb'⟩ := LR.two ha
  unfold maxLen at hc2
  have hgl := block_lt na.c0
  obtain ⟨aa, ac, rfl⟩ := la'.form
  obtain ⟨ba, bc, rfl⟩ := lb'.form
  have LA := hide la'
  have LB := hide lb'
  obtain ⟨c0, c1, c2, c3, c4⟩ := na
  obtain ⟨d0, d1, d2, d3, d4⟩ := nb
  clear ha la' lb'
  have HE : Hid (opT (.mk 36 [79, 82] m p [(.mk 30 xa ma pa la), (.mk kb xb mb pb lb)]) = (.mk 30 xa ma pa la)) := rfl
  rw [HE.out]
  change Calls Tryz.prog 108 #[.agg #[.int .i64 36, .string ⟨List.toArray [79, 82]⟩, .int .i64 m, .int .i64 p, .slice (some ⟨g, 0, none⟩) 2 c]] w _
  go_enter Tryz.func108, Tryz.ntmps108
  go_upto_region 1 with fail
  obtain ⟨wq, hwq⟩ : ∃ q, q = (w.alloc (.cells #[.int .i64 36, .string ⟨List.toArray [79, 82]⟩, .int .i64 m, .int .i64 p, .slice (some ⟨g, 0, none⟩) 2 c] 24)).alloc (.cells #[.int .i64 0, .string ⟨#[]⟩, .int .i64 0, .int .i64 0, .slice none 0 0] 24) := ⟨_, rfl⟩
  rw [← hwq]
  have GQ : Hid (w.grownBy wq none) := by rw [hwq]; exact gb_alloc (gb_alloc (gb_refl w none) _) _
  have BQ : Hid (NB wq w.heap.size (.int .i64 36) (.string ⟨List.toArray [79, 82]⟩) (.int .i64 m) (.int .i64 p) (.slice (some ⟨g, 0, none⟩) 2 c)) := by rw [hwq]; exact NB.alloc (NB.new _ _) _
  have RQ : Hid (RB wq (w.heap.size + 1)) := by rw [hwq]; exact RB.new' (by simp)
  have szq : wq.heap.size = w.heap.size + 2 := by rw [hwq]; simp
  clear hwq
  have HS : Hid (∀ w', wq.grownBy w' none → w'.cell? ⟨w.heap.size, 4, none⟩ = some (.slice (some ⟨g, 0, none⟩) 2 c) ∧ w'.cell? ⟨g, 0, none⟩ = some (.int .i64 30) ∧ w'.cell? ⟨g, 1, none⟩ = some (.string ⟨xa.toArray⟩) ∧ w'.cell? ⟨g, 2, none⟩ = some (.int .i64 ma) ∧ w'.cell? ⟨g, 3, none⟩ = some (.int .i64 pa) ∧ w'.cell? ⟨g, 4, none⟩ = some (.slice aa la.length ac) ∧ w'.cell? ⟨g, 5, none⟩ = some (.int .i64 kb) ∧ w'.cell? ⟨g, 6, none⟩ = some (.string ⟨xb.toArray⟩) ∧ w'.cell? ⟨g, 7, none⟩ = some (.int .i64 mb) ∧ w'.cell? ⟨g, 8, none⟩ = some (.int .i64 pb) ∧ w'.cell? ⟨g, 9, none⟩ = some (.slice ba lb.length bc)) := fun w' hg => by
    have hh := gb_trans GQ.out hg
    exact ⟨gb_cell hg BQ.out.c4, gb_cell hh c0, gb_cell hh c1, gb_cell hh c2, gb_cell hh c3, gb_cell hh c4, gb_cell hh d0, gb_cell hh d1, gb_cell hh d2, gb_cell hh d3, gb_cell hh d4⟩
  clear c0 c1 c2 c3 c4 d0 d1 d2 d3 d4
  go_cut [3, 4] from 11 (fun s3 s4 wx => ∃ (P Q : Nat), s3 = .pointer (some ⟨P, 0, none⟩) ∧ s4 = .pointer (some ⟨Q, 0, none⟩) ∧ NB wx P (.int .i64 30) (.string ⟨xa.toArray⟩) (.int .i64 ma) (.int .i64 pa) (.slice aa la.length ac) ∧ NB wx Q (.int .i64 kb) (.string ⟨xb.toArray⟩) (.int .i64 mb) (.int .i64 pb) (.slice ba lb.length bc) ∧ wq.grownBy wx none)
  case first =>
    go_region_held (fun w' => w'.cell? ⟨w.heap.size, 4, none⟩ = some (.slice (some ⟨g, 0, none⟩) 2 c) ∧ w'.cell? ⟨g, 0, none⟩ = some (.int .i64 30) ∧ w'.cell? ⟨g, 1, none⟩ = some (.string ⟨xa.toArray⟩) ∧ w'.cell? ⟨g, 2, none⟩ = some (.int .i64 ma) ∧ w'.cell? ⟨g, 3, none⟩ = some (.int .i64 pa) ∧ w'.cell? ⟨g, 4, none⟩ = some (.slice aa la.length ac) ∧ w'.cell? ⟨g, 5, none⟩ = some (.int .i64 kb) ∧ w'.cell? ⟨g, 6, none⟩ = some (.string ⟨xb.toArray⟩) ∧ w'.cell? ⟨g, 7, none⟩ = some (.int .i64 mb) ∧ w'.cell? ⟨g, 8, none⟩ = some (.int .i64 pb) ∧ w'.cell? ⟨g, 9, none⟩ = some (.slice ba lb.length bc)) (exact HS.out _ (by repeat (first | with_reducible exact gb_refl wq none | with_reducible refine gb_put ?_ (by omega) _ _ | with_reducible refine gb_alloc ?_ _ | with_reducible refine gb_drewN ?_ _ | with_reducible refine gb_drew ?_))) (fail)
    all_goals
      go_wp2_with fail
      go_meet
    case rel => exact ⟨_, _, rfl, rfl, ((NB.new' szq.symm).alloc _).drew, (NB.new' (by simp [szq])).drew, (by repeat (first | with_reducible exact gb_refl wq none | with_reducible refine gb_put ?_ (by omega) _ _ | with_reducible refine gb_alloc ?_ _ | with_reducible refine gb_drewN ?_ _ | with_reducible refine gb_drew ?_))⟩
    case rel => exact ⟨_, _, rfl, rfl, (NB.new' (by simp [szq])).drew, ((NB.new' szq.symm).alloc _).drew, (by repeat (first | with_reducible exact gb_refl wq none | with_reducible refine gb_put ?_ (by omega) _ _ | with_reducible refine gb_alloc ?_ _ | with_reducible refine gb_drewN ?_ _ | with_reducible refine gb_drew ?_))⟩
  case rest =>
    obtain ⟨P, Q, rfl, rfl, nP, nQ, gx⟩ := hcut
    have BX := hide (BQ.out.kept gx (by simp))
    have RX := hide (RQ.out.kept gx (by simp))
    have GX : Hid (w.grownBy wc none) := gb_trans GQ.out gx
    have NP := hide nP
    have NQ := hide nQ
    obtain ⟨b0, b1, b2, b3, b4, bz⟩ := BX.out
    obtain ⟨p0, p1, p2, p3, p4, pz⟩ := nP
    obtain ⟨q0, q1, q2, q3, q4, qz⟩ := nQ
    obtain ⟨_, _, _, _, _, r0, r1, r2, r3, r4, rz⟩ := RX.out
    have rl := RX.out.lt
    clear gx
    go_wp2_with fail
    go_at_call 106
    refine (truth_any 30 xa ma pa aa la.length ac _).mono ?_
    rintro e w1 ⟨rfl, hg1⟩
    have G1 : Hid (w.grownBy w1 none) := gb_trans GX.out hg1
    have R1 := hide (RX.out.kept hg1 (by simp))
    have B1 := hide (BX.out.kept hg1 (by simp))
    have P1 := hide (NP.out.kept hg1 (by simp))
    have Q1 := hide (NQ.out.kept hg1 (by simp))
    clear b0 b1 b2 b3 b4 bz p0 p1 p2 p3 p4 pz q0 q1 q2 q3 q4 qz r0 r1 r2 r3 r4 rz
    obtain ⟨b0, b1, b2, b3, b4, bz⟩ := B1.out
    obtain ⟨p0, p1, p2, p3, p4, pz⟩ := P1.out
    obtain ⟨q0, q1, q2, q3, q4, qz⟩ := Q1.out
    obtain ⟨_, _, _, _, _, r0, r1, r2, r3, r4, rz⟩ := R1.out
    have rl1 := R1.out.lt
    clear hg1
    have HD := fun (w' : World) (hg : w.grownBy w' none) => hide (decided_any [79, 82] m p (.mk 30 xa ma pa la) (.mk kb xb mb pb lb) _ _ true w' (HA.out.kept hg (fun _ hk => by cases hk)) (by decide))
    go_wp2_with fail
    go_at_call 133
    refine ((HD _ (by repeat (first | with_reducible exact G1.out | with_reducible refine gb_put ?_ (by omega) _ _ | with_reducible refine gb_alloc ?_ _ | with_reducible refine gb_drewN ?_ _ | with_reducible refine gb_drew ?_))).out).mono ?_
    rw [if_neg (by decide)]
    rintro e w2 ⟨sv2, rfl, l2, hg2⟩
    have L2 := hide l2
    obtain ⟨sa2, sc2, rfl⟩ := l2.form
    clear l2
    have G2 : Hid (w.grownBy w2 none) := gb_trans G1.out hg2
    have R2 := hide (R1.out.kept hg2 (by simp))
    have B2 := hide (B1.out.kept hg2 (by simp))
    have P2 := hide (P1.out.kept hg2 (by simp))
    have Q2 := hide (Q1.out.kept hg2 (by simp))
    clear b0 b1 b2 b3 b4 bz p0 p1 p2 p3 p4 pz q0 q1 q2 q3 q4 qz r0 r1 r2 r3 r4 rz
    obtain ⟨b0, b1, b2, b3, b4, bz⟩ := B2.out
    obtain ⟨p0, p1, p2, p3, p4, pz⟩ := P2.out
    obtain ⟨q0, q1, q2, q3, q4, qz⟩ := Q2.out
    obtain ⟨_, _, _, _, _, r0, r1, r2, r3, r4, rz⟩ := R2.out
    have rl2 := R2.out.lt
    clear hg2
    go_wp2_with fail
    refine node_ret Tryz.results108 rfl (RB.five R2.out) rfl ?_
    refine ⟨_, rfl, ?_, (by repeat (first | with_reducible exact G2.out | with_reducible refine gb_put ?_ (by omega) _ _ | with_reducible refine gb_alloc ?_ _ | with_reducible refine gb_drewN ?_ _ | with_reducible refine gb_drew ?_))⟩
    exact (L2.out.kept (lr_put5 (w.heap.size + 1)) (fun b hb hk => by cases hb; have := hk.2; omega)).mono (fun k hk => Or.inl hk.1)
set_option maxRecDepth 100000 in
set_option maxHeartbeats 2000000 in
theorem op_or31 (m p : Int) (xa : List UInt8) (ma pa : Int) (la : List T) (kb : Int) (xb : List UInt8) (mb pb : Int) (lb : List T) (sv : Value) (S : Nat → Prop) (w : World) (ha : LR w S [(.mk 31 xa ma pa la), (.mk kb xb mb pb lb)] sv) : Calls Tryz.prog 108 #[nodeV (.mk 36 [79, 82] m p [(.mk 31 xa ma pa la), (.mk kb xb mb pb lb)]) sv] w (NL w (fun k => S k ∨ w.heap.size ≤ k) (opT (.mk 36 [79, 82] m p [(.mk 31 xa ma pa la), (.mk kb xb mb pb lb)]))) := by
  have HA := hide ha.bounded
  obtain ⟨g, c, sa, sb, rfl, hc1, hc2, na, nb, la', lb'⟩ := LR.two ha
  unfold maxLen at hc2
  have hgl := block_lt na.c0
  obtain ⟨aa, ac, rfl⟩ := la'.form
  obtain ⟨ba, bc, rfl⟩ := lb'.form
  have LA := hide la'
  have LB := hide lb'
  obtain ⟨c0, c1, c2, c3, c4⟩ := na
  obtain ⟨d0, d1, d2, d3, d4⟩ := nb
  clear ha la' lb'
  have HE : Hid (opT (.mk 36 [79, 82] m p [(.mk 31 xa ma pa la), (.mk kb xb mb pb lb)]) = (.mk kb xb mb pb lb)) := rfl
  rw [HE.out]
  change Calls Tryz.prog 108 #[.agg #[.int .i64 36, .string ⟨List.toArray [79, 82]⟩, .int .i64 m, .int .i64 p, .slice (some ⟨g, 0, none⟩) 2 c]] w _
  go_enter Tryz.func108, Tryz.ntmps108
  go_upto_region 1 with fail
  obtain ⟨wq, hwq⟩ : ∃ q, q = (w.alloc (.cells #[.int .i64 36, .string ⟨List.toArray [79, 82]⟩, .int .i64 m, .int .i64 p, .slice (some ⟨g, 0, none⟩) 2 c] 24)).alloc (.cells #[.int .i64 0, .string ⟨#[]⟩, .int .i64 0, .int .i64 0, .slice none 0 0] 24) := ⟨_, rfl⟩
  rw [← hwq]
  have GQ : Hid (w.grownBy wq none) := by rw [hwq]; exact gb_alloc (gb_alloc (gb_refl w none) _) _
  have BQ : Hid (NB wq w.heap.size (.int .i64 36) (.string ⟨List.toArray [79, 82]⟩) (.int .i64 m) (.int .i64 p) (.slice (some ⟨g, 0, none⟩) 2 c)) := by rw [hwq]; exact NB.alloc (NB.new _ _) _
  have RQ : Hid (RB wq (w.heap.size + 1)) := by rw [hwq]; exact RB.new' (by simp)
  have szq : wq.heap.size = w.heap.size + 2 := by rw [hwq]; simp
  clear hwq
  have HS : Hid (∀ w', wq.grownBy w' none → w'.cell? ⟨w.heap.size, 4, none⟩ = some (.slice (some ⟨g, 0, none⟩) 2 c) ∧ w'.cell? ⟨g, 0, none⟩ = some (.int .i64 31) ∧ w'.cell? ⟨g, 1, none⟩ = some (.string ⟨xa.toArray⟩) ∧ w'.cell? ⟨g, 2, none⟩ = some (.int .i64 ma) ∧ w'.cell? ⟨g, 3, none⟩ = some (.int .i64 pa) ∧ w'.cell? ⟨g, 4, none⟩ = some (.slice aa la.length ac) ∧ w'.cell? ⟨g, 5, none⟩ = some (.int .i64 kb) ∧ w'.cell? ⟨g, 6, none⟩ = some (.string ⟨xb.toArray⟩) ∧ w'.cell? ⟨g, 7, none⟩ = some (.int .i64 mb) ∧ w'.cell? ⟨g, 8, none⟩ = some (.int .i64 pb) ∧ w'.cell? ⟨g, 9, none⟩ = some (.slice ba lb.length bc)) := fun w' hg => by
    have hh := gb_trans GQ.out hg
    exact ⟨gb_cell hg BQ.out.c4, gb_cell hh c0, gb_cell hh c1, gb_cell hh c2, gb_cell hh c3, gb_cell hh c4, gb_cell hh d0, gb_cell hh d1, gb_cell hh d2, gb_cell hh d3, gb_cell hh d4⟩
  clear c0 c1 c2 c3 c4 d0 d1 d2 d3 d4
  go_cut [3, 4] from 11 (fun s3 s4 wx => ∃ (P Q : Nat), s3 = .pointer (some ⟨P, 0, none⟩) ∧ s4 = .pointer (some ⟨Q, 0, none⟩) ∧ NB wx P (.int .i64 31) (.string ⟨xa.toArray⟩) (.int .i64 ma) (.int .i64 pa) (.slice aa la.length ac) ∧ NB wx Q (.int .i64 kb) (.string ⟨xb.toArray⟩) (.int .i64 mb) (.int .i64 pb) (.slice ba lb.length bc) ∧ wq.grownBy wx none)
  case first =>
    go_region_held (fun w' => w'.cell? ⟨w.heap.size, 4, none⟩ = some (.slice (some ⟨g, 0, none⟩) 2 c) ∧ w'.cell? ⟨g, 0, none⟩ = some (.int .i64 31) ∧ w'.cell? ⟨g, 1, none⟩ = some (.string ⟨xa.toArray⟩) ∧ w'.cell? ⟨g, 2, none⟩ = some (.int .i64 ma) ∧ w'.cell? ⟨g, 3, none⟩ = some (.int .i64 pa) ∧ w'.cell? ⟨g, 4, none⟩ = some (.slice aa la.length ac) ∧ w'.cell? ⟨g, 5, none⟩ = some (.int .i64 kb) ∧ w'.cell? ⟨g, 6, none⟩ = some (.string ⟨xb.toArray⟩) ∧ w'.cell? ⟨g, 7, none⟩ = some (.int .i64 mb) ∧ w'.cell? ⟨g, 8, none⟩ = some (.int .i64 pb) ∧ w'.cell? ⟨g, 9, none⟩ = some (.slice ba lb.length bc)) (exact HS.out _ (by repeat (first | with_reducible exact gb_refl wq none | with_reducible refine gb_put ?_ (by omega) _ _ | with_reducible refine gb_alloc ?_ _ | with_reducible refine gb_drewN ?_ _ | with_reducible refine gb_drew ?_))) (fail)
    all_goals
      go_wp2_with fail
      go_meet
    case rel => exact ⟨_, _, rfl, rfl, ((NB.new' szq.symm).alloc _).drew, (NB.new' (by simp [szq])).drew, (by repeat (first | with_reducible exact gb_refl wq none | with_reducible refine gb_put ?_ (by omega) _ _ | with_reducible refine gb_alloc ?_ _ | with_reducible refine gb_drewN ?_ _ | with_reducible refine gb_drew ?_))⟩
    case rel => exact ⟨_, _, rfl, rfl, (NB.new' (by simp [szq])).drew, ((NB.new' szq.symm).alloc _).drew, (by repeat (first | with_reducible exact gb_refl wq none | with_reducible refine gb_put ?_ (by omega) _ _ | with_reducible refine gb_alloc ?_ _ | with_reducible refine gb_drewN ?_ _ | with_reducible refine gb_drew ?_))⟩
  case rest =>
    obtain ⟨P, Q, rfl, rfl, nP, nQ, gx⟩ := hcut
    have BX := hide (BQ.out.kept gx (by simp))
    have RX := hide (RQ.out.kept gx (by simp))
    have GX : Hid (w.grownBy wc none) := gb_trans GQ.out gx
    have NP := hide nP
    have NQ := hide nQ
    obtain ⟨b0, b1, b2, b3, b4, bz⟩ := BX.out
    obtain ⟨p0, p1, p2, p3, p4, pz⟩ := nP
    obtain ⟨q0, q1, q2, q3, q4, qz⟩ := nQ
    obtain ⟨_, _, _, _, _, r0, r1, r2, r3, r4, rz⟩ := RX.out
    have rl := RX.out.lt
    clear gx
    go_wp2_with fail
    go_at_call 106
    refine (truth_any 31 xa ma pa aa la.length ac _).mono ?_
    rintro e w1 ⟨rfl, hg1⟩
    have G1 : Hid (w.grownBy w1 none) := gb_trans GX.out hg1
    have R1 := hide (RX.out.kept hg1 (by simp))
    have B1 := hide (BX.out.kept hg1 (by simp))
    have P1 := hide (NP.out.kept hg1 (by simp))
    have Q1 := hide (NQ.out.kept hg1 (by simp))
    clear b0 b1 b2 b3 b4 bz p0 p1 p2 p3 p4 pz q0 q1 q2 q3 q4 qz r0 r1 r2 r3 r4 rz
    obtain ⟨b0, b1, b2, b3, b4, bz⟩ := B1.out
    obtain ⟨p0, p1, p2, p3, p4, pz⟩ := P1.out
    obtain ⟨q0, q1, q2, q3, q4, qz⟩ := Q1.out
    obtain ⟨_, _, _, _, _, r0, r1, r2, r3, r4, rz⟩ := R1.out
    have rl1 := R1.out.lt
    clear hg1
    have HD := fun (w' : World) (hg : w.grownBy w' none) => hide (decided_any [79, 82] m p (.mk 31 xa ma pa la) (.mk kb xb mb pb lb) _ _ false w' (HA.out.kept hg (fun _ hk => by cases hk)) (by decide))
    go_wp2_with fail
    go_at_call 133
    refine ((HD _ (by repeat (first | with_reducible exact G1.out | with_reducible refine gb_put ?_ (by omega) _ _ | with_reducible refine gb_alloc ?_ _ | with_reducible refine gb_drewN ?_ _ | with_reducible refine gb_drew ?_))).out).mono ?_
    rw [if_pos (by decide)]
    rintro e w2 ⟨sv2, rfl, l2, hg2⟩
    have L2 := hide l2
    obtain ⟨sa2, sc2, rfl⟩ := l2.form
    clear l2
    have G2 : Hid (w.grownBy w2 none) := gb_trans G1.out hg2
    have R2 := hide (R1.out.kept hg2 (by simp))
    have B2 := hide (B1.out.kept hg2 (by simp))
    have P2 := hide (P1.out.kept hg2 (by simp))
    have Q2 := hide (Q1.out.kept hg2 (by simp))
    clear b0 b1 b2 b3 b4 bz p0 p1 p2 p3 p4 pz q0 q1 q2 q3 q4 qz r0 r1 r2 r3 r4 rz
    obtain ⟨b0, b1, b2, b3, b4, bz⟩ := B2.out
    obtain ⟨p0, p1, p2, p3, p4, pz⟩ := P2.out
    obtain ⟨q0, q1, q2, q3, q4, qz⟩ := Q2.out
    obtain ⟨_, _, _, _, _, r0, r1, r2, r3, r4, rz⟩ := R2.out
    have rl2 := R2.out.lt
    clear hg2
    go_wp2_with fail
    refine node_ret Tryz.results108 rfl (RB.five R2.out) rfl ?_
    refine ⟨_, rfl, ?_, (by repeat (first | with_reducible exact G2.out | with_reducible refine gb_put ?_ (by omega) _ _ | with_reducible refine gb_alloc ?_ _ | with_reducible refine gb_drewN ?_ _ | with_reducible refine gb_drew ?_))⟩
    exact (L2.out.kept (lr_put5 (w.heap.size + 1)) (fun b hb hk => by cases hb; have := hk.2; omega)).mono (fun k hk => Or.inl hk.1)
set_option maxRecDepth 100000 in
set_option maxHeartbeats 2000000 in
theorem op_orn (ka : Int) (m p : Int) (xa : List UInt8) (ma pa : Int) (la : List T) (kb : Int) (xb : List UInt8) (mb pb : Int) (lb : List T) (sv : Value) (S : Nat → Prop) (w : World) (ha : LR w S [(.mk ka xa ma pa la), (.mk kb xb mb pb lb)] sv) (hk1 : ka ≠ 30) (hk2 : ka ≠ 31) : Calls Tryz.prog 108 #[nodeV (.mk 36 [79, 82] m p [(.mk ka xa ma pa la), (.mk kb xb mb pb lb)]) sv] w (NL w (fun k => S k ∨ w.heap.size ≤ k) (opT (.mk 36 [79, 82] m p [(.mk ka xa ma pa la), (.mk kb xb mb pb lb)]))) := by
  have HA := hide ha.bounded
  obtain ⟨g, c, sa, sb, rfl, hc1, hc2, na, nb, la', lb'⟩ := LR.two ha
  unfold maxLen at hc2
  have hgl := block_lt na.c0
  obtain ⟨aa, ac, rfl⟩ := la'.form
  obtain ⟨ba, bc, rfl⟩ := lb'.form
  have LA := hide la'
  have LB := hide lb'
  obtain ⟨c0, c1, c2, c3, c4⟩ := na
  obtain ⟨d0, d1, d2, d3, d4⟩ := nb
  clear ha la' lb'
  have h30 : decide (ka = 30) = false := decide_eq_false hk1
  have h31 : decide (ka = 30 ∨ ka = 31) = false := decide_eq_false (by omega)
  have HE : Hid (opT (.mk 36 [79, 82] m p [(.mk ka xa ma pa la), (.mk kb xb mb pb lb)]) = (.mk 36 [79, 82] m p [(.mk ka xa ma pa la), (.mk kb xb mb pb lb)])) := by
    show _ = _
    unfold opT
    rw [if_pos (by simp [T.name]), if_neg (show ¬ (subT (.mk 36 [79, 82] m p [(.mk ka xa ma pa la), (.mk kb xb mb pb lb)]) 0).kind = 30 from hk1), if_neg (show ¬ (subT (.mk 36 [79, 82] m p [(.mk ka xa ma pa la), (.mk kb xb mb pb lb)]) 0).kind = 31 from hk2)]
  rw [HE.out]
  change Calls Tryz.prog 108 #[.agg #[.int .i64 36, .string ⟨List.toArray [79, 82]⟩, .int .i64 m, .int .i64 p, .slice (some ⟨g, 0, none⟩) 2 c]] w _
  go_enter Tryz.func108, Tryz.ntmps108
  go_upto_region 1 with fail
  obtain ⟨wq, hwq⟩ : ∃ q, q = (w.alloc (.cells #[.int .i64 36, .string ⟨List.toArray [79, 82]⟩, .int .i64 m, .int .i64 p, .slice (some ⟨g, 0, none⟩) 2 c] 24)).alloc (.cells #[.int .i64 0, .string ⟨#[]⟩, .int .i64 0, .int .i64 0, .slice none 0 0] 24) := ⟨_, rfl⟩
  rw [← hwq]
  have GQ : Hid (w.grownBy wq none) := by rw [hwq]; exact gb_alloc (gb_alloc (gb_refl w none) _) _
  have BQ : Hid (NB wq w.heap.size (.int .i64 36) (.string ⟨List.toArray [79, 82]⟩) (.int .i64 m) (.int .i64 p) (.slice (some ⟨g, 0, none⟩) 2 c)) := by rw [hwq]; exact NB.alloc (NB.new _ _) _
  have RQ : Hid (RB wq (w.heap.size + 1)) := by rw [hwq]; exact RB.new' (by simp)
  have szq : wq.heap.size = w.heap.size + 2 := by rw [hwq]; simp
  clear hwq
  have HS : Hid (∀ w', wq.grownBy w' none → w'.cell? ⟨w.heap.size, 4, none⟩ = some (.slice (some ⟨g, 0, none⟩) 2 c) ∧ w'.cell? ⟨g, 0, none⟩ = some (.int .i64 ka) ∧ w'.cell? ⟨g, 1, none⟩ = some (.string ⟨xa.toArray⟩) ∧ w'.cell? ⟨g, 2, none⟩ = some (.int .i64 ma) ∧ w'.cell? ⟨g, 3, none⟩ = some (.int .i64 pa) ∧ w'.cell? ⟨g, 4, none⟩ = some (.slice aa la.length ac) ∧ w'.cell? ⟨g, 5, none⟩ = some (.int .i64 kb) ∧ w'.cell? ⟨g, 6, none⟩ = some (.string ⟨xb.toArray⟩) ∧ w'.cell? ⟨g, 7, none⟩ = some (.int .i64 mb) ∧ w'.cell? ⟨g, 8, none⟩ = some (.int .i64 pb) ∧ w'.cell? ⟨g, 9, none⟩ = some (.slice ba lb.length bc)) := fun w' hg => by
    have hh := gb_trans GQ.out hg
    exact ⟨gb_cell hg BQ.out.c4, gb_cell hh c0, gb_cell hh c1, gb_cell hh c2, gb_cell hh c3, gb_cell hh c4, gb_cell hh d0, gb_cell hh d1, gb_cell hh d2, gb_cell hh d3, gb_cell hh d4⟩
  clear c0 c1 c2 c3 c4 d0 d1 d2 d3 d4
  go_cut [3, 4] from 11 (fun s3 s4 wx => ∃ (P Q : Nat), s3 = .pointer (some ⟨P, 0, none⟩) ∧ s4 = .pointer (some ⟨Q, 0, none⟩) ∧ NB wx P (.int .i64 ka) (.string ⟨xa.toArray⟩) (.int .i64 ma) (.int .i64 pa) (.slice aa la.length ac) ∧ NB wx Q (.int .i64 kb) (.string ⟨xb.toArray⟩) (.int .i64 mb) (.int .i64 pb) (.slice ba lb.length bc) ∧ wq.grownBy wx none)
  case first =>
    go_region_held (fun w' => w'.cell? ⟨w.heap.size, 4, none⟩ = some (.slice (some ⟨g, 0, none⟩) 2 c) ∧ w'.cell? ⟨g, 0, none⟩ = some (.int .i64 ka) ∧ w'.cell? ⟨g, 1, none⟩ = some (.string ⟨xa.toArray⟩) ∧ w'.cell? ⟨g, 2, none⟩ = some (.int .i64 ma) ∧ w'.cell? ⟨g, 3, none⟩ = some (.int .i64 pa) ∧ w'.cell? ⟨g, 4, none⟩ = some (.slice aa la.length ac) ∧ w'.cell? ⟨g, 5, none⟩ = some (.int .i64 kb) ∧ w'.cell? ⟨g, 6, none⟩ = some (.string ⟨xb.toArray⟩) ∧ w'.cell? ⟨g, 7, none⟩ = some (.int .i64 mb) ∧ w'.cell? ⟨g, 8, none⟩ = some (.int .i64 pb) ∧ w'.cell? ⟨g, 9, none⟩ = some (.slice ba lb.length bc)) (exact HS.out _ (by repeat (first | with_reducible exact gb_refl wq none | with_reducible refine gb_put ?_ (by omega) _ _ | with_reducible refine gb_alloc ?_ _ | with_reducible refine gb_drewN ?_ _ | with_reducible refine gb_drew ?_))) (fail)
    all_goals
      go_wp2_with fail
      go_meet
    case rel => exact ⟨_, _, rfl, rfl, ((NB.new' szq.symm).alloc _).drew, (NB.new' (by simp [szq])).drew, (by repeat (first | with_reducible exact gb_refl wq none | with_reducible refine gb_put ?_ (by omega) _ _ | with_reducible refine gb_alloc ?_ _ | with_reducible refine gb_drewN ?_ _ | with_reducible refine gb_drew ?_))⟩
    case rel => exact ⟨_, _, rfl, rfl, (NB.new' (by simp [szq])).drew, ((NB.new' szq.symm).alloc _).drew, (by repeat (first | with_reducible exact gb_refl wq none | with_reducible refine gb_put ?_ (by omega) _ _ | with_reducible refine gb_alloc ?_ _ | with_reducible refine gb_drewN ?_ _ | with_reducible refine gb_drew ?_))⟩
  case rest =>
    obtain ⟨P, Q, rfl, rfl, nP, nQ, gx⟩ := hcut
    have BX := hide (BQ.out.kept gx (by simp))
    have RX := hide (RQ.out.kept gx (by simp))
    have GX : Hid (w.grownBy wc none) := gb_trans GQ.out gx
    have NP := hide nP
    have NQ := hide nQ
    obtain ⟨b0, b1, b2, b3, b4, bz⟩ := BX.out
    obtain ⟨p0, p1, p2, p3, p4, pz⟩ := nP
    obtain ⟨q0, q1, q2, q3, q4, qz⟩ := nQ
    obtain ⟨_, _, _, _, _, r0, r1, r2, r3, r4, rz⟩ := RX.out
    have rl := RX.out.lt
    clear gx
    go_wp2_with fail
    go_at_call 106
    have HT := fun w' => hide (truth_any ka xa ma pa aa la.length ac w')
    rw [h30, h31] at HT
    refine (truth_any ka xa ma pa aa la.length ac _).mono ?_
    rintro e w1 ⟨rfl, hg1⟩
    have G1 : Hid (w.grownBy w1 none) := gb_trans GX.out hg1
    have R1 := hide (RX.out.kept hg1 (by simp))
    have B1 := hide (BX.out.kept hg1 (by simp))
    have P1 := hide (NP.out.kept hg1 (by simp))
    have Q1 := hide (NQ.out.kept hg1 (by simp))
    clear b0 b1 b2 b3 b4 bz p0 p1 p2 p3 p4 pz q0 q1 q2 q3 q4 qz r0 r1 r2 r3 r4 rz
    obtain ⟨b0, b1, b2, b3, b4, bz⟩ := B1.out
    obtain ⟨p0, p1, p2, p3, p4, pz⟩ := P1.out
    obtain ⟨q0, q1, q2, q3, q4, qz⟩ := Q1.out
    obtain ⟨_, _, _, _, _, r0, r1, r2, r3, r4, rz⟩ := R1.out
    have rl1 := R1.out.lt
    clear hg1
    go_wp2_with fail
    refine node_ret Tryz.results108 rfl (RB.five R1.out) rfl ?_
    exact nl_wide (nl_kept HA.out (by repeat (first | with_reducible exact G1.out | with_reducible refine gb_put ?_ (by omega) _ _ | with_reducible refine gb_alloc ?_ _ | with_reducible refine gb_drewN ?_ _ | with_reducible refine gb_drew ?_))) (fun k hk => Or.inl hk.1)
set_option maxRecDepth 100000 in
set_option maxHeartbeats 2000000 in
theorem op_num (x : List UInt8) (ka : Int) (m p : Int) (xa : List UInt8) (ma pa : Int) (la : List T) (kb : Int) (xb : List UInt8) (mb pb : Int) (lb : List T) (sv : Value) (S : Nat → Prop) (w : World) (ha : LR w S [(.mk ka xa ma pa la), (.mk kb xb mb pb lb)] sv) (hx : 0 ≤ levelOf x) (h1 : x ≠ [38]) (h2 : x ≠ [79, 82]) (hga : GT (.mk ka xa ma pa la)) (hgb : GT (.mk kb xb mb pb lb)) {u v : Int} (hu : numOf (.mk ka xa ma pa la) = some u) (hv : numOf (.mk kb xb mb pb lb) = some v) : Calls Tryz.prog 108 #[nodeV (.mk 36 x m p [(.mk ka xa ma pa la), (.mk kb xb mb pb lb)]) sv] w (NL w (fun k => S k ∨ w.heap.size ≤ k) (opT (.mk 36 x m p [(.mk ka xa ma pa la), (.mk kb xb mb pb lb)]))) := by
  have HA := hide ha.bounded
  obtain ⟨g, c, sa, sb, rfl, hc1, hc2, na, nb, la', lb'⟩ := LR.two ha
  unfold maxLen at hc2
  have hgl := block_lt na.c0
  obtain ⟨aa, ac, rfl⟩ := la'.form
  obtain ⟨ba, bc, rfl⟩ := lb'.form
  have LA := hide la'
  have LB := hide lb'
  obtain ⟨c0, c1, c2, c3, c4⟩ := na
  obtain ⟨d0, d1, d2, d3, d4⟩ := nb
  clear ha la' lb'
  have hx1 : (x == [38]) = false := by rw [beq_eq_false_iff_ne]; exact h1
  have hx2 : (x == [79, 82]) = false := by rw [beq_eq_false_iff_ne]; exact h2
  have HE : Hid (opT (.mk 36 x m p [(.mk ka xa ma pa la), (.mk kb xb mb pb lb)]) = workT (.mk 36 x m p [(.mk ka xa ma pa la), (.mk kb xb mb pb lb)]) u v) := by
    show _ = _
    unfold opT
    rw [if_neg (show ¬ ((T.mk 36 x m p [(.mk ka xa ma pa la), (.mk kb xb mb pb lb)]).name = [38] ∨ (T.mk 36 x m p [(.mk ka xa ma pa la), (.mk kb xb mb pb lb)]).name = [79, 82]) from fun h => h.elim h1 h2), show subT (.mk 36 x m p [(.mk ka xa ma pa la), (.mk kb xb mb pb lb)]) 0 = (.mk ka xa ma pa la) from rfl, show subT (.mk 36 x m p [(.mk ka xa ma pa la), (.mk kb xb mb pb lb)]) 1 = (.mk kb xb mb pb lb) from rfl, hu, hv]
  rw [HE.out]
  have HW := fun (w' : World) (hg : w.grownBy w' none) => hide (worked_any hx h1 h2 m p [(.mk ka xa ma pa la), (.mk kb xb mb pb lb)] (.slice (some ⟨g, 0, none⟩) 2 c) _ u v w' (HA.out.kept hg (fun _ hk => by cases hk)) (numOf_rng hga hu) (numOf_rng hgb hv))
  generalize workT _ u v = R at *
  obtain ⟨kr, xr, mr, pr, lr⟩ := R
  change Calls Tryz.prog 108 #[.agg #[.int .i64 36, .string ⟨x.toArray⟩, .int .i64 m, .int .i64 p, .slice (some ⟨g, 0, none⟩) 2 c]] w _
  go_enter Tryz.func108, Tryz.ntmps108
  go_upto_region 1 with fail
  obtain ⟨wq, hwq⟩ : ∃ q, q = (w.alloc (.cells #[.int .i64 36, .string ⟨x.toArray⟩, .int .i64 m, .int .i64 p, .slice (some ⟨g, 0, none⟩) 2 c] 24)).alloc (.cells #[.int .i64 0, .string ⟨#[]⟩, .int .i64 0, .int .i64 0, .slice none 0 0] 24) := ⟨_, rfl⟩
  rw [← hwq]
  have GQ : Hid (w.grownBy wq none) := by rw [hwq]; exact gb_alloc (gb_alloc (gb_refl w none) _) _
  have BQ : Hid (NB wq w.heap.size (.int .i64 36) (.string ⟨x.toArray⟩) (.int .i64 m) (.int .i64 p) (.slice (some ⟨g, 0, none⟩) 2 c)) := by rw [hwq]; exact NB.alloc (NB.new _ _) _
  have RQ : Hid (RB wq (w.heap.size + 1)) := by rw [hwq]; exact RB.new' (by simp)
  have szq : wq.heap.size = w.heap.size + 2 := by rw [hwq]; simp
  clear hwq
  have HS : Hid (∀ w', wq.grownBy w' none → w'.cell? ⟨w.heap.size, 4, none⟩ = some (.slice (some ⟨g, 0, none⟩) 2 c) ∧ w'.cell? ⟨g, 0, none⟩ = some (.int .i64 ka) ∧ w'.cell? ⟨g, 1, none⟩ = some (.string ⟨xa.toArray⟩) ∧ w'.cell? ⟨g, 2, none⟩ = some (.int .i64 ma) ∧ w'.cell? ⟨g, 3, none⟩ = some (.int .i64 pa) ∧ w'.cell? ⟨g, 4, none⟩ = some (.slice aa la.length ac) ∧ w'.cell? ⟨g, 5, none⟩ = some (.int .i64 kb) ∧ w'.cell? ⟨g, 6, none⟩ = some (.string ⟨xb.toArray⟩) ∧ w'.cell? ⟨g, 7, none⟩ = some (.int .i64 mb) ∧ w'.cell? ⟨g, 8, none⟩ = some (.int .i64 pb) ∧ w'.cell? ⟨g, 9, none⟩ = some (.slice ba lb.length bc)) := fun w' hg => by
    have hh := gb_trans GQ.out hg
    exact ⟨gb_cell hg BQ.out.c4, gb_cell hh c0, gb_cell hh c1, gb_cell hh c2, gb_cell hh c3, gb_cell hh c4, gb_cell hh d0, gb_cell hh d1, gb_cell hh d2, gb_cell hh d3, gb_cell hh d4⟩
  clear c0 c1 c2 c3 c4 d0 d1 d2 d3 d4
  go_cut [3, 4] from 11 (fun s3 s4 wx => ∃ (P Q : Nat), s3 = .pointer (some ⟨P, 0, none⟩) ∧ s4 = .pointer (some ⟨Q, 0, none⟩) ∧ NB wx P (.int .i64 ka) (.string ⟨xa.toArray⟩) (.int .i64 ma) (.int .i64 pa) (.slice aa la.length ac) ∧ NB wx Q (.int .i64 kb) (.string ⟨xb.toArray⟩) (.int .i64 mb) (.int .i64 pb) (.slice ba lb.length bc) ∧ wq.grownBy wx none)
  case first =>
    go_region_held (fun w' => w'.cell? ⟨w.heap.size, 4, none⟩ = some (.slice (some ⟨g, 0, none⟩) 2 c) ∧ w'.cell? ⟨g, 0, none⟩ = some (.int .i64 ka) ∧ w'.cell? ⟨g, 1, none⟩ = some (.string ⟨xa.toArray⟩) ∧ w'.cell? ⟨g, 2, none⟩ = some (.int .i64 ma) ∧ w'.cell? ⟨g, 3, none⟩ = some (.int .i64 pa) ∧ w'.cell? ⟨g, 4, none⟩ = some (.slice aa la.length ac) ∧ w'.cell? ⟨g, 5, none⟩ = some (.int .i64 kb) ∧ w'.cell? ⟨g, 6, none⟩ = some (.string ⟨xb.toArray⟩) ∧ w'.cell? ⟨g, 7, none⟩ = some (.int .i64 mb) ∧ w'.cell? ⟨g, 8, none⟩ = some (.int .i64 pb) ∧ w'.cell? ⟨g, 9, none⟩ = some (.slice ba lb.length bc)) (exact HS.out _ (by repeat (first | with_reducible exact gb_refl wq none | with_reducible refine gb_put ?_ (by omega) _ _ | with_reducible refine gb_alloc ?_ _ | with_reducible refine gb_drewN ?_ _ | with_reducible refine gb_drew ?_))) (fail)
    all_goals
      go_wp2_with fail
      go_meet
    case rel => exact ⟨_, _, rfl, rfl, ((NB.new' szq.symm).alloc _).drew, (NB.new' (by simp [szq])).drew, (by repeat (first | with_reducible exact gb_refl wq none | with_reducible refine gb_put ?_ (by omega) _ _ | with_reducible refine gb_alloc ?_ _ | with_reducible refine gb_drewN ?_ _ | with_reducible refine gb_drew ?_))⟩
    case rel => exact ⟨_, _, rfl, rfl, (NB.new' (by simp [szq])).drew, ((NB.new' szq.symm).alloc _).drew, (by repeat (first | with_reducible exact gb_refl wq none | with_reducible refine gb_put ?_ (by omega) _ _ | with_reducible refine gb_alloc ?_ _ | with_reducible refine gb_drewN ?_ _ | with_reducible refine gb_drew ?_))⟩
  case rest =>
    obtain ⟨P, Q, rfl, rfl, nP, nQ, gx⟩ := hcut
    have BX := hide (BQ.out.kept gx (by simp))
    have RX := hide (RQ.out.kept gx (by simp))
    have GX : Hid (w.grownBy wc none) := gb_trans GQ.out gx
    have NP := hide nP
    have NQ := hide nQ
    obtain ⟨b0, b1, b2, b3, b4, bz⟩ := BX.out
    obtain ⟨p0, p1, p2, p3, p4, pz⟩ := nP
    obtain ⟨q0, q1, q2, q3, q4, qz⟩ := nQ
    obtain ⟨_, _, _, _, _, r0, r1, r2, r3, r4, rz⟩ := RX.out
    have rl := RX.out.lt
    clear gx
    have HN1 := fun (w' : World) (hg : w.grownBy w' none) => hide (number_some (.mk ka xa ma pa la) (.slice aa la.length ac) _ w' (LA.out.kept hg (fun _ hk => by cases hk)) hga hu)
    go_wp2_with fail
    go_at_call 134
    refine ((HN1 _ (by repeat (first | with_reducible exact GX.out | with_reducible refine gb_put ?_ (by omega) _ _ | with_reducible refine gb_alloc ?_ _ | with_reducible refine gb_drewN ?_ _ | with_reducible refine gb_drew ?_))).out).mono ?_
    rintro e w1 ⟨rfl, hg1⟩
    have G1 : Hid (w.grownBy w1 none) := gb_trans GX.out hg1
    have R1 := hide (RX.out.kept hg1 (by simp))
    have B1 := hide (BX.out.kept hg1 (by simp))
    have P1 := hide (NP.out.kept hg1 (by simp))
    have Q1 := hide (NQ.out.kept hg1 (by simp))
    clear b0 b1 b2 b3 b4 bz p0 p1 p2 p3 p4 pz q0 q1 q2 q3 q4 qz r0 r1 r2 r3 r4 rz
    obtain ⟨b0, b1, b2, b3, b4, bz⟩ := B1.out
    obtain ⟨p0, p1, p2, p3, p4, pz⟩ := P1.out
    obtain ⟨q0, q1, q2, q3, q4, qz⟩ := Q1.out
    obtain ⟨_, _, _, _, _, r0, r1, r2, r3, r4, rz⟩ := R1.out
    have rl1 := R1.out.lt
    clear hg1
    have HN2 := fun (w' : World) (hg : w.grownBy w' none) => hide (number_some (.mk kb xb mb pb lb) (.slice ba lb.length bc) _ w' (LB.out.kept hg (fun _ hk => by cases hk)) hgb hv)
    go_wp2_with fail
    go_at_call 134
    refine ((HN2 _ (by repeat (first | with_reducible exact G1.out | with_reducible refine gb_put ?_ (by omega) _ _ | with_reducible refine gb_alloc ?_ _ | with_reducible refine gb_drewN ?_ _ | with_reducible refine gb_drew ?_))).out).mono ?_
    rintro e w2 ⟨rfl, hg2⟩
    have G2 : Hid (w.grownBy w2 none) := gb_trans G1.out hg2
    have R2 := hide (R1.out.kept hg2 (by simp))
    have B2 := hide (B1.out.kept hg2 (by simp))
    have P2 := hide (P1.out.kept hg2 (by simp))
    have Q2 := hide (Q1.out.kept hg2 (by simp))
    clear b0 b1 b2 b3 b4 bz p0 p1 p2 p3 p4 pz q0 q1 q2 q3 q4 qz r0 r1 r2 r3 r4 rz
    obtain ⟨b0, b1, b2, b3, b4, bz⟩ := B2.out
    obtain ⟨p0, p1, p2, p3, p4, pz⟩ := P2.out
    obtain ⟨q0, q1, q2, q3, q4, qz⟩ := Q2.out
    obtain ⟨_, _, _, _, _, r0, r1, r2, r3, r4, rz⟩ := R2.out
    have rl2 := R2.out.lt
    clear hg2
    have hs2 := G2.out.size
    have hs1 := GQ.out.size
    go_wp2_with fail
    go_at_call 135
    refine ((HW _ (by repeat (first | with_reducible exact G2.out | with_reducible refine gb_put ?_ (by omega) _ _ | with_reducible refine gb_alloc ?_ _ | with_reducible refine gb_drewN ?_ _ | with_reducible refine gb_drew ?_))).out).mono ?_
    rintro e w3 ⟨sv3, rfl, l3, hg3⟩
    have L3 := hide l3
    obtain ⟨sa3, sc3, rfl⟩ := l3.form
    clear l3
    have G3 : Hid (w.grownBy w3 none) := gb_trans G2.out hg3
    have R3 := hide (R2.out.kept hg3 (by simp))
    have B3 := hide (B2.out.kept hg3 (by simp))
    have P3 := hide (P2.out.kept hg3 (by simp))
    have Q3 := hide (Q2.out.kept hg3 (by simp))
    clear b0 b1 b2 b3 b4 bz p0 p1 p2 p3 p4 pz q0 q1 q2 q3 q4 qz r0 r1 r2 r3 r4 rz
    obtain ⟨b0, b1, b2, b3, b4, bz⟩ := B3.out
    obtain ⟨p0, p1, p2, p3, p4, pz⟩ := P3.out
    obtain ⟨q0, q1, q2, q3, q4, qz⟩ := Q3.out
    obtain ⟨_, _, _, _, _, r0, r1, r2, r3, r4, rz⟩ := R3.out
    have rl3 := R3.out.lt
    clear hg3
    go_wp2_with fail
    refine node_ret Tryz.results108 rfl (RB.five R3.out) rfl ?_
    refine ⟨_, rfl, ?_, (by repeat (first | with_reducible exact G3.out | with_reducible refine gb_put ?_ (by omega) _ _ | with_reducible refine gb_alloc ?_ _ | with_reducible refine gb_drewN ?_ _ | with_reducible refine gb_drew ?_))⟩
    exact (L3.out.kept (lr_put5 (w.heap.size + 1)) (fun b hb hk => by cases hb; rcases hk with hk | hk; · have := hk.2; omega
                                                                      · have := hk; omega)).mono (fun k hk => hk.elim (fun h => Or.inl h.1) (fun h => Or.inr (by have : w2.heap.size ≤ k := h; omega)))
set_option maxRecDepth 100000 in
set_option maxHeartbeats 2000000 in
theorem op_nn (x : List UInt8) (ka : Int) (m p : Int) (xa : List UInt8) (ma pa : Int) (la : List T) (kb : Int) (xb : List UInt8) (mb pb : Int) (lb : List T) (sv : Value) (S : Nat → Prop) (w : World) (ha : LR w S [(.mk ka xa ma pa la), (.mk kb xb mb pb lb)] sv) (_hx : 0 ≤ levelOf x) (h1 : x ≠ [38]) (h2 : x ≠ [79, 82]) (hga : GT (.mk ka xa ma pa la)) (hgb : GT (.mk kb xb mb pb lb)) (hu : numOf (.mk ka xa ma pa la) = none) : Calls Tryz.prog 108 #[nodeV (.mk 36 x m p [(.mk ka xa ma pa la), (.mk kb xb mb pb lb)]) sv] w (NL w (fun k => S k ∨ w.heap.size ≤ k) (opT (.mk 36 x m p [(.mk ka xa ma pa la), (.mk kb xb mb pb lb)]))) := by
  have HA := hide ha.bounded
  obtain ⟨g, c, sa, sb, rfl, hc1, hc2, na, nb, la', lb'⟩ := LR.two ha
  unfold maxLen at hc2
  have hgl := block_lt na.c0
  obtain ⟨aa, ac, rfl⟩ := la'.form
  obtain ⟨ba, bc, rfl⟩ := lb'.form
  have LA := hide la'
  have LB := hide lb'
  obtain ⟨c0, c1, c2, c3, c4⟩ := na
  obtain ⟨d0, d1, d2, d3, d4⟩ := nb
  clear ha la' lb'
  have hx1 : (x == [38]) = false := by rw [beq_eq_false_iff_ne]; exact h1
  have hx2 : (x == [79, 82]) = false := by rw [beq_eq_false_iff_ne]; exact h2
  have HE : Hid (opT (.mk 36 x m p [(.mk ka xa ma pa la), (.mk kb xb mb pb lb)]) = (.mk 36 x m p [(.mk ka xa ma pa la), (.mk kb xb mb pb lb)])) := by
    show _ = _
    unfold opT
    rw [if_neg (show ¬ ((T.mk 36 x m p [(.mk ka xa ma pa la), (.mk kb xb mb pb lb)]).name = [38] ∨ (T.mk 36 x m p [(.mk ka xa ma pa la), (.mk kb xb mb pb lb)]).name = [79, 82]) from fun h => h.elim h1 h2), show subT (.mk 36 x m p [(.mk ka xa ma pa la), (.mk kb xb mb pb lb)]) 0 = (.mk ka xa ma pa la) from rfl, show subT (.mk 36 x m p [(.mk ka xa ma pa la), (.mk kb xb mb pb lb)]) 1 = (.mk kb xb mb pb lb) from rfl, hu]
  rw [HE.out]
  have hb9 : (numOf (.mk ka xa ma pa la)).isSome = false := by rw [hu]; rfl
  change Calls Tryz.prog 108 #[.agg #[.int .i64 36, .string ⟨x.toArray⟩, .int .i64 m, .int .i64 p, .slice (some ⟨g, 0, none⟩) 2 c]] w _
  go_enter Tryz.func108, Tryz.ntmps108
  go_upto_region 1 with fail
  obtain ⟨wq, hwq⟩ : ∃ q, q = (w.alloc (.cells #[.int .i64 36, .string ⟨x.toArray⟩, .int .i64 m, .int .i64 p, .slice (some ⟨g, 0, none⟩) 2 c] 24)).alloc (.cells #[.int .i64 0, .string ⟨#[]⟩, .int .i64 0, .int .i64 0, .slice none 0 0] 24) := ⟨_, rfl⟩
  rw [← hwq]
  have GQ : Hid (w.grownBy wq none) := by rw [hwq]; exact gb_alloc (gb_alloc (gb_refl w none) _) _
  have BQ : Hid (NB wq w.heap.size (.int .i64 36) (.string ⟨x.toArray⟩) (.int .i64 m) (.int .i64 p) (.slice (some ⟨g, 0, none⟩) 2 c)) := by rw [hwq]; exact NB.alloc (NB.new _ _) _
  have RQ : Hid (RB wq (w.heap.size + 1)) := by rw [hwq]; exact RB.new' (by simp)
  have szq : wq.heap.size = w.heap.size + 2 := by rw [hwq]; simp
  clear hwq
  have HS : Hid (∀ w', wq.grownBy w' none → w'.cell? ⟨w.heap.size, 4, none⟩ = some (.slice (some ⟨g, 0, none⟩) 2 c) ∧ w'.cell? ⟨g, 0, none⟩ = some (.int .i64 ka) ∧ w'.cell? ⟨g, 1, none⟩ = some (.string ⟨xa.toArray⟩) ∧ w'.cell? ⟨g, 2, none⟩ = some (.int .i64 ma) ∧ w'.cell? ⟨g, 3, none⟩ = some (.int .i64 pa) ∧ w'.cell? ⟨g, 4, none⟩ = some (.slice aa la.length ac) ∧ w'.cell? ⟨g, 5, none⟩ = some (.int .i64 kb) ∧ w'.cell? ⟨g, 6, none⟩ = some (.string ⟨xb.toArray⟩) ∧ w'.cell? ⟨g, 7, none⟩ = some (.int .i64 mb) ∧ w'.cell? ⟨g, 8, none⟩ = some (.int .i64 pb) ∧ w'.cell? ⟨g, 9, none⟩ = some (.slice ba lb.length bc)) := fun w' hg => by
    have hh := gb_trans GQ.out hg
    exact ⟨gb_cell hg BQ.out.c4, gb_cell hh c0, gb_cell hh c1, gb_cell hh c2, gb_cell hh c3, gb_cell hh c4, gb_cell hh d0, gb_cell hh d1, gb_cell hh d2, gb_cell hh d3, gb_cell hh d4⟩
  clear c0 c1 c2 c3 c4 d0 d1 d2 d3 d4
  go_cut [3, 4] from 11 (fun s3 s4 wx => ∃ (P Q : Nat), s3 = .pointer (some ⟨P, 0, none⟩) ∧ s4 = .pointer (some ⟨Q, 0, none⟩) ∧ NB wx P (.int .i64 ka) (.string ⟨xa.toArray⟩) (.int .i64 ma) (.int .i64 pa) (.slice aa la.length ac) ∧ NB wx Q (.int .i64 kb) (.string ⟨xb.toArray⟩) (.int .i64 mb) (.int .i64 pb) (.slice ba lb.length bc) ∧ wq.grownBy wx none)
  case first =>
    go_region_held (fun w' => w'.cell? ⟨w.heap.size, 4, none⟩ = some (.slice (some ⟨g, 0, none⟩) 2 c) ∧ w'.cell? ⟨g, 0, none⟩ = some (.int .i64 ka) ∧ w'.cell? ⟨g, 1, none⟩ = some (.string ⟨xa.toArray⟩) ∧ w'.cell? ⟨g, 2, none⟩ = some (.int .i64 ma) ∧ w'.cell? ⟨g, 3, none⟩ = some (.int .i64 pa) ∧ w'.cell? ⟨g, 4, none⟩ = some (.slice aa la.length ac) ∧ w'.cell? ⟨g, 5, none⟩ = some (.int .i64 kb) ∧ w'.cell? ⟨g, 6, none⟩ = some (.string ⟨xb.toArray⟩) ∧ w'.cell? ⟨g, 7, none⟩ = some (.int .i64 mb) ∧ w'.cell? ⟨g, 8, none⟩ = some (.int .i64 pb) ∧ w'.cell? ⟨g, 9, none⟩ = some (.slice ba lb.length bc)) (exact HS.out _ (by repeat (first | with_reducible exact gb_refl wq none | with_reducible refine gb_put ?_ (by omega) _ _ | with_reducible refine gb_alloc ?_ _ | with_reducible refine gb_drewN ?_ _ | with_reducible refine gb_drew ?_))) (fail)
    all_goals
      go_wp2_with fail
      go_meet
    case rel => exact ⟨_, _, rfl, rfl, ((NB.new' szq.symm).alloc _).drew, (NB.new' (by simp [szq])).drew, (by repeat (first | with_reducible exact gb_refl wq none | with_reducible refine gb_put ?_ (by omega) _ _ | with_reducible refine gb_alloc ?_ _ | with_reducible refine gb_drewN ?_ _ | with_reducible refine gb_drew ?_))⟩
    case rel => exact ⟨_, _, rfl, rfl, (NB.new' (by simp [szq])).drew, ((NB.new' szq.symm).alloc _).drew, (by repeat (first | with_reducible exact gb_refl wq none | with_reducible refine gb_put ?_ (by omega) _ _ | with_reducible refine gb_alloc ?_ _ | with_reducible refine gb_drewN ?_ _ | with_reducible refine gb_drew ?_))⟩
  case rest =>
    obtain ⟨P, Q, rfl, rfl, nP, nQ, gx⟩ := hcut
    have BX := hide (BQ.out.kept gx (by simp))
    have RX := hide (RQ.out.kept gx (by simp))
    have GX : Hid (w.grownBy wc none) := gb_trans GQ.out gx
    have NP := hide nP
    have NQ := hide nQ
    obtain ⟨b0, b1, b2, b3, b4, bz⟩ := BX.out
    obtain ⟨p0, p1, p2, p3, p4, pz⟩ := nP
    obtain ⟨q0, q1, q2, q3, q4, qz⟩ := nQ
    obtain ⟨_, _, _, _, _, r0, r1, r2, r3, r4, rz⟩ := RX.out
    have rl := RX.out.lt
    clear gx
    have HN1 := fun (w' : World) (hg : w.grownBy w' none) => hide (number_lr (.mk ka xa ma pa la) (.slice aa la.length ac) _ w' (LA.out.kept hg (fun _ hk => by cases hk)) hga)
    rw [hb9] at HN1
    go_wp2_with fail
    go_at_call 134
    refine ((HN1 _ (by repeat (first | with_reducible exact GX.out | with_reducible refine gb_put ?_ (by omega) _ _ | with_reducible refine gb_alloc ?_ _ | with_reducible refine gb_drewN ?_ _ | with_reducible refine gb_drew ?_))).out).mono ?_
    rintro e w1 ⟨z1, rfl, hz1, hg1⟩
    clear hz1
    have G1 : Hid (w.grownBy w1 none) := gb_trans GX.out hg1
    have R1 := hide (RX.out.kept hg1 (by simp))
    have B1 := hide (BX.out.kept hg1 (by simp))
    have P1 := hide (NP.out.kept hg1 (by simp))
    have Q1 := hide (NQ.out.kept hg1 (by simp))
    clear b0 b1 b2 b3 b4 bz p0 p1 p2 p3 p4 pz q0 q1 q2 q3 q4 qz r0 r1 r2 r3 r4 rz
    obtain ⟨b0, b1, b2, b3, b4, bz⟩ := B1.out
    obtain ⟨p0, p1, p2, p3, p4, pz⟩ := P1.out
    obtain ⟨q0, q1, q2, q3, q4, qz⟩ := Q1.out
    obtain ⟨_, _, _, _, _, r0, r1, r2, r3, r4, rz⟩ := R1.out
    have rl1 := R1.out.lt
    clear hg1
    generalize hbb : (numOf (.mk kb xb mb pb lb)).isSome = bb at *
    have HN2 := fun (w' : World) (hg : w.grownBy w' none) => hide (number_lr (.mk kb xb mb pb lb) (.slice ba lb.length bc) _ w' (LB.out.kept hg (fun _ hk => by cases hk)) hgb)
    rw [hbb] at HN2
    go_wp2_with fail
    go_at_call 134
    refine ((HN2 _ (by repeat (first | with_reducible exact G1.out | with_reducible refine gb_put ?_ (by omega) _ _ | with_reducible refine gb_alloc ?_ _ | with_reducible refine gb_drewN ?_ _ | with_reducible refine gb_drew ?_))).out).mono ?_
    rintro e w2 ⟨z2, rfl, hz2, hg2⟩
    clear hz2
    have G2 : Hid (w.grownBy w2 none) := gb_trans G1.out hg2
    have R2 := hide (R1.out.kept hg2 (by simp))
    have B2 := hide (B1.out.kept hg2 (by simp))
    have P2 := hide (P1.out.kept hg2 (by simp))
    have Q2 := hide (Q1.out.kept hg2 (by simp))
    clear b0 b1 b2 b3 b4 bz p0 p1 p2 p3 p4 pz q0 q1 q2 q3 q4 qz r0 r1 r2 r3 r4 rz
    obtain ⟨b0, b1, b2, b3, b4, bz⟩ := B2.out
    obtain ⟨p0, p1, p2, p3, p4, pz⟩ := P2.out
    obtain ⟨q0, q1, q2, q3, q4, qz⟩ := Q2.out
    obtain ⟨_, _, _, _, _, r0, r1, r2, r3, r4, rz⟩ := R2.out
    have rl2 := R2.out.lt
    clear hg2
    go_wp2_with fail
    refine node_ret Tryz.results108 rfl (RB.five R2.out) rfl ?_
    exact nl_wide (nl_kept HA.out (by repeat (first | with_reducible exact G2.out | with_reducible refine gb_put ?_ (by omega) _ _ | with_reducible refine gb_alloc ?_ _ | with_reducible refine gb_drewN ?_ _ | with_reducible refine gb_drew ?_))) (fun k hk => Or.inl hk.1)
set_option maxRecDepth 100000 in
set_option maxHeartbeats 2000000 in
theorem op_sn (x : List UInt8) (ka : Int) (m p : Int) (xa : List UInt8) (ma pa : Int) (la : List T) (kb : Int) (xb : List UInt8) (mb pb : Int) (lb : List T) (sv : Value) (S : Nat → Prop) (w : World) (ha : LR w S [(.mk ka xa ma pa la), (.mk kb xb mb pb lb)] sv) (_hx : 0 ≤ levelOf x) (h1 : x ≠ [38]) (h2 : x ≠ [79, 82]) (hga : GT (.mk ka xa ma pa la)) (hgb : GT (.mk kb xb mb pb lb)) {u : Int} (hu : numOf (.mk ka xa ma pa la) = some u) (hv : numOf (.mk kb xb mb pb lb) = none) : Calls Tryz.prog 108 #[nodeV (.mk 36 x m p [(.mk ka xa ma pa la), (.mk kb xb mb pb lb)]) sv] w (NL w (fun k => S k ∨ w.heap.size ≤ k) (opT (.mk 36 x m p [(.mk ka xa ma pa la), (.mk kb xb mb pb lb)]))) := by
  have HA := hide ha.bounded
  obtain ⟨g, c, sa, sb, rfl, hc1, hc2, na, nb, la', lb'⟩ := LR.two ha
  unfold maxLen at hc2
  have hgl := block_lt na.c0
  obtain ⟨aa, ac, rfl⟩ := la'.form
  obtain ⟨ba, bc, rfl⟩ := lb'.form
  have LA := hide la'
  have LB := hide lb'
  obtain ⟨c0, c1, c2, c3, c4⟩ := na
  obtain ⟨d0, d1, d2, d3, d4⟩ := nb
  clear ha la' lb'
  have hx1 : (x == [38]) = false := by rw [beq_eq_false_iff_ne]; exact h1
  have hx2 : (x == [79, 82]) = false := by rw [beq_eq_false_iff_ne]; exact h2
  have HE : Hid (opT (.mk 36 x m p [(.mk ka xa ma pa la), (.mk kb xb mb pb lb)]) = (.mk 36 x m p [(.mk ka xa ma pa la), (.mk kb xb mb pb lb)])) := by
    show _ = _
    unfold opT
    rw [if_neg (show ¬ ((T.mk 36 x m p [(.mk ka xa ma pa la), (.mk kb xb mb pb lb)]).name = [38] ∨ (T.mk 36 x m p [(.mk ka xa ma pa la), (.mk kb xb mb pb lb)]).name = [79, 82]) from fun h => h.elim h1 h2), show subT (.mk 36 x m p [(.mk ka xa ma pa la), (.mk kb xb mb pb lb)]) 0 = (.mk ka xa ma pa la) from rfl, show subT (.mk 36 x m p [(.mk ka xa ma pa la), (.mk kb xb mb pb lb)]) 1 = (.mk kb xb mb pb lb) from rfl, hu, hv]
  rw [HE.out]
  have hb9 : (numOf (.mk ka xa ma pa la)).isSome = true := by rw [hu]; rfl
  have hb8 : (numOf (.mk kb xb mb pb lb)).isSome = false := by rw [hv]; rfl
  change Calls Tryz.prog 108 #[.agg #[.int .i64 36, .string ⟨x.toArray⟩, .int .i64 m, .int .i64 p, .slice (some ⟨g, 0, none⟩) 2 c]] w _
  go_enter Tryz.func108, Tryz.ntmps108
  go_upto_region 1 with fail
  obtain ⟨wq, hwq⟩ : ∃ q, q = (w.alloc (.cells #[.int .i64 36, .string ⟨x.toArray⟩, .int .i64 m, .int .i64 p, .slice (some ⟨g, 0, none⟩) 2 c] 24)).alloc (.cells #[.int .i64 0, .string ⟨#[]⟩, .int .i64 0, .int .i64 0, .slice none 0 0] 24) := ⟨_, rfl⟩
  rw [← hwq]
  have GQ : Hid (w.grownBy wq none) := by rw [hwq]; exact gb_alloc (gb_alloc (gb_refl w none) _) _
  have BQ : Hid (NB wq w.heap.size (.int .i64 36) (.string ⟨x.toArray⟩) (.int .i64 m) (.int .i64 p) (.slice (some ⟨g, 0, none⟩) 2 c)) := by rw [hwq]; exact NB.alloc (NB.new _ _) _
  have RQ : Hid (RB wq (w.heap.size + 1)) := by rw [hwq]; exact RB.new' (by simp)
  have szq : wq.heap.size = w.heap.size + 2 := by rw [hwq]; simp
  clear hwq
  have HS : Hid (∀ w', wq.grownBy w' none → w'.cell? ⟨w.heap.size, 4, none⟩ = some (.slice (some ⟨g, 0, none⟩) 2 c) ∧ w'.cell? ⟨g, 0, none⟩ = some (.int .i64 ka) ∧ w'.cell? ⟨g, 1, none⟩ = some (.string ⟨xa.toArray⟩) ∧ w'.cell? ⟨g, 2, none⟩ = some (.int .i64 ma) ∧ w'.cell? ⟨g, 3, none⟩ = some (.int .i64 pa) ∧ w'.cell? ⟨g, 4, none⟩ = some (.slice aa la.length ac) ∧ w'.cell? ⟨g, 5, none⟩ = some (.int .i64 kb) ∧ w'.cell? ⟨g, 6, none⟩ = some (.string ⟨xb.toArray⟩) ∧ w'.cell? ⟨g, 7, none⟩ = some (.int .i64 mb) ∧ w'.cell? ⟨g, 8, none⟩ = some (.int .i64 pb) ∧ w'.cell? ⟨g, 9, none⟩ = some (.slice ba lb.length bc)) := fun w' hg => by
    have hh := gb_trans GQ.out hg
    exact ⟨gb_cell hg BQ.out.c4, gb_cell hh c0, gb_cell hh c1, gb_cell hh c2, gb_cell hh c3, gb_cell hh c4, gb_cell hh d0, gb_cell hh d1, gb_cell hh d2, gb_cell hh d3, gb_cell hh d4⟩
  clear c0 c1 c2 c3 c4 d0 d1 d2 d3 d4
  go_cut [3, 4] from 11 (fun s3 s4 wx => ∃ (P Q : Nat), s3 = .pointer (some ⟨P, 0, none⟩) ∧ s4 = .pointer (some ⟨Q, 0, none⟩) ∧ NB wx P (.int .i64 ka) (.string ⟨xa.toArray⟩) (.int .i64 ma) (.int .i64 pa) (.slice aa la.length ac) ∧ NB wx Q (.int .i64 kb) (.string ⟨xb.toArray⟩) (.int .i64 mb) (.int .i64 pb) (.slice ba lb.length bc) ∧ wq.grownBy wx none)
  case first =>
    go_region_held (fun w' => w'.cell? ⟨w.heap.size, 4, none⟩ = some (.slice (some ⟨g, 0, none⟩) 2 c) ∧ w'.cell? ⟨g, 0, none⟩ = some (.int .i64 ka) ∧ w'.cell? ⟨g, 1, none⟩ = some (.string ⟨xa.toArray⟩) ∧ w'.cell? ⟨g, 2, none⟩ = some (.int .i64 ma) ∧ w'.cell? ⟨g, 3, none⟩ = some (.int .i64 pa) ∧ w'.cell? ⟨g, 4, none⟩ = some (.slice aa la.length ac) ∧ w'.cell? ⟨g, 5, none⟩ = some (.int .i64 kb) ∧ w'.cell? ⟨g, 6, none⟩ = some (.string ⟨xb.toArray⟩) ∧ w'.cell? ⟨g, 7, none⟩ = some (.int .i64 mb) ∧ w'.cell? ⟨g, 8, none⟩ = some (.int .i64 pb) ∧ w'.cell? ⟨g, 9, none⟩ = some (.slice ba lb.length bc)) (exact HS.out _ (by repeat (first | with_reducible exact gb_refl wq none | with_reducible refine gb_put ?_ (by omega) _ _ | with_reducible refine gb_alloc ?_ _ | with_reducible refine gb_drewN ?_ _ | with_reducible refine gb_drew ?_))) (fail)
    all_goals
      go_wp2_with fail
      go_meet
    case rel => exact ⟨_, _, rfl, rfl, ((NB.new' szq.symm).alloc _).drew, (NB.new' (by simp [szq])).drew, (by repeat (first | with_reducible exact gb_refl wq none | with_reducible refine gb_put ?_ (by omega) _ _ | with_reducible refine gb_alloc ?_ _ | with_reducible refine gb_drewN ?_ _ | with_reducible refine gb_drew ?_))⟩
    case rel => exact ⟨_, _, rfl, rfl, (NB.new' (by simp [szq])).drew, ((NB.new' szq.symm).alloc _).drew, (by repeat (first | with_reducible exact gb_refl wq none | with_reducible refine gb_put ?_ (by omega) _ _ | with_reducible refine gb_alloc ?_ _ | with_reducible refine gb_drewN ?_ _ | with_reducible refine gb_drew ?_))⟩
  case rest =>
    obtain ⟨P, Q, rfl, rfl, nP, nQ, gx⟩ := hcut
    have BX := hide (BQ.out.kept gx (by simp))
    have RX := hide (RQ.out.kept gx (by simp))
    have GX : Hid (w.grownBy wc none) := gb_trans GQ.out gx
    have NP := hide nP
    have NQ := hide nQ
    obtain ⟨b0, b1, b2, b3, b4, bz⟩ := BX.out
    obtain ⟨p0, p1, p2, p3, p4, pz⟩ := nP
    obtain ⟨q0, q1, q2, q3, q4, qz⟩ := nQ
    obtain ⟨_, _, _, _, _, r0, r1, r2, r3, r4, rz⟩ := RX.out
    have rl := RX.out.lt
    clear gx
    have HN1 := fun (w' : World) (hg : w.grownBy w' none) => hide (number_some (.mk ka xa ma pa la) (.slice aa la.length ac) _ w' (LA.out.kept hg (fun _ hk => by cases hk)) hga hu)
    go_wp2_with fail
    go_at_call 134
    refine ((HN1 _ (by repeat (first | with_reducible exact GX.out | with_reducible refine gb_put ?_ (by omega) _ _ | with_reducible refine gb_alloc ?_ _ | with_reducible refine gb_drewN ?_ _ | with_reducible refine gb_drew ?_))).out).mono ?_
    rintro e w1 ⟨rfl, hg1⟩
    have G1 : Hid (w.grownBy w1 none) := gb_trans GX.out hg1
    have R1 := hide (RX.out.kept hg1 (by simp))
    have B1 := hide (BX.out.kept hg1 (by simp))
    have P1 := hide (NP.out.kept hg1 (by simp))
    have Q1 := hide (NQ.out.kept hg1 (by simp))
    clear b0 b1 b2 b3 b4 bz p0 p1 p2 p3 p4 pz q0 q1 q2 q3 q4 qz r0 r1 r2 r3 r4 rz
    obtain ⟨b0, b1, b2, b3, b4, bz⟩ := B1.out
    obtain ⟨p0, p1, p2, p3, p4, pz⟩ := P1.out
    obtain ⟨q0, q1, q2, q3, q4, qz⟩ := Q1.out
    obtain ⟨_, _, _, _, _, r0, r1, r2, r3, r4, rz⟩ := R1.out
    have rl1 := R1.out.lt
    clear hg1
    have HN2 := fun (w' : World) (hg : w.grownBy w' none) => hide (number_lr (.mk kb xb mb pb lb) (.slice ba lb.length bc) _ w' (LB.out.kept hg (fun _ hk => by cases hk)) hgb)
    rw [hb8] at HN2
    go_wp2_with fail
    go_at_call 134
    refine ((HN2 _ (by repeat (first | with_reducible exact G1.out | with_reducible refine gb_put ?_ (by omega) _ _ | with_reducible refine gb_alloc ?_ _ | with_reducible refine gb_drewN ?_ _ | with_reducible refine gb_drew ?_))).out).mono ?_
    rintro e w2 ⟨z2, rfl, hz2, hg2⟩
    clear hz2
    have G2 : Hid (w.grownBy w2 none) := gb_trans G1.out hg2
    have R2 := hide (R1.out.kept hg2 (by simp))
    have B2 := hide (B1.out.kept hg2 (by simp))
    have P2 := hide (P1.out.kept hg2 (by simp))
    have Q2 := hide (Q1.out.kept hg2 (by simp))
    clear b0 b1 b2 b3 b4 bz p0 p1 p2 p3 p4 pz q0 q1 q2 q3 q4 qz r0 r1 r2 r3 r4 rz
    obtain ⟨b0, b1, b2, b3, b4, bz⟩ := B2.out
    obtain ⟨p0, p1, p2, p3, p4, pz⟩ := P2.out
    obtain ⟨q0, q1, q2, q3, q4, qz⟩ := Q2.out
    obtain ⟨_, _, _, _, _, r0, r1, r2, r3, r4, rz⟩ := R2.out
    have rl2 := R2.out.lt
    clear hg2
    go_wp2_with fail
    refine node_ret Tryz.results108 rfl (RB.five R2.out) rfl ?_
    exact nl_wide (nl_kept HA.out (by repeat (first | with_reducible exact G2.out | with_reducible refine gb_put ?_ (by omega) _ _ | with_reducible refine gb_alloc ?_ _ | with_reducible refine gb_drewN ?_ _ | with_reducible refine gb_drew ?_))) (fun k hk => Or.inl hk.1)
end Go.Proofs.YtlkokcnbbihljaaGreatDoor

/- What is put for a node whose parts are worked out: tidy.operation, tidy.plain. -/
namespace Go.Proofs.YtlkokcnbbihljaaGreatDoor
open Go.RowKit

theorem operation_any (x : List UInt8) (m p : Int) (l : List T) (sv : Value) (S : Nat → Prop) (w : World) (ha : LR w S l sv) (hg : GT (.mk 36 x m p l)) : Calls Tryz.prog 108 #[nodeV (.mk 36 x m p l) sv] w (NL w (fun k => S k ∨ w.heap.size ≤ k) (opT (.mk 36 x m p l))) := by
  cases hg with
  | mk _ _ _ _ _ hl h1 h2 h3 h4 h5 =>
    obtain ⟨hlen, hx⟩ := h2 rfl
    obtain ⟨a, b, rfl⟩ := two_of hlen
    have ga := hl a (by simp)
    have gb := hl b (by simp)
    obtain ⟨ka, xa, ma, pa, la⟩ := a
    obtain ⟨kb, xb, mb, pb, lb⟩ := b
    by_cases e1 : x = [38]
    · subst e1
      by_cases k1 : ka = 30
      · subst k1; exact op_and30 m p xa ma pa la kb xb mb pb lb sv S w ha
      · by_cases k2 : ka = 31
        · subst k2; exact op_and31 m p xa ma pa la kb xb mb pb lb sv S w ha
        · exact op_andn ka m p xa ma pa la kb xb mb pb lb sv S w ha k1 k2
    · by_cases e2 : x = [79, 82]
      · subst e2
        by_cases k1 : ka = 30
        · subst k1; exact op_or30 m p xa ma pa la kb xb mb pb lb sv S w ha
        · by_cases k2 : ka = 31
          · subst k2; exact op_or31 m p xa ma pa la kb xb mb pb lb sv S w ha
          · exact op_orn ka m p xa ma pa la kb xb mb pb lb sv S w ha k1 k2
      · cases hu : numOf (.mk ka xa ma pa la) with
        | none => exact op_nn x ka m p xa ma pa la kb xb mb pb lb sv S w ha hx e1 e2 ga gb hu
        | some u =>
          cases hv : numOf (.mk kb xb mb pb lb) with
          | none => exact op_sn x ka m p xa ma pa la kb xb mb pb lb sv S w ha hx e1 e2 ga gb hu hv
          | some v => exact op_num x ka m p xa ma pa la kb xb mb pb lb sv S w ha hx e1 e2 ga gb hu hv
set_option maxRecDepth 100000 in
set_option maxHeartbeats 1000000 in
theorem plain_same (k : Int) (x : List UInt8) (m p : Int) (l : List T) (sv : Value) (S : Nat → Prop) (w : World) (ha : LR w S l sv) (h1 : k ≠ 34) (h2 : k ≠ 36) : Calls Tryz.prog 64 #[nodeV (.mk k x m p l) sv] w (NL w S (.mk k x m p l)) := by
  have HA := hide ha
  obtain ⟨sa, sc, rfl⟩ := ha.form
  have e1 : (k == 34) = false := by rw [beq_eq_false_iff_ne]; exact h1
  have e2 : (k == 36) = false := by rw [beq_eq_false_iff_ne]; exact h2
  clear ha
  change Calls Tryz.prog 64 #[.agg #[.int .i64 k, .string ⟨x.toArray⟩, .int .i64 m, .int .i64 p, .slice sa l.length sc]] w _
  go_enter Tryz.func64, Tryz.ntmps64
  go_wp2_with fail
  refine node_ret Tryz.results64 rfl (NB.new' (by simp)) rfl (nl_kept HA.out ?_)
  exact (by repeat (first | with_reducible exact gb_refl w none | with_reducible refine gb_put ?_ (by omega) _ _ | with_reducible refine gb_alloc ?_ _ | with_reducible refine gb_drewN ?_ _ | with_reducible refine gb_drew ?_))
set_option maxRecDepth 100000 in
set_option maxHeartbeats 1000000 in
theorem plain_op (x : List UInt8) (m p : Int) (l : List T) (sv : Value) (S : Nat → Prop) (w : World) (ha : LR w S l sv) (hg : GT (.mk 36 x m p l)) : Calls Tryz.prog 64 #[nodeV (.mk 36 x m p l) sv] w (NL w (fun k => S k ∨ w.heap.size ≤ k) (opT (.mk 36 x m p l))) := by
  have HO := fun (w' : World) (h9 : w.grownBy w' none) => hide (operation_any x m p l sv _ w' (ha.bounded.kept h9 (fun _ hk => by cases hk)) hg)
  obtain ⟨sa, sc, rfl⟩ := ha.form
  have R0 : Hid (RB ((w.alloc (.cells #[.int .i64 36, .string ⟨x.toArray⟩, .int .i64 m, .int .i64 p, .slice sa l.length sc] 24)).alloc (.cells #[.int .i64 0, .string ⟨#[]⟩, .int .i64 0, .int .i64 0, .slice none 0 0] 24)) (w.heap.size + 1)) := RB.new' (by simp)
  clear ha hg
  generalize opT _ = R at *
  obtain ⟨kr, xr, mr, pr, lr⟩ := R
  change Calls Tryz.prog 64 #[.agg #[.int .i64 36, .string ⟨x.toArray⟩, .int .i64 m, .int .i64 p, .slice sa l.length sc]] w _
  go_enter Tryz.func64, Tryz.ntmps64
  go_wp2_with fail
  go_at_call 108
  refine ((HO _ (by repeat (first | with_reducible exact gb_refl w none | with_reducible refine gb_put ?_ (by omega) _ _ | with_reducible refine gb_alloc ?_ _ | with_reducible refine gb_drewN ?_ _ | with_reducible refine gb_drew ?_))).out).mono ?_
  rintro e w1 ⟨sv1, rfl, l1, hg1⟩
  have G1 : Hid (w.grownBy w1 none) := gb_trans (by repeat (first | with_reducible exact gb_refl w none | with_reducible refine gb_put ?_ (by omega) _ _ | with_reducible refine gb_alloc ?_ _ | with_reducible refine gb_drewN ?_ _ | with_reducible refine gb_drew ?_)) hg1
  have R1 := hide (R0.out.kept hg1 (by simp))
  have hs := hg1.size
  simp only [World.size_alloc] at hs
  have L1 := hide l1
  obtain ⟨sa1, sc1, rfl⟩ := l1.form
  obtain ⟨_, _, _, _, _, r0, r1, r2, r3, r4, rz⟩ := R1.out
  have rl := R1.out.lt
  clear hg1 l1
  go_wp2_with fail
  refine node_ret Tryz.results64 rfl (RB.five R1.out) rfl ?_
  refine ⟨_, rfl, ?_, (by repeat (first | with_reducible exact G1.out | with_reducible refine gb_put ?_ (by omega) _ _ | with_reducible refine gb_alloc ?_ _ | with_reducible refine gb_drewN ?_ _ | with_reducible refine gb_drew ?_))⟩
  refine (L1.out.kept (lr_put5 (w.heap.size + 1)) (fun b hb hk => ?_)).mono (fun k hk => ?_)
  · cases hb
    rcases hk with hk | hk
    · have := hk.2; omega
    · simp only [World.size_alloc] at hk; omega
  · rcases hk with hk | hk
    · exact Or.inl hk.1
    · simp only [World.size_alloc] at hk; exact Or.inr (by omega)
set_option maxRecDepth 100000 in
set_option maxHeartbeats 1000000 in
theorem plain_not (x : List UInt8) (m p : Int) (a : T) (sv : Value) (S : Nat → Prop) (w : World) (ha : LR w S [a] sv) : Calls Tryz.prog 64 #[nodeV (.mk 34 x m p [a]) sv] w (NL w S (plainT (.mk 34 x m p [a]))) := by
  have HA := hide ha.bounded
  obtain ⟨g, c, sa, rfl, hc1, hc2, na, la⟩ := LR.one ha
  unfold maxLen at hc2
  have hgl := block_lt na.c0
  obtain ⟨ka, xa, ma, pa, las⟩ := a
  obtain ⟨aa, ac, rfl⟩ := la.form
  obtain ⟨c0, c1, c2, c3, c4⟩ := na
  clear ha la
  change Calls Tryz.prog 64 #[.agg #[.int .i64 34, .string ⟨x.toArray⟩, .int .i64 m, .int .i64 p, .slice (some ⟨g, 0, none⟩) 1 c]] w _
  have B0 : Hid (NB ((w.alloc (.cells #[.int .i64 34, .string ⟨x.toArray⟩, .int .i64 m, .int .i64 p, .slice (some ⟨g, 0, none⟩) 1 c] 24)).alloc (.cells #[.int .i64 0, .string ⟨#[]⟩, .int .i64 0, .int .i64 0, .slice none 0 0] 24)) w.heap.size (.int .i64 34) (.string ⟨x.toArray⟩) (.int .i64 m) (.int .i64 p) (.slice (some ⟨g, 0, none⟩) 1 c)) := NB.alloc (NB.new _ _) _
  have R0 : Hid (RB ((w.alloc (.cells #[.int .i64 34, .string ⟨x.toArray⟩, .int .i64 m, .int .i64 p, .slice (some ⟨g, 0, none⟩) 1 c] 24)).alloc (.cells #[.int .i64 0, .string ⟨#[]⟩, .int .i64 0, .int .i64 0, .slice none 0 0] 24)) (w.heap.size + 1)) := RB.new' (by simp)
  by_cases hk : ka = 30 ∨ ka = 31
  · have HE : Hid (plainT (.mk 34 x m p [.mk ka xa ma pa las]) = boolT (!decide (ka = 30)) p) := by
      rcases hk with rfl | rfl <;> rfl
    have HT := fun w' => hide (truthNode_any (!decide (ka = 30)) p w')
    have h2 : decide (ka = 30 ∨ ka = 31) = true := decide_eq_true hk
    rw [HE.out]
    generalize hbt : boolT (!decide (ka = 30)) p = t at *
    have HL : Hid (t.subs = []) := by rw [← hbt]; show (boolT _ p).subs = []; cases (!decide (ka = 30)) <;> rfl
    clear hbt
    obtain ⟨k2, x2, m2, p2, l2s⟩ := t
    go_enter Tryz.func64, Tryz.ntmps64
    go_wp2_with fail
    go_at_call 106
    refine (truth_any ka xa ma pa aa las.length ac _).mono ?_
    rintro e w1 ⟨rfl, hg1⟩
    have G1 : Hid (w.grownBy w1 none) := gb_trans (by repeat (first | with_reducible exact gb_refl w none | with_reducible refine gb_put ?_ (by omega) _ _ | with_reducible refine gb_alloc ?_ _ | with_reducible refine gb_drewN ?_ _ | with_reducible refine gb_drew ?_)) hg1
    have B1 := hide (B0.out.kept hg1 (by simp))
    have R1 := hide (R0.out.kept hg1 (by simp))
    obtain ⟨b0, b1, b2, b3, b4, bz⟩ := B1.out
    clear hg1
    go_wp2_with fail
    go_at_call 107
    refine ((HT _).out).mono ?_
    rintro e w2 ⟨rfl, hg2⟩
    have G2 : Hid (w.grownBy w2 none) := gb_trans (by repeat (first | with_reducible exact G1.out | with_reducible refine gb_put ?_ (by omega) _ _ | with_reducible refine gb_alloc ?_ _ | with_reducible refine gb_drewN ?_ _ | with_reducible refine gb_drew ?_)) hg2
    have R2 := hide (R1.out.kept hg2 (by simp))
    obtain ⟨_, _, _, _, _, r0, r1, r2, r3, r4, rz⟩ := R2.out
    have rl := R2.out.lt
    clear hg2
    go_wp2_with fail
    refine node_ret Tryz.results64 rfl (RB.five R2.out) rfl ?_
    refine ⟨.slice none 0 0, rfl, ?_, (by repeat (first | with_reducible exact G2.out | with_reducible refine gb_put ?_ (by omega) _ _ | with_reducible refine gb_alloc ?_ _ | with_reducible refine gb_drewN ?_ _ | with_reducible refine gb_drew ?_))⟩
    rw [HL.out]
    exact LR.nil _ _
  · have HE : Hid (plainT (.mk 34 x m p [.mk ka xa ma pa las]) = .mk 34 x m p [.mk ka xa ma pa las]) := by
      show _ = _
      unfold plainT
      rw [if_pos (show (T.mk 34 x m p [.mk ka xa ma pa las]).kind = 34 from rfl), if_neg (show ¬ (subT (T.mk 34 x m p [.mk ka xa ma pa las]) 0).kind = 30 from fun h => hk (Or.inl h)), if_neg (show ¬ (subT (T.mk 34 x m p [.mk ka xa ma pa las]) 0).kind = 31 from fun h => hk (Or.inr h))]
    have h2 : decide (ka = 30 ∨ ka = 31) = false := decide_eq_false hk
    rw [HE.out]
    go_enter Tryz.func64, Tryz.ntmps64
    go_wp2_with fail
    go_at_call 106
    refine (truth_any ka xa ma pa aa las.length ac _).mono ?_
    rintro e w1 ⟨rfl, hg1⟩
    have G1 : Hid (w.grownBy w1 none) := gb_trans (by repeat (first | with_reducible exact gb_refl w none | with_reducible refine gb_put ?_ (by omega) _ _ | with_reducible refine gb_alloc ?_ _ | with_reducible refine gb_drewN ?_ _ | with_reducible refine gb_drew ?_)) hg1
    have B1 := hide (B0.out.kept hg1 (by simp))
    have R1 := hide (R0.out.kept hg1 (by simp))
    obtain ⟨b0, b1, b2, b3, b4, bz⟩ := B1.out
    obtain ⟨_, _, _, _, _, r0, r1, r2, r3, r4, rz⟩ := R1.out
    have rl := R1.out.lt
    clear hg1
    go_wp2_with fail
    refine node_ret Tryz.results64 rfl (RB.five R1.out) rfl ?_
    exact nl_wide (nl_kept HA.out (by repeat (first | with_reducible exact G1.out | with_reducible refine gb_put ?_ (by omega) _ _ | with_reducible refine gb_alloc ?_ _ | with_reducible refine gb_drewN ?_ _ | with_reducible refine gb_drew ?_))) (fun k hk => hk.1)
theorem plain_any (t : T) (sv : Value) (S : Nat → Prop) (w : World) (ha : LR w S t.subs sv) (hg : GT t) : Calls Tryz.prog 64 #[nodeV t sv] w (NL w (fun k => S k ∨ w.heap.size ≤ k) (plainT t)) := by
  obtain ⟨k, x, m, p, l⟩ := t
  by_cases h34 : k = 34
  · subst h34
    obtain ⟨a, rfl⟩ : ∃ a, l = [a] := by cases hg with | mk _ _ _ _ _ _ h1 => exact one_of (h1 (Or.inl rfl))
    exact (plain_not x m p a sv S w ha).mono (fun e w' h => nl_wide h (fun k hk => Or.inl hk))
  · by_cases h36 : k = 36
    · subst h36
      exact plain_op x m p l sv S w ha hg
    · have e : plainT (.mk k x m p l) = .mk k x m p l := by
        unfold plainT
        rw [if_neg (show ¬ (T.mk k x m p l).kind = 34 from h34), if_neg (show ¬ (T.mk k x m p l).kind = 36 from h36)]
      rw [e]
      exact (plain_same k x m p l sv S w ha h34 h36).mono (fun e w' h => nl_wide h (fun k hk => Or.inl hk))
end Go.Proofs.YtlkokcnbbihljaaGreatDoor
