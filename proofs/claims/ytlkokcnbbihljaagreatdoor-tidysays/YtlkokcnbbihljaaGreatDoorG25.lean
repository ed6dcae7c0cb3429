/- The program's judge of shapes: rules that are closures. -/
import Derived.Test.YtlkokcnbbihljaaGreatDoorG23
namespace Go.Proofs.YtlkokcnbbihljaaGreatDoor
open Go.RowKit Go.Maps Go.WideMaps Go.WideElems


set_option maxRecDepth 1000000 in
set_option maxHeartbeats 2000000 in
theorem jlist_any (w0 : World) (jb lb ob : Nat) (w : World) (l : List (T × Rule)) (v : Value) (t : T) (sv : Value) (r : Rule) (rv : Value) (e1 e2 : Nat) (h : JS w0 jb lb ob w l v) (hlen : l.length + t.subs.length ≤ 20000) (hf : Fits t) (ha : AT w0 t.subs sv) (q1 : w.cell? ⟨e1, 0, none⟩ = some (ptr jb)) (q2 : w.cell? ⟨e2, 0, none⟩ = some rv) (hr : RV w jb (free jb v) r rv) :
    Calls Tryz.prog 114 #[nodeV t sv, ptr e1, ptr e2] w (JR w0 jb lb ob l v w (.list r) t) := by
  have HJ := hide h
  have HF := hide hf
  have HA := hide ha
  have HR := hide hr
  have hjl := h.lt
  have HV : Hid (∀ b, v.ownBlock = some b → b < w.heap.size) := fun b hb => (h.room hb).2
  obtain ⟨kd, x, m, p, ts⟩ := t
  obtain ⟨a, n, c, rfl, hn, hc, hl⟩ := ha.any
  change ts.length = n at hl
  subst hl
  change l.length + ts.length ≤ 20000 at hlen
  obtain ⟨gn, fn, cn, rfl⟩ := hr.form
  have hb1 := block_lt q1
  have hb2 := block_lt q2
  have Q1 := hide q1
  have Q2 := hide q2
  have HS : Hid (stepR (.list r) (.mk kd x m p ts) = onlyIf (headB (.mk kd x m p ts) 1 false 0 (-1)) (eachR ts r)) := rfl
  clear hr
  change Calls Tryz.prog 114 #[.agg #[.int .i64 kd, .string ⟨x.toArray⟩, .int .i64 m, .int .i64 p, .slice a ts.length c], ptr e1, ptr e2] w _
  by_cases hk : kd = 1
  · subst hk
    cases h0 : ((T.mk 1 x m p ts).name.isEmpty && withinB (.mk 1 x m p ts) 0)
    · have HN : Hid (stepR (.list r) (.mk 1 x m p ts) = none) := HS.out.trans (onlyIf_no (by rw [head_unnamed (t := (.mk 1 x m p ts)) (k := 1) rfl, h0]; rfl))
      clear h hf ha
      go_enter Tryz.func114, Tryz.ntmps114
      go_wp2_with fail
      go_at_call 115
      refine (unnamed_any (.mk 1 x m p ts) _ 0 _ ⟨_, _, _, rfl⟩).mono ?_
      rintro e w1 ⟨rfl, hg1⟩
      rw [h0]
      have GW1 : Hid (w.grownBy w1 none) := gb_trans (gb_alloc (gb_refl w none) _) hg1
      have B1 := hide ((Box.new w (.mk 1 x m p ts) (.slice a ts.length c) 24).kept hg1)
      obtain ⟨b0_1, b1_1, b2_1, b3_1, b4_1⟩ := B1.out
      clear hg1
      go_wp2_with fail
      go_ret
      exact .inl ⟨HN.out, rfl, gb_trans HJ.out.gb (by repeat (first | with_reducible exact GW1.out | with_reducible refine gb_put ?_ (by omega) _ _ | with_reducible refine gb_alloc ?_ _ | with_reducible refine gb_drewN ?_ _ | with_reducible refine gb_drew ?_))⟩
    · have HY : Hid (stepR (.list r) (.mk 1 x m p ts) = some (eachR ts r)) := HS.out.trans (onlyIf_yes (by rw [head_unnamed (t := (.mk 1 x m p ts)) (k := 1) rfl, h0]; simp))
      clear h hf ha
      go_enter Tryz.func114, Tryz.ntmps114
      go_wp2_with fail
      go_at_call 115
      refine (unnamed_any (.mk 1 x m p ts) _ 0 _ ⟨_, _, _, rfl⟩).mono ?_
      rintro e w1 ⟨rfl, hg1⟩
      rw [h0]
      have GW1 : Hid (w.grownBy w1 none) := gb_trans (gb_alloc (gb_refl w none) _) hg1
      have B1 := hide ((Box.new w (.mk 1 x m p ts) (.slice a ts.length c) 24).kept hg1)
      obtain ⟨b0_1, b1_1, b2_1, b3_1, b4_1⟩ := B1.out
      have p1 := gb_cell GW1.out Q1.out
      have p2 := gb_cell GW1.out Q2.out
      clear hg1
      go_wp2_with fail
      go_at_call 116
      refine (each_any w0 jb lb ob _ l v ts _ r _ (HJ.out.grown (by repeat (first | with_reducible exact GW1.out | with_reducible refine gb_put ?_ (by omega) _ _ | with_reducible refine gb_alloc ?_ _ | with_reducible refine gb_drewN ?_ _ | with_reducible refine gb_drew ?_))) hlen HA.out (HR.out.grown GW1.out)).mono ?_
      rintro e w2 ⟨v2, rfl, j2, k2⟩
      have J2 := hide j2
      have K2 : Hid (JK jb v w w2 v2) := (JK.grown (by repeat (first | with_reducible exact GW1.out | with_reducible refine gb_put ?_ (by omega) _ _ | with_reducible refine gb_alloc ?_ _ | with_reducible refine gb_drewN ?_ _ | with_reducible refine gb_drew ?_))).trans k2
      clear j2 k2
      go_wp2_with fail
      go_ret
      exact .inr ⟨_, v2, HY.out, rfl, J2.out, K2.out⟩
  · have HN : Hid (stepR (.list r) (.mk kd x m p ts) = none) := HS.out.trans (onlyIf_no (by simp [headB, T.kind, hk]))
    clear h hf ha
    go_enter Tryz.func114, Tryz.ntmps114
    go_wp2_with fail
    go_ret
    exact .inl ⟨HN.out, rfl, gb_trans HJ.out.gb (gb_alloc (gb_refl w none) _)⟩
set_option maxRecDepth 1000000 in
set_option maxHeartbeats 2000000 in
theorem jdeclared_any (w0 : World) (jb lb ob : Nat) (w : World) (l : List (T × Rule)) (v : Value) (t : T) (sv : Value) (k most : Int) (r : Rule) (rv : Value) (e1 e2 e3 e4 : Nat) (h : JS w0 jb lb ob w l v) (hlen : l.length + t.subs.length ≤ 20000) (hf : Fits t) (ha : AT w0 t.subs sv) (q1 : w.cell? ⟨e1, 0, none⟩ = some (.int .i64 k)) (q2 : w.cell? ⟨e2, 0, none⟩ = some (ptr jb)) (q3 : w.cell? ⟨e3, 0, none⟩ = some (.int .i64 most)) (q4 : w.cell? ⟨e4, 0, none⟩ = some rv) (hr : RV w jb (free jb v) r rv) :
    Calls Tryz.prog 117 #[nodeV t sv, ptr e1, ptr e2, ptr e3, ptr e4] w (JR w0 jb lb ob l v w (.declared k most r) t) := by
  have HJ := hide h
  have HF := hide hf
  have HA := hide ha
  have HR := hide hr
  have hjl := h.lt
  have HV : Hid (∀ b, v.ownBlock = some b → b < w.heap.size) := fun b hb => (h.room hb).2
  obtain ⟨kd, x, m, p, ts⟩ := t
  obtain ⟨a, n, c, rfl, hn, hc, hl⟩ := ha.any
  change ts.length = n at hl
  subst hl
  change l.length + ts.length ≤ 20000 at hlen
  obtain ⟨gn, fn, cn, rfl⟩ := hr.form
  have hb1 := block_lt q1
  have hb2 := block_lt q2
  have hb3 := block_lt q3
  have hb4 := block_lt q4
  have Q2 := hide q2
  have Q4 := hide q4
  have HS : Hid (stepR (.declared k most r) (.mk kd x m p ts) = onlyIf (headB (.mk kd x m p ts) k true most 1) (zipR ts [r])) := rfl
  clear hr
  change Calls Tryz.prog 117 #[.agg #[.int .i64 kd, .string ⟨x.toArray⟩, .int .i64 m, .int .i64 p, .slice a ts.length c], ptr e1, ptr e2, ptr e3, ptr e4] w _
  by_cases hk : kd = k
  · subst hk
    cases h0 : (nameB (T.mk kd x m p ts).name && withinB (.mk kd x m p ts) most)
    · have HN : Hid (stepR (.declared kd most r) (.mk kd x m p ts) = none) := HS.out.trans (onlyIf_no (by rw [head_named (t := (.mk kd x m p ts)) (k := kd) rfl, h0]; rfl))
      clear h hf ha
      go_enter Tryz.func117, Tryz.ntmps117
      go_wp2_with fail
      go_at_call 77
      refine (named_any jb lb (.mk kd x m p ts) _ most _ (HJ.out.grown (by repeat (first | with_reducible exact gb_refl w none | with_reducible refine gb_put ?_ (by omega) _ _ | with_reducible refine gb_alloc ?_ _ | with_reducible refine gb_drewN ?_ _ | with_reducible refine gb_drew ?_))).c0 (HJ.out.grown (by repeat (first | with_reducible exact gb_refl w none | with_reducible refine gb_put ?_ (by omega) _ _ | with_reducible refine gb_alloc ?_ _ | with_reducible refine gb_drewN ?_ _ | with_reducible refine gb_drew ?_))).lex HF.out ⟨_, _, _, rfl⟩).mono ?_
      rintro e w1 ⟨rfl, hg1⟩
      rw [h0]
      have GW1 : Hid (w.grownBy w1 none) := gb_trans (gb_alloc (gb_refl w none) _) hg1
      have B1 := hide ((Box.new w (.mk kd x m p ts) (.slice a ts.length c) 24).kept hg1)
      obtain ⟨b0_1, b1_1, b2_1, b3_1, b4_1⟩ := B1.out
      clear hg1
      go_wp2_with fail
      go_ret
      exact .inl ⟨HN.out, rfl, gb_trans HJ.out.gb (by repeat (first | with_reducible exact GW1.out | with_reducible refine gb_put ?_ (by omega) _ _ | with_reducible refine gb_alloc ?_ _ | with_reducible refine gb_drewN ?_ _ | with_reducible refine gb_drew ?_))⟩
    · skip
      clear h hf ha
      go_enter Tryz.func117, Tryz.ntmps117
      go_wp2_with fail
      go_at_call 77
      refine (named_any jb lb (.mk kd x m p ts) _ most _ (HJ.out.grown (by repeat (first | with_reducible exact gb_refl w none | with_reducible refine gb_put ?_ (by omega) _ _ | with_reducible refine gb_alloc ?_ _ | with_reducible refine gb_drewN ?_ _ | with_reducible refine gb_drew ?_))).c0 (HJ.out.grown (by repeat (first | with_reducible exact gb_refl w none | with_reducible refine gb_put ?_ (by omega) _ _ | with_reducible refine gb_alloc ?_ _ | with_reducible refine gb_drewN ?_ _ | with_reducible refine gb_drew ?_))).lex HF.out ⟨_, _, _, rfl⟩).mono ?_
      rintro e w1 ⟨rfl, hg1⟩
      rw [h0]
      have GW1 : Hid (w.grownBy w1 none) := gb_trans (gb_alloc (gb_refl w none) _) hg1
      have B1 := hide ((Box.new w (.mk kd x m p ts) (.slice a ts.length c) 24).kept hg1)
      obtain ⟨b0_1, b1_1, b2_1, b3_1, b4_1⟩ := B1.out
      have p2 := gb_cell GW1.out Q2.out
      have p4 := gb_cell GW1.out Q4.out
      have hsz := GW1.out.size
      have hjw : jb < w1.heap.size := by omega
      clear hg1
      go_wp2_with fail
      go_at_call 78
      refine (below_any w0 jb lb ob _ l v (.mk kd x m p ts) _ [r] _ (HJ.out.grown (by repeat (first | with_reducible exact GW1.out | with_reducible refine gb_put ?_ (by omega) _ _ | with_reducible refine gb_alloc ?_ _ | with_reducible refine gb_drewN ?_ _ | with_reducible refine gb_drew ?_))) hlen (by simp) HA.out (RL.new1 _ _ (HR.out.grown (by repeat (first | with_reducible exact GW1.out | with_reducible refine gb_put ?_ (by omega) _ _ | with_reducible refine gb_alloc ?_ _ | with_reducible refine gb_drewN ?_ _ | with_reducible refine gb_drew ?_))) (by simpa using hjw) (fun b hb => by have := HV.out b hb; omega))).mono ?_
      rintro e w2 (⟨hno, rfl, hg2⟩ | ⟨hyes, v2, rfl, j2, k2⟩)
      · go_wp2_with fail
        go_ret
        exact .inl ⟨HS.out.trans (onlyIf_no (by rw [head_named (t := (.mk kd x m p ts)) (k := kd) rfl, h0]; exact (Bool.true_and _).trans (len_no (n := 1) hno))), rfl, gb_trans HJ.out.gb (gb_trans (by repeat (first | with_reducible exact GW1.out | with_reducible refine gb_put ?_ (by omega) _ _ | with_reducible refine gb_alloc ?_ _ | with_reducible refine gb_drewN ?_ _ | with_reducible refine gb_drew ?_)) hg2)⟩
      have J2 := hide j2
      have K2 : Hid (JK jb v w w2 v2) := (JK.grown (by repeat (first | with_reducible exact GW1.out | with_reducible refine gb_put ?_ (by omega) _ _ | with_reducible refine gb_alloc ?_ _ | with_reducible refine gb_drewN ?_ _ | with_reducible refine gb_drew ?_))).trans k2
      clear j2 k2
      go_wp2_with fail
      go_ret
      exact .inr ⟨_, v2, HS.out.trans (onlyIf_yes (by rw [head_named (t := (.mk kd x m p ts)) (k := kd) rfl, h0]; exact (Bool.true_and _).trans (len_yes (n := 1) hyes))), rfl, J2.out, K2.out⟩
  · have HN : Hid (stepR (.declared k most r) (.mk kd x m p ts) = none) := HS.out.trans (onlyIf_no (by simp [headB, T.kind, hk]))
    have hkb : (kd == k) = false := by simpa using hk
    clear h hf ha
    go_enter Tryz.func117, Tryz.ntmps117
    go_wp2_with fail
    go_ret
    exact .inl ⟨HN.out, rfl, gb_trans HJ.out.gb (gb_alloc (gb_refl w none) _)⟩
end Go.Proofs.YtlkokcnbbihljaaGreatDoor
