/- The program's judge of shapes: rules, kind by kind. -/
import Derived.Test.YtlkokcnbbihljaaGreatDoorG17
namespace Go.Proofs.YtlkokcnbbihljaaGreatDoor
open Go.RowKit Go.Maps Go.WideMaps Go.WideElems

/-- What a rule comes to: it answers no; or it puts down what is below. -/
def JR (w0 : World) (jb lb ob : Nat) (l : List (T × Rule)) (v : Value) (w : World) (r : Rule) (t : T) : Ending → World → Prop := fun e w' =>
  (stepR r t = none ∧ e = .returned (.bool false) ∧ w0.grownBy w' none) ∨ (∃ q v', stepR r t = some q ∧ e = .returned (.bool true) ∧ JS w0 jb lb ob w' (l ++ q) v' ∧ JK jb v w w' v')
theorem onlyIf_no {c : Bool} {L : List (T × Rule)} (h : c = false) : onlyIf c L = none := by rw [h]; rfl
theorem onlyIf_yes {c : Bool} {L : List (T × Rule)} (h : c = true) : onlyIf c L = some L := by rw [h]; rfl
theorem head_named {t : T} {k most many : Int} (h : t.kind = k) : headB t k true most many = ((nameB t.name && withinB t most) && decide (0 ≤ many → (t.subs.length : Int) = many)) := by
  unfold headB withinB
  rw [Bool.eq_iff_iff]
  simp [h]
  constructor
  · rintro ⟨⟨a, b, c⟩, d⟩; exact ⟨⟨d, a, b⟩, c⟩
  · rintro ⟨⟨d, a, b⟩, c⟩; exact ⟨⟨a, b, c⟩, d⟩
theorem head_unnamed {t : T} {k most many : Int} (h : t.kind = k) : headB t k false most many = ((t.name.isEmpty && withinB t most) && decide (0 ≤ many → (t.subs.length : Int) = many)) := by
  unfold headB withinB
  rw [Bool.eq_iff_iff]
  simp [h]
  constructor
  · rintro ⟨⟨a, b, c⟩, d⟩; exact ⟨⟨d, a, b⟩, c⟩
  · rintro ⟨⟨d, a, b⟩, c⟩; exact ⟨⟨a, b, c⟩, d⟩
theorem len_no {t : T} {n : Nat} (h : t.subs.length ≠ n) : decide (0 ≤ (n : Int) → (t.subs.length : Int) = n) = false := by rw [decide_eq_false_iff_not]; intro h2; have := h2 (by omega); omega
theorem len_yes {t : T} {n : Nat} (h : t.subs.length = n) : decide (0 ≤ (n : Int) → (t.subs.length : Int) = n) = true := by rw [decide_eq_true_iff]; intro _; omega
theorem zipR_nil (ts : List T) : zipR ts [] = [] := by cases ts <;> rfl
theorem RL.new1 {jb : Nat} {v : Value} {r : Rule} {rv : Value} (w : World) (ty : TypeId) (hr : RV (w.alloc (.cells #[rv] ty)) jb (free jb v) r rv) (hj : jb < w.heap.size) (hv : ∀ b, v.ownBlock = some b → b < w.heap.size) :
    RL (w.alloc (.cells #[rv] ty)) jb v [r] (.slice (some ⟨w.heap.size, 0, none⟩) 1 1) :=
  .inr ⟨w.heap.size, rfl, by simp, ⟨by omega, fun e => by have := hv _ e; omega⟩, fun i q hi => by
    match i, hi with
    | 0, hi => cases hi; exact ⟨rv, by rw [World.cell?_alloc_at _ _ _ _ rfl]; rfl, hr⟩⟩
theorem RL.new2 {jb : Nat} {v : Value} {r q : Rule} {rv qv : Value} (w : World) (ty : TypeId) (hr : RV (w.alloc (.cells #[rv, qv] ty)) jb (free jb v) r rv) (hq : RV (w.alloc (.cells #[rv, qv] ty)) jb (free jb v) q qv) (hj : jb < w.heap.size) (hv : ∀ b, v.ownBlock = some b → b < w.heap.size) :
    RL (w.alloc (.cells #[rv, qv] ty)) jb v [r, q] (.slice (some ⟨w.heap.size, 0, none⟩) 2 2) :=
  .inr ⟨w.heap.size, rfl, by simp, ⟨by omega, fun e => by have := hv _ e; omega⟩, fun i z hi => by
    match i, hi with
    | 0, hi => cases hi; exact ⟨rv, by rw [World.cell?_alloc_at _ _ _ _ rfl]; rfl, hr⟩
    | 1, hi => cases hi; exact ⟨qv, by rw [World.cell?_alloc_at _ _ _ _ rfl]; rfl, hq⟩⟩
set_option maxRecDepth 1000000 in
set_option maxHeartbeats 2000000 in
theorem jimp3 (w0 : World) (jb lb ob : Nat) (w : World) (l : List (T × Rule)) (v : Value) (x : List UInt8) (m p : Int) (ts : List T) (sv : Value) (h : JS w0 jb lb ob w l v) (hlen : l.length + ts.length ≤ 20000) (hf : Fits (.mk 3 x m p ts)) (ha : AT w0 (T.mk 3 x m p ts).subs sv) :
    Calls Tryz.prog 80 #[ptr jb, .agg #[.int .i64 3, .string ⟨x.toArray⟩, .int .i64 m, .int .i64 p, sv]] w (JR w0 jb lb ob l v w .imported (.mk 3 x m p ts)) := by
  have HJ := hide h
  have HF := hide hf
  have HA := hide ha
  have hjl := h.lt
  have HV : Hid (∀ b, v.ownBlock = some b → b < w.heap.size) := fun b hb => (h.room hb).2
  obtain ⟨a, n, c, rfl, hn, hc, hl⟩ := ha.any
  change ts.length = n at hl
  subst hl
  have HS : Hid (stepR .imported (.mk 3 x m p ts) = onlyIf (headB (.mk 3 x m p ts) 3 true 0 0) (zipR ts [])) := by rw [zipR_nil]; rfl
  cases h0 : (nameB (T.mk 3 x m p ts).name && withinB (.mk 3 x m p ts) 0)
  · have HN : Hid (stepR .imported (.mk 3 x m p ts) = none) := HS.out.trans (onlyIf_no (by rw [head_named (t := (.mk 3 x m p ts)) (k := 3) rfl, h0]; rfl))
    clear h hf ha
    go_enter Tryz.func80, Tryz.ntmps80
    go_wp2_with fail
    go_at_call 77
    refine (named_any jb lb (.mk 3 x m p ts) _ 0 _ (HJ.out.grown (by repeat (first | with_reducible exact gb_refl w none | with_reducible refine gb_put ?_ (by omega) _ _ | with_reducible refine gb_alloc ?_ _ | with_reducible refine gb_drewN ?_ _ | with_reducible refine gb_drew ?_))).c0 (HJ.out.grown (by repeat (first | with_reducible exact gb_refl w none | with_reducible refine gb_put ?_ (by omega) _ _ | with_reducible refine gb_alloc ?_ _ | with_reducible refine gb_drewN ?_ _ | with_reducible refine gb_drew ?_))).lex HF.out ⟨_, _, _, rfl⟩).mono ?_
    rintro e w1 ⟨rfl, hg1⟩
    rw [h0]
    have GW1 : Hid (w.grownBy w1 none) := gb_trans (gb_alloc (gb_refl w none) _) hg1
    have B1 := hide ((Box.new w (.mk 3 x m p ts) (.slice a ts.length c) 24).kept hg1)
    obtain ⟨b0_1, b1_1, b2_1, b3_1, b4_1⟩ := B1.out
    change _ = some (Value.int .i64 m) at b2_1
    change _ = some (Value.int .i64 3) at b0_1
    clear hg1
    go_wp2_with fail
    go_ret
    exact .inl ⟨HN.out, rfl, gb_trans HJ.out.gb (by repeat (first | with_reducible exact GW1.out | with_reducible refine gb_put ?_ (by omega) _ _ | with_reducible refine gb_alloc ?_ _ | with_reducible refine gb_drewN ?_ _ | with_reducible refine gb_drew ?_))⟩
  · skip
    clear h hf ha
    go_enter Tryz.func80, Tryz.ntmps80
    go_wp2_with fail
    go_at_call 77
    refine (named_any jb lb (.mk 3 x m p ts) _ 0 _ (HJ.out.grown (by repeat (first | with_reducible exact gb_refl w none | with_reducible refine gb_put ?_ (by omega) _ _ | with_reducible refine gb_alloc ?_ _ | with_reducible refine gb_drewN ?_ _ | with_reducible refine gb_drew ?_))).c0 (HJ.out.grown (by repeat (first | with_reducible exact gb_refl w none | with_reducible refine gb_put ?_ (by omega) _ _ | with_reducible refine gb_alloc ?_ _ | with_reducible refine gb_drewN ?_ _ | with_reducible refine gb_drew ?_))).lex HF.out ⟨_, _, _, rfl⟩).mono ?_
    rintro e w1 ⟨rfl, hg1⟩
    rw [h0]
    have GW1 : Hid (w.grownBy w1 none) := gb_trans (gb_alloc (gb_refl w none) _) hg1
    have B1 := hide ((Box.new w (.mk 3 x m p ts) (.slice a ts.length c) 24).kept hg1)
    obtain ⟨b0_1, b1_1, b2_1, b3_1, b4_1⟩ := B1.out
    change _ = some (Value.int .i64 m) at b2_1
    change _ = some (Value.int .i64 3) at b0_1
    clear hg1
    have hsz := GW1.out.size
    have hjw : jb < w1.heap.size := by omega
    go_wp2_with fail
    go_at_call 78
    refine (below_any w0 jb lb ob _ l v (.mk 3 x m p ts) _ [] _ (HJ.out.grown (by repeat (first | with_reducible exact GW1.out | with_reducible refine gb_put ?_ (by omega) _ _ | with_reducible refine gb_alloc ?_ _ | with_reducible refine gb_drewN ?_ _ | with_reducible refine gb_drew ?_))) hlen (by decide) HA.out (.inl ⟨rfl, rfl⟩)).mono ?_
    rintro e w2 (⟨hno, rfl, hg2⟩ | ⟨hyes, v2, rfl, j2, k2⟩)
    · go_wp2_with fail
      go_ret
      exact .inl ⟨HS.out.trans (onlyIf_no (by rw [head_named (t := (.mk 3 x m p ts)) (k := 3) rfl, h0]; exact (Bool.true_and _).trans (len_no (n := 0) hno))), rfl, gb_trans HJ.out.gb (gb_trans (by repeat (first | with_reducible exact GW1.out | with_reducible refine gb_put ?_ (by omega) _ _ | with_reducible refine gb_alloc ?_ _ | with_reducible refine gb_drewN ?_ _ | with_reducible refine gb_drew ?_)) hg2)⟩
    have J2 := hide j2
    have K2 : Hid (JK jb v w w2 v2) := (JK.grown (by repeat (first | with_reducible exact GW1.out | with_reducible refine gb_put ?_ (by omega) _ _ | with_reducible refine gb_alloc ?_ _ | with_reducible refine gb_drewN ?_ _ | with_reducible refine gb_drew ?_))).trans k2
    clear j2 k2
    go_wp2_with fail
    go_ret
    exact .inr ⟨_, v2, HS.out.trans (onlyIf_yes (by rw [head_named (t := (.mk 3 x m p ts)) (k := 3) rfl, h0]; exact (Bool.true_and _).trans (len_yes (n := 0) hyes))), rfl, J2.out, K2.out⟩
set_option maxRecDepth 1000000 in
set_option maxHeartbeats 2000000 in
theorem jref24 (w0 : World) (jb lb ob : Nat) (w : World) (l : List (T × Rule)) (v : Value) (x : List UInt8) (m p : Int) (ts : List T) (sv : Value) (h : JS w0 jb lb ob w l v) (hlen : l.length + ts.length ≤ 20000) (hf : Fits (.mk 24 x m p ts)) (ha : AT w0 (T.mk 24 x m p ts).subs sv) :
    Calls Tryz.prog 121 #[ptr jb, .agg #[.int .i64 24, .string ⟨x.toArray⟩, .int .i64 m, .int .i64 p, sv]] w (JR w0 jb lb ob l v w .ref (.mk 24 x m p ts)) := by
  have HJ := hide h
  have HF := hide hf
  have HA := hide ha
  have hjl := h.lt
  have HV : Hid (∀ b, v.ownBlock = some b → b < w.heap.size) := fun b hb => (h.room hb).2
  obtain ⟨a, n, c, rfl, hn, hc, hl⟩ := ha.any
  change ts.length = n at hl
  subst hl
  have HS : Hid (stepR .ref (.mk 24 x m p ts) = onlyIf (headB (.mk 24 x m p ts) 24 true 0 0) (zipR ts [])) := by rw [zipR_nil]; rfl
  cases h0 : (nameB (T.mk 24 x m p ts).name && withinB (.mk 24 x m p ts) 0)
  · have HN : Hid (stepR .ref (.mk 24 x m p ts) = none) := HS.out.trans (onlyIf_no (by rw [head_named (t := (.mk 24 x m p ts)) (k := 24) rfl, h0]; rfl))
    clear h hf ha
    go_enter Tryz.func121, Tryz.ntmps121
    go_wp2_with fail
    go_at_call 77
    refine (named_any jb lb (.mk 24 x m p ts) _ 0 _ (HJ.out.grown (by repeat (first | with_reducible exact gb_refl w none | with_reducible refine gb_put ?_ (by omega) _ _ | with_reducible refine gb_alloc ?_ _ | with_reducible refine gb_drewN ?_ _ | with_reducible refine gb_drew ?_))).c0 (HJ.out.grown (by repeat (first | with_reducible exact gb_refl w none | with_reducible refine gb_put ?_ (by omega) _ _ | with_reducible refine gb_alloc ?_ _ | with_reducible refine gb_drewN ?_ _ | with_reducible refine gb_drew ?_))).lex HF.out ⟨_, _, _, rfl⟩).mono ?_
    rintro e w1 ⟨rfl, hg1⟩
    rw [h0]
    have GW1 : Hid (w.grownBy w1 none) := gb_trans (gb_alloc (gb_refl w none) _) hg1
    have B1 := hide ((Box.new w (.mk 24 x m p ts) (.slice a ts.length c) 24).kept hg1)
    obtain ⟨b0_1, b1_1, b2_1, b3_1, b4_1⟩ := B1.out
    change _ = some (Value.int .i64 m) at b2_1
    change _ = some (Value.int .i64 24) at b0_1
    clear hg1
    go_wp2_with fail
    go_ret
    exact .inl ⟨HN.out, rfl, gb_trans HJ.out.gb (by repeat (first | with_reducible exact GW1.out | with_reducible refine gb_put ?_ (by omega) _ _ | with_reducible refine gb_alloc ?_ _ | with_reducible refine gb_drewN ?_ _ | with_reducible refine gb_drew ?_))⟩
  · skip
    clear h hf ha
    go_enter Tryz.func121, Tryz.ntmps121
    go_wp2_with fail
    go_at_call 77
    refine (named_any jb lb (.mk 24 x m p ts) _ 0 _ (HJ.out.grown (by repeat (first | with_reducible exact gb_refl w none | with_reducible refine gb_put ?_ (by omega) _ _ | with_reducible refine gb_alloc ?_ _ | with_reducible refine gb_drewN ?_ _ | with_reducible refine gb_drew ?_))).c0 (HJ.out.grown (by repeat (first | with_reducible exact gb_refl w none | with_reducible refine gb_put ?_ (by omega) _ _ | with_reducible refine gb_alloc ?_ _ | with_reducible refine gb_drewN ?_ _ | with_reducible refine gb_drew ?_))).lex HF.out ⟨_, _, _, rfl⟩).mono ?_
    rintro e w1 ⟨rfl, hg1⟩
    rw [h0]
    have GW1 : Hid (w.grownBy w1 none) := gb_trans (gb_alloc (gb_refl w none) _) hg1
    have B1 := hide ((Box.new w (.mk 24 x m p ts) (.slice a ts.length c) 24).kept hg1)
    obtain ⟨b0_1, b1_1, b2_1, b3_1, b4_1⟩ := B1.out
    change _ = some (Value.int .i64 m) at b2_1
    change _ = some (Value.int .i64 24) at b0_1
    clear hg1
    have hsz := GW1.out.size
    have hjw : jb < w1.heap.size := by omega
    go_wp2_with fail
    go_at_call 78
    refine (below_any w0 jb lb ob _ l v (.mk 24 x m p ts) _ [] _ (HJ.out.grown (by repeat (first | with_reducible exact GW1.out | with_reducible refine gb_put ?_ (by omega) _ _ | with_reducible refine gb_alloc ?_ _ | with_reducible refine gb_drewN ?_ _ | with_reducible refine gb_drew ?_))) hlen (by decide) HA.out (.inl ⟨rfl, rfl⟩)).mono ?_
    rintro e w2 (⟨hno, rfl, hg2⟩ | ⟨hyes, v2, rfl, j2, k2⟩)
    · go_wp2_with fail
      go_ret
      exact .inl ⟨HS.out.trans (onlyIf_no (by rw [head_named (t := (.mk 24 x m p ts)) (k := 24) rfl, h0]; exact (Bool.true_and _).trans (len_no (n := 0) hno))), rfl, gb_trans HJ.out.gb (gb_trans (by repeat (first | with_reducible exact GW1.out | with_reducible refine gb_put ?_ (by omega) _ _ | with_reducible refine gb_alloc ?_ _ | with_reducible refine gb_drewN ?_ _ | with_reducible refine gb_drew ?_)) hg2)⟩
    have J2 := hide j2
    have K2 : Hid (JK jb v w w2 v2) := (JK.grown (by repeat (first | with_reducible exact GW1.out | with_reducible refine gb_put ?_ (by omega) _ _ | with_reducible refine gb_alloc ?_ _ | with_reducible refine gb_drewN ?_ _ | with_reducible refine gb_drew ?_))).trans k2
    clear j2 k2
    go_wp2_with fail
    go_ret
    exact .inr ⟨_, v2, HS.out.trans (onlyIf_yes (by rw [head_named (t := (.mk 24 x m p ts)) (k := 24) rfl, h0]; exact (Bool.true_and _).trans (len_yes (n := 0) hyes))), rfl, J2.out, K2.out⟩
set_option maxRecDepth 1000000 in
set_option maxHeartbeats 2000000 in
theorem jtn13 (w0 : World) (jb lb ob : Nat) (w : World) (l : List (T × Rule)) (v : Value) (x : List UInt8) (m p : Int) (ts : List T) (sv : Value) (h : JS w0 jb lb ob w l v) (hlen : l.length + ts.length ≤ 20000) (hf : Fits (.mk 13 x m p ts)) (ha : AT w0 (T.mk 13 x m p ts).subs sv) :
    Calls Tryz.prog 84 #[ptr jb, .agg #[.int .i64 13, .string ⟨x.toArray⟩, .int .i64 m, .int .i64 p, sv]] w (JR w0 jb lb ob l v w .typeName (.mk 13 x m p ts)) := by
  have HJ := hide h
  have HF := hide hf
  have HA := hide ha
  have hjl := h.lt
  have HV : Hid (∀ b, v.ownBlock = some b → b < w.heap.size) := fun b hb => (h.room hb).2
  obtain ⟨a, n, c, rfl, hn, hc, hl⟩ := ha.any
  change ts.length = n at hl
  subst hl
  have HS : Hid (stepR .typeName (.mk 13 x m p ts) = onlyIf (headB (.mk 13 x m p ts) 13 true 0 (-1) && decide (ts.length ≤ 1)) (eachR ts .ref)) := rfl
  cases h0 : (nameB (T.mk 13 x m p ts).name && withinB (.mk 13 x m p ts) 0)
  · have HN : Hid (stepR .typeName (.mk 13 x m p ts) = none) := HS.out.trans (onlyIf_no (by rw [head_named (t := (.mk 13 x m p ts)) (k := 13) rfl, h0]; rfl))
    clear h hf ha
    go_enter Tryz.func84, Tryz.ntmps84
    go_wp2_with fail
    go_at_call 77
    refine (named_any jb lb (.mk 13 x m p ts) _ 0 _ (HJ.out.grown (by repeat (first | with_reducible exact gb_refl w none | with_reducible refine gb_put ?_ (by omega) _ _ | with_reducible refine gb_alloc ?_ _ | with_reducible refine gb_drewN ?_ _ | with_reducible refine gb_drew ?_))).c0 (HJ.out.grown (by repeat (first | with_reducible exact gb_refl w none | with_reducible refine gb_put ?_ (by omega) _ _ | with_reducible refine gb_alloc ?_ _ | with_reducible refine gb_drewN ?_ _ | with_reducible refine gb_drew ?_))).lex HF.out ⟨_, _, _, rfl⟩).mono ?_
    rintro e w1 ⟨rfl, hg1⟩
    rw [h0]
    have GW1 : Hid (w.grownBy w1 none) := gb_trans (gb_alloc (gb_refl w none) _) hg1
    have B1 := hide ((Box.new w (.mk 13 x m p ts) (.slice a ts.length c) 24).kept hg1)
    obtain ⟨b0_1, b1_1, b2_1, b3_1, b4_1⟩ := B1.out
    change _ = some (Value.int .i64 m) at b2_1
    change _ = some (Value.int .i64 13) at b0_1
    clear hg1
    go_wp2_with fail
    go_ret
    exact .inl ⟨HN.out, rfl, gb_trans HJ.out.gb (by repeat (first | with_reducible exact GW1.out | with_reducible refine gb_put ?_ (by omega) _ _ | with_reducible refine gb_alloc ?_ _ | with_reducible refine gb_drewN ?_ _ | with_reducible refine gb_drew ?_))⟩
  · skip
    by_cases h1 : ts.length ≤ 1
    · have HY : Hid (stepR .typeName (.mk 13 x m p ts) = some (eachR ts .ref)) := HS.out.trans (onlyIf_yes (by rw [head_named (t := (.mk 13 x m p ts)) (k := 13) rfl, h0]; simp [h1]))
      clear h hf ha
      go_enter Tryz.func84, Tryz.ntmps84
      go_wp2_with fail
      go_at_call 77
      refine (named_any jb lb (.mk 13 x m p ts) _ 0 _ (HJ.out.grown (by repeat (first | with_reducible exact gb_refl w none | with_reducible refine gb_put ?_ (by omega) _ _ | with_reducible refine gb_alloc ?_ _ | with_reducible refine gb_drewN ?_ _ | with_reducible refine gb_drew ?_))).c0 (HJ.out.grown (by repeat (first | with_reducible exact gb_refl w none | with_reducible refine gb_put ?_ (by omega) _ _ | with_reducible refine gb_alloc ?_ _ | with_reducible refine gb_drewN ?_ _ | with_reducible refine gb_drew ?_))).lex HF.out ⟨_, _, _, rfl⟩).mono ?_
      rintro e w1 ⟨rfl, hg1⟩
      rw [h0]
      have GW1 : Hid (w.grownBy w1 none) := gb_trans (gb_alloc (gb_refl w none) _) hg1
      have B1 := hide ((Box.new w (.mk 13 x m p ts) (.slice a ts.length c) 24).kept hg1)
      obtain ⟨b0_1, b1_1, b2_1, b3_1, b4_1⟩ := B1.out
      change _ = some (Value.int .i64 m) at b2_1
      change _ = some (Value.int .i64 13) at b0_1
      clear hg1
      go_wp2_with fail
      go_at_call 116
      refine (each_any w0 jb lb ob _ l v ts _ .ref _ (HJ.out.grown (by repeat (first | with_reducible exact GW1.out | with_reducible refine gb_put ?_ (by omega) _ _ | with_reducible refine gb_alloc ?_ _ | with_reducible refine gb_drewN ?_ _ | with_reducible refine gb_drew ?_))) hlen HA.out (.meth .ref _ rfl)).mono ?_
      rintro e w2 ⟨v2, rfl, j2, k2⟩
      have J2 := hide j2
      have K2 : Hid (JK jb v w w2 v2) := (JK.grown (by repeat (first | with_reducible exact GW1.out | with_reducible refine gb_put ?_ (by omega) _ _ | with_reducible refine gb_alloc ?_ _ | with_reducible refine gb_drewN ?_ _ | with_reducible refine gb_drew ?_))).trans k2
      clear j2 k2
      go_wp2_with fail
      go_ret
      exact .inr ⟨_, v2, HY.out, rfl, J2.out, K2.out⟩
    · have HN : Hid (stepR .typeName (.mk 13 x m p ts) = none) := HS.out.trans (onlyIf_no (by simp [h1]))
      have h1b : decide ((ts.length : Int) ≤ 1) = false := by simp; omega
      clear h hf ha
      go_enter Tryz.func84, Tryz.ntmps84
      go_wp2_with fail
      go_at_call 77
      refine (named_any jb lb (.mk 13 x m p ts) _ 0 _ (HJ.out.grown (by repeat (first | with_reducible exact gb_refl w none | with_reducible refine gb_put ?_ (by omega) _ _ | with_reducible refine gb_alloc ?_ _ | with_reducible refine gb_drewN ?_ _ | with_reducible refine gb_drew ?_))).c0 (HJ.out.grown (by repeat (first | with_reducible exact gb_refl w none | with_reducible refine gb_put ?_ (by omega) _ _ | with_reducible refine gb_alloc ?_ _ | with_reducible refine gb_drewN ?_ _ | with_reducible refine gb_drew ?_))).lex HF.out ⟨_, _, _, rfl⟩).mono ?_
      rintro e w1 ⟨rfl, hg1⟩
      rw [h0]
      have GW1 : Hid (w.grownBy w1 none) := gb_trans (gb_alloc (gb_refl w none) _) hg1
      have B1 := hide ((Box.new w (.mk 13 x m p ts) (.slice a ts.length c) 24).kept hg1)
      obtain ⟨b0_1, b1_1, b2_1, b3_1, b4_1⟩ := B1.out
      change _ = some (Value.int .i64 m) at b2_1
      change _ = some (Value.int .i64 13) at b0_1
      clear hg1
      go_wp2_with fail
      go_ret
      exact .inl ⟨HN.out, rfl, gb_trans HJ.out.gb (by repeat (first | with_reducible exact GW1.out | with_reducible refine gb_put ?_ (by omega) _ _ | with_reducible refine gb_alloc ?_ _ | with_reducible refine gb_drewN ?_ _ | with_reducible refine gb_drew ?_))⟩
set_option maxRecDepth 1000000 in
set_option maxHeartbeats 2000000 in
theorem jdes25 (w0 : World) (jb lb ob : Nat) (w : World) (l : List (T × Rule)) (v : Value) (x : List UInt8) (m p : Int) (ts : List T) (sv : Value) (h : JS w0 jb lb ob w l v) (hlen : l.length + ts.length ≤ 20000) (hf : Fits (.mk 25 x m p ts)) (ha : AT w0 (T.mk 25 x m p ts).subs sv) :
    Calls Tryz.prog 119 #[ptr jb, .agg #[.int .i64 25, .string ⟨x.toArray⟩, .int .i64 m, .int .i64 p, sv]] w (JR w0 jb lb ob l v w .designator (.mk 25 x m p ts)) := by
  have HJ := hide h
  have HF := hide hf
  have HA := hide ha
  have hjl := h.lt
  have HV : Hid (∀ b, v.ownBlock = some b → b < w.heap.size) := fun b hb => (h.room hb).2
  obtain ⟨a, n, c, rfl, hn, hc, hl⟩ := ha.any
  change ts.length = n at hl
  subst hl
  have HS : Hid (stepR .designator (.mk 25 x m p ts) = onlyIf (headB (.mk 25 x m p ts) 25 true 0 1) (zipR ts [.designator])) := rfl
  cases h0 : (nameB (T.mk 25 x m p ts).name && withinB (.mk 25 x m p ts) 0)
  · have HN : Hid (stepR .designator (.mk 25 x m p ts) = none) := HS.out.trans (onlyIf_no (by rw [head_named (t := (.mk 25 x m p ts)) (k := 25) rfl, h0]; rfl))
    clear h hf ha
    go_enter Tryz.func119, Tryz.ntmps119
    go_wp2_with fail
    go_at_call 77
    refine (named_any jb lb (.mk 25 x m p ts) _ 0 _ (HJ.out.grown (by repeat (first | with_reducible exact gb_refl w none | with_reducible refine gb_put ?_ (by omega) _ _ | with_reducible refine gb_alloc ?_ _ | with_reducible refine gb_drewN ?_ _ | with_reducible refine gb_drew ?_))).c0 (HJ.out.grown (by repeat (first | with_reducible exact gb_refl w none | with_reducible refine gb_put ?_ (by omega) _ _ | with_reducible refine gb_alloc ?_ _ | with_reducible refine gb_drewN ?_ _ | with_reducible refine gb_drew ?_))).lex HF.out ⟨_, _, _, rfl⟩).mono ?_
    rintro e w1 ⟨rfl, hg1⟩
    rw [h0]
    have GW1 : Hid (w.grownBy w1 none) := gb_trans (gb_alloc (gb_refl w none) _) hg1
    have B1 := hide ((Box.new w (.mk 25 x m p ts) (.slice a ts.length c) 24).kept hg1)
    obtain ⟨b0_1, b1_1, b2_1, b3_1, b4_1⟩ := B1.out
    change _ = some (Value.int .i64 m) at b2_1
    change _ = some (Value.int .i64 25) at b0_1
    clear hg1
    go_wp2_with fail
    go_ret
    exact .inl ⟨HN.out, rfl, gb_trans HJ.out.gb (by repeat (first | with_reducible exact GW1.out | with_reducible refine gb_put ?_ (by omega) _ _ | with_reducible refine gb_alloc ?_ _ | with_reducible refine gb_drewN ?_ _ | with_reducible refine gb_drew ?_))⟩
  · skip
    clear h hf ha
    go_enter Tryz.func119, Tryz.ntmps119
    go_wp2_with fail
    go_at_call 77
    refine (named_any jb lb (.mk 25 x m p ts) _ 0 _ (HJ.out.grown (by repeat (first | with_reducible exact gb_refl w none | with_reducible refine gb_put ?_ (by omega) _ _ | with_reducible refine gb_alloc ?_ _ | with_reducible refine gb_drewN ?_ _ | with_reducible refine gb_drew ?_))).c0 (HJ.out.grown (by repeat (first | with_reducible exact gb_refl w none | with_reducible refine gb_put ?_ (by omega) _ _ | with_reducible refine gb_alloc ?_ _ | with_reducible refine gb_drewN ?_ _ | with_reducible refine gb_drew ?_))).lex HF.out ⟨_, _, _, rfl⟩).mono ?_
    rintro e w1 ⟨rfl, hg1⟩
    rw [h0]
    have GW1 : Hid (w.grownBy w1 none) := gb_trans (gb_alloc (gb_refl w none) _) hg1
    have B1 := hide ((Box.new w (.mk 25 x m p ts) (.slice a ts.length c) 24).kept hg1)
    obtain ⟨b0_1, b1_1, b2_1, b3_1, b4_1⟩ := B1.out
    change _ = some (Value.int .i64 m) at b2_1
    change _ = some (Value.int .i64 25) at b0_1
    clear hg1
    have hsz := GW1.out.size
    have hjw : jb < w1.heap.size := by omega
    go_wp2_with fail
    go_at_call 78
    refine (below_any w0 jb lb ob _ l v (.mk 25 x m p ts) _ [.designator] _ (HJ.out.grown (by repeat (first | with_reducible exact GW1.out | with_reducible refine gb_put ?_ (by omega) _ _ | with_reducible refine gb_alloc ?_ _ | with_reducible refine gb_drewN ?_ _ | with_reducible refine gb_drew ?_))) hlen (by decide) HA.out (RL.new1 _ _ (.meth .designator _ rfl) (by simpa using hjw) (fun b hb => by have := HV.out b hb; omega))).mono ?_
    rintro e w2 (⟨hno, rfl, hg2⟩ | ⟨hyes, v2, rfl, j2, k2⟩)
    · go_wp2_with fail
      go_ret
      exact .inl ⟨HS.out.trans (onlyIf_no (by rw [head_named (t := (.mk 25 x m p ts)) (k := 25) rfl, h0]; exact (Bool.true_and _).trans (len_no (n := 1) hno))), rfl, gb_trans HJ.out.gb (gb_trans (by repeat (first | with_reducible exact GW1.out | with_reducible refine gb_put ?_ (by omega) _ _ | with_reducible refine gb_alloc ?_ _ | with_reducible refine gb_drewN ?_ _ | with_reducible refine gb_drew ?_)) hg2)⟩
    have J2 := hide j2
    have K2 : Hid (JK jb v w w2 v2) := (JK.grown (by repeat (first | with_reducible exact GW1.out | with_reducible refine gb_put ?_ (by omega) _ _ | with_reducible refine gb_alloc ?_ _ | with_reducible refine gb_drewN ?_ _ | with_reducible refine gb_drew ?_))).trans k2
    clear j2 k2
    go_wp2_with fail
    go_ret
    exact .inr ⟨_, v2, HS.out.trans (onlyIf_yes (by rw [head_named (t := (.mk 25 x m p ts)) (k := 25) rfl, h0]; exact (Bool.true_and _).trans (len_yes (n := 1) hyes))), rfl, J2.out, K2.out⟩
set_option maxRecDepth 1000000 in
set_option maxHeartbeats 2000000 in
theorem jdes26 (w0 : World) (jb lb ob : Nat) (w : World) (l : List (T × Rule)) (v : Value) (x : List UInt8) (m p : Int) (ts : List T) (sv : Value) (h : JS w0 jb lb ob w l v) (hlen : l.length + ts.length ≤ 20000) (hf : Fits (.mk 26 x m p ts)) (ha : AT w0 (T.mk 26 x m p ts).subs sv) :
    Calls Tryz.prog 119 #[ptr jb, .agg #[.int .i64 26, .string ⟨x.toArray⟩, .int .i64 m, .int .i64 p, sv]] w (JR w0 jb lb ob l v w .designator (.mk 26 x m p ts)) := by
  have HJ := hide h
  have HF := hide hf
  have HA := hide ha
  have hjl := h.lt
  have HV : Hid (∀ b, v.ownBlock = some b → b < w.heap.size) := fun b hb => (h.room hb).2
  obtain ⟨a, n, c, rfl, hn, hc, hl⟩ := ha.any
  change ts.length = n at hl
  subst hl
  have HS : Hid (stepR .designator (.mk 26 x m p ts) = onlyIf (headB (.mk 26 x m p ts) 26 false 0 2) (zipR ts [.designator, .expression])) := rfl
  cases h0 : ((T.mk 26 x m p ts).name.isEmpty && withinB (.mk 26 x m p ts) 0)
  · have HN : Hid (stepR .designator (.mk 26 x m p ts) = none) := HS.out.trans (onlyIf_no (by rw [head_unnamed (t := (.mk 26 x m p ts)) (k := 26) rfl, h0]; rfl))
    clear h hf ha
    go_enter Tryz.func119, Tryz.ntmps119
    go_wp2_with fail
    go_at_call 115
    refine (unnamed_any (.mk 26 x m p ts) _ 0 _ ⟨_, _, _, rfl⟩).mono ?_
    rintro e w1 ⟨rfl, hg1⟩
    rw [h0]
    have GW1 : Hid (w.grownBy w1 none) := gb_trans (gb_alloc (gb_refl w none) _) hg1
    have B1 := hide ((Box.new w (.mk 26 x m p ts) (.slice a ts.length c) 24).kept hg1)
    obtain ⟨b0_1, b1_1, b2_1, b3_1, b4_1⟩ := B1.out
    change _ = some (Value.int .i64 m) at b2_1
    change _ = some (Value.int .i64 26) at b0_1
    clear hg1
    go_wp2_with fail
    go_ret
    exact .inl ⟨HN.out, rfl, gb_trans HJ.out.gb (by repeat (first | with_reducible exact GW1.out | with_reducible refine gb_put ?_ (by omega) _ _ | with_reducible refine gb_alloc ?_ _ | with_reducible refine gb_drewN ?_ _ | with_reducible refine gb_drew ?_))⟩
  · skip
    clear h hf ha
    go_enter Tryz.func119, Tryz.ntmps119
    go_wp2_with fail
    go_at_call 115
    refine (unnamed_any (.mk 26 x m p ts) _ 0 _ ⟨_, _, _, rfl⟩).mono ?_
    rintro e w1 ⟨rfl, hg1⟩
    rw [h0]
    have GW1 : Hid (w.grownBy w1 none) := gb_trans (gb_alloc (gb_refl w none) _) hg1
    have B1 := hide ((Box.new w (.mk 26 x m p ts) (.slice a ts.length c) 24).kept hg1)
    obtain ⟨b0_1, b1_1, b2_1, b3_1, b4_1⟩ := B1.out
    change _ = some (Value.int .i64 m) at b2_1
    change _ = some (Value.int .i64 26) at b0_1
    clear hg1
    have hsz := GW1.out.size
    have hjw : jb < w1.heap.size := by omega
    go_wp2_with fail
    go_at_call 78
    refine (below_any w0 jb lb ob _ l v (.mk 26 x m p ts) _ [.designator, .expression] _ (HJ.out.grown (by repeat (first | with_reducible exact GW1.out | with_reducible refine gb_put ?_ (by omega) _ _ | with_reducible refine gb_alloc ?_ _ | with_reducible refine gb_drewN ?_ _ | with_reducible refine gb_drew ?_))) hlen (by decide) HA.out (RL.new2 _ _ (.meth .designator _ rfl) (.meth .expression _ rfl) (by simpa using hjw) (fun b hb => by have := HV.out b hb; omega))).mono ?_
    rintro e w2 (⟨hno, rfl, hg2⟩ | ⟨hyes, v2, rfl, j2, k2⟩)
    · go_wp2_with fail
      go_ret
      exact .inl ⟨HS.out.trans (onlyIf_no (by rw [head_unnamed (t := (.mk 26 x m p ts)) (k := 26) rfl, h0]; exact (Bool.true_and _).trans (len_no (n := 2) hno))), rfl, gb_trans HJ.out.gb (gb_trans (by repeat (first | with_reducible exact GW1.out | with_reducible refine gb_put ?_ (by omega) _ _ | with_reducible refine gb_alloc ?_ _ | with_reducible refine gb_drewN ?_ _ | with_reducible refine gb_drew ?_)) hg2)⟩
    have J2 := hide j2
    have K2 : Hid (JK jb v w w2 v2) := (JK.grown (by repeat (first | with_reducible exact GW1.out | with_reducible refine gb_put ?_ (by omega) _ _ | with_reducible refine gb_alloc ?_ _ | with_reducible refine gb_drewN ?_ _ | with_reducible refine gb_drew ?_))).trans k2
    clear j2 k2
    go_wp2_with fail
    go_ret
    exact .inr ⟨_, v2, HS.out.trans (onlyIf_yes (by rw [head_unnamed (t := (.mk 26 x m p ts)) (k := 26) rfl, h0]; exact (Bool.true_and _).trans (len_yes (n := 2) hyes))), rfl, J2.out, K2.out⟩
set_option maxRecDepth 1000000 in
set_option maxHeartbeats 2000000 in
theorem jdes27 (w0 : World) (jb lb ob : Nat) (w : World) (l : List (T × Rule)) (v : Value) (x : List UInt8) (m p : Int) (ts : List T) (sv : Value) (h : JS w0 jb lb ob w l v) (hlen : l.length + ts.length ≤ 20000) (hf : Fits (.mk 27 x m p ts)) (ha : AT w0 (T.mk 27 x m p ts).subs sv) :
    Calls Tryz.prog 119 #[ptr jb, .agg #[.int .i64 27, .string ⟨x.toArray⟩, .int .i64 m, .int .i64 p, sv]] w (JR w0 jb lb ob l v w .designator (.mk 27 x m p ts)) := by
  have HJ := hide h
  have HF := hide hf
  have HA := hide ha
  have hjl := h.lt
  have HV : Hid (∀ b, v.ownBlock = some b → b < w.heap.size) := fun b hb => (h.room hb).2
  obtain ⟨a, n, c, rfl, hn, hc, hl⟩ := ha.any
  change ts.length = n at hl
  subst hl
  have HS : Hid (stepR .designator (.mk 27 x m p ts) = onlyIf (headB (.mk 27 x m p ts) 27 false 0 1) (zipR ts [.designator])) := rfl
  cases h0 : ((T.mk 27 x m p ts).name.isEmpty && withinB (.mk 27 x m p ts) 0)
  · have HN : Hid (stepR .designator (.mk 27 x m p ts) = none) := HS.out.trans (onlyIf_no (by rw [head_unnamed (t := (.mk 27 x m p ts)) (k := 27) rfl, h0]; rfl))
    clear h hf ha
    go_enter Tryz.func119, Tryz.ntmps119
    go_wp2_with fail
    go_at_call 115
    refine (unnamed_any (.mk 27 x m p ts) _ 0 _ ⟨_, _, _, rfl⟩).mono ?_
    rintro e w1 ⟨rfl, hg1⟩
    rw [h0]
    have GW1 : Hid (w.grownBy w1 none) := gb_trans (gb_alloc (gb_refl w none) _) hg1
    have B1 := hide ((Box.new w (.mk 27 x m p ts) (.slice a ts.length c) 24).kept hg1)
    obtain ⟨b0_1, b1_1, b2_1, b3_1, b4_1⟩ := B1.out
    change _ = some (Value.int .i64 m) at b2_1
    change _ = some (Value.int .i64 27) at b0_1
    clear hg1
    go_wp2_with fail
    go_ret
    exact .inl ⟨HN.out, rfl, gb_trans HJ.out.gb (by repeat (first | with_reducible exact GW1.out | with_reducible refine gb_put ?_ (by omega) _ _ | with_reducible refine gb_alloc ?_ _ | with_reducible refine gb_drewN ?_ _ | with_reducible refine gb_drew ?_))⟩
  · skip
    clear h hf ha
    go_enter Tryz.func119, Tryz.ntmps119
    go_wp2_with fail
    go_at_call 115
    refine (unnamed_any (.mk 27 x m p ts) _ 0 _ ⟨_, _, _, rfl⟩).mono ?_
    rintro e w1 ⟨rfl, hg1⟩
    rw [h0]
    have GW1 : Hid (w.grownBy w1 none) := gb_trans (gb_alloc (gb_refl w none) _) hg1
    have B1 := hide ((Box.new w (.mk 27 x m p ts) (.slice a ts.length c) 24).kept hg1)
    obtain ⟨b0_1, b1_1, b2_1, b3_1, b4_1⟩ := B1.out
    change _ = some (Value.int .i64 m) at b2_1
    change _ = some (Value.int .i64 27) at b0_1
    clear hg1
    have hsz := GW1.out.size
    have hjw : jb < w1.heap.size := by omega
    go_wp2_with fail
    go_at_call 78
    refine (below_any w0 jb lb ob _ l v (.mk 27 x m p ts) _ [.designator] _ (HJ.out.grown (by repeat (first | with_reducible exact GW1.out | with_reducible refine gb_put ?_ (by omega) _ _ | with_reducible refine gb_alloc ?_ _ | with_reducible refine gb_drewN ?_ _ | with_reducible refine gb_drew ?_))) hlen (by decide) HA.out (RL.new1 _ _ (.meth .designator _ rfl) (by simpa using hjw) (fun b hb => by have := HV.out b hb; omega))).mono ?_
    rintro e w2 (⟨hno, rfl, hg2⟩ | ⟨hyes, v2, rfl, j2, k2⟩)
    · go_wp2_with fail
      go_ret
      exact .inl ⟨HS.out.trans (onlyIf_no (by rw [head_unnamed (t := (.mk 27 x m p ts)) (k := 27) rfl, h0]; exact (Bool.true_and _).trans (len_no (n := 1) hno))), rfl, gb_trans HJ.out.gb (gb_trans (by repeat (first | with_reducible exact GW1.out | with_reducible refine gb_put ?_ (by omega) _ _ | with_reducible refine gb_alloc ?_ _ | with_reducible refine gb_drewN ?_ _ | with_reducible refine gb_drew ?_)) hg2)⟩
    have J2 := hide j2
    have K2 : Hid (JK jb v w w2 v2) := (JK.grown (by repeat (first | with_reducible exact GW1.out | with_reducible refine gb_put ?_ (by omega) _ _ | with_reducible refine gb_alloc ?_ _ | with_reducible refine gb_drewN ?_ _ | with_reducible refine gb_drew ?_))).trans k2
    clear j2 k2
    go_wp2_with fail
    go_ret
    exact .inr ⟨_, v2, HS.out.trans (onlyIf_yes (by rw [head_unnamed (t := (.mk 27 x m p ts)) (k := 27) rfl, h0]; exact (Bool.true_and _).trans (len_yes (n := 1) hyes))), rfl, J2.out, K2.out⟩
set_option maxRecDepth 1000000 in
set_option maxHeartbeats 2000000 in
theorem jdes28 (w0 : World) (jb lb ob : Nat) (w : World) (l : List (T × Rule)) (v : Value) (x : List UInt8) (m p : Int) (ts : List T) (sv : Value) (h : JS w0 jb lb ob w l v) (hlen : l.length + ts.length ≤ 20000) (hf : Fits (.mk 28 x m p ts)) (ha : AT w0 (T.mk 28 x m p ts).subs sv) :
    Calls Tryz.prog 119 #[ptr jb, .agg #[.int .i64 28, .string ⟨x.toArray⟩, .int .i64 m, .int .i64 p, sv]] w (JR w0 jb lb ob l v w .designator (.mk 28 x m p ts)) := by
  have HJ := hide h
  have HF := hide hf
  have HA := hide ha
  have hjl := h.lt
  have HV : Hid (∀ b, v.ownBlock = some b → b < w.heap.size) := fun b hb => (h.room hb).2
  obtain ⟨a, n, c, rfl, hn, hc, hl⟩ := ha.any
  change ts.length = n at hl
  subst hl
  have HS : Hid (stepR .designator (.mk 28 x m p ts) = onlyIf (headB (.mk 28 x m p ts) 28 false 0 2) (zipR ts [.designator, .typeName])) := rfl
  cases h0 : ((T.mk 28 x m p ts).name.isEmpty && withinB (.mk 28 x m p ts) 0)
  · have HN : Hid (stepR .designator (.mk 28 x m p ts) = none) := HS.out.trans (onlyIf_no (by rw [head_unnamed (t := (.mk 28 x m p ts)) (k := 28) rfl, h0]; rfl))
    clear h hf ha
    go_enter Tryz.func119, Tryz.ntmps119
    go_wp2_with fail
    go_at_call 115
    refine (unnamed_any (.mk 28 x m p ts) _ 0 _ ⟨_, _, _, rfl⟩).mono ?_
    rintro e w1 ⟨rfl, hg1⟩
    rw [h0]
    have GW1 : Hid (w.grownBy w1 none) := gb_trans (gb_alloc (gb_refl w none) _) hg1
    have B1 := hide ((Box.new w (.mk 28 x m p ts) (.slice a ts.length c) 24).kept hg1)
    obtain ⟨b0_1, b1_1, b2_1, b3_1, b4_1⟩ := B1.out
    change _ = some (Value.int .i64 m) at b2_1
    change _ = some (Value.int .i64 28) at b0_1
    clear hg1
    go_wp2_with fail
    go_ret
    exact .inl ⟨HN.out, rfl, gb_trans HJ.out.gb (by repeat (first | with_reducible exact GW1.out | with_reducible refine gb_put ?_ (by omega) _ _ | with_reducible refine gb_alloc ?_ _ | with_reducible refine gb_drewN ?_ _ | with_reducible refine gb_drew ?_))⟩
  · skip
    clear h hf ha
    go_enter Tryz.func119, Tryz.ntmps119
    go_wp2_with fail
    go_at_call 115
    refine (unnamed_any (.mk 28 x m p ts) _ 0 _ ⟨_, _, _, rfl⟩).mono ?_
    rintro e w1 ⟨rfl, hg1⟩
    rw [h0]
    have GW1 : Hid (w.grownBy w1 none) := gb_trans (gb_alloc (gb_refl w none) _) hg1
    have B1 := hide ((Box.new w (.mk 28 x m p ts) (.slice a ts.length c) 24).kept hg1)
    obtain ⟨b0_1, b1_1, b2_1, b3_1, b4_1⟩ := B1.out
    change _ = some (Value.int .i64 m) at b2_1
    change _ = some (Value.int .i64 28) at b0_1
    clear hg1
    have hsz := GW1.out.size
    have hjw : jb < w1.heap.size := by omega
    go_wp2_with fail
    go_at_call 78
    refine (below_any w0 jb lb ob _ l v (.mk 28 x m p ts) _ [.designator, .typeName] _ (HJ.out.grown (by repeat (first | with_reducible exact GW1.out | with_reducible refine gb_put ?_ (by omega) _ _ | with_reducible refine gb_alloc ?_ _ | with_reducible refine gb_drewN ?_ _ | with_reducible refine gb_drew ?_))) hlen (by decide) HA.out (RL.new2 _ _ (.meth .designator _ rfl) (.meth .typeName _ rfl) (by simpa using hjw) (fun b hb => by have := HV.out b hb; omega))).mono ?_
    rintro e w2 (⟨hno, rfl, hg2⟩ | ⟨hyes, v2, rfl, j2, k2⟩)
    · go_wp2_with fail
      go_ret
      exact .inl ⟨HS.out.trans (onlyIf_no (by rw [head_unnamed (t := (.mk 28 x m p ts)) (k := 28) rfl, h0]; exact (Bool.true_and _).trans (len_no (n := 2) hno))), rfl, gb_trans HJ.out.gb (gb_trans (by repeat (first | with_reducible exact GW1.out | with_reducible refine gb_put ?_ (by omega) _ _ | with_reducible refine gb_alloc ?_ _ | with_reducible refine gb_drewN ?_ _ | with_reducible refine gb_drew ?_)) hg2)⟩
    have J2 := hide j2
    have K2 : Hid (JK jb v w w2 v2) := (JK.grown (by repeat (first | with_reducible exact GW1.out | with_reducible refine gb_put ?_ (by omega) _ _ | with_reducible refine gb_alloc ?_ _ | with_reducible refine gb_drewN ?_ _ | with_reducible refine gb_drew ?_))).trans k2
    clear j2 k2
    go_wp2_with fail
    go_ret
    exact .inr ⟨_, v2, HS.out.trans (onlyIf_yes (by rw [head_unnamed (t := (.mk 28 x m p ts)) (k := 28) rfl, h0]; exact (Bool.true_and _).trans (len_yes (n := 2) hyes))), rfl, J2.out, K2.out⟩
end Go.Proofs.YtlkokcnbbihljaaGreatDoor
