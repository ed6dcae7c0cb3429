/- The program's judge of shapes: acts, kind by kind. -/
import Derived.Test.YtlkokcnbbihljaaGreatDoorG18
namespace Go.Proofs.YtlkokcnbbihljaaGreatDoor
open Go.RowKit Go.Maps Go.WideMaps Go.WideElems

set_option maxRecDepth 1000000 in
set_option maxHeartbeats 2000000 in
theorem jact14 (w0 : World) (jb lb ob : Nat) (w : World) (l : List (T × Rule)) (v : Value) (x : List UInt8) (m p : Int) (ts : List T) (sv : Value) (h : JS w0 jb lb ob w l v) (hlen : l.length + ts.length ≤ 20000) (hf : Fits (.mk 14 x m p ts)) (ha : AT w0 (T.mk 14 x m p ts).subs sv) :
    Calls Tryz.prog 86 #[ptr jb, .agg #[.int .i64 14, .string ⟨x.toArray⟩, .int .i64 m, .int .i64 p, sv]] w (JR w0 jb lb ob l v w .act (.mk 14 x m p ts)) := by
  have HJ := hide h
  have HF := hide hf
  have HA := hide ha
  have hjl := h.lt
  have HV : Hid (∀ b, v.ownBlock = some b → b < w.heap.size) := fun b hb => (h.room hb).2
  obtain ⟨a, n, c, rfl, hn, hc, hl⟩ := ha.any
  change ts.length = n at hl
  subst hl
  have HS : Hid (stepR .act (.mk 14 x m p ts) = onlyIf (headB (.mk 14 x m p ts) 14 false 0 2) (zipR ts [.designator, .expression])) := rfl
  cases h0 : ((T.mk 14 x m p ts).name.isEmpty && withinB (.mk 14 x m p ts) 0)
  · have HN : Hid (stepR .act (.mk 14 x m p ts) = none) := HS.out.trans (onlyIf_no (by rw [head_unnamed (t := (.mk 14 x m p ts)) (k := 14) rfl, h0]; rfl))
    clear h hf ha
    go_enter Tryz.func86, Tryz.ntmps86
    go_wp2_with fail
    go_at_call 115
    refine (unnamed_any (.mk 14 x m p ts) _ 0 _ ⟨_, _, _, rfl⟩).mono ?_
    rintro e w1 ⟨rfl, hg1⟩
    rw [h0]
    have GW1 : Hid (w.grownBy w1 none) := gb_trans (gb_alloc (gb_refl w none) _) hg1
    have B1 := hide ((Box.new w (.mk 14 x m p ts) (.slice a ts.length c) 24).kept hg1)
    obtain ⟨b0_1, b1_1, b2_1, b3_1, b4_1⟩ := B1.out
    change _ = some (Value.int .i64 m) at b2_1
    change _ = some (Value.int .i64 14) at b0_1
    clear hg1
    go_wp2_with fail
    go_ret
    exact .inl ⟨HN.out, rfl, gb_trans HJ.out.gb (by repeat (first | with_reducible exact GW1.out | with_reducible refine gb_put ?_ (by omega) _ _ | with_reducible refine gb_alloc ?_ _ | with_reducible refine gb_drewN ?_ _ | with_reducible refine gb_drew ?_))⟩
  · skip
    clear h hf ha
    go_enter Tryz.func86, Tryz.ntmps86
    go_wp2_with fail
    go_at_call 115
    refine (unnamed_any (.mk 14 x m p ts) _ 0 _ ⟨_, _, _, rfl⟩).mono ?_
    rintro e w1 ⟨rfl, hg1⟩
    rw [h0]
    have GW1 : Hid (w.grownBy w1 none) := gb_trans (gb_alloc (gb_refl w none) _) hg1
    have B1 := hide ((Box.new w (.mk 14 x m p ts) (.slice a ts.length c) 24).kept hg1)
    obtain ⟨b0_1, b1_1, b2_1, b3_1, b4_1⟩ := B1.out
    change _ = some (Value.int .i64 m) at b2_1
    change _ = some (Value.int .i64 14) at b0_1
    clear hg1
    have hsz := GW1.out.size
    have hjw : jb < w1.heap.size := by omega
    go_wp2_with fail
    go_at_call 78
    refine (below_any w0 jb lb ob _ l v (.mk 14 x m p ts) _ [.designator, .expression] _ (HJ.out.grown (by repeat (first | with_reducible exact GW1.out | with_reducible refine gb_put ?_ (by omega) _ _ | with_reducible refine gb_alloc ?_ _ | with_reducible refine gb_drewN ?_ _ | with_reducible refine gb_drew ?_))) hlen (by decide) HA.out (RL.new2 _ _ (.meth .designator _ rfl) (.meth .expression _ rfl) (by simpa using hjw) (fun b hb => by have := HV.out b hb; omega))).mono ?_
    rintro e w2 (⟨hno, rfl, hg2⟩ | ⟨hyes, v2, rfl, j2, k2⟩)
    · go_wp2_with fail
      go_ret
      exact .inl ⟨HS.out.trans (onlyIf_no (by rw [head_unnamed (t := (.mk 14 x m p ts)) (k := 14) rfl, h0]; exact (Bool.true_and _).trans (len_no (n := 2) hno))), rfl, gb_trans HJ.out.gb (gb_trans (by repeat (first | with_reducible exact GW1.out | with_reducible refine gb_put ?_ (by omega) _ _ | with_reducible refine gb_alloc ?_ _ | with_reducible refine gb_drewN ?_ _ | with_reducible refine gb_drew ?_)) hg2)⟩
    have J2 := hide j2
    have K2 : Hid (JK jb v w w2 v2) := (JK.grown (by repeat (first | with_reducible exact GW1.out | with_reducible refine gb_put ?_ (by omega) _ _ | with_reducible refine gb_alloc ?_ _ | with_reducible refine gb_drewN ?_ _ | with_reducible refine gb_drew ?_))).trans k2
    clear j2 k2
    go_wp2_with fail
    go_ret
    exact .inr ⟨_, v2, HS.out.trans (onlyIf_yes (by rw [head_unnamed (t := (.mk 14 x m p ts)) (k := 14) rfl, h0]; exact (Bool.true_and _).trans (len_yes (n := 2) hyes))), rfl, J2.out, K2.out⟩
set_option maxRecDepth 1000000 in
set_option maxHeartbeats 2000000 in
theorem jact15 (w0 : World) (jb lb ob : Nat) (w : World) (l : List (T × Rule)) (v : Value) (x : List UInt8) (m p : Int) (ts : List T) (sv : Value) (h : JS w0 jb lb ob w l v) (hlen : l.length + ts.length ≤ 20000) (hf : Fits (.mk 15 x m p ts)) (ha : AT w0 (T.mk 15 x m p ts).subs sv) :
    Calls Tryz.prog 86 #[ptr jb, .agg #[.int .i64 15, .string ⟨x.toArray⟩, .int .i64 m, .int .i64 p, sv]] w (JR w0 jb lb ob l v w .act (.mk 15 x m p ts)) := by
  have HJ := hide h
  have HF := hide hf
  have HA := hide ha
  have hjl := h.lt
  have HV : Hid (∀ b, v.ownBlock = some b → b < w.heap.size) := fun b hb => (h.room hb).2
  obtain ⟨a, n, c, rfl, hn, hc, hl⟩ := ha.any
  change ts.length = n at hl
  subst hl
  have HS : Hid (stepR .act (.mk 15 x m p ts) = onlyIf (headB (.mk 15 x m p ts) 15 false 0 (-1) && decide (0 < ts.length)) (firstR (.mk 15 x m p ts) .designator .expression)) := rfl
  cases h0 : ((T.mk 15 x m p ts).name.isEmpty && withinB (.mk 15 x m p ts) 0)
  · have HN : Hid (stepR .act (.mk 15 x m p ts) = none) := HS.out.trans (onlyIf_no (by rw [head_unnamed (t := (.mk 15 x m p ts)) (k := 15) rfl, h0]; rfl))
    clear h hf ha
    go_enter Tryz.func86, Tryz.ntmps86
    go_wp2_with fail
    go_at_call 115
    refine (unnamed_any (.mk 15 x m p ts) _ 0 _ ⟨_, _, _, rfl⟩).mono ?_
    rintro e w1 ⟨rfl, hg1⟩
    rw [h0]
    have GW1 : Hid (w.grownBy w1 none) := gb_trans (gb_alloc (gb_refl w none) _) hg1
    have B1 := hide ((Box.new w (.mk 15 x m p ts) (.slice a ts.length c) 24).kept hg1)
    obtain ⟨b0_1, b1_1, b2_1, b3_1, b4_1⟩ := B1.out
    change _ = some (Value.int .i64 m) at b2_1
    change _ = some (Value.int .i64 15) at b0_1
    clear hg1
    go_wp2_with fail
    go_ret
    exact .inl ⟨HN.out, rfl, gb_trans HJ.out.gb (by repeat (first | with_reducible exact GW1.out | with_reducible refine gb_put ?_ (by omega) _ _ | with_reducible refine gb_alloc ?_ _ | with_reducible refine gb_drewN ?_ _ | with_reducible refine gb_drew ?_))⟩
  · skip
    clear h hf ha
    go_enter Tryz.func86, Tryz.ntmps86
    go_wp2_with fail
    go_at_call 115
    refine (unnamed_any (.mk 15 x m p ts) _ 0 _ ⟨_, _, _, rfl⟩).mono ?_
    rintro e w1 ⟨rfl, hg1⟩
    rw [h0]
    have GW1 : Hid (w.grownBy w1 none) := gb_trans (gb_alloc (gb_refl w none) _) hg1
    have B1 := hide ((Box.new w (.mk 15 x m p ts) (.slice a ts.length c) 24).kept hg1)
    obtain ⟨b0_1, b1_1, b2_1, b3_1, b4_1⟩ := B1.out
    change _ = some (Value.int .i64 m) at b2_1
    change _ = some (Value.int .i64 15) at b0_1
    clear hg1
    have hsz := GW1.out.size
    have hjw : jb < w1.heap.size := by omega
    go_wp2_with fail
    go_at_call 118
    refine (first_any w0 jb lb ob _ l v (.mk 15 x m p ts) _ .designator .expression _ _ (HJ.out.grown (by repeat (first | with_reducible exact GW1.out | with_reducible refine gb_put ?_ (by omega) _ _ | with_reducible refine gb_alloc ?_ _ | with_reducible refine gb_drewN ?_ _ | with_reducible refine gb_drew ?_))) hlen HA.out (.meth .designator _ rfl) (.meth .expression _ rfl)).mono ?_
    rintro e w2 (⟨hno, rfl, hg2⟩ | ⟨hyes, v2, rfl, j2, k2⟩)
    · go_wp2_with fail
      go_ret
      exact .inl ⟨HS.out.trans (onlyIf_no (by change ts = [] at hno; subst hno; simp)), rfl, gb_trans HJ.out.gb (gb_trans (by repeat (first | with_reducible exact GW1.out | with_reducible refine gb_put ?_ (by omega) _ _ | with_reducible refine gb_alloc ?_ _ | with_reducible refine gb_drewN ?_ _ | with_reducible refine gb_drew ?_)) hg2)⟩
    have J2 := hide j2
    have K2 : Hid (JK jb v w w2 v2) := (JK.grown (by repeat (first | with_reducible exact GW1.out | with_reducible refine gb_put ?_ (by omega) _ _ | with_reducible refine gb_alloc ?_ _ | with_reducible refine gb_drewN ?_ _ | with_reducible refine gb_drew ?_))).trans k2
    clear j2 k2
    go_wp2_with fail
    go_ret
    exact .inr ⟨_, v2, HS.out.trans (onlyIf_yes (by rw [head_unnamed (t := (.mk 15 x m p ts)) (k := 15) rfl, h0]; simpa [T.subs] using hyes)), rfl, J2.out, K2.out⟩
set_option maxRecDepth 1000000 in
set_option maxHeartbeats 2000000 in
theorem jact19 (w0 : World) (jb lb ob : Nat) (w : World) (l : List (T × Rule)) (v : Value) (x : List UInt8) (m p : Int) (ts : List T) (sv : Value) (h : JS w0 jb lb ob w l v) (hlen : l.length + ts.length ≤ 20000) (hf : Fits (.mk 19 x m p ts)) (ha : AT w0 (T.mk 19 x m p ts).subs sv) :
    Calls Tryz.prog 86 #[ptr jb, .agg #[.int .i64 19, .string ⟨x.toArray⟩, .int .i64 m, .int .i64 p, sv]] w (JR w0 jb lb ob l v w .act (.mk 19 x m p ts)) := by
  have HJ := hide h
  have HF := hide hf
  have HA := hide ha
  have hjl := h.lt
  have HV : Hid (∀ b, v.ownBlock = some b → b < w.heap.size) := fun b hb => (h.room hb).2
  obtain ⟨a, n, c, rfl, hn, hc, hl⟩ := ha.any
  change ts.length = n at hl
  subst hl
  have HS : Hid (stepR .act (.mk 19 x m p ts) = onlyIf (headB (.mk 19 x m p ts) 19 false 0 (-1) && decide (ts.length ≤ 1)) (eachR ts .expression)) := rfl
  cases h0 : ((T.mk 19 x m p ts).name.isEmpty && withinB (.mk 19 x m p ts) 0)
  · have HN : Hid (stepR .act (.mk 19 x m p ts) = none) := HS.out.trans (onlyIf_no (by rw [head_unnamed (t := (.mk 19 x m p ts)) (k := 19) rfl, h0]; rfl))
    clear h hf ha
    go_enter Tryz.func86, Tryz.ntmps86
    go_wp2_with fail
    go_at_call 115
    refine (unnamed_any (.mk 19 x m p ts) _ 0 _ ⟨_, _, _, rfl⟩).mono ?_
    rintro e w1 ⟨rfl, hg1⟩
    rw [h0]
    have GW1 : Hid (w.grownBy w1 none) := gb_trans (gb_alloc (gb_refl w none) _) hg1
    have B1 := hide ((Box.new w (.mk 19 x m p ts) (.slice a ts.length c) 24).kept hg1)
    obtain ⟨b0_1, b1_1, b2_1, b3_1, b4_1⟩ := B1.out
    change _ = some (Value.int .i64 m) at b2_1
    change _ = some (Value.int .i64 19) at b0_1
    clear hg1
    go_wp2_with fail
    go_ret
    exact .inl ⟨HN.out, rfl, gb_trans HJ.out.gb (by repeat (first | with_reducible exact GW1.out | with_reducible refine gb_put ?_ (by omega) _ _ | with_reducible refine gb_alloc ?_ _ | with_reducible refine gb_drewN ?_ _ | with_reducible refine gb_drew ?_))⟩
  · skip
    by_cases h1 : ts.length ≤ 1
    · have HY : Hid (stepR .act (.mk 19 x m p ts) = some (eachR ts .expression)) := HS.out.trans (onlyIf_yes (by rw [head_unnamed (t := (.mk 19 x m p ts)) (k := 19) rfl, h0]; simp [h1]))
      clear h hf ha
      go_enter Tryz.func86, Tryz.ntmps86
      go_wp2_with fail
      go_at_call 115
      refine (unnamed_any (.mk 19 x m p ts) _ 0 _ ⟨_, _, _, rfl⟩).mono ?_
      rintro e w1 ⟨rfl, hg1⟩
      rw [h0]
      have GW1 : Hid (w.grownBy w1 none) := gb_trans (gb_alloc (gb_refl w none) _) hg1
      have B1 := hide ((Box.new w (.mk 19 x m p ts) (.slice a ts.length c) 24).kept hg1)
      obtain ⟨b0_1, b1_1, b2_1, b3_1, b4_1⟩ := B1.out
      change _ = some (Value.int .i64 m) at b2_1
      change _ = some (Value.int .i64 19) at b0_1
      clear hg1
      go_wp2_with fail
      go_at_call 116
      refine (each_any w0 jb lb ob _ l v ts _ .expression _ (HJ.out.grown (by repeat (first | with_reducible exact GW1.out | with_reducible refine gb_put ?_ (by omega) _ _ | with_reducible refine gb_alloc ?_ _ | with_reducible refine gb_drewN ?_ _ | with_reducible refine gb_drew ?_))) hlen HA.out (.meth .expression _ rfl)).mono ?_
      rintro e w2 ⟨v2, rfl, j2, k2⟩
      have J2 := hide j2
      have K2 : Hid (JK jb v w w2 v2) := (JK.grown (by repeat (first | with_reducible exact GW1.out | with_reducible refine gb_put ?_ (by omega) _ _ | with_reducible refine gb_alloc ?_ _ | with_reducible refine gb_drewN ?_ _ | with_reducible refine gb_drew ?_))).trans k2
      clear j2 k2
      go_wp2_with fail
      go_ret
      exact .inr ⟨_, v2, HY.out, rfl, J2.out, K2.out⟩
    · have HN : Hid (stepR .act (.mk 19 x m p ts) = none) := HS.out.trans (onlyIf_no (by simp [h1]))
      have h1b : decide ((ts.length : Int) ≤ 1) = false := by simp; omega
      clear h hf ha
      go_enter Tryz.func86, Tryz.ntmps86
      go_wp2_with fail
      go_at_call 115
      refine (unnamed_any (.mk 19 x m p ts) _ 0 _ ⟨_, _, _, rfl⟩).mono ?_
      rintro e w1 ⟨rfl, hg1⟩
      rw [h0]
      have GW1 : Hid (w.grownBy w1 none) := gb_trans (gb_alloc (gb_refl w none) _) hg1
      have B1 := hide ((Box.new w (.mk 19 x m p ts) (.slice a ts.length c) 24).kept hg1)
      obtain ⟨b0_1, b1_1, b2_1, b3_1, b4_1⟩ := B1.out
      change _ = some (Value.int .i64 m) at b2_1
      change _ = some (Value.int .i64 19) at b0_1
      clear hg1
      go_wp2_with fail
      go_ret
      exact .inl ⟨HN.out, rfl, gb_trans HJ.out.gb (by repeat (first | with_reducible exact GW1.out | with_reducible refine gb_put ?_ (by omega) _ _ | with_reducible refine gb_alloc ?_ _ | with_reducible refine gb_drewN ?_ _ | with_reducible refine gb_drew ?_))⟩
set_option maxRecDepth 1000000 in
set_option maxHeartbeats 2000000 in
theorem jact20 (w0 : World) (jb lb ob : Nat) (w : World) (l : List (T × Rule)) (v : Value) (x : List UInt8) (m p : Int) (ts : List T) (sv : Value) (h : JS w0 jb lb ob w l v) (hlen : l.length + ts.length ≤ 20000) (hf : Fits (.mk 20 x m p ts)) (ha : AT w0 (T.mk 20 x m p ts).subs sv) :
    Calls Tryz.prog 86 #[ptr jb, .agg #[.int .i64 20, .string ⟨x.toArray⟩, .int .i64 m, .int .i64 p, sv]] w (JR w0 jb lb ob l v w .act (.mk 20 x m p ts)) := by
  have HJ := hide h
  have HF := hide hf
  have HA := hide ha
  have hjl := h.lt
  have HV : Hid (∀ b, v.ownBlock = some b → b < w.heap.size) := fun b hb => (h.room hb).2
  obtain ⟨a, n, c, rfl, hn, hc, hl⟩ := ha.any
  change ts.length = n at hl
  subst hl
  have HS : Hid (stepR .act (.mk 20 x m p ts) = onlyIf (headB (.mk 20 x m p ts) 20 false 0 1) (zipR ts [.designator])) := rfl
  cases h0 : ((T.mk 20 x m p ts).name.isEmpty && withinB (.mk 20 x m p ts) 0)
  · have HN : Hid (stepR .act (.mk 20 x m p ts) = none) := HS.out.trans (onlyIf_no (by rw [head_unnamed (t := (.mk 20 x m p ts)) (k := 20) rfl, h0]; rfl))
    clear h hf ha
    go_enter Tryz.func86, Tryz.ntmps86
    go_wp2_with fail
    go_at_call 115
    refine (unnamed_any (.mk 20 x m p ts) _ 0 _ ⟨_, _, _, rfl⟩).mono ?_
    rintro e w1 ⟨rfl, hg1⟩
    rw [h0]
    have GW1 : Hid (w.grownBy w1 none) := gb_trans (gb_alloc (gb_refl w none) _) hg1
    have B1 := hide ((Box.new w (.mk 20 x m p ts) (.slice a ts.length c) 24).kept hg1)
    obtain ⟨b0_1, b1_1, b2_1, b3_1, b4_1⟩ := B1.out
    change _ = some (Value.int .i64 m) at b2_1
    change _ = some (Value.int .i64 20) at b0_1
    clear hg1
    go_wp2_with fail
    go_ret
    exact .inl ⟨HN.out, rfl, gb_trans HJ.out.gb (by repeat (first | with_reducible exact GW1.out | with_reducible refine gb_put ?_ (by omega) _ _ | with_reducible refine gb_alloc ?_ _ | with_reducible refine gb_drewN ?_ _ | with_reducible refine gb_drew ?_))⟩
  · skip
    clear h hf ha
    go_enter Tryz.func86, Tryz.ntmps86
    go_wp2_with fail
    go_at_call 115
    refine (unnamed_any (.mk 20 x m p ts) _ 0 _ ⟨_, _, _, rfl⟩).mono ?_
    rintro e w1 ⟨rfl, hg1⟩
    rw [h0]
    have GW1 : Hid (w.grownBy w1 none) := gb_trans (gb_alloc (gb_refl w none) _) hg1
    have B1 := hide ((Box.new w (.mk 20 x m p ts) (.slice a ts.length c) 24).kept hg1)
    obtain ⟨b0_1, b1_1, b2_1, b3_1, b4_1⟩ := B1.out
    change _ = some (Value.int .i64 m) at b2_1
    change _ = some (Value.int .i64 20) at b0_1
    clear hg1
    have hsz := GW1.out.size
    have hjw : jb < w1.heap.size := by omega
    go_wp2_with fail
    go_at_call 78
    refine (below_any w0 jb lb ob _ l v (.mk 20 x m p ts) _ [.designator] _ (HJ.out.grown (by repeat (first | with_reducible exact GW1.out | with_reducible refine gb_put ?_ (by omega) _ _ | with_reducible refine gb_alloc ?_ _ | with_reducible refine gb_drewN ?_ _ | with_reducible refine gb_drew ?_))) hlen (by decide) HA.out (RL.new1 _ _ (.meth .designator _ rfl) (by simpa using hjw) (fun b hb => by have := HV.out b hb; omega))).mono ?_
    rintro e w2 (⟨hno, rfl, hg2⟩ | ⟨hyes, v2, rfl, j2, k2⟩)
    · go_wp2_with fail
      go_ret
      exact .inl ⟨HS.out.trans (onlyIf_no (by rw [head_unnamed (t := (.mk 20 x m p ts)) (k := 20) rfl, h0]; exact (Bool.true_and _).trans (len_no (n := 1) hno))), rfl, gb_trans HJ.out.gb (gb_trans (by repeat (first | with_reducible exact GW1.out | with_reducible refine gb_put ?_ (by omega) _ _ | with_reducible refine gb_alloc ?_ _ | with_reducible refine gb_drewN ?_ _ | with_reducible refine gb_drew ?_)) hg2)⟩
    have J2 := hide j2
    have K2 : Hid (JK jb v w w2 v2) := (JK.grown (by repeat (first | with_reducible exact GW1.out | with_reducible refine gb_put ?_ (by omega) _ _ | with_reducible refine gb_alloc ?_ _ | with_reducible refine gb_drewN ?_ _ | with_reducible refine gb_drew ?_))).trans k2
    clear j2 k2
    go_wp2_with fail
    go_ret
    exact .inr ⟨_, v2, HS.out.trans (onlyIf_yes (by rw [head_unnamed (t := (.mk 20 x m p ts)) (k := 20) rfl, h0]; exact (Bool.true_and _).trans (len_yes (n := 1) hyes))), rfl, J2.out, K2.out⟩
set_option maxRecDepth 1000000 in
set_option maxHeartbeats 2000000 in
theorem jact22 (w0 : World) (jb lb ob : Nat) (w : World) (l : List (T × Rule)) (v : Value) (x : List UInt8) (m p : Int) (ts : List T) (sv : Value) (h : JS w0 jb lb ob w l v) (hlen : l.length + ts.length ≤ 20000) (hf : Fits (.mk 22 x m p ts)) (ha : AT w0 (T.mk 22 x m p ts).subs sv) :
    Calls Tryz.prog 86 #[ptr jb, .agg #[.int .i64 22, .string ⟨x.toArray⟩, .int .i64 m, .int .i64 p, sv]] w (JR w0 jb lb ob l v w .act (.mk 22 x m p ts)) := by
  have HJ := hide h
  have HF := hide hf
  have HA := hide ha
  have hjl := h.lt
  have HV : Hid (∀ b, v.ownBlock = some b → b < w.heap.size) := fun b hb => (h.room hb).2
  obtain ⟨a, n, c, rfl, hn, hc, hl⟩ := ha.any
  change ts.length = n at hl
  subst hl
  have HS : Hid (stepR .act (.mk 22 x m p ts) = onlyIf (headB (.mk 22 x m p ts) 22 false 0 1) (zipR ts [.designator])) := rfl
  cases h0 : ((T.mk 22 x m p ts).name.isEmpty && withinB (.mk 22 x m p ts) 0)
  · have HN : Hid (stepR .act (.mk 22 x m p ts) = none) := HS.out.trans (onlyIf_no (by rw [head_unnamed (t := (.mk 22 x m p ts)) (k := 22) rfl, h0]; rfl))
    clear h hf ha
    go_enter Tryz.func86, Tryz.ntmps86
    go_wp2_with fail
    go_at_call 115
    refine (unnamed_any (.mk 22 x m p ts) _ 0 _ ⟨_, _, _, rfl⟩).mono ?_
    rintro e w1 ⟨rfl, hg1⟩
    rw [h0]
    have GW1 : Hid (w.grownBy w1 none) := gb_trans (gb_alloc (gb_refl w none) _) hg1
    have B1 := hide ((Box.new w (.mk 22 x m p ts) (.slice a ts.length c) 24).kept hg1)
    obtain ⟨b0_1, b1_1, b2_1, b3_1, b4_1⟩ := B1.out
    change _ = some (Value.int .i64 m) at b2_1
    change _ = some (Value.int .i64 22) at b0_1
    clear hg1
    go_wp2_with fail
    go_ret
    exact .inl ⟨HN.out, rfl, gb_trans HJ.out.gb (by repeat (first | with_reducible exact GW1.out | with_reducible refine gb_put ?_ (by omega) _ _ | with_reducible refine gb_alloc ?_ _ | with_reducible refine gb_drewN ?_ _ | with_reducible refine gb_drew ?_))⟩
  · skip
    clear h hf ha
    go_enter Tryz.func86, Tryz.ntmps86
    go_wp2_with fail
    go_at_call 115
    refine (unnamed_any (.mk 22 x m p ts) _ 0 _ ⟨_, _, _, rfl⟩).mono ?_
    rintro e w1 ⟨rfl, hg1⟩
    rw [h0]
    have GW1 : Hid (w.grownBy w1 none) := gb_trans (gb_alloc (gb_refl w none) _) hg1
    have B1 := hide ((Box.new w (.mk 22 x m p ts) (.slice a ts.length c) 24).kept hg1)
    obtain ⟨b0_1, b1_1, b2_1, b3_1, b4_1⟩ := B1.out
    change _ = some (Value.int .i64 m) at b2_1
    change _ = some (Value.int .i64 22) at b0_1
    clear hg1
    have hsz := GW1.out.size
    have hjw : jb < w1.heap.size := by omega
    go_wp2_with fail
    go_at_call 78
    refine (below_any w0 jb lb ob _ l v (.mk 22 x m p ts) _ [.designator] _ (HJ.out.grown (by repeat (first | with_reducible exact GW1.out | with_reducible refine gb_put ?_ (by omega) _ _ | with_reducible refine gb_alloc ?_ _ | with_reducible refine gb_drewN ?_ _ | with_reducible refine gb_drew ?_))) hlen (by decide) HA.out (RL.new1 _ _ (.meth .designator _ rfl) (by simpa using hjw) (fun b hb => by have := HV.out b hb; omega))).mono ?_
    rintro e w2 (⟨hno, rfl, hg2⟩ | ⟨hyes, v2, rfl, j2, k2⟩)
    · go_wp2_with fail
      go_ret
      exact .inl ⟨HS.out.trans (onlyIf_no (by rw [head_unnamed (t := (.mk 22 x m p ts)) (k := 22) rfl, h0]; exact (Bool.true_and _).trans (len_no (n := 1) hno))), rfl, gb_trans HJ.out.gb (gb_trans (by repeat (first | with_reducible exact GW1.out | with_reducible refine gb_put ?_ (by omega) _ _ | with_reducible refine gb_alloc ?_ _ | with_reducible refine gb_drewN ?_ _ | with_reducible refine gb_drew ?_)) hg2)⟩
    have J2 := hide j2
    have K2 : Hid (JK jb v w w2 v2) := (JK.grown (by repeat (first | with_reducible exact GW1.out | with_reducible refine gb_put ?_ (by omega) _ _ | with_reducible refine gb_alloc ?_ _ | with_reducible refine gb_drewN ?_ _ | with_reducible refine gb_drew ?_))).trans k2
    clear j2 k2
    go_wp2_with fail
    go_ret
    exact .inr ⟨_, v2, HS.out.trans (onlyIf_yes (by rw [head_unnamed (t := (.mk 22 x m p ts)) (k := 22) rfl, h0]; exact (Bool.true_and _).trans (len_yes (n := 1) hyes))), rfl, J2.out, K2.out⟩
set_option maxRecDepth 1000000 in
set_option maxHeartbeats 2000000 in
theorem jact21 (w0 : World) (jb lb ob : Nat) (w : World) (l : List (T × Rule)) (v : Value) (x : List UInt8) (m p : Int) (ts : List T) (sv : Value) (h : JS w0 jb lb ob w l v) (hlen : l.length + ts.length ≤ 20000) (hf : Fits (.mk 21 x m p ts)) (ha : AT w0 (T.mk 21 x m p ts).subs sv) :
    Calls Tryz.prog 86 #[ptr jb, .agg #[.int .i64 21, .string ⟨x.toArray⟩, .int .i64 m, .int .i64 p, sv]] w (JR w0 jb lb ob l v w .act (.mk 21 x m p ts)) := by
  have HJ := hide h
  have HF := hide hf
  have HA := hide ha
  have hjl := h.lt
  have HV : Hid (∀ b, v.ownBlock = some b → b < w.heap.size) := fun b hb => (h.room hb).2
  obtain ⟨a, n, c, rfl, hn, hc, hl⟩ := ha.any
  change ts.length = n at hl
  subst hl
  have HS : Hid (stepR .act (.mk 21 x m p ts) = onlyIf (headB (.mk 21 x m p ts) 21 false 0 1) (zipR ts [.expression])) := rfl
  cases h0 : ((T.mk 21 x m p ts).name.isEmpty && withinB (.mk 21 x m p ts) 0)
  · have HN : Hid (stepR .act (.mk 21 x m p ts) = none) := HS.out.trans (onlyIf_no (by rw [head_unnamed (t := (.mk 21 x m p ts)) (k := 21) rfl, h0]; rfl))
    clear h hf ha
    go_enter Tryz.func86, Tryz.ntmps86
    go_wp2_with fail
    go_at_call 115
    refine (unnamed_any (.mk 21 x m p ts) _ 0 _ ⟨_, _, _, rfl⟩).mono ?_
    rintro e w1 ⟨rfl, hg1⟩
    rw [h0]
    have GW1 : Hid (w.grownBy w1 none) := gb_trans (gb_alloc (gb_refl w none) _) hg1
    have B1 := hide ((Box.new w (.mk 21 x m p ts) (.slice a ts.length c) 24).kept hg1)
    obtain ⟨b0_1, b1_1, b2_1, b3_1, b4_1⟩ := B1.out
    change _ = some (Value.int .i64 m) at b2_1
    change _ = some (Value.int .i64 21) at b0_1
    clear hg1
    go_wp2_with fail
    go_ret
    exact .inl ⟨HN.out, rfl, gb_trans HJ.out.gb (by repeat (first | with_reducible exact GW1.out | with_reducible refine gb_put ?_ (by omega) _ _ | with_reducible refine gb_alloc ?_ _ | with_reducible refine gb_drewN ?_ _ | with_reducible refine gb_drew ?_))⟩
  · skip
    clear h hf ha
    go_enter Tryz.func86, Tryz.ntmps86
    go_wp2_with fail
    go_at_call 115
    refine (unnamed_any (.mk 21 x m p ts) _ 0 _ ⟨_, _, _, rfl⟩).mono ?_
    rintro e w1 ⟨rfl, hg1⟩
    rw [h0]
    have GW1 : Hid (w.grownBy w1 none) := gb_trans (gb_alloc (gb_refl w none) _) hg1
    have B1 := hide ((Box.new w (.mk 21 x m p ts) (.slice a ts.length c) 24).kept hg1)
    obtain ⟨b0_1, b1_1, b2_1, b3_1, b4_1⟩ := B1.out
    change _ = some (Value.int .i64 m) at b2_1
    change _ = some (Value.int .i64 21) at b0_1
    clear hg1
    have hsz := GW1.out.size
    have hjw : jb < w1.heap.size := by omega
    go_wp2_with fail
    go_at_call 78
    refine (below_any w0 jb lb ob _ l v (.mk 21 x m p ts) _ [.expression] _ (HJ.out.grown (by repeat (first | with_reducible exact GW1.out | with_reducible refine gb_put ?_ (by omega) _ _ | with_reducible refine gb_alloc ?_ _ | with_reducible refine gb_drewN ?_ _ | with_reducible refine gb_drew ?_))) hlen (by decide) HA.out (RL.new1 _ _ (.meth .expression _ rfl) (by simpa using hjw) (fun b hb => by have := HV.out b hb; omega))).mono ?_
    rintro e w2 (⟨hno, rfl, hg2⟩ | ⟨hyes, v2, rfl, j2, k2⟩)
    · go_wp2_with fail
      go_ret
      exact .inl ⟨HS.out.trans (onlyIf_no (by rw [head_unnamed (t := (.mk 21 x m p ts)) (k := 21) rfl, h0]; exact (Bool.true_and _).trans (len_no (n := 1) hno))), rfl, gb_trans HJ.out.gb (gb_trans (by repeat (first | with_reducible exact GW1.out | with_reducible refine gb_put ?_ (by omega) _ _ | with_reducible refine gb_alloc ?_ _ | with_reducible refine gb_drewN ?_ _ | with_reducible refine gb_drew ?_)) hg2)⟩
    have J2 := hide j2
    have K2 : Hid (JK jb v w w2 v2) := (JK.grown (by repeat (first | with_reducible exact GW1.out | with_reducible refine gb_put ?_ (by omega) _ _ | with_reducible refine gb_alloc ?_ _ | with_reducible refine gb_drewN ?_ _ | with_reducible refine gb_drew ?_))).trans k2
    clear j2 k2
    go_wp2_with fail
    go_ret
    exact .inr ⟨_, v2, HS.out.trans (onlyIf_yes (by rw [head_unnamed (t := (.mk 21 x m p ts)) (k := 21) rfl, h0]; exact (Bool.true_and _).trans (len_yes (n := 1) hyes))), rfl, J2.out, K2.out⟩
set_option maxRecDepth 1000000 in
set_option maxHeartbeats 2000000 in
theorem jact23 (w0 : World) (jb lb ob : Nat) (w : World) (l : List (T × Rule)) (v : Value) (x : List UInt8) (m p : Int) (ts : List T) (sv : Value) (h : JS w0 jb lb ob w l v) (hlen : l.length + ts.length ≤ 20000) (hf : Fits (.mk 23 x m p ts)) (ha : AT w0 (T.mk 23 x m p ts).subs sv) :
    Calls Tryz.prog 86 #[ptr jb, .agg #[.int .i64 23, .string ⟨x.toArray⟩, .int .i64 m, .int .i64 p, sv]] w (JR w0 jb lb ob l v w .act (.mk 23 x m p ts)) := by
  have HJ := hide h
  have HF := hide hf
  have HA := hide ha
  have hjl := h.lt
  have HV : Hid (∀ b, v.ownBlock = some b → b < w.heap.size) := fun b hb => (h.room hb).2
  obtain ⟨a, n, c, rfl, hn, hc, hl⟩ := ha.any
  change ts.length = n at hl
  subst hl
  have HS : Hid (stepR .act (.mk 23 x m p ts) = onlyIf (headB (.mk 23 x m p ts) 23 false 0 1) (zipR ts [.expression])) := rfl
  cases h0 : ((T.mk 23 x m p ts).name.isEmpty && withinB (.mk 23 x m p ts) 0)
  · have HN : Hid (stepR .act (.mk 23 x m p ts) = none) := HS.out.trans (onlyIf_no (by rw [head_unnamed (t := (.mk 23 x m p ts)) (k := 23) rfl, h0]; rfl))
    clear h hf ha
    go_enter Tryz.func86, Tryz.ntmps86
    go_wp2_with fail
    go_at_call 115
    refine (unnamed_any (.mk 23 x m p ts) _ 0 _ ⟨_, _, _, rfl⟩).mono ?_
    rintro e w1 ⟨rfl, hg1⟩
    rw [h0]
    have GW1 : Hid (w.grownBy w1 none) := gb_trans (gb_alloc (gb_refl w none) _) hg1
    have B1 := hide ((Box.new w (.mk 23 x m p ts) (.slice a ts.length c) 24).kept hg1)
    obtain ⟨b0_1, b1_1, b2_1, b3_1, b4_1⟩ := B1.out
    change _ = some (Value.int .i64 m) at b2_1
    change _ = some (Value.int .i64 23) at b0_1
    clear hg1
    go_wp2_with fail
    go_ret
    exact .inl ⟨HN.out, rfl, gb_trans HJ.out.gb (by repeat (first | with_reducible exact GW1.out | with_reducible refine gb_put ?_ (by omega) _ _ | with_reducible refine gb_alloc ?_ _ | with_reducible refine gb_drewN ?_ _ | with_reducible refine gb_drew ?_))⟩
  · skip
    clear h hf ha
    go_enter Tryz.func86, Tryz.ntmps86
    go_wp2_with fail
    go_at_call 115
    refine (unnamed_any (.mk 23 x m p ts) _ 0 _ ⟨_, _, _, rfl⟩).mono ?_
    rintro e w1 ⟨rfl, hg1⟩
    rw [h0]
    have GW1 : Hid (w.grownBy w1 none) := gb_trans (gb_alloc (gb_refl w none) _) hg1
    have B1 := hide ((Box.new w (.mk 23 x m p ts) (.slice a ts.length c) 24).kept hg1)
    obtain ⟨b0_1, b1_1, b2_1, b3_1, b4_1⟩ := B1.out
    change _ = some (Value.int .i64 m) at b2_1
    change _ = some (Value.int .i64 23) at b0_1
    clear hg1
    have hsz := GW1.out.size
    have hjw : jb < w1.heap.size := by omega
    go_wp2_with fail
    go_at_call 78
    refine (below_any w0 jb lb ob _ l v (.mk 23 x m p ts) _ [.expression] _ (HJ.out.grown (by repeat (first | with_reducible exact GW1.out | with_reducible refine gb_put ?_ (by omega) _ _ | with_reducible refine gb_alloc ?_ _ | with_reducible refine gb_drewN ?_ _ | with_reducible refine gb_drew ?_))) hlen (by decide) HA.out (RL.new1 _ _ (.meth .expression _ rfl) (by simpa using hjw) (fun b hb => by have := HV.out b hb; omega))).mono ?_
    rintro e w2 (⟨hno, rfl, hg2⟩ | ⟨hyes, v2, rfl, j2, k2⟩)
    · go_wp2_with fail
      go_ret
      exact .inl ⟨HS.out.trans (onlyIf_no (by rw [head_unnamed (t := (.mk 23 x m p ts)) (k := 23) rfl, h0]; exact (Bool.true_and _).trans (len_no (n := 1) hno))), rfl, gb_trans HJ.out.gb (gb_trans (by repeat (first | with_reducible exact GW1.out | with_reducible refine gb_put ?_ (by omega) _ _ | with_reducible refine gb_alloc ?_ _ | with_reducible refine gb_drewN ?_ _ | with_reducible refine gb_drew ?_)) hg2)⟩
    have J2 := hide j2
    have K2 : Hid (JK jb v w w2 v2) := (JK.grown (by repeat (first | with_reducible exact GW1.out | with_reducible refine gb_put ?_ (by omega) _ _ | with_reducible refine gb_alloc ?_ _ | with_reducible refine gb_drewN ?_ _ | with_reducible refine gb_drew ?_))).trans k2
    clear j2 k2
    go_wp2_with fail
    go_ret
    exact .inr ⟨_, v2, HS.out.trans (onlyIf_yes (by rw [head_unnamed (t := (.mk 23 x m p ts)) (k := 23) rfl, h0]; exact (Bool.true_and _).trans (len_yes (n := 1) hyes))), rfl, J2.out, K2.out⟩
set_option maxRecDepth 1000000 in
set_option maxHeartbeats 2000000 in
theorem jactElse (w0 : World) (jb lb ob : Nat) (w : World) (l : List (T × Rule)) (v : Value) (kd : Int) (x : List UInt8) (m p : Int) (ts : List T) (sv : Value) (h : JS w0 jb lb ob w l v) (_hlen : l.length + ts.length ≤ 20000) (hf : Fits (.mk kd x m p ts)) (ha : AT w0 (T.mk kd x m p ts).subs sv) (h14 : ¬ kd = 14) (h15 : ¬ kd = 15) (h16 : ¬ kd = 16) (h17 : ¬ kd = 17) (h18 : ¬ kd = 18) (h19 : ¬ kd = 19) (h20 : ¬ kd = 20) (h21 : ¬ kd = 21) (h22 : ¬ kd = 22) (h23 : ¬ kd = 23) :
    Calls Tryz.prog 86 #[ptr jb, .agg #[.int .i64 kd, .string ⟨x.toArray⟩, .int .i64 m, .int .i64 p, sv]] w (JR w0 jb lb ob l v w .act (.mk kd x m p ts)) := by
  have HJ := hide h
  have HF := hide hf
  have HA := hide ha
  have hjl := h.lt
  have HV : Hid (∀ b, v.ownBlock = some b → b < w.heap.size) := fun b hb => (h.room hb).2
  obtain ⟨a, n, c, rfl, hn, hc, hl⟩ := ha.any
  change ts.length = n at hl
  subst hl
  have HN : Hid (stepR .act (.mk kd x m p ts) = none) := by show _ = _; simp [stepR, actR, T.kind, h14, h15, h16, h17, h18, h19, h20, h21, h22, h23]
  cases h0 : ((T.mk kd x m p ts).name.isEmpty && withinB (.mk kd x m p ts) 0)
  · skip
    clear h hf ha
    go_enter Tryz.func86, Tryz.ntmps86
    go_wp2_with fail
    go_at_call 115
    refine (unnamed_any (.mk kd x m p ts) _ 0 _ ⟨_, _, _, rfl⟩).mono ?_
    rintro e w1 ⟨rfl, hg1⟩
    rw [h0]
    have GW1 : Hid (w.grownBy w1 none) := gb_trans (gb_alloc (gb_refl w none) _) hg1
    have B1 := hide ((Box.new w (.mk kd x m p ts) (.slice a ts.length c) 24).kept hg1)
    obtain ⟨b0_1, b1_1, b2_1, b3_1, b4_1⟩ := B1.out
    change _ = some (Value.int .i64 m) at b2_1
    change _ = some (Value.int .i64 kd) at b0_1
    clear hg1
    go_wp2_with fail
    go_ret
    exact .inl ⟨HN.out, rfl, gb_trans HJ.out.gb (by repeat (first | with_reducible exact GW1.out | with_reducible refine gb_put ?_ (by omega) _ _ | with_reducible refine gb_alloc ?_ _ | with_reducible refine gb_drewN ?_ _ | with_reducible refine gb_drew ?_))⟩
  · skip
    clear h hf ha
    go_enter Tryz.func86, Tryz.ntmps86
    go_wp2_with fail
    go_at_call 115
    refine (unnamed_any (.mk kd x m p ts) _ 0 _ ⟨_, _, _, rfl⟩).mono ?_
    rintro e w1 ⟨rfl, hg1⟩
    rw [h0]
    have GW1 : Hid (w.grownBy w1 none) := gb_trans (gb_alloc (gb_refl w none) _) hg1
    have B1 := hide ((Box.new w (.mk kd x m p ts) (.slice a ts.length c) 24).kept hg1)
    obtain ⟨b0_1, b1_1, b2_1, b3_1, b4_1⟩ := B1.out
    change _ = some (Value.int .i64 m) at b2_1
    change _ = some (Value.int .i64 kd) at b0_1
    clear hg1
    go_wp2_with fail
    go_ret
    exact .inl ⟨HN.out, rfl, gb_trans HJ.out.gb (by repeat (first | with_reducible exact GW1.out | with_reducible refine gb_put ?_ (by omega) _ _ | with_reducible refine gb_alloc ?_ _ | with_reducible refine gb_drewN ?_ _ | with_reducible refine gb_drew ?_))⟩
end Go.Proofs.YtlkokcnbbihljaaGreatDoor
