/- The program's judge of shapes: rules, kind by kind. -/
import Derived.Test.YtlkokcnbbihljaaGreatDoorG18
namespace Go.Proofs.YtlkokcnbbihljaaGreatDoor
open Go.RowKit Go.Maps Go.WideMaps Go.WideElems

set_option maxRecDepth 1000000 in
set_option maxHeartbeats 2000000 in
theorem jexp29 (w0 : World) (jb lb ob : Nat) (w : World) (l : List (T × Rule)) (v : Value) (x : List UInt8) (m p : Int) (ts : List T) (sv : Value) (h : JS w0 jb lb ob w l v) (hlen : l.length + ts.length ≤ 20000) (hf : Fits (.mk 29 x m p ts)) (ha : AT w0 (T.mk 29 x m p ts).subs sv) :
    Calls Tryz.prog 82 #[ptr jb, .agg #[.int .i64 29, .string ⟨x.toArray⟩, .int .i64 m, .int .i64 p, sv]] w (JR w0 jb lb ob l v w .expression (.mk 29 x m p ts)) := by
  have HJ := hide h
  have HF := hide hf
  have HA := hide ha
  have hjl := h.lt
  have HV : Hid (∀ b, v.ownBlock = some b → b < w.heap.size) := fun b hb => (h.room hb).2
  obtain ⟨a, n, c, rfl, hn, hc, hl⟩ := ha.any
  change ts.length = n at hl
  subst hl
  have HS : Hid (stepR .expression (.mk 29 x m p ts) = onlyIf (headB (.mk 29 x m p ts) 29 false maxNum 0) (zipR ts [])) := by rw [zipR_nil]; rfl
  cases h0 : ((T.mk 29 x m p ts).name.isEmpty && withinB (.mk 29 x m p ts) maxNum)
  · have HN : Hid (stepR .expression (.mk 29 x m p ts) = none) := HS.out.trans (onlyIf_no (by rw [head_unnamed (t := (.mk 29 x m p ts)) (k := 29) rfl, h0]; rfl))
    clear h hf ha
    go_enter Tryz.func82, Tryz.ntmps82
    go_wp2_with fail
    go_at_call 115
    refine (unnamed_any (.mk 29 x m p ts) _ maxNum _ ⟨_, _, _, rfl⟩).mono ?_
    rintro e w1 ⟨rfl, hg1⟩
    rw [h0]
    have GW1 : Hid (w.grownBy w1 none) := gb_trans (gb_alloc (gb_refl w none) _) hg1
    have B1 := hide ((Box.new w (.mk 29 x m p ts) (.slice a ts.length c) 24).kept hg1)
    obtain ⟨b0_1, b1_1, b2_1, b3_1, b4_1⟩ := B1.out
    change _ = some (Value.int .i64 m) at b2_1
    change _ = some (Value.int .i64 29) at b0_1
    clear hg1
    go_wp2_with fail
    go_ret
    exact .inl ⟨HN.out, rfl, gb_trans HJ.out.gb (by repeat (first | with_reducible exact GW1.out | with_reducible refine gb_put ?_ (by omega) _ _ | with_reducible refine gb_alloc ?_ _ | with_reducible refine gb_drewN ?_ _ | with_reducible refine gb_drew ?_))⟩
  · skip
    clear h hf ha
    go_enter Tryz.func82, Tryz.ntmps82
    go_wp2_with fail
    go_at_call 115
    refine (unnamed_any (.mk 29 x m p ts) _ maxNum _ ⟨_, _, _, rfl⟩).mono ?_
    rintro e w1 ⟨rfl, hg1⟩
    rw [h0]
    have GW1 : Hid (w.grownBy w1 none) := gb_trans (gb_alloc (gb_refl w none) _) hg1
    have B1 := hide ((Box.new w (.mk 29 x m p ts) (.slice a ts.length c) 24).kept hg1)
    obtain ⟨b0_1, b1_1, b2_1, b3_1, b4_1⟩ := B1.out
    change _ = some (Value.int .i64 m) at b2_1
    change _ = some (Value.int .i64 29) at b0_1
    clear hg1
    have hsz := GW1.out.size
    have hjw : jb < w1.heap.size := by omega
    go_wp2_with fail
    go_at_call 78
    refine (below_any w0 jb lb ob _ l v (.mk 29 x m p ts) _ [] _ (HJ.out.grown (by repeat (first | with_reducible exact GW1.out | with_reducible refine gb_put ?_ (by omega) _ _ | with_reducible refine gb_alloc ?_ _ | with_reducible refine gb_drewN ?_ _ | with_reducible refine gb_drew ?_))) hlen (by decide) HA.out (.inl ⟨rfl, rfl⟩)).mono ?_
    rintro e w2 (⟨hno, rfl, hg2⟩ | ⟨hyes, v2, rfl, j2, k2⟩)
    · go_wp2_with fail
      go_ret
      exact .inl ⟨HS.out.trans (onlyIf_no (by rw [head_unnamed (t := (.mk 29 x m p ts)) (k := 29) rfl, h0]; exact (Bool.true_and _).trans (len_no (n := 0) hno))), rfl, gb_trans HJ.out.gb (gb_trans (by repeat (first | with_reducible exact GW1.out | with_reducible refine gb_put ?_ (by omega) _ _ | with_reducible refine gb_alloc ?_ _ | with_reducible refine gb_drewN ?_ _ | with_reducible refine gb_drew ?_)) hg2)⟩
    have J2 := hide j2
    have K2 : Hid (JK jb v w w2 v2) := (JK.grown (by repeat (first | with_reducible exact GW1.out | with_reducible refine gb_put ?_ (by omega) _ _ | with_reducible refine gb_alloc ?_ _ | with_reducible refine gb_drewN ?_ _ | with_reducible refine gb_drew ?_))).trans k2
    clear j2 k2
    go_wp2_with fail
    go_ret
    exact .inr ⟨_, v2, HS.out.trans (onlyIf_yes (by rw [head_unnamed (t := (.mk 29 x m p ts)) (k := 29) rfl, h0]; exact (Bool.true_and _).trans (len_yes (n := 0) hyes))), rfl, J2.out, K2.out⟩
set_option maxRecDepth 1000000 in
set_option maxHeartbeats 2000000 in
theorem jexp30 (w0 : World) (jb lb ob : Nat) (w : World) (l : List (T × Rule)) (v : Value) (x : List UInt8) (m p : Int) (ts : List T) (sv : Value) (h : JS w0 jb lb ob w l v) (hlen : l.length + ts.length ≤ 20000) (hf : Fits (.mk 30 x m p ts)) (ha : AT w0 (T.mk 30 x m p ts).subs sv) :
    Calls Tryz.prog 82 #[ptr jb, .agg #[.int .i64 30, .string ⟨x.toArray⟩, .int .i64 m, .int .i64 p, sv]] w (JR w0 jb lb ob l v w .expression (.mk 30 x m p ts)) := by
  have HJ := hide h
  have HF := hide hf
  have HA := hide ha
  have hjl := h.lt
  have HV : Hid (∀ b, v.ownBlock = some b → b < w.heap.size) := fun b hb => (h.room hb).2
  obtain ⟨a, n, c, rfl, hn, hc, hl⟩ := ha.any
  change ts.length = n at hl
  subst hl
  have HS : Hid (stepR .expression (.mk 30 x m p ts) = onlyIf (headB (.mk 30 x m p ts) 30 false 0 0) (zipR ts [])) := by rw [zipR_nil]; rfl
  cases h0 : ((T.mk 30 x m p ts).name.isEmpty && withinB (.mk 30 x m p ts) 0)
  · have HN : Hid (stepR .expression (.mk 30 x m p ts) = none) := HS.out.trans (onlyIf_no (by rw [head_unnamed (t := (.mk 30 x m p ts)) (k := 30) rfl, h0]; rfl))
    clear h hf ha
    go_enter Tryz.func82, Tryz.ntmps82
    go_wp2_with fail
    go_at_call 115
    refine (unnamed_any (.mk 30 x m p ts) _ 0 _ ⟨_, _, _, rfl⟩).mono ?_
    rintro e w1 ⟨rfl, hg1⟩
    rw [h0]
    have GW1 : Hid (w.grownBy w1 none) := gb_trans (gb_alloc (gb_refl w none) _) hg1
    have B1 := hide ((Box.new w (.mk 30 x m p ts) (.slice a ts.length c) 24).kept hg1)
    obtain ⟨b0_1, b1_1, b2_1, b3_1, b4_1⟩ := B1.out
    change _ = some (Value.int .i64 m) at b2_1
    change _ = some (Value.int .i64 30) at b0_1
    clear hg1
    go_wp2_with fail
    go_ret
    exact .inl ⟨HN.out, rfl, gb_trans HJ.out.gb (by repeat (first | with_reducible exact GW1.out | with_reducible refine gb_put ?_ (by omega) _ _ | with_reducible refine gb_alloc ?_ _ | with_reducible refine gb_drewN ?_ _ | with_reducible refine gb_drew ?_))⟩
  · skip
    clear h hf ha
    go_enter Tryz.func82, Tryz.ntmps82
    go_wp2_with fail
    go_at_call 115
    refine (unnamed_any (.mk 30 x m p ts) _ 0 _ ⟨_, _, _, rfl⟩).mono ?_
    rintro e w1 ⟨rfl, hg1⟩
    rw [h0]
    have GW1 : Hid (w.grownBy w1 none) := gb_trans (gb_alloc (gb_refl w none) _) hg1
    have B1 := hide ((Box.new w (.mk 30 x m p ts) (.slice a ts.length c) 24).kept hg1)
    obtain ⟨b0_1, b1_1, b2_1, b3_1, b4_1⟩ := B1.out
    change _ = some (Value.int .i64 m) at b2_1
    change _ = some (Value.int .i64 30) at b0_1
    clear hg1
    have hsz := GW1.out.size
    have hjw : jb < w1.heap.size := by omega
    go_wp2_with fail
    go_at_call 78
    refine (below_any w0 jb lb ob _ l v (.mk 30 x m p ts) _ [] _ (HJ.out.grown (by repeat (first | with_reducible exact GW1.out | with_reducible refine gb_put ?_ (by omega) _ _ | with_reducible refine gb_alloc ?_ _ | with_reducible refine gb_drewN ?_ _ | with_reducible refine gb_drew ?_))) hlen (by decide) HA.out (.inl ⟨rfl, rfl⟩)).mono ?_
    rintro e w2 (⟨hno, rfl, hg2⟩ | ⟨hyes, v2, rfl, j2, k2⟩)
    · go_wp2_with fail
      go_ret
      exact .inl ⟨HS.out.trans (onlyIf_no (by rw [head_unnamed (t := (.mk 30 x m p ts)) (k := 30) rfl, h0]; exact (Bool.true_and _).trans (len_no (n := 0) hno))), rfl, gb_trans HJ.out.gb (gb_trans (by repeat (first | with_reducible exact GW1.out | with_reducible refine gb_put ?_ (by omega) _ _ | with_reducible refine gb_alloc ?_ _ | with_reducible refine gb_drewN ?_ _ | with_reducible refine gb_drew ?_)) hg2)⟩
    have J2 := hide j2
    have K2 : Hid (JK jb v w w2 v2) := (JK.grown (by repeat (first | with_reducible exact GW1.out | with_reducible refine gb_put ?_ (by omega) _ _ | with_reducible refine gb_alloc ?_ _ | with_reducible refine gb_drewN ?_ _ | with_reducible refine gb_drew ?_))).trans k2
    clear j2 k2
    go_wp2_with fail
    go_ret
    exact .inr ⟨_, v2, HS.out.trans (onlyIf_yes (by rw [head_unnamed (t := (.mk 30 x m p ts)) (k := 30) rfl, h0]; exact (Bool.true_and _).trans (len_yes (n := 0) hyes))), rfl, J2.out, K2.out⟩
set_option maxRecDepth 1000000 in
set_option maxHeartbeats 2000000 in
theorem jexp31 (w0 : World) (jb lb ob : Nat) (w : World) (l : List (T × Rule)) (v : Value) (x : List UInt8) (m p : Int) (ts : List T) (sv : Value) (h : JS w0 jb lb ob w l v) (hlen : l.length + ts.length ≤ 20000) (hf : Fits (.mk 31 x m p ts)) (ha : AT w0 (T.mk 31 x m p ts).subs sv) :
    Calls Tryz.prog 82 #[ptr jb, .agg #[.int .i64 31, .string ⟨x.toArray⟩, .int .i64 m, .int .i64 p, sv]] w (JR w0 jb lb ob l v w .expression (.mk 31 x m p ts)) := by
  have HJ := hide h
  have HF := hide hf
  have HA := hide ha
  have hjl := h.lt
  have HV : Hid (∀ b, v.ownBlock = some b → b < w.heap.size) := fun b hb => (h.room hb).2
  obtain ⟨a, n, c, rfl, hn, hc, hl⟩ := ha.any
  change ts.length = n at hl
  subst hl
  have HS : Hid (stepR .expression (.mk 31 x m p ts) = onlyIf (headB (.mk 31 x m p ts) 31 false 0 0) (zipR ts [])) := by rw [zipR_nil]; rfl
  cases h0 : ((T.mk 31 x m p ts).name.isEmpty && withinB (.mk 31 x m p ts) 0)
  · have HN : Hid (stepR .expression (.mk 31 x m p ts) = none) := HS.out.trans (onlyIf_no (by rw [head_unnamed (t := (.mk 31 x m p ts)) (k := 31) rfl, h0]; rfl))
    clear h hf ha
    go_enter Tryz.func82, Tryz.ntmps82
    go_wp2_with fail
    go_at_call 115
    refine (unnamed_any (.mk 31 x m p ts) _ 0 _ ⟨_, _, _, rfl⟩).mono ?_
    rintro e w1 ⟨rfl, hg1⟩
    rw [h0]
    have GW1 : Hid (w.grownBy w1 none) := gb_trans (gb_alloc (gb_refl w none) _) hg1
    have B1 := hide ((Box.new w (.mk 31 x m p ts) (.slice a ts.length c) 24).kept hg1)
    obtain ⟨b0_1, b1_1, b2_1, b3_1, b4_1⟩ := B1.out
    change _ = some (Value.int .i64 m) at b2_1
    change _ = some (Value.int .i64 31) at b0_1
    clear hg1
    go_wp2_with fail
    go_ret
    exact .inl ⟨HN.out, rfl, gb_trans HJ.out.gb (by repeat (first | with_reducible exact GW1.out | with_reducible refine gb_put ?_ (by omega) _ _ | with_reducible refine gb_alloc ?_ _ | with_reducible refine gb_drewN ?_ _ | with_reducible refine gb_drew ?_))⟩
  · skip
    clear h hf ha
    go_enter Tryz.func82, Tryz.ntmps82
    go_wp2_with fail
    go_at_call 115
    refine (unnamed_any (.mk 31 x m p ts) _ 0 _ ⟨_, _, _, rfl⟩).mono ?_
    rintro e w1 ⟨rfl, hg1⟩
    rw [h0]
    have GW1 : Hid (w.grownBy w1 none) := gb_trans (gb_alloc (gb_refl w none) _) hg1
    have B1 := hide ((Box.new w (.mk 31 x m p ts) (.slice a ts.length c) 24).kept hg1)
    obtain ⟨b0_1, b1_1, b2_1, b3_1, b4_1⟩ := B1.out
    change _ = some (Value.int .i64 m) at b2_1
    change _ = some (Value.int .i64 31) at b0_1
    clear hg1
    have hsz := GW1.out.size
    have hjw : jb < w1.heap.size := by omega
    go_wp2_with fail
    go_at_call 78
    refine (below_any w0 jb lb ob _ l v (.mk 31 x m p ts) _ [] _ (HJ.out.grown (by repeat (first | with_reducible exact GW1.out | with_reducible refine gb_put ?_ (by omega) _ _ | with_reducible refine gb_alloc ?_ _ | with_reducible refine gb_drewN ?_ _ | with_reducible refine gb_drew ?_))) hlen (by decide) HA.out (.inl ⟨rfl, rfl⟩)).mono ?_
    rintro e w2 (⟨hno, rfl, hg2⟩ | ⟨hyes, v2, rfl, j2, k2⟩)
    · go_wp2_with fail
      go_ret
      exact .inl ⟨HS.out.trans (onlyIf_no (by rw [head_unnamed (t := (.mk 31 x m p ts)) (k := 31) rfl, h0]; exact (Bool.true_and _).trans (len_no (n := 0) hno))), rfl, gb_trans HJ.out.gb (gb_trans (by repeat (first | with_reducible exact GW1.out | with_reducible refine gb_put ?_ (by omega) _ _ | with_reducible refine gb_alloc ?_ _ | with_reducible refine gb_drewN ?_ _ | with_reducible refine gb_drew ?_)) hg2)⟩
    have J2 := hide j2
    have K2 : Hid (JK jb v w w2 v2) := (JK.grown (by repeat (first | with_reducible exact GW1.out | with_reducible refine gb_put ?_ (by omega) _ _ | with_reducible refine gb_alloc ?_ _ | with_reducible refine gb_drewN ?_ _ | with_reducible refine gb_drew ?_))).trans k2
    clear j2 k2
    go_wp2_with fail
    go_ret
    exact .inr ⟨_, v2, HS.out.trans (onlyIf_yes (by rw [head_unnamed (t := (.mk 31 x m p ts)) (k := 31) rfl, h0]; exact (Bool.true_and _).trans (len_yes (n := 0) hyes))), rfl, J2.out, K2.out⟩
set_option maxRecDepth 1000000 in
set_option maxHeartbeats 2000000 in
theorem jexp32 (w0 : World) (jb lb ob : Nat) (w : World) (l : List (T × Rule)) (v : Value) (x : List UInt8) (m p : Int) (ts : List T) (sv : Value) (h : JS w0 jb lb ob w l v) (hlen : l.length + ts.length ≤ 20000) (hf : Fits (.mk 32 x m p ts)) (ha : AT w0 (T.mk 32 x m p ts).subs sv) :
    Calls Tryz.prog 82 #[ptr jb, .agg #[.int .i64 32, .string ⟨x.toArray⟩, .int .i64 m, .int .i64 p, sv]] w (JR w0 jb lb ob l v w .expression (.mk 32 x m p ts)) := by
  have HJ := hide h
  have HF := hide hf
  have HA := hide ha
  have hjl := h.lt
  have HV : Hid (∀ b, v.ownBlock = some b → b < w.heap.size) := fun b hb => (h.room hb).2
  obtain ⟨a, n, c, rfl, hn, hc, hl⟩ := ha.any
  change ts.length = n at hl
  subst hl
  have HS : Hid (stepR .expression (.mk 32 x m p ts) = onlyIf (headB (.mk 32 x m p ts) 32 false 0 0) (zipR ts [])) := by rw [zipR_nil]; rfl
  cases h0 : ((T.mk 32 x m p ts).name.isEmpty && withinB (.mk 32 x m p ts) 0)
  · have HN : Hid (stepR .expression (.mk 32 x m p ts) = none) := HS.out.trans (onlyIf_no (by rw [head_unnamed (t := (.mk 32 x m p ts)) (k := 32) rfl, h0]; rfl))
    clear h hf ha
    go_enter Tryz.func82, Tryz.ntmps82
    go_wp2_with fail
    go_at_call 115
    refine (unnamed_any (.mk 32 x m p ts) _ 0 _ ⟨_, _, _, rfl⟩).mono ?_
    rintro e w1 ⟨rfl, hg1⟩
    rw [h0]
    have GW1 : Hid (w.grownBy w1 none) := gb_trans (gb_alloc (gb_refl w none) _) hg1
    have B1 := hide ((Box.new w (.mk 32 x m p ts) (.slice a ts.length c) 24).kept hg1)
    obtain ⟨b0_1, b1_1, b2_1, b3_1, b4_1⟩ := B1.out
    change _ = some (Value.int .i64 m) at b2_1
    change _ = some (Value.int .i64 32) at b0_1
    clear hg1
    go_wp2_with fail
    go_ret
    exact .inl ⟨HN.out, rfl, gb_trans HJ.out.gb (by repeat (first | with_reducible exact GW1.out | with_reducible refine gb_put ?_ (by omega) _ _ | with_reducible refine gb_alloc ?_ _ | with_reducible refine gb_drewN ?_ _ | with_reducible refine gb_drew ?_))⟩
  · skip
    clear h hf ha
    go_enter Tryz.func82, Tryz.ntmps82
    go_wp2_with fail
    go_at_call 115
    refine (unnamed_any (.mk 32 x m p ts) _ 0 _ ⟨_, _, _, rfl⟩).mono ?_
    rintro e w1 ⟨rfl, hg1⟩
    rw [h0]
    have GW1 : Hid (w.grownBy w1 none) := gb_trans (gb_alloc (gb_refl w none) _) hg1
    have B1 := hide ((Box.new w (.mk 32 x m p ts) (.slice a ts.length c) 24).kept hg1)
    obtain ⟨b0_1, b1_1, b2_1, b3_1, b4_1⟩ := B1.out
    change _ = some (Value.int .i64 m) at b2_1
    change _ = some (Value.int .i64 32) at b0_1
    clear hg1
    have hsz := GW1.out.size
    have hjw : jb < w1.heap.size := by omega
    go_wp2_with fail
    go_at_call 78
    refine (below_any w0 jb lb ob _ l v (.mk 32 x m p ts) _ [] _ (HJ.out.grown (by repeat (first | with_reducible exact GW1.out | with_reducible refine gb_put ?_ (by omega) _ _ | with_reducible refine gb_alloc ?_ _ | with_reducible refine gb_drewN ?_ _ | with_reducible refine gb_drew ?_))) hlen (by decide) HA.out (.inl ⟨rfl, rfl⟩)).mono ?_
    rintro e w2 (⟨hno, rfl, hg2⟩ | ⟨hyes, v2, rfl, j2, k2⟩)
    · go_wp2_with fail
      go_ret
      exact .inl ⟨HS.out.trans (onlyIf_no (by rw [head_unnamed (t := (.mk 32 x m p ts)) (k := 32) rfl, h0]; exact (Bool.true_and _).trans (len_no (n := 0) hno))), rfl, gb_trans HJ.out.gb (gb_trans (by repeat (first | with_reducible exact GW1.out | with_reducible refine gb_put ?_ (by omega) _ _ | with_reducible refine gb_alloc ?_ _ | with_reducible refine gb_drewN ?_ _ | with_reducible refine gb_drew ?_)) hg2)⟩
    have J2 := hide j2
    have K2 : Hid (JK jb v w w2 v2) := (JK.grown (by repeat (first | with_reducible exact GW1.out | with_reducible refine gb_put ?_ (by omega) _ _ | with_reducible refine gb_alloc ?_ _ | with_reducible refine gb_drewN ?_ _ | with_reducible refine gb_drew ?_))).trans k2
    clear j2 k2
    go_wp2_with fail
    go_ret
    exact .inr ⟨_, v2, HS.out.trans (onlyIf_yes (by rw [head_unnamed (t := (.mk 32 x m p ts)) (k := 32) rfl, h0]; exact (Bool.true_and _).trans (len_yes (n := 0) hyes))), rfl, J2.out, K2.out⟩
set_option maxRecDepth 1000000 in
set_option maxHeartbeats 2000000 in
theorem jexp33 (w0 : World) (jb lb ob : Nat) (w : World) (l : List (T × Rule)) (v : Value) (x : List UInt8) (m p : Int) (ts : List T) (sv : Value) (h : JS w0 jb lb ob w l v) (hlen : l.length + ts.length ≤ 20000) (hf : Fits (.mk 33 x m p ts)) (ha : AT w0 (T.mk 33 x m p ts).subs sv) :
    Calls Tryz.prog 82 #[ptr jb, .agg #[.int .i64 33, .string ⟨x.toArray⟩, .int .i64 m, .int .i64 p, sv]] w (JR w0 jb lb ob l v w .expression (.mk 33 x m p ts)) := by
  have HJ := hide h
  have HF := hide hf
  have HA := hide ha
  have hjl := h.lt
  have HV : Hid (∀ b, v.ownBlock = some b → b < w.heap.size) := fun b hb => (h.room hb).2
  obtain ⟨a, n, c, rfl, hn, hc, hl⟩ := ha.any
  change ts.length = n at hl
  subst hl
  have HS : Hid (stepR .expression (.mk 33 x m p ts) = onlyIf (headB (.mk 33 x m p ts) 33 false 0 (-1) && decide (0 < ts.length)) (firstR (.mk 33 x m p ts) .designator .expression)) := rfl
  cases h0 : ((T.mk 33 x m p ts).name.isEmpty && withinB (.mk 33 x m p ts) 0)
  · have HN : Hid (stepR .expression (.mk 33 x m p ts) = none) := HS.out.trans (onlyIf_no (by rw [head_unnamed (t := (.mk 33 x m p ts)) (k := 33) rfl, h0]; rfl))
    clear h hf ha
    go_enter Tryz.func82, Tryz.ntmps82
    go_wp2_with fail
    go_at_call 115
    refine (unnamed_any (.mk 33 x m p ts) _ 0 _ ⟨_, _, _, rfl⟩).mono ?_
    rintro e w1 ⟨rfl, hg1⟩
    rw [h0]
    have GW1 : Hid (w.grownBy w1 none) := gb_trans (gb_alloc (gb_refl w none) _) hg1
    have B1 := hide ((Box.new w (.mk 33 x m p ts) (.slice a ts.length c) 24).kept hg1)
    obtain ⟨b0_1, b1_1, b2_1, b3_1, b4_1⟩ := B1.out
    change _ = some (Value.int .i64 m) at b2_1
    change _ = some (Value.int .i64 33) at b0_1
    clear hg1
    go_wp2_with fail
    go_ret
    exact .inl ⟨HN.out, rfl, gb_trans HJ.out.gb (by repeat (first | with_reducible exact GW1.out | with_reducible refine gb_put ?_ (by omega) _ _ | with_reducible refine gb_alloc ?_ _ | with_reducible refine gb_drewN ?_ _ | with_reducible refine gb_drew ?_))⟩
  · skip
    clear h hf ha
    go_enter Tryz.func82, Tryz.ntmps82
    go_wp2_with fail
    go_at_call 115
    refine (unnamed_any (.mk 33 x m p ts) _ 0 _ ⟨_, _, _, rfl⟩).mono ?_
    rintro e w1 ⟨rfl, hg1⟩
    rw [h0]
    have GW1 : Hid (w.grownBy w1 none) := gb_trans (gb_alloc (gb_refl w none) _) hg1
    have B1 := hide ((Box.new w (.mk 33 x m p ts) (.slice a ts.length c) 24).kept hg1)
    obtain ⟨b0_1, b1_1, b2_1, b3_1, b4_1⟩ := B1.out
    change _ = some (Value.int .i64 m) at b2_1
    change _ = some (Value.int .i64 33) at b0_1
    clear hg1
    have hsz := GW1.out.size
    have hjw : jb < w1.heap.size := by omega
    go_wp2_with fail
    go_at_call 118
    refine (first_any w0 jb lb ob _ l v (.mk 33 x m p ts) _ .designator .expression _ _ (HJ.out.grown (by repeat (first | with_reducible exact GW1.out | with_reducible refine gb_put ?_ (by omega) _ _ | with_reducible refine gb_alloc ?_ _ | with_reducible refine gb_drewN ?_ _ | with_reducible refine gb_drew ?_))) hlen HA.out (.meth .designator _ rfl) (.meth .expression _ rfl)).mono ?_
    rintro e w2 (⟨hno, rfl, hg2⟩ | ⟨hyes, v2, rfl, j2, k2⟩)
    · go_wp2_with fail
      go_ret
      exact .inl ⟨HS.out.trans (onlyIf_no (by change ts = [] at hno; subst hno; simp)), rfl, gb_trans HJ.out.gb (gb_trans (by repeat (first | with_reducible exact GW1.out | with_reducible refine gb_put ?_ (by omega) _ _ | with_reducible refine gb_alloc ?_ _ | with_reducible refine gb_drewN ?_ _ | with_reducible refine gb_drew ?_)) hg2)⟩
    have J2 := hide j2
    have K2 : Hid (JK jb v w w2 v2) := (JK.grown (by repeat (first | with_reducible exact GW1.out | with_reducible refine gb_put ?_ (by omega) _ _ | with_reducible refine gb_alloc ?_ _ | with_reducible refine gb_drewN ?_ _ | with_reducible refine gb_drew ?_))).trans k2
    clear j2 k2
    go_wp2_with fail
    go_ret
    exact .inr ⟨_, v2, HS.out.trans (onlyIf_yes (by rw [head_unnamed (t := (.mk 33 x m p ts)) (k := 33) rfl, h0]; simpa [T.subs] using hyes)), rfl, J2.out, K2.out⟩
set_option maxRecDepth 1000000 in
set_option maxHeartbeats 2000000 in
theorem jexp34 (w0 : World) (jb lb ob : Nat) (w : World) (l : List (T × Rule)) (v : Value) (x : List UInt8) (m p : Int) (ts : List T) (sv : Value) (h : JS w0 jb lb ob w l v) (hlen : l.length + ts.length ≤ 20000) (hf : Fits (.mk 34 x m p ts)) (ha : AT w0 (T.mk 34 x m p ts).subs sv) :
    Calls Tryz.prog 82 #[ptr jb, .agg #[.int .i64 34, .string ⟨x.toArray⟩, .int .i64 m, .int .i64 p, sv]] w (JR w0 jb lb ob l v w .expression (.mk 34 x m p ts)) := by
  have HJ := hide h
  have HF := hide hf
  have HA := hide ha
  have hjl := h.lt
  have HV : Hid (∀ b, v.ownBlock = some b → b < w.heap.size) := fun b hb => (h.room hb).2
  obtain ⟨a, n, c, rfl, hn, hc, hl⟩ := ha.any
  change ts.length = n at hl
  subst hl
  have HS : Hid (stepR .expression (.mk 34 x m p ts) = onlyIf (headB (.mk 34 x m p ts) 34 false 0 1) (zipR ts [.expression])) := rfl
  cases h0 : ((T.mk 34 x m p ts).name.isEmpty && withinB (.mk 34 x m p ts) 0)
  · have HN : Hid (stepR .expression (.mk 34 x m p ts) = none) := HS.out.trans (onlyIf_no (by rw [head_unnamed (t := (.mk 34 x m p ts)) (k := 34) rfl, h0]; rfl))
    clear h hf ha
    go_enter Tryz.func82, Tryz.ntmps82
    go_wp2_with fail
    go_at_call 115
    refine (unnamed_any (.mk 34 x m p ts) _ 0 _ ⟨_, _, _, rfl⟩).mono ?_
    rintro e w1 ⟨rfl, hg1⟩
    rw [h0]
    have GW1 : Hid (w.grownBy w1 none) := gb_trans (gb_alloc (gb_refl w none) _) hg1
    have B1 := hide ((Box.new w (.mk 34 x m p ts) (.slice a ts.length c) 24).kept hg1)
    obtain ⟨b0_1, b1_1, b2_1, b3_1, b4_1⟩ := B1.out
    change _ = some (Value.int .i64 m) at b2_1
    change _ = some (Value.int .i64 34) at b0_1
    clear hg1
    go_wp2_with fail
    go_ret
    exact .inl ⟨HN.out, rfl, gb_trans HJ.out.gb (by repeat (first | with_reducible exact GW1.out | with_reducible refine gb_put ?_ (by omega) _ _ | with_reducible refine gb_alloc ?_ _ | with_reducible refine gb_drewN ?_ _ | with_reducible refine gb_drew ?_))⟩
  · skip
    clear h hf ha
    go_enter Tryz.func82, Tryz.ntmps82
    go_wp2_with fail
    go_at_call 115
    refine (unnamed_any (.mk 34 x m p ts) _ 0 _ ⟨_, _, _, rfl⟩).mono ?_
    rintro e w1 ⟨rfl, hg1⟩
    rw [h0]
    have GW1 : Hid (w.grownBy w1 none) := gb_trans (gb_alloc (gb_refl w none) _) hg1
    have B1 := hide ((Box.new w (.mk 34 x m p ts) (.slice a ts.length c) 24).kept hg1)
    obtain ⟨b0_1, b1_1, b2_1, b3_1, b4_1⟩ := B1.out
    change _ = some (Value.int .i64 m) at b2_1
    change _ = some (Value.int .i64 34) at b0_1
    clear hg1
    have hsz := GW1.out.size
    have hjw : jb < w1.heap.size := by omega
    go_wp2_with fail
    go_at_call 78
    refine (below_any w0 jb lb ob _ l v (.mk 34 x m p ts) _ [.expression] _ (HJ.out.grown (by repeat (first | with_reducible exact GW1.out | with_reducible refine gb_put ?_ (by omega) _ _ | with_reducible refine gb_alloc ?_ _ | with_reducible refine gb_drewN ?_ _ | with_reducible refine gb_drew ?_))) hlen (by decide) HA.out (RL.new1 _ _ (.meth .expression _ rfl) (by simpa using hjw) (fun b hb => by have := HV.out b hb; omega))).mono ?_
    rintro e w2 (⟨hno, rfl, hg2⟩ | ⟨hyes, v2, rfl, j2, k2⟩)
    · go_wp2_with fail
      go_ret
      exact .inl ⟨HS.out.trans (onlyIf_no (by rw [head_unnamed (t := (.mk 34 x m p ts)) (k := 34) rfl, h0]; exact (Bool.true_and _).trans (len_no (n := 1) hno))), rfl, gb_trans HJ.out.gb (gb_trans (by repeat (first | with_reducible exact GW1.out | with_reducible refine gb_put ?_ (by omega) _ _ | with_reducible refine gb_alloc ?_ _ | with_reducible refine gb_drewN ?_ _ | with_reducible refine gb_drew ?_)) hg2)⟩
    have J2 := hide j2
    have K2 : Hid (JK jb v w w2 v2) := (JK.grown (by repeat (first | with_reducible exact GW1.out | with_reducible refine gb_put ?_ (by omega) _ _ | with_reducible refine gb_alloc ?_ _ | with_reducible refine gb_drewN ?_ _ | with_reducible refine gb_drew ?_))).trans k2
    clear j2 k2
    go_wp2_with fail
    go_ret
    exact .inr ⟨_, v2, HS.out.trans (onlyIf_yes (by rw [head_unnamed (t := (.mk 34 x m p ts)) (k := 34) rfl, h0]; exact (Bool.true_and _).trans (len_yes (n := 1) hyes))), rfl, J2.out, K2.out⟩
set_option maxRecDepth 1000000 in
set_option maxHeartbeats 2000000 in
theorem jexp35 (w0 : World) (jb lb ob : Nat) (w : World) (l : List (T × Rule)) (v : Value) (x : List UInt8) (m p : Int) (ts : List T) (sv : Value) (h : JS w0 jb lb ob w l v) (hlen : l.length + ts.length ≤ 20000) (hf : Fits (.mk 35 x m p ts)) (ha : AT w0 (T.mk 35 x m p ts).subs sv) :
    Calls Tryz.prog 82 #[ptr jb, .agg #[.int .i64 35, .string ⟨x.toArray⟩, .int .i64 m, .int .i64 p, sv]] w (JR w0 jb lb ob l v w .expression (.mk 35 x m p ts)) := by
  have HJ := hide h
  have HF := hide hf
  have HA := hide ha
  have hjl := h.lt
  have HV : Hid (∀ b, v.ownBlock = some b → b < w.heap.size) := fun b hb => (h.room hb).2
  obtain ⟨a, n, c, rfl, hn, hc, hl⟩ := ha.any
  change ts.length = n at hl
  subst hl
  have HS : Hid (stepR .expression (.mk 35 x m p ts) = onlyIf (headB (.mk 35 x m p ts) 35 false 0 1) (zipR ts [.expression])) := rfl
  cases h0 : ((T.mk 35 x m p ts).name.isEmpty && withinB (.mk 35 x m p ts) 0)
  · have HN : Hid (stepR .expression (.mk 35 x m p ts) = none) := HS.out.trans (onlyIf_no (by rw [head_unnamed (t := (.mk 35 x m p ts)) (k := 35) rfl, h0]; rfl))
    clear h hf ha
    go_enter Tryz.func82, Tryz.ntmps82
    go_wp2_with fail
    go_at_call 115
    refine (unnamed_any (.mk 35 x m p ts) _ 0 _ ⟨_, _, _, rfl⟩).mono ?_
    rintro e w1 ⟨rfl, hg1⟩
    rw [h0]
    have GW1 : Hid (w.grownBy w1 none) := gb_trans (gb_alloc (gb_refl w none) _) hg1
    have B1 := hide ((Box.new w (.mk 35 x m p ts) (.slice a ts.length c) 24).kept hg1)
    obtain ⟨b0_1, b1_1, b2_1, b3_1, b4_1⟩ := B1.out
    change _ = some (Value.int .i64 m) at b2_1
    change _ = some (Value.int .i64 35) at b0_1
    clear hg1
    go_wp2_with fail
    go_ret
    exact .inl ⟨HN.out, rfl, gb_trans HJ.out.gb (by repeat (first | with_reducible exact GW1.out | with_reducible refine gb_put ?_ (by omega) _ _ | with_reducible refine gb_alloc ?_ _ | with_reducible refine gb_drewN ?_ _ | with_reducible refine gb_drew ?_))⟩
  · skip
    clear h hf ha
    go_enter Tryz.func82, Tryz.ntmps82
    go_wp2_with fail
    go_at_call 115
    refine (unnamed_any (.mk 35 x m p ts) _ 0 _ ⟨_, _, _, rfl⟩).mono ?_
    rintro e w1 ⟨rfl, hg1⟩
    rw [h0]
    have GW1 : Hid (w.grownBy w1 none) := gb_trans (gb_alloc (gb_refl w none) _) hg1
    have B1 := hide ((Box.new w (.mk 35 x m p ts) (.slice a ts.length c) 24).kept hg1)
    obtain ⟨b0_1, b1_1, b2_1, b3_1, b4_1⟩ := B1.out
    change _ = some (Value.int .i64 m) at b2_1
    change _ = some (Value.int .i64 35) at b0_1
    clear hg1
    have hsz := GW1.out.size
    have hjw : jb < w1.heap.size := by omega
    go_wp2_with fail
    go_at_call 78
    refine (below_any w0 jb lb ob _ l v (.mk 35 x m p ts) _ [.expression] _ (HJ.out.grown (by repeat (first | with_reducible exact GW1.out | with_reducible refine gb_put ?_ (by omega) _ _ | with_reducible refine gb_alloc ?_ _ | with_reducible refine gb_drewN ?_ _ | with_reducible refine gb_drew ?_))) hlen (by decide) HA.out (RL.new1 _ _ (.meth .expression _ rfl) (by simpa using hjw) (fun b hb => by have := HV.out b hb; omega))).mono ?_
    rintro e w2 (⟨hno, rfl, hg2⟩ | ⟨hyes, v2, rfl, j2, k2⟩)
    · go_wp2_with fail
      go_ret
      exact .inl ⟨HS.out.trans (onlyIf_no (by rw [head_unnamed (t := (.mk 35 x m p ts)) (k := 35) rfl, h0]; exact (Bool.true_and _).trans (len_no (n := 1) hno))), rfl, gb_trans HJ.out.gb (gb_trans (by repeat (first | with_reducible exact GW1.out | with_reducible refine gb_put ?_ (by omega) _ _ | with_reducible refine gb_alloc ?_ _ | with_reducible refine gb_drewN ?_ _ | with_reducible refine gb_drew ?_)) hg2)⟩
    have J2 := hide j2
    have K2 : Hid (JK jb v w w2 v2) := (JK.grown (by repeat (first | with_reducible exact GW1.out | with_reducible refine gb_put ?_ (by omega) _ _ | with_reducible refine gb_alloc ?_ _ | with_reducible refine gb_drewN ?_ _ | with_reducible refine gb_drew ?_))).trans k2
    clear j2 k2
    go_wp2_with fail
    go_ret
    exact .inr ⟨_, v2, HS.out.trans (onlyIf_yes (by rw [head_unnamed (t := (.mk 35 x m p ts)) (k := 35) rfl, h0]; exact (Bool.true_and _).trans (len_yes (n := 1) hyes))), rfl, J2.out, K2.out⟩
set_option maxRecDepth 1000000 in
set_option maxHeartbeats 2000000 in
theorem jexp37 (w0 : World) (jb lb ob : Nat) (w : World) (l : List (T × Rule)) (v : Value) (x : List UInt8) (m p : Int) (ts : List T) (sv : Value) (h : JS w0 jb lb ob w l v) (hlen : l.length + ts.length ≤ 20000) (hf : Fits (.mk 37 x m p ts)) (ha : AT w0 (T.mk 37 x m p ts).subs sv) :
    Calls Tryz.prog 82 #[ptr jb, .agg #[.int .i64 37, .string ⟨x.toArray⟩, .int .i64 m, .int .i64 p, sv]] w (JR w0 jb lb ob l v w .expression (.mk 37 x m p ts)) := by
  have HJ := hide h
  have HF := hide hf
  have HA := hide ha
  have hjl := h.lt
  have HV : Hid (∀ b, v.ownBlock = some b → b < w.heap.size) := fun b hb => (h.room hb).2
  obtain ⟨a, n, c, rfl, hn, hc, hl⟩ := ha.any
  change ts.length = n at hl
  subst hl
  have HS : Hid (stepR .expression (.mk 37 x m p ts) = onlyIf (headB (.mk 37 x m p ts) 37 false 0 2) (zipR ts [.expression, .typeName])) := rfl
  cases h0 : ((T.mk 37 x m p ts).name.isEmpty && withinB (.mk 37 x m p ts) 0)
  · have HN : Hid (stepR .expression (.mk 37 x m p ts) = none) := HS.out.trans (onlyIf_no (by rw [head_unnamed (t := (.mk 37 x m p ts)) (k := 37) rfl, h0]; rfl))
    clear h hf ha
    go_enter Tryz.func82, Tryz.ntmps82
    go_wp2_with fail
    go_at_call 115
    refine (unnamed_any (.mk 37 x m p ts) _ 0 _ ⟨_, _, _, rfl⟩).mono ?_
    rintro e w1 ⟨rfl, hg1⟩
    rw [h0]
    have GW1 : Hid (w.grownBy w1 none) := gb_trans (gb_alloc (gb_refl w none) _) hg1
    have B1 := hide ((Box.new w (.mk 37 x m p ts) (.slice a ts.length c) 24).kept hg1)
    obtain ⟨b0_1, b1_1, b2_1, b3_1, b4_1⟩ := B1.out
    change _ = some (Value.int .i64 m) at b2_1
    change _ = some (Value.int .i64 37) at b0_1
    clear hg1
    go_wp2_with fail
    go_ret
    exact .inl ⟨HN.out, rfl, gb_trans HJ.out.gb (by repeat (first | with_reducible exact GW1.out | with_reducible refine gb_put ?_ (by omega) _ _ | with_reducible refine gb_alloc ?_ _ | with_reducible refine gb_drewN ?_ _ | with_reducible refine gb_drew ?_))⟩
  · skip
    clear h hf ha
    go_enter Tryz.func82, Tryz.ntmps82
    go_wp2_with fail
    go_at_call 115
    refine (unnamed_any (.mk 37 x m p ts) _ 0 _ ⟨_, _, _, rfl⟩).mono ?_
    rintro e w1 ⟨rfl, hg1⟩
    rw [h0]
    have GW1 : Hid (w.grownBy w1 none) := gb_trans (gb_alloc (gb_refl w none) _) hg1
    have B1 := hide ((Box.new w (.mk 37 x m p ts) (.slice a ts.length c) 24).kept hg1)
    obtain ⟨b0_1, b1_1, b2_1, b3_1, b4_1⟩ := B1.out
    change _ = some (Value.int .i64 m) at b2_1
    change _ = some (Value.int .i64 37) at b0_1
    clear hg1
    have hsz := GW1.out.size
    have hjw : jb < w1.heap.size := by omega
    go_wp2_with fail
    go_at_call 78
    refine (below_any w0 jb lb ob _ l v (.mk 37 x m p ts) _ [.expression, .typeName] _ (HJ.out.grown (by repeat (first | with_reducible exact GW1.out | with_reducible refine gb_put ?_ (by omega) _ _ | with_reducible refine gb_alloc ?_ _ | with_reducible refine gb_drewN ?_ _ | with_reducible refine gb_drew ?_))) hlen (by decide) HA.out (RL.new2 _ _ (.meth .expression _ rfl) (.meth .typeName _ rfl) (by simpa using hjw) (fun b hb => by have := HV.out b hb; omega))).mono ?_
    rintro e w2 (⟨hno, rfl, hg2⟩ | ⟨hyes, v2, rfl, j2, k2⟩)
    · go_wp2_with fail
      go_ret
      exact .inl ⟨HS.out.trans (onlyIf_no (by rw [head_unnamed (t := (.mk 37 x m p ts)) (k := 37) rfl, h0]; exact (Bool.true_and _).trans (len_no (n := 2) hno))), rfl, gb_trans HJ.out.gb (gb_trans (by repeat (first | with_reducible exact GW1.out | with_reducible refine gb_put ?_ (by omega) _ _ | with_reducible refine gb_alloc ?_ _ | with_reducible refine gb_drewN ?_ _ | with_reducible refine gb_drew ?_)) hg2)⟩
    have J2 := hide j2
    have K2 : Hid (JK jb v w w2 v2) := (JK.grown (by repeat (first | with_reducible exact GW1.out | with_reducible refine gb_put ?_ (by omega) _ _ | with_reducible refine gb_alloc ?_ _ | with_reducible refine gb_drewN ?_ _ | with_reducible refine gb_drew ?_))).trans k2
    clear j2 k2
    go_wp2_with fail
    go_ret
    exact .inr ⟨_, v2, HS.out.trans (onlyIf_yes (by rw [head_unnamed (t := (.mk 37 x m p ts)) (k := 37) rfl, h0]; exact (Bool.true_and _).trans (len_yes (n := 2) hyes))), rfl, J2.out, K2.out⟩
set_option maxRecDepth 1000000 in
set_option maxHeartbeats 2000000 in
theorem jty9 (w0 : World) (jb lb ob : Nat) (w : World) (l : List (T × Rule)) (v : Value) (x : List UInt8) (m p : Int) (ts : List T) (sv : Value) (h : JS w0 jb lb ob w l v) (hlen : l.length + ts.length ≤ 20000) (hf : Fits (.mk 9 x m p ts)) (ha : AT w0 (T.mk 9 x m p ts).subs sv) :
    Calls Tryz.prog 83 #[ptr jb, .agg #[.int .i64 9, .string ⟨x.toArray⟩, .int .i64 m, .int .i64 p, sv]] w (JR w0 jb lb ob l v w .typeItself (.mk 9 x m p ts)) := by
  have HJ := hide h
  have HF := hide hf
  have HA := hide ha
  have hjl := h.lt
  have HV : Hid (∀ b, v.ownBlock = some b → b < w.heap.size) := fun b hb => (h.room hb).2
  obtain ⟨a, n, c, rfl, hn, hc, hl⟩ := ha.any
  change ts.length = n at hl
  subst hl
  have HS : Hid (stepR .typeItself (.mk 9 x m p ts) = onlyIf (headB (.mk 9 x m p ts) 9 false maxNum 1) (zipR ts [.typeName])) := rfl
  cases h0 : ((T.mk 9 x m p ts).name.isEmpty && withinB (.mk 9 x m p ts) maxNum)
  · have HN : Hid (stepR .typeItself (.mk 9 x m p ts) = none) := HS.out.trans (onlyIf_no (by rw [head_unnamed (t := (.mk 9 x m p ts)) (k := 9) rfl, h0]; rfl))
    clear h hf ha
    go_enter Tryz.func83, Tryz.ntmps83
    go_wp2_with fail
    go_at_call 115
    refine (unnamed_any (.mk 9 x m p ts) _ maxNum _ ⟨_, _, _, rfl⟩).mono ?_
    rintro e w1 ⟨rfl, hg1⟩
    rw [h0]
    have GW1 : Hid (w.grownBy w1 none) := gb_trans (gb_alloc (gb_refl w none) _) hg1
    have B1 := hide ((Box.new w (.mk 9 x m p ts) (.slice a ts.length c) 24).kept hg1)
    obtain ⟨b0_1, b1_1, b2_1, b3_1, b4_1⟩ := B1.out
    change _ = some (Value.int .i64 m) at b2_1
    change _ = some (Value.int .i64 9) at b0_1
    clear hg1
    go_wp2_with fail
    go_ret
    exact .inl ⟨HN.out, rfl, gb_trans HJ.out.gb (by repeat (first | with_reducible exact GW1.out | with_reducible refine gb_put ?_ (by omega) _ _ | with_reducible refine gb_alloc ?_ _ | with_reducible refine gb_drewN ?_ _ | with_reducible refine gb_drew ?_))⟩
  · skip
    clear h hf ha
    go_enter Tryz.func83, Tryz.ntmps83
    go_wp2_with fail
    go_at_call 115
    refine (unnamed_any (.mk 9 x m p ts) _ maxNum _ ⟨_, _, _, rfl⟩).mono ?_
    rintro e w1 ⟨rfl, hg1⟩
    rw [h0]
    have GW1 : Hid (w.grownBy w1 none) := gb_trans (gb_alloc (gb_refl w none) _) hg1
    have B1 := hide ((Box.new w (.mk 9 x m p ts) (.slice a ts.length c) 24).kept hg1)
    obtain ⟨b0_1, b1_1, b2_1, b3_1, b4_1⟩ := B1.out
    change _ = some (Value.int .i64 m) at b2_1
    change _ = some (Value.int .i64 9) at b0_1
    clear hg1
    have hsz := GW1.out.size
    have hjw : jb < w1.heap.size := by omega
    go_wp2_with fail
    go_at_call 78
    refine (below_any w0 jb lb ob _ l v (.mk 9 x m p ts) _ [.typeName] _ (HJ.out.grown (by repeat (first | with_reducible exact GW1.out | with_reducible refine gb_put ?_ (by omega) _ _ | with_reducible refine gb_alloc ?_ _ | with_reducible refine gb_drewN ?_ _ | with_reducible refine gb_drew ?_))) hlen (by decide) HA.out (RL.new1 _ _ (.meth .typeName _ rfl) (by simpa using hjw) (fun b hb => by have := HV.out b hb; omega))).mono ?_
    rintro e w2 (⟨hno, rfl, hg2⟩ | ⟨hyes, v2, rfl, j2, k2⟩)
    · go_wp2_with fail
      go_ret
      exact .inl ⟨HS.out.trans (onlyIf_no (by rw [head_unnamed (t := (.mk 9 x m p ts)) (k := 9) rfl, h0]; exact (Bool.true_and _).trans (len_no (n := 1) hno))), rfl, gb_trans HJ.out.gb (gb_trans (by repeat (first | with_reducible exact GW1.out | with_reducible refine gb_put ?_ (by omega) _ _ | with_reducible refine gb_alloc ?_ _ | with_reducible refine gb_drewN ?_ _ | with_reducible refine gb_drew ?_)) hg2)⟩
    have J2 := hide j2
    have K2 : Hid (JK jb v w w2 v2) := (JK.grown (by repeat (first | with_reducible exact GW1.out | with_reducible refine gb_put ?_ (by omega) _ _ | with_reducible refine gb_alloc ?_ _ | with_reducible refine gb_drewN ?_ _ | with_reducible refine gb_drew ?_))).trans k2
    clear j2 k2
    go_wp2_with fail
    go_ret
    exact .inr ⟨_, v2, HS.out.trans (onlyIf_yes (by rw [head_unnamed (t := (.mk 9 x m p ts)) (k := 9) rfl, h0]; exact (Bool.true_and _).trans (len_yes (n := 1) hyes))), rfl, J2.out, K2.out⟩
set_option maxRecDepth 1000000 in
set_option maxHeartbeats 2000000 in
theorem jty12 (w0 : World) (jb lb ob : Nat) (w : World) (l : List (T × Rule)) (v : Value) (x : List UInt8) (m p : Int) (ts : List T) (sv : Value) (h : JS w0 jb lb ob w l v) (hlen : l.length + ts.length ≤ 20000) (hf : Fits (.mk 12 x m p ts)) (ha : AT w0 (T.mk 12 x m p ts).subs sv) :
    Calls Tryz.prog 83 #[ptr jb, .agg #[.int .i64 12, .string ⟨x.toArray⟩, .int .i64 m, .int .i64 p, sv]] w (JR w0 jb lb ob l v w .typeItself (.mk 12 x m p ts)) := by
  have HJ := hide h
  have HF := hide hf
  have HA := hide ha
  have hjl := h.lt
  have HV : Hid (∀ b, v.ownBlock = some b → b < w.heap.size) := fun b hb => (h.room hb).2
  obtain ⟨a, n, c, rfl, hn, hc, hl⟩ := ha.any
  change ts.length = n at hl
  subst hl
  have HS : Hid (stepR .typeItself (.mk 12 x m p ts) = onlyIf (headB (.mk 12 x m p ts) 12 false 0 1) (zipR ts [.typeName])) := rfl
  cases h0 : ((T.mk 12 x m p ts).name.isEmpty && withinB (.mk 12 x m p ts) 0)
  · have HN : Hid (stepR .typeItself (.mk 12 x m p ts) = none) := HS.out.trans (onlyIf_no (by rw [head_unnamed (t := (.mk 12 x m p ts)) (k := 12) rfl, h0]; rfl))
    clear h hf ha
    go_enter Tryz.func83, Tryz.ntmps83
    go_wp2_with fail
    go_at_call 115
    refine (unnamed_any (.mk 12 x m p ts) _ 0 _ ⟨_, _, _, rfl⟩).mono ?_
    rintro e w1 ⟨rfl, hg1⟩
    rw [h0]
    have GW1 : Hid (w.grownBy w1 none) := gb_trans (gb_alloc (gb_refl w none) _) hg1
    have B1 := hide ((Box.new w (.mk 12 x m p ts) (.slice a ts.length c) 24).kept hg1)
    obtain ⟨b0_1, b1_1, b2_1, b3_1, b4_1⟩ := B1.out
    change _ = some (Value.int .i64 m) at b2_1
    change _ = some (Value.int .i64 12) at b0_1
    clear hg1
    go_wp2_with fail
    go_ret
    exact .inl ⟨HN.out, rfl, gb_trans HJ.out.gb (by repeat (first | with_reducible exact GW1.out | with_reducible refine gb_put ?_ (by omega) _ _ | with_reducible refine gb_alloc ?_ _ | with_reducible refine gb_drewN ?_ _ | with_reducible refine gb_drew ?_))⟩
  · skip
    clear h hf ha
    go_enter Tryz.func83, Tryz.ntmps83
    go_wp2_with fail
    go_at_call 115
    refine (unnamed_any (.mk 12 x m p ts) _ 0 _ ⟨_, _, _, rfl⟩).mono ?_
    rintro e w1 ⟨rfl, hg1⟩
    rw [h0]
    have GW1 : Hid (w.grownBy w1 none) := gb_trans (gb_alloc (gb_refl w none) _) hg1
    have B1 := hide ((Box.new w (.mk 12 x m p ts) (.slice a ts.length c) 24).kept hg1)
    obtain ⟨b0_1, b1_1, b2_1, b3_1, b4_1⟩ := B1.out
    change _ = some (Value.int .i64 m) at b2_1
    change _ = some (Value.int .i64 12) at b0_1
    clear hg1
    have hsz := GW1.out.size
    have hjw : jb < w1.heap.size := by omega
    go_wp2_with fail
    go_at_call 78
    refine (below_any w0 jb lb ob _ l v (.mk 12 x m p ts) _ [.typeName] _ (HJ.out.grown (by repeat (first | with_reducible exact GW1.out | with_reducible refine gb_put ?_ (by omega) _ _ | with_reducible refine gb_alloc ?_ _ | with_reducible refine gb_drewN ?_ _ | with_reducible refine gb_drew ?_))) hlen (by decide) HA.out (RL.new1 _ _ (.meth .typeName _ rfl) (by simpa using hjw) (fun b hb => by have := HV.out b hb; omega))).mono ?_
    rintro e w2 (⟨hno, rfl, hg2⟩ | ⟨hyes, v2, rfl, j2, k2⟩)
    · go_wp2_with fail
      go_ret
      exact .inl ⟨HS.out.trans (onlyIf_no (by rw [head_unnamed (t := (.mk 12 x m p ts)) (k := 12) rfl, h0]; exact (Bool.true_and _).trans (len_no (n := 1) hno))), rfl, gb_trans HJ.out.gb (gb_trans (by repeat (first | with_reducible exact GW1.out | with_reducible refine gb_put ?_ (by omega) _ _ | with_reducible refine gb_alloc ?_ _ | with_reducible refine gb_drewN ?_ _ | with_reducible refine gb_drew ?_)) hg2)⟩
    have J2 := hide j2
    have K2 : Hid (JK jb v w w2 v2) := (JK.grown (by repeat (first | with_reducible exact GW1.out | with_reducible refine gb_put ?_ (by omega) _ _ | with_reducible refine gb_alloc ?_ _ | with_reducible refine gb_drewN ?_ _ | with_reducible refine gb_drew ?_))).trans k2
    clear j2 k2
    go_wp2_with fail
    go_ret
    exact .inr ⟨_, v2, HS.out.trans (onlyIf_yes (by rw [head_unnamed (t := (.mk 12 x m p ts)) (k := 12) rfl, h0]; exact (Bool.true_and _).trans (len_yes (n := 1) hyes))), rfl, J2.out, K2.out⟩
set_option maxRecDepth 1000000 in
set_option maxHeartbeats 2000000 in
theorem jnn0 (w0 : World) (jb lb ob : Nat) (w : World) (l : List (T × Rule)) (v : Value) (x : List UInt8) (m p : Int) (ts : List T) (sv : Value) (h : JS w0 jb lb ob w l v) (hlen : l.length + ts.length ≤ 20000) (hf : Fits (.mk 0 x m p ts)) (ha : AT w0 (T.mk 0 x m p ts).subs sv) :
    Calls Tryz.prog 120 #[ptr jb, .agg #[.int .i64 0, .string ⟨x.toArray⟩, .int .i64 m, .int .i64 p, sv]] w (JR w0 jb lb ob l v w .typeNameOrNone (.mk 0 x m p ts)) := by
  have HJ := hide h
  have HF := hide hf
  have HA := hide ha
  have hjl := h.lt
  have HV : Hid (∀ b, v.ownBlock = some b → b < w.heap.size) := fun b hb => (h.room hb).2
  obtain ⟨a, n, c, rfl, hn, hc, hl⟩ := ha.any
  change ts.length = n at hl
  subst hl
  have HS : Hid (stepR .typeNameOrNone (.mk 0 x m p ts) = onlyIf (headB (.mk 0 x m p ts) 0 false 0 0) (zipR ts [])) := by rw [zipR_nil]; rfl
  cases h0 : ((T.mk 0 x m p ts).name.isEmpty && withinB (.mk 0 x m p ts) 0)
  · have HN : Hid (stepR .typeNameOrNone (.mk 0 x m p ts) = none) := HS.out.trans (onlyIf_no (by rw [head_unnamed (t := (.mk 0 x m p ts)) (k := 0) rfl, h0]; rfl))
    clear h hf ha
    go_enter Tryz.func120, Tryz.ntmps120
    go_wp2_with fail
    go_at_call 115
    refine (unnamed_any (.mk 0 x m p ts) _ 0 _ ⟨_, _, _, rfl⟩).mono ?_
    rintro e w1 ⟨rfl, hg1⟩
    rw [h0]
    have GW1 : Hid (w.grownBy w1 none) := gb_trans (gb_alloc (gb_refl w none) _) hg1
    have B1 := hide ((Box.new w (.mk 0 x m p ts) (.slice a ts.length c) 24).kept hg1)
    obtain ⟨b0_1, b1_1, b2_1, b3_1, b4_1⟩ := B1.out
    change _ = some (Value.int .i64 m) at b2_1
    change _ = some (Value.int .i64 0) at b0_1
    clear hg1
    go_wp2_with fail
    go_ret
    exact .inl ⟨HN.out, rfl, gb_trans HJ.out.gb (by repeat (first | with_reducible exact GW1.out | with_reducible refine gb_put ?_ (by omega) _ _ | with_reducible refine gb_alloc ?_ _ | with_reducible refine gb_drewN ?_ _ | with_reducible refine gb_drew ?_))⟩
  · skip
    clear h hf ha
    go_enter Tryz.func120, Tryz.ntmps120
    go_wp2_with fail
    go_at_call 115
    refine (unnamed_any (.mk 0 x m p ts) _ 0 _ ⟨_, _, _, rfl⟩).mono ?_
    rintro e w1 ⟨rfl, hg1⟩
    rw [h0]
    have GW1 : Hid (w.grownBy w1 none) := gb_trans (gb_alloc (gb_refl w none) _) hg1
    have B1 := hide ((Box.new w (.mk 0 x m p ts) (.slice a ts.length c) 24).kept hg1)
    obtain ⟨b0_1, b1_1, b2_1, b3_1, b4_1⟩ := B1.out
    change _ = some (Value.int .i64 m) at b2_1
    change _ = some (Value.int .i64 0) at b0_1
    clear hg1
    have hsz := GW1.out.size
    have hjw : jb < w1.heap.size := by omega
    go_wp2_with fail
    go_at_call 78
    refine (below_any w0 jb lb ob _ l v (.mk 0 x m p ts) _ [] _ (HJ.out.grown (by repeat (first | with_reducible exact GW1.out | with_reducible refine gb_put ?_ (by omega) _ _ | with_reducible refine gb_alloc ?_ _ | with_reducible refine gb_drewN ?_ _ | with_reducible refine gb_drew ?_))) hlen (by decide) HA.out (.inl ⟨rfl, rfl⟩)).mono ?_
    rintro e w2 (⟨hno, rfl, hg2⟩ | ⟨hyes, v2, rfl, j2, k2⟩)
    · go_wp2_with fail
      go_ret
      exact .inl ⟨HS.out.trans (onlyIf_no (by rw [head_unnamed (t := (.mk 0 x m p ts)) (k := 0) rfl, h0]; exact (Bool.true_and _).trans (len_no (n := 0) hno))), rfl, gb_trans HJ.out.gb (gb_trans (by repeat (first | with_reducible exact GW1.out | with_reducible refine gb_put ?_ (by omega) _ _ | with_reducible refine gb_alloc ?_ _ | with_reducible refine gb_drewN ?_ _ | with_reducible refine gb_drew ?_)) hg2)⟩
    have J2 := hide j2
    have K2 : Hid (JK jb v w w2 v2) := (JK.grown (by repeat (first | with_reducible exact GW1.out | with_reducible refine gb_put ?_ (by omega) _ _ | with_reducible refine gb_alloc ?_ _ | with_reducible refine gb_drewN ?_ _ | with_reducible refine gb_drew ?_))).trans k2
    clear j2 k2
    go_wp2_with fail
    go_ret
    exact .inr ⟨_, v2, HS.out.trans (onlyIf_yes (by rw [head_unnamed (t := (.mk 0 x m p ts)) (k := 0) rfl, h0]; exact (Bool.true_and _).trans (len_yes (n := 0) hyes))), rfl, J2.out, K2.out⟩
end Go.Proofs.YtlkokcnbbihljaaGreatDoor
