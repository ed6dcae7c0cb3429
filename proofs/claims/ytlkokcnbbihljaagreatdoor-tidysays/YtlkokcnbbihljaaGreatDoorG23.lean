/- The program's judge of shapes: every node by the rules of names, types, designators, expressions. -/
import Derived.Test.YtlkokcnbbihljaaGreatDoorG20
import Derived.Test.YtlkokcnbbihljaaGreatDoorG22
namespace Go.Proofs.YtlkokcnbbihljaaGreatDoor
open Go.RowKit Go.Maps Go.WideMaps Go.WideElems

theorem JR.up {w0 : World} {jb lb ob : Nat} {l : List (T × Rule)} {v : Value} {w w1 : World} {r q : Rule} {t : T} {e : Ending} {w' : World} (h : JR w0 jb lb ob l v w1 r t e w') (hg : w.grownBy w1 none) (hs : stepR q t = stepR r t) : JR w0 jb lb ob l v w q t e w' := by
  rcases h with ⟨h1, h2, h3⟩ | ⟨m, v', h1, h2, h3, h4⟩
  · exact .inl ⟨hs.trans h1, h2, h3⟩
  · exact .inr ⟨m, v', hs.trans h1, h2, h3, (JK.grown hg).trans h4⟩
theorem JR.ret {w0 : World} {jb lb ob : Nat} {l : List (T × Rule)} {v : Value} {w : World} {r : Rule} {t : T} {e : Ending} {w' : World} (h : JR w0 jb lb ob l v w r t e w') : ∃ b : Bool, e = .returned (.bool b) ∧ JR w0 jb lb ob l v w r t (.returned (.bool b)) w' := by
  rcases id h with ⟨_, rfl, _⟩ | ⟨_, _, _, rfl, _⟩
  · exact ⟨_, rfl, h⟩
  · exact ⟨_, rfl, h⟩
/-- What a rule says of a node, told by a function. -/
def RuleSays (f : Nat) (r : Rule) : Prop := ∀ (w0 : World) (jb lb ob : Nat) (w : World) (l : List (T × Rule)) (v : Value) (t : T) (sv : Value), JS w0 jb lb ob w l v → l.length + t.subs.length ≤ 20000 → Fits t → AT w0 t.subs sv → Calls Tryz.prog f #[ptr jb, nodeV t sv] w (JR w0 jb lb ob l v w r t)
set_option maxRecDepth 1000000 in
set_option maxHeartbeats 2000000 in
theorem jimpE (w0 : World) (jb lb ob : Nat) (w : World) (l : List (T × Rule)) (v : Value) (kd : Int) (x : List UInt8) (m p : Int) (ts : List T) (sv : Value) (h : JS w0 jb lb ob w l v) (_hlen : l.length + ts.length ≤ 20000) (hf : Fits (.mk kd x m p ts)) (ha : AT w0 (T.mk kd x m p ts).subs sv) (h3 : ¬ kd = 3) :
    Calls Tryz.prog 80 #[ptr jb, .agg #[.int .i64 kd, .string ⟨x.toArray⟩, .int .i64 m, .int .i64 p, sv]] w (JR w0 jb lb ob l v w .imported (.mk kd x m p ts)) := by
  have HJ := hide h
  have HF := hide hf
  have HA := hide ha
  have hjl := h.lt
  have HV : Hid (∀ b, v.ownBlock = some b → b < w.heap.size) := fun b hb => (h.room hb).2
  obtain ⟨a, n, c, rfl, hn, hc, hl⟩ := ha.any
  change ts.length = n at hl
  subst hl
  have HN : Hid (stepR .imported (.mk kd x m p ts) = none) := by show _ = _; rw [show stepR .imported (.mk kd x m p ts) = onlyIf _ _ from rfl]; exact onlyIf_no (by simp [headB, T.kind, h3])
  clear h hf ha
  go_enter Tryz.func80, Tryz.ntmps80
  go_wp2_with fail
  go_ret
  exact .inl ⟨HN.out, rfl, gb_trans HJ.out.gb (gb_alloc (gb_refl w none) _)⟩
theorem imported_says : RuleSays 80 .imported := by
  intro w0 jb lb ob w l v t sv h hlen hf ha
  obtain ⟨kd, x, m, p, ts⟩ := t
  change l.length + ts.length ≤ 20000 at hlen
  by_cases h3 : kd = 3
  · subst h3; exact jimp3 w0 jb lb ob w l v x m p ts sv h hlen hf ha
  exact jimpE w0 jb lb ob w l v kd x m p ts sv h hlen hf ha h3
set_option maxRecDepth 1000000 in
set_option maxHeartbeats 2000000 in
theorem jrefE (w0 : World) (jb lb ob : Nat) (w : World) (l : List (T × Rule)) (v : Value) (kd : Int) (x : List UInt8) (m p : Int) (ts : List T) (sv : Value) (h : JS w0 jb lb ob w l v) (_hlen : l.length + ts.length ≤ 20000) (hf : Fits (.mk kd x m p ts)) (ha : AT w0 (T.mk kd x m p ts).subs sv) (h24 : ¬ kd = 24) :
    Calls Tryz.prog 121 #[ptr jb, .agg #[.int .i64 kd, .string ⟨x.toArray⟩, .int .i64 m, .int .i64 p, sv]] w (JR w0 jb lb ob l v w .ref (.mk kd x m p ts)) := by
  have HJ := hide h
  have HF := hide hf
  have HA := hide ha
  have hjl := h.lt
  have HV : Hid (∀ b, v.ownBlock = some b → b < w.heap.size) := fun b hb => (h.room hb).2
  obtain ⟨a, n, c, rfl, hn, hc, hl⟩ := ha.any
  change ts.length = n at hl
  subst hl
  have HN : Hid (stepR .ref (.mk kd x m p ts) = none) := by show _ = _; rw [show stepR .ref (.mk kd x m p ts) = onlyIf _ _ from rfl]; exact onlyIf_no (by simp [headB, T.kind, h24])
  clear h hf ha
  go_enter Tryz.func121, Tryz.ntmps121
  go_wp2_with fail
  go_ret
  exact .inl ⟨HN.out, rfl, gb_trans HJ.out.gb (gb_alloc (gb_refl w none) _)⟩
theorem ref_says : RuleSays 121 .ref := by
  intro w0 jb lb ob w l v t sv h hlen hf ha
  obtain ⟨kd, x, m, p, ts⟩ := t
  change l.length + ts.length ≤ 20000 at hlen
  by_cases h24 : kd = 24
  · subst h24; exact jref24 w0 jb lb ob w l v x m p ts sv h hlen hf ha
  exact jrefE w0 jb lb ob w l v kd x m p ts sv h hlen hf ha h24
set_option maxRecDepth 1000000 in
set_option maxHeartbeats 2000000 in
theorem jtnE (w0 : World) (jb lb ob : Nat) (w : World) (l : List (T × Rule)) (v : Value) (kd : Int) (x : List UInt8) (m p : Int) (ts : List T) (sv : Value) (h : JS w0 jb lb ob w l v) (_hlen : l.length + ts.length ≤ 20000) (hf : Fits (.mk kd x m p ts)) (ha : AT w0 (T.mk kd x m p ts).subs sv) (h13 : ¬ kd = 13) :
    Calls Tryz.prog 84 #[ptr jb, .agg #[.int .i64 kd, .string ⟨x.toArray⟩, .int .i64 m, .int .i64 p, sv]] w (JR w0 jb lb ob l v w .typeName (.mk kd x m p ts)) := by
  have HJ := hide h
  have HF := hide hf
  have HA := hide ha
  have hjl := h.lt
  have HV : Hid (∀ b, v.ownBlock = some b → b < w.heap.size) := fun b hb => (h.room hb).2
  obtain ⟨a, n, c, rfl, hn, hc, hl⟩ := ha.any
  change ts.length = n at hl
  subst hl
  have HN : Hid (stepR .typeName (.mk kd x m p ts) = none) := by show _ = _; rw [show stepR .typeName (.mk kd x m p ts) = onlyIf (headB (.mk kd x m p ts) 13 true 0 (-1) && decide (ts.length ≤ 1)) (eachR ts .ref) from rfl]; exact onlyIf_no (by simp [headB, T.kind, h13])
  clear h hf ha
  go_enter Tryz.func84, Tryz.ntmps84
  go_wp2_with fail
  go_ret
  exact .inl ⟨HN.out, rfl, gb_trans HJ.out.gb (gb_alloc (gb_refl w none) _)⟩
theorem typeName_says : RuleSays 84 .typeName := by
  intro w0 jb lb ob w l v t sv h hlen hf ha
  obtain ⟨kd, x, m, p, ts⟩ := t
  change l.length + ts.length ≤ 20000 at hlen
  by_cases h13 : kd = 13
  · subst h13; exact jtn13 w0 jb lb ob w l v x m p ts sv h hlen hf ha
  exact jtnE w0 jb lb ob w l v kd x m p ts sv h hlen hf ha h13
set_option maxRecDepth 1000000 in
set_option maxHeartbeats 2000000 in
theorem jnnE (w0 : World) (jb lb ob : Nat) (w : World) (l : List (T × Rule)) (v : Value) (kd : Int) (x : List UInt8) (m p : Int) (ts : List T) (sv : Value) (h : JS w0 jb lb ob w l v) (hlen : l.length + ts.length ≤ 20000) (hf : Fits (.mk kd x m p ts)) (ha : AT w0 (T.mk kd x m p ts).subs sv) (h0 : ¬ kd = 0) :
    Calls Tryz.prog 120 #[ptr jb, .agg #[.int .i64 kd, .string ⟨x.toArray⟩, .int .i64 m, .int .i64 p, sv]] w (JR w0 jb lb ob l v w .typeNameOrNone (.mk kd x m p ts)) := by
  have HJ := hide h
  have HF := hide hf
  have HA := hide ha
  have hjl := h.lt
  have HV : Hid (∀ b, v.ownBlock = some b → b < w.heap.size) := fun b hb => (h.room hb).2
  obtain ⟨a, n, c, rfl, hn, hc, hl⟩ := ha.any
  change ts.length = n at hl
  subst hl
  have HE : Hid (stepR .typeNameOrNone (.mk kd x m p ts) = stepR .typeName (.mk kd x m p ts)) := by show _ = _; simp [stepR, T.kind, h0]
  clear h hf ha
  go_enter Tryz.func120, Tryz.ntmps120
  go_wp2_with fail
  go_at_call 84
  refine (typeName_says w0 jb lb ob _ l v (.mk kd x m p ts) _ (HJ.out.grown (by repeat (first | with_reducible exact gb_refl w none | with_reducible refine gb_put ?_ (by omega) _ _ | with_reducible refine gb_alloc ?_ _ | with_reducible refine gb_drewN ?_ _ | with_reducible refine gb_drew ?_))) hlen HF.out HA.out).mono ?_
  intro e w1 hr
  obtain ⟨b, rfl, hr⟩ := hr.ret
  have H1 : Hid (JR w0 jb lb ob l v w .typeNameOrNone (.mk kd x m p ts) (.returned (.bool b)) w1) := hr.up (gb_alloc (gb_refl w none) _) HE.out
  clear hr
  go_wp2_with fail
  go_ret
  exact H1.out
theorem typeNameOrNone_says : RuleSays 120 .typeNameOrNone := by
  intro w0 jb lb ob w l v t sv h hlen hf ha
  obtain ⟨kd, x, m, p, ts⟩ := t
  change l.length + ts.length ≤ 20000 at hlen
  by_cases h0 : kd = 0
  · subst h0; exact jnn0 w0 jb lb ob w l v x m p ts sv h hlen hf ha
  exact jnnE w0 jb lb ob w l v kd x m p ts sv h hlen hf ha h0
set_option maxRecDepth 1000000 in
set_option maxHeartbeats 2000000 in
theorem jtyE (w0 : World) (jb lb ob : Nat) (w : World) (l : List (T × Rule)) (v : Value) (kd : Int) (x : List UInt8) (m p : Int) (ts : List T) (sv : Value) (h : JS w0 jb lb ob w l v) (_hlen : l.length + ts.length ≤ 20000) (hf : Fits (.mk kd x m p ts)) (ha : AT w0 (T.mk kd x m p ts).subs sv) (h9 : ¬ kd = 9) (h10 : ¬ kd = 10) (h12 : ¬ kd = 12) :
    Calls Tryz.prog 83 #[ptr jb, .agg #[.int .i64 kd, .string ⟨x.toArray⟩, .int .i64 m, .int .i64 p, sv]] w (JR w0 jb lb ob l v w .typeItself (.mk kd x m p ts)) := by
  have HJ := hide h
  have HF := hide hf
  have HA := hide ha
  have hjl := h.lt
  have HV : Hid (∀ b, v.ownBlock = some b → b < w.heap.size) := fun b hb => (h.room hb).2
  obtain ⟨a, n, c, rfl, hn, hc, hl⟩ := ha.any
  change ts.length = n at hl
  subst hl
  have HN : Hid (stepR .typeItself (.mk kd x m p ts) = none) := by show _ = _; simp [stepR, T.kind, h9, h10, h12]
  clear h hf ha
  go_enter Tryz.func83, Tryz.ntmps83
  go_wp2_with fail
  go_ret
  exact .inl ⟨HN.out, rfl, gb_trans HJ.out.gb (gb_alloc (gb_refl w none) _)⟩
theorem typeItself_says : RuleSays 83 .typeItself := by
  intro w0 jb lb ob w l v t sv h hlen hf ha
  obtain ⟨kd, x, m, p, ts⟩ := t
  change l.length + ts.length ≤ 20000 at hlen
  by_cases h9 : kd = 9
  · subst h9; exact jty9 w0 jb lb ob w l v x m p ts sv h hlen hf ha
  by_cases h10 : kd = 10
  · subst h10; exact jty10 w0 jb lb ob w l v x m p ts sv h hlen hf ha
  by_cases h12 : kd = 12
  · subst h12; exact jty12 w0 jb lb ob w l v x m p ts sv h hlen hf ha
  exact jtyE w0 jb lb ob w l v kd x m p ts sv h hlen hf ha h9 h10 h12
set_option maxRecDepth 1000000 in
set_option maxHeartbeats 2000000 in
theorem jdes24 (w0 : World) (jb lb ob : Nat) (w : World) (l : List (T × Rule)) (v : Value) (x : List UInt8) (m p : Int) (ts : List T) (sv : Value) (h : JS w0 jb lb ob w l v) (hlen : l.length + ts.length ≤ 20000) (hf : Fits (.mk 24 x m p ts)) (ha : AT w0 (T.mk 24 x m p ts).subs sv) :
    Calls Tryz.prog 119 #[ptr jb, .agg #[.int .i64 24, .string ⟨x.toArray⟩, .int .i64 m, .int .i64 p, sv]] w (JR w0 jb lb ob l v w .designator (.mk 24 x m p ts)) := by
  have HJ := hide h
  have HF := hide hf
  have HA := hide ha
  have hjl := h.lt
  have HV : Hid (∀ b, v.ownBlock = some b → b < w.heap.size) := fun b hb => (h.room hb).2
  obtain ⟨a, n, c, rfl, hn, hc, hl⟩ := ha.any
  change ts.length = n at hl
  subst hl
  have HE : Hid (stepR .designator (.mk 24 x m p ts) = stepR .ref (.mk 24 x m p ts)) := by show _ = _; rfl
  clear h hf ha
  go_enter Tryz.func119, Tryz.ntmps119
  go_wp2_with fail
  go_at_call 121
  refine (ref_says w0 jb lb ob _ l v (.mk 24 x m p ts) _ (HJ.out.grown (by repeat (first | with_reducible exact gb_refl w none | with_reducible refine gb_put ?_ (by omega) _ _ | with_reducible refine gb_alloc ?_ _ | with_reducible refine gb_drewN ?_ _ | with_reducible refine gb_drew ?_))) hlen HF.out HA.out).mono ?_
  intro e w1 hr
  obtain ⟨b, rfl, hr⟩ := hr.ret
  have H1 : Hid (JR w0 jb lb ob l v w .designator (.mk 24 x m p ts) (.returned (.bool b)) w1) := hr.up (gb_alloc (gb_refl w none) _) HE.out
  clear hr
  go_wp2_with fail
  go_ret
  exact H1.out
set_option maxRecDepth 1000000 in
set_option maxHeartbeats 2000000 in
theorem jdesE (w0 : World) (jb lb ob : Nat) (w : World) (l : List (T × Rule)) (v : Value) (kd : Int) (x : List UInt8) (m p : Int) (ts : List T) (sv : Value) (h : JS w0 jb lb ob w l v) (_hlen : l.length + ts.length ≤ 20000) (hf : Fits (.mk kd x m p ts)) (ha : AT w0 (T.mk kd x m p ts).subs sv) (h24 : ¬ kd = 24) (h25 : ¬ kd = 25) (h26 : ¬ kd = 26) (h27 : ¬ kd = 27) (h28 : ¬ kd = 28) :
    Calls Tryz.prog 119 #[ptr jb, .agg #[.int .i64 kd, .string ⟨x.toArray⟩, .int .i64 m, .int .i64 p, sv]] w (JR w0 jb lb ob l v w .designator (.mk kd x m p ts)) := by
  have HJ := hide h
  have HF := hide hf
  have HA := hide ha
  have hjl := h.lt
  have HV : Hid (∀ b, v.ownBlock = some b → b < w.heap.size) := fun b hb => (h.room hb).2
  obtain ⟨a, n, c, rfl, hn, hc, hl⟩ := ha.any
  change ts.length = n at hl
  subst hl
  have HN : Hid (stepR .designator (.mk kd x m p ts) = none) := by show _ = _; simp [stepR, designatorR, T.kind, h24, h25, h26, h27, h28]
  clear h hf ha
  go_enter Tryz.func119, Tryz.ntmps119
  go_wp2_with fail
  go_ret
  exact .inl ⟨HN.out, rfl, gb_trans HJ.out.gb (gb_alloc (gb_refl w none) _)⟩
theorem designator_says : RuleSays 119 .designator := by
  intro w0 jb lb ob w l v t sv h hlen hf ha
  obtain ⟨kd, x, m, p, ts⟩ := t
  change l.length + ts.length ≤ 20000 at hlen
  by_cases h24 : kd = 24
  · subst h24; exact jdes24 w0 jb lb ob w l v x m p ts sv h hlen hf ha
  by_cases h25 : kd = 25
  · subst h25; exact jdes25 w0 jb lb ob w l v x m p ts sv h hlen hf ha
  by_cases h26 : kd = 26
  · subst h26; exact jdes26 w0 jb lb ob w l v x m p ts sv h hlen hf ha
  by_cases h27 : kd = 27
  · subst h27; exact jdes27 w0 jb lb ob w l v x m p ts sv h hlen hf ha
  by_cases h28 : kd = 28
  · subst h28; exact jdes28 w0 jb lb ob w l v x m p ts sv h hlen hf ha
  exact jdesE w0 jb lb ob w l v kd x m p ts sv h hlen hf ha h24 h25 h26 h27 h28
set_option maxRecDepth 1000000 in
set_option maxHeartbeats 2000000 in
theorem jexpE (w0 : World) (jb lb ob : Nat) (w : World) (l : List (T × Rule)) (v : Value) (kd : Int) (x : List UInt8) (m p : Int) (ts : List T) (sv : Value) (h : JS w0 jb lb ob w l v) (hlen : l.length + ts.length ≤ 20000) (hf : Fits (.mk kd x m p ts)) (ha : AT w0 (T.mk kd x m p ts).subs sv) (h29 : ¬ kd = 29) (h30 : ¬ kd = 30) (h31 : ¬ kd = 31) (h32 : ¬ kd = 32) (h33 : ¬ kd = 33) (h34 : ¬ kd = 34) (h35 : ¬ kd = 35) (h36 : ¬ kd = 36) (h37 : ¬ kd = 37) :
    Calls Tryz.prog 82 #[ptr jb, .agg #[.int .i64 kd, .string ⟨x.toArray⟩, .int .i64 m, .int .i64 p, sv]] w (JR w0 jb lb ob l v w .expression (.mk kd x m p ts)) := by
  have HJ := hide h
  have HF := hide hf
  have HA := hide ha
  have hjl := h.lt
  have HV : Hid (∀ b, v.ownBlock = some b → b < w.heap.size) := fun b hb => (h.room hb).2
  obtain ⟨a, n, c, rfl, hn, hc, hl⟩ := ha.any
  change ts.length = n at hl
  subst hl
  have HE : Hid (stepR .expression (.mk kd x m p ts) = stepR .designator (.mk kd x m p ts)) := by show _ = _; simp [stepR, expressionR, T.kind, h29, h30, h31, h32, h33, h34, h35, h36, h37]
  clear h hf ha
  go_enter Tryz.func82, Tryz.ntmps82
  go_wp2_with fail
  go_at_call 119
  refine (designator_says w0 jb lb ob _ l v (.mk kd x m p ts) _ (HJ.out.grown (by repeat (first | with_reducible exact gb_refl w none | with_reducible refine gb_put ?_ (by omega) _ _ | with_reducible refine gb_alloc ?_ _ | with_reducible refine gb_drewN ?_ _ | with_reducible refine gb_drew ?_))) hlen HF.out HA.out).mono ?_
  intro e w1 hr
  obtain ⟨b, rfl, hr⟩ := hr.ret
  have H1 : Hid (JR w0 jb lb ob l v w .expression (.mk kd x m p ts) (.returned (.bool b)) w1) := hr.up (gb_alloc (gb_refl w none) _) HE.out
  clear hr
  go_wp2_with fail
  go_ret
  exact H1.out
theorem expression_says : RuleSays 82 .expression := by
  intro w0 jb lb ob w l v t sv h hlen hf ha
  obtain ⟨kd, x, m, p, ts⟩ := t
  change l.length + ts.length ≤ 20000 at hlen
  by_cases h29 : kd = 29
  · subst h29; exact jexp29 w0 jb lb ob w l v x m p ts sv h hlen hf ha
  by_cases h30 : kd = 30
  · subst h30; exact jexp30 w0 jb lb ob w l v x m p ts sv h hlen hf ha
  by_cases h31 : kd = 31
  · subst h31; exact jexp31 w0 jb lb ob w l v x m p ts sv h hlen hf ha
  by_cases h32 : kd = 32
  · subst h32; exact jexp32 w0 jb lb ob w l v x m p ts sv h hlen hf ha
  by_cases h33 : kd = 33
  · subst h33; exact jexp33 w0 jb lb ob w l v x m p ts sv h hlen hf ha
  by_cases h34 : kd = 34
  · subst h34; exact jexp34 w0 jb lb ob w l v x m p ts sv h hlen hf ha
  by_cases h35 : kd = 35
  · subst h35; exact jexp35 w0 jb lb ob w l v x m p ts sv h hlen hf ha
  by_cases h36 : kd = 36
  · subst h36; exact jexp36 w0 jb lb ob w l v x m p ts sv h hlen hf ha
  by_cases h37 : kd = 37
  · subst h37; exact jexp37 w0 jb lb ob w l v x m p ts sv h hlen hf ha
  exact jexpE w0 jb lb ob w l v kd x m p ts sv h hlen hf ha h29 h30 h31 h32 h33 h34 h35 h36 h37
end Go.Proofs.YtlkokcnbbihljaaGreatDoor
