/- The program's operators and their ranks, in a map. -/
import Derived.Test.YtlkokcnbbihljaaGreatDoorG03
import Derived.Maps.Own
import Derived.Maps.OwnSet
import Derived.Maps.OwnOps
namespace Go.Proofs.YtlkokcnbbihljaaGreatDoor
open Go.RowKit Go.Maps Go.WideMaps Go.WideElems

def opsL : List (List UInt8 × Int) := [([61], 0), ([35], 0), ([60], 0), ([60, 61], 0), ([62], 0), ([62, 61], 0), ([43], 1), ([45], 1), ([79, 82], 1), ([42], 2), ([68, 73, 86], 2), ([77, 79, 68], 2), ([38], 2)]
def mapOf (es : List (List UInt8 × Int)) : DataW Unit := es.foldl (fun m p => m.put (.string p.1) (.lit (.int .i64 p.2))) (.map [])
def foundIn (k : List UInt8) : List (List UInt8 × Int) → Option Int
  | [] => none
  | p :: r => match foundIn k r with
    | some n => some n
    | none => if p.1 = k then some p.2 else none
theorem isMap_put {D : DataW Unit} (h : IsMap D) (k : List UInt8) (d : DataW Unit) : IsMap (D.put (.string k) d) := by
  first | exact h.put _ _ | exact IsMap.put h _ _ | (obtain ⟨es, rfl⟩ := h; exact ⟨_, rfl⟩)
theorem has_mapFrom (k : List UInt8) : ∀ (es : List (List UInt8 × Int)) (D : DataW Unit), IsMap D → has (es.foldl (fun m p => m.put (.string p.1) (.lit (.int .i64 p.2))) D) (.string k) = ((foundIn k es).isSome || has D (.string k))
  | [], D, _ => by simp [foundIn]
  | p :: r, D, hD => by
    rw [List.foldl_cons, has_mapFrom k r _ (isMap_put hD _ _), foundIn]
    cases h : foundIn k r with
    | some n => simp
    | none =>
      by_cases e : p.1 = k
      · rw [if_pos e, ← e, has_put_same hD (by constructor)]; simp
      · rw [if_neg e, has_put_other (by intro e2; injection e2 with e2; exact e e2.symm)]
theorem at_mapFrom (k : List UInt8) (z : DataW Unit) : ∀ (es : List (List UInt8 × Int)) (D : DataW Unit), IsMap D → (es.foldl (fun m p => m.put (.string p.1) (.lit (.int .i64 p.2))) D).atKey (.string k) z = (match foundIn k es with | some n => .lit (.int .i64 n) | none => D.atKey (.string k) z)
  | [], D, _ => by simp [foundIn]
  | p :: r, D, hD => by
    rw [List.foldl_cons, at_mapFrom k z r _ (isMap_put hD _ _), foundIn]
    cases h : foundIn k r with
    | some n => simp
    | none =>
      by_cases e : p.1 = k
      · rw [if_pos e, ← e]; exact atKey_put_same hD (by constructor) _ _
      · rw [if_neg e]; exact atKey_put_other (by intro e2; injection e2 with e2; exact e e2.symm) _ _
theorem found_ops (k : List UInt8) : foundIn k opsL = if 0 ≤ levelOf k then some (levelOf k) else none := by
  unfold levelOf inB relL sumL proL
  simp only [opsL, foundIn, List.contains_cons, List.contains_nil, Bool.or_false, Bool.or_eq_true, beq_iff_eq]
  by_cases h : k ∈ opsL.map (·.1)
  · simp [opsL] at h
    rcases h with rfl | rfl | rfl | rfl | rfl | rfl | rfl | rfl | rfl | rfl | rfl | rfl | rfl <;> decide
  · simp [opsL] at h
    obtain ⟨h1, h2, h3, h4, h5, h6, h7, h8, h9, h10, h11, h12, h13⟩ := h
    simp [*, Ne.symm, eq_comm]

theorem lawStr : Keyed Tryz.prog 9 := string_keyed Tryz.underlying9
theorem zeroRank (w : World) : (zeroValue 109).run Tryz.prog w = .ok (.int .i64 0) w := by kernel_rfl
def IsOps (w : World) (b : Nat) : Prop := w.ownsMap Tryz.prog 9 (plainElem Tryz.prog 109) b 13 (mapOf opsL)
set_option maxRecDepth 1000000 in
set_option maxHeartbeats 2000000 in
theorem operators_any (w : World) : Calls Tryz.prog 47 #[] w fun e w' => e = .returned (.map (some w.heap.size)) ∧ IsOps w' w.heap.size ∧ w.grownBy w' none := by
  have hmm := @run_makeMap Tryz.prog
  have m0 := World.ownsMap_made (H := Unit) w Tryz.prog 9 (plainElem Tryz.prog 109)
  obtain ⟨wm0, hm0, o0, gm0⟩ := m0.update lawStr Tryz.underlying56 (by unfold maxLen; omega) (keyOf_string_mk (P := Tryz.prog) Tryz.underlying9 (s := ⟨#[61]⟩) (by unfold maxLen; decide)) (plainElem_int (H := Unit) Tryz.underlying109 (a := 0) (by decide))
  obtain ⟨wm1, hm1, o1, gm1⟩ := o0.update lawStr Tryz.underlying56 (by unfold maxLen; omega) (keyOf_string_mk (P := Tryz.prog) Tryz.underlying9 (s := ⟨#[35]⟩) (by unfold maxLen; decide)) (plainElem_int (H := Unit) Tryz.underlying109 (a := 0) (by decide))
  obtain ⟨wm2, hm2, o2, gm2⟩ := o1.update lawStr Tryz.underlying56 (by unfold maxLen; omega) (keyOf_string_mk (P := Tryz.prog) Tryz.underlying9 (s := ⟨#[60]⟩) (by unfold maxLen; decide)) (plainElem_int (H := Unit) Tryz.underlying109 (a := 0) (by decide))
  obtain ⟨wm3, hm3, o3, gm3⟩ := o2.update lawStr Tryz.underlying56 (by unfold maxLen; omega) (keyOf_string_mk (P := Tryz.prog) Tryz.underlying9 (s := ⟨#[60, 61]⟩) (by unfold maxLen; decide)) (plainElem_int (H := Unit) Tryz.underlying109 (a := 0) (by decide))
  obtain ⟨wm4, hm4, o4, gm4⟩ := o3.update lawStr Tryz.underlying56 (by unfold maxLen; omega) (keyOf_string_mk (P := Tryz.prog) Tryz.underlying9 (s := ⟨#[62]⟩) (by unfold maxLen; decide)) (plainElem_int (H := Unit) Tryz.underlying109 (a := 0) (by decide))
  obtain ⟨wm5, hm5, o5, gm5⟩ := o4.update lawStr Tryz.underlying56 (by unfold maxLen; omega) (keyOf_string_mk (P := Tryz.prog) Tryz.underlying9 (s := ⟨#[62, 61]⟩) (by unfold maxLen; decide)) (plainElem_int (H := Unit) Tryz.underlying109 (a := 0) (by decide))
  obtain ⟨wm6, hm6, o6, gm6⟩ := o5.update lawStr Tryz.underlying56 (by unfold maxLen; omega) (keyOf_string_mk (P := Tryz.prog) Tryz.underlying9 (s := ⟨#[43]⟩) (by unfold maxLen; decide)) (plainElem_int (H := Unit) Tryz.underlying109 (a := 1) (by decide))
  obtain ⟨wm7, hm7, o7, gm7⟩ := o6.update lawStr Tryz.underlying56 (by unfold maxLen; omega) (keyOf_string_mk (P := Tryz.prog) Tryz.underlying9 (s := ⟨#[45]⟩) (by unfold maxLen; decide)) (plainElem_int (H := Unit) Tryz.underlying109 (a := 1) (by decide))
  obtain ⟨wm8, hm8, o8, gm8⟩ := o7.update lawStr Tryz.underlying56 (by unfold maxLen; omega) (keyOf_string_mk (P := Tryz.prog) Tryz.underlying9 (s := ⟨#[79, 82]⟩) (by unfold maxLen; decide)) (plainElem_int (H := Unit) Tryz.underlying109 (a := 1) (by decide))
  obtain ⟨wm9, hm9, o9, gm9⟩ := o8.update lawStr Tryz.underlying56 (by unfold maxLen; omega) (keyOf_string_mk (P := Tryz.prog) Tryz.underlying9 (s := ⟨#[42]⟩) (by unfold maxLen; decide)) (plainElem_int (H := Unit) Tryz.underlying109 (a := 2) (by decide))
  obtain ⟨wm10, hm10, o10, gm10⟩ := o9.update lawStr Tryz.underlying56 (by unfold maxLen; omega) (keyOf_string_mk (P := Tryz.prog) Tryz.underlying9 (s := ⟨#[68, 73, 86]⟩) (by unfold maxLen; decide)) (plainElem_int (H := Unit) Tryz.underlying109 (a := 2) (by decide))
  obtain ⟨wm11, hm11, o11, gm11⟩ := o10.update lawStr Tryz.underlying56 (by unfold maxLen; omega) (keyOf_string_mk (P := Tryz.prog) Tryz.underlying9 (s := ⟨#[77, 79, 68]⟩) (by unfold maxLen; decide)) (plainElem_int (H := Unit) Tryz.underlying109 (a := 2) (by decide))
  obtain ⟨wm12, hm12, o12, gm12⟩ := o11.update lawStr Tryz.underlying56 (by unfold maxLen; omega) (keyOf_string_mk (P := Tryz.prog) Tryz.underlying9 (s := ⟨#[38]⟩) (by unfold maxLen; decide)) (plainElem_int (H := Unit) Tryz.underlying109 (a := 2) (by decide))
  have HM : Hid (IsOps wm12 w.heap.size) := o12
  have HG : Hid (w.grownBy wm12 none) := by
    have g9 : (w.alloc (.map #[] 0)).grownBy wm12 (some w.heap.size) := gb_trans (gb_trans (gb_trans (gb_trans (gb_trans (gb_trans (gb_trans (gb_trans (gb_trans (gb_trans (gb_trans (gb_trans (gm0) gm1) gm2) gm3) gm4) gm5) gm6) gm7) gm8) gm9) gm10) gm11) gm12
    exact ⟨g9.os, g9.tape, g9.output, by have := g9.size; simp at this; omega, fun k hk _ => (g9.block k (by simp; omega) (by simp; omega)).trans (by have := (World.grownBy_alloc w (.map #[] 0) none).block k hk (by simp); exact this)⟩
  clear m0 o0 o1 o2 o3 o4 o5 o6 o7 o8 o9 o10 o11 o12 gm0 gm1 gm2 gm3 gm4 gm5 gm6 gm7 gm8 gm9 gm10 gm11 gm12
  go_enter Tryz.func47, Tryz.ntmps47
  go_wp2
  go_ret
  exact ⟨rfl, HM.out, HG.out⟩
end Go.Proofs.YtlkokcnbbihljaaGreatDoor
