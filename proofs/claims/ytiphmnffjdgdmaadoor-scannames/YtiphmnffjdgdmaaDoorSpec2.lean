/- Plain facts on the words of a text: what one word takes, what stands behind it, and how all words come one by one. -/
import Derived.Test.YtiphmnffjdgdmaaDoorSpec
namespace Go.Proofs.YtiphmnffjdgdmaaDoor

abbrev Toks := Except (Nat × List UInt8) (List (List UInt8 × List UInt8))

/-- Words that stand ahead of an answer. -/
def pre (acc : List (List UInt8 × List UInt8)) : Toks → Toks
  | .error x => .error x
  | .ok l => .ok (acc ++ l)

/-- The words from a word on. -/
def tokA (n : Nat) : List UInt8 → Toks
  | [] => .ok [([], [])]
  | c :: r => match wordOf (c :: r) with
    | .error e => .error (e, c :: r)
    | .ok w => pre [(w, c :: r)] (toksN n ((c :: r).drop w.length))

theorem toksN_succ (n : Nat) (r : List UInt8) : toksN (n + 1) r = match skp r with | .error f => .error (2, f) | .ok r' => tokA n r' := by
  rw [toksN]
  cases h : skp r with
  | error f => rfl
  | ok r' =>
    cases r' with
    | nil => rfl
    | cons c r' =>
      simp only [tokA]
      cases hw : wordOf (c :: r') with
      | error e => rfl
      | ok w =>
        simp only
        cases toksN n ((c :: r').drop w.length) <;> rfl

theorem pre_pre (a b : List (List UInt8 × List UInt8)) (x : Toks) : pre a (pre b x) = pre (a ++ b) x := by
  cases x <;> simp [pre]
theorem pre_error {a : List (List UInt8 × List UInt8)} {x : Nat × List UInt8} : pre a (.error x) = .error x := rfl
theorem pre_nil (x : Toks) : pre [] x = x := by cases x <;> simp [pre]

theorem leadOf_pre (p : Int → Bool) (r : List UInt8) : r.take (leadOf p r).length = leadOf p r := by
  unfold leadOf
  induction r with
  | nil => rfl
  | cons a r ih =>
    rw [List.takeWhile_cons]
    split
    · simp [ih]
    · simp

theorem leadOf_pos {p : Int → Bool} {c : UInt8} {r : List UInt8} (h : p c.toNat = true) : 1 ≤ (leadOf p (c :: r)).length := by
  unfold leadOf
  rw [List.takeWhile_cons, if_pos h]; simp

theorem signOf_pre (r : List UInt8) : r.take (signOf r).length = signOf r := by
  unfold signOf
  split
  · match r with
    | [] => rfl
    | [a] => rfl
    | a :: b :: r => rfl
  · split
    · match r with
      | [] => rfl
      | a :: r => rfl
    · rfl

/-- A word is the beginning of what there is, and is not empty. -/
theorem wordOf_pre {c : UInt8} {r w : List UInt8} (h : wordOf (c :: r) = .ok w) : (c :: r).take w.length = w ∧ 1 ≤ w.length := by
  unfold wordOf at h
  have hh : (c :: r).headD 0 = c := rfl
  rw [hh] at h
  by_cases hl : isLetter c.toNat = true
  · rw [if_pos hl] at h
    by_cases h12 : 12 < (leadOf lod (c :: r)).length
    · rw [if_pos h12] at h; cases h
    · rw [if_neg h12] at h
      cases h
      exact ⟨leadOf_pre _ _, leadOf_pos (by simp [lod, hl])⟩
  · rw [if_neg hl] at h
    by_cases hd : isDigit c.toNat = true
    · rw [if_pos hd] at h
      cases hv : valueFrom 0 (leadOf isDigit (c :: r)) with
      | none => rw [hv] at h; cases h
      | some v =>
        rw [hv] at h
        cases h
        exact ⟨leadOf_pre _ _, leadOf_pos hd⟩
    · rw [if_neg hd] at h
      by_cases hs : signOf (c :: r) = []
      · rw [if_pos hs] at h; cases h
      · rw [if_neg hs] at h
        cases h
        refine ⟨signOf_pre _, ?_⟩
        cases hx : signOf (c :: r) with
        | nil => exact absurd hx hs
        | cons a l => simp

theorem wordOf_len {c : UInt8} {r w : List UInt8} (h : wordOf (c :: r) = .ok w) : w.length ≤ (c :: r).length := by
  have h1 := (wordOf_pre h).1
  have := congrArg List.length h1
  rw [List.length_take] at this
  omega

end Go.Proofs.YtiphmnffjdgdmaaDoor
