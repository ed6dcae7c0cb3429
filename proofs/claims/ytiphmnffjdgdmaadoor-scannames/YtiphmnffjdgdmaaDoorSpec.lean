/- The words of a text, as plain functions on lists of bytes: what is skipped, which word comes next, all words; and small facts on them. -/
namespace Go.Proofs.YtiphmnffjdgdmaaDoor

def isLetter (n : Int) : Bool := decide ((97 ≤ n ∧ n ≤ 122) ∨ (65 ≤ n ∧ n ≤ 90))
def isDigit (n : Int) : Bool := decide (48 ≤ n ∧ n ≤ 57)
def isBlank (n : Int) : Bool := decide (n = 32 ∨ n = 9 ∨ n = 13 ∨ n = 10)
def lod (n : Int) : Bool := isLetter n || isDigit n

/-- A list begins with these two bytes. -/
def starts (r : List UInt8) (a b : UInt8) : Bool := r.take 2 == [a, b]

/-- What lies behind a comment whose first sign (or more of them) is read: d are open. -/
def cmt : Nat → List UInt8 → Option (List UInt8)
  | _, [] => none
  | _, [_] => none
  | d, a :: b :: r => if a = 40 ∧ b = 42 then cmt (d + 1) r else if a = 42 ∧ b = 41 then (if d ≤ 1 then some r else cmt (d - 1) r) else cmt d (b :: r)

/-- Blanks and comments are skipped; an open comment is told by what begins with it. -/
def skipN : Nat → List UInt8 → Except (List UInt8) (List UInt8)
  | 0, r => .ok r
  | _ + 1, [] => .ok []
  | n + 1, c :: r => if isBlank c.toNat then skipN n r else if starts (c :: r) 40 42 then (match cmt 0 (c :: r) with | none => .error (c :: r) | some r' => skipN n r') else .ok (c :: r)

def skp (r : List UInt8) : Except (List UInt8) (List UInt8) := skipN r.length r

def leadOf (p : Int → Bool) (r : List UInt8) : List UInt8 := r.takeWhile (fun c => p c.toNat)

/-- The value of digits, from a value on; none: it is too great. -/
def valueFrom : Int → List UInt8 → Option Int
  | v, [] => some v
  | v, c :: r => if (2147483647 - ((c.toNat : Int) - 48)) / 10 < v then none else valueFrom (v * 10 + ((c.toNat : Int) - 48)) r

def signs : List UInt8 := [61, 35, 60, 62, 43, 45, 42, 38, 126, 40, 41, 91, 93, 123, 125, 44, 59, 58, 46, 94]

def signOf (r : List UInt8) : List UInt8 :=
  if starts r 58 61 || starts r 60 61 || starts r 62 61 then r.take 2
  else if r.take 1 ≠ [] ∧ signs.contains (r.headD 0) then r.take 1 else []

/-- The word that begins here, or what is wrong. -/
def wordOf (r : List UInt8) : Except Nat (List UInt8) :=
  if isLetter (r.headD 0).toNat then (if 12 < (leadOf lod r).length then .error 3 else .ok (leadOf lod r))
  else if isDigit (r.headD 0).toNat then (match valueFrom 0 (leadOf isDigit r) with | none => .error 3 | some _ => .ok (leadOf isDigit r))
  else if signOf r = [] then .error 1 else .ok (signOf r)

/-- All words, each with what begins with it; or what is wrong, and where. -/
def toksN : Nat → List UInt8 → Except (Nat × List UInt8) (List (List UInt8 × List UInt8))
  | 0, _ => .ok []
  | n + 1, r => match skp r with
    | .error f => .error (2, f)
    | .ok [] => .ok [([], [])]
    | .ok (c :: r') => match wordOf (c :: r') with
      | .error e => .error (e, c :: r')
      | .ok w => match toksN n ((c :: r').drop w.length) with
        | .error x => .error x
        | .ok l => .ok ((w, c :: r') :: l)

def toks (r : List UInt8) : Except (Nat × List UInt8) (List (List UInt8 × List UInt8)) := toksN (r.length + 1) r

theorem cmt_nil (d : Nat) : cmt d [] = none := by simp [cmt]
theorem cmt_one (d : Nat) (a : UInt8) : cmt d [a] = none := by simp [cmt]
theorem cmt_two (d : Nat) (a b : UInt8) (r : List UInt8) : cmt d (a :: b :: r) = if a = 40 ∧ b = 42 then cmt (d + 1) r else if a = 42 ∧ b = 41 then (if d ≤ 1 then some r else cmt (d - 1) r) else cmt d (b :: r) := by
  rw [cmt]

theorem cmt_suffix : ∀ (n d : Nat) (r r' : List UInt8), r.length ≤ n → cmt d r = some r' → ∃ p : List UInt8, r = p ++ r' ∧ 2 ≤ p.length
  | 0, d, r, r', hn, h => by
    cases r with
    | nil => simp [cmt] at h
    | cons a r => simp at hn
  | n + 1, d, [], r', hn, h => by simp [cmt] at h
  | n + 1, d, [a], r', hn, h => by simp [cmt] at h
  | n + 1, d, a :: b :: r, r', hn, h => by
    rw [cmt_two] at h
    simp only [List.length_cons] at hn
    split at h
    · obtain ⟨p, hp, _⟩ := cmt_suffix n _ r r' (by omega) h
      exact ⟨a :: b :: p, by simp [hp], by simp⟩
    · split at h
      · split at h
        · simp only [Option.some.injEq] at h
          exact ⟨[a, b], by simp [h], by simp⟩
        · obtain ⟨p, hp, _⟩ := cmt_suffix n _ r r' (by omega) h
          exact ⟨a :: b :: p, by simp [hp], by simp⟩
      · obtain ⟨p, hp, h2⟩ := cmt_suffix n _ (b :: r) r' (by simp; omega) h
        exact ⟨a :: p, by simp [hp], by simp; omega⟩

theorem cmt_suffix' {d : Nat} {r r' : List UInt8} (h : cmt d r = some r') : ∃ p : List UInt8, r = p ++ r' ∧ 2 ≤ p.length := cmt_suffix r.length d r r' (Nat.le_refl _) h

theorem skipN_eq : ∀ (n m : Nat) (r : List UInt8), r.length ≤ n → r.length ≤ m → skipN n r = skipN m r
  | 0, m, [], _, _ => by cases m <;> simp [skipN]
  | n + 1, m, [], _, _ => by cases m <;> simp [skipN]
  | 0, m, c :: r, h, _ => by simp at h
  | n + 1, 0, c :: r, _, h => by simp at h
  | n + 1, m + 1, c :: r, h1, h2 => by
    simp only [List.length_cons] at h1 h2
    rw [skipN, skipN]
    split
    · exact skipN_eq n m r (by omega) (by omega)
    · split
      · split
        · rfl
        · rename_i r' hc
          obtain ⟨p, hp, hl⟩ := cmt_suffix' hc
          have hlen : (c :: r).length = p.length + r'.length := by rw [hp]; simp
          simp only [List.length_cons] at hlen
          exact skipN_eq n m r' (by omega) (by omega)
      · rfl

theorem skp_nil : skp [] = .ok [] := rfl
theorem skp_blank {c : UInt8} {r : List UInt8} (h : isBlank c.toNat = true) : skp (c :: r) = skp r := by
  show skipN (r.length + 1) (c :: r) = skipN r.length r
  rw [skipN, if_pos h]
theorem skp_open {c : UInt8} {r : List UInt8} (h : isBlank c.toNat = false) (hs : starts (c :: r) 40 42 = true) (hc : cmt 0 (c :: r) = none) : skp (c :: r) = .error (c :: r) := by
  show skipN (r.length + 1) (c :: r) = _
  rw [skipN, if_neg (by simp [h]), if_pos hs, hc]
theorem skp_shut {c : UInt8} {r r' : List UInt8} (h : isBlank c.toNat = false) (hs : starts (c :: r) 40 42 = true) (hc : cmt 0 (c :: r) = some r') : skp (c :: r) = skp r' := by
  show skipN (r.length + 1) (c :: r) = skipN r'.length r'
  rw [skipN, if_neg (by simp [h]), if_pos hs, hc]
  obtain ⟨p, hp, hl⟩ := cmt_suffix' hc
  have hlen : (c :: r).length = p.length + r'.length := by rw [hp]; simp
  simp only [List.length_cons] at hlen
  exact skipN_eq _ _ r' (by omega) (by omega)
theorem skp_word {c : UInt8} {r : List UInt8} (h : isBlank c.toNat = false) (hs : starts (c :: r) 40 42 = false) : skp (c :: r) = .ok (c :: r) := by
  show skipN (r.length + 1) (c :: r) = _
  rw [skipN, if_neg (by simp [h]), if_neg (by simp [hs])]

/-- What is skipped to is an end of what there was. -/
theorem skipN_suffix : ∀ (n : Nat) (r r' : List UInt8), skipN n r = .ok r' → ∃ p : List UInt8, r = p ++ r'
  | 0, r, r', h => ⟨[], by simp [skipN] at h; simp [h]⟩
  | n + 1, [], r', h => ⟨[], by simp [skipN] at h; simp [h]⟩
  | n + 1, c :: r, r', h => by
    rw [skipN] at h
    split at h
    · obtain ⟨p, hp⟩ := skipN_suffix n r r' h
      exact ⟨c :: p, by simp [hp]⟩
    · split at h
      · split at h
        · simp at h
        · rename_i r1 hc
          obtain ⟨p, hp, _⟩ := cmt_suffix' hc
          obtain ⟨p2, hp2⟩ := skipN_suffix n r1 r' h
          exact ⟨p ++ p2, by rw [hp, hp2]; simp⟩
      · simp only [Except.ok.injEq] at h
        exact ⟨[], by simp [h]⟩

theorem skp_suffix {r r' : List UInt8} (h : skp r = .ok r') : ∃ p : List UInt8, r = p ++ r' := skipN_suffix _ r r' h

/-- What an open comment is told by is an end, too. -/
theorem skipN_error : ∀ (n : Nat) (r f : List UInt8), skipN n r = .error f → ∃ p : List UInt8, r = p ++ f
  | 0, r, f, h => by simp [skipN] at h
  | n + 1, [], f, h => by simp [skipN] at h
  | n + 1, c :: r, f, h => by
    rw [skipN] at h
    split at h
    · obtain ⟨p, hp⟩ := skipN_error n r f h
      exact ⟨c :: p, by simp [hp]⟩
    · split at h
      · split at h
        · simp only [Except.error.injEq] at h
          exact ⟨[], by simp [h]⟩
        · rename_i r1 hc
          obtain ⟨p, hp, _⟩ := cmt_suffix' hc
          obtain ⟨p2, hp2⟩ := skipN_error n r1 f h
          exact ⟨p ++ p2, by rw [hp, hp2]; simp⟩
      · simp at h

theorem skp_error {r f : List UInt8} (h : skp r = .error f) : ∃ p : List UInt8, r = p ++ f := skipN_error _ r f h

end Go.Proofs.YtiphmnffjdgdmaaDoor
