/- Whether digits tell too great a number, told in two ways, is the same: by reckoning, and by stripping noughts and comparing texts. -/
import Derived.Test.YtiphmnffjdgdmaaDoorSpec2
import GoSem.Op.String
namespace Go.Proofs.YtiphmnffjdgdmaaDoor

/-- The number that digits tell, from a number on. -/
def nv (v : Int) (l : List UInt8) : Int := l.foldl (fun v c => v * 10 + ((c.toNat : Int) - 48)) v

def strip : List UInt8 → List UInt8
  | [] => []
  | [a] => [a]
  | a :: b :: r => if a = 48 then strip (b :: r) else a :: b :: r

def maxDigits : List UInt8 := [50, 49, 52, 55, 52, 56, 51, 54, 52, 55]

def beyondL (l : List UInt8) : Bool :=
  if (strip l).length ≠ 10 then decide (10 < (strip l).length) else !(Op.bytesLess (strip l) maxDigits || (strip l) == maxDigits)

def AllDigits (l : List UInt8) : Prop := ∀ c ∈ l, isDigit c.toNat = true

theorem dig_bd {c : UInt8} (h : isDigit c.toNat = true) : 0 ≤ (c.toNat : Int) - 48 ∧ (c.toNat : Int) - 48 ≤ 9 := by
  simp [isDigit] at h; omega

theorem nv_ge : ∀ (l : List UInt8) (v : Int), AllDigits l → 0 ≤ v → v ≤ nv v l
  | [], v, _, _ => by simp [nv]
  | c :: l, v, h, hv => by
    have hc := dig_bd (h c (by simp))
    have ih := nv_ge l (v * 10 + ((c.toNat : Int) - 48)) (fun x hx => h x (by simp [hx])) (by omega)
    show v ≤ nv (v * 10 + ((c.toNat : Int) - 48)) l
    omega

theorem valueFrom_nv : ∀ (l : List UInt8) (v : Int), AllDigits l → 0 ≤ v → v ≤ 2147483647 → valueFrom v l = if nv v l ≤ 2147483647 then some (nv v l) else none
  | [], v, _, _, hv => by simp [valueFrom, nv, hv]
  | c :: l, v, h, h0, hv => by
    have hc := dig_bd (h c (by simp))
    have hl : AllDigits l := fun x hx => h x (by simp [hx])
    have e : nv v (c :: l) = nv (v * 10 + ((c.toNat : Int) - 48)) l := rfl
    rw [e, valueFrom]
    by_cases hb : (2147483647 - ((c.toNat : Int) - 48)) / 10 < v
    · rw [if_pos hb]
      have := nv_ge l (v * 10 + ((c.toNat : Int) - 48)) hl (by omega)
      rw [if_neg (by omega)]
    · rw [if_neg hb]
      exact valueFrom_nv l _ hl (by omega) (by omega)

theorem strip_nv : ∀ (l : List UInt8), nv 0 (strip l) = nv 0 l
  | [] => rfl
  | [a] => rfl
  | a :: b :: r => by
    rw [strip]
    split
    · rename_i h
      subst h
      rw [strip_nv (b :: r)]
      rfl
    · rfl

theorem strip_digits : ∀ (l : List UInt8), AllDigits l → AllDigits (strip l)
  | [], h => h
  | [a], h => h
  | a :: b :: r, h => by
    rw [strip]
    split
    · exact strip_digits (b :: r) (fun x hx => h x (by simp at hx ⊢; exact .inr hx))
    · exact h

theorem strip_head : ∀ (l : List UInt8), (strip l).length ≤ 1 ∨ ∃ a r, strip l = a :: r ∧ a ≠ 48
  | [] => .inl (by simp [strip])
  | [a] => .inl (by simp [strip])
  | a :: b :: r => by
    rw [strip]
    split
    · exact strip_head (b :: r)
    · rename_i h
      exact .inr ⟨a, b :: r, rfl, h⟩

theorem nv_upper : ∀ (l : List UInt8) (v : Int), AllDigits l → nv v l < (v + 1) * 10 ^ l.length
  | [], v, _ => by simp [nv]; omega
  | c :: l, v, h => by
    have hc := dig_bd (h c (by simp))
    have ih := nv_upper l (v * 10 + ((c.toNat : Int) - 48)) (fun x hx => h x (by simp [hx]))
    show nv (v * 10 + ((c.toNat : Int) - 48)) l < _
    have h1 : (v * 10 + ((c.toNat : Int) - 48) + 1) * 10 ^ l.length ≤ ((v + 1) * 10) * 10 ^ l.length := by
      apply Int.mul_le_mul_of_nonneg_right
      · omega
      · exact Int.pow_nonneg (by omega)
    rw [List.length_cons, Int.pow_succ, show (v + 1) * (10 ^ l.length * 10) = ((v + 1) * 10) * 10 ^ l.length from by rw [Int.mul_assoc, Int.mul_comm (10 ^ l.length) 10]]
    omega

theorem nv_lower : ∀ (l : List UInt8) (v : Int), AllDigits l → 0 ≤ v → v * 10 ^ l.length ≤ nv v l
  | [], v, _, _ => by simp [nv]
  | c :: l, v, h, hv => by
    have hc := dig_bd (h c (by simp))
    have ih := nv_lower l (v * 10 + ((c.toNat : Int) - 48)) (fun x hx => h x (by simp [hx])) (by omega)
    show _ ≤ nv (v * 10 + ((c.toNat : Int) - 48)) l
    have h1 : (v * 10) * 10 ^ l.length ≤ (v * 10 + ((c.toNat : Int) - 48)) * 10 ^ l.length := by
      apply Int.mul_le_mul_of_nonneg_right
      · omega
      · exact Int.pow_nonneg (by omega)
    rw [List.length_cons, Int.pow_succ, show v * (10 ^ l.length * 10) = (v * 10) * 10 ^ l.length from by rw [Int.mul_assoc, Int.mul_comm (10 ^ l.length) 10]]
    omega

theorem nv_mono : ∀ (a b : List UInt8) (v u : Int), AllDigits a → AllDigits b → a.length = b.length → 0 ≤ v → v < u → nv v a < nv u b := by
  intro a b v u ha hb hl hv h
  have h1 := nv_upper a v ha
  have h2 := nv_lower b u hb (by omega)
  rw [hl] at h1
  have h3 : (v + 1) * 10 ^ b.length ≤ u * 10 ^ b.length := Int.mul_le_mul_of_nonneg_right (by omega) (Int.pow_nonneg (by omega))
  omega

theorem less_nv : ∀ (a b : List UInt8) (v : Int), AllDigits a → AllDigits b → a.length = b.length → 0 ≤ v → (Op.bytesLess a b = true ↔ nv v a < nv v b)
  | [], [], v, _, _, _, _ => by simp [Op.bytesLess, nv]
  | [], _ :: _, v, _, _, h, _ => by simp at h
  | _ :: _, [], v, _, _, h, _ => by simp at h
  | x :: a, y :: b, v, ha, hb, hl, hv => by
    have hx := dig_bd (ha x (by simp))
    have hy := dig_bd (hb y (by simp))
    have ha' : AllDigits a := fun z hz => ha z (by simp [hz])
    have hb' : AllDigits b := fun z hz => hb z (by simp [hz])
    have hl' : a.length = b.length := by simpa using hl
    have e1 : nv v (x :: a) = nv (v * 10 + ((x.toNat : Int) - 48)) a := rfl
    have e2 : nv v (y :: b) = nv (v * 10 + ((y.toNat : Int) - 48)) b := rfl
    rw [e1, e2, Op.bytesLess]
    by_cases hlt : x < y
    · have := nv_mono a b (v * 10 + ((x.toNat : Int) - 48)) (v * 10 + ((y.toNat : Int) - 48)) ha' hb' hl' (by omega) (by have := UInt8.lt_iff_toNat_lt.1 hlt; omega)
      simp [hlt, this]
    · by_cases he : x = y
      · subst he
        have ih := less_nv a b (v * 10 + ((x.toNat : Int) - 48)) ha' hb' hl' (by omega)
        simp [hlt, ih]
      · have hgt : y.toNat < x.toNat := by
          have h1 : ¬ x.toNat < y.toNat := fun h => hlt (UInt8.lt_iff_toNat_lt.2 h)
          have h2 : x.toNat ≠ y.toNat := fun h => he (UInt8.toNat_inj.1 h)
          omega
        have := nv_mono b a (v * 10 + ((y.toNat : Int) - 48)) (v * 10 + ((x.toNat : Int) - 48)) hb' ha' hl'.symm (by omega) (by omega)
        have hbeq : (x == y) = false := by simpa using he
        simp only [hlt, hbeq, decide_false, Bool.false_and, Bool.or_false, Bool.false_eq_true, false_iff]
        omega

theorem maxDigits_ok : AllDigits maxDigits := by unfold AllDigits maxDigits; decide
theorem maxDigits_nv : nv 0 maxDigits = 2147483647 := by decide

theorem less_total : ∀ (a b : List UInt8), a.length = b.length → Op.bytesLess a b = false → Op.bytesLess b a = false → a = b
  | [], [], _, _, _ => rfl
  | [], _ :: _, h, _, _ => by simp at h
  | _ :: _, [], h, _, _ => by simp at h
  | x :: a, y :: b, h, h1, h2 => by
    simp only [Op.bytesLess, Bool.or_eq_false_iff, decide_eq_false_iff_not] at h1 h2
    have e : x = y := by
      have h3 : ¬ x.toNat < y.toNat := fun h => h1.1 (UInt8.lt_iff_toNat_lt.2 h)
      have h4 : ¬ y.toNat < x.toNat := fun h => h2.1 (UInt8.lt_iff_toNat_lt.2 h)
      exact UInt8.toNat_inj.1 (by omega)
    subst e
    rw [less_total a b (by simpa using h) (by simpa using h1.2) (by simpa using h2.2)]

theorem pow10_mono {m n : Nat} (h : m ≤ n) : (10 : Int) ^ m ≤ 10 ^ n := by
  have h2 := Int.ofNat_le.2 (Nat.pow_le_pow_right (n := 10) (by omega) h)
  simpa using h2

/-- Both ways tell the same. -/
theorem beyond_value {l : List UInt8} (h : AllDigits l) : beyondL l = (valueFrom 0 l).isNone := by
  have hs := strip_digits l h
  rw [valueFrom_nv l 0 h (by omega) (by omega), ← strip_nv l]
  unfold beyondL
  by_cases h10 : (strip l).length ≠ 10
  · rw [if_pos h10]
    by_cases hlong : 10 < (strip l).length
    · rcases strip_head l with h1 | ⟨a, r, e, ha⟩
      · omega
      · have hda := dig_bd (hs a (by rw [e]; simp))
        have hr : AllDigits r := fun x hx => hs x (by rw [e]; simp [hx])
        have hlow := nv_lower r ((a.toNat : Int) - 48) hr hda.1
        have e2 : nv 0 (strip l) = nv ((a.toNat : Int) - 48) r := by rw [e]; show nv (0 * 10 + ((a.toNat : Int) - 48)) r = _; congr 1; omega
        have ha1 : 1 ≤ (a.toNat : Int) - 48 := by
          have : a.toNat ≠ 48 := fun h => ha (by rw [← UInt8.toNat_inj]; exact h)
          omega
        have hrl : 10 ≤ r.length := by rw [e] at hlong; simp at hlong; omega
        have hp : (10 : Int) ^ 10 ≤ 10 ^ r.length := pow10_mono hrl
        have hm : 1 * (10 : Int) ^ r.length ≤ ((a.toNat : Int) - 48) * 10 ^ r.length := Int.mul_le_mul_of_nonneg_right ha1 (Int.pow_nonneg (by omega))
        have h1010 : (10 : Int) ^ 10 = 10000000000 := by decide
        rw [if_neg (by omega)]
        simp [hlong]
    · have hup := nv_upper (strip l) 0 hs
      have hp : (10 : Int) ^ (strip l).length ≤ 10 ^ 9 := pow10_mono (by omega)
      have h109 : (10 : Int) ^ 9 = 1000000000 := by decide
      rw [if_pos (by omega)]
      simp [hlong]
  · have h10' : (strip l).length = 10 := by omega
    rw [if_neg h10]
    have hlt := less_nv (strip l) maxDigits 0 hs maxDigits_ok (by rw [h10']; rfl) (by omega)
    have hgt := less_nv maxDigits (strip l) 0 maxDigits_ok hs (by rw [h10']; rfl) (by omega)
    rw [maxDigits_nv] at hlt hgt
    by_cases hle : nv 0 (strip l) ≤ 2147483647
    · rw [if_pos hle]
      by_cases he : nv 0 (strip l) = 2147483647
      · have : strip l = maxDigits := by
          refine less_total _ _ (by rw [h10']; rfl) ?_ ?_
          · cases hb : Op.bytesLess (strip l) maxDigits
            · rfl
            · have := hlt.1 hb; omega
          · cases hb : Op.bytesLess maxDigits (strip l)
            · rfl
            · have := hgt.1 hb; omega
        simp [this]
      · have : Op.bytesLess (strip l) maxDigits = true := hlt.2 (by omega)
        simp [this]
    · rw [if_neg hle]
      have h1 : Op.bytesLess (strip l) maxDigits = false := by
        cases hb : Op.bytesLess (strip l) maxDigits
        · rfl
        · have := hlt.1 hb; omega
      have h2 : (strip l == maxDigits) = false := by
        rw [beq_eq_false_iff_ne]
        intro e
        rw [e, maxDigits_nv] at hle
        omega
      simp [h1, h2]

end Go.Proofs.YtiphmnffjdgdmaaDoor
