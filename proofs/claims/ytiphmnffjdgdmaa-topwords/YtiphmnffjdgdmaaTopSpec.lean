/- The words of a text, one behind the other with a blank or a comment between, are its words: on plain lists of bytes. -/
import Derived.Test.YtiphmnffjdgdmaaSpec2
namespace Go.Proofs.Ytiphmnffjdgdmaa

def blankSep : List UInt8 := [32]
def commentSep : List UInt8 := [40, 42, 32, 40, 42, 42, 41, 32, 42, 41]

def joinW (sep : List UInt8) (ws : List (List UInt8)) : List UInt8 := ws.flatMap fun w => w ++ sep

/-- A word that is read again wherever a blank or a bracket follows it. -/
def Good (w : List UInt8) : Prop := ∀ (z : UInt8) (rest : List UInt8), z = 32 ∨ z = 40 →
  wordOf (w ++ z :: rest) = .ok w ∧ skp (w ++ z :: rest) = .ok (w ++ z :: rest) ∧ w ≠ []

theorem leadOf_again {p : Int → Bool} {z : UInt8} (rest : List UInt8) (hz : p z.toNat = false) : ∀ r : List UInt8, leadOf p (leadOf p r ++ z :: rest) = leadOf p r
  | [] => by simp [leadOf, hz]
  | a :: r => by
    have ih := leadOf_again rest hz r
    unfold leadOf at *
    cases ha : p a.toNat
    · rw [List.takeWhile_cons, ha]
      simp [hz]
    · rw [List.takeWhile_cons, ha]
      simp only [if_true, List.cons_append]
      rw [List.takeWhile_cons, ha]
      simp only [if_true]
      rw [ih]

theorem sep_no {z : UInt8} (hz : z = 32 ∨ z = 40) : lod z.toNat = false ∧ isDigit z.toNat = false ∧ z ≠ 61 ∧ z ≠ 42 := by
  rcases hz with rfl | rfl <;> decide

theorem headD_append {c : UInt8} {l x : List UInt8} : (c :: l ++ x).headD 0 = c := rfl

theorem leadOf_head {p : Int → Bool} {c : UInt8} {r : List UInt8} (h : p c.toNat = true) : leadOf p (c :: r) = c :: leadOf p r := by
  unfold leadOf; rw [List.takeWhile_cons, if_pos h]

theorem starts_cons (a b x y : UInt8) (r : List UInt8) : starts (a :: b :: r) x y = (a == x && b == y) := by
  simp [starts]

theorem blank_not_letter {n : Int} (h : isLetter n = true) : isBlank n = false := by
  simp [isLetter] at h; simp [isBlank]; omega
theorem blank_not_digit {n : Int} (h : isDigit n = true) : isBlank n = false := by
  simp [isDigit] at h; simp [isBlank]; omega

theorem u8_of {c : UInt8} {n : Nat} (h : c.toNat = n) : c = UInt8.ofNat n := by rw [← h]; simp

theorem starts_first {c : UInt8} {r : List UInt8} {x y : UInt8} (h : c ≠ x) : starts (c :: r) x y = false := by
  unfold starts
  rw [beq_eq_false_iff_ne]
  intro e
  cases r with
  | nil => simp at e
  | cons b r => simp at e; exact h e.1

theorem signs_not_lod : ∀ c ∈ signs, isLetter c.toNat = false ∧ isDigit c.toNat = false ∧ isBlank c.toNat = false := by decide

theorem signOf_pair {a : UInt8} {r : List UInt8} (h : a = 58 ∨ a = 60 ∨ a = 62) : signOf (a :: 61 :: r) = [a, 61] := by
  rcases h with rfl | rfl | rfl <;> simp [signOf, starts]

theorem signOf_single {a z : UInt8} {r : List UInt8} (h : a ∈ signs) (hz : z ≠ 61) : signOf (a :: z :: r) = [a] := by
  have h1 : ∀ x, starts (a :: z :: r) x 61 = false := fun x => by rw [starts_cons]; simp [hz]
  have h2 : signs.contains a = true := by simpa using h
  unfold signOf
  rw [h1, h1, h1]
  simp [h]

/-- What a sign is. -/
theorem signOf_cases {c : UInt8} {r : List UInt8} (h : signOf (c :: r) ≠ []) : (signOf (c :: r) = [c, 61] ∧ (c = 58 ∨ c = 60 ∨ c = 62)) ∨ (signOf (c :: r) = [c] ∧ c ∈ signs) := by
  by_cases hp : (starts (c :: r) 58 61 || starts (c :: r) 60 61 || starts (c :: r) 62 61) = true
  · left
    have e : signOf (c :: r) = (c :: r).take 2 := by unfold signOf; rw [if_pos hp]
    rw [e]
    cases r with
    | nil => simp [starts] at hp
    | cons b r =>
      simp [starts] at hp
      rcases hp with (⟨rfl, rfl⟩ | ⟨rfl, rfl⟩) | ⟨rfl, rfl⟩ <;> simp
  · right
    have e : signOf (c :: r) = if (c :: r).take 1 ≠ [] ∧ signs.contains ((c :: r).headD 0) = true then (c :: r).take 1 else [] := by
      unfold signOf; rw [if_neg hp]
    by_cases hc : signs.contains c = true
    · rw [e, if_pos ⟨by simp, hc⟩]
      exact ⟨rfl, by simpa using hc⟩
    · rw [if_neg (by intro h2; exact hc h2.2)] at e
      exact absurd e h

theorem good_of {c : UInt8} {r w : List UInt8} (h : wordOf (c :: r) = .ok w) (hb : isBlank c.toNat = false) (hs : starts (c :: r) 40 42 = false) : Good w := by
  intro z rest hz
  obtain ⟨z1, z2, z3, z4⟩ := sep_no hz
  unfold wordOf at h
  have hh : (c :: r).headD 0 = c := rfl
  rw [hh] at h
  by_cases hl : isLetter c.toNat = true
  · rw [if_pos hl] at h
    by_cases h12 : 12 < (leadOf lod (c :: r)).length
    · rw [if_pos h12] at h; cases h
    · rw [if_neg h12] at h
      cases h
      have hc : leadOf lod (c :: r) = c :: leadOf lod r := leadOf_head (by simp [lod, hl])
      have hag := leadOf_again (p := lod) rest z1 (c :: r)
      have hne : c ≠ 40 := by intro e; subst e; simp [isLetter] at hl
      refine ⟨?_, ?_, by rw [hc]; simp⟩
      · rw [hc] at hag h12 ⊢
        unfold wordOf
        rw [headD_append, if_pos hl, hag, if_neg h12]
      · rw [hc]
        exact skp_word hb (starts_first hne)
  · rw [if_neg hl] at h
    by_cases hd : isDigit c.toNat = true
    · rw [if_pos hd] at h
      cases hv : valueFrom 0 (leadOf isDigit (c :: r)) with
      | none => rw [hv] at h; cases h
      | some v =>
        rw [hv] at h
        cases h
        have hc : leadOf isDigit (c :: r) = c :: leadOf isDigit r := leadOf_head hd
        have hag := leadOf_again (p := isDigit) rest z2 (c :: r)
        have hne : c ≠ 40 := by intro e; subst e; simp [isDigit] at hd
        refine ⟨?_, ?_, by rw [hc]; simp⟩
        · rw [hc] at hag hv ⊢
          unfold wordOf
          rw [headD_append, if_neg hl, if_pos hd, hag, hv]
        · rw [hc]
          exact skp_word hb (starts_first hne)
    · rw [if_neg hd] at h
      by_cases hsg : signOf (c :: r) = []
      · rw [if_pos hsg] at h; cases h
      · rw [if_neg hsg] at h
        cases h
        rcases signOf_cases hsg with ⟨e, hp⟩ | ⟨e, hm⟩
        · rw [e]
          have hne : c ≠ 40 := by rcases hp with rfl | rfl | rfl <;> decide
          refine ⟨?_, skp_word hb (starts_first hne), by simp⟩
          show wordOf (c :: 61 :: z :: rest) = _
          unfold wordOf
          have hh : (c :: 61 :: z :: rest).headD 0 = c := rfl
          rw [hh, if_neg hl, if_neg hd, signOf_pair hp]
          rfl
        · rw [e]
          have hst : starts (c :: z :: rest) 40 42 = false := by rw [starts_cons]; simp [z4]
          refine ⟨?_, skp_word hb hst, by simp⟩
          show wordOf (c :: z :: rest) = _
          unfold wordOf
          have hh : (c :: z :: rest).headD 0 = c := rfl
          rw [hh, if_neg hl, if_neg hd, signOf_single hm z3]
          rfl

theorem skipN_ok : ∀ (n : Nat) (r : List UInt8) (c : UInt8) (r' : List UInt8), r.length ≤ n → skipN n r = .ok (c :: r') → isBlank c.toNat = false ∧ starts (c :: r') 40 42 = false
  | 0, r, c, r', hn, h => by
    cases r with
    | nil => simp [skipN] at h
    | cons a r => simp at hn
  | n + 1, [], c, r', hn, h => by simp [skipN] at h
  | n + 1, a :: r, c, r', hn, h => by
    simp only [List.length_cons] at hn
    rw [skipN] at h
    cases hb : isBlank a.toNat
    · rw [hb, if_neg (by simp)] at h
      cases hs : starts (a :: r) 40 42
      · rw [hs, if_neg (by simp)] at h
        cases h
        exact ⟨hb, hs⟩
      · rw [hs, if_pos rfl] at h
        cases hc : cmt 0 (a :: r) with
        | none => rw [hc] at h; cases h
        | some r1 =>
          rw [hc] at h
          obtain ⟨p, hp, hl⟩ := cmt_suffix' hc
          have hlen := congrArg List.length hp
          simp only [List.length_cons, List.length_append] at hlen
          exact skipN_ok n r1 c r' (by omega) h
    · rw [hb, if_pos rfl] at h
      exact skipN_ok n r c r' (by omega) h

theorem skp_ok {r : List UInt8} {c : UInt8} {r' : List UInt8} (h : skp r = .ok (c :: r')) : isBlank c.toNat = false ∧ starts (c :: r') 40 42 = false :=
  skipN_ok _ r c r' (Nat.le_refl _) h

/-- The words of a text are good ones, with the END behind them; and each lies in the text. -/
theorem toksN_good : ∀ (n : Nat) (r : List UInt8) (l : List (List UInt8 × List UInt8)), r.length < n → toksN n r = .ok l →
    (∃ ws : List (List UInt8), l.map (·.1) = ws ++ [[]] ∧ ∀ w ∈ ws, Good w) ∧ ∀ x ∈ l, x.1.length ≤ x.2.length ∧ x.2.length ≤ r.length
  | 0, r, l, hn, h => by omega
  | n + 1, r, l, hn, h => by
    rw [toksN_succ] at h
    cases hk : skp r with
    | error f => rw [hk] at h; cases h
    | ok r1 =>
      rw [hk] at h
      obtain ⟨p, hp⟩ := skp_suffix hk
      have hlen := congrArg List.length hp
      simp only [List.length_append] at hlen
      cases r1 with
      | nil =>
        cases h
        exact ⟨⟨[], by simp, by simp⟩, by simp⟩
      | cons c r1 =>
        obtain ⟨hb, hs⟩ := skp_ok hk
        simp only [tokA] at h
        cases hw : wordOf (c :: r1) with
        | error e => rw [hw] at h; cases h
        | ok w =>
          rw [hw] at h
          simp only at h
          obtain ⟨_, hpos⟩ := wordOf_pre hw
          have hwl := wordOf_len hw
          have hdl : ((c :: r1).drop w.length).length = (c :: r1).length - w.length := List.length_drop
          cases ht : toksN n ((c :: r1).drop w.length) with
          | error x => rw [ht] at h; cases h
          | ok l1 =>
            rw [ht] at h
            cases h
            obtain ⟨⟨ws, h1, h2⟩, h3⟩ := toksN_good n _ l1 (by omega) ht
            refine ⟨⟨w :: ws, ?_, ?_⟩, ?_⟩
            · show w :: l1.map (·.1) = _
              rw [h1]; rfl
            · intro x hx
              rcases List.mem_cons.1 hx with rfl | hx
              · exact good_of hw hb hs
              · exact h2 x hx
            · intro x hx
              rcases List.mem_cons.1 hx with rfl | hx
              · exact ⟨hwl, by show (c :: r1).length ≤ r.length; omega⟩
              · have := h3 x hx
                exact ⟨this.1, by omega⟩

theorem toksN_count : ∀ (n : Nat) (r : List UInt8) (l : List (List UInt8 × List UInt8)), toksN n r = .ok l → l.length ≤ r.length + 1
  | 0, r, l, h => by cases h; simp
  | n + 1, r, l, h => by
    rw [toksN_succ] at h
    cases hk : skp r with
    | error f => rw [hk] at h; cases h
    | ok r1 =>
      rw [hk] at h
      obtain ⟨p, hp⟩ := skp_suffix hk
      have hlen := congrArg List.length hp
      simp only [List.length_append] at hlen
      cases r1 with
      | nil => cases h; simp
      | cons c r1 =>
        simp only [tokA] at h
        cases hw : wordOf (c :: r1) with
        | error e => rw [hw] at h; cases h
        | ok w =>
          rw [hw] at h
          simp only at h
          obtain ⟨_, hpos⟩ := wordOf_pre hw
          have hwl := wordOf_len hw
          have hdl : ((c :: r1).drop w.length).length = (c :: r1).length - w.length := List.length_drop
          cases ht : toksN n ((c :: r1).drop w.length) with
          | error x => rw [ht] at h; cases h
          | ok l1 =>
            rw [ht] at h
            cases h
            have := toksN_count n _ l1 ht
            show ([(w, c :: r1)] ++ l1).length ≤ _
            rw [List.length_append, List.length_singleton]
            omega

theorem toks_count {t : List UInt8} {l : List (List UInt8 × List UInt8)} (h : toks t = .ok l) : l.length ≤ t.length + 1 := toksN_count _ t l h

def IsSep (sep : List UInt8) : Prop := (∀ x, skp (sep ++ x) = skp x) ∧ ∃ z rest, sep = z :: rest ∧ (z = 32 ∨ z = 40)

theorem blank_sep : IsSep blankSep := ⟨fun x => skp_blank (by decide), 32, [], rfl, .inl rfl⟩
theorem comment_sep : IsSep commentSep := by
  refine ⟨fun x => ?_, 40, [42, 32, 40, 42, 42, 41, 32, 42, 41], rfl, .inr rfl⟩
  refine skp_shut (c := 40) (r := [42, 32, 40, 42, 42, 41, 32, 42, 41] ++ x) (by decide) rfl ?_
  show cmt 0 (40 :: 42 :: 32 :: 40 :: 42 :: 42 :: 41 :: 32 :: 42 :: 41 :: x) = some x
  simp [cmt_two]

theorem toksN_join {sep : List UInt8} (hsep : IsSep sep) : ∀ (ws : List (List UInt8)) (n : Nat), ws.length < n → (∀ w ∈ ws, Good w) →
    ∃ l, toksN n (joinW sep ws ++ sep) = .ok l ∧ l.map (·.1) = ws ++ [[]]
  | [], 0, hn, _ => by simp at hn
  | [], n + 1, _, _ => by
    refine ⟨[([], [])], ?_, rfl⟩
    have : skp (joinW sep [] ++ sep) = .ok [] := by
      have := hsep.1 []
      simpa [joinW, skp_nil] using this
    rw [toksN_succ, this]
    rfl
  | w :: ws, 0, hn, _ => by simp at hn
  | w :: ws, n + 1, hn, hg => by
    obtain ⟨hskp, z, zs, hz, hz2⟩ := hsep
    have hgw := hg w (by simp)
    obtain ⟨l, hl, hm⟩ := toksN_join ⟨hskp, z, zs, hz, hz2⟩ ws n (by simpa using hn) (fun x hx => hg x (by simp [hx]))
    have e1 : joinW sep (w :: ws) ++ sep = w ++ z :: (zs ++ (joinW sep ws ++ sep)) := by
      simp [joinW, hz]
    obtain ⟨g1, g2, g3⟩ := hgw z (zs ++ (joinW sep ws ++ sep)) hz2
    have e2 : (w ++ z :: (zs ++ (joinW sep ws ++ sep))).drop w.length = sep ++ (joinW sep ws ++ sep) := by
      rw [List.drop_left, hz]; rfl
    have e3 : toksN n (sep ++ (joinW sep ws ++ sep)) = toksN n (joinW sep ws ++ sep) := by
      cases n with
      | zero => simp at hn
      | succ n => rw [toksN_succ, toksN_succ, hskp]
    refine ⟨(w, w ++ z :: (zs ++ (joinW sep ws ++ sep))) :: l, ?_, by simp [hm]⟩
    rw [e1, toksN_succ, g2]
    cases w with
    | nil => exact absurd rfl g3
    | cons c w =>
      simp only [tokA, List.cons_append]
      rw [List.cons_append] at g1 e2
      rw [g1]
      simp only
      rw [e2, e3, hl]
      rfl

/-- The words of the joined words of a text. -/
theorem toks_join {t sep : List UInt8} {l : List (List UInt8 × List UInt8)} (hsep : IsSep sep) (h : toks t = .ok l) :
    ∃ l', toks (joinW sep (l.map (·.1))) = .ok l' ∧ l'.map (·.1) = l.map (·.1) := by
  obtain ⟨⟨ws, h1, h2⟩, _⟩ := toksN_good (t.length + 1) t l (by omega) h
  have e : joinW sep (l.map (·.1)) = joinW sep ws ++ sep := by rw [h1]; simp [joinW]
  have hlen : ws.length ≤ (joinW sep ws).length := by
    obtain ⟨_, z, zs, hz, _⟩ := hsep
    clear h1 h2 e
    induction ws with
    | nil => simp
    | cons w ws ih => simp [joinW, hz] at ih ⊢; omega
  rw [e, h1]
  exact toksN_join hsep ws _ (by rw [List.length_append]; omega) h2

theorem toks_in {t : List UInt8} {l : List (List UInt8 × List UInt8)} (h : toks t = .ok l) : ∀ x ∈ l, x.1.length ≤ x.2.length ∧ x.2.length ≤ t.length :=
  (toksN_good (t.length + 1) t l (by omega) h).2

end Go.Proofs.Ytiphmnffjdgdmaa
