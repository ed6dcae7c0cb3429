/- The document's reader: what holds at the head of a loop. -/
import Derived.Test.YtbphiiaoncakfaaGreatDoorG07
import Derived.Test.YtbphiiaoncakfaaGreatDoorG10
import Derived.Test.YtbphiiaoncakfaaGreatDoorG05
import Derived.Test.YtbphiiaoncakfaaGreatDoorG04
import Derived.Test.YtbphiiaoncakfaaGreatDoorG02
namespace Go.Proofs.YtbphiiaoncakfaaGreatDoor
open Go.RowKit

structure SQ (c : RC) (w : World) (s0 : QS) (d : Nat) (r : List T × QS) (q : Nat → List T → Q (List T)) (v : Value) (wr : World) (acc : List T) (s : QS) (f lo : Nat) : Prop where
  lr : LR wr (In lo wr.heap.size) acc v
  ps : RS c wr s d
  gb : w.grownBy wr (some c.rb)
  same : r = q f acc s
  fuel : s.2 = none → c.L.length ≤ f + s.1
  len : acc.length + f ≤ c.L.length + 2
  le : s0.1 ≤ s.1
  low : w.heap.size ≤ lo
  low2 : lo ≤ wr.heap.size

/-- What is left to be read, as the reader's block tells it: nothing, where something is wrong. -/
def leftOf (w : World) (b n : Nat) : Nat := match w.cell? ⟨b, 3, none⟩ with
  | some v => if intOf v = 0 then n - atOf w b + 1 else 0
  | none => 0
theorem RS.atOf {c : RC} {w : World} {s : QS} {d : Nat} (h : RS c w s d) : atOf w c.rb = s.1 := by unfold Proofs.YtbphiiaoncakfaaGreatDoor.atOf; rw [h.c1]; simp [intOf]
theorem RS.left_ok {c : RC} {w : World} {s : QS} {d n : Nat} (h : RS c w s d) (hs : s.2 = none) : leftOf w c.rb n = n - s.1 + 1 := by
  unfold leftOf
  rw [h.c3, h.atOf, hs]
  rfl
theorem RS.left_bad {c : RC} {w : World} {s : QS} {d n : Nat} (h : RS c w s d) (hs : s.2 ≠ none) : leftOf w c.rb n = 0 := by
  unfold leftOf
  rw [h.c3]; cases hx : s.2 with
  | none => exact absurd hx hs
  | some x =>
    have := h.nz x hx
    simp [badE, intOf, this]
theorem RS.left_less {c : RC} {w w' : World} {s s' : QS} {d d' n : Nat} (h : RS c w s d) (h' : RS c w' s' d') (hs : s.2 = none) (hn : s'.2 = none → s.1 < s'.1) (hl : s.1 < n) : leftOf w' c.rb n < leftOf w c.rb n := by
  rw [h.left_ok hs]
  by_cases hb : s'.2 = none
  · rw [h'.left_ok hb]
    have := hn hb
    omega
  · rw [h'.left_bad hb]
    omega

theorem isQ_true {L : List Tok} {x : List UInt8} {s s' : QS} (h : isQ L x s = (true, s')) : s.2 = none ∧ wd L s.1 = x ∧ s' = (s.1 + 1, none) := by
  unfold isQ at h
  split at h
  · rename_i h9
    cases h
    exact ⟨h9.1, h9.2, rfl⟩
  · cases h
theorem isQ_false {L : List Tok} {x : List UInt8} {s s' : QS} (h : isQ L x s = (false, s')) : s' = s ∧ ¬ (s.2 = none ∧ wd L s.1 = x) := by
  unfold isQ at h
  split at h
  · cases h
  · rename_i h9
    cases h
    exact ⟨rfl, h9⟩
theorem otherQ_bad (L : List Tok) (s : QS) : (otherQ L s).2.2 ≠ none := by unfold otherQ; exact (stopQ_some L _ s).1
theorem needQ_ok {L : List Tok} {x : List UInt8} {s s' : QS} {u : Unit} (h : needQ L x s = (u, s')) (hs : s'.2 = none) : s.2 = none ∧ wd L s.1 = x ∧ s'.1 = s.1 + 1 := by
  unfold needQ at h
  cases hb : isQ L x s with
  | mk b s1 =>
    rw [Q.bind_eq hb] at h; cases b with
    | true =>
      obtain ⟨h1, h2, h3⟩ := isQ_true hb; rw [if_pos rfl] at h; cases h
      exact ⟨h1, h2, by rw [h3]⟩
    | false =>
      rw [if_neg (by decide)] at h
      exact absurd (by rw [h]; exact hs) (otherQ_bad L s1)
theorem Q.bind_at {α β : Type} {q q' : Q α} {k : α → Q β} {s s' : QS} (h : q s = q' s') : q.bind k s = q'.bind k s' := by unfold Q.bind; rw [h]
end Go.Proofs.YtbphiiaoncakfaaGreatDoor

/- The words of a text: what the readers lean on. -/
namespace Go.Proofs.YtbphiiaoncakfaaGreatDoor
open Go.RowKit

theorem flatT_word {n : Nat} {l : List (List UInt8 × List UInt8)} {i : Nat} (h : i < l.length) : (flatT n l)[i * 2]? = some (.string ⟨(l[i]).1.toArray⟩) ∧ (flatT n l)[i * 2 + 1]? = some (.int .i64 ((n - (l[i]).2.length : Nat) : Int)) := by
  induction l generalizing i with
  | nil => simp at h
  | cons a l ih =>
    have e : flatT n (a :: l) = .string ⟨a.1.toArray⟩ :: .int .i64 ((n - a.2.length : Nat) : Int) :: flatT n l := rfl
    cases i with
    | zero => rw [e]; simp
    | succ i =>
      have := ih (i := i) (by simpa using h); rw [e, show (i + 1) * 2 = i * 2 + 1 + 1 from by omega]
      simpa using this

theorem own_shape {w : World} {base : Nat} {e : TypeId} {size : Nat} {v : Value} {n : Nat} {xs : List Value} (h : w.ownsRow base e size v n xs) (hn : n ≠ 0) : ∃ g cap, v = .slice (some ⟨g, 0, none⟩) n cap := by
  rcases h.2 with ⟨_, h0⟩ | ⟨g, cap, cur, hv, _⟩
  · exact absurd h0 hn
  · exact ⟨g, cap, hv⟩

theorem toksN_ne : ∀ (n : Nat) (r : List UInt8) (l : List (List UInt8 × List UInt8)), r.length < n → toksN n r = .ok l → l.length ≠ 0 ∧ l.length ≤ r.length + 1
  | 0, r, l, hn, h => by omega
  | n + 1, r, l, hn, h => by
    rw [toksN_succ] at h; cases hk : skp r with
    | error f => rw [hk] at h; cases h
    | ok r1 =>
      rw [hk] at h; obtain ⟨p, hp⟩ := skp_suffix hk; have hlen := congrArg List.length hp; simp only [List.length_append] at hlen; cases r1 with
      | nil => cases h; simp
      | cons c r1 =>
        simp only [tokA] at h; cases hw : wordOf (c :: r1) with
        | error e => rw [hw] at h; cases h
        | ok w =>
          rw [hw] at h; simp only at h; obtain ⟨_, hpos⟩ := wordOf_pre hw; have hwl := wordOf_len hw; have hdl : ((c :: r1).drop w.length).length = (c :: r1).length - w.length := List.length_drop; cases ht : toksN n ((c :: r1).drop w.length) with
          | error x => rw [ht] at h; cases h
          | ok l1 =>
            rw [ht] at h; cases h; have := toksN_ne n _ l1 (by omega) ht
            show ([(w, c :: r1)] ++ l1).length ≠ 0 ∧ ([(w, c :: r1)] ++ l1).length ≤ _
            rw [List.length_append, List.length_singleton]
            omega


/-- What a word is like. -/
structure WordLike (w : List UInt8) : Prop where
  ne : w ≠ []
  low : ((w.headD 0).toNat) < 128
  dig : isDigit ((w.headD 0).toNat : Int) = true → (∀ c ∈ w, isDigit (c.toNat : Int) = true) ∧ ∃ n, valueFrom 0 w = some n

theorem headD_of_take {c : UInt8} {r w : List UInt8} (h : (c :: r).take w.length = w) (h1 : 1 ≤ w.length) : w.headD 0 = c := by
  cases w with
  | nil => simp at h1
  | cons a w => simp at h; simp [h.1]
theorem letter_low {n : Nat} (h : isLetter (n : Int) = true) : n < 128 := by simp [isLetter] at h; omega
theorem digit_low {n : Nat} (h : isDigit (n : Int) = true) : n < 128 := by simp [isDigit] at h; omega
theorem sign_low : ∀ c ∈ signs, c.toNat < 128 := by decide
theorem wordLike {c : UInt8} {r w : List UInt8} (h : wordOf (c :: r) = .ok w) : WordLike w := by
  obtain ⟨h1, h2⟩ := wordOf_pre h; have hh := headD_of_take h1 h2
  have hne : w ≠ [] := by intro e; rw [e] at h2; simp at h2
  unfold wordOf at h
  rw [show (c :: r).headD 0 = c from rfl] at h
  by_cases hl : isLetter c.toNat = true
  · exact ⟨hne, by rw [hh]; exact letter_low hl, fun hd => by rw [hh] at hd; simp [isLetter, isDigit] at hl hd; omega⟩
  · rw [if_neg hl] at h
    by_cases hd : isDigit c.toNat = true
    · rw [if_pos hd] at h
      refine ⟨hne, by rw [hh]; exact digit_low hd, fun _ => ?_⟩; cases hv : valueFrom 0 (leadOf isDigit (c :: r)) with
      | none => rw [hv] at h; cases h
      | some n =>
        rw [hv] at h; cases h
        exact ⟨fun c hc => leadOf_all hc, n, hv⟩
    · rw [if_neg hd] at h
      refine ⟨hne, ?_, fun hd' => by rw [hh] at hd'; exact absurd hd' hd⟩; rw [hh]
      split at h
      · cases h
      · rename_i hs
        unfold signOf at hs
        split at hs
        · rename_i h9
          simp only [starts, Bool.or_eq_true, beq_iff_eq] at h9
          have key : ∀ (a b : UInt8), (c :: r).take 2 = [a, b] → c = a := fun a b e => by
            cases r with
            | nil => simp at e
            | cons d r => simp at e; exact e.1
          rcases h9 with (h9 | h9) | h9 <;> (rw [key _ _ h9]; decide)
        · split at hs
          · rename_i h9
            exact sign_low c (by have := h9.2; simpa using this)
          · simp at hs

theorem toksN_like : ∀ (n : Nat) (r : List UInt8) (l : List (List UInt8 × List UInt8)), r.length < n → toksN n r = .ok l → ∃ l0, l = l0 ++ [([], [])] ∧ ∀ x ∈ l0, WordLike x.1 ∧ x.1.length ≤ r.length
  | 0, r, l, hn, h => by omega
  | n + 1, r, l, hn, h => by
    rw [toksN_succ] at h; cases hk : skp r with
    | error f => rw [hk] at h; cases h
    | ok r1 =>
      rw [hk] at h; obtain ⟨p, hp⟩ := skp_suffix hk; have hlen := congrArg List.length hp; simp only [List.length_append] at hlen; cases r1 with
      | nil => cases h; exact ⟨[], rfl, fun x hx => by simp at hx⟩
      | cons c r1 =>
        simp only [tokA] at h; cases hw : wordOf (c :: r1) with
        | error e => rw [hw] at h; cases h
        | ok w =>
          rw [hw] at h; simp only at h; obtain ⟨_, hpos⟩ := wordOf_pre hw; have hwl := wordOf_len hw; have hdl : ((c :: r1).drop w.length).length = (c :: r1).length - w.length := List.length_drop; cases ht : toksN n ((c :: r1).drop w.length) with
          | error x => rw [ht] at h; cases h
          | ok l1 =>
            rw [ht] at h; cases h; obtain ⟨l0, rfl, h0⟩ := toksN_like n _ l1 (by omega) ht; refine ⟨(w, c :: r1) :: l0, by simp, fun x hx => ?_⟩
            rcases List.mem_cons.1 hx with e | e
            · rw [e]; exact ⟨wordLike hw, by show w.length ≤ _; omega⟩
            · exact ⟨(h0 x e).1, by have := (h0 x e).2; omega⟩

/-- The words of a text of so many bytes, with their places. -/
def tokL (n : Nat) (l : List (List UInt8 × List UInt8)) : List Tok := l.map fun x => (x.1, ((n - x.2.length : Nat) : Int))

theorem tokL_len (n : Nat) (l : List (List UInt8 × List UInt8)) : (tokL n l).length = l.length := by simp [tokL]
theorem wd_tokL (n : Nat) (l : List (List UInt8 × List UInt8)) (j : Nat) (h : j < l.length) : wd (tokL n l) j = l[j].1 := by simp [wd, tokL, h]
theorem pos_tokL (n : Nat) (l : List (List UInt8 × List UInt8)) (j : Nat) (h : j < l.length) : pos (tokL n l) j = ((n - l[j].2.length : Nat) : Int) := by simp [pos, tokL, h]
theorem wd_none (L : List Tok) (j : Nat) (h : L.length ≤ j) : wd L j = [] := by simp [wd, h]

theorem tokL_like {t : List UInt8} {l : List (List UInt8 × List UInt8)} (h : toks t = .ok l) : ∃ l0, l = l0 ++ [([], [])] ∧ ∀ j, j < l0.length → WordLike (wd (tokL t.length l) j) ∧ (wd (tokL t.length l) j).length ≤ t.length := by
  obtain ⟨l0, rfl, h0⟩ := toksN_like _ _ _ (Nat.lt_succ_self _) h; refine ⟨l0, rfl, fun j hj => ?_⟩; rw [wd_tokL _ _ _ (by simp; omega), List.getElem_append_left hj]
  exact h0 _ (List.getElem_mem hj)

theorem tokL_cases {t : List UInt8} {l : List (List UInt8 × List UInt8)} (h : toks t = .ok l) (j : Nat) : (j + 1 < l.length ∧ WordLike (wd (tokL t.length l) j) ∧ (wd (tokL t.length l) j).length ≤ t.length) ∨ (l.length ≤ j + 1 ∧ wd (tokL t.length l) j = []) := by
  obtain ⟨l0, hl, h0⟩ := tokL_like h
  have hlen : l.length = l0.length + 1 := by rw [hl]; simp
  by_cases hj : j < l0.length
  · exact .inl ⟨by omega, h0 j hj⟩
  · refine .inr ⟨by omega, ?_⟩
    by_cases hj2 : j < l.length
    · rw [wd_tokL _ _ _ hj2]
      have e : j = l0.length := by omega
      subst e
      simp [hl]
    · exact wd_none _ _ (by rw [tokL_len]; omega)

theorem goodL {t : List UInt8} {l : List (List UInt8 × List UInt8)} (h : toks t = .ok l) (ht : t.length ≤ 4000) : GoodL (tokL t.length l) where
  last := fun j hj => by
    rw [tokL_len] at hj ⊢
    rcases tokL_cases h j with ⟨h1, h2, _⟩ | ⟨h1, h2⟩
    · exact ⟨fun e => absurd e h2.ne, fun e => by omega⟩
    · exact ⟨fun _ => by omega, fun _ => h2⟩
  short := fun j => by
    rcases tokL_cases h j with ⟨_, _, h3⟩ | ⟨_, h2⟩
    · omega
    · rw [h2]; simp
  few := by rw [tokL_len]; have := (toksN_ne _ _ _ (Nat.lt_succ_self _) h).2; omega
  dig := fun j hd => by
    rcases tokL_cases h j with ⟨_, h2, _⟩ | ⟨_, h2⟩
    · exact (h2.dig hd).1
    · rw [h2] at hd; simp [isDigit] at hd
  low := fun j => by
    rcases tokL_cases h j with ⟨_, h2, _⟩ | ⟨_, h2⟩
    · exact h2.low
    · rw [h2]; decide
  val := fun j hn hd => by
    rcases tokL_cases h j with ⟨_, h2, _⟩ | ⟨_, h2⟩
    · exact (h2.dig hd).2
    · exact absurd h2 hn

theorem goodW (L : List Tok) : GoodW L where
  num := fun i n h => by
    unfold numOf at h
    split at h
    · rename_i h9
      have hd := h9.2
      unfold nameB shapeB
      have : isLetter (((wd L i).headD 0).toNat : Int) = false := by simp [isDigit] at hd; simp [isLetter]; omega
      rw [this]
      simp
    · cases h
  kEND := by decide +kernel
end Go.Proofs.YtbphiiaoncakfaaGreatDoor
