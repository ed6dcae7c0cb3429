/- The document's answer for the words of a text tells what the plain functions tell. -/
import Derived.Test.YtbphiiaoncakfaaGreatDoorG03
namespace Go.Proofs.YtbphiiaoncakfaaGreatDoor
open Go.RowKit

def badV (e t a : Int) : Value := .agg #[.int .i64 e, .int .i64 t, .int .i64 a]

/-- What the document's answer tells, and what memory it leaves. -/
def WordsPost (t : List UInt8) (w : World) (e : Ending) (w' : World) : Prop :=
  (4000 < t.length → e = .returned (.tuple #[.slice none 0 0, badV 3 (-1) (-1)])) ∧
  (t.length ≤ 4000 → ∀ l, toks t = .ok l → ∃ v, e = .returned (.tuple #[v, badV 0 (-1) (-1)]) ∧ w'.ownsRow w.heap.size 63 2 v l.length (flatT t.length l)) ∧
  (t.length ≤ 4000 → ∀ n f, toks t = .error (n, f) → e = .returned (.tuple #[.slice none 0 0, badV n 0 ((t.length - f.length : Nat) : Int)])) ∧
  Below w.heap.size w w'

/-- What holds when the next byte is looked at. -/
structure WI (w : World) (s : ByteArray) (v : Value) (wr : World) (k : Nat) (acc : List (List UInt8 × List UInt8)) (m : Nat) : Prop where
  le : k ≤ s.size
  own : wr.ownsRow (w.heap.size + 1) 63 2 v acc.length (flatT s.size acc)
  below : Below (w.heap.size + 1) (w.alloc (.cells #[.int .i64 0, .int .i64 0, .int .i64 0] 28)) wr
  same : pre acc (toksN (m + 1) (s.data.toList.drop k)) = toks s.data.toList
  fuel : s.size ≤ m + k
  count : acc.length ≤ k

theorem WI.c0 {w : World} {s : ByteArray} {v : Value} {wr : World} {k m : Nat} {acc : List (List UInt8 × List UInt8)} (h : WI w s v wr k acc m) (o : Nat) (ho : o < 3) : wr.cell? ⟨w.heap.size, o, none⟩ = some (.int .i64 0) := by
  rw [h.below.cell (by simp)]
  match o, ho with
  | 0, _ => simp
  | 1, _ => rw [World.cell?_alloc_at _ _ _ _ rfl]; rfl
  | 2, _ => rw [World.cell?_alloc_at _ _ _ _ rfl]; rfl
theorem WI.z0 {w : World} {s : ByteArray} {v : Value} {wr : World} {k m : Nat} {acc : List (List UInt8 × List UInt8)} (h : WI w s v wr k acc m) (o : Nat) : wr.frozen? ⟨w.heap.size, o, none⟩ = false := by
  rw [h.below.frozen (by simp)]
  exact World.frozen?_alloc_at _ _ _ _ rfl

theorem WI.bw {w : World} {s : ByteArray} {v : Value} {wr : World} {k m : Nat} {acc : List (List UInt8 × List UInt8)} (h : WI w s v wr k acc m) : Below w.heap.size w wr :=
  ((Below.refl w.heap.size w).alloc (Nat.le_refl _) _).trans (h.below.mono (by omega))

theorem bad_cells {w wr : World} (h : Below (w.heap.size + 1) (w.alloc (.cells #[.int .i64 0, .int .i64 0, .int .i64 0] 28)) wr) :
    wr.cell? ⟨w.heap.size, 0, none⟩ = some (.int .i64 0) ∧ wr.cell? ⟨w.heap.size, 1, none⟩ = some (.int .i64 0) ∧ wr.cell? ⟨w.heap.size, 2, none⟩ = some (.int .i64 0) ∧ ∀ o, wr.frozen? ⟨w.heap.size, o, none⟩ = false :=
  ⟨by rw [h.cell (by simp)]; simp, by rw [h.cell (by simp), World.cell?_alloc_at _ _ _ _ rfl]; rfl, by rw [h.cell (by simp), World.cell?_alloc_at _ _ _ _ rfl]; rfl, fun o => by rw [h.frozen (by simp)]; exact World.frozen?_alloc_at _ _ _ _ rfl⟩

/-- An own row is kept by stores into a block below it. -/
theorem own_three {w : World} {base : Nat} {e : TypeId} {size : Nat} {v : Value} {n : Nat} {xs : List Value} {B : Nat} (h : w.ownsRow base e size v n xs) (hB : B < base) (x y z : Value) :
    (((w.setCell ⟨B, 0, none⟩ x).setCell ⟨B, 1, none⟩ y).setCell ⟨B, 2, none⟩ z).ownsRow base e size v n xs := by
  have hne : v.ownBlock = none ∨ v.ownBlock ≠ some B := .inr (fun e => by have := (h.lt B e).1; omega)
  exact ((h.kept (gb_set (gb_refl w (some B)) 0 x) hne).kept (gb_set (gb_refl _ (some B)) 1 y) hne).kept (gb_set (gb_refl _ (some B)) 2 z) hne

theorem toksN_skp {n : Nat} {r r' : List UInt8} (h : skp r = skp r') : toksN (n + 1) r = toksN (n + 1) r' := by rw [toksN_succ, toksN_succ, h]

theorem toksN_word {m : Nat} {c : UInt8} {r x : List UInt8} (hb : isBlank c.toNat = false) (hs : starts (c :: r) 40 42 = false) (hw : wordOf (c :: r) = .ok x) : toksN (m + 1) (c :: r) = pre [(x, c :: r)] (toksN m ((c :: r).drop x.length)) := by
  rw [toksN_succ, skp_word hb hs]; simp only [tokA, hw]
theorem toksN_wrong {m e : Nat} {c : UInt8} {r : List UInt8} (hb : isBlank c.toNat = false) (hs : starts (c :: r) 40 42 = false) (hw : wordOf (c :: r) = .error e) : toksN (m + 1) (c :: r) = .error (e, c :: r) := by
  rw [toksN_succ, skp_word hb hs]; simp only [tokA, hw]

/-- One word more. -/
theorem WI.word {w : World} {s : ByteArray} {v v' : Value} {wr w3 : World} {k m : Nat} {acc : List (List UInt8 × List UInt8)} {y : ByteArray} {x : List UInt8}
    (h : WI w s v wr k acc m) (hk : k < s.size) (hb : isBlank (s[k]'hk).toNat = false) (hs : starts (s.data.toList.drop k) 40 42 = false) (hw : wordOf (s.data.toList.drop k) = .ok x) (hy : y.data.toList = x)
    (ho : w3.ownsRow (w.heap.size + 1) 63 2 v' (acc.length + 1) (flatT s.size acc ++ [.string y, .int .i64 (k : Int)]))
    (hbw : Below (w.heap.size + 1) (w.alloc (.cells #[.int .i64 0, .int .i64 0, .int .i64 0] 28)) w3) :
    ∃ m', WI w s v' w3 (k + x.length) (acc ++ [(x, s.data.toList.drop k)]) m' := by
  have hd := drop_at s k hk; have hw' := hw; have hs' := hs; rw [hd] at hw' hs'; have hl := wordOf_len hw'; rw [← hd, List.length_drop, ← bs_size] at hl; have hpos := (wordOf_pre hw').2; have hf := h.fuel; have hcnt := h.count; obtain ⟨m', rfl⟩ : ∃ m', m = m' + 1 := ⟨m - 1, by omega⟩; refine ⟨m', by omega, ?_, hbw, ?_, by omega, by rw [List.length_append, List.length_singleton]; omega⟩
  · exact own_snoc ho hy (by rw [List.length_drop, ← bs_size]; omega)
  · rw [← h.same, hd, toksN_word hb hs' hw', pre_pre, ← hd, List.drop_drop]

theorem WI.start (w : World) (s : ByteArray) : WI w s (.slice none 0 0) (w.alloc (.cells #[.int .i64 0, .int .i64 0, .int .i64 0] 28)) 0 [] s.size :=
  ⟨Nat.zero_le _, World.ownsRow_nil _ _ _ _, Below.refl _ _, by rw [pre_nil, List.drop_zero]; unfold toks; rw [← bs_size], by omega, by simp⟩

/-- Something is wrong here. -/
theorem WI.wrong {w : World} {s : ByteArray} {v : Value} {wr : World} {k m e : Nat} {acc : List (List UInt8 × List UInt8)} (h : WI w s v wr k acc m) (hk : k < s.size) (hb : isBlank (s[k]'hk).toNat = false)
    (hs : starts (s.data.toList.drop k) 40 42 = false) (hw : wordOf (s.data.toList.drop k) = .error e) : toks s.data.toList = .error (e, s.data.toList.drop k) := by
  have hd := drop_at s k hk; rw [hd] at hw hs; rw [← h.same, hd, toksN_wrong hb hs hw]; rfl

theorem words_back {s : ByteArray} {w wr : World} {k n : Nat} (hl : s.size ≤ 4000) (hk : k ≤ s.size) (ht : toks s.data.toList = .error (n, s.data.toList.drop k)) (hb : Below w.heap.size w wr) :
    WordsPost s.data.toList w (.returned (.tuple #[.slice none 0 0, badV n 0 k])) wr := by
  refine ⟨fun h => ?_, fun _ l hl' => ?_, fun _ n' f hf => ?_, hb⟩
  · rw [← bs_size] at h; omega
  · rw [ht] at hl'; cases hl'
  · rw [ht] at hf
    cases hf; rw [List.length_drop, ← bs_size, show s.size - (s.size - k) = k from by omega]

theorem wordOf_at (s : ByteArray) (k : Nat) (hk : k < s.size) : wordOf (s.data.toList.drop k) = if isLetter (s[k]'hk).toNat then (if 12 < (leadOf lod (s.data.toList.drop k)).length then .error 3 else .ok (leadOf lod (s.data.toList.drop k)))
      else if isDigit (s[k]'hk).toNat then (match valueFrom 0 (leadOf isDigit (s.data.toList.drop k)) with | none => .error 3 | some _ => .ok (leadOf isDigit (s.data.toList.drop k)))
      else if signOf (s.data.toList.drop k) = [] then .error 1 else .ok (signOf (s.data.toList.drop k)) := by
  unfold wordOf; rw [headD_drop s k hk]; rfl

theorem lead_at {p : Int → Bool} (s : ByteArray) (k n : Nat) (hn : k + n ≤ s.size) (h1 : ∀ (j : Nat) (h : k + j < s.size), j < n → p (s[k + j]'h).toNat = true) (h2 : ∀ h : k + n < s.size, p (s[k + n]'h).toNat = false) : leadOf p (s.data.toList.drop k) = (s.data.toList.drop k).take n := by
  refine takeWhile_stop _ _ _ (by rw [List.length_drop, ← bs_size]; omega) (fun j h hj => ?_) (fun h => ?_)
  · rw [List.getElem_drop]
    exact h1 j (by rw [List.length_drop, ← bs_size] at h; omega) hj
  · rw [List.getElem_drop]
    exact h2 (by rw [List.length_drop, ← bs_size] at h; omega)

theorem ext_list (s : ByteArray) (k n : Nat) : (s.extract k (k + n)).data.toList = (s.data.toList.drop k).take n := by
  rw [Lib.extract_data]; congr 1; omega

theorem lead_first {p : Int → Bool} (s : ByteArray) (k : Nat) (hk : k < s.size) (h : p (s[k]'hk).toNat = true) : ∀ (j : Nat) (hj : k + j < s.size), j < 1 → p (s[k + j]'hj).toNat = true := by
  intro j hj h1
  obtain rfl : j = 0 := by omega
  exact h

theorem signOf_pair' {a : UInt8} {r : List UInt8} (h : a = 58 ∨ a = 60 ∨ a = 62) : signOf (a :: 61 :: r) = (a :: 61 :: r).take 2 := by
  rcases h with rfl | rfl | rfl <;> simp [signOf, starts]

theorem sign_at_pair (s : ByteArray) (k : Nat) (h : k + 1 < s.size) (e : s[k + 1] = 61) (hc : s[k]'(by omega) = 58 ∨ s[k]'(by omega) = 60 ∨ s[k]'(by omega) = 62) : signOf (s.data.toList.drop k) = (s.data.toList.drop k).take 2 ∧ ((s.data.toList.drop k).take 2).length = 2 := by
  rw [drop_at s k (by omega), drop_at s (k + 1) h, e]
  exact ⟨signOf_pair' hc, by simp⟩

theorem sign_at_one (s : ByteArray) (k : Nat) (hk : k < s.size) (hnp : ∀ h : k + 1 < s.size, s[k + 1] = 61 → ¬ (s[k]'hk = 58 ∨ s[k]'hk = 60 ∨ s[k]'hk = 62)) :
    signOf (s.data.toList.drop k) = if isSign (s[k]'hk) then (s.data.toList.drop k).take 1 else [] := by
  have hst : ∀ x : UInt8, x = 58 ∨ x = 60 ∨ x = 62 → starts (s.data.toList.drop k) x 61 = false := by
    intro x hx
    by_cases h : k + 1 < s.size
    · rw [starts_at s k h]
      cases he : (s[k + 1] == 61)
      · simp
      · have e : s[k + 1] = 61 := by simpa using he
        have hn := hnp h e; cases hc : (s[k]'hk == x)
        · rfl
        · have ec : s[k]'hk = x := by simpa using hc
          rw [ec] at hn
          exact absurd hx hn
    · exact starts_short (by rw [List.length_drop, ← bs_size]; omega)
  unfold signOf
  rw [hst 58 (by simp), hst 60 (by simp), hst 62 (by simp)]; rw [headD_drop s k hk, drop_at s k hk]; simp only [Bool.or_self, Bool.false_eq_true, if_false]; cases hs : isSign (s[k]'hk)
  · have hs' : signs.contains (s[k]'hk) = false := hs
    rw [if_neg (by rw [hs']; simp)]
    simp
  · have hs' : signs.contains (s[k]'hk) = true := hs
    rw [if_pos ⟨by simp, hs'⟩]
    simp

theorem take1_len (s : ByteArray) (k : Nat) (hk : k < s.size) : ((s.data.toList.drop k).take 1).length = 1 := by rw [drop_at s k hk]; simp

set_option maxHeartbeats 400000 in
theorem err_any (n : Int) (w : World) : Calls Tryz.prog 20 #[.int .i64 n] w fun e w' => e = .returned (badV n (-1) (-1)) ∧ Below w.heap.size w w' := by
  go_enter Tryz.func20, Tryz.ntmps20
  go_wp2
  exact bodyPost_ret (v := badV n (-1) (-1)) (by simp [results, Tryz.results20, go_sem, badV]) rfl ⟨rfl, (Below.refl _ _).alloc (Nat.le_refl _) _⟩
set_option maxHeartbeats 400000 in
theorem fine_any (w : World) : Calls Tryz.prog 10 #[] w fun e w' => e = .returned (badV 0 (-1) (-1)) ∧ Below w.heap.size w w' := by
  go_enter Tryz.func10, Tryz.ntmps10
  go_wp2
  exact bodyPost_ret (v := badV 0 (-1) (-1)) (by simp [results, Tryz.results10, go_sem, badV]) rfl ⟨rfl, (Below.refl _ _).alloc (Nat.le_refl _) _⟩

theorem below_gb4 {w w' : World} (h : Below w.heap.size w w') (row : Option Nat) : w.grownBy w' row := ⟨h.os, h.tape, h.output, h.size, fun i hi _ => h.block i hi⟩

/-- Three stores into the answer's own block, and what it reads then. -/
theorem three_cells {wr : World} {B : Nat} (c0 : wr.cell? ⟨B, 0, none⟩ = some (.int .i64 0)) (c1 : wr.cell? ⟨B, 1, none⟩ = some (.int .i64 0)) (c2 : wr.cell? ⟨B, 2, none⟩ = some (.int .i64 0)) (x y z : Value) :
    (((wr.setCell ⟨B, 0, none⟩ x).setCell ⟨B, 1, none⟩ y).setCell ⟨B, 2, none⟩ z).cell? ⟨B, 0, none⟩ = some x ∧
    (((wr.setCell ⟨B, 0, none⟩ x).setCell ⟨B, 1, none⟩ y).setCell ⟨B, 2, none⟩ z).cell? ⟨B, 1, none⟩ = some y ∧
    (((wr.setCell ⟨B, 0, none⟩ x).setCell ⟨B, 1, none⟩ y).setCell ⟨B, 2, none⟩ z).cell? ⟨B, 2, none⟩ = some z := by
  refine ⟨?_, ?_, ?_⟩
  · rw [World.cell?_setCell_other _ _ _ _ (by simp), World.cell?_setCell_other _ _ _ _ (by simp)]; exact World.cell?_setCell_same _ _ _ c0
  · rw [World.cell?_setCell_other _ _ _ _ (by simp)]
    exact World.cell?_setCell_same _ _ _ (show (wr.setCell ⟨B, 0, none⟩ x).cell? ⟨B, 1, none⟩ = some (.int .i64 0) by rw [World.cell?_setCell_other _ _ _ _ (by simp)]; exact c1)
  · exact World.cell?_setCell_same _ _ _ (show ((wr.setCell ⟨B, 0, none⟩ x).setCell ⟨B, 1, none⟩ y).cell? ⟨B, 2, none⟩ = some (.int .i64 0) by rw [World.cell?_setCell_other _ _ _ _ (by simp), World.cell?_setCell_other _ _ _ _ (by simp)]; exact c2)

set_option maxRecDepth 1000000 in
set_option maxHeartbeats 400000 in
theorem words_long (s : ByteArray) (w : World) (hs : s.size ≤ maxLen) (hl : 4000 < s.size) :
    Calls Tryz.prog 9 #[.string s] w fun e w' => WordsPost s.data.toList w e w' := by
  unfold maxLen at hs
  go_enter Tryz.func9, Tryz.ntmps9
  go_wp2_with fail; refine (err_any 3 _).mono ?_; rintro e w1 ⟨rfl, hb⟩
  have c0 : w1.cell? ⟨w.heap.size, 0, none⟩ = some (.int .i64 0) := by rw [hb.cell (by simp)]; simp
  have c1 : w1.cell? ⟨w.heap.size, 1, none⟩ = some (.int .i64 0) := by rw [hb.cell (by simp), World.cell?_alloc_at _ _ _ _ rfl]; rfl
  have c2 : w1.cell? ⟨w.heap.size, 2, none⟩ = some (.int .i64 0) := by rw [hb.cell (by simp), World.cell?_alloc_at _ _ _ _ rfl]; rfl
  have z : ∀ o, w1.frozen? ⟨w.heap.size, o, none⟩ = false := fun o => by rw [hb.frozen (by simp)]; exact World.frozen?_alloc_at _ _ _ _ rfl
  have HB := hide (((Below.refl w.heap.size w).alloc (Nat.le_refl _) (.cells #[.int .i64 0, .int .i64 0, .int .i64 0] 28)).trans (hb.mono (by simp))); obtain ⟨g0, g1, g2⟩ := three_cells c0 c1 c2 (.int .i64 3) (.int .i64 (-1)) (.int .i64 (-1)); clear hb
  unfold badV
  go_wp2; refine bodyPost_ret (v := .tuple #[.slice none 0 0, badV 3 (-1) (-1)]) (by simp [results, Tryz.results9, go_sem, badV, g0, g1, g2]) rfl ⟨fun _ => rfl, fun h => ?_, fun h => ?_, ((HB.out.setCell (by simp) _).setCell (by simp) _).setCell (by simp) _⟩
  · rw [← bs_size] at h; omega
  · rw [← bs_size] at h; omega

set_option maxRecDepth 1000000 in
set_option maxHeartbeats 8000000 in
theorem words_short (s : ByteArray) (w : World) (hl : s.size ≤ 4000) :
    Calls Tryz.prog 9 #[.string s] w fun e w' => WordsPost s.data.toList w e w' := by
  obtain ⟨i0, hi, hz0, hz1, hz2⟩ := info_parts Tryz.infoTok; have hW0 := WI.start w s; have HW0 := hide hW0; clear hW0
  go_enter Tryz.func9, Tryz.ntmps9
  go_wp2
  go_loopw [4, 5] (fun v iv wr => ∃ (k : Nat) (acc : List (List UInt8 × List UInt8)) (m : Nat), iv = .int .i64 k ∧ Hid (WI w s v wr k acc m)) (fun _ iv _ => s.size - (intOf iv).toNat)
  case atStart => exact ⟨0, [], s.size, rfl, HW0⟩
  case round =>
    obtain ⟨k, acc, m, rfl, HI⟩ := hrel; have c0 := HI.out.c0 0 (by omega); have c1 := HI.out.c0 1 (by omega); have c2 := HI.out.c0 2 (by omega); have z0 := HI.out.z0 0; have z1 := HI.out.z0 1; have z2 := HI.out.z0 2; have hk := HI.out.le; clear HW0
    by_cases hlt : k < s.size
    · have hdr := drop_at s k hlt
      by_cases hbl : isBlank (s[k]'hlt).toNat = true
      · as_aux_lemma =>
        have HN : ∀ v wr, WI w s v wr k acc m → WI w s v wr (k + 1) acc m := fun v wr h =>
          ⟨by omega, h.own, h.below, by rw [← h.same, hdr]; exact congrArg (pre acc) (toksN_skp (skp_blank hbl)).symm, by have := h.fuel; omega, by have := h.count; omega⟩
        have HN' := hide (HN _ _ HI.out)
        have hcc : (s[k]'hlt).toNat = 32 ∨ (s[k]'hlt).toNat = 9 ∨ (s[k]'hlt).toNat = 13 ∨ (s[k]'hlt).toNat = 10 := by simp [isBlank] at hbl; omega
        clear HN hdr hbl
        rcases hcc with hc | hc | hc | hc
        · have t1 : (((s[k]'hlt).toNat : Int) == 32) = true := by rw [hc]; rfl
          clear hc; go_wp2
          exact ⟨⟨k + 1, acc, m, by go_num, HN'⟩, by simp [intOf]; omega⟩
        · have t1 : (((s[k]'hlt).toNat : Int) == 32) = false := by rw [hc]; rfl
          have t2 : (((s[k]'hlt).toNat : Int) == 9) = true := by rw [hc]; rfl
          clear hc; go_wp2
          exact ⟨⟨k + 1, acc, m, by go_num, HN'⟩, by simp [intOf]; omega⟩
        · have t1 : (((s[k]'hlt).toNat : Int) == 32) = false := by rw [hc]; rfl
          have t2 : (((s[k]'hlt).toNat : Int) == 9) = false := by rw [hc]; rfl
          have t3 : (((s[k]'hlt).toNat : Int) == 10) = false := by rw [hc]; rfl
          have t4 : (((s[k]'hlt).toNat : Int) == 13) = true := by rw [hc]; rfl
          clear hc; go_wp2
          exact ⟨⟨k + 1, acc, m, by go_num, HN'⟩, by simp [intOf]; omega⟩
        · have t1 : (((s[k]'hlt).toNat : Int) == 32) = false := by rw [hc]; rfl
          have t2 : (((s[k]'hlt).toNat : Int) == 9) = false := by rw [hc]; rfl
          have t3 : (((s[k]'hlt).toNat : Int) == 10) = true := by rw [hc]; rfl
          clear hc; go_wp2
          exact ⟨⟨k + 1, acc, m, by go_num, HN'⟩, by simp [intOf]; omega⟩
      · have hbf : isBlank (s[k]'hlt).toNat = false := by simpa using hbl
        have t1 : (((s[k]'hlt).toNat : Int) == 32) = false := by rw [beq_eq_false_iff_ne]; simp [isBlank] at hbl; omega
        have t2 : (((s[k]'hlt).toNat : Int) == 9) = false := by rw [beq_eq_false_iff_ne]; simp [isBlank] at hbl; omega
        have t3 : (((s[k]'hlt).toNat : Int) == 10) = false := by rw [beq_eq_false_iff_ne]; simp [isBlank] at hbl; omega
        have t4 : (((s[k]'hlt).toNat : Int) == 13) = false := by rw [beq_eq_false_iff_ne]; simp [isBlank] at hbl; omega
        clear hbl; cases hst : starts (s.data.toList.drop k) 40 42
        · have hown := HI.out.own
          have hbw := HI.out.below; have hcnt := HI.out.count; have hwz := hbw.size; simp only [World.size_alloc] at hwz; have hwd := wordOf_at s k hlt; cases hlet : isLetter (s[k]'hlt).toNat
          · rw [hlet, if_neg (by simp)] at hwd
            cases hdig : isDigit (s[k]'hlt).toNat
            · as_aux_lemma =>
              rw [hdig, if_neg (by simp)] at hwd
              by_cases hp : k + 1 < s.size
              · by_cases e61 : s[k + 1]'hp = 61
                · have q1 : (((s[k + 1]'hp).toNat : Int) == 61) = true := by rw [e61]; rfl
                  by_cases hc3 : s[k]'hlt = 58 ∨ s[k]'hlt = 60 ∨ s[k]'hlt = 62
                  · obtain ⟨hsp, hsl⟩ := sign_at_pair s k hp e61 hc3
                    have HWK : Hid (wordOf (s.data.toList.drop k) = .ok ((s.data.toList.drop k).take 2)) := by
                      show wordOf _ = _
                      rw [hwd, hsp, if_neg (fun e => by rw [e] at hsl; cases hsl)]
                    have HLEN := hide hsl; have HST := hide hst; clear hsp hsl hwd hst hdr e61
                    rcases hc3 with hc | hc | hc
                    · have t5 : (((s[k]'hlt).toNat : Int) == 40) = false := by rw [hc]; rfl
                      have r1 : (((s[k]'hlt).toNat : Int) == 58) = true := by rw [hc]; rfl
                      clear hc
                      go_wp2_with (first | (go_at_call 22; refine (rLetter_any _ _).mono ?_; rintro e w' ⟨rfl, rfl⟩; simp only [hlet]) | (go_at_call 23; refine (rDigit_any _ _).mono ?_; rintro e w' ⟨rfl, rfl⟩; simp only [hdig]) | (at_builtin; refine wpList_append_own _ rfl _ _ 37 rfl (w.heap.size + 1) 63 i0 (.agg #[.string ⟨#[]⟩, .int .i64 0]) 2 24 Tryz.underlying37 hi hz0 hz1 hz2 rfl (by decide) _ _ _ rfl (hown.alloc _) _ 1 1 [.string (s.extract k (k + 2)), .int .i64 (k : Int)] rfl rfl (cell_two_new _ _ _ _) (fun x hx => by simp at hx; rcases hx with rfl | rfl <;> rfl) (by unfold maxLen; omega) (by omega) (by simp; omega) ?_; intro v' w3 hown3 hg3 hnil))
                      have hbw3 := (hbw.alloc (by omega) _).grown hg3 (by simp; omega) (fun j hj => (hown.lt j hj).1); obtain ⟨m', hm'⟩ := HI.out.word hlt hbf HST.out HWK.out (y := s.extract k (k + 2)) (ext_list s k 2) hown3 hbw3; rw [HLEN.out] at hm'
                      exact ⟨⟨k + 2, _, m', by go_num, hm'⟩, by simp [intOf]; omega⟩
                    · have t5 : (((s[k]'hlt).toNat : Int) == 40) = false := by rw [hc]; rfl
                      have r1 : (((s[k]'hlt).toNat : Int) == 58) = false := by rw [hc]; rfl
                      have r2 : (((s[k]'hlt).toNat : Int) == 60) = true := by rw [hc]; rfl
                      clear hc
                      go_wp2_with (first | (go_at_call 22; refine (rLetter_any _ _).mono ?_; rintro e w' ⟨rfl, rfl⟩; simp only [hlet]) | (go_at_call 23; refine (rDigit_any _ _).mono ?_; rintro e w' ⟨rfl, rfl⟩; simp only [hdig]) | (at_builtin; refine wpList_append_own _ rfl _ _ 37 rfl (w.heap.size + 1) 63 i0 (.agg #[.string ⟨#[]⟩, .int .i64 0]) 2 24 Tryz.underlying37 hi hz0 hz1 hz2 rfl (by decide) _ _ _ rfl (hown.alloc _) _ 1 1 [.string (s.extract k (k + 2)), .int .i64 (k : Int)] rfl rfl (cell_two_new _ _ _ _) (fun x hx => by simp at hx; rcases hx with rfl | rfl <;> rfl) (by unfold maxLen; omega) (by omega) (by simp; omega) ?_; intro v' w3 hown3 hg3 hnil))
                      have hbw3 := (hbw.alloc (by omega) _).grown hg3 (by simp; omega) (fun j hj => (hown.lt j hj).1); obtain ⟨m', hm'⟩ := HI.out.word hlt hbf HST.out HWK.out (y := s.extract k (k + 2)) (ext_list s k 2) hown3 hbw3; rw [HLEN.out] at hm'
                      exact ⟨⟨k + 2, _, m', by go_num, hm'⟩, by simp [intOf]; omega⟩
                    · have t5 : (((s[k]'hlt).toNat : Int) == 40) = false := by rw [hc]; rfl
                      have r1 : (((s[k]'hlt).toNat : Int) == 58) = false := by rw [hc]; rfl
                      have r2 : (((s[k]'hlt).toNat : Int) == 60) = false := by rw [hc]; rfl
                      have r3 : (((s[k]'hlt).toNat : Int) == 62) = true := by rw [hc]; rfl
                      clear hc
                      go_wp2_with (first | (go_at_call 22; refine (rLetter_any _ _).mono ?_; rintro e w' ⟨rfl, rfl⟩; simp only [hlet]) | (go_at_call 23; refine (rDigit_any _ _).mono ?_; rintro e w' ⟨rfl, rfl⟩; simp only [hdig]) | (at_builtin; refine wpList_append_own _ rfl _ _ 37 rfl (w.heap.size + 1) 63 i0 (.agg #[.string ⟨#[]⟩, .int .i64 0]) 2 24 Tryz.underlying37 hi hz0 hz1 hz2 rfl (by decide) _ _ _ rfl (hown.alloc _) _ 1 1 [.string (s.extract k (k + 2)), .int .i64 (k : Int)] rfl rfl (cell_two_new _ _ _ _) (fun x hx => by simp at hx; rcases hx with rfl | rfl <;> rfl) (by unfold maxLen; omega) (by omega) (by simp; omega) ?_; intro v' w3 hown3 hg3 hnil))
                      have hbw3 := (hbw.alloc (by omega) _).grown hg3 (by simp; omega) (fun j hj => (hown.lt j hj).1); obtain ⟨m', hm'⟩ := HI.out.word hlt hbf HST.out HWK.out (y := s.extract k (k + 2)) (ext_list s k 2) hown3 hbw3; rw [HLEN.out] at hm'
                      exact ⟨⟨k + 2, _, m', by go_num, hm'⟩, by simp [intOf]; omega⟩
                  · have hso := sign_at_one s k hlt (fun _ _ => hc3)
                    have r1 : (((s[k]'hlt).toNat : Int) == 58) = false := (u8_beq _ 58).trans (by rw [beq_eq_false_iff_ne]; exact fun e => hc3 (.inl e)); have r2 : (((s[k]'hlt).toNat : Int) == 60) = false := (u8_beq _ 60).trans (by rw [beq_eq_false_iff_ne]; exact fun e => hc3 (.inr (.inl e))); have r3 : (((s[k]'hlt).toNat : Int) == 62) = false := (u8_beq _ 62).trans (by rw [beq_eq_false_iff_ne]; exact fun e => hc3 (.inr (.inr e)))
                    have q2 : (((s[k + 1]'hp).toNat : Int) == 42) = false := by rw [e61]; rfl
                    clear hc3 e61; cases h40 : (s[k]'hlt == 40)
                    · have t5 : (((s[k]'hlt).toNat : Int) == 40) = false := (u8_beq _ 40).trans h40
                      clear h40; cases hsg : isSign (s[k]'hlt)
                      · have HT : Hid (toks s.data.toList = .error (1, s.data.toList.drop k)) := HI.out.wrong hlt hbf hst (by rw [hwd, hso, hsg]; rfl)
                        clear hwd hst hdr hso
                        go_wp2_with (first | (go_at_call 22; refine (rLetter_any _ _).mono ?_; rintro e w' ⟨rfl, rfl⟩; simp only [hlet]) | (go_at_call 23; refine (rDigit_any _ _).mono ?_; rintro e w' ⟨rfl, rfl⟩; simp only [hdig]) | (go_at_call 25; refine (oneSign_any _ _).mono ?_; rintro e w' ⟨rfl, rfl⟩; simp only [hsg]))
                        obtain ⟨g0, g1, g2⟩ := three_cells c0 c1 c2 (.int .i64 1) (.int .i64 0) (.int .i64 (k : Int))
                        exact bodyPost_ret (v := .tuple #[.slice none 0 0, badV 1 0 k]) (by simp [results, Tryz.results9, go_sem, badV, g0, g1, g2]) rfl (words_back hl hk HT.out (((HI.out.bw.setCell (by simp) _).setCell (by simp) _).setCell (by simp) _))
                      · have HWK : Hid (wordOf (s.data.toList.drop k) = .ok ((s.data.toList.drop k).take 1)) := by
                          have hl1 := take1_len s k hlt
                          show wordOf _ = _
                          rw [hwd, hso, hsg, if_pos rfl, if_neg (fun e => by rw [e] at hl1; cases hl1)]
                        have HLEN := hide (take1_len s k hlt); have HST := hide hst; clear hwd hst hdr hso
                        go_wp2_with (first | (go_at_call 22; refine (rLetter_any _ _).mono ?_; rintro e w' ⟨rfl, rfl⟩; simp only [hlet]) | (go_at_call 23; refine (rDigit_any _ _).mono ?_; rintro e w' ⟨rfl, rfl⟩; simp only [hdig]) | (go_at_call 25; refine (oneSign_any _ _).mono ?_; rintro e w' ⟨rfl, rfl⟩; simp only [hsg]) | (at_builtin; refine wpList_append_own _ rfl _ _ 37 rfl (w.heap.size + 1) 63 i0 (.agg #[.string ⟨#[]⟩, .int .i64 0]) 2 24 Tryz.underlying37 hi hz0 hz1 hz2 rfl (by decide) _ _ _ rfl (hown.alloc _) _ 1 1 [.string (s.extract k (k + 1)), .int .i64 (k : Int)] rfl rfl (cell_two_new _ _ _ _) (fun x hx => by simp at hx; rcases hx with rfl | rfl <;> rfl) (by unfold maxLen; omega) (by omega) (by simp; omega) ?_; intro v' w3 hown3 hg3 hnil))
                        have hbw3 := (hbw.alloc (by omega) _).grown hg3 (by simp; omega) (fun j hj => (hown.lt j hj).1); obtain ⟨m', hm'⟩ := HI.out.word hlt hbf HST.out HWK.out (y := s.extract k (k + 1)) (ext_list s k 1) hown3 hbw3; rw [HLEN.out] at hm'
                        exact ⟨⟨k + 1, _, m', by go_num, hm'⟩, by simp [intOf]; omega⟩
                    · have t5 : (((s[k]'hlt).toNat : Int) == 40) = true := (u8_beq _ 40).trans h40
                      clear h40; cases hsg : isSign (s[k]'hlt)
                      · have HT : Hid (toks s.data.toList = .error (1, s.data.toList.drop k)) := HI.out.wrong hlt hbf hst (by rw [hwd, hso, hsg]; rfl)
                        clear hwd hst hdr hso
                        go_wp2_with (first | (go_at_call 22; refine (rLetter_any _ _).mono ?_; rintro e w' ⟨rfl, rfl⟩; simp only [hlet]) | (go_at_call 23; refine (rDigit_any _ _).mono ?_; rintro e w' ⟨rfl, rfl⟩; simp only [hdig]) | (go_at_call 25; refine (oneSign_any _ _).mono ?_; rintro e w' ⟨rfl, rfl⟩; simp only [hsg]))
                        obtain ⟨g0, g1, g2⟩ := three_cells c0 c1 c2 (.int .i64 1) (.int .i64 0) (.int .i64 (k : Int))
                        exact bodyPost_ret (v := .tuple #[.slice none 0 0, badV 1 0 k]) (by simp [results, Tryz.results9, go_sem, badV, g0, g1, g2]) rfl (words_back hl hk HT.out (((HI.out.bw.setCell (by simp) _).setCell (by simp) _).setCell (by simp) _))
                      · have HWK : Hid (wordOf (s.data.toList.drop k) = .ok ((s.data.toList.drop k).take 1)) := by
                          have hl1 := take1_len s k hlt
                          show wordOf _ = _
                          rw [hwd, hso, hsg, if_pos rfl, if_neg (fun e => by rw [e] at hl1; cases hl1)]
                        have HLEN := hide (take1_len s k hlt); have HST := hide hst; clear hwd hst hdr hso
                        go_wp2_with (first | (go_at_call 22; refine (rLetter_any _ _).mono ?_; rintro e w' ⟨rfl, rfl⟩; simp only [hlet]) | (go_at_call 23; refine (rDigit_any _ _).mono ?_; rintro e w' ⟨rfl, rfl⟩; simp only [hdig]) | (go_at_call 25; refine (oneSign_any _ _).mono ?_; rintro e w' ⟨rfl, rfl⟩; simp only [hsg]) | (at_builtin; refine wpList_append_own _ rfl _ _ 37 rfl (w.heap.size + 1) 63 i0 (.agg #[.string ⟨#[]⟩, .int .i64 0]) 2 24 Tryz.underlying37 hi hz0 hz1 hz2 rfl (by decide) _ _ _ rfl (hown.alloc _) _ 1 1 [.string (s.extract k (k + 1)), .int .i64 (k : Int)] rfl rfl (cell_two_new _ _ _ _) (fun x hx => by simp at hx; rcases hx with rfl | rfl <;> rfl) (by unfold maxLen; omega) (by omega) (by simp; omega) ?_; intro v' w3 hown3 hg3 hnil))
                        have hbw3 := (hbw.alloc (by omega) _).grown hg3 (by simp; omega) (fun j hj => (hown.lt j hj).1); obtain ⟨m', hm'⟩ := HI.out.word hlt hbf HST.out HWK.out (y := s.extract k (k + 1)) (ext_list s k 1) hown3 hbw3; rw [HLEN.out] at hm'
                        exact ⟨⟨k + 1, _, m', by go_num, hm'⟩, by simp [intOf]; omega⟩
                · have hso := sign_at_one s k hlt (fun _ e => absurd e e61)
                  have q1 : (((s[k + 1]'hp).toNat : Int) == 61) = false := (u8_beq _ 61).trans (by rw [beq_eq_false_iff_ne]; exact e61); clear e61; cases h40 : (s[k]'hlt == 40)
                  · have t5 : (((s[k]'hlt).toNat : Int) == 40) = false := (u8_beq _ 40).trans h40
                    clear h40; cases hsg : isSign (s[k]'hlt)
                    · have HT : Hid (toks s.data.toList = .error (1, s.data.toList.drop k)) := HI.out.wrong hlt hbf hst (by rw [hwd, hso, hsg]; rfl)
                      clear hwd hst hdr hso
                      go_wp2_with (first | (go_at_call 22; refine (rLetter_any _ _).mono ?_; rintro e w' ⟨rfl, rfl⟩; simp only [hlet]) | (go_at_call 23; refine (rDigit_any _ _).mono ?_; rintro e w' ⟨rfl, rfl⟩; simp only [hdig]) | (go_at_call 25; refine (oneSign_any _ _).mono ?_; rintro e w' ⟨rfl, rfl⟩; simp only [hsg]))
                      obtain ⟨g0, g1, g2⟩ := three_cells c0 c1 c2 (.int .i64 1) (.int .i64 0) (.int .i64 (k : Int))
                      exact bodyPost_ret (v := .tuple #[.slice none 0 0, badV 1 0 k]) (by simp [results, Tryz.results9, go_sem, badV, g0, g1, g2]) rfl (words_back hl hk HT.out (((HI.out.bw.setCell (by simp) _).setCell (by simp) _).setCell (by simp) _))
                    · have HWK : Hid (wordOf (s.data.toList.drop k) = .ok ((s.data.toList.drop k).take 1)) := by
                        have hl1 := take1_len s k hlt
                        show wordOf _ = _
                        rw [hwd, hso, hsg, if_pos rfl, if_neg (fun e => by rw [e] at hl1; cases hl1)]
                      have HLEN := hide (take1_len s k hlt); have HST := hide hst; clear hwd hst hdr hso
                      go_wp2_with (first | (go_at_call 22; refine (rLetter_any _ _).mono ?_; rintro e w' ⟨rfl, rfl⟩; simp only [hlet]) | (go_at_call 23; refine (rDigit_any _ _).mono ?_; rintro e w' ⟨rfl, rfl⟩; simp only [hdig]) | (go_at_call 25; refine (oneSign_any _ _).mono ?_; rintro e w' ⟨rfl, rfl⟩; simp only [hsg]) | (at_builtin; refine wpList_append_own _ rfl _ _ 37 rfl (w.heap.size + 1) 63 i0 (.agg #[.string ⟨#[]⟩, .int .i64 0]) 2 24 Tryz.underlying37 hi hz0 hz1 hz2 rfl (by decide) _ _ _ rfl (hown.alloc _) _ 1 1 [.string (s.extract k (k + 1)), .int .i64 (k : Int)] rfl rfl (cell_two_new _ _ _ _) (fun x hx => by simp at hx; rcases hx with rfl | rfl <;> rfl) (by unfold maxLen; omega) (by omega) (by simp; omega) ?_; intro v' w3 hown3 hg3 hnil))
                      have hbw3 := (hbw.alloc (by omega) _).grown hg3 (by simp; omega) (fun j hj => (hown.lt j hj).1); obtain ⟨m', hm'⟩ := HI.out.word hlt hbf HST.out HWK.out (y := s.extract k (k + 1)) (ext_list s k 1) hown3 hbw3; rw [HLEN.out] at hm'
                      exact ⟨⟨k + 1, _, m', by go_num, hm'⟩, by simp [intOf]; omega⟩
                  · have q2 : (((s[k + 1]'hp).toNat : Int) == 42) = false := by
                      have ea := starts_at s k hp 40 42; rw [hst, h40, Bool.true_and] at ea
                      exact (u8_beq _ 42).trans ea.symm
                    have t5 : (((s[k]'hlt).toNat : Int) == 40) = true := (u8_beq _ 40).trans h40; clear h40; cases hsg : isSign (s[k]'hlt)
                    · have HT : Hid (toks s.data.toList = .error (1, s.data.toList.drop k)) := HI.out.wrong hlt hbf hst (by rw [hwd, hso, hsg]; rfl)
                      clear hwd hst hdr hso
                      go_wp2_with (first | (go_at_call 22; refine (rLetter_any _ _).mono ?_; rintro e w' ⟨rfl, rfl⟩; simp only [hlet]) | (go_at_call 23; refine (rDigit_any _ _).mono ?_; rintro e w' ⟨rfl, rfl⟩; simp only [hdig]) | (go_at_call 25; refine (oneSign_any _ _).mono ?_; rintro e w' ⟨rfl, rfl⟩; simp only [hsg]))
                      obtain ⟨g0, g1, g2⟩ := three_cells c0 c1 c2 (.int .i64 1) (.int .i64 0) (.int .i64 (k : Int))
                      exact bodyPost_ret (v := .tuple #[.slice none 0 0, badV 1 0 k]) (by simp [results, Tryz.results9, go_sem, badV, g0, g1, g2]) rfl (words_back hl hk HT.out (((HI.out.bw.setCell (by simp) _).setCell (by simp) _).setCell (by simp) _))
                    · have HWK : Hid (wordOf (s.data.toList.drop k) = .ok ((s.data.toList.drop k).take 1)) := by
                        have hl1 := take1_len s k hlt
                        show wordOf _ = _
                        rw [hwd, hso, hsg, if_pos rfl, if_neg (fun e => by rw [e] at hl1; cases hl1)]
                      have HLEN := hide (take1_len s k hlt); have HST := hide hst; clear hwd hst hdr hso
                      go_wp2_with (first | (go_at_call 22; refine (rLetter_any _ _).mono ?_; rintro e w' ⟨rfl, rfl⟩; simp only [hlet]) | (go_at_call 23; refine (rDigit_any _ _).mono ?_; rintro e w' ⟨rfl, rfl⟩; simp only [hdig]) | (go_at_call 25; refine (oneSign_any _ _).mono ?_; rintro e w' ⟨rfl, rfl⟩; simp only [hsg]) | (at_builtin; refine wpList_append_own _ rfl _ _ 37 rfl (w.heap.size + 1) 63 i0 (.agg #[.string ⟨#[]⟩, .int .i64 0]) 2 24 Tryz.underlying37 hi hz0 hz1 hz2 rfl (by decide) _ _ _ rfl (hown.alloc _) _ 1 1 [.string (s.extract k (k + 1)), .int .i64 (k : Int)] rfl rfl (cell_two_new _ _ _ _) (fun x hx => by simp at hx; rcases hx with rfl | rfl <;> rfl) (by unfold maxLen; omega) (by omega) (by simp; omega) ?_; intro v' w3 hown3 hg3 hnil))
                      have hbw3 := (hbw.alloc (by omega) _).grown hg3 (by simp; omega) (fun j hj => (hown.lt j hj).1); obtain ⟨m', hm'⟩ := HI.out.word hlt hbf HST.out HWK.out (y := s.extract k (k + 1)) (ext_list s k 1) hown3 hbw3; rw [HLEN.out] at hm'
                      exact ⟨⟨k + 1, _, m', by go_num, hm'⟩, by simp [intOf]; omega⟩
              · have hso := sign_at_one s k hlt (fun h => absurd h hp)
                cases h40 : (s[k]'hlt == 40)
                · have t5 : (((s[k]'hlt).toNat : Int) == 40) = false := (u8_beq _ 40).trans h40
                  clear h40; cases hsg : isSign (s[k]'hlt)
                  · have HT : Hid (toks s.data.toList = .error (1, s.data.toList.drop k)) := HI.out.wrong hlt hbf hst (by rw [hwd, hso, hsg]; rfl)
                    clear hwd hst hdr hso
                    go_wp2_with (first | (go_at_call 22; refine (rLetter_any _ _).mono ?_; rintro e w' ⟨rfl, rfl⟩; simp only [hlet]) | (go_at_call 23; refine (rDigit_any _ _).mono ?_; rintro e w' ⟨rfl, rfl⟩; simp only [hdig]) | (go_at_call 25; refine (oneSign_any _ _).mono ?_; rintro e w' ⟨rfl, rfl⟩; simp only [hsg]))
                    obtain ⟨g0, g1, g2⟩ := three_cells c0 c1 c2 (.int .i64 1) (.int .i64 0) (.int .i64 (k : Int))
                    exact bodyPost_ret (v := .tuple #[.slice none 0 0, badV 1 0 k]) (by simp [results, Tryz.results9, go_sem, badV, g0, g1, g2]) rfl (words_back hl hk HT.out (((HI.out.bw.setCell (by simp) _).setCell (by simp) _).setCell (by simp) _))
                  · have HWK : Hid (wordOf (s.data.toList.drop k) = .ok ((s.data.toList.drop k).take 1)) := by
                      have hl1 := take1_len s k hlt
                      show wordOf _ = _
                      rw [hwd, hso, hsg, if_pos rfl, if_neg (fun e => by rw [e] at hl1; cases hl1)]
                    have HLEN := hide (take1_len s k hlt); have HST := hide hst; clear hwd hst hdr hso
                    go_wp2_with (first | (go_at_call 22; refine (rLetter_any _ _).mono ?_; rintro e w' ⟨rfl, rfl⟩; simp only [hlet]) | (go_at_call 23; refine (rDigit_any _ _).mono ?_; rintro e w' ⟨rfl, rfl⟩; simp only [hdig]) | (go_at_call 25; refine (oneSign_any _ _).mono ?_; rintro e w' ⟨rfl, rfl⟩; simp only [hsg]) | (at_builtin; refine wpList_append_own _ rfl _ _ 37 rfl (w.heap.size + 1) 63 i0 (.agg #[.string ⟨#[]⟩, .int .i64 0]) 2 24 Tryz.underlying37 hi hz0 hz1 hz2 rfl (by decide) _ _ _ rfl (hown.alloc _) _ 1 1 [.string (s.extract k (k + 1)), .int .i64 (k : Int)] rfl rfl (cell_two_new _ _ _ _) (fun x hx => by simp at hx; rcases hx with rfl | rfl <;> rfl) (by unfold maxLen; omega) (by omega) (by simp; omega) ?_; intro v' w3 hown3 hg3 hnil))
                    have hbw3 := (hbw.alloc (by omega) _).grown hg3 (by simp; omega) (fun j hj => (hown.lt j hj).1); obtain ⟨m', hm'⟩ := HI.out.word hlt hbf HST.out HWK.out (y := s.extract k (k + 1)) (ext_list s k 1) hown3 hbw3; rw [HLEN.out] at hm'
                    exact ⟨⟨k + 1, _, m', by go_num, hm'⟩, by simp [intOf]; omega⟩
                · have t5 : (((s[k]'hlt).toNat : Int) == 40) = true := (u8_beq _ 40).trans h40
                  clear h40; cases hsg : isSign (s[k]'hlt)
                  · have HT : Hid (toks s.data.toList = .error (1, s.data.toList.drop k)) := HI.out.wrong hlt hbf hst (by rw [hwd, hso, hsg]; rfl)
                    clear hwd hst hdr hso
                    go_wp2_with (first | (go_at_call 22; refine (rLetter_any _ _).mono ?_; rintro e w' ⟨rfl, rfl⟩; simp only [hlet]) | (go_at_call 23; refine (rDigit_any _ _).mono ?_; rintro e w' ⟨rfl, rfl⟩; simp only [hdig]) | (go_at_call 25; refine (oneSign_any _ _).mono ?_; rintro e w' ⟨rfl, rfl⟩; simp only [hsg]))
                    obtain ⟨g0, g1, g2⟩ := three_cells c0 c1 c2 (.int .i64 1) (.int .i64 0) (.int .i64 (k : Int))
                    exact bodyPost_ret (v := .tuple #[.slice none 0 0, badV 1 0 k]) (by simp [results, Tryz.results9, go_sem, badV, g0, g1, g2]) rfl (words_back hl hk HT.out (((HI.out.bw.setCell (by simp) _).setCell (by simp) _).setCell (by simp) _))
                  · have HWK : Hid (wordOf (s.data.toList.drop k) = .ok ((s.data.toList.drop k).take 1)) := by
                      have hl1 := take1_len s k hlt
                      show wordOf _ = _
                      rw [hwd, hso, hsg, if_pos rfl, if_neg (fun e => by rw [e] at hl1; cases hl1)]
                    have HLEN := hide (take1_len s k hlt); have HST := hide hst; clear hwd hst hdr hso
                    go_wp2_with (first | (go_at_call 22; refine (rLetter_any _ _).mono ?_; rintro e w' ⟨rfl, rfl⟩; simp only [hlet]) | (go_at_call 23; refine (rDigit_any _ _).mono ?_; rintro e w' ⟨rfl, rfl⟩; simp only [hdig]) | (go_at_call 25; refine (oneSign_any _ _).mono ?_; rintro e w' ⟨rfl, rfl⟩; simp only [hsg]) | (at_builtin; refine wpList_append_own _ rfl _ _ 37 rfl (w.heap.size + 1) 63 i0 (.agg #[.string ⟨#[]⟩, .int .i64 0]) 2 24 Tryz.underlying37 hi hz0 hz1 hz2 rfl (by decide) _ _ _ rfl (hown.alloc _) _ 1 1 [.string (s.extract k (k + 1)), .int .i64 (k : Int)] rfl rfl (cell_two_new _ _ _ _) (fun x hx => by simp at hx; rcases hx with rfl | rfl <;> rfl) (by unfold maxLen; omega) (by omega) (by simp; omega) ?_; intro v' w3 hown3 hg3 hnil))
                    have hbw3 := (hbw.alloc (by omega) _).grown hg3 (by simp; omega) (fun j hj => (hown.lt j hj).1); obtain ⟨m', hm'⟩ := HI.out.word hlt hbf HST.out HWK.out (y := s.extract k (k + 1)) (ext_list s k 1) hown3 hbw3; rw [HLEN.out] at hm'
                    exact ⟨⟨k + 1, _, m', by go_num, hm'⟩, by simp [intOf]; omega⟩
            · as_aux_lemma =>
              have t5 : (((s[k]'hlt).toNat : Int) == 40) = false := by rw [beq_eq_false_iff_ne]; simp [isDigit] at hdig; omega
              rw [hdig, if_pos rfl] at hwd; have HWD := hide hwd; have HST := hide hst; have HDIG := hide hdig; clear hwd hst hdr
              go_wp2_with (first | (go_at_call 22; refine (rLetter_any _ _).mono ?_; rintro e w' ⟨rfl, rfl⟩; simp only [hlet]) | (go_at_call 23; refine (rDigit_any _ _).mono ?_; rintro e w' ⟨rfl, rfl⟩; simp only [hdig]))
              go_loop [8] (fun nv => ∃ n : Nat, nv = .int .i64 n ∧ 1 ≤ n ∧ k + n ≤ s.size ∧ Hid (∀ (j : Nat) (h : k + j < s.size), j < n → isDigit (s[k + j]'h).toNat = true)) (fun nv => s.size - (intOf nv).toNat)
              case atStart => exact ⟨1, rfl, Nat.le_refl _, by omega, lead_first s k hlt HDIG.out⟩
              case round =>
                obtain ⟨n, rfl, hn1, hn2, HB⟩ := hrel
                by_cases hn : k + n < s.size
                · cases hd2 : isDigit (s[k + n]'hn).toNat
                  · have HLD : Hid (leadOf isDigit (s.data.toList.drop k) = (s.data.toList.drop k).take n) := lead_at s k n hn2 HB.out (fun _ => hd2)
                    have hlen : (leadOf isDigit (s.data.toList.drop k)).length = n := by rw [HLD.out, List.length_take, List.length_drop, ← bs_size]; omega
                    have hys : (s.extract k (k + n)).size = n := by rw [bs_size, ext_list, List.length_take, List.length_drop, ← bs_size]; omega
                    have hyb : beyondL (s.extract k (k + n)).data.toList = (valueFrom 0 (leadOf isDigit (s.data.toList.drop k))).isNone := by
                      rw [ext_list, ← HLD.out]; exact beyond_value (fun c hc => leadOf_all hc)
                    have HLEN := hide hlen; have HYB := hide hyb; have HYS := hide hys; clear hlen hyb hys; cases hv : valueFrom 0 (leadOf isDigit (s.data.toList.drop k)) with
                    | none =>
                      have HT : Hid (toks s.data.toList = .error (3, s.data.toList.drop k)) := HI.out.wrong hlt hbf HST.out (by rw [HWD.out, hv])
                      have hbe : beyondL (s.extract k (k + n)).data.toList = true := by rw [HYB.out, hv]; rfl
                      clear hv
                      go_wp2_with (first | (go_at_call 23; refine (rDigit_any _ _).mono ?_; rintro e w' ⟨rfl, rfl⟩; simp only [hd2]) | (go_at_call 24; refine (beyond_any _ _ (by rw [HYS.out]; omega) (by rw [HYS.out]; omega)).mono ?_; rintro e w' ⟨rfl, rfl⟩; simp only [hbe]))
                      obtain ⟨g0, g1, g2⟩ := three_cells c0 c1 c2 (.int .i64 3) (.int .i64 0) (.int .i64 (k : Int))
                      exact bodyPost_ret (v := .tuple #[.slice none 0 0, badV 3 0 k]) (by simp [results, Tryz.results9, go_sem, badV, g0, g1, g2]) rfl (words_back hl hk HT.out (((HI.out.bw.setCell (by simp) _).setCell (by simp) _).setCell (by simp) _))
                    | some vv =>
                      have HWK : Hid (wordOf (s.data.toList.drop k) = .ok (leadOf isDigit (s.data.toList.drop k))) := by
                        show wordOf _ = _
                        rw [HWD.out, hv]
                      have hbe : beyondL (s.extract k (k + n)).data.toList = false := by rw [HYB.out, hv]; rfl
                      clear hv
                      go_wp2_with (first | (go_at_call 23; refine (rDigit_any _ _).mono ?_; rintro e w' ⟨rfl, rfl⟩; simp only [hd2]) | (go_at_call 24; refine (beyond_any _ _ (by rw [HYS.out]; omega) (by rw [HYS.out]; omega)).mono ?_; rintro e w' ⟨rfl, rfl⟩; simp only [hbe]) | (at_builtin; refine wpList_append_own _ rfl _ _ 37 rfl (w.heap.size + 1) 63 i0 (.agg #[.string ⟨#[]⟩, .int .i64 0]) 2 24 Tryz.underlying37 hi hz0 hz1 hz2 rfl (by decide) _ _ _ rfl (hown.alloc _) _ 1 1 [.string (s.extract k (k + n)), .int .i64 (k : Int)] rfl rfl (cell_two_new _ _ _ _) (fun x hx => by simp at hx; rcases hx with rfl | rfl <;> rfl) (by unfold maxLen; omega) (by omega) (by simp; omega) ?_; intro v' w3 hown3 hg3 hnil))
                      have hbw3 := (hbw.alloc (by omega) _).grown hg3 (by simp; omega) (fun j hj => (hown.lt j hj).1); obtain ⟨m', hm'⟩ := HI.out.word hlt hbf HST.out HWK.out (y := s.extract k (k + n)) (by rw [ext_list, HLD.out]) hown3 hbw3; rw [HLEN.out] at hm'
                      exact ⟨⟨k + n, _, m', by go_num, hm'⟩, by simp [intOf]; omega⟩
                  · have HB2 : Hid (∀ (j : Nat) (h : k + j < s.size), j < n + 1 → isDigit (s[k + j]'h).toNat = true) := fun j h hj => by
                      rcases Nat.lt_or_ge j n with h1 | h1
                      · exact HB.out j h h1
                      · obtain rfl : j = n := by omega
                        exact hd2
                    go_wp2_with (go_at_call 23; refine (rDigit_any _ _).mono ?_; rintro e w' ⟨rfl, rfl⟩; simp only [hd2])
                    exact ⟨⟨n + 1, by go_num, by omega, by omega, HB2⟩, by simp [intOf]; omega⟩
                · have HLD : Hid (leadOf isDigit (s.data.toList.drop k) = (s.data.toList.drop k).take n) := lead_at s k n hn2 HB.out (fun h => absurd h hn)
                  have hlen : (leadOf isDigit (s.data.toList.drop k)).length = n := by rw [HLD.out, List.length_take, List.length_drop, ← bs_size]; omega
                  have hys : (s.extract k (k + n)).size = n := by rw [bs_size, ext_list, List.length_take, List.length_drop, ← bs_size]; omega
                  have hyb : beyondL (s.extract k (k + n)).data.toList = (valueFrom 0 (leadOf isDigit (s.data.toList.drop k))).isNone := by
                    rw [ext_list, ← HLD.out]; exact beyond_value (fun c hc => leadOf_all hc)
                  have HLEN := hide hlen; have HYB := hide hyb; have HYS := hide hys; clear hlen hyb hys; cases hv : valueFrom 0 (leadOf isDigit (s.data.toList.drop k)) with
                  | none =>
                    have HT : Hid (toks s.data.toList = .error (3, s.data.toList.drop k)) := HI.out.wrong hlt hbf HST.out (by rw [HWD.out, hv])
                    have hbe : beyondL (s.extract k (k + n)).data.toList = true := by rw [HYB.out, hv]; rfl
                    clear hv
                    go_wp2_with (first | (go_at_call 24; refine (beyond_any _ _ (by rw [HYS.out]; omega) (by rw [HYS.out]; omega)).mono ?_; rintro e w' ⟨rfl, rfl⟩; simp only [hbe]))
                    obtain ⟨g0, g1, g2⟩ := three_cells c0 c1 c2 (.int .i64 3) (.int .i64 0) (.int .i64 (k : Int))
                    exact bodyPost_ret (v := .tuple #[.slice none 0 0, badV 3 0 k]) (by simp [results, Tryz.results9, go_sem, badV, g0, g1, g2]) rfl (words_back hl hk HT.out (((HI.out.bw.setCell (by simp) _).setCell (by simp) _).setCell (by simp) _))
                  | some vv =>
                    have HWK : Hid (wordOf (s.data.toList.drop k) = .ok (leadOf isDigit (s.data.toList.drop k))) := by
                      show wordOf _ = _
                      rw [HWD.out, hv]
                    have hbe : beyondL (s.extract k (k + n)).data.toList = false := by rw [HYB.out, hv]; rfl
                    clear hv
                    go_wp2_with (first | (go_at_call 24; refine (beyond_any _ _ (by rw [HYS.out]; omega) (by rw [HYS.out]; omega)).mono ?_; rintro e w' ⟨rfl, rfl⟩; simp only [hbe]) | (at_builtin; refine wpList_append_own _ rfl _ _ 37 rfl (w.heap.size + 1) 63 i0 (.agg #[.string ⟨#[]⟩, .int .i64 0]) 2 24 Tryz.underlying37 hi hz0 hz1 hz2 rfl (by decide) _ _ _ rfl (hown.alloc _) _ 1 1 [.string (s.extract k (k + n)), .int .i64 (k : Int)] rfl rfl (cell_two_new _ _ _ _) (fun x hx => by simp at hx; rcases hx with rfl | rfl <;> rfl) (by unfold maxLen; omega) (by omega) (by simp; omega) ?_; intro v' w3 hown3 hg3 hnil))
                    have hbw3 := (hbw.alloc (by omega) _).grown hg3 (by simp; omega) (fun j hj => (hown.lt j hj).1); obtain ⟨m', hm'⟩ := HI.out.word hlt hbf HST.out HWK.out (y := s.extract k (k + n)) (by rw [ext_list, HLD.out]) hown3 hbw3; rw [HLEN.out] at hm'
                    exact ⟨⟨k + n, _, m', by go_num, hm'⟩, by simp [intOf]; omega⟩
          · as_aux_lemma =>
            have t5 : (((s[k]'hlt).toNat : Int) == 40) = false := by rw [beq_eq_false_iff_ne]; simp [isLetter] at hlet; omega
            rw [hlet, if_pos rfl] at hwd; have HWD := hide hwd; have HST := hide hst; have HLET := hide hlet; clear hwd hst hdr
            go_wp2_with (go_at_call 22; refine (rLetter_any _ _).mono ?_; rintro e w' ⟨rfl, rfl⟩; simp only [hlet])
            go_loop [8] (fun nv => ∃ n : Nat, nv = .int .i64 n ∧ 1 ≤ n ∧ k + n ≤ s.size ∧ Hid (∀ (j : Nat) (h : k + j < s.size), j < n → lod (s[k + j]'h).toNat = true)) (fun nv => s.size - (intOf nv).toNat)
            case atStart => exact ⟨1, rfl, Nat.le_refl _, by omega, lead_first s k hlt (by show (isLetter _ || isDigit _) = true; rw [HLET.out]; rfl)⟩
            case round =>
              obtain ⟨n, rfl, hn1, hn2, HB⟩ := hrel
              by_cases hn : k + n < s.size
              · cases hl2 : isLetter (s[k + n]'hn).toNat
                · cases hd2 : isDigit (s[k + n]'hn).toNat
                  · have HLD : Hid (leadOf lod (s.data.toList.drop k) = (s.data.toList.drop k).take n) := lead_at s k n hn2 HB.out (fun _ => by show (isLetter _ || isDigit _) = false; rw [hl2, hd2]; rfl)
                    have hlen : (leadOf lod (s.data.toList.drop k)).length = n := by rw [HLD.out, List.length_take, List.length_drop, ← bs_size]; omega
                    have HLEN := hide hlen; clear hlen
                    by_cases h12 : 12 < n
                    · have HT : Hid (toks s.data.toList = .error (3, s.data.toList.drop k)) := HI.out.wrong hlt hbf HST.out (by rw [HWD.out, HLEN.out, if_pos h12])
                      go_wp2_with (first | (go_at_call 22; refine (rLetter_any _ _).mono ?_; rintro e w' ⟨rfl, rfl⟩; simp only [hl2]) | (go_at_call 23; refine (rDigit_any _ _).mono ?_; rintro e w' ⟨rfl, rfl⟩; simp only [hd2]) )
                      obtain ⟨g0, g1, g2⟩ := three_cells c0 c1 c2 (.int .i64 3) (.int .i64 0) (.int .i64 (k : Int))
                      exact bodyPost_ret (v := .tuple #[.slice none 0 0, badV 3 0 k]) (by simp [results, Tryz.results9, go_sem, badV, g0, g1, g2]) rfl (words_back hl hk HT.out (((HI.out.bw.setCell (by simp) _).setCell (by simp) _).setCell (by simp) _))
                    · have HWK : Hid (wordOf (s.data.toList.drop k) = .ok (leadOf lod (s.data.toList.drop k))) := by
                        show wordOf _ = _
                        rw [HWD.out, HLEN.out, if_neg h12]
                      go_wp2_with (first | (go_at_call 22; refine (rLetter_any _ _).mono ?_; rintro e w' ⟨rfl, rfl⟩; simp only [hl2]) | (go_at_call 23; refine (rDigit_any _ _).mono ?_; rintro e w' ⟨rfl, rfl⟩; simp only [hd2]) | (at_builtin; refine wpList_append_own _ rfl _ _ 37 rfl (w.heap.size + 1) 63 i0 (.agg #[.string ⟨#[]⟩, .int .i64 0]) 2 24 Tryz.underlying37 hi hz0 hz1 hz2 rfl (by decide) _ _ _ rfl (hown.alloc _) _ 1 1 [.string (s.extract k (k + n)), .int .i64 (k : Int)] rfl rfl (cell_two_new _ _ _ _) (fun x hx => by simp at hx; rcases hx with rfl | rfl <;> rfl) (by unfold maxLen; omega) (by omega) (by simp; omega) ?_; intro v' w3 hown3 hg3 hnil))
                      have hbw3 := (hbw.alloc (by omega) _).grown hg3 (by simp; omega) (fun j hj => (hown.lt j hj).1); obtain ⟨m', hm'⟩ := HI.out.word hlt hbf HST.out HWK.out (y := s.extract k (k + n)) (by rw [ext_list, HLD.out]) hown3 hbw3; rw [HLEN.out] at hm'
                      exact ⟨⟨k + n, _, m', by go_num, hm'⟩, by simp [intOf]; omega⟩
                  · have HB2 : Hid (∀ (j : Nat) (h : k + j < s.size), j < n + 1 → lod (s[k + j]'h).toNat = true) := fun j h hj => by
                      rcases Nat.lt_or_ge j n with h1 | h1
                      · exact HB.out j h h1
                      · obtain rfl : j = n := by omega
                        show (isLetter _ || isDigit _) = true; rw [hd2]; simp
                    go_wp2_with (first | (go_at_call 22; refine (rLetter_any _ _).mono ?_; rintro e w' ⟨rfl, rfl⟩; simp only [hl2]) | (go_at_call 23; refine (rDigit_any _ _).mono ?_; rintro e w' ⟨rfl, rfl⟩; simp only [hd2]) )
                    exact ⟨⟨n + 1, by go_num, by omega, by omega, HB2⟩, by simp [intOf]; omega⟩
                · have HB2 : Hid (∀ (j : Nat) (h : k + j < s.size), j < n + 1 → lod (s[k + j]'h).toNat = true) := fun j h hj => by
                    rcases Nat.lt_or_ge j n with h1 | h1
                    · exact HB.out j h h1
                    · obtain rfl : j = n := by omega
                      show (isLetter _ || isDigit _) = true; rw [hl2]; rfl
                  go_wp2_with (first | (go_at_call 22; refine (rLetter_any _ _).mono ?_; rintro e w' ⟨rfl, rfl⟩; simp only [hl2]))
                  exact ⟨⟨n + 1, by go_num, by omega, by omega, HB2⟩, by simp [intOf]; omega⟩
              · have HLD : Hid (leadOf lod (s.data.toList.drop k) = (s.data.toList.drop k).take n) := lead_at s k n hn2 HB.out (fun h => absurd h hn)
                have hlen : (leadOf lod (s.data.toList.drop k)).length = n := by rw [HLD.out, List.length_take, List.length_drop, ← bs_size]; omega
                have HLEN := hide hlen; clear hlen
                by_cases h12 : 12 < n
                · have HT : Hid (toks s.data.toList = .error (3, s.data.toList.drop k)) := HI.out.wrong hlt hbf HST.out (by rw [HWD.out, HLEN.out, if_pos h12])
                  go_wp2_with (fail)
                  obtain ⟨g0, g1, g2⟩ := three_cells c0 c1 c2 (.int .i64 3) (.int .i64 0) (.int .i64 (k : Int))
                  exact bodyPost_ret (v := .tuple #[.slice none 0 0, badV 3 0 k]) (by simp [results, Tryz.results9, go_sem, badV, g0, g1, g2]) rfl (words_back hl hk HT.out (((HI.out.bw.setCell (by simp) _).setCell (by simp) _).setCell (by simp) _))
                · have HWK : Hid (wordOf (s.data.toList.drop k) = .ok (leadOf lod (s.data.toList.drop k))) := by
                    show wordOf _ = _
                    rw [HWD.out, HLEN.out, if_neg h12]
                  go_wp2_with (first | fail | (at_builtin; refine wpList_append_own _ rfl _ _ 37 rfl (w.heap.size + 1) 63 i0 (.agg #[.string ⟨#[]⟩, .int .i64 0]) 2 24 Tryz.underlying37 hi hz0 hz1 hz2 rfl (by decide) _ _ _ rfl (hown.alloc _) _ 1 1 [.string (s.extract k (k + n)), .int .i64 (k : Int)] rfl rfl (cell_two_new _ _ _ _) (fun x hx => by simp at hx; rcases hx with rfl | rfl <;> rfl) (by unfold maxLen; omega) (by omega) (by simp; omega) ?_; intro v' w3 hown3 hg3 hnil))
                  have hbw3 := (hbw.alloc (by omega) _).grown hg3 (by simp; omega) (fun j hj => (hown.lt j hj).1); obtain ⟨m', hm'⟩ := HI.out.word hlt hbf HST.out HWK.out (y := s.extract k (k + n)) (by rw [ext_list, HLD.out]) hown3 hbw3; rw [HLEN.out] at hm'
                  exact ⟨⟨k + n, _, m', by go_num, hm'⟩, by simp [intOf]; omega⟩
        · as_aux_lemma =>
          have h2 := starts_len hst; rw [List.length_drop, ← bs_size] at h2
          have hlt1 : k + 1 < s.size := by omega
          have ea := starts_at s k hlt1 40 42; rw [hst] at ea
          have e40 : (s[k]'hlt == 40) = true := by cases h : (s[k]'hlt == 40) <;> simp [h] at ea; rfl
          have e42 : (s[k + 1]'hlt1 == 42) = true := by cases h : (s[k + 1]'hlt1 == 42) <;> simp [h] at ea; rfl
          have t5 : (((s[k]'hlt).toNat : Int) == 40) = true := (u8_beq _ 40).trans e40; have t6 : (((s[k + 1]'hlt1).toNat : Int) == 42) = true := (u8_beq _ 42).trans e42; have HST := hide hst; have hst' := hst; rw [hdr] at hst'; clear ea e40 e42 hst; cases hcm : cmt 0 (s.data.toList.drop k) with
          | none =>
            have HT : Hid (toks s.data.toList = .error (2, s.data.toList.drop k)) := by
              show toks _ = _
              rw [← HI.out.same, toksN_succ]; rw [hdr] at hcm ⊢; rw [skp_open hbf hst' hcm]; rfl
            have HCM := hide hcm; clear hdr hcm hst'; go_wp2_with fail; refine (behind_any s k _ (by omega) hk HST.out).mono ?_; rintro e w1 ⟨rfl, rfl⟩; rw [HCM.out]; simp only [behindAns]; go_wp2; obtain ⟨g0, g1, g2⟩ := three_cells c0 c1 c2 (.int .i64 2) (.int .i64 0) (.int .i64 (k : Int))
            exact bodyPost_ret (v := .tuple #[.slice none 0 0, badV 2 0 k]) (by simp [results, Tryz.results9, go_sem, badV, g0, g1, g2]) rfl (words_back hl hk HT.out (((HI.out.bw.setCell (by simp) _).setCell (by simp) _).setCell (by simp) _))
          | some r1 =>
            obtain ⟨p, hp, hp2⟩ := cmt_suffix' hcm; have hd2 := drop_of_suffix hp (by rw [← bs_size]; exact hk); rw [← bs_size] at hd2
            have hl1 : s.size - k = p.length + r1.length := by rw [bs_size, ← List.length_drop, hp, List.length_append]
            have HN : ∀ v wr, WI w s v wr k acc m → WI w s v wr (s.size - r1.length) acc m := fun v wr h =>
              ⟨by omega, h.own, h.below, by rw [← h.same, hd2]; rw [hdr] at hcm ⊢; exact congrArg (pre acc) (toksN_skp (skp_shut hbf hst' hcm)).symm, by have := h.fuel; omega, by have := h.count; omega⟩
            have HN' := hide (HN _ _ HI.out); have HCM := hide hcm; clear hdr hcm hst' HN hp hd2; go_wp2_with fail; refine (behind_any s k _ (by omega) hk HST.out).mono ?_; rintro e w1 ⟨rfl, rfl⟩; rw [HCM.out]; simp only [behindAns]; go_wp2
            exact ⟨⟨s.size - r1.length, acc, m, rfl, HN'⟩, by simp [intOf]; omega⟩
    · as_aux_lemma =>
      have HT : Hid (toks s.data.toList = .ok (acc ++ [([], [])])) := by
        show toks _ = _
        rw [← HI.out.same, List.drop_eq_nil_of_le (by rw [← bs_size]; omega), toksN_succ]; rfl
      have hown := HI.out.own; have hbw := HI.out.below; have hcnt := HI.out.count; have hwz := hbw.size; simp only [World.size_alloc] at hwz
      go_wp2_with (first | (at_builtin; refine wpList_append_own _ rfl _ _ 37 rfl (w.heap.size + 1) 63 i0 (.agg #[.string ⟨#[]⟩, .int .i64 0]) 2 24 Tryz.underlying37 hi hz0 hz1 hz2 rfl (by decide) _ _ _ rfl (hown.alloc _) ⟨wr.heap.size, 0, none⟩ 1 1 [.string ⟨#[]⟩, .int .i64 (s.size : Int)] rfl rfl (cell_two_new _ _ _ _) (fun x hx => by simp at hx; rcases hx with rfl | rfl <;> rfl) (by unfold maxLen; omega) (by omega) (by simp; omega) ?_; intro v' w3 hown3 hg3 hnil))
      have hbw3 : Below (w.heap.size + 1) (w.alloc (.cells #[.int .i64 0, .int .i64 0, .int .i64 0] 28)) w3 :=
        (hbw.alloc (by omega) _).grown hg3 (by simp; omega) (fun j hj => (hown.lt j hj).1)
      clear c0 c1 c2 z0 z1 z2 hg3 hnil hown hbw; refine (fine_any _).mono ?_; rintro e w4 ⟨rfl, hb4⟩; have hbw4 := hbw3.trans (hb4.mono (by have := hbw3.size; simp only [World.size_alloc] at this; omega)); have hown4 := hown3.kept (below_gb4 hb4 none) (by cases h : Value.ownBlock _ <;> simp); obtain ⟨c0, c1, c2, z⟩ := bad_cells hbw4; have z0 := z 0; have z1 := z 1; have z2 := z 2; have HB4 := hide (((Below.refl w.heap.size w).alloc (Nat.le_refl _) (.cells #[.int .i64 0, .int .i64 0, .int .i64 0] 28)).trans (hbw4.mono (by omega))); have HO4 := hide (own_base (own_three hown4 (Nat.lt_succ_self w.heap.size) (.int .i64 0) (.int .i64 (-1)) (.int .i64 (-1))) (Nat.le_succ _)); clear hbw3 hb4 hown3 hown4 hbw4 z
      unfold badV
      go_wp2; obtain ⟨g0, g1, g2⟩ := three_cells c0 c1 c2 (.int .i64 0) (.int .i64 (-1)) (.int .i64 (-1)); refine bodyPost_ret (v := .tuple #[v', badV 0 (-1) (-1)]) (by simp [results, Tryz.results9, go_sem, badV, g0, g1, g2]) rfl ⟨fun h => ?_, fun _ l' hl' => ?_, fun _ n' f hf => ?_, ((HB4.out.setCell (by simp) _).setCell (by simp) _).setCell (by simp) _⟩
      · rw [← bs_size] at h; omega
      · rw [HT.out] at hl'
        cases hl'; refine ⟨v', rfl, ?_⟩; rw [← bs_size, flatT_snoc, List.length_append]
        exact HO4.out
      · rw [HT.out] at hf; cases hf

/-- The document's answer at every text. -/
theorem words_any (s : ByteArray) (w : World) (hs : s.size ≤ maxLen) :
    Calls Tryz.prog 9 #[.string s] w fun e w' => WordsPost s.data.toList w e w' := by
  by_cases hl : 4000 < s.size
  · exact words_long s w hs hl
  · exact words_short s w (by omega)
end Go.Proofs.YtbphiiaoncakfaaGreatDoor
