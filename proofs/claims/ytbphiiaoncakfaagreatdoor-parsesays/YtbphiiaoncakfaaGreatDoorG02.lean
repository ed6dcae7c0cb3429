/- The next word of a text. -/
import Derived.Test.YtbphiiaoncakfaaGreatDoorG01
import Derived.Defers
import Derived.Recover
import GoSem.Op.String
namespace Go.Proofs.YtbphiiaoncakfaaGreatDoor
open Go.RowKit

theorem headD_drop (s : ByteArray) (k : Nat) (h : k < s.size) : (s.data.toList.drop k).headD 0 = s[k] := by rw [drop_at s k h]; rfl

theorem leadOf_all {p : Int → Bool} {l : List UInt8} {c : UInt8} (h : c ∈ leadOf p l) : p c.toNat = true := by
  induction l with
  | nil => simp [leadOf] at h
  | cons a l ih =>
    unfold leadOf at h ih
    rw [List.takeWhile_cons] at h; cases hp : p a.toNat
    · simp [hp] at h
    · simp only [hp, if_true, List.mem_cons] at h
      rcases h with rfl | h
      · exact hp
      · exact ih h

theorem mem_get (x : ByteArray) (j : Nat) (h : j < x.size) : x[j] ∈ x.data.toList := by
  have : x[j] = x.data.toList[j]'(by rw [← bs_size]; exact h) := rfl
  rw [this]; exact List.getElem_mem _

theorem leadOf_ne {p : Int → Bool} {l : List UInt8} {c : UInt8} (h : p c.toNat = true) : (leadOf p (c :: l)).isEmpty = false := by
  unfold leadOf; simp [h]

theorem leadOf_len (p : Int → Bool) (l : List UInt8) : (leadOf p l).length ≤ l.length := by
  unfold leadOf
  induction l with
  | nil => simp
  | cons a l ih => rw [List.takeWhile_cons]; split <;> simp <;> omega

theorem threw_new' {w wr : World} {k n : Int} (h : w.heap.size ≤ wr.heap.size) :
    Threw w k n (.panicked [{ v := .iface 49 (.pointer (some ⟨wr.heap.size, 0, none⟩)), recovered := false }]) (wr.alloc (.cells #[.int .i64 0, .int .i64 k, .iface 26 (.int .i64 n)] 78)) :=
  ⟨wr.heap.size, rfl, h, by rw [World.cell?_alloc_at _ _ _ _ (by simp)]; rfl, by rw [World.cell?_alloc_at _ _ _ _ (by simp)]; rfl, by rw [World.cell?_alloc_at _ _ _ _ (by simp)]; rfl⟩

theorem wrap32_byte (c : UInt8) : wrap32 (c.toNat : Int) = c.toNat := by
  have := c.toNat_lt; simp only [wrap32]
  omega

theorem ext_get0 (s : ByteArray) (k : Nat) (h : k < s.size) (h0 : 0 < (s.extract k s.size).size) : (s.extract k s.size)[0] = s[k] := by
  have h1 := (take_head (s.extract k s.size) h0).1; rw [bs_drop, headD_drop s k h] at h1
  exact h1.symm

set_option maxRecDepth 1000000 in
set_option maxHeartbeats 2000000 in
theorem word_any (b : Nat) (s : ByteArray) (k : Nat) (w : World) (hs : s.size ≤ 1000000000) (hk : k < s.size) (hsc : Sc w b s k) :
    Calls Tryz.prog 48 #[.pointer (some ⟨b, 0, none⟩)] w fun e w' =>
      (∀ x, wordOf (s.data.toList.drop k) = .ok x → ∃ y : ByteArray, e = .returned (.string y) ∧ y.data.toList = x ∧ w.grownBy w' none) ∧
      (∀ n, wordOf (s.data.toList.drop k) = .error n → Threw w k n e w' ∧ w.grownBy w' none) := by
  have c0 := hsc.c0; have c1 := hsc.c1
  have hsm : s.size ≤ maxLen := by unfold maxLen; omega
  have hk' : k ≤ s.size := by omega
  have hxs : (s.extract k s.size).size = s.size - k := by rw [bs_size, bs_drop, List.length_drop, ← bs_size]
  have hx0 : 0 < (s.extract k s.size).size := by omega
  have hxm : (s.extract k s.size).size ≤ maxLen := by unfold maxLen; omega
  have hget := ext_get0 s k hk hx0; have hw : wordOf (s.data.toList.drop k) = if isLetter (s[k]'hk).toNat then (if 12 < (leadOf lod (s.data.toList.drop k)).length then .error 3 else .ok (leadOf lod (s.data.toList.drop k)))
      else if isDigit (s[k]'hk).toNat then (match valueFrom 0 (leadOf isDigit (s.data.toList.drop k)) with | none => .error 3 | some _ => .ok (leadOf isDigit (s.data.toList.drop k)))
      else if signOf (s.data.toList.drop k) = [] then .error 1 else .ok (signOf (s.data.toList.drop k)) := by
    unfold wordOf; rw [headD_drop s k hk]; rfl
  have hw32 := wrap32_byte (s[k]'hk); have HSC := hide hsc; clear hsc; cases hl : isLetter (s[k]'hk).toNat
  · rw [hl, if_neg (by simp)] at hw
    cases hd : isDigit (s[k]'hk).toNat
    · rw [hd, if_neg (by simp)] at hw
      cases hsg : (signOf (s.data.toList.drop k)).isEmpty
      · have hne : signOf (s.data.toList.drop k) ≠ [] := by intro e; rw [e] at hsg; cases hsg
        rw [if_neg hne] at hw; have HW := hide hw; have HG := hide hsg; clear hw hxs hsg hne
        go_enter Tryz.func48, Tryz.ntmps48
        go_wp2_with (first | (go_at_call 74; refine (rest_any b s k _ hsm hk' c0 c1).mono ?_; rintro e w1 ⟨rfl, nr, rfl⟩) | (go_at_call 76; refine (letter_any _ _).mono ?_; rintro e w' ⟨rfl, rfl⟩; simp only [hl]) | (go_at_call 80; refine (digit_any _ _).mono ?_; rintro e w' ⟨rfl, rfl⟩; simp only [hd]))
        refine (sign_any _ _ hxm hx0).mono ?_; rintro e w2 ⟨y, rfl, hy, rfl⟩
        have hemp : y.toList.isEmpty = false := by rw [bs_toList, hy, bs_drop]; exact HG.out
        have HY := hide hy; clear hy; go_wp2
        go_ret
        refine ⟨fun x hx => ?_, fun n hn => ?_⟩
        · rw [HW.out] at hx
          cases hx
          exact ⟨y, rfl, by rw [HY.out, bs_drop], gb_drewN (gb_refl _ _) _⟩
        · rw [HW.out] at hn; cases hn
      · have hne : signOf (s.data.toList.drop k) = [] := by simpa using hsg
        rw [if_pos hne] at hw; have HW := hide hw; have HG := hide hsg; clear hw hxs hsg hne
        go_enter Tryz.func48, Tryz.ntmps48
        go_wp2_with (first | (go_at_call 74; refine (rest_any b s k _ hsm hk' c0 c1).mono ?_; rintro e w1 ⟨rfl, nr, rfl⟩) | (go_at_call 76; refine (letter_any _ _).mono ?_; rintro e w' ⟨rfl, rfl⟩; simp only [hl]) | (go_at_call 80; refine (digit_any _ _).mono ?_; rintro e w' ⟨rfl, rfl⟩; simp only [hd]))
        refine (sign_any _ _ hxm hx0).mono ?_; rintro e w2 ⟨y, rfl, hy, rfl⟩
        have hemp : y.toList.isEmpty = true := by rw [bs_toList, hy, bs_drop]; exact HG.out
        clear hy
        go_wp2_with (go_at_call 79; refine (throw_any _ _ _ _).mono ?_; rintro e w' ⟨rfl, rfl⟩)
        refine ⟨rfl, fun x hx => ?_, fun n hn => ?_⟩
        · rw [HW.out] at hx; cases hx
        · rw [HW.out] at hn
          cases hn
          exact ⟨threw_new (Nat.le_refl _), gb_alloc (gb_drewN (gb_refl _ _) _) _⟩
    · rw [hd, if_pos rfl] at hw
      have hne : (leadOf isDigit (s.data.toList.drop k)).isEmpty = false := by rw [drop_at s k hk]; exact leadOf_ne hd
      cases hv : valueFrom 0 (leadOf isDigit (s.data.toList.drop k)) with
      | none =>
        rw [hv] at hw; have HW := hide hw; have HV := hide hv; have HN := hide hne; clear hw hxs hv hne
        go_enter Tryz.func48, Tryz.ntmps48
        go_wp2_with (first | (go_at_call 74; refine (rest_any b s k _ hsm hk' c0 c1).mono ?_; rintro e w1 ⟨rfl, nr, rfl⟩) | (go_at_call 76; refine (letter_any _ _).mono ?_; rintro e w' ⟨rfl, rfl⟩; simp only [hl]) | (go_at_call 80; refine (digit_any _ _).mono ?_; rintro e w' ⟨rfl, rfl⟩; simp only [hd]))
        refine (lead_digit _ _ hxm).mono ?_; rintro e w2 ⟨x, rfl, hx, hg⟩; rw [bs_drop] at hx; have hs2 := (HSC.out.drewN nr).kept hg (by simp); have HG := hide hg; have HX := hide hx; have HS2 := hide hs2; clear hx hg hs2 c0 c1; go_wp2_with fail; refine (value_any x _ (by unfold maxLen; have := congrArg List.length HX.out; rw [← bs_size] at this; have h2 := leadOf_len isDigit (s.data.toList.drop k); rw [List.length_drop, ← bs_size] at h2; omega) (by rw [HX.out]; exact HN.out) (fun j h => by have := mem_get x j h; rw [HX.out] at this; exact leadOf_all this)).mono ?_; rintro e w3 ⟨he, hg3⟩; rw [HX.out, HV.out] at he; simp only [valueAns] at he; subst he; have d1 := (HS2.out.kept hg3 (by simp)).c1; have HG3 := hide hg3; clear hg3
        go_wp2_with (go_at_call 79; refine (throw_any _ _ _ _).mono ?_; rintro e w' ⟨rfl, rfl⟩)
        have hgg := gb_trans (gb_trans (gb_drewN (gb_refl w none) nr) HG.out) HG3.out; refine ⟨rfl, fun x hx => ?_, fun n hn => ?_⟩
        · rw [HW.out] at hx; cases hx
        · rw [HW.out] at hn
          cases hn
          exact ⟨threw_new' hgg.size, gb_alloc hgg _⟩
      | some v =>
        rw [hv] at hw; have HW := hide hw; have HV := hide hv; have HN := hide hne; clear hw hxs hv hne
        go_enter Tryz.func48, Tryz.ntmps48
        go_wp2_with (first | (go_at_call 74; refine (rest_any b s k _ hsm hk' c0 c1).mono ?_; rintro e w1 ⟨rfl, nr, rfl⟩) | (go_at_call 76; refine (letter_any _ _).mono ?_; rintro e w' ⟨rfl, rfl⟩; simp only [hl]) | (go_at_call 80; refine (digit_any _ _).mono ?_; rintro e w' ⟨rfl, rfl⟩; simp only [hd]))
        refine (lead_digit _ _ hxm).mono ?_; rintro e w2 ⟨x, rfl, hx, hg⟩; rw [bs_drop] at hx; have HG := hide hg; have HX := hide hx; clear hx hg c0 c1; go_wp2_with fail; refine (value_any x _ (by unfold maxLen; have := congrArg List.length HX.out; rw [← bs_size] at this; have h2 := leadOf_len isDigit (s.data.toList.drop k); rw [List.length_drop, ← bs_size] at h2; omega) (by rw [HX.out]; exact HN.out) (fun j h => by have := mem_get x j h; rw [HX.out] at this; exact leadOf_all this)).mono ?_; rintro e w3 ⟨he, hg3⟩; rw [HX.out, HV.out] at he; simp only [valueAns] at he; subst he; have HG3 := hide hg3; clear hg3; go_wp2
        go_ret
        have hgg := gb_trans (gb_trans (gb_drewN (gb_refl w none) nr) HG.out) HG3.out; refine ⟨fun y hy => ?_, fun n hn => ?_⟩
        · rw [HW.out] at hy
          cases hy
          exact ⟨x, rfl, HX.out, hgg⟩
        · rw [HW.out] at hn; cases hn
  · rw [hl, if_pos rfl] at hw
    obtain ⟨m, hm⟩ : ∃ m, m = (leadOf lod (s.data.toList.drop k)).length := ⟨_, rfl⟩; have HM := hide hm; rw [← hm] at hw; clear hm
    by_cases hlen : 12 < m
    · rw [if_pos hlen] at hw
      have HW := hide hw; clear hw hxs
      go_enter Tryz.func48, Tryz.ntmps48
      go_wp2_with (first | (go_at_call 74; refine (rest_any b s k _ hsm hk' c0 c1).mono ?_; rintro e w1 ⟨rfl, nr, rfl⟩) | (go_at_call 76; refine (letter_any _ _).mono ?_; rintro e w' ⟨rfl, rfl⟩; simp only [hl]))
      refine (lead_lod _ _ hxm).mono ?_; rintro e w2 ⟨x, rfl, hx, hg⟩; rw [bs_drop] at hx
      have hxl : x.size = m := by rw [bs_size, hx]; exact HM.out.symm
      have d1 := ((HSC.out.drewN nr).kept hg (by simp)).c1; have HG := hide hg; clear hx hg c0 c1
      go_wp2_with (go_at_call 79; refine (throw_any _ _ _ _).mono ?_; rintro e w' ⟨rfl, rfl⟩)
      have hgg := gb_trans (gb_drewN (gb_refl w none) nr) HG.out; refine ⟨rfl, fun x hx => ?_, fun n hn => ?_⟩
      · rw [HW.out] at hx; cases hx
      · rw [HW.out] at hn
        cases hn
        exact ⟨threw_new' hgg.size, gb_alloc hgg _⟩
    · rw [if_neg hlen] at hw
      have HW := hide hw; clear hw hxs
      go_enter Tryz.func48, Tryz.ntmps48
      go_wp2_with (first | (go_at_call 74; refine (rest_any b s k _ hsm hk' c0 c1).mono ?_; rintro e w1 ⟨rfl, nr, rfl⟩) | (go_at_call 76; refine (letter_any _ _).mono ?_; rintro e w' ⟨rfl, rfl⟩; simp only [hl]))
      refine (lead_lod _ _ hxm).mono ?_; rintro e w2 ⟨x, rfl, hx, hg⟩; rw [bs_drop] at hx
      have hxl : x.size = m := by rw [bs_size, hx]; exact HM.out.symm
      have HG := hide hg; have HX := hide hx; clear hx hg c0 c1; go_wp2
      go_ret
      have hgg := gb_trans (gb_drewN (gb_refl w none) nr) HG.out; refine ⟨fun y hy => ?_, fun n hn => ?_⟩
      · rw [HW.out] at hy
        cases hy
        exact ⟨x, rfl, HX.out, hgg⟩
      · rw [HW.out] at hn; cases hn

end Go.Proofs.YtbphiiaoncakfaaGreatDoor

/- Plain facts on the words of a text: what one word takes, what stands behind it, and how all words come one by one. -/
namespace Go.Proofs.YtbphiiaoncakfaaGreatDoor

abbrev Toks := Except (Nat × List UInt8) (List (List UInt8 × List UInt8))

/-- Words that stand ahead of an answer. -/
def pre (acc : List (List UInt8 × List UInt8)) : Toks → Toks
  | .error x => .error x
  | .ok l => .ok (acc ++ l)

/-- The words from a word on. -/
def tokA (n : Nat) : List UInt8 → Toks
  | [] => .ok [([], [])]
  | c :: r => match wordOf (c :: r) with
    | .error e => .error (e, c :: r)
    | .ok w => pre [(w, c :: r)] (toksN n ((c :: r).drop w.length))

theorem toksN_succ (n : Nat) (r : List UInt8) : toksN (n + 1) r = match skp r with | .error f => .error (2, f) | .ok r' => tokA n r' := by
  rw [toksN]; cases h : skp r with
  | error f => rfl
  | ok r' =>
    cases r' with
    | nil => rfl
    | cons c r' =>
      simp only [tokA]; cases hw : wordOf (c :: r') with
      | error e => rfl
      | ok w =>
        simp only
        cases toksN n ((c :: r').drop w.length) <;> rfl

theorem pre_pre (a b : List (List UInt8 × List UInt8)) (x : Toks) : pre a (pre b x) = pre (a ++ b) x := by
  cases x <;> simp [pre]
theorem pre_error {a : List (List UInt8 × List UInt8)} {x : Nat × List UInt8} : pre a (.error x) = .error x := rfl
theorem pre_nil (x : Toks) : pre [] x = x := by cases x <;> simp [pre]

theorem leadOf_pre (p : Int → Bool) (r : List UInt8) : r.take (leadOf p r).length = leadOf p r := by
  unfold leadOf
  induction r with
  | nil => rfl
  | cons a r ih =>
    rw [List.takeWhile_cons]
    split
    · simp [ih]
    · simp

theorem leadOf_pos {p : Int → Bool} {c : UInt8} {r : List UInt8} (h : p c.toNat = true) : 1 ≤ (leadOf p (c :: r)).length := by
  unfold leadOf
  rw [List.takeWhile_cons, if_pos h]; simp

theorem signOf_pre (r : List UInt8) : r.take (signOf r).length = signOf r := by
  unfold signOf
  split
  · match r with
    | [] => rfl
    | [a] => rfl
    | a :: b :: r => rfl
  · split
    · match r with
      | [] => rfl
      | a :: r => rfl
    · rfl

/-- A word is the beginning of what there is, and is not empty. -/
theorem wordOf_pre {c : UInt8} {r w : List UInt8} (h : wordOf (c :: r) = .ok w) : (c :: r).take w.length = w ∧ 1 ≤ w.length := by
  unfold wordOf at h
  have hh : (c :: r).headD 0 = c := rfl
  rw [hh] at h
  by_cases hl : isLetter c.toNat = true
  · rw [if_pos hl] at h
    by_cases h12 : 12 < (leadOf lod (c :: r)).length
    · rw [if_pos h12] at h; cases h
    · rw [if_neg h12] at h
      cases h
      exact ⟨leadOf_pre _ _, leadOf_pos (by simp [lod, hl])⟩
  · rw [if_neg hl] at h
    by_cases hd : isDigit c.toNat = true
    · rw [if_pos hd] at h
      cases hv : valueFrom 0 (leadOf isDigit (c :: r)) with
      | none => rw [hv] at h; cases h
      | some v =>
        rw [hv] at h; cases h
        exact ⟨leadOf_pre _ _, leadOf_pos hd⟩
    · rw [if_neg hd] at h
      by_cases hs : signOf (c :: r) = []
      · rw [if_pos hs] at h; cases h
      · rw [if_neg hs] at h
        cases h; refine ⟨signOf_pre _, ?_⟩; cases hx : signOf (c :: r) with
        | nil => exact absurd hx hs
        | cons a l => simp

theorem wordOf_len {c : UInt8} {r w : List UInt8} (h : wordOf (c :: r) = .ok w) : w.length ≤ (c :: r).length := by
  have h1 := (wordOf_pre h).1; have := congrArg List.length h1; rw [List.length_take] at this
  omega

end Go.Proofs.YtbphiiaoncakfaaGreatDoor

/- All words of a text, gathered. -/
namespace Go.Proofs.YtbphiiaoncakfaaGreatDoor
open Go.RowKit

/-- The cells of words, each with its place in a text of n bytes. -/
def flatT (n : Nat) (l : List (List UInt8 × List UInt8)) : List Value := l.flatMap fun x => [.string ⟨x.1.toArray⟩, .int .i64 ((n - x.2.length : Nat) : Int)]

theorem flatT_length (n : Nat) (l : List (List UInt8 × List UInt8)) : (flatT n l).length = l.length * 2 := by
  unfold flatT
  induction l with
  | nil => rfl
  | cons a l ih => simp only [List.flatMap_cons, List.length_append, List.length_cons, List.length_nil, ih]; omega
theorem flatT_snoc (n : Nat) (l : List (List UInt8 × List UInt8)) (x : List UInt8 × List UInt8) : flatT n (l ++ [x]) = flatT n l ++ [.string ⟨x.1.toArray⟩, .int .i64 ((n - x.2.length : Nat) : Int)] := by
  simp [flatT]

theorem ba_of {y : ByteArray} {l : List UInt8} (h : y.data.toList = l) : y = ⟨l.toArray⟩ := by
  subst h; cases y; simp

theorem Tryz.infoTok : (Tryz.prog.info? 63).map (fun i => (i.zero, i.size, i.bytes)) = some (some (.agg #[.string ⟨#[]⟩, .int .i64 0]), 2, 24) := by kernel_rfl

theorem gb_own {a w w' : World} {b : Nat} {row : Option Nat} (h : a.grownBy w (some b)) (hg : w.grownBy w' row) (hr : ∀ j, row = some j → a.heap.size ≤ j) : a.grownBy w' (some b) :=
  ⟨hg.os.trans h.os, hg.tape.trans h.tape, hg.output.trans h.output, Nat.le_trans h.size hg.size, fun i hi hne => (hg.block i (Nat.lt_of_lt_of_le hi h.size) (fun e => by have := hr i e.symm; omega)).trans (h.block i hi hne)⟩

theorem owns_drewN {w : World} {base : Nat} {e : TypeId} {size : Nat} {v : Value} {n : Nat} {xs : List Value} (h : w.ownsRow base e size v n xs) (m : Nat) : (w.drewN m).ownsRow base e size v n xs := h

theorem own_snoc {w : World} {base : Nat} {e : TypeId} {v : Value} {acc : List (List UInt8 × List UInt8)} {x r : List UInt8} {n k : Nat} {y : ByteArray}
    (h : w.ownsRow base e 2 v (acc.length + 1) (flatT n acc ++ [.string y, .int .i64 (k : Int)])) (hy : y.data.toList = x) (hk : n - r.length = k) :
    w.ownsRow base e 2 v (acc ++ [(x, r)]).length (flatT n (acc ++ [(x, r)])) := by
  rw [flatT_snoc, List.length_append]; simp only; rw [hk, ← ba_of hy]
  exact h

/-- What holds when the next word is to be looked for. -/
structure TI (w : World) (b : Nat) (s : ByteArray) (v : Value) (wr : World) (r : List UInt8) (acc : List (List UInt8 × List UInt8)) (n : Nat) : Prop where
  len : r.length ≤ s.size
  drop : s.data.toList.drop (s.size - r.length) = r
  sc : Sc wr b s (s.size - r.length)
  own : wr.ownsRow w.heap.size 63 2 v acc.length (flatT s.size acc)
  gb : w.grownBy wr (some b)
  same : pre acc (tokA n r) = toks s.data.toList
  fuel : r.length ≤ n
  count : acc.length + r.length ≤ s.size

theorem skp_drop {s : ByteArray} {k : Nat} {r : List UInt8} (h : skp (s.data.toList.drop k) = .ok r) (hk : k ≤ s.size) : r.length ≤ s.size - k ∧ s.data.toList.drop (s.size - r.length) = r := by
  obtain ⟨p, hp⟩ := skp_suffix h; refine ⟨?_, ?_⟩
  · have := skp_len h
    rw [List.length_drop, ← bs_size] at this; exact this
  · have := drop_of_suffix hp (by rw [← bs_size]; exact hk)
    rw [← bs_size] at this; exact this

set_option maxRecDepth 1000000 in
set_option maxHeartbeats 2000000 in
theorem gather_any (b : Nat) (s : ByteArray) (w : World) (hs : s.size ≤ 1000000000) (hsc : Sc w b s 0) :
    Calls Tryz.prog 35 #[.pointer (some ⟨b, 0, none⟩)] w fun e w' =>
      (∀ l, toks s.data.toList = .ok l → ∃ v, e = .returned v ∧ w'.ownsRow w.heap.size 63 2 v l.length (flatT s.size l) ∧ w.grownBy w' (some b)) ∧
      (∀ n f, toks s.data.toList = .error (n, f) → Threw w ((s.size - f.length : Nat) : Int) n e w' ∧ w.grownBy w' (some b)) := by
  obtain ⟨i0, hi, hz0, hz1, hz2⟩ := info_parts Tryz.infoTok; have hbl := hsc.lt; have HSC := hide hsc; clear hsc; have ht0 : toks s.data.toList = match skp s.data.toList with | .error f => .error (2, f) | .ok r' => tokA s.data.toList.length r' := toksN_succ _ _; cases hk0 : skp s.data.toList with
  | error f0 =>
    rw [hk0] at ht0; have HT := hide ht0; have HK := hide hk0; clear ht0 hk0
    go_enter Tryz.func35, Tryz.ntmps35
    go_wp2_with fail; refine (skip_any b s 0 _ hs (Nat.zero_le _) HSC.out).mono ?_; rintro e w1 ⟨_, hB⟩; obtain ⟨⟨q, rfl, hq, q0, q1, q2⟩, hG⟩ := hB f0 (by rw [List.drop_zero]; exact HK.out); refine ⟨rfl, fun l hl => ?_, fun n f hf => ?_⟩
    · rw [HT.out] at hl; cases hl
    · rw [HT.out] at hf
      cases hf
      exact ⟨⟨q, rfl, hq, q0, q1, q2⟩, hG⟩
  | ok r0 =>
    rw [hk0] at ht0; have HT := hide ht0; have HK := hide hk0; clear ht0 hk0
    go_enter Tryz.func35, Tryz.ntmps35
    go_wp2_with fail; refine (skip_any b s 0 _ hs (Nat.zero_le _) HSC.out).mono ?_; rintro e w1 ⟨hA, hB⟩; clear hB; obtain ⟨rfl, hs1, hg1⟩ := hA r0 (by rw [List.drop_zero]; exact HK.out); obtain ⟨hr1, hr2⟩ := skp_drop (s := s) (k := 0) (r := r0) (by rw [List.drop_zero]; exact HK.out) (Nat.zero_le _); have hT0 : TI w b s (.slice none 0 0) w1 r0 [] s.data.toList.length := ⟨by omega, hr2, hs1, World.ownsRow_nil _ _ _ _, hg1, by rw [pre_nil]; exact HT.out.symm, by rw [← bs_size]; omega, by simp; omega⟩; clear hs1 hg1 hr1 hr2 HSC hA; go_wp2_with fail
    go_loopw [3] (fun v wr => ∃ r acc n, Hid (TI w b s v wr r acc n)) (fun _ wr => s.size - atOf wr b)
    case atStart => exact ⟨r0, [], _, hT0⟩
    case round =>
      obtain ⟨r, acc, n, HI⟩ := hrel; clear hT0; cases r with
      | nil =>
        have hI := HI.out; have c0 := hI.sc.c0; have c1 := hI.sc.c1; simp only [List.length_nil, Nat.sub_zero] at c1; have hown := hI.own; have hgr := hI.gb; have hcnt := hI.count; simp only [List.length_nil, Nat.add_zero] at hcnt
        have hT : Hid (toks s.data.toList = .ok (acc ++ [([], [])])) := by rw [← hI.same]; rfl
        have hwz := hgr.size; clear hI HI HT HK; have HGR := hide hgr; clear hgr; go_wp2_with fail
        go_quiet (fail)
        go_wp2_with (first | (at_builtin; refine wpList_append_own _ rfl _ _ 37 rfl w.heap.size 63 i0 (.agg #[.string ⟨#[]⟩, .int .i64 0]) 2 24 Tryz.underlying37 hi hz0 hz1 hz2 rfl (by decide) _ _ _ rfl ((owns_drewN hown nq).alloc _) ⟨wr.heap.size, 0, none⟩ 1 1 [.string ⟨#[]⟩, .int .i64 (s.size : Int)] rfl rfl (cell_two_new _ _ _ _) (fun x hx => by simp at hx; rcases hx with rfl | rfl <;> rfl) (by unfold maxLen; omega) (by omega) (by simp; omega) ?_; intro v' w3 hown3 hg3 hnil))
        go_ret
        refine ⟨fun l hl => ?_, fun m f hf => ?_⟩
        · rw [hT.out] at hl
          cases hl; refine ⟨v', rfl, ?_, gb_own (gb_alloc (gb_drewN HGR.out nq) _) hg3 (fun j hj => (hown.lt j hj).1)⟩; rw [flatT_snoc, List.length_append]
          exact hown3
        · rw [hT.out] at hf; cases hf
      | cons c r =>
        have hI := HI.out; have hlen := hI.len; have hdrop := hI.drop; have hsk := hI.sc; have hown := hI.own; have hgr := hI.gb; have hcnt := hI.count; have hfu := hI.fuel; have hsame := hI.same; simp only [List.length_cons] at hlen hdrop hsk hcnt hfu; obtain ⟨k, hk⟩ : ∃ k, k = s.size - (r.length + 1) := ⟨_, rfl⟩; rw [← hk] at hdrop hsk
        have hlt : k < s.size := by omega
        have hk1 : k + (r.length + 1) ≤ s.size := by omega
        have hk2 : s.size ≤ k + (r.length + 1) := by omega
        obtain ⟨m, rfl⟩ : ∃ m, n = m + 1 := ⟨n - 1, by omega⟩; have c0 := hsk.c0; have c1 := hsk.c1; have f1 := hsk.f1; have hea := hsk.atOf; have hwz := hgr.size; have HD := hide hdrop; have HSK := hide hsk; have HGR := hide hgr; have HSA := hide hsame; have HOW := hide hown; clear hI HI HT HK hdrop hsk hgr hsame hown hk; cases hx : wordOf (c :: r) with
        | error m1 =>
          have hT : Hid (toks s.data.toList = .error (m1, c :: r)) := by
            rw [← HSA.out, tokA, hx]; rfl
          have HX := hide hx; clear hx; go_wp2_with fail
          go_quiet (fail)
          go_wp2_with fail; refine (word_any b s k _ hs hlt (HSK.out.drewN nq)).mono ?_; rintro e w1 ⟨hA, hB⟩; obtain ⟨⟨q, rfl, hq, q0, q1, q2⟩, hG⟩ := hB m1 (by rw [HD.out]; exact HX.out); refine ⟨rfl, fun l hl => ?_, fun n f hf => ?_⟩
          · rw [hT.out] at hl; cases hl
          · rw [hT.out] at hf
            cases hf; have hgg := gb_trans (gb_drewN HGR.out nq) (gb_some hG _); refine ⟨⟨q, rfl, Nat.le_trans (gb_drewN HGR.out nq).size hq, q0, ?_, q2⟩, hgg⟩; rw [List.length_cons, show s.size - (r.length + 1) = k from by omega]
            exact q1
        | ok x =>
          obtain ⟨hpre, hpos⟩ := wordOf_pre hx; have hxl := wordOf_len hx; simp only [List.length_cons] at hxl
          have hdk : s.data.toList.drop (k + x.length) = (c :: r).drop x.length := by rw [← List.drop_drop, HD.out]
          have HDK := hide hdk; have HX := hide hx
          have hTA : tokA (m + 1) (c :: r) = pre [(x, c :: r)] (toksN (m + 1) ((c :: r).drop x.length)) := by rw [tokA, hx]
          clear hpre hdk hx; cases hz : skp ((c :: r).drop x.length) with
          | error f2 =>
            have hT : Hid (toks s.data.toList = .error (2, f2)) := by
              rw [← HSA.out, hTA, toksN_succ, hz]; rfl
            have HZ := hide hz; clear hz hTA; go_wp2_with fail
            go_quiet (fail)
            go_wp2_with fail; refine (word_any b s k _ hs hlt (HSK.out.drewN nq)).mono ?_; rintro e w1 ⟨hA, hB⟩; clear hB; obtain ⟨y, rfl, hy, hg1⟩ := hA x (by rw [HD.out]; exact HX.out)
            have hyl : y.size = x.length := by rw [bs_size, hy]
            have hs1 := (HSK.out.drewN nq).kept hg1 (by simp); have hown1 := (owns_drewN HOW.out nq).kept hg1 (by cases h : Value.ownBlock _ <;> simp); have hgw := gb_trans (gb_drewN HGR.out nq) (gb_some hg1 (some b)); have hw1z := hgw.size; have d0 := hs1.c0; have d1 := hs1.c1; have e1 := hs1.f1; have HY := hide hy; have HYL := hide hyl; have HS1 := hide hs1; have HGW := hide hgw
            have hyb : y.size ≤ s.size := by omega
            clear hA hy hyl hs1 hgw hg1 c0 c1 f1
            go_wp2_with (first | (at_builtin; refine wpList_append_own _ rfl _ _ 37 rfl w.heap.size 63 i0 (.agg #[.string ⟨#[]⟩, .int .i64 0]) 2 24 Tryz.underlying37 hi hz0 hz1 hz2 rfl (by decide) _ _ _ rfl (hown1.alloc _) ⟨w1.heap.size, 0, none⟩ 1 1 [.string y, .int .i64 (k : Int)] rfl rfl (cell_two_new _ _ _ _) (fun x hx => by simp at hx; rcases hx with rfl | rfl <;> rfl) (by unfold maxLen; omega) (by omega) (by simp; omega) ?_; intro v' w3 hown3 hg3 hnil; have hs3 := (HS1.out.kept (World.grownBy_alloc _ _ none) (by simp)).kept hg3 (fun e => by have := (hown1.lt b e).1; omega); have k0 := hs3.c0; have k1 := hs3.c1; have k2 := hs3.f1; have HG3 := hide (gb_own (gb_alloc HGW.out _) hg3 (fun j hj => (hown1.lt j hj).1)); have HS3 := hide hs3; have HO3 := hide hown3; clear hs3 hown3 hg3 hnil))
            refine (skip_any b s (k + x.length) _ hs (by omega) (HS3.out.setI ((k : Int) + (y.size : Int)) (k + x.length) (by have := HYL.out; omega))).mono ?_; rintro e w5 ⟨hA, hB⟩; obtain ⟨⟨q, rfl, hq, q0, q1, q2⟩, hG⟩ := hB f2 (by rw [HDK.out]; exact HZ.out); have hgg := gb_trans (gb_set HG3.out 1 (.int .i64 ((k : Int) + (y.size : Int)))) hG; refine ⟨rfl, fun l hl => ?_, fun n f hf => ?_⟩
            · rw [hT.out] at hl; cases hl
            · rw [hT.out] at hf
              cases hf
              exact ⟨⟨q, rfl, Nat.le_trans (gb_set HG3.out 1 (.int .i64 ((k : Int) + (y.size : Int)))).size hq, q0, q1, q2⟩, hgg⟩
          | ok r2 =>
            obtain ⟨hr1, hr2⟩ := skp_drop (s := s) (k := k + x.length) (r := r2) (by rw [HDK.out]; exact hz) (by omega)
            have hT : Hid (pre (acc ++ [(x, c :: r)]) (tokA m r2) = toks s.data.toList) := by
              rw [← HSA.out, hTA, toksN_succ, hz, pre_pre]; rfl
            have HZ := hide hz; have HR2 := hide hr2; clear hz hTA hr2; go_wp2_with fail
            go_quiet (fail)
            go_wp2_with fail; refine (word_any b s k _ hs hlt (HSK.out.drewN nq)).mono ?_; rintro e w1 ⟨hA, hB⟩; clear hB; obtain ⟨y, rfl, hy, hg1⟩ := hA x (by rw [HD.out]; exact HX.out)
            have hyl : y.size = x.length := by rw [bs_size, hy]
            have hs1 := (HSK.out.drewN nq).kept hg1 (by simp); have hown1 := (owns_drewN HOW.out nq).kept hg1 (by cases h : Value.ownBlock _ <;> simp); have hgw := gb_trans (gb_drewN HGR.out nq) (gb_some hg1 (some b)); have hw1z := hgw.size; have d0 := hs1.c0; have d1 := hs1.c1; have e1 := hs1.f1; have HY := hide hy; have HYL := hide hyl; have HS1 := hide hs1; have HGW := hide hgw
            have hyb : y.size ≤ s.size := by omega
            clear hA hy hyl hs1 hgw hg1 c0 c1 f1
            go_wp2_with (first | (at_builtin; refine wpList_append_own _ rfl _ _ 37 rfl w.heap.size 63 i0 (.agg #[.string ⟨#[]⟩, .int .i64 0]) 2 24 Tryz.underlying37 hi hz0 hz1 hz2 rfl (by decide) _ _ _ rfl (hown1.alloc _) ⟨w1.heap.size, 0, none⟩ 1 1 [.string y, .int .i64 (k : Int)] rfl rfl (cell_two_new _ _ _ _) (fun x hx => by simp at hx; rcases hx with rfl | rfl <;> rfl) (by unfold maxLen; omega) (by omega) (by simp; omega) ?_; intro v' w3 hown3 hg3 hnil; have hs3 := (HS1.out.kept (World.grownBy_alloc _ _ none) (by simp)).kept hg3 (fun e => by have := (hown1.lt b e).1; omega); have k0 := hs3.c0; have k1 := hs3.c1; have k2 := hs3.f1; have HG3 := hide (gb_own (gb_alloc HGW.out _) hg3 (fun j hj => (hown1.lt j hj).1)); have HS3 := hide hs3; have HO3 := hide hown3; clear hs3 hown3 hg3 hnil))
            refine (skip_any b s (k + x.length) _ hs (by omega) (HS3.out.setI ((k : Int) + (y.size : Int)) (k + x.length) (by have := HYL.out; omega))).mono ?_; rintro e w5 ⟨hA, hB⟩; clear hB; obtain ⟨rfl, hs5, hg5⟩ := hA r2 (by rw [HDK.out]; exact HZ.out); have hgg := gb_trans (gb_set HG3.out 1 (.int .i64 ((k : Int) + (y.size : Int)))) hg5; have hnb : v'.ownBlock = none ∨ v'.ownBlock ≠ some b := .inr (fun e => by have := (HO3.out.lt b e).1; omega); have ho5 := (HO3.out.kept (gb_set (gb_refl w3 (some b)) 1 (.int .i64 ((k : Int) + (y.size : Int)))) hnb).kept hg5 hnb; have HG5 := hide hgg; have HO5 := hide ho5; have HS5 := hide hs5; clear hA hgg ho5 hs5 hg5 hnb k0 k1 k2 d0 d1 e1; go_wp2; refine ⟨⟨r2, acc ++ [(x, c :: r)], m, ⟨by omega, HR2.out, HS5.out, ?_, HG5.out, hT.out, by omega, by simp; omega⟩⟩, by rw [HS5.out.atOf, hea]; omega⟩
            exact own_snoc HO5.out HY.out (by rw [List.length_cons]; omega)

end Go.Proofs.YtbphiiaoncakfaaGreatDoor

/- scan.Tokens: the words of a text, or what is wrong; what is thrown is caught. -/
namespace Go.Proofs.YtbphiiaoncakfaaGreatDoor
open Go.RowKit

theorem assertFault (v : Value) (x : TypeId) (w : World) : (Instr.typeAssert (.iface 49 v) x 49 true).run Tryz.prog w = .ok (.tuple #[v, .bool true]) w := by kernel_rfl
theorem assertNil (x : TypeId) (w : World) : (Instr.typeAssert .nilIface x 49 true).run Tryz.prog w = .ok (.tuple #[.pointer none, .bool false]) w := by kernel_rfl

theorem catch_panicking (p0 p1 q : Addr) (v0 v1 : Value) (older : List PanicEntry) (w : World) (hne : p0 ≠ p1) (h0 : w.cell? p0 = some v0) (h1 : w.cell? p1 = some v1) (z0 : w.frozen? p0 = false) (z1 : w.frozen? p1 = false) :
    CallsD Tryz.prog 34 #[.pointer (some p0), .pointer (some p1)] (.panicking ({ v := .iface 49 (.pointer (some q)), recovered := false } :: older)) w fun e u' w' =>
      e = .returned (.tuple #[]) ∧ u' = .panicking ({ v := .iface 49 (.pointer (some q)), recovered := true } :: older) ∧ w' = (w.setCell p0 (.slice none 0 0)).setCell p1 (.iface 49 (.pointer (some q))) := by
  refine callsD_of_wpS Tryz.func34 rfl fun c₀ cs hu => ?_
  have hta := assertFault (.pointer (some q))
  have hc1 : (w.setCell p0 (.slice none 0 0)).cell? p1 = some v1 := by rw [World.cell?_setCell_other _ _ _ _ hne]; exact h1
  apply wpS_seq
  apply wpS_region
  simp [wpOpsS, go_sem, recoverD, hu, Tryz.ntmps34, Exit.thenS, hta]
  apply wpS_seq
  apply wpS_region
  simp [wpOpsS, go_sem, Array.replicate, Exit.thenS]
  refine wpS_cond (t := true) (by simp [Act.eval]) ?_; simp only [if_true]
  apply wpS_region
  simp [wpOpsS, go_sem, h0, z0, hc1, z1, bodyPostS, results, Tryz.results34]

theorem catch_idle (p0 p1 : Addr) (w : World) :
    CallsD Tryz.prog 34 #[.pointer (some p0), .pointer (some p1)] .returning w fun e u' w' => e = .returned (.tuple #[]) ∧ u' = .returning ∧ w' = w := by
  refine callsD_of_wpS Tryz.func34 rfl fun c₀ cs hu => ?_
  have hta := assertNil
  apply wpS_seq
  apply wpS_region
  simp [wpOpsS, go_sem, recoverD, hu, Tryz.ntmps34, Exit.thenS, hta]
  apply wpS_seq
  apply wpS_region
  simp [wpOpsS, go_sem, Array.replicate, Exit.thenS]
  refine wpS_cond (t := false) (by simp [Act.eval]) ?_; simp only [Bool.false_eq_true, if_false]; refine wpS_of_wp (wp_skip ?_); cases c₀
  simp_all [bodyPostS, results, Tryz.results34]

/-- What scan.Tokens answers, and what memory it leaves. -/
def TokensPost (t : List UInt8) (w : World) (e : Ending) (w' : World) : Prop :=
  (4000 < t.length → e = .returned (.tuple #[.slice none 0 0, .iface 26 (.int .i64 3)])) ∧
  (t.length ≤ 4000 → ∀ l, toks t = .ok l → ∃ v, e = .returned (.tuple #[v, .nilIface]) ∧ w'.ownsRow w.heap.size 63 2 v l.length (flatT t.length l)) ∧
  (t.length ≤ 4000 → ∀ n f, toks t = .error (n, f) → ∃ q, e = .returned (.tuple #[.slice none 0 0, .iface 49 (.pointer (some ⟨q, 0, none⟩))]) ∧
    w'.cell? ⟨q, 0, none⟩ = some (.int .i64 0) ∧ w'.cell? ⟨q, 1, none⟩ = some (.int .i64 ((t.length - f.length : Nat) : Int)) ∧ w'.cell? ⟨q, 2, none⟩ = some (.iface 26 (.int .i64 n))) ∧
  Below w.heap.size w w'

set_option maxHeartbeats 1000000 in
theorem tokens_long (s : ByteArray) (w : World) (hs : s.size ≤ maxLen) (hl : 4000 < s.size) :
    Calls Tryz.prog 15 #[.string s] w fun e w' => TokensPost s.data.toList w e w' := by
  unfold maxLen at hs
  go_enter_defers Tryz.func15, Tryz.ntmps15
  go_wp2; simp only [bodyPostD, Leaves]; refine ⟨.tuple #[.slice none 0 0, .iface 26 (.int .i64 3)], by simp [results, Tryz.results15, go_sem], fun _ => rfl, fun h => ?_, fun h => ?_, ((Below.refl _ _).alloc (Nat.le_refl _) _).alloc (by simp) _⟩
  · rw [← bs_size] at h; omega
  · rw [← bs_size] at h; omega

theorem own_base {w : World} {base base' : Nat} {e : TypeId} {size : Nat} {v : Value} {n : Nat} {xs : List Value} (h : w.ownsRow base e size v n xs) (hb : base' ≤ base) : w.ownsRow base' e size v n xs := by
  obtain ⟨h1, h2⟩ := h; refine ⟨h1, ?_⟩
  rcases h2 with h2 | ⟨g, cap, cur, a, b, c⟩
  · exact .inl h2
  · exact .inr ⟨g, cap, cur, a, Nat.le_trans hb b, c⟩

theorem cell_far {w w' : World} {row : Option Nat} (hg : w.grownBy w' row) {a : Addr} {v : Value} (h : w.cell? a = some v) (hne : some a.block ≠ row) : w'.cell? a = some v := by
  have hlt : a.block < w.heap.size := by
    rcases Nat.lt_or_ge a.block w.heap.size with h' | h'
    · exact h'
    · simp [World.cell?, Array.getElem?_eq_none h'] at h
  rw [World.cell?_of_block (w := w) (hg.block _ hlt hne)]; exact h
theorem frozen_far {w w' : World} {row : Option Nat} (hg : w.grownBy w' row) {a : Addr} {x : Bool} (hlt : a.block < w.heap.size) (h : w.frozen? a = x) (hne : some a.block ≠ row) : w'.frozen? a = x := by
  rw [World.frozen?_of_block (w := w) (hg.block _ hlt hne)]; exact h

set_option maxHeartbeats 1000000 in
theorem tokens_short (s : ByteArray) (w : World) (hl : s.size ≤ 4000) :
    Calls Tryz.prog 15 #[.string s] w fun e w' => TokensPost s.data.toList w e w' := by
  have hmf : ∀ (fn : Fn) (first cap : Array Value) (w : World), (Instr.makeFunc fn first cap).run Tryz.prog w = .ok (.func fn first cap) w := fun _ _ _ _ => rfl
  obtain ⟨W, hW⟩ : ∃ W, W = ((w.alloc (.cells #[.slice none 0 0] 37)).alloc (.cells #[.nilIface] 32)).alloc (.cells #[.string s, .int .i64 0] 69) := ⟨_, rfl⟩
  have hWs : W.heap.size = w.heap.size + 3 := by rw [hW]; simp
  have hsc : Sc W (w.heap.size + 1 + 1) s 0 := by
    rw [hW]
    exact ⟨by rw [World.cell?_alloc_at _ _ _ _ (by simp)]; rfl, by rw [World.cell?_alloc_at _ _ _ _ (by simp)]; rfl, World.frozen?_alloc_at _ _ _ _ (by simp)⟩
  have a0 : W.cell? ⟨w.heap.size, 0, none⟩ = some (.slice none 0 0) := by
    rw [hW, World.cell?_alloc_lt _ _ _ (by simp; omega), World.cell?_alloc_lt _ _ _ (by simp)]; simp
  have a1 : W.cell? ⟨w.heap.size + 1, 0, none⟩ = some .nilIface := by
    rw [hW, World.cell?_alloc_lt _ _ _ (by simp)]; simp
  have b0 : W.frozen? ⟨w.heap.size, 0, none⟩ = false := by
    rw [hW, World.frozen?_alloc_old _ _ _ (by simp; omega), World.frozen?_alloc_old _ _ _ (by simp)]; simp
  have b1 : W.frozen? ⟨w.heap.size + 1, 0, none⟩ = false := by
    rw [hW, World.frozen?_alloc_old _ _ _ (by simp)]; simp
  have hbW : Below w.heap.size w W := by
    rw [hW]; exact (((Below.refl _ _).alloc (Nat.le_refl _) _).alloc (by simp) _).alloc (by simp; omega) _
  have HW := hide hW; have HSC := hide hsc; have HA0 := hide a0; have HA1 := hide a1; have HB0 := hide b0; have HB1 := hide b1; have HBW := hide hbW; have HWS := hide hWs; clear hW hsc a0 a1 b0 b1 hbW hWs
  go_enter_defers Tryz.func15, Tryz.ntmps15
  go_wp2_with fail; rw [← HW.out]; refine (gather_any _ s W (by omega) HSC.out).mono ?_; rintro e w4 ⟨hA, hB⟩; cases ht : toks s.data.toList with
  | ok l =>
    clear hB; obtain ⟨v, hv, hown, hg⟩ := hA l ht
    obtain ⟨va, vn, vc, rfl⟩ : ∃ a n c, v = .slice a n c := by
      rcases hown.2 with ⟨h, _⟩ | ⟨g, cap, cur, h, _⟩
      · exact ⟨_, _, _, h⟩
      · exact ⟨_, _, _, h⟩
    subst hv; have hWS := HWS.out; have c0 := cell_far hg HA0.out (by simp; omega); have c1 := cell_far hg HA1.out (by simp); have z0 := frozen_far hg (by simp; omega) HB0.out (by simp; omega); have z1 := frozen_far hg (by simp; omega) HB1.out (by simp); have hbb : Below w.heap.size w w4 := HBW.out.grown hg (by omega) (fun k hk => by cases hk; omega)
    have hne : ∀ j, j < w.heap.size + 3 → (Value.slice va vn vc).ownBlock = none ∨ (Value.slice va vn vc).ownBlock ≠ some j := fun j hj => .inr (fun e => by have := (hown.lt j e).1; omega)
    have ho := ((hown.kept (gb_set (gb_refl w4 (some w.heap.size)) 0 (.slice va vn vc)) (hne _ (by omega))).kept (gb_set (gb_refl _ (some (w.heap.size + 1))) 0 .nilIface) (hne _ (by omega))); have HO := hide (own_base ho (show w.heap.size ≤ W.heap.size from by omega)); have HT := hide ht; have HBB := hide hbb; clear hA hown hg ht hbb hne ho hWS HW HSC HA0 HA1 HB0 HB1 HBW HWS; go_wp2; refine leaves_cons (f := 34) (args := #[.pointer (some ⟨w.heap.size, 0, none⟩), .pointer (some ⟨w.heap.size + 1, 0, none⟩)]) (by simp) (by simp [go_sem]) ?_; refine (catch_idle _ _ _).mono ?_; rintro e u' w5 ⟨rfl, rfl, rfl⟩; simp only [Leaves, settle]; refine ⟨.tuple #[.slice va vn vc, .nilIface], ?_, ?_⟩
    · have g0 : ((w4.setCell ⟨w.heap.size, 0, none⟩ (.slice va vn vc)).setCell ⟨w.heap.size + 1, 0, none⟩ .nilIface).cell? ⟨w.heap.size, 0, none⟩ = some (.slice va vn vc) := by
        rw [World.cell?_setCell_other _ _ _ _ (by simp)]; exact World.cell?_setCell_same _ _ _ c0
      have g1 : ((w4.setCell ⟨w.heap.size, 0, none⟩ (.slice va vn vc)).setCell ⟨w.heap.size + 1, 0, none⟩ .nilIface).cell? ⟨w.heap.size + 1, 0, none⟩ = some .nilIface :=
        World.cell?_setCell_same _ _ _ (show (w4.setCell ⟨w.heap.size, 0, none⟩ (.slice va vn vc)).cell? ⟨w.heap.size + 1, 0, none⟩ = some .nilIface by rw [World.cell?_setCell_other _ _ _ _ (by simp)]; exact c1)
      simp [results, Tryz.results15, go_sem, g0, g1]
    · refine ⟨fun h => ?_, fun _ l' hl' => ?_, fun _ n f hf => ?_, (HBB.out.setCell (by simp) _).setCell (by simp) _⟩
      · rw [← bs_size] at h; omega
      · rw [HT.out] at hl'
        cases hl'
        exact ⟨_, rfl, by rw [← bs_size]; exact HO.out⟩
      · rw [HT.out] at hf; cases hf
  | error x =>
    clear hA; obtain ⟨n, f⟩ := x; obtain ⟨⟨q, rfl, hq, q0, q1, q2⟩, hg⟩ := hB n f ht; have hWS := HWS.out; have c0 := cell_far hg HA0.out (by simp; omega); have c1 := cell_far hg HA1.out (by simp); have z0 := frozen_far hg (by simp; omega) HB0.out (by simp; omega); have z1 := frozen_far hg (by simp; omega) HB1.out (by simp); have hbb : Below w.heap.size w w4 := HBW.out.grown hg (by omega) (fun k hk => by cases hk; omega)
    show Leaves _ _ _ _ _ _ _
    refine leaves_cons (f := 34) (args := #[.pointer (some ⟨w.heap.size, 0, none⟩), .pointer (some ⟨w.heap.size + 1, 0, none⟩)]) (by simp) (by simp [go_sem]) ?_; refine (catch_panicking ⟨w.heap.size, 0, none⟩ ⟨w.heap.size + 1, 0, none⟩ ⟨q, 0, none⟩ _ _ [] _ (by simp) c0 c1 z0 z1).mono ?_; rintro e u' w5 ⟨rfl, rfl, rfl⟩
    show ∃ v, _ ∧ _
    obtain ⟨w5, hw5⟩ : ∃ w5, w5 = (w4.setCell ⟨w.heap.size, 0, none⟩ (.slice none 0 0)).setCell ⟨w.heap.size + 1, 0, none⟩ (.iface 49 (.pointer (some ⟨q, 0, none⟩))) := ⟨_, rfl⟩
    have g0 : w5.cell? ⟨w.heap.size, 0, none⟩ = some (.slice none 0 0) := by
      rw [hw5, World.cell?_setCell_other _ _ _ _ (by simp)]; exact World.cell?_setCell_same _ _ _ c0
    have g1 : w5.cell? ⟨w.heap.size + 1, 0, none⟩ = some (.iface 49 (.pointer (some ⟨q, 0, none⟩))) := by
      rw [hw5]
      exact World.cell?_setCell_same _ _ _ (show (w4.setCell ⟨w.heap.size, 0, none⟩ (.slice none 0 0)).cell? ⟨w.heap.size + 1, 0, none⟩ = some .nilIface by rw [World.cell?_setCell_other _ _ _ _ (by simp)]; exact c1)
    have hqo : ∀ (o : Nat) (x : Value), w4.cell? ⟨q, o, none⟩ = some x → w5.cell? ⟨q, o, none⟩ = some x := fun o x hx => by
      rw [hw5, World.cell?_setCell_other _ _ _ _ (by intro e; have := congrArg Addr.block e; simp only at this; omega), World.cell?_setCell_other _ _ _ _ (by intro e; have := congrArg Addr.block e; simp only at this; omega)]; exact hx
    have hb5 : Below w.heap.size w w5 := by rw [hw5]; exact (hbb.setCell (by simp) _).setCell (by simp) _
    rw [← hw5]; refine ⟨.tuple #[.slice none 0 0, .iface 49 (.pointer (some ⟨q, 0, none⟩))], ?_, fun h => ?_, fun _ l' hl' => ?_, fun _ n' f' hf => ?_, hb5⟩
    · simp [results, Tryz.results15, go_sem, g0, g1]
    · rw [← bs_size] at h; omega
    · rw [ht] at hl'; cases hl'
    · rw [ht] at hf
      cases hf
      exact ⟨q, rfl, hqo _ _ q0, by rw [← bs_size]; exact hqo _ _ q1, hqo _ _ q2⟩

/-- scan.Tokens at every text. -/
theorem tokens_any (s : ByteArray) (w : World) (hs : s.size ≤ maxLen) :
    Calls Tryz.prog 15 #[.string s] w fun e w' => TokensPost s.data.toList w e w' := by
  by_cases hl : 4000 < s.size
  · exact tokens_long s w hs hl
  · exact tokens_short s w (by omega)
end Go.Proofs.YtbphiiaoncakfaaGreatDoor

/- Whether digits tell too great a number, told in two ways, is the same: by reckoning, and by stripping noughts and comparing texts. -/
namespace Go.Proofs.YtbphiiaoncakfaaGreatDoor

/-- The number that digits tell, from a number on. -/
def nv (v : Int) (l : List UInt8) : Int := l.foldl (fun v c => v * 10 + ((c.toNat : Int) - 48)) v

def strip : List UInt8 → List UInt8
  | [] => []
  | [a] => [a]
  | a :: b :: r => if a = 48 then strip (b :: r) else a :: b :: r

def maxDigits : List UInt8 := [50, 49, 52, 55, 52, 56, 51, 54, 52, 55]

def beyondL (l : List UInt8) : Bool :=
  if (strip l).length ≠ 10 then decide (10 < (strip l).length) else !(Op.bytesLess (strip l) maxDigits || (strip l) == maxDigits)

def AllDigits (l : List UInt8) : Prop := ∀ c ∈ l, isDigit c.toNat = true

theorem dig_bd {c : UInt8} (h : isDigit c.toNat = true) : 0 ≤ (c.toNat : Int) - 48 ∧ (c.toNat : Int) - 48 ≤ 9 := by
  simp [isDigit] at h; omega

theorem nv_ge : ∀ (l : List UInt8) (v : Int), AllDigits l → 0 ≤ v → v ≤ nv v l
  | [], v, _, _ => by simp [nv]
  | c :: l, v, h, hv => by
    have hc := dig_bd (h c (by simp)); have ih := nv_ge l (v * 10 + ((c.toNat : Int) - 48)) (fun x hx => h x (by simp [hx])) (by omega)
    show v ≤ nv (v * 10 + ((c.toNat : Int) - 48)) l
    omega

theorem valueFrom_nv : ∀ (l : List UInt8) (v : Int), AllDigits l → 0 ≤ v → v ≤ 2147483647 → valueFrom v l = if nv v l ≤ 2147483647 then some (nv v l) else none
  | [], v, _, _, hv => by simp [valueFrom, nv, hv]
  | c :: l, v, h, h0, hv => by
    have hc := dig_bd (h c (by simp))
    have hl : AllDigits l := fun x hx => h x (by simp [hx])
    have e : nv v (c :: l) = nv (v * 10 + ((c.toNat : Int) - 48)) l := rfl
    rw [e, valueFrom]
    by_cases hb : (2147483647 - ((c.toNat : Int) - 48)) / 10 < v
    · rw [if_pos hb]
      have := nv_ge l (v * 10 + ((c.toNat : Int) - 48)) hl (by omega); rw [if_neg (by omega)]
    · rw [if_neg hb]
      exact valueFrom_nv l _ hl (by omega) (by omega)

theorem strip_nv : ∀ (l : List UInt8), nv 0 (strip l) = nv 0 l
  | [] => rfl
  | [a] => rfl
  | a :: b :: r => by
    rw [strip]
    split
    · rename_i h
      subst h; rw [strip_nv (b :: r)]
      rfl
    · rfl

theorem strip_digits : ∀ (l : List UInt8), AllDigits l → AllDigits (strip l)
  | [], h => h
  | [a], h => h
  | a :: b :: r, h => by
    rw [strip]
    split
    · exact strip_digits (b :: r) (fun x hx => h x (by simp at hx ⊢; exact .inr hx))
    · exact h

theorem strip_head : ∀ (l : List UInt8), (strip l).length ≤ 1 ∨ ∃ a r, strip l = a :: r ∧ a ≠ 48
  | [] => .inl (by simp [strip])
  | [a] => .inl (by simp [strip])
  | a :: b :: r => by
    rw [strip]
    split
    · exact strip_head (b :: r)
    · rename_i h
      exact .inr ⟨a, b :: r, rfl, h⟩

theorem nv_upper : ∀ (l : List UInt8) (v : Int), AllDigits l → nv v l < (v + 1) * 10 ^ l.length
  | [], v, _ => by simp [nv]; omega
  | c :: l, v, h => by
    have hc := dig_bd (h c (by simp)); have ih := nv_upper l (v * 10 + ((c.toNat : Int) - 48)) (fun x hx => h x (by simp [hx]))
    show nv (v * 10 + ((c.toNat : Int) - 48)) l < _
    have h1 : (v * 10 + ((c.toNat : Int) - 48) + 1) * 10 ^ l.length ≤ ((v + 1) * 10) * 10 ^ l.length := by
      apply Int.mul_le_mul_of_nonneg_right
      · omega
      · exact Int.pow_nonneg (by omega)
    rw [List.length_cons, Int.pow_succ, show (v + 1) * (10 ^ l.length * 10) = ((v + 1) * 10) * 10 ^ l.length from by rw [Int.mul_assoc, Int.mul_comm (10 ^ l.length) 10]]
    omega

theorem nv_lower : ∀ (l : List UInt8) (v : Int), AllDigits l → 0 ≤ v → v * 10 ^ l.length ≤ nv v l
  | [], v, _, _ => by simp [nv]
  | c :: l, v, h, hv => by
    have hc := dig_bd (h c (by simp)); have ih := nv_lower l (v * 10 + ((c.toNat : Int) - 48)) (fun x hx => h x (by simp [hx])) (by omega)
    show _ ≤ nv (v * 10 + ((c.toNat : Int) - 48)) l
    have h1 : (v * 10) * 10 ^ l.length ≤ (v * 10 + ((c.toNat : Int) - 48)) * 10 ^ l.length := by
      apply Int.mul_le_mul_of_nonneg_right
      · omega
      · exact Int.pow_nonneg (by omega)
    rw [List.length_cons, Int.pow_succ, show v * (10 ^ l.length * 10) = (v * 10) * 10 ^ l.length from by rw [Int.mul_assoc, Int.mul_comm (10 ^ l.length) 10]]
    omega

theorem nv_mono : ∀ (a b : List UInt8) (v u : Int), AllDigits a → AllDigits b → a.length = b.length → 0 ≤ v → v < u → nv v a < nv u b := by
  intro a b v u ha hb hl hv h; have h1 := nv_upper a v ha; have h2 := nv_lower b u hb (by omega); rw [hl] at h1; have h3 : (v + 1) * 10 ^ b.length ≤ u * 10 ^ b.length := Int.mul_le_mul_of_nonneg_right (by omega) (Int.pow_nonneg (by omega))
  omega

theorem less_nv : ∀ (a b : List UInt8) (v : Int), AllDigits a → AllDigits b → a.length = b.length → 0 ≤ v → (Op.bytesLess a b = true ↔ nv v a < nv v b)
  | [], [], v, _, _, _, _ => by simp [Op.bytesLess, nv]
  | [], _ :: _, v, _, _, h, _ => by simp at h
  | _ :: _, [], v, _, _, h, _ => by simp at h
  | x :: a, y :: b, v, ha, hb, hl, hv => by
    have hx := dig_bd (ha x (by simp)); have hy := dig_bd (hb y (by simp))
    have ha' : AllDigits a := fun z hz => ha z (by simp [hz])
    have hb' : AllDigits b := fun z hz => hb z (by simp [hz])
    have hl' : a.length = b.length := by simpa using hl
    have e1 : nv v (x :: a) = nv (v * 10 + ((x.toNat : Int) - 48)) a := rfl
    have e2 : nv v (y :: b) = nv (v * 10 + ((y.toNat : Int) - 48)) b := rfl
    rw [e1, e2, Op.bytesLess]
    by_cases hlt : x < y
    · have := nv_mono a b (v * 10 + ((x.toNat : Int) - 48)) (v * 10 + ((y.toNat : Int) - 48)) ha' hb' hl' (by omega) (by have := UInt8.lt_iff_toNat_lt.1 hlt; omega)
      simp [hlt, this]
    · by_cases he : x = y
      · subst he
        have ih := less_nv a b (v * 10 + ((x.toNat : Int) - 48)) ha' hb' hl' (by omega)
        simp [hlt, ih]
      · have hgt : y.toNat < x.toNat := by
          have h1 : ¬ x.toNat < y.toNat := fun h => hlt (UInt8.lt_iff_toNat_lt.2 h)
          have h2 : x.toNat ≠ y.toNat := fun h => he (UInt8.toNat_inj.1 h)
          omega
        have := nv_mono b a (v * 10 + ((y.toNat : Int) - 48)) (v * 10 + ((x.toNat : Int) - 48)) hb' ha' hl'.symm (by omega) (by omega)
        have hbeq : (x == y) = false := by simpa using he
        simp only [hlt, hbeq, decide_false, Bool.false_and, Bool.or_false, Bool.false_eq_true, false_iff]
        omega

theorem maxDigits_ok : AllDigits maxDigits := by unfold AllDigits maxDigits; decide
theorem maxDigits_nv : nv 0 maxDigits = 2147483647 := by decide

theorem less_total : ∀ (a b : List UInt8), a.length = b.length → Op.bytesLess a b = false → Op.bytesLess b a = false → a = b
  | [], [], _, _, _ => rfl
  | [], _ :: _, h, _, _ => by simp at h
  | _ :: _, [], h, _, _ => by simp at h
  | x :: a, y :: b, h, h1, h2 => by
    simp only [Op.bytesLess, Bool.or_eq_false_iff, decide_eq_false_iff_not] at h1 h2
    have e : x = y := by
      have h3 : ¬ x.toNat < y.toNat := fun h => h1.1 (UInt8.lt_iff_toNat_lt.2 h)
      have h4 : ¬ y.toNat < x.toNat := fun h => h2.1 (UInt8.lt_iff_toNat_lt.2 h)
      exact UInt8.toNat_inj.1 (by omega)
    subst e; rw [less_total a b (by simpa using h) (by simpa using h1.2) (by simpa using h2.2)]

theorem pow10_mono {m n : Nat} (h : m ≤ n) : (10 : Int) ^ m ≤ 10 ^ n := by
  have h2 := Int.ofNat_le.2 (Nat.pow_le_pow_right (n := 10) (by omega) h)
  simpa using h2

/-- Both ways tell the same. -/
theorem beyond_value {l : List UInt8} (h : AllDigits l) : beyondL l = (valueFrom 0 l).isNone := by
  have hs := strip_digits l h; rw [valueFrom_nv l 0 h (by omega) (by omega), ← strip_nv l]
  unfold beyondL
  by_cases h10 : (strip l).length ≠ 10
  · rw [if_pos h10]
    by_cases hlong : 10 < (strip l).length
    · rcases strip_head l with h1 | ⟨a, r, e, ha⟩
      · omega
      · have hda := dig_bd (hs a (by rw [e]; simp))
        have hr : AllDigits r := fun x hx => hs x (by rw [e]; simp [hx])
        have hlow := nv_lower r ((a.toNat : Int) - 48) hr hda.1
        have e2 : nv 0 (strip l) = nv ((a.toNat : Int) - 48) r := by rw [e]; show nv (0 * 10 + ((a.toNat : Int) - 48)) r = _; congr 1; omega
        have ha1 : 1 ≤ (a.toNat : Int) - 48 := by
          have : a.toNat ≠ 48 := fun h => ha (by rw [← UInt8.toNat_inj]; exact h)
          omega
        have hrl : 10 ≤ r.length := by rw [e] at hlong; simp at hlong; omega
        have hp : (10 : Int) ^ 10 ≤ 10 ^ r.length := pow10_mono hrl; have hm : 1 * (10 : Int) ^ r.length ≤ ((a.toNat : Int) - 48) * 10 ^ r.length := Int.mul_le_mul_of_nonneg_right ha1 (Int.pow_nonneg (by omega))
        have h1010 : (10 : Int) ^ 10 = 10000000000 := by decide
        rw [if_neg (by omega)]
        simp [hlong]
    · have hup := nv_upper (strip l) 0 hs
      have hp : (10 : Int) ^ (strip l).length ≤ 10 ^ 9 := pow10_mono (by omega)
      have h109 : (10 : Int) ^ 9 = 1000000000 := by decide
      rw [if_pos (by omega)]
      simp [hlong]
  · have h10' : (strip l).length = 10 := by omega
    rw [if_neg h10]; have hlt := less_nv (strip l) maxDigits 0 hs maxDigits_ok (by rw [h10']; rfl) (by omega); have hgt := less_nv maxDigits (strip l) 0 maxDigits_ok hs (by rw [h10']; rfl) (by omega); rw [maxDigits_nv] at hlt hgt
    by_cases hle : nv 0 (strip l) ≤ 2147483647
    · rw [if_pos hle]
      by_cases he : nv 0 (strip l) = 2147483647
      · have : strip l = maxDigits := by
          refine less_total _ _ (by rw [h10']; rfl) ?_ ?_
          · cases hb : Op.bytesLess (strip l) maxDigits
            · rfl
            · have := hlt.1 hb; omega
          · cases hb : Op.bytesLess maxDigits (strip l)
            · rfl
            · have := hgt.1 hb; omega
        simp [this]
      · have : Op.bytesLess (strip l) maxDigits = true := hlt.2 (by omega)
        simp [this]
    · rw [if_neg hle]
      have h1 : Op.bytesLess (strip l) maxDigits = false := by
        cases hb : Op.bytesLess (strip l) maxDigits
        · rfl
        · have := hlt.1 hb; omega
      have h2 : (strip l == maxDigits) = false := by
        rw [beq_eq_false_iff_ne]; intro e; rw [e, maxDigits_nv] at hle
        omega
      simp [h1, h2]

end Go.Proofs.YtbphiiaoncakfaaGreatDoor
