/- The document's answer for words, its small functions: letters and digits of bytes, signs, what lies behind a comment, whether digits tell too great a number. -/
import Derived.Test.YtiphmnffjdgdmaaDoorScan3
import Derived.Test.YtiphmnffjdgdmaaDoorRefNum
namespace Go.Proofs.YtiphmnffjdgdmaaDoor
open Go.RowKit

set_option maxHeartbeats 400000 in
theorem rLetter_any (r : Int) (w : World) :
    Calls Tryd.prog 18 #[.int .u8 r] w fun e w' => e = .returned (.bool (isLetter r)) ∧ w' = w := by
  by_cases h1 : 97 ≤ r
  · by_cases h2 : r ≤ 122
    · have hl : isLetter r = true := by simp [isLetter]; omega
      rw [hl]
      go_enter Tryd.func18, Tryd.ntmps18
      go_wp2
      go_ret
      first | exact ⟨rfl, rfl⟩ | (refine ⟨?_, rfl⟩; simp; omega)
    · have hl : isLetter r = false := by simp [isLetter]; omega
      rw [hl]
      go_enter Tryd.func18, Tryd.ntmps18
      go_wp2
      go_ret
      first | exact ⟨rfl, rfl⟩ | (refine ⟨?_, rfl⟩; simp; omega)
  · by_cases h3 : 65 ≤ r
    · by_cases h4 : r ≤ 90
      · have hl : isLetter r = true := by simp [isLetter]; omega
        rw [hl]
        go_enter Tryd.func18, Tryd.ntmps18
        go_wp2
        go_ret
        first | exact ⟨rfl, rfl⟩ | (refine ⟨?_, rfl⟩; simp; omega)
      · have hl : isLetter r = false := by simp [isLetter]; omega
        rw [hl]
        go_enter Tryd.func18, Tryd.ntmps18
        go_wp2
        go_ret
        first | exact ⟨rfl, rfl⟩ | (refine ⟨?_, rfl⟩; simp; omega)
    · have hl : isLetter r = false := by simp [isLetter]; omega
      rw [hl]
      go_enter Tryd.func18, Tryd.ntmps18
      go_wp2
      go_ret
      first | exact ⟨rfl, rfl⟩ | (refine ⟨?_, rfl⟩; simp; omega)

set_option maxHeartbeats 400000 in
theorem rDigit_any (r : Int) (w : World) :
    Calls Tryd.prog 19 #[.int .u8 r] w fun e w' => e = .returned (.bool (isDigit r)) ∧ w' = w := by
  by_cases h1 : 48 ≤ r
  · by_cases h2 : r ≤ 57
    · have hl : isDigit r = true := by simp [isDigit]; omega
      rw [hl]
      go_enter Tryd.func19, Tryd.ntmps19
      go_wp2
      go_ret
      first | exact ⟨rfl, rfl⟩ | (refine ⟨?_, rfl⟩; simp; omega)
    · have hl : isDigit r = false := by simp [isDigit]; omega
      rw [hl]
      go_enter Tryd.func19, Tryd.ntmps19
      go_wp2
      go_ret
      first | exact ⟨rfl, rfl⟩ | (refine ⟨?_, rfl⟩; simp; omega)
  · have hl : isDigit r = false := by simp [isDigit]; omega
    rw [hl]
    go_enter Tryd.func19, Tryd.ntmps19
    go_wp2
    go_ret
    first | exact ⟨rfl, rfl⟩ | (refine ⟨?_, rfl⟩; simp; omega)

theorem u8_beq (c d : UInt8) : ((c.toNat : Int) == (d.toNat : Int)) = (c == d) := by
  rw [Bool.eq_iff_iff, beq_iff_eq, beq_iff_eq]
  constructor
  · intro h; exact UInt8.toNat_inj.1 (by omega)
  · intro h; rw [h]

def signsB : ByteArray := ⟨#[61, 35, 60, 62, 43, 45, 42, 38, 126, 40, 41, 91, 93, 123, 125, 44, 59, 58, 46, 94]⟩
theorem signsB_list : signsB.data.toList = signs := rfl
theorem signsB_size : signsB.size = 20 := rfl

def isSign (c : UInt8) : Bool := signs.contains c

theorem contains_take (l : List UInt8) (c : UInt8) (k : Nat) (h : k < l.length) (h1 : (l.take k).contains c = false) (h2 : (l[k] == c) = false) : (l.take (k + 1)).contains c = false := by
  rw [List.take_succ_eq_append_getElem h, Bool.eq_false_iff, ne_eq, List.contains_iff_mem]
  intro hm
  rcases List.mem_append.1 hm with hm | hm
  · rw [Bool.eq_false_iff, ne_eq, List.contains_iff_mem] at h1; exact h1 hm
  · simp at hm; subst hm; simp at h2

set_option maxRecDepth 1000000 in
set_option maxHeartbeats 400000 in
theorem oneSign_any (c : UInt8) (w : World) :
    Calls Tryd.prog 21 #[.int .u8 c.toNat] w fun e w' => e = .returned (.bool (isSign c)) ∧ w' = w := by
  go_enter Tryd.func21, Tryd.ntmps21
  go_wp2
  go_loop [4] (fun i => ∃ k : Nat, k ≤ 20 ∧ i = .int .i64 k ∧ Hid ((signs.take k).contains c = false)) (fun i => 20 - (intOf i).toNat)
  case atStart => exact ⟨0, by omega, rfl, rfl⟩
  case round =>
    obtain ⟨k, hk, rfl, HB⟩ := hrel
    by_cases hlt : k < 20
    · have hls : k < signs.length := hlt
      cases he : (signs[k]'hls == c)
      · have HN := hide (contains_take signs c k hls HB.out he)
        have hb : ((((⟨#[61, 35, 60, 62, 43, 45, 42, 38, 126, 40, 41, 91, 93, 123, 125, 44, 59, 58, 46, 94]⟩ : ByteArray)[k]'hlt).toNat : Int) == (c.toNat : Int)) = false := by rw [u8_beq]; exact he
        clear he
        go_wp2
        exact ⟨⟨k + 1, by omega, by go_num, HN⟩, by simp [intOf]; omega⟩
      · have hc : Hid (isSign c = true) := by
          have e : signs[k]'hls = c := by simpa using he
          show signs.contains c = true
          rw [List.contains_iff_mem, ← e]
          exact List.getElem_mem hls
        have hb : ((((⟨#[61, 35, 60, 62, 43, 45, 42, 38, 126, 40, 41, 91, 93, 123, 125, 44, 59, 58, 46, 94]⟩ : ByteArray)[k]'hlt).toNat : Int) == (c.toNat : Int)) = true := by rw [u8_beq]; exact he
        clear he
        go_wp2
        go_ret
        exact ⟨by rw [hc.out]; rfl, rfl⟩
    · have hc : Hid (isSign c = false) := by
        have e : signs.take k = signs := List.take_of_length_le (by show 20 ≤ k; omega)
        have := HB.out
        rw [e] at this
        exact this
      go_wp2
      go_ret
      exact ⟨by rw [hc.out]; rfl, rfl⟩

/-- The comment's end, as the document's answer tells it. -/
def behindAns (n : Nat) : Option (List UInt8) → Int
  | none => -1
  | some r => ((n - r.length : Nat) : Int)

theorem starts_at (s : ByteArray) (k : Nat) (h : k + 1 < s.size) (a b : UInt8) : starts (s.data.toList.drop k) a b = ((s[k]'(by omega)) == a && s[k + 1] == b) := by
  rw [drop_at s k (by omega), drop_at s (k + 1) h]
  simp [starts]

set_option maxRecDepth 1000000 in
set_option maxHeartbeats 1000000 in
theorem behind_any (s : ByteArray) (k0 : Nat) (w : World) (hs : s.size ≤ 1000000000) (hk0 : k0 ≤ s.size) (hst : starts (s.data.toList.drop k0) 40 42 = true) :
    Calls Tryd.prog 17 #[.string s, .int .i64 k0] w fun e w' => e = .returned (.int .i64 (behindAns s.size (cmt 0 (s.data.toList.drop k0)))) ∧ w' = w := by
  have h2 := starts_len hst
  rw [List.length_drop, ← bs_size] at h2
  have HC0 : Hid (cmt 1 (s.data.toList.drop (k0 + 2)) = cmt 0 (s.data.toList.drop k0)) := by
    show cmt 1 _ = _
    rw [cmt_hit hst, List.drop_drop]
  clear hst
  go_enter Tryd.func17, Tryd.ntmps17
  go_wp2
  go_loop [1, 5] (fun i d => ∃ dn k : Nat, d = .int .i64 dn ∧ i = .int .i64 k ∧ k ≤ s.size ∧ 1 ≤ dn ∧ dn ≤ k ∧ Hid (cmt dn (s.data.toList.drop k) = cmt 0 (s.data.toList.drop k0))) (fun i _ => s.size - (intOf i).toNat)
  case atStart => exact ⟨1, k0 + 2, rfl, by go_num, by omega, by omega, by omega, HC0⟩
  case round =>
    obtain ⟨dn, k, rfl, rfl, hk, hd1, hdk, HC⟩ := hrel
    by_cases hlt : k + 1 < s.size
    · have ea := starts_at s k hlt 40 42
      have eb := starts_at s k hlt 42 41
      have hk1 : k < s.size := by omega
      cases x1 : ((s[k]'hk1) == 40)
      · have t1 : (((s[k]'hk1).toNat : Int) == 40) = false := (u8_beq _ 40).trans x1
        cases x3 : ((s[k]'hk1) == 42)
        · have t3 : (((s[k]'hk1).toNat : Int) == 42) = false := (u8_beq _ 42).trans x3
          have HN : Hid (cmt dn (s.data.toList.drop (k + 1)) = cmt 0 (s.data.toList.drop k0)) := by
            show cmt dn _ = _
            rw [← HC.out, cmt_on (r := s.data.toList.drop k) (by rw [ea]; simp [x1]) (by rw [eb]; simp [x3]), List.drop_drop]
          clear ea eb x1 x3 HC HC0
          go_wp2
          exact ⟨⟨dn, k + 1, rfl, by go_num, by omega, by omega, by omega, HN⟩, by simp [intOf]; omega⟩
        · have t3 : (((s[k]'hk1).toNat : Int) == 42) = true := (u8_beq _ 42).trans x3
          cases x4 : ((s[k + 1]'hlt) == 41)
          · have t4 : (((s[k + 1]'hlt).toNat : Int) == 41) = false := (u8_beq _ 41).trans x4
            have HN : Hid (cmt dn (s.data.toList.drop (k + 1)) = cmt 0 (s.data.toList.drop k0)) := by
              show cmt dn _ = _
              rw [← HC.out, cmt_on (r := s.data.toList.drop k) (by rw [ea]; simp [x1]) (by rw [eb]; simp [x3, x4]), List.drop_drop]
            clear ea eb x1 x3 x4 HC HC0
            go_wp2
            exact ⟨⟨dn, k + 1, rfl, by go_num, by omega, by omega, by omega, HN⟩, by simp [intOf]; omega⟩
          · have t4 : (((s[k + 1]'hlt).toNat : Int) == 41) = true := (u8_beq _ 41).trans x4
            have g1 : starts (s.data.toList.drop k) 40 42 = false := by rw [ea]; simp [x1]
            have g3 : starts (s.data.toList.drop k) 42 41 = true := by rw [eb]; simp [x3, x4]
            by_cases hd2 : dn = 1
            · have HN : Hid (cmt 0 (s.data.toList.drop k0) = some (s.data.toList.drop (k + 2))) := by
                show cmt 0 _ = _
                rw [← HC.out, cmt_end g1 g3, if_pos (by omega), List.drop_drop]
              have hz : ((dn : Int) - 1 == 0) = true := by rw [beq_iff_eq]; omega
              clear ea eb x1 x3 x4 HC HC0 g1 g3 hd2
              go_wp2
              go_ret
              refine ⟨?_, rfl⟩
              rw [HN.out]
              show Ending.returned (.int .i64 ((k : Int) + 2)) = .returned (.int .i64 ((s.size - (s.data.toList.drop (k + 2)).length : Nat) : Int))
              rw [List.length_drop, ← bs_size, show ((s.size - (s.size - (k + 2)) : Nat) : Int) = (k : Int) + 2 from by omega]
            · have HN : Hid (cmt (dn - 1) (s.data.toList.drop (k + 2)) = cmt 0 (s.data.toList.drop k0)) := by
                show cmt (dn - 1) _ = _
                rw [← HC.out, cmt_end g1 g3, if_neg (by omega), List.drop_drop]
              have hz : ((dn : Int) - 1 == 0) = false := by rw [beq_eq_false_iff_ne]; omega
              have hd3 : 2 ≤ dn := by omega
              clear ea eb x1 x3 x4 HC HC0 g1 g3 hd2
              go_wp2
              exact ⟨⟨dn - 1, k + 2, by rw [show ((dn : Int) - 1) = ((dn - 1 : Nat) : Int) from by omega], by go_num, by omega, by omega, by omega, HN⟩, by simp [intOf]; omega⟩
      · have t1 : (((s[k]'hk1).toNat : Int) == 40) = true := (u8_beq _ 40).trans x1
        have x3 : ((s[k]'hk1) == 42) = false := by have e : s[k]'hk1 = 40 := by simpa using x1
                                                   rw [e]; rfl
        have t3 : (((s[k]'hk1).toNat : Int) == 42) = false := (u8_beq _ 42).trans x3
        cases x2 : ((s[k + 1]'hlt) == 42)
        · have t2 : (((s[k + 1]'hlt).toNat : Int) == 42) = false := (u8_beq _ 42).trans x2
          have HN : Hid (cmt dn (s.data.toList.drop (k + 1)) = cmt 0 (s.data.toList.drop k0)) := by
            show cmt dn _ = _
            rw [← HC.out, cmt_on (r := s.data.toList.drop k) (by rw [ea]; simp [x1, x2]) (by rw [eb]; simp [x3]), List.drop_drop]
          clear ea eb x1 x2 x3 HC HC0
          go_wp2
          exact ⟨⟨dn, k + 1, rfl, by go_num, by omega, by omega, by omega, HN⟩, by simp [intOf]; omega⟩
        · have t2 : (((s[k + 1]'hlt).toNat : Int) == 42) = true := (u8_beq _ 42).trans x2
          have HN : Hid (cmt (dn + 1) (s.data.toList.drop (k + 2)) = cmt 0 (s.data.toList.drop k0)) := by
            show cmt (dn + 1) _ = _
            rw [← HC.out, cmt_hit (r := s.data.toList.drop k) (by rw [ea]; simp [x1, x2]), List.drop_drop]
          clear ea eb x1 x2 x3 HC HC0
          go_wp2
          exact ⟨⟨dn + 1, k + 2, by go_num, by go_num, by omega, by omega, by omega, HN⟩, by simp [intOf]; omega⟩
    · have HN : Hid (cmt 0 (s.data.toList.drop k0) = none) := by
        show cmt 0 _ = _
        rw [← HC.out]
        by_cases hk2 : k < s.size
        · rw [drop_at s k hk2, List.drop_eq_nil_of_le (by rw [← bs_size]; omega), cmt_one]
        · rw [List.drop_eq_nil_of_le (by rw [← bs_size]; omega), cmt_nil]
      clear HC HC0
      go_wp2
      go_ret
      exact ⟨by rw [HN.out]; rfl, rfl⟩

theorem strip_step {c : UInt8} {r : List UInt8} (h : c = 48) (hr : 0 < r.length) : strip (c :: r) = strip r := by
  cases r with
  | nil => simp at hr
  | cons b r => rw [strip, if_pos h]
theorem strip_stop {l : List UInt8} (h : l.length ≤ 1 ∨ ∃ c r, l = c :: r ∧ c ≠ 48) : strip l = l := by
  match l, h with
  | [], _ => rfl
  | [a], _ => rfl
  | a :: b :: r, h =>
    rcases h with h | ⟨c, r', e, hc⟩
    · simp at h
    · cases e
      rw [strip, if_neg hc]

set_option maxRecDepth 1000000 in
set_option maxHeartbeats 1000000 in
theorem beyond_any (s : ByteArray) (w : World) (_ : s.size ≤ 1000000000) (hne : 1 ≤ s.size) :
    Calls Tryd.prog 20 #[.string s] w fun e w' => e = .returned (.bool (beyondL s.data.toList)) ∧ w' = w := by
  go_enter Tryd.func20, Tryd.ntmps20
  go_wp2
  go_loop [0] (fun v => ∃ x : ByteArray, v = .string x ∧ x.size ≤ s.size ∧ 1 ≤ x.size ∧ Hid (strip x.data.toList = strip s.data.toList)) (fun v => match v with | .string x => x.size | _ => 0)
  case atStart => exact ⟨s, rfl, Nat.le_refl _, hne, rfl⟩
  case round =>
    obtain ⟨x, rfl, hx, hx1, HS⟩ := hrel
    have hx0 : 0 < x.size := by omega
    have hd := drop_at x 0 hx0
    simp only [List.drop_zero, Nat.zero_add] at hd
    by_cases hlt : 1 < x.size
    · cases x1 : ((x[0]'hx0) == 48)
      · have t1 : (((x[0]'hx0).toNat : Int) == 48) = false := (u8_beq _ 48).trans x1
        have hst : strip x.data.toList = x.data.toList := strip_stop (.inr ⟨_, _, hd, by simpa using x1⟩)
        have HF : Hid (beyondL s.data.toList = if x.data.toList.length ≠ 10 then decide (10 < x.data.toList.length) else !(Op.bytesLess x.data.toList maxDigits || x.data.toList == maxDigits)) := by
          show beyondL _ = _
          unfold beyondL
          rw [← HS.out, hst]
        clear hst hd HS x1
        by_cases h10 : x.size = 10
        · have hb : ((x.size : Int) != 10) = false := by rw [h10]; rfl
          have HL : Hid (x.data.toList.length = 10) := by rw [← bs_size]; exact h10
          clear h10
          go_wp2
          go_ret
          refine ⟨?_, rfl⟩
          rw [HF.out, if_neg (by rw [HL.out]; simp)]
          simp [bs_toList, maxDigits]
        · have hb : ((x.size : Int) != 10) = true := by rw [bne_iff_ne]; omega
          have HL : Hid (x.data.toList.length ≠ 10) := by rw [← bs_size]; exact h10
          clear h10
          go_wp2
          go_ret
          refine ⟨?_, rfl⟩
          rw [HF.out, if_pos HL.out, ← bs_size]
          simp
          omega
      · have t1 : (((x[0]'hx0).toNat : Int) == 48) = true := (u8_beq _ 48).trans x1
        have HN : Hid (strip (x.extract 1 x.size).data.toList = strip s.data.toList) := by
          show strip _ = _
          rw [← HS.out, hd, strip_step (by simpa using x1) (by rw [List.length_drop, ← bs_size]; omega), bs_drop]
        have hes : (x.extract 1 x.size).size = x.size - 1 := by rw [bs_size, bs_drop, List.length_drop, ← bs_size]
        have HE := hide hes
        clear hd HS x1 hes
        go_wp2
        have hes := HE.out
        exact ⟨⟨_, rfl, by omega, by omega, HN⟩, by simp; omega⟩
    · have hst : strip x.data.toList = x.data.toList := strip_stop (.inl (by rw [← bs_size]; omega))
      have HF : Hid (beyondL s.data.toList = if x.data.toList.length ≠ 10 then decide (10 < x.data.toList.length) else !(Op.bytesLess x.data.toList maxDigits || x.data.toList == maxDigits)) := by
        show beyondL _ = _
        unfold beyondL
        rw [← HS.out, hst]
      clear hst hd HS
      by_cases h10 : x.size = 10
      · have hb : ((x.size : Int) != 10) = false := by rw [h10]; rfl
        have HL : Hid (x.data.toList.length = 10) := by rw [← bs_size]; exact h10
        clear h10
        go_wp2
        go_ret
        refine ⟨?_, rfl⟩
        rw [HF.out, if_neg (by rw [HL.out]; simp)]
        simp [bs_toList, maxDigits]
      · have hb : ((x.size : Int) != 10) = true := by rw [bne_iff_ne]; omega
        have HL : Hid (x.data.toList.length ≠ 10) := by rw [← bs_size]; exact h10
        clear h10
        go_wp2
        go_ret
        refine ⟨?_, rfl⟩
        rw [HF.out, if_pos HL.out, ← bs_size]
        simp
        omega

end Go.Proofs.YtiphmnffjdgdmaaDoor
