/- The document's answer for words, its small functions: letters and digits of bytes, signs, what lies behind a comment, whether digits tell too great a number. -/
import Derived.Test.YtbphiiaoncakfaaGreatDoorG02
import Derived.Test.YtbphiiaoncakfaaGreatDoorG01
import Derived.Maps.Own
import Derived.Maps.OwnSet
namespace Go.Proofs.YtbphiiaoncakfaaGreatDoor
open Go.RowKit

set_option maxHeartbeats 400000 in
theorem rLetter_any (r : Int) (w : World) :
    Calls Tryz.prog 22 #[.int .u8 r] w fun e w' => e = .returned (.bool (isLetter r)) ∧ w' = w := by
  by_cases h1 : 97 ≤ r
  · by_cases h2 : r ≤ 122
    · have hl : isLetter r = true := by simp [isLetter]; omega
      rw [hl]
      go_enter Tryz.func22, Tryz.ntmps22
      go_wp2
      go_ret
      first | exact ⟨rfl, rfl⟩ | (refine ⟨?_, rfl⟩; simp; omega)
    · have hl : isLetter r = false := by simp [isLetter]; omega
      rw [hl]
      go_enter Tryz.func22, Tryz.ntmps22
      go_wp2
      go_ret
      first | exact ⟨rfl, rfl⟩ | (refine ⟨?_, rfl⟩; simp; omega)
  · by_cases h3 : 65 ≤ r
    · by_cases h4 : r ≤ 90
      · have hl : isLetter r = true := by simp [isLetter]; omega
        rw [hl]
        go_enter Tryz.func22, Tryz.ntmps22
        go_wp2
        go_ret
        first | exact ⟨rfl, rfl⟩ | (refine ⟨?_, rfl⟩; simp; omega)
      · have hl : isLetter r = false := by simp [isLetter]; omega
        rw [hl]
        go_enter Tryz.func22, Tryz.ntmps22
        go_wp2
        go_ret
        first | exact ⟨rfl, rfl⟩ | (refine ⟨?_, rfl⟩; simp; omega)
    · have hl : isLetter r = false := by simp [isLetter]; omega
      rw [hl]
      go_enter Tryz.func22, Tryz.ntmps22
      go_wp2
      go_ret
      first | exact ⟨rfl, rfl⟩ | (refine ⟨?_, rfl⟩; simp; omega)

set_option maxHeartbeats 400000 in
theorem rDigit_any (r : Int) (w : World) :
    Calls Tryz.prog 23 #[.int .u8 r] w fun e w' => e = .returned (.bool (isDigit r)) ∧ w' = w := by
  by_cases h1 : 48 ≤ r
  · by_cases h2 : r ≤ 57
    · have hl : isDigit r = true := by simp [isDigit]; omega
      rw [hl]
      go_enter Tryz.func23, Tryz.ntmps23
      go_wp2
      go_ret
      first | exact ⟨rfl, rfl⟩ | (refine ⟨?_, rfl⟩; simp; omega)
    · have hl : isDigit r = false := by simp [isDigit]; omega
      rw [hl]
      go_enter Tryz.func23, Tryz.ntmps23
      go_wp2
      go_ret
      first | exact ⟨rfl, rfl⟩ | (refine ⟨?_, rfl⟩; simp; omega)
  · have hl : isDigit r = false := by simp [isDigit]; omega
    rw [hl]
    go_enter Tryz.func23, Tryz.ntmps23
    go_wp2
    go_ret
    first | exact ⟨rfl, rfl⟩ | (refine ⟨?_, rfl⟩; simp; omega)

theorem u8_beq (c d : UInt8) : ((c.toNat : Int) == (d.toNat : Int)) = (c == d) := by
  rw [Bool.eq_iff_iff, beq_iff_eq, beq_iff_eq]
  constructor
  · intro h; exact UInt8.toNat_inj.1 (by omega)
  · intro h; rw [h]

def signsB : ByteArray := ⟨#[61, 35, 60, 62, 43, 45, 42, 38, 126, 40, 41, 91, 93, 123, 125, 44, 59, 58, 46, 94]⟩
theorem signsB_list : signsB.data.toList = signs := rfl
theorem signsB_size : signsB.size = 20 := rfl

def isSign (c : UInt8) : Bool := signs.contains c

theorem contains_take (l : List UInt8) (c : UInt8) (k : Nat) (h : k < l.length) (h1 : (l.take k).contains c = false) (h2 : (l[k] == c) = false) : (l.take (k + 1)).contains c = false := by
  rw [List.take_succ_eq_append_getElem h, Bool.eq_false_iff, ne_eq, List.contains_iff_mem]; intro hm
  rcases List.mem_append.1 hm with hm | hm
  · rw [Bool.eq_false_iff, ne_eq, List.contains_iff_mem] at h1; exact h1 hm
  · simp at hm; subst hm; simp at h2

set_option maxRecDepth 1000000 in
set_option maxHeartbeats 400000 in
theorem oneSign_any (c : UInt8) (w : World) :
    Calls Tryz.prog 25 #[.int .u8 c.toNat] w fun e w' => e = .returned (.bool (isSign c)) ∧ w' = w := by
  go_enter Tryz.func25, Tryz.ntmps25
  go_wp2
  go_loop [4] (fun i => ∃ k : Nat, k ≤ 20 ∧ i = .int .i64 k ∧ Hid ((signs.take k).contains c = false)) (fun i => 20 - (intOf i).toNat)
  case atStart => exact ⟨0, by omega, rfl, rfl⟩
  case round =>
    obtain ⟨k, hk, rfl, HB⟩ := hrel
    by_cases hlt : k < 20
    · have hls : k < signs.length := hlt
      cases he : (signs[k]'hls == c)
      · have HN := hide (contains_take signs c k hls HB.out he)
        have hb : ((((⟨#[61, 35, 60, 62, 43, 45, 42, 38, 126, 40, 41, 91, 93, 123, 125, 44, 59, 58, 46, 94]⟩ : ByteArray)[k]'hlt).toNat : Int) == (c.toNat : Int)) = false := by rw [u8_beq]; exact he
        clear he; go_wp2
        exact ⟨⟨k + 1, by omega, by go_num, HN⟩, by simp [intOf]; omega⟩
      · have hc : Hid (isSign c = true) := by
          have e : signs[k]'hls = c := by simpa using he
          show signs.contains c = true
          rw [List.contains_iff_mem, ← e]
          exact List.getElem_mem hls
        have hb : ((((⟨#[61, 35, 60, 62, 43, 45, 42, 38, 126, 40, 41, 91, 93, 123, 125, 44, 59, 58, 46, 94]⟩ : ByteArray)[k]'hlt).toNat : Int) == (c.toNat : Int)) = true := by rw [u8_beq]; exact he
        clear he; go_wp2
        go_ret
        exact ⟨by rw [hc.out]; rfl, rfl⟩
    · have hc : Hid (isSign c = false) := by
        have e : signs.take k = signs := List.take_of_length_le (by show 20 ≤ k; omega); have := HB.out; rw [e] at this
        exact this
      go_wp2
      go_ret
      exact ⟨by rw [hc.out]; rfl, rfl⟩

/-- The comment's end, as the document's answer tells it. -/
def behindAns (n : Nat) : Option (List UInt8) → Int
  | none => -1
  | some r => ((n - r.length : Nat) : Int)

theorem starts_at (s : ByteArray) (k : Nat) (h : k + 1 < s.size) (a b : UInt8) : starts (s.data.toList.drop k) a b = ((s[k]'(by omega)) == a && s[k + 1] == b) := by
  rw [drop_at s k (by omega), drop_at s (k + 1) h]
  simp [starts]

set_option maxRecDepth 1000000 in
set_option maxHeartbeats 1000000 in
theorem behind_any (s : ByteArray) (k0 : Nat) (w : World) (hs : s.size ≤ 1000000000) (hk0 : k0 ≤ s.size) (hst : starts (s.data.toList.drop k0) 40 42 = true) :
    Calls Tryz.prog 21 #[.string s, .int .i64 k0] w fun e w' => e = .returned (.int .i64 (behindAns s.size (cmt 0 (s.data.toList.drop k0)))) ∧ w' = w := by
  have h2 := starts_len hst; rw [List.length_drop, ← bs_size] at h2
  have HC0 : Hid (cmt 1 (s.data.toList.drop (k0 + 2)) = cmt 0 (s.data.toList.drop k0)) := by
    show cmt 1 _ = _
    rw [cmt_hit hst, List.drop_drop]
  clear hst
  go_enter Tryz.func21, Tryz.ntmps21
  go_wp2
  go_loop [1, 5] (fun i d => ∃ dn k : Nat, d = .int .i64 dn ∧ i = .int .i64 k ∧ k ≤ s.size ∧ 1 ≤ dn ∧ dn ≤ k ∧ Hid (cmt dn (s.data.toList.drop k) = cmt 0 (s.data.toList.drop k0))) (fun i _ => s.size - (intOf i).toNat)
  case atStart => exact ⟨1, k0 + 2, rfl, by go_num, by omega, by omega, by omega, HC0⟩
  case round =>
    obtain ⟨dn, k, rfl, rfl, hk, hd1, hdk, HC⟩ := hrel
    by_cases hlt : k + 1 < s.size
    · have ea := starts_at s k hlt 40 42
      have eb := starts_at s k hlt 42 41
      have hk1 : k < s.size := by omega
      cases x1 : ((s[k]'hk1) == 40)
      · have t1 : (((s[k]'hk1).toNat : Int) == 40) = false := (u8_beq _ 40).trans x1
        cases x3 : ((s[k]'hk1) == 42)
        · have t3 : (((s[k]'hk1).toNat : Int) == 42) = false := (u8_beq _ 42).trans x3
          have HN : Hid (cmt dn (s.data.toList.drop (k + 1)) = cmt 0 (s.data.toList.drop k0)) := by
            show cmt dn _ = _
            rw [← HC.out, cmt_on (r := s.data.toList.drop k) (by rw [ea]; simp [x1]) (by rw [eb]; simp [x3]), List.drop_drop]
          clear ea eb x1 x3 HC HC0; go_wp2
          exact ⟨⟨dn, k + 1, rfl, by go_num, by omega, by omega, by omega, HN⟩, by simp [intOf]; omega⟩
        · have t3 : (((s[k]'hk1).toNat : Int) == 42) = true := (u8_beq _ 42).trans x3
          cases x4 : ((s[k + 1]'hlt) == 41)
          · have t4 : (((s[k + 1]'hlt).toNat : Int) == 41) = false := (u8_beq _ 41).trans x4
            have HN : Hid (cmt dn (s.data.toList.drop (k + 1)) = cmt 0 (s.data.toList.drop k0)) := by
              show cmt dn _ = _
              rw [← HC.out, cmt_on (r := s.data.toList.drop k) (by rw [ea]; simp [x1]) (by rw [eb]; simp [x3, x4]), List.drop_drop]
            clear ea eb x1 x3 x4 HC HC0; go_wp2
            exact ⟨⟨dn, k + 1, rfl, by go_num, by omega, by omega, by omega, HN⟩, by simp [intOf]; omega⟩
          · have t4 : (((s[k + 1]'hlt).toNat : Int) == 41) = true := (u8_beq _ 41).trans x4
            have g1 : starts (s.data.toList.drop k) 40 42 = false := by rw [ea]; simp [x1]
            have g3 : starts (s.data.toList.drop k) 42 41 = true := by rw [eb]; simp [x3, x4]
            by_cases hd2 : dn = 1
            · have HN : Hid (cmt 0 (s.data.toList.drop k0) = some (s.data.toList.drop (k + 2))) := by
                show cmt 0 _ = _
                rw [← HC.out, cmt_end g1 g3, if_pos (by omega), List.drop_drop]
              have hz : ((dn : Int) - 1 == 0) = true := by rw [beq_iff_eq]; omega
              clear ea eb x1 x3 x4 HC HC0 g1 g3 hd2; go_wp2
              go_ret
              refine ⟨?_, rfl⟩; rw [HN.out]
              show Ending.returned (.int .i64 ((k : Int) + 2)) = .returned (.int .i64 ((s.size - (s.data.toList.drop (k + 2)).length : Nat) : Int))
              rw [List.length_drop, ← bs_size, show ((s.size - (s.size - (k + 2)) : Nat) : Int) = (k : Int) + 2 from by omega]
            · have HN : Hid (cmt (dn - 1) (s.data.toList.drop (k + 2)) = cmt 0 (s.data.toList.drop k0)) := by
                show cmt (dn - 1) _ = _
                rw [← HC.out, cmt_end g1 g3, if_neg (by omega), List.drop_drop]
              have hz : ((dn : Int) - 1 == 0) = false := by rw [beq_eq_false_iff_ne]; omega
              have hd3 : 2 ≤ dn := by omega
              clear ea eb x1 x3 x4 HC HC0 g1 g3 hd2; go_wp2
              exact ⟨⟨dn - 1, k + 2, by rw [show ((dn : Int) - 1) = ((dn - 1 : Nat) : Int) from by omega], by go_num, by omega, by omega, by omega, HN⟩, by simp [intOf]; omega⟩
      · have t1 : (((s[k]'hk1).toNat : Int) == 40) = true := (u8_beq _ 40).trans x1
        have x3 : ((s[k]'hk1) == 42) = false := by have e : s[k]'hk1 = 40 := by simpa using x1
                                                   rw [e]; rfl
        have t3 : (((s[k]'hk1).toNat : Int) == 42) = false := (u8_beq _ 42).trans x3; cases x2 : ((s[k + 1]'hlt) == 42)
        · have t2 : (((s[k + 1]'hlt).toNat : Int) == 42) = false := (u8_beq _ 42).trans x2
          have HN : Hid (cmt dn (s.data.toList.drop (k + 1)) = cmt 0 (s.data.toList.drop k0)) := by
            show cmt dn _ = _
            rw [← HC.out, cmt_on (r := s.data.toList.drop k) (by rw [ea]; simp [x1, x2]) (by rw [eb]; simp [x3]), List.drop_drop]
          clear ea eb x1 x2 x3 HC HC0; go_wp2
          exact ⟨⟨dn, k + 1, rfl, by go_num, by omega, by omega, by omega, HN⟩, by simp [intOf]; omega⟩
        · have t2 : (((s[k + 1]'hlt).toNat : Int) == 42) = true := (u8_beq _ 42).trans x2
          have HN : Hid (cmt (dn + 1) (s.data.toList.drop (k + 2)) = cmt 0 (s.data.toList.drop k0)) := by
            show cmt (dn + 1) _ = _
            rw [← HC.out, cmt_hit (r := s.data.toList.drop k) (by rw [ea]; simp [x1, x2]), List.drop_drop]
          clear ea eb x1 x2 x3 HC HC0; go_wp2
          exact ⟨⟨dn + 1, k + 2, by go_num, by go_num, by omega, by omega, by omega, HN⟩, by simp [intOf]; omega⟩
    · have HN : Hid (cmt 0 (s.data.toList.drop k0) = none) := by
        show cmt 0 _ = _
        rw [← HC.out]
        by_cases hk2 : k < s.size
        · rw [drop_at s k hk2, List.drop_eq_nil_of_le (by rw [← bs_size]; omega), cmt_one]
        · rw [List.drop_eq_nil_of_le (by rw [← bs_size]; omega), cmt_nil]
      clear HC HC0; go_wp2
      go_ret
      exact ⟨by rw [HN.out]; rfl, rfl⟩

theorem strip_step {c : UInt8} {r : List UInt8} (h : c = 48) (hr : 0 < r.length) : strip (c :: r) = strip r := by
  cases r with
  | nil => simp at hr
  | cons b r => rw [strip, if_pos h]
theorem strip_stop {l : List UInt8} (h : l.length ≤ 1 ∨ ∃ c r, l = c :: r ∧ c ≠ 48) : strip l = l := by
  match l, h with
  | [], _ => rfl
  | [a], _ => rfl
  | a :: b :: r, h =>
    rcases h with h | ⟨c, r', e, hc⟩
    · simp at h
    · cases e
      rw [strip, if_neg hc]

set_option maxRecDepth 1000000 in
set_option maxHeartbeats 1000000 in
theorem beyond_any (s : ByteArray) (w : World) (_ : s.size ≤ 1000000000) (hne : 1 ≤ s.size) :
    Calls Tryz.prog 24 #[.string s] w fun e w' => e = .returned (.bool (beyondL s.data.toList)) ∧ w' = w := by
  go_enter Tryz.func24, Tryz.ntmps24
  go_wp2
  go_loop [0] (fun v => ∃ x : ByteArray, v = .string x ∧ x.size ≤ s.size ∧ 1 ≤ x.size ∧ Hid (strip x.data.toList = strip s.data.toList)) (fun v => match v with | .string x => x.size | _ => 0)
  case atStart => exact ⟨s, rfl, Nat.le_refl _, hne, rfl⟩
  case round =>
    obtain ⟨x, rfl, hx, hx1, HS⟩ := hrel
    have hx0 : 0 < x.size := by omega
    have hd := drop_at x 0 hx0; simp only [List.drop_zero, Nat.zero_add] at hd
    by_cases hlt : 1 < x.size
    · cases x1 : ((x[0]'hx0) == 48)
      · have t1 : (((x[0]'hx0).toNat : Int) == 48) = false := (u8_beq _ 48).trans x1
        have hst : strip x.data.toList = x.data.toList := strip_stop (.inr ⟨_, _, hd, by simpa using x1⟩)
        have HF : Hid (beyondL s.data.toList = if x.data.toList.length ≠ 10 then decide (10 < x.data.toList.length) else !(Op.bytesLess x.data.toList maxDigits || x.data.toList == maxDigits)) := by
          show beyondL _ = _
          unfold beyondL
          rw [← HS.out, hst]
        clear hst hd HS x1
        by_cases h10 : x.size = 10
        · have hb : ((x.size : Int) != 10) = false := by rw [h10]; rfl
          have HL : Hid (x.data.toList.length = 10) := by rw [← bs_size]; exact h10
          clear h10; go_wp2
          go_ret
          refine ⟨?_, rfl⟩; rw [HF.out, if_neg (by rw [HL.out]; simp)]
          simp [bs_toList, maxDigits]
        · have hb : ((x.size : Int) != 10) = true := by rw [bne_iff_ne]; omega
          have HL : Hid (x.data.toList.length ≠ 10) := by rw [← bs_size]; exact h10
          clear h10; go_wp2
          go_ret
          refine ⟨?_, rfl⟩; rw [HF.out, if_pos HL.out, ← bs_size]
          simp
          omega
      · have t1 : (((x[0]'hx0).toNat : Int) == 48) = true := (u8_beq _ 48).trans x1
        have HN : Hid (strip (x.extract 1 x.size).data.toList = strip s.data.toList) := by
          show strip _ = _
          rw [← HS.out, hd, strip_step (by simpa using x1) (by rw [List.length_drop, ← bs_size]; omega), bs_drop]
        have hes : (x.extract 1 x.size).size = x.size - 1 := by rw [bs_size, bs_drop, List.length_drop, ← bs_size]
        have HE := hide hes; clear hd HS x1 hes; go_wp2; have hes := HE.out
        exact ⟨⟨_, rfl, by omega, by omega, HN⟩, by simp; omega⟩
    · have hst : strip x.data.toList = x.data.toList := strip_stop (.inl (by rw [← bs_size]; omega))
      have HF : Hid (beyondL s.data.toList = if x.data.toList.length ≠ 10 then decide (10 < x.data.toList.length) else !(Op.bytesLess x.data.toList maxDigits || x.data.toList == maxDigits)) := by
        show beyondL _ = _
        unfold beyondL
        rw [← HS.out, hst]
      clear hst hd HS
      by_cases h10 : x.size = 10
      · have hb : ((x.size : Int) != 10) = false := by rw [h10]; rfl
        have HL : Hid (x.data.toList.length = 10) := by rw [← bs_size]; exact h10
        clear h10; go_wp2
        go_ret
        refine ⟨?_, rfl⟩; rw [HF.out, if_neg (by rw [HL.out]; simp)]
        simp [bs_toList, maxDigits]
      · have hb : ((x.size : Int) != 10) = true := by rw [bne_iff_ne]; omega
        have HL : Hid (x.data.toList.length ≠ 10) := by rw [← bs_size]; exact h10
        clear h10; go_wp2
        go_ret
        refine ⟨?_, rfl⟩; rw [HF.out, if_pos HL.out, ← bs_size]
        simp
        omega

end Go.Proofs.YtbphiiaoncakfaaGreatDoor

/- The kept words as they lie in a lexicon's map, and what a lexicon answers. -/
namespace Go.Proofs.YtbphiiaoncakfaaGreatDoor
open Go.RowKit Go.Maps Go.WideMaps Go.WideElems

def keptL : List (List UInt8) := [[77, 79, 68, 85, 76, 69], [73, 77, 80, 79, 82, 84], [67, 79, 78, 83, 84], [84, 89, 80, 69], [86, 65, 82], [80, 82, 79, 67, 69, 68, 85, 82, 69], [66, 69, 71, 73, 78], [69, 78, 68], [73, 70], [84, 72, 69, 78], [69, 76, 83, 73, 70], [69, 76, 83, 69], [87, 72, 73, 76, 69], [68, 79], [82, 69, 80, 69, 65, 84], [85, 78, 84, 73, 76], [82, 69, 84, 85, 82, 78], [65, 82, 82, 65, 89], [79, 70], [82, 69, 67, 79, 82, 68], [80, 79, 73, 78, 84, 69, 82], [84, 79], [78, 73, 76], [84, 82, 85, 69], [70, 65, 76, 83, 69], [68, 73, 86], [77, 79, 68], [79, 82], [73, 83], [78, 69, 87], [79, 85, 84], [71, 69, 84], [65, 83, 83, 69, 82, 84]]
def keptText : ByteArray := ⟨#[77, 79, 68, 85, 76, 69, 32, 73, 77, 80, 79, 82, 84, 32, 67, 79, 78, 83, 84, 32, 84, 89, 80, 69, 32, 86, 65, 82, 32, 80, 82, 79, 67, 69, 68, 85, 82, 69, 32, 66, 69, 71, 73, 78, 32, 69, 78, 68, 32, 73, 70, 32, 84, 72, 69, 78, 32, 69, 76, 83, 73, 70, 32, 69, 76, 83, 69, 32, 87, 72, 73, 76, 69, 32, 68, 79, 32, 82, 69, 80, 69, 65, 84, 32, 85, 78, 84, 73, 76, 32, 82, 69, 84, 85, 82, 78, 32, 65, 82, 82, 65, 89, 32, 79, 70, 32, 82, 69, 67, 79, 82, 68, 32, 80, 79, 73, 78, 84, 69, 82, 32, 84, 79, 32, 78, 73, 76, 32, 84, 82, 85, 69, 32, 70, 65, 76, 83, 69, 32, 68, 73, 86, 32, 77, 79, 68, 32, 79, 82, 32, 73, 83, 32, 78, 69, 87, 32, 79, 85, 84, 32, 71, 69, 84, 32, 65, 83, 83, 69, 82, 84]⟩
theorem kept_fields : Lib.fields keptText.data.toList = keptL := by decide +kernel
theorem kept_ascii : ∀ (j : Nat) b, keptText.data.toList[j]? = some b → b.toNat < 128 := by
  intro j b h
  have : ∀ b ∈ keptText.data.toList, b.toNat < 128 := by decide +kernel
  exact this b (List.mem_of_getElem? h)
theorem kept_len : keptL.length = 33 := rfl
def keptB (l : List UInt8) : Bool := keptL.contains l

theorem law9 : Keyed Tryz.prog 9 := string_keyed Tryz.underlying9
theorem zero74 (w : World) : (zeroValue 73).run Tryz.prog w = .ok (.agg #[]) w := by kernel_rfl

theorem kept_short (k : Nat) (h : k < keptL.length) : (⟨(keptL[k]).toArray⟩ : ByteArray).size ≤ maxLen := by
  have h1 : ∀ x ∈ keptL, x.length ≤ 20 := by decide
  have h2 := h1 _ (List.getElem_mem h)
  unfold maxLen
  simp [ByteArray.size]
  omega

/-- The set of the first k kept words. -/
def keptSet (k : Nat) : DataW Unit := setOf (.agg []) ((keptL.take k).map Lit.string)

theorem keptSet_succ (k : Nat) (h : k < keptL.length) : keptSet (k + 1) = (keptSet k).put (.string (keptL[k])) (.agg []) := by
  unfold keptSet
  rw [List.take_succ_eq_append_getElem h, List.map_append, List.map_cons, List.map_nil, setOf_snoc]

theorem keptSet_has (l : List UInt8) : Maps.has (keptSet 33) (.string l) = keptB l := by
  unfold keptSet keptB
  rw [has_setOf _ _ _ (by intro x hx; obtain ⟨y, _, rfl⟩ := List.mem_map.1 hx; trivial), List.take_of_length_le (by rw [kept_len]; exact Nat.le_refl _), List.any_map]; rw [Bool.eq_iff_iff, List.any_eq_true, List.contains_iff_mem]
  constructor
  · rintro ⟨x, hx, h⟩
    have e : x = l := by simpa [Lit.sameKey] using h
    rw [← e]; exact hx
  · intro h
    exact ⟨l, h, by simp [Lit.sameKey]⟩

theorem gTab : Tryz.prog.globalNamed "strings.asciiSpace" = some 0 := by kernel_rfl
theorem tab_lt {w : World} (h : Lib.TabIs Tryz.prog w "strings.asciiSpace" .u8 Lib.asciiSpaceTab) : 0 < w.heap.size := by
  have hc := h.cell gTab 0 (by rw [Lib.asciiSpaceTab_length]; omega)
  rcases Nat.lt_or_ge 0 w.heap.size with h' | h'
  · exact h'
  · simp [World.cell?, Array.getElem?_eq_none h'] at hc
theorem tab_below {w w' : World} (h : Lib.TabIs Tryz.prog w "strings.asciiSpace" .u8 Lib.asciiSpaceTab) (hb : Below w.heap.size w w') : Lib.TabIs Tryz.prog w' "strings.asciiSpace" .u8 Lib.asciiSpaceTab :=
  var?_below hb gTab (tab_lt h) h

theorem keptCell {w : World} {k : Nat} (h : k < 33) : (w.alloc (.cells (keptL.map fun l => Value.string ⟨l.toArray⟩).toArray 9)).cell? ⟨w.heap.size, k, none⟩ = some (.string ⟨(keptL[k]'(by rw [kept_len]; exact h)).toArray⟩) := by
  rw [World.cell?_alloc_at _ _ _ _ rfl]
  simp [List.getElem?_eq_getElem (show k < keptL.length by rw [kept_len]; exact h)]

set_option maxRecDepth 1000000 in
set_option maxHeartbeats 1000000 in
theorem lexicon_any (w : World) (htab : Lib.TabIs Tryz.prog w "strings.asciiSpace" .u8 Lib.asciiSpaceTab) :
    Calls Tryz.prog 17 #[] w fun e w' => e = .returned (.agg #[.map (some (w.heap.size + 1))]) ∧ w'.ownsMap Tryz.prog 9 (unitElem (H := Unit)) (w.heap.size + 1) 33 (keptSet 33) ∧ Below w.heap.size w w' := by
  have hmm := @run_makeMap Tryz.prog; have HTB := hide (fun w' (hb : Below w.heap.size w w') => tab_below htab hb); clear htab
  go_enter Tryz.func17, Tryz.ntmps17
  go_wp2_with fail
  show Calls Tryz.prog 36 #[.string keptText] _ _
  refine (Tryz.strings_Fields keptText _ (by decide) kept_ascii (HTB.out _ (((Below.refl _ _).alloc (Nat.le_refl _) _).alloc (by simp) _))).mono ?_; rintro e w1 ⟨he, hw1⟩; rw [kept_fields, kept_len] at he; subst he
  have hsz : w1.heap.size = w.heap.size + 3 := by rw [hw1]; simp
  have hcell : ∀ (k : Nat) (h : k < 33), w1.cell? ⟨w.heap.size + 1 + 1, k, none⟩ = some (.string ⟨(keptL[k]'(by rw [kept_len]; exact h)).toArray⟩) := fun k h => by
    have hk := keptCell (w := (w.alloc (.cells #[.map none] 53)).alloc (.map #[] 0)) h; simp only [World.size_alloc] at hk; rw [hw1, kept_fields]
    exact hk
  have hmap : w1.ownsMap Tryz.prog 9 (unitElem (H := Unit)) (w.heap.size + 1) 0 (keptSet 0) := by
    rw [hw1]; have hk := (World.ownsMap_made (w.alloc (.cells #[.map none] 53)) Tryz.prog 9 (unitElem (H := Unit))).alloc (.cells ((Lib.fields keptText.data.toList).map fun l => Value.string ⟨l.toArray⟩).toArray 9); simp only [World.size_alloc] at hk
    exact hk
  have hb1 : Below w.heap.size w w1 := by rw [hw1]; exact (((Below.refl _ _).alloc (Nat.le_refl _) _).alloc (by simp) _).alloc (by simp; omega) _
  have hbc : w1.cell? ⟨w.heap.size, 0, none⟩ = some (.map none) := by
    rw [hw1, World.cell?_alloc_lt _ _ _ (by simp; omega), World.cell?_alloc_lt _ _ _ (by simp)]; simp
  have hbz : w1.frozen? ⟨w.heap.size, 0, none⟩ = false := by
    rw [hw1, World.frozen?_alloc_old _ _ _ (by simp; omega), World.frozen?_alloc_old _ _ _ (by simp)]; simp
  simp only [World.size_alloc]; have HC := hide hcell; have HM := hide hmap; have HB := hide hb1; have HBC := hide hbc; have HBZ := hide hbz; have HSZ := hide hsz; clear hw1 hsz hcell hmap hb1 hbc hbz HTB hmm; go_wp2
  go_loopw [7] (fun iv wr => ∃ k : Nat, k ≤ 33 ∧ iv = .int .i64 k ∧ Hid (wr.ownsMap Tryz.prog 9 (unitElem (H := Unit)) (w.heap.size + 1) k (keptSet k)) ∧ Hid (w1.grownBy wr (some (w.heap.size + 1)))) (fun iv _ => 33 - (intOf iv).toNat)
  case atStart => exact ⟨0, by omega, rfl, HM, gb_refl _ _⟩
  case round =>
    obtain ⟨k, hk, rfl, HO, HG⟩ := hrel; have hsz := HSZ.out
    by_cases hlt : k < 33
    · have d0 : wr.cell? ⟨w.heap.size + 1 + 1, k, none⟩ = _ := cell_far HG.out (HC.out k hlt) (by simp)
      have hls : k < keptL.length := by rw [kept_len]; exact hlt
      have hkey : keyOf Tryz.prog 9 (.string ⟨(keptL[k]'hls).toArray⟩) = some (.string (keptL[k]'hls)) := by
        have := keyOf_string_mk (P := Tryz.prog) Tryz.underlying9 (s := ⟨(keptL[k]'hls).toArray⟩) (kept_short k hls)
        simpa using this
      have hsucc := keptSet_succ k hls
      generalize keptL[k]'hls = x at d0 hkey hsucc
      have HS := hide hsucc; have HK := hide hkey; clear hsucc hkey
      go_wp2_with (first | (at_mapUpdate; refine wpList_mapUpdate_own _ rfl _ _ _ 51 rfl 9 73 law9 Tryz.underlying51 (unitElem (H := Unit)) (w.heap.size + 1) k _ rfl HO.out (by unfold maxLen; omega) _ _ _ rfl rfl HK.out (.agg []) [] unitElem_mk ?_; intro w3 hown3 hg3))
      exact ⟨⟨k + 1, by omega, by go_num, by rw [HS.out]; exact hown3, gb_trans HG.out hg3⟩, by simp [intOf]; omega⟩
    · obtain rfl : k = 33 := by omega
      have c0 := cell_far HG.out HBC.out (by simp); have z0 := frozen_far HG.out (by simp; omega) HBZ.out (by simp); have hbb : Below w.heap.size w wr := HB.out.grown HG.out (by omega) (fun j hj => by cases hj; omega); have HBB := hide hbb; have HOS := hide (HO.out.setCell (a := ⟨w.heap.size, 0, none⟩) (by simp) (.map (some (w.heap.size + 1)))); have g0 : (wr.setCell ⟨w.heap.size, 0, none⟩ (.map (some (w.heap.size + 1)))).cell? ⟨w.heap.size, 0, none⟩ = some (.map (some (w.heap.size + 1))) := World.cell?_setCell_same _ _ _ c0; clear hbb HG HO HBC HBZ HC HM HB hsz HSZ; go_wp2
      exact bodyPost_ret (v := .agg #[.map (some (w.heap.size + 1))]) (by simp [results, Tryz.results17, go_sem, g0]) rfl ⟨rfl, HOS.out, HBB.out.setCell (by simp) _⟩

/-- A lexicon's map, wherever it lies. -/
def IsLex (w : World) (b : Nat) : Prop := w.ownsMap Tryz.prog 9 (unitElem (H := Unit)) b 33 (keptSet 33)

theorem IsLex.below {w w' : World} {b : Nat} (h : IsLex w b) (hb : Below w.heap.size w w') : IsLex w' b := World.ownsMap.kept h (⟨hb.os, hb.tape, hb.output, hb.size, fun i hi _ => hb.block i hi⟩ : w.grownBy w' none) (by simp)

set_option maxRecDepth 1000000 in
set_option maxHeartbeats 1000000 in
theorem lexKept_any (b : Nat) (s : ByteArray) (w : World) (hs : s.size ≤ maxLen) (hx : IsLex w b) :
    Calls Tryz.prog 121 #[.agg #[.map (some b)], .string s] w fun e w' => e = .returned (.bool (keptB s.data.toList)) ∧ Below w.heap.size w w' := by
  have HK := hide (keyOf_string_mk (P := Tryz.prog) Tryz.underlying9 (s := s) hs)
  have HX := fun o => hide (World.ownsMap.alloc hx o)
  have HH := hide (keptSet_has s.data.toList); clear hx
  go_enter Tryz.func121, Tryz.ntmps121
  go_wp2_with (first | (at_lookup; refine wpList_lookup_own_unit _ rfl _ _ 51 rfl 9 73 law9 Tryz.underlying51 (zero74 _) b 33 (keptSet 33) rfl (HX _).out _ _ rfl HK.out ?_; rw [HH.out]))
  go_ret
  exact ⟨rfl, ((Below.refl _ _).alloc (Nat.le_refl _) _).alloc (by simp) _⟩

/-- A word that could be a name, kept or not. -/
def shapeB (l : List UInt8) : Bool := !l.isEmpty && decide (l.length ≤ 12) && isLetter (l.headD 0).toNat && l.all (fun c => lod c.toNat)
def nameB (l : List UInt8) : Bool := shapeB l && !keptB l

theorem get_mem (s : ByteArray) (k : Nat) (h : k < s.size) : s[k] ∈ s.data.toList := mem_get s k h
theorem headD_zero (s : ByteArray) (h : 0 < s.size) : s.data.toList.headD 0 = s[0] := (take_head s h).1

theorem shape_empty (s : ByteArray) (h : s.size = 0) : nameB s.data.toList = false := by
  have : s.data.toList = [] := List.eq_nil_of_length_eq_zero (by rw [← bs_size]; exact h); rw [this]; rfl
theorem shape_long (s : ByteArray) (h : 12 < s.size) : nameB s.data.toList = false := by
  unfold nameB shapeB
  rw [← bs_size]
  simp [show ¬ s.size ≤ 12 by omega]
theorem shape_not_lod (s : ByteArray) (k : Nat) (h : k < s.size) (hl : lod (s[k]).toNat = false) : nameB s.data.toList = false := by
  unfold nameB shapeB
  have : s.data.toList.all (fun c => lod c.toNat) = false := by
    rw [List.all_eq_false]
    exact ⟨s[k], get_mem s k h, by simp [hl]⟩
  rw [this]; simp
theorem shape_not_letter (s : ByteArray) (h : 0 < s.size) (hl : isLetter (s[0]).toNat = false) : nameB s.data.toList = false := by
  unfold nameB shapeB
  rw [headD_zero s h, hl]; simp
theorem shape_yes (s : ByteArray) (h0 : 0 < s.size) (h12 : s.size ≤ 12) (hl : isLetter (s[0]).toNat = true) (ha : ∀ (j : Nat) (h : j < s.size), lod (s[j]'h).toNat = true) : nameB s.data.toList = !keptB s.data.toList := by
  unfold nameB shapeB
  have h1 : s.data.toList.all (fun c => lod c.toNat) = true := by
    rw [List.all_eq_true]; intro c hc; obtain ⟨j, hj, rfl⟩ := List.getElem_of_mem hc
    exact ha j (by rw [bs_size]; exact hj)
  have h2 : s.data.toList.isEmpty = false := by
    cases h : s.data.toList with
    | nil => rw [bs_size, h] at h0; simp at h0
    | cons a l => rfl
  rw [headD_zero s h0, hl, h1, h2, ← bs_size]
  simp [h12]

theorem empty_form (s : ByteArray) : s.toList.isEmpty = decide (s.size = 0) := by
  rw [bs_toList, bs_size]
  cases s.data.toList <;> simp

end Go.Proofs.YtbphiiaoncakfaaGreatDoor

/- The document's trees (B1 to B4), told as functions of the place in a list of words: what is read, and where reading goes on; or what is wrong, and where. -/
namespace Go.Proofs.YtbphiiaoncakfaaGreatDoor

def kMODULE : List UInt8 := [77, 79, 68, 85, 76, 69]
def kIMPORT : List UInt8 := [73, 77, 80, 79, 82, 84]
def kCONST : List UInt8 := [67, 79, 78, 83, 84]
def kTYPE : List UInt8 := [84, 89, 80, 69]
def kVAR : List UInt8 := [86, 65, 82]
def kPROCEDURE : List UInt8 := [80, 82, 79, 67, 69, 68, 85, 82, 69]
def kBEGIN : List UInt8 := [66, 69, 71, 73, 78]
def kEND : List UInt8 := [69, 78, 68]
def kIF : List UInt8 := [73, 70]
def kTHEN : List UInt8 := [84, 72, 69, 78]
def kELSIF : List UInt8 := [69, 76, 83, 73, 70]
def kELSE : List UInt8 := [69, 76, 83, 69]
def kWHILE : List UInt8 := [87, 72, 73, 76, 69]
def kDO : List UInt8 := [68, 79]
def kREPEAT : List UInt8 := [82, 69, 80, 69, 65, 84]
def kUNTIL : List UInt8 := [85, 78, 84, 73, 76]
def kRETURN : List UInt8 := [82, 69, 84, 85, 82, 78]
def kARRAY : List UInt8 := [65, 82, 82, 65, 89]
def kOF : List UInt8 := [79, 70]
def kRECORD : List UInt8 := [82, 69, 67, 79, 82, 68]
def kPOINTER : List UInt8 := [80, 79, 73, 78, 84, 69, 82]
def kTO : List UInt8 := [84, 79]
def kNIL : List UInt8 := [78, 73, 76]
def kTRUE : List UInt8 := [84, 82, 85, 69]
def kFALSE : List UInt8 := [70, 65, 76, 83, 69]
def kDIV : List UInt8 := [68, 73, 86]
def kMOD : List UInt8 := [77, 79, 68]
def kOR : List UInt8 := [79, 82]
def kIS : List UInt8 := [73, 83]
def kNEW : List UInt8 := [78, 69, 87]
def kOUT : List UInt8 := [79, 85, 84]
def kGET : List UInt8 := [71, 69, 84]
def kASSERT : List UInt8 := [65, 83, 83, 69, 82, 84]
def s_eq : List UInt8 := [61]
def s_hash : List UInt8 := [35]
def s_lt : List UInt8 := [60]
def s_gt : List UInt8 := [62]
def s_le : List UInt8 := [60, 61]
def s_ge : List UInt8 := [62, 61]
def s_plus : List UInt8 := [43]
def s_minus : List UInt8 := [45]
def s_star : List UInt8 := [42]
def s_amp : List UInt8 := [38]
def s_tilde : List UInt8 := [126]
def s_lp : List UInt8 := [40]
def s_rp : List UInt8 := [41]
def s_lb : List UInt8 := [91]
def s_rb : List UInt8 := [93]
def s_lc : List UInt8 := [123]
def s_rc : List UInt8 := [125]
def s_comma : List UInt8 := [44]
def s_semi : List UInt8 := [59]
def s_colon : List UInt8 := [58]
def s_dot : List UInt8 := [46]
def s_hat : List UInt8 := [94]
def s_becomes : List UInt8 := [58, 61]

/-- A tree: kind, name, number, place, what is below. -/
inductive T where
  | mk (kind : Int) (name : List UInt8) (num at' : Int) (subs : List T)
def T.at' : T → Int
  | .mk _ _ _ a _ => a

abbrev Tok := List UInt8 × Int
def wd (L : List Tok) (i : Nat) : List UInt8 := (L[i]?.getD ([], 0)).1
def pos (L : List Tok) (i : Nat) : Int := (L[i]?.getD ([], 0)).2

abbrev P (α : Type) := Nat → Except (Int × Int) (α × Nat)
def P.bind {α β : Type} (p : P α) (k : α → P β) : P β := fun i => match p i with
  | .error e => .error e
  | .ok (a, j) => k a j
def P.ret {α : Type} (a : α) : P α := fun i => .ok (a, i)
/-- A reading that knows its place. -/
def atP {α : Type} (g : Nat → P α) : P α := fun i => g i i
theorem P.bind_ok {α β : Type} {p : P α} {k : α → P β} {i j : Nat} {a : α} (h : p i = .ok (a, j)) : P.bind p k i = k a j := by unfold P.bind; rw [h]
theorem P.bind_err {α β : Type} {p : P α} {k : α → P β} {i : Nat} {e : Int × Int} (h : p i = .error e) : P.bind p k i = .error e := by unfold P.bind; rw [h]

section
variable (L : List Tok)
def refuseAt (i : Nat) : Int × Int := (if wd L i = [] then 2 else 4, pos L i)
def refuseP {α : Type} : P α := fun i => .error (refuseAt L i)
def limitP {α : Type} : P α := fun i => .error (3, pos L i)
def hasP (w : List UInt8) : P Bool := fun i => if wd L i = w then .ok (true, i + 1) else .ok (false, i)
def wantP (w : List UInt8) : P Unit := fun i => if wd L i = w then .ok ((), i + 1) else .error (refuseAt L i)
def nameP : P (List UInt8) := fun i => if nameB (wd L i) = true then .ok (wd L i, i + 1) else .error (refuseAt L i)
/-- What digits tell, if they are some, and no more than the greatest number. -/
def numOf (w : List UInt8) : Option Int := if w ≠ [] ∧ isDigit ((w.headD 0).toNat : Int) = true then valueFrom 0 w else none
def numP : P Int := fun i => match numOf (wd L i) with
  | some n => .ok (n, i + 1)
  | none => .error (refuseAt L i)
def namedP (kind : Int) : P T := atP fun i => (nameP L).bind (fun s => P.ret (.mk kind s 0 (pos L i) []))
def starP (t : T) : P T := (hasP L s_star).bind fun b => P.ret (match t with | .mk k s n a l => if b then .mk k s 1 a l else .mk k s n a l)
def markedP (kind : Int) : P T := (namedP L kind).bind (starP L)
def severalLoop (part : P T) (sep : List UInt8) : Nat → List T → P (List T)
  | 0, _ => fun _ => .error (0, 0)
  | f + 1, acc => (hasP L sep).bind fun b => if b then part.bind fun t => severalLoop part sep f (acc ++ [t]) else P.ret acc
def severalP (part : P T) (sep : List UInt8) : P (List T) := part.bind fun t => severalLoop L part sep L.length [t]
def bracketedP (part : P T) (sep : List UInt8) : P (List T) :=
  (wantP L s_lp).bind fun _ => (hasP L s_rp).bind fun b => if b then P.ret [] else (severalP L part sep).bind fun l => (wantP L s_rp).bind fun _ => P.ret l
def typeNameP : P T := (namedP L 13).bind fun n => (hasP L s_dot).bind fun b => if b then (nameP L).bind fun s2 => P.ret (match n with | .mk k s m a _ => .mk k s2 m a [.mk 24 s 0 a []]) else P.ret n
def typedP (t : T) : P T := (wantP L s_colon).bind fun _ => (typeNameP L).bind fun y => P.ret (match t with | .mk k s n a _ => .mk k s n a [y])

/-- Expressions: what stands one level deeper is handed in: an expression (E), a factor (F). -/
def opT (sign : List UInt8) (left right : T) : T := .mk 36 sign 0 left.at' [left, right]
def partIsNext (w : List UInt8) : Bool := w == s_dot || w == s_lb || w == s_hat || w == s_lc
def partP (E : P T) (of' : T) : P T := fun i =>
  if wd L i = s_dot then (nameP L).bind (fun s => P.ret (.mk 25 s 0 of'.at' [of'])) (i + 1)
  else if wd L i = s_lb then E.bind (fun e => (wantP L s_rb).bind fun _ => P.ret (.mk 26 [] 0 of'.at' [of', e])) (i + 1)
  else if wd L i = s_hat then .ok (.mk 27 [] 0 of'.at' [of'], i + 1)
  else (typeNameP L).bind (fun y => (wantP L s_rc).bind fun _ => P.ret (.mk 28 [] 0 of'.at' [of', y])) (i + 1)
def designatorLoop (E : P T) : Nat → T → P T
  | 0, n => fun i => if partIsNext (wd L i) = true then (partP L E n).bind (fun _ => limitP L) i else .ok (n, i)
  | f + 1, n => fun i => if partIsNext (wd L i) = true then (partP L E n).bind (fun n' => designatorLoop E f n') i else .ok (n, i)
def designatorP (E : P T) : P T := (namedP L 24).bind fun n => designatorLoop L E 20 n
def argumentsP (E : P T) : P (List T) := bracketedP L E s_comma
def designatorOrCallP (E : P T) : P T := (designatorP L E).bind fun n i => if wd L i = s_lp then (argumentsP L E).bind (fun l => P.ret (.mk 33 [] 0 n.at' (n :: l))) i else .ok (n, i)
def factorP (E F : P T) : P T := fun i =>
  if wd L i = kTRUE then .ok (.mk 30 [] 0 (pos L i) [], i + 1)
  else if wd L i = kFALSE then .ok (.mk 31 [] 0 (pos L i) [], i + 1)
  else if wd L i = kNIL then .ok (.mk 32 [] 0 (pos L i) [], i + 1)
  else if wd L i = s_tilde then F.bind (fun f => P.ret (.mk 34 [] 0 (pos L i) [f])) (i + 1)
  else if wd L i = s_lp then E.bind (fun e => (wantP L s_rp).bind fun _ => P.ret e) (i + 1)
  else if nameB (wd L i) = true then designatorOrCallP L E i
  else (numP L).bind (fun n => P.ret (.mk 29 [] n (pos L i) [])) i
def chainP (joins : List UInt8 → Bool) (part : P T) : Nat → T → P T
  | 0, left => fun i => if joins (wd L i) = true then limitP L (i + 1) else .ok (left, i)
  | f + 1, left => fun i => if joins (wd L i) = true then part.bind (fun r => chainP joins part f (opT (wd L i) left r)) (i + 1) else .ok (left, i)
def addsB (w : List UInt8) : Bool := w == s_plus || w == s_minus || w == kOR
def multipliesB (w : List UInt8) : Bool := w == s_star || w == kDIV || w == kMOD || w == s_amp
def comparesB (w : List UInt8) : Bool := w == s_eq || w == s_hash || w == s_lt || w == s_le || w == s_gt || w == s_ge
def productP (E F : P T) : P T := (factorP L E F).bind fun a => chainP L multipliesB (factorP L E F) 20 a
def sumP (E F : P T) : P T := atP fun i => (hasP L s_minus).bind (fun b => (productP L E F).bind fun a => chainP L addsB (productP L E F) 20 (if b then .mk 35 [] 0 (pos L i) [a] else a))
def relationP (E F : P T) : P T := (sumP L E F).bind fun a i =>
  if wd L i = kIS then (typeNameP L).bind (fun y => P.ret (.mk 37 [] 0 a.at' [a, y])) (i + 1)
  else if comparesB (wd L i) = true then (sumP L E F).bind (fun b => P.ret (opT (wd L i) a b)) (i + 1)
  else .ok (a, i)
/-- An expression and a factor, with so many levels left. -/
def exprFactor : Nat → P T × P T
  | 0 => (limitP L, limitP L)
  | n + 1 => (relationP L (exprFactor n).1 (exprFactor n).2, factorP L (exprFactor n).1 (exprFactor n).2)
def exprP (n : Nat) : P T := (exprFactor L n).1
def deepFactorP (n : Nat) : P T := (exprFactor L n).2
theorem exprP_succ (n : Nat) : exprP L (n + 1) = relationP L (exprP L n) (deepFactorP L n) := rfl
theorem deepFactorP_succ (n : Nat) : deepFactorP L (n + 1) = factorP L (exprP L n) (deepFactorP L n) := rfl

/-- Acts: E an expression, A acts, each one level deeper. -/
def nothingB (w : List UInt8) : Bool := w == s_semi || w == kEND || w == kELSIF || w == kELSE || w == kUNTIL || w == []
def branchP (E A : P T) : P (List T) := E.bind fun c => (wantP L kTHEN).bind fun _ => A.bind fun a => P.ret [c, a]
def choiceLoop (E A : P T) : Nat → List T → P (List T)
  | 0, _ => fun _ => .error (0, 0)
  | f + 1, acc => (hasP L kELSIF).bind fun b => if b then (branchP L E A).bind fun l => choiceLoop E A f (acc ++ l) else P.ret acc
def choiceP (E A : P T) : P T := atP fun i => (wantP L kIF).bind fun _ => (branchP L E A).bind (fun l => (choiceLoop L E A L.length l).bind fun l => (hasP L kELSE).bind fun b => if b then A.bind fun a => (wantP L kEND).bind fun _ => P.ret (.mk 16 [] 1 (pos L i) (l ++ [a])) else (wantP L kEND).bind fun _ => P.ret (.mk 16 [] 0 (pos L i) l))
def whileP (E A : P T) : P T := atP fun i => (wantP L kWHILE).bind fun _ => E.bind (fun c => (wantP L kDO).bind fun _ => A.bind fun a => (wantP L kEND).bind fun _ => P.ret (.mk 17 [] 0 (pos L i) [c, a]))
def repeatP (E A : P T) : P T := atP fun i => (wantP L kREPEAT).bind fun _ => A.bind (fun a => (wantP L kUNTIL).bind fun _ => E.bind fun c => P.ret (.mk 18 [] 0 (pos L i) [a, c]))
def returnP (E : P T) : P T := atP fun i => (wantP L kRETURN).bind fun _ j => if nothingB (wd L j) = true then .ok (.mk 19 [] 0 (pos L i) [], j) else E.bind (fun e => P.ret (.mk 19 [] 0 (pos L i) [e])) j
def builtInP (kind : Int) (k : List UInt8) (part : P T) : P T := atP fun i => (wantP L k).bind fun _ => (wantP L s_lp).bind (fun _ => part.bind fun e => (wantP L s_rp).bind fun _ => P.ret (.mk kind [] 0 (pos L i) [e]))
def assignP (E : P T) : P T := atP fun i => (designatorP L E).bind (fun d j =>
  if wd L j = s_becomes then E.bind (fun e => P.ret (.mk 14 [] 0 (pos L i) [d, e])) (j + 1)
  else if wd L j = s_lp then (argumentsP L E).bind (fun l => P.ret (.mk 15 [] 0 (pos L i) (d :: l))) j
  else .ok (.mk 15 [] 0 (pos L i) [d], j))
def actP (E A : P T) : P T := fun i =>
  if wd L i = kIF then choiceP L E A i
  else if wd L i = kWHILE then whileP L E A i
  else if wd L i = kREPEAT then repeatP L E A i
  else if wd L i = kRETURN then returnP L E i
  else if wd L i = kNEW then builtInP L 20 kNEW (designatorP L E) i
  else if wd L i = kOUT then builtInP L 21 kOUT E i
  else if wd L i = kGET then builtInP L 22 kGET (designatorP L E) i
  else if wd L i = kASSERT then builtInP L 23 kASSERT E i
  else assignP L E i
def actLoop (E A : P T) : Nat → List T → P (List T)
  | 0, _ => fun _ => .error (0, 0)
  | f + 1, acc => fun i => (if nothingB (wd L i) = true then P.ret acc else (actP L E A).bind fun t => P.ret (acc ++ [t])).bind (fun acc => (hasP L s_semi).bind fun b => if b then actLoop E A f acc else P.ret acc) i
def actListP (E A : P T) : P T := atP fun i => (actLoop L E A (L.length + 1) []).bind (fun l => P.ret (.mk 1 [] 0 (pos L i) l))
def actsP : Nat → P T
  | 0 => limitP L
  | n + 1 => actListP L (exprP L n) (actsP n)

/-- Declarations and modules. -/
def declLoop (part : P T) : Nat → List T → P (List T)
  | 0, _ => fun _ => .error (0, 0)
  | f + 1, acc => fun i => if nameB (wd L i) = true then part.bind (fun t => (wantP L s_semi).bind fun _ => declLoop part f (acc ++ [t])) i else .ok (acc, i)
def sectionP (k : List UInt8) (part : P T) : P T := atP fun i => (hasP L k).bind (fun b => if b then (declLoop L part (L.length + 1) []).bind fun l => P.ret (.mk 1 [] 0 (pos L i) l) else P.ret (.mk 1 [] 0 (pos L i) []))
def withSub (t y : T) : T := match t with | .mk k s n a _ => .mk k s n a [y]
def constantP : P T := (markedP L 4).bind fun n => (wantP L s_eq).bind fun _ => (exprP L 20).bind fun e => P.ret (withSub n e)
def arrayP : P T := atP fun i => (wantP L kARRAY).bind fun _ => (numP L).bind (fun n => (wantP L kOF).bind fun _ => (typeNameP L).bind fun y => P.ret (.mk 9 [] n (pos L i) [y]))
def pointerP : P T := atP fun i => (wantP L kPOINTER).bind fun _ => (wantP L kTO).bind (fun _ => (typeNameP L).bind fun y => P.ret (.mk 12 [] 0 (pos L i) [y]))
def variableP : P T := (markedP L 6).bind (typedP L)
def fieldP : P T := (markedP L 11).bind (typedP L)
def localP : P T := (namedP L 6).bind (typedP L)
def baseP : P T := atP fun i => (hasP L s_lp).bind (fun b => if b then (typeNameP L).bind fun y => (wantP L s_rp).bind fun _ => P.ret y else P.ret (.mk 0 [] 0 (pos L i) []))
def recordP : P T := atP fun i => (wantP L kRECORD).bind fun _ => (baseP L).bind (fun y => (declLoop L (fieldP L) (L.length + 1) []).bind fun l => (wantP L kEND).bind fun _ => P.ret (.mk 10 [] 0 (pos L i) (y :: l)))
def typeItselfP : P T := fun i =>
  if wd L i = kARRAY then arrayP L i else if wd L i = kRECORD then recordP L i else if wd L i = kPOINTER then pointerP L i else .error (refuseAt L i)
def typeDeclP : P T := (markedP L 5).bind fun n => (wantP L s_eq).bind fun _ => (typeItselfP L).bind fun e => P.ret (withSub n e)
def parameterP : P T := atP fun i => (hasP L kVAR).bind (fun b => (nameP L).bind fun s => typedP L (.mk 8 s (if b then 1 else 0) (pos L i) []))
def parametersP : P T := fun i => if wd L i = s_lp then (bracketedP L (parameterP L) s_semi).bind (fun l => P.ret (.mk 1 [] 0 (pos L i) l)) i else .ok (.mk 1 [] 0 (pos L i) [], i)
def resultP : P T := atP fun i => (hasP L s_colon).bind (fun b => if b then typeNameP L else P.ret (.mk 0 [] 0 (pos L i) []))
def endingP (s : List UInt8) : P Unit := (wantP L kEND).bind fun _ => wantP L s
def procedureP : P T := atP fun i => (wantP L kPROCEDURE).bind fun _ => (markedP L 7).bind (fun h => (parametersP L).bind fun ps => (resultP L).bind fun r => (wantP L s_semi).bind fun _ => (sectionP L kVAR (localP L)).bind fun vs => (wantP L kBEGIN).bind fun _ => (actsP L 20).bind fun b =>
  match h with | .mk _ s n _ _ => (endingP L s).bind fun _ => P.ret (.mk 7 s n (pos L i) [ps, r, vs, b]))
def procLoop : Nat → List T → P (List T)
  | 0, _ => fun _ => .error (0, 0)
  | f + 1, acc => fun i => if wd L i = kPROCEDURE then (procedureP L).bind (fun t => (wantP L s_semi).bind fun _ => procLoop f (acc ++ [t])) i else .ok (acc, i)
def proceduresP : P T := atP fun i => (procLoop L (L.length + 1) []).bind (fun l => P.ret (.mk 1 [] 0 (pos L i) l))
def importsP : P T := atP fun i => (hasP L kIMPORT).bind (fun b => if b then (severalP L (namedP L 3) s_comma).bind fun l => (wantP L s_semi).bind fun _ => P.ret (.mk 1 [] 0 (pos L i) l) else P.ret (.mk 1 [] 0 (pos L i) []))
def bodyP : P T := atP fun i => (hasP L kBEGIN).bind (fun b => if b then actsP L 20 else P.ret (.mk 1 [] 0 (pos L i) []))
def moduleP : P T := atP fun i => (wantP L kMODULE).bind (fun _ => (nameP L).bind fun s => (wantP L s_semi).bind fun _ => (importsP L).bind fun m1 => (sectionP L kCONST (constantP L)).bind fun m2 => (sectionP L kTYPE (typeDeclP L)).bind fun m3 =>
  (sectionP L kVAR (variableP L)).bind fun m4 => (proceduresP L).bind fun m5 => (bodyP L).bind fun m6 => (endingP L s).bind fun _ => (wantP L s_dot).bind fun _ => P.ret (.mk 2 s 0 (pos L i) [m1, m2, m3, m4, m5, m6]))
def wholeP : P T := (moduleP L).bind fun t i => if wd L i = [] then .ok (t, i) else .error (refuseAt L i)
end
end Go.Proofs.YtbphiiaoncakfaaGreatDoor

/- What a lexicon says of a name; the two faces Kept and Name. -/
namespace Go.Proofs.YtbphiiaoncakfaaGreatDoor
open Go.RowKit Go.Maps Go.WideMaps Go.WideElems

set_option maxRecDepth 1000000 in
set_option maxHeartbeats 1000000 in
theorem lexName_any (b : Nat) (s : ByteArray) (w : World) (hs : s.size ≤ maxLen) (hx : IsLex w b) :
    Calls Tryz.prog 108 #[.agg #[.map (some b)], .string s] w fun e w' => e = .returned (.bool (nameB s.data.toList)) ∧ Below w.heap.size w w' := by
  by_cases h0 : s.size = 0
  · have hemp : s.toList.isEmpty = true := by rw [empty_form]; simp [h0]
    have HN := hide (shape_empty s h0); clear h0 hx
    go_enter Tryz.func108, Tryz.ntmps108
    go_wp2
    go_ret
    exact ⟨by rw [HN.out]; rfl, (Below.refl _ _).alloc (Nat.le_refl _) _⟩
  · have hemp : s.toList.isEmpty = false := by rw [empty_form]; simp [h0]
    by_cases h12 : 12 < s.size
    · have HN := hide (shape_long s h12)
      clear h0 hx
      unfold maxLen at hs
      go_enter Tryz.func108, Tryz.ntmps108
      go_wp2
      go_ret
      exact ⟨by rw [HN.out]; rfl, (Below.refl _ _).alloc (Nat.le_refl _) _⟩
    · have h1 : 1 ≤ s.size := by omega
      have h13 : s.size ≤ 12 := by omega
      have HX := hide hx; clear h0 h12 hx
      go_enter Tryz.func108, Tryz.ntmps108
      go_wp2
      go_loopw [6] (fun _ wr => ∃ k : Nat, wr = (w.alloc (.cells #[.map (some b)] 53)).iter s k ∧ k ≤ s.size ∧ Hid (0 < k → ∀ h : 0 < s.size, isLetter (s[0]'h).toNat = true) ∧ Hid (∀ (j : Nat) (h : j < s.size), j < k → lod (s[j]'h).toNat = true)) (fun _ wr => s.size - wr.iterPos (w.alloc (.cells #[.map (some b)] 53)).heap.size)
      case atStart => exact ⟨0, rfl, Nat.zero_le _, fun h => by omega, fun j h hj => by omega⟩
      case round =>
        obtain ⟨k, rfl, hk, HL, HB⟩ := hrel
        have hsz : (w.alloc (.cells #[.map (some b)] 53)).heap.size = w.heap.size + 1 := by simp
        by_cases hlt : k < s.size
        · have hnx : ∀ ty, (Instr.next (.pointer (some ⟨(w.alloc (.cells #[.map (some b)] 53)).heap.size, 0, none⟩)) true ty).run Tryz.prog ((w.alloc (.cells #[.map (some b)] 53)).iter s k) = _ := fun ty => run_next_any (w.alloc (.cells #[.map (some b)] 53)) s k ty hlt
          rw [hsz] at hnx
          have hlast : ∀ w', Below w.heap.size w ((w.alloc (.cells #[.map (some b)] 53)).iter s w') := fun w' => ((Below.refl _ _).alloc (Nat.le_refl _) _).alloc (by simp) _
          have HLa := hide hlast; clear hlast hsz
          have hdec : isLetter (Utf8.decode s k).1 = isLetter (s[k]'hlt).toNat ∧ isDigit (Utf8.decode s k).1 = isDigit (s[k]'hlt).toNat := by
            by_cases ha : (s[k]'hlt).toNat < 128
            · rw [decode_ascii s k hlt ha]; exact ⟨rfl, rfl⟩
            · have hd := (decode_high s k hlt (by omega)).1
              have f1 : ∀ n : Int, 128 ≤ n → isLetter n = false := fun n hn => by simp [isLetter]; omega
              exact ⟨by rw [f1 _ (by omega), f1 _ (by omega)], by rw [digit_high (by omega), digit_high (by omega)]⟩
          cases hl : isLetter (s[k]'hlt).toNat
          · have hl' := hdec.1.trans hl
            by_cases hk0 : k = 0
            · subst hk0
              have HN := hide (shape_not_letter s hlt hl); clear hl hdec
              go_wp2_with (go_at_call 76; refine (letter_any _ _).mono ?_; rintro e w' ⟨rfl, rfl⟩; simp only [hl'])
              go_ret
              exact ⟨by rw [HN.out]; rfl, HLa.out _⟩
            · have hz : ((k : Int) == 0) = false := by simp; omega
              cases hd : isDigit (s[k]'hlt).toNat
              · have hd' := hdec.2.trans hd
                have HN := hide (shape_not_lod s k hlt (by simp [lod, hl, hd])); clear hl hd hdec
                go_wp2_with (first | (go_at_call 76; refine (letter_any _ _).mono ?_; rintro e w' ⟨rfl, rfl⟩; simp only [hl']) | (go_at_call 80; refine (digit_any _ _).mono ?_; rintro e w' ⟨rfl, rfl⟩; simp only [hd']))
                go_ret
                exact ⟨by rw [HN.out]; rfl, HLa.out _⟩
              · have hd' := hdec.2.trans hd
                have HN : Hid (lod (s[k]'hlt).toNat = true) := by unfold lod; rw [hl, hd]; rfl
                have ha : (s[k]'hlt).toNat < 128 := by
                  rcases Nat.lt_or_ge (s[k]'hlt).toNat 128 with h | h
                  · exact h
                  · rw [digit_high (by omega)] at hd; cases hd
                rw [decode_ascii s k hlt ha] at hnx hl' hd'; clear hl hd hdec
                go_wp2_with (first | (go_at_call 76; refine (letter_any _ _).mono ?_; rintro e w' ⟨rfl, rfl⟩; simp only [hl']) | (go_at_call 80; refine (digit_any _ _).mono ?_; rintro e w' ⟨rfl, rfl⟩; simp only [hd']))
                go_roundw
                case rel => exact ⟨k + 1, rfl, by omega, fun _ h => HL.out (by omega) h, fun j h hj => by
                  rcases Nat.lt_or_ge j k with h1 | h1
                  · exact HB.out j h h1
                  · obtain rfl : j = k := by omega
                    exact HN.out⟩
                case measure => simp only [World.iterPos_iter]; omega
          · have hl' := hdec.1.trans hl
            have HN : Hid (lod (s[k]'hlt).toNat = true) := by unfold lod; rw [hl]; rfl
            have HL2 : Hid (isLetter (s[k]'hlt).toNat = true) := hl
            have ha : (s[k]'hlt).toNat < 128 := by
              rcases Nat.lt_or_ge (s[k]'hlt).toNat 128 with h | h
              · exact h
              · have : isLetter (s[k]'hlt).toNat = false := by simp [isLetter]; omega
                rw [this] at hl; cases hl
            rw [decode_ascii s k hlt ha] at hnx hl'; clear hl hdec
            go_wp2_with (go_at_call 76; refine (letter_any _ _).mono ?_; rintro e w' ⟨rfl, rfl⟩; simp only [hl'])
            go_roundw
            case rel => exact ⟨k + 1, rfl, by omega, fun _ h => by
              rcases Nat.eq_zero_or_pos k with h0 | h0
              · subst h0; exact HL2.out
              · exact HL.out h0 h, fun j h hj => by
              rcases Nat.lt_or_ge j k with h1 | h1
              · exact HB.out j h h1
              · obtain rfl : j = k := by omega
                exact HN.out⟩
            case measure => simp only [World.iterPos_iter]; omega
        · have hnx : ∀ ty, (Instr.next (.pointer (some ⟨(w.alloc (.cells #[.map (some b)] 53)).heap.size, 0, none⟩)) true ty).run Tryz.prog ((w.alloc (.cells #[.map (some b)] 53)).iter s k) = _ := fun ty => run_next_end (w.alloc (.cells #[.map (some b)] 53)) s k ty hlt
          rw [hsz] at hnx; have HN := hide (shape_yes s (by omega) h13 (HL.out (by omega) (by omega)) (fun j h => HB.out j h (by omega))); have hb : Below w.heap.size w ((w.alloc (.cells #[.map (some b)] 53)).iter s k) := ((Below.refl _ _).alloc (Nat.le_refl _) _).alloc (by simp) _
          have c0 : ((w.alloc (.cells #[.map (some b)] 53)).iter s k).cell? ⟨w.heap.size, 0, none⟩ = some (.map (some b)) := by
            show (World.alloc _ _).cell? _ = _
            rw [World.cell?_alloc_lt _ _ _ (by simp)]; simp
          have HX2 : Hid (IsLex ((w.alloc (.cells #[.map (some b)] 53)).iter s k) b) := HX.out.below hb; have HBB := hide hb; clear hb hsz HX HL HB
          go_wp2_with (go_at_call 121; refine (lexKept_any b s _ hs HX2.out).mono ?_; rintro e w1 ⟨rfl, hb1⟩)
          go_ret
          exact ⟨by rw [HN.out]; rfl, HBB.out.trans (hb1.mono HBB.out.size)⟩

end Go.Proofs.YtbphiiaoncakfaaGreatDoor
