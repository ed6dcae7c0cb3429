/- The scanner's small functions: which runes are letters, digits, blanks; a text's beginning; a byte's place: each call answers just what the plain function says and leaves the world as it was. -/
import Derived.Test.YtiphmnffjdgdmaaDoorRows
import Derived.Test.YtiphmnffjdgdmaaDoorSpec
import Derived.WalkKit
import Derived.WalkSpells
import Derived.WalkLawsBesides
import Derived.BigQuiet
import Derived.Deep.QuietTactic
import Derived.Lib.Strings
import Derived.Lib.IndexBytes
namespace Go.Proofs.YtiphmnffjdgdmaaDoor
open Go.RowKit

set_option maxHeartbeats 400000 in
theorem letter_any (r : Int) (w : World) :
    Calls Tryd.prog 36 #[.int .i32 r] w fun e w' => e = .returned (.bool (isLetter r)) ∧ w' = w := by
  by_cases h1 : 97 ≤ r
  · by_cases h2 : r ≤ 122
    · have hl : isLetter r = true := by simp [isLetter]; omega
      rw [hl]
      go_enter Tryd.func36, Tryd.ntmps36
      go_wp2
      go_ret
      first | exact ⟨rfl, rfl⟩ | (refine ⟨?_, rfl⟩; simp; omega)
    · have hl : isLetter r = false := by simp [isLetter]; omega
      rw [hl]
      go_enter Tryd.func36, Tryd.ntmps36
      go_wp2
      go_ret
      first | exact ⟨rfl, rfl⟩ | (refine ⟨?_, rfl⟩; simp; omega)
  · by_cases h3 : 65 ≤ r
    · by_cases h4 : r ≤ 90
      · have hl : isLetter r = true := by simp [isLetter]; omega
        rw [hl]
        go_enter Tryd.func36, Tryd.ntmps36
        go_wp2
        go_ret
        first | exact ⟨rfl, rfl⟩ | (refine ⟨?_, rfl⟩; simp; omega)
      · have hl : isLetter r = false := by simp [isLetter]; omega
        rw [hl]
        go_enter Tryd.func36, Tryd.ntmps36
        go_wp2
        go_ret
        first | exact ⟨rfl, rfl⟩ | (refine ⟨?_, rfl⟩; simp; omega)
    · have hl : isLetter r = false := by simp [isLetter]; omega
      rw [hl]
      go_enter Tryd.func36, Tryd.ntmps36
      go_wp2
      go_ret
      first | exact ⟨rfl, rfl⟩ | (refine ⟨?_, rfl⟩; simp; omega)

set_option maxHeartbeats 400000 in
theorem digit_any (r : Int) (w : World) :
    Calls Tryd.prog 37 #[.int .i32 r] w fun e w' => e = .returned (.bool (isDigit r)) ∧ w' = w := by
  by_cases h1 : 48 ≤ r
  · by_cases h2 : r ≤ 57
    · have hl : isDigit r = true := by simp [isDigit]; omega
      rw [hl]
      go_enter Tryd.func37, Tryd.ntmps37
      go_wp2
      go_ret
      first | exact ⟨rfl, rfl⟩ | (refine ⟨?_, rfl⟩; simp; omega)
    · have hl : isDigit r = false := by simp [isDigit]; omega
      rw [hl]
      go_enter Tryd.func37, Tryd.ntmps37
      go_wp2
      go_ret
      first | exact ⟨rfl, rfl⟩ | (refine ⟨?_, rfl⟩; simp; omega)
  · have hl : isDigit r = false := by simp [isDigit]; omega
    rw [hl]
    go_enter Tryd.func37, Tryd.ntmps37
    go_wp2
    go_ret
    first | exact ⟨rfl, rfl⟩ | (refine ⟨?_, rfl⟩; simp; omega)

set_option maxHeartbeats 400000 in
theorem lod_any (r : Int) (w : World) :
    Calls Tryd.prog 46 #[.int .i32 r] w fun e w' => e = .returned (.bool (lod r)) ∧ w' = w := by
  show Calls Tryd.prog 46 #[.int .i32 r] w fun e w' => e = .returned (.bool (isLetter r || isDigit r)) ∧ w' = w
  cases hl : isLetter r
  · go_enter Tryd.func46, Tryd.ntmps46
    go_wp2_with (first | (go_at_call 36; refine (letter_any _ _).mono ?_; rintro e w' ⟨rfl, rfl⟩; simp only [hl]) | (go_at_call 37; refine (digit_any _ _).mono ?_; rintro e w' ⟨rfl, rfl⟩))
    go_ret
    exact ⟨by simp, rfl⟩
  · go_enter Tryd.func46, Tryd.ntmps46
    go_wp2_with (first | (go_at_call 36; refine (letter_any _ _).mono ?_; rintro e w' ⟨rfl, rfl⟩; simp only [hl]) | (go_at_call 37; refine (digit_any _ _).mono ?_; rintro e w' ⟨rfl, rfl⟩))
    go_ret
    exact ⟨by simp, rfl⟩

set_option maxHeartbeats 400000 in
theorem blank_any (r : Int) (w : World) :
    Calls Tryd.prog 41 #[.int .u8 r] w fun e w' => e = .returned (.bool (isBlank r)) ∧ w' = w := by
  by_cases h1 : r = 32
  · subst h1
    go_enter Tryd.func41, Tryd.ntmps41
    go_wp2
    go_ret
    exact ⟨rfl, rfl⟩
  · have e1 : (r == 32) = false := by simp [h1]
    by_cases h2 : r = 9
    · subst h2
      go_enter Tryd.func41, Tryd.ntmps41
      go_wp2
      go_ret
      exact ⟨rfl, rfl⟩
    · have e2 : (r == 9) = false := by simp [h2]
      by_cases h3 : r = 13
      · subst h3
        go_enter Tryd.func41, Tryd.ntmps41
        go_wp2
        go_ret
        exact ⟨rfl, rfl⟩
      · have e3 : (r == 13) = false := by simp [h3]
        have hb : isBlank r = (r == 10) := by simp [isBlank, h1, h2, h3]; rfl
        rw [hb]
        clear hb h1 h2 h3
        go_enter Tryd.func41, Tryd.ntmps41
        go_wp2
        go_ret
        exact ⟨rfl, rfl⟩

theorem bs_toList (s : ByteArray) : s.toList = s.data.toList := Lib.toList_data s
theorem bs_drop (s : ByteArray) (k : Nat) : (s.extract k s.size).data.toList = s.data.toList.drop k := Lib.extract_to_end s k
theorem bs_take (s : ByteArray) (k : Nat) : (s.extract 0 k).data.toList = s.data.toList.take k := by rw [Lib.extract_data]; simp
theorem bs_size (s : ByteArray) : s.size = s.data.toList.length := Lib.size_eq s

set_option maxHeartbeats 400000 in
theorem hp_any (s : ByteArray) (a b : UInt8) (w : World) (hs : s.size ≤ maxLen) :
    Calls Tryd.prog 42 #[.string s, .string ⟨#[a, b]⟩] w fun e w' => e = .returned (.bool (starts s.data.toList a b)) ∧ w' = w := by
  unfold maxLen at hs
  by_cases h2 : 2 ≤ s.size
  · go_enter Tryd.func42, Tryd.ntmps42
    go_wp2
    go_ret
    exact ⟨by simp [starts, bs_toList], rfl⟩
  · have hf : starts s.data.toList a b = false := by
      unfold starts
      rw [beq_eq_false_iff_ne]
      intro h
      have := congrArg List.length h
      rw [bs_size] at h2
      simp only [List.length_take, List.length_cons, List.length_nil] at this
      omega
    rw [hf]
    have h3 : s.size < 2 := by omega
    clear h2 hf
    go_enter Tryd.func42, Tryd.ntmps42
    go_wp2
    go_ret
    exact ⟨rfl, rfl⟩

set_option maxHeartbeats 400000 in
theorem rest_any (b : Nat) (s : ByteArray) (k : Nat) (w : World) (_hs : s.size ≤ maxLen) (hk : k ≤ s.size)
    (c0 : w.cell? ⟨b, 0, none⟩ = some (.string s)) (c1 : w.cell? ⟨b, 1, none⟩ = some (.int .i64 k)) :
    Calls Tryd.prog 43 #[.pointer (some ⟨b, 0, none⟩)] w fun e w' => e = .returned (.string (s.extract k s.size)) ∧ ∃ n, w' = w.drewN n := by
  unfold maxLen at _hs
  go_enter Tryd.func43, Tryd.ntmps43
  go_wp2
  go_quiet (fail)
  go_wp2
  go_ret
  exact ⟨rfl, _, rfl⟩

end Go.Proofs.YtiphmnffjdgdmaaDoor
