/- The value of digits, and the sign that a text begins with. -/
import Derived.Test.YtiphmnffjdgdmaaDoorLeaf2
namespace Go.Proofs.YtiphmnffjdgdmaaDoor
open Go.RowKit

theorem drop_at (s : ByteArray) (k : Nat) (h : k < s.size) : s.data.toList.drop k = s[k] :: s.data.toList.drop (k + 1) := by
  rw [List.drop_eq_getElem_cons (by rw [← bs_size]; exact h)]; rfl

theorem valueFrom_too {v : Int} {c : UInt8} {l : List UInt8} (h : (2147483647 - ((c.toNat : Int) - 48)) / 10 < v) : valueFrom v (c :: l) = none := by
  rw [valueFrom, if_pos h]
theorem valueFrom_on {v : Int} {c : UInt8} {l : List UInt8} (h : ¬ (2147483647 - ((c.toNat : Int) - 48)) / 10 < v) : valueFrom v (c :: l) = valueFrom (v * 10 + ((c.toNat : Int) - 48)) l := by
  rw [valueFrom, if_neg h]

theorem ret2_int {a b : Int} {x : Value} (h : a = b) : Ending.returned (.tuple #[.int .i64 a, x]) = .returned (.tuple #[.int .i64 b, x]) := by rw [h]

/-- What Value answers. -/
def valueAns : Option Int → Ending
  | none => .returned (.tuple #[.int .i64 0, .bool false])
  | some v => .returned (.tuple #[.int .i64 v, .bool true])

set_option maxRecDepth 1000000 in
set_option maxHeartbeats 1000000 in
theorem value_any (s : ByteArray) (w : World) (_hs : s.size ≤ maxLen) (hne : s.data.toList.isEmpty = false)
    (hd : ∀ (j : Nat) (h : j < s.size), isDigit (s[j]'h).toNat = true) :
    Calls Tryd.prog 48 #[.string s] w fun e w' => e = valueAns (valueFrom 0 s.data.toList) ∧ w.grownBy w' none := by
  unfold maxLen at _hs
  have HD := hide hd
  have HE := hide hne
  have hemp : (s.toList == []) = false := by rw [bs_toList]; cases h : s.data.toList with | nil => rw [h] at hne; cases hne | cons a l => rfl
  clear hd hne
  go_enter Tryd.func48, Tryd.ntmps48
  go_wp2
  go_loopw [2] (fun v wr => ∃ (k : Nat) (n : Int), wr = w.iter s k ∧ k ≤ s.size ∧ v = .int .i64 n ∧ 0 ≤ n ∧ n ≤ 2147483647 ∧ Hid (valueFrom n (s.data.toList.drop k) = valueFrom 0 s.data.toList)) (fun _ wr => s.size - wr.iterPos w.heap.size)
  case atStart => exact ⟨0, 0, rfl, Nat.zero_le _, rfl, by omega, by omega, rfl⟩
  case round =>
    obtain ⟨k, n, rfl, hk, rfl, h0, h1, HB⟩ := hrel
    by_cases hlt : k < s.size
    · have hdk := unhide HD k hlt
      have hb1 : 48 ≤ ((s[k]'hlt).toNat : Int) := by simp [isDigit] at hdk; omega
      have hb2 : ((s[k]'hlt).toNat : Int) ≤ 57 := by simp [isDigit] at hdk; omega
      have hnx : ∀ ty, (Instr.next (.pointer (some ⟨w.heap.size, 0, none⟩)) true ty).run Tryd.prog (w.iter s k) = _ := fun ty => run_next_ascii w s k ty hlt (by omega)
      have HX := HB.out
      rw [drop_at s k hlt] at HX
      by_cases hv : (2147483647 - (((s[k]'hlt).toNat : Int) - 48)) / 10 < n
      · rw [valueFrom_too hv] at HX
        have H2 := hide HX
        clear HX HB HD HE
        go_wp2_with (go_at_call 37; refine (digit_any _ _).mono ?_; rintro e w' ⟨rfl, rfl⟩; simp only [hdk])
        go_ret2
        exact ⟨by rw [← H2.out]; rfl, grownBy_iter w s _⟩
      · rw [valueFrom_on hv] at HX
        have H2 := hide HX
        clear HX HB
        go_wp2_with (go_at_call 37; refine (digit_any _ _).mono ?_; rintro e w' ⟨rfl, rfl⟩; simp only [hdk])
        go_roundw
        case rel => exact ⟨k + 1, n * 10 + (((s[k]'hlt).toNat : Int) - 48), rfl, by omega, rfl, by omega, by omega, H2⟩
        case measure => simp; omega
    · have hnx : ∀ ty, (Instr.next (.pointer (some ⟨w.heap.size, 0, none⟩)) true ty).run Tryd.prog (w.iter s k) = _ := fun ty => run_next_end w s k ty hlt
      have HX := HB.out
      rw [List.drop_eq_nil_of_le (by rw [← bs_size]; omega)] at HX
      have H2 := hide HX
      clear HX HB HD HE
      go_wp2
      go_ret2
      exact ⟨by rw [← H2.out]; rfl, grownBy_iter w s _⟩

theorem starts_is (s : ByteArray) (a b : UInt8) : ((s.extract 0 2).toList == [a, b]) = starts s.data.toList a b := by
  rw [bs_toList, bs_take]; rfl

theorem indexByte_ge (l : List UInt8) (c : UInt8) : -1 ≤ Lib.indexByte l c := by
  induction l with
  | nil => simp [Lib.indexByte]
  | cons a l ih =>
    rw [Lib.indexByte]
    split
    · omega
    · split
      · omega
      · omega

theorem indexByte_pos (l : List UInt8) (c : UInt8) : (0 ≤ Lib.indexByte l c) ↔ l.contains c = true := by
  induction l with
  | nil => simp [Lib.indexByte]
  | cons a l ih =>
    have hg := indexByte_ge l c
    rw [Lib.indexByte, List.contains_cons]
    by_cases h : a = c
    · subst h; simp
    · have h1 : (a == c) = false := by simpa using h
      have h2 : (c == a) = false := by simpa using fun e => h e.symm
      rw [h1, h2]
      simp only [Bool.false_eq_true, if_false, Bool.false_or]
      rw [← ih]
      by_cases hi : Lib.indexByte l c = -1
      · simp [hi]
      · have : (Lib.indexByte l c == -1) = false := by simpa using hi
        rw [this]
        simp only [Bool.false_eq_true, if_false]
        omega

theorem signs_data : (⟨#[61, 35, 60, 62, 43, 45, 42, 38, 126, 40, 41, 91, 93, 123, 125, 44, 59, 58, 46, 94]⟩ : ByteArray).data.toList = signs := rfl

theorem take_head (s : ByteArray) (h : 0 < s.size) : s.data.toList.headD 0 = s[0] ∧ s.data.toList.take 1 = [s[0]] := by
  have := drop_at s 0 h
  simp only [List.drop_zero] at this
  rw [this]; simp

theorem starts_short {l : List UInt8} {a b : UInt8} (h : l.length < 2) : starts l a b = false := by
  unfold starts
  rw [beq_eq_false_iff_ne]
  intro e
  have := congrArg List.length e
  simp only [List.length_take, List.length_cons, List.length_nil] at this
  omega

set_option maxHeartbeats 1000000 in
theorem sign_any (s : ByteArray) (w : World) (hs : s.size ≤ maxLen) (h0 : 0 < s.size) :
    Calls Tryd.prog 49 #[.string s] w fun e w' => ∃ x : ByteArray, e = .returned (.string x) ∧ x.data.toList = signOf s.data.toList ∧ w' = w := by
  unfold maxLen at hs
  obtain ⟨hh, ht⟩ := take_head s h0
  have key : (starts s.data.toList 58 61 || starts s.data.toList 60 61 || starts s.data.toList 62 61) = false → (signOf s.data.toList = if signs.contains s[0] then [s[0]] else []) := by
    intro h
    unfold signOf
    rw [h, hh, ht]
    simp
  have hone : (s.extract 0 1).data.toList = [s[0]] := by rw [bs_take, ht]
  by_cases h2 : 1 < s.size
  · cases e1 : starts s.data.toList 58 61
    · cases e2 : starts s.data.toList 60 61
      · cases e3 : starts s.data.toList 62 61
        · have key2 := key (by simp [e1, e2, e3])
          rw [← starts_is] at e1 e2 e3
          cases hc : signs.contains s[0]
          · have key2 : signOf s.data.toList = [] := by rw [key2, hc]; rfl
            have hn : ¬ (0 : Int) ≤ Lib.indexByte signs s[0] := by rw [indexByte_pos, hc]; simp
            have K := hide key2
            clear key key2 hh ht hone hc
            go_enter Tryd.func49, Tryd.ntmps49
            go_wp2_with (go_at_call 53; refine (ib_any _ _ _).mono ?_; rintro e w' ⟨rfl, rfl⟩; rw [signs_data])
            go_ret
            exact ⟨_, rfl, by rw [K.out], rfl⟩
          · have key2 : signOf s.data.toList = [s[0]] := by rw [key2, hc]; rfl
            have hn : (0 : Int) ≤ Lib.indexByte signs s[0] := by rw [indexByte_pos, hc]
            have K := hide key2
            have K1 := hide hone
            clear key key2 hh ht hone hc
            go_enter Tryd.func49, Tryd.ntmps49
            go_wp2_with (go_at_call 53; refine (ib_any _ _ _).mono ?_; rintro e w' ⟨rfl, rfl⟩; rw [signs_data])
            go_ret
            exact ⟨_, rfl, by rw [K.out]; exact K1.out, rfl⟩
        · have K : Hid (signOf s.data.toList = s.data.toList.take 2) := by unfold signOf; rw [if_pos (by simp [e1, e2, e3])]; rfl
          rw [← starts_is] at e1 e2 e3
          clear key hh ht hone
          go_enter Tryd.func49, Tryd.ntmps49
          go_wp2
          go_ret
          exact ⟨_, rfl, by rw [K.out]; exact bs_take _ _, rfl⟩
      · have K : Hid (signOf s.data.toList = s.data.toList.take 2) := by unfold signOf; rw [if_pos (by simp [e1, e2])]; rfl
        rw [← starts_is] at e1 e2
        clear key hh ht hone
        go_enter Tryd.func49, Tryd.ntmps49
        go_wp2
        go_ret
        exact ⟨_, rfl, by rw [K.out]; exact bs_take _ _, rfl⟩
    · have K : Hid (signOf s.data.toList = s.data.toList.take 2) := by unfold signOf; rw [if_pos (by simp [e1])]; rfl
      rw [← starts_is] at e1
      clear key hh ht hone
      go_enter Tryd.func49, Tryd.ntmps49
      go_wp2
      go_ret
      exact ⟨_, rfl, by rw [K.out]; exact bs_take _ _, rfl⟩
  · have hl : s.data.toList.length < 2 := by rw [← bs_size]; omega
    have key2 := key (by simp [starts_short hl])
    cases hc : signs.contains s[0]
    · have key2 : signOf s.data.toList = [] := by rw [key2, hc]; rfl
      have hn : ¬ (0 : Int) ≤ Lib.indexByte signs s[0] := by rw [indexByte_pos, hc]; simp
      have K := hide key2
      clear key key2 hh ht hone hc hl
      go_enter Tryd.func49, Tryd.ntmps49
      go_wp2_with (go_at_call 53; refine (ib_any _ _ _).mono ?_; rintro e w' ⟨rfl, rfl⟩; rw [signs_data])
      go_ret
      exact ⟨_, rfl, by rw [K.out], rfl⟩
    · have key2 : signOf s.data.toList = [s[0]] := by rw [key2, hc]; rfl
      have hn : (0 : Int) ≤ Lib.indexByte signs s[0] := by rw [indexByte_pos, hc]
      have K := hide key2
      have K1 := hide hone
      clear key key2 hh ht hone hc hl
      go_enter Tryd.func49, Tryd.ntmps49
      go_wp2_with (go_at_call 53; refine (ib_any _ _ _).mono ?_; rintro e w' ⟨rfl, rfl⟩; rw [signs_data])
      go_ret
      exact ⟨_, rfl, by rw [K.out]; exact K1.out, rfl⟩

end Go.Proofs.YtiphmnffjdgdmaaDoor
