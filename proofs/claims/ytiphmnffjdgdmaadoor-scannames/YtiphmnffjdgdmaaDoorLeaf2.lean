/- The scanner's middle functions: a sign's text, a lead of runes, the value of digits, a fault that is thrown. -/
import Derived.Test.YtiphmnffjdgdmaaDoorLeaf
import Derived.Lib.Bytealg
import Derived.Laws.RangeString
import Derived.Laws.RangeAny
namespace Go.Proofs.YtiphmnffjdgdmaaDoor
open Go.RowKit

theorem hide {p : Prop} (h : p) : Hid p := h
theorem unhide {p : Prop} (h : Hid p) : p := h

theorem grownBy_iter (w : World) (s : ByteArray) (k : Nat) : w.grownBy (w.iter s k) none := World.grownBy_alloc w _ none

theorem lod_high {n : Int} (h : 128 ≤ n) : lod n = false := by simp [lod, isLetter, isDigit]; omega
theorem digit_high {n : Int} (h : 128 ≤ n) : isDigit n = false := by simp [isDigit]; omega

theorem takeWhile_stop (p : UInt8 → Bool) : ∀ (l : List UInt8) (k : Nat), k ≤ l.length → (∀ j (h : j < l.length), j < k → p l[j] = true) → (∀ h : k < l.length, p l[k] = false) → l.takeWhile p = l.take k
  | [], k, _, _, _ => by simp
  | a :: l, 0, _, _, h2 => by
    have := h2 (by simp)
    simp only [List.getElem_cons_zero] at this
    simp [List.takeWhile, this]
  | a :: l, k + 1, hk, h1, h2 => by
    have ha := h1 0 (by simp) (by omega)
    simp only [List.getElem_cons_zero] at ha
    simp only [List.takeWhile, ha, List.take_succ_cons]
    rw [takeWhile_stop p l k (by simpa using hk) (fun j h hj => h1 (j + 1) (by simpa using h) (by omega)) (fun h => h2 (by simpa using h))]

theorem leadOf_stop {p : Int → Bool} (s : ByteArray) (k : Nat) (hk : k ≤ s.size) (h1 : ∀ (j : Nat) (h : j < s.size), j < k → p (s[j]'h).toNat = true) (h2 : ∀ h : k < s.size, p (s[k]'h).toNat = false) : leadOf p s.data.toList = s.data.toList.take k := by
  refine takeWhile_stop _ _ _ (by rw [← bs_size]; exact hk) (fun j h hj => ?_) (fun h => ?_)
  · exact h1 j (by rw [bs_size]; exact h) hj
  · exact h2 (by rw [bs_size]; exact h)

theorem leadOf_whole {p : Int → Bool} (s : ByteArray) (k : Nat) (hk : k ≤ s.size) (h1 : ∀ (j : Nat) (h : j < s.size), j < k → p (s[j]'h).toNat = true) (h2 : ¬ k < s.size) : leadOf p s.data.toList = s.data.toList := by
  rw [leadOf_stop s k hk h1 (fun h => absurd h h2), List.take_of_length_le]
  rw [← bs_size]; omega

set_option maxHeartbeats 400000 in
theorem ib_any (s : ByteArray) (c : UInt8) (w : World) :
    Calls Tryd.prog 53 #[.string s, .int .u8 c.toNat] w fun e w' => e = .returned (.int .i64 (Lib.indexByte s.data.toList c)) ∧ w' = w := by
  have hx := @run_callFunc_extern Tryd.prog 58 _ _ Tryd.func58 (by kernel_rfl) (by kernel_rfl) (by kernel_rfl) rfl
  have hy := fun w => Lib.run_indexByteString (P := Tryd.prog) s c.toNat w
  simp only [Int.toNat_natCast, Nat.toUInt8_eq, UInt8.ofNat_toNat] at hy
  go_enter Tryd.func53, Tryd.ntmps53
  go_wp2
  go_ret
  exact ⟨rfl, rfl⟩

set_option maxHeartbeats 400000 in
theorem throw_any (p : Value) (k n : Int) (w : World) :
    Calls Tryd.prog 47 #[p, .int .i64 k, .int .i64 n] w fun e w' => e = .panicked [{ v := .iface 25 (.pointer (some ⟨w.heap.size, 0, none⟩)), recovered := false }] ∧ w' = w.alloc (.cells #[.int .i64 0, .int .i64 k, .iface 22 (.int .i64 n)] 29) := by
  go_enter Tryd.func47, Tryd.ntmps47
  go_wp2
  exact ⟨rfl, rfl, rfl⟩

set_option maxRecDepth 1000000 in
set_option maxHeartbeats 1000000 in
theorem lead_lod (s : ByteArray) (w : World) (_hs : s.size ≤ maxLen) :
    Calls Tryd.prog 45 #[.string s, .func (.func 46) #[] #[]] w fun e w' => ∃ x : ByteArray, e = .returned (.string x) ∧ x.data.toList = leadOf lod s.data.toList ∧ w.grownBy w' none := by
  unfold maxLen at _hs
  go_enter Tryd.func45, Tryd.ntmps45
  go_wp2
  go_loopw [6] (fun _ wr => ∃ k : Nat, wr = w.iter s k ∧ k ≤ s.size ∧ ∀ (j : Nat) (h : j < s.size), j < k → lod (s[j]'h).toNat = true) (fun _ wr => s.size - wr.iterPos w.heap.size)
  case atStart => exact ⟨0, rfl, Nat.zero_le _, fun j h hj => by omega⟩
  case round =>
    obtain ⟨k, rfl, hk, HB⟩ := hrel
    have HB' := hide HB
    clear HB
    by_cases hlt : k < s.size
    · have hnx : ∀ ty, (Instr.next (.pointer (some ⟨w.heap.size, 0, none⟩)) true ty).run Tryd.prog (w.iter s k) = _ := fun ty => run_next_any w s k ty hlt
      cases hp : lod (s[k]'hlt).toNat
      · have hno : lod (Utf8.decode s k).1 = false := by
          by_cases ha : (s[k]'hlt).toNat < 128
          · rw [decode_ascii s k hlt ha]; exact hp
          · exact lod_high (by have := (decode_high s k hlt (by omega)).1; omega)
        have Hp := hide hp
        clear hp
        go_wp2_with (go_at_call 46; refine (lod_any _ _).mono ?_; rintro e w' ⟨rfl, rfl⟩; simp only [hno])
        go_ret
        exact ⟨_, rfl, by rw [bs_take]; exact (leadOf_stop s k hk (unhide HB') (fun h => unhide Hp)).symm, grownBy_iter w s _⟩
      · have ha : (s[k]'hlt).toNat < 128 := by
          rcases Nat.lt_or_ge (s[k]'hlt).toNat 128 with h | h
          · exact h
          · rw [lod_high (by omega)] at hp; cases hp
        rw [decode_ascii s k hlt ha] at hnx
        have hyes : lod ((s[k]'hlt).toNat : Nat) = true := hp
        have Hp := hide hp
        clear hp
        go_wp2_with (go_at_call 46; refine (lod_any _ _).mono ?_; rintro e w' ⟨rfl, rfl⟩; simp only [hyes])
        go_roundw
        case rel => exact ⟨k + 1, rfl, by omega, fun j h hj => by
          rcases Nat.lt_or_ge j k with h1 | h1
          · exact unhide HB' j h h1
          · obtain rfl : j = k := by omega
            exact unhide Hp⟩
        case measure => simp; omega
    · have hnx : ∀ ty, (Instr.next (.pointer (some ⟨w.heap.size, 0, none⟩)) true ty).run Tryd.prog (w.iter s k) = _ := fun ty => run_next_end w s k ty hlt
      go_wp2
      go_ret
      exact ⟨_, rfl, (leadOf_whole s k hk (unhide HB') hlt).symm, grownBy_iter w s _⟩

set_option maxRecDepth 1000000 in
set_option maxHeartbeats 1000000 in
theorem lead_digit (s : ByteArray) (w : World) (_hs : s.size ≤ maxLen) :
    Calls Tryd.prog 45 #[.string s, .func (.func 37) #[] #[]] w fun e w' => ∃ x : ByteArray, e = .returned (.string x) ∧ x.data.toList = leadOf isDigit s.data.toList ∧ w.grownBy w' none := by
  unfold maxLen at _hs
  go_enter Tryd.func45, Tryd.ntmps45
  go_wp2
  go_loopw [6] (fun _ wr => ∃ k : Nat, wr = w.iter s k ∧ k ≤ s.size ∧ ∀ (j : Nat) (h : j < s.size), j < k → isDigit (s[j]'h).toNat = true) (fun _ wr => s.size - wr.iterPos w.heap.size)
  case atStart => exact ⟨0, rfl, Nat.zero_le _, fun j h hj => by omega⟩
  case round =>
    obtain ⟨k, rfl, hk, HB⟩ := hrel
    have HB' := hide HB
    clear HB
    by_cases hlt : k < s.size
    · have hnx : ∀ ty, (Instr.next (.pointer (some ⟨w.heap.size, 0, none⟩)) true ty).run Tryd.prog (w.iter s k) = _ := fun ty => run_next_any w s k ty hlt
      cases hp : isDigit (s[k]'hlt).toNat
      · have hno : isDigit (Utf8.decode s k).1 = false := by
          by_cases ha : (s[k]'hlt).toNat < 128
          · rw [decode_ascii s k hlt ha]; exact hp
          · exact digit_high (by have := (decode_high s k hlt (by omega)).1; omega)
        have Hp := hide hp
        clear hp
        go_wp2_with (go_at_call 37; refine (digit_any _ _).mono ?_; rintro e w' ⟨rfl, rfl⟩; simp only [hno])
        go_ret
        exact ⟨_, rfl, by rw [bs_take]; exact (leadOf_stop s k hk (unhide HB') (fun h => unhide Hp)).symm, grownBy_iter w s _⟩
      · have ha : (s[k]'hlt).toNat < 128 := by
          rcases Nat.lt_or_ge (s[k]'hlt).toNat 128 with h | h
          · exact h
          · rw [digit_high (by omega)] at hp; cases hp
        rw [decode_ascii s k hlt ha] at hnx
        have hyes : isDigit ((s[k]'hlt).toNat : Nat) = true := hp
        have Hp := hide hp
        clear hp
        go_wp2_with (go_at_call 37; refine (digit_any _ _).mono ?_; rintro e w' ⟨rfl, rfl⟩; simp only [hyes])
        go_roundw
        case rel => exact ⟨k + 1, rfl, by omega, fun j h hj => by
          rcases Nat.lt_or_ge j k with h1 | h1
          · exact unhide HB' j h h1
          · obtain rfl : j = k := by omega
            exact unhide Hp⟩
        case measure => simp; omega
    · have hnx : ∀ ty, (Instr.next (.pointer (some ⟨w.heap.size, 0, none⟩)) true ty).run Tryd.prog (w.iter s k) = _ := fun ty => run_next_end w s k ty hlt
      go_wp2
      go_ret
      exact ⟨_, rfl, (leadOf_whole s k hk (unhide HB') hlt).symm, grownBy_iter w s _⟩

end Go.Proofs.YtiphmnffjdgdmaaDoor
