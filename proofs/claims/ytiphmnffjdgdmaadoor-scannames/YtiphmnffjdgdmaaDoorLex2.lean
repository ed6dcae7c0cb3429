/- What a lexicon says of a name; the two faces Kept and Name. -/
import Derived.Test.YtiphmnffjdgdmaaDoorLex
namespace Go.Proofs.YtiphmnffjdgdmaaDoor
open Go.RowKit Go.Maps Go.WideMaps Go.WideElems

set_option maxRecDepth 1000000 in
set_option maxHeartbeats 1000000 in
theorem lexName_any (b : Nat) (s : ByteArray) (w : World) (hs : s.size ≤ maxLen) (hx : IsLex w b) :
    Calls Tryd.prog 28 #[.agg #[.map (some b)], .string s] w fun e w' => e = .returned (.bool (nameB s.data.toList)) ∧ Below w.heap.size w w' := by
  by_cases h0 : s.size = 0
  · have hemp : s.toList.isEmpty = true := by rw [empty_form]; simp [h0]
    have HN := hide (shape_empty s h0)
    clear h0 hx
    go_enter Tryd.func28, Tryd.ntmps28
    go_wp2
    go_ret
    exact ⟨by rw [HN.out]; rfl, (Below.refl _ _).alloc (Nat.le_refl _) _⟩
  · have hemp : s.toList.isEmpty = false := by rw [empty_form]; simp [h0]
    by_cases h12 : 12 < s.size
    · have HN := hide (shape_long s h12)
      clear h0 hx
      unfold maxLen at hs
      go_enter Tryd.func28, Tryd.ntmps28
      go_wp2
      go_ret
      exact ⟨by rw [HN.out]; rfl, (Below.refl _ _).alloc (Nat.le_refl _) _⟩
    · have h1 : 1 ≤ s.size := by omega
      have h13 : s.size ≤ 12 := by omega
      have HX := hide hx
      clear h0 h12 hx
      go_enter Tryd.func28, Tryd.ntmps28
      go_wp2
      go_loopw [6] (fun _ wr => ∃ k : Nat, wr = (w.alloc (.cells #[.map (some b)] 55)).iter s k ∧ k ≤ s.size ∧ Hid (0 < k → ∀ h : 0 < s.size, isLetter (s[0]'h).toNat = true) ∧ Hid (∀ (j : Nat) (h : j < s.size), j < k → lod (s[j]'h).toNat = true)) (fun _ wr => s.size - wr.iterPos (w.alloc (.cells #[.map (some b)] 55)).heap.size)
      case atStart => exact ⟨0, rfl, Nat.zero_le _, fun h => by omega, fun j h hj => by omega⟩
      case round =>
        obtain ⟨k, rfl, hk, HL, HB⟩ := hrel
        have hsz : (w.alloc (.cells #[.map (some b)] 55)).heap.size = w.heap.size + 1 := by simp
        by_cases hlt : k < s.size
        · have hnx : ∀ ty, (Instr.next (.pointer (some ⟨(w.alloc (.cells #[.map (some b)] 55)).heap.size, 0, none⟩)) true ty).run Tryd.prog ((w.alloc (.cells #[.map (some b)] 55)).iter s k) = _ := fun ty => run_next_any (w.alloc (.cells #[.map (some b)] 55)) s k ty hlt
          rw [hsz] at hnx
          have hlast : ∀ w', Below w.heap.size w ((w.alloc (.cells #[.map (some b)] 55)).iter s w') := fun w' => ((Below.refl _ _).alloc (Nat.le_refl _) _).alloc (by simp) _
          have HLa := hide hlast
          clear hlast hsz
          have hdec : isLetter (Utf8.decode s k).1 = isLetter (s[k]'hlt).toNat ∧ isDigit (Utf8.decode s k).1 = isDigit (s[k]'hlt).toNat := by
            by_cases ha : (s[k]'hlt).toNat < 128
            · rw [decode_ascii s k hlt ha]; exact ⟨rfl, rfl⟩
            · have hd := (decode_high s k hlt (by omega)).1
              have f1 : ∀ n : Int, 128 ≤ n → isLetter n = false := fun n hn => by simp [isLetter]; omega
              exact ⟨by rw [f1 _ (by omega), f1 _ (by omega)], by rw [digit_high (by omega), digit_high (by omega)]⟩
          cases hl : isLetter (s[k]'hlt).toNat
          · have hl' := hdec.1.trans hl
            by_cases hk0 : k = 0
            · subst hk0
              have HN := hide (shape_not_letter s hlt hl)
              clear hl hdec
              go_wp2_with (go_at_call 36; refine (letter_any _ _).mono ?_; rintro e w' ⟨rfl, rfl⟩; simp only [hl'])
              go_ret
              exact ⟨by rw [HN.out]; rfl, HLa.out _⟩
            · have hz : ((k : Int) == 0) = false := by simp; omega
              cases hd : isDigit (s[k]'hlt).toNat
              · have hd' := hdec.2.trans hd
                have HN := hide (shape_not_lod s k hlt (by simp [lod, hl, hd]))
                clear hl hd hdec
                go_wp2_with (first | (go_at_call 36; refine (letter_any _ _).mono ?_; rintro e w' ⟨rfl, rfl⟩; simp only [hl']) | (go_at_call 37; refine (digit_any _ _).mono ?_; rintro e w' ⟨rfl, rfl⟩; simp only [hd']))
                go_ret
                exact ⟨by rw [HN.out]; rfl, HLa.out _⟩
              · have hd' := hdec.2.trans hd
                have HN : Hid (lod (s[k]'hlt).toNat = true) := by unfold lod; rw [hl, hd]; rfl
                have ha : (s[k]'hlt).toNat < 128 := by
                  rcases Nat.lt_or_ge (s[k]'hlt).toNat 128 with h | h
                  · exact h
                  · rw [digit_high (by omega)] at hd; cases hd
                rw [decode_ascii s k hlt ha] at hnx hl' hd'
                clear hl hd hdec
                go_wp2_with (first | (go_at_call 36; refine (letter_any _ _).mono ?_; rintro e w' ⟨rfl, rfl⟩; simp only [hl']) | (go_at_call 37; refine (digit_any _ _).mono ?_; rintro e w' ⟨rfl, rfl⟩; simp only [hd']))
                go_roundw
                case rel => exact ⟨k + 1, rfl, by omega, fun _ h => HL.out (by omega) h, fun j h hj => by
                  rcases Nat.lt_or_ge j k with h1 | h1
                  · exact HB.out j h h1
                  · obtain rfl : j = k := by omega
                    exact HN.out⟩
                case measure => simp only [World.iterPos_iter]; omega
          · have hl' := hdec.1.trans hl
            have HN : Hid (lod (s[k]'hlt).toNat = true) := by unfold lod; rw [hl]; rfl
            have HL2 : Hid (isLetter (s[k]'hlt).toNat = true) := hl
            have ha : (s[k]'hlt).toNat < 128 := by
              rcases Nat.lt_or_ge (s[k]'hlt).toNat 128 with h | h
              · exact h
              · have : isLetter (s[k]'hlt).toNat = false := by simp [isLetter]; omega
                rw [this] at hl; cases hl
            rw [decode_ascii s k hlt ha] at hnx hl'
            clear hl hdec
            go_wp2_with (go_at_call 36; refine (letter_any _ _).mono ?_; rintro e w' ⟨rfl, rfl⟩; simp only [hl'])
            go_roundw
            case rel => exact ⟨k + 1, rfl, by omega, fun _ h => by
              rcases Nat.eq_zero_or_pos k with h0 | h0
              · subst h0; exact HL2.out
              · exact HL.out h0 h, fun j h hj => by
              rcases Nat.lt_or_ge j k with h1 | h1
              · exact HB.out j h h1
              · obtain rfl : j = k := by omega
                exact HN.out⟩
            case measure => simp only [World.iterPos_iter]; omega
        · have hnx : ∀ ty, (Instr.next (.pointer (some ⟨(w.alloc (.cells #[.map (some b)] 55)).heap.size, 0, none⟩)) true ty).run Tryd.prog ((w.alloc (.cells #[.map (some b)] 55)).iter s k) = _ := fun ty => run_next_end (w.alloc (.cells #[.map (some b)] 55)) s k ty hlt
          rw [hsz] at hnx
          have HN := hide (shape_yes s (by omega) h13 (HL.out (by omega) (by omega)) (fun j h => HB.out j h (by omega)))
          have hb : Below w.heap.size w ((w.alloc (.cells #[.map (some b)] 55)).iter s k) := ((Below.refl _ _).alloc (Nat.le_refl _) _).alloc (by simp) _
          have c0 : ((w.alloc (.cells #[.map (some b)] 55)).iter s k).cell? ⟨w.heap.size, 0, none⟩ = some (.map (some b)) := by
            show (World.alloc _ _).cell? _ = _
            rw [World.cell?_alloc_lt _ _ _ (by simp)]; simp
          have HX2 : Hid (IsLex ((w.alloc (.cells #[.map (some b)] 55)).iter s k) b) := HX.out.below hb
          have HBB := hide hb
          clear hb hsz HX HL HB
          go_wp2_with (go_at_call 26; refine (lexKept_any b s _ hs HX2.out).mono ?_; rintro e w1 ⟨rfl, hb1⟩)
          go_ret
          exact ⟨by rw [HN.out]; rfl, HBB.out.trans (hb1.mono HBB.out.size)⟩

set_option maxRecDepth 1000000 in
theorem kept_any (s : ByteArray) (w : World) (hs : s.size ≤ maxLen) (htab : Lib.TabIs Tryd.prog w "strings.asciiSpace" .u8 Lib.asciiSpaceTab) :
    Calls Tryd.prog 11 #[.string s] w fun e w' => e = .returned (.bool (keptB s.data.toList)) ∧ Below w.heap.size w w' := by
  have HT := hide htab
  clear htab
  go_enter Tryd.func11, Tryd.ntmps11
  go_wp2_with (first
    | (go_at_call 25; refine (lexicon_any _ HT.out).mono ?_; rintro e w1 ⟨rfl, hx, hb⟩; have HX := hide hx; have HB := hide hb; clear hx hb)
    | (go_at_call 26; refine (lexKept_any _ s _ hs HX.out).mono ?_; rintro e w2 ⟨rfl, hb2⟩))
  go_ret
  exact ⟨rfl, HB.out.trans (hb2.mono HB.out.size)⟩

set_option maxRecDepth 1000000 in
theorem name_any (s : ByteArray) (w : World) (hs : s.size ≤ maxLen) (htab : Lib.TabIs Tryd.prog w "strings.asciiSpace" .u8 Lib.asciiSpaceTab) :
    Calls Tryd.prog 13 #[.string s] w fun e w' => e = .returned (.bool (nameB s.data.toList)) ∧ Below w.heap.size w w' := by
  have HT := hide htab
  clear htab
  go_enter Tryd.func13, Tryd.ntmps13
  go_wp2_with (first
    | (go_at_call 25; refine (lexicon_any _ HT.out).mono ?_; rintro e w1 ⟨rfl, hx, hb⟩; have HX := hide hx; have HB := hide hb; clear hx hb)
    | (go_at_call 28; refine (lexName_any _ s _ hs HX.out).mono ?_; rintro e w2 ⟨rfl, hb2⟩))
  go_ret
  exact ⟨rfl, HB.out.trans (hb2.mono HB.out.size)⟩
end Go.Proofs.YtiphmnffjdgdmaaDoor
