/- The document's kept words and names. -/
import Derived.Test.YtiphmnffjdgdmaaDoorLex
namespace Go.Proofs.YtiphmnffjdgdmaaDoor
open Go.RowKit

/-- The list of kept words, as it lies in the document's answer: where it begins, and what room it has. -/
structure Kept33 (w : World) (a : Addr) (cap : Nat) : Prop where
  lt : a.block < w.heap.size
  head : w.cell? ⟨0, 0, none⟩ = some (.slice (some a) 33 cap)
  room : 33 ≤ cap ∧ cap ≤ maxLen
  cell : ∀ (k : Nat) (h : k < 33), w.cell? (a.add k) = some (.string ⟨(keptL[k]'(by rw [kept_len]; exact h)).toArray⟩)

theorem mem_take_succ {l : List (List UInt8)} {x : List UInt8} {k : Nat} (h : k < l.length) (h1 : x ∉ l.take k) (h2 : l[k] ≠ x) : x ∉ l.take (k + 1) := by
  rw [List.take_succ_eq_append_getElem h]
  intro hm
  rcases List.mem_append.1 hm with hm | hm
  · exact h1 hm
  · simp at hm; exact h2 hm.symm

set_option maxRecDepth 1000000 in
set_option maxHeartbeats 1000000 in
theorem in_any (s : ByteArray) (a : Addr) (cap : Nat) (w : World) (hk : Kept33 w a cap) :
    Calls Tryd.prog 27 #[.string s, .slice (some a) 33 cap] w fun e w' => e = .returned (.bool (keptB s.data.toList)) ∧ w' = w := by
  have hr := hk.room
  have HC := hide hk.cell
  clear hk
  unfold maxLen at hr
  go_enter Tryd.func27, Tryd.ntmps27
  go_wp2
  go_loop [5] (fun i => ∃ k : Nat, k ≤ 33 ∧ i = .int .i64 k ∧ Hid (s.data.toList ∉ keptL.take k)) (fun i => 33 - (intOf i).toNat)
  case atStart => exact ⟨0, by omega, rfl, by show _ ∉ _; simp⟩
  case round =>
    obtain ⟨k, hk, rfl, HB⟩ := hrel
    by_cases hlt : k < 33
    · have hls : k < keptL.length := by rw [kept_len]; exact hlt
      have hc := HC.out k hlt
      cases he : (keptL[k]'hls == s.toList)
      · have HN : Hid (s.data.toList ∉ keptL.take (k + 1)) := mem_take_succ hls HB.out (fun h => by rw [h, bs_toList] at he; simp at he)
        go_wp2
        exact ⟨⟨k + 1, by omega, by go_num, HN⟩, by simp [intOf]; omega⟩
      · have HN : Hid (keptB s.data.toList = true) := by
          have e : keptL[k]'hls = s.data.toList := by rw [← bs_toList]; simpa using he
          show keptL.contains _ = true
          rw [List.contains_iff_mem, ← e]
          exact List.getElem_mem hls
        go_wp2
        go_ret
        exact ⟨by rw [HN.out]; rfl, rfl⟩
    · have hc : Hid (keptB s.data.toList = false) := by
        have e : keptL.take k = keptL := List.take_of_length_le (by rw [kept_len]; omega)
        have := HB.out
        rw [e] at this
        show keptL.contains _ = false
        rw [Bool.eq_false_iff, ne_eq, List.contains_iff_mem]
        exact this
      go_wp2
      go_ret
      exact ⟨by rw [hc.out]; rfl, rfl⟩

theorem keptRef_any (s : ByteArray) (a : Addr) (cap : Nat) (w : World) (hk : Kept33 w a cap) :
    Calls Tryd.prog 12 #[.string s] w fun e w' => e = .returned (.bool (keptB s.data.toList)) ∧ w' = w := by
  have c0 := hk.head
  have HK := hide hk
  clear hk
  go_enter Tryd.func12, Tryd.ntmps12
  go_wp2_with (go_at_call 27; refine (in_any s a cap _ HK.out).mono ?_; rintro e w' ⟨rfl, rfl⟩)
  go_ret
  exact ⟨rfl, rfl⟩

set_option maxRecDepth 1000000 in
set_option maxHeartbeats 1000000 in
theorem nameRef_any (s : ByteArray) (a : Addr) (cap : Nat) (w : World) (hs : s.size ≤ maxLen) (hk : Kept33 w a cap) :
    Calls Tryd.prog 14 #[.string s] w fun e w' => e = .returned (.bool (nameB s.data.toList)) ∧ w' = w := by
  have HK := hide hk
  clear hk
  unfold maxLen at hs
  by_cases h0 : s.size = 0
  · have hemp : s.toList.isEmpty = true := by rw [empty_form]; simp [h0]
    have HN := hide (shape_empty s h0)
    clear h0
    go_enter Tryd.func14, Tryd.ntmps14
    go_wp2
    go_ret
    exact ⟨by rw [HN.out]; rfl, rfl⟩
  · have hemp : s.toList.isEmpty = false := by rw [empty_form]; simp [h0]
    by_cases h12 : 12 < s.size
    · have HN := hide (shape_long s h12)
      clear h0
      go_enter Tryd.func14, Tryd.ntmps14
      go_wp2
      go_ret
      exact ⟨by rw [HN.out]; rfl, rfl⟩
    · have h1 : 0 < s.size := by omega
      have h13 : s.size ≤ 12 := by omega
      clear h0 h12
      cases hkp : keptB s.data.toList
      · cases hl : isLetter (s[0]'h1).toNat
        · have HN := hide (shape_not_letter s h1 hl)
          go_enter Tryd.func14, Tryd.ntmps14
          go_wp2_with (first | (go_at_call 12; refine (keptRef_any s a cap _ HK.out).mono ?_; rintro e w' ⟨rfl, rfl⟩; simp only [hkp]) | (go_at_call 18; refine (rLetter_any _ _).mono ?_; rintro e w' ⟨rfl, rfl⟩; simp only [hl]))
          go_ret
          exact ⟨by rw [HN.out]; rfl, rfl⟩
        · have HN := fun ha => hide (shape_yes s h1 h13 hl ha)
          go_enter Tryd.func14, Tryd.ntmps14
          go_wp2_with (first | (go_at_call 12; refine (keptRef_any s a cap _ HK.out).mono ?_; rintro e w' ⟨rfl, rfl⟩; simp only [hkp]) | (go_at_call 18; refine (rLetter_any _ _).mono ?_; rintro e w' ⟨rfl, rfl⟩; simp only [hl]))
          clear hl
          go_loop [3] (fun i => ∃ k : Nat, k ≤ s.size ∧ i = .int .i64 k ∧ Hid (∀ (j : Nat) (h : j < s.size), j < k → lod (s[j]'h).toNat = true)) (fun i => s.size - (intOf i).toNat)
          case atStart => exact ⟨0, by omega, rfl, fun j h hj => by omega⟩
          case round =>
            obtain ⟨k, hk, rfl, HB⟩ := hrel
            by_cases hlt : k < s.size
            · cases hl : isLetter (s[k]'hlt).toNat
              · cases hd : isDigit (s[k]'hlt).toNat
                · have HF := hide (shape_not_lod s k hlt (by simp [lod, hl, hd]))
                  go_wp2_with (first | (go_at_call 18; refine (rLetter_any _ _).mono ?_; rintro e w' ⟨rfl, rfl⟩; simp only [hl]) | (go_at_call 19; refine (rDigit_any _ _).mono ?_; rintro e w' ⟨rfl, rfl⟩; simp only [hd]))
                  go_ret
                  exact ⟨by rw [HF.out]; rfl, rfl⟩
                · have HY : Hid (lod (s[k]'hlt).toNat = true) := by unfold lod; rw [hl, hd]; rfl
                  go_wp2_with (first | (go_at_call 18; refine (rLetter_any _ _).mono ?_; rintro e w' ⟨rfl, rfl⟩; simp only [hl]) | (go_at_call 19; refine (rDigit_any _ _).mono ?_; rintro e w' ⟨rfl, rfl⟩; simp only [hd]))
                  exact ⟨⟨k + 1, by omega, by go_num, fun j h hj => by
                    rcases Nat.lt_or_ge j k with h1 | h1
                    · exact HB.out j h h1
                    · obtain rfl : j = k := by omega
                      exact HY.out⟩, by simp [intOf]; omega⟩
              · have HY : Hid (lod (s[k]'hlt).toNat = true) := by unfold lod; rw [hl]; rfl
                go_wp2_with (first | (go_at_call 18; refine (rLetter_any _ _).mono ?_; rintro e w' ⟨rfl, rfl⟩; simp only [hl]))
                exact ⟨⟨k + 1, by omega, by go_num, fun j h hj => by
                  rcases Nat.lt_or_ge j k with h1 | h1
                  · exact HB.out j h h1
                  · obtain rfl : j = k := by omega
                    exact HY.out⟩, by simp [intOf]; omega⟩
            · have HY := HN (fun j h => HB.out j h (by omega))
              go_wp2
              go_ret
              exact ⟨by rw [HY.out, hkp]; rfl, rfl⟩
      · have HN : Hid (nameB s.data.toList = false) := by unfold nameB; rw [hkp]; simp [Hid]
        go_enter Tryd.func14, Tryd.ntmps14
        go_wp2_with (first | (go_at_call 12; refine (keptRef_any s a cap _ HK.out).mono ?_; rintro e w' ⟨rfl, rfl⟩; simp only [hkp]))
        go_ret
        exact ⟨by rw [HN.out]; rfl, rfl⟩
end Go.Proofs.YtiphmnffjdgdmaaDoor
