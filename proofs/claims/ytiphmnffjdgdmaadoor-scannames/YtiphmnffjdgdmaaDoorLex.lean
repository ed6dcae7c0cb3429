/- The kept words as they lie in a lexicon's map, and what a lexicon answers. -/
import Derived.Test.YtiphmnffjdgdmaaDoorFields
import Derived.Test.YtiphmnffjdgdmaaDoorRef1
import Derived.Test.YtiphmnffjdgdmaaDoorWord
import Derived.Maps.Own
import Derived.Maps.OwnSet
namespace Go.Proofs.YtiphmnffjdgdmaaDoor
open Go.RowKit Go.Maps Go.WideMaps Go.WideElems

def keptL : List (List UInt8) := [[77, 79, 68, 85, 76, 69], [73, 77, 80, 79, 82, 84], [67, 79, 78, 83, 84], [84, 89, 80, 69], [86, 65, 82], [80, 82, 79, 67, 69, 68, 85, 82, 69], [66, 69, 71, 73, 78], [69, 78, 68], [73, 70], [84, 72, 69, 78], [69, 76, 83, 73, 70], [69, 76, 83, 69], [87, 72, 73, 76, 69], [68, 79], [82, 69, 80, 69, 65, 84], [85, 78, 84, 73, 76], [82, 69, 84, 85, 82, 78], [65, 82, 82, 65, 89], [79, 70], [82, 69, 67, 79, 82, 68], [80, 79, 73, 78, 84, 69, 82], [84, 79], [78, 73, 76], [84, 82, 85, 69], [70, 65, 76, 83, 69], [68, 73, 86], [77, 79, 68], [79, 82], [73, 83], [78, 69, 87], [79, 85, 84], [71, 69, 84], [65, 83, 83, 69, 82, 84]]
def keptText : ByteArray := ⟨#[77, 79, 68, 85, 76, 69, 32, 73, 77, 80, 79, 82, 84, 32, 67, 79, 78, 83, 84, 32, 84, 89, 80, 69, 32, 86, 65, 82, 32, 80, 82, 79, 67, 69, 68, 85, 82, 69, 32, 66, 69, 71, 73, 78, 32, 69, 78, 68, 32, 73, 70, 32, 84, 72, 69, 78, 32, 69, 76, 83, 73, 70, 32, 69, 76, 83, 69, 32, 87, 72, 73, 76, 69, 32, 68, 79, 32, 82, 69, 80, 69, 65, 84, 32, 85, 78, 84, 73, 76, 32, 82, 69, 84, 85, 82, 78, 32, 65, 82, 82, 65, 89, 32, 79, 70, 32, 82, 69, 67, 79, 82, 68, 32, 80, 79, 73, 78, 84, 69, 82, 32, 84, 79, 32, 78, 73, 76, 32, 84, 82, 85, 69, 32, 70, 65, 76, 83, 69, 32, 68, 73, 86, 32, 77, 79, 68, 32, 79, 82, 32, 73, 83, 32, 78, 69, 87, 32, 79, 85, 84, 32, 71, 69, 84, 32, 65, 83, 83, 69, 82, 84]⟩
theorem kept_fields : Lib.fields keptText.data.toList = keptL := by decide +kernel
theorem kept_ascii : ∀ (j : Nat) b, keptText.data.toList[j]? = some b → b.toNat < 128 := by
  intro j b h
  have : ∀ b ∈ keptText.data.toList, b.toNat < 128 := by decide +kernel
  exact this b (List.mem_of_getElem? h)
theorem kept_len : keptL.length = 33 := rfl
def keptB (l : List UInt8) : Bool := keptL.contains l

theorem law9 : Keyed Tryd.prog 9 := string_keyed Tryd.underlying9
theorem zero74 (w : World) : (zeroValue 74).run Tryd.prog w = .ok (.agg #[]) w := by kernel_rfl

theorem kept_short (k : Nat) (h : k < keptL.length) : (⟨(keptL[k]).toArray⟩ : ByteArray).size ≤ maxLen := by
  have h1 : ∀ x ∈ keptL, x.length ≤ 20 := by decide
  have h2 := h1 _ (List.getElem_mem h)
  unfold maxLen
  simp [ByteArray.size]
  omega

/-- The set of the first k kept words. -/
def keptSet (k : Nat) : DataW Unit := setOf (.agg []) ((keptL.take k).map Lit.string)

theorem keptSet_succ (k : Nat) (h : k < keptL.length) : keptSet (k + 1) = (keptSet k).put (.string (keptL[k])) (.agg []) := by
  unfold keptSet
  rw [List.take_succ_eq_append_getElem h, List.map_append, List.map_cons, List.map_nil, setOf_snoc]

theorem keptSet_has (l : List UInt8) : Maps.has (keptSet 33) (.string l) = keptB l := by
  unfold keptSet keptB
  rw [has_setOf _ _ _ (by intro x hx; obtain ⟨y, _, rfl⟩ := List.mem_map.1 hx; trivial), List.take_of_length_le (by rw [kept_len]; exact Nat.le_refl _), List.any_map]
  rw [Bool.eq_iff_iff, List.any_eq_true, List.contains_iff_mem]
  constructor
  · rintro ⟨x, hx, h⟩
    have e : x = l := by simpa [Lit.sameKey] using h
    rw [← e]; exact hx
  · intro h
    exact ⟨l, h, by simp [Lit.sameKey]⟩

theorem gTab : Tryd.prog.globalNamed "strings.asciiSpace" = some 2 := by kernel_rfl
theorem tab_lt {w : World} (h : Lib.TabIs Tryd.prog w "strings.asciiSpace" .u8 Lib.asciiSpaceTab) : 2 < w.heap.size := by
  have hc := h.cell gTab 0 (by rw [Lib.asciiSpaceTab_length]; omega)
  rcases Nat.lt_or_ge 2 w.heap.size with h' | h'
  · exact h'
  · simp [World.cell?, Array.getElem?_eq_none h'] at hc
theorem tab_below {w w' : World} (h : Lib.TabIs Tryd.prog w "strings.asciiSpace" .u8 Lib.asciiSpaceTab) (hb : Below w.heap.size w w') : Lib.TabIs Tryd.prog w' "strings.asciiSpace" .u8 Lib.asciiSpaceTab :=
  var?_below hb gTab (tab_lt h) h

theorem keptCell {w : World} {k : Nat} (h : k < 33) : (w.alloc (.cells (keptL.map fun l => Value.string ⟨l.toArray⟩).toArray 9)).cell? ⟨w.heap.size, k, none⟩ = some (.string ⟨(keptL[k]'(by rw [kept_len]; exact h)).toArray⟩) := by
  rw [World.cell?_alloc_at _ _ _ _ rfl]
  simp [List.getElem?_eq_getElem (show k < keptL.length by rw [kept_len]; exact h)]

set_option maxRecDepth 1000000 in
set_option maxHeartbeats 1000000 in
theorem lexicon_any (w : World) (htab : Lib.TabIs Tryd.prog w "strings.asciiSpace" .u8 Lib.asciiSpaceTab) :
    Calls Tryd.prog 25 #[] w fun e w' => e = .returned (.agg #[.map (some (w.heap.size + 1))]) ∧ w'.ownsMap Tryd.prog 9 (unitElem (H := Unit)) (w.heap.size + 1) 33 (keptSet 33) ∧ Below w.heap.size w w' := by
  have hmm := @run_makeMap Tryd.prog
  have HTB := hide (fun w' (hb : Below w.heap.size w w') => tab_below htab hb)
  clear htab
  go_enter Tryd.func25, Tryd.ntmps25
  go_wp2_with fail
  show Calls Tryd.prog 35 #[.string keptText] _ _
  refine (Tryd.strings_Fields keptText _ (by decide) kept_ascii (HTB.out _ (((Below.refl _ _).alloc (Nat.le_refl _) _).alloc (by simp) _))).mono ?_
  rintro e w1 ⟨he, hw1⟩
  rw [kept_fields, kept_len] at he
  subst he
  have hsz : w1.heap.size = w.heap.size + 3 := by rw [hw1]; simp
  have hcell : ∀ (k : Nat) (h : k < 33), w1.cell? ⟨w.heap.size + 1 + 1, k, none⟩ = some (.string ⟨(keptL[k]'(by rw [kept_len]; exact h)).toArray⟩) := fun k h => by
    have hk := keptCell (w := (w.alloc (.cells #[.map none] 55)).alloc (.map #[] 0)) h
    simp only [World.size_alloc] at hk
    rw [hw1, kept_fields]
    exact hk
  have hmap : w1.ownsMap Tryd.prog 9 (unitElem (H := Unit)) (w.heap.size + 1) 0 (keptSet 0) := by
    rw [hw1]
    have hk := (World.ownsMap_made (w.alloc (.cells #[.map none] 55)) Tryd.prog 9 (unitElem (H := Unit))).alloc (.cells ((Lib.fields keptText.data.toList).map fun l => Value.string ⟨l.toArray⟩).toArray 9)
    simp only [World.size_alloc] at hk
    exact hk
  have hb1 : Below w.heap.size w w1 := by rw [hw1]; exact (((Below.refl _ _).alloc (Nat.le_refl _) _).alloc (by simp) _).alloc (by simp; omega) _
  have hbc : w1.cell? ⟨w.heap.size, 0, none⟩ = some (.map none) := by
    rw [hw1, World.cell?_alloc_lt _ _ _ (by simp; omega), World.cell?_alloc_lt _ _ _ (by simp)]; simp
  have hbz : w1.frozen? ⟨w.heap.size, 0, none⟩ = false := by
    rw [hw1, World.frozen?_alloc_old _ _ _ (by simp; omega), World.frozen?_alloc_old _ _ _ (by simp)]; simp
  simp only [World.size_alloc]
  have HC := hide hcell
  have HM := hide hmap
  have HB := hide hb1
  have HBC := hide hbc
  have HBZ := hide hbz
  have HSZ := hide hsz
  clear hw1 hsz hcell hmap hb1 hbc hbz HTB hmm
  go_wp2
  go_loopw [7] (fun iv wr => ∃ k : Nat, k ≤ 33 ∧ iv = .int .i64 k ∧ Hid (wr.ownsMap Tryd.prog 9 (unitElem (H := Unit)) (w.heap.size + 1) k (keptSet k)) ∧ Hid (w1.grownBy wr (some (w.heap.size + 1)))) (fun iv _ => 33 - (intOf iv).toNat)
  case atStart => exact ⟨0, by omega, rfl, HM, gb_refl _ _⟩
  case round =>
    obtain ⟨k, hk, rfl, HO, HG⟩ := hrel
    have hsz := HSZ.out
    by_cases hlt : k < 33
    · have d0 : wr.cell? ⟨w.heap.size + 1 + 1, k, none⟩ = _ := cell_far HG.out (HC.out k hlt) (by simp)
      have hls : k < keptL.length := by rw [kept_len]; exact hlt
      have hkey : keyOf Tryd.prog 9 (.string ⟨(keptL[k]'hls).toArray⟩) = some (.string (keptL[k]'hls)) := by
        have := keyOf_string_mk (P := Tryd.prog) Tryd.underlying9 (s := ⟨(keptL[k]'hls).toArray⟩) (kept_short k hls)
        simpa using this
      have hsucc := keptSet_succ k hls
      generalize keptL[k]'hls = x at d0 hkey hsucc
      have HS := hide hsucc
      have HK := hide hkey
      clear hsucc hkey
      go_wp2_with (first | (at_mapUpdate; refine wpList_mapUpdate_own _ rfl _ _ _ 53 rfl 9 74 law9 Tryd.underlying53 (unitElem (H := Unit)) (w.heap.size + 1) k _ rfl HO.out (by unfold maxLen; omega) _ _ _ rfl rfl HK.out (.agg []) [] unitElem_mk ?_; intro w3 hown3 hg3))
      exact ⟨⟨k + 1, by omega, by go_num, by rw [HS.out]; exact hown3, gb_trans HG.out hg3⟩, by simp [intOf]; omega⟩
    · obtain rfl : k = 33 := by omega
      have c0 := cell_far HG.out HBC.out (by simp)
      have z0 := frozen_far HG.out (by simp; omega) HBZ.out (by simp)
      have hbb : Below w.heap.size w wr := HB.out.grown HG.out (by omega) (fun j hj => by cases hj; omega)
      have HBB := hide hbb
      have HOS := hide (HO.out.setCell (a := ⟨w.heap.size, 0, none⟩) (by simp) (.map (some (w.heap.size + 1))))
      have g0 : (wr.setCell ⟨w.heap.size, 0, none⟩ (.map (some (w.heap.size + 1)))).cell? ⟨w.heap.size, 0, none⟩ = some (.map (some (w.heap.size + 1))) := World.cell?_setCell_same _ _ _ c0
      clear hbb HG HO HBC HBZ HC HM HB hsz HSZ
      go_wp2
      exact bodyPost_ret (v := .agg #[.map (some (w.heap.size + 1))]) (by simp [results, Tryd.results25, go_sem, g0]) rfl ⟨rfl, HOS.out, HBB.out.setCell (by simp) _⟩

/-- A lexicon's map, wherever it lies. -/
def IsLex (w : World) (b : Nat) : Prop := w.ownsMap Tryd.prog 9 (unitElem (H := Unit)) b 33 (keptSet 33)

theorem IsLex.below {w w' : World} {b : Nat} (h : IsLex w b) (hb : Below w.heap.size w w') : IsLex w' b := World.ownsMap.kept h (⟨hb.os, hb.tape, hb.output, hb.size, fun i hi _ => hb.block i hi⟩ : w.grownBy w' none) (by simp)

set_option maxRecDepth 1000000 in
set_option maxHeartbeats 1000000 in
theorem lexKept_any (b : Nat) (s : ByteArray) (w : World) (hs : s.size ≤ maxLen) (hx : IsLex w b) :
    Calls Tryd.prog 26 #[.agg #[.map (some b)], .string s] w fun e w' => e = .returned (.bool (keptB s.data.toList)) ∧ Below w.heap.size w w' := by
  have HK := hide (keyOf_string_mk (P := Tryd.prog) Tryd.underlying9 (s := s) hs)
  have HX := fun o => hide (World.ownsMap.alloc hx o)
  have HH := hide (keptSet_has s.data.toList)
  clear hx
  go_enter Tryd.func26, Tryd.ntmps26
  go_wp2_with (first | (at_lookup; refine wpList_lookup_own_unit _ rfl _ _ 53 rfl 9 74 law9 Tryd.underlying53 (zero74 _) b 33 (keptSet 33) rfl (HX _).out _ _ rfl HK.out ?_; rw [HH.out]))
  go_ret
  exact ⟨rfl, ((Below.refl _ _).alloc (Nat.le_refl _) _).alloc (by simp) _⟩

/-- A word that could be a name, kept or not. -/
def shapeB (l : List UInt8) : Bool := !l.isEmpty && decide (l.length ≤ 12) && isLetter (l.headD 0).toNat && l.all (fun c => lod c.toNat)
def nameB (l : List UInt8) : Bool := shapeB l && !keptB l

theorem get_mem (s : ByteArray) (k : Nat) (h : k < s.size) : s[k] ∈ s.data.toList := mem_get s k h
theorem headD_zero (s : ByteArray) (h : 0 < s.size) : s.data.toList.headD 0 = s[0] := (take_head s h).1

theorem shape_empty (s : ByteArray) (h : s.size = 0) : nameB s.data.toList = false := by
  have : s.data.toList = [] := List.eq_nil_of_length_eq_zero (by rw [← bs_size]; exact h)
  rw [this]; rfl
theorem shape_long (s : ByteArray) (h : 12 < s.size) : nameB s.data.toList = false := by
  unfold nameB shapeB
  rw [← bs_size]
  simp [show ¬ s.size ≤ 12 by omega]
theorem shape_not_lod (s : ByteArray) (k : Nat) (h : k < s.size) (hl : lod (s[k]).toNat = false) : nameB s.data.toList = false := by
  unfold nameB shapeB
  have : s.data.toList.all (fun c => lod c.toNat) = false := by
    rw [List.all_eq_false]
    exact ⟨s[k], get_mem s k h, by simp [hl]⟩
  rw [this]; simp
theorem shape_not_letter (s : ByteArray) (h : 0 < s.size) (hl : isLetter (s[0]).toNat = false) : nameB s.data.toList = false := by
  unfold nameB shapeB
  rw [headD_zero s h, hl]; simp
theorem shape_yes (s : ByteArray) (h0 : 0 < s.size) (h12 : s.size ≤ 12) (hl : isLetter (s[0]).toNat = true) (ha : ∀ (j : Nat) (h : j < s.size), lod (s[j]'h).toNat = true) : nameB s.data.toList = !keptB s.data.toList := by
  unfold nameB shapeB
  have h1 : s.data.toList.all (fun c => lod c.toNat) = true := by
    rw [List.all_eq_true]
    intro c hc
    obtain ⟨j, hj, rfl⟩ := List.getElem_of_mem hc
    exact ha j (by rw [bs_size]; exact hj)
  have h2 : s.data.toList.isEmpty = false := by
    cases h : s.data.toList with
    | nil => rw [bs_size, h] at h0; simp at h0
    | cons a l => rfl
  rw [headD_zero s h0, hl, h1, h2, ← bs_size]
  simp [h12]

theorem empty_form (s : ByteArray) : s.toList.isEmpty = decide (s.size = 0) := by
  rw [bs_toList, bs_size]
  cases s.data.toList <;> simp

end Go.Proofs.YtiphmnffjdgdmaaDoor
