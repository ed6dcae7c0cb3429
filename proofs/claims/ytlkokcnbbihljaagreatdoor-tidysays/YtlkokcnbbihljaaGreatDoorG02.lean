/- The lexicon, and names: the program's and the document's. -/
import Derived.Test.YtlkokcnbbihljaaGreatDoorRows
import Derived.Test.YtlkokcnbbihljaaGreatDoorG01
import Derived.WalkKit
import Derived.WalkSpells
import Derived.WalkLawsBesides
import Derived.BigQuiet
import Derived.Deep.QuietTactic
import Derived.Deep.RegionWith
import Derived.Lib.Strings
import Derived.Lib.IndexBytes
import Derived.Maps.Own
import Derived.Maps.OwnSet
namespace Go.Proofs.YtlkokcnbbihljaaGreatDoor
open Go.RowKit Go.Maps Go.WideMaps Go.WideElems

def isLetter (n : Int) : Bool := decide ((97 ≤ n ∧ n ≤ 122) ∨ (65 ≤ n ∧ n ≤ 90))
def isDigit (n : Int) : Bool := decide (48 ≤ n ∧ n ≤ 57)
def lod (n : Int) : Bool := isLetter n || isDigit n

set_option maxHeartbeats 400000 in
theorem letter_any (r : Int) (w : World) :
    Calls Tryz.prog 137 #[.int .i32 r] w fun e w' => e = .returned (.bool (isLetter r)) ∧ w' = w := by
  by_cases h1 : 97 ≤ r
  · by_cases h2 : r ≤ 122
    · have hl : isLetter r = true := by simp [isLetter]; omega
      rw [hl]
      go_enter Tryz.func137, Tryz.ntmps137
      go_wp2
      go_ret
      first | exact ⟨rfl, rfl⟩ | (refine ⟨?_, rfl⟩; simp; omega)
    · have hl : isLetter r = false := by simp [isLetter]; omega
      rw [hl]
      go_enter Tryz.func137, Tryz.ntmps137
      go_wp2
      go_ret
      first | exact ⟨rfl, rfl⟩ | (refine ⟨?_, rfl⟩; simp; omega)
  · by_cases h3 : 65 ≤ r
    · by_cases h4 : r ≤ 90
      · have hl : isLetter r = true := by simp [isLetter]; omega
        rw [hl]
        go_enter Tryz.func137, Tryz.ntmps137
        go_wp2
        go_ret
        first | exact ⟨rfl, rfl⟩ | (refine ⟨?_, rfl⟩; simp; omega)
      · have hl : isLetter r = false := by simp [isLetter]; omega
        rw [hl]
        go_enter Tryz.func137, Tryz.ntmps137
        go_wp2
        go_ret
        first | exact ⟨rfl, rfl⟩ | (refine ⟨?_, rfl⟩; simp; omega)
    · have hl : isLetter r = false := by simp [isLetter]; omega
      rw [hl]
      go_enter Tryz.func137, Tryz.ntmps137
      go_wp2
      go_ret
      first | exact ⟨rfl, rfl⟩ | (refine ⟨?_, rfl⟩; simp; omega)
set_option maxHeartbeats 400000 in
theorem digit_any (r : Int) (w : World) :
    Calls Tryz.prog 138 #[.int .i32 r] w fun e w' => e = .returned (.bool (isDigit r)) ∧ w' = w := by
  by_cases h1 : 48 ≤ r
  · by_cases h2 : r ≤ 57
    · have hl : isDigit r = true := by simp [isDigit]; omega
      rw [hl]
      go_enter Tryz.func138, Tryz.ntmps138
      go_wp2
      go_ret
      first | exact ⟨rfl, rfl⟩ | (refine ⟨?_, rfl⟩; simp; omega)
    · have hl : isDigit r = false := by simp [isDigit]; omega
      rw [hl]
      go_enter Tryz.func138, Tryz.ntmps138
      go_wp2
      go_ret
      first | exact ⟨rfl, rfl⟩ | (refine ⟨?_, rfl⟩; simp; omega)
  · have hl : isDigit r = false := by simp [isDigit]; omega
    rw [hl]
    go_enter Tryz.func138, Tryz.ntmps138
    go_wp2
    go_ret
    first | exact ⟨rfl, rfl⟩ | (refine ⟨?_, rfl⟩; simp; omega)
theorem bs_toList (s : ByteArray) : s.toList = s.data.toList := Lib.toList_data s
theorem bs_size (s : ByteArray) : s.size = s.data.toList.length := Lib.size_eq s
theorem mem_get (x : ByteArray) (j : Nat) (h : j < x.size) : x[j] ∈ x.data.toList := by
  have : x[j] = x.data.toList[j]'(by rw [← bs_size]; exact h) := rfl
  rw [this]; exact List.getElem_mem _

theorem hide {p : Prop} (h : p) : Hid p := h
theorem digit_high {n : Int} (h : 128 ≤ n) : isDigit n = false := by simp [isDigit]; omega

theorem drop_at (s : ByteArray) (k : Nat) (h : k < s.size) : s.data.toList.drop k = s[k] :: s.data.toList.drop (k + 1) := by
  rw [List.drop_eq_getElem_cons (by rw [← bs_size]; exact h)]; rfl
theorem take_head (s : ByteArray) (h : 0 < s.size) : s.data.toList.headD 0 = s[0] ∧ s.data.toList.take 1 = [s[0]] := by
  have := drop_at s 0 h
  simp only [List.drop_zero] at this
  rw [this]; simp
theorem gb_refl (w : World) (row : Option Nat) : w.grownBy w row := ⟨rfl, rfl, rfl, Nat.le_refl _, fun _ _ _ => rfl⟩
theorem gb_trans {a b c : World} {row : Option Nat} (h : a.grownBy b row) (k : b.grownBy c row) : a.grownBy c row :=
  ⟨k.os.trans h.os, k.tape.trans h.tape, k.output.trans h.output, Nat.le_trans h.size k.size, fun i hi hr => (k.block i (Nat.lt_of_lt_of_le hi h.size) hr).trans (h.block i hi hr)⟩
theorem gb_alloc {a w : World} {row : Option Nat} (h : a.grownBy w row) (o : Obj) : a.grownBy (w.alloc o) row := gb_trans h (World.grownBy_alloc w o row)
theorem gb_drewN {a w : World} {row : Option Nat} (h : a.grownBy w row) (n : Nat) : a.grownBy (w.drewN n) row := ⟨h.os, h.tape, h.output, h.size, h.block⟩
theorem gb_set {a w : World} {b : Nat} (h : a.grownBy w (some b)) (o : Nat) (v : Value) : a.grownBy (w.setCell ⟨b, o, none⟩ v) (some b) :=
  gb_trans h ⟨rfl, rfl, rfl, by simp [World.setCell], fun i _ hr => Below.heap_setCell _ _ _ _ (fun e => hr (by rw [e]))⟩
theorem cell_far {w w' : World} {row : Option Nat} (hg : w.grownBy w' row) {a : Addr} {v : Value} (h : w.cell? a = some v) (hne : some a.block ≠ row) : w'.cell? a = some v := by
  have hlt : a.block < w.heap.size := by
    rcases Nat.lt_or_ge a.block w.heap.size with h' | h'
    · exact h'
    · simp [World.cell?, Array.getElem?_eq_none h'] at h
  rw [World.cell?_of_block (w := w) (hg.block _ hlt hne)]; exact h
theorem frozen_far {w w' : World} {row : Option Nat} (hg : w.grownBy w' row) {a : Addr} {x : Bool} (hlt : a.block < w.heap.size) (h : w.frozen? a = x) (hne : some a.block ≠ row) : w'.frozen? a = x := by
  rw [World.frozen?_of_block (w := w) (hg.block _ hlt hne)]; exact h

set_option maxHeartbeats 400000 in
theorem rLetter_any (r : Int) (w : World) :
    Calls Tryz.prog 69 #[.int .u8 r] w fun e w' => e = .returned (.bool (isLetter r)) ∧ w' = w := by
  by_cases h1 : 97 ≤ r
  · by_cases h2 : r ≤ 122
    · have hl : isLetter r = true := by simp [isLetter]; omega
      rw [hl]
      go_enter Tryz.func69, Tryz.ntmps69
      go_wp2
      go_ret
      first | exact ⟨rfl, rfl⟩ | (refine ⟨?_, rfl⟩; simp; omega)
    · have hl : isLetter r = false := by simp [isLetter]; omega
      rw [hl]
      go_enter Tryz.func69, Tryz.ntmps69
      go_wp2
      go_ret
      first | exact ⟨rfl, rfl⟩ | (refine ⟨?_, rfl⟩; simp; omega)
  · by_cases h3 : 65 ≤ r
    · by_cases h4 : r ≤ 90
      · have hl : isLetter r = true := by simp [isLetter]; omega
        rw [hl]
        go_enter Tryz.func69, Tryz.ntmps69
        go_wp2
        go_ret
        first | exact ⟨rfl, rfl⟩ | (refine ⟨?_, rfl⟩; simp; omega)
      · have hl : isLetter r = false := by simp [isLetter]; omega
        rw [hl]
        go_enter Tryz.func69, Tryz.ntmps69
        go_wp2
        go_ret
        first | exact ⟨rfl, rfl⟩ | (refine ⟨?_, rfl⟩; simp; omega)
    · have hl : isLetter r = false := by simp [isLetter]; omega
      rw [hl]
      go_enter Tryz.func69, Tryz.ntmps69
      go_wp2
      go_ret
      first | exact ⟨rfl, rfl⟩ | (refine ⟨?_, rfl⟩; simp; omega)
set_option maxHeartbeats 400000 in
theorem rDigit_any (r : Int) (w : World) :
    Calls Tryz.prog 70 #[.int .u8 r] w fun e w' => e = .returned (.bool (isDigit r)) ∧ w' = w := by
  by_cases h1 : 48 ≤ r
  · by_cases h2 : r ≤ 57
    · have hl : isDigit r = true := by simp [isDigit]; omega
      rw [hl]
      go_enter Tryz.func70, Tryz.ntmps70
      go_wp2
      go_ret
      first | exact ⟨rfl, rfl⟩ | (refine ⟨?_, rfl⟩; simp; omega)
    · have hl : isDigit r = false := by simp [isDigit]; omega
      rw [hl]
      go_enter Tryz.func70, Tryz.ntmps70
      go_wp2
      go_ret
      first | exact ⟨rfl, rfl⟩ | (refine ⟨?_, rfl⟩; simp; omega)
  · have hl : isDigit r = false := by simp [isDigit]; omega
    rw [hl]
    go_enter Tryz.func70, Tryz.ntmps70
    go_wp2
    go_ret
    first | exact ⟨rfl, rfl⟩ | (refine ⟨?_, rfl⟩; simp; omega)

def keptL : List (List UInt8) := [[77, 79, 68, 85, 76, 69], [73, 77, 80, 79, 82, 84], [67, 79, 78, 83, 84], [84, 89, 80, 69], [86, 65, 82], [80, 82, 79, 67, 69, 68, 85, 82, 69], [66, 69, 71, 73, 78], [69, 78, 68], [73, 70], [84, 72, 69, 78], [69, 76, 83, 73, 70], [69, 76, 83, 69], [87, 72, 73, 76, 69], [68, 79], [82, 69, 80, 69, 65, 84], [85, 78, 84, 73, 76], [82, 69, 84, 85, 82, 78], [65, 82, 82, 65, 89], [79, 70], [82, 69, 67, 79, 82, 68], [80, 79, 73, 78, 84, 69, 82], [84, 79], [78, 73, 76], [84, 82, 85, 69], [70, 65, 76, 83, 69], [68, 73, 86], [77, 79, 68], [79, 82], [73, 83], [78, 69, 87], [79, 85, 84], [71, 69, 84], [65, 83, 83, 69, 82, 84]]
def keptText : ByteArray := ⟨#[77, 79, 68, 85, 76, 69, 32, 73, 77, 80, 79, 82, 84, 32, 67, 79, 78, 83, 84, 32, 84, 89, 80, 69, 32, 86, 65, 82, 32, 80, 82, 79, 67, 69, 68, 85, 82, 69, 32, 66, 69, 71, 73, 78, 32, 69, 78, 68, 32, 73, 70, 32, 84, 72, 69, 78, 32, 69, 76, 83, 73, 70, 32, 69, 76, 83, 69, 32, 87, 72, 73, 76, 69, 32, 68, 79, 32, 82, 69, 80, 69, 65, 84, 32, 85, 78, 84, 73, 76, 32, 82, 69, 84, 85, 82, 78, 32, 65, 82, 82, 65, 89, 32, 79, 70, 32, 82, 69, 67, 79, 82, 68, 32, 80, 79, 73, 78, 84, 69, 82, 32, 84, 79, 32, 78, 73, 76, 32, 84, 82, 85, 69, 32, 70, 65, 76, 83, 69, 32, 68, 73, 86, 32, 77, 79, 68, 32, 79, 82, 32, 73, 83, 32, 78, 69, 87, 32, 79, 85, 84, 32, 71, 69, 84, 32, 65, 83, 83, 69, 82, 84]⟩
theorem kept_fields : Lib.fields keptText.data.toList = keptL := by decide +kernel
theorem kept_ascii : ∀ (j : Nat) b, keptText.data.toList[j]? = some b → b.toNat < 128 := by
  intro j b h
  have : ∀ b ∈ keptText.data.toList, b.toNat < 128 := by decide +kernel
  exact this b (List.mem_of_getElem? h)
theorem kept_len : keptL.length = 33 := rfl
def keptB (l : List UInt8) : Bool := keptL.contains l
theorem law9 : Keyed Tryz.prog 9 := string_keyed Tryz.underlying9
theorem zero74 (w : World) : (zeroValue 108).run Tryz.prog w = .ok (.agg #[]) w := by kernel_rfl
theorem kept_short (k : Nat) (h : k < keptL.length) : (⟨(keptL[k]).toArray⟩ : ByteArray).size ≤ maxLen := by
  have h1 : ∀ x ∈ keptL, x.length ≤ 20 := by decide
  have h2 := h1 _ (List.getElem_mem h)
  unfold maxLen
  simp [ByteArray.size]
  omega
/-- The set of the first k kept words. -/
def keptSet (k : Nat) : DataW Unit := setOf (.agg []) ((keptL.take k).map Lit.string)
theorem keptSet_succ (k : Nat) (h : k < keptL.length) : keptSet (k + 1) = (keptSet k).put (.string (keptL[k])) (.agg []) := by
  unfold keptSet
  rw [List.take_succ_eq_append_getElem h, List.map_append, List.map_cons, List.map_nil, setOf_snoc]
theorem keptSet_has (l : List UInt8) : Maps.has (keptSet 33) (.string l) = keptB l := by
  unfold keptSet keptB
  rw [has_setOf _ _ _ (by intro x hx; obtain ⟨y, _, rfl⟩ := List.mem_map.1 hx; trivial), List.take_of_length_le (by rw [kept_len]; exact Nat.le_refl _), List.any_map]
  rw [Bool.eq_iff_iff, List.any_eq_true, List.contains_iff_mem]
  constructor
  · rintro ⟨x, hx, h⟩
    have e : x = l := by simpa [Lit.sameKey] using h
    rw [← e]; exact hx
  · intro h
    exact ⟨l, h, by simp [Lit.sameKey]⟩
theorem gTab : Tryz.prog.globalNamed "strings.asciiSpace" = some 2 := by kernel_rfl
theorem tab_lt {w : World} (h : Lib.TabIs Tryz.prog w "strings.asciiSpace" .u8 Lib.asciiSpaceTab) : 2 < w.heap.size := by
  have hc := h.cell gTab 0 (by rw [Lib.asciiSpaceTab_length]; omega)
  rcases Nat.lt_or_ge 2 w.heap.size with h' | h'
  · exact h'
  · simp [World.cell?, Array.getElem?_eq_none h'] at hc
theorem tab_below {w w' : World} (h : Lib.TabIs Tryz.prog w "strings.asciiSpace" .u8 Lib.asciiSpaceTab) (hb : Below w.heap.size w w') : Lib.TabIs Tryz.prog w' "strings.asciiSpace" .u8 Lib.asciiSpaceTab :=
  var?_below hb gTab (tab_lt h) h
theorem keptCell {w : World} {k : Nat} (h : k < 33) : (w.alloc (.cells (keptL.map fun l => Value.string ⟨l.toArray⟩).toArray 9)).cell? ⟨w.heap.size, k, none⟩ = some (.string ⟨(keptL[k]'(by rw [kept_len]; exact h)).toArray⟩) := by
  rw [World.cell?_alloc_at _ _ _ _ rfl]
  simp [List.getElem?_eq_getElem (show k < keptL.length by rw [kept_len]; exact h)]
set_option maxRecDepth 1000000 in
set_option maxHeartbeats 1000000 in
theorem lexicon_any (w : World) (htab : Lib.TabIs Tryz.prog w "strings.asciiSpace" .u8 Lib.asciiSpaceTab) :
    Calls Tryz.prog 46 #[] w fun e w' => e = .returned (.agg #[.map (some (w.heap.size + 1))]) ∧ w'.ownsMap Tryz.prog 9 (unitElem (H := Unit)) (w.heap.size + 1) 33 (keptSet 33) ∧ Below w.heap.size w w' := by
  have hmm := @run_makeMap Tryz.prog
  have HTB := hide (fun w' (hb : Below w.heap.size w w') => tab_below htab hb)
  clear htab
  go_enter Tryz.func46, Tryz.ntmps46
  go_wp2_with fail
  show Calls Tryz.prog 76 #[.string keptText] _ _
  refine (Tryz.strings_Fields keptText _ (by decide) kept_ascii (HTB.out _ (((Below.refl _ _).alloc (Nat.le_refl _) _).alloc (by simp) _))).mono ?_
  rintro e w1 ⟨he, hw1⟩
  rw [kept_fields, kept_len] at he
  subst he
  have hsz : w1.heap.size = w.heap.size + 3 := by rw [hw1]; simp
  have hcell : ∀ (k : Nat) (h : k < 33), w1.cell? ⟨w.heap.size + 1 + 1, k, none⟩ = some (.string ⟨(keptL[k]'(by rw [kept_len]; exact h)).toArray⟩) := fun k h => by
    have hk := keptCell (w := (w.alloc (.cells #[.map none] 74)).alloc (.map #[] 0)) h
    simp only [World.size_alloc] at hk
    rw [hw1, kept_fields]
    exact hk
  have hmap : w1.ownsMap Tryz.prog 9 (unitElem (H := Unit)) (w.heap.size + 1) 0 (keptSet 0) := by
    rw [hw1]
    have hk := (World.ownsMap_made (w.alloc (.cells #[.map none] 74)) Tryz.prog 9 (unitElem (H := Unit))).alloc (.cells ((Lib.fields keptText.data.toList).map fun l => Value.string ⟨l.toArray⟩).toArray 9)
    simp only [World.size_alloc] at hk
    exact hk
  have hb1 : Below w.heap.size w w1 := by rw [hw1]; exact (((Below.refl _ _).alloc (Nat.le_refl _) _).alloc (by simp) _).alloc (by simp; omega) _
  have hbc : w1.cell? ⟨w.heap.size, 0, none⟩ = some (.map none) := by
    rw [hw1, World.cell?_alloc_lt _ _ _ (by simp; omega), World.cell?_alloc_lt _ _ _ (by simp)]; simp
  have hbz : w1.frozen? ⟨w.heap.size, 0, none⟩ = false := by
    rw [hw1, World.frozen?_alloc_old _ _ _ (by simp; omega), World.frozen?_alloc_old _ _ _ (by simp)]; simp
  simp only [World.size_alloc]
  have HC := hide hcell
  have HM := hide hmap
  have HB := hide hb1
  have HBC := hide hbc
  have HBZ := hide hbz
  have HSZ := hide hsz
  clear hw1 hsz hcell hmap hb1 hbc hbz HTB hmm
  go_wp2
  go_loopw [7] (fun iv wr => ∃ k : Nat, k ≤ 33 ∧ iv = .int .i64 k ∧ Hid (wr.ownsMap Tryz.prog 9 (unitElem (H := Unit)) (w.heap.size + 1) k (keptSet k)) ∧ Hid (w1.grownBy wr (some (w.heap.size + 1)))) (fun iv _ => 33 - (intOf iv).toNat)
  case atStart => exact ⟨0, by omega, rfl, HM, gb_refl _ _⟩
  case round =>
    obtain ⟨k, hk, rfl, HO, HG⟩ := hrel
    have hsz := HSZ.out
    by_cases hlt : k < 33
    · have d0 : wr.cell? ⟨w.heap.size + 1 + 1, k, none⟩ = _ := cell_far HG.out (HC.out k hlt) (by simp)
      have hls : k < keptL.length := by rw [kept_len]; exact hlt
      have hkey : keyOf Tryz.prog 9 (.string ⟨(keptL[k]'hls).toArray⟩) = some (.string (keptL[k]'hls)) := by
        have := keyOf_string_mk (P := Tryz.prog) Tryz.underlying9 (s := ⟨(keptL[k]'hls).toArray⟩) (kept_short k hls)
        simpa using this
      have hsucc := keptSet_succ k hls
      generalize keptL[k]'hls = x at d0 hkey hsucc
      have HS := hide hsucc
      have HK := hide hkey
      clear hsucc hkey
      go_wp2_with (first | (at_mapUpdate; refine wpList_mapUpdate_own _ rfl _ _ _ 72 rfl 9 108 law9 Tryz.underlying72 (unitElem (H := Unit)) (w.heap.size + 1) k _ rfl HO.out (by unfold maxLen; omega) _ _ _ rfl rfl HK.out (.agg []) [] unitElem_mk ?_; intro w3 hown3 hg3))
      exact ⟨⟨k + 1, by omega, by go_num, by rw [HS.out]; exact hown3, gb_trans HG.out hg3⟩, by simp [intOf]; omega⟩
    · obtain rfl : k = 33 := by omega
      have c0 := cell_far HG.out HBC.out (by simp)
      have z0 := frozen_far HG.out (by simp; omega) HBZ.out (by simp)
      have hbb : Below w.heap.size w wr := HB.out.grown HG.out (by omega) (fun j hj => by cases hj; omega)
      have HBB := hide hbb
      have HOS := hide (HO.out.setCell (a := ⟨w.heap.size, 0, none⟩) (by simp) (.map (some (w.heap.size + 1))))
      have g0 : (wr.setCell ⟨w.heap.size, 0, none⟩ (.map (some (w.heap.size + 1)))).cell? ⟨w.heap.size, 0, none⟩ = some (.map (some (w.heap.size + 1))) := World.cell?_setCell_same _ _ _ c0
      clear hbb HG HO HBC HBZ HC HM HB hsz HSZ
      go_wp2
      exact bodyPost_ret (v := .agg #[.map (some (w.heap.size + 1))]) (by simp [results, Tryz.results46, go_sem, g0]) rfl ⟨rfl, HOS.out, HBB.out.setCell (by simp) _⟩
/-- A lexicon's map, wherever it lies. -/
def IsLex (w : World) (b : Nat) : Prop := w.ownsMap Tryz.prog 9 (unitElem (H := Unit)) b 33 (keptSet 33)
theorem IsLex.below {w w' : World} {b : Nat} (h : IsLex w b) (hb : Below w.heap.size w w') : IsLex w' b := World.ownsMap.kept h (⟨hb.os, hb.tape, hb.output, hb.size, fun i hi _ => hb.block i hi⟩ : w.grownBy w' none) (by simp)
set_option maxRecDepth 1000000 in
set_option maxHeartbeats 1000000 in
theorem lexKept_any (b : Nat) (s : ByteArray) (w : World) (hs : s.size ≤ maxLen) (hx : IsLex w b) :
    Calls Tryz.prog 139 #[.agg #[.map (some b)], .string s] w fun e w' => e = .returned (.bool (keptB s.data.toList)) ∧ Below w.heap.size w w' := by
  have HK := hide (keyOf_string_mk (P := Tryz.prog) Tryz.underlying9 (s := s) hs)
  have HX := fun o => hide (World.ownsMap.alloc hx o)
  have HH := hide (keptSet_has s.data.toList)
  clear hx
  go_enter Tryz.func139, Tryz.ntmps139
  go_wp2_with (first | (at_lookup; refine wpList_lookup_own_unit _ rfl _ _ 72 rfl 9 108 law9 Tryz.underlying72 (zero74 _) b 33 (keptSet 33) rfl (HX _).out _ _ rfl HK.out ?_; rw [HH.out]))
  go_ret
  exact ⟨rfl, ((Below.refl _ _).alloc (Nat.le_refl _) _).alloc (by simp) _⟩
/-- A word that could be a name, kept or not. -/
def shapeB (l : List UInt8) : Bool := !l.isEmpty && decide (l.length ≤ 12) && isLetter (l.headD 0).toNat && l.all (fun c => lod c.toNat)
def nameB (l : List UInt8) : Bool := shapeB l && !keptB l
theorem get_mem (s : ByteArray) (k : Nat) (h : k < s.size) : s[k] ∈ s.data.toList := mem_get s k h
theorem headD_zero (s : ByteArray) (h : 0 < s.size) : s.data.toList.headD 0 = s[0] := (take_head s h).1
theorem shape_empty (s : ByteArray) (h : s.size = 0) : nameB s.data.toList = false := by
  have : s.data.toList = [] := List.eq_nil_of_length_eq_zero (by rw [← bs_size]; exact h)
  rw [this]; rfl
theorem shape_long (s : ByteArray) (h : 12 < s.size) : nameB s.data.toList = false := by
  unfold nameB shapeB
  rw [← bs_size]
  simp [show ¬ s.size ≤ 12 by omega]
theorem shape_not_lod (s : ByteArray) (k : Nat) (h : k < s.size) (hl : lod (s[k]).toNat = false) : nameB s.data.toList = false := by
  unfold nameB shapeB
  have : s.data.toList.all (fun c => lod c.toNat) = false := by
    rw [List.all_eq_false]
    exact ⟨s[k], get_mem s k h, by simp [hl]⟩
  rw [this]; simp
theorem shape_not_letter (s : ByteArray) (h : 0 < s.size) (hl : isLetter (s[0]).toNat = false) : nameB s.data.toList = false := by
  unfold nameB shapeB
  rw [headD_zero s h, hl]; simp
theorem shape_yes (s : ByteArray) (h0 : 0 < s.size) (h12 : s.size ≤ 12) (hl : isLetter (s[0]).toNat = true) (ha : ∀ (j : Nat) (h : j < s.size), lod (s[j]'h).toNat = true) : nameB s.data.toList = !keptB s.data.toList := by
  unfold nameB shapeB
  have h1 : s.data.toList.all (fun c => lod c.toNat) = true := by
    rw [List.all_eq_true]
    intro c hc
    obtain ⟨j, hj, rfl⟩ := List.getElem_of_mem hc
    exact ha j (by rw [bs_size]; exact hj)
  have h2 : s.data.toList.isEmpty = false := by
    cases h : s.data.toList with
    | nil => rw [bs_size, h] at h0; simp at h0
    | cons a l => rfl
  rw [headD_zero s h0, hl, h1, h2, ← bs_size]
  simp [h12]
theorem empty_form (s : ByteArray) : s.toList.isEmpty = decide (s.size = 0) := by
  rw [bs_toList, bs_size]
  cases s.data.toList <;> simp

set_option maxRecDepth 1000000 in
set_option maxHeartbeats 1000000 in
theorem lexName_any (b : Nat) (s : ByteArray) (w : World) (hs : s.size ≤ maxLen) (hx : IsLex w b) :
    Calls Tryz.prog 112 #[.agg #[.map (some b)], .string s] w fun e w' => e = .returned (.bool (nameB s.data.toList)) ∧ Below w.heap.size w w' := by
  by_cases h0 : s.size = 0
  · have hemp : s.toList.isEmpty = true := by rw [empty_form]; simp [h0]
    have HN := hide (shape_empty s h0)
    clear h0 hx
    go_enter Tryz.func112, Tryz.ntmps112
    go_wp2
    go_ret
    exact ⟨by rw [HN.out]; rfl, (Below.refl _ _).alloc (Nat.le_refl _) _⟩
  · have hemp : s.toList.isEmpty = false := by rw [empty_form]; simp [h0]
    by_cases h12 : 12 < s.size
    · have HN := hide (shape_long s h12)
      clear h0 hx
      unfold maxLen at hs
      go_enter Tryz.func112, Tryz.ntmps112
      go_wp2
      go_ret
      exact ⟨by rw [HN.out]; rfl, (Below.refl _ _).alloc (Nat.le_refl _) _⟩
    · have h1 : 1 ≤ s.size := by omega
      have h13 : s.size ≤ 12 := by omega
      have HX := hide hx
      clear h0 h12 hx
      go_enter Tryz.func112, Tryz.ntmps112
      go_wp2
      go_loopw [6] (fun _ wr => ∃ k : Nat, wr = (w.alloc (.cells #[.map (some b)] 74)).iter s k ∧ k ≤ s.size ∧ Hid (0 < k → ∀ h : 0 < s.size, isLetter (s[0]'h).toNat = true) ∧ Hid (∀ (j : Nat) (h : j < s.size), j < k → lod (s[j]'h).toNat = true)) (fun _ wr => s.size - wr.iterPos (w.alloc (.cells #[.map (some b)] 74)).heap.size)
      case atStart => exact ⟨0, rfl, Nat.zero_le _, fun h => by omega, fun j h hj => by omega⟩
      case round =>
        obtain ⟨k, rfl, hk, HL, HB⟩ := hrel
        have hsz : (w.alloc (.cells #[.map (some b)] 74)).heap.size = w.heap.size + 1 := by simp
        by_cases hlt : k < s.size
        · have hnx : ∀ ty, (Instr.next (.pointer (some ⟨(w.alloc (.cells #[.map (some b)] 74)).heap.size, 0, none⟩)) true ty).run Tryz.prog ((w.alloc (.cells #[.map (some b)] 74)).iter s k) = _ := fun ty => run_next_any (w.alloc (.cells #[.map (some b)] 74)) s k ty hlt
          rw [hsz] at hnx
          have hlast : ∀ w', Below w.heap.size w ((w.alloc (.cells #[.map (some b)] 74)).iter s w') := fun w' => ((Below.refl _ _).alloc (Nat.le_refl _) _).alloc (by simp) _
          have HLa := hide hlast
          clear hlast hsz
          have hdec : isLetter (Utf8.decode s k).1 = isLetter (s[k]'hlt).toNat ∧ isDigit (Utf8.decode s k).1 = isDigit (s[k]'hlt).toNat := by
            by_cases ha : (s[k]'hlt).toNat < 128
            · rw [decode_ascii s k hlt ha]; exact ⟨rfl, rfl⟩
            · have hd := (decode_high s k hlt (by omega)).1
              have f1 : ∀ n : Int, 128 ≤ n → isLetter n = false := fun n hn => by simp [isLetter]; omega
              exact ⟨by rw [f1 _ (by omega), f1 _ (by omega)], by rw [digit_high (by omega), digit_high (by omega)]⟩
          cases hl : isLetter (s[k]'hlt).toNat
          · have hl' := hdec.1.trans hl
            by_cases hk0 : k = 0
            · subst hk0
              have HN := hide (shape_not_letter s hlt hl)
              clear hl hdec
              go_wp2_with (go_at_call 137; refine (letter_any _ _).mono ?_; rintro e w' ⟨rfl, rfl⟩; simp only [hl'])
              go_ret
              exact ⟨by rw [HN.out]; rfl, HLa.out _⟩
            · have hz : ((k : Int) == 0) = false := by simp; omega
              cases hd : isDigit (s[k]'hlt).toNat
              · have hd' := hdec.2.trans hd
                have HN := hide (shape_not_lod s k hlt (by simp [lod, hl, hd]))
                clear hl hd hdec
                go_wp2_with (first | (go_at_call 137; refine (letter_any _ _).mono ?_; rintro e w' ⟨rfl, rfl⟩; simp only [hl']) | (go_at_call 138; refine (digit_any _ _).mono ?_; rintro e w' ⟨rfl, rfl⟩; simp only [hd']))
                go_ret
                exact ⟨by rw [HN.out]; rfl, HLa.out _⟩
              · have hd' := hdec.2.trans hd
                have HN : Hid (lod (s[k]'hlt).toNat = true) := by unfold lod; rw [hl, hd]; rfl
                have ha : (s[k]'hlt).toNat < 128 := by
                  rcases Nat.lt_or_ge (s[k]'hlt).toNat 128 with h | h
                  · exact h
                  · rw [digit_high (by omega)] at hd; cases hd
                rw [decode_ascii s k hlt ha] at hnx hl' hd'
                clear hl hd hdec
                go_wp2_with (first | (go_at_call 137; refine (letter_any _ _).mono ?_; rintro e w' ⟨rfl, rfl⟩; simp only [hl']) | (go_at_call 138; refine (digit_any _ _).mono ?_; rintro e w' ⟨rfl, rfl⟩; simp only [hd']))
                go_roundw
                case rel => exact ⟨k + 1, rfl, by omega, fun _ h => HL.out (by omega) h, fun j h hj => by
                  rcases Nat.lt_or_ge j k with h1 | h1
                  · exact HB.out j h h1
                  · obtain rfl : j = k := by omega
                    exact HN.out⟩
                case measure => simp only [World.iterPos_iter]; omega
          · have hl' := hdec.1.trans hl
            have HN : Hid (lod (s[k]'hlt).toNat = true) := by unfold lod; rw [hl]; rfl
            have HL2 : Hid (isLetter (s[k]'hlt).toNat = true) := hl
            have ha : (s[k]'hlt).toNat < 128 := by
              rcases Nat.lt_or_ge (s[k]'hlt).toNat 128 with h | h
              · exact h
              · have : isLetter (s[k]'hlt).toNat = false := by simp [isLetter]; omega
                rw [this] at hl; cases hl
            rw [decode_ascii s k hlt ha] at hnx hl'
            clear hl hdec
            go_wp2_with (go_at_call 137; refine (letter_any _ _).mono ?_; rintro e w' ⟨rfl, rfl⟩; simp only [hl'])
            go_roundw
            case rel => exact ⟨k + 1, rfl, by omega, fun _ h => by
              rcases Nat.eq_zero_or_pos k with h0 | h0
              · subst h0; exact HL2.out
              · exact HL.out h0 h, fun j h hj => by
              rcases Nat.lt_or_ge j k with h1 | h1
              · exact HB.out j h h1
              · obtain rfl : j = k := by omega
                exact HN.out⟩
            case measure => simp only [World.iterPos_iter]; omega
        · have hnx : ∀ ty, (Instr.next (.pointer (some ⟨(w.alloc (.cells #[.map (some b)] 74)).heap.size, 0, none⟩)) true ty).run Tryz.prog ((w.alloc (.cells #[.map (some b)] 74)).iter s k) = _ := fun ty => run_next_end (w.alloc (.cells #[.map (some b)] 74)) s k ty hlt
          rw [hsz] at hnx
          have HN := hide (shape_yes s (by omega) h13 (HL.out (by omega) (by omega)) (fun j h => HB.out j h (by omega)))
          have hb : Below w.heap.size w ((w.alloc (.cells #[.map (some b)] 74)).iter s k) := ((Below.refl _ _).alloc (Nat.le_refl _) _).alloc (by simp) _
          have c0 : ((w.alloc (.cells #[.map (some b)] 74)).iter s k).cell? ⟨w.heap.size, 0, none⟩ = some (.map (some b)) := by
            show (World.alloc _ _).cell? _ = _
            rw [World.cell?_alloc_lt _ _ _ (by simp)]; simp
          have HX2 : Hid (IsLex ((w.alloc (.cells #[.map (some b)] 74)).iter s k) b) := HX.out.below hb
          have HBB := hide hb
          clear hb hsz HX HL HB
          go_wp2_with (go_at_call 139; refine (lexKept_any b s _ hs HX2.out).mono ?_; rintro e w1 ⟨rfl, hb1⟩)
          go_ret
          exact ⟨by rw [HN.out]; rfl, HBB.out.trans (hb1.mono HBB.out.size)⟩

/-- The list of kept words, as it lies in the document's answer: where it begins, and what room it has. -/
structure Kept33 (w : World) (a : Addr) (cap : Nat) : Prop where
  lt : a.block < w.heap.size
  head : w.cell? ⟨1, 0, none⟩ = some (.slice (some a) 33 cap)
  room : 33 ≤ cap ∧ cap ≤ maxLen
  cell : ∀ (k : Nat) (h : k < 33), w.cell? (a.add k) = some (.string ⟨(keptL[k]'(by rw [kept_len]; exact h)).toArray⟩)
theorem mem_take_succ {l : List (List UInt8)} {x : List UInt8} {k : Nat} (h : k < l.length) (h1 : x ∉ l.take k) (h2 : l[k] ≠ x) : x ∉ l.take (k + 1) := by
  rw [List.take_succ_eq_append_getElem h]
  intro hm
  rcases List.mem_append.1 hm with hm | hm
  · exact h1 hm
  · simp at hm; exact h2 hm.symm
set_option maxRecDepth 1000000 in
set_option maxHeartbeats 1000000 in
theorem in_any (s : ByteArray) (a : Addr) (cap : Nat) (w : World) (hk : Kept33 w a cap) :
    Calls Tryz.prog 66 #[.string s, .slice (some a) 33 cap] w fun e w' => e = .returned (.bool (keptB s.data.toList)) ∧ w' = w := by
  have hr := hk.room
  have HC := hide hk.cell
  clear hk
  unfold maxLen at hr
  go_enter Tryz.func66, Tryz.ntmps66
  go_wp2
  go_loop [5] (fun i => ∃ k : Nat, k ≤ 33 ∧ i = .int .i64 k ∧ Hid (s.data.toList ∉ keptL.take k)) (fun i => 33 - (intOf i).toNat)
  case atStart => exact ⟨0, by omega, rfl, by show _ ∉ _; simp⟩
  case round =>
    obtain ⟨k, hk, rfl, HB⟩ := hrel
    by_cases hlt : k < 33
    · have hls : k < keptL.length := by rw [kept_len]; exact hlt
      have hc := HC.out k hlt
      cases he : (keptL[k]'hls == s.toList)
      · have HN : Hid (s.data.toList ∉ keptL.take (k + 1)) := mem_take_succ hls HB.out (fun h => by rw [h, bs_toList] at he; simp at he)
        go_wp2
        exact ⟨⟨k + 1, by omega, by go_num, HN⟩, by simp [intOf]; omega⟩
      · have HN : Hid (keptB s.data.toList = true) := by
          have e : keptL[k]'hls = s.data.toList := by rw [← bs_toList]; simpa using he
          show keptL.contains _ = true
          rw [List.contains_iff_mem, ← e]
          exact List.getElem_mem hls
        go_wp2
        go_ret
        exact ⟨by rw [HN.out]; rfl, rfl⟩
    · have hc : Hid (keptB s.data.toList = false) := by
        have e : keptL.take k = keptL := List.take_of_length_le (by rw [kept_len]; omega)
        have := HB.out
        rw [e] at this
        show keptL.contains _ = false
        rw [Bool.eq_false_iff, ne_eq, List.contains_iff_mem]
        exact this
      go_wp2
      go_ret
      exact ⟨by rw [hc.out]; rfl, rfl⟩
theorem keptRef_any (s : ByteArray) (a : Addr) (cap : Nat) (w : World) (hk : Kept33 w a cap) :
    Calls Tryz.prog 68 #[.string s] w fun e w' => e = .returned (.bool (keptB s.data.toList)) ∧ w' = w := by
  have c0 := hk.head
  have HK := hide hk
  clear hk
  go_enter Tryz.func68, Tryz.ntmps68
  go_wp2_with (go_at_call 66; refine (in_any s a cap _ HK.out).mono ?_; rintro e w' ⟨rfl, rfl⟩)
  go_ret
  exact ⟨rfl, rfl⟩
set_option maxRecDepth 1000000 in
set_option maxHeartbeats 1000000 in
theorem nameRef_any (s : ByteArray) (a : Addr) (cap : Nat) (w : World) (hs : s.size ≤ maxLen) (hk : Kept33 w a cap) :
    Calls Tryz.prog 36 #[.string s] w fun e w' => e = .returned (.bool (nameB s.data.toList)) ∧ w' = w := by
  have HK := hide hk
  clear hk
  unfold maxLen at hs
  by_cases h0 : s.size = 0
  · have hemp : s.toList.isEmpty = true := by rw [empty_form]; simp [h0]
    have HN := hide (shape_empty s h0)
    clear h0
    go_enter Tryz.func36, Tryz.ntmps36
    go_wp2
    go_ret
    exact ⟨by rw [HN.out]; rfl, rfl⟩
  · have hemp : s.toList.isEmpty = false := by rw [empty_form]; simp [h0]
    by_cases h12 : 12 < s.size
    · have HN := hide (shape_long s h12)
      clear h0
      go_enter Tryz.func36, Tryz.ntmps36
      go_wp2
      go_ret
      exact ⟨by rw [HN.out]; rfl, rfl⟩
    · have h1 : 0 < s.size := by omega
      have h13 : s.size ≤ 12 := by omega
      clear h0 h12
      cases hkp : keptB s.data.toList
      · cases hl : isLetter (s[0]'h1).toNat
        · have HN := hide (shape_not_letter s h1 hl)
          go_enter Tryz.func36, Tryz.ntmps36
          go_wp2_with (first | (go_at_call 68; refine (keptRef_any s a cap _ HK.out).mono ?_; rintro e w' ⟨rfl, rfl⟩; simp only [hkp]) | (go_at_call 69; refine (rLetter_any _ _).mono ?_; rintro e w' ⟨rfl, rfl⟩; simp only [hl]))
          go_ret
          exact ⟨by rw [HN.out]; rfl, rfl⟩
        · have HN := fun ha => hide (shape_yes s h1 h13 hl ha)
          go_enter Tryz.func36, Tryz.ntmps36
          go_wp2_with (first | (go_at_call 68; refine (keptRef_any s a cap _ HK.out).mono ?_; rintro e w' ⟨rfl, rfl⟩; simp only [hkp]) | (go_at_call 69; refine (rLetter_any _ _).mono ?_; rintro e w' ⟨rfl, rfl⟩; simp only [hl]))
          clear hl
          go_loop [3] (fun i => ∃ k : Nat, k ≤ s.size ∧ i = .int .i64 k ∧ Hid (∀ (j : Nat) (h : j < s.size), j < k → lod (s[j]'h).toNat = true)) (fun i => s.size - (intOf i).toNat)
          case atStart => exact ⟨0, by omega, rfl, fun j h hj => by omega⟩
          case round =>
            obtain ⟨k, hk, rfl, HB⟩ := hrel
            by_cases hlt : k < s.size
            · cases hl : isLetter (s[k]'hlt).toNat
              · cases hd : isDigit (s[k]'hlt).toNat
                · have HF := hide (shape_not_lod s k hlt (by simp [lod, hl, hd]))
                  go_wp2_with (first | (go_at_call 69; refine (rLetter_any _ _).mono ?_; rintro e w' ⟨rfl, rfl⟩; simp only [hl]) | (go_at_call 70; refine (rDigit_any _ _).mono ?_; rintro e w' ⟨rfl, rfl⟩; simp only [hd]))
                  go_ret
                  exact ⟨by rw [HF.out]; rfl, rfl⟩
                · have HY : Hid (lod (s[k]'hlt).toNat = true) := by unfold lod; rw [hl, hd]; rfl
                  go_wp2_with (first | (go_at_call 69; refine (rLetter_any _ _).mono ?_; rintro e w' ⟨rfl, rfl⟩; simp only [hl]) | (go_at_call 70; refine (rDigit_any _ _).mono ?_; rintro e w' ⟨rfl, rfl⟩; simp only [hd]))
                  exact ⟨⟨k + 1, by omega, by go_num, fun j h hj => by
                    rcases Nat.lt_or_ge j k with h1 | h1
                    · exact HB.out j h h1
                    · obtain rfl : j = k := by omega
                      exact HY.out⟩, by simp [intOf]; omega⟩
              · have HY : Hid (lod (s[k]'hlt).toNat = true) := by unfold lod; rw [hl]; rfl
                go_wp2_with (first | (go_at_call 69; refine (rLetter_any _ _).mono ?_; rintro e w' ⟨rfl, rfl⟩; simp only [hl]))
                exact ⟨⟨k + 1, by omega, by go_num, fun j h hj => by
                  rcases Nat.lt_or_ge j k with h1 | h1
                  · exact HB.out j h h1
                  · obtain rfl : j = k := by omega
                    exact HY.out⟩, by simp [intOf]; omega⟩
            · have HY := HN (fun j h => HB.out j h (by omega))
              go_wp2
              go_ret
              exact ⟨by rw [HY.out, hkp]; rfl, rfl⟩
      · have HN : Hid (nameB s.data.toList = false) := by unfold nameB; rw [hkp]; simp [Hid]
        go_enter Tryz.func36, Tryz.ntmps36
        go_wp2_with (first | (go_at_call 68; refine (keptRef_any s a cap _ HK.out).mono ?_; rintro e w' ⟨rfl, rfl⟩; simp only [hkp]))
        go_ret
        exact ⟨by rw [HN.out]; rfl, rfl⟩
end Go.Proofs.YtlkokcnbbihljaaGreatDoor
