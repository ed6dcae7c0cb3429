/- The kept words as they lie in a lexicon's map,and what a lexicon answers. -/
import Derived.Test.YtnmkffjklpfflaaGreatDoorG02
import Derived.Test.YtnmkffjklpfflaaGreatDoorG01
import GoSem.Op.String
import Derived.Maps.Own
import Derived.Maps.OwnSet
namespace Go.Proofs.YtnmkffjklpfflaaGreatDoor
open Go.RowKit Go.Maps Go.WideMaps Go.WideElems
set_option maxHeartbeats 1000000
set_option maxRecDepth 1000000
def xG : List (List UInt8) := [[77,79,68,85,76,69],[73,77,80,79,82,84],[67,79,78,83,84],[84,89,80,69],[86,65,82],[80,82,79,67,69,68,85,82,69],[66,69,71,73,78],[69,78,68],[73,70],[84,72,69,78],[69,76,83,73,70],[69,76,83,69],[87,72,73,76,69],[68,79],[82,69,80,69,65,84],[85,78,84,73,76],[82,69,84,85,82,78],[65,82,82,65,89],[79,70],[82,69,67,79,82,68],[80,79,73,78,84,69,82],[84,79],[78,73,76],[84,82,85,69],[70,65,76,83,69],[68,73,86],[77,79,68],[79,82],[73,83],[78,69,87],[79,85,84],[71,69,84],[65,83,83,69,82,84]]
def ug : ByteArray := ⟨#[77,79,68,85,76,69,32,73,77,80,79,82,84,32,67,79,78,83,84,32,84,89,80,69,32,86,65,82,32,80,82,79,67,69,68,85,82,69,32,66,69,71,73,78,32,69,78,68,32,73,70,32,84,72,69,78,32,69,76,83,73,70,32,69,76,83,69,32,87,72,73,76,69,32,68,79,32,82,69,80,69,65,84,32,85,78,84,73,76,32,82,69,84,85,82,78,32,65,82,82,65,89,32,79,70,32,82,69,67,79,82,68,32,80,79,73,78,84,69,82,32,84,79,32,78,73,76,32,84,82,85,69,32,70,65,76,83,69,32,68,73,86,32,77,79,68,32,79,82,32,73,83,32,78,69,87,32,79,85,84,32,71,69,84,32,65,83,83,69,82,84]⟩
theorem kT : Lib.fields ug.data.toList = xG := by decide +kernel
theorem sE : ∀ (j : Nat) b,ug.data.toList[j]? = some b -> b.toNat < 128 := by
 intro j b h
 have : ∀ b ∈ ug.data.toList,b.toNat < 128 := by decide +kernel
 exact this b (List.mem_of_getElem? h)
theorem ub : xG.length = 33 := rfl
def tv (l : List UInt8) : Bool := xG.contains l
theorem li : Keyed Tryz.prog 9 := string_keyed Tryz.underlying9
theorem mN (w : World) : (zeroValue 141).run Tryz.prog w = .ok (.agg #[]) w := by kernel_rfl
theorem sS (k : Nat) (h : k < xG.length) : (⟨(xG[k]).toArray⟩ : ByteArray).size <= maxLen := by
 have h1 : ∀ x ∈ xG,x.length <= 20 := by decide
 have h2 := h1 _ (List.getElem_mem h)
 unfold maxLen
 simp [ByteArray.size]
 omega
def xY (k : Nat) : DataW Unit := setOf (.agg []) ((xG.take k).map Lit.string)
theorem dm (k : Nat) (h : k < xG.length) : xY (k + 1) = (xY k).put (.string (xG[k])) (.agg []) := by
 unfold xY
 rw [List.take_succ_eq_append_getElem h,List.map_append,List.map_cons,List.map_nil,setOf_snoc]
theorem sn (l : List UInt8) : Maps.has (xY 33) (.string l) = tv l := by
 unfold xY tv
 rw [has_setOf _ _ _ (by intro x hx; obtain ⟨_,_,rfl⟩ := List.mem_map.1 hx; trivial),List.take_of_length_le (by rw [ub]; exact Nat.le_refl _),List.any_map]; rw [Bool.eq_iff_iff,List.any_eq_true,List.contains_iff_mem]
 constructor
 ·rintro ⟨x,hx,h⟩
  have e : x = l := by simpa [Lit.sameKey] using h
  rw [<- e]; exact hx
 ·intro h
  exact ⟨l,h,by simp [Lit.sameKey]⟩
theorem mU : Tryz.prog.globalNamed "strings.asciiSpace" = some 1 := by kernel_rfl
theorem mT {w : World} (h : Lib.TabIs Tryz.prog w "strings.asciiSpace" .u8 Lib.asciiSpaceTab) : 1 < w.heap.size := by
 have hc := h.cell mU 0 (by rw [Lib.asciiSpaceTab_length]; omega)
 rcases Nat.lt_or_ge 1 w.heap.size with h' | h'
 ·exact h'
 ·simp [World.cell?,Array.getElem?_eq_none h'] at hc
theorem ui {w w' : World} (h : Lib.TabIs Tryz.prog w "strings.asciiSpace" .u8 Lib.asciiSpaceTab) (hb : Below w.heap.size w w') : Lib.TabIs Tryz.prog w' "strings.asciiSpace" .u8 Lib.asciiSpaceTab :=
 var?_below hb mU (mT h) h
theorem oS {w : World} {k : Nat} (h : k < 33) : (w.alloc (.cells (xG.map fun l => Value.string ⟨l.toArray⟩).toArray 9)).cell? ⟨w.heap.size,k,none⟩ = some (.string ⟨(xG[k]'(by rw [ub]; exact h)).toArray⟩) := by
 rw [World.cell?_alloc_at _ _ _ _ rfl]
 simp [List.getElem?_eq_getElem (show k < xG.length by rw [ub]; exact h)]
theorem sa (w : World) (htab : Lib.TabIs Tryz.prog w "strings.asciiSpace" .u8 Lib.asciiSpaceTab) :
  Calls Tryz.prog 51 #[] w fun e w' => e = .returned (.agg #[.map (some (w.heap.size + 1))]) /\ w'.ownsMap Tryz.prog 9 (unitElem (H := Unit)) (w.heap.size + 1) 33 (xY 33) /\ Below w.heap.size w w' := by
 have hmm := @run_makeMap Tryz.prog; have HTB := ze (fun w' (hb : Below w.heap.size w w') => ui htab hb); clear htab
 go_enter Tryz.func51,Tryz.ntmps51
 go_wp2_with fail
 show Calls Tryz.prog 66 #[.string ug] _ _
 refine (Tryz.strings_Fields ug _ (by decide) sE (HTB.out _ (((Below.refl _ _).alloc (Nat.le_refl _) _).alloc (by simp) _))).mono ?_; rintro e w1 ⟨he,hw1⟩; rw [kT,ub] at he; subst he
 have hsz : w1.heap.size = w.heap.size + 3 := by rw [hw1]; simp
 have hcell : ∀ (k : Nat) (h : k < 33),w1.cell? ⟨w.heap.size + 1 + 1,k,none⟩ = some (.string ⟨(xG[k]'(by rw [ub]; exact h)).toArray⟩) := fun k h => by
  have hk := oS (w := (w.alloc (.cells #[.map none] 123)).alloc (.map #[] 0)) h; simp only [World.size_alloc] at hk; rw [hw1,kT]
  exact hk
 have hmap : w1.ownsMap Tryz.prog 9 (unitElem (H := Unit)) (w.heap.size + 1) 0 (xY 0) := by
  rw [hw1]; have hk := (World.ownsMap_made (w.alloc (.cells #[.map none] 123)) Tryz.prog 9 (unitElem (H := Unit))).alloc (.cells ((Lib.fields ug.data.toList).map fun l => Value.string ⟨l.toArray⟩).toArray 9); simp only [World.size_alloc] at hk
  exact hk
 have hb1 : Below w.heap.size w w1 := by rw [hw1]; exact (((Below.refl _ _).alloc (Nat.le_refl _) _).alloc (by simp) _).alloc (by simp; omega) _
 have hbc : w1.cell? ⟨w.heap.size,0,none⟩ = some (.map none) := by
  rw [hw1,World.cell?_alloc_lt _ _ _ (by simp; omega),World.cell?_alloc_lt _ _ _ (by simp)]; simp
 have hbz : w1.frozen? ⟨w.heap.size,0,none⟩ = false := by
  rw [hw1,World.frozen?_alloc_old _ _ _ (by simp; omega),World.frozen?_alloc_old _ _ _ (by simp)]; simp
 simp only [World.size_alloc]; have HC := ze hcell; have HM := ze hmap; have HB := ze hb1; have HBC := ze hbc; have HBZ := ze hbz; have HSZ := ze hsz; clear hw1 hsz hcell hmap hb1 hbc hbz HTB hmm; go_wp2
 go_loopw [7] (fun iv wr => ∃ k : Nat,k <= 33 /\ iv = .int .i64 k /\ Hid (wr.ownsMap Tryz.prog 9 (unitElem (H := Unit)) (w.heap.size + 1) k (xY k)) /\ Hid (w1.grownBy wr (some (w.heap.size + 1)))) (fun iv _ => 33 - (intOf iv).toNat)
 case atStart => exact ⟨0,by omega,rfl,HM,zc _ _⟩
 case round =>
  obtain ⟨k,hk,rfl,HO,HG⟩ := hrel; have hsz := HSZ.out
  by_cases hlt : k < 33
  ·have d0 : wr.cell? ⟨w.heap.size + 1 + 1,k,none⟩ = _ := zC HG.out (HC.out k hlt) (by simp)
   have hls : k < xG.length := by rw [ub]; exact hlt
   have hkey : keyOf Tryz.prog 9 (.string ⟨(xG[k]'hls).toArray⟩) = some (.string (xG[k]'hls)) := by
    have := keyOf_string_mk (P := Tryz.prog) Tryz.underlying9 (s := ⟨(xG[k]'hls).toArray⟩) (sS k hls)
    simpa using this
   have hsucc := dm k hls
   generalize xG[k]'hls = x at d0 hkey hsucc
   have HS := ze hsucc; have HK := ze hkey; clear hsucc hkey
   go_wp2_with (first | (at_mapUpdate; refine wpList_mapUpdate_own _ rfl _ _ _ 121 rfl 9 141 li Tryz.underlying121 (unitElem (H := Unit)) (w.heap.size + 1) k _ rfl HO.out (by unfold maxLen; omega) _ _ _ rfl rfl HK.out (.agg []) [] unitElem_mk ?_; intro w3 hown3 hg3))
   exact ⟨⟨k + 1,by omega,by go_num,by rw [HS.out]; exact hown3,za HG.out hg3⟩,by simp [intOf]; omega⟩
  ·obtain rfl : k = 33 := by omega
   have c0 := zC HG.out HBC.out (by simp); have z0 := zV HG.out (by simp; omega) HBZ.out (by simp); have hbb : Below w.heap.size w wr := HB.out.grown HG.out (by omega) (fun j hj => by cases hj; omega); have HBB := ze hbb; have HOS := ze (HO.out.setCell (a := ⟨w.heap.size,0,none⟩) (by simp) (.map (some (w.heap.size + 1)))); have g0 : (wr.setCell ⟨w.heap.size,0,none⟩ (.map (some (w.heap.size + 1)))).cell? ⟨w.heap.size,0,none⟩ = some (.map (some (w.heap.size + 1))) := World.cell?_setCell_same _ _ _ c0; clear hbb HG HO HBC HBZ HC HM HB hsz HSZ; go_wp2
   exact bodyPost_ret (v := .agg #[.map (some (w.heap.size + 1))]) (by simp [results,Tryz.results51,go_sem,g0]) rfl ⟨rfl,HOS.out,HBB.out.setCell (by simp) _⟩
def IsLex (w : World) (b : Nat) : Prop := w.ownsMap Tryz.prog 9 (unitElem (H := Unit)) b 33 (xY 33)
theorem IsLex.below {w w' : World} {b : Nat} (h : IsLex w b) (hb : Below w.heap.size w w') : IsLex w' b := World.ownsMap.kept h (⟨hb.os,hb.tape,hb.output,hb.size,fun i hi _ => hb.block i hi⟩ : w.grownBy w' none) (by simp)
theorem tA (b : Nat) (s : ByteArray) (w : World) (hs : s.size <= maxLen) (hx : IsLex w b) :
  Calls Tryz.prog 198 #[.agg #[.map (some b)],.string s] w fun e w' => e = .returned (.bool (tv s.data.toList)) /\ Below w.heap.size w w' := by
 have HK := ze (keyOf_string_mk (P := Tryz.prog) Tryz.underlying9 (s := s) hs)
 have HX := fun o => ze (World.ownsMap.alloc hx o)
 have HH := ze (sn s.data.toList); clear hx
 go_enter Tryz.func198,Tryz.ntmps198
 go_wp2_with (first | (at_lookup; refine wpList_lookup_own_unit _ rfl _ _ 121 rfl 9 141 li Tryz.underlying121 (mN _) b 33 (xY 33) rfl (HX _).out _ _ rfl HK.out ?_; rw [HH.out]))
 go_ret
 exact ⟨rfl,((Below.refl _ _).alloc (Nat.le_refl _) _).alloc (by simp) _⟩
def gM (l : List UInt8) : Bool := !l.isEmpty && decide (l.length <= 12) && zE (l.headD 0).toNat && l.all (fun c => lod c.toNat)
def yv (l : List UInt8) : Bool := gM l && !tv l
theorem nM (s : ByteArray) (k : Nat) (h : k < s.size) : s[k] ∈ s.data.toList := du s k h
theorem gU (s : ByteArray) (h : 0 < s.size) : s.data.toList.headD 0 = s[0] := (jl s h).1
theorem tX (s : ByteArray) (h : s.size = 0) : yv s.data.toList = false := by
 have : s.data.toList = [] := List.eq_nil_of_length_eq_zero (by rw [<- zB]; exact h); rw [this]; rfl
theorem rm (s : ByteArray) (h : 12 < s.size) : yv s.data.toList = false := by
 unfold yv gM
 rw [<- zB]
 simp [show ¬ s.size <= 12 by omega]
theorem fi (s : ByteArray) (k : Nat) (h : k < s.size) (hl : lod (s[k]).toNat = false) : yv s.data.toList = false := by
 unfold yv gM
 have : s.data.toList.all (fun c => lod c.toNat) = false := by
  rw [List.all_eq_false]
  exact ⟨s[k],nM s k h,by simp [hl]⟩
 rw [this]; simp
theorem kL (s : ByteArray) (h : 0 < s.size) (hl : zE (s[0]).toNat = false) : yv s.data.toList = false := by
 unfold yv gM
 rw [gU s h,hl]; simp
theorem pk (s : ByteArray) (h0 : 0 < s.size) (h12 : s.size <= 12) (hl : zE (s[0]).toNat = true) (ha : ∀ (j : Nat) (h : j < s.size),lod (s[j]'h).toNat = true) : yv s.data.toList = !tv s.data.toList := by
 unfold yv gM
 have h1 : s.data.toList.all (fun c => lod c.toNat) = true := by
  rw [List.all_eq_true]; intro c hc; obtain ⟨j,hj,rfl⟩ := List.getElem_of_mem hc
  exact ha j (by rw [zB]; exact hj)
 have h2 : s.data.toList.isEmpty = false := by
  cases h : s.data.toList with
  | nil => rw [zB,h] at h0; simp at h0
  | cons a l => rfl
 rw [gU s h0,hl,h1,h2,<- zB]
 simp [h12]
theorem gP (s : ByteArray) : s.toList.isEmpty = decide (s.size = 0) := by
 rw [xO,zB]
 cases s.data.toList <;> simp
end Go.Proofs.YtnmkffjklpfflaaGreatDoor
