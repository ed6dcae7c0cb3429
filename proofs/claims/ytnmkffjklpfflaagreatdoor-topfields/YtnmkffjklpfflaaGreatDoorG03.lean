/- The kept words as they lie in a lexicon's map,and what a lexicon answers. -/
import Derived.Test.YtnmkffjklpfflaaGreatDoorG01
import Derived.Test.YtnmkffjklpfflaaGreatDoorG02
import GoSem.Op.String
import Derived.Maps.Own
import Derived.Maps.OwnSet
import Derived.Deep.RegionWith
namespace Go.Proofs.YtnmkffjklpfflaaGreatDoor
open Go.RowKit Go.Maps Go.WideMaps Go.WideElems
set_option maxHeartbeats 1000000
set_option maxRecDepth 1000000
def ve : List (List UInt8) := [[77,79,68,85,76,69],[73,77,80,79,82,84],[67,79,78,83,84],[84,89,80,69],[86,65,82],[80,82,79,67,69,68,85,82,69],[66,69,71,73,78],[69,78,68],[73,70],[84,72,69,78],[69,76,83,73,70],[69,76,83,69],[87,72,73,76,69],[68,79],[82,69,80,69,65,84],[85,78,84,73,76],[82,69,84,85,82,78],[65,82,82,65,89],[79,70],[82,69,67,79,82,68],[80,79,73,78,84,69,82],[84,79],[78,73,76],[84,82,85,69],[70,65,76,83,69],[68,73,86],[77,79,68],[79,82],[73,83],[78,69,87],[79,85,84],[71,69,84],[65,83,83,69,82,84]]
def uC : ByteArray := ⟨#[77,79,68,85,76,69,32,73,77,80,79,82,84,32,67,79,78,83,84,32,84,89,80,69,32,86,65,82,32,80,82,79,67,69,68,85,82,69,32,66,69,71,73,78,32,69,78,68,32,73,70,32,84,72,69,78,32,69,76,83,73,70,32,69,76,83,69,32,87,72,73,76,69,32,68,79,32,82,69,80,69,65,84,32,85,78,84,73,76,32,82,69,84,85,82,78,32,65,82,82,65,89,32,79,70,32,82,69,67,79,82,68,32,80,79,73,78,84,69,82,32,84,79,32,78,73,76,32,84,82,85,69,32,70,65,76,83,69,32,68,73,86,32,77,79,68,32,79,82,32,73,83,32,78,69,87,32,79,85,84,32,71,69,84,32,65,83,83,69,82,84]⟩
theorem qQ : Lib.fields uC.data.toList = ve := by decide +kernel
theorem oL : ∀ (j : Nat) b,uC.data.toList[j]? = some b -> b.toNat < 128 := by
 intro j b h
 have : ∀ b ∈ uC.data.toList,b.toNat < 128 := by decide +kernel
 exact this b (List.mem_of_getElem? h)
theorem uI : ve.length = 33 := rfl
def ru (l : List UInt8) : Bool := ve.contains l
theorem zav : Keyed Tryz.prog 9 := string_keyed Tryz.underlying9
theorem zab (w : World) : (zeroValue 141).run Tryz.prog w = .ok (.agg #[]) w := by kernel_rfl
theorem oV (k : Nat) (h : k < ve.length) : (⟨(ve[k]).toArray⟩ : ByteArray).size <= maxLen := by
 have h1 : ∀ x ∈ ve,x.length <= 20 := by decide
 have h2 := h1 _ (List.getElem_mem h)
 unfold maxLen
 simp [ByteArray.size]
 omega
def vz (k : Nat) : DataW Unit := setOf (.agg []) ((ve.take k).map Lit.string)
theorem sX (k : Nat) (h : k < ve.length) : vz (k + 1) = (vz k).put (.string (ve[k])) (.agg []) := by
 unfold vz
 rw [List.take_succ_eq_append_getElem h,List.map_append,List.map_cons,List.map_nil,setOf_snoc]
theorem pI (l : List UInt8) : Maps.has (vz 33) (.string l) = ru l := by
 unfold vz ru
 rw [has_setOf _ _ _ (by intro x hx; obtain ⟨_,_,rfl⟩ := List.mem_map.1 hx; trivial),List.take_of_length_le (by rw [uI]; exact Nat.le_refl _),List.any_map]; rw [Bool.eq_iff_iff,List.any_eq_true,List.contains_iff_mem]
 constructor
 ·rintro ⟨x,hx,h⟩
  have e : x = l := by simpa [Lit.sameKey] using h
  rw [<- e]; exact hx
 ·intro h
  exact ⟨l,h,by simp [Lit.sameKey]⟩
theorem aQ : Tryz.prog.globalNamed "strings.asciiSpace" = some 1 := by kernel_rfl
theorem zal {w : World} (h : Lib.TabIs Tryz.prog w "strings.asciiSpace" .u8 Lib.asciiSpaceTab) : 1 < w.heap.size := by
 have hc := h.cell aQ 0 (by rw [Lib.asciiSpaceTab_length]; omega)
 rcases Nat.lt_or_ge 1 w.heap.size with h' | h'
 ·exact h'
 ·simp [World.cell?,Array.getElem?_eq_none h'] at hc
theorem uH {w w' : World} (h : Lib.TabIs Tryz.prog w "strings.asciiSpace" .u8 Lib.asciiSpaceTab) (hb : Below w.heap.size w w') : Lib.TabIs Tryz.prog w' "strings.asciiSpace" .u8 Lib.asciiSpaceTab :=
 var?_below hb aQ (zal h) h
theorem ix {w : World} {k : Nat} (h : k < 33) : (w.alloc (.cells (ve.map fun l => Value.string ⟨l.toArray⟩).toArray 9)).cell? ⟨w.heap.size,k,none⟩ = some (.string ⟨(ve[k]'(by rw [uI]; exact h)).toArray⟩) := by
 rw [World.cell?_alloc_at _ _ _ _ rfl]
 simp [List.getElem?_eq_getElem (show k < ve.length by rw [uI]; exact h)]
theorem pR (w : World) (htab : Lib.TabIs Tryz.prog w "strings.asciiSpace" .u8 Lib.asciiSpaceTab) :
  Calls Tryz.prog 51 #[] w fun e w' => e = .returned (.agg #[.map (some (w.heap.size + 1))]) /\ w'.ownsMap Tryz.prog 9 (unitElem (H := Unit)) (w.heap.size + 1) 33 (vz 33) /\ Below w.heap.size w w' := by
 have hmm := @run_makeMap Tryz.prog; have HTB := zc (fun w' (hb : Below w.heap.size w w') => uH htab hb); clear htab
 go_enter Tryz.func51,Tryz.ntmps51
 go_wp2_with fail
 show Calls Tryz.prog 66 #[.string uC] _ _
 refine (Tryz.strings_Fields uC _ (by decide) oL (HTB.out _ (((Below.refl _ _).alloc (Nat.le_refl _) _).alloc (by simp) _))).mono ?_; rintro e w1 ⟨he,hw1⟩; rw [qQ,uI] at he; subst he
 have hsz : w1.heap.size = w.heap.size + 3 := by rw [hw1]; simp
 have hcell : ∀ (k : Nat) (h : k < 33),w1.cell? ⟨w.heap.size + 1 + 1,k,none⟩ = some (.string ⟨(ve[k]'(by rw [uI]; exact h)).toArray⟩) := fun k h => by
  have hk := ix (w := (w.alloc (.cells #[.map none] 123)).alloc (.map #[] 0)) h; simp only [World.size_alloc] at hk; rw [hw1,qQ]
  exact hk
 have hmap : w1.ownsMap Tryz.prog 9 (unitElem (H := Unit)) (w.heap.size + 1) 0 (vz 0) := by
  rw [hw1]; have hk := (World.ownsMap_made (w.alloc (.cells #[.map none] 123)) Tryz.prog 9 (unitElem (H := Unit))).alloc (.cells ((Lib.fields uC.data.toList).map fun l => Value.string ⟨l.toArray⟩).toArray 9); simp only [World.size_alloc] at hk
  exact hk
 have hb1 : Below w.heap.size w w1 := by rw [hw1]; exact (((Below.refl _ _).alloc (Nat.le_refl _) _).alloc (by simp) _).alloc (by simp; omega) _
 have hbc : w1.cell? ⟨w.heap.size,0,none⟩ = some (.map none) := by
  rw [hw1,World.cell?_alloc_lt _ _ _ (by simp; omega),World.cell?_alloc_lt _ _ _ (by simp)]; simp
 have hbz : w1.frozen? ⟨w.heap.size,0,none⟩ = false := by
  rw [hw1,World.frozen?_alloc_old _ _ _ (by simp; omega),World.frozen?_alloc_old _ _ _ (by simp)]; simp
 simp only [World.size_alloc]; have HC := zc hcell; have HM := zc hmap; have HB := zc hb1; have HBC := zc hbc; have HBZ := zc hbz; have HSZ := zc hsz; clear hw1 hsz hcell hmap hb1 hbc hbz HTB hmm; go_wp2
 go_loopw [7] (fun iv wr => ∃ k : Nat,k <= 33 /\ iv = .int .i64 k /\ Hid (wr.ownsMap Tryz.prog 9 (unitElem (H := Unit)) (w.heap.size + 1) k (vz k)) /\ Hid (w1.grownBy wr (some (w.heap.size + 1)))) (fun iv _ => 33 - (intOf iv).toNat)
 case atStart => exact ⟨0,by omega,rfl,HM,zj _ _⟩
 case round =>
  obtain ⟨k,hk,rfl,HO,HG⟩ := hrel; have hsz := HSZ.out
  by_cases hlt : k < 33
  ·have d0 : wr.cell? ⟨w.heap.size + 1 + 1,k,none⟩ = _ := zE HG.out (HC.out k hlt) (by simp)
   have hls : k < ve.length := by rw [uI]; exact hlt
   have hkey : keyOf Tryz.prog 9 (.string ⟨(ve[k]'hls).toArray⟩) = some (.string (ve[k]'hls)) := by
    have := keyOf_string_mk (P := Tryz.prog) Tryz.underlying9 (s := ⟨(ve[k]'hls).toArray⟩) (oV k hls)
    simpa using this
   have hsucc := sX k hls
   generalize ve[k]'hls = x at d0 hkey hsucc
   have HS := zc hsucc; have HK := zc hkey; clear hsucc hkey
   go_wp2_with (first | (at_mapUpdate; refine wpList_mapUpdate_own _ rfl _ _ _ 121 rfl 9 141 zav Tryz.underlying121 (unitElem (H := Unit)) (w.heap.size + 1) k _ rfl HO.out (by unfold maxLen; omega) _ _ _ rfl rfl HK.out (.agg []) [] unitElem_mk ?_; intro w3 hown3 hg3))
   exact ⟨⟨k + 1,by omega,by go_num,by rw [HS.out]; exact hown3,za HG.out hg3⟩,by simp [intOf]; omega⟩
  ·obtain rfl : k = 33 := by omega
   have c0 := zE HG.out HBC.out (by simp); have z0 := ye HG.out (by simp; omega) HBZ.out (by simp); have hbb : Below w.heap.size w wr := HB.out.grown HG.out (by omega) (fun j hj => by cases hj; omega); have HBB := zc hbb; have HOS := zc (HO.out.setCell (a := ⟨w.heap.size,0,none⟩) (by simp) (.map (some (w.heap.size + 1)))); have g0 : (wr.setCell ⟨w.heap.size,0,none⟩ (.map (some (w.heap.size + 1)))).cell? ⟨w.heap.size,0,none⟩ = some (.map (some (w.heap.size + 1))) := World.cell?_setCell_same _ _ _ c0; clear hbb HG HO HBC HBZ HC HM HB hsz HSZ; go_wp2
   exact bodyPost_ret (v := .agg #[.map (some (w.heap.size + 1))]) (by simp [results,Tryz.results51,go_sem,g0]) rfl ⟨rfl,HOS.out,HBB.out.setCell (by simp) _⟩
def IsLex (w : World) (b : Nat) : Prop := w.ownsMap Tryz.prog 9 (unitElem (H := Unit)) b 33 (vz 33)
theorem IsLex.below {w w' : World} {b : Nat} (h : IsLex w b) (hb : Below w.heap.size w w') : IsLex w' b := World.ownsMap.kept h (⟨hb.os,hb.tape,hb.output,hb.size,fun i hi _ => hb.block i hi⟩ : w.grownBy w' none) (by simp)
theorem rA (b : Nat) (s : ByteArray) (w : World) (hs : s.size <= maxLen) (hx : IsLex w b) :
  Calls Tryz.prog 198 #[.agg #[.map (some b)],.string s] w fun e w' => e = .returned (.bool (ru s.data.toList)) /\ Below w.heap.size w w' := by
 have HK := zc (keyOf_string_mk (P := Tryz.prog) Tryz.underlying9 (s := s) hs)
 have HX := fun o => zc (World.ownsMap.alloc hx o)
 have HH := zc (pI s.data.toList); clear hx
 go_enter Tryz.func198,Tryz.ntmps198
 go_wp2_with (first | (at_lookup; refine wpList_lookup_own_unit _ rfl _ _ 121 rfl 9 141 zav Tryz.underlying121 (zab _) b 33 (vz 33) rfl (HX _).out _ _ rfl HK.out ?_; rw [HH.out]))
 go_ret
 exact ⟨rfl,((Below.refl _ _).alloc (Nat.le_refl _) _).alloc (by simp) _⟩
def gH (l : List UInt8) : Bool := !l.isEmpty && decide (l.length <= 12) && zG (l.headD 0).toNat && l.all (fun c => lod c.toNat)
def yh (l : List UInt8) : Bool := gH l && !ru l
theorem cW (s : ByteArray) (k : Nat) (h : k < s.size) : s[k] ∈ s.data.toList := ss s k h
theorem gU (s : ByteArray) (h : 0 < s.size) : s.data.toList.headD 0 = s[0] := (jV s h).1
theorem ph (s : ByteArray) (h : s.size = 0) : yh s.data.toList = false := by
 have : s.data.toList = [] := List.eq_nil_of_length_eq_zero (by rw [<- zD]; exact h); rw [this]; rfl
theorem gV (s : ByteArray) (h : 12 < s.size) : yh s.data.toList = false := by
 unfold yh gH
 rw [<- zD]
 simp [show ¬ s.size <= 12 by omega]
theorem dl (s : ByteArray) (k : Nat) (h : k < s.size) (hl : lod (s[k]).toNat = false) : yh s.data.toList = false := by
 unfold yh gH
 have : s.data.toList.all (fun c => lod c.toNat) = false := by
  rw [List.all_eq_false]
  exact ⟨s[k],cW s k h,by simp [hl]⟩
 rw [this]; simp
theorem qH (s : ByteArray) (h : 0 < s.size) (hl : zG (s[0]).toNat = false) : yh s.data.toList = false := by
 unfold yh gH
 rw [gU s h,hl]; simp
theorem mP (s : ByteArray) (h0 : 0 < s.size) (h12 : s.size <= 12) (hl : zG (s[0]).toNat = true) (ha : ∀ (j : Nat) (h : j < s.size),lod (s[j]'h).toNat = true) : yh s.data.toList = !ru s.data.toList := by
 unfold yh gH
 have h1 : s.data.toList.all (fun c => lod c.toNat) = true := by
  rw [List.all_eq_true]; intro c hc; obtain ⟨j,hj,rfl⟩ := List.getElem_of_mem hc
  exact ha j (by rw [zD]; exact hj)
 have h2 : s.data.toList.isEmpty = false := by
  cases h : s.data.toList with
  | nil => rw [zD,h] at h0; simp at h0
  | cons a l => rfl
 rw [gU s h0,hl,h1,h2,<- zD]
 simp [h12]
theorem gL (s : ByteArray) : s.toList.isEmpty = decide (s.size = 0) := by
 rw [vr,zD]
 cases s.data.toList <;> simp
theorem px (b : Nat) (s : ByteArray) (w : World) (hs : s.size <= maxLen) (hx : IsLex w b) :
  Calls Tryz.prog 171 #[.agg #[.map (some b)],.string s] w fun e w' => e = .returned (.bool (yh s.data.toList)) /\ Below w.heap.size w w' := by
 by_cases h0 : s.size = 0
 ·have hemp : s.toList.isEmpty = true := by rw [gL]; simp [h0]
  have HN := zc (ph s h0); clear h0 hx
  go_enter Tryz.func171,Tryz.ntmps171
  go_wp2
  go_ret
  exact ⟨by rw [HN.out]; rfl,(Below.refl _ _).alloc (Nat.le_refl _) _⟩
 ·have hemp : s.toList.isEmpty = false := by rw [gL]; simp [h0]
  by_cases h12 : 12 < s.size
  ·have HN := zc (gV s h12)
   clear h0 hx
   unfold maxLen at hs
   go_enter Tryz.func171,Tryz.ntmps171
   go_wp2
   go_ret
   exact ⟨by rw [HN.out]; rfl,(Below.refl _ _).alloc (Nat.le_refl _) _⟩
  ·have h1 : 1 <= s.size := by omega
   have h13 : s.size <= 12 := by omega
   have HX := zc hx; clear h0 h12 hx
   go_enter Tryz.func171,Tryz.ntmps171
   go_wp2
   go_loopw [6] (fun _ wr => ∃ k : Nat,wr = (w.alloc (.cells #[.map (some b)] 123)).iter s k /\ k <= s.size /\ Hid (0 < k -> ∀ h : 0 < s.size,zG (s[0]'h).toNat = true) /\ Hid (∀ (j : Nat) (h : j < s.size),j < k -> lod (s[j]'h).toNat = true)) (fun _ wr => s.size - wr.iterPos (w.alloc (.cells #[.map (some b)] 123)).heap.size)
   case atStart => exact ⟨0,rfl,Nat.zero_le _,fun h => by omega,fun j h hj => by omega⟩
   case round =>
    obtain ⟨k,rfl,_,HL,HB⟩ := hrel
    have hsz : (w.alloc (.cells #[.map (some b)] 123)).heap.size = w.heap.size + 1 := by simp
    by_cases hlt : k < s.size
    ·have hnx : ∀ ty,(Instr.next (pq ((w.alloc (.cells #[.map (some b)] 123)).heap.size)) true ty).run Tryz.prog ((w.alloc (.cells #[.map (some b)] 123)).iter s k) = _ := fun ty => run_next_any (w.alloc (.cells #[.map (some b)] 123)) s k ty hlt
     rw [hsz] at hnx
     have hlast : ∀ w',Below w.heap.size w ((w.alloc (.cells #[.map (some b)] 123)).iter s w') := fun w' => ((Below.refl _ _).alloc (Nat.le_refl _) _).alloc (by simp) _
     have HLa := zc hlast; clear hlast hsz
     have hdec : zG (Utf8.decode s k).1 = zG (s[k]'hlt).toNat /\ zx (Utf8.decode s k).1 = zx (s[k]'hlt).toNat := by
      by_cases ha : (s[k]'hlt).toNat < 128
      ·rw [decode_ascii s k hlt ha]; exact ⟨rfl,rfl⟩
      ·have hd := (decode_high s k hlt (by omega)).1
       have f1 : ∀ n : Int,128 <= n -> zG n = false := fun n hn => by simp [zG]; omega
       exact ⟨by rw [f1 _ (by omega),f1 _ (by omega)],by rw [ui (by omega),ui (by omega)]⟩
     cases hl : zG (s[k]'hlt).toNat
     ·have hl' := hdec.1.trans hl
      by_cases hk0 : k = 0
      ·subst hk0
       have HN := zc (qH s hlt hl); clear hl hdec
       go_wp2_with (go_at_call 128; refine (yx _ _).mono ?_; rintro e w' ⟨rfl,rfl⟩; simp only [hl'])
       go_ret
       exact ⟨by rw [HN.out]; rfl,HLa.out _⟩
      ·have hz : ((k : Int) == 0) = false := by simp; omega
       cases hd : zx (s[k]'hlt).toNat
       ·have hd' := hdec.2.trans hd
        have HN := zc (dl s k hlt (by simp [lod,hl,hd])); clear hl hd hdec
        go_wp2_with (first | (go_at_call 128; refine (yx _ _).mono ?_; rintro e w' ⟨rfl,rfl⟩; simp only [hl']) | (go_at_call 132; refine (yH _ _).mono ?_; rintro e w' ⟨rfl,rfl⟩; simp only [hd']))
        go_ret
        exact ⟨by rw [HN.out]; rfl,HLa.out _⟩
       ·have hd' := hdec.2.trans hd
        have HN : Hid (lod (s[k]'hlt).toNat = true) := by unfold lod; rw [hl,hd]; rfl
        have ha : (s[k]'hlt).toNat < 128 := by
         rcases Nat.lt_or_ge (s[k]'hlt).toNat 128 with h | h
         ·exact h
         ·rw [ui (by omega)] at hd; cases hd
        rw [decode_ascii s k hlt ha] at hnx hl' hd'; clear hl hd hdec
        go_wp2_with (first | (go_at_call 128; refine (yx _ _).mono ?_; rintro e w' ⟨rfl,rfl⟩; simp only [hl']) | (go_at_call 132; refine (yH _ _).mono ?_; rintro e w' ⟨rfl,rfl⟩; simp only [hd']))
        go_roundw
        case rel => exact ⟨k + 1,rfl,by omega,fun _ h => HL.out (by omega) h,fun j h hj => by
         rcases Nat.lt_or_ge j k with h1 | h1
         ·exact HB.out j h h1
         ·obtain rfl : j = k := by omega
          exact HN.out⟩
        case measure => simp only [World.iterPos_iter]; omega
     ·have hl' := hdec.1.trans hl
      have HN : Hid (lod (s[k]'hlt).toNat = true) := by unfold lod; rw [hl]; rfl
      have HL2 : Hid (zG (s[k]'hlt).toNat = true) := hl
      have ha : (s[k]'hlt).toNat < 128 := by
       rcases Nat.lt_or_ge (s[k]'hlt).toNat 128 with h | h
       ·exact h
       ·have : zG (s[k]'hlt).toNat = false := by simp [zG]; omega
        rw [this] at hl; cases hl
      rw [decode_ascii s k hlt ha] at hnx hl'; clear hl hdec
      go_wp2_with (go_at_call 128; refine (yx _ _).mono ?_; rintro e w' ⟨rfl,rfl⟩; simp only [hl'])
      go_roundw
      case rel => exact ⟨k + 1,rfl,by omega,fun _ h => by
       rcases Nat.eq_zero_or_pos k with h0 | h0
       ·subst h0; exact HL2.out
       ·exact HL.out h0 h,fun j h hj => by
       rcases Nat.lt_or_ge j k with h1 | h1
       ·exact HB.out j h h1
       ·obtain rfl : j = k := by omega
        exact HN.out⟩
      case measure => simp only [World.iterPos_iter]; omega
    ·have hnx : ∀ ty,(Instr.next (pq ((w.alloc (.cells #[.map (some b)] 123)).heap.size)) true ty).run Tryz.prog ((w.alloc (.cells #[.map (some b)] 123)).iter s k) = _ := fun ty => run_next_end (w.alloc (.cells #[.map (some b)] 123)) s k ty hlt
     rw [hsz] at hnx; have HN := zc (mP s (by omega) h13 (HL.out (by omega) (by omega)) (fun j h => HB.out j h (by omega))); have hb : Below w.heap.size w ((w.alloc (.cells #[.map (some b)] 123)).iter s k) := ((Below.refl _ _).alloc (Nat.le_refl _) _).alloc (by simp) _
     have c0 : ((w.alloc (.cells #[.map (some b)] 123)).iter s k).cell? ⟨w.heap.size,0,none⟩ = some (.map (some b)) := by
      show (World.alloc _ _).cell? _ = _
      rw [World.cell?_alloc_lt _ _ _ (by simp)]; simp
     have HX2 : Hid (IsLex ((w.alloc (.cells #[.map (some b)] 123)).iter s k) b) := HX.out.below hb; have HBB := zc hb; clear hb hsz HX HL HB
     go_wp2_with (go_at_call 198; refine (rA b s _ hs HX2.out).mono ?_; rintro e w1 ⟨rfl,hb1⟩)
     go_ret
     exact ⟨by rw [HN.out]; rfl,HBB.out.trans (hb1.mono HBB.out.size)⟩
def gy : List UInt8 := [77,79,68,85,76,69]
def mr : List UInt8 := [73,77,80,79,82,84]
def sC : List UInt8 := [67,79,78,83,84]
def mg : List UInt8 := [84,89,80,69]
def dm : List UInt8 := [86,65,82]
def yV : List UInt8 := [80,82,79,67,69,68,85,82,69]
def ju : List UInt8 := [66,69,71,73,78]
def kh : List UInt8 := [69,78,68]
def kIF : List UInt8 := [73,70]
def ae : List UInt8 := [84,72,69,78]
def qh : List UInt8 := [69,76,83,73,70]
def rZ : List UInt8 := [69,76,83,69]
def qq : List UInt8 := [87,72,73,76,69]
def kDO : List UInt8 := [68,79]
def jU : List UInt8 := [82,69,80,69,65,84]
def tL : List UInt8 := [85,78,84,73,76]
def jN : List UInt8 := [82,69,84,85,82,78]
def fO : List UInt8 := [65,82,82,65,89]
def kOF : List UInt8 := [79,70]
def kN : List UInt8 := [82,69,67,79,82,68]
def jG : List UInt8 := [80,79,73,78,84,69,82]
def kTO : List UInt8 := [84,79]
def iN : List UInt8 := [78,73,76]
def pu : List UInt8 := [84,82,85,69]
def fi : List UInt8 := [70,65,76,83,69]
def zba : List UInt8 := [68,73,86]
def za8 : List UInt8 := [77,79,68]
def kOR : List UInt8 := [79,82]
def kIS : List UInt8 := [73,83]
def lm : List UInt8 := [78,69,87]
def lj : List UInt8 := [79,85,84]
def mF : List UInt8 := [71,69,84]
def jO : List UInt8 := [65,83,83,69,82,84]
def dB : List UInt8 := [61]
def i4 : List UInt8 := [35]
def za7 : List UInt8 := [60]
def zax : List UInt8 := [62]
def zat : List UInt8 := [60,61]
def zas : List UInt8 := [62,61]
def iJ : List UInt8 := [43]
def kS : List UInt8 := [45]
def gI : List UInt8 := [42]
def ai : List UInt8 := [38]
def vx : List UInt8 := [126]
def xA : List UInt8 := [40]
def jx : List UInt8 := [41]
def mS : List UInt8 := [91]
def zah : List UInt8 := [93]
def cO : List UInt8 := [123]
def aF : List UInt8 := [125]
def gz : List UInt8 := [44]
def yl : List UInt8 := [59]
def kG : List UInt8 := [58]
def jY : List UInt8 := [46]
def tF : List UInt8 := [94]
def jR : List UInt8 := [58,61]
inductive T where
 | mk (kind : Int) (name : List UInt8) (num at' : Int) (subs : List T)
def T.at' : T -> Int
 | .mk _ _ _ a _ => a
abbrev Tok := List UInt8 × Int
def wd (L : List Tok) (i : Nat) : List UInt8 := (L[i]?.getD ([],0)).1
def pos (L : List Tok) (i : Nat) : Int := (L[i]?.getD ([],0)).2
abbrev P (α : Type) := Nat -> Except (Int × Int) (α × Nat)
def P.bind {α β : Type} (p : P α) (k : α -> P β) : P β := fun i => match p i with
 | .error e => .error e
 | .ok (a,j) => k a j
def P.ret {α : Type} (a : α) : P α := fun i => .ok (a,i)
def atP {α : Type} (g : Nat -> P α) : P α := fun i => g i i
theorem P.bind_ok {α β : Type} {p : P α} {k : α -> P β} {i j : Nat} {a : α} (h : p i = .ok (a,j)) : P.bind p k i = k a j := by unfold P.bind; rw [h]
theorem P.bind_err {α β : Type} {p : P α} {k : α -> P β} {i : Nat} {e : Int × Int} (h : p i = .error e) : P.bind p k i = .error e := by unfold P.bind; rw [h]
section
variable (L : List Tok)
def yu (i : Nat) : Int × Int := (if wd L i = [] then 2 else 4,pos L i)
def xX {α : Type} : P α := fun i => .error (3,pos L i)
def yr (w : List UInt8) : P Bool := fun i => if wd L i = w then .ok (true,i + 1) else .ok (false,i)
def zB (w : List UInt8) : P Unit := fun i => if wd L i = w then .ok ((),i + 1) else .error (yu L i)
def vd : P (List UInt8) := fun i => if yh (wd L i) = true then .ok (wd L i,i + 1) else .error (yu L i)
def ky (w : List UInt8) : Option Int := if w ≠ [] /\ zx ((w.headD 0).toNat : Int) = true then zU 0 w else none
def qY : P Int := fun i => match ky (wd L i) with
 | some n => .ok (n,i + 1)
 | none => .error (yu L i)
def vo (kind : Int) : P T := atP fun i => (vd L).bind (fun s => P.ret (.mk kind s 0 (pos L i) []))
def ii (t : T) : P T := (yr L gI).bind fun b => P.ret (match t with | .mk k s n a l => if b then .mk k s 1 a l else .mk k s n a l)
def xj (kind : Int) : P T := (vo L kind).bind (ii L)
def yE (part : P T) (sep : List UInt8) : Nat -> List T -> P (List T)
 | 0,_ => fun _ => .error (0,0)
 | f + 1,acc => (yr L sep).bind fun b => if b then part.bind fun t => yE part sep f (acc ++ [t]) else P.ret acc
def vG (part : P T) (sep : List UInt8) : P (List T) := part.bind fun t => yE L part sep L.length [t]
def vm (part : P T) (sep : List UInt8) : P (List T) :=
 (zB L xA).bind fun _ => (yr L jx).bind fun b => if b then P.ret [] else (vG L part sep).bind fun l => (zB L jx).bind fun _ => P.ret l
def yt : P T := (vo L 13).bind fun n => (yr L jY).bind fun b => if b then (vd L).bind fun s2 => P.ret (match n with | .mk k s m a _ => .mk k s2 m a [.mk 24 s 0 a []]) else P.ret n
def kc (t : T) : P T := (zB L kG).bind fun _ => (yt L).bind fun y => P.ret (match t with | .mk k s n a _ => .mk k s n a [y])
def opT (sign : List UInt8) (left right : T) : T := .mk 36 sign 0 left.at' [left,right]
def yy (w : List UInt8) : Bool := w == jY || w == mS || w == tF || w == cO
def xZ (E : P T) (of' : T) : P T := fun i =>
 if wd L i = jY then (vd L).bind (fun s => P.ret (.mk 25 s 0 of'.at' [of'])) (i + 1)
 else if wd L i = mS then E.bind (fun e => (zB L zah).bind fun _ => P.ret (.mk 26 [] 0 of'.at' [of',e])) (i + 1)
 else if wd L i = tF then .ok (.mk 27 [] 0 of'.at' [of'],i + 1)
 else (yt L).bind (fun y => (zB L aF).bind fun _ => P.ret (.mk 28 [] 0 of'.at' [of',y])) (i + 1)
def zN (E : P T) : Nat -> T -> P T
 | 0,n => fun i => if yy (wd L i) = true then (xZ L E n).bind (fun _ => xX L) i else .ok (n,i)
 | f + 1,n => fun i => if yy (wd L i) = true then (xZ L E n).bind (fun n' => zN E f n') i else .ok (n,i)
def zQ (E : P T) : P T := (vo L 24).bind fun n => zN L E 20 n
def vY (E : P T) : P (List T) := vm L E gz
def yR (E : P T) : P T := (zQ L E).bind fun n i => if wd L i = xA then (vY L E).bind (fun l => P.ret (.mk 33 [] 0 n.at' (n :: l))) i else .ok (n,i)
def zK (E F : P T) : P T := fun i =>
 if wd L i = pu then .ok (.mk 30 [] 0 (pos L i) [],i + 1)
 else if wd L i = fi then .ok (.mk 31 [] 0 (pos L i) [],i + 1)
 else if wd L i = iN then .ok (.mk 32 [] 0 (pos L i) [],i + 1)
 else if wd L i = vx then F.bind (fun f => P.ret (.mk 34 [] 0 (pos L i) [f])) (i + 1)
 else if wd L i = xA then E.bind (fun e => (zB L jx).bind fun _ => P.ret e) (i + 1)
 else if yh (wd L i) = true then yR L E i
 else (qY L).bind (fun n => P.ret (.mk 29 [] n (pos L i) [])) i
def xo (joins : List UInt8 -> Bool) (part : P T) : Nat -> T -> P T
 | 0,left => fun i => if joins (wd L i) = true then xX L (i + 1) else .ok (left,i)
 | f + 1,left => fun i => if joins (wd L i) = true then part.bind (fun r => xo joins part f (opT (wd L i) left r)) (i + 1) else .ok (left,i)
def gW (w : List UInt8) : Bool := w == iJ || w == kS || w == kOR
def xR (w : List UInt8) : Bool := w == gI || w == zba || w == za8 || w == ai
def xO (w : List UInt8) : Bool := w == dB || w == i4 || w == za7 || w == zat || w == zax || w == zas
def xT (E F : P T) : P T := (zK L E F).bind fun a => xo L xR (zK L E F) 20 a
def sN (E F : P T) : P T := atP fun i => (yr L kS).bind (fun b => (xT L E F).bind fun a => xo L gW (xT L E F) 20 (if b then .mk 35 [] 0 (pos L i) [a] else a))
def xl (E F : P T) : P T := (sN L E F).bind fun a i =>
 if wd L i = kIS then (yt L).bind (fun y => P.ret (.mk 37 [] 0 a.at' [a,y])) (i + 1)
 else if xO (wd L i) = true then (sN L E F).bind (fun b => P.ret (opT (wd L i) a b)) (i + 1)
 else .ok (a,i)
def vf : Nat -> P T × P T
 | 0 => (xX L,xX L)
 | n + 1 => (xl L (vf n).1 (vf n).2,zK L (vf n).1 (vf n).2)
def uj (n : Nat) : P T := (vf L n).1
def xq (n : Nat) : P T := (vf L n).2
def xH (w : List UInt8) : Bool := w == yl || w == kh || w == qh || w == rZ || w == tL || w == []
def jf (E A : P T) : P (List T) := E.bind fun c => (zB L ae).bind fun _ => A.bind fun a => P.ret [c,a]
def yA (E A : P T) : Nat -> List T -> P (List T)
 | 0,_ => fun _ => .error (0,0)
 | f + 1,acc => (yr L qh).bind fun b => if b then (jf L E A).bind fun l => yA E A f (acc ++ l) else P.ret acc
def xU (E A : P T) : P T := atP fun i => (zB L kIF).bind fun _ => (jf L E A).bind (fun l => (yA L E A L.length l).bind fun l => (yr L rZ).bind fun b => if b then A.bind fun a => (zB L kh).bind fun _ => P.ret (.mk 16 [] 1 (pos L i) (l ++ [a])) else (zB L kh).bind fun _ => P.ret (.mk 16 [] 0 (pos L i) l))
def tQ (E A : P T) : P T := atP fun i => (zB L qq).bind fun _ => E.bind (fun c => (zB L kDO).bind fun _ => A.bind fun a => (zB L kh).bind fun _ => P.ret (.mk 17 [] 0 (pos L i) [c,a]))
def gs (E A : P T) : P T := atP fun i => (zB L jU).bind fun _ => A.bind (fun a => (zB L tL).bind fun _ => E.bind fun c => P.ret (.mk 18 [] 0 (pos L i) [a,c]))
def uV (E : P T) : P T := atP fun i => (zB L jN).bind fun _ j => if xH (wd L j) = true then .ok (.mk 19 [] 0 (pos L i) [],j) else E.bind (fun e => P.ret (.mk 19 [] 0 (pos L i) [e])) j
def xk (kind : Int) (k : List UInt8) (part : P T) : P T := atP fun i => (zB L k).bind fun _ => (zB L xA).bind (fun _ => part.bind fun e => (zB L jx).bind fun _ => P.ret (.mk kind [] 0 (pos L i) [e]))
def vu (E : P T) : P T := atP fun i => (zQ L E).bind (fun d j =>
 if wd L j = jR then E.bind (fun e => P.ret (.mk 14 [] 0 (pos L i) [d,e])) (j + 1)
 else if wd L j = xA then (vY L E).bind (fun l => P.ret (.mk 15 [] 0 (pos L i) (d :: l))) j
 else .ok (.mk 15 [] 0 (pos L i) [d],j))
def xu (E A : P T) : P T := fun i =>
 if wd L i = kIF then xU L E A i
 else if wd L i = qq then tQ L E A i
 else if wd L i = jU then gs L E A i
 else if wd L i = jN then uV L E i
 else if wd L i = lm then xk L 20 lm (zQ L E) i
 else if wd L i = lj then xk L 21 lj E i
 else if wd L i = mF then xk L 22 mF (zQ L E) i
 else if wd L i = jO then xk L 23 jO E i
 else vu L E i
def yw (E A : P T) : Nat -> List T -> P (List T)
 | 0,_ => fun _ => .error (0,0)
 | f + 1,acc => fun i => (if xH (wd L i) = true then P.ret acc else (xu L E A).bind fun t => P.ret (acc ++ [t])).bind (fun acc => (yr L yl).bind fun b => if b then yw E A f acc else P.ret acc) i
def pB (E A : P T) : P T := atP fun i => (yw L E A (L.length + 1) []).bind (fun l => P.ret (.mk 1 [] 0 (pos L i) l))
def uG : Nat -> P T
 | 0 => xX L
 | n + 1 => pB L (uj L n) (uG n)
def yc (part : P T) : Nat -> List T -> P (List T)
 | 0,_ => fun _ => .error (0,0)
 | f + 1,acc => fun i => if yh (wd L i) = true then part.bind (fun t => (zB L yl).bind fun _ => yc part f (acc ++ [t])) i else .ok (acc,i)
def xb (k : List UInt8) (part : P T) : P T := atP fun i => (yr L k).bind (fun b => if b then (yc L part (L.length + 1) []).bind fun l => P.ret (.mk 1 [] 0 (pos L i) l) else P.ret (.mk 1 [] 0 (pos L i) []))
def jQ (t y : T) : T := match t with | .mk k s n a _ => .mk k s n a [y]
def uE : P T := (xj L 4).bind fun n => (zB L dB).bind fun _ => (uj L 20).bind fun e => P.ret (jQ n e)
def sj : P T := atP fun i => (zB L fO).bind fun _ => (qY L).bind (fun n => (zB L kOF).bind fun _ => (yt L).bind fun y => P.ret (.mk 9 [] n (pos L i) [y]))
def qa : P T := atP fun i => (zB L jG).bind fun _ => (zB L kTO).bind (fun _ => (yt L).bind fun y => P.ret (.mk 12 [] 0 (pos L i) [y]))
def vj : P T := (xj L 6).bind (kc L)
def fh : P T := (xj L 11).bind (kc L)
def kr : P T := (vo L 6).bind (kc L)
def iL : P T := atP fun i => (yr L xA).bind (fun b => if b then (yt L).bind fun y => (zB L jx).bind fun _ => P.ret y else P.ret (.mk 0 [] 0 (pos L i) []))
def uO : P T := atP fun i => (zB L kN).bind fun _ => (iL L).bind (fun y => (yc L (fh L) (L.length + 1) []).bind fun l => (zB L kh).bind fun _ => P.ret (.mk 10 [] 0 (pos L i) (y :: l)))
def ya : P T := fun i =>
 if wd L i = fO then sj L i else if wd L i = kN then uO L i else if wd L i = jG then qa L i else .error (yu L i)
def vt : P T := (xj L 5).bind fun n => (zB L dB).bind fun _ => (ya L).bind fun e => P.ret (jQ n e)
def xw : P T := atP fun i => (yr L dm).bind (fun b => (vd L).bind fun s => kc L (.mk 8 s (if b then 1 else 0) (pos L i) []))
def xt : P T := fun i => if wd L i = xA then (vm L (xw L) yl).bind (fun l => P.ret (.mk 1 [] 0 (pos L i) l)) i else .ok (.mk 1 [] 0 (pos L i) [],i)
def gu : P T := atP fun i => (yr L kG).bind (fun b => if b then yt L else P.ret (.mk 0 [] 0 (pos L i) []))
def kL (s : List UInt8) : P Unit := (zB L kh).bind fun _ => zB L s
def yJ : P T := atP fun i => (zB L yV).bind fun _ => (xj L 7).bind (fun h => (xt L).bind fun ps => (gu L).bind fun r => (zB L yl).bind fun _ => (xb L dm (kr L)).bind fun vs => (zB L ju).bind fun _ => (uG L 20).bind fun b =>
 match h with | .mk _ s n _ _ => (kL L s).bind fun _ => P.ret (.mk 7 s n (pos L i) [ps,r,vs,b]))
def yv : Nat -> List T -> P (List T)
 | 0,_ => fun _ => .error (0,0)
 | f + 1,acc => fun i => if wd L i = yV then (yJ L).bind (fun t => (zB L yl).bind fun _ => yv f (acc ++ [t])) i else .ok (acc,i)
def xv : P T := atP fun i => (yv L (L.length + 1) []).bind (fun l => P.ret (.mk 1 [] 0 (pos L i) l))
def js : P T := atP fun i => (yr L mr).bind (fun b => if b then (vG L (vo L 3) gz).bind fun l => (zB L yl).bind fun _ => P.ret (.mk 1 [] 0 (pos L i) l) else P.ret (.mk 1 [] 0 (pos L i) []))
def af : P T := atP fun i => (yr L ju).bind (fun b => if b then uG L 20 else P.ret (.mk 1 [] 0 (pos L i) []))
def kV : P T := atP fun i => (zB L gy).bind (fun _ => (vd L).bind fun s => (zB L yl).bind fun _ => (js L).bind fun m1 => (xb L sC (uE L)).bind fun m2 => (xb L mg (vt L)).bind fun m3 =>
 (xb L dm (vj L)).bind fun m4 => (xv L).bind fun m5 => (af L).bind fun m6 => (kL L s).bind fun _ => (zB L jY).bind fun _ => P.ret (.mk 2 s 0 (pos L i) [m1,m2,m3,m4,m5,m6]))
def xE : P T := (kV L).bind fun t i => if wd L i = [] then .ok (t,i) else .error (yu L i)
end
set_option maxHeartbeats 400000
set_option maxRecDepth 100000
structure PC where
 pb : Nat
 tb : Nat
 cap : Nat
 lb : Nat
 L : List Tok
structure GoodL (L : List Tok) : Prop where
 last : ∀ j,j < L.length -> (wd L j = [] ↔ j + 1 = L.length)
 short : ∀ j,(wd L j).length <= 4000
 few : L.length <= 5000
 dig : ∀ j,zx (((wd L j).headD 0).toNat : Int) = true -> ∀ c ∈ wd L j,zx (c.toNat : Int) = true
 low : ∀ j,((wd L j).headD 0).toNat < 128
 val : ∀ j,wd L j ≠ [] -> zx (((wd L j).headD 0).toNat : Int) = true -> ∃ n,zU 0 (wd L j) = some n
theorem GoodL.next {L : List Tok} (h : GoodL L) {i : Nat} (hi : i < L.length) (hn : wd L i ≠ []) : i + 1 < L.length := by
 rcases Nat.lt_or_ge (i + 1) L.length with b | b
 ·exact b
 ·exact absurd ((h.last i hi).2 (by omega)) hn
structure PS (c : PC) (w : World) (i d : Nat) : Prop where
 c0 : w.cell? ⟨c.pb,0,none⟩ = some (.slice (some ⟨c.tb,0,none⟩) c.L.length c.cap)
 c1 : w.cell? ⟨c.pb,1,none⟩ = some (.int .i64 i)
 c2 : w.cell? ⟨c.pb,2,none⟩ = some (.int .i64 d)
 c3 : w.cell? ⟨c.pb,3,none⟩ = some (.map (some c.lb))
 z1 : w.frozen? ⟨c.pb,1,none⟩ = false
 z2 : w.frozen? ⟨c.pb,2,none⟩ = false
 tk : ∀ j,j < c.L.length -> w.cell? ⟨c.tb,j * 2,none⟩ = some (.string ⟨(wd c.L j).toArray⟩) /\ w.cell? ⟨c.tb,j * 2 + 1,none⟩ = some (.int .i64 (pos c.L j))
 lx : IsLex w c.lb
 n1 : c.tb ≠ c.pb
 n2 : c.lb ≠ c.pb
 il : i < c.L.length
 good : GoodL c.L
 deep : d <= 21
theorem zw {w : World} {a : Addr} {v : Value} (h : w.cell? a = some v) : a.block < w.heap.size := World.block_lt_of_cell? w a h
theorem PS.lt {c : PC} {w : World} {i d : Nat} (h : PS c w i d) : c.pb < w.heap.size := zw h.c0
theorem PS.kept {c : PC} {w w' : World} {i d : Nat} (h : PS c w i d) (hg : w.grownBy w' none) : PS c w' i d where
 c0 := zE hg h.c0 (by simp)
 c1 := zE hg h.c1 (by simp)
 c2 := zE hg h.c2 (by simp)
 c3 := zE hg h.c3 (by simp)
 z1 := ye hg h.lt h.z1 (by simp)
 z2 := ye hg h.lt h.z2 (by simp)
 tk := fun j hj => ⟨zE hg (h.tk j hj).1 (by simp),zE hg (h.tk j hj).2 (by simp)⟩
 lx := World.ownsMap.kept h.lx hg (by simp)
 n1 := h.n1
 n2 := h.n2
 il := h.il
 good := h.good
 deep := h.deep
theorem PS.drewN {c : PC} {w : World} {i d : Nat} (h : PS c w i d) (n : Nat) : PS c (w.drewN n) i d := h.kept (zq (zj _ _) n)
theorem PS.alloc {c : PC} {w : World} {i d : Nat} (h : PS c w i d) (o : Obj) : PS c (w.alloc o) i d := h.kept (World.grownBy_alloc w o none)
theorem PS.set1 {c : PC} {w : World} {i d : Nat} (h : PS c w i d) (v : Int) (k : Nat) (hv : v = k) (hk : k < c.L.length) : PS c (w.setCell ⟨c.pb,1,none⟩ (.int .i64 v)) k d where
 c0 := by rw [World.cell?_setCell_other _ _ _ _ (by simp)]; exact h.c0
 c1 := by subst hv; exact World.cell?_setCell_same _ _ _ h.c1
 c2 := by rw [World.cell?_setCell_other _ _ _ _ (by simp)]; exact h.c2
 c3 := by rw [World.cell?_setCell_other _ _ _ _ (by simp)]; exact h.c3
 z1 := by rw [World.frozen?_setCell]; exact h.z1
 z2 := by rw [World.frozen?_setCell]; exact h.z2
 tk := fun j hj => ⟨by rw [World.cell?_setCell_other _ _ _ _ (by intro e; injection e with e; exact h.n1 e.symm)]; exact (h.tk j hj).1,by rw [World.cell?_setCell_other _ _ _ _ (by intro e; injection e with e; exact h.n1 e.symm)]; exact (h.tk j hj).2⟩
 lx := World.ownsMap.setCell h.lx (a := ⟨c.pb,1,none⟩) (by simp; exact h.n2) _
 n1 := h.n1
 n2 := h.n2
 il := hk
 good := h.good
 deep := h.deep
theorem PS.set2 {c : PC} {w : World} {i d : Nat} (h : PS c w i d) (v : Int) (k : Nat) (hv : v = k) (hk : k <= 21) : PS c (w.setCell ⟨c.pb,2,none⟩ (.int .i64 v)) i k where
 c0 := by rw [World.cell?_setCell_other _ _ _ _ (by simp)]; exact h.c0
 c1 := by rw [World.cell?_setCell_other _ _ _ _ (by simp)]; exact h.c1
 c2 := by subst hv; exact World.cell?_setCell_same _ _ _ h.c2
 c3 := by rw [World.cell?_setCell_other _ _ _ _ (by simp)]; exact h.c3
 z1 := by rw [World.frozen?_setCell]; exact h.z1
 z2 := by rw [World.frozen?_setCell]; exact h.z2
 tk := fun j hj => ⟨by rw [World.cell?_setCell_other _ _ _ _ (by intro e; injection e with e; exact h.n1 e.symm)]; exact (h.tk j hj).1,by rw [World.cell?_setCell_other _ _ _ _ (by intro e; injection e with e; exact h.n1 e.symm)]; exact (h.tk j hj).2⟩
 lx := World.ownsMap.setCell h.lx (a := ⟨c.pb,2,none⟩) (by simp; exact h.n2) _
 n1 := h.n1
 n2 := h.n2
 il := h.il
 good := h.good
 deep := hk
theorem yM (c : PC) (w : World) (i d : Nat) (h : PS c w i d) :
  Calls Tryz.prog 68 #[pq c.pb] w fun e w' => e = .returned (.string ⟨(wd c.L i).toArray⟩) /\ ∃ n,w' = w.drewN n := by
 have c0 := h.c0; have c1 := h.c1; have b := (h.tk i h.il).1; have f := h.il; have g := h.good.few; clear h
 go_enter Tryz.func68,Tryz.ntmps68
 go_wp2
 go_quiet (fail)
 go_wp2
 go_ret
 exact ⟨rfl,_,rfl⟩
theorem nV (c : PC) (w : World) (i d : Nat) (h : PS c w i d) :
  Calls Tryz.prog 136 #[pq c.pb] w fun e w' => e = .returned (.int .i64 (pos c.L i)) /\ ∃ n,w' = w.drewN n := by
 have c0 := h.c0; have c1 := h.c1; have b := (h.tk i h.il).2; have f := h.il; have g := h.good.few; clear h
 go_enter Tryz.func136,Tryz.ntmps136
 go_wp2
 go_quiet (fail)
 go_wp2
 go_ret
 exact ⟨rfl,_,rfl⟩
theorem qU {w w' : World} (h : Below w.heap.size w w') (row : Option Nat) : w.grownBy w' row := ⟨h.os,h.tape,h.output,h.size,fun i hi _ => h.block i hi⟩
theorem vw {l : List UInt8} (h : l ≠ []) : l.isEmpty = false := by cases l <;> simp_all
theorem xB (c : PC) (w : World) (i d : Nat) (h : PS c w i d) (hne : wd c.L i ≠ []) :
  Calls Tryz.prog 139 #[pq c.pb] w fun e w' => e = .returned (.string ⟨(wd c.L i).toArray⟩) /\ w.grownBy w' (some c.pb) /\ PS c w' (i + 1) d := by
 have g := vw hne; have b := zc h; have k := h.good.few; have l := h.il; have f := zc (h.good.next h.il hne); clear h hne
 go_enter Tryz.func139,Tryz.ntmps139
 go_wp2_with (go_at_call 68; refine (yM c _ i d b.out).mono ?_; rintro e w1 ⟨rfl,n,rfl⟩; have c1 := (b.out.drewN n).c1; have z1 := (b.out.drewN n).z1)
 go_ret
 exact ⟨rfl,zT (zq (zj _ _) _) _ _,(b.out.drewN n).set1 _ _ (by simp) f.out⟩
theorem Threw.up {w w1 w' : World} {k n : Int} {e : Ending} {row : Option Nat} (h : Threw w1 k n e w') (hg : w.grownBy w1 row) : Threw w k n e w' := by
 obtain ⟨q,b,f,g⟩ := h
 exact ⟨q,b,Nat.le_trans hg.size f,g⟩
theorem vV (c : PC) (w : World) (i d : Nat) (n : Int) (h : PS c w i d) :
  Calls Tryz.prog 98 #[pq c.pb,.int .i64 n] w fun e w' => Threw w (pos c.L i) n e w' /\ w.grownBy w' none := by
 have b := zc h; clear h
 go_enter Tryz.func98,Tryz.ntmps98
 go_wp2_with (go_at_call 136; refine (nV c _ i d b.out).mono ?_; rintro e w1 ⟨rfl,m,rfl⟩)
 exact ⟨rfl,qI (Nat.le_refl _),zh (zq (zj _ _) _) _⟩
theorem vF (c : PC) (w : World) (i d : Nat) (h : PS c w i d) :
    Calls Tryz.prog 69 #[pq c.pb] w fun e w' => Threw w (yu c.L i).2 (yu c.L i).1 e w' /\ w.grownBy w' none := by
  have g := zc h; clear h
  by_cases b : wd c.L i = []
  · have k : (wd c.L i).isEmpty = true := by rw [b]; rfl
    have l : Hid (yu c.L i = (2,pos c.L i)) := by unfold yu; rw [if_pos b]; exact rfl
    clear b
    go_enter Tryz.func69,Tryz.ntmps69
    go_wp2_with (first
      | (go_at_call 68; refine (yM c _ i d g.out).mono ?_; rintro e w1 ⟨rfl,n,rfl⟩)
      | (go_at_call 98; refine (vV c _ i d 2 (g.out.drewN n)).mono ?_; rintro e s ⟨f,m⟩; have o := zc f; obtain ⟨q,rfl,-⟩ := f))
    rw [l.out]
    exact ⟨rfl,o.out.up (zq (zj w none) _),za (zq (zj _ _) _) m⟩
  · have k := vw b
    have l : Hid (yu c.L i = (4,pos c.L i)) := by unfold yu; rw [if_neg b]; exact rfl
    clear b
    go_enter Tryz.func69,Tryz.ntmps69
    go_wp2_with (first
      | (go_at_call 68; refine (yM c _ i d g.out).mono ?_; rintro e w1 ⟨rfl,n,rfl⟩)
      | (go_at_call 98; refine (vV c _ i d 4 (g.out.drewN n)).mono ?_; rintro e s ⟨f,m⟩; have o := zc f; obtain ⟨q,rfl,-⟩ := f))
    rw [l.out]
    exact ⟨rfl,o.out.up (zq (zj w none) _),za (zq (zj _ _) _) m⟩
def Steps {α : Type} (c : PC) (w : World) (i d : Nat) (enc : World -> α -> Value -> Prop) (r : Except (Int × Int) (α × Nat)) (e : Ending) (w' : World) : Prop :=
 (∃ x,r = .error x /\ Threw w x.2 x.1 e w' /\ w.grownBy w' (some c.pb)) \/ (∃ a j v,r = .ok (a,j) /\ e = .returned v /\ enc w' a v /\ w.grownBy w' (some c.pb) /\ PS c w' j d /\ i <= j)
section
variable {α : Type} {c : PC} {w w1 w' : World} {i d j : Nat} {enc : World -> α -> Value -> Prop} {r : Except (Int × Int) (α × Nat)} {e : Ending}
theorem Steps.err {x : Int × Int} (h : r = .error x) (ht : Threw w1 x.2 x.1 e w') (hg : w.grownBy w1 (some c.pb)) (hg' : w1.grownBy w' (some c.pb)) : Steps c w i d enc r e w' :=
 .inl ⟨x,h,ht.up hg,za hg hg'⟩
theorem Steps.ok {a : α} {v : Value} (h : r = .ok (a,j)) (he : enc w' a v) (hg : w.grownBy w' (some c.pb)) (hp : PS c w' j d) (hi : i <= j) : Steps c w i d enc r (.returned v) w' :=
 .inr ⟨a,j,v,h,rfl,he,hg,hp,hi⟩
end
theorem yp (c : PC) (w : World) (i d : Nat) (x : List UInt8) (sb : ByteArray) (hsb : sb.data.toList = x) (hx : x ≠ []) (h : PS c w i d) :
    Calls Tryz.prog 137 #[pq c.pb,.string sb] w fun e w' => ∃ b j,yr c.L x i = .ok (b,j) /\ e = .returned (.bool b) /\ w.grownBy w' (some c.pb) /\ PS c w' j d /\ i <= j := by
  have g := zc h; clear h
  obtain rfl : sb = ⟨x.toArray⟩ := by subst hsb; simp
  by_cases f : wd c.L i = x
  · have l : (wd c.L i == x) = true := by rw [f]; simp
    have k : Hid (yr c.L x i = .ok (true,i + 1)) := by unfold yr; rw [if_pos f]; exact rfl
    have m : Hid (wd c.L i ≠ []) := by show _ ≠ _; rw [f]; exact hx
    clear f hx
    go_enter Tryz.func137,Tryz.ntmps137
    go_wp2_with (first
      | (go_at_call 68; refine (yM c _ i d g.out).mono ?_; rintro e w1 ⟨rfl,n,rfl⟩)
      | (go_at_call 139; refine (xB c _ i d (g.out.drewN n) m.out).mono ?_; rintro e s ⟨rfl,o,q⟩))
    go_ret
    exact ⟨true,i + 1,k.out,rfl,za (zq (zj _ _) _) o,q,by omega⟩
  · have l : (wd c.L i == x) = false := by simpa using f
    have k : Hid (yr c.L x i = .ok (false,i)) := by unfold yr; rw [if_neg f]; exact rfl
    clear f hx
    go_enter Tryz.func137,Tryz.ntmps137
    go_wp2_with (first
      | (go_at_call 68; refine (yM c _ i d g.out).mono ?_; rintro e w1 ⟨rfl,n,rfl⟩))
    go_ret
    exact ⟨false,i,k.out,rfl,zq (zj _ _) _,g.out.drewN n,Nat.le_refl _⟩
theorem zy (c : PC) (w : World) (i d : Nat) (x : List UInt8) (sb : ByteArray) (hsb : sb.data.toList = x) (hx : x ≠ []) (h : PS c w i d) :
    Calls Tryz.prog 88 #[pq c.pb,.string sb] w (Steps c w i d (fun _ _ _ => True) (zB c.L x i)) := by
  have t := zc h; clear h
  by_cases f : wd c.L i = x
  · have k : Hid (zB c.L x i = .ok ((),i + 1)) := by unfold zB; rw [if_pos f]; exact rfl
    have l : Hid (yr c.L x i = .ok (true,i + 1)) := by unfold yr; rw [if_pos f]; exact rfl
    clear f
    go_enter Tryz.func88,Tryz.ntmps88
    go_wp2_with (first
      | (go_at_call 137; refine (yp c _ i d x _ hsb hx t.out).mono ?_; rintro e w1 ⟨b,j,g,rfl,m,n,o⟩; rw [l.out] at g; cases g))
    refine bodyPost_end (results_none rfl _ _ _) rfl ?_
    exact Steps.ok k.out trivial m n (by omega)
  · have k : Hid (zB c.L x i = .error (yu c.L i)) := by unfold zB; rw [if_neg f]; exact rfl
    have l : Hid (yr c.L x i = .ok (false,i)) := by unfold yr; rw [if_neg f]; exact rfl
    clear f
    go_enter Tryz.func88,Tryz.ntmps88
    go_wp2_with (first
      | (go_at_call 137; refine (yp c _ i d x _ hsb hx t.out).mono ?_; rintro e w1 ⟨b,j,g,rfl,m,n,o⟩; rw [l.out] at g; cases g)
      | (go_at_call 69; refine (vF c _ i d n).mono ?_; rintro e z ⟨u,s⟩; have v := zc u; obtain ⟨q,rfl,-⟩ := u))
    exact ⟨rfl,Steps.err k.out v.out m (zv s _)⟩
theorem xJ (c : PC) (w : World) (i d : Nat) (h : PS c w i d) :
    Calls Tryz.prog 138 #[pq c.pb] w fun e w' => e = .returned (.bool (yh (wd c.L i))) /\ w.grownBy w' none := by
  have b := zc h; have c3 := h.c3; have g := h.good.short i; clear h
  go_enter Tryz.func138,Tryz.ntmps138
  go_wp2
  go_region_with (first
    | (go_at_call 68; refine (yM c _ i d (b.out.drewN _)).mono ?_; rintro e w1 ⟨rfl,n,rfl⟩)
    | (go_at_call 171; refine (px c.lb ⟨(wd c.L i).toArray⟩ _ (by unfold maxLen; simp [ByteArray.size]; omega) (b.out.drewN _).lx).mono ?_; rintro e k ⟨rfl,f⟩))
  all_goals
    go_wp2
    go_ret
    exact ⟨rfl,za (zq (zj _ _) _) (qU f none)⟩
theorem vQ (c : PC) (w : World) (i d : Nat) (h : PS c w i d) :
    Calls Tryz.prog 89 #[pq c.pb] w (Steps c w i d (fun _ s v => v = .string ⟨s.toArray⟩ /\ s ≠ [] /\ s.length <= 4000) (vd c.L i)) := by
  have k := zc h; clear h; cases f : yh (wd c.L i)
  · have l : Hid (vd c.L i = .error (yu c.L i)) := by unfold vd; rw [f]; exact rfl
    go_enter Tryz.func89,Tryz.ntmps89
    go_wp2_with (first
      | (go_at_call 138; refine (xJ c _ i d k.out).mono ?_; rintro e w1 ⟨rfl,g⟩; simp only [f])
      | (go_at_call 69; refine (vF c _ i d (k.out.kept g)).mono ?_; rintro e t ⟨m,b⟩; have u := zc m; obtain ⟨q,rfl,-⟩ := m))
    exact ⟨rfl,Steps.err l.out u.out (zv g _) (zv b _)⟩
  · have l : Hid (vd c.L i = .ok (wd c.L i,i + 1)) := by unfold vd; rw [f]; exact rfl
    have n : Hid (wd c.L i ≠ []) := by
      show _ ≠ _
      intro e; rw [e] at f
      revert f
      decide
    go_enter Tryz.func89,Tryz.ntmps89
    go_wp2_with (first
      | (go_at_call 138; refine (xJ c _ i d k.out).mono ?_; rintro e w1 ⟨rfl,g⟩; simp only [f])
      | (go_at_call 139; refine (xB c _ i d (k.out.kept g) n.out).mono ?_; rintro e t ⟨rfl,b,o⟩))
    go_ret
    exact Steps.ok l.out ⟨rfl,n.out,o.good.short i⟩ (za (zv g _) b) o (by omega)
end Go.Proofs.YtnmkffjklpfflaaGreatDoor
