/- The kept words as they lie in a lexicon's map,and what a lexicon answers. -/
import Derived.Test.YtfjgelmllcnokaaGreatDoorG01
import Derived.Test.YtfjgelmllcnokaaGreatDoorG02
import GoSem.Op.String
import Derived.Maps.Own
import Derived.Maps.OwnSet
import Derived.Deep.RegionWith
import Derived.Deep.AppendLies
import Derived.Test.YtfjgelmllcnokaaGreatDoorRows
import Derived.WalkKit
import Derived.WalkSpells
import Derived.WalkLawsBesides
import Derived.BigQuiet
import Derived.Deep.QuietTactic
import Derived.Lib.Strings
import Derived.Lib.IndexBytes
import Derived.ChangeArms
import Derived.Deep.Slices
import Derived.Below
import Derived.Deep.RegionHeld
import Derived.Deep.RegionLaw
import Derived.Maps.OwnOps
import Derived.Maps.AppendAt
import Derived.Lib.Builder
import Derived.Lib.AppendStr
import Derived.Lib.UnsafeStr
import Derived.Laws.Externs
namespace Go.Proofs.YtfjgelmllcnokaaGreatDoor
open Go.RowKit Go.Maps Go.WideMaps Go.WideElems
set_option maxHeartbeats 1000000
set_option maxRecDepth 1000000
def ju : List (List UInt8) := [[77,79,68,85,76,69],[73,77,80,79,82,84],[67,79,78,83,84],[84,89,80,69],[86,65,82],[80,82,79,67,69,68,85,82,69],[66,69,71,73,78],[69,78,68],[73,70],[84,72,69,78],[69,76,83,73,70],[69,76,83,69],[87,72,73,76,69],[68,79],[82,69,80,69,65,84],[85,78,84,73,76],[82,69,84,85,82,78],[65,82,82,65,89],[79,70],[82,69,67,79,82,68],[80,79,73,78,84,69,82],[84,79],[78,73,76],[84,82,85,69],[70,65,76,83,69],[68,73,86],[77,79,68],[79,82],[73,83],[78,69,87],[79,85,84],[71,69,84],[65,83,83,69,82,84]]
def qe : ByteArray := ⟨#[77,79,68,85,76,69,32,73,77,80,79,82,84,32,67,79,78,83,84,32,84,89,80,69,32,86,65,82,32,80,82,79,67,69,68,85,82,69,32,66,69,71,73,78,32,69,78,68,32,73,70,32,84,72,69,78,32,69,76,83,73,70,32,69,76,83,69,32,87,72,73,76,69,32,68,79,32,82,69,80,69,65,84,32,85,78,84,73,76,32,82,69,84,85,82,78,32,65,82,82,65,89,32,79,70,32,82,69,67,79,82,68,32,80,79,73,78,84,69,82,32,84,79,32,78,73,76,32,84,82,85,69,32,70,65,76,83,69,32,68,73,86,32,77,79,68,32,79,82,32,73,83,32,78,69,87,32,79,85,84,32,71,69,84,32,65,83,83,69,82,84]⟩
theorem dY : Lib.fields qe.data.toList = ju := by decide +kernel
theorem cQ : ∀ (j : Nat) b,qe.data.toList[j]? = some b -> b.toNat < 128 := by
 intro j b h
 have : ∀ b ∈ qe.data.toList,b.toNat < 128 := by decide +kernel
 exact this b (List.mem_of_getElem? h)
theorem kX : ju.length = 33 := rfl
def lf (l : List UInt8) : Bool := ju.contains l
theorem zir : Keyed Tryz.prog 9 := string_keyed Tryz.underlying9
theorem zhp (w : World) : (zeroValue 81).run Tryz.prog w = .ok (.agg #[]) w := by kernel_rfl
theorem iM (k : Nat) (h : k < ju.length) : (⟨(ju[k]).toArray⟩ : ByteArray).size <= maxLen := by
 have h1 : ∀ x ∈ ju,x.length <= 20 := by decide
 have h2 := h1 _ (List.getElem_mem h)
 unfold maxLen
 simp [ByteArray.size]
 omega
def jJ (k : Nat) : DataW Unit := setOf (.agg []) ((ju.take k).map Lit.string)
theorem oE (k : Nat) (h : k < ju.length) : jJ (k + 1) = (jJ k).put (.string (ju[k])) (.agg []) := by
 unfold jJ
 rw [List.take_succ_eq_append_getElem h,List.map_append,List.map_cons,List.map_nil,setOf_snoc]
theorem ib (l : List UInt8) : Maps.has (jJ 33) (.string l) = lf l := by
 unfold jJ lf
 rw [has_setOf _ _ _ (by intro x hx; obtain ⟨_,_,rfl⟩ := List.mem_map.1 hx; trivial),List.take_of_length_le (by rw [kX]; exact Nat.le_refl _),List.any_map]; rw [Bool.eq_iff_iff,List.any_eq_true,List.contains_iff_mem]
 constructor
 ·rintro ⟨x,hx,h⟩
  have e : x = l := by simpa [Lit.sameKey] using h
  rw [<- e]; exact hx
 ·intro h
  exact ⟨l,h,by simp [Lit.sameKey]⟩
theorem zgn : Tryz.prog.globalNamed "strings.asciiSpace" = some 1 := by kernel_rfl
theorem zhq {w : World} (h : Lib.TabIs Tryz.prog w "strings.asciiSpace" .u8 Lib.asciiSpaceTab) : 1 < w.heap.size := by
 have hc := h.cell zgn 0 (by rw [Lib.asciiSpaceTab_length]; omega)
 rcases Nat.lt_or_ge 1 w.heap.size with h' | h'
 ·exact h'
 ·simp [World.cell?,Array.getElem?_eq_none h'] at hc
theorem ki {w w' : World} (h : Lib.TabIs Tryz.prog w "strings.asciiSpace" .u8 Lib.asciiSpaceTab) (hb : Below w.heap.size w w') : Lib.TabIs Tryz.prog w' "strings.asciiSpace" .u8 Lib.asciiSpaceTab :=
 var?_below hb zgn (zhq h) h
theorem zb6 {w : World} {k : Nat} (h : k < 33) : (w.alloc (.cells (ju.map fun l => Value.string ⟨l.toArray⟩).toArray 9)).cell? ⟨w.heap.size,k,none⟩ = some (.string ⟨(ju[k]'(by rw [kX]; exact h)).toArray⟩) := by
 rw [World.cell?_alloc_at _ _ _ _ rfl]
 simp [List.getElem?_eq_getElem (show k < ju.length by rw [kX]; exact h)]
theorem dX (w : World) (htab : Lib.TabIs Tryz.prog w "strings.asciiSpace" .u8 Lib.asciiSpaceTab) :
  Calls Tryz.prog 15 #[] w fun e w' => e = .returned (.agg #[.map (some (w.heap.size + 1))]) /\ w'.ownsMap Tryz.prog 9 (unitElem (H := Unit)) (w.heap.size + 1) 33 (jJ 33) /\ Below w.heap.size w w' := by
 have hmm := @run_makeMap Tryz.prog; have HTB := za (fun w' (hb : Below w.heap.size w w') => ki htab hb); clear htab
 go_enter Tryz.func15,Tryz.ntmps15
 go_wp2_with fail
 show Calls Tryz.prog 27 #[.string qe] _ _
 refine (Tryz.strings_Fields qe _ (by decide) cQ (HTB.out _ (((Below.refl _ _).alloc (Nat.le_refl _) _).alloc (by simp) _))).mono ?_; rintro e w1 ⟨he,hw1⟩; rw [dY,kX] at he; subst he
 have hsz : w1.heap.size = w.heap.size + 3 := by rw [hw1]; simp
 have hcell : ∀ (k : Nat) (h : k < 33),w1.cell? ⟨w.heap.size + 1 + 1,k,none⟩ = some (.string ⟨(ju[k]'(by rw [kX]; exact h)).toArray⟩) := fun k h => by
  have hk := zb6 (w := (w.alloc (.cells #[.map none] 51)).alloc (.map #[] 0)) h; simp only [World.size_alloc] at hk; rw [hw1,dY]
  exact hk
 have hmap : w1.ownsMap Tryz.prog 9 (unitElem (H := Unit)) (w.heap.size + 1) 0 (jJ 0) := by
  rw [hw1]; have hk := (World.ownsMap_made (w.alloc (.cells #[.map none] 51)) Tryz.prog 9 (unitElem (H := Unit))).alloc (.cells ((Lib.fields qe.data.toList).map fun l => Value.string ⟨l.toArray⟩).toArray 9); simp only [World.size_alloc] at hk
  exact hk
 have hb1 : Below w.heap.size w w1 := by rw [hw1]; exact (((Below.refl _ _).alloc (Nat.le_refl _) _).alloc (by simp) _).alloc (by simp; omega) _
 have hbc : w1.cell? ⟨w.heap.size,0,none⟩ = some (.map none) := by
  rw [hw1,World.cell?_alloc_lt _ _ _ (by simp; omega),World.cell?_alloc_lt _ _ _ (by simp)]; simp
 have hbz : w1.frozen? ⟨w.heap.size,0,none⟩ = false := by
  rw [hw1,World.frozen?_alloc_old _ _ _ (by simp; omega),World.frozen?_alloc_old _ _ _ (by simp)]; simp
 simp only [World.size_alloc]; have HC := za hcell; have HM := za hmap; have HB := za hb1; have HBC := za hbc; have HBZ := za hbz; have HSZ := za hsz; clear hw1 hsz hcell hmap hb1 hbc hbz HTB hmm; go_wp2
 go_loopw [7] (fun iv wr => ∃ k : Nat,k <= 33 /\ iv = .int .i64 k /\ Hid (wr.ownsMap Tryz.prog 9 (unitElem (H := Unit)) (w.heap.size + 1) k (jJ k)) /\ Hid (w1.grownBy wr (some (w.heap.size + 1)))) (fun iv _ => 33 - (intOf iv).toNat)
 case atStart => exact ⟨0,by omega,rfl,HM,zl _ _⟩
 case round =>
  obtain ⟨k,hk,rfl,HO,HG⟩ := hrel; have hsz := HSZ.out
  by_cases hlt : k < 33
  ·have d0 : wr.cell? ⟨w.heap.size + 1 + 1,k,none⟩ = _ := zY HG.out (HC.out k hlt) (by simp)
   have hls : k < ju.length := by rw [kX]; exact hlt
   have hkey : keyOf Tryz.prog 9 (.string ⟨(ju[k]'hls).toArray⟩) = some (.string (ju[k]'hls)) := by
    have := keyOf_string_mk (P := Tryz.prog) Tryz.underlying9 (s := ⟨(ju[k]'hls).toArray⟩) (iM k hls)
    simpa using this
   have hsucc := oE k hls
   generalize ju[k]'hls = x at d0 hkey hsucc
   have HS := za hsucc; have HK := za hkey; clear hsucc hkey
   go_wp2_with (first | (at_mapUpdate; refine wpList_mapUpdate_own _ rfl _ _ _ 49 rfl 9 81 zir Tryz.underlying49 (unitElem (H := Unit)) (w.heap.size + 1) k _ rfl HO.out (by unfold maxLen; omega) _ _ _ rfl rfl HK.out (.agg []) [] unitElem_mk ?_; intro w3 hown3 hg3))
   exact ⟨⟨k + 1,by omega,by go_num,by rw [HS.out]; exact hown3,zb HG.out hg3⟩,by simp [intOf]; omega⟩
  ·obtain rfl : k = 33 := by omega
   have c0 := zY HG.out HBC.out (by simp); have z0 := yY HG.out (by simp; omega) HBZ.out (by simp); have hbb : Below w.heap.size w wr := HB.out.grown HG.out (by omega) (fun j hj => by cases hj; omega); have HBB := za hbb; have HOS := za (HO.out.setCell (a := ⟨w.heap.size,0,none⟩) (by simp) (.map (some (w.heap.size + 1)))); have g0 : (wr.setCell ⟨w.heap.size,0,none⟩ (.map (some (w.heap.size + 1)))).cell? ⟨w.heap.size,0,none⟩ = some (.map (some (w.heap.size + 1))) := World.cell?_setCell_same _ _ _ c0; clear hbb HG HO HBC HBZ HC HM HB hsz HSZ; go_wp2
   exact bodyPost_ret (v := .agg #[.map (some (w.heap.size + 1))]) (by simp [results,Tryz.results15,go_sem,g0]) rfl ⟨rfl,HOS.out,HBB.out.setCell (by simp) _⟩
def IsLex (w : World) (b : Nat) : Prop := w.ownsMap Tryz.prog 9 (unitElem (H := Unit)) b 33 (jJ 33)
theorem IsLex.below {w w' : World} {b : Nat} (h : IsLex w b) (hb : Below w.heap.size w w') : IsLex w' b := World.ownsMap.kept h (⟨hb.os,hb.tape,hb.output,hb.size,fun i hi _ => hb.block i hi⟩ : w.grownBy w' none) (by simp)
theorem nR (b : Nat) (s : ByteArray) (w : World) (hs : s.size <= maxLen) (hx : IsLex w b) :
  Calls Tryz.prog 158 #[.agg #[.map (some b)],.string s] w fun e w' => e = .returned (.bool (lf s.data.toList)) /\ Below w.heap.size w w' := by
 have HK := za (keyOf_string_mk (P := Tryz.prog) Tryz.underlying9 (s := s) hs)
 have HX := fun o => za (World.ownsMap.alloc hx o)
 have HH := za (ib s.data.toList); clear hx
 go_enter Tryz.func158,Tryz.ntmps158
 go_wp2_with (first | (at_lookup; refine wpList_lookup_own_unit _ rfl _ _ 49 rfl 9 81 zir Tryz.underlying49 (zhp _) b 33 (jJ 33) rfl (HX _).out _ _ rfl HK.out ?_; rw [HH.out]))
 go_ret
 exact ⟨rfl,((Below.refl _ _).alloc (Nat.le_refl _) _).alloc (by simp) _⟩
def jE (l : List UInt8) : Bool := !l.isEmpty && decide (l.length <= 12) && zH (l.headD 0).toNat && l.all (fun c => lod c.toNat)
def zF (l : List UInt8) : Bool := jE l && !lf l
theorem zd3 (s : ByteArray) (k : Nat) (h : k < s.size) : s[k] ∈ s.data.toList := oy s k h
theorem ry (s : ByteArray) (h : 0 < s.size) : s.data.toList.headD 0 = s[0] := (gE s h).1
theorem mF (s : ByteArray) (h : s.size = 0) : zF s.data.toList = false := by
 have : s.data.toList = [] := List.eq_nil_of_length_eq_zero (by rw [<- zT]; exact h); rw [this]; rfl
theorem sk (s : ByteArray) (h : 12 < s.size) : zF s.data.toList = false := by
 unfold zF jE
 rw [<- zT]
 simp [show ¬ s.size <= 12 by omega]
theorem rZ (s : ByteArray) (k : Nat) (h : k < s.size) (hl : lod (s[k]).toNat = false) : zF s.data.toList = false := by
 unfold zF jE
 have : s.data.toList.all (fun c => lod c.toNat) = false := by
  rw [List.all_eq_false]
  exact ⟨s[k],zd3 s k h,by simp [hl]⟩
 rw [this]; simp
theorem di (s : ByteArray) (h : 0 < s.size) (hl : zH (s[0]).toNat = false) : zF s.data.toList = false := by
 unfold zF jE
 rw [ry s h,hl]; simp
theorem aM (s : ByteArray) (h0 : 0 < s.size) (h12 : s.size <= 12) (hl : zH (s[0]).toNat = true) (ha : ∀ (j : Nat) (h : j < s.size),lod (s[j]'h).toNat = true) : zF s.data.toList = !lf s.data.toList := by
 unfold zF jE
 have h1 : s.data.toList.all (fun c => lod c.toNat) = true := by
  rw [List.all_eq_true]; intro c hc; obtain ⟨j,hj,rfl⟩ := List.getElem_of_mem hc
  exact ha j (by rw [zT]; exact hj)
 have h2 : s.data.toList.isEmpty = false := by
  cases h : s.data.toList with
  | nil => rw [zT,h] at h0; simp at h0
  | cons a l => rfl
 rw [ry s h0,hl,h1,h2,<- zT]
 simp [h12]
theorem ro (s : ByteArray) : s.toList.isEmpty = decide (s.size = 0) := by
 rw [jG,zT]
 cases s.data.toList <;> simp
theorem qS (b : Nat) (s : ByteArray) (w : World) (hs : s.size <= maxLen) (hx : IsLex w b) :
  Calls Tryz.prog 126 #[.agg #[.map (some b)],.string s] w fun e w' => e = .returned (.bool (zF s.data.toList)) /\ Below w.heap.size w w' := by
 by_cases h0 : s.size = 0
 ·have hemp : s.toList.isEmpty = true := by rw [ro]; simp [h0]
  have HN := za (mF s h0); clear h0 hx
  go_enter Tryz.func126,Tryz.ntmps126
  go_wp2
  go_ret
  exact ⟨by rw [HN.out]; rfl,(Below.refl _ _).alloc (Nat.le_refl _) _⟩
 ·have hemp : s.toList.isEmpty = false := by rw [ro]; simp [h0]
  by_cases h12 : 12 < s.size
  ·have HN := za (sk s h12)
   clear h0 hx
   unfold maxLen at hs
   go_enter Tryz.func126,Tryz.ntmps126
   go_wp2
   go_ret
   exact ⟨by rw [HN.out]; rfl,(Below.refl _ _).alloc (Nat.le_refl _) _⟩
  ·have h1 : 1 <= s.size := by omega
   have h13 : s.size <= 12 := by omega
   have HX := za hx; clear h0 h12 hx
   go_enter Tryz.func126,Tryz.ntmps126
   go_wp2
   go_loopw [6] (fun _ wr => ∃ k : Nat,wr = (w.alloc (.cells #[.map (some b)] 51)).iter s k /\ k <= s.size /\ Hid (0 < k -> ∀ h : 0 < s.size,zH (s[0]'h).toNat = true) /\ Hid (∀ (j : Nat) (h : j < s.size),j < k -> lod (s[j]'h).toNat = true)) (fun _ wr => s.size - wr.iterPos (w.alloc (.cells #[.map (some b)] 51)).heap.size)
   case atStart => exact ⟨0,rfl,Nat.zero_le _,fun h => by omega,fun j h hj => by omega⟩
   case round =>
    obtain ⟨k,rfl,_,HL,HB⟩ := hrel
    have hsz : (w.alloc (.cells #[.map (some b)] 51)).heap.size = w.heap.size + 1 := by simp
    by_cases hlt : k < s.size
    ·have hnx : ∀ ty,(Instr.next (.pointer (some ⟨(w.alloc (.cells #[.map (some b)] 51)).heap.size,0,none⟩)) true ty).run Tryz.prog ((w.alloc (.cells #[.map (some b)] 51)).iter s k) = _ := fun ty => run_next_any (w.alloc (.cells #[.map (some b)] 51)) s k ty hlt
     rw [hsz] at hnx
     have hlast : ∀ w',Below w.heap.size w ((w.alloc (.cells #[.map (some b)] 51)).iter s w') := fun w' => ((Below.refl _ _).alloc (Nat.le_refl _) _).alloc (by simp) _
     have HLa := za hlast; clear hlast hsz
     have hdec : zH (Utf8.decode s k).1 = zH (s[k]'hlt).toNat /\ zs (Utf8.decode s k).1 = zs (s[k]'hlt).toNat := by
      by_cases ha : (s[k]'hlt).toNat < 128
      ·rw [decode_ascii s k hlt ha]; exact ⟨rfl,rfl⟩
      ·have hd := (decode_high s k hlt (by omega)).1
       have f1 : ∀ n : Int,128 <= n -> zH n = false := fun n hn => by simp [zH]; omega
       exact ⟨by rw [f1 _ (by omega),f1 _ (by omega)],by rw [kr (by omega),kr (by omega)]⟩
     cases hl : zH (s[k]'hlt).toNat
     ·have hl' := hdec.1.trans hl
      by_cases hk0 : k = 0
      ·subst hk0
       have HN := za (di s hlt hl); clear hl hdec
       go_wp2_with (go_at_call 104; refine (xU _ _).mono ?_; rintro e w' ⟨rfl,rfl⟩; simp only [hl'])
       go_ret
       exact ⟨by rw [HN.out]; rfl,HLa.out _⟩
      ·have hz : ((k : Int) == 0) = false := by simp; omega
       cases hd : zs (s[k]'hlt).toNat
       ·have hd' := hdec.2.trans hd
        have HN := za (rZ s k hlt (by simp [lod,hl,hd])); clear hl hd hdec
        go_wp2_with (first | (go_at_call 104; refine (xU _ _).mono ?_; rintro e w' ⟨rfl,rfl⟩; simp only [hl']) | (go_at_call 108; refine (vg _ _).mono ?_; rintro e w' ⟨rfl,rfl⟩; simp only [hd']))
        go_ret
        exact ⟨by rw [HN.out]; rfl,HLa.out _⟩
       ·have hd' := hdec.2.trans hd
        have HN : Hid (lod (s[k]'hlt).toNat = true) := by unfold lod; rw [hl,hd]; rfl
        have ha : (s[k]'hlt).toNat < 128 := by
         rcases Nat.lt_or_ge (s[k]'hlt).toNat 128 with h | h
         ·exact h
         ·rw [kr (by omega)] at hd; cases hd
        rw [decode_ascii s k hlt ha] at hnx hl' hd'; clear hl hd hdec
        go_wp2_with (first | (go_at_call 104; refine (xU _ _).mono ?_; rintro e w' ⟨rfl,rfl⟩; simp only [hl']) | (go_at_call 108; refine (vg _ _).mono ?_; rintro e w' ⟨rfl,rfl⟩; simp only [hd']))
        go_roundw
        case rel => exact ⟨k + 1,rfl,by omega,fun _ h => HL.out (by omega) h,fun j h hj => by
         rcases Nat.lt_or_ge j k with h1 | h1
         ·exact HB.out j h h1
         ·obtain rfl : j = k := by omega
          exact HN.out⟩
        case measure => simp only [World.iterPos_iter]; omega
     ·have hl' := hdec.1.trans hl
      have HN : Hid (lod (s[k]'hlt).toNat = true) := by unfold lod; rw [hl]; rfl
      have HL2 : Hid (zH (s[k]'hlt).toNat = true) := hl
      have ha : (s[k]'hlt).toNat < 128 := by
       rcases Nat.lt_or_ge (s[k]'hlt).toNat 128 with h | h
       ·exact h
       ·have : zH (s[k]'hlt).toNat = false := by simp [zH]; omega
        rw [this] at hl; cases hl
      rw [decode_ascii s k hlt ha] at hnx hl'; clear hl hdec
      go_wp2_with (go_at_call 104; refine (xU _ _).mono ?_; rintro e w' ⟨rfl,rfl⟩; simp only [hl'])
      go_roundw
      case rel => exact ⟨k + 1,rfl,by omega,fun _ h => by
       rcases Nat.eq_zero_or_pos k with h0 | h0
       ·subst h0; exact HL2.out
       ·exact HL.out h0 h,fun j h hj => by
       rcases Nat.lt_or_ge j k with h1 | h1
       ·exact HB.out j h h1
       ·obtain rfl : j = k := by omega
        exact HN.out⟩
      case measure => simp only [World.iterPos_iter]; omega
    ·have hnx : ∀ ty,(Instr.next (.pointer (some ⟨(w.alloc (.cells #[.map (some b)] 51)).heap.size,0,none⟩)) true ty).run Tryz.prog ((w.alloc (.cells #[.map (some b)] 51)).iter s k) = _ := fun ty => run_next_end (w.alloc (.cells #[.map (some b)] 51)) s k ty hlt
     rw [hsz] at hnx; have HN := za (aM s (by omega) h13 (HL.out (by omega) (by omega)) (fun j h => HB.out j h (by omega))); have hb : Below w.heap.size w ((w.alloc (.cells #[.map (some b)] 51)).iter s k) := ((Below.refl _ _).alloc (Nat.le_refl _) _).alloc (by simp) _
     have c0 : ((w.alloc (.cells #[.map (some b)] 51)).iter s k).cell? ⟨w.heap.size,0,none⟩ = some (.map (some b)) := by
      show (World.alloc _ _).cell? _ = _
      rw [World.cell?_alloc_lt _ _ _ (by simp)]; simp
     have HX2 : Hid (IsLex ((w.alloc (.cells #[.map (some b)] 51)).iter s k) b) := HX.out.below hb; have HBB := za hb; clear hb hsz HX HL HB
     go_wp2_with (go_at_call 158; refine (nR b s _ hs HX2.out).mono ?_; rintro e w1 ⟨rfl,hb1⟩)
     go_ret
     exact ⟨by rw [HN.out]; rfl,HBB.out.trans (hb1.mono HBB.out.size)⟩
def jI : List UInt8 := [77,79,68,85,76,69]
def uJ : List UInt8 := [73,77,80,79,82,84]
def uD : List UInt8 := [67,79,78,83,84]
def jT : List UInt8 := [84,89,80,69]
def vE : List UInt8 := [86,65,82]
def yk : List UInt8 := [80,82,79,67,69,68,85,82,69]
def yZ : List UInt8 := [66,69,71,73,78]
def yD : List UInt8 := [69,78,68]
def kIF : List UInt8 := [73,70]
def xP : List UInt8 := [84,72,69,78]
def jf : List UInt8 := [69,76,83,73,70]
def qM : List UInt8 := [69,76,83,69]
def ue : List UInt8 := [87,72,73,76,69]
def kDO : List UInt8 := [68,79]
def va : List UInt8 := [82,69,80,69,65,84]
def jq : List UInt8 := [85,78,84,73,76]
def xK : List UInt8 := [82,69,84,85,82,78]
def jy : List UInt8 := [65,82,82,65,89]
def kOF : List UInt8 := [79,70]
def vI : List UInt8 := [82,69,67,79,82,68]
def vN : List UInt8 := [80,79,73,78,84,69,82]
def kTO : List UInt8 := [84,79]
def rB : List UInt8 := [78,73,76]
def gk : List UInt8 := [84,82,85,69]
def kj : List UInt8 := [70,65,76,83,69]
def zin : List UInt8 := [68,73,86]
def zh5 : List UInt8 := [77,79,68]
def kOR : List UInt8 := [79,82]
def kIS : List UInt8 := [73,83]
def lj : List UInt8 := [78,69,87]
def lY : List UInt8 := [79,85,84]
def mp : List UInt8 := [71,69,84]
def kF : List UInt8 := [65,83,83,69,82,84]
def qO : List UInt8 := [61]
def zc8 : List UInt8 := [35]
def zic : List UInt8 := [60]
def ziz : List UInt8 := [62]
def zh7 : List UInt8 := [60,61]
def zi2 : List UInt8 := [62,61]
def zc7 : List UInt8 := [43]
def vd : List UInt8 := [45]
def qz : List UInt8 := [42]
def zfj : List UInt8 := [38]
def uq : List UInt8 := [126]
def yw : List UInt8 := [40]
def xd : List UInt8 := [41]
def pn : List UInt8 := [91]
def mw : List UInt8 := [93]
def np : List UInt8 := [123]
def cP : List UInt8 := [125]
def yq : List UInt8 := [44]
def zE : List UInt8 := [59]
def xk : List UInt8 := [58]
def vG : List UInt8 := [46]
def gR : List UInt8 := [94]
def xG : List UInt8 := [58,61]
inductive T where
 | mk (kind : Int) (name : List UInt8) (num at' : Int) (subs : List T)
def T.at' : T -> Int
 | .mk _ _ _ a _ => a
abbrev Tok := List UInt8 × Int
def wd (L : List Tok) (i : Nat) : List UInt8 := (L[i]?.getD ([],0)).1
def pos (L : List Tok) (i : Nat) : Int := (L[i]?.getD ([],0)).2
abbrev P (α : Type) := Nat -> Except (Int × Int) (α × Nat)
def P.bind {α β : Type} (p : P α) (k : α -> P β) : P β := fun i => match p i with
 | .error e => .error e
 | .ok (a,j) => k a j
def P.ret {α : Type} (a : α) : P α := fun i => .ok (a,i)
def atP {α : Type} (g : Nat -> P α) : P α := fun i => g i i
theorem P.bind_ok {α β : Type} {p : P α} {k : α -> P β} {i j : Nat} {a : α} (h : p i = .ok (a,j)) : P.bind p k i = k a j := by unfold P.bind; rw [h]
theorem P.bind_err {α β : Type} {p : P α} {k : α -> P β} {i : Nat} {e : Int × Int} (h : p i = .error e) : P.bind p k i = .error e := by unfold P.bind; rw [h]
section
variable (L : List Tok)
def xw (i : Nat) : Int × Int := (if wd L i = [] then 2 else 4,pos L i)
def vM {α : Type} : P α := fun i => .error (3,pos L i)
def yP (w : List UInt8) : P Bool := fun i => if wd L i = w then .ok (true,i + 1) else .ok (false,i)
def zx (w : List UInt8) : P Unit := fun i => if wd L i = w then .ok ((),i + 1) else .error (xw L i)
def uo : P (List UInt8) := fun i => if zF (wd L i) = true then .ok (wd L i,i + 1) else .error (xw L i)
def ku (w : List UInt8) : Option Int := if w ≠ [] /\ zs ((w.headD 0).toNat : Int) = true then zX 0 w else none
def qd : P Int := fun i => match ku (wd L i) with
 | some n => .ok (n,i + 1)
 | none => .error (xw L i)
def vj (kind : Int) : P T := atP fun i => (uo L).bind (fun s => P.ret (.mk kind s 0 (pos L i) []))
def mY (t : T) : P T := (yP L qz).bind fun b => P.ret (match t with | .mk k s n a l => if b then .mk k s 1 a l else .mk k s n a l)
def xq (kind : Int) : P T := (vj L kind).bind (mY L)
def yG (part : P T) (sep : List UInt8) : Nat -> List T -> P (List T)
 | 0,_ => fun _ => .error (0,0)
 | f + 1,acc => (yP L sep).bind fun b => if b then part.bind fun t => yG part sep f (acc ++ [t]) else P.ret acc
def xC (part : P T) (sep : List UInt8) : P (List T) := part.bind fun t => yG L part sep L.length [t]
def xF (part : P T) (sep : List UInt8) : P (List T) :=
 (zx L yw).bind fun _ => (yP L xd).bind fun b => if b then P.ret [] else (xC L part sep).bind fun l => (zx L xd).bind fun _ => P.ret l
def yu : P T := (vj L 13).bind fun n => (yP L vG).bind fun b => if b then (uo L).bind fun s2 => P.ret (match n with | .mk k s m a _ => .mk k s2 m a [.mk 24 s 0 a []]) else P.ret n
def jA (t : T) : P T := (zx L xk).bind fun _ => (yu L).bind fun y => P.ret (match t with | .mk k s n a _ => .mk k s n a [y])
def opT (sign : List UInt8) (left right : T) : T := .mk 36 sign 0 left.at' [left,right]
def yb (w : List UInt8) : Bool := w == vG || w == pn || w == gR || w == np
def xH (E : P T) (of' : T) : P T := fun i =>
 if wd L i = vG then (uo L).bind (fun s => P.ret (.mk 25 s 0 of'.at' [of'])) (i + 1)
 else if wd L i = pn then E.bind (fun e => (zx L mw).bind fun _ => P.ret (.mk 26 [] 0 of'.at' [of',e])) (i + 1)
 else if wd L i = gR then .ok (.mk 27 [] 0 of'.at' [of'],i + 1)
 else (yu L).bind (fun y => (zx L cP).bind fun _ => P.ret (.mk 28 [] 0 of'.at' [of',y])) (i + 1)
def zt (E : P T) : Nat -> T -> P T
 | 0,n => fun i => if yb (wd L i) = true then (xH L E n).bind (fun _ => vM L) i else .ok (n,i)
 | f + 1,n => fun i => if yb (wd L i) = true then (xH L E n).bind (fun n' => zt E f n') i else .ok (n,i)
def zQ (E : P T) : P T := (vj L 24).bind fun n => zt L E 20 n
def yS (E : P T) : P (List T) := xF L E yq
def yB (E : P T) : P T := (zQ L E).bind fun n i => if wd L i = yw then (yS L E).bind (fun l => P.ret (.mk 33 [] 0 n.at' (n :: l))) i else .ok (n,i)
def zV (E F : P T) : P T := fun i =>
 if wd L i = gk then .ok (.mk 30 [] 0 (pos L i) [],i + 1)
 else if wd L i = kj then .ok (.mk 31 [] 0 (pos L i) [],i + 1)
 else if wd L i = rB then .ok (.mk 32 [] 0 (pos L i) [],i + 1)
 else if wd L i = uq then F.bind (fun f => P.ret (.mk 34 [] 0 (pos L i) [f])) (i + 1)
 else if wd L i = yw then E.bind (fun e => (zx L xd).bind fun _ => P.ret e) (i + 1)
 else if zF (wd L i) = true then yB L E i
 else (qd L).bind (fun n => P.ret (.mk 29 [] n (pos L i) [])) i
def yO (joins : List UInt8 -> Bool) (part : P T) : Nat -> T -> P T
 | 0,left => fun i => if joins (wd L i) = true then vM L (i + 1) else .ok (left,i)
 | f + 1,left => fun i => if joins (wd L i) = true then part.bind (fun r => yO joins part f (opT (wd L i) left r)) (i + 1) else .ok (left,i)
def kZ (w : List UInt8) : Bool := w == zc7 || w == vd || w == kOR
def xp (w : List UInt8) : Bool := w == qz || w == zin || w == zh5 || w == zfj
def xE (w : List UInt8) : Bool := w == qO || w == zc8 || w == zic || w == zh7 || w == ziz || w == zi2
def ur (E F : P T) : P T := (zV L E F).bind fun a => yO L xp (zV L E F) 20 a
def cr (E F : P T) : P T := atP fun i => (yP L vd).bind (fun b => (ur L E F).bind fun a => yO L kZ (ur L E F) 20 (if b then .mk 35 [] 0 (pos L i) [a] else a))
def vi (E F : P T) : P T := (cr L E F).bind fun a i =>
 if wd L i = kIS then (yu L).bind (fun y => P.ret (.mk 37 [] 0 a.at' [a,y])) (i + 1)
 else if xE (wd L i) = true then (cr L E F).bind (fun b => P.ret (opT (wd L i) a b)) (i + 1)
 else .ok (a,i)
def jB : Nat -> P T × P T
 | 0 => (vM L,vM L)
 | n + 1 => (vi L (jB n).1 (jB n).2,zV L (jB n).1 (jB n).2)
def yy (n : Nat) : P T := (jB L n).1
def xf (n : Nat) : P T := (jB L n).2
theorem uT (n : Nat) : yy L (n + 1) = vi L (yy L n) (xf L n) := rfl
theorem dy (n : Nat) : xf L (n + 1) = zV L (yy L n) (xf L n) := rfl
def yF (w : List UInt8) : Bool := w == zE || w == yD || w == jf || w == qM || w == jq || w == []
def jK (E A : P T) : P (List T) := E.bind fun c => (zx L xP).bind fun _ => A.bind fun a => P.ret [c,a]
def xh (E A : P T) : Nat -> List T -> P (List T)
 | 0,_ => fun _ => .error (0,0)
 | f + 1,acc => (yP L jf).bind fun b => if b then (jK L E A).bind fun l => xh E A f (acc ++ l) else P.ret acc
def jk (E A : P T) : P T := atP fun i => (zx L kIF).bind fun _ => (jK L E A).bind (fun l => (xh L E A L.length l).bind fun l => (yP L qM).bind fun b => if b then A.bind fun a => (zx L yD).bind fun _ => P.ret (.mk 16 [] 1 (pos L i) (l ++ [a])) else (zx L yD).bind fun _ => P.ret (.mk 16 [] 0 (pos L i) l))
def nA (E A : P T) : P T := atP fun i => (zx L ue).bind fun _ => E.bind (fun c => (zx L kDO).bind fun _ => A.bind fun a => (zx L yD).bind fun _ => P.ret (.mk 17 [] 0 (pos L i) [c,a]))
def tN (E A : P T) : P T := atP fun i => (zx L va).bind fun _ => A.bind (fun a => (zx L jq).bind fun _ => E.bind fun c => P.ret (.mk 18 [] 0 (pos L i) [a,c]))
def qn (E : P T) : P T := atP fun i => (zx L xK).bind fun _ j => if yF (wd L j) = true then .ok (.mk 19 [] 0 (pos L i) [],j) else E.bind (fun e => P.ret (.mk 19 [] 0 (pos L i) [e])) j
def vm (kind : Int) (k : List UInt8) (part : P T) : P T := atP fun i => (zx L k).bind fun _ => (zx L yw).bind (fun _ => part.bind fun e => (zx L xd).bind fun _ => P.ret (.mk kind [] 0 (pos L i) [e]))
def jP (E : P T) : P T := atP fun i => (zQ L E).bind (fun d j =>
 if wd L j = xG then E.bind (fun e => P.ret (.mk 14 [] 0 (pos L i) [d,e])) (j + 1)
 else if wd L j = yw then (yS L E).bind (fun l => P.ret (.mk 15 [] 0 (pos L i) (d :: l))) j
 else .ok (.mk 15 [] 0 (pos L i) [d],j))
def xQ (E A : P T) : P T := fun i =>
 if wd L i = kIF then jk L E A i
 else if wd L i = ue then nA L E A i
 else if wd L i = va then tN L E A i
 else if wd L i = xK then qn L E i
 else if wd L i = lj then vm L 20 lj (zQ L E) i
 else if wd L i = lY then vm L 21 lY E i
 else if wd L i = mp then vm L 22 mp (zQ L E) i
 else if wd L i = kF then vm L 23 kF E i
 else jP L E i
def xa (E A : P T) : Nat -> List T -> P (List T)
 | 0,_ => fun _ => .error (0,0)
 | f + 1,acc => fun i => (if yF (wd L i) = true then P.ret acc else (xQ L E A).bind fun t => P.ret (acc ++ [t])).bind (fun acc => (yP L zE).bind fun b => if b then xa E A f acc else P.ret acc) i
def mS (E A : P T) : P T := atP fun i => (xa L E A (L.length + 1) []).bind (fun l => P.ret (.mk 1 [] 0 (pos L i) l))
def vp : Nat -> P T
 | 0 => vM L
 | n + 1 => mS L (yy L n) (vp n)
def yR (part : P T) : Nat -> List T -> P (List T)
 | 0,_ => fun _ => .error (0,0)
 | f + 1,acc => fun i => if zF (wd L i) = true then part.bind (fun t => (zx L zE).bind fun _ => yR part f (acc ++ [t])) i else .ok (acc,i)
def jj (k : List UInt8) (part : P T) : P T := atP fun i => (yP L k).bind (fun b => if b then (yR L part (L.length + 1) []).bind fun l => P.ret (.mk 1 [] 0 (pos L i) l) else P.ret (.mk 1 [] 0 (pos L i) []))
def kG (t y : T) : T := match t with | .mk k s n a _ => .mk k s n a [y]
def uZ : P T := (xq L 4).bind fun n => (zx L qO).bind fun _ => (yy L 20).bind fun e => P.ret (kG n e)
def oU : P T := atP fun i => (zx L jy).bind fun _ => (qd L).bind (fun n => (zx L kOF).bind fun _ => (yu L).bind fun y => P.ret (.mk 9 [] n (pos L i) [y]))
def fC : P T := atP fun i => (zx L vN).bind fun _ => (zx L kTO).bind (fun _ => (yu L).bind fun y => P.ret (.mk 12 [] 0 (pos L i) [y]))
def kg : P T := (xq L 6).bind (jA L)
def du : P T := (xq L 11).bind (jA L)
def kS : P T := (vj L 6).bind (jA L)
def nY : P T := atP fun i => (yP L yw).bind (fun b => if b then (yu L).bind fun y => (zx L xd).bind fun _ => P.ret y else P.ret (.mk 0 [] 0 (pos L i) []))
def qw : P T := atP fun i => (zx L vI).bind fun _ => (nY L).bind (fun y => (yR L (du L) (L.length + 1) []).bind fun l => (zx L yD).bind fun _ => P.ret (.mk 10 [] 0 (pos L i) (y :: l)))
def yh : P T := fun i =>
 if wd L i = jy then oU L i else if wd L i = vI then qw L i else if wd L i = vN then fC L i else .error (xw L i)
def uI : P T := (xq L 5).bind fun n => (zx L qO).bind fun _ => (yh L).bind fun e => P.ret (kG n e)
def vZ : P T := atP fun i => (yP L vE).bind (fun b => (uo L).bind fun s => jA L (.mk 8 s (if b then 1 else 0) (pos L i) []))
def xo : P T := fun i => if wd L i = yw then (xF L (vZ L) zE).bind (fun l => P.ret (.mk 1 [] 0 (pos L i) l)) i else .ok (.mk 1 [] 0 (pos L i) [],i)
def gw : P T := atP fun i => (yP L xk).bind (fun b => if b then yu L else P.ret (.mk 0 [] 0 (pos L i) []))
def uN (s : List UInt8) : P Unit := (zx L yD).bind fun _ => zx L s
def xv : P T := atP fun i => (zx L yk).bind fun _ => (xq L 7).bind (fun h => (xo L).bind fun ps => (gw L).bind fun r => (zx L zE).bind fun _ => (jj L vE (kS L)).bind fun vs => (zx L yZ).bind fun _ => (vp L 20).bind fun b =>
 match h with | .mk _ s n _ _ => (uN L s).bind fun _ => P.ret (.mk 7 s n (pos L i) [ps,r,vs,b]))
def xb : Nat -> List T -> P (List T)
 | 0,_ => fun _ => .error (0,0)
 | f + 1,acc => fun i => if wd L i = yk then (xv L).bind (fun t => (zx L zE).bind fun _ => xb f (acc ++ [t])) i else .ok (acc,i)
def vQ : P T := atP fun i => (xb L (L.length + 1) []).bind (fun l => P.ret (.mk 1 [] 0 (pos L i) l))
def qb : P T := atP fun i => (yP L uJ).bind (fun b => if b then (xC L (vj L 3) yq).bind fun l => (zx L zE).bind fun _ => P.ret (.mk 1 [] 0 (pos L i) l) else P.ret (.mk 1 [] 0 (pos L i) []))
def zbw : P T := atP fun i => (yP L yZ).bind (fun b => if b then vp L 20 else P.ret (.mk 1 [] 0 (pos L i) []))
def gH : P T := atP fun i => (zx L jI).bind (fun _ => (uo L).bind fun s => (zx L zE).bind fun _ => (qb L).bind fun m1 => (jj L uD (uZ L)).bind fun m2 => (jj L jT (uI L)).bind fun m3 =>
 (jj L vE (kg L)).bind fun m4 => (vQ L).bind fun m5 => (zbw L).bind fun m6 => (uN L s).bind fun _ => (zx L vG).bind fun _ => P.ret (.mk 2 s 0 (pos L i) [m1,m2,m3,m4,m5,m6]))
def vr : P T := (gH L).bind fun t i => if wd L i = [] then .ok (t,i) else .error (xw L i)
end
set_option maxHeartbeats 400000
set_option maxRecDepth 100000
structure PC where
  pb : Nat
  tb : Nat
  cap : Nat
  lb : Nat
  L : List Tok
structure GoodL (L : List Tok) : Prop where
  last : ∀ j,j < L.length -> (wd L j = [] ↔ j + 1 = L.length)
  short : ∀ j,(wd L j).length <= 4000
  few : L.length <= 5000
  dig : ∀ j,zs (((wd L j).headD 0).toNat : Int) = true -> ∀ c ∈ wd L j,zs (c.toNat : Int) = true
  low : ∀ j,((wd L j).headD 0).toNat < 128
  val : ∀ j,wd L j ≠ [] -> zs (((wd L j).headD 0).toNat : Int) = true -> ∃ n,zX 0 (wd L j) = some n
theorem GoodL.next {L : List Tok} (h : GoodL L) {i : Nat} (hi : i < L.length) (hn : wd L i ≠ []) : i + 1 < L.length := by
  rcases Nat.lt_or_ge (i + 1) L.length with h1 | h1
  · exact h1
  · exact absurd ((h.last i hi).2 (by omega)) hn
structure PS (c : PC) (w : World) (i d : Nat) : Prop where
  c0 : w.cell? ⟨c.pb,0,none⟩ = some (.slice (some ⟨c.tb,0,none⟩) c.L.length c.cap)
  c1 : w.cell? ⟨c.pb,1,none⟩ = some (.int .i64 i)
  c2 : w.cell? ⟨c.pb,2,none⟩ = some (.int .i64 d)
  c3 : w.cell? ⟨c.pb,3,none⟩ = some (.map (some c.lb))
  z1 : w.frozen? ⟨c.pb,1,none⟩ = false
  z2 : w.frozen? ⟨c.pb,2,none⟩ = false
  tk : ∀ j,j < c.L.length -> w.cell? ⟨c.tb,j * 2,none⟩ = some (.string ⟨(wd c.L j).toArray⟩) /\ w.cell? ⟨c.tb,j * 2 + 1,none⟩ = some (.int .i64 (pos c.L j))
  lx : IsLex w c.lb
  n1 : c.tb ≠ c.pb
  n2 : c.lb ≠ c.pb
  il : i < c.L.length
  good : GoodL c.L
  deep : d <= 21
theorem ze {w : World} {a : Addr} {v : Value} (h : w.cell? a = some v) : a.block < w.heap.size := World.block_lt_of_cell? w a h
theorem PS.lt {c : PC} {w : World} {i d : Nat} (h : PS c w i d) : c.pb < w.heap.size := ze h.c0
theorem PS.kept {c : PC} {w w' : World} {i d : Nat} (h : PS c w i d) (hg : w.grownBy w' none) : PS c w' i d where
  c0 := zY hg h.c0 (by simp)
  c1 := zY hg h.c1 (by simp)
  c2 := zY hg h.c2 (by simp)
  c3 := zY hg h.c3 (by simp)
  z1 := yY hg h.lt h.z1 (by simp)
  z2 := yY hg h.lt h.z2 (by simp)
  tk := fun j hj => ⟨zY hg (h.tk j hj).1 (by simp),zY hg (h.tk j hj).2 (by simp)⟩
  lx := World.ownsMap.kept h.lx hg (by simp)
  n1 := h.n1
  n2 := h.n2
  il := h.il
  good := h.good
  deep := h.deep
theorem PS.drewN {c : PC} {w : World} {i d : Nat} (h : PS c w i d) (n : Nat) : PS c (w.drewN n) i d := h.kept (zy (zl _ _) n)
theorem PS.alloc {c : PC} {w : World} {i d : Nat} (h : PS c w i d) (o : Obj) : PS c (w.alloc o) i d := h.kept (World.grownBy_alloc w o none)
theorem PS.set1 {c : PC} {w : World} {i d : Nat} (h : PS c w i d) (v : Int) (k : Nat) (hv : v = k) (hk : k < c.L.length) : PS c (w.setCell ⟨c.pb,1,none⟩ (.int .i64 v)) k d where
  c0 := by rw [World.cell?_setCell_other _ _ _ _ (by simp)]; exact h.c0
  c1 := by subst hv; exact World.cell?_setCell_same _ _ _ h.c1
  c2 := by rw [World.cell?_setCell_other _ _ _ _ (by simp)]; exact h.c2
  c3 := by rw [World.cell?_setCell_other _ _ _ _ (by simp)]; exact h.c3
  z1 := by rw [World.frozen?_setCell]; exact h.z1
  z2 := by rw [World.frozen?_setCell]; exact h.z2
  tk := fun j hj => ⟨by rw [World.cell?_setCell_other _ _ _ _ (by intro e; injection e with e; exact h.n1 e.symm)]; exact (h.tk j hj).1,by rw [World.cell?_setCell_other _ _ _ _ (by intro e; injection e with e; exact h.n1 e.symm)]; exact (h.tk j hj).2⟩
  lx := World.ownsMap.setCell h.lx (a := ⟨c.pb,1,none⟩) (by simp; exact h.n2) _
  n1 := h.n1
  n2 := h.n2
  il := hk
  good := h.good
  deep := h.deep
theorem PS.set2 {c : PC} {w : World} {i d : Nat} (h : PS c w i d) (v : Int) (k : Nat) (hv : v = k) (hk : k <= 21) : PS c (w.setCell ⟨c.pb,2,none⟩ (.int .i64 v)) i k where
  c0 := by rw [World.cell?_setCell_other _ _ _ _ (by simp)]; exact h.c0
  c1 := by rw [World.cell?_setCell_other _ _ _ _ (by simp)]; exact h.c1
  c2 := by subst hv; exact World.cell?_setCell_same _ _ _ h.c2
  c3 := by rw [World.cell?_setCell_other _ _ _ _ (by simp)]; exact h.c3
  z1 := by rw [World.frozen?_setCell]; exact h.z1
  z2 := by rw [World.frozen?_setCell]; exact h.z2
  tk := fun j hj => ⟨by rw [World.cell?_setCell_other _ _ _ _ (by intro e; injection e with e; exact h.n1 e.symm)]; exact (h.tk j hj).1,by rw [World.cell?_setCell_other _ _ _ _ (by intro e; injection e with e; exact h.n1 e.symm)]; exact (h.tk j hj).2⟩
  lx := World.ownsMap.setCell h.lx (a := ⟨c.pb,2,none⟩) (by simp; exact h.n2) _
  n1 := h.n1
  n2 := h.n2
  il := h.il
  good := h.good
  deep := hk
theorem vx (c : PC) (w : World) (i d : Nat) (h : PS c w i d) :
    Calls Tryz.prog 29 #[.pointer (some ⟨c.pb,0,none⟩)] w fun e w' => e = .returned (.string ⟨(wd c.L i).toArray⟩) /\ ∃ n,w' = w.drewN n := by
  have c0 := h.c0; have c1 := h.c1; have t0 := (h.tk i h.il).1; have hl := h.il; have hf := h.good.few; clear h
  go_enter Tryz.func29,Tryz.ntmps29
  go_wp2
  go_quiet (fail)
  go_wp2
  go_ret
  exact ⟨rfl,_,rfl⟩
theorem bL (c : PC) (w : World) (i d : Nat) (h : PS c w i d) :
    Calls Tryz.prog 112 #[.pointer (some ⟨c.pb,0,none⟩)] w fun e w' => e = .returned (.int .i64 (pos c.L i)) /\ ∃ n,w' = w.drewN n := by
  have c0 := h.c0; have c1 := h.c1; have t0 := (h.tk i h.il).2; have hl := h.il; have hf := h.good.few; clear h
  go_enter Tryz.func112,Tryz.ntmps112
  go_wp2
  go_quiet (fail)
  go_wp2
  go_ret
  exact ⟨rfl,_,rfl⟩
theorem sn {w w' : World} (h : Below w.heap.size w w') (row : Option Nat) : w.grownBy w' row := ⟨h.os,h.tape,h.output,h.size,fun i hi _ => h.block i hi⟩
theorem jM {l : List UInt8} (h : l ≠ []) : l.isEmpty = false := by cases l <;> simp_all
theorem uK (c : PC) (w : World) (i d : Nat) (h : PS c w i d) (hne : wd c.L i ≠ []) :
    Calls Tryz.prog 115 #[.pointer (some ⟨c.pb,0,none⟩)] w fun e w' => e = .returned (.string ⟨(wd c.L i).toArray⟩) /\ w.grownBy w' (some c.pb) /\ PS c w' (i + 1) d := by
  have hx := jM hne; have HP := za h; have hf := h.good.few; have hl := h.il; have HN := za (h.good.next h.il hne); clear h hne
  go_enter Tryz.func115,Tryz.ntmps115
  go_wp2_with (go_at_call 29; refine (vx c _ i d HP.out).mono ?_; rintro e w1 ⟨rfl,n,rfl⟩; have c1 := (HP.out.drewN n).c1; have z1 := (HP.out.drewN n).z1)
  go_ret
  exact ⟨rfl,yU (zy (zl _ _) _) _ _,(HP.out.drewN n).set1 _ _ (by simp) HN.out⟩
theorem Threw.up {w w1 w' : World} {k n : Int} {e : Ending} {row : Option Nat} (h : Threw w1 k n e w') (hg : w.grownBy w1 row) : Threw w k n e w' := by
  obtain ⟨q,he,hq,h0⟩ := h
  exact ⟨q,he,Nat.le_trans hg.size hq,h0⟩
theorem kp (c : PC) (w : World) (i d : Nat) (n : Int) (h : PS c w i d) :
    Calls Tryz.prog 70 #[.pointer (some ⟨c.pb,0,none⟩),.int .i64 n] w fun e w' => Threw w (pos c.L i) n e w' /\ w.grownBy w' none := by
  have HP := za h; clear h
  go_enter Tryz.func70,Tryz.ntmps70
  go_wp2_with (go_at_call 112; refine (bL c _ i d HP.out).mono ?_; rintro e w1 ⟨rfl,m,rfl⟩)
  exact ⟨rfl,dM (Nat.le_refl _),zf (zy (zl _ _) _) _⟩
theorem jR (c : PC) (w : World) (i d : Nat) (h : PS c w i d) :
    Calls Tryz.prog 30 #[.pointer (some ⟨c.pb,0,none⟩)] w fun e w' => Threw w (xw c.L i).2 (xw c.L i).1 e w' /\ w.grownBy w' none := by
  have HP := za h; clear h
  by_cases hx : wd c.L i = []
  · have hxe : (wd c.L i).isEmpty = true := by rw [hx]; rfl
    have HR : Hid (xw c.L i = (2,pos c.L i)) := by unfold xw; rw [if_pos hx]; exact rfl
    clear hx
    go_enter Tryz.func30,Tryz.ntmps30
    go_wp2_with (first
      | (go_at_call 29; refine (vx c _ i d HP.out).mono ?_; rintro e w1 ⟨rfl,n,rfl⟩)
      | (go_at_call 70; refine (kp c _ i d 2 (HP.out.drewN n)).mono ?_; rintro e w2 ⟨ht,hg⟩; have HT := za ht; obtain ⟨q,rfl,-⟩ := ht))
    rw [HR.out]
    exact ⟨rfl,HT.out.up (zy (zl w none) _),zb (zy (zl _ _) _) hg⟩
  · have hxe := jM hx
    have HR : Hid (xw c.L i = (4,pos c.L i)) := by unfold xw; rw [if_neg hx]; exact rfl
    clear hx
    go_enter Tryz.func30,Tryz.ntmps30
    go_wp2_with (first
      | (go_at_call 29; refine (vx c _ i d HP.out).mono ?_; rintro e w1 ⟨rfl,n,rfl⟩)
      | (go_at_call 70; refine (kp c _ i d 4 (HP.out.drewN n)).mono ?_; rintro e w2 ⟨ht,hg⟩; have HT := za ht; obtain ⟨q,rfl,-⟩ := ht))
    rw [HR.out]
    exact ⟨rfl,HT.out.up (zy (zl w none) _),zb (zy (zl _ _) _) hg⟩
def Steps {α : Type} (c : PC) (w : World) (i d : Nat) (enc : World -> α -> Value -> Prop) (r : Except (Int × Int) (α × Nat)) (e : Ending) (w' : World) : Prop :=
  (∃ x,r = .error x /\ Threw w x.2 x.1 e w' /\ w.grownBy w' (some c.pb)) \/ (∃ a j v,r = .ok (a,j) /\ e = .returned v /\ enc w' a v /\ w.grownBy w' (some c.pb) /\ PS c w' j d /\ i <= j)
section
variable {α : Type} {c : PC} {w w1 w' : World} {i d j : Nat} {enc : World -> α -> Value -> Prop} {r : Except (Int × Int) (α × Nat)} {e : Ending}
theorem Steps.err {x : Int × Int} (h : r = .error x) (ht : Threw w1 x.2 x.1 e w') (hg : w.grownBy w1 (some c.pb)) (hg' : w1.grownBy w' (some c.pb)) : Steps c w i d enc r e w' :=
  .inl ⟨x,h,ht.up hg,zb hg hg'⟩
theorem Steps.ok {a : α} {v : Value} (h : r = .ok (a,j)) (he : enc w' a v) (hg : w.grownBy w' (some c.pb)) (hp : PS c w' j d) (hi : i <= j) : Steps c w i d enc r (.returned v) w' :=
  .inr ⟨a,j,v,h,rfl,he,hg,hp,hi⟩
end
theorem xB (c : PC) (w : World) (i d : Nat) (x : List UInt8) (sb : ByteArray) (hsb : sb.data.toList = x) (hx : x ≠ []) (h : PS c w i d) :
    Calls Tryz.prog 113 #[.pointer (some ⟨c.pb,0,none⟩),.string sb] w fun e w' => ∃ b j,yP c.L x i = .ok (b,j) /\ e = .returned (.bool b) /\ w.grownBy w' (some c.pb) /\ PS c w' j d /\ i <= j := by
  have HP := za h; clear h
  obtain rfl : sb = ⟨x.toArray⟩ := by subst hsb; simp
  by_cases hq : wd c.L i = x
  · have hb : (wd c.L i == x) = true := by rw [hq]; simp
    have HR : Hid (yP c.L x i = .ok (true,i + 1)) := by unfold yP; rw [if_pos hq]; exact rfl
    have HN : Hid (wd c.L i ≠ []) := by show _ ≠ _; rw [hq]; exact hx
    clear hq hx
    go_enter Tryz.func113,Tryz.ntmps113
    go_wp2_with (first
      | (go_at_call 29; refine (vx c _ i d HP.out).mono ?_; rintro e w1 ⟨rfl,n,rfl⟩)
      | (go_at_call 115; refine (uK c _ i d (HP.out.drewN n) HN.out).mono ?_; rintro e w2 ⟨rfl,hg,hp⟩))
    go_ret
    exact ⟨true,i + 1,HR.out,rfl,zb (zy (zl _ _) _) hg,hp,by omega⟩
  · have hb : (wd c.L i == x) = false := by simpa using hq
    have HR : Hid (yP c.L x i = .ok (false,i)) := by unfold yP; rw [if_neg hq]; exact rfl
    clear hq hx
    go_enter Tryz.func113,Tryz.ntmps113
    go_wp2_with (first
      | (go_at_call 29; refine (vx c _ i d HP.out).mono ?_; rintro e w1 ⟨rfl,n,rfl⟩))
    go_ret
    exact ⟨false,i,HR.out,rfl,zy (zl _ _) _,HP.out.drewN n,Nat.le_refl _⟩
theorem zI (c : PC) (w : World) (i d : Nat) (x : List UInt8) (sb : ByteArray) (hsb : sb.data.toList = x) (hx : x ≠ []) (h : PS c w i d) :
    Calls Tryz.prog 60 #[.pointer (some ⟨c.pb,0,none⟩),.string sb] w (Steps c w i d (fun _ _ _ => True) (zx c.L x i)) := by
  have HP := za h; clear h
  by_cases hq : wd c.L i = x
  · have HR : Hid (zx c.L x i = .ok ((),i + 1)) := by unfold zx; rw [if_pos hq]; exact rfl
    have HH : Hid (yP c.L x i = .ok (true,i + 1)) := by unfold yP; rw [if_pos hq]; exact rfl
    clear hq
    go_enter Tryz.func60,Tryz.ntmps60
    go_wp2_with (first
      | (go_at_call 113; refine (xB c _ i d x _ hsb hx HP.out).mono ?_; rintro e w1 ⟨b,j,hh,rfl,hg,hp,hij⟩; rw [HH.out] at hh; cases hh))
    refine bodyPost_end (results_none rfl _ _ _) rfl ?_
    exact Steps.ok HR.out trivial hg hp (by omega)
  · have HR : Hid (zx c.L x i = .error (xw c.L i)) := by unfold zx; rw [if_neg hq]; exact rfl
    have HH : Hid (yP c.L x i = .ok (false,i)) := by unfold yP; rw [if_neg hq]; exact rfl
    clear hq
    go_enter Tryz.func60,Tryz.ntmps60
    go_wp2_with (first
      | (go_at_call 113; refine (xB c _ i d x _ hsb hx HP.out).mono ?_; rintro e w1 ⟨b,j,hh,rfl,hg,hp,hij⟩; rw [HH.out] at hh; cases hh)
      | (go_at_call 30; refine (jR c _ i d hp).mono ?_; rintro e w2 ⟨ht,hg2⟩; have HT := za ht; obtain ⟨q,rfl,-⟩ := ht))
    exact ⟨rfl,Steps.err HR.out HT.out hg (zJ hg2 _)⟩
theorem uO (c : PC) (w : World) (i d : Nat) (h : PS c w i d) :
    Calls Tryz.prog 114 #[.pointer (some ⟨c.pb,0,none⟩)] w fun e w' => e = .returned (.bool (zF (wd c.L i))) /\ w.grownBy w' none := by
  have HP := za h; have c3 := h.c3; have hs := h.good.short i; clear h
  go_enter Tryz.func114,Tryz.ntmps114
  go_wp2
  go_region_with (first
    | (go_at_call 29; refine (vx c _ i d (HP.out.drewN _)).mono ?_; rintro e w1 ⟨rfl,n,rfl⟩)
    | (go_at_call 126; refine (qS c.lb ⟨(wd c.L i).toArray⟩ _ (by unfold maxLen; simp [ByteArray.size]; omega) (HP.out.drewN _).lx).mono ?_; rintro e w2 ⟨rfl,hb⟩))
  all_goals
    go_wp2
    go_ret
    exact ⟨rfl,zb (zy (zl _ _) _) (sn hb none)⟩
theorem ke (c : PC) (w : World) (i d : Nat) (h : PS c w i d) :
    Calls Tryz.prog 61 #[.pointer (some ⟨c.pb,0,none⟩)] w (Steps c w i d (fun _ s v => v = .string ⟨s.toArray⟩ /\ s ≠ [] /\ s.length <= 4000) (uo c.L i)) := by
  have HP := za h; clear h; cases hq : zF (wd c.L i)
  · have HR : Hid (uo c.L i = .error (xw c.L i)) := by unfold uo; rw [hq]; exact rfl
    go_enter Tryz.func61,Tryz.ntmps61
    go_wp2_with (first
      | (go_at_call 114; refine (uO c _ i d HP.out).mono ?_; rintro e w1 ⟨rfl,hg⟩; simp only [hq])
      | (go_at_call 30; refine (jR c _ i d (HP.out.kept hg)).mono ?_; rintro e w2 ⟨ht,hg2⟩; have HT := za ht; obtain ⟨q,rfl,-⟩ := ht))
    exact ⟨rfl,Steps.err HR.out HT.out (zJ hg _) (zJ hg2 _)⟩
  · have HR : Hid (uo c.L i = .ok (wd c.L i,i + 1)) := by unfold uo; rw [hq]; exact rfl
    have HE : Hid (wd c.L i ≠ []) := by
      show _ ≠ _
      intro e; rw [e] at hq
      revert hq
      decide
    go_enter Tryz.func61,Tryz.ntmps61
    go_wp2_with (first
      | (go_at_call 114; refine (uO c _ i d HP.out).mono ?_; rintro e w1 ⟨rfl,hg⟩; simp only [hq])
      | (go_at_call 115; refine (uK c _ i d (HP.out.kept hg) HE.out).mono ?_; rintro e w2 ⟨rfl,hg2,hp⟩))
    go_ret
    exact Steps.ok HR.out ⟨rfl,HE.out,hp.good.short i⟩ (zb (zJ hg _) hg2) hp (by omega)
def T.kind : T -> Int
 | .mk k _ _ _ _ => k
def T.name : T -> List UInt8
 | .mk _ s _ _ _ => s
def T.num : T -> Int
 | .mk _ _ n _ _ => n
def T.subs : T -> List T
 | .mk _ _ _ _ l => l
def vT (t : T) (sv : Value) : List Value := [.int .i64 t.kind,.string ⟨t.name.toArray⟩,.int .i64 t.num,.int .i64 t.at',sv]
def uA : List T -> List Value -> List Value
 | t :: ts,sv :: svs => vT t sv ++ uA ts svs
 | _,_ => []
theorem vb : ∀ (ts : List T) (svs : List Value),svs.length = ts.length -> (uA ts svs).length = ts.length * 5
 | [],[],_ => rfl
 | t :: ts,sv :: svs,h => by
  have ih := vb ts svs (by simpa using h); simp only [uA,List.length_append,ih,vT,List.length_cons,List.length_nil]
  omega
theorem qB : ∀ (ts : List T) (svs : List Value) (us : List T) (uvs : List Value),svs.length = ts.length -> uA (ts ++ us) (svs ++ uvs) = uA ts svs ++ uA us uvs
 | [],[],_,_,_ => rfl
 | t :: ts,sv :: svs,us,uvs,h => by
  have ih := qB ts svs us uvs (by simpa using h); simp only [uA,List.cons_append,ih,List.append_assoc]
inductive LR (w : World) : (Nat -> Prop) -> List T -> Value -> Prop
 | mk (S : Nat -> Prop) (ts : List T) (v : Value) (svs : List Value) (hl : svs.length = ts.length) (own : w.ownsRow 0 28 5 v ts.length (uA ts svs))
   (inS : ∀ b,v.ownBlock = some b -> S b)
   (sub : ∀ (i : Nat) (t : T) (sv : Value),ts[i]? = some t -> svs[i]? = some sv -> LR w (fun k => S k /\ v.ownBlock ≠ some k) t.subs sv) : LR w S ts v
def In (lo hi : Nat) : Nat -> Prop := fun k => lo <= k /\ k < hi
theorem LR.nil (w : World) (S : Nat -> Prop) : LR w S [] (.slice none 0 0) :=
 .mk S [] _ [] rfl (World.ownsRow_nil _ _ _ _) (by intro b hb; cases hb) (by intro i t sv h; simp at h)
theorem LR.kept {w w' : World} {S : Nat -> Prop} {ts : List T} {v : Value} {row : Option Nat} (h : LR w S ts v) (hg : w.grownBy w' row) (hr : ∀ b,row = some b -> ¬ S b) : LR w' S ts v := by
 induction h with
 | mk S ts v svs hl own inS sub ih =>
  refine .mk S ts v svs hl (own.kept hg ?_) inS (fun i t sv h1 h2 => ih i t sv h1 h2 (fun b hb hs => hr b hb hs.1)); cases d : v.ownBlock with
  | none => exact .inl rfl
  | some b => exact .inr (fun e => hr b e.symm (inS b d))
theorem LR.mono {w : World} {S S' : Nat -> Prop} {ts : List T} {v : Value} (h : LR w S ts v) (hs : ∀ k,S k -> S' k) : LR w S' ts v := by
 induction h generalizing S' with
 | mk S ts v svs hl own inS sub ih =>
  exact .mk S' ts v svs hl own (fun b hb => hs b (inS b hb)) (fun i t sv h1 h2 => ih i t sv h1 h2 (fun k hk => ⟨hs k hk.1,hk.2⟩))
theorem LR.bounded {w : World} {S : Nat -> Prop} {ts : List T} {v : Value} (h : LR w S ts v) : LR w (fun k => S k /\ k < w.heap.size) ts v := by
 induction h with
 | mk S ts v svs hl own inS sub ih =>
  exact .mk _ ts v svs hl own (fun b hb => ⟨inS b hb,(own.lt b hb).2⟩) (fun i t sv h1 h2 => (ih i t sv h1 h2).mono (fun k hk => ⟨⟨hk.1.1,hk.2⟩,hk.1.2⟩))
theorem LR.own {w : World} {S : Nat -> Prop} {ts : List T} {v : Value} (h : LR w S ts v) : ∃ svs,svs.length = ts.length /\ w.ownsRow 0 28 5 v ts.length (uA ts svs) /\ (∀ b,v.ownBlock = some b -> S b) /\
  ∀ (i : Nat) (t : T) (sv : Value),ts[i]? = some t -> svs[i]? = some sv -> LR w (fun k => S k /\ v.ownBlock ≠ some k) t.subs sv := by
 cases h with
 | mk _ _ _ svs hl own inS sub => exact ⟨svs,hl,own,inS,sub⟩
theorem LR.form {w : World} {S : Nat -> Prop} {ts : List T} {v : Value} (h : LR w S ts v) : ∃ a c,v = .slice a ts.length c := by
 obtain ⟨_,_,own,_⟩ := h.own
 rcases own.2 with ⟨rfl,d⟩ | ⟨g,e,f,rfl,_⟩
 ·exact ⟨none,0,by rw [d]⟩
 ·exact ⟨_,_,rfl⟩
def TR (w : World) (lo hi : Nat) (t : T) (v : Value) : Prop := ∃ sv,v = .agg #[.int .i64 t.kind,.string ⟨t.name.toArray⟩,.int .i64 t.num,.int .i64 t.at',sv] /\ LR w (In lo hi) t.subs sv
section
variable {w w' : World} {lo hi lo' hi' b n : Nat} {t : T} {ts : List T} {v : Value}
theorem LR.call (h : LR w (In lo hi) ts v) (hg : w.grownBy w' (some b)) (hb : b < lo \/ hi <= b) : LR w' (In lo hi) ts v :=
 h.kept hg (fun k hk hs => by cases hk; have h1 : lo <= b := hs.1; have h2 : b < hi := hs.2; omega)
theorem LR.put (h : LR w (In lo hi) ts v) (hb : b < lo \/ hi <= b) (o : Nat) (u : Value) : LR (w.setCell ⟨b,o,none⟩ u) (In lo hi) ts v := h.call (yU (zl w (some b)) o u) hb
theorem LR.alloc (h : LR w (In lo hi) ts v) (o : Obj) : LR (w.alloc o) (In lo hi) ts v := h.kept (World.grownBy_alloc w o none) (fun _ hk => by cases hk)
theorem LR.drewN (h : LR w (In lo hi) ts v) (n : Nat) : LR (w.drewN n) (In lo hi) ts v := h.kept (zy (zl w none) n) (fun _ hk => by cases hk)
theorem LR.grown (h : LR w (In lo hi) ts v) (hg : w.grownBy w' none) : LR w' (In lo hi) ts v := h.kept hg (fun _ hk => by cases hk)
theorem LR.wide (h : LR w (In lo hi) ts v) (h1 : lo' <= lo) (h2 : hi <= hi') : LR w (In lo' hi') ts v := h.mono (fun k hk => by have h3 : lo <= k := hk.1; have h4 : k < hi := hk.2; exact ⟨by omega,by omega⟩)
theorem TR.call (h : TR w lo hi t v) (hg : w.grownBy w' (some b)) (hb : b < lo \/ hi <= b) : TR w' lo hi t v := by
 obtain ⟨d,rfl,h⟩ := h
 exact ⟨d,rfl,h.call hg hb⟩
theorem TR.put (h : TR w lo hi t v) (hb : b < lo \/ hi <= b) (o : Nat) (u : Value) : TR (w.setCell ⟨b,o,none⟩ u) lo hi t v := h.call (yU (zl w (some b)) o u) hb
theorem TR.grown (h : TR w lo hi t v) (hg : w.grownBy w' none) : TR w' lo hi t v := by
 obtain ⟨d,rfl,h⟩ := h
 exact ⟨d,rfl,h.grown hg⟩
theorem TR.alloc (h : TR w lo hi t v) (o : Obj) : TR (w.alloc o) lo hi t v := h.grown (World.grownBy_alloc w o none)
theorem TR.drewN (h : TR w lo hi t v) (n : Nat) : TR (w.drewN n) lo hi t v := h.grown (zy (zl w none) n)
theorem TR.wide (h : TR w lo hi t v) (h1 : lo' <= lo) (h2 : hi <= hi') : TR w lo' hi' t v := by
 obtain ⟨d,rfl,h⟩ := h
 exact ⟨d,rfl,h.wide h1 h2⟩
theorem LR.build (w : World) {cs : Array Value} {svs : List Value} {g n : Nat} (hg : g = w.heap.size) (hn : n = ts.length) (hc : cs.toList = uA ts svs) (hl : svs.length = ts.length) (hlen : ts.length <= 5000) (hlo : lo <= g)
  (hs : ∀ (i : Nat) (t : T) (sv : Value),ts[i]? = some t -> svs[i]? = some sv -> LR w (In lo g) t.subs sv) : LR (w.alloc (.cells cs 28)) (In lo (g + 1)) ts (.slice (some ⟨g,0,none⟩) n n) := by
 subst hg hn
 have d : cs.size = ts.length * 5 := by rw [<- Array.length_toList,hc,vb _ _ hl]
 refine .mk _ _ _ svs hl ⟨vb _ _ hl,.inr ⟨w.heap.size,ts.length,cs,rfl,Nat.zero_le _,heap_alloc_new w _,Nat.le_refl _,by unfold maxLen; omega,d,?_⟩⟩ (fun b hb => ?_) (fun i t sv h1 h2 => ?_)
 ·rw [hc,<- vb _ _ hl,List.take_length]
 ·cases hb
  exact ⟨hlo,Nat.lt_succ_self _⟩
 ·refine ((hs i t sv h1 h2).alloc _).mono (fun k hk => ⟨⟨hk.1,Nat.lt_succ_of_lt hk.2⟩,fun e => ?_⟩)
  have f : k < w.heap.size := hk.2
  simp [Value.ownBlock] at e
  omega
theorem LR.build1 (w : World) {t : T} {sv : Value} {g : Nat} {cs : Array Value} (h : LR w (In lo g) t.subs sv) (hg : g = w.heap.size) (hc : cs.toList = vT t sv) (hlo : lo <= g) :
  LR (w.alloc (.cells cs 28)) (In lo (g + 1)) [t] (.slice (some ⟨g,0,none⟩) 1 1) :=
 LR.build w (svs := [sv]) hg rfl hc rfl (by simp) hlo (fun i t' sv' h1 h2 => by
  match i,h1,h2 with
  | 0,h1,h2 => cases h1; cases h2; exact h)
theorem LR.build2 (w : World) {t t2 : T} {sv sv2 : Value} {g : Nat} {cs : Array Value} (h : LR w (In lo g) t.subs sv) (h2 : LR w (In lo g) t2.subs sv2) (hg : g = w.heap.size) (hc : cs.toList = vT t sv ++ vT t2 sv2) (hlo : lo <= g) :
  LR (w.alloc (.cells cs 28)) (In lo (g + 1)) [t,t2] (.slice (some ⟨g,0,none⟩) 2 2) :=
 LR.build w (svs := [sv,sv2]) hg rfl hc rfl (by simp) hlo (fun i t' sv' h3 h4 => by
  match i,h3,h4 with
  | 0,h3,h4 => cases h3; cases h4; exact h
  | 1,h3,h4 => cases h3; cases h4; exact h2)
theorem LR.append {us : List T} {v' : Value} {svs uvs : List Value} {row : Option Nat} {l2 : Nat}
  (h : ∀ b,v.ownBlock = some b -> In lo hi b) (hl : svs.length = ts.length)
  (hs : ∀ (i : Nat) (t : T) (sv : Value),ts[i]? = some t -> svs[i]? = some sv -> LR w (fun k => In lo hi k /\ v.ownBlock ≠ some k) t.subs sv)
  (hu : uvs.length = us.length) (hus : ∀ (i : Nat) (t : T) (sv : Value),us[i]? = some t -> uvs[i]? = some sv -> LR w (In l2 hi') t.subs sv)
  (h2 : lo <= l2) (h3 : hi <= l2) (h5 : l2 <= w.heap.size) (h4 : hi' <= w.heap.size) (hw : w.heap.size <= n) (hw2 : ∀ b,v'.ownBlock = some b -> b < n)
  (own : w'.ownsRow 0 28 5 v' (ts.length + us.length) (uA ts svs ++ uA us uvs)) (hg : w.grownBy w' row) (hrow : row = v.ownBlock)
  (hat : v'.ownBlock = v.ownBlock \/ v'.ownBlock = some w.heap.size) : LR w' (In lo n) (ts ++ us) v' := by
 subst hrow
 have f : ∀ (l : List T) (sv : Value),LR w (fun k => In lo w.heap.size k /\ v.ownBlock ≠ some k) l sv -> LR w' (fun k => In lo n k /\ v'.ownBlock ≠ some k) l sv := by
  intro l sv g; refine (g.kept hg (fun b hb hs' => hs'.2 hb)).mono (fun k hk => ⟨⟨hk.1.1,Nat.lt_of_lt_of_le hk.1.2 hw⟩,fun e => ?_⟩)
  rcases hat with hat | hat
  ·exact hk.2 (hat ▸ e)
  ·have d : k < w.heap.size := hk.1.2
   rw [hat] at e; cases e
   omega
 refine .mk _ _ _ (svs ++ uvs) (by simp [hl,hu]) (by rw [qB _ _ _ _ hl,List.length_append]; exact own) (fun b hb => ?_) (fun i t sv h1 h2' => f _ _ ?_)
 ·rcases hat with hat | hat
  ·have d := h b (hat ▸ hb)
   exact ⟨d.1,hw2 b hb⟩
  ·have d := hw2 b hb
   rw [hat] at hb; cases hb
   exact ⟨by omega,d⟩
 ·rcases Nat.lt_or_ge i ts.length with hi' | hi'
  ·rw [List.getElem?_append_left hi'] at h1
   rw [List.getElem?_append_left (by omega)] at h2'
   exact (hs i t sv h1 h2').mono (fun k hk => ⟨⟨hk.1.1,by have j : k < hi := hk.1.2; omega⟩,hk.2⟩)
  ·rw [List.getElem?_append_right hi'] at h1
   rw [List.getElem?_append_right (by omega),hl] at h2'; refine (hus _ t sv h1 h2').mono (fun k hk => ⟨⟨Nat.le_trans h2 hk.1,Nat.lt_of_lt_of_le hk.2 h4⟩,fun e => ?_⟩); have d := (h k e).2; have j : l2 <= k := hk.1
   omega
end
/-! ### Blocks of one node: a variable,a result -/
theorem zC {a w : World} {row : Option Nat} {b : Nat} (h : a.grownBy w row) (hb : a.heap.size <= b) (o : Nat) (v : Value) : a.grownBy (w.setCell ⟨b,o,none⟩ v) row :=
 ⟨h.os,h.tape,h.output,by simpa [World.setCell] using h.size,fun k hk hne => (Below.heap_setCell _ _ _ _ (by simp; omega)).trans (h.block k hk hne)⟩
def put5 (w : World) (b : Nat) (v0 v1 v2 v3 v4 : Value) : World := ((((w.setCell ⟨b,0,none⟩ v0).setCell ⟨b,1,none⟩ v1).setCell ⟨b,2,none⟩ v2).setCell ⟨b,3,none⟩ v3).setCell ⟨b,4,none⟩ v4
theorem ze2 {a w : World} {row : Option Nat} {b : Nat} (h : a.grownBy w row) (hb : a.heap.size <= b) (v0 v1 v2 v3 v4 : Value) : a.grownBy (put5 w b v0 v1 v2 v3 v4) row :=
 zC (zC (zC (zC (zC h hb _ _) hb _ _) hb _ _) hb _ _) hb _ _
structure Low (c : PC) (n : Nat) : Prop where
 pb : c.pb < n
 tb : c.tb < n
 lb : c.lb < n
theorem Low.up {c : PC} {n m : Nat} (h : Low c n) (hm : n <= m) : Low c m := ⟨Nat.lt_of_lt_of_le h.pb hm,Nat.lt_of_lt_of_le h.tb hm,Nat.lt_of_lt_of_le h.lb hm⟩
theorem PS.low {c : PC} {w : World} {i d : Nat} (h : PS c w i d) : Low c w.heap.size :=
 ⟨h.lt,ze (h.tk 0 (Nat.lt_of_le_of_lt (Nat.zero_le _) h.il)).1,World.ownsMap.lt h.lx⟩
theorem PS.put {c : PC} {w : World} {i d n b : Nat} (h : PS c w i d) (hl : Low c n) (hb : n <= b) (o : Nat) (v : Value) : PS c (w.setCell ⟨b,o,none⟩ v) i d where
 c0 := by rw [World.cell?_setCell_other _ _ _ _ (by intro e; injection e with e; have := hl.pb; omega)]; exact h.c0
 c1 := by rw [World.cell?_setCell_other _ _ _ _ (by intro e; injection e with e; have := hl.pb; omega)]; exact h.c1
 c2 := by rw [World.cell?_setCell_other _ _ _ _ (by intro e; injection e with e; have := hl.pb; omega)]; exact h.c2
 c3 := by rw [World.cell?_setCell_other _ _ _ _ (by intro e; injection e with e; have := hl.pb; omega)]; exact h.c3
 z1 := by rw [World.frozen?_setCell]; exact h.z1
 z2 := by rw [World.frozen?_setCell]; exact h.z2
 tk := fun j hj => ⟨by rw [World.cell?_setCell_other _ _ _ _ (by intro e; injection e with e; have := hl.tb; omega)]; exact (h.tk j hj).1,by rw [World.cell?_setCell_other _ _ _ _ (by intro e; injection e with e; have := hl.tb; omega)]; exact (h.tk j hj).2⟩
 lx := World.ownsMap.setCell h.lx (a := ⟨b,o,none⟩) (by have := hl.lb; simp; omega) _
 n1 := h.n1
 n2 := h.n2
 il := h.il
 good := h.good
 deep := h.deep
theorem PS.put5 {c : PC} {w : World} {i d n b : Nat} (h : PS c w i d) (hl : Low c n) (hb : n <= b) (v0 v1 v2 v3 v4 : Value) : PS c (put5 w b v0 v1 v2 v3 v4) i d :=
 ((((h.put hl hb _ _).put hl hb _ _).put hl hb _ _).put hl hb _ _).put hl hb _ _
structure NB (w : World) (b : Nat) (v0 v1 v2 v3 v4 : Value) : Prop where
 c0 : w.cell? ⟨b,0,none⟩ = some v0
 c1 : w.cell? ⟨b,1,none⟩ = some v1
 c2 : w.cell? ⟨b,2,none⟩ = some v2
 c3 : w.cell? ⟨b,3,none⟩ = some v3
 c4 : w.cell? ⟨b,4,none⟩ = some v4
 z : ∀ o,w.frozen? ⟨b,o,none⟩ = false
section
variable {w w' : World} {b b' : Nat} {v0 v1 v2 v3 v4 u0 u1 u2 u3 u4 : Value}
theorem NB.lt (h : NB w b v0 v1 v2 v3 v4) : b < w.heap.size := ze h.c0
theorem NB.kept {row : Option Nat} (h : NB w b v0 v1 v2 v3 v4) (hg : w.grownBy w' row) (hr : some b ≠ row) : NB w' b v0 v1 v2 v3 v4 :=
 ⟨zY hg h.c0 hr,zY hg h.c1 hr,zY hg h.c2 hr,zY hg h.c3 hr,zY hg h.c4 hr,fun o => yY hg h.lt (h.z o) hr⟩
theorem NB.new (w : World) (t : TypeId) : NB (w.alloc (.cells #[v0,v1,v2,v3,v4] t)) w.heap.size v0 v1 v2 v3 v4 :=
 ⟨by rw [World.cell?_alloc_at _ _ _ _ rfl]; rfl,by rw [World.cell?_alloc_at _ _ _ _ rfl]; rfl,by rw [World.cell?_alloc_at _ _ _ _ rfl]; rfl,by rw [World.cell?_alloc_at _ _ _ _ rfl]; rfl,by rw [World.cell?_alloc_at _ _ _ _ rfl]; rfl,fun o => World.frozen?_alloc_at _ _ _ _ rfl⟩
theorem NB.new' {b : Nat} {t : TypeId} (hb : b = w.heap.size) : NB (w.alloc (.cells #[v0,v1,v2,v3,v4] t)) b v0 v1 v2 v3 v4 := by
 subst hb
 exact NB.new w t
theorem NB.alloc (h : NB w b v0 v1 v2 v3 v4) (o : Obj) : NB (w.alloc o) b v0 v1 v2 v3 v4 := h.kept (World.grownBy_alloc w o none) (by simp)
theorem NB.drewN (h : NB w b v0 v1 v2 v3 v4) (n : Nat) : NB (w.drewN n) b v0 v1 v2 v3 v4 := h.kept (zy (zl w none) n) (by simp)
theorem NB.far (h : NB w b v0 v1 v2 v3 v4) (hb : b' ≠ b) (o : Nat) (v : Value) : NB (w.setCell ⟨b',o,none⟩ v) b v0 v1 v2 v3 v4 := h.kept (yU (zl w (some b')) o v) (by simp; omega)
theorem NB.put (h : NB w b v0 v1 v2 v3 v4) (o : Nat) (v : Value) : NB (w.setCell ⟨b,o,none⟩ v) b (if o = 0 then v else v0) (if o = 1 then v else v1) (if o = 2 then v else v2) (if o = 3 then v else v3) (if o = 4 then v else v4) := by
 have d : ∀ k u,w.cell? ⟨b,k,none⟩ = some u -> (w.setCell ⟨b,o,none⟩ v).cell? ⟨b,k,none⟩ = some (if o = k then v else u) := by
  intro k u f
  by_cases e : o = k
  ·subst e
   rw [if_pos rfl]
   exact World.cell?_setCell_same _ _ _ f
  ·rw [if_neg e,World.cell?_setCell_other _ _ _ _ (by simp)]
   exact f
 exact ⟨d 0 _ h.c0,d 1 _ h.c1,d 2 _ h.c2,d 3 _ h.c3,d 4 _ h.c4,fun o => by rw [World.frozen?_setCell]; exact h.z o⟩
theorem NB.s0 (h : NB w b v0 v1 v2 v3 v4) (u : Value) : NB (w.setCell ⟨b,0,none⟩ u) b u v1 v2 v3 v4 := h.put 0 u
theorem NB.s1 (h : NB w b v0 v1 v2 v3 v4) (u : Value) : NB (w.setCell ⟨b,1,none⟩ u) b v0 u v2 v3 v4 := h.put 1 u
theorem NB.s2 (h : NB w b v0 v1 v2 v3 v4) (u : Value) : NB (w.setCell ⟨b,2,none⟩ u) b v0 v1 u v3 v4 := h.put 2 u
theorem NB.s3 (h : NB w b v0 v1 v2 v3 v4) (u : Value) : NB (w.setCell ⟨b,3,none⟩ u) b v0 v1 v2 u v4 := h.put 3 u
theorem NB.s4 (h : NB w b v0 v1 v2 v3 v4) (u : Value) : NB (w.setCell ⟨b,4,none⟩ u) b v0 v1 v2 v3 u := h.put 4 u
theorem NB.put5 (h : NB w b v0 v1 v2 v3 v4) : NB (put5 w b u0 u1 u2 u3 u4) b u0 u1 u2 u3 u4 := ((((h.put 0 u0).put 1 u1).put 2 u2).put 3 u3).put 4 u4
def RB (w : World) (b : Nat) : Prop := ∃ v0 v1 v2 v3 v4,NB w b v0 v1 v2 v3 v4
theorem NB.rb (h : NB w b v0 v1 v2 v3 v4) : RB w b := ⟨_,_,_,_,_,h⟩
theorem RB.new (w : World) (t : TypeId) : RB (w.alloc (.cells #[v0,v1,v2,v3,v4] t)) w.heap.size := (NB.new w t).rb
theorem RB.new' {b : Nat} {t : TypeId} (hb : b = w.heap.size) : RB (w.alloc (.cells #[v0,v1,v2,v3,v4] t)) b := (NB.new' hb).rb
theorem RB.kept {row : Option Nat} (h : RB w b) (hg : w.grownBy w' row) (hr : some b ≠ row) : RB w' b := by
 obtain ⟨_,_,_,_,_,h⟩ := h
 exact (h.kept hg hr).rb
theorem RB.lt (h : RB w b) : b < w.heap.size := by
 obtain ⟨_,_,_,_,_,h⟩ := h
 exact h.lt
theorem RB.alloc (h : RB w b) (o : Obj) : RB (w.alloc o) b := h.kept (World.grownBy_alloc w o none) (by simp)
theorem RB.drewN (h : RB w b) (n : Nat) : RB (w.drewN n) b := h.kept (zy (zl w none) n) (by simp)
theorem RB.put (h : RB w b) (b' o : Nat) (v : Value) : RB (w.setCell ⟨b',o,none⟩ v) b := by
 obtain ⟨_,_,_,_,_,h⟩ := h
 by_cases e : b' = b
 ·subst e
  exact (h.put o v).rb
 ·exact (h.far e o v).rb
theorem RB.five (h : RB w b) : NB (((((w.setCell ⟨b,0,none⟩ u0).setCell ⟨b,1,none⟩ u1).setCell ⟨b,2,none⟩ u2).setCell ⟨b,3,none⟩ u3).setCell ⟨b,4,none⟩ u4) b u0 u1 u2 u3 u4 := by
 obtain ⟨_,_,_,_,_,h⟩ := h
 exact h.put5
theorem NB.drew (h : NB w b v0 v1 v2 v3 v4) : NB w.drew b v0 v1 v2 v3 v4 := h.drewN 1
theorem RB.drew (h : RB w b) : RB w.drew b := h.drewN 1
theorem PS.drew {c : PC} {i d : Nat} (h : PS c w i d) : PS c w.drew i d := h.drewN 1
theorem zj {a : World} {row : Option Nat} (h : a.grownBy w row) : a.grownBy w.drew row := zy h 1
theorem LR.drew {lo hi : Nat} {ts : List T} {v : Value} (h : LR w (In lo hi) ts v) : LR w.drew (In lo hi) ts v := h.drewN 1
theorem nl {fn : Func} {p : Tmp} (h : fn.results = #[.cell p 28]) {tmps : Array Value} (hp : tmps[p]?.getD undef = .pointer (some ⟨b,0,none⟩)) (hn : NB w b v0 v1 v2 v3 v4) :
  (results fn tmps).run Tryz.prog w = .ok (.agg #[v0,v1,v2,v3,v4]) w := by
 simp [results,h,hp,go_sem,hn.c0,hn.c1,hn.c2,hn.c3,hn.c4]
theorem zn {fn : Func} {p : Tmp} {R : Ending -> World -> Prop} {a : Act} (h : fn.results = #[.cell p 28]) (hp : a.tmps[p]?.getD undef = .pointer (some ⟨b,0,none⟩)) (hn : NB w b v0 v1 v2 v3 v4) (hd : a.defers = [])
  (hR : R (.returned (.agg #[v0,v1,v2,v3,v4])) w) : bodyPost Tryz.prog fn R .ret a w := bodyPost_ret (nl h hp hn) hd hR
end
/-! ### Five stores into one block -/
section
variable {w w' : World} {b b' o0 o1 o2 o3 o4 : Nat} {u0 u1 u2 u3 u4 v0 v1 v2 v3 v4 : Value}
theorem zS {a : World} {row : Option Nat} (h : a.grownBy w row) (hb : a.heap.size <= b) : a.grownBy (((((w.setCell ⟨b,o0,none⟩ u0).setCell ⟨b,o1,none⟩ u1).setCell ⟨b,o2,none⟩ u2).setCell ⟨b,o3,none⟩ u3).setCell ⟨b,o4,none⟩ u4) row := zC (zC (zC (zC (zC h hb _ _) hb _ _) hb _ _) hb _ _) hb _ _
theorem PS.p5 {c : PC} {i d n : Nat} (h : PS c w i d) (hl : Low c n) (hb : n <= b) : PS c (((((w.setCell ⟨b,o0,none⟩ u0).setCell ⟨b,o1,none⟩ u1).setCell ⟨b,o2,none⟩ u2).setCell ⟨b,o3,none⟩ u3).setCell ⟨b,o4,none⟩ u4) i d := PS.put (PS.put (PS.put (PS.put (PS.put h hl hb _ _) hl hb _ _) hl hb _ _) hl hb _ _) hl hb _ _
theorem LR.p5 {lo hi : Nat} {ts : List T} {v : Value} (h : LR w (In lo hi) ts v) (hb : b < lo \/ hi <= b) : LR (((((w.setCell ⟨b,o0,none⟩ u0).setCell ⟨b,o1,none⟩ u1).setCell ⟨b,o2,none⟩ u2).setCell ⟨b,o3,none⟩ u3).setCell ⟨b,o4,none⟩ u4) (In lo hi) ts v := LR.put (LR.put (LR.put (LR.put (LR.put h hb _ _) hb _ _) hb _ _) hb _ _) hb _ _
theorem RB.p5 (h : RB w b') : RB (((((w.setCell ⟨b,o0,none⟩ u0).setCell ⟨b,o1,none⟩ u1).setCell ⟨b,o2,none⟩ u2).setCell ⟨b,o3,none⟩ u3).setCell ⟨b,o4,none⟩ u4) b' := RB.put (RB.put (RB.put (RB.put (h.put _ _ _) _ _ _) _ _ _) _ _ _) _ _ _
theorem NB.p5 (h : NB w b' v0 v1 v2 v3 v4) (hb : b ≠ b') : NB (((((w.setCell ⟨b,o0,none⟩ u0).setCell ⟨b,o1,none⟩ u1).setCell ⟨b,o2,none⟩ u2).setCell ⟨b,o3,none⟩ u3).setCell ⟨b,o4,none⟩ u4) b' v0 v1 v2 v3 v4 := NB.far (NB.far (NB.far (NB.far (NB.far h hb _ _) hb _ _) hb _ _) hb _ _) hb _ _
theorem RB.keep {r : Nat} (h : RB w b) (hg : w.grownBy w' (some r)) (hr : b ≠ r) : RB w' b := h.kept hg (by simpa using hr)
theorem NB.keep {r : Nat} (h : NB w b v0 v1 v2 v3 v4) (hg : w.grownBy w' (some r)) (hr : b ≠ r) : NB w' b v0 v1 v2 v3 v4 := h.kept hg (by simpa using hr)
end
abbrev yl (t : T) (sv : Value) : Value := .agg #[.int .i64 t.kind,.string ⟨t.name.toArray⟩,.int .i64 t.num,.int .i64 t.at',sv]
structure Fits (t : T) : Prop where
 name : t.name.length <= maxLen
 k1 : -9223372036854775808 <= t.kind
 k2 : t.kind <= 9223372036854775807
 n1 : -9223372036854775808 <= t.num
 n2 : t.num <= 9223372036854775807
structure Node5 (w : World) (g o : Nat) (t : T) (sv : Value) : Prop where
 c0 : w.cell? ⟨g,o,none⟩ = some (.int .i64 t.kind)
 c1 : w.cell? ⟨g,o + 1,none⟩ = some (.string ⟨t.name.toArray⟩)
 c2 : w.cell? ⟨g,o + 2,none⟩ = some (.int .i64 t.num)
 c3 : w.cell? ⟨g,o + 3,none⟩ = some (.int .i64 t.at')
 c4 : w.cell? ⟨g,o + 4,none⟩ = some sv
inductive AT (w : World) : List T -> Value -> Prop
 | nil (a : Option Addr) (c : Nat) (hc : c <= maxLen) : AT w [] (.slice a 0 c)
 | mk (ts : List T) (g o c : Nat) (svs : List Value) (hl : svs.length = ts.length) (h1 : ts.length <= c) (h2 : c <= maxLen)
   (cells : ∀ (i : Nat) (t : T) (sv : Value),ts[i]? = some t -> svs[i]? = some sv -> Node5 w g (o + i * 5) t sv /\ Fits t)
   (sub : ∀ (i : Nat) (t : T) (sv : Value),ts[i]? = some t -> svs[i]? = some sv -> AT w t.subs sv) : AT w ts (.slice (some ⟨g,o,none⟩) ts.length c)
theorem yI {w w' : World} {a : Addr} {v : Value} (hg : w.grownBy w' none) (h : w.cell? a = some v) : w'.cell? a = some v := by
 have b := hg.block a.block (ze h) (by simp)
 unfold World.cell? at h ⊢
 rw [b]
 exact h
theorem Node5.kept {w w' : World} {g o : Nat} {t : T} {sv : Value} (h : Node5 w g o t sv) (hg : w.grownBy w' none) : Node5 w' g o t sv :=
 ⟨yI hg h.c0,yI hg h.c1,yI hg h.c2,yI hg h.c3,yI hg h.c4⟩
theorem AT.kept {w w' : World} {ts : List T} {v : Value} (h : AT w ts v) (hg : w.grownBy w' none) : AT w' ts v := by
 induction h with
 | nil a c hc => exact .nil a c hc
 | mk ts g o c svs hl h1 h2 cells sub ih => exact .mk ts g o c svs hl h1 h2 (fun i t sv e1 e2 => ⟨(cells i t sv e1 e2).1.kept hg,(cells i t sv e1 e2).2⟩) ih
theorem AT.form {w : World} {ts : List T} {v : Value} (h : AT w ts v) : ∃ a c,v = .slice a ts.length c /\ ts.length <= c /\ c <= maxLen := by
 cases h with
 | nil a c hc => exact ⟨a,c,rfl,Nat.zero_le _,hc⟩
 | mk _ g o c svs hl h1 h2 cells sub => exact ⟨_,c,rfl,h1,h2⟩
theorem AT.node {w : World} {ts : List T} {a : Option Addr} {n c : Nat} (h : AT w ts (.slice a n c)) (i : Nat) (t : T) (ht : ts[i]? = some t) :
  ∃ g o sv,a = some ⟨g,o,none⟩ /\ Node5 w g (o + i * 5) t sv /\ Fits t /\ AT w t.subs sv := by
 have e : i < ts.length := by
  rcases Nat.lt_or_ge i ts.length with d | d
  ·exact d
  ·rw [List.getElem?_eq_none d] at ht; cases ht
 cases h with
 | nil a c hc => simp at e
 | mk _ g o c svs hl h1 h2 cells sub =>
  obtain ⟨sv,b⟩ : ∃ sv,svs[i]? = some sv := ⟨_,List.getElem?_eq_getElem (by omega)⟩
  exact ⟨g,o,sv,rfl,(cells i t sv ht b).1,(cells i t sv ht b).2,sub i t sv ht b⟩
theorem AT.drop {w : World} {ts : List T} {g o n c : Nat} (h : AT w ts (.slice (some ⟨g,o,none⟩) n c)) (k : Nat) (hk : k <= ts.length) : AT w (ts.drop k) (.slice (some ⟨g,o + k * 5,none⟩) (n - k) (c - k)) := by
 cases h with
 | nil a c hc =>
  have : k = 0 := by simpa using hk
  subst this
  exact .nil _ _ hc
 | mk _ _ _ c svs hl h1 h2 cells sub =>
  have e : ts.length - k = (ts.drop k).length := by simp
  rw [e]; refine .mk (ts.drop k) g (o + k * 5) (c - k) (svs.drop k) (by simp [hl]) (by simp; omega) (by omega) (fun i t sv e1 e2 => ?_) (fun i t sv e1 e2 => ?_)
  ·rw [List.getElem?_drop] at e1 e2
   have := cells (k + i) t sv e1 e2; rw [show o + k * 5 + i * 5 = o + (k + i) * 5 by omega]
   exact this
  ·rw [List.getElem?_drop] at e1 e2
   exact sub (k + i) t sv e1 e2
/-! ### From what is read as data -/
theorem five {α : Type} (l : List α) (h : l.length = 5) : ∃ a b c d e,l = [a,b,c,d,e] := by
 match l,h with
 | [a,b,c,d,e],_ => exact ⟨a,b,c,d,e,rfl⟩
section
variable {H : Type} {enc : TypeId × Value -> H} {w : World} {base : Nat} {spare : Nat -> Bool} {held : Bool}
theorem ck {n : Int} (h : (Lit.int .i64 n).wf = true) : -9223372036854775808 <= n /\ n <= 9223372036854775807 := by
 have b : IntKind.i64.min = -9223372036854775808 := rfl
 have d : IntKind.i64.max = 9223372036854775807 := rfl
 simp [Lit.wf,b,d] at h
 omega
end
/-! ### Steps of a region,in short -/
section
variable {P : Program} {ops : Array Oper} {Q : Exit -> Act -> World -> Prop} {md : Region.Mode} {S : World -> Prop} {oi : Oper} {fuel : Nat} {listed : Array Bool} {a : Act} {w : World}
theorem tk (i : Nat) (v : Value) (hi : ops[i]? = some oi) (hy : ∀ w,S w -> (execOp a.eval oi).run P w = .ok (.value v) w) (hS : S w) (h : wpAnyH P md ops Q S fuel (listed.setIfInBounds i true) (a.put oi.dst v) w)
  (hs : Region.noSelect ops = true := by kernel_rfl) (hf : Region.free md ops listed i = true := by kernel_rfl) (hr : (Region.ready md ops listed).contains i = true := by kernel_rfl) (hQ : ∀ c a w,Q (.panic c) (a.put oi.dst v) w -> Q (.panic c) a w := by exact fun _ _ _ h => h) (hw : Region.wanted oi (yielded ops a.tmps) = true := by kernel_rfl) :
  wpAnyH P md ops Q S (fuel + 1) listed a w := wpAnyH_take hi hs hf hr hQ (Or.inl ⟨hw,hy⟩) hS h
theorem rd (i : Nat) (ho : ops[i]? = some oi) (h : ∀ K' : Act -> World -> Prop,Shut (∀ a w,S w -> (S w -> wpAnyH P md ops Q S fuel (listed.setIfInBounds i true) a w) -> K' a w) -> if Region.wanted oi (yielded ops a.tmps) = true then Oper.wp P oi a w K' Q else K' (a.put oi.dst undef) w)
  (hr : Region.ready md ops listed = [i] := by kernel_rfl) : wpAnyH P md ops Q S (fuel + 1) listed a w := wpAnyH_ready hr (by simp) (AllReadyH.cons ho h AllReadyH.nil)
end
theorem Node5.p {w : World} {g o : Nat} {k : Int} {x : List UInt8} {m p : Int} {l : List T} {sv : Value} (h : Node5 w g o (.mk k x m p l) sv) : w.cell? ⟨g,o,none⟩ = some (.int .i64 k) /\ w.cell? ⟨g,o + 1,none⟩ = some (.string ⟨x.toArray⟩) /\ w.cell? ⟨g,o + 2,none⟩ = some (.int .i64 m) /\ w.cell? ⟨g,o + 3,none⟩ = some (.int .i64 p) /\ w.cell? ⟨g,o + 4,none⟩ = some sv := ⟨h.c0,h.c1,h.c2,h.c3,h.c4⟩
/-! ### Operators -/
def zfb : List (List UInt8) := [[61],[35],[60],[60,61],[62],[62,61]]
def zdx : List (List UInt8) := [[43],[45],[79,82]]
def zd2 : List (List UInt8) := [[42],[68,73,86],[77,79,68],[38]]
def inB (xs : List (List UInt8)) (x : List UInt8) : Bool := xs.contains x
def zv (x : List UInt8) : Int := if inB zfb x = true then 0 else if inB zdx x = true then 1 else if inB zd2 x = true then 2 else -1
/-! ### Shapes -/
def zD (t : T) (k : Int) (named : Bool) (most many : Int) : Bool :=
 decide (t.kind = k /\ 0 <= t.num /\ t.num <= most /\ (0 <= many -> (t.subs.length : Int) = many)) && (if named then zF t.name else t.name.isEmpty)
def kR : Int := 2147483647
inductive Rule where
 | module | imported | procedure | typeItself | typeName | typeNameOrNone | ref | act | expression | designator
 | list (r : Rule)
 | declared (kind most : Int) (r : Rule)
def yn : List T -> List Rule -> List (T × Rule)
 | t :: l,r :: m => (t,r) :: yn l m
 | _,_ => []
def vf (l : List T) (r : Rule) : List (T × Rule) := l.map fun t => (t,r)
def zq (c : Bool) (l : List (T × Rule)) : Option (List (T × Rule)) := if c = true then some l else none
def xY : List T -> List (T × Rule)
 | [] => []
 | [x] => [(x,.list .act)]
 | x :: y :: l => (x,.expression) :: (y,.list .act) :: xY l
def yX (t : T) : Option (List (T × Rule)) :=
 if t.kind = 24 then zq (zD t 24 true 0 0) [] else
 if t.kind = 25 then zq (zD t 25 true 0 1) (yn t.subs [.designator]) else
 if t.kind = 26 then zq (zD t 26 false 0 2) (yn t.subs [.designator,.expression]) else
 if t.kind = 27 then zq (zD t 27 false 0 1) (yn t.subs [.designator]) else
 if t.kind = 28 then zq (zD t 28 false 0 2) (yn t.subs [.designator,.typeName]) else none
def uC (t : T) (r q : Rule) : List (T × Rule) := match t.subs with
 | [] => []
 | x :: l => (x,r) :: vf l q
def yQ (t : T) : Option (List (T × Rule)) :=
 if t.kind = 29 then zq (zD t 29 false kR 0) [] else
 if t.kind = 30 \/ t.kind = 31 \/ t.kind = 32 then zq (zD t t.kind false 0 0) [] else
 if t.kind = 33 then zq (zD t 33 false 0 (-1) && decide (0 < t.subs.length)) (uC t .designator .expression) else
 if t.kind = 34 \/ t.kind = 35 then zq (zD t t.kind false 0 1) (yn t.subs [.expression]) else
 if t.kind = 37 then zq (zD t 37 false 0 2) (yn t.subs [.expression,.typeName]) else
 if t.kind = 36 then zq (decide (0 <= zv t.name) && t.num == 0 && t.subs.length == 2) (yn t.subs [.expression,.expression]) else yX t
def gL (t : T) : Option (List (T × Rule)) :=
 if t.kind = 16 then zq (t.name.isEmpty && decide (2 <= t.subs.length) && decide (((t.subs.length : Int) % 2) = t.num)) (xY t.subs) else
 if t.kind = 14 then zq (zD t 14 false 0 2) (yn t.subs [.designator,.expression]) else
 if t.kind = 15 then zq (zD t 15 false 0 (-1) && decide (0 < t.subs.length)) (uC t .designator .expression) else
 if t.kind = 17 then zq (zD t 17 false 0 2) (yn t.subs [.expression,.list .act]) else
 if t.kind = 18 then zq (zD t 18 false 0 2) (yn t.subs [.list .act,.expression]) else
 if t.kind = 19 then zq (zD t 19 false 0 (-1) && decide (t.subs.length <= 1)) (vf t.subs .expression) else
 if t.kind = 20 \/ t.kind = 22 then zq (zD t t.kind false 0 1) (yn t.subs [.designator]) else
 if t.kind = 21 \/ t.kind = 23 then zq (zD t t.kind false 0 1) (yn t.subs [.expression]) else none
def jd (t : T) : Option (List (T × Rule)) := zq (zD t 13 true 0 (-1) && decide (t.subs.length <= 1)) (vf t.subs .ref)
def zw : Rule -> T -> Option (List (T × Rule))
 | .module,t => zq (zD t 2 true 0 6) (yn t.subs [.list .imported,.list (.declared 4 1 .expression),.list (.declared 5 1 .typeItself),.list (.declared 6 1 .typeName),.list .procedure,.list .act])
 | .imported,t => zq (zD t 3 true 0 0) []
 | .procedure,t => zq (zD t 7 true 1 4) (yn t.subs [.list (.declared 8 1 .typeName),.typeNameOrNone,.list (.declared 6 0 .typeName),.list .act])
 | .typeItself,t =>
  if t.kind = 9 then zq (zD t 9 false kR 1) (yn t.subs [.typeName]) else
  if t.kind = 12 then zq (zD t 12 false 0 1) (yn t.subs [.typeName]) else
  if t.kind = 10 then zq (zD t 10 false 0 (-1) && decide (0 < t.subs.length)) (uC t .typeNameOrNone (.declared 11 1 .typeName)) else none
 | .typeName,t => jd t
 | .typeNameOrNone,t => if t.kind = 0 then zq (zD t 0 false 0 0) [] else jd t
 | .ref,t => zq (zD t 24 true 0 0) []
 | .act,t => gL t
 | .expression,t => yQ t
 | .designator,t => yX t
 | .list r,t => zq (zD t 1 false 0 (-1)) (vf t.subs r)
 | .declared kind most r,t => zq (zD t kind true most 1) (yn t.subs [r])
inductive Well : Rule -> T -> Prop
 | mk {r : Rule} {t : T} (l : List (T × Rule)) (h : zw r t = some l) (all : ∀ p ∈ l,Well p.2 p.1) : Well r t
theorem Well.iff {r : Rule} {t : T} : Well r t ↔ ∃ l,zw r t = some l /\ ∀ p ∈ l,Well p.2 p.1 :=
 ⟨fun h => by cases h with | mk l h all => exact ⟨l,h,all⟩,fun ⟨l,h,all⟩ => .mk l h all⟩
theorem Well.of_some {r : Rule} {t : T} {l : List (T × Rule)} (h : zw r t = some l) : Well r t ↔ ∀ p ∈ l,Well p.2 p.1 := by
 rw [Well.iff]
 exact ⟨fun ⟨m,hm,all⟩ => by rw [h] at hm; cases hm; exact all,fun all => ⟨l,h,all⟩⟩
theorem Well.of_none {r : Rule} {t : T} (h : zw r t = none) : ¬ Well r t := by
 rw [Well.iff]; rintro ⟨m,b,-⟩; rw [h] at b; cases b
def WellAll (l : List (T × Rule)) : Prop := ∀ p ∈ l,Well p.2 p.1
theorem WellAll.step {l : List (T × Rule)} {r : Rule} {t : T} {m : List (T × Rule)} (h : zw r t = some m) : WellAll (l ++ [(t,r)]) ↔ WellAll (l ++ m) := by
 unfold WellAll
 constructor
 ·intro H p d
  rcases List.mem_append.1 d with b | b
  ·exact H p (List.mem_append.2 (.inl b))
  ·exact (Well.of_some h).1 (H (t,r) (List.mem_append.2 (.inr (List.mem_singleton.2 rfl)))) p b
 ·intro H p d
  rcases List.mem_append.1 d with b | b
  ·exact H p (List.mem_append.2 (.inl b))
  ·cases List.mem_singleton.1 b
   exact (Well.of_some h).2 fun q hq => H q (List.mem_append.2 (.inr hq))
theorem WellAll.stop {l : List (T × Rule)} {r : Rule} {t : T} (h : zw r t = none) : ¬ WellAll (l ++ [(t,r)]) := fun H => Well.of_none h (H (t,r) (List.mem_append.2 (.inr (List.mem_singleton.2 rfl))))
/-! ### How many nodes,how deep -/
mutual
def zr : T -> Nat
 | .mk _ _ _ _ l => 1 + zu l
def zu : List T -> Nat
 | [] => 0
 | t :: l => zr t + zu l
end
mutual
def zA : T -> Nat
 | .mk _ _ _ _ l => 1 + yM l
def yM : List T -> Nat
 | [] => 0
 | t :: l => max (zA t) (yM l)
end
theorem ui {t u : T} (h : u ∈ t.subs) : zA u < zA t := by
 obtain ⟨k,x,n,a,l⟩ := t
 have H : ∀ l : List T,u ∈ l -> zA u <= yM l := by
  intro l
  induction l with
  | nil => intro h; cases h
  | cons t l ih =>
   intro h; rw [yM]
   rcases List.mem_cons.1 h with rfl | h
   ·exact Nat.le_max_left _ _
   ·exact Nat.le_trans (ih h) (Nat.le_max_right _ _)
 have := H l h; rw [show zA (T.mk k x n a l) = 1 + yM l by rw [zA]]
 omega
def xV (l : List (T × Rule)) : Nat := zu (l.map (·.1))
theorem vB (l m : List T) : zu (l ++ m) = zu l + zu m := by
 induction l with
 | nil => rw [List.nil_append,zu]; omega
 | cons t l ih => rw [List.cons_append,zu,zu,ih]; omega
/-! ### Texts -/
def zB (t : T) : List UInt8 := match t.subs with
 | [m] => m.name ++ (46 :: t.name)
 | _ => t.name
def yK (t : T) : List UInt8 := if t.num = 1 then t.name ++ [42] else t.name
def kJ : Nat -> Nat -> List UInt8
 | 0,_ => []
 | f + 1,n => if n < 10 then [UInt8.ofNat (48 + n)] else kJ f (n / 10) ++ [UInt8.ofNat (48 + n % 10)]
def vy (n : Int) : List UInt8 := kJ 11 n.toNat
def yo (t : T) (i : Nat) : T := t.subs[i]?.getD (.mk 0 [] 0 0 [])
def yH (t : T) : Int := if t.kind = 36 then zv t.name else if t.kind = 37 then 0 else if t.kind = 35 then 1 else 3
def zM (sep : List UInt8) : List (List UInt8) -> List UInt8
 | [] => []
 | [x] => x
 | x :: l => x ++ (sep ++ zM sep l)
def zg : Nat -> T -> List UInt8
 | 0,_ => []
 | f + 1,t =>
  let at9 := fun (u : T) (r : Int) => if yH u < r then 40 :: (zg f u ++ [41]) else zg f u
  let s0 := yo t 0
  let s1 := yo t 1
  if t.kind = 24 then t.name else
  if t.kind = 25 then zg f s0 ++ (46 :: t.name) else
  if t.kind = 26 then zg f s0 ++ (91 :: (zg f s1 ++ [93])) else
  if t.kind = 27 then zg f s0 ++ [94] else
  if t.kind = 28 then zg f s0 ++ (123 :: (zB s1 ++ [125])) else
  if t.kind = 29 then vy t.num else
  if t.kind = 30 then [84,82,85,69] else
  if t.kind = 31 then [70,65,76,83,69] else
  if t.kind = 32 then [78,73,76] else
  if t.kind = 33 then zg f s0 ++ (40 :: (zM [44,32] ((t.subs.drop 1).map (zg f)) ++ [41])) else
  if t.kind = 34 then 126 :: at9 s0 3 else
  if t.kind = 35 then 45 :: at9 s0 2 else
  if t.kind = 37 then at9 s0 1 ++ ([32,73,83,32] ++ zB s1) else
  at9 s0 (if zv t.name = 2 then 2 else 1) ++ (32 :: (t.name ++ (32 :: at9 s1 (if zv t.name = 1 then 2 else if zv t.name = 2 then 3 else 1))))
def zR (L : Nat) : List UInt8 := List.replicate (2 * L) 32
def qU (f : Nat) (l : List T) : List UInt8 := 40 :: (zM [44,32] (l.map (zg f)) ++ [41])
def yC (sep last : List UInt8) (tx : T -> List UInt8) (L : Nat) (l : List T) : List UInt8 :=
 if l.isEmpty then [] else zM (sep ++ [10]) (l.map fun t => zR (L + 1) ++ tx t) ++ (last ++ [10])
def yg (ex ac : T -> List UInt8) (L : Nat) : List T -> List UInt8
 | [] => []
 | [x] => zR L ++ ([69,76,83,69,10] ++ ac x)
 | x :: y :: l => zR L ++ ([69,76,83,73,70,32] ++ (ex x ++ ([32,84,72,69,78,10] ++ (ac y ++ yg ex ac L l))))
def jn (k : Int) : List UInt8 := if k = 20 then [78,69,87] else if k = 21 then [79,85,84] else if k = 22 then [71,69,84] else [65,83,83,69,82,84]
def yd : Nat -> Nat -> T -> List UInt8
 | 0,_,_ => []
 | f + 1,L,t =>
  let acts := fun (u : T) => yC [59] [] (yd f (L + 1)) L u.subs
  let s0 := yo t 0
  let s1 := yo t 1
  if t.kind = 14 then zg f s0 ++ ([32,58,61,32] ++ zg f s1) else
  if t.kind = 15 then zg f s0 ++ (if 1 < t.subs.length then qU f (t.subs.drop 1) else []) else
  if t.kind = 16 then [73,70,32] ++ (zg f s0 ++ ([32,84,72,69,78,10] ++ (acts s1 ++ (yg (zg f) acts L (t.subs.drop 2) ++ (zR L ++ [69,78,68]))))) else
  if t.kind = 17 then [87,72,73,76,69,32] ++ (zg f s0 ++ ([32,68,79,10] ++ (acts s1 ++ (zR L ++ [69,78,68])))) else
  if t.kind = 18 then [82,69,80,69,65,84,10] ++ (acts s0 ++ (zR L ++ ([85,78,84,73,76,32] ++ zg f s1))) else
  if t.kind = 19 then [82,69,84,85,82,78] ++ (if 0 < t.subs.length then 32 :: zg f s0 else []) else
  jn t.kind ++ (40 :: (zg f s0 ++ [41]))
def zW (f L : Nat) (l : List T) : List UInt8 := yC [59] [] (yd f (L + 1)) L l
def zG (t : T) : List UInt8 := yK t ++ ([58,32] ++ zB (yo t 0))
def yf (t : T) : List UInt8 := (if t.num = 1 then [86,65,82,32] else []) ++ (t.name ++ ([58,32] ++ zB (yo t 0)))
def zZ (tx : T -> List UInt8) : List T -> List UInt8
 | [] => []
 | t :: l => tx t ++ zZ tx l
def xN (t : T) : List UInt8 :=
 if t.kind = 9 then [65,82,82,65,89,32] ++ (vy t.num ++ ([32,79,70,32] ++ zB (yo t 0))) else
 if t.kind = 12 then [80,79,73,78,84,69,82,32,84,79,32] ++ zB (yo t 0) else
 [82,69,67,79,82,68,32] ++ ((if (yo t 0).kind = 0 then [] else 40 :: (zB (yo t 0) ++ [41,32])) ++ (zZ (fun x => zG x ++ [59,32]) (t.subs.drop 1) ++ [69,78,68]))
def xJ (f : Nat) (t : T) : List UInt8 := yK t ++ ([32,61,32] ++ zg f (yo t 0))
def xM (t : T) : List UInt8 := yK t ++ ([32,61,32] ++ xN (yo t 0))
def zO (word : List UInt8) (tx : T -> List UInt8) (l : List T) : List UInt8 := if l.isEmpty then [] else word ++ (10 :: yC [59] [59] tx 0 l)
def VARw : List UInt8 := [86,65,82]
def vc (f : Nat) (t : T) : List UInt8 :=
 let ps := (yo t 0).subs
 let r := yo t 1
 [80,82,79,67,69,68,85,82,69,32] ++ (yK t ++ ((if ps.isEmpty && r.kind == 0 then [] else 40 :: (zM [59,32] (ps.map yf) ++ [41])) ++ ((if r.kind = 0 then [] else [58,32] ++ zB r) ++ ([59,10] ++
  (zO VARw zG (yo t 2).subs ++ ([66,69,71,73,78,10] ++ (zW f 0 (yo t 3).subs ++ ([69,78,68,32] ++ (t.name ++ [59,10])))))))))
def xm (l : List T) : List UInt8 := if l.isEmpty then [] else [73,77,80,79,82,84,32] ++ (zM [44,32] (l.map T.name) ++ [59,10])
def zP (f : Nat) (t : T) : List UInt8 :=
 [77,79,68,85,76,69,32] ++ (t.name ++ ([59,10] ++ (xm (yo t 0).subs ++ (zO [67,79,78,83,84] (xJ f) (yo t 1).subs ++ (zO [84,89,80,69] xM (yo t 2).subs ++ (zO VARw zG (yo t 3).subs ++
  (zZ (vc f) (yo t 4).subs ++ ((if (yo t 5).subs.isEmpty then [] else [66,69,71,73,78,10] ++ zW f 0 (yo t 5).subs) ++ ([69,78,68,32] ++ (t.name ++ [46,10]))))))))))
/-! ### Lengths -/
theorem zo (L : Nat) : (zR L).length = 2 * L := by simp [zR]
theorem ct (sep : List UInt8) (l : List (List UInt8)) (x : List UInt8) : zM sep (l ++ [x]) = zM sep l ++ ((if l.isEmpty then [] else sep) ++ x) := by
 induction l with
 | nil => simp [zM]
 | cons y l ih =>
  cases l with
  | nil => simp [zM]
  | cons z l =>
   have e : zM sep (y :: (z :: l ++ [x])) = y ++ (sep ++ zM sep (z :: l ++ [x])) := rfl
   rw [List.cons_append,e,ih]
   simp [zM]
theorem kW (sep : List UInt8) (tx : T -> List UInt8) (c : Nat) (l : List T) (h : ∀ t ∈ l,(tx t).length + sep.length <= c * zr t) : (zM sep (l.map tx)).length <= c * zu l := by
 induction l with
 | nil => simp [zM]
 | cons t l ih =>
  have b := h t (by simp); have d := ih (fun u hu => h u (by simp [hu])); rw [zu,Nat.mul_add]; cases l with
  | nil => simp only [List.map_cons,List.map_nil,zM]; omega
  | cons z l =>
   have e : zM sep ((t :: z :: l).map tx) = tx t ++ (sep ++ zM sep ((z :: l).map tx)) := rfl
   rw [e]; simp only [List.length_append]
   omega
theorem tY (tx : T -> List UInt8) (c : Nat) (l : List T) (h : ∀ t ∈ l,(tx t).length <= c * zr t) : (zZ tx l).length <= c * zu l := by
 induction l with
 | nil => simp [zZ]
 | cons t l ih =>
  have b := h t (by simp); have d := ih (fun u hu => h u (by simp [hu])); rw [zu,Nat.mul_add]; simp only [zZ,List.length_append]
  omega
theorem xu (tx : T -> List UInt8) (l m : List T) : zZ tx (l ++ m) = zZ tx l ++ zZ tx m := by
 induction l with
 | nil => simp [zZ]
 | cons t l ih => simp [zZ,ih]
theorem cE (sep : List UInt8) (tx : T -> List UInt8) (L : Nat) (l : List T) : yC sep sep tx L l = zZ (fun t => zR (L + 1) ++ (tx t ++ (sep ++ [10]))) l := by
 unfold yC
 cases l with
 | nil => rfl
 | cons t l =>
  rw [if_neg (by simp)]
  induction l generalizing t with
  | nil => simp [zM,zZ]
  | cons u l ih =>
   have e : zM (sep ++ [10]) ((t :: u :: l).map fun t => zR (L + 1) ++ tx t) = (zR (L + 1) ++ tx t) ++ ((sep ++ [10]) ++ zM (sep ++ [10]) ((u :: l).map fun t => zR (L + 1) ++ tx t)) := rfl
   rw [e,zZ,<- ih u]
   simp [List.append_assoc]
def Sy (w : World) (v : Value) : Ending -> World -> Prop := fun e w' => e = .returned v /\ w.grownBy w' none
theorem rQ {a b : Bool} (h : a = b) : Ending.returned (.bool a) = .returned (.bool b) := by rw [h]
theorem pN {x : List UInt8} (h : x.length <= maxLen) : ByteArray.size ⟨x.toArray⟩ <= maxLen := by simpa [ByteArray.size] using h
open Classical in
noncomputable def jY (r : Rule) (t : T) : Bool := decide (Well r t)
theorem qx {r : Rule} {t : T} : jY r t = true ↔ Well r t := by unfold jY; simp
structure Box (w : World) (b : Nat) (t : T) (sv : Value) : Prop where
 c0 : w.cell? ⟨b,0,none⟩ = some (.int .i64 t.kind)
 c1 : w.cell? ⟨b,1,none⟩ = some (.string ⟨t.name.toArray⟩)
 c2 : w.cell? ⟨b,2,none⟩ = some (.int .i64 t.num)
 c3 : w.cell? ⟨b,3,none⟩ = some (.int .i64 t.at')
 c4 : w.cell? ⟨b,4,none⟩ = some sv
theorem Box.new (w : World) (t : T) (sv : Value) (ty : TypeId) : Box (w.alloc (.cells #[.int .i64 t.kind,.string ⟨t.name.toArray⟩,.int .i64 t.num,.int .i64 t.at',sv] ty)) w.heap.size t sv :=
 ⟨by rw [World.cell?_alloc_at _ _ _ _ rfl]; rfl,by rw [World.cell?_alloc_at _ _ _ _ rfl]; rfl,by rw [World.cell?_alloc_at _ _ _ _ rfl]; rfl,by rw [World.cell?_alloc_at _ _ _ _ rfl]; rfl,by rw [World.cell?_alloc_at _ _ _ _ rfl]; rfl⟩
theorem Box.p {w : World} {b : Nat} {k : Int} {x : List UInt8} {m p : Int} {l : List T} {sv : Value} (h : Box w b (.mk k x m p l) sv) : w.cell? ⟨b,0,none⟩ = some (.int .i64 k) /\ w.cell? ⟨b,1,none⟩ = some (.string ⟨x.toArray⟩) /\ w.cell? ⟨b,2,none⟩ = some (.int .i64 m) /\ w.cell? ⟨b,3,none⟩ = some (.int .i64 p) /\ w.cell? ⟨b,4,none⟩ = some sv := ⟨h.c0,h.c1,h.c2,h.c3,h.c4⟩
theorem Box.kept {w w' : World} {b : Nat} {t : T} {sv : Value} (h : Box w b t sv) (hg : w.grownBy w' none) : Box w' b t sv :=
 ⟨yI hg h.c0,yI hg h.c1,yI hg h.c2,yI hg h.c3,yI hg h.c4⟩
theorem AT.any {w : World} {t : T} {sv : Value} (h : AT w t.subs sv) : ∃ a n c,sv = .slice a n c /\ n <= c /\ c <= 9223372036854775807 /\ t.subs.length = n := by
 obtain ⟨a,c,b,d,e⟩ := h.form
 unfold maxLen at e
 exact ⟨a,_,c,b,d,by omega,rfl⟩
theorem AT.zero {w : World} {t : T} {sv : Value} (h : AT w t.subs sv) (e : t.subs.length = 0) : ∃ a c,sv = .slice a 0 c /\ c <= 9223372036854775807 /\ t.subs = [] := by
 obtain ⟨a,c,b,_,d⟩ := h.form
 unfold maxLen at d
 rw [e] at b
 exact ⟨a,c,b,by omega,List.eq_nil_of_length_eq_zero e⟩
theorem AT.one {w : World} {t : T} {sv : Value} (h : AT w t.subs sv) (e : t.subs.length = 1) : ∃ g o c u su,sv = .slice (some ⟨g,o,none⟩) 1 c /\ 1 <= c /\ c <= 9223372036854775807 /\ t.subs = [u] /\ Node5 w g o u su /\ Fits u /\ AT w u.subs su := by
 obtain ⟨_,c,rfl,b,f⟩ := h.form
 unfold maxLen at f
 obtain ⟨u,d⟩ := List.length_eq_one_iff.1 e; obtain ⟨g,o,su,rfl,i,j,l⟩ := h.node 0 u (by rw [d]; rfl); rw [e] at b ⊢
 exact ⟨g,o,c,u,su,rfl,b,by omega,d,by simpa using i,j,l⟩
theorem AT.two {w : World} {t : T} {sv : Value} (h : AT w t.subs sv) (e : t.subs.length = 2) : ∃ g o c u su v sw,sv = .slice (some ⟨g,o,none⟩) 2 c /\ 2 <= c /\ c <= 9223372036854775807 /\ t.subs = [u,v] /\ Node5 w g o u su /\ Fits u /\ AT w u.subs su /\ Node5 w g (o + 5) v sw /\ Fits v /\ AT w v.subs sw := by
 obtain ⟨_,c,rfl,d,f⟩ := h.form
 unfold maxLen at f
 obtain ⟨u,v,b⟩ : ∃ u v,t.subs = [u,v] := by
  match hs : t.subs,e with
  | [u,v],_ => exact ⟨u,v,rfl⟩
 obtain ⟨g,o,su,rfl,i,j,l⟩ := h.node 0 u (by rw [b]; rfl); obtain ⟨x,y,sw,m,n,r,s⟩ := h.node 1 v (by rw [b]; rfl); cases m; rw [e] at d ⊢
 exact ⟨g,o,c,u,su,v,sw,rfl,d,by omega,b,by simpa using i,j,l,by simpa using n,r,s⟩
theorem AT.cons {w : World} {k m p : Int} {x : List UInt8} {u : T} {r : List T} {sv : Value} (h : AT w (T.mk k x m p (u :: r)).subs sv) : ∃ g o c su,sv = .slice (some ⟨g,o,none⟩) (r.length + 1) c /\ r.length + 1 <= c /\ c <= 9223372036854775807 /\ Node5 w g o u su /\ Fits u /\ AT w u.subs su /\ AT w r (.slice (some ⟨g,o + 5,none⟩) r.length (c - 1)) := by
 obtain ⟨_,c,rfl,b,d⟩ := h.form
 unfold maxLen at d
 obtain ⟨g,o,su,rfl,e,f,i⟩ := h.node 0 u rfl; refine ⟨g,o,c,su,rfl,b,by omega,by simpa using e,f,i,?_⟩; have := h.drop 1 (by simp [T.subs])
 simpa [T.subs] using this
def rf : Rule -> Option Nat
 | .module => some 33
 | .imported => some 74
 | .procedure => some 79
 | .typeItself => some 77
 | .typeName => some 78
 | .typeNameOrNone => some 134
 | .ref => some 135
 | .act => some 80
 | .expression => some 76
 | .designator => some 133
 | _ => none
abbrev ptr (b : Nat) : Value := .pointer (some ⟨b,0,none⟩)
inductive RV (w : World) (jb : Nat) (S : Nat -> Prop) : Rule -> Value -> Prop
 | meth (r : Rule) (g : Nat) (h : rf r = some g) : RV w jb S r (.func (.func g) #[ptr jb] #[])
 | list (r : Rule) (rv : Value) (b1 b2 : Nat) (s1 : S b1) (s2 : S b2) (c1 : w.cell? ⟨b1,0,none⟩ = some (ptr jb)) (c2 : w.cell? ⟨b2,0,none⟩ = some rv) (h : RV w jb S r rv) :
   RV w jb S (.list r) (.func (.func 128) #[] #[ptr b1,ptr b2])
 | declared (k m : Int) (r : Rule) (rv : Value) (b1 b2 b3 b4 : Nat) (s1 : S b1) (s2 : S b2) (s3 : S b3) (s4 : S b4) (c1 : w.cell? ⟨b1,0,none⟩ = some (.int .i64 k)) (c2 : w.cell? ⟨b2,0,none⟩ = some (ptr jb))
   (c3 : w.cell? ⟨b3,0,none⟩ = some (.int .i64 m)) (c4 : w.cell? ⟨b4,0,none⟩ = some rv) (h : RV w jb S r rv) :
   RV w jb S (.declared k m r) (.func (.func 131) #[] #[ptr b1,ptr b2,ptr b3,ptr b4])
structure KB (S : Nat -> Prop) (w w' : World) : Prop where
 os : w'.os = w.os
 tape : w'.tape = w.tape
 output : w'.output = w.output
 size : w.heap.size <= w'.heap.size
 block : ∀ k,k < w.heap.size -> S k -> w'.heap[k]? = w.heap[k]?
theorem KB.refl (S : Nat -> Prop) (w : World) : KB S w w := ⟨rfl,rfl,rfl,Nat.le_refl _,fun _ _ _ => rfl⟩
theorem KB.trans {S S' : Nat -> Prop} {w w1 w2 : World} (h1 : KB S w w1) (h2 : KB S' w1 w2) (hs : ∀ k,k < w.heap.size -> S k -> S' k) : KB S w w2 :=
 ⟨h2.os.trans h1.os,h2.tape.trans h1.tape,h2.output.trans h1.output,Nat.le_trans h1.size h2.size,fun k hk hS => (h2.block k (Nat.lt_of_lt_of_le hk h1.size) (hs k hk hS)).trans (h1.block k hk hS)⟩
theorem KB.of {S : Nat -> Prop} {w w' : World} {row : Option Nat} (h : w.grownBy w' row) (hs : ∀ k,S k -> some k ≠ row) : KB S w w' := ⟨h.os,h.tape,h.output,h.size,fun k hk hS => h.block k hk (hs k hS)⟩
theorem KB.cell {S : Nat -> Prop} {w w' : World} {a : Addr} {v : Value} (hg : KB S w w') (h : w.cell? a = some v) (hs : S a.block) : w'.cell? a = some v := by
 have b := hg.block a.block (ze h) hs
 unfold World.cell? at h ⊢
 rw [b]
 exact h
theorem RV.kept {w w' : World} {jb : Nat} {S S' : Nat -> Prop} {r : Rule} {v : Value} (h : RV w jb S r v) (hg : KB S w w') (hS : ∀ k,k < w.heap.size -> S k -> S' k) : RV w' jb S' r v := by
 induction h with
 | meth r g h => exact .meth r g h
 | list r rv b1 b2 s1 s2 c1 c2 h ih => exact .list r rv b1 b2 (hS _ (ze c1) s1) (hS _ (ze c2) s2) (hg.cell c1 s1) (hg.cell c2 s2) ih
 | declared k m r rv b1 b2 b3 b4 s1 s2 s3 s4 c1 c2 c3 c4 h ih => exact .declared k m r rv b1 b2 b3 b4 (hS _ (ze c1) s1) (hS _ (ze c2) s2) (hS _ (ze c3) s3) (hS _ (ze c4) s4) (hg.cell c1 s1) (hg.cell c2 s2) (hg.cell c3 s3) (hg.cell c4 s4) ih
def jr : List (T × Rule) -> List Value -> List Value -> List Value
 | p :: l,sv :: svs,rv :: rvs => [.int .i64 p.1.kind,.string ⟨p.1.name.toArray⟩,.int .i64 p.1.num,.int .i64 p.1.at',sv,rv] ++ jr l svs rvs
 | _,_,_ => []
theorem uL : ∀ (l : List (T × Rule)) (svs rvs : List Value),svs.length = l.length -> rvs.length = l.length -> (jr l svs rvs).length = l.length * 6
 | [],[],[],_,_ => rfl
 | p :: l,sv :: svs,rv :: rvs,h1,h2 => by
  have ih := uL l svs rvs (by simpa using h1) (by simpa using h2); simp only [jr,List.length_append,ih,List.length_cons,List.length_nil]
  omega
theorem jZ : ∀ (l : List (T × Rule)) (svs rvs : List Value) (m : List (T × Rule)) (svs' rvs' : List Value),svs.length = l.length -> rvs.length = l.length -> jr (l ++ m) (svs ++ svs') (rvs ++ rvs') = jr l svs rvs ++ jr m svs' rvs'
 | [],[],[],_,_,_,_,_ => rfl
 | p :: l,sv :: svs,rv :: rvs,m,svs',rvs',h1,h2 => by
  have ih := jZ l svs rvs m svs' rvs' (by simpa using h1) (by simpa using h2); simp only [jr,List.cons_append,ih,List.append_assoc]
set_option maxHeartbeats 2000000
set_option maxRecDepth 1000000
def oD : List (List UInt8 × Int) := [([61],0),([35],0),([60],0),([60,61],0),([62],0),([62,61],0),([43],1),([45],1),([79,82],1),([42],2),([68,73,86],2),([77,79,68],2),([38],2)]
def cW (es : List (List UInt8 × Int)) : DataW Unit := es.foldl (fun m p => m.put (.string p.1) (.lit (.int .i64 p.2))) (.map [])
def js (k : List UInt8) : List (List UInt8 × Int) -> Option Int
 | [] => none
 | p :: r => match js k r with
  | some n => some n
  | none => if p.1 = k then some p.2 else none
theorem pW {D : DataW Unit} (h : IsMap D) (k : List UInt8) (d : DataW Unit) : IsMap (D.put (.string k) d) := by
 first | exact h.put _ _ | exact IsMap.put h _ _ | (obtain ⟨_,rfl⟩ := h; exact ⟨_,rfl⟩)
theorem tc (k : List UInt8) : ∀ (es : List (List UInt8 × Int)) (D : DataW Unit),IsMap D -> has (es.foldl (fun m p => m.put (.string p.1) (.lit (.int .i64 p.2))) D) (.string k) = ((js k es).isSome || has D (.string k))
 | [],D,_ => by simp [js]
 | p :: r,D,hD => by
  rw [List.foldl_cons,tc k r _ (pW hD _ _),js]; cases h : js k r with
  | some n => simp
  | none =>
   by_cases e : p.1 = k
   ·rw [if_pos e,<- e,has_put_same hD (by constructor)]; simp
   ·rw [if_neg e,has_put_other (by intro e2; injection e2 with e2; exact e e2.symm)]
theorem rL (k : List UInt8) (z : DataW Unit) : ∀ (es : List (List UInt8 × Int)) (D : DataW Unit),IsMap D -> (es.foldl (fun m p => m.put (.string p.1) (.lit (.int .i64 p.2))) D).atKey (.string k) z = (match js k es with | some n => .lit (.int .i64 n) | none => D.atKey (.string k) z)
 | [],D,_ => by simp [js]
 | p :: r,D,hD => by
  rw [List.foldl_cons,rL k z r _ (pW hD _ _),js]; cases h : js k r with
  | some n => simp
  | none =>
   by_cases e : p.1 = k
   ·rw [if_pos e,<- e]; exact atKey_put_same hD (by constructor) _ _
   ·rw [if_neg e]; exact atKey_put_other (by intro e2; injection e2 with e2; exact e e2.symm) _ _
theorem pR (k : List UInt8) : js k oD = if 0 <= zv k then some (zv k) else none := by
 unfold zv inB zfb zdx zd2
 simp only [oD,js,List.contains_cons,List.contains_nil,Bool.or_false,Bool.or_eq_true,beq_iff_eq]
 by_cases h : k ∈ oD.map (·.1)
 ·simp [oD] at h
  rcases h with rfl | rfl | rfl | rfl | rfl | rfl | rfl | rfl | rfl | rfl | rfl | rfl | rfl <;> decide
 ·simp [oD] at h
  obtain ⟨_,_,_,_,_,_,_,_,_,_,_,_,_⟩ := h
  simp [*,Ne.symm,eq_comm]
theorem uR : Keyed Tryz.prog 9 := string_keyed Tryz.underlying9
theorem nJ (w : World) : (zeroValue 122).run Tryz.prog w = .ok (.int .i64 0) w := by kernel_rfl
def IsOps (w : World) (b : Nat) : Prop := w.ownsMap Tryz.prog 9 (plainElem Tryz.prog 122) b 13 (cW oD)
theorem gQ (w : World) : Calls Tryz.prog 31 #[] w fun e w' => e = .returned (.map (some w.heap.size)) /\ IsOps w' w.heap.size /\ w.grownBy w' none := by
 have N := @run_makeMap Tryz.prog; have A := World.ownsMap_made (H := Unit) w Tryz.prog 9 (plainElem Tryz.prog 122); obtain ⟨_,_,B,h⟩ := A.update uR Tryz.underlying66 (by unfold maxLen; omega) (keyOf_string_mk (P := Tryz.prog) Tryz.underlying9 (s := ⟨#[61]⟩) (by unfold maxLen; decide)) (plainElem_int (H := Unit) Tryz.underlying122 (a := 0) (by decide)); obtain ⟨_,_,C,i⟩ := B.update uR Tryz.underlying66 (by unfold maxLen; omega) (keyOf_string_mk (P := Tryz.prog) Tryz.underlying9 (s := ⟨#[35]⟩) (by unfold maxLen; decide)) (plainElem_int (H := Unit) Tryz.underlying122 (a := 0) (by decide)); obtain ⟨_,_,D,j⟩ := C.update uR Tryz.underlying66 (by unfold maxLen; omega) (keyOf_string_mk (P := Tryz.prog) Tryz.underlying9 (s := ⟨#[60]⟩) (by unfold maxLen; decide)) (plainElem_int (H := Unit) Tryz.underlying122 (a := 0) (by decide)); obtain ⟨_,_,E,l⟩ := D.update uR Tryz.underlying66 (by unfold maxLen; omega) (keyOf_string_mk (P := Tryz.prog) Tryz.underlying9 (s := ⟨#[60,61]⟩) (by unfold maxLen; decide)) (plainElem_int (H := Unit) Tryz.underlying122 (a := 0) (by decide)); obtain ⟨_,_,F,m⟩ := E.update uR Tryz.underlying66 (by unfold maxLen; omega) (keyOf_string_mk (P := Tryz.prog) Tryz.underlying9 (s := ⟨#[62]⟩) (by unfold maxLen; decide)) (plainElem_int (H := Unit) Tryz.underlying122 (a := 0) (by decide)); obtain ⟨_,_,I,n⟩ := F.update uR Tryz.underlying66 (by unfold maxLen; omega) (keyOf_string_mk (P := Tryz.prog) Tryz.underlying9 (s := ⟨#[62,61]⟩) (by unfold maxLen; decide)) (plainElem_int (H := Unit) Tryz.underlying122 (a := 0) (by decide)); obtain ⟨_,_,J,o⟩ := I.update uR Tryz.underlying66 (by unfold maxLen; omega) (keyOf_string_mk (P := Tryz.prog) Tryz.underlying9 (s := ⟨#[43]⟩) (by unfold maxLen; decide)) (plainElem_int (H := Unit) Tryz.underlying122 (a := 1) (by decide)); obtain ⟨_,_,K,r⟩ := J.update uR Tryz.underlying66 (by unfold maxLen; omega) (keyOf_string_mk (P := Tryz.prog) Tryz.underlying9 (s := ⟨#[45]⟩) (by unfold maxLen; decide)) (plainElem_int (H := Unit) Tryz.underlying122 (a := 1) (by decide)); obtain ⟨_,_,L,t⟩ := K.update uR Tryz.underlying66 (by unfold maxLen; omega) (keyOf_string_mk (P := Tryz.prog) Tryz.underlying9 (s := ⟨#[79,82]⟩) (by unfold maxLen; decide)) (plainElem_int (H := Unit) Tryz.underlying122 (a := 1) (by decide)); obtain ⟨_,_,M,u⟩ := L.update uR Tryz.underlying66 (by unfold maxLen; omega) (keyOf_string_mk (P := Tryz.prog) Tryz.underlying9 (s := ⟨#[42]⟩) (by unfold maxLen; decide)) (plainElem_int (H := Unit) Tryz.underlying122 (a := 2) (by decide)); obtain ⟨_,_,v,d⟩ := M.update uR Tryz.underlying66 (by unfold maxLen; omega) (keyOf_string_mk (P := Tryz.prog) Tryz.underlying9 (s := ⟨#[68,73,86]⟩) (by unfold maxLen; decide)) (plainElem_int (H := Unit) Tryz.underlying122 (a := 2) (by decide)); obtain ⟨_,_,x,f⟩ := v.update uR Tryz.underlying66 (by unfold maxLen; omega) (keyOf_string_mk (P := Tryz.prog) Tryz.underlying9 (s := ⟨#[77,79,68]⟩) (by unfold maxLen; decide)) (plainElem_int (H := Unit) Tryz.underlying122 (a := 2) (by decide))
 obtain ⟨b,_,y,g⟩ := x.update uR Tryz.underlying66 (by unfold maxLen; omega) (keyOf_string_mk (P := Tryz.prog) Tryz.underlying9 (s := ⟨#[38]⟩) (by unfold maxLen; decide)) (plainElem_int (H := Unit) Tryz.underlying122 (a := 2) (by decide)); have O : Hid (IsOps b w.heap.size) := y
 have R : Hid (w.grownBy b none) := by
  have z : (w.alloc (.map #[] 0)).grownBy b (some w.heap.size) := zb (zb (zb (zb (zb (zb (zb (zb (zb (zb (zb (zb h i) j) l) m) n) o) r) t) u) d) f) g
  exact ⟨z.os,z.tape,z.output,by have := z.size; simp at this; omega,fun k hk _ => (z.block k (by simp; omega) (by simp; omega)).trans (by have := (World.grownBy_alloc w (.map #[] 0) none).block k hk (by simp); exact this)⟩
 clear A B C D E F I J K L M v x y h i j l m n o r t u d f g
 go_enter Tryz.func31,Tryz.ntmps31
 go_wp2
 go_ret
 exact ⟨rfl,O.out,R.out⟩
theorem gu {w w' : World} {base n : Nat} {e : TypeId} {size : Nat} {v : Value} {xs : List Value} (h : w.ownsRow base e size v n xs) (hb : ∀ g,v.ownBlock = some g -> w'.heap[g]? = w.heap[g]?) : w'.ownsRow base e size v n xs := by
 obtain ⟨f,h⟩ := h
 rcases h with h | ⟨g,b,d,rfl,i,j,m⟩
 ·exact ⟨f,.inl h⟩
 ·exact ⟨f,.inr ⟨g,b,d,rfl,i,(hb g rfl).trans j,m⟩⟩
theorem yN {P : Program} {k : TypeId} {R : Value -> Option (DataW Unit × List MemPlace)} {w w' : World} {b n : Nat} {D : DataW Unit} (h : w.ownsMap P k R b n D) (hb : w'.heap[b]? = w.heap[b]?) : w'.ownsMap P k R b n D := by
 obtain ⟨e,d,f,g⟩ := h
 exact ⟨e,d,hb.trans f,g⟩
theorem tF {P : Program} {k : TypeId} {R : Value -> Option (DataW Unit × List MemPlace)} {w : World} {b n m : Nat} {D : DataW Unit} {base : Nat} {e : TypeId} {size : Nat} {v : Value} {xs : List Value} (h : w.ownsMap P k R b n D) (ho : w.ownsRow base e size v m xs) : v.ownBlock ≠ some b := by
 obtain ⟨_,_,f,_⟩ := h; obtain ⟨_,h⟩ := ho
 rcases h with ⟨rfl,_⟩ | ⟨g,i,j,rfl,_,d,_⟩
 ·simp [Value.ownBlock]
 ·intro e
  simp [Value.ownBlock] at e
  subst e; rw [f] at d; cases d
structure JS (w0 : World) (jb lb ob : Nat) (w : World) (l : List (T × Rule)) (v : Value) : Prop where
 gb : w0.grownBy w none
 jlo : w0.heap.size <= jb
 c0 : w.cell? ⟨jb,0,none⟩ = some (.map (some lb))
 c1 : w.cell? ⟨jb,1,none⟩ = some (.map (some ob))
 c2 : w.cell? ⟨jb,2,none⟩ = some v
 z2 : w.frozen? ⟨jb,2,none⟩ = false
 lex : IsLex w lb
 ops : IsOps w ob
 lne : lb ≠ jb
 one : ob ≠ jb
 rne : v.ownBlock ≠ some jb
 row : ∃ svs rvs,svs.length = l.length /\ rvs.length = l.length /\ w.ownsRow w0.heap.size 91 6 v l.length (jr l svs rvs) /\
  ∀ (i : Nat) (p : T × Rule) (sv rv : Value),l[i]? = some p -> svs[i]? = some sv -> rvs[i]? = some rv -> Fits p.1 /\ AT w0 p.1.subs sv /\ RV w jb (fun k => k ≠ jb /\ v.ownBlock ≠ some k) p.2 rv
structure JK (jb : Nat) (v : Value) (w w' : World) (v' : Value) : Prop where
 kb : KB (fun k => k ≠ jb /\ v.ownBlock ≠ some k) w w'
 at' : v'.ownBlock = v.ownBlock \/ ∀ b,v'.ownBlock = some b -> w.heap.size <= b
section
variable {w0 : World} {jb lb ob : Nat} {w w' w1 w2 : World} {l : List (T × Rule)} {v v' v'' : Value}
theorem JS.lt (h : JS w0 jb lb ob w l v) : jb < w.heap.size := ze h.c0
theorem JK.refl (jb : Nat) (v : Value) (w : World) : JK jb v w w v := ⟨KB.refl _ _,.inl rfl⟩
theorem JK.trans (h1 : JK jb v w w1 v') (h2 : JK jb v' w1 w2 v'') : JK jb v w w2 v'' := by
 refine ⟨h1.kb.trans h2.kb (fun k hk hs => ⟨hs.1,fun e => ?_⟩),?_⟩
 ·rcases h1.at' with h | h
  ·exact hs.2 (h ▸ e)
  ·have := h k e
   omega
 ·rcases h2.at' with h | h
  ·rcases h1.at' with d | d
   ·exact .inl (h.trans d)
   ·exact .inr (fun b hb => d b (h ▸ hb))
  ·exact .inr (fun b hb => Nat.le_trans h1.kb.size (h b hb))
theorem JK.grown (h : w.grownBy w' none) : JK jb v w w' v := ⟨KB.of h (fun _ _ => by simp),.inl rfl⟩
theorem JS.grown (h : JS w0 jb lb ob w l v) (hg : w.grownBy w' none) : JS w0 jb lb ob w' l v where
 gb := zb h.gb hg
 jlo := h.jlo
 c0 := yI hg h.c0
 c1 := yI hg h.c1
 c2 := yI hg h.c2
 z2 := yY hg h.lt h.z2 (by simp)
 lex := yN h.lex (hg.block _ (World.ownsMap.lt h.lex) (by simp))
 ops := yN h.ops (hg.block _ (World.ownsMap.lt h.ops) (by simp))
 lne := h.lne
 one := h.one
 rne := h.rne
 row := by
  obtain ⟨d,e,f,j,b,m⟩ := h.row; refine ⟨d,e,f,j,gu b (fun g hgb => hg.block g (b.lt g hgb).2 (by simp)),fun i p sv rv e1 e2 e3 => ?_⟩; obtain ⟨n,o,r⟩ := m i p sv rv e1 e2 e3
  exact ⟨n,o,r.kept (KB.of hg (fun _ _ => by simp)) (fun _ _ hs => hs)⟩
theorem JS.room (h : JS w0 jb lb ob w l v) {b : Nat} (hb : v.ownBlock = some b) : w0.heap.size <= b /\ b < w.heap.size := by
 obtain ⟨_,_,_,_,d,_⟩ := h.row
 exact d.lt b hb
theorem JS.push {t : T} {r : Rule} {sv rv : Value} {svs rvs : List Value} (h : JS w0 jb lb ob w l v) (h1 : svs.length = l.length) (h2 : rvs.length = l.length)
  (hp : ∀ (i : Nat) (p : T × Rule) (sv rv : Value),l[i]? = some p -> svs[i]? = some sv -> rvs[i]? = some rv -> Fits p.1 /\ AT w0 p.1.subs sv /\ RV w jb (fun k => k ≠ jb /\ v.ownBlock ≠ some k) p.2 rv)
  (hf : Fits t) (ha : AT w0 t.subs sv) (hr : RV w jb (fun k => k ≠ jb /\ v.ownBlock ≠ some k) r rv)
  (own : w1.ownsRow w0.heap.size 91 6 v' (l.length + 1) (jr l svs rvs ++ jr [(t,r)] [sv] [rv])) (hg : w.grownBy w1 v.ownBlock)
  (hat : v'.ownBlock = v.ownBlock \/ v'.ownBlock = some w.heap.size) : JS w0 jb lb ob (w1.setCell ⟨jb,2,none⟩ v') (l ++ [(t,r)]) v' /\ JK jb v w (w1.setCell ⟨jb,2,none⟩ v') v' := by
 have u := h.lt
 have n : v'.ownBlock ≠ some jb := by
  rcases hat with e | e
  ·rw [e]; exact h.rne
  ·rw [e]; simp; omega
 have f : KB (fun k => v.ownBlock ≠ some k) w w1 := KB.of hg (fun k hk e => hk e.symm); have j : KB (fun k => k ≠ jb) w1 (w1.setCell ⟨jb,2,none⟩ v') := ⟨rfl,rfl,rfl,by simp [World.setCell],fun k _ hk => Below.heap_setCell _ _ _ _ (by simpa using hk)⟩
 have d : KB (fun k => k ≠ jb /\ v.ownBlock ≠ some k) w (w1.setCell ⟨jb,2,none⟩ v') :=
  ⟨j.os.trans f.os,j.tape.trans f.tape,j.output.trans f.output,Nat.le_trans f.size j.size,fun k hk hs => (j.block k (Nat.lt_of_lt_of_le hk f.size) hs.1).trans (f.block k hk hs.2)⟩
 have x : v.ownBlock ≠ some lb := by
  obtain ⟨_,_,_,_,own,_⟩ := h.row
  exact tF h.lex own
 have y : v.ownBlock ≠ some ob := by
  obtain ⟨_,_,_,_,own,_⟩ := h.row
  exact tF h.ops own
 have z : w1.cell? ⟨jb,0,none⟩ = some (.map (some lb)) := zY hg h.c0 (fun e => h.rne e.symm); have A : w1.cell? ⟨jb,1,none⟩ = some (.map (some ob)) := zY hg h.c1 (fun e => h.rne e.symm); have B : w1.cell? ⟨jb,2,none⟩ = some v := zY hg h.c2 (fun e => h.rne e.symm)
 have C : ∀ k,k < w0.heap.size -> k ≠ jb /\ v.ownBlock ≠ some k := fun k hk => ⟨by have := h.jlo; omega,fun e => by have := (h.room e).1; omega⟩
 refine ⟨⟨?_,h.jlo,?_,?_,?_,?_,?_,?_,h.lne,h.one,n,?_⟩,⟨d,?_⟩⟩
 ·exact ⟨d.os.trans h.gb.os,d.tape.trans h.gb.tape,d.output.trans h.gb.output,Nat.le_trans h.gb.size d.size,fun k hk _ => (d.block k (Nat.lt_of_lt_of_le hk h.gb.size) (C k hk)).trans (h.gb.block k hk (by simp))⟩
 ·rw [World.cell?_setCell_other _ _ _ _ (by simp)]; exact z
 ·rw [World.cell?_setCell_other _ _ _ _ (by simp)]; exact A
 ·exact World.cell?_setCell_same _ _ _ B
 ·rw [World.frozen?_setCell]; exact yY hg u h.z2 (fun e => h.rne e.symm)
 ·exact yN h.lex (d.block _ (World.ownsMap.lt h.lex) ⟨h.lne,x⟩)
 ·exact yN h.ops (d.block _ (World.ownsMap.lt h.ops) ⟨h.one,y⟩)
 ·refine ⟨svs ++ [sv],rvs ++ [rv],by simp [h1],by simp [h2],?_,?_⟩
  ·rw [jZ _ _ _ _ _ _ h1 h2,List.length_append,List.length_singleton]
   exact gu own (fun g hgb => j.block g (own.lt g hgb).2 (fun e => n (e ▸ hgb)))
  ·intro i p D E m o s
   have J : ∀ k,k < w.heap.size -> (k ≠ jb /\ v.ownBlock ≠ some k) -> (k ≠ jb /\ v'.ownBlock ≠ some k) := fun k hk hs => ⟨hs.1,fun e => by
    rcases hat with F | F
    ·exact hs.2 (F ▸ e)
    ·rw [F] at e; simp at e; omega⟩
   rcases Nat.lt_or_ge i l.length with H | H
   ·rw [List.getElem?_append_left H] at m
    rw [List.getElem?_append_left (by omega)] at o s; obtain ⟨L,M,N⟩ := hp i p D E m o s
    exact ⟨L,M,N.kept d J⟩
   ·rw [List.getElem?_append_right H] at m
    rw [List.getElem?_append_right (by omega)] at o s
    have I : i = l.length := by
     rcases Nat.lt_or_ge (i - l.length) 1 with K | K
     ·omega
     ·rw [List.getElem?_eq_none (by simpa using K)] at m; cases m
    subst I
    simp [h1,h2] at m o s
    subst m o s
    exact ⟨hf,ha,hr.kept d J⟩
 ·rcases hat with e | e
  ·exact .inl e
  ·exact .inr (fun b hb => by rw [e] at hb; cases hb; exact Nat.le_refl _)
end
theorem Tryz.infoPart : (Tryz.prog.info? 91).map (fun i => (i.zero,i.size,i.bytes)) = some (some (.agg #[.int .i64 0,.string ⟨#[]⟩,.int .i64 0,.int .i64 0,.slice none 0 0,.nilFunc]),6,72) := by kernel_rfl
theorem RV.form {w : World} {jb : Nat} {S : Nat -> Prop} {r : Rule} {v : Value} (h : RV w jb S r v) : ∃ g fa ca,v = .func (.func g) fa ca := by cases h <;> exact ⟨_,_,_,rfl⟩
theorem zay {w : World} {jb : Nat} {S : Nat -> Prop} {r : Rule} {v : Value} (h : RV w jb S r v) : v.oneCell' = true := by cases h <;> rfl
theorem zgw {w : World} {l : List T} {v : Value} (h : AT w l v) : v.oneCell' = true := by cases h <;> rfl
theorem aD {ops : Array Oper} {o : Oper} {a : Act} {w : World} {K : Act -> World -> Prop} {Q : Exit -> Act -> World -> Prop} {E : Prop} (hgd : o.guard = none) (s x : Operand)
  (ho : o.op = .call { callee := .builtin .append,args := #[s,x],argTypes := #[84,84] })
  {w0 : World} {jb lb ob : Nat} {l : List (T × Rule)} {v : Value} {g : Nat} {t : T} {r : Rule} {sv rv : Value} (hs : a.eval s = v) (hx : a.eval x = .slice (some ⟨g,0,none⟩) 1 1) (hl : JS w0 jb lb ob w l v) (hlen : l.length <= 20000)
  (hf : Fits t) (ha : AT w0 t.subs sv) (hr : RV w jb (fun k => k ≠ jb /\ v.ownBlock ≠ some k) r rv)
  (hc : ∀ (j : Nat) (u : Value),(jr [(t,r)] [sv] [rv])[j]? = some u -> w.cell? ⟨g,j,none⟩ = some u)
  (k : ∀ g' c' w1,JS w0 jb lb ob (w1.setCell ⟨jb,2,none⟩ (.slice (some ⟨g',0,none⟩) (l.length + 1) c')) (l ++ [(t,r)]) (.slice (some ⟨g',0,none⟩) (l.length + 1) c') -> JK jb v w (w1.setCell ⟨jb,2,none⟩ (.slice (some ⟨g',0,none⟩) (l.length + 1) c')) (.slice (some ⟨g',0,none⟩) (l.length + 1) c') ->
   w.grownBy w1 v.ownBlock -> w1.cell? ⟨jb,2,none⟩ = some v -> w1.frozen? ⟨jb,2,none⟩ = false -> K (a.put o.dst (.slice (some ⟨g',0,none⟩) (l.length + 1) c')) w1) :
  if Region.wanted o (yielded ops a.tmps) = true then Oper.wp Tryz.prog o a w K Q else E := by
 have D : Region.wanted o (yielded ops a.tmps) = true := by simp [Region.wanted,hgd]
 rw [if_pos D]; obtain ⟨F,i,m,n,y⟩ := info_parts Tryz.infoPart; obtain ⟨z,A,H,I,B,J⟩ := hl.row; obtain ⟨L,M,d,b,f,_,C⟩ := run_append_own_at (P := Tryz.prog) w w0.heap.size 84 o.type 91 F _ 6 72 Tryz.underlying84 i m n y rfl (by decide) v l.length (jr l z A) B ⟨g,0,none⟩ 1 1 (jr [(t,r)] [sv] [rv])
  rfl (fun j u hu => by
   have := hc j u hu
   unfold Addr.add
   split
   ·rename_i h9; subst h9; exact this
   ·simpa using this) (fun u hu => by
   simp [jr] at hu
   rcases hu with rfl | rfl | rfl | rfl | rfl | rfl
   ·rfl
   ·rfl
   ·rfl
   ·rfl
   ·exact zgw ha
   ·exact zay hr) (by unfold maxLen; omega) (by omega) hl.gb.size
 obtain ⟨g',c',rfl⟩ : ∃ g' c',L = .slice (some ⟨g',0,none⟩) (l.length + 1) c' := by
  rcases b.2 with ⟨_,h⟩ | ⟨g',c',_,h,_⟩
  ·omega
  ·exact ⟨g',c',h⟩
 unfold Oper.wp execOp
 simp only [ho,resolve,invoke,builtin,Sem.run_bind,Sem.run_pure,Result.andThen_ok,List.map_toArray,List.map_cons,List.map_nil,hs,hx,d]; obtain ⟨N,O⟩ := hl.push H I J hf ha hr b f C
 exact k g' c' M N O f (zY f hl.c2 (fun e => hl.rne e.symm)) (yY f hl.lt hl.z2 (fun e => hl.rne e.symm))
theorem cO (w : World) (ty : TypeId) (kd : Int) (x : List UInt8) (m p : Int) (ls : List T) (r : Rule) {sv rv : Value} : ∀ (j : Nat) (u : Value),(jr [(T.mk kd x m p ls,r)] [sv] [rv])[j]? = some u -> (w.alloc (.cells #[.int .i64 kd,.string ⟨x.toArray⟩,.int .i64 m,.int .i64 p,sv,rv] ty)).cell? ⟨w.heap.size,j,none⟩ = some u := by
 intro j u b; rw [World.cell?_alloc_at _ _ _ _ rfl]
 simpa [jr,T.kind,T.name,T.num,T.at'] using b
theorem kH (w0 : World) (jb lb ob : Nat) (w : World) (l : List (T × Rule)) (v : Value) (t : T) (r : Rule) (sv rv : Value) (h : JS w0 jb lb ob w l v) (hlen : l.length <= 20000) (hf : Fits t) (ha : AT w0 t.subs sv) (hr : RV w jb (fun k => k ≠ jb /\ v.ownBlock ≠ some k) r rv) :
    Calls Tryz.prog 32 #[ptr jb,yl t sv,rv] w fun e w' => ∃ v',e = .returned (.tuple #[]) /\ JS w0 jb lb ob w' (l ++ [(t,r)]) v' /\ JK jb v w w' v' := by
  obtain ⟨d,f,rfl,_,_⟩ := ha.form; obtain ⟨g,i,j,rfl⟩ := hr.form; have o := za h; have s := za hf; have u := za ha; have y := za hr; have c2 := h.c2; have z2 := h.z2; have z := h.lt; obtain ⟨n,x,m,p,b⟩ := t; clear h hf ha hr
  change Calls Tryz.prog 32 #[ptr jb,.agg #[.int .i64 n,.string ⟨x.toArray⟩,.int .i64 m,.int .i64 p,.slice d b.length f],.func (.func g) i j] w _
  go_enter Tryz.func32,Tryz.ntmps32
  go_wp2_with fail
  go_region_law (focus (
    refine aD rfl (.tmp 10) (.tmp 14) rfl (w0 := w0) (jb := jb) (lb := lb) (ob := ob) (l := l) (v := v) (t := .mk n x m p b) (r := r) (sv := .slice d b.length f) (rv := .func (.func g) i j) (by simp [Act.eval]) (by simp [Act.eval]) (o.out.grown (zj (zf (zf (zl w none) _) _))) hlen s.out u.out (y.out.kept (KB.of (row := none) (zj (zf (zf (zl w none) _) _)) (fun _ _ => by simp)) (fun _ _ h => h)) (cO _ _ _ _ _ _ _ _) ?_
    intro D E F A B C H I))
  all_goals
    go_wp2
    go_end0
    exact ⟨_,rfl,A,JK.trans (JK.grown (zj (zf (zf (zl w none) _) _))) B⟩
def zU (t : T) (most : Int) : Bool := decide (0 <= t.num /\ t.num <= most)
theorem qm (t : T) (sv : Value) (most : Int) (w : World) (ha : ∃ a n c,sv = .slice a n c) :
  Calls Tryz.prog 127 #[yl t sv,.int .i64 most] w (Sy w (.bool (zU t most))) := by
 obtain ⟨a,n,c,rfl⟩ := ha; obtain ⟨kd,x,m,p,l⟩ := t
 change Calls Tryz.prog 127 #[.agg #[.int .i64 kd,.string ⟨x.toArray⟩,.int .i64 m,.int .i64 p,.slice a n c],.int .i64 most] w _
 by_cases h1 : 0 <= m
 ·by_cases h2 : m <= most
  ·rw [show zU (.mk kd x m p l) most = true by unfold zU; exact decide_eq_true ⟨h1,h2⟩]
   go_enter Tryz.func127,Tryz.ntmps127
   go_wp2
   go_ret
   exact ⟨rfl,zf (zl w none) _⟩
  ·rw [show zU (.mk kd x m p l) most = false by unfold zU; exact decide_eq_false (fun h => h2 h.2)]
   have h2b : decide (m <= most) = false := by simpa using h2
   go_enter Tryz.func127,Tryz.ntmps127
   go_wp2
   go_ret
   exact ⟨rQ (by simp),zf (zl w none) _⟩
 ·rw [show zU (.mk kd x m p l) most = false by unfold zU; exact decide_eq_false (fun h => h1 h.1)]
  have h1b : decide (0 <= m) = false := by simpa using h1
  go_enter Tryz.func127,Tryz.ntmps127
  go_wp2
  go_ret
  exact ⟨rfl,zf (zl w none) _⟩
theorem bh {w : World} {l : List T} {v : Value} (h : AT w l v) : ∃ a n c,v = .slice a n c := by
 obtain ⟨a,c,e,_⟩ := h.form
 exact ⟨a,_,c,e⟩
theorem zL (t : T) (sv : Value) (most : Int) (w : World) (ha : ∃ a n c,sv = .slice a n c) :
  Calls Tryz.prog 129 #[yl t sv,.int .i64 most] w (Sy w (.bool (t.name.isEmpty && zU t most))) := by
 have HW := fun w => za (qm t sv most w ha)
 obtain ⟨a,n,c,rfl⟩ := ha; obtain ⟨kd,x,m,p,l⟩ := t
 change Calls Tryz.prog 129 #[.agg #[.int .i64 kd,.string ⟨x.toArray⟩,.int .i64 m,.int .i64 p,.slice a n c],.int .i64 most] w (Sy w (.bool (x.isEmpty && zU (.mk kd x m p l) most)))
 cases h : x.isEmpty
 ·go_enter Tryz.func129,Tryz.ntmps129
  go_wp2_with fail
  go_ret
  exact ⟨rfl,zf (zl w none) _⟩
 ·go_enter Tryz.func129,Tryz.ntmps129
  go_wp2_with fail; go_at_call 127; refine ((HW _).out).mono ?_; rintro e w1 ⟨rfl,hg1⟩; go_wp2_with fail
  go_ret
  exact ⟨rfl,zb (zf (zl w none) _) hg1⟩
theorem vw (jb lb : Nat) (t : T) (sv : Value) (most : Int) (w : World) (c0 : w.cell? ⟨jb,0,none⟩ = some (.map (some lb))) (hx : IsLex w lb) (hf : Fits t) (ha : ∃ a n c,sv = .slice a n c) :
    Calls Tryz.prog 71 #[ptr jb,yl t sv,.int .i64 most] w (Sy w (.bool (zF t.name && zU t most))) := by
  have HW := fun w => za (qm t sv most w ha)
  have HS := za (pN hf.name); have HX := za hx; have hlt := ze c0; obtain ⟨a,n,c,rfl⟩ := ha; obtain ⟨kd,x,m,p,l⟩ := t; clear hx hf
  change Calls Tryz.prog 71 #[ptr jb,.agg #[.int .i64 kd,.string ⟨x.toArray⟩,.int .i64 m,.int .i64 p,.slice a n c],.int .i64 most] w (Sy w (.bool (zF x && zU (.mk kd x m p l) most)))
  cases h : zF x
  · skip
    have HN : Hid (∀ w',w.grownBy w' none -> Calls Tryz.prog 126 #[.agg #[.map (some lb)],.string ⟨x.toArray⟩] w' (Sy w' (.bool false))) := fun w' hg => (qS lb ⟨x.toArray⟩ w' HS.out (yN HX.out (hg.block lb (World.ownsMap.lt HX.out) (by simp)))).mono (fun e w'' hh => ⟨hh.1.trans (rQ h),sn hh.2 none⟩)
    go_enter Tryz.func71,Tryz.ntmps71
    go_wp2_with fail
    first | go_region_with (first
      | (go_at_call 126
         refine (HN.out _ (zj (zf (zl w none) _))).mono ?_
         rintro e w1 ⟨rfl,hg1⟩)) | fail
    all_goals
      go_wp2_with fail
      go_ret
      exact ⟨rfl,zb (zj (zf (zl w none) _)) hg1⟩
  · skip
    have HN : Hid (∀ w',w.grownBy w' none -> Calls Tryz.prog 126 #[.agg #[.map (some lb)],.string ⟨x.toArray⟩] w' (Sy w' (.bool true))) := fun w' hg => (qS lb ⟨x.toArray⟩ w' HS.out (yN HX.out (hg.block lb (World.ownsMap.lt HX.out) (by simp)))).mono (fun e w'' hh => ⟨hh.1.trans (rQ h),sn hh.2 none⟩)
    go_enter Tryz.func71,Tryz.ntmps71
    go_wp2_with fail
    first | go_region_with (first
      | (go_at_call 126
         refine (HN.out _ (zj (zf (zl w none) _))).mono ?_; rintro e w1 ⟨rfl,hg1⟩; have B1 : Box w1 w.heap.size (.mk kd x m p l) (.slice a n c) := (Box.new w (.mk kd x m p l) (.slice a n c) 28).kept (zb (zj (zl _ none)) hg1); obtain ⟨_,_,_,b3,_⟩ := B1.p
         change _ = some (Value.int .i64 p) at b3)
      | (go_at_call 127
         refine ((HW _).out).mono ?_
         rintro e w2 ⟨rfl,hg2⟩)) | fail
    all_goals
      go_wp2_with fail
      go_ret
      exact ⟨rfl,zb (zb (zj (zf (zl w none) _)) hg1) hg2⟩
abbrev free (jb : Nat) (v : Value) : Nat -> Prop := fun k => k ≠ jb /\ v.ownBlock ≠ some k
section
variable {w0 : World} {jb lb ob : Nat} {w w' : World} {l : List (T × Rule)} {v v' : Value} {r : Rule} {rv : Value}
theorem JK.fr (h : JK jb v w w' v') : ∀ k,k < w.heap.size -> free jb v k -> free jb v' k := fun k hk hs => ⟨hs.1,fun e => by
 rcases h.at' with h' | h'
 ·exact hs.2 (h' ▸ e)
 ·have := h' k e; omega⟩
theorem RV.step (h : RV w jb (free jb v) r rv) (hk : JK jb v w w' v') : RV w' jb (free jb v') r rv := h.kept hk.kb hk.fr
theorem RV.grown (h : RV w jb (free jb v) r rv) (hg : w.grownBy w' none) : RV w' jb (free jb v) r rv := h.step (JK.grown hg)
theorem JK.old (_h : JK jb v w w' v') (hj : JS w0 jb lb ob w l v) {k : Nat} (hk : k < w0.heap.size) : free jb v k := ⟨by have := hj.jlo; omega,fun e => by have := (hj.room e).1; omega⟩
end
theorem qX (w0 : World) (jb lb ob : Nat) (w : World) (l : List (T × Rule)) (v : Value) (ts : List T) (sl : Value) (r : Rule) (rv : Value) (h : JS w0 jb lb ob w l v) (hlen : l.length + ts.length <= 20000) (ha : AT w0 ts sl) (hr : RV w jb (free jb v) r rv) :
  Calls Tryz.prog 130 #[ptr jb,sl,rv] w fun e w' => ∃ v',e = .returned (.bool true) /\ JS w0 jb lb ob w' (l ++ vf ts r) v' /\ JK jb v w w' v' := by
 obtain ⟨_,_,rfl,_,d⟩ := ha.form
 unfold maxLen at d
 have B := za ha; have C := za hr; have D := za h; clear h ha hr
 go_enter Tryz.func130,Tryz.ntmps130
 go_wp2_with fail
 go_loopw [11] (fun iv wr => ∃ (i : Nat) (b : Value),i <= ts.length /\ iv = .int .i64 ↑i /\ Hid (JS w0 jb lb ob wr (l ++ vf (ts.take i) r) b) /\ Hid (JK jb v w wr b)) (fun iv _ => ts.length - (intOf iv).toNat)
 case atStart => exact ⟨0,v,Nat.zero_le _,rfl,by show JS _ _ _ _ _ _ _; simpa [vf] using D.out,JK.refl _ _ _⟩
 case round =>
  obtain ⟨i,b,_,rfl,f,g⟩ := hrel
  by_cases j : i < ts.length
  ·obtain ⟨u,m⟩ : ∃ u,ts[i]? = some u := ⟨_,List.getElem?_eq_getElem j⟩
   obtain ⟨_,_,_,E,t,x,n⟩ := B.out.node i u m; cases E; obtain ⟨_,_,rfl,_,_⟩ := n.form; obtain ⟨_,_,_,_,_⟩ := t.kept f.out.gb
   have F : Hid (l ++ vf (ts.take i) r ++ [(u,r)] = l ++ vf (ts.take (i + 1)) r) := by
    show _ = _
    rw [List.take_add_one,m]
    simp [vf]
   have H := za x; have I := za n; have J := za (C.out.step g.out); clear m x n t; go_wp2_with fail; go_at_call 32; refine (kH w0 jb lb ob _ _ b u r _ rv (f.out.grown (zf (zl wr none) _)) (by simp [vf]; omega) H.out I.out (J.out.grown (zf (zl wr none) _))).mono ?_; rintro e y ⟨o,rfl,z,A⟩; have s : Hid (JS w0 jb lb ob y (l ++ vf (ts.take (i + 1)) r) o) := F.out ▸ z; have K : Hid (JK jb v w y o) := g.out.trans ((JK.grown (zf (zl wr none) _)).trans A); clear z A; go_wp2_with fail
   exact ⟨⟨i + 1,o,by omega,by go_num,s,K⟩,by simp [intOf]; omega⟩
  ·have s : Hid (JS w0 jb lb ob wr (l ++ vf ts r) b) := by
    have := f.out; rw [List.take_of_length_le (by omega)] at this
    exact this
   go_wp2_with fail
   go_ret
   exact ⟨b,rfl,s.out,g.out⟩
theorem da (w0 : World) (jb lb ob : Nat) (w : World) (l : List (T × Rule)) (v : Value) (t : T) (sv : Value) (r q : Rule) (rv qv : Value) (h : JS w0 jb lb ob w l v) (hlen : l.length + t.subs.length <= 20000) (ha : AT w0 t.subs sv) (hr : RV w jb (free jb v) r rv) (hq : RV w jb (free jb v) q qv) :
  Calls Tryz.prog 132 #[ptr jb,yl t sv,rv,qv] w fun e w' => (t.subs = [] /\ e = .returned (.bool false) /\ w.grownBy w' none) \/ (0 < t.subs.length /\ ∃ v',e = .returned (.bool true) /\ JS w0 jb lb ob w' (l ++ uC t r q) v' /\ JK jb v w w' v') := by
 have N := za hr; have O := za hq; have n := za h; obtain ⟨j,x,m,p,d⟩ := t
 match d,ha,hlen with
 | [],ha,hlen =>
  obtain ⟨a,c,rfl,hc,_⟩ := ha.zero rfl; clear ha hr hq h
  change Calls Tryz.prog 132 #[ptr jb,.agg #[.int .i64 j,.string ⟨x.toArray⟩,.int .i64 m,.int .i64 p,.slice a 0 c],rv,qv] w _
  go_enter Tryz.func132,Tryz.ntmps132
  go_wp2_with fail
  go_ret
  exact .inl ⟨rfl,rfl,zf (zl w none) _⟩
 | u :: d,ha,hlen =>
  obtain ⟨g,o,c,R,rfl,_,hc,U,V,X,F⟩ := AT.cons ha; have N0 := za U; have Y := za V; have Z := za X
  have AR : Hid (∀ c',(c = c' + 1 /\ 1 < c) -> AT w0 d (.slice (some ⟨g,o + 5,none⟩) d.length c')) := fun c' hc' => by obtain ⟨rfl,_⟩ := hc'; exact F
  have a0 : ((d.length : Int) + 1 == 0) = false := by rw [beq_eq_false_iff_ne]; omega
  clear ha hr hq h V X U
  have a1 : l.length + 1 + d.length <= 20000 := by simp [T.subs] at hlen; omega
  clear hlen
  change Calls Tryz.prog 132 #[ptr jb,.agg #[.int .i64 j,.string ⟨x.toArray⟩,.int .i64 m,.int .i64 p,.slice (some ⟨g,o,none⟩) (d.length + 1) c],rv,qv] w _
  obtain ⟨d0,_,_,_,_⟩ := N0.out.kept n.out.gb; have a2 := ze d0
  rcases Nat.lt_or_ge 1 c with H | H
  ·have I := za F
   clear F AR
   go_enter Tryz.func132,Tryz.ntmps132
   go_wp2_with fail; go_at_call 32; refine (kH w0 jb lb ob _ l v u r R rv (n.out.grown (zf (zl w none) _)) (by omega) Y.out Z.out (N.out.grown (zf (zl w none) _))).mono ?_; rintro e y ⟨z,rfl,A,b⟩; have J := za A; have B : Hid (JK jb v w y z) := (JK.grown (zf (zl w none) _)).trans b
   have K : Box y w.heap.size (.mk j x m p (u :: d)) (.slice (some ⟨g,o,none⟩) (d.length + 1) c) := by
    have f := Box.new w (.mk j x m p (u :: d)) (.slice (some ⟨g,o,none⟩) (d.length + 1) c) 28; have i : free jb v w.heap.size := ⟨by have := n.out.lt; omega,fun e => by have := (n.out.room e).2; omega⟩
    exact ⟨b.kb.cell f.c0 i,b.kb.cell f.c1 i,b.kb.cell f.c2 i,b.kb.cell f.c3 i,b.kb.cell f.c4 i⟩
   obtain ⟨b0,b1,b2,b3,b4⟩ := K; clear A b; go_wp2_with fail; go_at_call 130; refine (qX w0 jb lb ob _ _ z d _ q qv J.out (by simp; omega) I.out (O.out.step B.out)).mono ?_; rintro e C ⟨s,rfl,D,E⟩
   have L : Hid (JS w0 jb lb ob C (l ++ uC (.mk j x m p (u :: d)) r q) s) := by
    have := D; rw [List.append_assoc] at this
    exact this
   have M : Hid (JK jb v w C s) := B.out.trans E; clear D E; go_wp2_with fail
   go_ret
   exact .inr ⟨by simp [T.subs],s,rfl,L.out,M.out⟩
  ·obtain rfl : c = 1 := by omega
   obtain rfl : d = [] := List.eq_nil_of_length_eq_zero (by omega); have I : Hid (AT w0 [] (.slice (some ⟨g,o,none⟩) 0 0)) := AT.nil _ _ (Nat.zero_le _); clear F AR
   go_enter Tryz.func132,Tryz.ntmps132
   go_wp2_with fail; go_at_call 32; refine (kH w0 jb lb ob _ l v u r R rv (n.out.grown (zf (zl w none) _)) (by omega) Y.out Z.out (N.out.grown (zf (zl w none) _))).mono ?_; rintro e y ⟨z,rfl,A,b⟩; have J := za A; have B : Hid (JK jb v w y z) := (JK.grown (zf (zl w none) _)).trans b
   have K : Box y w.heap.size (.mk j x m p (u :: [])) (.slice (some ⟨g,o,none⟩) 1 1) := by
    have f := Box.new w (.mk j x m p (u :: [])) (.slice (some ⟨g,o,none⟩) 1 1) 28; have i : free jb v w.heap.size := ⟨by have := n.out.lt; omega,fun e => by have := (n.out.room e).2; omega⟩
    exact ⟨b.kb.cell f.c0 i,b.kb.cell f.c1 i,b.kb.cell f.c2 i,b.kb.cell f.c3 i,b.kb.cell f.c4 i⟩
   obtain ⟨b0,b1,b2,b3,b4⟩ := K; clear A b; go_wp2_with fail; go_at_call 130; refine (qX w0 jb lb ob _ _ z [] _ q qv J.out (by simp; omega) I.out (O.out.step B.out)).mono ?_; rintro e C ⟨s,rfl,D,E⟩
   have L : Hid (JS w0 jb lb ob C (l ++ uC (.mk j x m p (u :: [])) r q) s) := by
    have := D; rw [List.append_assoc] at this
    exact this
   have M : Hid (JK jb v w C s) := B.out.trans E; clear D E; go_wp2_with fail
   go_ret
   exact .inr ⟨by simp [T.subs],s,rfl,L.out,M.out⟩
def bc (v : Value) : Option (DataW Unit × List MemPlace) := match v with
 | .agg a => match a.toList with
  | [.string s] => some (.lit (.string s.data.toList),[])
  | _ => none
 | _ => none
theorem aY {v : Value} {s : List UInt8} {ps : List MemPlace} (h : bc v = some (.lit (.string s),ps)) : v = .agg #[.string ⟨s.toArray⟩] := by
 unfold bc at h
 split at h
 ·split at h
  ·rename_i a _ s' e
   simp at h
   obtain ⟨rfl,-⟩ := h
   have : a = #[Value.string s'] := by rw [<- Array.toList_inj,e]
   subst this
   simp
  ·cases h
 ·cases h
def zjn : List (Int × List UInt8) := [(30,[84,82,85,69]),(31,[70,65,76,83,69]),(32,[78,73,76]),(20,[78,69,87]),(21,[79,85,84]),(22,[71,69,84]),(23,[65,83,83,69,82,84])]
def zbo : DataW Unit := zjn.foldl (fun m p => m.put (.int .i64 p.1) (.lit (.string p.2))) (.map [])
def IsWds (w : World) (b : Nat) : Prop := w.ownsMap Tryz.prog 3 bc b 7 zbo
abbrev WT : TypeId := 69
abbrev U8 : TypeId := 5
def gY (w : World) (wb : Nat) : Option Nat := (w.cell? ⟨wb,1,none⟩).bind Value.ownBlock
structure Wr (w0 : World) (wb : Nat) (w : World) (S : List UInt8) (L : Nat) : Prop where
 gb : w0.grownBy w none
 lo : w0.heap.size <= wb
 st : ∃ p v ob db,(p = .pointer none \/ p = ptr wb) /\ w.heap[wb]? = some (.cells #[p,v,.int .i64 L,.map (some ob),.map (some db)] WT (0,0)) /\ w.ownsRow w0.heap.size U8 1 v S.length (Lib.byteCells S) /\ v.ownBlock ≠ some wb /\ IsOps w ob /\ IsWds w db /\ ob ≠ wb /\ db ≠ wb
structure Fr (wb : Nat) (w : World) (b : Nat) : Prop where
 lt : b < w.heap.size
 ne : b ≠ wb
 row : gY w wb ≠ some b
structure WK (wb : Nat) (w w' : World) : Prop where
 kb : KB (fun k => k ≠ wb /\ gY w wb ≠ some k) w w'
 at' : gY w' wb = gY w wb \/ ∀ b,gY w' wb = some b -> w.heap.size <= b
def WP (w0 : World) (wb : Nat) (w : World) (S : List UInt8) (L : Nat) (X : List UInt8) : Ending -> World -> Prop := fun e w' => e = .returned (.tuple #[]) /\ Wr w0 wb w' (S ++ X) L /\ WK wb w w'
section
variable {w0 : World} {wb : Nat} {w w' w1 w2 : World} {S X Y : List UInt8} {L b : Nat}
theorem Wr.lt (h : Wr w0 wb w S L) : wb < w.heap.size := by
 obtain ⟨_,_,_,_,_,d,_⟩ := h.st
 exact (Array.getElem?_eq_some_iff.1 d).1
theorem zdb {p v a c d : Value} {fr : Nat × Nat} (hb : w.heap[wb]? = some (.cells #[p,v,a,c,d] WT fr)) : gY w wb = v.ownBlock := by
 unfold gY
 rw [Lib.cell_of_heap hb]
 rfl
theorem Wr.row (h : Wr w0 wb w S L) {k : Nat} (hk : gY w wb = some k) : w0.heap.size <= k /\ k < w.heap.size := by
 obtain ⟨_,_,_,_,_,e,d,_⟩ := h.st; rw [zdb e] at hk
 exact d.lt k hk
theorem WK.refl (wb : Nat) (w : World) : WK wb w w := ⟨KB.refl _ _,.inl rfl⟩
theorem WK.trans (h1 : WK wb w w1) (h2 : WK wb w1 w2) : WK wb w w2 := by
 refine ⟨h1.kb.trans h2.kb (fun k hk hs => ⟨hs.1,fun e => ?_⟩),?_⟩
 ·rcases h1.at' with h | h
  ·exact hs.2 (h ▸ e)
  ·have := h k e
   omega
 ·rcases h2.at' with h | h
  ·rcases h1.at' with d | d
   ·exact .inl (h.trans d)
   ·exact .inr (fun b hb => d b (h ▸ hb))
  ·exact .inr (fun b hb => Nat.le_trans h1.kb.size (h b hb))
theorem pK (hlt : wb < w.heap.size) (hg : w.grownBy w' none) : gY w' wb = gY w wb := by
 unfold gY
 have d := hg.block wb hlt (by simp)
 unfold World.cell?
 rw [d]
theorem WK.grown (h : Wr w0 wb w S L) (hg : w.grownBy w' none) : WK wb w w' := ⟨KB.of hg (fun _ _ => by simp),.inl (pK h.lt hg)⟩
theorem Wr.grown (h : Wr w0 wb w S L) (hg : w.grownBy w' none) : Wr w0 wb w' S L := by
 refine ⟨zb h.gb hg,h.lo,?_⟩; obtain ⟨p,v,j,l,m,n,d,e,f,i,o,r⟩ := h.st
 exact ⟨p,v,j,l,m,(hg.block wb h.lt (by simp)).trans n,gu d (fun g hgb => hg.block g (d.lt g hgb).2 (by simp)),e,yN f (hg.block _ (World.ownsMap.lt f) (by simp)),yN i (hg.block _ (World.ownsMap.lt i) (by simp)),o,r⟩
theorem Fr.step (h : Fr wb w b) (hk : WK wb w w') : Fr wb w' b := ⟨Nat.lt_of_lt_of_le h.lt hk.kb.size,h.ne,fun e => by
 rcases hk.at' with h' | h'
 ·exact h.row (h' ▸ e)
 ·have := h' b e
  have := h.lt
  omega⟩
theorem Fr.new (h : Wr w0 wb w S L) (hg : w.grownBy w' none) (hb : w.heap.size <= b) (hlt : b < w'.heap.size) : Fr wb w' b := ⟨hlt,by have := h.lt; omega,fun e => by
 rw [pK h.lt hg] at e; have := (h.row e).2
 omega⟩
theorem Fr.old (h : Wr w0 wb w S L) (hb : b < w0.heap.size) : Fr wb w b := ⟨Nat.lt_of_lt_of_le hb h.gb.size,by have := h.lo; omega,fun e => by have := (h.row e).1; omega⟩
theorem WK.cell (h : WK wb w w') {o : Nat} {v : Value} (hf : Fr wb w b) (hc : w.cell? ⟨b,o,none⟩ = some v) : w'.cell? ⟨b,o,none⟩ = some v := h.kb.cell hc ⟨hf.ne,hf.row⟩
structure FB (wb : Nat) (w : World) (b : Nat) (t : T) (sv : Value) : Prop where
 fr : Fr wb w b
 box : Box w b t sv
theorem FB.step {t : T} {sv : Value} (h : FB wb w b t sv) (hk : WK wb w w') : FB wb w' b t sv :=
 ⟨h.fr.step hk,hk.cell h.fr h.box.c0,hk.cell h.fr h.box.c1,hk.cell h.fr h.box.c2,hk.cell h.fr h.box.c3,hk.cell h.fr h.box.c4⟩
theorem FB.new (h : Wr w0 wb w S L) (t : T) (sv : Value) (ty : TypeId) (hg : w.grownBy w1 none) : FB wb (w1.alloc (.cells #[.int .i64 t.kind,.string ⟨t.name.toArray⟩,.int .i64 t.num,.int .i64 t.at',sv] ty)) w1.heap.size t sv :=
 ⟨Fr.new h (zf hg _) hg.size (by simp),Box.new w1 t sv ty⟩
theorem FB.newX (h : Wr w0 wb w S L) (kd : Int) (x : List UInt8) (m p : Int) (ts : List T) (sv : Value) (ty : TypeId) (hg : w.grownBy w1 none) : FB wb (w1.alloc (.cells #[.int .i64 kd,.string ⟨x.toArray⟩,.int .i64 m,.int .i64 p,sv] ty)) w1.heap.size (.mk kd x m p ts) sv := FB.new h (.mk kd x m p ts) sv ty hg
theorem FB.grown {t : T} {sv : Value} (h : FB wb w b t sv) (hW : Wr w0 wb w S L) (hg : w.grownBy w' none) : FB wb w' b t sv := h.step (WK.grown hW hg)
end
def AtW (L : List Tok) (i : Nat) (ws : List (List UInt8)) : Prop := ∀ (k : Nat) (w : List UInt8),ws[k]? = some w -> wd L (i + k) = w
theorem AtW.nil (L : List Tok) (i : Nat) : AtW L i [] := fun k w h => by simp at h
theorem AtW.cons {L : List Tok} {i : Nat} {w : List UInt8} {ws : List (List UInt8)} : AtW L i (w :: ws) ↔ wd L i = w /\ AtW L (i + 1) ws := by
 constructor
 ·intro h
  refine ⟨h 0 w rfl,fun k v b => ?_⟩; have := h (k + 1) v (by simpa using b); rw [show i + 1 + k = i + (k + 1) by omega]
  exact this
 ·rintro ⟨d,e⟩ k v b
  cases k with
  | zero => simp at b; subst b; exact d
  | succ k =>
   have := e k v (by simpa using b); rw [show i + (k + 1) = i + 1 + k by omega]
   exact this
theorem AtW.append {L : List Tok} {a b : List (List UInt8)} : ∀ {i : Nat},AtW L i (a ++ b) ↔ AtW L i a /\ AtW L (i + a.length) b := by
 induction a with
 | nil => intro i; simp [AtW.nil]
 | cons w a ih =>
  intro i; rw [List.cons_append,AtW.cons,AtW.cons,ih,List.length_cons,show i + 1 + a.length = i + (a.length + 1) by omega,and_assoc]
mutual
inductive Same : T -> T -> Prop
 | mk {k : Int} {x : List UInt8} {n p q : Int} {l m : List T} (h : SameL l m) : Same (.mk k x n p l) (.mk k x n q m)
inductive SameL : List T -> List T -> Prop
 | nil : SameL [] []
 | cons {t u : T} {l m : List T} (h : Same t u) (hl : SameL l m) : SameL (t :: l) (u :: m)
end
theorem Same.leaf {k : Int} {x : List UInt8} {n p q : Int} : Same (.mk k x n p []) (.mk k x n q []) := .mk .nil
theorem Same.one {k : Int} {x : List UInt8} {n p q : Int} {a b : T} (h : Same a b) : Same (.mk k x n p [a]) (.mk k x n q [b]) := .mk (.cons h .nil)
theorem Same.two {k : Int} {x : List UInt8} {n p q : Int} {a b c d : T} (h : Same a b) (h2 : Same c d) : Same (.mk k x n p [a,c]) (.mk k x n q [b,d]) := .mk (.cons h (.cons h2 .nil))
/-! ### The words of an expression -/
def xX (t : T) : List (List UInt8) := match t.subs with
 | [m] => [m.name,vG,t.name]
 | _ => [t.name]
def xi (sep : List UInt8) : List (List (List UInt8)) -> List (List UInt8)
 | [] => []
 | [x] => x
 | x :: l => x ++ (sep :: xi sep l)
def zh : Nat -> T -> List (List UInt8)
 | 0,_ => []
 | f + 1,t =>
  let at9 := fun (u : T) (r : Int) => if yH u < r then yw :: (zh f u ++ [xd]) else zh f u
  let s0 := yo t 0
  let s1 := yo t 1
  if t.kind = 24 then [t.name] else
  if t.kind = 25 then zh f s0 ++ [vG,t.name] else
  if t.kind = 26 then zh f s0 ++ (pn :: (zh f s1 ++ [mw])) else
  if t.kind = 27 then zh f s0 ++ [gR] else
  if t.kind = 28 then zh f s0 ++ (np :: (xX s1 ++ [cP])) else
  if t.kind = 29 then [vy t.num] else
  if t.kind = 30 then [gk] else
  if t.kind = 31 then [kj] else
  if t.kind = 32 then [rB] else
  if t.kind = 33 then zh f s0 ++ (yw :: (xi yq ((t.subs.drop 1).map (zh f)) ++ [xd])) else
  if t.kind = 34 then uq :: at9 s0 3 else
  if t.kind = 35 then vd :: at9 s0 2 else
  if t.kind = 37 then at9 s0 1 ++ (kIS :: xX s1) else
  at9 s0 (if zv t.name = 2 then 2 else 1) ++ (t.name :: at9 s1 (if zv t.name = 1 then 2 else if zv t.name = 2 then 3 else 1))
def yJ (f : Nat) (u : T) (r : Int) : List (List UInt8) := if yH u < r then yw :: (zh f u ++ [xd]) else zh f u
/-! ### What can be read -/
inductive TyN : T -> Prop
 | own {x : List UInt8} {p : Int} (hx : zF x = true) : TyN (.mk 13 x 0 p [])
 | of {x y : List UInt8} {p q : Int} (hx : zF x = true) (hy : zF y = true) : TyN (.mk 13 x 0 p [.mk 24 y 0 q []])
inductive G where
 | exp | sum (k : Nat) | pro (k : Nat) | fac | facp | des (k : Nat)
inductive Rn : G -> Nat -> T -> Prop
 | name {n : Nat} {x : List UInt8} {p : Int} (hx : zF x = true) : Rn (.des 0) n (.mk 24 x 0 p [])
 | field {n k : Nat} {x : List UInt8} {p : Int} {d : T} (h : Rn (.des k) n d) (hx : zF x = true) : Rn (.des (k + 1)) n (.mk 25 x 0 p [d])
 | index {n k : Nat} {p : Int} {d e : T} (h : Rn (.des k) n d) (he : Rn .exp n e) : Rn (.des (k + 1)) n (.mk 26 [] 0 p [d,e])
 | point {n k : Nat} {p : Int} {d : T} (h : Rn (.des k) n d) : Rn (.des (k + 1)) n (.mk 27 [] 0 p [d])
 | guard {n k : Nat} {p : Int} {d y : T} (h : Rn (.des k) n d) (hy : TyN y) : Rn (.des (k + 1)) n (.mk 28 [] 0 p [d,y])
 | num {n : Nat} {m p : Int} (h0 : 0 <= m) (h1 : m <= 2147483647) : Rn .fac n (.mk 29 [] m p [])
 | word {n : Nat} {k p : Int} (h : k = 30 \/ k = 31 \/ k = 32) : Rn .fac n (.mk k [] 0 p [])
 | desig {n k : Nat} {t : T} (h : Rn (.des k) n t) (hk : k <= 20) : Rn .fac n t
 | call {n k : Nat} {p : Int} {d : T} {l : List T} (h : Rn (.des k) n d) (hk : k <= 20) (hl : ∀ e ∈ l,Rn .exp n e) : Rn .fac n (.mk 33 [] 0 p (d :: l))
 | not {n : Nat} {p : Int} {a : T} (h : Rn .facp n a) : Rn .fac (n + 1) (.mk 34 [] 0 p [a])
 | fpFac {n : Nat} {t : T} (h : Rn .fac n t) (hr : 3 <= yH t) : Rn .facp n t
 | fpPar {n : Nat} {t : T} (h : Rn .exp n t) (hr : yH t < 3) : Rn .facp n t
 | proFac {n : Nat} {t : T} (h : Rn .fac n t) (hr : 3 <= yH t) : Rn (.pro 0) n t
 | proPar {n : Nat} {t : T} (h : Rn .exp n t) (hr : yH t < 2) : Rn (.pro 0) n t
 | mul {n k : Nat} {x : List UInt8} {p : Int} {a b : T} (hx : zv x = 2) (ha : Rn (.pro k) n a) (hb : Rn .facp n b) : Rn (.pro (k + 1)) n (.mk 36 x 0 p [a,b])
 | sumPro {n k : Nat} {t : T} (h : Rn (.pro k) n t) (hk : k <= 20) (hr : 2 <= yH t) : Rn (.sum 0) n t
 | sumNeg {n k : Nat} {p : Int} {a : T} (h : Rn (.pro k) n a) (hk : k <= 20) : Rn (.sum 0) n (.mk 35 [] 0 p [a])
 | sumPar {n : Nat} {t : T} (h : Rn .exp n t) (hr : yH t < 1) : Rn (.sum 0) n t
 | add {n k j : Nat} {x : List UInt8} {p : Int} {a b : T} (hx : zv x = 1) (ha : Rn (.sum k) n a) (hb : Rn (.pro j) n b) (hj : j <= 20) : Rn (.sum (k + 1)) n (.mk 36 x 0 p [a,b])
 | plain {n k : Nat} {t : T} (h : Rn (.sum k) n t) (hk : k <= 20) (hr : 1 <= yH t) : Rn .exp (n + 1) t
 | rel {n k j : Nat} {x : List UInt8} {p : Int} {a b : T} (hx : zv x = 0) (ha : Rn (.sum k) n a) (hk : k <= 20) (hb : Rn (.sum j) n b) (hj : j <= 20) : Rn .exp (n + 1) (.mk 36 x 0 p [a,b])
 | is {n k : Nat} {p : Int} {a y : T} (ha : Rn (.sum k) n a) (hk : k <= 20) (hy : TyN y) : Rn .exp (n + 1) (.mk 37 [] 0 p [a,y])
def Stop3 (w : List UInt8) : Prop := yb w = false /\ w ≠ yw
def Stop2 (w : List UInt8) : Prop := Stop3 w /\ xp w = false
def Stop1 (w : List UInt8) : Prop := Stop2 w /\ kZ w = false
def Stop0 (w : List UInt8) : Prop := Stop1 w /\ xE w = false /\ w ≠ kIS
abbrev kP (L : List Tok) (n : Nat) : P T := zV L (yy L n) (xf L n)
abbrev jX (L : List Tok) (n : Nat) : P T := ur L (yy L n) (xf L n)
abbrev kM (L : List Tok) (n : Nat) : P T := cr L (yy L n) (xf L n)
def Reads : G -> Nat -> T -> Prop
 | .exp,n,t => ∀ f L i j,zA t <= f -> AtW L i (zh f t) -> j = i + (zh f t).length -> Stop0 (wd L j) -> ∃ u,yy L n i = .ok (u,j) /\ Same t u
 | .fac,n,t => ∀ f L i j,zA t <= f -> AtW L i (zh f t) -> j = i + (zh f t).length -> Stop3 (wd L j) -> ∃ u,kP L n i = .ok (u,j) /\ Same t u /\ wd L i ≠ vd
 | .facp,n,t => ∀ f L i j,zA t <= f -> AtW L i (yJ f t 3) -> j = i + (yJ f t 3).length -> Stop3 (wd L j) -> ∃ u,kP L n i = .ok (u,j) /\ Same t u /\ wd L i ≠ vd
 | .pro k,n,t => ∀ f L i j,zA t <= f -> k <= 20 -> AtW L i (yJ f t 2) -> j = i + (yJ f t 2).length -> Stop3 (wd L j) -> ∃ u,jX L n i = yO L xp (kP L n) (20 - k) u j /\ Same t u /\ wd L i ≠ vd
 | .sum k,n,t => ∀ f L i j,zA t <= f -> k <= 20 -> AtW L i (yJ f t 1) -> j = i + (yJ f t 1).length -> Stop2 (wd L j) -> ∃ u,kM L n i = yO L kZ (jX L n) (20 - k) u j /\ Same t u
 | .des k,n,t => ∀ f L i j,zA t <= f -> k <= 20 -> AtW L i (zh f t) -> j = i + (zh f t).length -> ∃ u,zQ L (yy L n) i = zt L (yy L n) (20 - k) u j /\ Same t u /\ zF (wd L i) = true
theorem vk {k : Int} {x : List UInt8} {n p : Int} {a : T} {f : Nat} (h : zA (.mk k x n p [a]) <= f) : ∃ g,f = g + 1 /\ zA a <= g := by
 rw [zA] at h; simp only [yM] at h
 exact ⟨f - 1,by omega,by omega⟩
theorem xt {k : Int} {x : List UInt8} {n p : Int} {a b : T} {f : Nat} (h : zA (.mk k x n p [a,b]) <= f) : ∃ g,f = g + 1 /\ zA a <= g /\ zA b <= g := by
 rw [zA] at h; simp only [yM] at h
 exact ⟨f - 1,by omega,by omega,by omega⟩
theorem xZ {k : Int} {x : List UInt8} {n p : Int} {l : List T} {f : Nat} (h : zA (.mk k x n p l) <= f) : ∃ g,f = g + 1 /\ yM l <= g := by
 rw [zA] at h
 exact ⟨f - 1,by omega,by omega⟩
theorem gF {L : List Tok} {E : P T} {m : Nat} {u v : T} {j j' : Nat} (h : yb (wd L j) = true) (hp : xH L E u j = .ok (v,j')) : zt L E (m + 1) u j = zt L E m v j' := by
 rw [zt]
 show (if yb (wd L j) = true then _ else _) = _
 rw [if_pos h,P.bind_ok hp]
theorem df {L : List Tok} {E : P T} {m : Nat} {u : T} {j : Nat} (h : yb (wd L j) = false) : zt L E m u j = .ok (u,j) := by
 cases m with
 | zero =>
  rw [zt]
  show (if yb (wd L j) = true then _ else _) = _
  rw [if_neg (by simp [h])]
 | succ m =>
  rw [zt]
  show (if yb (wd L j) = true then _ else _) = _
  rw [if_neg (by simp [h])]
theorem ux {L : List Tok} {J : List UInt8 -> Bool} {part : P T} {m : Nat} {u : T} {j : Nat} (h : J (wd L j) = false) : yO L J part m u j = .ok (u,j) := by
 cases m with
 | zero =>
  rw [yO]
  show (if J (wd L j) = true then _ else _) = _
  rw [if_neg (by simp [h])]
 | succ m =>
  rw [yO]
  show (if J (wd L j) = true then _ else _) = _
  rw [if_neg (by simp [h])]
theorem rj {L : List Tok} {J : List UInt8 -> Bool} {part : P T} {m : Nat} {u v : T} {j j' : Nat} (h : J (wd L j) = true) (hp : part (j + 1) = .ok (v,j')) : yO L J part (m + 1) u j = yO L J part m (opT (wd L j) u v) j' := by
 rw [yO]
 show (if J (wd L j) = true then _ else _) = _
 rw [if_pos h,P.bind_ok hp]
theorem sY {x : List UInt8} (h : zF x = true) : x ≠ gk /\ x ≠ kj /\ x ≠ rB /\ x ≠ uq /\ x ≠ yw /\ x ≠ vd /\ x ≠ [] := by
 refine ⟨?_,?_,?_,?_,?_,?_,?_⟩ <;> (intro e; subst e; revert h; decide)
theorem ya {L : List Tok} {w : List UInt8} {i : Nat} (h : wd L i = w) : zx L w i = .ok ((),i + 1) := by rw [zx,if_pos h]
theorem vV {L : List Tok} {w : List UInt8} {i : Nat} (h : wd L i = w) : yP L w i = .ok (true,i + 1) := by rw [yP,if_pos h]
theorem uv {L : List Tok} {w : List UInt8} {i : Nat} (h : wd L i ≠ w) : yP L w i = .ok (false,i) := by rw [yP,if_neg h]
theorem gK {L : List Tok} {i : Nat} (h : zF (wd L i) = true) : uo L i = .ok (wd L i,i + 1) := by rw [uo,if_pos h]
theorem kq {L : List Tok} {kind : Int} {i : Nat} (h : zF (wd L i) = true) : vj L kind i = .ok (.mk kind (wd L i) 0 (pos L i) [],i + 1) := by
 show P.bind (uo L) _ i = _
 rw [P.bind_ok (gK h)]
 rfl
theorem si {L : List Tok} {y : T} (hy : TyN y) {i j : Nat} (hw : AtW L i (xX y)) (hj : j = i + (xX y).length) (hs : wd L j ≠ vG) : ∃ u,yu L i = .ok (u,j) /\ Same y u := by
 cases hy with
 | @own x p hx =>
  have e : xX (.mk 13 x 0 p []) = [x] := rfl
  rw [e] at hw hj; obtain ⟨b,-⟩ := AtW.cons.1 hw; simp only [List.length_singleton] at hj; subst hj; refine ⟨.mk 13 x 0 (pos L i) [],?_,.leaf⟩
  unfold yu
  rw [P.bind_ok (kq (by rw [b]; exact hx)),P.bind_ok (uv hs),b]
  rfl
 | @of x z p q hx hz =>
  have e : xX (.mk 13 x 0 p [.mk 24 z 0 q []]) = [z,vG,x] := rfl
  rw [e] at hw hj; obtain ⟨b,hw⟩ := AtW.cons.1 hw; obtain ⟨f,hw⟩ := AtW.cons.1 hw; obtain ⟨d,-⟩ := AtW.cons.1 hw; simp only [List.length_cons,List.length_nil] at hj; subst hj; refine ⟨.mk 13 x 0 (pos L i) [.mk 24 z 0 (pos L i) []],?_,.one .leaf⟩
  unfold yu
  rw [P.bind_ok (kq (by rw [b]; exact hz)),P.bind_ok (vV f),if_pos rfl,P.bind_ok (gK (by rw [d]; exact hx)),d,b]
  rfl
theorem oR : ∀ (ts : List T) (rs : List Rule),ts.length = rs.length -> (yn ts rs).map (·.1) = ts
 | [],[],_ => rfl
 | [],_ :: _,h => by simp at h
 | _ :: _,[],h => by simp at h
 | t :: ts,r :: rs,h => by simp only [yn,List.map_cons,oR ts rs (by simpa using h)]
theorem fW (ts : List T) (r : Rule) : (vf ts r).map (·.1) = ts := by unfold vf; rw [List.map_map]; exact List.map_id _
theorem mC : ∀ ts : List T,(xY ts).map (·.1) = ts
 | [] => rfl
 | [_] => rfl
 | _ :: _ :: ts => by simp only [xY,List.map_cons,mC ts]
theorem dK {t : T} {r q : Rule} : (uC t r q).map (·.1) = t.subs := by
 unfold uC
 cases h : t.subs with
 | nil => rfl
 | cons u ts => simp only [List.map_cons,fW]
theorem uh {c : Bool} {l m : List (T × Rule)} (h : zq c l = some m) : c = true /\ m = l := by
 unfold zq at h
 split at h
 ·rename_i hc; cases h; exact ⟨hc,rfl⟩
 ·cases h
theorem oc {t : T} {k most : Int} {named : Bool} {n : Nat} (h : zD t k named most n = true) : t.subs.length = n := by
 unfold zD at h
 simp at h
 omega
theorem xW {t : T} {k most : Int} {named : Bool} {n : Nat} {rs : List Rule} {m : List (T × Rule)} (hn : n = rs.length) (h : zq (zD t k named most n) (yn t.subs rs) = some m) : m.map (·.1) = t.subs := by
 obtain ⟨b,rfl⟩ := uh h
 exact oR _ _ ((oc b).trans hn)
theorem qg {t : T} {k most : Int} {named : Bool} {m : List (T × Rule)} (h : zq (zD t k named most 0) [] = some m) : m.map (·.1) = t.subs := by
 obtain ⟨b,rfl⟩ := uh h; have := oc (n := 0) b; rw [List.eq_nil_of_length_eq_zero this]
 rfl
theorem pM {t : T} {m : List (T × Rule)} (h : yX t = some m) : m.map (·.1) = t.subs := by
 unfold yX at h
 repeat' split at h
 ·exact qg h
 ·exact xW (n := 1) rfl h
 ·exact xW (n := 2) rfl h
 ·exact xW (n := 1) rfl h
 ·exact xW (n := 2) rfl h
 ·cases h
theorem zcy {t : T} {m : List (T × Rule)} (h : yQ t = some m) : m.map (·.1) = t.subs := by
 unfold yQ at h
 repeat' split at h
 ·exact qg h
 ·exact qg h
 ·obtain ⟨_,rfl⟩ := uh h; exact dK
 ·exact xW (n := 1) rfl h
 ·exact xW (n := 2) rfl h
 ·obtain ⟨b,rfl⟩ := uh h
  simp at b
  exact oR _ _ b.2
 ·exact pM h
theorem zed {t : T} {m : List (T × Rule)} (h : gL t = some m) : m.map (·.1) = t.subs := by
 unfold gL at h
 repeat' split at h
 ·obtain ⟨_,rfl⟩ := uh h; exact mC _
 ·exact xW (n := 2) rfl h
 ·obtain ⟨_,rfl⟩ := uh h; exact dK
 ·exact xW (n := 2) rfl h
 ·exact xW (n := 2) rfl h
 ·obtain ⟨_,rfl⟩ := uh h; exact fW _ _
 ·exact xW (n := 1) rfl h
 ·exact xW (n := 1) rfl h
 ·cases h
theorem fV {t : T} {m : List (T × Rule)} (h : jd t = some m) : m.map (·.1) = t.subs := by
 obtain ⟨_,rfl⟩ := uh h; exact fW _ _
theorem mK {r : Rule} {t : T} {m : List (T × Rule)} (h : zw r t = some m) : m.map (·.1) = t.subs := by
 cases r with
 | module => exact xW (n := 6) rfl h
 | imported => exact qg h
 | procedure => exact xW (n := 4) rfl h
 | typeItself =>
  simp only [zw] at h
  repeat' split at h
  ·exact xW (n := 1) rfl h
  ·exact xW (n := 1) rfl h
  ·obtain ⟨_,rfl⟩ := uh h; exact dK
  ·cases h
 | typeName => exact fV h
 | typeNameOrNone =>
  simp only [zw] at h
  split at h
  ·exact qg h
  ·exact fV h
 | ref => exact qg h
 | act => exact zed h
 | expression => exact zcy h
 | designator => exact pM h
 | list r => obtain ⟨_,rfl⟩ := uh h; exact fW _ _
 | declared k m' r => exact xW (n := 1) rfl h
theorem jQ (l m : List (T × Rule)) : xV (l ++ m) = xV l + xV m := by unfold xV; rw [List.map_append,vB]
theorem dL (t : T) : zr t = 1 + zu t.subs := by obtain ⟨_,_,_,_,_⟩ := t; rw [zr]; rfl
theorem cS {r : Rule} {t : T} {l m : List (T × Rule)} (h : zw r t = some m) : xV (l ++ [(t,r)]) = xV (l ++ m) + 1 := by
 rw [jQ,jQ]
 have b : xV [(t,r)] = zr t := by unfold xV; simp [zu]
 have d : xV m = zu t.subs := by unfold xV; rw [mK h]
 rw [b,d,dL]
 omega
theorem de : ∀ l : List T,l.length <= zu l
 | [] => by simp
 | t :: l => by have := de l; rw [zu,dL]; simp; omega
theorem rM (l : List (T × Rule)) : l.length <= xV l := by have := de (l.map (·.1)); unfold xV; simpa using this
theorem aW (t : T) : t.subs.length + 1 <= zr t := by have := de t.subs; rw [dL]; omega
abbrev QS := Nat × Option (Int × Int)
abbrev Q (α : Type) := QS -> α × QS
def Q.bind {α β : Type} (q : Q α) (k : α -> Q β) : Q β := fun s => k (q s).1 (q s).2
def Q.ret {α : Type} (a : α) : Q α := fun s => (a,s)
section
variable (L : List Tok)
end
theorem i7 {n : Nat} {l : List (List UInt8 × List UInt8)} {i : Nat} (h : i < l.length) : (qN n l)[i * 2]? = some (.string ⟨(l[i]).1.toArray⟩) /\ (qN n l)[i * 2 + 1]? = some (.int .i64 ((n - (l[i]).2.length : Nat) : Int)) := by
 induction l generalizing i with
 | nil => simp at h
 | cons a l ih =>
  have e : qN n (a :: l) = .string ⟨a.1.toArray⟩ :: .int .i64 ((n - a.2.length : Nat) : Int) :: qN n l := rfl
  cases i with
  | zero => rw [e]; simp
  | succ i =>
   have := ih (i := i) (by simpa using h); rw [e,show (i + 1) * 2 = i * 2 + 1 + 1 from by omega]
   simpa using this
theorem aE {w : World} {base : Nat} {e : TypeId} {size : Nat} {v : Value} {n : Nat} {xs : List Value} (h : w.ownsRow base e size v n xs) (hn : n ≠ 0) : ∃ g cap,v = .slice (some ⟨g,0,none⟩) n cap := by
 rcases h.2 with ⟨_,b⟩ | ⟨g,cap,d,f,_⟩
 ·exact absurd b hn
 ·exact ⟨g,cap,f⟩
theorem qY : ∀ (n : Nat) (r : List UInt8) (l : List (List UInt8 × List UInt8)),r.length < n -> jv n r = .ok l -> l.length ≠ 0 /\ l.length <= r.length + 1
 | 0,r,l,hn,h => by omega
 | n + 1,r,l,hn,h => by
  rw [kB] at h; cases hk : skp r with
  | error f => rw [hk] at h; cases h
  | ok r1 =>
   rw [hk] at h; obtain ⟨_,hp⟩ := qq hk; have hlen := congrArg List.length hp; simp only [List.length_append] at hlen; cases r1 with
   | nil => cases h; simp
   | cons c r1 =>
    simp only [pt] at h; cases hw : ve (c :: r1) with
    | error e => rw [hw] at h; cases h
    | ok w =>
     rw [hw] at h; simp only at h; obtain ⟨_,_⟩ := kw hw; have hwl := gU hw; have hdl : ((c :: r1).drop w.length).length = (c :: r1).length - w.length := List.length_drop; cases ht : jv n ((c :: r1).drop w.length) with
     | error x => rw [ht] at h; cases h
     | ok l1 =>
      rw [ht] at h; cases h; have := qY n _ l1 (by omega) ht
      show ([(w,c :: r1)] ++ l1).length ≠ 0 /\ ([(w,c :: r1)] ++ l1).length <= _
      rw [List.length_append,List.length_singleton]
      omega
structure WordLike (w : List UInt8) : Prop where
 ne : w ≠ []
 low : ((w.headD 0).toNat) < 128
 dig : zs ((w.headD 0).toNat : Int) = true -> (∀ c ∈ w,zs (c.toNat : Int) = true) /\ ∃ n,zX 0 w = some n
theorem pk {c : UInt8} {r w : List UInt8} (h : (c :: r).take w.length = w) (h1 : 1 <= w.length) : w.headD 0 = c := by
 cases w with
 | nil => simp at h1
 | cons a w => simp at h; simp [h.1]
theorem iE {n : Nat} (h : zH (n : Int) = true) : n < 128 := by simp [zH] at h; omega
theorem aQ {n : Nat} (h : zs (n : Int) = true) : n < 128 := by simp [zs] at h; omega
theorem zax : ∀ c ∈ kN,c.toNat < 128 := by decide
theorem zbk {c : UInt8} {r w : List UInt8} (h : ve (c :: r) = .ok w) : WordLike w := by
 obtain ⟨s,j⟩ := kw h; have i := pk s j
 have g : w ≠ [] := by intro e; rw [e] at j; simp at j
 unfold ve at h
 rw [show (c :: r).headD 0 = c from rfl] at h
 by_cases l : zH c.toNat = true
 ·exact ⟨g,by rw [i]; exact iE l,fun hd => by rw [i] at hd; simp [zH,zs] at l hd; omega⟩
 ·rw [if_neg l] at h
  by_cases hd : zs c.toNat = true
  ·rw [if_pos hd] at h
   refine ⟨g,by rw [i]; exact aQ hd,fun _ => ?_⟩; cases m : zX 0 (yi zs (c :: r)) with
   | none => rw [m] at h; cases h
   | some n =>
    rw [m] at h; cases h
    exact ⟨fun c hc => fj hc,n,m⟩
  ·rw [if_neg hd] at h
   refine ⟨g,?_,fun hd' => by rw [i] at hd'; exact absurd hd' hd⟩; rw [i]
   split at h
   ·cases h
   ·rename_i hs
    unfold xn at hs
    split at hs
    ·rename_i f
     simp only [yr,Bool.or_eq_true,beq_iff_eq] at f
     have o : ∀ (a b : UInt8),(c :: r).take 2 = [a,b] -> c = a := fun a b e => by
      cases r with
      | nil => simp at e
      | cons d r => simp at e; exact e.1
     rcases f with (f | f) | f <;> (rw [o _ _ f]; decide)
    ·split at hs
     ·rename_i f
      exact zax c (by have := f.2; simpa using this)
     ·simp at hs
theorem rH : ∀ (n : Nat) (r : List UInt8) (l : List (List UInt8 × List UInt8)),r.length < n -> jv n r = .ok l -> ∃ l0,l = l0 ++ [([],[])] /\ ∀ x ∈ l0,WordLike x.1 /\ x.1.length <= r.length
 | 0,r,l,hn,h => by omega
 | n + 1,r,l,hn,h => by
  rw [kB] at h; cases hk : skp r with
  | error f => rw [hk] at h; cases h
  | ok r1 =>
   rw [hk] at h; obtain ⟨_,hp⟩ := qq hk; have hlen := congrArg List.length hp; simp only [List.length_append] at hlen; cases r1 with
   | nil => cases h; exact ⟨[],rfl,fun x hx => by simp at hx⟩
   | cons c r1 =>
    simp only [pt] at h; cases hw : ve (c :: r1) with
    | error e => rw [hw] at h; cases h
    | ok w =>
     rw [hw] at h; simp only at h; obtain ⟨_,_⟩ := kw hw; have hwl := gU hw; have hdl : ((c :: r1).drop w.length).length = (c :: r1).length - w.length := List.length_drop; cases ht : jv n ((c :: r1).drop w.length) with
     | error x => rw [ht] at h; cases h
     | ok l1 =>
      rw [ht] at h; cases h; obtain ⟨l0,rfl,h0⟩ := rH n _ l1 (by omega) ht; refine ⟨(w,c :: r1) :: l0,by simp,fun x hx => ?_⟩
      rcases List.mem_cons.1 hx with e | e
      ·rw [e]; exact ⟨zbk hw,by show w.length <= _; omega⟩
      ·exact ⟨(h0 x e).1,by have := (h0 x e).2; omega⟩
def kD (n : Nat) (l : List (List UInt8 × List UInt8)) : List Tok := l.map fun x => (x.1,((n - x.2.length : Nat) : Int))
theorem kt (n : Nat) (l : List (List UInt8 × List UInt8)) : (kD n l).length = l.length := by simp [kD]
theorem nz (n : Nat) (l : List (List UInt8 × List UInt8)) (j : Nat) (h : j < l.length) : wd (kD n l) j = l[j].1 := by simp [wd,kD,h]
theorem za7 (n : Nat) (l : List (List UInt8 × List UInt8)) (j : Nat) (h : j < l.length) : pos (kD n l) j = ((n - l[j].2.length : Nat) : Int) := by simp [pos,kD,h]
theorem ze4 (L : List Tok) (j : Nat) (h : L.length <= j) : wd L j = [] := by simp [wd,h]
theorem bO {t : List UInt8} {l : List (List UInt8 × List UInt8)} (h : jm t = .ok l) : ∃ l0,l = l0 ++ [([],[])] /\ ∀ j,j < l0.length -> WordLike (wd (kD t.length l) j) /\ (wd (kD t.length l) j).length <= t.length := by
 obtain ⟨l0,rfl,b⟩ := rH _ _ _ (Nat.lt_succ_self _) h; refine ⟨l0,rfl,fun j hj => ?_⟩; rw [nz _ _ _ (by simp; omega),List.getElem_append_left hj]
 exact b _ (List.getElem_mem hj)
theorem kv {t : List UInt8} {l : List (List UInt8 × List UInt8)} (h : jm t = .ok l) (j : Nat) : (j + 1 < l.length /\ WordLike (wd (kD t.length l) j) /\ (wd (kD t.length l) j).length <= t.length) \/ (l.length <= j + 1 /\ wd (kD t.length l) j = []) := by
 obtain ⟨b,f,i⟩ := bO h
 have g : l.length = b.length + 1 := by rw [f]; simp
 by_cases m : j < b.length
 ·exact .inl ⟨by omega,i j m⟩
 ·refine .inr ⟨by omega,?_⟩
  by_cases d : j < l.length
  ·rw [nz _ _ _ d]
   have e : j = b.length := by omega
   subst e
   simp [f]
  ·exact ze4 _ _ (by rw [kt]; omega)
theorem ziy {t : List UInt8} {l : List (List UInt8 × List UInt8)} (h : jm t = .ok l) (ht : t.length <= 4000) : GoodL (kD t.length l) where
 last := fun j hj => by
  rw [kt] at hj ⊢
  rcases kv h j with ⟨h1,h2,_⟩ | ⟨h1,h2⟩
  ·exact ⟨fun e => absurd e h2.ne,fun e => by omega⟩
  ·exact ⟨fun _ => by omega,fun _ => h2⟩
 short := fun j => by
  rcases kv h j with ⟨_,_,h3⟩ | ⟨_,h2⟩
  ·omega
  ·rw [h2]; simp
 few := by rw [kt]; have := (qY _ _ _ (Nat.lt_succ_self _) h).2; omega
 dig := fun j hd => by
  rcases kv h j with ⟨_,h2,_⟩ | ⟨_,h2⟩
  ·exact (h2.dig hd).1
  ·rw [h2] at hd; simp [zs] at hd
 low := fun j => by
  rcases kv h j with ⟨_,h2,_⟩ | ⟨_,h2⟩
  ·exact h2.low
  ·rw [h2]; decide
 val := fun j hn hd => by
  rcases kv h j with ⟨_,h2,_⟩ | ⟨_,h2⟩
  ·exact (h2.dig hd).2
  ·exact absurd h2 hn
theorem xg (a b : List UInt8) : (⟨a.toArray⟩ : ByteArray) ++ (⟨b.toArray⟩ : ByteArray) = ⟨(a ++ b).toArray⟩ := by
 apply ByteArray.ext
 simp
theorem yV {a : ByteArray} {l : List UInt8} (h : a = ⟨l.toArray⟩) : Ending.returned (.string a) = .returned (.string ⟨l.toArray⟩) := by rw [h]
def tD (n : Nat) : List UInt8 := if n < 10 then [UInt8.ofNat (48 + n)] else tD (n / 10) ++ [UInt8.ofNat (48 + n % 10)]
theorem jz {n : Nat} (h : n < 10) : tD n = [UInt8.ofNat (48 + n)] := by rw [tD,if_pos h]
theorem fM {n : Nat} (h : ¬ n < 10) : tD n = tD (n / 10) ++ [UInt8.ofNat (48 + n % 10)] := by rw [tD,if_neg h]
theorem zbe (n : Nat) : ∀ f,n < 10 ^ (f + 1) -> (tD n).length <= f + 1 := by
 intro f
 induction f generalizing n with
 | zero => intro h; rw [jz (by simpa using h)]; simp
 | succ f ih =>
  intro h
  by_cases b : n < 10
  ·rw [jz b]; simp
  ·rw [fM b]
   have := ih (n / 10) (by rw [Nat.pow_succ] at h; omega)
   simp
   omega
set_option maxHeartbeats 1000000
theorem zi3 : (Tryz.prog.info? 65).map (·.size) = some 2 := by kernel_rfl
theorem zih : liesAt Tryz.prog Tryz.prog.depth WT (5 / Tryz.prog.cellsOf WT) 0 65 1 = true := by kernel_rfl
theorem zdp : (Tryz.prog.info? U8).map (fun i => (i.zero,i.size,i.bytes)) = some (some (.int .u8 0),1,1) := by kernel_rfl
theorem WT_ne : WT ≠ U8 := by decide
section
variable {w0 : World} {wb ob db : Nat} {w w' : World} {S S' : List UInt8} {L L' : Nat} {p v : Value}
theorem Wr.put (gb : w0.grownBy w none) (lo : w0.heap.size <= wb) (ho : IsOps w ob) (hd : IsWds w db) (on : ob ≠ wb) (dn : db ≠ wb) (own : w.ownsRow w0.heap.size U8 1 v S'.length (Lib.byteCells S')) (vne : v.ownBlock ≠ some wb) (hp : p = .pointer none \/ p = ptr wb)
  (hb : w'.heap[wb]? = some (.cells #[p,v,.int .i64 L',.map (some ob),.map (some db)] WT (0,0))) (hk : KB (fun k => k ≠ wb) w w') : Wr w0 wb w' S' L' :=
 ⟨⟨hk.os.trans gb.os,hk.tape.trans gb.tape,hk.output.trans gb.output,Nat.le_trans gb.size hk.size,fun k hk' _ => (hk.block k (Nat.lt_of_lt_of_le hk' gb.size) (by omega)).trans (gb.block k hk' (by simp))⟩,lo,
  p,v,ob,db,hp,hb,gu own (fun g hg => hk.block g (own.lt g hg).2 (fun e => vne (e ▸ hg))),vne,yN ho (hk.block _ (World.ownsMap.lt ho) on),yN hd (hk.block _ (World.ownsMap.lt hd) dn),on,dn⟩
theorem cM (w : World) (wb o : Nat) (v : Value) : KB (fun k => k ≠ wb) w (w.setCell ⟨wb,o,none⟩ v) := ⟨rfl,rfl,rfl,by simp [World.setCell],fun k _ hk => Below.heap_setCell _ _ _ _ (by simpa using hk)⟩
theorem WK.set (_h : Wr w0 wb w S L) (o : Nat) (x : Value) (ho : o ≠ 1) : WK wb w (w.setCell ⟨wb,o,none⟩ x) := by
 refine ⟨⟨rfl,rfl,rfl,by simp [World.setCell],fun k _ hk => Below.heap_setCell _ _ _ _ (by simpa using hk.1)⟩,.inl ?_⟩
 unfold gY
 rw [World.cell?_setCell_other _ _ _ _ (by simp <;> omega)]
theorem Wr.level (h : Wr w0 wb w S L) (L' : Nat) : Wr w0 wb (w.setCell ⟨wb,2,none⟩ (.int .i64 L')) S L' := by
 obtain ⟨_,_,_,_,e,f,b,d,g,i,j,l⟩ := h.st
 exact Wr.put h.gb h.lo g i j l b d e (by simp [World.setCell,Array.getElem?_modify,f]) (cM w wb 2 _)
theorem Wr.lcell (h : Wr w0 wb w S L) : w.cell? ⟨wb,2,none⟩ = some (.int .i64 L) /\ w.frozen? ⟨wb,2,none⟩ = false := by
 obtain ⟨_,_,_,_,_,b,_⟩ := h.st
 exact ⟨by rw [Lib.cell_of_heap b]; rfl,Lib.frozen_of_heap b 2⟩
end
theorem gO (w0 : World) (wb : Nat) (w : World) (S : List UInt8) (L : Nat) (h : Wr w0 wb w S L) :
  Calls Tryz.prog 137 #[ptr wb] w fun e w' => e = .returned (.tuple #[]) /\ Wr w0 wb w' S L /\ WK wb w w' /\ w'.cell? ⟨wb,0,none⟩ = some (ptr wb) := by
 have s := za h; obtain ⟨p,_,_,_,t,b,d,f,l,m,n,o⟩ := h.st; obtain ⟨_,i,j⟩ := Option.map_eq_some_iff.1 zi3
 have r : w.cell? ⟨wb,0,none⟩ = some p := by rw [Lib.cell_of_heap b]; rfl
 have z : w.frozen? ⟨wb,0,none⟩ = false := Lib.frozen_of_heap b 0
 have g : w.shape? wb = some (WT,5) := by simp [World.shape?,b]
 have u : Hid (Wr w0 wb (w.setCell ⟨wb,0,none⟩ (ptr wb)) S L) := Wr.put h.gb h.lo l m n o d f (.inr rfl) (by simp [World.setCell,Array.getElem?_modify,b]) (cM w wb 0 _); have x := za (WK.set h 0 (ptr wb) (by omega)); have y : Hid ((w.setCell ⟨wb,0,none⟩ (ptr wb)).cell? ⟨wb,0,none⟩ = some (ptr wb)) := World.cell?_setCell_same _ _ _ r; clear d f l m n o h b
 rcases t with rfl | rfl
 ·go_enter Tryz.func137,Tryz.ntmps137
  go_wp2; rw [Lib.run_to_unsafe w ⟨wb,0,none⟩ Tryz.underlying62 Tryz.underlying97 i (by rw [j]; decide) g (Nat.zero_lt_succ 4)]; simp only [Result.andThen]; rw [Oper.upon_value]; go_wp2; rw [run_callFunc_extern Tryz.func159 (by kernel_rfl) (by kernel_rfl) (by kernel_rfl) (e := Extern.AbiNoEscape.same) (by kernel_rfl)]; rw [Lib.run_noEscape]; simp only [Result.andThen]; rw [Oper.upon_value]; go_wp2; rw [Lib.run_from_unsafe w ⟨wb,0,none⟩ Tryz.underlying97 Tryz.underlying62 i g zih]; simp only [Result.andThen]; rw [Oper.upon_value]; go_wp2
  go_end0
  exact ⟨rfl,u.out,x.out,y.out⟩
 ·go_enter Tryz.func137,Tryz.ntmps137
  go_wp2; rw [Lib.run_neq_ptr_same w _ Tryz.underlying62 i]; go_wp2
  go_end0
  exact ⟨rfl,s.out,WK.refl _ _,r⟩
theorem Wr.push {w0 : World} {wb ob db : Nat} {w w2 : World} {S X : List UInt8} {L : Nat} {p v v' : Value} (h : Wr w0 wb w S L) (hp : p = .pointer none \/ p = ptr wb) (hb : w.heap[wb]? = some (.cells #[p,v,.int .i64 L,.map (some ob),.map (some db)] WT (0,0)))
  (own : w.ownsRow w0.heap.size U8 1 v S.length (Lib.byteCells S)) (vne : v.ownBlock ≠ some wb) (ho : IsOps w ob) (hd : IsWds w db) (on : ob ≠ wb) (dn : db ≠ wb)
  (own' : w2.ownsRow w0.heap.size U8 1 v' (S ++ X).length (Lib.byteCells (S ++ X))) (hg : w.grownBy w2 v.ownBlock) (hat : v'.ownBlock = v.ownBlock \/ ∀ b,v'.ownBlock = some b -> w.heap.size <= b) :
  Wr w0 wb (w2.setCell ⟨wb,1,none⟩ v') (S ++ X) L /\ WK wb w (w2.setCell ⟨wb,1,none⟩ v') := by
 have n := h.lt; have i : w2.heap[wb]? = some (.cells #[p,v,.int .i64 L,.map (some ob),.map (some db)] WT (0,0)) := (hg.block wb n (fun e => vne e.symm)).trans hb; have l : v'.ownBlock ≠ some wb := Lib.ownBlock_ne own' i WT_ne; have d : KB (fun k => v.ownBlock ≠ some k) w w2 := KB.of hg (fun k hk e => hk e.symm); have f := cM w2 wb 1 v'; have g := zdb hb
 have o : KB (fun k => k ≠ wb /\ gY w wb ≠ some k) w (w2.setCell ⟨wb,1,none⟩ v') := by
  rw [g]
  exact ⟨f.os.trans d.os,f.tape.trans d.tape,f.output.trans d.output,Nat.le_trans d.size f.size,fun k hk hs => (f.block k (Nat.lt_of_lt_of_le hk d.size) hs.1).trans (d.block k hk hs.2)⟩
 have r : v.ownBlock ≠ some ob := tF ho own; have s : v.ownBlock ≠ some db := tF hd own; have m : w0.grownBy w2 none := ⟨hg.os.trans h.gb.os,hg.tape.trans h.gb.tape,hg.output.trans h.gb.output,Nat.le_trans h.gb.size hg.size,fun k hk _ => (hg.block k (Nat.lt_of_lt_of_le hk h.gb.size) (fun e => by have := (own.lt k e.symm).1; omega)).trans (h.gb.block k hk (by simp))⟩; have t := Wr.put (w' := w2.setCell ⟨wb,1,none⟩ v') (L' := L) m h.lo (yN ho (hg.block _ (World.ownsMap.lt ho) (fun e => r e.symm))) (yN hd (hg.block _ (World.ownsMap.lt hd) (fun e => s e.symm))) on dn own' l hp (by simp [World.setCell,Array.getElem?_modify,i]) f
 have j : gY (w2.setCell ⟨wb,1,none⟩ v') wb = v'.ownBlock := by
  obtain ⟨_,_,_⟩ := t
  unfold gY
  rw [World.cell?_setCell_same _ _ _ (show w2.cell? ⟨wb,1,none⟩ = some v by rw [Lib.cell_of_heap i]; rfl)]
  rfl
 exact ⟨t,o,by rw [g,j]; exact hat⟩
def WPv (w0 : World) (wb : Nat) (w : World) (S : List UInt8) (L : Nat) (X : List UInt8) (v : Value) : Ending -> World -> Prop := fun e w' => e = .returned v /\ Wr w0 wb w' (S ++ X) L /\ WK wb w w'
theorem qf (a b : List UInt8) : Lib.byteCells (a ++ b) = Lib.byteCells a ++ Lib.byteCells b := by simp [Lib.byteCells]
theorem pq (w : World) (base : Nat) (t u ty e : TypeId) (i : TypeInfo) (ht : Tryz.prog.underlying t = some (.slice e)) (hu : Tryz.prog.underlying u = some .string) (hi : Tryz.prog.info? e = some i) (hz : i.zero = some (.int .u8 0)) (hsize : i.size = 1) (hby : i.bytes = 1)
  (v : Value) (n : Nat) (xs : List Value) (hown : w.ownsRow base e 1 v n xs) (s : ByteArray) (h63 : n + s.size <= maxLen) (hbytes : n + s.size <= 140737488355328) {v' : Value} {w' : World}
  (hr : (Builtin.append_ #[t,u] ty #[v,.string s]).run Tryz.prog w = .ok v' w') : v'.ownBlock = v.ownBlock \/ v'.ownBlock = some w.heap.size := by
 have m : n + s.size <= 9223372036854775807 := by simp only [maxLen] at h63; omega
 have o : xs.length = n := by simpa using hown.1
 rcases hown.2 with ⟨rfl,rfl⟩ | ⟨g,b,l,rfl,A,B,C,D,hcs,r⟩
 ·by_cases x : s.size = 0
  ·have y := Lib.run_firstCells_string (P := Tryz.prog) w 1 s
   rw [x] at y
   have d : (Builtin.append_ #[t,u] ty #[.slice none 0 0,.string s]).run Tryz.prog w = .ok (.slice none 0 0) w := by simp [Builtin.append_,run_underlying ht,run_underlying hu,sizeOf,typeInfo,hi,hsize,Builtin.lenOf,x,y]
   rw [d] at hr
   injection hr with e1 _
   subst e1
   exact .inl rfl
  ·have d := run_append_nil_string (P := Tryz.prog) w t u ty e i (.int .u8 0) ht hu hi hz s (by omega) (by omega) (by rw [hby]; omega)
   rw [d] at hr
   injection hr with e1 _
   subst e1
   exact .inr rfl
 ·by_cases f : n + s.size <= b
  ·have z : l.size = b := by simpa using hcs
   have d := Lib.run_append_room_string (P := Tryz.prog) w t u ty e i ht hu hi hsize g n b l B s f (by omega); rw [d] at hr
   injection hr with e1 _
   subst e1
   exact .inl rfl
  ·have h : ∀ j u,xs[j]? = some u -> w.cell? ((⟨g,0,none⟩ : Addr).add j) = some u := hown.cells (g := g) rfl
   have d := Lib.run_append_grow_string (P := Tryz.prog) w t u ty e i (.int .u8 0) ht hu hi hz ⟨g,0,none⟩ n b xs (by rw [hsize]; simpa using o) h s (by omega) (by omega) (by rw [hby]; exact growslice_fits (by omega) (by omega)); rw [d] at hr
   injection hr with e1 _
   subst e1
   exact .inr rfl
theorem zfe {w : World} {ops : Array Oper} {rest : List Oper} {o : Oper} {a : Act} {Q : Exit -> Act -> World -> Prop} (hgd : o.guard = none) (sl x : Operand)
  (ho : o.op = .call { callee := .builtin .append,args := #[sl,x],argTypes := #[63,9] }) {w0 : World} {wb : Nat} {S : List UInt8} {L : Nat} (h : Wr w0 wb w S L) (hc : w.cell? ⟨wb,1,none⟩ = some (a.eval sl)) (s : List UInt8) (hx : a.eval x = .string ⟨s.toArray⟩) (hlen : S.length + s.length <= 1000000000)
  (k : ∀ q n c w' z,Wr w0 wb (w'.setCell ⟨wb,1,none⟩ (.slice q n c)) (S ++ s) L -> WK wb w (w'.setCell ⟨wb,1,none⟩ (.slice q n c)) -> w'.frozen? ⟨wb,1,none⟩ = false -> w'.cell? ⟨wb,1,none⟩ = some z -> wpList Tryz.prog ops Q rest (a.put o.dst (.slice q n c)) w') : wpList Tryz.prog ops Q (o :: rest) a w := by
 obtain ⟨y,A,f,i,j⟩ := info_parts zdp; obtain ⟨p,v,ob,db,F,hb,own,l,t,H,I,J⟩ := h.st
 have M : a.eval sl = v := by
  rw [Lib.cell_of_heap hb] at hc
  simpa using hc.symm
 have d : ByteArray.size ⟨s.toArray⟩ = s.length := by simp [ByteArray.size]
 refine wpList_plain hgd fun K hK => ?_
 obtain ⟨B,w',C,D,E,V⟩ := Lib.run_append_own_string (P := Tryz.prog) w w0.heap.size 63 9 o.type U8 y Tryz.underlying63 Tryz.underlying9 A f i j v S.length _ own ⟨s.toArray⟩ (by rw [d]; unfold maxLen; omega) (by rw [d]; omega) h.gb.size; have u := pq w w0.heap.size 63 9 o.type U8 y Tryz.underlying63 Tryz.underlying9 A f i j v S.length _ own ⟨s.toArray⟩ (by rw [d]; unfold maxLen; omega) (by rw [d]; omega) C
 have m : w'.ownsRow w0.heap.size U8 1 B (S ++ s).length (Lib.byteCells (S ++ s)) := by
  rw [List.length_append,qf,<- d]
  exact D
 obtain ⟨N,O⟩ := Wr.push h F hb own l t H I J m E (by rcases u with e | e; exact .inl e; exact .inr (fun b hb' => by rw [e] at hb'; cases hb'; exact Nat.le_refl _)); have r : w'.heap[wb]? = some (.cells #[p,v,.int .i64 L,.map (some ob),.map (some db)] WT (0,0)) := (E.block wb h.lt (fun e => l e.symm)).trans hb
 unfold Oper.wp execOp
 simp only [ho,resolve,invoke,builtin,Sem.run_bind,Sem.run_pure,Result.andThen_ok,List.map_toArray,List.map_cons,List.map_nil,M,hx,C]
 obtain ⟨q,n,c,rfl⟩ : ∃ q n c,B = .slice q n c := by
  rcases D.2 with ⟨e,_⟩ | ⟨g,R,U,e,_⟩
  ·exact ⟨_,_,_,e⟩
  ·exact ⟨_,_,_,e⟩
 exact hK _ _ (k q n c w' v N O (Lib.frozen_of_heap r 1) (by rw [Lib.cell_of_heap r]; rfl))
theorem pH (t : T) : zA t = 1 + yM t.subs := by obtain ⟨_,_,_,_,_⟩ := t; rw [zA]; rfl
end Go.Proofs.YtfjgelmllcnokaaGreatDoor
