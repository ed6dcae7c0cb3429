/- The library's strings.Fields at this program's numbers,by the library's own contract: laid,no walk. -/
import Derived.Shelf.Strings.Fields
import Derived.Test.YtifapidjkelnfaaGreatDoorProg
import Derived.Test.YtifapidjkelnfaaGreatDoorRows
import Derived.WalkKit
import Derived.WalkSpells
import Derived.WalkLawsBesides
import Derived.BigQuiet
import Derived.Deep.QuietTactic
import Derived.Deep.RegionWith
import Derived.Lib.Strings
import Derived.Lib.IndexBytes
import Derived.Maps.Own
import Derived.Maps.OwnSet
import Derived.ChangeArms
import Derived.Deep.Slices
import Derived.Below
import Derived.Deep.RegionHeld
import Derived.Deep.RegionLaw
import Derived.Deep.AppendLies
import Derived.Maps.OwnOps
import Derived.Maps.AppendAt
namespace Go.Proofs
open Go.Shelf
abbrev Bs := List UInt8
theorem bn {α : Type} [BEq α] [LawfulBEq α] {a b : α} (h : a ≠ b) : (a == b) = false := beq_eq_false_iff_ne.2 h
def Tryz.lays157_ren : Go.Shelf.Ren := ⟨fun | 157 => 104 | 229 => 140 | 199 => 141 | 261 => 167 | 311 => 177 | 312 => 178 | n => n,fun | 9 => 9 | 31 => 64 | 3 => 3 | 5 => 5 | 4 => 4 | 119 => 159 | 0 => 0 | 40 => 161 | 152 => 186 | 21 => 21 | 154 => 188 | 51 => 189 | 141 => 191 | 196 => 199 | 193 => 196 | 198 => 202 | 49 => 200 | 194 => 197 | 201 => 205 | 226 => 217 | 46 => 218 | 227 => 219 | n => n,fun | 0 => 2 | 6 => 3 | n => n⟩
theorem Tryz.lays157 : Go.Proofs.Lays.n157 Tryz.prog Tryz.lays157_ren := {
 mixed := by kernel_rfl
 f157 := Tryz.func104.trans (congrArg some (by kernel_rfl))
 f199 := Tryz.func141.trans (congrArg some (by kernel_rfl))
 f229 := Tryz.func140.trans (congrArg some (by kernel_rfl))
 f261 := Tryz.func167.trans (congrArg some (by kernel_rfl))
 f311 := Tryz.func177.trans (congrArg some (by kernel_rfl))
 f312 := Tryz.func178.trans (congrArg some (by kernel_rfl))
 t0 := Tryz.underlying0
 a0 := Tryz.isAgg0
 z0 := Tryz.sizeOf0
 v0 := Tryz.zeroValue0
 t3 := Tryz.underlying3
 a3 := Tryz.isAgg3
 z3 := Tryz.sizeOf3
 v3 := Tryz.zeroValue3
 t4 := Tryz.underlying4
 a4 := Tryz.isAgg4
 z4 := Tryz.sizeOf4
 v4 := Tryz.zeroValue4
 t5 := Tryz.underlying5
 a5 := Tryz.isAgg5
 z5 := Tryz.sizeOf5
 v5 := Tryz.zeroValue5
 t9 := Tryz.underlying9
 a9 := Tryz.isAgg9
 z9 := Tryz.sizeOf9
 v9 := Tryz.zeroValue9
 t21 := Tryz.underlying21
 a21 := Tryz.isAgg21
 z21 := Tryz.sizeOf21
 v21 := Tryz.zeroValue21
 t31 := Tryz.underlying64
 a31 := Tryz.isAgg64
 z31 := Tryz.sizeOf64
 v31 := Tryz.zeroValue64
 t40 := Tryz.underlying161
 a40 := Tryz.isAgg161
 z40 := Tryz.sizeOf161
 v40 := Tryz.zeroValue161
 t46 := Tryz.underlying218
 a46 := Tryz.isAgg218
 z46 := Tryz.sizeOf218
 v46 := Tryz.zeroValue218
 t49 := Tryz.underlying200
 a49 := Tryz.isAgg200
 z49 := Tryz.sizeOf200
 v49 := Tryz.zeroValue200
 t51 := Tryz.underlying189
 a51 := Tryz.isAgg189
 z51 := Tryz.sizeOf189
 v51 := Tryz.zeroValue189
 t119 := Tryz.underlying159
 a119 := Tryz.isAgg159
 z119 := Tryz.sizeOf159
 t141 := Tryz.underlying191
 a141 := Tryz.isAgg191
 z141 := Tryz.sizeOf191
 v141 := Tryz.zeroValue191
 t152 := Tryz.underlying186
 a152 := Tryz.isAgg186
 z152 := Tryz.sizeOf186
 v152 := Tryz.zeroValue186
 t154 := Tryz.underlying188
 a154 := Tryz.isAgg188
 z154 := Tryz.sizeOf188
 v154 := Tryz.zeroValue188
 t193 := Tryz.underlying196
 a193 := Tryz.isAgg196
 z193 := Tryz.sizeOf196
 v193 := Tryz.zeroValue196
 t194 := Tryz.underlying197
 a194 := Tryz.isAgg197
 z194 := Tryz.sizeOf197
 v194 := Tryz.zeroValue197
 t196 := Tryz.underlying199
 a196 := Tryz.isAgg199
 z196 := Tryz.sizeOf199
 v196 := Tryz.zeroValue199
 t198 := Tryz.underlying202
 a198 := Tryz.isAgg202
 z198 := Tryz.sizeOf202
 v198 := Tryz.zeroValue202
 t201 := Tryz.underlying205
 a201 := Tryz.isAgg205
 z201 := Tryz.sizeOf205
 v201 := Tryz.zeroValue205
 t226 := Tryz.underlying217
 a226 := Tryz.isAgg217
 z226 := Tryz.sizeOf217
 v226 := Tryz.zeroValue217
 t227 := Tryz.underlying219
 a227 := Tryz.isAgg219
 z227 := Tryz.sizeOf219
 v227 := Tryz.zeroValue219
 g0 := by kernel_rfl
 g6 := by kernel_rfl }
open Go.RowKit Go.Lib in
theorem Tryz.strings_Fields (s : ByteArray) (w : World) (hs : s.size < 4294967281) (hascii : ∀ (j : Nat) b,s.data.toList[j]? = some b -> b.toNat < 128) (htab : Lib.TabIs Tryz.prog w "strings.asciiSpace" .u8 Lib.asciiSpaceTab) :
  Calls Tryz.prog 104 #[.string s] w fun e w' =>
   e = .returned (.slice (some ⟨w.heap.size,0,none⟩) (Lib.fields s.data.toList).length (Lib.fields s.data.toList).length) /\ w' = w.alloc (.cells ((Lib.fields s.data.toList).map fun l => Value.string ⟨l.toArray⟩).toArray 9) := Any.strings_Fields Tryz.lays157 (by kernel_rfl) (by kernel_rfl) s w hs hascii htab
end Go.Proofs

namespace Go.Proofs.YtifapidjkelnfaaGreatDoor
open Go.RowKit Go.Maps Go.WideMaps Go.WideElems
set_option maxHeartbeats 1000000
set_option maxRecDepth 1000000
def zK (n : Int) : Bool := decide ((97 <= n /\ n <= 122) \/ (65 <= n /\ n <= 90))
def yq (n : Int) : Bool := decide (48 <= n /\ n <= 57)
def lod (n : Int) : Bool := zK n || yq n
theorem uq (r : Int) (w : World) :
  Calls Tryz.prog 168 #[.int .i32 r] w fun e w' => e = .returned (.bool (zK r)) /\ w' = w := by
 by_cases h1 : 97 <= r
 ·by_cases h2 : r <= 122
  ·have hl : zK r = true := by simp [zK]; omega
   rw [hl]
   go_enter Tryz.func168,Tryz.ntmps168
   go_wp2
   go_ret
   first | exact ⟨rfl,rfl⟩ | (refine ⟨?_,rfl⟩; simp; omega)
  ·have hl : zK r = false := by simp [zK]; omega
   rw [hl]
   go_enter Tryz.func168,Tryz.ntmps168
   go_wp2
   go_ret
   first | exact ⟨rfl,rfl⟩ | (refine ⟨?_,rfl⟩; simp; omega)
 ·by_cases h3 : 65 <= r
  ·by_cases h4 : r <= 90
   ·have hl : zK r = true := by simp [zK]; omega
    rw [hl]
    go_enter Tryz.func168,Tryz.ntmps168
    go_wp2
    go_ret
    first | exact ⟨rfl,rfl⟩ | (refine ⟨?_,rfl⟩; simp; omega)
   ·have hl : zK r = false := by simp [zK]; omega
    rw [hl]
    go_enter Tryz.func168,Tryz.ntmps168
    go_wp2
    go_ret
    first | exact ⟨rfl,rfl⟩ | (refine ⟨?_,rfl⟩; simp; omega)
  ·have hl : zK r = false := by simp [zK]; omega
   rw [hl]
   go_enter Tryz.func168,Tryz.ntmps168
   go_wp2
   go_ret
   first | exact ⟨rfl,rfl⟩ | (refine ⟨?_,rfl⟩; simp; omega)
theorem gw (r : Int) (w : World) :
  Calls Tryz.prog 169 #[.int .i32 r] w fun e w' => e = .returned (.bool (yq r)) /\ w' = w := by
 by_cases h1 : 48 <= r
 ·by_cases h2 : r <= 57
  ·have hl : yq r = true := by simp [yq]; omega
   rw [hl]
   go_enter Tryz.func169,Tryz.ntmps169
   go_wp2
   go_ret
   first | exact ⟨rfl,rfl⟩ | (refine ⟨?_,rfl⟩; simp; omega)
  ·have hl : yq r = false := by simp [yq]; omega
   rw [hl]
   go_enter Tryz.func169,Tryz.ntmps169
   go_wp2
   go_ret
   first | exact ⟨rfl,rfl⟩ | (refine ⟨?_,rfl⟩; simp; omega)
 ·have hl : yq r = false := by simp [yq]; omega
  rw [hl]
  go_enter Tryz.func169,Tryz.ntmps169
  go_wp2
  go_ret
  first | exact ⟨rfl,rfl⟩ | (refine ⟨?_,rfl⟩; simp; omega)
theorem ug (s : ByteArray) : s.toList = s.data.toList := Lib.toList_data s
theorem xt (s : ByteArray) : s.size = s.data.toList.length := Lib.size_eq s
theorem mS (x : ByteArray) (j : Nat) (h : j < x.size) : x[j] ∈ x.data.toList := by
 have : x[j] = x.data.toList[j]'(by rw [<- xt]; exact h) := rfl
 rw [this]; exact List.getElem_mem _
theorem zb {p : Prop} (h : p) : Hid p := h
theorem jj {n : Int} (h : 128 <= n) : yq n = false := by simp [yq]; omega
theorem mU (s : ByteArray) (k : Nat) (h : k < s.size) : s.data.toList.drop k = s[k] :: s.data.toList.drop (k + 1) := by
 rw [List.drop_eq_getElem_cons (by rw [<- xt]; exact h)]; rfl
theorem od (s : ByteArray) (h : 0 < s.size) : s.data.toList.headD 0 = s[0] /\ s.data.toList.take 1 = [s[0]] := by
 have := mU s 0 h; simp only [List.drop_zero] at this; rw [this]; simp
theorem zj (w : World) (row : Option Nat) : w.grownBy w row := ⟨rfl,rfl,rfl,Nat.le_refl _,fun _ _ _ => rfl⟩
theorem za {a b c : World} {row : Option Nat} (h : a.grownBy b row) (k : b.grownBy c row) : a.grownBy c row :=
 ⟨k.os.trans h.os,k.tape.trans h.tape,k.output.trans h.output,Nat.le_trans h.size k.size,fun i hi hr => (k.block i (Nat.lt_of_lt_of_le hi h.size) hr).trans (h.block i hi hr)⟩
theorem zf {a w : World} {row : Option Nat} (h : a.grownBy w row) (o : Obj) : a.grownBy (w.alloc o) row := za h (World.grownBy_alloc w o row)
theorem yl {a w : World} {row : Option Nat} (h : a.grownBy w row) (n : Nat) : a.grownBy (w.drewN n) row := ⟨h.os,h.tape,h.output,h.size,h.block⟩
theorem z6 {a w : World} {b : Nat} (h : a.grownBy w (some b)) (o : Nat) (v : Value) : a.grownBy (w.setCell ⟨b,o,none⟩ v) (some b) :=
 za h ⟨rfl,rfl,rfl,by simp [World.setCell],fun i _ hr => Below.heap_setCell _ _ _ _ (fun e => hr (by rw [e]))⟩
theorem zO {w w' : World} {row : Option Nat} (hg : w.grownBy w' row) {a : Addr} {v : Value} (h : w.cell? a = some v) (hne : some a.block ≠ row) : w'.cell? a = some v := by
 have hlt : a.block < w.heap.size := by
  rcases Nat.lt_or_ge a.block w.heap.size with h' | h'
  ·exact h'
  ·simp [World.cell?,Array.getElem?_eq_none h'] at h
 rw [World.cell?_of_block (w := w) (hg.block _ hlt hne)]; exact h
theorem yx {w w' : World} {row : Option Nat} (hg : w.grownBy w' row) {a : Addr} {x : Bool} (hlt : a.block < w.heap.size) (h : w.frozen? a = x) (hne : some a.block ≠ row) : w'.frozen? a = x := by
 rw [World.frozen?_of_block (w := w) (hg.block _ hlt hne)]; exact h
theorem xn (r : Int) (w : World) :
  Calls Tryz.prog 23 #[.int .u8 r] w fun e w' => e = .returned (.bool (zK r)) /\ w' = w := by
 by_cases h1 : 97 <= r
 ·by_cases h2 : r <= 122
  ·have hl : zK r = true := by simp [zK]; omega
   rw [hl]
   go_enter Tryz.func23,Tryz.ntmps23
   go_wp2
   go_ret
   first | exact ⟨rfl,rfl⟩ | (refine ⟨?_,rfl⟩; simp; omega)
  ·have hl : zK r = false := by simp [zK]; omega
   rw [hl]
   go_enter Tryz.func23,Tryz.ntmps23
   go_wp2
   go_ret
   first | exact ⟨rfl,rfl⟩ | (refine ⟨?_,rfl⟩; simp; omega)
 ·by_cases h3 : 65 <= r
  ·by_cases h4 : r <= 90
   ·have hl : zK r = true := by simp [zK]; omega
    rw [hl]
    go_enter Tryz.func23,Tryz.ntmps23
    go_wp2
    go_ret
    first | exact ⟨rfl,rfl⟩ | (refine ⟨?_,rfl⟩; simp; omega)
   ·have hl : zK r = false := by simp [zK]; omega
    rw [hl]
    go_enter Tryz.func23,Tryz.ntmps23
    go_wp2
    go_ret
    first | exact ⟨rfl,rfl⟩ | (refine ⟨?_,rfl⟩; simp; omega)
  ·have hl : zK r = false := by simp [zK]; omega
   rw [hl]
   go_enter Tryz.func23,Tryz.ntmps23
   go_wp2
   go_ret
   first | exact ⟨rfl,rfl⟩ | (refine ⟨?_,rfl⟩; simp; omega)
theorem xU (r : Int) (w : World) :
  Calls Tryz.prog 24 #[.int .u8 r] w fun e w' => e = .returned (.bool (yq r)) /\ w' = w := by
 by_cases h1 : 48 <= r
 ·by_cases h2 : r <= 57
  ·have hl : yq r = true := by simp [yq]; omega
   rw [hl]
   go_enter Tryz.func24,Tryz.ntmps24
   go_wp2
   go_ret
   first | exact ⟨rfl,rfl⟩ | (refine ⟨?_,rfl⟩; simp; omega)
  ·have hl : yq r = false := by simp [yq]; omega
   rw [hl]
   go_enter Tryz.func24,Tryz.ntmps24
   go_wp2
   go_ret
   first | exact ⟨rfl,rfl⟩ | (refine ⟨?_,rfl⟩; simp; omega)
 ·have hl : yq r = false := by simp [yq]; omega
  rw [hl]
  go_enter Tryz.func24,Tryz.ntmps24
  go_wp2
  go_ret
  first | exact ⟨rfl,rfl⟩ | (refine ⟨?_,rfl⟩; simp; omega)
def yM : List Bs := [[77,79,68,85,76,69],[73,77,80,79,82,84],[67,79,78,83,84],[84,89,80,69],[86,65,82],[80,82,79,67,69,68,85,82,69],[66,69,71,73,78],[69,78,68],[73,70],[84,72,69,78],[69,76,83,73,70],[69,76,83,69],[87,72,73,76,69],[68,79],[82,69,80,69,65,84],[85,78,84,73,76],[82,69,84,85,82,78],[65,82,82,65,89],[79,70],[82,69,67,79,82,68],[80,79,73,78,84,69,82],[84,79],[78,73,76],[84,82,85,69],[70,65,76,83,69],[68,73,86],[77,79,68],[79,82],[73,83],[78,69,87],[79,85,84],[71,69,84],[65,83,83,69,82,84]]
def uo : ByteArray := ⟨#[77,79,68,85,76,69,32,73,77,80,79,82,84,32,67,79,78,83,84,32,84,89,80,69,32,86,65,82,32,80,82,79,67,69,68,85,82,69,32,66,69,71,73,78,32,69,78,68,32,73,70,32,84,72,69,78,32,69,76,83,73,70,32,69,76,83,69,32,87,72,73,76,69,32,68,79,32,82,69,80,69,65,84,32,85,78,84,73,76,32,82,69,84,85,82,78,32,65,82,82,65,89,32,79,70,32,82,69,67,79,82,68,32,80,79,73,78,84,69,82,32,84,79,32,78,73,76,32,84,82,85,69,32,70,65,76,83,69,32,68,73,86,32,77,79,68,32,79,82,32,73,83,32,78,69,87,32,79,85,84,32,71,69,84,32,65,83,83,69,82,84]⟩
theorem kP : Lib.fields uo.data.toList = yM := by decide +kernel
theorem sW : ∀ (j : Nat) b,uo.data.toList[j]? = some b -> b.toNat < 128 := by
 intro j b h
 have : ∀ b ∈ uo.data.toList,b.toNat < 128 := by decide +kernel
 exact this b (List.mem_of_getElem? h)
theorem xy : yM.length = 33 := rfl
def uW (l : Bs) : Bool := yM.contains l
theorem tK : Keyed Tryz.prog 9 := string_keyed Tryz.underlying9
theorem iW (w : World) : (zeroValue 128).run Tryz.prog w = .ok (.agg #[]) w := by kernel_rfl
theorem tL (k : Nat) (h : k < yM.length) : (⟨(yM[k]).toArray⟩ : ByteArray).size <= maxLen := by
 have h1 : ∀ x ∈ yM,x.length <= 20 := by decide
 have h2 := h1 _ (List.getElem_mem h)
 unfold maxLen
 simp [ByteArray.size]
 omega
def vA (k : Nat) : DataW Unit := setOf (.agg []) ((yM.take k).map Lit.string)
theorem fs (k : Nat) (h : k < yM.length) : vA (k + 1) = (vA k).put (.string (yM[k])) (.agg []) := by
 unfold vA
 rw [List.take_succ_eq_append_getElem h,List.map_append,List.map_cons,List.map_nil,setOf_snoc]
theorem fQ (l : Bs) : Maps.has (vA 33) (.string l) = uW l := by
 unfold vA uW
 rw [has_setOf _ _ _ (by intro x hx; obtain ⟨_,_,rfl⟩ := List.mem_map.1 hx; trivial),List.take_of_length_le (by rw [xy]; exact Nat.le_refl _),List.any_map]; rw [Bool.eq_iff_iff,List.any_eq_true,List.contains_iff_mem]
 constructor
 ·rintro ⟨x,hx,h⟩
  have e : x = l := by simpa [Lit.sameKey] using h
  rw [<- e]; exact hx
 ·intro h
  exact ⟨l,h,by simp [Lit.sameKey]⟩
theorem iU : Tryz.prog.globalNamed "strings.asciiSpace" = some 2 := by kernel_rfl
theorem ii {w : World} (h : Lib.TabIs Tryz.prog w "strings.asciiSpace" .u8 Lib.asciiSpaceTab) : 2 < w.heap.size := by
 have hc := h.cell iU 0 (by rw [Lib.asciiSpaceTab_length]; omega)
 rcases Nat.lt_or_ge 2 w.heap.size with h' | h'
 ·exact h'
 ·simp [World.cell?,Array.getElem?_eq_none h'] at hc
theorem va {w w' : World} (h : Lib.TabIs Tryz.prog w "strings.asciiSpace" .u8 Lib.asciiSpaceTab) (hb : Below w.heap.size w w') : Lib.TabIs Tryz.prog w' "strings.asciiSpace" .u8 Lib.asciiSpaceTab :=
 var?_below hb iU (ii h) h
theorem mo {w : World} {k : Nat} (h : k < 33) : (w.alloc (.cells (yM.map fun l => Value.string ⟨l.toArray⟩).toArray 9)).cell? ⟨w.heap.size,k,none⟩ = some (.string ⟨(yM[k]'(by rw [xy]; exact h)).toArray⟩) := by
 rw [World.cell?_alloc_at _ _ _ _ rfl]
 simp [List.getElem?_eq_getElem (show k < yM.length by rw [xy]; exact h)]
theorem fU (w : World) (htab : Lib.TabIs Tryz.prog w "strings.asciiSpace" .u8 Lib.asciiSpaceTab) :
  Calls Tryz.prog 72 #[] w fun e w' => e = .returned (.agg #[.map (some (w.heap.size + 1))]) /\ w'.ownsMap Tryz.prog 9 (unitElem (H := Unit)) (w.heap.size + 1) 33 (vA 33) /\ Below w.heap.size w w' := by
 have hmm := @run_makeMap Tryz.prog; have HTB := zb (fun w' (hb : Below w.heap.size w w') => va htab hb); clear htab
 go_enter Tryz.func72,Tryz.ntmps72
 go_wp2_with fail
 show Calls Tryz.prog 104 #[.string uo] _ _
 refine (Tryz.strings_Fields uo _ (by decide) sW (HTB.out _ (((Below.refl _ _).alloc (Nat.le_refl _) _).alloc (by simp) _))).mono ?_; rintro e w1 ⟨he,hw1⟩; rw [kP,xy] at he; subst he
 have hsz : w1.heap.size = w.heap.size + 3 := by rw [hw1]; simp
 have hcell : ∀ (k : Nat) (h : k < 33),w1.cell? ⟨w.heap.size + 1 + 1,k,none⟩ = some (.string ⟨(yM[k]'(by rw [xy]; exact h)).toArray⟩) := fun k h => by
  have hk := mo (w := (w.alloc (.cells #[.map none] 93)).alloc (.map #[] 0)) h; simp only [World.size_alloc] at hk; rw [hw1,kP]
  exact hk
 have hmap : w1.ownsMap Tryz.prog 9 (unitElem (H := Unit)) (w.heap.size + 1) 0 (vA 0) := by
  rw [hw1]; have hk := (World.ownsMap_made (w.alloc (.cells #[.map none] 93)) Tryz.prog 9 (unitElem (H := Unit))).alloc (.cells ((Lib.fields uo.data.toList).map fun l => Value.string ⟨l.toArray⟩).toArray 9); simp only [World.size_alloc] at hk
  exact hk
 have hb1 : Below w.heap.size w w1 := by rw [hw1]; exact (((Below.refl _ _).alloc (Nat.le_refl _) _).alloc (by simp) _).alloc (by simp; omega) _
 have hbc : w1.cell? ⟨w.heap.size,0,none⟩ = some (.map none) := by
  rw [hw1,World.cell?_alloc_lt _ _ _ (by simp; omega),World.cell?_alloc_lt _ _ _ (by simp)]; simp
 have hbz : w1.frozen? ⟨w.heap.size,0,none⟩ = false := by
  rw [hw1,World.frozen?_alloc_old _ _ _ (by simp; omega),World.frozen?_alloc_old _ _ _ (by simp)]; simp
 simp only [World.size_alloc]; have HC := zb hcell; have HM := zb hmap; have HB := zb hb1; have HBC := zb hbc; have HBZ := zb hbz; have HSZ := zb hsz; clear hw1 hsz hcell hmap hb1 hbc hbz HTB hmm; go_wp2
 go_loopw [7] (fun iv wr => ∃ k : Nat,k <= 33 /\ iv = .int .i64 k /\ Hid (wr.ownsMap Tryz.prog 9 (unitElem (H := Unit)) (w.heap.size + 1) k (vA k)) /\ Hid (w1.grownBy wr (some (w.heap.size + 1)))) (fun iv _ => 33 - (intOf iv).toNat)
 case atStart => exact ⟨0,by omega,rfl,HM,zj _ _⟩
 case round =>
  obtain ⟨k,hk,rfl,HO,HG⟩ := hrel; have hsz := HSZ.out
  by_cases hlt : k < 33
  ·have d0 : wr.cell? ⟨w.heap.size + 1 + 1,k,none⟩ = _ := zO HG.out (HC.out k hlt) (by simp)
   have hls : k < yM.length := by rw [xy]; exact hlt
   have hkey : keyOf Tryz.prog 9 (.string ⟨(yM[k]'hls).toArray⟩) = some (.string (yM[k]'hls)) := by
    have := keyOf_string_mk (P := Tryz.prog) Tryz.underlying9 (s := ⟨(yM[k]'hls).toArray⟩) (tL k hls)
    simpa using this
   have hsucc := fs k hls
   generalize yM[k]'hls = x at d0 hkey hsucc
   have HS := zb hsucc; have HK := zb hkey; clear hsucc hkey
   go_wp2_with (first | (at_mapUpdate; refine wpList_mapUpdate_own _ rfl _ _ _ 91 rfl 9 128 tK Tryz.underlying91 (unitElem (H := Unit)) (w.heap.size + 1) k _ rfl HO.out (by unfold maxLen; omega) _ _ _ rfl rfl HK.out (.agg []) [] unitElem_mk ?_; intro w3 hown3 hg3))
   exact ⟨⟨k + 1,by omega,by go_num,by rw [HS.out]; exact hown3,za HG.out hg3⟩,by simp [intOf]; omega⟩
  ·obtain rfl : k = 33 := by omega
   have c0 := zO HG.out HBC.out (by simp); have z0 := yx HG.out (by simp; omega) HBZ.out (by simp); have hbb : Below w.heap.size w wr := HB.out.grown HG.out (by omega) (fun j hj => by cases hj; omega); have HBB := zb hbb; have HOS := zb (HO.out.setCell (a := ⟨w.heap.size,0,none⟩) (by simp) (.map (some (w.heap.size + 1)))); have g0 : (wr.setCell ⟨w.heap.size,0,none⟩ (.map (some (w.heap.size + 1)))).cell? ⟨w.heap.size,0,none⟩ = some (.map (some (w.heap.size + 1))) := World.cell?_setCell_same _ _ _ c0; clear hbb HG HO HBC HBZ HC HM HB hsz HSZ; go_wp2
   exact bodyPost_ret (v := .agg #[.map (some (w.heap.size + 1))]) (by simp [results,Tryz.results72,go_sem,g0]) rfl ⟨rfl,HOS.out,HBB.out.setCell (by simp) _⟩
def IsLex (w : World) (b : Nat) : Prop := w.ownsMap Tryz.prog 9 (unitElem (H := Unit)) b 33 (vA 33)
theorem IsLex.below {w w' : World} {b : Nat} (h : IsLex w b) (hb : Below w.heap.size w w') : IsLex w' b := World.ownsMap.kept h (⟨hb.os,hb.tape,hb.output,hb.size,fun i hi _ => hb.block i hi⟩ : w.grownBy w' none) (by simp)
theorem fL (b : Nat) (s : ByteArray) (w : World) (hs : s.size <= maxLen) (hx : IsLex w b) :
  Calls Tryz.prog 170 #[.agg #[.map (some b)],.string s] w fun e w' => e = .returned (.bool (uW s.data.toList)) /\ Below w.heap.size w w' := by
 have HK := zb (keyOf_string_mk (P := Tryz.prog) Tryz.underlying9 (s := s) hs)
 have HX := fun o => zb (World.ownsMap.alloc hx o)
 have HH := zb (fQ s.data.toList); clear hx
 go_enter Tryz.func170,Tryz.ntmps170
 go_wp2_with (first | (at_lookup; refine wpList_lookup_own_unit _ rfl _ _ 91 rfl 9 128 tK Tryz.underlying91 (iW _) b 33 (vA 33) rfl (HX _).out _ _ rfl HK.out ?_; rw [HH.out]))
 go_ret
 exact ⟨rfl,((Below.refl _ _).alloc (Nat.le_refl _) _).alloc (by simp) _⟩
def qs (l : Bs) : Bool := !l.isEmpty && decide (l.length <= 12) && zK (l.headD 0).toNat && l.all (fun c => lod c.toNat)
def yB (l : Bs) : Bool := qs l && !uW l
theorem li (s : ByteArray) (k : Nat) (h : k < s.size) : s[k] ∈ s.data.toList := mS s k h
theorem qG (s : ByteArray) (h : 0 < s.size) : s.data.toList.headD 0 = s[0] := (od s h).1
theorem kE (s : ByteArray) (h : s.size = 0) : yB s.data.toList = false := by
 have : s.data.toList = [] := List.eq_nil_of_length_eq_zero (by rw [<- xt]; exact h); rw [this]; rfl
theorem jl (s : ByteArray) (h : 12 < s.size) : yB s.data.toList = false := by
 unfold yB qs
 rw [<- xt]
 simp [show ¬ s.size <= 12 by omega]
theorem je (s : ByteArray) (k : Nat) (h : k < s.size) (hl : lod (s[k]).toNat = false) : yB s.data.toList = false := by
 unfold yB qs
 have : s.data.toList.all (fun c => lod c.toNat) = false := by
  rw [List.all_eq_false]
  exact ⟨s[k],li s k h,by simp [hl]⟩
 rw [this]; simp
theorem ui (s : ByteArray) (h : 0 < s.size) (hl : zK (s[0]).toNat = false) : yB s.data.toList = false := by
 unfold yB qs
 rw [qG s h,hl]; simp
theorem gH (s : ByteArray) (h0 : 0 < s.size) (h12 : s.size <= 12) (hl : zK (s[0]).toNat = true) (ha : ∀ (j : Nat) (h : j < s.size),lod (s[j]'h).toNat = true) : yB s.data.toList = !uW s.data.toList := by
 unfold yB qs
 have h1 : s.data.toList.all (fun c => lod c.toNat) = true := by
  rw [List.all_eq_true]; intro c hc; obtain ⟨j,hj,rfl⟩ := List.getElem_of_mem hc
  exact ha j (by rw [xt]; exact hj)
 have h2 : s.data.toList.isEmpty = false := by
  cases h : s.data.toList with
  | nil => rw [xt,h] at h0; simp at h0
  | cons a l => rfl
 rw [qG s h0,hl,h1,h2,<- xt]
 simp [h12]
theorem xX (s : ByteArray) : s.toList.isEmpty = decide (s.size = 0) := by
 rw [ug,xt]
 cases s.data.toList <;> simp
theorem kG (b : Nat) (s : ByteArray) (w : World) (hs : s.size <= maxLen) (hx : IsLex w b) :
  Calls Tryz.prog 142 #[.agg #[.map (some b)],.string s] w fun e w' => e = .returned (.bool (yB s.data.toList)) /\ Below w.heap.size w w' := by
 by_cases h0 : s.size = 0
 ·have hemp : s.toList.isEmpty = true := by rw [xX]; simp [h0]
  have HN := zb (kE s h0); clear h0 hx
  go_enter Tryz.func142,Tryz.ntmps142
  go_wp2
  go_ret
  exact ⟨by rw [HN.out]; rfl,(Below.refl _ _).alloc (Nat.le_refl _) _⟩
 ·have hemp : s.toList.isEmpty = false := by rw [xX]; simp [h0]
  by_cases h12 : 12 < s.size
  ·have HN := zb (jl s h12)
   clear h0 hx
   unfold maxLen at hs
   go_enter Tryz.func142,Tryz.ntmps142
   go_wp2
   go_ret
   exact ⟨by rw [HN.out]; rfl,(Below.refl _ _).alloc (Nat.le_refl _) _⟩
  ·have h1 : 1 <= s.size := by omega
   have h13 : s.size <= 12 := by omega
   have HX := zb hx; clear h0 h12 hx
   go_enter Tryz.func142,Tryz.ntmps142
   go_wp2
   go_loopw [6] (fun _ wr => ∃ k : Nat,wr = (w.alloc (.cells #[.map (some b)] 93)).iter s k /\ k <= s.size /\ Hid (0 < k -> ∀ h : 0 < s.size,zK (s[0]'h).toNat = true) /\ Hid (∀ (j : Nat) (h : j < s.size),j < k -> lod (s[j]'h).toNat = true)) (fun _ wr => s.size - wr.iterPos (w.alloc (.cells #[.map (some b)] 93)).heap.size)
   case atStart => exact ⟨0,rfl,Nat.zero_le _,fun h => by omega,fun j h hj => by omega⟩
   case round =>
    obtain ⟨k,rfl,_,HL,HB⟩ := hrel
    have hsz : (w.alloc (.cells #[.map (some b)] 93)).heap.size = w.heap.size + 1 := by simp
    by_cases hlt : k < s.size
    ·have hnx : ∀ ty,(Instr.next (.pointer (some ⟨(w.alloc (.cells #[.map (some b)] 93)).heap.size,0,none⟩)) true ty).run Tryz.prog ((w.alloc (.cells #[.map (some b)] 93)).iter s k) = _ := fun ty => run_next_any (w.alloc (.cells #[.map (some b)] 93)) s k ty hlt
     rw [hsz] at hnx
     have hlast : ∀ w',Below w.heap.size w ((w.alloc (.cells #[.map (some b)] 93)).iter s w') := fun w' => ((Below.refl _ _).alloc (Nat.le_refl _) _).alloc (by simp) _
     have HLa := zb hlast; clear hlast hsz
     have hdec : zK (Utf8.decode s k).1 = zK (s[k]'hlt).toNat /\ yq (Utf8.decode s k).1 = yq (s[k]'hlt).toNat := by
      by_cases ha : (s[k]'hlt).toNat < 128
      ·rw [decode_ascii s k hlt ha]; exact ⟨rfl,rfl⟩
      ·have hd := (decode_high s k hlt (by omega)).1
       have f1 : ∀ n : Int,128 <= n -> zK n = false := fun n hn => by simp [zK]; omega
       exact ⟨by rw [f1 _ (by omega),f1 _ (by omega)],by rw [jj (by omega),jj (by omega)]⟩
     cases hl : zK (s[k]'hlt).toNat
     ·have hl' := hdec.1.trans hl
      by_cases hk0 : k = 0
      ·subst hk0
       have HN := zb (ui s hlt hl); clear hl hdec
       go_wp2_with (go_at_call 168; refine (uq _ _).mono ?_; rintro e w' ⟨rfl,rfl⟩; simp only [hl'])
       go_ret
       exact ⟨by rw [HN.out]; rfl,HLa.out _⟩
      ·have hz : ((k : Int) == 0) = false := by simp; omega
       cases hd : yq (s[k]'hlt).toNat
       ·have hd' := hdec.2.trans hd
        have HN := zb (je s k hlt (by simp [lod,hl,hd])); clear hl hd hdec
        go_wp2_with (first | (go_at_call 168; refine (uq _ _).mono ?_; rintro e w' ⟨rfl,rfl⟩; simp only [hl']) | (go_at_call 169; refine (gw _ _).mono ?_; rintro e w' ⟨rfl,rfl⟩; simp only [hd']))
        go_ret
        exact ⟨by rw [HN.out]; rfl,HLa.out _⟩
       ·have hd' := hdec.2.trans hd
        have HN : Hid (lod (s[k]'hlt).toNat = true) := by unfold lod; rw [hl,hd]; rfl
        have ha : (s[k]'hlt).toNat < 128 := by
         rcases Nat.lt_or_ge (s[k]'hlt).toNat 128 with h | h
         ·exact h
         ·rw [jj (by omega)] at hd; cases hd
        rw [decode_ascii s k hlt ha] at hnx hl' hd'; clear hl hd hdec
        go_wp2_with (first | (go_at_call 168; refine (uq _ _).mono ?_; rintro e w' ⟨rfl,rfl⟩; simp only [hl']) | (go_at_call 169; refine (gw _ _).mono ?_; rintro e w' ⟨rfl,rfl⟩; simp only [hd']))
        go_roundw
        case rel => exact ⟨k + 1,rfl,by omega,fun _ h => HL.out (by omega) h,fun j h hj => by
         rcases Nat.lt_or_ge j k with h1 | h1
         ·exact HB.out j h h1
         ·obtain rfl : j = k := by omega
          exact HN.out⟩
        case measure => simp only [World.iterPos_iter]; omega
     ·have hl' := hdec.1.trans hl
      have HN : Hid (lod (s[k]'hlt).toNat = true) := by unfold lod; rw [hl]; rfl
      have HL2 : Hid (zK (s[k]'hlt).toNat = true) := hl
      have ha : (s[k]'hlt).toNat < 128 := by
       rcases Nat.lt_or_ge (s[k]'hlt).toNat 128 with h | h
       ·exact h
       ·have : zK (s[k]'hlt).toNat = false := by simp [zK]; omega
        rw [this] at hl; cases hl
      rw [decode_ascii s k hlt ha] at hnx hl'; clear hl hdec
      go_wp2_with (go_at_call 168; refine (uq _ _).mono ?_; rintro e w' ⟨rfl,rfl⟩; simp only [hl'])
      go_roundw
      case rel => exact ⟨k + 1,rfl,by omega,fun _ h => by
       rcases Nat.eq_zero_or_pos k with h0 | h0
       ·subst h0; exact HL2.out
       ·exact HL.out h0 h,fun j h hj => by
       rcases Nat.lt_or_ge j k with h1 | h1
       ·exact HB.out j h h1
       ·obtain rfl : j = k := by omega
        exact HN.out⟩
      case measure => simp only [World.iterPos_iter]; omega
    ·have hnx : ∀ ty,(Instr.next (.pointer (some ⟨(w.alloc (.cells #[.map (some b)] 93)).heap.size,0,none⟩)) true ty).run Tryz.prog ((w.alloc (.cells #[.map (some b)] 93)).iter s k) = _ := fun ty => run_next_end (w.alloc (.cells #[.map (some b)] 93)) s k ty hlt
     rw [hsz] at hnx; have HN := zb (gH s (by omega) h13 (HL.out (by omega) (by omega)) (fun j h => HB.out j h (by omega))); have hb : Below w.heap.size w ((w.alloc (.cells #[.map (some b)] 93)).iter s k) := ((Below.refl _ _).alloc (Nat.le_refl _) _).alloc (by simp) _
     have c0 : ((w.alloc (.cells #[.map (some b)] 93)).iter s k).cell? ⟨w.heap.size,0,none⟩ = some (.map (some b)) := by
      show (World.alloc _ _).cell? _ = _
      rw [World.cell?_alloc_lt _ _ _ (by simp)]; simp
     have HX2 : Hid (IsLex ((w.alloc (.cells #[.map (some b)] 93)).iter s k) b) := HX.out.below hb; have HBB := zb hb; clear hb hsz HX HL HB
     go_wp2_with (go_at_call 170; refine (fL b s _ hs HX2.out).mono ?_; rintro e w1 ⟨rfl,hb1⟩)
     go_ret
     exact ⟨by rw [HN.out]; rfl,HBB.out.trans (hb1.mono HBB.out.size)⟩
structure Kept33 (w : World) (a : Addr) (cap : Nat) : Prop where
 lt : a.block < w.heap.size
 head : w.cell? ⟨1,0,none⟩ = some (.slice (some a) 33 cap)
 room : 33 <= cap /\ cap <= maxLen
 cell : ∀ (k : Nat) (h : k < 33),w.cell? (a.add k) = some (.string ⟨(yM[k]'(by rw [xy]; exact h)).toArray⟩)
theorem jh {l : List Bs} {x : Bs} {k : Nat} (h : k < l.length) (h1 : x ∉ l.take k) (h2 : l[k] ≠ x) : x ∉ l.take (k + 1) := by
 rw [List.take_succ_eq_append_getElem h]; intro hm
 rcases List.mem_append.1 hm with hm | hm
 ·exact h1 hm
 ·simp at hm; exact h2 hm.symm
theorem iA (s : ByteArray) (a : Addr) (cap : Nat) (w : World) (hk : Kept33 w a cap) :
  Calls Tryz.prog 92 #[.string s,.slice (some a) 33 cap] w fun e w' => e = .returned (.bool (uW s.data.toList)) /\ w' = w := by
 have hr := hk.room; have HC := zb hk.cell; clear hk
 unfold maxLen at hr
 go_enter Tryz.func92,Tryz.ntmps92
 go_wp2
 go_loop [5] (fun i => ∃ k : Nat,k <= 33 /\ i = .int .i64 k /\ Hid (s.data.toList ∉ yM.take k)) (fun i => 33 - (intOf i).toNat)
 case atStart => exact ⟨0,by omega,rfl,by show _ ∉ _; simp⟩
 case round =>
  obtain ⟨k,hk,rfl,HB⟩ := hrel
  by_cases hlt : k < 33
  ·have hls : k < yM.length := by rw [xy]; exact hlt
   have hc := HC.out k hlt; cases he : (yM[k]'hls == s.toList)
   ·have HN : Hid (s.data.toList ∉ yM.take (k + 1)) := jh hls HB.out (fun h => by rw [h,ug] at he; simp at he)
    go_wp2
    exact ⟨⟨k + 1,by omega,by go_num,HN⟩,by simp [intOf]; omega⟩
   ·have HN : Hid (uW s.data.toList = true) := by
     have e : yM[k]'hls = s.data.toList := by rw [<- ug]; simpa using he
     show yM.contains _ = true
     rw [List.contains_iff_mem,<- e]
     exact List.getElem_mem hls
    go_wp2
    go_ret
    exact ⟨by rw [HN.out]; rfl,rfl⟩
  ·have hc : Hid (uW s.data.toList = false) := by
    have e : yM.take k = yM := List.take_of_length_le (by rw [xy]; omega); have := HB.out; rw [e] at this
    show yM.contains _ = false
    rw [Bool.eq_false_iff,ne_eq,List.contains_iff_mem]
    exact this
   go_wp2
   go_ret
   exact ⟨by rw [hc.out]; rfl,rfl⟩
theorem uG (s : ByteArray) (a : Addr) (cap : Nat) (w : World) (hk : Kept33 w a cap) :
  Calls Tryz.prog 94 #[.string s] w fun e w' => e = .returned (.bool (uW s.data.toList)) /\ w' = w := by
 have c0 := hk.head; have HK := zb hk; clear hk
 go_enter Tryz.func94,Tryz.ntmps94
 go_wp2_with (go_at_call 92; refine (iA s a cap _ HK.out).mono ?_; rintro e w' ⟨rfl,rfl⟩)
 go_ret
 exact ⟨rfl,rfl⟩
theorem vT (s : ByteArray) (a : Addr) (cap : Nat) (w : World) (hs : s.size <= maxLen) (hk : Kept33 w a cap) :
  Calls Tryz.prog 57 #[.string s] w fun e w' => e = .returned (.bool (yB s.data.toList)) /\ w' = w := by
 have HK := zb hk; clear hk
 unfold maxLen at hs
 by_cases h0 : s.size = 0
 ·have hemp : s.toList.isEmpty = true := by rw [xX]; simp [h0]
  have HN := zb (kE s h0); clear h0
  go_enter Tryz.func57,Tryz.ntmps57
  go_wp2
  go_ret
  exact ⟨by rw [HN.out]; rfl,rfl⟩
 ·have hemp : s.toList.isEmpty = false := by rw [xX]; simp [h0]
  by_cases h12 : 12 < s.size
  ·have HN := zb (jl s h12)
   clear h0
   go_enter Tryz.func57,Tryz.ntmps57
   go_wp2
   go_ret
   exact ⟨by rw [HN.out]; rfl,rfl⟩
  ·have h1 : 0 < s.size := by omega
   have h13 : s.size <= 12 := by omega
   clear h0 h12; cases hkp : uW s.data.toList
   ·cases hl : zK (s[0]'h1).toNat
    ·have HN := zb (ui s h1 hl)
     go_enter Tryz.func57,Tryz.ntmps57
     go_wp2_with (first | (go_at_call 94; refine (uG s a cap _ HK.out).mono ?_; rintro e w' ⟨rfl,rfl⟩; simp only [hkp]) | (go_at_call 23; refine (xn _ _).mono ?_; rintro e w' ⟨rfl,rfl⟩; simp only [hl]))
     go_ret
     exact ⟨by rw [HN.out]; rfl,rfl⟩
    ·have HN := fun ha => zb (gH s h1 h13 hl ha)
     go_enter Tryz.func57,Tryz.ntmps57
     go_wp2_with (first | (go_at_call 94; refine (uG s a cap _ HK.out).mono ?_; rintro e w' ⟨rfl,rfl⟩; simp only [hkp]) | (go_at_call 23; refine (xn _ _).mono ?_; rintro e w' ⟨rfl,rfl⟩; simp only [hl]))
     clear hl
     go_loop [3] (fun i => ∃ k : Nat,k <= s.size /\ i = .int .i64 k /\ Hid (∀ (j : Nat) (h : j < s.size),j < k -> lod (s[j]'h).toNat = true)) (fun i => s.size - (intOf i).toNat)
     case atStart => exact ⟨0,by omega,rfl,fun j h hj => by omega⟩
     case round =>
      obtain ⟨k,hk,rfl,HB⟩ := hrel
      by_cases hlt : k < s.size
      ·cases hl : zK (s[k]'hlt).toNat
       ·cases hd : yq (s[k]'hlt).toNat
        ·have HF := zb (je s k hlt (by simp [lod,hl,hd]))
         go_wp2_with (first | (go_at_call 23; refine (xn _ _).mono ?_; rintro e w' ⟨rfl,rfl⟩; simp only [hl]) | (go_at_call 24; refine (xU _ _).mono ?_; rintro e w' ⟨rfl,rfl⟩; simp only [hd]))
         go_ret
         exact ⟨by rw [HF.out]; rfl,rfl⟩
        ·have HY : Hid (lod (s[k]'hlt).toNat = true) := by unfold lod; rw [hl,hd]; rfl
         go_wp2_with (first | (go_at_call 23; refine (xn _ _).mono ?_; rintro e w' ⟨rfl,rfl⟩; simp only [hl]) | (go_at_call 24; refine (xU _ _).mono ?_; rintro e w' ⟨rfl,rfl⟩; simp only [hd]))
         exact ⟨⟨k + 1,by omega,by go_num,fun j h hj => by
          rcases Nat.lt_or_ge j k with h1 | h1
          ·exact HB.out j h h1
          ·obtain rfl : j = k := by omega
           exact HY.out⟩,by simp [intOf]; omega⟩
       ·have HY : Hid (lod (s[k]'hlt).toNat = true) := by unfold lod; rw [hl]; rfl
        go_wp2_with (first | (go_at_call 23; refine (xn _ _).mono ?_; rintro e w' ⟨rfl,rfl⟩; simp only [hl]))
        exact ⟨⟨k + 1,by omega,by go_num,fun j h hj => by
         rcases Nat.lt_or_ge j k with h1 | h1
         ·exact HB.out j h h1
         ·obtain rfl : j = k := by omega
          exact HY.out⟩,by simp [intOf]; omega⟩
      ·have HY := HN (fun j h => HB.out j h (by omega))
       go_wp2
       go_ret
       exact ⟨by rw [HY.out,hkp]; rfl,rfl⟩
   ·have HN : Hid (yB s.data.toList = false) := by unfold yB; rw [hkp]; simp [Hid]
    go_enter Tryz.func57,Tryz.ntmps57
    go_wp2_with (first | (go_at_call 94; refine (uG s a cap _ HK.out).mono ?_; rintro e w' ⟨rfl,rfl⟩; simp only [hkp]))
    go_ret
    exact ⟨by rw [HN.out]; rfl,rfl⟩
end Go.Proofs.YtifapidjkelnfaaGreatDoor

namespace Go.Proofs.YtifapidjkelnfaaGreatDoor
open Go.RowKit
inductive T where
 | mk (kind : Int) (name : Bs) (num at' : Int) (subs : List T)
def T.kind : T -> Int
 | .mk k _ _ _ _ => k
def T.name : T -> Bs
 | .mk _ s _ _ _ => s
def T.num : T -> Int
 | .mk _ _ n _ _ => n
def T.at' : T -> Int
 | .mk _ _ _ a _ => a
def T.subs : T -> List T
 | .mk _ _ _ _ l => l
abbrev zq (t : T) (sv : Value) : Value := .agg #[.int .i64 t.kind,.string ⟨t.name.toArray⟩,.int .i64 t.num,.int .i64 t.at',sv]
structure Fits (t : T) : Prop where
 name : t.name.length <= maxLen
 k1 : -9223372036854775808 <= t.kind
 k2 : t.kind <= 9223372036854775807
 n1 : -9223372036854775808 <= t.num
 n2 : t.num <= 9223372036854775807
structure Node5 (w : World) (g o : Nat) (t : T) (sv : Value) : Prop where
 c0 : w.cell? ⟨g,o,none⟩ = some (.int .i64 t.kind)
 c1 : w.cell? ⟨g,o + 1,none⟩ = some (.string ⟨t.name.toArray⟩)
 c2 : w.cell? ⟨g,o + 2,none⟩ = some (.int .i64 t.num)
 c3 : w.cell? ⟨g,o + 3,none⟩ = some (.int .i64 t.at')
 c4 : w.cell? ⟨g,o + 4,none⟩ = some sv
inductive AT (w : World) : List T -> Value -> Prop
 | nil (a : Option Addr) (c : Nat) (hc : c <= maxLen) : AT w [] (.slice a 0 c)
 | mk (ts : List T) (g o c : Nat) (svs : List Value) (hl : svs.length = ts.length) (h1 : ts.length <= c) (h2 : c <= maxLen)
   (cells : ∀ (i : Nat) (t : T) (sv : Value),ts[i]? = some t -> svs[i]? = some sv -> Node5 w g (o + i * 5) t sv /\ Fits t)
   (sub : ∀ (i : Nat) (t : T) (sv : Value),ts[i]? = some t -> svs[i]? = some sv -> AT w t.subs sv) : AT w ts (.slice (some ⟨g,o,none⟩) ts.length c)
theorem zc {w : World} {a : Addr} {v : Value} (h : w.cell? a = some v) : a.block < w.heap.size := World.block_lt_of_cell? w a h
theorem zg {w w' : World} {a : Addr} {v : Value} (hg : w.grownBy w' none) (h : w.cell? a = some v) : w'.cell? a = some v := by
 have b := hg.block a.block (zc h) (by simp)
 unfold World.cell? at h ⊢
 rw [b]
 exact h
theorem y7 {a w : World} {row : Option Nat} {b : Nat} (h : a.grownBy w row) (hb : a.heap.size <= b) (o : Nat) (v : Value) : a.grownBy (w.setCell ⟨b,o,none⟩ v) row :=
 ⟨h.os,h.tape,h.output,by simpa [World.setCell] using h.size,fun k hk hne => (Below.heap_setCell _ _ _ _ (by simp; omega)).trans (h.block k hk hne)⟩
theorem ze {a w : World} {row : Option Nat} (h : a.grownBy w row) : a.grownBy w.drew row := yl h 1
theorem Node5.kept {w w' : World} {g o : Nat} {t : T} {sv : Value} (h : Node5 w g o t sv) (hg : w.grownBy w' none) : Node5 w' g o t sv :=
 ⟨zg hg h.c0,zg hg h.c1,zg hg h.c2,zg hg h.c3,zg hg h.c4⟩
theorem AT.kept {w w' : World} {ts : List T} {v : Value} (h : AT w ts v) (hg : w.grownBy w' none) : AT w' ts v := by
 induction h with
 | nil a c hc => exact .nil a c hc
 | mk ts g o c svs hl h1 h2 cells sub ih => exact .mk ts g o c svs hl h1 h2 (fun i t sv e1 e2 => ⟨(cells i t sv e1 e2).1.kept hg,(cells i t sv e1 e2).2⟩) ih
theorem AT.form {w : World} {ts : List T} {v : Value} (h : AT w ts v) : ∃ a c,v = .slice a ts.length c /\ ts.length <= c /\ c <= maxLen := by
 cases h with
 | nil a c hc => exact ⟨a,c,rfl,Nat.zero_le _,hc⟩
 | mk _ g o c svs hl h1 h2 cells sub => exact ⟨_,c,rfl,h1,h2⟩
theorem AT.node {w : World} {ts : List T} {a : Option Addr} {n c : Nat} (h : AT w ts (.slice a n c)) (i : Nat) (t : T) (ht : ts[i]? = some t) :
  ∃ g o sv,a = some ⟨g,o,none⟩ /\ Node5 w g (o + i * 5) t sv /\ Fits t /\ AT w t.subs sv := by
 have f : i < ts.length := by
  rcases Nat.lt_or_ge i ts.length with d | d
  ·exact d
  ·rw [List.getElem?_eq_none d] at ht; cases ht
 cases h with
 | nil a c hc => simp at f
 | mk _ g o c svs hl h1 h2 cells sub =>
  obtain ⟨sv,b⟩ : ∃ sv,svs[i]? = some sv := ⟨_,List.getElem?_eq_getElem (by omega)⟩
  exact ⟨g,o,sv,rfl,(cells i t sv ht b).1,(cells i t sv ht b).2,sub i t sv ht b⟩
theorem AT.drop {w : World} {ts : List T} {g o n c : Nat} (h : AT w ts (.slice (some ⟨g,o,none⟩) n c)) (k : Nat) (hk : k <= ts.length) : AT w (ts.drop k) (.slice (some ⟨g,o + k * 5,none⟩) (n - k) (c - k)) := by
 cases h with
 | nil a c hc =>
  have : k = 0 := by simpa using hk
  subst this
  exact .nil _ _ hc
 | mk _ _ _ c svs hl h1 h2 cells sub =>
  have e : ts.length - k = (ts.drop k).length := by simp
  rw [e]; refine .mk (ts.drop k) g (o + k * 5) (c - k) (svs.drop k) (by simp [hl]) (by simp; omega) (by omega) (fun i t sv e1 e2 => ?_) (fun i t sv e1 e2 => ?_)
  ·rw [List.getElem?_drop] at e1 e2
   have := cells (k + i) t sv e1 e2; rw [show o + k * 5 + i * 5 = o + (k + i) * 5 by omega]
   exact this
  ·rw [List.getElem?_drop] at e1 e2
   exact sub (k + i) t sv e1 e2
/-! ### From what is read as data -/
theorem five {α : Type} (l : List α) (h : l.length = 5) : ∃ a b c d e,l = [a,b,c,d,e] := by
 match l,h with
 | [a,b,c,d,e],_ => exact ⟨a,b,c,d,e,rfl⟩
section
variable {H : Type} {enc : TypeId × Value -> H} {w : World} {base : Nat} {spare : Nat -> Bool} {held : Bool}
theorem ig {n : Int} (h : (Lit.int .i64 n).wf = true) : -9223372036854775808 <= n /\ n <= 9223372036854775807 := by
 have b : IntKind.i64.min = -9223372036854775808 := rfl
 have d : IntKind.i64.max = 9223372036854775807 := rfl
 simp [Lit.wf,b,d] at h
 omega
end
/-! ### Steps of a region,in short -/
section
variable {P : Program} {ops : Array Oper} {Q : Exit -> Act -> World -> Prop} {md : Region.Mode} {S : World -> Prop} {oi : Oper} {fuel : Nat} {listed : Array Bool} {a : Act} {w : World}
theorem tk (i : Nat) (v : Value) (hi : ops[i]? = some oi) (hy : ∀ w,S w -> (execOp a.eval oi).run P w = .ok (.value v) w) (hS : S w) (h : wpAnyH P md ops Q S fuel (listed.setIfInBounds i true) (a.put oi.dst v) w)
  (hs : Region.noSelect ops = true := by kernel_rfl) (hf : Region.free md ops listed i = true := by kernel_rfl) (hr : (Region.ready md ops listed).contains i = true := by kernel_rfl) (hQ : ∀ c a w,Q (.panic c) (a.put oi.dst v) w -> Q (.panic c) a w := by exact fun _ _ _ h => h) (hw : Region.wanted oi (yielded ops a.tmps) = true := by kernel_rfl) :
  wpAnyH P md ops Q S (fuel + 1) listed a w := wpAnyH_take hi hs hf hr hQ (Or.inl ⟨hw,hy⟩) hS h
theorem rd (i : Nat) (ho : ops[i]? = some oi) (h : ∀ K' : Act -> World -> Prop,Shut (∀ a w,S w -> (S w -> wpAnyH P md ops Q S fuel (listed.setIfInBounds i true) a w) -> K' a w) -> if Region.wanted oi (yielded ops a.tmps) = true then Oper.wp P oi a w K' Q else K' (a.put oi.dst undef) w)
  (hr : Region.ready md ops listed = [i] := by kernel_rfl) : wpAnyH P md ops Q S (fuel + 1) listed a w := wpAnyH_ready hr (by simp) (AllReadyH.cons ho h AllReadyH.nil)
end
theorem yC {a w : World} {row : Option Nat} {b o0 o1 o2 o3 o4 : Nat} {u0 u1 u2 u3 u4 : Value} (h : a.grownBy w row) (hb : a.heap.size <= b) : a.grownBy (((((w.setCell ⟨b,o0,none⟩ u0).setCell ⟨b,o1,none⟩ u1).setCell ⟨b,o2,none⟩ u2).setCell ⟨b,o3,none⟩ u3).setCell ⟨b,o4,none⟩ u4) row := y7 (y7 (y7 (y7 (y7 h hb _ _) hb _ _) hb _ _) hb _ _) hb _ _
theorem Node5.e {w : World} {g o : Nat} {t : T} {sv : Value} : Node5 w g o t sv ↔ (w.cell? ⟨g,o,none⟩ = some (.int .i64 t.kind) /\ w.cell? ⟨g,o + 1,none⟩ = some (.string ⟨t.name.toArray⟩) /\ w.cell? ⟨g,o + 2,none⟩ = some (.int .i64 t.num) /\ w.cell? ⟨g,o + 3,none⟩ = some (.int .i64 t.at') /\ w.cell? ⟨g,o + 4,none⟩ = some sv) := ⟨fun h => ⟨h.c0,h.c1,h.c2,h.c3,h.c4⟩,fun ⟨a,b,c,d,e⟩ => ⟨a,b,c,d,e⟩⟩
theorem tq {P : Program} {ops : Array Oper} {Q : Exit -> Act -> World -> Prop} {md : Region.Mode} {S : World -> Prop} {oi : Oper} {fuel : Nat} {listed : Array Bool} {a a' : Act} {w : World} {v : Value} (i : Nat) (h : wpAnyH P md ops Q S fuel (listed.setIfInBounds i true) a' w) (hi : ops[i]? = some oi := by first | (simp only [List.getElem?_toArray,List.getElem?_cons_succ,List.getElem?_cons_zero]; with_reducible rfl) | rfl) (hy : ∀ w,S w -> (execOp a.eval oi).run P w = .ok (.value v) w := by intro _ h; first | (go_simp; with_reducible rfl) | (simp only [Node5.e] at h; go_simp; with_reducible rfl)) (ha : a.put oi.dst v = a' := by simp only [Act.put,List.setIfInBounds_toArray]; with_reducible rfl) (hS : S w := by assumption)
  (hs : Region.noSelect ops = true := by kernel_rfl) (hf : Region.free md ops listed i = true := by kernel_rfl) (hr : (Region.ready md ops listed).contains i = true := by kernel_rfl) (hQ : ∀ c a w,Q (.panic c) (a.put oi.dst v) w -> Q (.panic c) a w := by exact fun _ _ _ h => h) (hw : Region.wanted oi (yielded ops a.tmps) = true := by kernel_rfl) :
  wpAnyH P md ops Q S (fuel + 1) listed a w := wpAnyH_take hi hs hf hr hQ (Or.inl ⟨hw,hy⟩) hS (ha ▸ h)
theorem Node5.p {w : World} {g o : Nat} {k : Int} {x : Bs} {m p : Int} {l : List T} {sv : Value} (h : Node5 w g o (.mk k x m p l) sv) : w.cell? ⟨g,o,none⟩ = some (.int .i64 k) /\ w.cell? ⟨g,o + 1,none⟩ = some (.string ⟨x.toArray⟩) /\ w.cell? ⟨g,o + 2,none⟩ = some (.int .i64 m) /\ w.cell? ⟨g,o + 3,none⟩ = some (.int .i64 p) /\ w.cell? ⟨g,o + 4,none⟩ = some sv := ⟨h.c0,h.c1,h.c2,h.c3,h.c4⟩
end Go.Proofs.YtifapidjkelnfaaGreatDoor

namespace Go.Proofs.YtifapidjkelnfaaGreatDoor
/-! ### Operators -/
def gd : List Bs := [[61],[35],[60],[60,61],[62],[62,61]]
def fe : List Bs := [[43],[45],[79,82]]
def fG : List Bs := [[42],[68,73,86],[77,79,68],[38]]
def inB (xs : List Bs) (x : Bs) : Bool := xs.contains x
def zo (x : Bs) : Int := if inB gd x = true then 0 else if inB fe x = true then 1 else if inB fG x = true then 2 else -1
/-! ### Shapes -/
def zk (t : T) (k : Int) (named : Bool) (most many : Int) : Bool :=
 decide (t.kind = k /\ 0 <= t.num /\ t.num <= most /\ (0 <= many -> (t.subs.length : Int) = many)) && (if named then yB t.name else t.name.isEmpty)
def vg : Int := 2147483647
inductive Rule where
 | module | imported | procedure | typeItself | typeName | typeNameOrNone | ref | act | expression | designator
 | list (r : Rule)
 | declared (kind most : Int) (r : Rule)
def zJ : List T -> List Rule -> List (T × Rule)
 | t :: l,r :: m => (t,r) :: zJ l m
 | _,_ => []
def yE (l : List T) (r : Rule) : List (T × Rule) := l.map fun t => (t,r)
def zt (c : Bool) (l : List (T × Rule)) : Option (List (T × Rule)) := if c = true then some l else none
def yW : List T -> List (T × Rule)
 | [] => []
 | [x] => [(x,.list .act)]
 | x :: y :: l => (x,.expression) :: (y,.list .act) :: yW l
def yJ (t : T) : Option (List (T × Rule)) :=
 if t.kind = 24 then zt (zk t 24 true 0 0) [] else
 if t.kind = 25 then zt (zk t 25 true 0 1) (zJ t.subs [.designator]) else
 if t.kind = 26 then zt (zk t 26 false 0 2) (zJ t.subs [.designator,.expression]) else
 if t.kind = 27 then zt (zk t 27 false 0 1) (zJ t.subs [.designator]) else
 if t.kind = 28 then zt (zk t 28 false 0 2) (zJ t.subs [.designator,.typeName]) else none
def yQ (t : T) (r q : Rule) : List (T × Rule) := match t.subs with
 | [] => []
 | x :: l => (x,r) :: yE l q
def yR (t : T) : Option (List (T × Rule)) :=
 if t.kind = 29 then zt (zk t 29 false vg 0) [] else
 if t.kind = 30 \/ t.kind = 31 \/ t.kind = 32 then zt (zk t t.kind false 0 0) [] else
 if t.kind = 33 then zt (zk t 33 false 0 (-1) && decide (0 < t.subs.length)) (yQ t .designator .expression) else
 if t.kind = 34 \/ t.kind = 35 then zt (zk t t.kind false 0 1) (zJ t.subs [.expression]) else
 if t.kind = 37 then zt (zk t 37 false 0 2) (zJ t.subs [.expression,.typeName]) else
 if t.kind = 36 then zt (decide (0 <= zo t.name) && t.num == 0 && t.subs.length == 2) (zJ t.subs [.expression,.expression]) else yJ t
def sX (t : T) : Option (List (T × Rule)) :=
 if t.kind = 16 then zt (t.name.isEmpty && decide (2 <= t.subs.length) && decide (((t.subs.length : Int) % 2) = t.num)) (yW t.subs) else
 if t.kind = 14 then zt (zk t 14 false 0 2) (zJ t.subs [.designator,.expression]) else
 if t.kind = 15 then zt (zk t 15 false 0 (-1) && decide (0 < t.subs.length)) (yQ t .designator .expression) else
 if t.kind = 17 then zt (zk t 17 false 0 2) (zJ t.subs [.expression,.list .act]) else
 if t.kind = 18 then zt (zk t 18 false 0 2) (zJ t.subs [.list .act,.expression]) else
 if t.kind = 19 then zt (zk t 19 false 0 (-1) && decide (t.subs.length <= 1)) (yE t.subs .expression) else
 if t.kind = 20 \/ t.kind = 22 then zt (zk t t.kind false 0 1) (zJ t.subs [.designator]) else
 if t.kind = 21 \/ t.kind = 23 then zt (zk t t.kind false 0 1) (zJ t.subs [.expression]) else none
def uk (t : T) : Option (List (T × Rule)) := zt (zk t 13 true 0 (-1) && decide (t.subs.length <= 1)) (yE t.subs .ref)
def zw : Rule -> T -> Option (List (T × Rule))
 | .module,t => zt (zk t 2 true 0 6) (zJ t.subs [.list .imported,.list (.declared 4 1 .expression),.list (.declared 5 1 .typeItself),.list (.declared 6 1 .typeName),.list .procedure,.list .act])
 | .imported,t => zt (zk t 3 true 0 0) []
 | .procedure,t => zt (zk t 7 true 1 4) (zJ t.subs [.list (.declared 8 1 .typeName),.typeNameOrNone,.list (.declared 6 0 .typeName),.list .act])
 | .typeItself,t =>
  if t.kind = 9 then zt (zk t 9 false vg 1) (zJ t.subs [.typeName]) else
  if t.kind = 12 then zt (zk t 12 false 0 1) (zJ t.subs [.typeName]) else
  if t.kind = 10 then zt (zk t 10 false 0 (-1) && decide (0 < t.subs.length)) (yQ t .typeNameOrNone (.declared 11 1 .typeName)) else none
 | .typeName,t => uk t
 | .typeNameOrNone,t => if t.kind = 0 then zt (zk t 0 false 0 0) [] else uk t
 | .ref,t => zt (zk t 24 true 0 0) []
 | .act,t => sX t
 | .expression,t => yR t
 | .designator,t => yJ t
 | .list r,t => zt (zk t 1 false 0 (-1)) (yE t.subs r)
 | .declared kind most r,t => zt (zk t kind true most 1) (zJ t.subs [r])
inductive Well : Rule -> T -> Prop
 | mk {r : Rule} {t : T} (l : List (T × Rule)) (h : zw r t = some l) (all : ∀ p ∈ l,Well p.2 p.1) : Well r t
theorem Well.iff {r : Rule} {t : T} : Well r t ↔ ∃ l,zw r t = some l /\ ∀ p ∈ l,Well p.2 p.1 :=
 ⟨fun h => by cases h with | mk l h all => exact ⟨l,h,all⟩,fun ⟨l,h,all⟩ => .mk l h all⟩
theorem Well.of_some {r : Rule} {t : T} {l : List (T × Rule)} (h : zw r t = some l) : Well r t ↔ ∀ p ∈ l,Well p.2 p.1 := by
 rw [Well.iff]
 exact ⟨fun ⟨m,hm,all⟩ => by rw [h] at hm; cases hm; exact all,fun all => ⟨l,h,all⟩⟩
theorem Well.of_none {r : Rule} {t : T} (h : zw r t = none) : ¬ Well r t := by
 rw [Well.iff]; rintro ⟨m,a,-⟩; rw [h] at a; cases a
def WellAll (l : List (T × Rule)) : Prop := ∀ p ∈ l,Well p.2 p.1
theorem WellAll.step {l : List (T × Rule)} {r : Rule} {t : T} {m : List (T × Rule)} (h : zw r t = some m) : WellAll (l ++ [(t,r)]) ↔ WellAll (l ++ m) := by
 unfold WellAll
 constructor
 ·intro H p b
  rcases List.mem_append.1 b with a | a
  ·exact H p (List.mem_append.2 (.inl a))
  ·exact (Well.of_some h).1 (H (t,r) (List.mem_append.2 (.inr (List.mem_singleton.2 rfl)))) p a
 ·intro H p b
  rcases List.mem_append.1 b with a | a
  ·exact H p (List.mem_append.2 (.inl a))
  ·cases List.mem_singleton.1 a
   exact (Well.of_some h).2 fun q hq => H q (List.mem_append.2 (.inr hq))
theorem WellAll.stop {l : List (T × Rule)} {r : Rule} {t : T} (h : zw r t = none) : ¬ WellAll (l ++ [(t,r)]) := fun H => Well.of_none h (H (t,r) (List.mem_append.2 (.inr (List.mem_singleton.2 rfl))))
/-! ### How many nodes,how deep -/
mutual
def zn : T -> Nat
 | .mk _ _ _ _ l => 1 + zx l
def zx : List T -> Nat
 | [] => 0
 | t :: l => zn t + zx l
end
mutual
def zS : T -> Nat
 | .mk _ _ _ _ l => 1 + yS l
def yS : List T -> Nat
 | [] => 0
 | t :: l => max (zS t) (yS l)
end
theorem yp {t u : T} (h : u ∈ t.subs) : zS u < zS t := by
 obtain ⟨k,x,n,a,l⟩ := t
 have H : ∀ l : List T,u ∈ l -> zS u <= yS l := by
  intro l
  induction l with
  | nil => intro h; cases h
  | cons t l ih =>
   intro h; rw [yS]
   rcases List.mem_cons.1 h with rfl | h
   ·exact Nat.le_max_left _ _
   ·exact Nat.le_trans (ih h) (Nat.le_max_right _ _)
 have := H l h; rw [show zS (T.mk k x n a l) = 1 + yS l by rw [zS]]
 omega
def yY (l : List (T × Rule)) : Nat := zx (l.map (·.1))
theorem vX (l m : List T) : zx (l ++ m) = zx l + zx m := by
 induction l with
 | nil => rw [List.nil_append,zx]; omega
 | cons t l ih => rw [List.cons_append,zx,zx,ih]; omega
/-! ### Texts -/
def zz (t : T) : Bs := match t.subs with
 | [m] => m.name ++ (46 :: t.name)
 | _ => t.name
def zv (t : T) : Bs := if t.num = 1 then t.name ++ [42] else t.name
def kI : Nat -> Nat -> Bs
 | 0,_ => []
 | f + 1,n => if n < 10 then [UInt8.ofNat (48 + n)] else kI f (n / 10) ++ [UInt8.ofNat (48 + n % 10)]
def vC (n : Int) : Bs := kI 11 n.toNat
def zI (t : T) (i : Nat) : T := t.subs[i]?.getD (.mk 0 [] 0 0 [])
def vd (t : T) : Int := if t.kind = 36 then zo t.name else if t.kind = 37 then 0 else if t.kind = 35 then 1 else 3
def zE (sep : Bs) : List Bs -> Bs
 | [] => []
 | [x] => x
 | x :: l => x ++ (sep ++ zE sep l)
def zl : Nat -> T -> Bs
 | 0,_ => []
 | f + 1,t =>
  let at9 := fun (u : T) (r : Int) => if vd u < r then 40 :: (zl f u ++ [41]) else zl f u
  let s0 := zI t 0
  let s1 := zI t 1
  if t.kind = 24 then t.name else
  if t.kind = 25 then zl f s0 ++ (46 :: t.name) else
  if t.kind = 26 then zl f s0 ++ (91 :: (zl f s1 ++ [93])) else
  if t.kind = 27 then zl f s0 ++ [94] else
  if t.kind = 28 then zl f s0 ++ (123 :: (zz s1 ++ [125])) else
  if t.kind = 29 then vC t.num else
  if t.kind = 30 then [84,82,85,69] else
  if t.kind = 31 then [70,65,76,83,69] else
  if t.kind = 32 then [78,73,76] else
  if t.kind = 33 then zl f s0 ++ (40 :: (zE [44,32] ((t.subs.drop 1).map (zl f)) ++ [41])) else
  if t.kind = 34 then 126 :: at9 s0 3 else
  if t.kind = 35 then 45 :: at9 s0 2 else
  if t.kind = 37 then at9 s0 1 ++ ([32,73,83,32] ++ zz s1) else
  at9 s0 (if zo t.name = 2 then 2 else 1) ++ (32 :: (t.name ++ (32 :: at9 s1 (if zo t.name = 1 then 2 else if zo t.name = 2 then 3 else 1))))
end Go.Proofs.YtifapidjkelnfaaGreatDoor

namespace Go.Proofs.YtifapidjkelnfaaGreatDoor
def zD (L : Nat) : Bs := List.replicate (2 * L) 32
def ff (f : Nat) (l : List T) : Bs := 40 :: (zE [44,32] (l.map (zl f)) ++ [41])
def yz (sep last : Bs) (tx : T -> Bs) (L : Nat) (l : List T) : Bs :=
 if l.isEmpty then [] else zE (sep ++ [10]) (l.map fun t => zD (L + 1) ++ tx t) ++ (last ++ [10])
def yn (ex ac : T -> Bs) (L : Nat) : List T -> Bs
 | [] => []
 | [x] => zD L ++ ([69,76,83,69,10] ++ ac x)
 | x :: y :: l => zD L ++ ([69,76,83,73,70,32] ++ (ex x ++ ([32,84,72,69,78,10] ++ (ac y ++ yn ex ac L l))))
def vG (k : Int) : Bs := if k = 20 then [78,69,87] else if k = 21 then [79,85,84] else if k = 22 then [71,69,84] else [65,83,83,69,82,84]
def zZ : Nat -> Nat -> T -> Bs
 | 0,_,_ => []
 | f + 1,L,t =>
  let acts := fun (u : T) => yz [59] [] (zZ f (L + 1)) L u.subs
  let s0 := zI t 0
  let s1 := zI t 1
  if t.kind = 14 then zl f s0 ++ ([32,58,61,32] ++ zl f s1) else
  if t.kind = 15 then zl f s0 ++ (if 1 < t.subs.length then ff f (t.subs.drop 1) else []) else
  if t.kind = 16 then [73,70,32] ++ (zl f s0 ++ ([32,84,72,69,78,10] ++ (acts s1 ++ (yn (zl f) acts L (t.subs.drop 2) ++ (zD L ++ [69,78,68]))))) else
  if t.kind = 17 then [87,72,73,76,69,32] ++ (zl f s0 ++ ([32,68,79,10] ++ (acts s1 ++ (zD L ++ [69,78,68])))) else
  if t.kind = 18 then [82,69,80,69,65,84,10] ++ (acts s0 ++ (zD L ++ ([85,78,84,73,76,32] ++ zl f s1))) else
  if t.kind = 19 then [82,69,84,85,82,78] ++ (if 0 < t.subs.length then 32 :: zl f s0 else []) else
  vG t.kind ++ (40 :: (zl f s0 ++ [41]))
def yr (f L : Nat) (l : List T) : Bs := yz [59] [] (zZ f (L + 1)) L l
def zF (t : T) : Bs := zv t ++ ([58,32] ++ zz (zI t 0))
def zR (t : T) : Bs := (if t.num = 1 then [86,65,82,32] else []) ++ (t.name ++ ([58,32] ++ zz (zI t 0)))
def zu (tx : T -> Bs) : List T -> Bs
 | [] => []
 | t :: l => tx t ++ zu tx l
def xF (t : T) : Bs :=
 if t.kind = 9 then [65,82,82,65,89,32] ++ (vC t.num ++ ([32,79,70,32] ++ zz (zI t 0))) else
 if t.kind = 12 then [80,79,73,78,84,69,82,32,84,79,32] ++ zz (zI t 0) else
 [82,69,67,79,82,68,32] ++ ((if (zI t 0).kind = 0 then [] else 40 :: (zz (zI t 0) ++ [41,32])) ++ (zu (fun x => zF x ++ [59,32]) (t.subs.drop 1) ++ [69,78,68]))
def yt (f : Nat) (t : T) : Bs := zv t ++ ([32,61,32] ++ zl f (zI t 0))
def yu (t : T) : Bs := zv t ++ ([32,61,32] ++ xF (zI t 0))
def zy (word : Bs) (tx : T -> Bs) (l : List T) : Bs := if l.isEmpty then [] else word ++ (10 :: yz [59] [59] tx 0 l)
def VARw : Bs := [86,65,82]
def xh (f : Nat) (t : T) : Bs :=
 let ps := (zI t 0).subs
 let r := zI t 1
 [80,82,79,67,69,68,85,82,69,32] ++ (zv t ++ ((if ps.isEmpty && r.kind == 0 then [] else 40 :: (zE [59,32] (ps.map zR) ++ [41])) ++ ((if r.kind = 0 then [] else [58,32] ++ zz r) ++ ([59,10] ++
  (zy VARw zF (zI t 2).subs ++ ([66,69,71,73,78,10] ++ (yr f 0 (zI t 3).subs ++ ([69,78,68,32] ++ (t.name ++ [59,10])))))))))
def yj (l : List T) : Bs := if l.isEmpty then [] else [73,77,80,79,82,84,32] ++ (zE [44,32] (l.map T.name) ++ [59,10])
def yw (f : Nat) (t : T) : Bs :=
 [77,79,68,85,76,69,32] ++ (t.name ++ ([59,10] ++ (yj (zI t 0).subs ++ (zy [67,79,78,83,84] (yt f) (zI t 1).subs ++ (zy [84,89,80,69] yu (zI t 2).subs ++ (zy VARw zF (zI t 3).subs ++
  (zu (xh f) (zI t 4).subs ++ ((if (zI t 5).subs.isEmpty then [] else [66,69,71,73,78,10] ++ yr f 0 (zI t 5).subs) ++ ([69,78,68,32] ++ (t.name ++ [46,10]))))))))))
/-! ### Lengths -/
theorem zr (L : Nat) : (zD L).length = 2 * L := by simp [zD]
theorem tZ (sep : Bs) (l : List Bs) (x : Bs) : zE sep (l ++ [x]) = zE sep l ++ ((if l.isEmpty then [] else sep) ++ x) := by
 induction l with
 | nil => simp [zE]
 | cons y l ih =>
  cases l with
  | nil => simp [zE]
  | cons z l =>
   have e : zE sep (y :: (z :: l ++ [x])) = y ++ (sep ++ zE sep (z :: l ++ [x])) := rfl
   rw [List.cons_append,e,ih]
   simp [zE]
theorem vq (sep : Bs) (tx : T -> Bs) (c : Nat) (l : List T) (h : ∀ t ∈ l,(tx t).length + sep.length <= c * zn t) : (zE sep (l.map tx)).length <= c * zx l := by
 induction l with
 | nil => simp [zE]
 | cons t l ih =>
  have a := h t (by simp); have b := ih (fun u hu => h u (by simp [hu])); rw [zx,Nat.mul_add]; cases l with
  | nil => simp only [List.map_cons,List.map_nil,zE]; omega
  | cons z l =>
   have e : zE sep ((t :: z :: l).map tx) = tx t ++ (sep ++ zE sep ((z :: l).map tx)) := rfl
   rw [e]; simp only [List.length_append]
   omega
theorem xV (tx : T -> Bs) (c : Nat) (l : List T) (h : ∀ t ∈ l,(tx t).length <= c * zn t) : (zu tx l).length <= c * zx l := by
 induction l with
 | nil => simp [zu]
 | cons t l ih =>
  have a := h t (by simp); have b := ih (fun u hu => h u (by simp [hu])); rw [zx,Nat.mul_add]; simp only [zu,List.length_append]
  omega
theorem yf (tx : T -> Bs) (l m : List T) : zu tx (l ++ m) = zu tx l ++ zu tx m := by
 induction l with
 | nil => simp [zu]
 | cons t l ih => simp [zu,ih]
theorem tp (sep : Bs) (tx : T -> Bs) (L : Nat) (l : List T) : yz sep sep tx L l = zu (fun t => zD (L + 1) ++ (tx t ++ (sep ++ [10]))) l := by
 unfold yz
 cases l with
 | nil => rfl
 | cons t l =>
  rw [if_neg (by simp)]
  induction l generalizing t with
  | nil => simp [zE,zu]
  | cons u l ih =>
   have e : zE (sep ++ [10]) ((t :: u :: l).map fun t => zD (L + 1) ++ tx t) = (zD (L + 1) ++ tx t) ++ ((sep ++ [10]) ++ zE (sep ++ [10]) ((u :: l).map fun t => zD (L + 1) ++ tx t)) := rfl
   rw [e,zu,<- ih u]
   simp [List.append_assoc]
end Go.Proofs.YtifapidjkelnfaaGreatDoor

namespace Go.Proofs.YtifapidjkelnfaaGreatDoor
open Go.RowKit Go.Maps Go.WideMaps Go.WideElems
def qK : Rule -> Option Nat
 | .module => some 75
 | .imported => some 108
 | .procedure => some 113
 | .typeItself => some 111
 | .typeName => some 112
 | .typeNameOrNone => some 150
 | .ref => some 151
 | .act => some 114
 | .expression => some 110
 | .designator => some 149
 | _ => none
abbrev ptr (b : Nat) : Value := .pointer (some ⟨b,0,none⟩)
inductive RV (w : World) (jb : Nat) (S : Nat -> Prop) : Rule -> Value -> Prop
 | meth (r : Rule) (g : Nat) (h : qK r = some g) : RV w jb S r (.func (.func g) #[ptr jb] #[])
 | list (r : Rule) (rv : Value) (b1 b2 : Nat) (s1 : S b1) (s2 : S b2) (c1 : w.cell? ⟨b1,0,none⟩ = some (ptr jb)) (c2 : w.cell? ⟨b2,0,none⟩ = some rv) (h : RV w jb S r rv) :
   RV w jb S (.list r) (.func (.func 144) #[] #[ptr b1,ptr b2])
 | declared (k m : Int) (r : Rule) (rv : Value) (b1 b2 b3 b4 : Nat) (s1 : S b1) (s2 : S b2) (s3 : S b3) (s4 : S b4) (c1 : w.cell? ⟨b1,0,none⟩ = some (.int .i64 k)) (c2 : w.cell? ⟨b2,0,none⟩ = some (ptr jb))
   (c3 : w.cell? ⟨b3,0,none⟩ = some (.int .i64 m)) (c4 : w.cell? ⟨b4,0,none⟩ = some rv) (h : RV w jb S r rv) :
   RV w jb S (.declared k m r) (.func (.func 147) #[] #[ptr b1,ptr b2,ptr b3,ptr b4])
structure KB (S : Nat -> Prop) (w w' : World) : Prop where
 os : w'.os = w.os
 tape : w'.tape = w.tape
 output : w'.output = w.output
 size : w.heap.size <= w'.heap.size
 block : ∀ k,k < w.heap.size -> S k -> w'.heap[k]? = w.heap[k]?
theorem KB.refl (S : Nat -> Prop) (w : World) : KB S w w := ⟨rfl,rfl,rfl,Nat.le_refl _,fun _ _ _ => rfl⟩
theorem KB.trans {S S' : Nat -> Prop} {w w1 w2 : World} (h1 : KB S w w1) (h2 : KB S' w1 w2) (hs : ∀ k,k < w.heap.size -> S k -> S' k) : KB S w w2 :=
 ⟨h2.os.trans h1.os,h2.tape.trans h1.tape,h2.output.trans h1.output,Nat.le_trans h1.size h2.size,fun k hk hS => (h2.block k (Nat.lt_of_lt_of_le hk h1.size) (hs k hk hS)).trans (h1.block k hk hS)⟩
theorem KB.of {S : Nat -> Prop} {w w' : World} {row : Option Nat} (h : w.grownBy w' row) (hs : ∀ k,S k -> some k ≠ row) : KB S w w' := ⟨h.os,h.tape,h.output,h.size,fun k hk hS => h.block k hk (hs k hS)⟩
theorem KB.cell {S : Nat -> Prop} {w w' : World} {a : Addr} {v : Value} (hg : KB S w w') (h : w.cell? a = some v) (hs : S a.block) : w'.cell? a = some v := by
 have b := hg.block a.block (zc h) hs
 unfold World.cell? at h ⊢
 rw [b]
 exact h
theorem RV.kept {w w' : World} {jb : Nat} {S S' : Nat -> Prop} {r : Rule} {v : Value} (h : RV w jb S r v) (hg : KB S w w') (hS : ∀ k,k < w.heap.size -> S k -> S' k) : RV w' jb S' r v := by
 induction h with
 | meth r g h => exact .meth r g h
 | list r rv b1 b2 s1 s2 c1 c2 h ih => exact .list r rv b1 b2 (hS _ (zc c1) s1) (hS _ (zc c2) s2) (hg.cell c1 s1) (hg.cell c2 s2) ih
 | declared k m r rv b1 b2 b3 b4 s1 s2 s3 s4 c1 c2 c3 c4 h ih => exact .declared k m r rv b1 b2 b3 b4 (hS _ (zc c1) s1) (hS _ (zc c2) s2) (hS _ (zc c3) s3) (hS _ (zc c4) s4) (hg.cell c1 s1) (hg.cell c2 s2) (hg.cell c3 s3) (hg.cell c4 s4) ih
def vi : List (T × Rule) -> List Value -> List Value -> List Value
 | p :: l,sv :: svs,rv :: rvs => [.int .i64 p.1.kind,.string ⟨p.1.name.toArray⟩,.int .i64 p.1.num,.int .i64 p.1.at',sv,rv] ++ vi l svs rvs
 | _,_,_ => []
theorem xK : ∀ (l : List (T × Rule)) (svs rvs : List Value),svs.length = l.length -> rvs.length = l.length -> (vi l svs rvs).length = l.length * 6
 | [],[],[],_,_ => rfl
 | p :: l,sv :: svs,rv :: rvs,h1,h2 => by
  have ih := xK l svs rvs (by simpa using h1) (by simpa using h2); simp only [vi,List.length_append,ih,List.length_cons,List.length_nil]
  omega
theorem vI : ∀ (l : List (T × Rule)) (svs rvs : List Value) (m : List (T × Rule)) (svs' rvs' : List Value),svs.length = l.length -> rvs.length = l.length -> vi (l ++ m) (svs ++ svs') (rvs ++ rvs') = vi l svs rvs ++ vi m svs' rvs'
 | [],[],[],_,_,_,_,_ => rfl
 | p :: l,sv :: svs,rv :: rvs,m,svs',rvs',h1,h2 => by
  have ih := vI l svs rvs m svs' rvs' (by simpa using h1) (by simpa using h2); simp only [vi,List.cons_append,ih,List.append_assoc]
end Go.Proofs.YtifapidjkelnfaaGreatDoor

namespace Go.Proofs.YtifapidjkelnfaaGreatDoor
open Go.RowKit Go.Maps Go.WideMaps Go.WideElems
set_option maxHeartbeats 2000000
set_option maxRecDepth 1000000
def gW : List (Bs × Int) := [([61],0),([35],0),([60],0),([60,61],0),([62],0),([62,61],0),([43],1),([45],1),([79,82],1),([42],2),([68,73,86],2),([77,79,68],2),([38],2)]
def ro (es : List (Bs × Int)) : DataW Unit := es.foldl (fun m p => m.put (.string p.1) (.lit (.int .i64 p.2))) (.map [])
def vh (k : Bs) : List (Bs × Int) -> Option Int
 | [] => none
 | p :: r => match vh k r with
  | some n => some n
  | none => if p.1 = k then some p.2 else none
theorem gq {D : DataW Unit} (h : IsMap D) (k : Bs) (d : DataW Unit) : IsMap (D.put (.string k) d) := by
 first | exact h.put _ _ | exact IsMap.put h _ _ | (obtain ⟨_,rfl⟩ := h; exact ⟨_,rfl⟩)
theorem kD (k : Bs) : ∀ (es : List (Bs × Int)) (D : DataW Unit),IsMap D -> has (es.foldl (fun m p => m.put (.string p.1) (.lit (.int .i64 p.2))) D) (.string k) = ((vh k es).isSome || has D (.string k))
 | [],D,_ => by simp [vh]
 | p :: r,D,hD => by
  rw [List.foldl_cons,kD k r _ (gq hD _ _),vh]; cases h : vh k r with
  | some n => simp
  | none =>
   by_cases e : p.1 = k
   ·rw [if_pos e,<- e,has_put_same hD (by constructor)]; simp
   ·rw [if_neg e,has_put_other (by intro e2; injection e2 with e2; exact e e2.symm)]
theorem qW (k : Bs) (z : DataW Unit) : ∀ (es : List (Bs × Int)) (D : DataW Unit),IsMap D -> (es.foldl (fun m p => m.put (.string p.1) (.lit (.int .i64 p.2))) D).atKey (.string k) z = (match vh k es with | some n => .lit (.int .i64 n) | none => D.atKey (.string k) z)
 | [],D,_ => by simp [vh]
 | p :: r,D,hD => by
  rw [List.foldl_cons,qW k z r _ (gq hD _ _),vh]; cases h : vh k r with
  | some n => simp
  | none =>
   by_cases e : p.1 = k
   ·rw [if_pos e,<- e]; exact atKey_put_same hD (by constructor) _ _
   ·rw [if_neg e]; exact atKey_put_other (by intro e2; injection e2 with e2; exact e e2.symm) _ _
theorem gL (k : Bs) : vh k gW = if 0 <= zo k then some (zo k) else none := by
 unfold zo inB gd fe fG
 simp only [gW,vh,List.contains_cons,List.contains_nil,Bool.or_false,Bool.or_eq_true,beq_iff_eq]
 by_cases h : k ∈ gW.map (·.1)
 ·simp [gW] at h
  rcases h with rfl | rfl | rfl | rfl | rfl | rfl | rfl | rfl | rfl | rfl | rfl | rfl | rfl <;> decide
 ·simp [gW] at h
  obtain ⟨_,_,_,_,_,_,_,_,_,_,_,_,_⟩ := h
  simp [*,Ne.symm,eq_comm]
theorem xY : Keyed Tryz.prog 9 := string_keyed Tryz.underlying9
theorem du (w : World) : (zeroValue 129).run Tryz.prog w = .ok (.int .i64 0) w := by kernel_rfl
def IsOps (w : World) (b : Nat) : Prop := w.ownsMap Tryz.prog 9 (plainElem Tryz.prog 129) b 13 (ro gW)
theorem jd (w : World) : Calls Tryz.prog 73 #[] w fun e w' => e = .returned (.map (some w.heap.size)) /\ IsOps w' w.heap.size /\ w.grownBy w' none := by
 have N := @run_makeMap Tryz.prog; have B := World.ownsMap_made (H := Unit) w Tryz.prog 9 (plainElem Tryz.prog 129); obtain ⟨_,_,C,h⟩ := B.update xY Tryz.underlying76 (by unfold maxLen; omega) (keyOf_string_mk (P := Tryz.prog) Tryz.underlying9 (s := ⟨#[61]⟩) (by unfold maxLen; decide)) (plainElem_int (H := Unit) Tryz.underlying129 (a := 0) (by decide)); obtain ⟨_,_,D,i⟩ := C.update xY Tryz.underlying76 (by unfold maxLen; omega) (keyOf_string_mk (P := Tryz.prog) Tryz.underlying9 (s := ⟨#[35]⟩) (by unfold maxLen; decide)) (plainElem_int (H := Unit) Tryz.underlying129 (a := 0) (by decide)); obtain ⟨_,_,E,j⟩ := D.update xY Tryz.underlying76 (by unfold maxLen; omega) (keyOf_string_mk (P := Tryz.prog) Tryz.underlying9 (s := ⟨#[60]⟩) (by unfold maxLen; decide)) (plainElem_int (H := Unit) Tryz.underlying129 (a := 0) (by decide)); obtain ⟨_,_,F,l⟩ := E.update xY Tryz.underlying76 (by unfold maxLen; omega) (keyOf_string_mk (P := Tryz.prog) Tryz.underlying9 (s := ⟨#[60,61]⟩) (by unfold maxLen; decide)) (plainElem_int (H := Unit) Tryz.underlying129 (a := 0) (by decide)); obtain ⟨_,_,G,m⟩ := F.update xY Tryz.underlying76 (by unfold maxLen; omega) (keyOf_string_mk (P := Tryz.prog) Tryz.underlying9 (s := ⟨#[62]⟩) (by unfold maxLen; decide)) (plainElem_int (H := Unit) Tryz.underlying129 (a := 0) (by decide)); obtain ⟨_,_,I,n⟩ := G.update xY Tryz.underlying76 (by unfold maxLen; omega) (keyOf_string_mk (P := Tryz.prog) Tryz.underlying9 (s := ⟨#[62,61]⟩) (by unfold maxLen; decide)) (plainElem_int (H := Unit) Tryz.underlying129 (a := 0) (by decide)); obtain ⟨_,_,J,r⟩ := I.update xY Tryz.underlying76 (by unfold maxLen; omega) (keyOf_string_mk (P := Tryz.prog) Tryz.underlying9 (s := ⟨#[43]⟩) (by unfold maxLen; decide)) (plainElem_int (H := Unit) Tryz.underlying129 (a := 1) (by decide)); obtain ⟨_,_,K,t⟩ := J.update xY Tryz.underlying76 (by unfold maxLen; omega) (keyOf_string_mk (P := Tryz.prog) Tryz.underlying9 (s := ⟨#[45]⟩) (by unfold maxLen; decide)) (plainElem_int (H := Unit) Tryz.underlying129 (a := 1) (by decide)); obtain ⟨_,_,L,u⟩ := K.update xY Tryz.underlying76 (by unfold maxLen; omega) (keyOf_string_mk (P := Tryz.prog) Tryz.underlying9 (s := ⟨#[79,82]⟩) (by unfold maxLen; decide)) (plainElem_int (H := Unit) Tryz.underlying129 (a := 1) (by decide)); obtain ⟨_,_,M,v⟩ := L.update xY Tryz.underlying76 (by unfold maxLen; omega) (keyOf_string_mk (P := Tryz.prog) Tryz.underlying9 (s := ⟨#[42]⟩) (by unfold maxLen; decide)) (plainElem_int (H := Unit) Tryz.underlying129 (a := 2) (by decide)); obtain ⟨_,_,x,d⟩ := M.update xY Tryz.underlying76 (by unfold maxLen; omega) (keyOf_string_mk (P := Tryz.prog) Tryz.underlying9 (s := ⟨#[68,73,86]⟩) (by unfold maxLen; decide)) (plainElem_int (H := Unit) Tryz.underlying129 (a := 2) (by decide)); obtain ⟨_,_,y,f⟩ := x.update xY Tryz.underlying76 (by unfold maxLen; omega) (keyOf_string_mk (P := Tryz.prog) Tryz.underlying9 (s := ⟨#[77,79,68]⟩) (by unfold maxLen; decide)) (plainElem_int (H := Unit) Tryz.underlying129 (a := 2) (by decide))
 obtain ⟨b,_,z,g⟩ := y.update xY Tryz.underlying76 (by unfold maxLen; omega) (keyOf_string_mk (P := Tryz.prog) Tryz.underlying9 (s := ⟨#[38]⟩) (by unfold maxLen; decide)) (plainElem_int (H := Unit) Tryz.underlying129 (a := 2) (by decide)); have O : Hid (IsOps b w.heap.size) := z
 have Q : Hid (w.grownBy b none) := by
  have A : (w.alloc (.map #[] 0)).grownBy b (some w.heap.size) := za (za (za (za (za (za (za (za (za (za (za (za h i) j) l) m) n) r) t) u) v) d) f) g
  exact ⟨A.os,A.tape,A.output,by have := A.size; simp at this; omega,fun k hk _ => (A.block k (by simp; omega) (by simp; omega)).trans (by have := (World.grownBy_alloc w (.map #[] 0) none).block k hk (by simp); exact this)⟩
 clear B C D E F G I J K L M x y z h i j l m n r t u v d f g
 go_enter Tryz.func73,Tryz.ntmps73
 go_wp2
 go_ret
 exact ⟨rfl,O,Q⟩
end Go.Proofs.YtifapidjkelnfaaGreatDoor

namespace Go.Proofs.YtifapidjkelnfaaGreatDoor
open Go.RowKit Go.Maps Go.WideMaps Go.WideElems
theorem uS {w w' : World} {base n : Nat} {e : TypeId} {size : Nat} {v : Value} {xs : List Value} (h : w.ownsRow base e size v n xs) (hb : ∀ g,v.ownBlock = some g -> w'.heap[g]? = w.heap[g]?) : w'.ownsRow base e size v n xs := by
 obtain ⟨d,h⟩ := h
 rcases h with h | ⟨g,a,b,rfl,f,i,j⟩
 ·exact ⟨d,.inl h⟩
 ·exact ⟨d,.inr ⟨g,a,b,rfl,f,(hb g rfl).trans i,j⟩⟩
theorem yc {P : Program} {k : TypeId} {R : Value -> Option (DataW Unit × List MemPlace)} {w w' : World} {b n : Nat} {D : DataW Unit} (h : w.ownsMap P k R b n D) (hb : w'.heap[b]? = w.heap[b]?) : w'.ownsMap P k R b n D := by
 obtain ⟨d,a,f,g⟩ := h
 exact ⟨d,a,hb.trans f,g⟩
theorem kY {P : Program} {k : TypeId} {R : Value -> Option (DataW Unit × List MemPlace)} {w : World} {b n m : Nat} {D : DataW Unit} {base : Nat} {e : TypeId} {size : Nat} {v : Value} {xs : List Value} (h : w.ownsMap P k R b n D) (ho : w.ownsRow base e size v m xs) : v.ownBlock ≠ some b := by
 obtain ⟨_,_,d,_⟩ := h; obtain ⟨_,h⟩ := ho
 rcases h with ⟨rfl,_⟩ | ⟨g,f,i,rfl,_,a,_⟩
 ·simp [Value.ownBlock]
 ·intro e
  simp [Value.ownBlock] at e
  subst e; rw [d] at a; cases a
structure JS (w0 : World) (jb lb ob : Nat) (w : World) (l : List (T × Rule)) (v : Value) : Prop where
 gb : w0.grownBy w none
 jlo : w0.heap.size <= jb
 c0 : w.cell? ⟨jb,0,none⟩ = some (.map (some lb))
 c1 : w.cell? ⟨jb,1,none⟩ = some (.map (some ob))
 c2 : w.cell? ⟨jb,2,none⟩ = some v
 z2 : w.frozen? ⟨jb,2,none⟩ = false
 lex : IsLex w lb
 ops : IsOps w ob
 lne : lb ≠ jb
 one : ob ≠ jb
 rne : v.ownBlock ≠ some jb
 row : ∃ svs rvs,svs.length = l.length /\ rvs.length = l.length /\ w.ownsRow w0.heap.size 102 6 v l.length (vi l svs rvs) /\
  ∀ (i : Nat) (p : T × Rule) (sv rv : Value),l[i]? = some p -> svs[i]? = some sv -> rvs[i]? = some rv -> Fits p.1 /\ AT w0 p.1.subs sv /\ RV w jb (fun k => k ≠ jb /\ v.ownBlock ≠ some k) p.2 rv
structure JK (jb : Nat) (v : Value) (w w' : World) (v' : Value) : Prop where
 kb : KB (fun k => k ≠ jb /\ v.ownBlock ≠ some k) w w'
 at' : v'.ownBlock = v.ownBlock \/ ∀ b,v'.ownBlock = some b -> w.heap.size <= b
section
variable {w0 : World} {jb lb ob : Nat} {w w' w1 w2 : World} {l : List (T × Rule)} {v v' v'' : Value}
theorem JS.lt (h : JS w0 jb lb ob w l v) : jb < w.heap.size := zc h.c0
theorem JK.refl (jb : Nat) (v : Value) (w : World) : JK jb v w w v := ⟨KB.refl _ _,.inl rfl⟩
theorem JK.trans (h1 : JK jb v w w1 v') (h2 : JK jb v' w1 w2 v'') : JK jb v w w2 v'' := by
 refine ⟨h1.kb.trans h2.kb (fun k hk hs => ⟨hs.1,fun e => ?_⟩),?_⟩
 ·rcases h1.at' with h | h
  ·exact hs.2 (h ▸ e)
  ·have := h k e
   omega
 ·rcases h2.at' with h | h
  ·rcases h1.at' with a | a
   ·exact .inl (h.trans a)
   ·exact .inr (fun b hb => a b (h ▸ hb))
  ·exact .inr (fun b hb => Nat.le_trans h1.kb.size (h b hb))
theorem JK.grown (h : w.grownBy w' none) : JK jb v w w' v := ⟨KB.of h (fun _ _ => by simp),.inl rfl⟩
theorem JS.grown (h : JS w0 jb lb ob w l v) (hg : w.grownBy w' none) : JS w0 jb lb ob w' l v where
 gb := za h.gb hg
 jlo := h.jlo
 c0 := zg hg h.c0
 c1 := zg hg h.c1
 c2 := zg hg h.c2
 z2 := yx hg h.lt h.z2 (by simp)
 lex := yc h.lex (hg.block _ (World.ownsMap.lt h.lex) (by simp))
 ops := yc h.ops (hg.block _ (World.ownsMap.lt h.ops) (by simp))
 lne := h.lne
 one := h.one
 rne := h.rne
 row := by
  obtain ⟨b,d,f,j,a,k⟩ := h.row; refine ⟨b,d,f,j,uS a (fun g hgb => hg.block g (a.lt g hgb).2 (by simp)),fun i p sv rv e1 e2 e3 => ?_⟩; obtain ⟨m,n,r⟩ := k i p sv rv e1 e2 e3
  exact ⟨m,n,r.kept (KB.of hg (fun _ _ => by simp)) (fun _ _ hs => hs)⟩
theorem JS.room (h : JS w0 jb lb ob w l v) {b : Nat} (hb : v.ownBlock = some b) : w0.heap.size <= b /\ b < w.heap.size := by
 obtain ⟨_,_,_,_,a,_⟩ := h.row
 exact a.lt b hb
theorem JS.push {t : T} {r : Rule} {sv rv : Value} {svs rvs : List Value} (h : JS w0 jb lb ob w l v) (h1 : svs.length = l.length) (h2 : rvs.length = l.length)
  (hp : ∀ (i : Nat) (p : T × Rule) (sv rv : Value),l[i]? = some p -> svs[i]? = some sv -> rvs[i]? = some rv -> Fits p.1 /\ AT w0 p.1.subs sv /\ RV w jb (fun k => k ≠ jb /\ v.ownBlock ≠ some k) p.2 rv)
  (hf : Fits t) (ha : AT w0 t.subs sv) (hr : RV w jb (fun k => k ≠ jb /\ v.ownBlock ≠ some k) r rv)
  (own : w1.ownsRow w0.heap.size 102 6 v' (l.length + 1) (vi l svs rvs ++ vi [(t,r)] [sv] [rv])) (hg : w.grownBy w1 v.ownBlock)
  (hat : v'.ownBlock = v.ownBlock \/ v'.ownBlock = some w.heap.size) : JS w0 jb lb ob (w1.setCell ⟨jb,2,none⟩ v') (l ++ [(t,r)]) v' /\ JK jb v w (w1.setCell ⟨jb,2,none⟩ v') v' := by
 have u := h.lt
 have m : v'.ownBlock ≠ some jb := by
  rcases hat with e | e
  ·rw [e]; exact h.rne
  ·rw [e]; simp; omega
 have d : KB (fun k => v.ownBlock ≠ some k) w w1 := KB.of hg (fun k hk e => hk e.symm); have f : KB (fun k => k ≠ jb) w1 (w1.setCell ⟨jb,2,none⟩ v') := ⟨rfl,rfl,rfl,by simp [World.setCell],fun k _ hk => Below.heap_setCell _ _ _ _ (by simpa using hk)⟩
 have a : KB (fun k => k ≠ jb /\ v.ownBlock ≠ some k) w (w1.setCell ⟨jb,2,none⟩ v') :=
  ⟨f.os.trans d.os,f.tape.trans d.tape,f.output.trans d.output,Nat.le_trans d.size f.size,fun k hk hs => (f.block k (Nat.lt_of_lt_of_le hk d.size) hs.1).trans (d.block k hk hs.2)⟩
 have x : v.ownBlock ≠ some lb := by
  obtain ⟨_,_,_,_,own,_⟩ := h.row
  exact kY h.lex own
 have y : v.ownBlock ≠ some ob := by
  obtain ⟨_,_,_,_,own,_⟩ := h.row
  exact kY h.ops own
 have z : w1.cell? ⟨jb,0,none⟩ = some (.map (some lb)) := zO hg h.c0 (fun e => h.rne e.symm); have A : w1.cell? ⟨jb,1,none⟩ = some (.map (some ob)) := zO hg h.c1 (fun e => h.rne e.symm); have B : w1.cell? ⟨jb,2,none⟩ = some v := zO hg h.c2 (fun e => h.rne e.symm)
 have C : ∀ k,k < w0.heap.size -> k ≠ jb /\ v.ownBlock ≠ some k := fun k hk => ⟨by have := h.jlo; omega,fun e => by have := (h.room e).1; omega⟩
 refine ⟨⟨?_,h.jlo,?_,?_,?_,?_,?_,?_,h.lne,h.one,m,?_⟩,⟨a,?_⟩⟩
 ·exact ⟨a.os.trans h.gb.os,a.tape.trans h.gb.tape,a.output.trans h.gb.output,Nat.le_trans h.gb.size a.size,fun k hk _ => (a.block k (Nat.lt_of_lt_of_le hk h.gb.size) (C k hk)).trans (h.gb.block k hk (by simp))⟩
 ·rw [World.cell?_setCell_other _ _ _ _ (by simp)]; exact z
 ·rw [World.cell?_setCell_other _ _ _ _ (by simp)]; exact A
 ·exact World.cell?_setCell_same _ _ _ B
 ·rw [World.frozen?_setCell]; exact yx hg u h.z2 (fun e => h.rne e.symm)
 ·exact yc h.lex (a.block _ (World.ownsMap.lt h.lex) ⟨h.lne,x⟩)
 ·exact yc h.ops (a.block _ (World.ownsMap.lt h.ops) ⟨h.one,y⟩)
 ·refine ⟨svs ++ [sv],rvs ++ [rv],by simp [h1],by simp [h2],?_,?_⟩
  ·rw [vI _ _ _ _ _ _ h1 h2,List.length_append,List.length_singleton]
   exact uS own (fun g hgb => f.block g (own.lt g hgb).2 (fun e => m (e ▸ hgb)))
  ·intro i p D E j n s
   have I : ∀ k,k < w.heap.size -> (k ≠ jb /\ v.ownBlock ≠ some k) -> (k ≠ jb /\ v'.ownBlock ≠ some k) := fun k hk hs => ⟨hs.1,fun e => by
    rcases hat with F | F
    ·exact hs.2 (F ▸ e)
    ·rw [F] at e; simp at e; omega⟩
   rcases Nat.lt_or_ge i l.length with G | G
   ·rw [List.getElem?_append_left G] at j
    rw [List.getElem?_append_left (by omega)] at n s; obtain ⟨K,L,M⟩ := hp i p D E j n s
    exact ⟨K,L,M.kept a I⟩
   ·rw [List.getElem?_append_right G] at j
    rw [List.getElem?_append_right (by omega)] at n s
    have H : i = l.length := by
     rcases Nat.lt_or_ge (i - l.length) 1 with J | J
     ·omega
     ·rw [List.getElem?_eq_none (by simpa using J)] at j; cases j
    subst H
    simp [h1,h2] at j n s
    subst j n s
    exact ⟨hf,ha,hr.kept a I⟩
 ·rcases hat with e | e
  ·exact .inl e
  ·exact .inr (fun b hb => by rw [e] at hb; cases hb; exact Nat.le_refl _)
end
end Go.Proofs.YtifapidjkelnfaaGreatDoor

namespace Go.Proofs.YtifapidjkelnfaaGreatDoor
open Go.RowKit Go.Maps Go.WideMaps Go.WideElems
set_option maxHeartbeats 2000000
set_option maxRecDepth 1000000
theorem Tryz.infoPart : (Tryz.prog.info? 102).map (fun i => (i.zero,i.size,i.bytes)) = some (some (.agg #[.int .i64 0,.string ⟨#[]⟩,.int .i64 0,.int .i64 0,.slice none 0 0,.nilFunc]),6,72) := by kernel_rfl
theorem RV.form {w : World} {jb : Nat} {S : Nat -> Prop} {r : Rule} {v : Value} (h : RV w jb S r v) : ∃ g fa ca,v = .func (.func g) fa ca := by cases h <;> exact ⟨_,_,_,rfl⟩
theorem oK {w : World} {jb : Nat} {S : Nat -> Prop} {r : Rule} {v : Value} (h : RV w jb S r v) : v.oneCell' = true := by cases h <;> rfl
theorem cn {w : World} {l : List T} {v : Value} (h : AT w l v) : v.oneCell' = true := by cases h <;> rfl
theorem rV {ops : Array Oper} {o : Oper} {a : Act} {w : World} {K : Act -> World -> Prop} {Q : Exit -> Act -> World -> Prop} {E : Prop} (hgd : o.guard = none) (s x : Operand)
  (ho : o.op = .call { callee := .builtin .append,args := #[s,x],argTypes := #[96,96] })
  {w0 : World} {jb lb ob : Nat} {l : List (T × Rule)} {v : Value} {g : Nat} {t : T} {r : Rule} {sv rv : Value} (hs : a.eval s = v) (hx : a.eval x = .slice (some ⟨g,0,none⟩) 1 1) (hl : JS w0 jb lb ob w l v) (hlen : l.length <= 20000)
  (hf : Fits t) (ha : AT w0 t.subs sv) (hr : RV w jb (fun k => k ≠ jb /\ v.ownBlock ≠ some k) r rv)
  (hc : ∀ (j : Nat) (u : Value),(vi [(t,r)] [sv] [rv])[j]? = some u -> w.cell? ⟨g,j,none⟩ = some u)
  (k : ∀ g' c' w1,JS w0 jb lb ob (w1.setCell ⟨jb,2,none⟩ (.slice (some ⟨g',0,none⟩) (l.length + 1) c')) (l ++ [(t,r)]) (.slice (some ⟨g',0,none⟩) (l.length + 1) c') -> JK jb v w (w1.setCell ⟨jb,2,none⟩ (.slice (some ⟨g',0,none⟩) (l.length + 1) c')) (.slice (some ⟨g',0,none⟩) (l.length + 1) c') ->
   w.grownBy w1 v.ownBlock -> w1.cell? ⟨jb,2,none⟩ = some v -> w1.frozen? ⟨jb,2,none⟩ = false -> K (a.put o.dst (.slice (some ⟨g',0,none⟩) (l.length + 1) c')) w1) :
  if Region.wanted o (yielded ops a.tmps) = true then Oper.wp Tryz.prog o a w K Q else E := by
 have D : Region.wanted o (yielded ops a.tmps) = true := by simp [Region.wanted,hgd]
 rw [if_pos D]; obtain ⟨F,i,m,n,y⟩ := info_parts Tryz.infoPart; obtain ⟨z,A,G,H,B,I⟩ := hl.row; obtain ⟨J,L,d,b,f,_,C⟩ := run_append_own_at (P := Tryz.prog) w w0.heap.size 96 o.type 102 F _ 6 72 Tryz.underlying96 i m n y rfl (by decide) v l.length (vi l z A) B ⟨g,0,none⟩ 1 1 (vi [(t,r)] [sv] [rv])
  rfl (fun j u hu => by
   have := hc j u hu
   unfold Addr.add
   split
   ·rename_i h9; subst h9; exact this
   ·simpa using this) (fun u hu => by
   simp [vi] at hu
   rcases hu with rfl | rfl | rfl | rfl | rfl | rfl
   ·rfl
   ·rfl
   ·rfl
   ·rfl
   ·exact cn ha
   ·exact oK hr) (by unfold maxLen; omega) (by omega) hl.gb.size
 obtain ⟨g',c',rfl⟩ : ∃ g' c',J = .slice (some ⟨g',0,none⟩) (l.length + 1) c' := by
  rcases b.2 with ⟨_,h⟩ | ⟨g',c',_,h,_⟩
  ·omega
  ·exact ⟨g',c',h⟩
 unfold Oper.wp execOp
 simp only [ho,resolve,invoke,builtin,Sem.run_bind,Sem.run_pure,Result.andThen_ok,List.map_toArray,List.map_cons,List.map_nil,hs,hx,d]; obtain ⟨M,N⟩ := hl.push G H I hf ha hr b f C
 exact k g' c' L M N f (zO f hl.c2 (fun e => hl.rne e.symm)) (yx f hl.lt hl.z2 (fun e => hl.rne e.symm))
theorem sM (w : World) (ty : TypeId) (kd : Int) (x : Bs) (m p : Int) (ls : List T) (r : Rule) {sv rv : Value} : ∀ (j : Nat) (u : Value),(vi [(T.mk kd x m p ls,r)] [sv] [rv])[j]? = some u -> (w.alloc (.cells #[.int .i64 kd,.string ⟨x.toArray⟩,.int .i64 m,.int .i64 p,sv,rv] ty)).cell? ⟨w.heap.size,j,none⟩ = some u := by
 intro j u a; rw [World.cell?_alloc_at _ _ _ _ rfl]
 simpa [vi,T.kind,T.name,T.num,T.at'] using a
theorem vW (w0 : World) (jb lb ob : Nat) (w : World) (l : List (T × Rule)) (v : Value) (t : T) (r : Rule) (sv rv : Value) (h : JS w0 jb lb ob w l v) (hlen : l.length <= 20000) (hf : Fits t) (ha : AT w0 t.subs sv) (hr : RV w jb (fun k => k ≠ jb /\ v.ownBlock ≠ some k) r rv) :
    Calls Tryz.prog 74 #[ptr jb,zq t sv,rv] w fun e w' => ∃ v',e = .returned (.tuple #[]) /\ JS w0 jb lb ob w' (l ++ [(t,r)]) v' /\ JK jb v w w' v' := by
  obtain ⟨b,d,rfl,_,_⟩ := ha.form; obtain ⟨f,g,i,rfl⟩ := hr.form; have n := zb h; have s := zb hf; have u := zb ha; have y := zb hr; have c2 := h.c2; have z2 := h.z2; have z := h.lt; obtain ⟨j,x,m,p,a⟩ := t; clear h hf ha hr
  change Calls Tryz.prog 74 #[ptr jb,.agg #[.int .i64 j,.string ⟨x.toArray⟩,.int .i64 m,.int .i64 p,.slice b a.length d],.func (.func f) g i] w _
  go_enter Tryz.func74,Tryz.ntmps74
  go_wp2_with fail
  go_region_law (focus (
    refine rV rfl (.tmp 10) (.tmp 14) rfl (w0 := w0) (jb := jb) (lb := lb) (ob := ob) (l := l) (v := v) (t := .mk j x m p a) (r := r) (sv := .slice b a.length d) (rv := .func (.func f) g i) (by simp [Act.eval]) (by simp [Act.eval]) (n.grown (ze (zf (zf (zj w none) _) _))) hlen s u (y.kept (KB.of (row := none) (ze (zf (zf (zj w none) _) _)) (fun _ _ => by simp)) (fun _ _ h => h)) (sM _ _ _ _ _ _ _ _) ?_
    intro D E F A B C G H))
  all_goals
    go_wp2
    go_end0
    exact ⟨_,rfl,A,JK.trans (JK.grown (ze (zf (zf (zj w none) _) _))) B⟩
end Go.Proofs.YtifapidjkelnfaaGreatDoor

namespace Go.Proofs.YtifapidjkelnfaaGreatDoor
open Go.RowKit

def Kb (w : World) (e : Ending) (w' : World) : Prop := (∃ b,e = .returned (.bool b)) /\ w' = w
theorem kJ (r : Int) (w : World) : Calls Tryz.prog 23 #[.int .u8 r] w (Kb w) := (xn r w).mono fun _ _ h => ⟨⟨_,h.1⟩,h.2⟩
theorem jn (r : Int) (w : World) : Calls Tryz.prog 24 #[.int .u8 r] w (Kb w) := (xU r w).mono fun _ _ h => ⟨⟨_,h.1⟩,h.2⟩
set_option maxRecDepth 1000000
set_option maxHeartbeats 1000000
theorem fp (c : Int) (w : World) : Calls Tryz.prog 26 #[.int .u8 c] w (Kb w) := by
 go_enter Tryz.func26,Tryz.ntmps26
 go_wp2
 go_loop [4] (fun i => ∃ k : Nat,k <= 20 /\ i = .int .i64 k) (fun i => 20 - (intOf i).toNat)
 case atStart => exact ⟨0,by omega,rfl⟩
 case round =>
  obtain ⟨k,b,rfl⟩ := hrel
  by_cases a : k < 20
  all_goals
   go_wp2
   all_goals first
    | exact ⟨⟨k + 1,by omega,by go_num⟩,by simp [intOf]; omega⟩
    | (go_ret; exact ⟨⟨_,rfl⟩,rfl⟩)
theorem dc (s : ByteArray) (k0 : Nat) (w : World) (hs : s.size <= 4000) (hk0 : k0 + 1 < s.size) :
  Calls Tryz.prog 22 #[.string s,.int .i64 k0] w fun e w' => (e = .returned (.int .i64 (-1)) \/ ∃ k : Nat,e = .returned (.int .i64 k) /\ k0 < k /\ k <= s.size) /\ w' = w := by
 go_enter Tryz.func22,Tryz.ntmps22
 go_wp2
 go_loop [1,5] (fun i d => ∃ (k : Nat) (a : Int),d = .int .i64 a /\ i = .int .i64 k /\ k0 < k /\ k <= s.size) (fun i _ => s.size - (intOf i).toNat)
 case atStart => exact ⟨k0 + 2,1,rfl,by go_num,by omega,by omega⟩
 case round =>
  obtain ⟨k,a,rfl,rfl,g,h⟩ := hrel
  by_cases b : k + 1 < s.size
  all_goals
   have f : k + 1 < s.size \/ ¬ k + 1 < s.size := Decidable.em _; go_wp2
   all_goals first
    | exact ⟨⟨k + 1,_,rfl,by go_num,by omega,by omega⟩,by simp [intOf]; omega⟩
    | exact ⟨⟨k + 2,_,rfl,by go_num,by omega,by omega⟩,by simp [intOf]; omega⟩
    | (go_ret; exact ⟨.inl rfl,rfl⟩)
    | (go_ret; exact ⟨.inr ⟨k + 2,by go_num,by omega,by omega⟩,rfl⟩)
theorem kB (s : ByteArray) (w : World) (_ : s.size <= 4000) : Calls Tryz.prog 25 #[.string s] w (Kb w) := by
 go_enter Tryz.func25,Tryz.ntmps25
 go_wp2
 go_loop [0] (fun v => ∃ x : ByteArray,v = .string x /\ x.size <= s.size) (fun v => match v with | .string x => x.size | _ => 0)
 case atStart => exact ⟨s,rfl,Nat.le_refl _⟩
 case round =>
  obtain ⟨x,rfl,e⟩ := hrel
  by_cases a : 1 < x.size
  all_goals
   have b : Hid ((x.extract 1 x.size).size = x.size - 1) := zb (by rw [xt,Lib.extract_data,List.length_take,List.length_drop,<- xt]; omega); go_wp2
   all_goals first
    | (have f := b.out; exact ⟨⟨_,rfl,by omega⟩,by simp; omega⟩)
    | (go_ret; exact ⟨⟨_,rfl⟩,rfl⟩)
end Go.Proofs.YtifapidjkelnfaaGreatDoor

namespace Go.Proofs.YtifapidjkelnfaaGreatDoor
theorem fF : ∀ (ts : List T) (rs : List Rule),ts.length = rs.length -> (zJ ts rs).map (·.1) = ts
 | [],[],_ => rfl
 | [],_ :: _,h => by simp at h
 | _ :: _,[],h => by simp at h
 | t :: ts,r :: rs,h => by simp only [zJ,List.map_cons,fF ts rs (by simpa using h)]
theorem js (ts : List T) (r : Rule) : (yE ts r).map (·.1) = ts := by unfold yE; rw [List.map_map]; exact List.map_id _
theorem fJ : ∀ ts : List T,(yW ts).map (·.1) = ts
 | [] => rfl
 | [_] => rfl
 | _ :: _ :: ts => by simp only [yW,List.map_cons,fJ ts]
theorem jN {t : T} {r q : Rule} : (yQ t r q).map (·.1) = t.subs := by
 unfold yQ
 cases h : t.subs with
 | nil => rfl
 | cons u ts => simp only [List.map_cons,js]
theorem xB {c : Bool} {l m : List (T × Rule)} (h : zt c l = some m) : c = true /\ m = l := by
 unfold zt at h
 split at h
 ·rename_i hc; cases h; exact ⟨hc,rfl⟩
 ·cases h
theorem gU {t : T} {k most : Int} {named : Bool} {n : Nat} (h : zk t k named most n = true) : t.subs.length = n := by
 unfold zk at h
 simp at h
 omega
theorem yZ {t : T} {k most : Int} {named : Bool} {n : Nat} {rs : List Rule} {m : List (T × Rule)} (hn : n = rs.length) (h : zt (zk t k named most n) (zJ t.subs rs) = some m) : m.map (·.1) = t.subs := by
 obtain ⟨a,rfl⟩ := xB h
 exact fF _ _ ((gU a).trans hn)
theorem un {t : T} {k most : Int} {named : Bool} {m : List (T × Rule)} (h : zt (zk t k named most 0) [] = some m) : m.map (·.1) = t.subs := by
 obtain ⟨a,rfl⟩ := xB h; have := gU (n := 0) a; rw [List.eq_nil_of_length_eq_zero this]
 rfl
theorem gG {t : T} {m : List (T × Rule)} (h : yJ t = some m) : m.map (·.1) = t.subs := by
 unfold yJ at h
 repeat' split at h
 ·exact un h
 ·exact yZ (n := 1) rfl h
 ·exact yZ (n := 2) rfl h
 ·exact yZ (n := 1) rfl h
 ·exact yZ (n := 2) rfl h
 ·cases h
theorem oE {t : T} {m : List (T × Rule)} (h : yR t = some m) : m.map (·.1) = t.subs := by
 unfold yR at h
 repeat' split at h
 ·exact un h
 ·exact un h
 ·obtain ⟨_,rfl⟩ := xB h; exact jN
 ·exact yZ (n := 1) rfl h
 ·exact yZ (n := 2) rfl h
 ·obtain ⟨a,rfl⟩ := xB h
  simp at a
  exact fF _ _ a.2
 ·exact gG h
theorem mH {t : T} {m : List (T × Rule)} (h : sX t = some m) : m.map (·.1) = t.subs := by
 unfold sX at h
 repeat' split at h
 ·obtain ⟨_,rfl⟩ := xB h; exact fJ _
 ·exact yZ (n := 2) rfl h
 ·obtain ⟨_,rfl⟩ := xB h; exact jN
 ·exact yZ (n := 2) rfl h
 ·exact yZ (n := 2) rfl h
 ·obtain ⟨_,rfl⟩ := xB h; exact js _ _
 ·exact yZ (n := 1) rfl h
 ·exact yZ (n := 1) rfl h
 ·cases h
theorem jD {t : T} {m : List (T × Rule)} (h : uk t = some m) : m.map (·.1) = t.subs := by
 obtain ⟨_,rfl⟩ := xB h; exact js _ _
theorem nF {r : Rule} {t : T} {m : List (T × Rule)} (h : zw r t = some m) : m.map (·.1) = t.subs := by
 cases r with
 | module => exact yZ (n := 6) rfl h
 | imported => exact un h
 | procedure => exact yZ (n := 4) rfl h
 | typeItself =>
  simp only [zw] at h
  repeat' split at h
  ·exact yZ (n := 1) rfl h
  ·exact yZ (n := 1) rfl h
  ·obtain ⟨_,rfl⟩ := xB h; exact jN
  ·cases h
 | typeName => exact jD h
 | typeNameOrNone =>
  simp only [zw] at h
  split at h
  ·exact un h
  ·exact jD h
 | ref => exact un h
 | act => exact mH h
 | expression => exact oE h
 | designator => exact gG h
 | list r => obtain ⟨_,rfl⟩ := xB h; exact js _ _
 | declared k m' r => exact yZ (n := 1) rfl h
theorem vy (l m : List (T × Rule)) : yY (l ++ m) = yY l + yY m := by unfold yY; rw [List.map_append,vX]
theorem um (t : T) : zn t = 1 + zx t.subs := by obtain ⟨_,_,_,_,_⟩ := t; rw [zn]; rfl
theorem sU {r : Rule} {t : T} {l m : List (T × Rule)} (h : zw r t = some m) : yY (l ++ [(t,r)]) = yY (l ++ m) + 1 := by
 rw [vy,vy]
 have a : yY [(t,r)] = zn t := by unfold yY; simp [zx]
 have b : yY m = zx t.subs := by unfold yY; rw [nF h]
 rw [a,b,um]
 omega
theorem jV : ∀ l : List T,l.length <= zx l
 | [] => by simp
 | t :: l => by have := jV l; rw [zx,um]; simp; omega
theorem qJ (l : List (T × Rule)) : l.length <= yY l := by have := jV (l.map (·.1)); unfold yY; simpa using this
theorem pJ (t : T) : t.subs.length + 1 <= zn t := by have := jV t.subs; rw [um]; omega
end Go.Proofs.YtifapidjkelnfaaGreatDoor
