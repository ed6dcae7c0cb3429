/- The law TopHidden holds,as the given card says,for all raw numbers: whatever memory it is called in (the listed variables laid as the program's text lays them),it returns true,its arguments read as they did,and what was there stays as it was. -/
import Derived.Test.YtnmkffjklpfflaaGreatDoorK20
import Derived.Carry
import Derived.ChangeSame
import Derived.ChangeSlices
import Derived.ChangeVars
import Derived.Deep.DeepHandedRow
import Derived.Deep.DeepLaidRun
import Derived.Deep.DeepWitnessRowRef
import Derived.JoinedOf
import Derived.LaidHandle
import Derived.LaidLaws
import Derived.Lib.LaidTab
import Derived.OpenShut
import Derived.ProofKit
import Derived.RowKit
import Derived.RowKitTokens
import Derived.SevenTiedAt
import Derived.SliceStrings
import Derived.Stop.Joined
import Derived.Stop.LaidErr
import Derived.Test.YtnmkffjklpfflaaGreatDoorCards
import Derived.Test.YtnmkffjklpfflaaGreatDoorTie
namespace Go.Proofs.YtnmkffjklpfflaaGreatDoor
open Go.ChangeShapes Go.WideShapes Go.RowKit
open Go.ChangeMaps (open_string shut_string)
set_option maxHeartbeats 400000
set_option maxRecDepth 100000
theorem nZ : Tryz.prog.cellsOf 5 = 1 := by kernel_rfl
theorem mH {w w' : World} (hg : w.grownBy w' none) : Below w.heap.size w w' := ⟨hg.os,hg.tape,hg.output,hg.size,fun i hi => hg.block i hi (by simp)⟩
theorem nn : (Tryz.prog.globals[1]?).map (·.type) = some 168 := by kernel_rfl
theorem oe : Tryz.prog.cellsOf 168 = 256 := by kernel_rfl
theorem oE : (Tryz.prog.globals[3]?).map (·.type) = some 225 := by kernel_rfl
theorem og : Tryz.prog.cellsOf 225 = 20 := by kernel_rfl
theorem oT : Tryz.prog.cellsOf 198 = 1 := by kernel_rfl
theorem ra : (Rows.laid_internal_strconv_uint64pow10 : DataW Unit) = Lib.tabData .u64 Lib.pow10Tab := by kernel_rfl
theorem rq : (Rows.laid_strings_asciiSpace : DataW Unit) = Lib.tabData .u8 Lib.asciiSpaceTab := by kernel_rfl
def nz : List (String × DataW Unit) := [("math/bits.deBruijn32tab",Rows.laid_math_bits_deBruijn32tab),("math/bits.deBruijn64tab",Rows.laid_math_bits_deBruijn64tab),("internal/strconv.uint64pow10",Rows.laid_internal_strconv_uint64pow10),("unicode.White_Space",Rows.laid_unicode_White_Space),("strings.asciiSpace",Rows.laid_strings_asciiSpace)]
def ln : List (String × DataW Unit) := [("errors.errorType",Rows.laid_errors_errorType)]
theorem gv {W : World} (h : laidMetH Tryz.prog Rows.topHiddenRow.laid W) : laidMet Tryz.prog nz W /\ handlesMet Tryz.prog ln W := h
theorem sp {W : World} (h : laidMet Tryz.prog nz W) : Lib.TabIs Tryz.prog W "strings.asciiSpace" .u8 Lib.asciiSpaceTab :=
 Lib.tabIs_of_head (rest := []) mU nn Tryz.underlying168 Tryz.underlying5 nZ oe (show laidMet Tryz.prog [("strings.asciiSpace",Lib.tabData .u8 Lib.asciiSpaceTab)] W from rq ▸ h.tail.tail.tail.tail)
theorem si {W : World} (h : laidMet Tryz.prog nz W) : PT W :=
 Lib.tabIs_of_head (rest := [("unicode.White_Space",Rows.laid_unicode_White_Space),("strings.asciiSpace",Rows.laid_strings_asciiSpace)]) mB oE Tryz.underlying225 Tryz.underlying198 oT og (show laidMet Tryz.prog (("internal/strconv.uint64pow10",Lib.tabData .u64 Lib.pow10Tab) :: [("unicode.White_Space",Rows.laid_unicode_White_Space),("strings.asciiSpace",Rows.laid_strings_asciiSpace)]) W from ra ▸ h.tail.tail)
theorem Tryz.own : ownKnob Tryz.prog.godebug = none := by kernel_rfl
theorem Tryz.et : Tryz.prog.globalNamed "errors.errorType" = some 0 := by kernel_rfl
theorem Tryz.rt : (Tryz.prog.cutTypes.find? (·.1 == "internal/reflectlite.rtype")).map (·.2) = some 184 := by kernel_rfl
theorem Tryz.oneRow : ((List.range 284).filter fun t => Tryz.prog.rowNamed t [101,114,114,111,114]) = [27] := by kernel_rfl
theorem Tryz.typesSize : Tryz.prog.types.size = 284 := by kernel_rfl
def lE : List Int := [0,1,28,2,29,14,24,3,30,22,20,15,25,17,4,8,31,27,13,23,21,19,16,7,26,12,18,6,11,5,10,9]
def lB : List Int := [0,1,56,2,57,49,28,3,61,58,42,50,38,29,17,4,62,47,59,36,45,43,51,22,53,39,33,30,24,18,12,5,63,55,48,27,60,41,37,16,46,35,44,21,52,32,23,11,54,26,40,15,34,20,31,10,25,14,19,9,13,8,7,6]
noncomputable def qW (os : Os) : World :=
 let N := (World.settled Tryz.prog os).heap.size
 let w0 := World.holding Tryz.prog os ⟨#[.cells (([9,13,1,32,133,101,160,5760,5600,8192,8202,1,8232,8233,1,8239,8287,48,12288,12288,1] : List Int).map fun z => Value.int .u16 z).toArray 237,
  .cells #[.slice (some ⟨N,0,none⟩) 7 7,.slice none 0 0,.int .i64 2] 234],#[],[]⟩
 let put (h : Array Obj) (g : Nat) (cs : Array Value) : Array Obj := h.modify g fun
  | .cells _ t frozen => .cells cs t frozen
  | o => o
 { w0 with heap := put (put (put (put (put (put w0.heap 1 (Lib.asciiSpaceTab.map fun z => Value.int .u8 z).toArray) 2 #[.pointer (some ⟨N + 1,0,none⟩)]) 0 #[.iface 184 (.agg #[.pointer (some ⟨8,27,none⟩)])]) 3 (Lib.pow10Tab.map fun z => Value.int .u64 z).toArray) 4 (lE.map fun z => Value.int .u8 z).toArray) 5 (lB.map fun z => Value.int .u8 z).toArray }
theorem pi (os : Os) (args : Array Value) : laidMetH Tryz.prog Rows.topHiddenRow.laid ((qW os).forCall (fun _ _ => 0) ⟨#[],args,[]⟩).memory :=
 laidMetH_of_parts (laidMet_of_run3 10 (by kernel_rfl) (by kernel_rfl) (by kernel_rfl)) (by kernel_rfl)
theorem mQ : Tryz.prog.cellsOf 3 = 1 := by kernel_rfl
theorem ma : laidOutB Tryz.prog = true := by kernel_rfl
theorem kK (os : Os) (started : os.Started) (H : Type) (enc : TypeId × Value -> H) :
  ReturnsInHanded {} Tryz.checked os 4 .any (fun w args => (Rows.topHiddenSpec.pre enc Tryz.prog Tryz.f4 [] false w args /\ laidMetH Tryz.prog Rows.topHiddenRow.laid w) /\ sizedMet enc Tryz.prog Tryz.f4 (OpenSpec.ofChange Rows.topHiddenSpec) false w args)
   (Rows.topHiddenSpec.post enc Tryz.prog Tryz.f4 false true false false) := by
 refine returnsInHanded_of_change_and (C := Tryz.checked) (X := fun w _ => laidMetH Tryz.prog Rows.topHiddenRow.laid w) (fun _ _ _ hh h => h.of_heap hh) Tryz.own started (by kernel_rfl) Tryz.func4
  ⟨qW os,fun _ _ => 0,⟨#[],#[.slice none 0 0,.int .i64 0,.int .i64 0,.int .i64 0],[]⟩,rfl,World.shaped_of_RefB (by kernel_rfl) (by kernel_rfl),rfl,(Input.okWide_of_okWideB (by kernel_rfl)).2,
   ⟨⟨ChangeSpec.pre_of_preB (fuel := 8) (by kernel_rfl),pi os _⟩,sizedMet_of_sizedB (fuel := 8) (by kernel_rfl)⟩,by simp only [Assume.holds]; exact ⟨by simp,by simp,fun _ => Modest.zero,by simp,by simp⟩⟩ ?_
 intro W d args ds n m c hW _ _ M _; have b : ∀ (j : Nat) t v,Tryz.f4.params[j]? = some t -> args[j]? = some v -> Value.okWide Tryz.prog W .any d t v := c; have f := hW; obtain ⟨p,q,o,s,rfl,_,_⟩ := hW; have N : DataW.TrodAll enc Tryz.prog W 0 (fun _ => true) true Tryz.f4.params.toList args.toList ds p := o; have O : DataW.TrodVars enc Tryz.prog W (fun _ => true) [] n q := s; rw [Tryz.params4] at N b; obtain ⟨v0,v1,v2,v3,_,_,_,_,Q,_,_,_,rfl,rfl,rfl,R,h1,h2,h3⟩ := trodAll_four N; have A := R
 obtain ⟨rfl,rfl⟩ : n = [] /\ q = [] := by
  cases n with
  | nil => exact ⟨rfl,O⟩
  | cons g r => exact absurd O (by intro h; cases h)
 have B : ∀ x ∈ Q,x.block < W.heap.size := fun x hx => f.lt x (by simp [hx])
 obtain ⟨D,rfl,rfl,rfl,w1⟩ := open_int Tryz.underlying3 (b 1 3 v1 rfl rfl) h1; obtain ⟨E,rfl,rfl,rfl,U⟩ := open_int Tryz.underlying3 (b 2 3 v2 rfl rfl) h2; obtain ⟨F,rfl,rfl,rfl,V⟩ := open_int Tryz.underlying3 (b 3 3 v3 rfl rfl) h3; obtain ⟨G,i,I,rfl⟩ := okWide_slice Tryz.underlying22 (b 0 22 v0 rfl rfl); have hT := sp (gv M).1; have hP := si (gv M).1
 have k : i <= maxLen := by
  obtain ⟨fuel,hf⟩ := R
  rcases open_ints Tryz.underlying22 Tryz.underlying3 mQ hf with ⟨e,_⟩ | ⟨a,a0,a1,zs,e,_,hl,hm,hz,_,J,a2⟩
  ·simp [Value.cells] at e
   obtain ⟨rfl,rfl,rfl⟩ := e
   decide
  ·simp [Value.cells] at e
   obtain ⟨rfl,rfl,rfl⟩ := e
   omega
 have K : ∀ x y z u : DataW H,Rows.topHiddenSpec.fn H ([x,y,z,u] ++ []) = { results := [.lit (.bool true)],args := [x,y,z,u] } := fun x y z u => by simp [Rows.topHiddenSpec]
 have l : Calls Tryz.prog 4 #[.slice G i I,.int .i64 D,.int .i64 E,.int .i64 F] W fun e w' => e = .returned (.bool true) /\ W.grownBy w' none := by
  have Y := nA U; have Z := nA V
  rcases Nat.lt_or_ge 256 i with L | L
  ·exact tN G i I D E F W L k
  ·exact sX G i I D E F W L Y.1 Y.2 Z.1 Z.2 hT hP
 refine l.mono fun e W' ⟨he,hg⟩ => ?_
 have hb := mH hg; subst he; refine ⟨_,rfl,_,_,_,[],Q ++ ([] ++ ([] ++ [])),[],f,?_,?_,?_,hb.frame _,fun h => by cases h⟩
 ·rw [K]; exact trodAll_mk1 (shut_bool Tryz.underlying4 true)
 ·rw [K]; exact trodAll_mk4 (Below.trod ma (by kernel_rfl) (of_decide_eq_true (by kernel_rfl)) A hb B) (shut_int Tryz.underlying3 w1) (shut_int Tryz.underlying3 U) (shut_int Tryz.underlying3 V)
 ·rw [K]; rfl
theorem qm : Rows.TopHiddenSaid :=
 OpenClaim.holds_of_wide 4 Tryz.f4 rfl rfl rfl rfl rfl rfl rfl ⟨rfl,rfl,rfl,rfl,rfl⟩ rfl rfl rfl rfl rfl (by kernel_rfl) Tryz.func4 (by kernel_rfl)
  (of_decide_eq_true (by kernel_rfl)) (by unfold Func.isWrapper; rw [if_neg (of_decide_eq_false (by kernel_rfl))]; exact ⟨rfl,rfl⟩)
  (fun os started H enc _ => kK os started H enc)
theorem topHidden_card : Rows.TopHiddenCardSaid :=
 Claim7.holds_tied_plain_at .later [] _ _ _ _
  qm (fun _ h => by cases h) (by kernel_rfl) (fun _ h => by cases h) topHidden_row_tie rfl ⟨rfl,rfl⟩ (by kernel_rfl) rfl
  (fun f fn hf hfn => by
   obtain rfl : f = 4 := Option.some.inj ((show Tryz.prog.funcNamed "oberlin/oberlintop.TopHidden" = some 4 by kernel_rfl).symm.trans hf) |>.symm; obtain rfl : fn = Tryz.f4 := (Option.some.inj (Tryz.func4.symm.trans hfn)).symm
   exact ⟨by kernel_rfl,fun j t ht => by
    rw [Tryz.params4] at ht
    have h9 : t = 22 \/ t = 3 := by
     rcases j with _ | _ | _ | _ | j
     ·exact .inl (by simpa using ht.symm)
     ·exact .inr (by simpa using ht.symm)
     ·exact .inr (by simpa using ht.symm)
     ·exact .inr (by simpa using ht.symm)
     ·simp at ht
    rcases h9 with rfl | rfl
    ·exact (show Tryz.prog.wantsStandIn 22 = false by kernel_rfl)
    ·exact (show Tryz.prog.wantsStandIn 3 = false by kernel_rfl)⟩)
  (by kernel_rfl)
#print axioms topHidden_card
end Go.Proofs.YtnmkffjklpfflaaGreatDoor
