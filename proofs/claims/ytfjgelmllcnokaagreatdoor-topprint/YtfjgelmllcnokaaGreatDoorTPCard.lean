/- The law TopPrint holds,as the given card says,for all raw numbers: whatever memory it is called in (the listed variables laid as the program's text lays them),it returns true,its arguments read as they did,and what was there stays as it was. -/
import Derived.Test.YtfjgelmllcnokaaGreatDoorG53
import Derived.Test.YtfjgelmllcnokaaGreatDoorCards
import Derived.Test.YtfjgelmllcnokaaGreatDoorTie
import Derived.ChangeSlices
import Derived.Carry
import Derived.ProofKit
import Derived.OpenShut
import Derived.SliceStrings
import Derived.Deep.DeepHandedRow
import Derived.Deep.DeepWitnessRowRef
import Derived.Deep.DeepLaidRun
import Derived.Lib.LaidTab
import Derived.Stop.LaidErr
import Derived.ChangeSame
import Derived.ChangeVars
import Derived.JoinedOf
import Derived.RowKit
import Derived.RowKitTokens
import Derived.LaidLaws
import Derived.LaidHandle
import Derived.Stop.Joined
import Derived.SevenTiedAt
namespace Go.Proofs.YtfjgelmllcnokaaGreatDoor
open Go.ChangeShapes Go.WideShapes Go.RowKit
open Go.ChangeMaps (open_string shut_string)
set_option maxHeartbeats 400000
set_option maxRecDepth 100000
theorem zbr : (Tryz.prog.globals[1]?).map (·.type) = some 115 := by kernel_rfl
theorem zc1 : Tryz.prog.cellsOf 115 = 256 := by kernel_rfl
theorem zbd : (Tryz.prog.globals[3]?).map (·.type) = some 201 := by kernel_rfl
theorem za5 : Tryz.prog.cellsOf 201 = 20 := by kernel_rfl
theorem zbc : Tryz.prog.cellsOf 193 = 1 := by kernel_rfl
theorem iO : (Rows.laid_internal_strconv_uint64pow10 : DataW Unit) = Lib.tabData .u64 Lib.pow10Tab := by kernel_rfl
theorem iC : (Rows.laid_strings_asciiSpace : DataW Unit) = Lib.tabData .u8 Lib.asciiSpaceTab := by kernel_rfl
def zdh : List (String × DataW Unit) := [("math/bits.deBruijn32tab",Rows.laid_math_bits_deBruijn32tab),("math/bits.deBruijn64tab",Rows.laid_math_bits_deBruijn64tab),("internal/strconv.uint64pow10",Rows.laid_internal_strconv_uint64pow10),("unicode.White_Space",Rows.laid_unicode_White_Space),("strings.asciiSpace",Rows.laid_strings_asciiSpace)]
def zfu : List (String × DataW Unit) := [("errors.errorType",Rows.laid_errors_errorType)]
theorem fd {W : World} (h : laidMetH Tryz.prog Rows.topPrintRow.laid W) : laidMet Tryz.prog zdh W /\ handlesMet Tryz.prog zfu W := h
theorem ma {W : World} (h : laidMet Tryz.prog zdh W) : Lib.TabIs Tryz.prog W "strings.asciiSpace" .u8 Lib.asciiSpaceTab :=
 Lib.tabIs_of_head (rest := []) zgn zbr Tryz.underlying115 Tryz.underlying5 bA zc1 (show laidMet Tryz.prog [("strings.asciiSpace",Lib.tabData .u8 Lib.asciiSpaceTab)] W from iC ▸ h.tail.tail.tail.tail)
theorem lH {W : World} (h : laidMet Tryz.prog zdh W) : PT W :=
 Lib.tabIs_of_head (rest := [("unicode.White_Space",Rows.laid_unicode_White_Space),("strings.asciiSpace",Rows.laid_strings_asciiSpace)]) zga zbd Tryz.underlying201 Tryz.underlying193 zbc za5 (show laidMet Tryz.prog (("internal/strconv.uint64pow10",Lib.tabData .u64 Lib.pow10Tab) :: [("unicode.White_Space",Rows.laid_unicode_White_Space),("strings.asciiSpace",Rows.laid_strings_asciiSpace)]) W from iO ▸ h.tail.tail)
theorem Tryz.own : ownKnob Tryz.prog.godebug = none := by kernel_rfl
theorem Tryz.et : Tryz.prog.globalNamed "errors.errorType" = some 0 := by kernel_rfl
theorem Tryz.rt : (Tryz.prog.cutTypes.find? (·.1 == "internal/reflectlite.rtype")).map (·.2) = some 137 := by kernel_rfl
theorem Tryz.oneRow : ((List.range 234).filter fun t => Tryz.prog.rowNamed t [101,114,114,111,114]) = [30] := by kernel_rfl
theorem Tryz.typesSize : Tryz.prog.types.size = 234 := by kernel_rfl
theorem sI {W : World} (h : handlesMet Tryz.prog zfu W) : HasErr W := by
 obtain ⟨b,_,f,g,i,j,l,d⟩ := h _ (List.mem_singleton.2 rfl); have m : b = [101,114,114,111,114] := (Option.some.inj g).symm; subst m; obtain rfl := Option.some.inj (Tryz.rt.symm.trans i)
 have e : f ∈ (List.range 234).filter fun t => Tryz.prog.rowNamed t [101,114,114,111,114] := List.mem_filter.2 ⟨List.mem_range.2 (by rw [<- Tryz.typesSize]; exact j),l⟩
 rw [Tryz.oneRow] at e; obtain rfl := List.mem_singleton.1 e
 have n : typeHandle Tryz.prog 30 = .pointer (some ⟨8,30,none⟩) := by kernel_rfl
 rw [n] at d
 unfold HasErr
 simpa using World.var?_cell Tryz.et d 0
def zj1 : List Int := [0,1,28,2,29,14,24,3,30,22,20,15,25,17,4,8,31,27,13,23,21,19,16,7,26,12,18,6,11,5,10,9]
def zkh : List Int := [0,1,56,2,57,49,28,3,61,58,42,50,38,29,17,4,62,47,59,36,45,43,51,22,53,39,33,30,24,18,12,5,63,55,48,27,60,41,37,16,46,35,44,21,52,32,23,11,54,26,40,15,34,20,31,10,25,14,19,9,13,8,7,6]
noncomputable def rA (os : Os) : World :=
 let N := (World.settled Tryz.prog os).heap.size
 let w0 := World.holding Tryz.prog os ⟨#[.cells (([9,13,1,32,133,101,160,5760,5600,8192,8202,1,8232,8233,1,8239,8287,48,12288,12288,1] : List Int).map fun z => Value.int .u16 z).toArray 179,
  .cells #[.slice (some ⟨N,0,none⟩) 7 7,.slice none 0 0,.int .i64 2] 176],#[],[]⟩
 let put (h : Array Obj) (g : Nat) (cs : Array Value) : Array Obj := h.modify g fun
  | .cells _ t frozen => .cells cs t frozen
  | o => o
 { w0 with heap := put (put (put (put (put (put w0.heap 1 (Lib.asciiSpaceTab.map fun z => Value.int .u8 z).toArray) 2 #[.pointer (some ⟨N + 1,0,none⟩)]) 0 #[.iface 137 (.agg #[.pointer (some ⟨8,30,none⟩)])]) 3 (Lib.pow10Tab.map fun z => Value.int .u64 z).toArray) 5 (zj1.map fun z => Value.int .u8 z).toArray) 6 (zkh.map fun z => Value.int .u8 z).toArray }
theorem ax (os : Os) (args : Array Value) : laidMetH Tryz.prog Rows.topPrintRow.laid ((rA os).forCall (fun _ _ => 0) ⟨#[],args,[]⟩).memory :=
 laidMetH_of_parts (laidMet_of_run3 10 (by kernel_rfl) (by kernel_rfl) (by kernel_rfl)) (by kernel_rfl)
theorem zg1 : Tryz.prog.cellsOf 3 = 1 := by kernel_rfl
theorem zep : laidOutB Tryz.prog = true := by kernel_rfl
theorem te (os : Os) (started : os.Started) (H : Type) (enc : TypeId × Value -> H) :
  ReturnsInHanded {} Tryz.checked os 3 .any (fun w args => (Rows.topPrintSpec.pre enc Tryz.prog Tryz.f3 [] false w args /\ laidMetH Tryz.prog Rows.topPrintRow.laid w) /\ sizedMet enc Tryz.prog Tryz.f3 (OpenSpec.ofChange Rows.topPrintSpec) false w args)
   (Rows.topPrintSpec.post enc Tryz.prog Tryz.f3 false true false false) := by
 refine returnsInHanded_of_change_and (C := Tryz.checked) (X := fun w _ => laidMetH Tryz.prog Rows.topPrintRow.laid w) (fun _ _ _ hh h => h.of_heap hh) Tryz.own started (by kernel_rfl) Tryz.func3
  ⟨rA os,fun _ _ => 0,⟨#[],#[.slice none 0 0,.int .i64 0,.int .i64 0],[]⟩,rfl,World.shaped_of_RefB (by kernel_rfl) (by kernel_rfl),rfl,(Input.okWide_of_okWideB (by kernel_rfl)).2,
   ⟨⟨ChangeSpec.pre_of_preB (fuel := 8) (by kernel_rfl),ax os _⟩,sizedMet_of_sizedB (fuel := 8) (by kernel_rfl)⟩,by simp only [Assume.holds]; exact ⟨by simp,by simp,fun _ => Modest.zero,by simp,by simp⟩⟩ ?_
 intro W s args ds E D n hW _ _ F _; have b : ∀ (j : Nat) t v,Tryz.f3.params[j]? = some t -> args[j]? = some v -> Value.okWide Tryz.prog W .any s t v := n; have u := hW; obtain ⟨p,q,I,J,rfl,_,_⟩ := hW; have V : DataW.TrodAll enc Tryz.prog W 0 (fun _ => true) true Tryz.f3.params.toList args.toList ds p := I; have Y : DataW.TrodVars enc Tryz.prog W (fun _ => true) [] E q := J; rw [Tryz.params3] at V b; obtain ⟨v0,v1,v2,_,_,_,Z,_,_,rfl,rfl,rfl,h0,h1,h2⟩ := trodAll_three V; have K := h0
 obtain ⟨rfl,rfl⟩ : E = [] /\ q = [] := by
  cases E with
  | nil => exact ⟨rfl,Y⟩
  | cons g r => exact absurd Y (by intro h; cases h)
 have L : ∀ x ∈ Z,x.block < W.heap.size := fun x hx => u.lt x (by simp [hx])
 obtain ⟨M,rfl,rfl,rfl,w1⟩ := open_int Tryz.underlying3 (b 1 3 v1 rfl rfl) h1; obtain ⟨N,rfl,rfl,rfl,w2⟩ := open_int Tryz.underlying3 (b 2 3 v2 rfl rfl) h2; obtain ⟨A,d,o,rfl⟩ := okWide_slice Tryz.underlying22 (b 0 22 v0 rfl rfl); have hE : Env W := ⟨ma (fd F).1,lH (fd F).1,sI (fd F).2⟩
 have l : d <= maxLen /\ (d <= 256 -> ∀ k : Nat,RawV (W.alloc (.cells #[.slice A d o,.int .i64 k] 42)) W.heap.size (.slice A d o)) := by
  obtain ⟨fuel,hf⟩ := h0
  rcases open_ints Tryz.underlying22 Tryz.underlying3 zg1 hf with ⟨e,_⟩ | ⟨a,a1,a2,O,e,_,hl,hm,hz,_,f,R⟩
  ·simp [Value.cells] at e
   obtain ⟨rfl,rfl,rfl⟩ := e
   exact ⟨by decide,fun _ k => .none _ _⟩
  ·simp [Value.cells] at e
   obtain ⟨rfl,rfl,rfl⟩ := e; refine ⟨by omega,fun hn k => ?_⟩
   rcases Nat.eq_zero_or_pos d with m | m
   ·subst m; exact .none _ _
   ·have a0 : d <= O.length := by rw [hz]; split <;> omega
    have a3 : a.block < W.heap.size := by have := World.block_lt_of_cell? W _ (f 0 (by omega)); rwa [oe] at this
    refine .some a d o (fun i => O.getD i 0) (by omega) m hn ⟨fun i hi => ?_,fun i => ?_,fun i => ?_⟩
    ·exact zY (World.grownBy_alloc W _ none) (f i (by omega)) (by simp)
    all_goals
     rw [List.getD_eq_getElem?_getD]; cases h8 : O[i]? with
     | none => simp
     | some z => have := ck (R z (List.mem_of_getElem? h8)); simp; omega
 have U : ∀ x y z : DataW H,Rows.topPrintSpec.fn H ([x,y,z] ++ []) = { results := [.lit (.bool true)],args := [x,y,z] } := fun x y z => by simp [Rows.topPrintSpec]
 have B : Calls Tryz.prog 3 #[.slice A d o,.int .i64 M,.int .i64 N] W fun e w' => e = .returned (.bool true) /\ W.grownBy w' none := by
  have r1 := ck w1; have r2 := ck w2
  rcases Nat.lt_or_ge 256 d with m | m
  ·exact zam A d o M N W m l.1
  ·exact ze9 A d o M N W r1.1 r1.2 r2.1 r2.2 hE m (l.2 m)
 refine B.mono fun e W' ⟨he,hg⟩ => ?_
 have hb := ij hg; subst he; refine ⟨_,rfl,_,_,_,[],Z ++ ([] ++ []),[],u,?_,?_,?_,hb.frame _,fun h => by cases h⟩
 ·rw [U]; exact trodAll_mk1 (shut_bool Tryz.underlying4 true)
 ·rw [U]; exact trodAll_mk3 (Below.trod zep (by kernel_rfl) (of_decide_eq_true (by kernel_rfl)) K hb L) (shut_int Tryz.underlying3 w1) (shut_int Tryz.underlying3 w2)
 ·rw [U]; rfl
theorem rz : Rows.TopPrintSaid :=
 OpenClaim.holds_of_wide 3 Tryz.f3 rfl rfl rfl rfl rfl rfl rfl ⟨rfl,rfl,rfl,rfl,rfl⟩ rfl rfl rfl rfl rfl (by kernel_rfl) Tryz.func3 (by kernel_rfl)
  (of_decide_eq_true (by kernel_rfl)) (by unfold Func.isWrapper; rw [if_neg (of_decide_eq_false (by kernel_rfl))]; exact ⟨rfl,rfl⟩)
  (fun os started H enc _ => te os started H enc)
theorem topPrint_card : Rows.TopPrintCardSaid :=
 Claim7.holds_tied_plain_at .later [] _ _ _ _
  rz (fun _ h => by cases h) (by kernel_rfl) (fun _ h => by cases h) topPrint_row_tie rfl ⟨rfl,rfl⟩ (by kernel_rfl) rfl
  (fun f fn hf hfn => by
   obtain rfl : f = 3 := Option.some.inj ((show Tryz.prog.funcNamed "oberlin/oberlintop.TopPrint" = some 3 by kernel_rfl).symm.trans hf) |>.symm; obtain rfl : fn = Tryz.f3 := (Option.some.inj (Tryz.func3.symm.trans hfn)).symm
   exact ⟨by kernel_rfl,fun j t ht => by
    rw [Tryz.params3] at ht
    have h9 : t = 22 \/ t = 3 := by
     rcases j with _ | _ | _ | j
     ·exact .inl (by simpa using ht.symm)
     ·exact .inr (by simpa using ht.symm)
     ·exact .inr (by simpa using ht.symm)
     ·simp at ht
    rcases h9 with rfl | rfl
    ·exact (show Tryz.prog.wantsStandIn 22 = false by kernel_rfl)
    ·exact (show Tryz.prog.wantsStandIn 3 = false by kernel_rfl)⟩)
  (by kernel_rfl)
#print axioms topPrint_card
end Go.Proofs.YtfjgelmllcnokaaGreatDoor
