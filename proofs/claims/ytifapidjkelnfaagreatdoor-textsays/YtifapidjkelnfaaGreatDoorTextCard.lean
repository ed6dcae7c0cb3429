/- The law TextSays holds,as the given card says,for every text: whatever memory it is called in (the listed variables laid as the program's text lays them),it returns true,its argument reads as it did,and what was there stays as it was. -/
import Derived.Test.YtifapidjkelnfaaGreatDoorCards
import Derived.Test.YtifapidjkelnfaaGreatDoorTie
import Derived.Test.YtifapidjkelnfaaGreatDoorG53
import Derived.Carry
import Derived.ProofKit
import Derived.OpenShut
import Derived.SliceStrings
import Derived.Deep.DeepHandedRow
import Derived.Deep.DeepWitnessRowRef
import Derived.Deep.DeepLaidRun
import Derived.Lib.LaidTab
import Derived.Stop.LaidErr
import Derived.ChangeSame
import Derived.ChangeVars
import Derived.JoinedOf
import Derived.RowKit
import Derived.RowKitTokens
import Derived.LaidLaws
import Derived.LaidHandle
import Derived.Stop.Joined
import Derived.SevenTiedAt
namespace Go.Proofs.YtifapidjkelnfaaGreatDoor
open Go.ChangeShapes Go.WideShapes Go.RowKit
open Go.ChangeMaps (open_string shut_string)
theorem lW : Tryz.prog.globalNamed "oberlin/oberlinref.kept" = some 1 := by kernel_rfl
theorem pT : (Tryz.prog.globals[1]?).map (·.type) = some 64 := by kernel_rfl
theorem np : (Tryz.prog.globals[2]?).map (·.type) = some 159 := by kernel_rfl
theorem nN : Tryz.prog.cellsOf 159 = 256 := by kernel_rfl
theorem oG : Tryz.prog.cellsOf 9 = 1 := by kernel_rfl
theorem kN : (Rows.laid_oberlin_oberlinref_kept : DataW Unit) = .slice (yM.map fun l => .lit (.string l)) [] := rfl
theorem nY : (Tryz.prog.globals[4]?).map (·.type) = some 221 := by kernel_rfl
theorem nZ : Tryz.prog.cellsOf 221 = 20 := by kernel_rfl
theorem mh : Tryz.prog.cellsOf 209 = 1 := by kernel_rfl
theorem sD : (Rows.laid_internal_strconv_uint64pow10 : DataW Unit) = Lib.tabData .u64 Lib.pow10Tab := by kernel_rfl
theorem tC : (Rows.laid_strings_asciiSpace : DataW Unit) = Lib.tabData .u8 Lib.asciiSpaceTab := by kernel_rfl
def fo : DataW Unit -> Bs
 | .lit (.string l) => l
 | _ => []
theorem fH (ss : List ByteArray) : (strs ss : List (DataW Unit)).map fo = ss.map fun s => s.data.toList := by
 unfold strs
 rw [List.map_map]
 rfl
theorem fA : (yM.map fun l => (DataW.lit (.string l) : DataW Unit)).map fo = yM := by
 rw [List.map_map]
 exact List.map_id _
theorem fE {W : World} {rest : List (String × DataW Unit)} (h : laidMet Tryz.prog (("oberlin/oberlinref.kept",Rows.laid_oberlin_oberlinref_kept) :: rest) W) : ∃ a cap,Kept33 W a cap := by
 obtain ⟨I,⟨g,t,r,u,p,q,A,B,i,C,_,_⟩,_⟩ := h; obtain rfl := Option.some.inj (lW.symm.trans A); obtain rfl := Option.some.inj (pT.symm.trans B)
 rcases open_strings Tryz.underlying64 Tryz.underlying9 oG C with ⟨_,m⟩ | ⟨a,b,cap,j,D,_,E,F,G,m,f,_⟩
 ·rw [kN] at m
  cases m
 ·have l := congrArg Prod.fst m
  simp only [kN,DataW.slice.injEq] at l
  have v : yM = (j.take b).map fun s => s.data.toList := by
   have := congrArg (List.map fo) l.1; rwa [fA,fH] at this
  have w : b <= j.length := by rw [G]; split <;> omega
  have n : b = 33 := by
   have := congrArg List.length v; rw [xy,List.length_map,List.length_take] at this
   omega
  subst n
  have x : ∀ (k : Nat) (h : k < 33),W.cell? (a.add k) = some (.string ⟨(yM[k]'(by rw [xy]; exact h)).toArray⟩) := by
   intro k y; rw [f k (by omega)]
   have z : yM[k]? = some (j[k]'(by omega)).data.toList := by
    rw [v,List.getElem?_map,List.getElem?_take,if_pos y,List.getElem?_eq_getElem (show k < j.length by omega)]
    rfl
   rw [List.getElem?_eq_getElem (show k < yM.length by rw [xy]; exact y)] at z; rw [Option.some.inj z,List.getD_eq_getElem?_getD,List.getElem?_eq_getElem (show k < j.length by omega)]
   simp
  have H : W.cell? ⟨1,0,none⟩ = some (.slice (some a) 33 cap) := by
   rw [World.var?_cell lW i 0]
   have : r = #[.slice (some a) 33 cap] := by cases r; simp_all
   rw [this]; rfl
  exact ⟨a,cap,vr (a := a.add 0) (x 0 (by omega)),H,⟨E,F⟩,x⟩
def ox : List (String × DataW Unit) := [("math/bits.deBruijn32tab",Rows.laid_math_bits_deBruijn32tab),("math/bits.deBruijn64tab",Rows.laid_math_bits_deBruijn64tab),("internal/strconv.uint64pow10",Rows.laid_internal_strconv_uint64pow10),("oberlin/oberlinref.kept",Rows.laid_oberlin_oberlinref_kept),("unicode.White_Space",Rows.laid_unicode_White_Space),("strings.asciiSpace",Rows.laid_strings_asciiSpace)]
def ie : List (String × DataW Unit) := [("errors.errorType",Rows.laid_errors_errorType)]
theorem ut {W : World} (h : laidMetH Tryz.prog Rows.textSaysRow.laid W) : laidMet Tryz.prog ox W /\ handlesMet Tryz.prog ie W := h
theorem dp {W : World} (h : laidMet Tryz.prog ox W) : Lib.TabIs Tryz.prog W "strings.asciiSpace" .u8 Lib.asciiSpaceTab :=
 Lib.tabIs_of_head (rest := []) iU np Tryz.underlying159 Tryz.underlying5 rm nN (show laidMet Tryz.prog [("strings.asciiSpace",Lib.tabData .u8 Lib.asciiSpaceTab)] W from tC ▸ h.tail.tail.tail.tail.tail)
theorem tj {W : World} (h : laidMet Tryz.prog ox W) : PT W :=
 Lib.tabIs_of_head (rest := [("oberlin/oberlinref.kept",Rows.laid_oberlin_oberlinref_kept),("unicode.White_Space",Rows.laid_unicode_White_Space),("strings.asciiSpace",Rows.laid_strings_asciiSpace)]) cK nY Tryz.underlying221 Tryz.underlying209 mh nZ (show laidMet Tryz.prog (("internal/strconv.uint64pow10",Lib.tabData .u64 Lib.pow10Tab) :: [("oberlin/oberlinref.kept",Rows.laid_oberlin_oberlinref_kept),("unicode.White_Space",Rows.laid_unicode_White_Space),("strings.asciiSpace",Rows.laid_strings_asciiSpace)]) W from sD ▸ h.tail.tail)
theorem Tryz.own : ownKnob Tryz.prog.godebug = none := by kernel_rfl
theorem Tryz.et : Tryz.prog.globalNamed "errors.errorType" = some 0 := by kernel_rfl
theorem Tryz.rt : (Tryz.prog.cutTypes.find? (·.1 == "internal/reflectlite.rtype")).map (·.2) = some 169 := by kernel_rfl
theorem Tryz.oneRow : ((List.range 253).filter fun t => Tryz.prog.rowNamed t [101,114,114,111,114]) = [44] := by kernel_rfl
theorem Tryz.typesSize : Tryz.prog.types.size = 253 := by kernel_rfl
theorem qx {W : World} (h : handlesMet Tryz.prog ie W) : HasErr W := by
 obtain ⟨a,u,g,i,j,l,m,b⟩ := h _ (List.mem_singleton.2 rfl); have n : a = [101,114,114,111,114] := (Option.some.inj i).symm; subst n; obtain rfl := Option.some.inj (Tryz.rt.symm.trans j)
 have f : g ∈ (List.range 253).filter fun t => Tryz.prog.rowNamed t [101,114,114,111,114] := List.mem_filter.2 ⟨List.mem_range.2 (by rw [<- Tryz.typesSize]; exact l),m⟩
 rw [Tryz.oneRow] at f; obtain rfl := List.mem_singleton.1 f
 have r : typeHandle Tryz.prog 44 = .pointer (some ⟨8,44,none⟩) := by kernel_rfl
 rw [r] at b
 unfold HasErr
 simpa using World.var?_cell Tryz.et b 0
def aI : List Int := [0,1,28,2,29,14,24,3,30,22,20,15,25,17,4,8,31,27,13,23,21,19,16,7,26,12,18,6,11,5,10,9]
def aC : List Int := [0,1,56,2,57,49,28,3,61,58,42,50,38,29,17,4,62,47,59,36,45,43,51,22,53,39,33,30,24,18,12,5,63,55,48,27,60,41,37,16,46,35,44,21,52,32,23,11,54,26,40,15,34,20,31,10,25,14,19,9,13,8,7,6]
noncomputable def qj (os : Os) : World :=
 let N := (World.settled Tryz.prog os).heap.size
 let w0 := World.holding Tryz.prog os ⟨#[.cells (yM.map fun l => Value.string ⟨l.toArray⟩).toArray 9,
  .cells (([9,13,1,32,133,101,160,5760,5600,8192,8202,1,8232,8233,1,8239,8287,48,12288,12288,1] : List Int).map fun z => Value.int .u16 z).toArray 202,
  .cells #[.slice (some ⟨N + 1,0,none⟩) 7 7,.slice none 0 0,.int .i64 2] 199],#[],[]⟩
 let put (h : Array Obj) (g : Nat) (cs : Array Value) : Array Obj := h.modify g fun
  | .cells _ t frozen => .cells cs t frozen
  | o => o
 { w0 with heap := put (put (put (put (put (put (put w0.heap 1 #[.slice (some ⟨N,0,none⟩) 33 33]) 2 (Lib.asciiSpaceTab.map fun z => Value.int .u8 z).toArray) 3 #[.pointer (some ⟨N + 2,0,none⟩)]) 0 #[.iface 169 (.agg #[.pointer (some ⟨8,44,none⟩)])]) 4 (Lib.pow10Tab.map fun z => Value.int .u64 z).toArray) 5 (aI.map fun z => Value.int .u8 z).toArray) 6 (aC.map fun z => Value.int .u8 z).toArray }
set_option maxRecDepth 100000 in
theorem pZ (os : Os) (args : Array Value) : laidMetH Tryz.prog Rows.textSaysRow.laid ((qj os).forCall (fun _ _ => 0) ⟨#[],args,[]⟩).memory :=
 laidMetH_of_parts (laidMet_of_run3 10 (by kernel_rfl) (by kernel_rfl) (by kernel_rfl)) (by kernel_rfl)
theorem aq : laidOutB Tryz.prog = true := by kernel_rfl
set_option maxRecDepth 100000 in
theorem kR (os : Os) (started : os.Started) (H : Type) (enc : TypeId × Value -> H) :
  ReturnsInHanded {} Tryz.checked os 3 .any (fun w args => (Rows.textSaysSpec.pre enc Tryz.prog Tryz.f3 [] false w args /\ laidMetH Tryz.prog Rows.textSaysRow.laid w) /\ sizedMet enc Tryz.prog Tryz.f3 (OpenSpec.ofChange Rows.textSaysSpec) false w args)
   (Rows.textSaysSpec.post enc Tryz.prog Tryz.f3 false true false false) := by
 refine returnsInHanded_of_change_and (C := Tryz.checked) (X := fun w _ => laidMetH Tryz.prog Rows.textSaysRow.laid w) (fun _ _ _ hh h => h.of_heap hh) Tryz.own started (by kernel_rfl) Tryz.func3
  ⟨qj os,fun _ _ => 0,⟨#[],#[.string ⟨#[]⟩],[]⟩,rfl,World.shaped_of_RefB (by kernel_rfl) (by kernel_rfl),rfl,(Input.okWide_of_okWideB (by kernel_rfl)).2,
   ⟨⟨ChangeSpec.pre_of_preB (fuel := 8) (by kernel_rfl),pZ os _⟩,sizedMet_of_sizedB (fuel := 8) (by kernel_rfl)⟩,by simp only [Assume.holds]; exact ⟨by simp,by simp,fun _ => Modest.zero,by simp,by simp⟩⟩ ?_
 intro W f args F n l b hW _ _ m _; have a : ∀ (j : Nat) t v,Tryz.f3.params[j]? = some t -> args[j]? = some v -> Value.okWide Tryz.prog W .any f t v := b; have u := hW; obtain ⟨p,q,y,z,rfl,G,I⟩ := hW; have B : DataW.TrodAll enc Tryz.prog W 0 (fun _ => true) true Tryz.f3.params.toList args.toList F p := y; have D : DataW.TrodVars enc Tryz.prog W (fun _ => true) [] n q := z; rw [Tryz.params3] at B a; obtain ⟨J,O,rfl,rfl,K⟩ := trodAll_one B; obtain ⟨s,rfl,rfl,rfl,E⟩ := open_string Tryz.underlying9 (a 0 9 J rfl rfl) K; have L := qx (ut m).2; have i := dp (ut m).1; have M := tj (ut m).1; have N : KW W := fE (ut m).1.tail.tail.tail
 obtain ⟨rfl,rfl⟩ : n = [] /\ q = [] := by
  cases n with
  | nil => exact ⟨rfl,D⟩
  | cons g r => exact absurd D (by intro h; cases h)
 have A : ∀ x : DataW H,Rows.textSaysSpec.fn H ([x] ++ []) = { results := [.lit (.bool true)],args := [x] } := fun x => by simp [Rows.textSaysSpec]
 refine (tw s W E N i M L).mono fun e W' ⟨he,hb⟩ => ?_
 subst he; refine ⟨_,rfl,_,_,_,[],[],[],u,?_,?_,?_,hb.frame _,fun h => by cases h⟩
 ·rw [A]; exact trodAll_mk1 (shut_bool Tryz.underlying4 true)
 ·rw [A]; exact trodAll_mk1 (shut_string Tryz.underlying9 E)
 ·rw [A]; rfl
theorem qB : Rows.TextSaysSaid :=
 OpenClaim.holds_of_wide 3 Tryz.f3 rfl rfl rfl rfl rfl rfl rfl ⟨rfl,rfl,rfl,rfl,rfl⟩ rfl rfl rfl rfl rfl (by kernel_rfl) Tryz.func3 (by kernel_rfl)
  (of_decide_eq_true (by kernel_rfl)) (by unfold Func.isWrapper; rw [if_neg (of_decide_eq_false (by kernel_rfl))]; exact ⟨rfl,rfl⟩)
  (fun os started H enc _ => kR os started H enc)
theorem textSays_card : Rows.TextSaysCardSaid :=
 Claim7.holds_tied_plain_at .later [] _ _ _ _
  qB (fun _ h => by cases h) (by kernel_rfl) (fun _ h => by cases h) textSays_row_tie rfl ⟨rfl,rfl⟩ (by kernel_rfl) rfl
  (fun f fn hf hfn => by
   obtain rfl : f = 3 := Option.some.inj ((show Tryz.prog.funcNamed "oberlin/oberlinlaw.TextSays" = some 3 by kernel_rfl).symm.trans hf) |>.symm; obtain rfl : fn = Tryz.f3 := (Option.some.inj (Tryz.func3.symm.trans hfn)).symm
   exact ⟨by kernel_rfl,fun j t ht => by
    rw [Tryz.params3] at ht
    have h9 : t = 9 := by
     rcases j with _ | j
     ·simpa using ht.symm
     ·simp at ht
    subst h9
    exact (show Tryz.prog.wantsStandIn 9 = false by kernel_rfl)⟩)
  (by kernel_rfl)
#print axioms textSays_card
end Go.Proofs.YtifapidjkelnfaaGreatDoor
