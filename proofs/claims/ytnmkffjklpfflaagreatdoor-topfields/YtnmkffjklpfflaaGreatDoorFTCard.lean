/- The law TopFields holds,as the given card says,for all raw numbers: whatever memory it is called in (the listed variables laid as the program's text lays them),it returns true,its arguments read as they did,and what was there stays as it was. -/
import Derived.Test.YtnmkffjklpfflaaGreatDoorCards
import Derived.Test.YtnmkffjklpfflaaGreatDoorTie
import Derived.Test.YtnmkffjklpfflaaGreatDoorG53
import Derived.ChangeSlices
import Derived.Carry
import Derived.ProofKit
import Derived.OpenShut
import Derived.SliceStrings
import Derived.Deep.DeepHandedRow
import Derived.Deep.DeepWitnessRowRef
import Derived.Deep.DeepLaidRun
import Derived.Lib.LaidTab
import Derived.Stop.LaidErr
import Derived.ChangeSame
import Derived.ChangeVars
import Derived.JoinedOf
import Derived.RowKit
import Derived.RowKitTokens
import Derived.LaidLaws
import Derived.LaidHandle
import Derived.Stop.Joined
import Derived.SevenTiedAt
namespace Go.Proofs.YtnmkffjklpfflaaGreatDoor
open Go.ChangeShapes Go.WideShapes Go.RowKit
open Go.ChangeMaps (open_string shut_string)
set_option maxHeartbeats 400000
set_option maxRecDepth 100000
theorem bE : Tryz.prog.cellsOf 5 = 1 := by kernel_rfl
theorem aM {w w' : World} (hg : w.grownBy w' none) : Below w.heap.size w w' := ⟨hg.os,hg.tape,hg.output,hg.size,fun i hi => hg.block i hi (by simp)⟩
theorem iF : (Tryz.prog.globals[1]?).map (·.type) = some 168 := by kernel_rfl
theorem ic : Tryz.prog.cellsOf 168 = 256 := by kernel_rfl
theorem oq : (Rows.laid_strings_asciiSpace : DataW Unit) = Lib.tabData .u8 Lib.asciiSpaceTab := by kernel_rfl
def al : List (String × DataW Unit) := [("unicode.White_Space",Rows.laid_unicode_White_Space),("strings.asciiSpace",Rows.laid_strings_asciiSpace)]
def aw : List (String × DataW Unit) := [("errors.errorType",Rows.laid_errors_errorType)]
theorem fj {W : World} (h : laidMetH Tryz.prog Rows.topFieldsRow.laid W) : laidMet Tryz.prog al W /\ handlesMet Tryz.prog aw W := h
theorem rq {W : World} (h : laidMet Tryz.prog al W) : Lib.TabIs Tryz.prog W "strings.asciiSpace" .u8 Lib.asciiSpaceTab :=
 Lib.tabIs_of_head (rest := []) aQ iF Tryz.underlying168 Tryz.underlying5 bE ic (show laidMet Tryz.prog [("strings.asciiSpace",Lib.tabData .u8 Lib.asciiSpaceTab)] W from oq ▸ h.tail)
theorem Tryz.own : ownKnob Tryz.prog.godebug = none := by kernel_rfl
theorem Tryz.et : Tryz.prog.globalNamed "errors.errorType" = some 0 := by kernel_rfl
theorem Tryz.rt : (Tryz.prog.cutTypes.find? (·.1 == "internal/reflectlite.rtype")).map (·.2) = some 184 := by kernel_rfl
theorem Tryz.oneRow : ((List.range 284).filter fun t => Tryz.prog.rowNamed t [101,114,114,111,114]) = [27] := by kernel_rfl
theorem Tryz.typesSize : Tryz.prog.types.size = 284 := by kernel_rfl
theorem fp {W : World} (h : handlesMet Tryz.prog aw W) : HasErr W := by
 obtain ⟨b,_,e,f,g,i,j,c⟩ := h _ (List.mem_singleton.2 rfl); have k : b = [101,114,114,111,114] := (Option.some.inj f).symm; subst k; obtain rfl := Option.some.inj (Tryz.rt.symm.trans g)
 have d : e ∈ (List.range 284).filter fun t => Tryz.prog.rowNamed t [101,114,114,111,114] := List.mem_filter.2 ⟨List.mem_range.2 (by rw [<- Tryz.typesSize]; exact i),j⟩
 rw [Tryz.oneRow] at d; obtain rfl := List.mem_singleton.1 d
 have l : typeHandle Tryz.prog 27 = .pointer (some ⟨8,27,none⟩) := by kernel_rfl
 rw [l] at c
 unfold HasErr
 simpa using World.var?_cell Tryz.et c 0
noncomputable def gB (os : Os) : World :=
 let N := (World.settled Tryz.prog os).heap.size
 let w0 := World.holding Tryz.prog os ⟨#[.cells (([9,13,1,32,133,101,160,5760,5600,8192,8202,1,8232,8233,1,8239,8287,48,12288,12288,1] : List Int).map fun z => Value.int .u16 z).toArray 237,
  .cells #[.slice (some ⟨N,0,none⟩) 7 7,.slice none 0 0,.int .i64 2] 234],#[],[]⟩
 let put (h : Array Obj) (g : Nat) (cs : Array Value) : Array Obj := h.modify g fun
  | .cells _ t frozen => .cells cs t frozen
  | o => o
 { w0 with heap := put (put (put w0.heap 1 (Lib.asciiSpaceTab.map fun z => Value.int .u8 z).toArray) 2 #[pq (N + 1)]) 0 #[.iface 184 (.agg #[.pointer (some ⟨8,27,none⟩)])] }
theorem mY (os : Os) (args : Array Value) : laidMetH Tryz.prog Rows.topFieldsRow.laid ((gB os).forCall (fun _ _ => 0) ⟨#[],args,[]⟩).memory :=
 laidMetH_of_parts (laidMet_of_run3 10 (by kernel_rfl) (by kernel_rfl) (by kernel_rfl)) (by kernel_rfl)
theorem zac : Tryz.prog.cellsOf 3 = 1 := by kernel_rfl
theorem bz : laidOutB Tryz.prog = true := by kernel_rfl
theorem qE (os : Os) (started : os.Started) (H : Type) (enc : TypeId × Value -> H) :
  ReturnsInHanded {} Tryz.checked os 3 .any (fun w args => (Rows.topFieldsSpec.pre enc Tryz.prog Tryz.f3 [] false w args /\ laidMetH Tryz.prog Rows.topFieldsRow.laid w) /\ sizedMet enc Tryz.prog Tryz.f3 (OpenSpec.ofChange Rows.topFieldsSpec) false w args)
   (Rows.topFieldsSpec.post enc Tryz.prog Tryz.f3 false true false false) := by
 refine returnsInHanded_of_change_and (C := Tryz.checked) (X := fun w _ => laidMetH Tryz.prog Rows.topFieldsRow.laid w) (fun _ _ _ hh h => h.of_heap hh) Tryz.own started (by kernel_rfl) Tryz.func3
  ⟨gB os,fun _ _ => 0,⟨#[],#[.slice none 0 0,.int .i64 0,.int .i64 0],[]⟩,rfl,World.shaped_of_RefB (by kernel_rfl) (by kernel_rfl),rfl,(Input.okWide_of_okWideB (by kernel_rfl)).2,
   ⟨⟨ChangeSpec.pre_of_preB (fuel := 8) (by kernel_rfl),mY os _⟩,sizedMet_of_sizedB (fuel := 8) (by kernel_rfl)⟩,by simp only [Assume.holds]; exact ⟨by simp,by simp,fun _ => Modest.zero,by simp,by simp⟩⟩ ?_
 intro W o args ds D B m hW _ _ O _; have b : ∀ (j : Nat) t v,Tryz.f3.params[j]? = some t -> args[j]? = some v -> Value.okWide Tryz.prog W .any o t v := m; have s := hW; obtain ⟨p,q,E,F,rfl,_,_⟩ := hW; have Q : DataW.TrodAll enc Tryz.prog W 0 (fun _ => true) true Tryz.f3.params.toList args.toList ds p := E; have R : DataW.TrodVars enc Tryz.prog W (fun _ => true) [] D q := F; rw [Tryz.params3] at Q b; obtain ⟨v0,v1,v2,_,_,_,U,_,_,rfl,rfl,rfl,V,h1,h2⟩ := trodAll_three Q; have G := V
 obtain ⟨rfl,rfl⟩ : D = [] /\ q = [] := by
  cases D with
  | nil => exact ⟨rfl,R⟩
  | cons g r => exact absurd R (by intro h; cases h)
 have I : ∀ x ∈ U,x.block < W.heap.size := fun x hx => s.lt x (by simp [hx])
 obtain ⟨J,rfl,rfl,rfl,Y⟩ := open_int Tryz.underlying3 (b 1 3 v1 rfl rfl) h1; obtain ⟨K,rfl,rfl,rfl,Z⟩ := open_int Tryz.underlying3 (b 2 3 v2 rfl rfl) h2; obtain ⟨u,c,n,rfl⟩ := okWide_slice Tryz.underlying22 (b 0 22 v0 rfl rfl)
 have f : c <= maxLen /\ (c <= 256 -> ∀ k : Nat,RawV (W.alloc (.cells #[.slice u c n,.int .i64 k] 43)) W.heap.size (.slice u c n)) := by
  obtain ⟨fuel,hf⟩ := V
  rcases open_ints Tryz.underlying22 Tryz.underlying3 zac hf with ⟨e,_⟩ | ⟨a,a1,a2,L,e,_,hl,hm,hz,_,d,M⟩
  ·simp [Value.cells] at e
   obtain ⟨rfl,rfl,rfl⟩ := e
   exact ⟨by decide,fun _ k => .none _ _⟩
  ·simp [Value.cells] at e
   obtain ⟨rfl,rfl,rfl⟩ := e; refine ⟨by omega,fun hn k => ?_⟩
   rcases Nat.eq_zero_or_pos c with l | l
   ·subst l; exact .none _ _
   ·have a0 : c <= L.length := by rw [hz]; split <;> omega
    have a3 : a.block < W.heap.size := by have := World.block_lt_of_cell? W _ (d 0 (by omega)); rwa [tl] at this
    refine .some a c n (fun i => L.getD i 0) (by omega) l hn ⟨fun i hi => ?_,fun i => ?_,fun i => ?_⟩
    ·exact zE (World.grownBy_alloc W _ none) (d i (by omega)) (by simp)
    all_goals
     rw [List.getD_eq_getElem?_getD]; cases h8 : L[i]? with
     | none => simp
     | some z => have := nk (M z (List.mem_of_getElem? h8)); simp; omega
 have N : ∀ x y z : DataW H,Rows.topFieldsSpec.fn H ([x,y,z] ++ []) = { results := [.lit (.bool true)],args := [x,y,z] } := fun x y z => by simp [Rows.topFieldsSpec]
 have A : Calls Tryz.prog 3 #[.slice u c n,.int .i64 J,.int .i64 K] W fun e w' => e = .returned (.bool true) /\ W.grownBy w' none := by
  have r1 := nk Y; have r2 := nk Z
  rcases Nat.lt_or_ge 256 c with l | l
  ·exact oo u c n J K W l f.1
  ·exact nA u c n J K W r1.1 r1.2 r2.1 r2.2 (rq (fj O).1) (fp (fj O).2) l (f.2 l)
 refine A.mono fun e W' ⟨he,hg⟩ => ?_
 have hb := aM hg; subst he; refine ⟨_,rfl,_,_,_,[],U ++ ([] ++ []),[],s,?_,?_,?_,hb.frame _,fun h => by cases h⟩
 ·rw [N]; exact trodAll_mk1 (shut_bool Tryz.underlying4 true)
 ·rw [N]; exact trodAll_mk3 (Below.trod bz (by kernel_rfl) (of_decide_eq_true (by kernel_rfl)) G hb I) (shut_int Tryz.underlying3 Y) (shut_int Tryz.underlying3 Z)
 ·rw [N]; rfl
theorem gj : Rows.TopFieldsSaid :=
 OpenClaim.holds_of_wide 3 Tryz.f3 rfl rfl rfl rfl rfl rfl rfl ⟨rfl,rfl,rfl,rfl,rfl⟩ rfl rfl rfl rfl rfl (by kernel_rfl) Tryz.func3 (by kernel_rfl)
  (of_decide_eq_true (by kernel_rfl)) (by unfold Func.isWrapper; rw [if_neg (of_decide_eq_false (by kernel_rfl))]; exact ⟨rfl,rfl⟩)
  (fun os started H enc _ => qE os started H enc)
theorem topFields_card : Rows.TopFieldsCardSaid :=
 Claim7.holds_tied_plain_at .later [] _ _ _ _
  gj (fun _ h => by cases h) (by kernel_rfl) (fun _ h => by cases h) topFields_row_tie rfl ⟨rfl,rfl⟩ (by kernel_rfl) rfl
  (fun f fn hf hfn => by
   obtain rfl : f = 3 := Option.some.inj ((show Tryz.prog.funcNamed "oberlin/oberlintop.TopFields" = some 3 by kernel_rfl).symm.trans hf) |>.symm; obtain rfl : fn = Tryz.f3 := (Option.some.inj (Tryz.func3.symm.trans hfn)).symm
   exact ⟨by kernel_rfl,fun j t ht => by
    rw [Tryz.params3] at ht
    have h9 : t = 22 \/ t = 3 := by
     rcases j with _ | _ | _ | j
     ·exact .inl (by simpa using ht.symm)
     ·exact .inr (by simpa using ht.symm)
     ·exact .inr (by simpa using ht.symm)
     ·simp at ht
    rcases h9 with rfl | rfl
    ·exact (show Tryz.prog.wantsStandIn 22 = false by kernel_rfl)
    ·exact (show Tryz.prog.wantsStandIn 3 = false by kernel_rfl)⟩)
  (by kernel_rfl)
#print axioms topFields_card
end Go.Proofs.YtnmkffjklpfflaaGreatDoor
