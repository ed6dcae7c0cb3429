/- The law ParseSays holds, as the given card says, for every text: whatever memory it is called in (the listed variables laid as the program's text lays them), it returns true, its argument reads as it did, and what was there stays as it was. -/
import Derived.Test.YtbphiiaoncakfaaGreatDoorCards
import Derived.Test.YtbphiiaoncakfaaGreatDoorTie
import Derived.Test.YtbphiiaoncakfaaGreatDoorG23
import Derived.Test.YtbphiiaoncakfaaGreatDoorG37
import Derived.ProofKit
import Derived.OpenShut
import Derived.SliceStrings
import Derived.Deep.DeepHandedRow
import Derived.Deep.DeepWitnessRowRef
import Derived.Deep.DeepLaidRun
import Derived.Lib.LaidTab
import Derived.Stop.LaidErr
import Derived.ChangeSame
import Derived.ChangeVars
import Derived.JoinedOf
import Derived.RowKit
import Derived.RowKitTokens
import Derived.LaidLaws
import Derived.LaidHandle
import Derived.Stop.Joined
import Derived.SevenTiedAt
namespace Go.Proofs.YtbphiiaoncakfaaGreatDoor
open Go.ChangeShapes Go.WideShapes Go.RowKit
open Go.ChangeMaps (open_string shut_string)

theorem gKept : Tryz.prog.globalNamed "oberlin/oberlinref.kept" = some 3 := by kernel_rfl
theorem gKeptType : (Tryz.prog.globals[3]?).map (·.type) = some 71 := by kernel_rfl
theorem gTabType : (Tryz.prog.globals[0]?).map (·.type) = some 82 := by kernel_rfl
theorem cellsTab : Tryz.prog.cellsOf 82 = 256 := by kernel_rfl
theorem cellsU8 : Tryz.prog.cellsOf 5 = 1 := by kernel_rfl
theorem cellsStr : Tryz.prog.cellsOf 9 = 1 := by kernel_rfl
theorem laidKept_eq : (Rows.laid_oberlin_oberlinref_kept : DataW Unit) = .slice (keptL.map fun l => .lit (.string l)) [] := rfl
theorem laidTab_eq : (Rows.laid_strings_asciiSpace : DataW Unit) = Lib.tabData .u8 Lib.asciiSpaceTab := by kernel_rfl

/-- A datum's string. -/
def bytesOf : DataW Unit → List UInt8
  | .lit (.string l) => l
  | _ => []

theorem bytesOf_strs (ss : List ByteArray) : (strs ss : List (DataW Unit)).map bytesOf = ss.map fun s => s.data.toList := by
  unfold strs
  rw [List.map_map]
  rfl
theorem bytesOf_kept : (keptL.map fun l => (DataW.lit (.string l) : DataW Unit)).map bytesOf = keptL := by
  rw [List.map_map]
  exact List.map_id _

/-- What the row's list gives: where the kept words lie. -/
theorem kept_of_laid {W : World} {rest : List (String × DataW Unit)} (h : laidMet Tryz.prog (("oberlin/oberlinref.kept", Rows.laid_oberlin_oberlinref_kept) :: rest) W) : ∃ a cap, Kept33 W a cap := by
  obtain ⟨ps, ⟨g, t, cs, fuel, p, q, hg, ht, hvar, hd, _, _⟩, _⟩ := h; obtain rfl := Option.some.inj (gKept.symm.trans hg); obtain rfl := Option.some.inj (gKeptType.symm.trans ht)
  rcases open_strings Tryz.underlying71 Tryz.underlying9 cellsStr hd with ⟨_, hx⟩ | ⟨a, len, cap, ss, hcs, _, hl, hm, hz, hx, hcell, _⟩
  · rw [laidKept_eq] at hx
    cases hx
  · have hx1 := congrArg Prod.fst hx
    simp only [laidKept_eq, DataW.slice.injEq] at hx1
    have e1 : keptL = (ss.take len).map fun s => s.data.toList := by
      have := congrArg (List.map bytesOf) hx1.1; rwa [bytesOf_kept, bytesOf_strs] at this
    have hlen : len ≤ ss.length := by rw [hz]; split <;> omega
    have h33 : len = 33 := by
      have := congrArg List.length e1; rw [kept_len, List.length_map, List.length_take] at this
      omega
    subst h33
    have hc : ∀ (k : Nat) (h : k < 33), W.cell? (a.add k) = some (.string ⟨(keptL[k]'(by rw [kept_len]; exact h)).toArray⟩) := by
      intro k hk; rw [hcell k (by omega)]
      have e2 : keptL[k]? = some (ss[k]'(by omega)).data.toList := by
        rw [e1, List.getElem?_map, List.getElem?_take, if_pos hk, List.getElem?_eq_getElem (show k < ss.length by omega)]
        rfl
      rw [List.getElem?_eq_getElem (show k < keptL.length by rw [kept_len]; exact hk)] at e2; rw [Option.some.inj e2, List.getD_eq_getElem?_getD, List.getElem?_eq_getElem (show k < ss.length by omega)]
      simp
    have hh : W.cell? ⟨3, 0, none⟩ = some (.slice (some a) 33 cap) := by
      rw [World.var?_cell gKept hvar 0]
      have : cs = #[.slice (some a) 33 cap] := by cases cs; simp_all
      rw [this]; rfl
    exact ⟨a, cap, lt_of_cell (a := a.add 0) (hc 0 (by omega)), hh, ⟨hl, hm⟩, hc⟩

def laidD : List (String × DataW Unit) := [("oberlin/oberlinref.kept", Rows.laid_oberlin_oberlinref_kept), ("unicode.White_Space", Rows.laid_unicode_White_Space), ("strings.asciiSpace", Rows.laid_strings_asciiSpace)]
def laidE : List (String × DataW Unit) := [("errors.errorType", Rows.laid_errors_errorType)]
theorem laid_parts {W : World} (h : laidMetH Tryz.prog Rows.parseSaysRow.laid W) : laidMet Tryz.prog laidD W ∧ handlesMet Tryz.prog laidE W := h
theorem tab_of_laid {W : World} (h : laidMet Tryz.prog laidD W) : Lib.TabIs Tryz.prog W "strings.asciiSpace" .u8 Lib.asciiSpaceTab :=
  Lib.tabIs_of_head (rest := []) gTab gTabType Tryz.underlying82 Tryz.underlying5 cellsU8 cellsTab (show laidMet Tryz.prog [("strings.asciiSpace", Lib.tabData .u8 Lib.asciiSpaceTab)] W from laidTab_eq ▸ h.tail.tail)

theorem Tryz.own : ownKnob Tryz.prog.godebug = none := by kernel_rfl
theorem Tryz.et : Tryz.prog.globalNamed "errors.errorType" = some 1 := by kernel_rfl
theorem Tryz.rt : (Tryz.prog.cutTypes.find? (·.1 == "internal/reflectlite.rtype")).map (·.2) = some 116 := by kernel_rfl
theorem Tryz.oneRow : ((List.range 176).filter fun t => Tryz.prog.rowNamed t [101, 114, 114, 111, 114]) = [32] := by kernel_rfl
theorem Tryz.typesSize : Tryz.prog.types.size = 176 := by kernel_rfl

/-- What the condition gives a walk: the variable's one cell. -/
theorem handle_of_laid {W : World} (h : handlesMet Tryz.prog laidE W) : HasErr W := by
  obtain ⟨name, u, ty, e1, e2, e3, e4, e5⟩ := h _ (List.mem_singleton.2 rfl); have en : name = [101, 114, 114, 111, 114] := (Option.some.inj e1).symm; subst en; obtain rfl := Option.some.inj (Tryz.rt.symm.trans e2)
  have hm : ty ∈ (List.range 176).filter fun t => Tryz.prog.rowNamed t [101, 114, 114, 111, 114] := List.mem_filter.2 ⟨List.mem_range.2 (by rw [← Tryz.typesSize]; exact e3), e4⟩
  rw [Tryz.oneRow] at hm; obtain rfl := List.mem_singleton.1 hm
  have hh : typeHandle Tryz.prog 32 = .pointer (some ⟨6, 32, none⟩) := by kernel_rfl
  rw [hh] at e5
  unfold HasErr
  simpa using World.var?_cell Tryz.et e5 0

/-- A world that meets the condition: the settled one with three blocks more, the four variables holding what their initialisers lay. -/
noncomputable def laidWorldP (os : Os) : World :=
  let N := (World.settled Tryz.prog os).heap.size
  let w0 := World.holding Tryz.prog os ⟨#[.cells (keptL.map fun l => Value.string ⟨l.toArray⟩).toArray 9,
    .cells (([9, 13, 1, 32, 133, 101, 160, 5760, 5600, 8192, 8202, 1, 8232, 8233, 1, 8239, 8287, 48, 12288, 12288, 1] : List Int).map fun z => Value.int .u16 z).toArray 137,
    .cells #[.slice (some ⟨N + 1, 0, none⟩) 7 7, .slice none 0 0, .int .i64 2] 134], #[], []⟩
  let put (h : Array Obj) (g : Nat) (cs : Array Value) : Array Obj := h.modify g fun
    | .cells _ t frozen => .cells cs t frozen
    | o => o
  { w0 with heap := put (put (put (put w0.heap 3 #[.slice (some ⟨N, 0, none⟩) 33 33]) 0 (Lib.asciiSpaceTab.map fun z => Value.int .u8 z).toArray) 2 #[.pointer (some ⟨N + 2, 0, none⟩)]) 1 #[.iface 116 (.agg #[.pointer (some ⟨6, 32, none⟩)])] }
set_option maxRecDepth 100000 in
theorem laidP_met (os : Os) (args : Array Value) : laidMetH Tryz.prog Rows.parseSaysRow.laid ((laidWorldP os).forCall (fun _ _ => 0) ⟨#[], args, []⟩).memory :=
  laidMetH_of_parts (laidMet_of_run3 10 (by kernel_rfl) (by kernel_rfl) (by kernel_rfl)) (by kernel_rfl)

set_option maxRecDepth 100000 in
theorem parseSays_lifted (os : Os) (started : os.Started) (H : Type) (enc : TypeId × Value → H) :
    ReturnsInHanded {} Tryz.checked os 3 .any (fun w args => (Rows.parseSaysSpec.pre enc Tryz.prog Tryz.f3 [] false w args ∧ laidMetH Tryz.prog Rows.parseSaysRow.laid w) ∧ sizedMet enc Tryz.prog Tryz.f3 (OpenSpec.ofChange Rows.parseSaysSpec) false w args)
      (Rows.parseSaysSpec.post enc Tryz.prog Tryz.f3 false true false false) := by
  refine returnsInHanded_of_change_and (C := Tryz.checked) (X := fun w _ => laidMetH Tryz.prog Rows.parseSaysRow.laid w) (fun _ _ _ hh h => h.of_heap hh) Tryz.own started (by kernel_rfl) Tryz.func3
    ⟨laidWorldP os, fun _ _ => 0, ⟨#[], #[.string ⟨#[]⟩], []⟩, rfl, World.shaped_of_RefB (by kernel_rfl) (by kernel_rfl), rfl, (Input.okWide_of_okWideB (by kernel_rfl)).2,
      ⟨⟨ChangeSpec.pre_of_preB (fuel := 8) (by kernel_rfl), laidP_met os _⟩, sizedMet_of_sizedB (fuel := 8) (by kernel_rfl)⟩, by simp only [Assume.holds]; exact ⟨by simp, by simp, fun _ => Modest.zero, by simp, by simp⟩⟩ ?_
  intro W base args ds gs before hval0 hW _ _ hL _; have hval : ∀ (j : Nat) t v, Tryz.f3.params[j]? = some t → args[j]? = some v → Value.okWide Tryz.prog W .any base t v := hval0; have hW' := hW; obtain ⟨p, q, hA0, hV0, rfl, hfz, hnd⟩ := hW; have hA : DataW.TrodAll enc Tryz.prog W 0 (fun _ => true) true Tryz.f3.params.toList args.toList ds p := hA0; have hV : DataW.TrodVars enc Tryz.prog W (fun _ => true) [] gs q := hV0; rw [Tryz.params3] at hA hval; obtain ⟨v0, d0, rfl, rfl, h0⟩ := trodAll_one hA; obtain ⟨s, rfl, rfl, rfl, ws⟩ := open_string Tryz.underlying9 (hval 0 9 v0 rfl rfl) h0; have hg := handle_of_laid (laid_parts hL).2; have htab := tab_of_laid (laid_parts hL).1; obtain ⟨a, cap, hk⟩ := kept_of_laid (laid_parts hL).1
  obtain ⟨rfl, rfl⟩ : gs = [] ∧ q = [] := by
    cases gs with
    | nil => exact ⟨rfl, hV⟩
    | cons g r => exact absurd hV (by intro h; cases h)
  have e1 : ∀ x : DataW H, Rows.parseSaysSpec.fn H ([x] ++ []) = { results := [.lit (.bool true)], args := [x] } := fun x => by simp [Rows.parseSaysSpec]
  refine (psays_any s W a cap ws htab hk hg moduleOKQ).mono fun e W' ⟨he, hb⟩ => ?_
  subst he; refine ⟨_, rfl, _, _, _, [], [], [], hW', ?_, ?_, ?_, hb.frame _, fun h => by cases h⟩
  · rw [e1]; exact trodAll_mk1 (shut_bool Tryz.underlying4 true)
  · rw [e1]; exact trodAll_mk1 (shut_string Tryz.underlying9 ws)
  · rw [e1]; rfl

theorem parseSays_holds : Rows.ParseSaysSaid :=
  OpenClaim.holds_of_wide 3 Tryz.f3 rfl rfl rfl rfl rfl rfl rfl ⟨rfl, rfl, rfl, rfl, rfl⟩ rfl rfl rfl rfl rfl (by kernel_rfl) Tryz.func3 (by kernel_rfl)
    (of_decide_eq_true (by kernel_rfl)) (by unfold Func.isWrapper; rw [if_neg (of_decide_eq_false (by kernel_rfl))]; exact ⟨rfl, rfl⟩)
    (fun os started H enc _ => parseSays_lifted os started H enc)

theorem parseSays_card : Rows.ParseSaysCardSaid :=
  Claim7.holds_tied_plain_at .later [] _ _ _ _
    parseSays_holds (fun _ h => by cases h) (by kernel_rfl) (fun _ h => by cases h) parseSays_row_tie rfl ⟨rfl, rfl⟩ (by kernel_rfl) rfl
    (fun f fn hf hfn => by
      obtain rfl : f = 3 := Option.some.inj ((show Tryz.prog.funcNamed "oberlin/oberlinlaw.ParseSays" = some 3 by kernel_rfl).symm.trans hf) |>.symm; obtain rfl : fn = Tryz.f3 := (Option.some.inj (Tryz.func3.symm.trans hfn)).symm
      exact ⟨by kernel_rfl, fun j t ht => by
        rw [Tryz.params3] at ht
        have h9 : t = 9 := by
          rcases j with _ | j
          · simpa using ht.symm
          · simp at ht
        subst h9
        exact (show Tryz.prog.wantsStandIn 9 = false by kernel_rfl)⟩)
    (by kernel_rfl)
#print axioms parseSays_card
end Go.Proofs.YtbphiiaoncakfaaGreatDoor
