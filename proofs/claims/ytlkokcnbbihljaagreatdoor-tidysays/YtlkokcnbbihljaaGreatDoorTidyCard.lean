/- The law TidySays holds, as the given card says, for every tree: whatever memory it is called in (the listed variables laid as the program's text lays them), it returns true, its argument reads as it did, and what was there stays as it was. -/
import Derived.Test.YtlkokcnbbihljaaGreatDoorCards
import Derived.Test.YtlkokcnbbihljaaGreatDoorTie
import Derived.Test.YtlkokcnbbihljaaGreatDoorG53
import Derived.Carry
import Derived.ProofKit
import Derived.OpenShut
import Derived.SliceStrings
import Derived.Deep.DeepHandedRow
import Derived.Deep.DeepWitnessRowRef
import Derived.Deep.DeepLaidRun
import Derived.Lib.LaidTab
import Derived.Stop.LaidErr
import Derived.ChangeSame
import Derived.ChangeVars
import Derived.JoinedOf
import Derived.RowKit
import Derived.RowKitTokens
import Derived.LaidLaws
import Derived.LaidHandle
import Derived.Stop.Joined
import Derived.SevenTiedAt
namespace Go.Proofs.YtlkokcnbbihljaaGreatDoor
open Go.ChangeShapes Go.WideShapes Go.RowKit
open Go.ChangeMaps (open_string shut_string)

theorem gKept : Tryz.prog.globalNamed "oberlin/oberlinref.kept" = some 1 := by kernel_rfl
theorem gKeptType : (Tryz.prog.globals[1]?).map (·.type) = some 43 := by kernel_rfl
theorem gTabType : (Tryz.prog.globals[2]?).map (·.type) = some 140 := by kernel_rfl
theorem cellsU8 : Tryz.prog.cellsOf 5 = 1 := by kernel_rfl
theorem cellsTab : Tryz.prog.cellsOf 140 = 256 := by kernel_rfl
theorem cellsStr : Tryz.prog.cellsOf 9 = 1 := by kernel_rfl
theorem laidKept_eq : (Rows.laid_oberlin_oberlinref_kept : DataW Unit) = .slice (keptL.map fun l => .lit (.string l)) [] := rfl
theorem laidTab_eq : (Rows.laid_strings_asciiSpace : DataW Unit) = Lib.tabData .u8 Lib.asciiSpaceTab := by kernel_rfl

/-- A datum's string. -/
def bytesOf : DataW Unit → List UInt8
  | .lit (.string l) => l
  | _ => []

theorem bytesOf_strs (ss : List ByteArray) : (strs ss : List (DataW Unit)).map bytesOf = ss.map fun s => s.data.toList := by
  unfold strs
  rw [List.map_map]
  rfl
theorem bytesOf_kept : (keptL.map fun l => (DataW.lit (.string l) : DataW Unit)).map bytesOf = keptL := by
  rw [List.map_map]
  exact List.map_id _

/-- What the row's list gives: where the kept words lie. -/
theorem kept_of_laid {W : World} {rest : List (String × DataW Unit)} (h : laidMet Tryz.prog (("oberlin/oberlinref.kept", Rows.laid_oberlin_oberlinref_kept) :: rest) W) : ∃ a cap, Kept33 W a cap := by
  obtain ⟨ps, ⟨g, t, cs, fuel, p, q, hg, ht, hvar, hd, _, _⟩, _⟩ := h
  obtain rfl := Option.some.inj (gKept.symm.trans hg)
  obtain rfl := Option.some.inj (gKeptType.symm.trans ht)
  rcases open_strings Tryz.underlying43 Tryz.underlying9 cellsStr hd with ⟨_, hx⟩ | ⟨a, len, cap, ss, hcs, _, hl, hm, hz, hx, hcell, _⟩
  · rw [laidKept_eq] at hx
    cases hx
  · have hx1 := congrArg Prod.fst hx
    simp only [laidKept_eq, DataW.slice.injEq] at hx1
    have e1 : keptL = (ss.take len).map fun s => s.data.toList := by
      have := congrArg (List.map bytesOf) hx1.1
      rwa [bytesOf_kept, bytesOf_strs] at this
    have hlen : len ≤ ss.length := by rw [hz]; split <;> omega
    have h33 : len = 33 := by
      have := congrArg List.length e1
      rw [kept_len, List.length_map, List.length_take] at this
      omega
    subst h33
    have hc : ∀ (k : Nat) (h : k < 33), W.cell? (a.add k) = some (.string ⟨(keptL[k]'(by rw [kept_len]; exact h)).toArray⟩) := by
      intro k hk
      rw [hcell k (by omega)]
      have e2 : keptL[k]? = some (ss[k]'(by omega)).data.toList := by
        rw [e1, List.getElem?_map, List.getElem?_take, if_pos hk, List.getElem?_eq_getElem (show k < ss.length by omega)]
        rfl
      rw [List.getElem?_eq_getElem (show k < keptL.length by rw [kept_len]; exact hk)] at e2
      rw [Option.some.inj e2, List.getD_eq_getElem?_getD, List.getElem?_eq_getElem (show k < ss.length by omega)]
      simp
    have hh : W.cell? ⟨1, 0, none⟩ = some (.slice (some a) 33 cap) := by
      rw [World.var?_cell gKept hvar 0]
      have : cs = #[.slice (some a) 33 cap] := by cases cs; simp_all
      rw [this]; rfl
    exact ⟨a, cap, lt_of_cell (a := a.add 0) (hc 0 (by omega)), hh, ⟨hl, hm⟩, hc⟩

def laidD : List (String × DataW Unit) := [("oberlin/oberlinref.kept", Rows.laid_oberlin_oberlinref_kept), ("unicode.White_Space", Rows.laid_unicode_White_Space), ("strings.asciiSpace", Rows.laid_strings_asciiSpace)]
def laidE : List (String × DataW Unit) := [("errors.errorType", Rows.laid_errors_errorType)]
theorem laid_parts {W : World} (h : laidMetH Tryz.prog Rows.tidySaysRow.laid W) : laidMet Tryz.prog laidD W ∧ handlesMet Tryz.prog laidE W := h
theorem tab_of_laid {W : World} (h : laidMet Tryz.prog laidD W) : Lib.TabIs Tryz.prog W "strings.asciiSpace" .u8 Lib.asciiSpaceTab :=
  Lib.tabIs_of_head (rest := []) gTab gTabType Tryz.underlying140 Tryz.underlying5 cellsU8 cellsTab (show laidMet Tryz.prog [("strings.asciiSpace", Lib.tabData .u8 Lib.asciiSpaceTab)] W from laidTab_eq ▸ h.tail.tail)

theorem Tryz.own : ownKnob Tryz.prog.godebug = none := by kernel_rfl
theorem Tryz.et : Tryz.prog.globalNamed "errors.errorType" = some 0 := by kernel_rfl
theorem Tryz.rt : (Tryz.prog.cutTypes.find? (·.1 == "internal/reflectlite.rtype")).map (·.2) = some 150 := by kernel_rfl
theorem Tryz.oneRow : ((List.range 234).filter fun t => Tryz.prog.rowNamed t [101, 114, 114, 111, 114]) = [29] := by kernel_rfl
theorem Tryz.typesSize : Tryz.prog.types.size = 234 := by kernel_rfl

/-- What the condition gives a walk: the variable's one cell. -/
theorem handle_of_laid {W : World} (h : handlesMet Tryz.prog laidE W) : HasErr W := by
  obtain ⟨name, u, ty, e1, e2, e3, e4, e5⟩ := h _ (List.mem_singleton.2 rfl)
  have en : name = [101, 114, 114, 111, 114] := (Option.some.inj e1).symm
  subst en
  obtain rfl := Option.some.inj (Tryz.rt.symm.trans e2)
  have hm : ty ∈ (List.range 234).filter fun t => Tryz.prog.rowNamed t [101, 114, 114, 111, 114] := List.mem_filter.2 ⟨List.mem_range.2 (by rw [← Tryz.typesSize]; exact e3), e4⟩
  rw [Tryz.oneRow] at hm
  obtain rfl := List.mem_singleton.1 hm
  have hh : typeHandle Tryz.prog 29 = .pointer (some ⟨8, 29, none⟩) := by kernel_rfl
  rw [hh] at e5
  unfold HasErr
  simpa using World.var?_cell Tryz.et e5 0

/-- A world that meets the condition: the settled one with three blocks more, the four variables holding what their initialisers lay. -/
noncomputable def laidWorldT (os : Os) : World :=
  let N := (World.settled Tryz.prog os).heap.size
  let w0 := World.holding Tryz.prog os ⟨#[.cells (keptL.map fun l => Value.string ⟨l.toArray⟩).toArray 9,
    .cells (([9, 13, 1, 32, 133, 101, 160, 5760, 5600, 8192, 8202, 1, 8232, 8233, 1, 8239, 8287, 48, 12288, 12288, 1] : List Int).map fun z => Value.int .u16 z).toArray 183,
    .cells #[.slice (some ⟨N + 1, 0, none⟩) 7 7, .slice none 0 0, .int .i64 2] 180], #[], []⟩
  let put (h : Array Obj) (g : Nat) (cs : Array Value) : Array Obj := h.modify g fun
    | .cells _ t frozen => .cells cs t frozen
    | o => o
  { w0 with heap := put (put (put (put w0.heap 1 #[.slice (some ⟨N, 0, none⟩) 33 33]) 2 (Lib.asciiSpaceTab.map fun z => Value.int .u8 z).toArray) 3 #[.pointer (some ⟨N + 2, 0, none⟩)]) 0 #[.iface 150 (.agg #[.pointer (some ⟨8, 29, none⟩)])] }
set_option maxRecDepth 100000 in
theorem laidT_met (os : Os) (args : Array Value) : laidMetH Tryz.prog Rows.tidySaysRow.laid ((laidWorldT os).forCall (fun _ _ => 0) ⟨#[], args, []⟩).memory :=
  laidMetH_of_parts (laidMet_of_run3 10 (by kernel_rfl) (by kernel_rfl) (by kernel_rfl)) (by kernel_rfl)
theorem laidOut : laidOutB Tryz.prog = true := by kernel_rfl

set_option maxRecDepth 100000 in
theorem tidySays_lifted (os : Os) (started : os.Started) (H : Type) (enc : TypeId × Value → H) :
    ReturnsInHanded {} Tryz.checked os 4 .any (fun w args => (Rows.tidySaysSpec.pre enc Tryz.prog Tryz.f4 [] false w args ∧ laidMetH Tryz.prog Rows.tidySaysRow.laid w) ∧ sizedMet enc Tryz.prog Tryz.f4 (OpenSpec.ofChange Rows.tidySaysSpec) false w args)
      (Rows.tidySaysSpec.post enc Tryz.prog Tryz.f4 false true false false) := by
  refine returnsInHanded_of_change_and (C := Tryz.checked) (X := fun w _ => laidMetH Tryz.prog Rows.tidySaysRow.laid w) (fun _ _ _ hh h => h.of_heap hh) Tryz.own started (by kernel_rfl) Tryz.func4
    ⟨laidWorldT os, fun _ _ => 0, ⟨#[], #[.agg #[.int .i64 0, .string ⟨#[]⟩, .int .i64 0, .int .i64 0, .slice none 0 0]], []⟩, rfl, World.shaped_of_RefB (by kernel_rfl) (by kernel_rfl), rfl, (Input.okWide_of_okWideB (by kernel_rfl)).2,
      ⟨⟨ChangeSpec.pre_of_preB (fuel := 8) (by kernel_rfl), laidT_met os _⟩, sizedMet_of_sizedB (fuel := 8) (by kernel_rfl)⟩, by simp only [Assume.holds]; exact ⟨by simp, by simp, fun _ => Modest.zero, by simp, by simp⟩⟩ ?_
  intro W base args ds gs before hval0 hW _ _ hL _
  have hval : ∀ (j : Nat) t v, Tryz.f4.params[j]? = some t → args[j]? = some v → Value.okWide Tryz.prog W .any base t v := hval0
  have hW' := hW
  obtain ⟨p, q, hA0, hV0, rfl, hfz, hnd⟩ := hW
  have hA : DataW.TrodAll enc Tryz.prog W 0 (fun _ => true) true Tryz.f4.params.toList args.toList ds p := hA0
  have hV : DataW.TrodVars enc Tryz.prog W (fun _ => true) [] gs q := hV0
  rw [Tryz.params4] at hA hval
  obtain ⟨v0, d0, rfl, rfl, h0⟩ := trodAll_one hA
  have h0k := h0
  obtain ⟨rfl, rfl⟩ : gs = [] ∧ q = [] := by
    cases gs with
    | nil => exact ⟨rfl, hV⟩
    | cons g r => exact absurd hV (by intro h; cases h)
  have hlt : ∀ x ∈ p, x.block < W.heap.size := fun x hx => hW'.lt x (by simpa using hx)
  obtain ⟨cs, rfl, hsz⟩ := okWide_struct Tryz.underlying24 (hval 0 24 v0 rfl rfl)
  obtain ⟨t, sv, rfl, hf, ha⟩ : ∃ t sv, cs = #[.int .i64 t.kind, .string ⟨t.name.toArray⟩, .int .i64 t.num, .int .i64 t.at', sv] ∧ Fits t ∧ AT W t.subs sv := by
    obtain ⟨fuel, h9⟩ := h0
    cases fuel with
    | zero => simp [DataW.trod] at h9
    | succ fuel =>
      obtain ⟨t, sv, e9, hf, ha⟩ := node_of_trod fuel (fun v x hx => nodes_of_trod fuel v x hx) _ _ h9
      exact ⟨t, sv, Array.toList_inj.1 e9, hf, ha⟩
  have hg := handle_of_laid (laid_parts hL).2
  have htab := tab_of_laid (laid_parts hL).1
  have hk : KW W := kept_of_laid (laid_parts hL).1
  have e1 : ∀ x : DataW H, Rows.tidySaysSpec.fn H ([x] ++ []) = { results := [.lit (.bool true)], args := [x] } := fun x => by simp [Rows.tidySaysSpec]
  refine (tsays_any t sv W hf ha hk htab hg).mono fun e W' ⟨he, hb⟩ => ?_
  subst he
  refine ⟨_, rfl, _, _, _, [], p, [], hW', ?_, ?_, ?_, hb.frame _, fun h => by cases h⟩
  · rw [e1]; exact trodAll_mk1 (shut_bool Tryz.underlying4 true)
  · rw [e1]; exact trodAll_mk1 (Below.trod laidOut (by kernel_rfl) (of_decide_eq_true (by kernel_rfl)) h0k hb hlt)
  · rw [e1]; rfl

theorem tidySays_holds : Rows.TidySaysSaid :=
  OpenClaim.holds_of_wide 4 Tryz.f4 rfl rfl rfl rfl rfl rfl rfl ⟨rfl, rfl, rfl, rfl, rfl⟩ rfl rfl rfl rfl rfl (by kernel_rfl) Tryz.func4 (by kernel_rfl)
    (of_decide_eq_true (by kernel_rfl)) (by unfold Func.isWrapper; rw [if_neg (of_decide_eq_false (by kernel_rfl))]; exact ⟨rfl, rfl⟩)
    (fun os started H enc _ => tidySays_lifted os started H enc)

theorem tidySays_card : Rows.TidySaysCardSaid :=
  Claim7.holds_tied_plain_at .later [] _ _ _ _
    tidySays_holds (fun _ h => by cases h) (by kernel_rfl) (fun _ h => by cases h) tidySays_row_tie rfl ⟨rfl, rfl⟩ (by kernel_rfl) rfl
    (fun f fn hf hfn => by
      obtain rfl : f = 4 := Option.some.inj ((show Tryz.prog.funcNamed "oberlin/oberlinlaw.TidySays" = some 4 by kernel_rfl).symm.trans hf) |>.symm
      obtain rfl : fn = Tryz.f4 := (Option.some.inj (Tryz.func4.symm.trans hfn)).symm
      exact ⟨by kernel_rfl, fun j t ht => by
        rw [Tryz.params4] at ht
        have h9 : t = 24 := by
          rcases j with _ | j
          · simpa using ht.symm
          · simp at ht
        subst h9
        exact (show Tryz.prog.wantsStandIn 24 = false by kernel_rfl)⟩)
    (by kernel_rfl)
#print axioms tidySays_card
end Go.Proofs.YtlkokcnbbihljaaGreatDoor
