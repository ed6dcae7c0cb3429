/- The law ScanNames holds, as the given card says, for every word: whatever memory it is called in (the listed variables laid as the program's text lays them), it returns true, its argument reads as it did, and what was there stays as it was. -/
import Derived.Test.YtiphmnffjdgdmaaDoorCards
import Derived.Test.YtiphmnffjdgdmaaDoorTie
import Derived.Test.YtiphmnffjdgdmaaDoorLex2
import Derived.Test.YtiphmnffjdgdmaaDoorLex3
import Derived.ProofKit
import Derived.OpenShut
import Derived.SliceStrings
import Derived.Deep.DeepHandedRow
import Derived.Deep.DeepWitnessRowRef
import Derived.Deep.DeepLaidRun
import Derived.Lib.LaidTab
import Derived.Stop.LaidErr
namespace Go.Proofs.YtiphmnffjdgdmaaDoor
open Go.ChangeShapes Go.WideShapes Go.RowKit
open Go.ChangeMaps (open_string shut_string)

theorem lt_of_cell {w : World} {a : Addr} {v : Value} (h : w.cell? a = some v) : a.block < w.heap.size := by
  rcases Nat.lt_or_ge a.block w.heap.size with h' | h'
  · exact h'
  · simp [World.cell?, Array.getElem?_eq_none h'] at h

theorem Kept33.below {w w' : World} {a : Addr} {cap : Nat} (h : Kept33 w a cap) (hb : Below w.heap.size w w') : Kept33 w' a cap where
  lt := Nat.lt_of_lt_of_le h.lt hb.size
  head := by rw [hb.cell (lt_of_cell h.head)]; exact h.head
  room := h.room
  cell := fun k hk => by rw [hb.cell (lt_of_cell (h.cell k hk))]; exact h.cell k hk

set_option maxRecDepth 1000000 in
set_option maxHeartbeats 1000000 in
theorem scanNames_any (s : ByteArray) (a : Addr) (cap : Nat) (w : World) (hs : s.size ≤ maxLen) (htab : Lib.TabIs Tryd.prog w "strings.asciiSpace" .u8 Lib.asciiSpaceTab) (hk : Kept33 w a cap) :
    Calls Tryd.prog 5 #[.string s] w fun e w' => e = .returned (.bool true) ∧ Below w.heap.size w w' := by
  have HT := hide htab
  have HK := hide hk
  clear htab hk
  cases hkp : keptB s.data.toList <;> cases hnp : nameB s.data.toList
  all_goals
    go_enter Tryd.func5, Tryd.ntmps5
    go_wp2_with (first
      | (go_at_call 11; refine (kept_any s _ hs HT.out).mono ?_; rintro e w1 ⟨rfl, hb1⟩; simp only [hkp]; have HB1 := hide hb1; have HK1 := hide (HK.out.below hb1); have HT1 := hide (tab_below HT.out hb1); clear hb1)
      | (go_at_call 12; refine (keptRef_any s a cap _ HK1.out).mono ?_; rintro e _ ⟨rfl, rfl⟩; simp only [hkp])
      | (go_at_call 13; refine (name_any s _ hs HT1.out).mono ?_; rintro e w2 ⟨rfl, hb2⟩; simp only [hnp]; have HB2 := hide hb2; have HK2 := hide (HK1.out.below hb2); clear hb2)
      | (go_at_call 14; refine (nameRef_any s a cap _ hs HK2.out).mono ?_; rintro e _ ⟨rfl, rfl⟩; simp only [hnp]))
    go_ret
    exact ⟨rfl, HB1.out.trans (HB2.out.mono HB1.out.size)⟩

theorem gKept : Tryd.prog.globalNamed "oberlin/oberlinref.kept" = some 0 := by kernel_rfl
theorem gKeptType : (Tryd.prog.globals[0]?).map (·.type) = some 58 := by kernel_rfl
theorem gTabType : (Tryd.prog.globals[2]?).map (·.type) = some 97 := by kernel_rfl
theorem cellsTab : Tryd.prog.cellsOf 97 = 256 := by kernel_rfl
theorem cellsU8 : Tryd.prog.cellsOf 5 = 1 := by kernel_rfl
theorem cellsStr : Tryd.prog.cellsOf 9 = 1 := by kernel_rfl
theorem laidKept_eq : (Rows.laid_oberlin_oberlinref_kept : DataW Unit) = .slice (keptL.map fun l => .lit (.string l)) [] := rfl
theorem laidTab_eq : (Rows.laid_strings_asciiSpace : DataW Unit) = Lib.tabData .u8 Lib.asciiSpaceTab := by kernel_rfl

/-- A datum's string. -/
def bytesOf : DataW Unit → List UInt8
  | .lit (.string l) => l
  | _ => []

theorem bytesOf_strs (ss : List ByteArray) : (strs ss : List (DataW Unit)).map bytesOf = ss.map fun s => s.data.toList := by
  unfold strs
  rw [List.map_map]
  rfl
theorem bytesOf_kept : (keptL.map fun l => (DataW.lit (.string l) : DataW Unit)).map bytesOf = keptL := by
  rw [List.map_map]
  exact List.map_id _

/-- What the row's list gives: where the kept words lie. -/
theorem kept_of_laid {W : World} {rest : List (String × DataW Unit)} (h : laidMet Tryd.prog (("oberlin/oberlinref.kept", Rows.laid_oberlin_oberlinref_kept) :: rest) W) : ∃ a cap, Kept33 W a cap := by
  obtain ⟨ps, ⟨g, t, cs, fuel, p, q, hg, ht, hvar, hd, _, _⟩, _⟩ := h
  obtain rfl := Option.some.inj (gKept.symm.trans hg)
  obtain rfl := Option.some.inj (gKeptType.symm.trans ht)
  rcases open_strings Tryd.underlying58 Tryd.underlying9 cellsStr hd with ⟨_, hx⟩ | ⟨a, len, cap, ss, hcs, _, hl, hm, hz, hx, hcell, _⟩
  · rw [laidKept_eq] at hx
    cases hx
  · have hx1 := congrArg Prod.fst hx
    simp only [laidKept_eq, DataW.slice.injEq] at hx1
    have e1 : keptL = (ss.take len).map fun s => s.data.toList := by
      have := congrArg (List.map bytesOf) hx1.1
      rwa [bytesOf_kept, bytesOf_strs] at this
    have hlen : len ≤ ss.length := by rw [hz]; split <;> omega
    have h33 : len = 33 := by
      have := congrArg List.length e1
      rw [kept_len, List.length_map, List.length_take] at this
      omega
    subst h33
    have hc : ∀ (k : Nat) (h : k < 33), W.cell? (a.add k) = some (.string ⟨(keptL[k]'(by rw [kept_len]; exact h)).toArray⟩) := by
      intro k hk
      rw [hcell k (by omega)]
      have e2 : keptL[k]? = some (ss[k]'(by omega)).data.toList := by
        rw [e1, List.getElem?_map, List.getElem?_take, if_pos hk, List.getElem?_eq_getElem (show k < ss.length by omega)]
        rfl
      rw [List.getElem?_eq_getElem (show k < keptL.length by rw [kept_len]; exact hk)] at e2
      rw [Option.some.inj e2, List.getD_eq_getElem?_getD, List.getElem?_eq_getElem (show k < ss.length by omega)]
      simp
    have hh : W.cell? ⟨0, 0, none⟩ = some (.slice (some a) 33 cap) := by
      rw [World.var?_cell gKept hvar 0]
      have : cs = #[.slice (some a) 33 cap] := by cases cs; simp_all
      rw [this]; rfl
    exact ⟨a, cap, lt_of_cell (a := a.add 0) (hc 0 (by omega)), hh, ⟨hl, hm⟩, hc⟩

theorem tab_of_laid {W : World} (h : laidMet Tryd.prog Rows.scanNamesRow.laid W) : Lib.TabIs Tryd.prog W "strings.asciiSpace" .u8 Lib.asciiSpaceTab :=
  Lib.tabIs_of_head (rest := []) gTab gTabType Tryd.underlying97 Tryd.underlying5 cellsU8 cellsTab (show laidMet Tryd.prog [("strings.asciiSpace", Lib.tabData .u8 Lib.asciiSpaceTab)] W from laidTab_eq ▸ h.tail.tail)

/-- A world that meets the condition: the settled one with three blocks more, the three variables holding what their initialisers lay. -/
noncomputable def laidWorldN (os : Os) : World :=
  let N := (World.settled Tryd.prog os).heap.size
  let w0 := World.holding Tryd.prog os ⟨#[.cells (keptL.map fun l => Value.string ⟨l.toArray⟩).toArray 9,
    .cells (([9, 13, 1, 32, 133, 101, 160, 5760, 5600, 8192, 8202, 1, 8232, 8233, 1, 8239, 8287, 48, 12288, 12288, 1] : List Int).map fun z => Value.int .u16 z).toArray 112,
    .cells #[.slice (some ⟨N + 1, 0, none⟩) 7 7, .slice none 0 0, .int .i64 2] 109], #[], []⟩
  let put (h : Array Obj) (g : Nat) (cs : Array Value) : Array Obj := h.modify g fun
    | .cells _ t frozen => .cells cs t frozen
    | o => o
  { w0 with heap := put (put (put w0.heap 0 #[.slice (some ⟨N, 0, none⟩) 33 33]) 2 (Lib.asciiSpaceTab.map fun z => Value.int .u8 z).toArray) 3 #[.pointer (some ⟨N + 2, 0, none⟩)] }
set_option maxRecDepth 100000 in
theorem laidN_met (os : Os) (args : Array Value) : laidMet Tryd.prog Rows.scanNamesRow.laid ((laidWorldN os).forCall (fun _ _ => 0) ⟨#[], args, []⟩).memory :=
  laidMet_of_run3 10 (by kernel_rfl) (by kernel_rfl) (by kernel_rfl)

theorem witnessN (os : Os) {H : Type} (enc : TypeId × Value → H) :
    (OpenSpec.ofChange Rows.scanNamesSpec).preRow enc Tryd.prog Tryd.f5 Rows.scanNamesRow.domain false Rows.scanNamesRow.laid ((laidWorldN os).forCall (fun _ _ => 0) ⟨#[], #[.string ⟨#[]⟩], []⟩).memory #[.string ⟨#[]⟩] := by
  have hw : (DataW.whole enc Tryd.prog ((laidWorldN os).forCall (fun _ _ => 0) ⟨#[], #[.string ⟨#[]⟩], []⟩).memory Tryd.f5.params.toList Rows.scanNamesSpec.vars false #[Value.string ⟨#[]⟩].toList 8).map (fun x => (x.1, x.2.1)) =
      some ([.lit (.string [])], []) := by kernel_rfl
  obtain ⟨⟨x1, x2, x3⟩, hx, hx1⟩ := Option.map_eq_some_iff.1 hw
  simp only [Prod.mk.injEq] at hx1
  obtain ⟨rfl, rfl⟩ := hx1
  exact OpenSpec.preRow_of_cond 8 hx (by kernel_rfl) (fun k hk => by cases hk) (by kernel_rfl) (laidN_met os _)

set_option maxRecDepth 100000 in
theorem scanNames_lifted (os : Os) (started : os.Started) (H : Type) (enc : TypeId × Value → H) (F : Stop.Interp) :
    ReturnsInHanded {} Tryd.checked os 5 .any ((OpenSpec.ofChange Rows.scanNamesSpec).preRow enc Tryd.prog Tryd.f5 Rows.scanNamesRow.domain false Rows.scanNamesRow.laid) (((OpenSpec.ofChange Rows.scanNamesSpec).at F).post enc Tryd.prog Tryd.f5 false true false false) := by
  refine returnsInHanded_of_row (C := Tryd.checked) (s := OpenSpec.ofChange Rows.scanNamesSpec) (by kernel_rfl) started (by kernel_rfl) Tryd.func5
    (witness_row_atRef (enc := enc) (C := Tryd.checked) false (laidWorldN os) #[.string ⟨#[]⟩] rfl (by kernel_rfl) (by kernel_rfl) (by kernel_rfl) (witnessN os enc)) ?_
  intro W base args ds gs before hval0 hW _ _ _ hL0 _ _
  have hL : laidMet Tryd.prog Rows.scanNamesRow.laid W := hL0
  have hval : ∀ (j : Nat) t v, Tryd.f5.params[j]? = some t → args[j]? = some v → Value.okWide Tryd.prog W .any base t v := hval0
  have hW' := hW
  obtain ⟨p, q, hA0, hV0, rfl, hfz, hnd⟩ := hW
  have hA : DataW.TrodAll enc Tryd.prog W 0 (fun _ => true) true Tryd.f5.params.toList args.toList ds p := hA0
  have hV : DataW.TrodVars enc Tryd.prog W (fun _ => true) [] gs q := hV0
  rw [Tryd.params5] at hA hval
  obtain ⟨v0, d0, rfl, rfl, h0⟩ := trodAll_one hA
  obtain ⟨s, rfl, rfl, rfl, ws⟩ := open_string Tryd.underlying9 (hval 0 9 v0 rfl rfl) h0
  obtain ⟨a, cap, hk⟩ := kept_of_laid hL
  obtain ⟨rfl, rfl⟩ : gs = [] ∧ q = [] := by
    cases gs with
    | nil => exact ⟨rfl, hV⟩
    | cons g r => exact absurd hV (by intro h; cases h)
  have e1 : ∀ x : DataW H, Rows.scanNamesSpec.fn H ([x] ++ []) = { results := [.lit (.bool true)], args := [x] } := fun x => by simp [Rows.scanNamesSpec]
  refine (scanNames_any s a cap W ws (tab_of_laid hL) hk).mono fun e W' ⟨he, hb⟩ => ?_
  subst he
  refine ⟨_, rfl, _, _, _, [], [], [], hW', ?_, ?_, ?_, hb.frame _, fun h => by cases h⟩
  · exact (e1 _) ▸ trodAll_mk1 (shut_bool Tryd.underlying4 true)
  · exact (e1 _) ▸ trodAll_mk1 (shut_string Tryd.underlying9 ws)
  · exact (e1 _) ▸ rfl

theorem scanNames_holds : Rows.ScanNamesSaid :=
  OpenClaim.holds_of_cond 5 Tryd.f5 rfl rfl rfl rfl rfl rfl rfl ⟨rfl, rfl, rfl, rfl, rfl⟩ rfl rfl rfl rfl rfl (by kernel_rfl) Tryd.func5 (by kernel_rfl)
    (of_decide_eq_true (by kernel_rfl)) (by unfold Func.isWrapper; first | (rw [if_pos (by decide +kernel)]; kernel_rfl) | (rw [if_neg (by decide +kernel)]; exact ⟨rfl, rfl⟩))
    (fun os started H enc _ F => by rw [OpenClaim.pre_eq_preRow]; exact scanNames_lifted os started H enc F)

theorem scanNames_card : Rows.ScanNamesCardSaid :=
  Claim7.holds_tied_plain_at .later [] _ _ _ _
    scanNames_holds (fun _ h => by cases h) (by kernel_rfl) (fun _ h => by cases h) scanNames_row_tie rfl ⟨rfl, rfl⟩ (by kernel_rfl) rfl
    (fun f fn hf hfn => by
      obtain rfl : f = 5 := Option.some.inj ((show Tryd.prog.funcNamed "oberlin/oberlinlaw.ScanNames" = some 5 by kernel_rfl).symm.trans hf) |>.symm
      obtain rfl : fn = Tryd.f5 := (Option.some.inj (Tryd.func5.symm.trans hfn)).symm
      exact ⟨by kernel_rfl, fun j t ht => by
        rw [Tryd.params5] at ht
        have h9 : t = 9 := by
          rcases j with _ | j
          · simpa using ht.symm
          · simp at ht
        subst h9
        exact (show Tryd.prog.wantsStandIn 9 = false by kernel_rfl)⟩)
    (by kernel_rfl)
#print axioms scanNames_card
end Go.Proofs.YtiphmnffjdgdmaaDoor
