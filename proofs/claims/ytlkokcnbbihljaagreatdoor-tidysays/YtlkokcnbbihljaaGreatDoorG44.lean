/- The document's shapes: lists of expressions. -/
import Derived.Test.YtlkokcnbbihljaaGreatDoorG05
namespace Go.Proofs.YtlkokcnbbihljaaGreatDoor
open Go.RowKit

set_option maxRecDepth 1000000 in
set_option maxHeartbeats 1000000 in
theorem exprsShaped_any (l : List T) (sv : Value) (w : World) (hk : KW w) (IH : ∀ u, u ∈ l → ShOK u) (ha : AT w l sv) :
    Calls Tryz.prog 72 #[sv] w (Sy w (.bool (l.all (wellB .expression)))) := by
  obtain ⟨a, c, rfl, h1, h2⟩ := ha.form
  have HK := hide hk
  have HA := hide ha
  have HI := hide IH
  clear hk ha IH
  unfold maxLen at h2
  go_enter Tryz.func72, Tryz.ntmps72
  go_wp2_with fail
  go_loopw [3] (fun iv wr => ∃ j : Nat, j ≤ l.length ∧ iv = .int .i64 j ∧ Hid ((l.take j).all (wellB .expression) = true) ∧ Hid (w.grownBy wr none)) (fun iv _ => l.length - (intOf iv).toNat)
  case atStart => exact ⟨0, Nat.zero_le _, rfl, by show _ = _; simp, gb_refl w none⟩
  case round =>
    obtain ⟨j, hj, rfl, HB, HG⟩ := hrel
    by_cases hlt : j < l.length
    · obtain ⟨u, hu⟩ : ∃ u, l[j]? = some u := ⟨_, List.getElem?_eq_getElem hlt⟩
      have hmem : u ∈ l := List.mem_of_getElem? hu
      obtain ⟨g, o, su, e1, n5, fu, au⟩ := (HA.out.kept HG.out).node j u hu
      subst e1
      have HT : Hid ((l.take (j + 1)).all (wellB .expression) = wellB .expression u) := by
        show _ = _
        have e9 : l.take (j + 1) = l.take j ++ [u] := by rw [List.take_add_one, hu]; rfl
        rw [e9, List.all_append, HB.out]; simp
      have IU := hide (HI.out u hmem)
      have HU := hide fu
      have AU := hide au
      obtain ⟨c0, c1, c2, c3, c4⟩ := n5
      clear hu hmem fu au
      cases hv : wellB .expression u
      · have HF : Hid (l.all (wellB .expression) = false) := by
          show _ = _
          rw [← List.take_append_drop (j + 1) l, List.all_append, HT.out, hv]; rfl
        rw [HF.out]
        go_wp2_with fail
        go_at_call 37
        refine (IU.out.expr su _ (HK.out.kept HG.out) HU.out AU.out).mono ?_
        rintro e w1 ⟨rfl, hg1⟩
        rw [hv]
        have G1 := hide (gb_trans HG.out hg1)
        go_wp2_with fail
        go_ret
        exact ⟨rfl, G1.out⟩
      · go_wp2_with fail
        go_at_call 37
        refine (IU.out.expr su _ (HK.out.kept HG.out) HU.out AU.out).mono ?_
        rintro e w1 ⟨rfl, hg1⟩
        rw [hv]
        have G1 := hide (gb_trans HG.out hg1)
        have HB' : Hid ((l.take (j + 1)).all (wellB .expression) = true) := HT.out.trans hv
        go_wp2_with fail
        exact ⟨⟨j + 1, by omega, by go_num, HB', G1⟩, by simp [intOf]; omega⟩
    · have HF : Hid (l.all (wellB .expression) = true) := by
        have := HB.out
        rw [List.take_of_length_le (by omega)] at this
        exact this
      go_wp2_with fail
      go_ret
      exact ⟨by rw [HF.out]; rfl, HG.out⟩
end Go.Proofs.YtlkokcnbbihljaaGreatDoor
