/- The law Names: its one call answers true, and memory that was there stays as it was. -/
import Derived.Test.YtiphmnffjdgdmaaDoorTell
namespace Go.Proofs.YtiphmnffjdgdmaaDoor
open Go.RowKit Go.Extern.Stop Go.Stop Go.Extern

set_option maxHeartbeats 1000000 in
theorem names_walk (w : World) (hg : HasErr w) :
    Calls Tryd.prog 3 #[] w fun e w' => e = .returned (.bool true) ∧ Below w.heap.size w w' := by
  have H1 := fun o1 => hg.alloc o1
  have hG := lt_of_cell hg
  simp only at hG
  clear hg
  go_enter Tryd.func3, Tryd.ntmps3
  go_wp2_with fail
  refine (tell_fault w.heap.size 4 2 7 _ (H1 _) (by simp) (by simp) (by simp)).mono ?_
  rintro e w1 ⟨rfl, hb1⟩
  have hb : Below w.heap.size w w1 := ((Below.refl _ _).alloc (Nat.le_refl _) _).trans (hb1.mono (by simp))
  have H2 := Hid.mk2 hb
  clear hb hb1 H1 hG
  go_wp2_with fail
  refine (tell_nil _).mono ?_
  rintro e w2 ⟨rfl, hb2⟩
  have hb : Below w.heap.size w w2 := H2.out.trans (hb2.mono H2.out.size)
  have H3 := Hid.mk2 hb
  clear hb hb2 H2
  go_wp2
  go_ret
  exact ⟨rfl, H3.out⟩
end Go.Proofs.YtiphmnffjdgdmaaDoor
