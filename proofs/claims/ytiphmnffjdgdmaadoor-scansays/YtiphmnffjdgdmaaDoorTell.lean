/- api.Tell: for no error 0, -1, -1; for a fault its number, its text, its place; for a bare number that number, -1, -1; memory that was there stays as it was. -/
import Derived.Test.YtiphmnffjdgdmaaDoorAs2
namespace Go.Proofs.YtiphmnffjdgdmaaDoor
open Go.RowKit Go.Extern.Stop Go.Stop Go.Extern

/-- errors.errorType holds the handle of the type 'error'. -/
def HasErr (w : World) : Prop := w.cell? ⟨1, 0, none⟩ = some (.iface 78 (.agg #[.pointer (some ⟨6, 27, none⟩)]))

theorem Hid.mk2 {p : Prop} (h : p) : Hid p := h

theorem lt_of_cell {w : World} {a : Addr} {v : Value} (h : w.cell? a = some v) : a.block < w.heap.size := by
  rcases Nat.lt_or_ge a.block w.heap.size with h' | h'
  · exact h'
  · simp [World.cell?, Array.getElem?_eq_none h'] at h

theorem HasErr.alloc {w : World} (h : HasErr w) (o : Obj) : HasErr (w.alloc o) := by
  unfold HasErr at *
  rw [World.cell?_alloc_lt _ _ _ (lt_of_cell h)]; exact h

set_option maxHeartbeats 400000 in
theorem tell_nil (w : World) :
    Calls Tryd.prog 6 #[.nilIface] w fun e w' => e = .returned (.tuple #[.int .i64 0, .int .i64 (-1), .int .i64 (-1)]) ∧ Below w.heap.size w w' := by
  go_enter Tryd.func6, Tryd.ntmps6
  go_wp2
  exact bodyPost_ret (v := .tuple #[.int .i64 0, .int .i64 (-1), .int .i64 (-1)]) (by simp [results, Tryd.results6, go_sem]) rfl ⟨rfl, (Below.refl _ _).alloc (Nat.le_refl _) _⟩

theorem cell_up {w : World} {a : Addr} {v : Value} (h : w.cell? a = some v) (o : Obj) : (w.alloc o).cell? a = some v := by
  rw [World.cell?_alloc_lt _ _ _ (lt_of_cell h)]; exact h
theorem frozen_up {w : World} {a : Addr} {v : Value} {x : Bool} (h : w.cell? a = some v) (hf : w.frozen? a = x) (o : Obj) : (w.alloc o).frozen? a = x := by
  rw [World.frozen?_alloc_old _ _ _ (Nat.ne_of_lt (lt_of_cell h))]; exact hf
theorem HasErr.set {w : World} (h : HasErr w) {a : Addr} (v : Value) (ha : 1 < a.block) : HasErr (w.setCell a v) := by
  unfold HasErr at *
  rw [World.cell?_setCell_other _ _ _ _ (by intro e; subst e; simp at ha)]; exact h
theorem HasErr.drewN {w : World} (h : HasErr w) (n : Nat) : HasErr (w.drewN n) := h
theorem HasErr.below {w w' : World} {B : Nat} (h : HasErr w) (hb : Below B w w') (hB : 1 < B) : HasErr w' := by
  unfold HasErr at *
  rw [hb.cell hB]; exact h
theorem HasErr.grown {w w' : World} {row : Option Nat} (h : HasErr w) (hg : w.grownBy w' row) (hB : ∀ k, row = some k → 1 < k) : HasErr w' := by
  unfold HasErr at *
  have hl := lt_of_cell h
  rw [World.cell?_of_block (w := w) (hg.block _ hl (fun e => absurd (hB _ e.symm) (Nat.lt_irrefl _)))]; exact h

set_option maxHeartbeats 1000000 in
theorem tell_errno (n : Int) (w : World) (hg : HasErr w) :
    Calls Tryd.prog 6 #[.iface 22 (.int .i64 n)] w fun e w' => e = .returned (.tuple #[.int .i64 n, .int .i64 (-1), .int .i64 (-1)]) ∧ Below w.heap.size w w' := by
  have hG := lt_of_cell hg
  simp only at hG
  have H1 := fun o1 o2 => ((hg.alloc o1).alloc o2)
  clear hg
  go_enter Tryd.func6, Tryd.ntmps6
  go_wp2_with fail
  refine (as_miss_F n _ (.pointer none) _ (H1 _ _) (by simp)).mono ?_
  rintro e w1 ⟨rfl, o1, o2, o3, hw1⟩
  have hc1 : w1.cell? ⟨w.heap.size, 0, none⟩ = some (.int .i64 0) := by rw [hw1]; exact cell_up (cell_up (cell_up (cell_up (by simp) _) _) _) _
  have hf1 : w1.frozen? ⟨w.heap.size, 0, none⟩ = false := by rw [hw1]; exact frozen_up (v := .int .i64 0) (cell_up (cell_up (cell_up (by simp) _) _) _) (frozen_up (v := .int .i64 0) (cell_up (cell_up (by simp) _) _) (frozen_up (v := .int .i64 0) (cell_up (by simp) _) (by simp) _) _) _
  have hh1 : HasErr w1 := by rw [hw1]; exact (((H1 _ _).alloc _).alloc _).alloc _
  have hb1 : Below w.heap.size w w1 := by rw [hw1]; exact (((((Below.refl _ _).alloc (Nat.le_refl _) _).alloc (by simp) _).alloc (by simp; omega) _).alloc (by simp; omega) _).alloc (by simp; omega) _
  clear hw1 H1
  go_wp2_with fail
  refine (as_hit_E n _ (.int .i64 0) _ hh1 hc1 hf1).mono ?_
  rintro e w2 ⟨rfl, o4, o5, o6, o7, hw2⟩
  have hc2 : w2.cell? ⟨w.heap.size, 0, none⟩ = some (.int .i64 n) := by rw [hw2]; exact World.cell?_setCell_same _ _ _ (cell_up (cell_up (cell_up (cell_up hc1 _) _) _) _)
  have hf2 : w2.frozen? ⟨w.heap.size, 0, none⟩ = false := by
    rw [hw2, World.frozen?_setCell]
    exact frozen_up (cell_up (cell_up (cell_up hc1 _) _) _) (frozen_up (cell_up (cell_up hc1 _) _) (frozen_up (cell_up hc1 _) (frozen_up hc1 hf1 _) _) _) _
  have hb2 : Below w.heap.size w w2 := by
    rw [hw2]
    have := hb1.size
    exact ((((hb1.alloc this _).alloc (by simp; omega) _).alloc (by simp; omega) _).alloc (by simp; omega) _).setCell (by simp) _
  clear hw2 hc1 hf1 hh1 hb1 hG
  have H2 := Hid.mk2 hb2
  clear hb2
  go_wp2
  exact bodyPost_ret (v := .tuple #[.int .i64 n, .int .i64 (-1), .int .i64 (-1)]) (by simp [results, Tryd.results6, go_sem, hc2]) rfl ⟨rfl, H2.out.setCell (by simp) _⟩

set_option maxHeartbeats 1000000 in
theorem tell_fault (q : Nat) (n tx at' : Int) (w : World) (hg : HasErr w)
    (q0 : w.cell? ⟨q, 0, none⟩ = some (.int .i64 tx)) (q1 : w.cell? ⟨q, 1, none⟩ = some (.int .i64 at')) (q2 : w.cell? ⟨q, 2, none⟩ = some (.iface 22 (.int .i64 n))) :
    Calls Tryd.prog 6 #[.iface 25 (.pointer (some ⟨q, 0, none⟩))] w fun e w' => e = .returned (.tuple #[.int .i64 n, .int .i64 tx, .int .i64 at']) ∧ Below w.heap.size w w' := by
  have hG := lt_of_cell hg
  simp only at hG
  have H1 := fun o1 o2 => ((hg.alloc o1).alloc o2)
  have hq := lt_of_cell q0
  simp only at hq
  go_enter Tryd.func6, Tryd.ntmps6
  go_wp2_with fail
  refine (as_hit_F ⟨q, 0, none⟩ _ (.pointer none) _ (H1 _ _) (by simp) (by simp)).mono ?_
  rintro e w1 ⟨rfl, o1, o2, o3, o4, hw1⟩
  have hc1 : w1.cell? ⟨w.heap.size, 0, none⟩ = some (.int .i64 0) := by rw [hw1, World.cell?_setCell_other _ _ _ _ (by simp)]; exact cell_up (cell_up (cell_up (cell_up (cell_up (by simp) _) _) _) _) _
  have hf1 : w1.frozen? ⟨w.heap.size, 0, none⟩ = false := by rw [hw1, World.frozen?_setCell]; exact frozen_up (v := .int .i64 0) (cell_up (cell_up (cell_up (cell_up (by simp) _) _) _) _) (frozen_up (v := .int .i64 0) (cell_up (cell_up (cell_up (by simp) _) _) _) (frozen_up (v := .int .i64 0) (cell_up (cell_up (by simp) _) _) (frozen_up (v := .int .i64 0) (cell_up (by simp) _) (by simp) _) _) _) _
  have hp1 : w1.cell? ⟨w.heap.size + 1, 0, none⟩ = some (.pointer (some ⟨q, 0, none⟩)) := by rw [hw1]; exact World.cell?_setCell_same _ _ _ (cell_up (v := .pointer none) (cell_up (cell_up (cell_up (by simp) _) _) _) _)
  have hh1 : HasErr w1 := by rw [hw1]; exact (((((H1 _ _).alloc _).alloc _).alloc _).alloc _).set _ (by simp; omega)
  have hb1 : Below w.heap.size w w1 := by rw [hw1]; exact (((((((Below.refl _ _).alloc (Nat.le_refl _) _).alloc (by simp) _).alloc (by simp; omega) _).alloc (by simp; omega) _).alloc (by simp; omega) _).alloc (by simp; omega) _).setCell (by simp) _
  have r0 : w1.cell? ⟨q, 0, none⟩ = some (.int .i64 tx) := by rw [hb1.cell hq]; exact q0
  have r1 : w1.cell? ⟨q, 1, none⟩ = some (.int .i64 at') := by rw [hb1.cell hq]; exact q1
  have r2 : w1.cell? ⟨q, 2, none⟩ = some (.iface 22 (.int .i64 n)) := by rw [hb1.cell hq]; exact q2
  clear hw1 H1 q0 q1 q2 hg
  have H2 := Hid.mk2 hb1
  clear hb1
  go_wp2_with fail
  go_quiet (fail)
  go_wp2_with fail
  refine (as_through_E n ⟨q, 0, none⟩ _ (.int .i64 0) _ (hh1.drewN nq) (by simpa using hc1) (by simpa using hf1) (by simpa using r2) rfl).mono ?_
  rintro e w2 ⟨rfl, o5, o6, o7, o8, hw2⟩
  have hc2 : w2.cell? ⟨w.heap.size, 0, none⟩ = some (.int .i64 n) := by rw [hw2]; exact World.cell?_setCell_same _ _ _ (cell_up (cell_up (cell_up (cell_up (w := w1.drewN nq) (by simpa using hc1) _) _) _) _)
  have hf2 : w2.frozen? ⟨w.heap.size, 0, none⟩ = false := by
    rw [hw2, World.frozen?_setCell]
    have hc1 : (w1.drewN nq).cell? ⟨w.heap.size, 0, none⟩ = some (.int .i64 0) := by simpa using hc1
    exact frozen_up (cell_up (cell_up (cell_up hc1 _) _) _) (frozen_up (cell_up (cell_up hc1 _) _) (frozen_up (cell_up hc1 _) (frozen_up hc1 (by simpa using hf1) _) _) _) _
  have hb2 : Below w.heap.size w w2 := by
    rw [hw2]
    have hb1 := H2.out
    have hz := hb1.size
    exact (((((below_drewN hb1 nq).alloc (by simpa using hz) _).alloc (by simp; omega) _).alloc (by simp; omega) _).alloc (by simp; omega) _).setCell (by simp) _
  clear hw2 hc1 hf1 hh1 hG r0 r1 r2 hp1 H2
  have H2 := Hid.mk2 hb2
  clear hb2
  go_wp2
  exact bodyPost_ret (v := .tuple #[.int .i64 n, .int .i64 tx, .int .i64 at']) (by simp [results, Tryd.results6, go_sem, hc2]) rfl ⟨rfl, H2.out.setCell (by simp) _⟩
end Go.Proofs.YtiphmnffjdgdmaaDoor
