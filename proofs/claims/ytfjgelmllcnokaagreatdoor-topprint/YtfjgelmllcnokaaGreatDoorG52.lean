/- api.Tell: for no error 0,-1,-1; for a fault its number,its text,its place; for a bare number that number,-1,-1; memory that was there stays as it was. -/
import Derived.Test.YtfjgelmllcnokaaGreatDoorG51
namespace Go.Proofs.YtfjgelmllcnokaaGreatDoor
open Go.RowKit Go.Extern.Stop Go.Stop Go.Extern
set_option maxHeartbeats 1000000
def HasErr (w : World) : Prop := w.cell? ⟨0,0,none⟩ = some (.iface 137 (.agg #[.pointer (some ⟨8,30,none⟩)]))
theorem Hid.mk2 {p : Prop} (h : p) : Hid p := h
theorem ks {w : World} {a : Addr} {v : Value} (h : w.cell? a = some v) : a.block < w.heap.size := by
 rcases Nat.lt_or_ge a.block w.heap.size with b | b
 ·exact b
 ·simp [World.cell?,Array.getElem?_eq_none b] at h
theorem HasErr.alloc {w : World} (h : HasErr w) (o : Obj) : HasErr (w.alloc o) := by
 unfold HasErr at *
 rw [World.cell?_alloc_lt _ _ _ (ks h)]; exact h
theorem xS {w : World} {a : Addr} {v : Value} (h : w.cell? a = some v) (o : Obj) : (w.alloc o).cell? a = some v := by
 rw [World.cell?_alloc_lt _ _ _ (ks h)]; exact h
theorem jD {w : World} {a : Addr} {v : Value} {x : Bool} (h : w.cell? a = some v) (hf : w.frozen? a = x) (o : Obj) : (w.alloc o).frozen? a = x := by
 rw [World.frozen?_alloc_old _ _ _ (Nat.ne_of_lt (ks h))]; exact hf
theorem HasErr.set {w : World} (h : HasErr w) {a : Addr} (v : Value) (ha : 0 < a.block) : HasErr (w.setCell a v) := by
 unfold HasErr at *
 rw [World.cell?_setCell_other _ _ _ _ (by intro e; subst e; simp at ha)]; exact h
theorem HasErr.drewN {w : World} (h : HasErr w) (n : Nat) : HasErr (w.drewN n) := h
theorem HasErr.below {w w' : World} {B : Nat} (h : HasErr w) (hb : Below B w w') (hB : 0 < B) : HasErr w' := by
 unfold HasErr at *
 rw [hb.cell hB]; exact h
theorem HasErr.grown {w w' : World} {row : Option Nat} (h : HasErr w) (hg : w.grownBy w' row) (hB : ∀ k,row = some k -> 0 < k) : HasErr w' := by
 unfold HasErr at *
 have b := ks h; rw [World.cell?_of_block (w := w) (hg.block _ b (fun e => absurd (hB _ e.symm) (Nat.lt_irrefl _)))]; exact h
theorem cR (n : Int) (w : World) (hg : HasErr w) :
  Calls Tryz.prog 8 #[.iface 35 (.int .i64 n)] w fun e w' => e = .returned (.tuple #[.int .i64 n,.int .i64 (-1),.int .i64 (-1)]) /\ Below w.heap.size w w' := by
 have s := ks hg; simp only at s
 have m := fun t u => ((hg.alloc t).alloc u)
 clear hg
 go_enter Tryz.func8,Tryz.ntmps8
 go_wp2_with fail; refine (bV n _ (.pointer none) _ (m _ _) (by simp)).mono ?_; rintro e l ⟨rfl,t,u,z,d⟩
 have b : l.cell? ⟨w.heap.size,0,none⟩ = some (.int .i64 0) := by rw [d]; exact xS (xS (xS (xS (by simp) _) _) _) _
 have g : l.frozen? ⟨w.heap.size,0,none⟩ = false := by rw [d]; exact jD (v := .int .i64 0) (xS (xS (xS (by simp) _) _) _) (jD (v := .int .i64 0) (xS (xS (by simp) _) _) (jD (v := .int .i64 0) (xS (by simp) _) (by simp) _) _) _
 have i : HasErr l := by rw [d]; exact (((m _ _).alloc _).alloc _).alloc _
 have h : Below w.heap.size w l := by rw [d]; exact (((((Below.refl _ _).alloc (Nat.le_refl _) _).alloc (by simp) _).alloc (by first | (simp; omega) | simp) _).alloc (by first | (simp; omega) | simp) _).alloc (by first | (simp; omega) | simp) _
 clear d m; go_wp2_with fail; refine (zcg n _ (.int .i64 0) _ i b g).mono ?_; rintro e o ⟨rfl,A,B,C,D,f⟩
 have r : o.cell? ⟨w.heap.size,0,none⟩ = some (.int .i64 n) := by rw [f]; exact World.cell?_setCell_same _ _ _ (xS (xS (xS (xS b _) _) _) _)
 have x : o.frozen? ⟨w.heap.size,0,none⟩ = false := by
  rw [f,World.frozen?_setCell]
  exact jD (xS (xS (xS b _) _) _) (jD (xS (xS b _) _) (jD (xS b _) (jD b g _) _) _) _
 have j : Below w.heap.size w o := by
  rw [f]; have := h.size
  exact ((((h.alloc this _).alloc (by first | (simp; omega) | simp) _).alloc (by first | (simp; omega) | simp) _).alloc (by first | (simp; omega) | simp) _).setCell (by simp) _
 clear f b g i h s; have y := Hid.mk2 j; clear j; go_wp2
 exact bodyPost_ret (v := .tuple #[.int .i64 n,.int .i64 (-1),.int .i64 (-1)]) (by simp [results,Tryz.results8,go_sem,r]) rfl ⟨rfl,y.out.setCell (by simp) _⟩
end Go.Proofs.YtfjgelmllcnokaaGreatDoor
