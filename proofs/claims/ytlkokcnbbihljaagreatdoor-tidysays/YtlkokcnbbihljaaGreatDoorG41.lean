/- The document's answer for an error, held against the program's: the same number, text and place. -/
import Derived.Test.YtlkokcnbbihljaaGreatDoorG40
import Derived.Test.YtlkokcnbbihljaaGreatDoorG02
namespace Go.Proofs.YtlkokcnbbihljaaGreatDoor
open Go.RowKit

set_option maxRecDepth 100000 in
set_option maxHeartbeats 1000000 in
theorem is_nil (w : World) :
    Calls Tryz.prog 9 #[.nilIface, .agg #[.int .i64 0, .int .i64 (-1), .int .i64 (-1)]] w fun e w' => e = .returned (.bool true) ∧ Below w.heap.size w w' := by
  go_enter Tryz.func9, Tryz.ntmps9
  go_wp2_with fail
  refine (tell_nil _).mono ?_
  rintro e w1 ⟨rfl, hb⟩
  have c0 : w1.cell? ⟨w.heap.size, 0, none⟩ = some (.int .i64 0) := by rw [hb.cell (by simp)]; simp
  have c1 : w1.cell? ⟨w.heap.size, 1, none⟩ = some (.int .i64 (-1)) := by rw [hb.cell (by simp), World.cell?_alloc_at _ _ _ _ rfl]; rfl
  have c2 : w1.cell? ⟨w.heap.size, 2, none⟩ = some (.int .i64 (-1)) := by rw [hb.cell (by simp), World.cell?_alloc_at _ _ _ _ rfl]; rfl
  have HB := hide (((Below.refl w.heap.size w).alloc (Nat.le_refl _) _).trans (hb.mono (by simp)))
  clear hb
  go_wp2
  go_ret
  exact ⟨rfl, HB.out⟩

set_option maxRecDepth 100000 in
set_option maxHeartbeats 1000000 in
theorem is_errno (n : Int) (w : World) (hg : HasErr w) :
    Calls Tryz.prog 9 #[.iface 26 (.int .i64 n), .agg #[.int .i64 n, .int .i64 (-1), .int .i64 (-1)]] w fun e w' => e = .returned (.bool true) ∧ Below w.heap.size w w' := by
  have H1 := fun o => hg.alloc o
  clear hg
  go_enter Tryz.func9, Tryz.ntmps9
  go_wp2_with fail
  refine (tell_errno n _ (H1 _)).mono ?_
  rintro e w1 ⟨rfl, hb⟩
  have c0 : w1.cell? ⟨w.heap.size, 0, none⟩ = some (.int .i64 n) := by rw [hb.cell (by simp)]; simp
  have c1 : w1.cell? ⟨w.heap.size, 1, none⟩ = some (.int .i64 (-1)) := by rw [hb.cell (by simp), World.cell?_alloc_at _ _ _ _ rfl]; rfl
  have c2 : w1.cell? ⟨w.heap.size, 2, none⟩ = some (.int .i64 (-1)) := by rw [hb.cell (by simp), World.cell?_alloc_at _ _ _ _ rfl]; rfl
  have HB := hide (((Below.refl w.heap.size w).alloc (Nat.le_refl _) _).trans (hb.mono (by simp)))
  clear hb H1
  go_wp2
  go_ret
  exact ⟨rfl, HB.out⟩

set_option maxRecDepth 100000 in
set_option maxHeartbeats 1000000 in
theorem is_fault (q : Nat) (n tx at' : Int) (w : World) (hg : HasErr w)
    (q0 : w.cell? ⟨q, 0, none⟩ = some (.int .i64 tx)) (q1 : w.cell? ⟨q, 1, none⟩ = some (.int .i64 at')) (q2 : w.cell? ⟨q, 2, none⟩ = some (.iface 26 (.int .i64 n))) :
    Calls Tryz.prog 9 #[.iface 89 (.pointer (some ⟨q, 0, none⟩)), .agg #[.int .i64 n, .int .i64 tx, .int .i64 at']] w fun e w' => e = .returned (.bool true) ∧ Below w.heap.size w w' := by
  have H1 := fun o => hide (hg.alloc o)
  have H2 := fun o => hide (cell_up q0 o)
  have H3 := fun o => hide (cell_up q1 o)
  have H4 := fun o => hide (cell_up q2 o)
  clear hg q0 q1 q2
  go_enter Tryz.func9, Tryz.ntmps9
  go_wp2_with fail
  refine (tell_fault q n tx at' _ (H1 _).out (H2 _).out (H3 _).out (H4 _).out).mono ?_
  rintro e w1 ⟨rfl, hb⟩
  have c0 : w1.cell? ⟨w.heap.size, 0, none⟩ = some (.int .i64 n) := by rw [hb.cell (by simp)]; simp
  have c1 : w1.cell? ⟨w.heap.size, 1, none⟩ = some (.int .i64 tx) := by rw [hb.cell (by simp), World.cell?_alloc_at _ _ _ _ rfl]; rfl
  have c2 : w1.cell? ⟨w.heap.size, 2, none⟩ = some (.int .i64 at') := by rw [hb.cell (by simp), World.cell?_alloc_at _ _ _ _ rfl]; rfl
  have HB := hide (((Below.refl w.heap.size w).alloc (Nat.le_refl _) _).trans (hb.mono (by simp)))
  clear hb H1 H2 H3 H4
  go_wp2
  go_ret
  exact ⟨rfl, HB.out⟩

end Go.Proofs.YtlkokcnbbihljaaGreatDoor
