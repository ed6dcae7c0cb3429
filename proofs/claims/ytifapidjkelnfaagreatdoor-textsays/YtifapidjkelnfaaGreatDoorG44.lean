/- The document's answer for an error,held against the program's: the same number,text and place. -/
import Derived.Test.YtifapidjkelnfaaGreatDoorG43
import Derived.Test.YtifapidjkelnfaaGreatDoorG01
namespace Go.Proofs.YtifapidjkelnfaaGreatDoor
open Go.RowKit
set_option maxHeartbeats 1000000
set_option maxRecDepth 100000
theorem iR (w : World) :
  Calls Tryz.prog 17 #[.nilIface,.agg #[.int .i64 0,.int .i64 (-1),.int .i64 (-1)]] w fun e w' => e = .returned (.bool true) /\ Below w.heap.size w w' := by
 go_enter Tryz.func17,Tryz.ntmps17
 go_wp2_with fail; refine (nj _).mono ?_; rintro e b ⟨rfl,a⟩
 have f : b.cell? ⟨w.heap.size,0,none⟩ = some (.int .i64 0) := by rw [a.cell (by simp)]; simp
 have g : b.cell? ⟨w.heap.size,1,none⟩ = some (.int .i64 (-1)) := by rw [a.cell (by simp),World.cell?_alloc_at _ _ _ _ rfl]; rfl
 have h : b.cell? ⟨w.heap.size,2,none⟩ = some (.int .i64 (-1)) := by rw [a.cell (by simp),World.cell?_alloc_at _ _ _ _ rfl]; rfl
 have d := zb (((Below.refl w.heap.size w).alloc (Nat.le_refl _) _).trans (a.mono (by simp))); clear a; go_wp2
 go_ret
 exact ⟨rfl,d⟩
theorem hH (n : Int) (w : World) (hg : HasErr w) :
  Calls Tryz.prog 17 #[.iface 25 (.int .i64 n),.agg #[.int .i64 n,.int .i64 (-1),.int .i64 (-1)]] w fun e w' => e = .returned (.bool true) /\ Below w.heap.size w w' := by
 have d := fun o => hg.alloc o
 clear hg
 go_enter Tryz.func17,Tryz.ntmps17
 go_wp2_with fail; refine (rf n _ (d _)).mono ?_; rintro e b ⟨rfl,a⟩
 have g : b.cell? ⟨w.heap.size,0,none⟩ = some (.int .i64 n) := by rw [a.cell (by simp)]; simp
 have h : b.cell? ⟨w.heap.size,1,none⟩ = some (.int .i64 (-1)) := by rw [a.cell (by simp),World.cell?_alloc_at _ _ _ _ rfl]; rfl
 have i : b.cell? ⟨w.heap.size,2,none⟩ = some (.int .i64 (-1)) := by rw [a.cell (by simp),World.cell?_alloc_at _ _ _ _ rfl]; rfl
 have f := zb (((Below.refl w.heap.size w).alloc (Nat.le_refl _) _).trans (a.mono (by simp))); clear a d; go_wp2
 go_ret
 exact ⟨rfl,f⟩
end Go.Proofs.YtifapidjkelnfaaGreatDoor
