/- The document's texts: numbers. -/
import Derived.Test.YtfjgelmllcnokaaGreatDoorG03
import Derived.Test.YtfjgelmllcnokaaGreatDoorG04
namespace Go.Proofs.YtfjgelmllcnokaaGreatDoor
open Go.RowKit
set_option maxHeartbeats 1000000
set_option maxRecDepth 1000000
theorem zgj (w : World) (n : Nat) (cap : Nat) :
  (convert 63 9 (.slice (some ⟨w.heap.size,0,none⟩) 1 cap)).run Tryz.prog (w.alloc (.cells #[.int .u8 (48 + (n : Int) % 10)] 5)) = .ok (.string ⟨#[UInt8.ofNat (48 + n % 10)]⟩) (w.alloc (.cells #[.int .u8 (48 + (n : Int) % 10)] 5)) := by
 refine run_convert_bytes_back (P := Tryz.prog) _ 63 9 5 ⟨w.heap.size,0,none⟩ cap [UInt8.ofNat (48 + n % 10)] Tryz.underlying63 Tryz.underlying5 Tryz.underlying9 (fun j hj => ?_)
 have b : j = 0 := by simp at hj; omega
 subst b
 have : (UInt8.ofNat (48 + n % 10)).toNat = 48 + n % 10 := by rw [UInt8.toNat_ofNat']; omega
 rw [Addr.add_lit,World.cell?_alloc_at (hn := rfl)]; simp only [List.getElem_cons_zero,this]
 simp
theorem zes (n : Nat) (hn : n <= 2147483647) (w : World) : Calls Tryz.prog 10 #[.int .i64 n] w (Sy w (.string ⟨(tD n).toArray⟩)) := by
 induction n using Nat.strongRecOn generalizing w with
 | ind n ih =>
  have i := zgj w n 1
  by_cases d : n < 10
  ·have j : ((n : Int) / 10 != 0) = false := by simp; omega
   go_enter Tryz.func10,Tryz.ntmps10
   go_wp2_with fail
   go_ret
   refine ⟨yV ?_,zf grn _⟩; rw [jz d]
   simp [Nat.mod_eq_of_lt d,UInt8.ofNat_add]
  ·have j : ((n : Int) / 10 != 0) = true := by simp; omega
   have h := ih (n / 10) (by omega) (by omega); have f := zbe (n / 10) 9 (by omega); have b := fM d
   generalize tD (n / 10) = D at h f b
   go_enter Tryz.func10,Tryz.ntmps10
   go_wp2_with fail; refine (h _).mono ?_; rintro e m ⟨rfl,g⟩; have l := za (zb gan g); go_wp2_with fail
   go_ret
   refine ⟨yV ?_,l.out⟩; rw [b]; refine (xg D _).trans ?_
   simp [UInt8.ofNat_add]
theorem zc3 : ∀ (f n : Nat),n < 10 ^ f -> 0 < f -> kJ f n = tD n := by
 intro f
 induction f with
 | zero => intro n _ h; omega
 | succ f ih =>
  intro n h _
  by_cases b : n < 10
  ·rw [jz b]; simp [kJ,b]
  ·rw [fM b]
   have e : n / 10 < 10 ^ f := by rw [Nat.pow_succ] at h; omega
   have d : 0 < f := by
    rcases Nat.eq_zero_or_pos f with d | d
    ·subst d; simp at h; omega
    ·exact d
   simp [kJ,b,ih _ e d]
theorem zdg (n : Nat) (hn : n <= 2147483647) : vy n = tD n := zc3 11 n (by omega) (by omega)
def kC (t : T) (r : Int) (E : List UInt8) : List UInt8 := if yH t < r then 40 :: (E ++ [41]) else E
end Go.Proofs.YtfjgelmllcnokaaGreatDoor
