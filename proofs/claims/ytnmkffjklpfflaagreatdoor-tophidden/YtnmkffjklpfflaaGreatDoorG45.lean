/- The document's texts: stars. -/
import Derived.Test.YtnmkffjklpfflaaGreatDoorG10
import Derived.Test.YtnmkffjklpfflaaGreatDoorG08
import Derived.Test.YtnmkffjklpfflaaGreatDoorG01
import Derived.Test.YtnmkffjklpfflaaGreatDoorG04
import Derived.Test.YtnmkffjklpfflaaGreatDoorG06
namespace Go.Proofs.YtnmkffjklpfflaaGreatDoor
open Go.RowKit
theorem vS (a b : List UInt8) : (⟨a.toArray⟩ : ByteArray) ++ (⟨b.toArray⟩ : ByteArray) = ⟨(a ++ b).toArray⟩ := by
 apply ByteArray.ext
 simp
theorem xS {a : ByteArray} {l : List UInt8} (h : a = ⟨l.toArray⟩) : Ending.returned (.string a) = .returned (.string ⟨l.toArray⟩) := by rw [h]
def qg (n : Nat) : List UInt8 := if n < 10 then [UInt8.ofNat (48 + n)] else qg (n / 10) ++ [UInt8.ofNat (48 + n % 10)]
theorem xQ {n : Nat} (h : n < 10) : qg n = [UInt8.ofNat (48 + n)] := by rw [qg,if_pos h]
theorem kk {n : Nat} (h : ¬ n < 10) : qg n = qg (n / 10) ++ [UInt8.ofNat (48 + n % 10)] := by rw [qg,if_neg h]
theorem nf (n : Nat) : ∀ f,n < 10 ^ (f + 1) -> (qg n).length <= f + 1 := by
 intro f
 induction f generalizing n with
 | zero => intro h; rw [xQ (by simpa using h)]; simp
 | succ f ih =>
  intro h
  by_cases b : n < 10
  ·rw [xQ b]; simp
  ·rw [kk b]
   have := ih (n / 10) (by rw [Nat.pow_succ] at h; omega)
   simp
   omega
set_option maxHeartbeats 1000000
set_option maxRecDepth 1000000
theorem mS (w : World) (n : Nat) (cap : Nat) :
  (convert 65 9 (.slice (some ⟨w.heap.size,0,none⟩) 1 cap)).run Tryz.prog (w.alloc (.cells #[.int .u8 (48 + (n : Int) % 10)] 5)) = .ok (.string ⟨#[UInt8.ofNat (48 + n % 10)]⟩) (w.alloc (.cells #[.int .u8 (48 + (n : Int) % 10)] 5)) := by
 refine run_convert_bytes_back (P := Tryz.prog) _ 65 9 5 ⟨w.heap.size,0,none⟩ cap [UInt8.ofNat (48 + n % 10)] Tryz.underlying65 Tryz.underlying5 Tryz.underlying9 (fun j hj => ?_)
 have b : j = 0 := by simp at hj; omega
 subst b
 have : (UInt8.ofNat (48 + n % 10)).toNat = 48 + n % 10 := by rw [UInt8.toNat_ofNat']; omega
 rw [Addr.add_lit,World.cell?_alloc_at (hn := rfl)]; simp only [List.getElem_cons_zero,this]
 simp
theorem nQ (n : Nat) (hn : n <= 2147483647) (w : World) : Calls Tryz.prog 14 #[.int .i64 n] w (Sy w (.string ⟨(qg n).toArray⟩)) := by
 induction n using Nat.strongRecOn generalizing w with
 | ind n ih =>
  have h := mS w n 1
  by_cases c : n < 10
  ·have i : ((n : Int) / 10 != 0) = false := by simp; omega
   go_enter Tryz.func14,Tryz.ntmps14
   go_wp2_with fail
   go_ret
   refine ⟨xS ?_,zf (zc w none) _⟩; rw [xQ c]
   simp [Nat.mod_eq_of_lt c,UInt8.ofNat_add]
  ·have i : ((n : Int) / 10 != 0) = true := by simp; omega
   have g := ih (n / 10) (by omega) (by omega); have d := nf (n / 10) 9 (by omega); have b := kk c
   generalize qg (n / 10) = D at g d b
   go_enter Tryz.func14,Tryz.ntmps14
   go_wp2_with fail; refine (g _).mono ?_; rintro e k ⟨rfl,f⟩; have j := ze (za (zf (zc w none) _) f); go_wp2_with fail
   go_ret
   refine ⟨xS ?_,j.out⟩; rw [b]; refine (vS D _).trans ?_
   simp [UInt8.ofNat_add]
def qb (c n : Int) : Int := if c < 0 then (-(c + 1)) % n else c % n
theorem pM {c n : Int} (hn : 0 < n) : 0 <= qb c n /\ qb c n < n := by
 unfold qb
 split
 ·exact ⟨Int.emod_nonneg _ (by omega),Int.emod_lt_of_pos _ hn⟩
 ·exact ⟨Int.emod_nonneg _ (by omega),Int.emod_lt_of_pos _ hn⟩
theorem pV (c n : Int) (w : World) (hc1 : -9223372036854775808 <= c) (hc2 : c <= 9223372036854775807) (hn : 0 < n) (hn2 : n <= 9223372036854775807) :
  Calls Tryz.prog 6 #[.int .i64 c,.int .i64 n] w fun e w' => e = .returned (.int .i64 (qb c n)) /\ w' = w := by
 have b : n ≠ 0 := by omega
 by_cases h : c < 0
 ·have e : qb c n = -((c + 1).tmod n) := by
   rw [qb,if_pos h,<- Int.neg_tmod,Int.tmod_eq_emod_of_nonneg (by omega)]
  rw [e]; clear e
  go_enter Tryz.func6,Tryz.ntmps6
  go_wp2_with fail
  go_ret
  exact ⟨rfl,rfl⟩
 ·rw [qb,if_neg h]
  go_enter Tryz.func6,Tryz.ntmps6
  go_wp2_with fail
  go_ret
  exact ⟨rfl,rfl⟩
/-! ### The source of raw numbers -/
set_option maxHeartbeats 4000000
theorem pP (n : Nat) (hn : n < 10) (w : World) : Calls Tryz.prog 14 #[.int .i64 n] w (Sy w (.string ⟨#[UInt8.ofNat (48 + n)]⟩)) := by
 have := nQ n (by omega) w; rwa [xQ hn] at this
end Go.Proofs.YtnmkffjklpfflaaGreatDoor
