/- The number of a text. -/
import Derived.Test.YtnmkffjklpfflaaGreatDoorG48
namespace Go.Proofs.YtnmkffjklpfflaaGreatDoor
open Go.RowKit
set_option maxHeartbeats 2000000
set_option maxRecDepth 100000
def my (z : Int) (c : UInt8) : Int := bits .xor .u32 z ((c.toNat : Int) % 4294967296) * 16777619 % 4294967296
def so (l : List UInt8) : Int := l.foldl my 2166136261
theorem pA {l : List UInt8} {j : Nat} (h : j < l.length) : so (l.take (j + 1)) = my (so (l.take j)) l[j] := by
 unfold so
 rw [List.take_succ_eq_append_getElem h,List.foldl_append]
 rfl
section
variable {w : World}
theorem tP (l : List UInt8) (hl : l.length <= 100000) : Calls Tryz.prog 22 #[.string ⟨l.toArray⟩] w (fun e w' => e = .returned (.int .i64 (RowKit.wrap64 (so l))) /\ w' = w) := by
 go_enter Tryz.func22,Tryz.ntmps22
 go_wp2_with fail
 go_loopw [7,3] (fun iv hv wr => ∃ (j : Nat) (z : Int),j <= l.length /\ iv = .int .i64 ↑j /\ hv = .int .u32 z /\ wr = w /\ Hid (z = so (l.take j))) (fun iv _ _ => l.length - (intOf iv).toNat)
 case atStart => exact ⟨0,_,Nat.zero_le _,rfl,rfl,rfl,rfl⟩
 case round =>
  obtain ⟨j,z,_,rfl,rfl,rfl,b⟩ := hrel
  by_cases c : j < l.length
  ·go_wp2
   go_roundw
   case rel =>
    refine ⟨j + 1,_,by omega,by go_num,rfl,by first | rfl | trivial,?_⟩
    show _ = _
    rw [pA c,<- show z = _ from b.out]
    rfl
   case measure => first | omega | (simp only [intOf]; omega) | (simp; omega)
  ·obtain rfl : j = l.length := by omega
   rw [List.take_length] at b; go_wp2
   go_ret
   obtain rfl : z = so l := b.out
   exact ⟨rfl,rfl⟩
end
end Go.Proofs.YtnmkffjklpfflaaGreatDoor
