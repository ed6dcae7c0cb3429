/- The program's reader,all of it. -/
import Derived.Test.YtfjgelmllcnokaaGreatDoorG44
import Derived.Test.YtfjgelmllcnokaaGreatDoorG47
import Derived.Test.YtfjgelmllcnokaaGreatDoorG48
import Derived.Test.YtfjgelmllcnokaaGreatDoorG45
namespace Go.Proofs.YtfjgelmllcnokaaGreatDoor
open Go.RowKit
theorem fX {c : PC} {d g : Nat} {p : P T} (h : PartOK c d g p) (he : ∀ (args : Array Value) (w : World),(callFunc g args).run Tryz.prog w = .ok (.enter g args) w) : Part c d (fun _ => True) g #[.pointer (some ⟨c.pb,0,none⟩)] p := ⟨fun w i hp _ => h w i hp,fun _ _ _ _ => trivial,he⟩
theorem zd1 (c : PC) (d : Nat) : PartOK c d 122 (yh c.L) := fun w i h => tu c w i d h (fun w i h => lN c w i d h)
theorem mg (c : PC) : PartOK c 0 124 (xv c.L) := fun w i h => sT c w i 0 h
 (fun w i h => tC c w i 0 h (fX (fun w i h => tS c w i 0 h) (enters_of Tryz.func168 (by kernel_rfl) rfl)))
 (fX (fun w i h => ff c w i 0 h) (enters_of Tryz.func156 (by kernel_rfl) rfl)) (iY c 20 0 rfl)
theorem zcm (c : PC) : PartOK c 0 28 (gH c.L) := fun w i h => lw c w i 0 h
 (fX (fun w i h => pv c w i 0 _ h (io c 20 0 rfl).1) (enters_of Tryz.func64 (by kernel_rfl) rfl))
 (fX (fun w i h => hU c w i 0 h (zd1 c 0)) (enters_of Tryz.func65 (by kernel_rfl) rfl))
 (fX (fun w i h => pj c w i 0 h) (enters_of Tryz.func66 (by kernel_rfl) rfl))
 (fun w i h => tq c w i 0 h (mg c)) (fun w i h => tf c w i 0 _ h (iY c 20 0 rfl))
theorem oS (c : PC) : PartOK c 0 16 (vr c.L) := fun w i h => iW c w i 0 h (zcm c)
end Go.Proofs.YtfjgelmllcnokaaGreatDoor
