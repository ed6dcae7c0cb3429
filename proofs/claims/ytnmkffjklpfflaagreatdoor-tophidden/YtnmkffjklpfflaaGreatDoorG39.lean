/- The program's reader,all of it. -/
import Derived.Test.YtnmkffjklpfflaaGreatDoorG34
import Derived.Test.YtnmkffjklpfflaaGreatDoorG37
import Derived.Test.YtnmkffjklpfflaaGreatDoorG38
import Derived.Test.YtnmkffjklpfflaaGreatDoorG35
namespace Go.Proofs.YtnmkffjklpfflaaGreatDoor
open Go.RowKit
theorem kc {c : PC} {d g : Nat} {p : P T} (h : PartOK c d g p) (he : ∀ (args : Array Value) (w : World),(callFunc g args).run Tryz.prog w = .ok (.enter g args) w) : Part c d (fun _ => True) g #[.pointer (some ⟨c.pb,0,none⟩)] p := ⟨fun w i hp _ => h w i hp,fun _ _ _ _ => trivial,he⟩
theorem me (c : PC) (d : Nat) : PartOK c d 146 (zP c.L) := fun w i h => qv c w i d h (fun w i h => tZ c w i d h)
theorem sf (c : PC) : PartOK c 0 148 (zW c.L) := fun w i h => gH c w i 0 h
 (fun w i h => qj c w i 0 h (kc (fun w i h => gd c w i 0 h) (enters_of Tryz.func205 (by kernel_rfl) rfl)))
 (kc (fun w i h => jF c w i 0 h) (enters_of Tryz.func180 (by kernel_rfl) rfl)) (sN c 20 0 rfl)
theorem oN (c : PC) : PartOK c 0 67 (yY c.L) := fun w i h => tV c w i 0 h
 (kc (fun w i h => gX c w i 0 _ h (sY c 20 0 rfl).1) (enters_of Tryz.func92 (by kernel_rfl) rfl))
 (kc (fun w i h => uO c w i 0 h (me c 0)) (enters_of Tryz.func93 (by kernel_rfl) rfl))
 (kc (fun w i h => fC c w i 0 h) (enters_of Tryz.func94 (by kernel_rfl) rfl))
 (fun w i h => qe c w i 0 h (sf c)) (fun w i h => qo c w i 0 _ h (sN c 20 0 rfl))
theorem mc (c : PC) : PartOK c 0 52 (vB c.L) := fun w i h => sU c w i 0 h (oN c)
end Go.Proofs.YtnmkffjklpfflaaGreatDoor
