/- The program's reader,all of it. -/
import Derived.Test.YtnmkffjklpfflaaGreatDoorG36
import Derived.Test.YtnmkffjklpfflaaGreatDoorG38
import Derived.Test.YtnmkffjklpfflaaGreatDoorG37
namespace Go.Proofs.YtnmkffjklpfflaaGreatDoor
open Go.RowKit
theorem ku {c : PC} {d g : Nat} {p : P T} (h : PartOK c d g p) (he : ∀ (args : Array Value) (w : World),(callFunc g args).run Tryz.prog w = .ok (.enter g args) w) : Part c d (fun _ => True) g #[pq c.pb] p := ⟨fun w i hp _ => h w i hp,fun _ _ _ _ => trivial,he⟩
theorem bD (c : PC) (d : Nat) : PartOK c d 146 (ya c.L) := fun w i h => gc c w i d h (fun w i h => rS c w i d h)
theorem oc (c : PC) : PartOK c 0 148 (yJ c.L) := fun w i h => fc c w i 0 h
 (fun w i h => qV c w i 0 h (ku (fun w i h => gM c w i 0 h) (enters_of Tryz.func205 (by kernel_rfl) rfl)))
 (ku (fun w i h => ki c w i 0 h) (enters_of Tryz.func180 (by kernel_rfl) rfl)) (ni c 20 0 rfl)
theorem iD (c : PC) : PartOK c 0 67 (kV c.L) := fun w i h => pU c w i 0 h
 (ku (fun w i h => dE c w i 0 _ h (nB c 20 0 rfl).1) (enters_of Tryz.func92 (by kernel_rfl) rfl))
 (ku (fun w i h => jz c w i 0 h (bD c 0)) (enters_of Tryz.func93 (by kernel_rfl) rfl))
 (ku (fun w i h => dF c w i 0 h) (enters_of Tryz.func94 (by kernel_rfl) rfl))
 (fun w i h => gk c w i 0 h (oc c)) (fun w i h => hY c w i 0 _ h (ni c 20 0 rfl))
theorem bh (c : PC) : PartOK c 0 52 (xE c.L) := fun w i h => nz c w i 0 h (iD c)
end Go.Proofs.YtnmkffjklpfflaaGreatDoor
