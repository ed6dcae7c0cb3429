/- The program's reader, all of it. -/
import Derived.Test.YtbphiiaoncakfaaGreatDoorG18
import Derived.Test.YtbphiiaoncakfaaGreatDoorG19
import Derived.Test.YtbphiiaoncakfaaGreatDoorG20
namespace Go.Proofs.YtbphiiaoncakfaaGreatDoor
open Go.RowKit

theorem part_of {c : PC} {d g : Nat} {p : P T} (h : PartOK c d g p) (he : ∀ (args : Array Value) (w : World), (callFunc g args).run Tryz.prog w = .ok (.enter g args) w) : Part c d (fun _ => True) g #[.pointer (some ⟨c.pb, 0, none⟩)] p := ⟨fun w i hp _ => h w i hp, fun _ _ _ _ => trivial, he⟩
theorem typesOK (c : PC) (d : Nat) : PartOK c d 94 (typeItselfP c.L) := fun w i h => ptypeItself_any c w i d h (fun w i h => precord_any c w i d h)
theorem procedureOK (c : PC) : PartOK c 0 96 (procedureP c.L) := fun w i h => pprocedure_any c w i 0 h
  (fun w i h => pparameters_any c w i 0 h (part_of (fun w i h => pparameter_any c w i 0 h) (enters_of Tryz.func128 (by kernel_rfl) rfl)))
  (part_of (fun w i h => plocalVariable_any c w i 0 h) (enters_of Tryz.func117 (by kernel_rfl) rfl)) (actsOK c 20 0 rfl)
theorem moduleOK (c : PC) : PartOK c 0 37 (moduleP c.L) := fun w i h => pmodule_any c w i 0 h
  (part_of (fun w i h => pconstant_any c w i 0 _ h (exprOK c 20 0 rfl).1) (enters_of Tryz.func56 (by kernel_rfl) rfl))
  (part_of (fun w i h => ptypeDeclaration_any c w i 0 h (typesOK c 0)) (enters_of Tryz.func57 (by kernel_rfl) rfl))
  (part_of (fun w i h => pvariable_any c w i 0 h) (enters_of Tryz.func58 (by kernel_rfl) rfl))
  (fun w i h => pprocedures_any c w i 0 h (procedureOK c)) (fun w i h => pmoduleActs_any c w i 0 _ h (actsOK c 20 0 rfl))
theorem wholeOK (c : PC) : PartOK c 0 18 (wholeP c.L) := fun w i h => pwhole_any c w i 0 h (moduleOK c)
end Go.Proofs.YtbphiiaoncakfaaGreatDoor
