/- The document's reader,told loosely: lists of acts,procedures,modules,whatever they hold. -/
import Derived.Test.YtifapidjkelnfaaGreatDoorG11
import Derived.Test.YtifapidjkelnfaaGreatDoorG12
namespace Go.Proofs.YtifapidjkelnfaaGreatDoor
open Go.RowKit
theorem kst (c : KC) : ∀ m,KOK c 33 0 m
 | 0 => fun _ _ _ p hm => absurd p.il (by omega)
 | m + 1 => fun w i E p hm => tD c (m + 1) w i E p hm (fun w i E p hm hE hne => rY c m w i E p hm hE hne (kst c m))
theorem bL (c : KC) (w : World) (i : Nat) (E : Int) (p : KS c w w i E) : Calls Tryz.prog 32 #[.pointer (some ⟨c.rb,0,none⟩)] w (Kr c w i E 0 (KT w.heap.size)) := pR c w i E p (kst c c.n)
theorem mO (c : KC) (w : World) (i : Nat) (E : Int) (p : KS c w w i E) : Calls Tryz.prog 9 #[.pointer (some ⟨c.rb,0,none⟩)] w (Kr c w i E 0 (KT w.heap.size)) := dx c w i E p (kst c c.n) (bL c)
end Go.Proofs.YtifapidjkelnfaaGreatDoor
