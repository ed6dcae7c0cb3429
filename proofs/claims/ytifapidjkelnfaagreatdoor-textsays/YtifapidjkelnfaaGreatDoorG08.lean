/- The document's reader,told loosely: every expression. -/
import Derived.Test.YtifapidjkelnfaaGreatDoorG04
import Derived.Test.YtifapidjkelnfaaGreatDoorG05
import Derived.Test.YtifapidjkelnfaaGreatDoorG06
import Derived.Test.YtifapidjkelnfaaGreatDoorG07
namespace Go.Proofs.YtifapidjkelnfaaGreatDoor
open Go.RowKit
theorem kex (c : KC) : ∀ m,KOK c 95 1 m /\ KOK c 176 1 m
 | 0 => ⟨fun _ _ _ p hm => absurd p.il (by omega),fun _ _ _ p hm => absurd p.il (by omega)⟩
 | m + 1 => by
  have ih := kex c m
  have hF : KOK c 176 1 (m + 1) := fun w i E p hm => dm c m w i E p hm ih.1 ih.2
  have hP : KOK c 166 1 (m + 1) := fun w i E p hm => gV c (m + 1) w i E p hm hF
  have hS : KOK c 137 1 (m + 1) := fun w i E p hm => mn c (m + 1) w i E p hm hP
  exact ⟨fun w i E p hm => rO c (m + 1) w i E p hm hS,hF⟩
theorem ot (c : KC) (m : Nat) : KOK c 95 1 m := (kex c m).1
theorem nV (c : KC) (w : World) (i : Nat) (E : Int) (p : KS c w w i E) : Calls Tryz.prog 97 #[.pointer (some ⟨c.rb,0,none⟩)] w (Kr c w i E 1 (KT w.heap.size)) := qQ c c.n w i E p (by omega) (ot c _)
theorem ch (c : KC) (w : World) (i : Nat) (E : Int) (p : KS c w w i E) : Calls Tryz.prog 98 #[.pointer (some ⟨c.rb,0,none⟩)] w (Kr c w i E 0 (KL w.heap.size)) := qr c c.n w i E p (by omega) (ot c _)
theorem sC (c : KC) (w : World) (i : Nat) (E : Int) (p : KS c w w i E) : Calls Tryz.prog 95 #[.pointer (some ⟨c.rb,0,none⟩)] w (Kr c w i E 1 (KT w.heap.size)) := ot c c.n w i E p (by omega)
end Go.Proofs.YtifapidjkelnfaaGreatDoor
