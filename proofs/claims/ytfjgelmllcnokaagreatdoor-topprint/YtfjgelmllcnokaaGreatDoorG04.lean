/- Short forms of steps that come again and again. -/
import Derived.Test.YtfjgelmllcnokaaGreatDoorG03
import Derived.Orders
namespace Go.Proofs.YtfjgelmllcnokaaGreatDoor
open Go.RowKit
theorem gr {w : World} {row : Option Nat} : w.grownBy w row := zl w row
theorem ga {w : World} {o : Obj} {row : Option Nat} : w.grownBy (w.alloc o) row := zf (zl w row) o
theorem grn {w : World} : w.grownBy w none := zl w none
theorem gan {w : World} {o : Obj} : w.grownBy (w.alloc o) none := zf (zl w none) o
theorem la {α : Type} (l m : List α) : (l ++ m).length = l.length + m.length := List.length_append
theorem lc {α : Type} (a : α) (l : List α) : (a :: l).length = l.length + 1 := List.length_cons
theorem ln {α : Type} : ([] : List α).length = 0 := List.length_nil
section
variable {w w' w1 w2 : World} {lo hi lo' hi' b r n o0 o1 o2 o3 o4 : Nat} {ts : List T} {v u0 u1 u2 u3 u4 v0 v1 v2 v3 v4 : Value} {row : Option Nat}
theorem LR.nm (h : LR w (In lo hi) ts v) : ∃ b,b = lo /\ LR w (In b hi) ts v := ⟨lo,rfl,h⟩
theorem LR.wd (h : LR w (In lo hi) ts v) (h1 : lo' <= lo := by omega) (h2 : hi <= hi' := by first | omega | (simp <;> omega)) : LR w (In lo' hi') ts v := h.wide h1 h2
theorem LR.c (h : LR w (In lo hi) ts v) (hg : w.grownBy w' (some b)) (hb : b < lo \/ hi <= b := by omega) : LR w' (In lo hi) ts v := h.call hg hb
theorem RB.k (h : RB w b) (hg : w.grownBy w' (some r)) (hr : b ≠ r := by omega) : RB w' b := h.keep hg hr
theorem NB.k (h : NB w b v0 v1 v2 v3 v4) (hg : w.grownBy w' (some r)) (hr : b ≠ r := by omega) : NB w' b v0 v1 v2 v3 v4 := h.keep hg hr
end
structure C5 (w : World) (g o : Nat) (k : Int) (x : List UInt8) (m p : Int) (sv : Value) : Prop where
 c0 : w.cell? ⟨g,o,none⟩ = some (.int .i64 k)
 c1 : w.cell? ⟨g,o + 1,none⟩ = some (.string ⟨x.toArray⟩)
 c2 : w.cell? ⟨g,o + 2,none⟩ = some (.int .i64 m)
 c3 : w.cell? ⟨g,o + 3,none⟩ = some (.int .i64 p)
 c4 : w.cell? ⟨g,o + 4,none⟩ = some sv
structure D5 (w : World) (g : Nat) (k : Int) (x : List UInt8) (m p : Int) (sv : Value) : Prop where
 c0 : w.cell? ⟨g,0,none⟩ = some (.int .i64 k)
 c1 : w.cell? ⟨g,1,none⟩ = some (.string ⟨x.toArray⟩)
 c2 : w.cell? ⟨g,2,none⟩ = some (.int .i64 m)
 c3 : w.cell? ⟨g,3,none⟩ = some (.int .i64 p)
 c4 : w.cell? ⟨g,4,none⟩ = some sv
theorem Node5.q {w : World} {g o : Nat} {k : Int} {x : List UInt8} {m p : Int} {l : List T} {sv : Value} (h : Node5 w g o (.mk k x m p l) sv) : C5 w g o k x m p sv := ⟨h.c0,h.c1,h.c2,h.c3,h.c4⟩
theorem Box.q {w : World} {b : Nat} {k : Int} {x : List UInt8} {m p : Int} {l : List T} {sv : Value} (h : Box w b (.mk k x m p l) sv) : D5 w b k x m p sv := ⟨h.c0,h.c1,h.c2,h.c3,h.c4⟩
section
variable {wb : Nat} {w0 w w1 w2 : World} {S : List UInt8} {L b : Nat} {t : T} {sv : Value}
theorem km (K : Hid (WK wb w w1)) (W : Hid (Wr w0 wb w1 S L)) (k : WK wb w1 w2) : Hid (WK wb w w2) := K.out.trans ((WK.grown W.out (zl _ none)).trans k)
theorem bm (B : Hid (FB wb w1 b t sv)) (W : Hid (Wr w0 wb w1 S L)) (k : WK wb w1 w2) : Hid (FB wb w2 b t sv) := B.out.step ((WK.grown W.out (zl _ none)).trans k)
end
section
variable {P : Program} {ops : Array Oper} {Q : Exit -> Act -> World -> Prop} {md : Region.Mode} {oi : Oper} {fuel : Nat} {listed : Array Bool} {a : Act} {w : World}
theorem nt (i : Nat) (hi : ops[i]? = some oi) (h : wpAny P md ops Q fuel (listed.setIfInBounds i true) (a.put oi.dst undef) w) (hs : Region.noSelect ops = true := by kernel_rfl) (hf : Region.free md ops listed i = true := by kernel_rfl) (hr : (Region.ready md ops listed).contains i = true := by kernel_rfl)
  (hQ : ∀ c a w,Q (.panic c) (a.put oi.dst undef) w -> Q (.panic c) a w := by exact fun _ _ _ h => h) (hw : Region.wanted oi (yielded ops a.tmps) = false := by kernel_rfl) : wpAny P md ops Q (fuel + 1) listed a w := wpAny_take (v := undef) hi hs hf hr hQ (Or.inr ⟨hw,rfl⟩) h
end
end Go.Proofs.YtfjgelmllcnokaaGreatDoor
