/- The program's judge of shapes: what it holds in memory: parts still to be looked at, each with its rule. -/
import Derived.Test.YtlkokcnbbihljaaGreatDoorG03
import Derived.Deep.RegionWith
import Derived.Deep.RegionLaw
import Derived.Deep.AppendLies
import Derived.Maps.Own
namespace Go.Proofs.YtlkokcnbbihljaaGreatDoor
open Go.RowKit Go.Maps Go.WideMaps Go.WideElems

/-- The rules that are methods. -/
def ruleFn : Rule → Option Nat
  | .module => some 49
  | .imported => some 80
  | .procedure => some 85
  | .typeItself => some 83
  | .typeName => some 84
  | .typeNameOrNone => some 120
  | .ref => some 121
  | .act => some 86
  | .expression => some 82
  | .designator => some 119
  | _ => none

abbrev ptr (b : Nat) : Value := .pointer (some ⟨b, 0, none⟩)
/-- A rule as a value: a method of the judge, or a closure, whose variables lie in blocks of S. -/
inductive RV (w : World) (jb : Nat) (S : Nat → Prop) : Rule → Value → Prop
  | meth (r : Rule) (g : Nat) (h : ruleFn r = some g) : RV w jb S r (.func (.func g) #[ptr jb] #[])
  | list (r : Rule) (rv : Value) (b1 b2 : Nat) (s1 : S b1) (s2 : S b2) (c1 : w.cell? ⟨b1, 0, none⟩ = some (ptr jb)) (c2 : w.cell? ⟨b2, 0, none⟩ = some rv) (h : RV w jb S r rv) :
      RV w jb S (.list r) (.func (.func 114) #[] #[ptr b1, ptr b2])
  | declared (k m : Int) (r : Rule) (rv : Value) (b1 b2 b3 b4 : Nat) (s1 : S b1) (s2 : S b2) (s3 : S b3) (s4 : S b4) (c1 : w.cell? ⟨b1, 0, none⟩ = some (.int .i64 k)) (c2 : w.cell? ⟨b2, 0, none⟩ = some (ptr jb))
      (c3 : w.cell? ⟨b3, 0, none⟩ = some (.int .i64 m)) (c4 : w.cell? ⟨b4, 0, none⟩ = some rv) (h : RV w jb S r rv) :
      RV w jb S (.declared k m r) (.func (.func 117) #[] #[ptr b1, ptr b2, ptr b3, ptr b4])

/-- Blocks of S are as they were. -/
structure KB (S : Nat → Prop) (w w' : World) : Prop where
  os : w'.os = w.os
  tape : w'.tape = w.tape
  output : w'.output = w.output
  size : w.heap.size ≤ w'.heap.size
  block : ∀ k, k < w.heap.size → S k → w'.heap[k]? = w.heap[k]?
theorem KB.refl (S : Nat → Prop) (w : World) : KB S w w := ⟨rfl, rfl, rfl, Nat.le_refl _, fun _ _ _ => rfl⟩
theorem KB.trans {S S' : Nat → Prop} {w w1 w2 : World} (h1 : KB S w w1) (h2 : KB S' w1 w2) (hs : ∀ k, k < w.heap.size → S k → S' k) : KB S w w2 :=
  ⟨h2.os.trans h1.os, h2.tape.trans h1.tape, h2.output.trans h1.output, Nat.le_trans h1.size h2.size, fun k hk hS => (h2.block k (Nat.lt_of_lt_of_le hk h1.size) (hs k hk hS)).trans (h1.block k hk hS)⟩
theorem KB.of {S : Nat → Prop} {w w' : World} {row : Option Nat} (h : w.grownBy w' row) (hs : ∀ k, S k → some k ≠ row) : KB S w w' := ⟨h.os, h.tape, h.output, h.size, fun k hk hS => h.block k hk (hs k hS)⟩
theorem KB.cell {S : Nat → Prop} {w w' : World} {a : Addr} {v : Value} (hg : KB S w w') (h : w.cell? a = some v) (hs : S a.block) : w'.cell? a = some v := by
  have hb := hg.block a.block (block_lt h) hs
  unfold World.cell? at h ⊢
  rw [hb]
  exact h
theorem RV.kept {w w' : World} {jb : Nat} {S S' : Nat → Prop} {r : Rule} {v : Value} (h : RV w jb S r v) (hg : KB S w w') (hS : ∀ k, k < w.heap.size → S k → S' k) : RV w' jb S' r v := by
  induction h with
  | meth r g h => exact .meth r g h
  | list r rv b1 b2 s1 s2 c1 c2 h ih => exact .list r rv b1 b2 (hS _ (block_lt c1) s1) (hS _ (block_lt c2) s2) (hg.cell c1 s1) (hg.cell c2 s2) ih
  | declared k m r rv b1 b2 b3 b4 s1 s2 s3 s4 c1 c2 c3 c4 h ih => exact .declared k m r rv b1 b2 b3 b4 (hS _ (block_lt c1) s1) (hS _ (block_lt c2) s2) (hS _ (block_lt c3) s3) (hS _ (block_lt c4) s4) (hg.cell c1 s1) (hg.cell c2 s2) (hg.cell c3 s3) (hg.cell c4 s4) ih

/-- The cells of parts. -/
def flatP : List (T × Rule) → List Value → List Value → List Value
  | p :: l, sv :: svs, rv :: rvs => [.int .i64 p.1.kind, .string ⟨p.1.name.toArray⟩, .int .i64 p.1.num, .int .i64 p.1.at', sv, rv] ++ flatP l svs rvs
  | _, _, _ => []
theorem flatP_length : ∀ (l : List (T × Rule)) (svs rvs : List Value), svs.length = l.length → rvs.length = l.length → (flatP l svs rvs).length = l.length * 6
  | [], [], [], _, _ => rfl
  | p :: l, sv :: svs, rv :: rvs, h1, h2 => by
    have ih := flatP_length l svs rvs (by simpa using h1) (by simpa using h2)
    simp only [flatP, List.length_append, ih, List.length_cons, List.length_nil]
    omega
theorem flatP_append : ∀ (l : List (T × Rule)) (svs rvs : List Value) (m : List (T × Rule)) (svs' rvs' : List Value), svs.length = l.length → rvs.length = l.length → flatP (l ++ m) (svs ++ svs') (rvs ++ rvs') = flatP l svs rvs ++ flatP m svs' rvs'
  | [], [], [], _, _, _, _, _ => rfl
  | p :: l, sv :: svs, rv :: rvs, m, svs', rvs', h1, h2 => by
    have ih := flatP_append l svs rvs m svs' rvs' (by simpa using h1) (by simpa using h2)
    simp only [flatP, List.cons_append, ih, List.append_assoc]

end Go.Proofs.YtlkokcnbbihljaaGreatDoor
