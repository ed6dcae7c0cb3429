/- Trees of nodes,and how they lie in memory that is only read: whatever rows they share,whatever lies beside them. -/
import Derived.Test.YtnmkffjklpfflaaGreatDoorG01
import Derived.Test.YtnmkffjklpfflaaGreatDoorG02
import Derived.Test.YtnmkffjklpfflaaGreatDoorG03
import Derived.Test.YtnmkffjklpfflaaGreatDoorRows
import Derived.WalkKit
import Derived.WalkSpells
import Derived.WalkLawsBesides
import Derived.BigQuiet
import Derived.Deep.QuietTactic
import Derived.Deep.RegionWith
import Derived.Lib.Strings
import Derived.Lib.IndexBytes
import Derived.Maps.Own
import Derived.Maps.OwnSet
import Derived.Test.YtnmkffjklpfflaaGreatDoorG04
import Derived.ChangeArms
import Derived.Deep.Slices
import Derived.Below
import Derived.Deep.RegionHeld
namespace Go.Proofs.YtnmkffjklpfflaaGreatDoor
open Go.RowKit
abbrev zo (t : T) (sv : Value) : Value := .agg #[.int .i64 t.kind,.string ⟨t.name.toArray⟩,.int .i64 t.num,.int .i64 t.at',sv]
structure Fits (t : T) : Prop where
 name : t.name.length <= maxLen
 k1 : -9223372036854775808 <= t.kind
 k2 : t.kind <= 9223372036854775807
 n1 : -9223372036854775808 <= t.num
 n2 : t.num <= 9223372036854775807
structure Node5 (w : World) (g o : Nat) (t : T) (sv : Value) : Prop where
 c0 : w.cell? ⟨g,o,none⟩ = some (.int .i64 t.kind)
 c1 : w.cell? ⟨g,o + 1,none⟩ = some (.string ⟨t.name.toArray⟩)
 c2 : w.cell? ⟨g,o + 2,none⟩ = some (.int .i64 t.num)
 c3 : w.cell? ⟨g,o + 3,none⟩ = some (.int .i64 t.at')
 c4 : w.cell? ⟨g,o + 4,none⟩ = some sv
inductive AT (w : World) : List T -> Value -> Prop
 | nil (a : Option Addr) (c : Nat) (hc : c <= maxLen) : AT w [] (.slice a 0 c)
 | mk (ts : List T) (g o c : Nat) (svs : List Value) (hl : svs.length = ts.length) (h1 : ts.length <= c) (h2 : c <= maxLen)
   (cells : ∀ (i : Nat) (t : T) (sv : Value),ts[i]? = some t -> svs[i]? = some sv -> Node5 w g (o + i * 5) t sv /\ Fits t)
   (sub : ∀ (i : Nat) (t : T) (sv : Value),ts[i]? = some t -> svs[i]? = some sv -> AT w t.subs sv) : AT w ts (.slice (some ⟨g,o,none⟩) ts.length c)
theorem ze {w w' : World} {a : Addr} {v : Value} (hg : w.grownBy w' none) (h : w.cell? a = some v) : w'.cell? a = some v := by
 have b := hg.block a.block (zw h) (by simp)
 unfold World.cell? at h ⊢
 rw [b]
 exact h
theorem Node5.kept {w w' : World} {g o : Nat} {t : T} {sv : Value} (h : Node5 w g o t sv) (hg : w.grownBy w' none) : Node5 w' g o t sv :=
 ⟨ze hg h.c0,ze hg h.c1,ze hg h.c2,ze hg h.c3,ze hg h.c4⟩
theorem AT.kept {w w' : World} {ts : List T} {v : Value} (h : AT w ts v) (hg : w.grownBy w' none) : AT w' ts v := by
 induction h with
 | nil a c hc => exact .nil a c hc
 | mk ts g o c svs hl h1 h2 cells sub ih => exact .mk ts g o c svs hl h1 h2 (fun i t sv e1 e2 => ⟨(cells i t sv e1 e2).1.kept hg,(cells i t sv e1 e2).2⟩) ih
theorem AT.form {w : World} {ts : List T} {v : Value} (h : AT w ts v) : ∃ a c,v = .slice a ts.length c /\ ts.length <= c /\ c <= maxLen := by
 cases h with
 | nil a c hc => exact ⟨a,c,rfl,Nat.zero_le _,hc⟩
 | mk _ g o c svs hl h1 h2 cells sub => exact ⟨_,c,rfl,h1,h2⟩
theorem AT.node {w : World} {ts : List T} {a : Option Addr} {n c : Nat} (h : AT w ts (.slice a n c)) (i : Nat) (t : T) (ht : ts[i]? = some t) :
  ∃ g o sv,a = some ⟨g,o,none⟩ /\ Node5 w g (o + i * 5) t sv /\ Fits t /\ AT w t.subs sv := by
 have e : i < ts.length := by
  rcases Nat.lt_or_ge i ts.length with d | d
  ·exact d
  ·rw [List.getElem?_eq_none d] at ht; cases ht
 cases h with
 | nil a c hc => simp at e
 | mk _ g o c svs hl h1 h2 cells sub =>
  obtain ⟨sv,b⟩ : ∃ sv,svs[i]? = some sv := ⟨_,List.getElem?_eq_getElem (by omega)⟩
  exact ⟨g,o,sv,rfl,(cells i t sv ht b).1,(cells i t sv ht b).2,sub i t sv ht b⟩
theorem AT.drop {w : World} {ts : List T} {g o n c : Nat} (h : AT w ts (.slice (some ⟨g,o,none⟩) n c)) (k : Nat) (hk : k <= ts.length) : AT w (ts.drop k) (.slice (some ⟨g,o + k * 5,none⟩) (n - k) (c - k)) := by
 cases h with
 | nil a c hc =>
  have : k = 0 := by simpa using hk
  subst this
  exact .nil _ _ hc
 | mk _ _ _ c svs hl h1 h2 cells sub =>
  have e : ts.length - k = (ts.drop k).length := by simp
  rw [e]; refine .mk (ts.drop k) g (o + k * 5) (c - k) (svs.drop k) (by simp [hl]) (by simp; omega) (by omega) (fun i t sv e1 e2 => ?_) (fun i t sv e1 e2 => ?_)
  ·rw [List.getElem?_drop] at e1 e2
   have := cells (k + i) t sv e1 e2; rw [show o + k * 5 + i * 5 = o + (k + i) * 5 by omega]
   exact this
  ·rw [List.getElem?_drop] at e1 e2
   exact sub (k + i) t sv e1 e2
/-! ### From what is read as data -/
section
variable {H : Type} {enc : TypeId × Value -> H} {w : World} {base : Nat} {spare : Nat -> Bool} {held : Bool}
theorem nk {n : Int} (h : (Lit.int .i64 n).wf = true) : -9223372036854775808 <= n /\ n <= 9223372036854775807 := by
 have b : IntKind.i64.min = -9223372036854775808 := rfl
 have c : IntKind.i64.max = 9223372036854775807 := rfl
 simp [Lit.wf,b,c] at h
 omega
end
/-! ### Steps of a region,in short -/
section
variable {P : Program} {ops : Array Oper} {Q : Exit -> Act -> World -> Prop} {md : Region.Mode} {S : World -> Prop} {oi : Oper} {fuel : Nat} {listed : Array Bool} {a : Act} {w : World}
theorem tk (i : Nat) (v : Value) (hi : ops[i]? = some oi) (hy : ∀ w,S w -> (execOp a.eval oi).run P w = .ok (.value v) w) (hS : S w) (h : wpAnyH P md ops Q S fuel (listed.setIfInBounds i true) (a.put oi.dst v) w)
  (hs : Region.noSelect ops = true := by kernel_rfl) (hf : Region.free md ops listed i = true := by kernel_rfl) (hr : (Region.ready md ops listed).contains i = true := by kernel_rfl) (hQ : ∀ c a w,Q (.panic c) (a.put oi.dst v) w -> Q (.panic c) a w := by exact fun _ _ _ h => h) (hw : Region.wanted oi (yielded ops a.tmps) = true := by kernel_rfl) :
  wpAnyH P md ops Q S (fuel + 1) listed a w := wpAnyH_take hi hs hf hr hQ (Or.inl ⟨hw,hy⟩) hS h
theorem rd (i : Nat) (ho : ops[i]? = some oi) (h : ∀ K' : Act -> World -> Prop,Shut (∀ a w,S w -> (S w -> wpAnyH P md ops Q S fuel (listed.setIfInBounds i true) a w) -> K' a w) -> if Region.wanted oi (yielded ops a.tmps) = true then Oper.wp P oi a w K' Q else K' (a.put oi.dst undef) w)
  (hr : Region.ready md ops listed = [i] := by kernel_rfl) : wpAnyH P md ops Q S (fuel + 1) listed a w := wpAnyH_ready hr (by simp) (AllReadyH.cons ho h AllReadyH.nil)
end
end Go.Proofs.YtnmkffjklpfflaaGreatDoor
