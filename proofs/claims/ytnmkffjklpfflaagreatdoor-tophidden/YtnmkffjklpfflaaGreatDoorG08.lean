/- Trees of nodes,and how they lie in memory that is only read: whatever rows they share,whatever lies beside them. -/
import Derived.Test.YtnmkffjklpfflaaGreatDoorG02
import Derived.Test.YtnmkffjklpfflaaGreatDoorG01
import Derived.Test.YtnmkffjklpfflaaGreatDoorG03
import Derived.Test.YtnmkffjklpfflaaGreatDoorG05
import Derived.Test.YtnmkffjklpfflaaGreatDoorRows
import Derived.WalkKit
import Derived.WalkSpells
import Derived.WalkLawsBesides
import Derived.BigQuiet
import Derived.Deep.QuietTactic
import Derived.Deep.RegionWith
import Derived.Lib.Strings
import Derived.Lib.IndexBytes
import Derived.Maps.Own
import Derived.Maps.OwnSet
import Derived.Test.YtnmkffjklpfflaaGreatDoorG04
import Derived.Test.YtnmkffjklpfflaaGreatDoorG07
import Derived.Test.YtnmkffjklpfflaaGreatDoorG06
import Derived.ChangeArms
import Derived.Deep.Slices
import Derived.Below
import Derived.Deep.RegionHeld
namespace Go.Proofs.YtnmkffjklpfflaaGreatDoor
open Go.RowKit
abbrev zn (t : T) (sv : Value) : Value := .agg #[.int .i64 t.kind,.string ⟨t.name.toArray⟩,.int .i64 t.num,.int .i64 t.at',sv]
structure Fits (t : T) : Prop where
 name : t.name.length <= maxLen
 k1 : -9223372036854775808 <= t.kind
 k2 : t.kind <= 9223372036854775807
 n1 : -9223372036854775808 <= t.num
 n2 : t.num <= 9223372036854775807
structure Node5 (w : World) (g o : Nat) (t : T) (sv : Value) : Prop where
 c0 : w.cell? ⟨g,o,none⟩ = some (.int .i64 t.kind)
 c1 : w.cell? ⟨g,o + 1,none⟩ = some (.string ⟨t.name.toArray⟩)
 c2 : w.cell? ⟨g,o + 2,none⟩ = some (.int .i64 t.num)
 c3 : w.cell? ⟨g,o + 3,none⟩ = some (.int .i64 t.at')
 c4 : w.cell? ⟨g,o + 4,none⟩ = some sv
inductive AT (w : World) : List T -> Value -> Prop
 | nil (a : Option Addr) (c : Nat) (hc : c <= maxLen) : AT w [] (.slice a 0 c)
 | mk (ts : List T) (g o c : Nat) (svs : List Value) (hl : svs.length = ts.length) (h1 : ts.length <= c) (h2 : c <= maxLen)
   (cells : ∀ (i : Nat) (t : T) (sv : Value),ts[i]? = some t -> svs[i]? = some sv -> Node5 w g (o + i * 5) t sv /\ Fits t)
   (sub : ∀ (i : Nat) (t : T) (sv : Value),ts[i]? = some t -> svs[i]? = some sv -> AT w t.subs sv) : AT w ts (.slice (some ⟨g,o,none⟩) ts.length c)
theorem zi {w w' : World} {a : Addr} {v : Value} (hg : w.grownBy w' none) (h : w.cell? a = some v) : w'.cell? a = some v := by
 have b := hg.block a.block (zw h) (by simp)
 unfold World.cell? at h ⊢
 rw [b]
 exact h
theorem Node5.kept {w w' : World} {g o : Nat} {t : T} {sv : Value} (h : Node5 w g o t sv) (hg : w.grownBy w' none) : Node5 w' g o t sv :=
 ⟨zi hg h.c0,zi hg h.c1,zi hg h.c2,zi hg h.c3,zi hg h.c4⟩
theorem AT.kept {w w' : World} {ts : List T} {v : Value} (h : AT w ts v) (hg : w.grownBy w' none) : AT w' ts v := by
 induction h with
 | nil a c hc => exact .nil a c hc
 | mk ts g o c svs hl h1 h2 cells sub ih => exact .mk ts g o c svs hl h1 h2 (fun i t sv e1 e2 => ⟨(cells i t sv e1 e2).1.kept hg,(cells i t sv e1 e2).2⟩) ih
theorem AT.form {w : World} {ts : List T} {v : Value} (h : AT w ts v) : ∃ a c,v = .slice a ts.length c /\ ts.length <= c /\ c <= maxLen := by
 cases h with
 | nil a c hc => exact ⟨a,c,rfl,Nat.zero_le _,hc⟩
 | mk _ g o c svs hl h1 h2 cells sub => exact ⟨_,c,rfl,h1,h2⟩
theorem AT.node {w : World} {ts : List T} {a : Option Addr} {n c : Nat} (h : AT w ts (.slice a n c)) (i : Nat) (t : T) (ht : ts[i]? = some t) :
  ∃ g o sv,a = some ⟨g,o,none⟩ /\ Node5 w g (o + i * 5) t sv /\ Fits t /\ AT w t.subs sv := by
 have e : i < ts.length := by
  rcases Nat.lt_or_ge i ts.length with d | d
  ·exact d
  ·rw [List.getElem?_eq_none d] at ht; cases ht
 cases h with
 | nil a c hc => simp at e
 | mk _ g o c svs hl h1 h2 cells sub =>
  obtain ⟨sv,b⟩ : ∃ sv,svs[i]? = some sv := ⟨_,List.getElem?_eq_getElem (by omega)⟩
  exact ⟨g,o,sv,rfl,(cells i t sv ht b).1,(cells i t sv ht b).2,sub i t sv ht b⟩
theorem AT.drop {w : World} {ts : List T} {g o n c : Nat} (h : AT w ts (.slice (some ⟨g,o,none⟩) n c)) (k : Nat) (hk : k <= ts.length) : AT w (ts.drop k) (.slice (some ⟨g,o + k * 5,none⟩) (n - k) (c - k)) := by
 cases h with
 | nil a c hc =>
  have : k = 0 := by simpa using hk
  subst this
  exact .nil _ _ hc
 | mk _ _ _ c svs hl h1 h2 cells sub =>
  have e : ts.length - k = (ts.drop k).length := by simp
  rw [e]; refine .mk (ts.drop k) g (o + k * 5) (c - k) (svs.drop k) (by simp [hl]) (by simp; omega) (by omega) (fun i t sv e1 e2 => ?_) (fun i t sv e1 e2 => ?_)
  ·rw [List.getElem?_drop] at e1 e2
   have := cells (k + i) t sv e1 e2; rw [show o + k * 5 + i * 5 = o + (k + i) * 5 by omega]
   exact this
  ·rw [List.getElem?_drop] at e1 e2
   exact sub (k + i) t sv e1 e2
/-! ### From what is read as data -/
section
variable {H : Type} {enc : TypeId × Value -> H} {w : World} {base : Nat} {spare : Nat -> Bool} {held : Bool}
theorem nA {n : Int} (h : (Lit.int .i64 n).wf = true) : -9223372036854775808 <= n /\ n <= 9223372036854775807 := by
 have b : IntKind.i64.min = -9223372036854775808 := rfl
 have c : IntKind.i64.max = 9223372036854775807 := rfl
 simp [Lit.wf,b,c] at h
 omega
end
/-! ### Steps of a region,in short -/
section
variable {P : Program} {ops : Array Oper} {Q : Exit -> Act -> World -> Prop} {md : Region.Mode} {S : World -> Prop} {oi : Oper} {fuel : Nat} {listed : Array Bool} {a : Act} {w : World}
theorem tk (i : Nat) (v : Value) (hi : ops[i]? = some oi) (hy : ∀ w,S w -> (execOp a.eval oi).run P w = .ok (.value v) w) (hS : S w) (h : wpAnyH P md ops Q S fuel (listed.setIfInBounds i true) (a.put oi.dst v) w)
  (hs : Region.noSelect ops = true := by kernel_rfl) (hf : Region.free md ops listed i = true := by kernel_rfl) (hr : (Region.ready md ops listed).contains i = true := by kernel_rfl) (hQ : ∀ c a w,Q (.panic c) (a.put oi.dst v) w -> Q (.panic c) a w := by exact fun _ _ _ h => h) (hw : Region.wanted oi (yielded ops a.tmps) = true := by kernel_rfl) :
  wpAnyH P md ops Q S (fuel + 1) listed a w := wpAnyH_take hi hs hf hr hQ (Or.inl ⟨hw,hy⟩) hS h
theorem rd (i : Nat) (ho : ops[i]? = some oi) (h : ∀ K' : Act -> World -> Prop,Shut (∀ a w,S w -> (S w -> wpAnyH P md ops Q S fuel (listed.setIfInBounds i true) a w) -> K' a w) -> if Region.wanted oi (yielded ops a.tmps) = true then Oper.wp P oi a w K' Q else K' (a.put oi.dst undef) w)
  (hr : Region.ready md ops listed = [i] := by kernel_rfl) : wpAnyH P md ops Q S (fuel + 1) listed a w := wpAnyH_ready hr (by simp) (AllReadyH.cons ho h AllReadyH.nil)
end
theorem Node5.p {w : World} {g o : Nat} {k : Int} {x : List UInt8} {m p : Int} {l : List T} {sv : Value} (h : Node5 w g o (.mk k x m p l) sv) : w.cell? ⟨g,o,none⟩ = some (.int .i64 k) /\ w.cell? ⟨g,o + 1,none⟩ = some (.string ⟨x.toArray⟩) /\ w.cell? ⟨g,o + 2,none⟩ = some (.int .i64 m) /\ w.cell? ⟨g,o + 3,none⟩ = some (.int .i64 p) /\ w.cell? ⟨g,o + 4,none⟩ = some sv := ⟨h.c0,h.c1,h.c2,h.c3,h.c4⟩
/-! ### Operators -/
def lF : List (List UInt8) := [[61],[35],[60],[60,61],[62],[62,61]]
def lD : List (List UInt8) := [[43],[45],[79,82]]
def lC : List (List UInt8) := [[42],[68,73,86],[77,79,68],[38]]
def inB (xs : List (List UInt8)) (x : List UInt8) : Bool := xs.contains x
def rO (x : List UInt8) : Int := if inB lF x = true then 0 else if inB lD x = true then 1 else if inB lC x = true then 2 else -1
/-! ### Shapes -/
def yx (t : T) (k : Int) (named : Bool) (most many : Int) : Bool :=
 decide (t.kind = k /\ 0 <= t.num /\ t.num <= most /\ (0 <= many -> (t.subs.length : Int) = many)) && (if named then yv t.name else t.name.isEmpty)
def pY : Int := 2147483647
inductive Rule where
 | module | imported | procedure | typeItself | typeName | typeNameOrNone | ref | act | expression | designator
 | list (r : Rule)
 | declared (kind most : Int) (r : Rule)
def vH : List T -> List Rule -> List (T × Rule)
 | t :: l,r :: m => (t,r) :: vH l m
 | _,_ => []
def tc (l : List T) (r : Rule) : List (T × Rule) := l.map fun t => (t,r)
def zT (c : Bool) (l : List (T × Rule)) : Option (List (T × Rule)) := if c = true then some l else none
def gy : List T -> List (T × Rule)
 | [] => []
 | [x] => [(x,.list .act)]
 | x :: y :: l => (x,.expression) :: (y,.list .act) :: gy l
def yN (t : T) : Option (List (T × Rule)) :=
 if t.kind = 24 then zT (yx t 24 true 0 0) [] else
 if t.kind = 25 then zT (yx t 25 true 0 1) (vH t.subs [.designator]) else
 if t.kind = 26 then zT (yx t 26 false 0 2) (vH t.subs [.designator,.expression]) else
 if t.kind = 27 then zT (yx t 27 false 0 1) (vH t.subs [.designator]) else
 if t.kind = 28 then zT (yx t 28 false 0 2) (vH t.subs [.designator,.typeName]) else none
def qS (t : T) (r q : Rule) : List (T × Rule) := match t.subs with
 | [] => []
 | x :: l => (x,r) :: tc l q
def xb (t : T) : Option (List (T × Rule)) :=
 if t.kind = 29 then zT (yx t 29 false pY 0) [] else
 if t.kind = 30 \/ t.kind = 31 \/ t.kind = 32 then zT (yx t t.kind false 0 0) [] else
 if t.kind = 33 then zT (yx t 33 false 0 (-1) && decide (0 < t.subs.length)) (qS t .designator .expression) else
 if t.kind = 34 \/ t.kind = 35 then zT (yx t t.kind false 0 1) (vH t.subs [.expression]) else
 if t.kind = 37 then zT (yx t 37 false 0 2) (vH t.subs [.expression,.typeName]) else
 if t.kind = 36 then zT (decide (0 <= rO t.name) && t.num == 0 && t.subs.length == 2) (vH t.subs [.expression,.expression]) else yN t
def mR (t : T) : Option (List (T × Rule)) :=
 if t.kind = 16 then zT (t.name.isEmpty && decide (2 <= t.subs.length) && decide (((t.subs.length : Int) % 2) = t.num)) (gy t.subs) else
 if t.kind = 14 then zT (yx t 14 false 0 2) (vH t.subs [.designator,.expression]) else
 if t.kind = 15 then zT (yx t 15 false 0 (-1) && decide (0 < t.subs.length)) (qS t .designator .expression) else
 if t.kind = 17 then zT (yx t 17 false 0 2) (vH t.subs [.expression,.list .act]) else
 if t.kind = 18 then zT (yx t 18 false 0 2) (vH t.subs [.list .act,.expression]) else
 if t.kind = 19 then zT (yx t 19 false 0 (-1) && decide (t.subs.length <= 1)) (tc t.subs .expression) else
 if t.kind = 20 \/ t.kind = 22 then zT (yx t t.kind false 0 1) (vH t.subs [.designator]) else
 if t.kind = 21 \/ t.kind = 23 then zT (yx t t.kind false 0 1) (vH t.subs [.expression]) else none
def kR (t : T) : Option (List (T × Rule)) := zT (yx t 13 true 0 (-1) && decide (t.subs.length <= 1)) (tc t.subs .ref)
def oZ : Rule -> T -> Option (List (T × Rule))
 | .module,t => zT (yx t 2 true 0 6) (vH t.subs [.list .imported,.list (.declared 4 1 .expression),.list (.declared 5 1 .typeItself),.list (.declared 6 1 .typeName),.list .procedure,.list .act])
 | .imported,t => zT (yx t 3 true 0 0) []
 | .procedure,t => zT (yx t 7 true 1 4) (vH t.subs [.list (.declared 8 1 .typeName),.typeNameOrNone,.list (.declared 6 0 .typeName),.list .act])
 | .typeItself,t =>
  if t.kind = 9 then zT (yx t 9 false pY 1) (vH t.subs [.typeName]) else
  if t.kind = 12 then zT (yx t 12 false 0 1) (vH t.subs [.typeName]) else
  if t.kind = 10 then zT (yx t 10 false 0 (-1) && decide (0 < t.subs.length)) (qS t .typeNameOrNone (.declared 11 1 .typeName)) else none
 | .typeName,t => kR t
 | .typeNameOrNone,t => if t.kind = 0 then zT (yx t 0 false 0 0) [] else kR t
 | .ref,t => zT (yx t 24 true 0 0) []
 | .act,t => mR t
 | .expression,t => xb t
 | .designator,t => yN t
 | .list r,t => zT (yx t 1 false 0 (-1)) (tc t.subs r)
 | .declared kind most r,t => zT (yx t kind true most 1) (vH t.subs [r])
inductive Well : Rule -> T -> Prop
 | mk {r : Rule} {t : T} (l : List (T × Rule)) (h : oZ r t = some l) (all : ∀ p ∈ l,Well p.2 p.1) : Well r t
theorem Well.iff {r : Rule} {t : T} : Well r t ↔ ∃ l,oZ r t = some l /\ ∀ p ∈ l,Well p.2 p.1 :=
 ⟨fun h => by cases h with | mk l h all => exact ⟨l,h,all⟩,fun ⟨l,h,all⟩ => .mk l h all⟩
/-! ### How many nodes,how deep -/
mutual
def mC : T -> Nat
 | .mk _ _ _ _ l => 1 + nJ l
def nJ : List T -> Nat
 | [] => 0
 | t :: l => mC t + nJ l
end
mutual
def yr : T -> Nat
 | .mk _ _ _ _ l => 1 + uQ l
def uQ : List T -> Nat
 | [] => 0
 | t :: l => max (yr t) (uQ l)
end
theorem jp {t u : T} (h : u ∈ t.subs) : yr u < yr t := by
 obtain ⟨k,x,n,a,l⟩ := t
 have H : ∀ l : List T,u ∈ l -> yr u <= uQ l := by
  intro l
  induction l with
  | nil => intro h; cases h
  | cons t l ih =>
   intro h; rw [uQ]
   rcases List.mem_cons.1 h with rfl | h
   ·exact Nat.le_max_left _ _
   ·exact Nat.le_trans (ih h) (Nat.le_max_right _ _)
 have := H l h; rw [show yr (T.mk k x n a l) = 1 + uQ l by rw [yr]]
 omega
/-! ### Texts -/
def tU : Nat -> Nat -> List UInt8
 | 0,_ => []
 | f + 1,n => if n < 10 then [UInt8.ofNat (48 + n)] else tU f (n / 10) ++ [UInt8.ofNat (48 + n % 10)]
def vX (n : Int) : List UInt8 := tU 11 n.toNat
end Go.Proofs.YtnmkffjklpfflaaGreatDoor
