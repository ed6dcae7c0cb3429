/- Trees of nodes, and how they lie in memory that is only read: whatever rows they share, whatever lies beside them. -/
import Derived.Test.YtapfecciakijhaaGreatDoorG01
import Derived.ChangeArms
import Derived.Deep.Slices
import Derived.Below
import Derived.Deep.RegionHeld
import Derived.Deep.RegionWith
import Derived.Deep.RegionLaw
import Derived.Deep.AppendLies
import Derived.Maps.Own
namespace Go.Proofs.YtapfecciakijhaaGreatDoor
open Go.RowKit

/-- A tree: kind, name, number, place, what is below. -/
inductive T where
  | mk (kind : Int) (name : List UInt8) (num at' : Int) (subs : List T)
def T.kind : T → Int
  | .mk k _ _ _ _ => k
def T.name : T → List UInt8
  | .mk _ s _ _ _ => s
def T.num : T → Int
  | .mk _ _ n _ _ => n
def T.at' : T → Int
  | .mk _ _ _ a _ => a
def T.subs : T → List T
  | .mk _ _ _ _ l => l

abbrev nodeV (t : T) (sv : Value) : Value := .agg #[.int .i64 t.kind, .string ⟨t.name.toArray⟩, .int .i64 t.num, .int .i64 t.at', sv]

/-- Numbers of 64 bits, and a name that can be. -/
structure Fits (t : T) : Prop where
  name : t.name.length ≤ maxLen
  k1 : -9223372036854775808 ≤ t.kind
  k2 : t.kind ≤ 9223372036854775807
  n1 : -9223372036854775808 ≤ t.num
  n2 : t.num ≤ 9223372036854775807

/-- The five cells of a node. -/
structure Node5 (w : World) (g o : Nat) (t : T) (sv : Value) : Prop where
  c0 : w.cell? ⟨g, o, none⟩ = some (.int .i64 t.kind)
  c1 : w.cell? ⟨g, o + 1, none⟩ = some (.string ⟨t.name.toArray⟩)
  c2 : w.cell? ⟨g, o + 2, none⟩ = some (.int .i64 t.num)
  c3 : w.cell? ⟨g, o + 3, none⟩ = some (.int .i64 t.at')
  c4 : w.cell? ⟨g, o + 4, none⟩ = some sv

/-- A list of trees, as it is read. -/
inductive AT (w : World) : List T → Value → Prop
  | nil (a : Option Addr) (c : Nat) (hc : c ≤ maxLen) : AT w [] (.slice a 0 c)
  | mk (ts : List T) (g o c : Nat) (svs : List Value) (hl : svs.length = ts.length) (h1 : ts.length ≤ c) (h2 : c ≤ maxLen)
      (cells : ∀ (i : Nat) (t : T) (sv : Value), ts[i]? = some t → svs[i]? = some sv → Node5 w g (o + i * 5) t sv ∧ Fits t)
      (sub : ∀ (i : Nat) (t : T) (sv : Value), ts[i]? = some t → svs[i]? = some sv → AT w t.subs sv) : AT w ts (.slice (some ⟨g, o, none⟩) ts.length c)

theorem block_lt {w : World} {a : Addr} {v : Value} (h : w.cell? a = some v) : a.block < w.heap.size := World.block_lt_of_cell? w a h
theorem gb_cell {w w' : World} {a : Addr} {v : Value} (hg : w.grownBy w' none) (h : w.cell? a = some v) : w'.cell? a = some v := by
  have hb := hg.block a.block (block_lt h) (by simp)
  unfold World.cell? at h ⊢
  rw [hb]
  exact h
theorem gb_put {a w : World} {row : Option Nat} {b : Nat} (h : a.grownBy w row) (hb : a.heap.size ≤ b) (o : Nat) (v : Value) : a.grownBy (w.setCell ⟨b, o, none⟩ v) row :=
  ⟨h.os, h.tape, h.output, by simpa [World.setCell] using h.size, fun k hk hne => (Below.heap_setCell _ _ _ _ (by simp; omega)).trans (h.block k hk hne)⟩
theorem gb_drew {a w : World} {row : Option Nat} (h : a.grownBy w row) : a.grownBy w.drew row := gb_drewN h 1
theorem Node5.kept {w w' : World} {g o : Nat} {t : T} {sv : Value} (h : Node5 w g o t sv) (hg : w.grownBy w' none) : Node5 w' g o t sv :=
  ⟨gb_cell hg h.c0, gb_cell hg h.c1, gb_cell hg h.c2, gb_cell hg h.c3, gb_cell hg h.c4⟩
theorem AT.kept {w w' : World} {ts : List T} {v : Value} (h : AT w ts v) (hg : w.grownBy w' none) : AT w' ts v := by
  induction h with
  | nil a c hc => exact .nil a c hc
  | mk ts g o c svs hl h1 h2 cells sub ih => exact .mk ts g o c svs hl h1 h2 (fun i t sv e1 e2 => ⟨(cells i t sv e1 e2).1.kept hg, (cells i t sv e1 e2).2⟩) ih

theorem AT.form {w : World} {ts : List T} {v : Value} (h : AT w ts v) : ∃ a c, v = .slice a ts.length c ∧ ts.length ≤ c ∧ c ≤ maxLen := by
  cases h with
  | nil a c hc => exact ⟨a, c, rfl, Nat.zero_le _, hc⟩
  | mk _ g o c svs hl h1 h2 cells sub => exact ⟨_, c, rfl, h1, h2⟩

/-- One of a list's trees. -/
theorem AT.node {w : World} {ts : List T} {a : Option Addr} {n c : Nat} (h : AT w ts (.slice a n c)) (i : Nat) (t : T) (ht : ts[i]? = some t) :
    ∃ g o sv, a = some ⟨g, o, none⟩ ∧ Node5 w g (o + i * 5) t sv ∧ Fits t ∧ AT w t.subs sv := by
  have hi : i < ts.length := by
    rcases Nat.lt_or_ge i ts.length with h9 | h9
    · exact h9
    · rw [List.getElem?_eq_none h9] at ht; cases ht
  cases h with
  | nil a c hc => simp at hi
  | mk _ g o c svs hl h1 h2 cells sub =>
    obtain ⟨sv, hsv⟩ : ∃ sv, svs[i]? = some sv := ⟨_, List.getElem?_eq_getElem (by omega)⟩
    exact ⟨g, o, sv, rfl, (cells i t sv ht hsv).1, (cells i t sv ht hsv).2, sub i t sv ht hsv⟩

/-- The rest of a list. -/
theorem AT.drop {w : World} {ts : List T} {g o n c : Nat} (h : AT w ts (.slice (some ⟨g, o, none⟩) n c)) (k : Nat) (hk : k ≤ ts.length) : AT w (ts.drop k) (.slice (some ⟨g, o + k * 5, none⟩) (n - k) (c - k)) := by
  cases h with
  | nil a c hc =>
    have : k = 0 := by simpa using hk
    subst this
    exact .nil _ _ hc
  | mk _ _ _ c svs hl h1 h2 cells sub =>
    have e : ts.length - k = (ts.drop k).length := by simp
    rw [e]; refine .mk (ts.drop k) g (o + k * 5) (c - k) (svs.drop k) (by simp [hl]) (by simp; omega) (by omega) (fun i t sv e1 e2 => ?_) (fun i t sv e1 e2 => ?_)
    · rw [List.getElem?_drop] at e1 e2
      have := cells (k + i) t sv e1 e2; rw [show o + k * 5 + i * 5 = o + (k + i) * 5 by omega]
      exact this
    · rw [List.getElem?_drop] at e1 e2
      exact sub (k + i) t sv e1 e2

/-! ### From what is read as data -/
theorem addr_add (g o : Nat) (sp : Option Nat) (k : Nat) (hk : k ≠ 0) : Addr.add ⟨g, o, sp⟩ k = ⟨g, o + k, none⟩ := by unfold Addr.add; rw [if_neg hk]
theorem five {α : Type} (l : List α) (h : l.length = 5) : ∃ a b c d e, l = [a, b, c, d, e] := by
  match l, h with
  | [a, b, c, d, e], _ => exact ⟨a, b, c, d, e, rfl⟩
theorem nodeFields : ∃ f0 f1 f2 f3 f4 : Field, Tryz.prog.underlying 24 = some (.struct #[f0, f1, f2, f3, f4]) ∧ f0.type = 3 ∧ f1.type = 9 ∧ f2.type = 3 ∧ f3.type = 3 ∧ f4.type = 22 ∧ f0.offset = 0 ∧ f1.offset = 1 ∧ f2.offset = 2 ∧ f3.offset = 3 ∧ f4.offset = 4 :=
  ⟨_, _, _, _, _, Tryz.underlying24, rfl, rfl, rfl, rfl, rfl, rfl, rfl, rfl, rfl, rfl⟩
theorem cellsNode : Tryz.prog.cellsOf 24 = 5 := by kernel_rfl
theorem cellsInt : Tryz.prog.cellsOf 3 = 1 := by kernel_rfl
theorem cellsString : Tryz.prog.cellsOf 9 = 1 := by kernel_rfl
theorem cellsNodes : Tryz.prog.cellsOf 22 = 1 := by kernel_rfl

section
variable {H : Type} {enc : TypeId × Value → H} {w : World} {base : Nat} {spare : Nat → Bool} {held : Bool}
theorem i64_wf {n : Int} (h : (Lit.int .i64 n).wf = true) : -9223372036854775808 ≤ n ∧ n ≤ 9223372036854775807 := by
  have e1 : IntKind.i64.min = -9223372036854775808 := rfl
  have e2 : IntKind.i64.max = 9223372036854775807 := rfl
  simp [Lit.wf, e1, e2] at h
  omega
/-- A node that is read as data. -/
theorem node_of_trod (n : Nat) (ih : ∀ (v : Value) (x : DataW H × List MemPlace), DataW.trod enc Tryz.prog w base spare held n 22 [v] = some x → ∃ ts, AT w ts v)
    (cs : List Value) (x : DataW H × List MemPlace) (h : DataW.trod enc Tryz.prog w base spare held (n + 1) 24 cs = some x) :
    ∃ t sv, cs = [.int .i64 t.kind, .string ⟨t.name.toArray⟩, .int .i64 t.num, .int .i64 t.at', sv] ∧ Fits t ∧ AT w t.subs sv := by
  obtain ⟨f0,f1,f2,f3,f4,hu,t0,t1,t2,t3,t4,o0,o1,o2,o3,o4⟩ := nodeFields; obtain ⟨xs,m,_,rfl,hc,hl,hf⟩ := DataW.trod_struct hu h
  obtain rfl : m = n := by omega
  rw [cellsNode] at hc
  have hxs : xs.length = 5 := by rw [hl]; rfl
  obtain ⟨c0, c1, c2, c3, c4, rfl⟩ : ∃ c0 c1 c2 c3 c4, cs = [c0, c1, c2, c3, c4] := five cs hc; obtain ⟨x0, x1, x2, x3, x4, rfl⟩ : ∃ x0 x1 x2 x3 x4, xs = [x0, x1, x2, x3, x4] := five xs hxs; have h0 := hf 0 f0 rfl; have h1 := hf 1 f1 rfl; have h2 := hf 2 f2 rfl; have h3 := hf 3 f3 rfl; have h4 := hf 4 f4 rfl; rw [t0, o0, cellsInt] at h0; rw [t1, o1, cellsString] at h1; rw [t2, o2, cellsInt] at h2; rw [t3, o3, cellsInt] at h3; rw [t4, o4, cellsNodes] at h4; obtain ⟨k,e0,_,w0⟩ := DataW.trod_int Tryz.underlying3 h0; obtain ⟨s,e1,_,w1⟩ := DataW.trod_string Tryz.underlying9 h1; obtain ⟨m2,e2,_,w2⟩ := DataW.trod_int Tryz.underlying3 h2; obtain ⟨a,e3,_,_⟩ := DataW.trod_int Tryz.underlying3 h3; obtain ⟨ts,hts⟩ := ih c4 x4 h4
  simp at e0 e1 e2 e3
  subst e0 e1 e2 e3; refine ⟨.mk k s.data.toList m2 a ts, c4, by simp [T.kind, T.name, T.num, T.at'], ⟨?_, ?_, ?_, ?_, ?_⟩, hts⟩
  · show s.data.toList.length ≤ maxLen
    rw [← bs_size]
    exact w1
  · exact (i64_wf w0).1
  · exact (i64_wf w0).2
  · exact (i64_wf w2).1
  · exact (i64_wf w2).2
theorem cells5 {g o : Nat} {sp : Option Nat} {t : T} {sv : Value} {cs : List Value} (h : w.cells? base ⟨g, o, sp⟩ 5 = some cs) (e : cs = [.int .i64 t.kind, .string ⟨t.name.toArray⟩, .int .i64 t.num, .int .i64 t.at', sv]) : sp = none ∧ Node5 w g o t sv := by
  subst e
  unfold World.cells? at h
  split at h
  · have key : ∀ j, j < 5 → w.cell? (Addr.add ⟨g, o, sp⟩ j) = [Value.int .i64 t.kind, .string ⟨t.name.toArray⟩, .int .i64 t.num, .int .i64 t.at', sv][j]? := fun j hj => by
      have := mapM_some_get h j j (by simp [hj])
      exact this
    have k0 := key 0 (by omega)
    have hsp : sp = none := by
      cases sp with
      | none => rfl
      | some z =>
        simp only [Addr.add, if_true, World.cell?] at k0
        split at k0 <;> simp at k0
    subst hsp
    exact ⟨rfl, k0, key 1 (by omega), key 2 (by omega), key 3 (by omega), key 4 (by omega)⟩
  · cases h
theorem nodes_of_trod : ∀ (fuel : Nat) (v : Value) (x : DataW H × List MemPlace), DataW.trod enc Tryz.prog w base spare held fuel 22 [v] = some x → ∃ ts, AT w ts v := by
  intro fuel
  induction fuel using Nat.strongRecOn with
  | ind fuel ih =>
    intro v x h
    rcases DataW.trod_slice Tryz.underlying22 h with ⟨e, _⟩ | ⟨a, len, cap, elems, rest, n, rfl, e, _, _, hlc, hcm, hel, hcell, _, _⟩
    · simp at e
      subst e
      exact ⟨[], .nil _ _ (Nat.zero_le _)⟩
    · simp at e
      subst e
      by_cases h0 : len = 0
      · subst h0
        exact ⟨[], .nil _ _ hcm⟩
      obtain ⟨g,o,sp⟩ := a
      have key : ∀ i, i < len → ∃ t sv, (sp = none ∨ 0 < i) ∧ Node5 w g (o + i * 5) t sv ∧ Fits t ∧ AT w t.subs sv := by
        intro i hi; have hc := hcell i hi; rw [List.getElem?_eq_getElem (by omega), cellsNode] at hc; obtain ⟨cs', h1, h2⟩ := Option.bind_eq_some_iff.1 hc
        obtain ⟨m, rfl⟩ : ∃ m, n = m + 1 := by
          cases n with
          | zero => simp [DataW.trod] at h2
          | succ m => exact ⟨m, rfl⟩
        obtain ⟨t,sv,he,hf,ha⟩ := node_of_trod m (fun v x hx => ih m (by omega) v x hx) cs' _ h2
        by_cases hi0 : i = 0
        · subst hi0
          have h1' : w.cells? base ⟨g, o, sp⟩ 5 = some cs' := by simpa [Addr.add] using h1
          obtain ⟨hsp,hn⟩ := cells5 h1' he
          exact ⟨t, sv, .inl hsp, by simpa using hn, hf, ha⟩
        · have h1' : w.cells? base ⟨g, o + i * 5, none⟩ 5 = some cs' := by
            rw [addr_add g o sp (i * 5) (by omega)] at h1
            exact h1
          exact ⟨t, sv, .inr (by omega), (cells5 h1' he).2, hf, ha⟩
      obtain ⟨_,_,hsp0,_⟩ := key 0 (by omega)
      have hsp : sp = none := by rcases hsp0 with h | h; exact h; omega
      subst hsp
      have kt : ∀ i : Fin len, ∃ t sv, Node5 w g (o + i.1 * 5) t sv ∧ Fits t ∧ AT w t.subs sv := fun i => by
        obtain ⟨t,sv,_,h⟩ := key i.1 i.2
        exact ⟨t, sv, h⟩
      let F : Fin len → T := fun i => (kt i).choose
      let G : Fin len → Value := fun i => (kt i).choose_spec.choose
      have hFG : ∀ i, Node5 w g (o + i.1 * 5) (F i) (G i) ∧ Fits (F i) ∧ AT w (F i).subs (G i) := fun i => (kt i).choose_spec.choose_spec
      have hlen : (List.ofFn F).length = len := by simp
      refine ⟨List.ofFn F, ?_⟩; have := AT.mk (w := w) (List.ofFn F) g o cap (List.ofFn G) (by simp) (by simpa using hlc) hcm (fun i t sv e1 e2 => ?_) (fun i t sv e1 e2 => ?_)
      · rwa [hlen] at this
      · have hi : i < len := by
          rcases Nat.lt_or_ge i len with h9 | h9
          · exact h9
          · rw [List.getElem?_eq_none (by simpa using h9)] at e1; cases e1
        rw [List.getElem?_eq_getElem (by simpa using hi), List.getElem_ofFn] at e1 e2; cases e1; cases e2
        exact ⟨(hFG ⟨i, hi⟩).1, (hFG ⟨i, hi⟩).2.1⟩
      · have hi : i < len := by
          rcases Nat.lt_or_ge i len with h9 | h9
          · exact h9
          · rw [List.getElem?_eq_none (by simpa using h9)] at e1; cases e1
        rw [List.getElem?_eq_getElem (by simpa using hi), List.getElem_ofFn] at e1 e2; cases e1; cases e2
        exact (hFG ⟨i, hi⟩).2.2
end
/-! ### Steps of a region, in short -/
section
variable {P : Program} {ops : Array Oper} {Q : Exit → Act → World → Prop} {md : Region.Mode} {S : World → Prop} {oi : Oper} {fuel : Nat} {listed : Array Bool} {a : Act} {w : World}
theorem tk (i : Nat) (v : Value) (hi : ops[i]? = some oi) (hy : ∀ w, S w → (execOp a.eval oi).run P w = .ok (.value v) w) (hS : S w) (h : wpAnyH P md ops Q S fuel (listed.setIfInBounds i true) (a.put oi.dst v) w)
    (hs : Region.noSelect ops = true := by kernel_rfl) (hf : Region.free md ops listed i = true := by kernel_rfl) (hr : (Region.ready md ops listed).contains i = true := by kernel_rfl) (hQ : ∀ c a w, Q (.panic c) (a.put oi.dst v) w → Q (.panic c) a w := by exact fun _ _ _ h => h) (hw : Region.wanted oi (yielded ops a.tmps) = true := by kernel_rfl) :
    wpAnyH P md ops Q S (fuel + 1) listed a w := wpAnyH_take hi hs hf hr hQ (Or.inl ⟨hw, hy⟩) hS h
theorem rd (i : Nat) (ho : ops[i]? = some oi) (h : ∀ K' : Act → World → Prop, Shut (∀ a w, S w → (S w → wpAnyH P md ops Q S fuel (listed.setIfInBounds i true) a w) → K' a w) → if Region.wanted oi (yielded ops a.tmps) = true then Oper.wp P oi a w K' Q else K' (a.put oi.dst undef) w)
    (hr : Region.ready md ops listed = [i] := by kernel_rfl) : wpAnyH P md ops Q S (fuel + 1) listed a w := wpAnyH_ready hr (by simp) (AllReadyH.cons ho h AllReadyH.nil)
end
theorem Node5.p {w : World} {g o : Nat} {k : Int} {x : List UInt8} {m p : Int} {l : List T} {sv : Value} (h : Node5 w g o (.mk k x m p l) sv) : w.cell? ⟨g, o, none⟩ = some (.int .i64 k) ∧ w.cell? ⟨g, o + 1, none⟩ = some (.string ⟨x.toArray⟩) ∧ w.cell? ⟨g, o + 2, none⟩ = some (.int .i64 m) ∧ w.cell? ⟨g, o + 3, none⟩ = some (.int .i64 p) ∧ w.cell? ⟨g, o + 4, none⟩ = some sv := ⟨h.c0, h.c1, h.c2, h.c3, h.c4⟩
end Go.Proofs.YtapfecciakijhaaGreatDoor

/- What shape a text's tree has, told by rules, each of one node and those right below it; and its text, as functions: the document's words C1 to C4. -/
namespace Go.Proofs.YtapfecciakijhaaGreatDoor

/-! ### Operators -/
def relL : List (List UInt8) := [[61], [35], [60], [60, 61], [62], [62, 61]]
def sumL : List (List UInt8) := [[43], [45], [79, 82]]
def proL : List (List UInt8) := [[42], [68, 73, 86], [77, 79, 68], [38]]
def inB (xs : List (List UInt8)) (x : List UInt8) : Bool := xs.contains x
def levelOf (x : List UInt8) : Int := if inB relL x = true then 0 else if inB sumL x = true then 1 else if inB proL x = true then 2 else -1

/-! ### Shapes -/
/-- A node of a kind; its name a name or empty; its number at most so great; with so many below it (below 0: any). -/
def headB (t : T) (k : Int) (named : Bool) (most many : Int) : Bool :=
  decide (t.kind = k ∧ 0 ≤ t.num ∧ t.num ≤ most ∧ (0 ≤ many → (t.subs.length : Int) = many)) && (if named then nameB t.name else t.name.isEmpty)
def maxNum : Int := 2147483647
/-- What a node may be, where it stands. -/
inductive Rule where
  | module | imported | procedure | typeItself | typeName | typeNameOrNone | ref | act | expression | designator
  | list (r : Rule)
  | declared (kind most : Int) (r : Rule)
/-- As many nodes as rules. -/
def zipR : List T → List Rule → List (T × Rule)
  | t :: l, r :: m => (t, r) :: zipR l m
  | _, _ => []
def eachR (l : List T) (r : Rule) : List (T × Rule) := l.map fun t => (t, r)
def onlyIf (c : Bool) (l : List (T × Rule)) : Option (List (T × Rule)) := if c = true then some l else none
/-- Conditions and lists in turn; the last one more, if there is an odd number of them. -/
def turnR : List T → List (T × Rule)
  | [] => []
  | [x] => [(x, .list .act)]
  | x :: y :: l => (x, .expression) :: (y, .list .act) :: turnR l
def designatorR (t : T) : Option (List (T × Rule)) :=
  if t.kind = 24 then onlyIf (headB t 24 true 0 0) [] else
  if t.kind = 25 then onlyIf (headB t 25 true 0 1) (zipR t.subs [.designator]) else
  if t.kind = 26 then onlyIf (headB t 26 false 0 2) (zipR t.subs [.designator, .expression]) else
  if t.kind = 27 then onlyIf (headB t 27 false 0 1) (zipR t.subs [.designator]) else
  if t.kind = 28 then onlyIf (headB t 28 false 0 2) (zipR t.subs [.designator, .typeName]) else none
def firstR (t : T) (r q : Rule) : List (T × Rule) := match t.subs with
  | [] => []
  | x :: l => (x, r) :: eachR l q
def expressionR (t : T) : Option (List (T × Rule)) :=
  if t.kind = 29 then onlyIf (headB t 29 false maxNum 0) [] else
  if t.kind = 30 ∨ t.kind = 31 ∨ t.kind = 32 then onlyIf (headB t t.kind false 0 0) [] else
  if t.kind = 33 then onlyIf (headB t 33 false 0 (-1) && decide (0 < t.subs.length)) (firstR t .designator .expression) else
  if t.kind = 34 ∨ t.kind = 35 then onlyIf (headB t t.kind false 0 1) (zipR t.subs [.expression]) else
  if t.kind = 37 then onlyIf (headB t 37 false 0 2) (zipR t.subs [.expression, .typeName]) else
  if t.kind = 36 then onlyIf (decide (0 ≤ levelOf t.name) && t.num == 0 && t.subs.length == 2) (zipR t.subs [.expression, .expression]) else designatorR t
def actR (t : T) : Option (List (T × Rule)) :=
  if t.kind = 16 then onlyIf (t.name.isEmpty && decide (2 ≤ t.subs.length) && decide (((t.subs.length : Int) % 2) = t.num)) (turnR t.subs) else
  if t.kind = 14 then onlyIf (headB t 14 false 0 2) (zipR t.subs [.designator, .expression]) else
  if t.kind = 15 then onlyIf (headB t 15 false 0 (-1) && decide (0 < t.subs.length)) (firstR t .designator .expression) else
  if t.kind = 17 then onlyIf (headB t 17 false 0 2) (zipR t.subs [.expression, .list .act]) else
  if t.kind = 18 then onlyIf (headB t 18 false 0 2) (zipR t.subs [.list .act, .expression]) else
  if t.kind = 19 then onlyIf (headB t 19 false 0 (-1) && decide (t.subs.length ≤ 1)) (eachR t.subs .expression) else
  if t.kind = 20 ∨ t.kind = 22 then onlyIf (headB t t.kind false 0 1) (zipR t.subs [.designator]) else
  if t.kind = 21 ∨ t.kind = 23 then onlyIf (headB t t.kind false 0 1) (zipR t.subs [.expression]) else none
def typeNameR (t : T) : Option (List (T × Rule)) := onlyIf (headB t 13 true 0 (-1) && decide (t.subs.length ≤ 1)) (eachR t.subs .ref)
/-- What a rule asks of a node: nothing, or the rules of those right below it. -/
def stepR : Rule → T → Option (List (T × Rule))
  | .module, t => onlyIf (headB t 2 true 0 6) (zipR t.subs [.list .imported, .list (.declared 4 1 .expression), .list (.declared 5 1 .typeItself), .list (.declared 6 1 .typeName), .list .procedure, .list .act])
  | .imported, t => onlyIf (headB t 3 true 0 0) []
  | .procedure, t => onlyIf (headB t 7 true 1 4) (zipR t.subs [.list (.declared 8 1 .typeName), .typeNameOrNone, .list (.declared 6 0 .typeName), .list .act])
  | .typeItself, t =>
    if t.kind = 9 then onlyIf (headB t 9 false maxNum 1) (zipR t.subs [.typeName]) else
    if t.kind = 12 then onlyIf (headB t 12 false 0 1) (zipR t.subs [.typeName]) else
    if t.kind = 10 then onlyIf (headB t 10 false 0 (-1) && decide (0 < t.subs.length)) (firstR t .typeNameOrNone (.declared 11 1 .typeName)) else none
  | .typeName, t => typeNameR t
  | .typeNameOrNone, t => if t.kind = 0 then onlyIf (headB t 0 false 0 0) [] else typeNameR t
  | .ref, t => onlyIf (headB t 24 true 0 0) []
  | .act, t => actR t
  | .expression, t => expressionR t
  | .designator, t => designatorR t
  | .list r, t => onlyIf (headB t 1 false 0 (-1)) (eachR t.subs r)
  | .declared kind most r, t => onlyIf (headB t kind true most 1) (zipR t.subs [r])
/-- A tree that goes by a rule, all through. -/
inductive Well : Rule → T → Prop
  | mk {r : Rule} {t : T} (l : List (T × Rule)) (h : stepR r t = some l) (all : ∀ p ∈ l, Well p.2 p.1) : Well r t
theorem Well.iff {r : Rule} {t : T} : Well r t ↔ ∃ l, stepR r t = some l ∧ ∀ p ∈ l, Well p.2 p.1 :=
  ⟨fun h => by cases h with | mk l h all => exact ⟨l, h, all⟩, fun ⟨l, h, all⟩ => .mk l h all⟩
theorem Well.of_some {r : Rule} {t : T} {l : List (T × Rule)} (h : stepR r t = some l) : Well r t ↔ ∀ p ∈ l, Well p.2 p.1 := by
  rw [Well.iff]
  exact ⟨fun ⟨m, hm, all⟩ => by rw [h] at hm; cases hm; exact all, fun all => ⟨l, h, all⟩⟩
theorem Well.of_none {r : Rule} {t : T} (h : stepR r t = none) : ¬ Well r t := by
  rw [Well.iff]; rintro ⟨m, hm, -⟩; rw [h] at hm; cases hm
/-- All that is still to be looked at. -/
def WellAll (l : List (T × Rule)) : Prop := ∀ p ∈ l, Well p.2 p.1
theorem WellAll.step {l : List (T × Rule)} {r : Rule} {t : T} {m : List (T × Rule)} (h : stepR r t = some m) : WellAll (l ++ [(t, r)]) ↔ WellAll (l ++ m) := by
  unfold WellAll
  constructor
  · intro H p hp
    rcases List.mem_append.1 hp with h1 | h1
    · exact H p (List.mem_append.2 (.inl h1))
    · exact (Well.of_some h).1 (H (t, r) (List.mem_append.2 (.inr (List.mem_singleton.2 rfl)))) p h1
  · intro H p hp
    rcases List.mem_append.1 hp with h1 | h1
    · exact H p (List.mem_append.2 (.inl h1))
    · cases List.mem_singleton.1 h1
      exact (Well.of_some h).2 fun q hq => H q (List.mem_append.2 (.inr hq))
theorem WellAll.stop {l : List (T × Rule)} {r : Rule} {t : T} (h : stepR r t = none) : ¬ WellAll (l ++ [(t, r)]) := fun H => Well.of_none h (H (t, r) (List.mem_append.2 (.inr (List.mem_singleton.2 rfl))))

/-! ### How many nodes, how deep -/
mutual
def countT : T → Nat
  | .mk _ _ _ _ l => 1 + countL l
def countL : List T → Nat
  | [] => 0
  | t :: l => countT t + countL l
end
mutual
def depthT : T → Nat
  | .mk _ _ _ _ l => 1 + depthL l
def depthL : List T → Nat
  | [] => 0
  | t :: l => max (depthT t) (depthL l)
end
theorem depth_sub {t u : T} (h : u ∈ t.subs) : depthT u < depthT t := by
  obtain ⟨k,x,n,a,l⟩ := t
  have H : ∀ l : List T, u ∈ l → depthT u ≤ depthL l := by
    intro l
    induction l with
    | nil => intro h; cases h
    | cons t l ih =>
      intro h; rw [depthL]
      rcases List.mem_cons.1 h with rfl | h
      · exact Nat.le_max_left _ _
      · exact Nat.le_trans (ih h) (Nat.le_max_right _ _)
  have := H l h; rw [show depthT (T.mk k x n a l) = 1 + depthL l by rw [depthT]]
  omega
def countP (l : List (T × Rule)) : Nat := countL (l.map (·.1))
theorem countL_append (l m : List T) : countL (l ++ m) = countL l + countL m := by
  induction l with
  | nil => rw [List.nil_append, countL]; omega
  | cons t l ih => rw [List.cons_append, countL, countL, ih]; omega

/-! ### Texts -/
def nameTx (t : T) : List UInt8 := match t.subs with
  | [m] => m.name ++ (46 :: t.name)
  | _ => t.name
def starTx (t : T) : List UInt8 := if t.num = 1 then t.name ++ [42] else t.name
/-- A number's digits. -/
def decTx : Nat → Nat → List UInt8
  | 0, _ => []
  | f + 1, n => if n < 10 then [UInt8.ofNat (48 + n)] else decTx f (n / 10) ++ [UInt8.ofNat (48 + n % 10)]
def numTx (n : Int) : List UInt8 := decTx 11 n.toNat
def subT (t : T) (i : Nat) : T := t.subs[i]?.getD (.mk 0 [] 0 0 [])
def rankT (t : T) : Int := if t.kind = 36 then levelOf t.name else if t.kind = 37 then 0 else if t.kind = 35 then 1 else 3
def sepTx (sep : List UInt8) : List (List UInt8) → List UInt8
  | [] => []
  | [x] => x
  | x :: l => x ++ (sep ++ sepTx sep l)
def exprTx : Nat → T → List UInt8
  | 0, _ => []
  | f + 1, t =>
    let at9 := fun (u : T) (r : Int) => if rankT u < r then 40 :: (exprTx f u ++ [41]) else exprTx f u
    let s0 := subT t 0
    let s1 := subT t 1
    if t.kind = 24 then t.name else
    if t.kind = 25 then exprTx f s0 ++ (46 :: t.name) else
    if t.kind = 26 then exprTx f s0 ++ (91 :: (exprTx f s1 ++ [93])) else
    if t.kind = 27 then exprTx f s0 ++ [94] else
    if t.kind = 28 then exprTx f s0 ++ (123 :: (nameTx s1 ++ [125])) else
    if t.kind = 29 then numTx t.num else
    if t.kind = 30 then [84, 82, 85, 69] else
    if t.kind = 31 then [70, 65, 76, 83, 69] else
    if t.kind = 32 then [78, 73, 76] else
    if t.kind = 33 then exprTx f s0 ++ (40 :: (sepTx [44, 32] ((t.subs.drop 1).map (exprTx f)) ++ [41])) else
    if t.kind = 34 then 126 :: at9 s0 3 else
    if t.kind = 35 then 45 :: at9 s0 2 else
    if t.kind = 37 then at9 s0 1 ++ ([32, 73, 83, 32] ++ nameTx s1) else
    at9 s0 (if levelOf t.name = 2 then 2 else 1) ++ (32 :: (t.name ++ (32 :: at9 s1 (if levelOf t.name = 1 then 2 else if levelOf t.name = 2 then 3 else 1))))
end Go.Proofs.YtapfecciakijhaaGreatDoor

/- The text of a tree, as functions: the document's words C1 to C4; and how long it can be. -/
namespace Go.Proofs.YtapfecciakijhaaGreatDoor

def padTx (L : Nat) : List UInt8 := List.replicate (2 * L) 32
def argsTx (f : Nat) (l : List T) : List UInt8 := 40 :: (sepTx [44, 32] (l.map (exprTx f)) ++ [41])
/-- Lines: each a level within; sep behind each but the last, last behind that. -/
def linesTx (sep last : List UInt8) (tx : T → List UInt8) (L : Nat) (l : List T) : List UInt8 :=
  if l.isEmpty then [] else sepTx (sep ++ [10]) (l.map fun t => padTx (L + 1) ++ tx t) ++ (last ++ [10])
/-- What stands behind the first condition and its acts. -/
def restTx (ex ac : T → List UInt8) (L : Nat) : List T → List UInt8
  | [] => []
  | [x] => padTx L ++ ([69, 76, 83, 69, 10] ++ ac x)
  | x :: y :: l => padTx L ++ ([69, 76, 83, 73, 70, 32] ++ (ex x ++ ([32, 84, 72, 69, 78, 10] ++ (ac y ++ restTx ex ac L l))))
def wordTx (k : Int) : List UInt8 := if k = 20 then [78, 69, 87] else if k = 21 then [79, 85, 84] else if k = 22 then [71, 69, 84] else [65, 83, 83, 69, 82, 84]
def actTx : Nat → Nat → T → List UInt8
  | 0, _, _ => []
  | f + 1, L, t =>
    let acts := fun (u : T) => linesTx [59] [] (actTx f (L + 1)) L u.subs
    let s0 := subT t 0
    let s1 := subT t 1
    if t.kind = 14 then exprTx f s0 ++ ([32, 58, 61, 32] ++ exprTx f s1) else
    if t.kind = 15 then exprTx f s0 ++ (if 1 < t.subs.length then argsTx f (t.subs.drop 1) else []) else
    if t.kind = 16 then [73, 70, 32] ++ (exprTx f s0 ++ ([32, 84, 72, 69, 78, 10] ++ (acts s1 ++ (restTx (exprTx f) acts L (t.subs.drop 2) ++ (padTx L ++ [69, 78, 68]))))) else
    if t.kind = 17 then [87, 72, 73, 76, 69, 32] ++ (exprTx f s0 ++ ([32, 68, 79, 10] ++ (acts s1 ++ (padTx L ++ [69, 78, 68])))) else
    if t.kind = 18 then [82, 69, 80, 69, 65, 84, 10] ++ (acts s0 ++ (padTx L ++ ([85, 78, 84, 73, 76, 32] ++ exprTx f s1))) else
    if t.kind = 19 then [82, 69, 84, 85, 82, 78] ++ (if 0 < t.subs.length then 32 :: exprTx f s0 else []) else
    wordTx t.kind ++ (40 :: (exprTx f s0 ++ [41]))
def actsTx (f L : Nat) (l : List T) : List UInt8 := linesTx [59] [] (actTx f (L + 1)) L l
def typedTx (t : T) : List UInt8 := starTx t ++ ([58, 32] ++ nameTx (subT t 0))
def paramTx (t : T) : List UInt8 := (if t.num = 1 then [86, 65, 82, 32] else []) ++ (t.name ++ ([58, 32] ++ nameTx (subT t 0)))
def flatTx (tx : T → List UInt8) : List T → List UInt8
  | [] => []
  | t :: l => tx t ++ flatTx tx l
def typeTx (t : T) : List UInt8 :=
  if t.kind = 9 then [65, 82, 82, 65, 89, 32] ++ (numTx t.num ++ ([32, 79, 70, 32] ++ nameTx (subT t 0))) else
  if t.kind = 12 then [80, 79, 73, 78, 84, 69, 82, 32, 84, 79, 32] ++ nameTx (subT t 0) else
  [82, 69, 67, 79, 82, 68, 32] ++ ((if (subT t 0).kind = 0 then [] else 40 :: (nameTx (subT t 0) ++ [41, 32])) ++ (flatTx (fun x => typedTx x ++ [59, 32]) (t.subs.drop 1) ++ [69, 78, 68]))
def constTx (f : Nat) (t : T) : List UInt8 := starTx t ++ ([32, 61, 32] ++ exprTx f (subT t 0))
def namedTx (t : T) : List UInt8 := starTx t ++ ([32, 61, 32] ++ typeTx (subT t 0))
/-- A section's declarations below its word, if there are some. -/
def sectTx (word : List UInt8) (tx : T → List UInt8) (l : List T) : List UInt8 := if l.isEmpty then [] else word ++ (10 :: linesTx [59] [59] tx 0 l)
def VARw : List UInt8 := [86, 65, 82]
def procTx (f : Nat) (t : T) : List UInt8 :=
  let ps := (subT t 0).subs
  let r := subT t 1
  [80, 82, 79, 67, 69, 68, 85, 82, 69, 32] ++ (starTx t ++ ((if ps.isEmpty && r.kind == 0 then [] else 40 :: (sepTx [59, 32] (ps.map paramTx) ++ [41])) ++ ((if r.kind = 0 then [] else [58, 32] ++ nameTx r) ++ ([59, 10] ++
    (sectTx VARw typedTx (subT t 2).subs ++ ([66, 69, 71, 73, 78, 10] ++ (actsTx f 0 (subT t 3).subs ++ ([69, 78, 68, 32] ++ (t.name ++ [59, 10])))))))))
def importsTx (l : List T) : List UInt8 := if l.isEmpty then [] else [73, 77, 80, 79, 82, 84, 32] ++ (sepTx [44, 32] (l.map T.name) ++ [59, 10])
def moduleTx (f : Nat) (t : T) : List UInt8 :=
  [77, 79, 68, 85, 76, 69, 32] ++ (t.name ++ ([59, 10] ++ (importsTx (subT t 0).subs ++ (sectTx [67, 79, 78, 83, 84] (constTx f) (subT t 1).subs ++ (sectTx [84, 89, 80, 69] namedTx (subT t 2).subs ++ (sectTx VARw typedTx (subT t 3).subs ++
    (flatTx (procTx f) (subT t 4).subs ++ ((if (subT t 5).subs.isEmpty then [] else [66, 69, 71, 73, 78, 10] ++ actsTx f 0 (subT t 5).subs) ++ ([69, 78, 68, 32] ++ (t.name ++ [46, 10]))))))))))

/-! ### Lengths -/
theorem padTx_len (L : Nat) : (padTx L).length = 2 * L := by simp [padTx]
theorem sepTx_snoc (sep : List UInt8) (l : List (List UInt8)) (x : List UInt8) : sepTx sep (l ++ [x]) = sepTx sep l ++ ((if l.isEmpty then [] else sep) ++ x) := by
  induction l with
  | nil => simp [sepTx]
  | cons y l ih =>
    cases l with
    | nil => simp [sepTx]
    | cons z l =>
      have e : sepTx sep (y :: (z :: l ++ [x])) = y ++ (sep ++ sepTx sep (z :: l ++ [x])) := rfl
      rw [List.cons_append, e, ih]
      simp [sepTx]
/-- Each part so long at most. -/
theorem sepTx_len (sep : List UInt8) (tx : T → List UInt8) (c : Nat) (l : List T) (h : ∀ t ∈ l, (tx t).length + sep.length ≤ c * countT t) : (sepTx sep (l.map tx)).length ≤ c * countL l := by
  induction l with
  | nil => simp [sepTx]
  | cons t l ih =>
    have h1 := h t (by simp); have h2 := ih (fun u hu => h u (by simp [hu])); rw [countL, Nat.mul_add]; cases l with
    | nil => simp only [List.map_cons, List.map_nil, sepTx]; omega
    | cons z l =>
      have e : sepTx sep ((t :: z :: l).map tx) = tx t ++ (sep ++ sepTx sep ((z :: l).map tx)) := rfl
      rw [e]; simp only [List.length_append]
      omega
theorem flatTx_len (tx : T → List UInt8) (c : Nat) (l : List T) (h : ∀ t ∈ l, (tx t).length ≤ c * countT t) : (flatTx tx l).length ≤ c * countL l := by
  induction l with
  | nil => simp [flatTx]
  | cons t l ih =>
    have h1 := h t (by simp); have h2 := ih (fun u hu => h u (by simp [hu])); rw [countL, Nat.mul_add]; simp only [flatTx, List.length_append]
    omega
theorem flatTx_append (tx : T → List UInt8) (l m : List T) : flatTx tx (l ++ m) = flatTx tx l ++ flatTx tx m := by
  induction l with
  | nil => simp [flatTx]
  | cons t l ih => simp [flatTx, ih]
/-- Lines, as the document lays them: each with what stands behind it. -/
theorem lines_flat (sep : List UInt8) (tx : T → List UInt8) (L : Nat) (l : List T) : linesTx sep sep tx L l = flatTx (fun t => padTx (L + 1) ++ (tx t ++ (sep ++ [10]))) l := by
  unfold linesTx
  cases l with
  | nil => rfl
  | cons t l =>
    rw [if_neg (by simp)]
    induction l generalizing t with
    | nil => simp [sepTx, flatTx]
    | cons u l ih =>
      have e : sepTx (sep ++ [10]) ((t :: u :: l).map fun t => padTx (L + 1) ++ tx t) = (padTx (L + 1) ++ tx t) ++ ((sep ++ [10]) ++ sepTx (sep ++ [10]) ((u :: l).map fun t => padTx (L + 1) ++ tx t)) := rfl
      rw [e, flatTx, ← ih u]
      simp [List.append_assoc]
end Go.Proofs.YtapfecciakijhaaGreatDoor

/- The program's judge of shapes: what it holds in memory: parts still to be looked at, each with its rule. -/
namespace Go.Proofs.YtapfecciakijhaaGreatDoor
open Go.RowKit Go.Maps Go.WideMaps Go.WideElems

/-- The rules that are methods. -/
def ruleFn : Rule → Option Nat
  | .module => some 49
  | .imported => some 80
  | .procedure => some 85
  | .typeItself => some 83
  | .typeName => some 84
  | .typeNameOrNone => some 120
  | .ref => some 121
  | .act => some 86
  | .expression => some 82
  | .designator => some 119
  | _ => none

abbrev ptr (b : Nat) : Value := .pointer (some ⟨b, 0, none⟩)
/-- A rule as a value: a method of the judge, or a closure, whose variables lie in blocks of S. -/
inductive RV (w : World) (jb : Nat) (S : Nat → Prop) : Rule → Value → Prop
  | meth (r : Rule) (g : Nat) (h : ruleFn r = some g) : RV w jb S r (.func (.func g) #[ptr jb] #[])
  | list (r : Rule) (rv : Value) (b1 b2 : Nat) (s1 : S b1) (s2 : S b2) (c1 : w.cell? ⟨b1, 0, none⟩ = some (ptr jb)) (c2 : w.cell? ⟨b2, 0, none⟩ = some rv) (h : RV w jb S r rv) :
      RV w jb S (.list r) (.func (.func 114) #[] #[ptr b1, ptr b2])
  | declared (k m : Int) (r : Rule) (rv : Value) (b1 b2 b3 b4 : Nat) (s1 : S b1) (s2 : S b2) (s3 : S b3) (s4 : S b4) (c1 : w.cell? ⟨b1, 0, none⟩ = some (.int .i64 k)) (c2 : w.cell? ⟨b2, 0, none⟩ = some (ptr jb))
      (c3 : w.cell? ⟨b3, 0, none⟩ = some (.int .i64 m)) (c4 : w.cell? ⟨b4, 0, none⟩ = some rv) (h : RV w jb S r rv) :
      RV w jb S (.declared k m r) (.func (.func 117) #[] #[ptr b1, ptr b2, ptr b3, ptr b4])

/-- Blocks of S are as they were. -/
structure KB (S : Nat → Prop) (w w' : World) : Prop where
  os : w'.os = w.os
  tape : w'.tape = w.tape
  output : w'.output = w.output
  size : w.heap.size ≤ w'.heap.size
  block : ∀ k, k < w.heap.size → S k → w'.heap[k]? = w.heap[k]?
theorem KB.refl (S : Nat → Prop) (w : World) : KB S w w := ⟨rfl, rfl, rfl, Nat.le_refl _, fun _ _ _ => rfl⟩
theorem KB.trans {S S' : Nat → Prop} {w w1 w2 : World} (h1 : KB S w w1) (h2 : KB S' w1 w2) (hs : ∀ k, k < w.heap.size → S k → S' k) : KB S w w2 :=
  ⟨h2.os.trans h1.os, h2.tape.trans h1.tape, h2.output.trans h1.output, Nat.le_trans h1.size h2.size, fun k hk hS => (h2.block k (Nat.lt_of_lt_of_le hk h1.size) (hs k hk hS)).trans (h1.block k hk hS)⟩
theorem KB.of {S : Nat → Prop} {w w' : World} {row : Option Nat} (h : w.grownBy w' row) (hs : ∀ k, S k → some k ≠ row) : KB S w w' := ⟨h.os, h.tape, h.output, h.size, fun k hk hS => h.block k hk (hs k hS)⟩
theorem KB.cell {S : Nat → Prop} {w w' : World} {a : Addr} {v : Value} (hg : KB S w w') (h : w.cell? a = some v) (hs : S a.block) : w'.cell? a = some v := by
  have hb := hg.block a.block (block_lt h) hs
  unfold World.cell? at h ⊢
  rw [hb]
  exact h
theorem RV.kept {w w' : World} {jb : Nat} {S S' : Nat → Prop} {r : Rule} {v : Value} (h : RV w jb S r v) (hg : KB S w w') (hS : ∀ k, k < w.heap.size → S k → S' k) : RV w' jb S' r v := by
  induction h with
  | meth r g h => exact .meth r g h
  | list r rv b1 b2 s1 s2 c1 c2 h ih => exact .list r rv b1 b2 (hS _ (block_lt c1) s1) (hS _ (block_lt c2) s2) (hg.cell c1 s1) (hg.cell c2 s2) ih
  | declared k m r rv b1 b2 b3 b4 s1 s2 s3 s4 c1 c2 c3 c4 h ih => exact .declared k m r rv b1 b2 b3 b4 (hS _ (block_lt c1) s1) (hS _ (block_lt c2) s2) (hS _ (block_lt c3) s3) (hS _ (block_lt c4) s4) (hg.cell c1 s1) (hg.cell c2 s2) (hg.cell c3 s3) (hg.cell c4 s4) ih

/-- The cells of parts. -/
def flatP : List (T × Rule) → List Value → List Value → List Value
  | p :: l, sv :: svs, rv :: rvs => [.int .i64 p.1.kind, .string ⟨p.1.name.toArray⟩, .int .i64 p.1.num, .int .i64 p.1.at', sv, rv] ++ flatP l svs rvs
  | _, _, _ => []
theorem flatP_length : ∀ (l : List (T × Rule)) (svs rvs : List Value), svs.length = l.length → rvs.length = l.length → (flatP l svs rvs).length = l.length * 6
  | [], [], [], _, _ => rfl
  | p :: l, sv :: svs, rv :: rvs, h1, h2 => by
    have ih := flatP_length l svs rvs (by simpa using h1) (by simpa using h2); simp only [flatP, List.length_append, ih, List.length_cons, List.length_nil]
    omega
theorem flatP_append : ∀ (l : List (T × Rule)) (svs rvs : List Value) (m : List (T × Rule)) (svs' rvs' : List Value), svs.length = l.length → rvs.length = l.length → flatP (l ++ m) (svs ++ svs') (rvs ++ rvs') = flatP l svs rvs ++ flatP m svs' rvs'
  | [], [], [], _, _, _, _, _ => rfl
  | p :: l, sv :: svs, rv :: rvs, m, svs', rvs', h1, h2 => by
    have ih := flatP_append l svs rvs m svs' rvs' (by simpa using h1) (by simpa using h2); simp only [flatP, List.cons_append, ih, List.append_assoc]

end Go.Proofs.YtapfecciakijhaaGreatDoor

/- What trees that go by a rule look like, case by case; how long their texts can be. -/
namespace Go.Proofs.YtapfecciakijhaaGreatDoor

theorem only_yes {c : Bool} {l m : List (T × Rule)} (h : onlyIf c l = some m) : c = true ∧ l = m := by
  unfold onlyIf at h
  split at h
  · cases h; exact ⟨‹_›, rfl⟩
  · cases h
theorem head_parts {k k' : Int} {x : List UInt8} {m p : Int} {ts : List T} {most many : Int} {named : Bool} (h : headB (.mk k x m p ts) k' named most many = true) : k = k' ∧ 0 ≤ m ∧ m ≤ most ∧ (0 ≤ many → (ts.length : Int) = many) ∧ (named = true → nameB x = true) ∧ (named = false → x = []) := by
  unfold headB at h
  rw [Bool.and_eq_true, decide_eq_true_eq] at h; obtain ⟨⟨h1,h2,h3,h4⟩,h5⟩ := h; refine ⟨h1, h2, h3, h4, fun e => ?_, fun e => ?_⟩
  · subst e; simpa [T.name] using h5
  · subst e
    have : x.isEmpty = true := by simpa [T.name] using h5
    exact List.isEmpty_iff.1 this
theorem len0 {ts : List T} (h : (ts.length : Int) = 0) : ts = [] := List.eq_nil_of_length_eq_zero (by omega)
theorem len1 {ts : List T} (h : (ts.length : Int) = 1) : ∃ u, ts = [u] := List.length_eq_one_iff.1 (by omega)
theorem len2 {ts : List T} (h : (ts.length : Int) = 2) : ∃ u v, ts = [u, v] := by
  match ts, h with
  | [u, v], _ => exact ⟨u, v, rfl⟩
  | [], h => simp at h
  | [_], h => simp at h
  | _ :: _ :: _ :: l, h => simp at h; omega
theorem le1 {ts : List T} (h : ts.length ≤ 1) : ts = [] ∨ ∃ u, ts = [u] := by
  match ts, h with
  | [], _ => exact .inl rfl
  | [u], _ => exact .inr ⟨u, rfl⟩
  | _ :: _ :: l, h => simp at h
theorem all1 {u : T} {r : Rule} {l : List (T × Rule)} (e : zipR [u] [r] = l) (h : ∀ p ∈ l, Well p.2 p.1) : Well r u := by subst e; exact h (u, r) (by simp [zipR])
theorem all2 {u v : T} {r q : Rule} {l : List (T × Rule)} (e : zipR [u, v] [r, q] = l) (h : ∀ p ∈ l, Well p.2 p.1) : Well r u ∧ Well q v := by subst e; exact ⟨h (u, r) (by simp [zipR]), h (v, q) (by simp [zipR])⟩
theorem alle {us : List T} {r : Rule} {l : List (T × Rule)} (e : eachR us r = l) (h : ∀ p ∈ l, Well p.2 p.1) : ∀ u ∈ us, Well r u := by
  subst e; intro u hu
  exact h (u, r) (List.mem_map.2 ⟨u, hu, rfl⟩)
theorem allf {u : T} {us : List T} {k m p : Int} {x : List UInt8} {r q : Rule} {l : List (T × Rule)} (e : firstR (.mk k x m p (u :: us)) r q = l) (h : ∀ p ∈ l, Well p.2 p.1) : Well r u ∧ ∀ v ∈ us, Well q v := by
  subst e; refine ⟨h (u, r) (by simp [firstR, T.subs]), fun v hv => h (v, q) (List.mem_cons_of_mem _ (List.mem_map.2 ⟨v, hv, rfl⟩))⟩
theorem pos_cons {ts : List T} (h : 0 < ts.length) : ∃ u us, ts = u :: us := by
  match ts, h with
  | u :: us, _ => exact ⟨u, us, rfl⟩

/-- A name of a type. -/
inductive TN : T → Prop
  | plain (x : List UInt8) (p : Int) (h : nameB x = true) : TN (.mk 13 x 0 p [])
  | dot (x : List UInt8) (p : Int) (y : List UInt8) (q : Int) (h : nameB x = true) (hy : nameB y = true) : TN (.mk 13 x 0 p [.mk 24 y 0 q []])
theorem ref_of {t : T} (h : Well .ref t) : ∃ y q, t = .mk 24 y 0 q [] ∧ nameB y = true := by
  obtain ⟨_,hs,_⟩ := Well.iff.1 h; obtain ⟨_,x,m,p,_⟩ := t; obtain ⟨h1,_⟩ := only_yes hs; obtain ⟨rfl,_,_,c,d,_⟩ := head_parts h1
  obtain rfl : m = 0 := by omega
  obtain rfl := len0 (c (by omega))
  exact ⟨x, p, rfl, d rfl⟩
theorem tn_of' {t : T} {l : List (T × Rule)} (hs : typeNameR t = some l) (all : ∀ p ∈ l, Well p.2 p.1) : TN t := by
  obtain ⟨_,x,m,p,ts⟩ := t; obtain ⟨h1,h2⟩ := only_yes hs; rw [Bool.and_eq_true, decide_eq_true_eq] at h1; obtain ⟨rfl,_,_,_,d,_⟩ := head_parts h1.1
  obtain rfl : m = 0 := by omega
  have hq := alle h2 all
  rcases le1 h1.2 with e | ⟨u, e⟩
  · change ts = [] at e; subst e; exact .plain x p (d rfl)
  · change ts = [u] at e
    subst e; obtain ⟨y,q,rfl,hy⟩ := ref_of (hq u (by simp [T.subs]))
    exact .dot x p y q (d rfl) hy
theorem tn_of {t : T} (h : Well .typeName t) : TN t := by
  obtain ⟨_,hs,all⟩ := Well.iff.1 h
  exact tn_of' hs all
/-- .. or none. -/
theorem tno_of {t : T} (h : Well .typeNameOrNone t) : (∃ p, t = .mk 0 [] 0 p []) ∨ (t.kind = 13 ∧ TN t) := by
  obtain ⟨l,hs,all⟩ := Well.iff.1 h; obtain ⟨k,x,m,p,ts⟩ := t
  by_cases hk : k = 0
  · subst hk
    obtain ⟨h1,_⟩ := only_yes (show onlyIf _ _ = _ from hs); obtain ⟨_,_,_,c,_,d⟩ := head_parts h1
    obtain rfl : m = 0 := by omega
    obtain rfl := len0 (c (by omega)); obtain rfl := d rfl
    exact .inl ⟨p, rfl⟩
  · have hs' : typeNameR (.mk k x m p ts) = some l := by rw [← hs]; simp [stepR, T.kind, hk]
    have := tn_of' hs' all; refine .inr ⟨?_, this⟩
    cases this <;> rfl

/-- An expression. -/
inductive EX : T → Prop
  | ref (x : List UInt8) (p : Int) (h : nameB x = true) : EX (.mk 24 x 0 p [])
  | dot (x : List UInt8) (p : Int) (u : T) (h : nameB x = true) (hu : Well .designator u) : EX (.mk 25 x 0 p [u])
  | index (p : Int) (u v : T) (hu : Well .designator u) (hv : Well .expression v) : EX (.mk 26 [] 0 p [u, v])
  | deref (p : Int) (u : T) (hu : Well .designator u) : EX (.mk 27 [] 0 p [u])
  | guard (p : Int) (u v : T) (hu : Well .designator u) (hv : TN v) : EX (.mk 28 [] 0 p [u, v])
  | number (m p : Int) (h0 : 0 ≤ m) (h1 : m ≤ 2147483647) : EX (.mk 29 [] m p [])
  | word (k p : Int) (hk : k = 30 ∨ k = 31 ∨ k = 32) : EX (.mk k [] 0 p [])
  | call (p : Int) (u : T) (us : List T) (hu : Well .designator u) (hs : ∀ v ∈ us, Well .expression v) : EX (.mk 33 [] 0 p (u :: us))
  | one (k p : Int) (u : T) (hk : k = 34 ∨ k = 35) (hu : Well .expression u) : EX (.mk k [] 0 p [u])
  | is (p : Int) (u v : T) (hu : Well .expression u) (hv : TN v) : EX (.mk 37 [] 0 p [u, v])
  | op (x : List UInt8) (p : Int) (u v : T) (hx : 0 ≤ levelOf x) (hu : Well .expression u) (hv : Well .expression v) : EX (.mk 36 x 0 p [u, v])
theorem de_of' {k : Int} {x : List UInt8} {m p : Int} {ts : List T} {l : List (T × Rule)} (hs : designatorR (.mk k x m p ts) = some l) (all : ∀ p ∈ l, Well p.2 p.1) : EX (.mk k x m p ts) := by
  unfold designatorR at hs
  by_cases h90 : (T.mk k x m p ts).kind = 24
  · rw [if_pos h90] at hs
    obtain ⟨h1, -⟩ := only_yes hs; obtain ⟨rfl,a,b,c,d,_⟩ := head_parts h1
    obtain rfl : m = 0 := by omega
    obtain rfl := len0 (c (by omega))
    exact .ref x p (d rfl)
  rw [if_neg h90] at hs
  by_cases h91 : (T.mk k x m p ts).kind = 25
  · rw [if_pos h91] at hs
    obtain ⟨h1,h2⟩ := only_yes hs; obtain ⟨rfl,a,b,c,d,_⟩ := head_parts h1
    obtain rfl : m = 0 := by omega
    obtain ⟨u,rfl⟩ := len1 (c (by omega))
    exact .dot x p u (d rfl) (all1 h2 all)
  rw [if_neg h91] at hs
  by_cases h92 : (T.mk k x m p ts).kind = 26
  · rw [if_pos h92] at hs
    obtain ⟨h1,h2⟩ := only_yes hs; obtain ⟨rfl,a,b,c,_,d⟩ := head_parts h1
    obtain rfl : m = 0 := by omega
    obtain ⟨u,v,rfl⟩ := len2 (c (by omega)); obtain rfl := d rfl; obtain ⟨q1,q2⟩ := all2 h2 all
    exact .index p u v q1 q2
  rw [if_neg h92] at hs
  by_cases h93 : (T.mk k x m p ts).kind = 27
  · rw [if_pos h93] at hs
    obtain ⟨h1,h2⟩ := only_yes hs; obtain ⟨rfl,a,b,c,_,d⟩ := head_parts h1
    obtain rfl : m = 0 := by omega
    obtain ⟨u,rfl⟩ := len1 (c (by omega)); obtain rfl := d rfl
    exact .deref p u (all1 h2 all)
  rw [if_neg h93] at hs
  by_cases h94 : (T.mk k x m p ts).kind = 28
  · rw [if_pos h94] at hs
    obtain ⟨h1,h2⟩ := only_yes hs; obtain ⟨rfl,a,b,c,_,d⟩ := head_parts h1
    obtain rfl : m = 0 := by omega
    obtain ⟨u,v,rfl⟩ := len2 (c (by omega)); obtain rfl := d rfl; obtain ⟨q1,q2⟩ := all2 h2 all
    exact .guard p u v q1 (tn_of q2)
  · rw [if_neg h94] at hs
    cases hs
theorem de_of {t : T} (h : Well .designator t) : EX t := by
  obtain ⟨_,hs,all⟩ := Well.iff.1 h; obtain ⟨_,_,_,_,_⟩ := t
  exact de_of' hs all
theorem de_kind {t : T} (h : Well .designator t) : t.kind = 24 ∨ t.kind = 25 ∨ t.kind = 26 ∨ t.kind = 27 ∨ t.kind = 28 := by
  obtain ⟨l,hs,_⟩ := Well.iff.1 h
  change designatorR t = some l at hs
  unfold designatorR at hs
  by_cases h1 : t.kind = 24
  · exact .inl h1
  by_cases h2 : t.kind = 25
  · exact .inr (.inl h2)
  by_cases h3 : t.kind = 26
  · exact .inr (.inr (.inl h3))
  by_cases h4 : t.kind = 27
  · exact .inr (.inr (.inr (.inl h4)))
  by_cases h5 : t.kind = 28
  · exact .inr (.inr (.inr (.inr h5)))
  · simp [h1, h2, h3, h4, h5] at hs
theorem ex_of_de {t : T} (h : Well .designator t) : Well .expression t := by
  have hk := de_kind h; obtain ⟨l,hs,all⟩ := Well.iff.1 h; refine .mk l ?_ all; rw [← hs]
  show expressionR t = designatorR t
  unfold expressionR
  rcases hk with e | e | e | e | e <;> simp [e]
theorem ex_of {t : T} (h : Well .expression t) : EX t := by
  obtain ⟨l,hs,all⟩ := Well.iff.1 h; obtain ⟨k,x,m,p,ts⟩ := t
  change expressionR (.mk k x m p ts) = some l at hs
  unfold expressionR at hs
  by_cases h90 : (T.mk k x m p ts).kind = 29
  · rw [if_pos h90] at hs
    obtain ⟨h1, -⟩ := only_yes hs; obtain ⟨rfl,a,b,c,_,d⟩ := head_parts h1; obtain rfl := len0 (c (by omega)); obtain rfl := d rfl
    exact .number m p a b
  rw [if_neg h90] at hs
  by_cases h91 : (T.mk k x m p ts).kind = 30 ∨ (T.mk k x m p ts).kind = 31 ∨ (T.mk k x m p ts).kind = 32
  · rw [if_pos h91] at hs
    have hk : k = 30 ∨ k = 31 ∨ k = 32 := h91; obtain ⟨h1, -⟩ := only_yes hs; obtain ⟨-, a, b, c, _, d⟩ := head_parts h1
    obtain rfl : m = 0 := by omega
    obtain rfl := len0 (c (by omega)); obtain rfl := d rfl
    exact .word k p hk
  rw [if_neg h91] at hs
  by_cases h92 : (T.mk k x m p ts).kind = 33
  · rw [if_pos h92] at hs
    obtain ⟨h1,h2⟩ := only_yes hs; rw [Bool.and_eq_true, decide_eq_true_eq] at h1; obtain ⟨rfl,a,b,_,_,d⟩ := head_parts h1.1
    obtain rfl : m = 0 := by omega
    obtain ⟨u,us,rfl⟩ := pos_cons (ts := ts) h1.2; obtain rfl := d rfl; obtain ⟨q1,q2⟩ := allf h2 all
    exact .call p u us q1 q2
  rw [if_neg h92] at hs
  by_cases h93 : (T.mk k x m p ts).kind = 34 ∨ (T.mk k x m p ts).kind = 35
  · rw [if_pos h93] at hs
    have hk : k = 34 ∨ k = 35 := h93; obtain ⟨h1,h2⟩ := only_yes hs; obtain ⟨-, a, b, c, _, d⟩ := head_parts h1
    obtain rfl : m = 0 := by omega
    obtain ⟨u,rfl⟩ := len1 (c (by omega)); obtain rfl := d rfl
    exact .one k p u hk (all1 h2 all)
  rw [if_neg h93] at hs
  by_cases h94 : (T.mk k x m p ts).kind = 37
  · rw [if_pos h94] at hs
    obtain ⟨h1,h2⟩ := only_yes hs; obtain ⟨rfl,a,b,c,_,d⟩ := head_parts h1
    obtain rfl : m = 0 := by omega
    obtain ⟨u,v,rfl⟩ := len2 (c (by omega)); obtain rfl := d rfl; obtain ⟨q1,q2⟩ := all2 h2 all
    exact .is p u v q1 (tn_of q2)
  rw [if_neg h94] at hs
  by_cases h95 : (T.mk k x m p ts).kind = 36
  · rw [if_pos h95] at hs
    have hk : k = 36 := h95; subst hk; obtain ⟨h1,h2⟩ := only_yes hs; simp only [Bool.and_eq_true, beq_iff_eq, T.num, T.name, T.subs] at h1; obtain ⟨⟨hx,rfl⟩,_⟩ := h1; obtain ⟨u,v,rfl⟩ := len2 (ts := ts) (by omega); obtain ⟨q1,q2⟩ := all2 h2 all
    exact .op x p u v (of_decide_eq_true hx) q1 q2
  · rw [if_neg h95] at hs
    exact de_of' hs all
theorem lv_len {x : List UInt8} (h : 0 ≤ levelOf x) : x.length ≤ 3 := by
  unfold levelOf at h
  have key : ∀ xs : List (List UInt8), (∀ y ∈ xs, y.length ≤ 3) → inB xs x = true → x.length ≤ 3 := fun xs hx hb => hx x (by unfold inB at hb; simpa using hb)
  split at h
  · rename_i h1; exact key _ (by decide) h1
  split at h
  · rename_i h1; exact key _ (by decide) h1
  split at h
  · rename_i h1; exact key _ (by decide) h1
  · omega
theorem nameB_len {x : List UInt8} (h : nameB x = true) : x.length ≤ 12 := by
  rcases Nat.lt_or_ge 12 x.length with h9 | h9
  · have := shape_long ⟨x.toArray⟩ (by simpa [ByteArray.size] using h9)
    simp at this
    rw [h] at this; cases this
  · exact h9
theorem nameTx_len {t : T} (h : TN t) : (nameTx t).length ≤ 25 := by
  cases h with
  | plain x p h => have := nameB_len h; simp [nameTx, T.subs, T.name]; omega
  | dot x p y q h hy => have := nameB_len h; have := nameB_len hy; simp [nameTx, T.subs, T.name]; omega
theorem decTx_len : ∀ (f n : Nat), (decTx f n).length ≤ f := by
  intro f
  induction f with
  | zero => intro n; simp [decTx]
  | succ f ih => intro n; unfold decTx; split; · simp
                 · have := ih (n / 10); simp; omega
theorem numTx_len (n : Int) : (numTx n).length ≤ 11 := decTx_len 11 _
theorem countT_pos (t : T) : 1 ≤ countT t := by obtain ⟨_,_,_,_,_⟩ := t; rw [countT]; omega
theorem cnt1 (k : Int) (x : List UInt8) (m p : Int) (u : T) : countT (.mk k x m p [u]) = 1 + countT u := by rw [countT, countL, countL]; omega
theorem cnt2 (k : Int) (x : List UInt8) (m p : Int) (u v : T) : countT (.mk k x m p [u, v]) = 1 + countT u + countT v := by rw [countT, countL, countL, countL]; omega
theorem cntC (k : Int) (x : List UInt8) (m p : Int) (u : T) (us : List T) : countT (.mk k x m p (u :: us)) = 1 + countT u + countL us := by rw [countT, countL]; omega
theorem cnt0 (k : Int) (x : List UInt8) (m p : Int) : countT (.mk k x m p []) = 1 := by rw [countT, countL]
theorem expr_len : ∀ (f : Nat) (t : T), Well .expression t → (exprTx f t).length + 4 ≤ 40 * countT t := by
  intro f
  induction f with
  | zero => intro t _; have := countT_pos t; simp [exprTx]; omega
  | succ f ih =>
    intro t h; have H := ex_of h; clear h
    have hat : ∀ (u : T) (r : Int), Well .expression u → (if rankT u < r then 40 :: (exprTx f u ++ [41]) else exprTx f u).length + 2 ≤ 40 * countT u := by
      intro u r hu; have := ih u hu
      split
      · simp; omega
      · omega
    cases H with
    | ref x p h => have := nameB_len h; rw [cnt0]; simp [exprTx, T.kind, T.name]; omega
    | dot x p u h hu => have := nameB_len h; have := ih u (ex_of_de hu); rw [cnt1]; simp [exprTx, T.kind, T.name, subT, T.subs]; omega
    | index p u v hu hv => have := ih u (ex_of_de hu); have := ih v hv; rw [cnt2]; simp [exprTx, T.kind, subT, T.subs]; omega
    | deref p u hu => have := ih u (ex_of_de hu); rw [cnt1]; simp [exprTx, T.kind, subT, T.subs]; omega
    | guard p u v hu hv => have := ih u (ex_of_de hu); have := nameTx_len hv; have := countT_pos v; rw [cnt2]; simp [exprTx, T.kind, subT, T.subs]; omega
    | number m p h0 h1 => have := numTx_len m; rw [cnt0]; simp [exprTx, T.kind, T.num]; omega
    | word k p hk => rw [cnt0]; rcases hk with rfl | rfl | rfl <;> simp [exprTx, T.kind]
    | call p u us hu hs =>
      have := ih u (ex_of_de hu); have h2 := sepTx_len [44, 32] (exprTx f) 40 us (fun v hv => by have := ih v (hs v hv); simp; omega); rw [cntC]
      have e : exprTx (f + 1) (.mk 33 [] 0 p (u :: us)) = exprTx f u ++ (40 :: (sepTx [44, 32] (us.map (exprTx f)) ++ [41])) := by simp [exprTx, T.kind, subT, T.subs]
      rw [e]
      simp
      omega
    | one k p u hk hu =>
      have h3 := hat u 3 hu; have h2 := hat u 2 hu; rw [cnt1]
      rcases hk with rfl | rfl
      · have e : exprTx (f + 1) (.mk 34 [] 0 p [u]) = 126 :: (if rankT u < 3 then 40 :: (exprTx f u ++ [41]) else exprTx f u) := by simp [exprTx, T.kind, subT, T.subs]
        rw [e, List.length_cons]; omega
      · have e : exprTx (f + 1) (.mk 35 [] 0 p [u]) = 45 :: (if rankT u < 2 then 40 :: (exprTx f u ++ [41]) else exprTx f u) := by simp [exprTx, T.kind, subT, T.subs]
        rw [e, List.length_cons]; omega
    | is p u v hu hv =>
      have h1 := hat u 1 hu; have := nameTx_len hv; have := countT_pos v; rw [cnt2]
      have e : exprTx (f + 1) (.mk 37 [] 0 p [u, v]) = (if rankT u < 1 then 40 :: (exprTx f u ++ [41]) else exprTx f u) ++ ([32, 73, 83, 32] ++ nameTx v) := by simp [exprTx, T.kind, subT, T.subs]
      rw [e]; simp only [List.length_append, List.length_cons, List.length_nil]
      omega
    | op x p u v hx hu hv =>
      have h1 := hat u (if levelOf x = 2 then 2 else 1) hu; have h2 := hat v (if levelOf x = 1 then 2 else if levelOf x = 2 then 3 else 1) hv; have h3 := lv_len hx; rw [cnt2]
      have e : exprTx (f + 1) (.mk 36 x 0 p [u, v]) = (if rankT u < (if levelOf x = 2 then 2 else 1) then 40 :: (exprTx f u ++ [41]) else exprTx f u) ++ (32 :: (x ++ (32 :: (if rankT v < (if levelOf x = 1 then 2 else if levelOf x = 2 then 3 else 1) then 40 :: (exprTx f v ++ [41]) else exprTx f v)))) := by simp [exprTx, T.kind, subT, T.subs, T.name]; rfl
      rw [e]; simp only [List.length_append, List.length_cons]
      omega
end Go.Proofs.YtapfecciakijhaaGreatDoor

/- What trees that go by a rule look like: acts, types, declarations, procedures, modules; how long their texts can be. -/
namespace Go.Proofs.YtapfecciakijhaaGreatDoor

/-- A list of nodes that go by a rule. -/
theorem list_of {r : Rule} {t : T} (h : Well (.list r) t) : ∃ p us, t = .mk 1 [] 0 p us ∧ ∀ u ∈ us, Well r u := by
  obtain ⟨_,hs,all⟩ := Well.iff.1 h; obtain ⟨_,_,m,p,ts⟩ := t; obtain ⟨h1,h2⟩ := only_yes (show onlyIf _ _ = _ from hs); obtain ⟨rfl,_,_,_,_,d⟩ := head_parts h1
  obtain rfl : m = 0 := by omega
  obtain rfl := d rfl
  exact ⟨p, ts, rfl, alle h2 all⟩
/-- Conditions and lists in turn. -/
inductive Turns : List T → Prop
  | nil : Turns []
  | one (x : T) (h : Well (.list .act) x) : Turns [x]
  | more (x y : T) (l : List T) (hx : Well .expression x) (hy : Well (.list .act) y) (h : Turns l) : Turns (x :: y :: l)
theorem turns_of : ∀ (us : List T), (∀ p ∈ turnR us, Well p.2 p.1) → Turns us
  | [], _ => .nil
  | [x], h => .one x (h (x, .list .act) (by simp [turnR]))
  | x :: y :: l, h => .more x y l (h (x, .expression) (by simp [turnR])) (h (y, .list .act) (by simp [turnR])) (turns_of l (fun p hp => h p (by simp [turnR, hp])))
/-- An act. -/
inductive AC : T → Prop
  | assign (p : Int) (u v : T) (hu : Well .designator u) (hv : Well .expression v) : AC (.mk 14 [] 0 p [u, v])
  | call (p : Int) (u : T) (us : List T) (hu : Well .designator u) (hs : ∀ v ∈ us, Well .expression v) : AC (.mk 15 [] 0 p (u :: us))
  | choice (m p : Int) (u v : T) (us : List T) (hm : m = (us.length : Int) % 2) (hu : Well .expression u) (hv : Well (.list .act) v) (hs : Turns us) : AC (.mk 16 [] m p (u :: v :: us))
  | loop (p : Int) (u v : T) (hu : Well .expression u) (hv : Well (.list .act) v) : AC (.mk 17 [] 0 p [u, v])
  | rept (p : Int) (u v : T) (hu : Well (.list .act) u) (hv : Well .expression v) : AC (.mk 18 [] 0 p [u, v])
  | ret0 (p : Int) : AC (.mk 19 [] 0 p [])
  | ret1 (p : Int) (u : T) (hu : Well .expression u) : AC (.mk 19 [] 0 p [u])
  | word (k p : Int) (u : T) (hk : k = 20 ∨ k = 21 ∨ k = 22 ∨ k = 23) (hu : Well .expression u) : AC (.mk k [] 0 p [u])
theorem ac_of {t : T} (h : Well .act t) : AC t := by
  obtain ⟨l,hs,all⟩ := Well.iff.1 h; obtain ⟨k,x,m,p,ts⟩ := t
  change actR (.mk k x m p ts) = some l at hs
  unfold actR at hs
  by_cases h90 : (T.mk k x m p ts).kind = 16
  · rw [if_pos h90] at hs
    have hk : k = 16 := h90; subst hk; obtain ⟨h1,h2⟩ := only_yes hs; simp only [Bool.and_eq_true, T.num, T.name, T.subs, List.isEmpty_iff] at h1; obtain ⟨⟨rfl,hl⟩,hm⟩ := h1
    match ts, hl, hm, h2 with
    | u :: v :: us, hl, hm, h2 =>
      have ht := turns_of (u :: v :: us) (by intro q hq; exact all q (h2 ▸ hq)); cases ht with
      | more _ _ _ hx hy ht => exact .choice m p u v us (by have hm2 := of_decide_eq_true hm; simp only [List.length_cons] at hm2; omega) hx hy ht
  rw [if_neg h90] at hs
  by_cases h91 : (T.mk k x m p ts).kind = 14
  · rw [if_pos h91] at hs
    obtain ⟨h1,h2⟩ := only_yes hs; obtain ⟨rfl,a,b,c,_,d⟩ := head_parts h1
    obtain rfl : m = 0 := by omega
    obtain ⟨u,v,rfl⟩ := len2 (c (by omega)); obtain rfl := d rfl; obtain ⟨q1,q2⟩ := all2 h2 all
    exact .assign p u v q1 q2
  rw [if_neg h91] at hs
  by_cases h92 : (T.mk k x m p ts).kind = 15
  · rw [if_pos h92] at hs
    obtain ⟨h1,h2⟩ := only_yes hs; rw [Bool.and_eq_true, decide_eq_true_eq] at h1; obtain ⟨rfl,a,b,_,_,d⟩ := head_parts h1.1
    obtain rfl : m = 0 := by omega
    obtain ⟨u,us,rfl⟩ := pos_cons (ts := ts) h1.2; obtain rfl := d rfl; obtain ⟨q1,q2⟩ := allf h2 all
    exact .call p u us q1 q2
  rw [if_neg h92] at hs
  by_cases h93 : (T.mk k x m p ts).kind = 17
  · rw [if_pos h93] at hs
    obtain ⟨h1,h2⟩ := only_yes hs; obtain ⟨rfl,a,b,c,_,d⟩ := head_parts h1
    obtain rfl : m = 0 := by omega
    obtain ⟨u,v,rfl⟩ := len2 (c (by omega)); obtain rfl := d rfl; obtain ⟨q1,q2⟩ := all2 h2 all
    exact .loop p u v q1 q2
  rw [if_neg h93] at hs
  by_cases h94 : (T.mk k x m p ts).kind = 18
  · rw [if_pos h94] at hs
    obtain ⟨h1,h2⟩ := only_yes hs; obtain ⟨rfl,a,b,c,_,d⟩ := head_parts h1
    obtain rfl : m = 0 := by omega
    obtain ⟨u,v,rfl⟩ := len2 (c (by omega)); obtain rfl := d rfl; obtain ⟨q1,q2⟩ := all2 h2 all
    exact .rept p u v q1 q2
  rw [if_neg h94] at hs
  by_cases h95 : (T.mk k x m p ts).kind = 19
  · rw [if_pos h95] at hs
    obtain ⟨h1,h2⟩ := only_yes hs; rw [Bool.and_eq_true, decide_eq_true_eq] at h1; obtain ⟨rfl,a,b,_,_,d⟩ := head_parts h1.1
    obtain rfl : m = 0 := by omega
    obtain rfl := d rfl; have hq := alle h2 all
    rcases le1 h1.2 with e | ⟨u, e⟩
    · change ts = [] at e; subst e; exact .ret0 p
    · change ts = [u] at e; subst e; exact .ret1 p u (hq u (by simp [T.subs]))
  rw [if_neg h95] at hs
  by_cases h96 : (T.mk k x m p ts).kind = 20 ∨ (T.mk k x m p ts).kind = 22
  · rw [if_pos h96] at hs
    have hk : k = 20 ∨ k = 22 := h96; obtain ⟨h1,h2⟩ := only_yes hs; obtain ⟨-, a, b, c, _, d⟩ := head_parts h1
    obtain rfl : m = 0 := by omega
    obtain ⟨u,rfl⟩ := len1 (c (by omega)); obtain rfl := d rfl
    exact .word k p u (by rcases hk with h | h <;> simp [h]) (ex_of_de (all1 h2 all))
  rw [if_neg h96] at hs
  by_cases h97 : (T.mk k x m p ts).kind = 21 ∨ (T.mk k x m p ts).kind = 23
  · rw [if_pos h97] at hs
    have hk : k = 21 ∨ k = 23 := h97; obtain ⟨h1,h2⟩ := only_yes hs; obtain ⟨-, a, b, c, _, d⟩ := head_parts h1
    obtain rfl : m = 0 := by omega
    obtain ⟨u,rfl⟩ := len1 (c (by omega)); obtain rfl := d rfl
    exact .word k p u (by rcases hk with h | h <;> simp [h]) (all1 h2 all)
  · rw [if_neg h97] at hs
    cases hs
/-- What is declared: a name, a number, one node below. -/
theorem decl_of {k most : Int} {r : Rule} {t : T} (h : Well (.declared k most r) t) : ∃ x m p u, t = .mk k x m p [u] ∧ nameB x = true ∧ 0 ≤ m ∧ m ≤ most ∧ Well r u := by
  obtain ⟨_,hs,all⟩ := Well.iff.1 h; obtain ⟨k', x, m, p, ts⟩ := t; obtain ⟨h1,h2⟩ := only_yes (show onlyIf _ _ = _ from hs); obtain ⟨rfl,a,b,c,d,_⟩ := head_parts h1; obtain ⟨u,rfl⟩ := len1 (c (by omega))
  exact ⟨x, m, p, u, rfl, d rfl, a, b, all1 h2 all⟩
/-- A type itself. -/
inductive TY : T → Prop
  | array (m p : Int) (u : T) (h0 : 0 ≤ m) (h1 : m ≤ 2147483647) (hu : TN u) : TY (.mk 9 [] m p [u])
  | pointer (p : Int) (u : T) (hu : TN u) : TY (.mk 12 [] 0 p [u])
  | record (p : Int) (u : T) (us : List T) (hu : (∃ q, u = .mk 0 [] 0 q []) ∨ (u.kind = 13 ∧ TN u)) (hs : ∀ v ∈ us, Well (.declared 11 1 .typeName) v) : TY (.mk 10 [] 0 p (u :: us))
theorem ty_of {t : T} (h : Well .typeItself t) : TY t := by
  obtain ⟨_,hs,all⟩ := Well.iff.1 h; obtain ⟨k,x,m,p,ts⟩ := t; simp only [stepR] at hs
  by_cases h90 : (T.mk k x m p ts).kind = 9
  · rw [if_pos h90] at hs
    obtain ⟨h1,h2⟩ := only_yes hs; obtain ⟨rfl,a,b,c,_,d⟩ := head_parts h1; obtain ⟨u,rfl⟩ := len1 (c (by omega)); obtain rfl := d rfl
    exact .array m p u a b (tn_of (all1 h2 all))
  rw [if_neg h90] at hs
  by_cases h91 : (T.mk k x m p ts).kind = 12
  · rw [if_pos h91] at hs
    obtain ⟨h1,h2⟩ := only_yes hs; obtain ⟨rfl,a,b,c,_,d⟩ := head_parts h1
    obtain rfl : m = 0 := by omega
    obtain ⟨u,rfl⟩ := len1 (c (by omega)); obtain rfl := d rfl
    exact .pointer p u (tn_of (all1 h2 all))
  rw [if_neg h91] at hs
  by_cases h92 : (T.mk k x m p ts).kind = 10
  · rw [if_pos h92] at hs
    obtain ⟨h1,h2⟩ := only_yes hs; rw [Bool.and_eq_true, decide_eq_true_eq] at h1; obtain ⟨rfl,a,b,_,_,d⟩ := head_parts h1.1
    obtain rfl : m = 0 := by omega
    obtain ⟨u,us,rfl⟩ := pos_cons (ts := ts) h1.2; obtain rfl := d rfl; obtain ⟨q1,q2⟩ := allf h2 all
    exact .record p u us (tno_of q1) q2
  · rw [if_neg h92] at hs
    cases hs
theorem imp_of {t : T} (h : Well .imported t) : ∃ x p, t = .mk 3 x 0 p [] ∧ nameB x = true := by
  obtain ⟨_,hs,_⟩ := Well.iff.1 h; obtain ⟨_,x,m,p,_⟩ := t; obtain ⟨h1,_⟩ := only_yes (show onlyIf _ _ = _ from hs); obtain ⟨rfl,_,_,c,d,_⟩ := head_parts h1
  obtain rfl : m = 0 := by omega
  obtain rfl := len0 (c (by omega))
  exact ⟨x, p, rfl, d rfl⟩
theorem len4 {ts : List T} (h : (ts.length : Int) = 4) : ∃ a b c d, ts = [a, b, c, d] := by
  match ts, h with
  | [a, b, c, d], _ => exact ⟨a, b, c, d, rfl⟩
  | [], h => simp at h
  | [_], h => simp at h
  | [_, _], h => simp at h
  | [_, _, _], h => simp at h
  | _ :: _ :: _ :: _ :: _ :: l, h => simp at h; omega
theorem len6 {ts : List T} (h : (ts.length : Int) = 6) : ∃ a b c d e f, ts = [a, b, c, d, e, f] := by
  match ts, h with
  | [a, b, c, d, e, f], _ => exact ⟨a, b, c, d, e, f, rfl⟩
  | [], h => simp at h
  | [_], h => simp at h
  | [_, _], h => simp at h
  | [_, _, _], h => simp at h
  | [_, _, _, _], h => simp at h
  | [_, _, _, _, _], h => simp at h
  | _ :: _ :: _ :: _ :: _ :: _ :: _ :: l, h => simp at h; omega
theorem proc_of {t : T} (h : Well .procedure t) : ∃ x m p ps rs vs bs, t = .mk 7 x m p [ps, rs, vs, bs] ∧ nameB x = true ∧ 0 ≤ m ∧ m ≤ 1 ∧ Well (.list (.declared 8 1 .typeName)) ps ∧ ((∃ q, rs = .mk 0 [] 0 q []) ∨ (rs.kind = 13 ∧ TN rs)) ∧ Well (.list (.declared 6 0 .typeName)) vs ∧ Well (.list .act) bs := by
  obtain ⟨_,hs,all⟩ := Well.iff.1 h; obtain ⟨_,x,m,p,_⟩ := t; obtain ⟨h1,h2⟩ := only_yes (show onlyIf _ _ = _ from hs); obtain ⟨rfl,a,b,c,d,_⟩ := head_parts h1; obtain ⟨ps,rs,vs,bs,rfl⟩ := len4 (c (by omega)); subst h2
  exact ⟨x, m, p, ps, rs, vs, bs, rfl, d rfl, a, b, all (ps, _) (by simp [zipR, T.subs]), tno_of (all (rs, .typeNameOrNone) (by simp [zipR, T.subs])), all (vs, _) (by simp [zipR, T.subs]), all (bs, .list .act) (by simp [zipR, T.subs])⟩
theorem mod_of {t : T} (h : Well .module t) : ∃ x p is cs ts vs ps bs, t = .mk 2 x 0 p [is, cs, ts, vs, ps, bs] ∧ nameB x = true ∧ Well (.list .imported) is ∧ Well (.list (.declared 4 1 .expression)) cs ∧ Well (.list (.declared 5 1 .typeItself)) ts ∧ Well (.list (.declared 6 1 .typeName)) vs ∧ Well (.list .procedure) ps ∧ Well (.list .act) bs := by
  obtain ⟨_,hs,all⟩ := Well.iff.1 h; obtain ⟨_,x,m,p,_⟩ := t; obtain ⟨h1,h2⟩ := only_yes (show onlyIf _ _ = _ from hs); obtain ⟨rfl,_,_,c,d,_⟩ := head_parts h1
  obtain rfl : m = 0 := by omega
  obtain ⟨is,cs,ts,vs,ps,bs,rfl⟩ := len6 (c (by omega)); subst h2
  exact ⟨x, p, is, cs, ts, vs, ps, bs, rfl, d rfl, all (is, .list .imported) (by simp [zipR, T.subs]), all (cs, .list (.declared 4 1 .expression)) (by simp [zipR, T.subs]), all (ts, .list (.declared 5 1 .typeItself)) (by simp [zipR, T.subs]), all (vs, .list (.declared 6 1 .typeName)) (by simp [zipR, T.subs]), all (ps, .list .procedure) (by simp [zipR, T.subs]), all (bs, .list .act) (by simp [zipR, T.subs])⟩

/-! ### Lengths -/
theorem starTx_len {t : T} (h : nameB t.name = true) : (starTx t).length ≤ 13 := by
  have := nameB_len h
  unfold starTx
  split <;> simp <;> omega
theorem lines_len (sep last : List UInt8) (tx : T → List UInt8) (L c : Nat) (l : List T) (h1 : last.length ≤ sep.length) (h : ∀ t ∈ l, (tx t).length + (2 * L + 2 + sep.length + 1) ≤ c * countT t) : (linesTx sep last tx L l).length ≤ c * countL l + sep.length + 1 := by
  unfold linesTx
  split
  · simp
  · have := sepTx_len (sep ++ [10]) (fun t => padTx (L + 1) ++ tx t) c l (fun t ht => by have := h t ht; simp [padTx_len]; omega)
    simp only [List.length_append, List.length_cons, List.length_nil]
    omega
theorem depth_mem {l : List T} {u : T} (h : u ∈ l) : depthT u ≤ depthL l := by
  induction l with
  | nil => cases h
  | cons t l ih =>
    rw [depthL]
    rcases List.mem_cons.1 h with rfl | h
    · exact Nat.le_max_left _ _
    · exact Nat.le_trans (ih h) (Nat.le_max_right _ _)
/-- An act's text, by how deep it stands: no more than so long. -/
theorem act_len : ∀ (f L : Nat) (t : T), f + L ≤ 100 → Well .act t → (actTx f L t).length + 210 ≤ 700 * countT t := by
  intro f
  induction f with
  | zero => intro L t _ _; have := countT_pos t; simp [actTx]; omega
  | succ f ih =>
    intro L t hL h; have H := ac_of h; clear h; have hpad := padTx_len L
    have acts : ∀ u, Well (.list .act) u → (linesTx [59] [] (actTx f (L + 1)) L u.subs).length + 300 ≤ 700 * countT u := by
      intro u hu; obtain ⟨p,us,rfl,hw⟩ := list_of hu; have := lines_len [59] [] (actTx f (L + 1)) L 700 us (by simp) (fun t ht => by have := ih (L + 1) t (by omega) (hw t ht); simp; omega); rw [countT]; simp only [List.length_cons, List.length_nil] at this; simp only [T.subs]
      omega
    have rest : ∀ us, Turns us → (restTx (exprTx f) (fun u => linesTx [59] [] (actTx f (L + 1)) L u.subs) L us).length ≤ 700 * countL us := by
      intro us hus
      induction hus with
      | nil => simp [restTx]
      | one x hx => have := acts x hx; simp only [restTx, countL, List.length_append, List.length_cons, List.length_nil]; omega
      | more x y l hx hy _ ihl =>
        have := acts y hy; have := expr_len f x hx; simp only [restTx, countL, List.length_append, List.length_cons, List.length_nil]
        omega
    cases H with
    | assign p u v hu hv =>
      have := expr_len f u (ex_of_de hu); have := expr_len f v hv; rw [cnt2]; simp [actTx, T.kind, subT, T.subs]; omega
    | call p u us hu hs =>
      have := expr_len f u (ex_of_de hu); have h2 := sepTx_len [44, 32] (exprTx f) 40 us (fun v hv => by have := expr_len f v (hs v hv); simp; omega); rw [cntC]
      have e : actTx (f + 1) L (.mk 15 [] 0 p (u :: us)) = exprTx f u ++ (if 1 < (u :: us).length then argsTx f us else []) := by simp [actTx, T.kind, subT, T.subs]
      rw [e]
      unfold argsTx
      split <;> simp <;> omega
    | choice m p u v us hm hu hv hs =>
      have := expr_len f u hu; have := acts v hv; have := rest us hs
      have e : actTx (f + 1) L (.mk 16 [] m p (u :: v :: us)) = [73, 70, 32] ++ (exprTx f u ++ ([32, 84, 72, 69, 78, 10] ++ (linesTx [59] [] (actTx f (L + 1)) L v.subs ++ (restTx (exprTx f) (fun u => linesTx [59] [] (actTx f (L + 1)) L u.subs) L us ++ (padTx L ++ [69, 78, 68]))))) := by simp [actTx, T.kind, subT, T.subs]
      rw [e, cntC, countL]; simp only [List.length_append, List.length_cons, List.length_nil]
      omega
    | loop p u v hu hv =>
      have := expr_len f u hu; have := acts v hv
      have e : actTx (f + 1) L (.mk 17 [] 0 p [u, v]) = [87, 72, 73, 76, 69, 32] ++ (exprTx f u ++ ([32, 68, 79, 10] ++ (linesTx [59] [] (actTx f (L + 1)) L v.subs ++ (padTx L ++ [69, 78, 68])))) := by simp [actTx, T.kind, subT, T.subs]
      rw [e, cnt2]; simp only [List.length_append, List.length_cons, List.length_nil]
      omega
    | rept p u v hu hv =>
      have := expr_len f v hv; have := acts u hu
      have e : actTx (f + 1) L (.mk 18 [] 0 p [u, v]) = [82, 69, 80, 69, 65, 84, 10] ++ (linesTx [59] [] (actTx f (L + 1)) L u.subs ++ (padTx L ++ ([85, 78, 84, 73, 76, 32] ++ exprTx f v))) := by simp [actTx, T.kind, subT, T.subs]
      rw [e, cnt2]; simp only [List.length_append, List.length_cons, List.length_nil]
      omega
    | ret0 p => rw [cnt0]; simp [actTx, T.kind, T.subs]
    | ret1 p u hu => have := expr_len f u hu; rw [cnt1]; simp [actTx, T.kind, subT, T.subs]; omega
    | word k p u hk hu =>
      have := expr_len f u hu; rw [cnt1]
      have e : actTx (f + 1) L (.mk k [] 0 p [u]) = wordTx k ++ (40 :: (exprTx f u ++ [41])) := by rcases hk with rfl | rfl | rfl | rfl <;> simp [actTx, T.kind, subT, T.subs]
      have hw : (wordTx k).length ≤ 6 := by unfold wordTx; (repeat' split) <;> simp
      rw [e]; simp only [List.length_append, List.length_cons, List.length_nil]
      omega
end Go.Proofs.YtapfecciakijhaaGreatDoor

/- What a rule puts down are the nodes right below, all of them: so nodes are counted. -/
namespace Go.Proofs.YtapfecciakijhaaGreatDoor

theorem zip_fst : ∀ (ts : List T) (rs : List Rule), ts.length = rs.length → (zipR ts rs).map (·.1) = ts
  | [], [], _ => rfl
  | [], _ :: _, h => by simp at h
  | _ :: _, [], h => by simp at h
  | t :: ts, r :: rs, h => by simp only [zipR, List.map_cons, zip_fst ts rs (by simpa using h)]
theorem each_fst (ts : List T) (r : Rule) : (eachR ts r).map (·.1) = ts := by unfold eachR; rw [List.map_map]; exact List.map_id _
theorem turn_fst : ∀ ts : List T, (turnR ts).map (·.1) = ts
  | [] => rfl
  | [_] => rfl
  | _ :: _ :: ts => by simp only [turnR, List.map_cons, turn_fst ts]
theorem first_fst {t : T} {r q : Rule} : (firstR t r q).map (·.1) = t.subs := by
  unfold firstR
  cases h : t.subs with
  | nil => rfl
  | cons u ts => simp only [List.map_cons, each_fst]
theorem only_some {c : Bool} {l m : List (T × Rule)} (h : onlyIf c l = some m) : c = true ∧ m = l := by
  unfold onlyIf at h
  split at h
  · rename_i hc; cases h; exact ⟨hc, rfl⟩
  · cases h
theorem head_len' {t : T} {k most : Int} {named : Bool} {n : Nat} (h : headB t k named most n = true) : t.subs.length = n := by
  unfold headB at h
  simp at h
  omega
theorem zip_case {t : T} {k most : Int} {named : Bool} {n : Nat} {rs : List Rule} {m : List (T × Rule)} (hn : n = rs.length) (h : onlyIf (headB t k named most n) (zipR t.subs rs) = some m) : m.map (·.1) = t.subs := by
  obtain ⟨hc,rfl⟩ := only_some h
  exact zip_fst _ _ ((head_len' hc).trans hn)
theorem nil_case {t : T} {k most : Int} {named : Bool} {m : List (T × Rule)} (h : onlyIf (headB t k named most 0) [] = some m) : m.map (·.1) = t.subs := by
  obtain ⟨hc,rfl⟩ := only_some h; have := head_len' (n := 0) hc; rw [List.eq_nil_of_length_eq_zero this]
  rfl
theorem desig_fst {t : T} {m : List (T × Rule)} (h : designatorR t = some m) : m.map (·.1) = t.subs := by
  unfold designatorR at h
  repeat' split at h
  · exact nil_case h
  · exact zip_case (n := 1) rfl h
  · exact zip_case (n := 2) rfl h
  · exact zip_case (n := 1) rfl h
  · exact zip_case (n := 2) rfl h
  · cases h
theorem expr_fst {t : T} {m : List (T × Rule)} (h : expressionR t = some m) : m.map (·.1) = t.subs := by
  unfold expressionR at h
  repeat' split at h
  · exact nil_case h
  · exact nil_case h
  · obtain ⟨_,rfl⟩ := only_some h; exact first_fst
  · exact zip_case (n := 1) rfl h
  · exact zip_case (n := 2) rfl h
  · obtain ⟨hc,rfl⟩ := only_some h
    simp at hc
    exact zip_fst _ _ hc.2
  · exact desig_fst h
theorem act_fst {t : T} {m : List (T × Rule)} (h : actR t = some m) : m.map (·.1) = t.subs := by
  unfold actR at h
  repeat' split at h
  · obtain ⟨_,rfl⟩ := only_some h; exact turn_fst _
  · exact zip_case (n := 2) rfl h
  · obtain ⟨_,rfl⟩ := only_some h; exact first_fst
  · exact zip_case (n := 2) rfl h
  · exact zip_case (n := 2) rfl h
  · obtain ⟨_,rfl⟩ := only_some h; exact each_fst _ _
  · exact zip_case (n := 1) rfl h
  · exact zip_case (n := 1) rfl h
  · cases h
theorem typeName_fst {t : T} {m : List (T × Rule)} (h : typeNameR t = some m) : m.map (·.1) = t.subs := by
  obtain ⟨_,rfl⟩ := only_some h; exact each_fst _ _
theorem step_fst {r : Rule} {t : T} {m : List (T × Rule)} (h : stepR r t = some m) : m.map (·.1) = t.subs := by
  cases r with
  | module => exact zip_case (n := 6) rfl h
  | imported => exact nil_case h
  | procedure => exact zip_case (n := 4) rfl h
  | typeItself =>
    simp only [stepR] at h
    repeat' split at h
    · exact zip_case (n := 1) rfl h
    · exact zip_case (n := 1) rfl h
    · obtain ⟨_,rfl⟩ := only_some h; exact first_fst
    · cases h
  | typeName => exact typeName_fst h
  | typeNameOrNone =>
    simp only [stepR] at h
    split at h
    · exact nil_case h
    · exact typeName_fst h
  | ref => exact nil_case h
  | act => exact act_fst h
  | expression => exact expr_fst h
  | designator => exact desig_fst h
  | list r => obtain ⟨_,rfl⟩ := only_some h; exact each_fst _ _
  | declared k m' r => exact zip_case (n := 1) rfl h
theorem countP_append (l m : List (T × Rule)) : countP (l ++ m) = countP l + countP m := by unfold countP; rw [List.map_append, countL_append]
theorem countT_eq (t : T) : countT t = 1 + countL t.subs := by obtain ⟨_,_,_,_,_⟩ := t; rw [countT]; rfl
theorem step_count {r : Rule} {t : T} {l m : List (T × Rule)} (h : stepR r t = some m) : countP (l ++ [(t, r)]) = countP (l ++ m) + 1 := by
  rw [countP_append, countP_append]
  have h1 : countP [(t, r)] = countT t := by unfold countP; simp [countL]
  have h2 : countP m = countL t.subs := by unfold countP; rw [step_fst h]
  rw [h1, h2, countT_eq]
  omega
theorem len_count : ∀ l : List T, l.length ≤ countL l
  | [] => by simp
  | t :: l => by have := len_count l; rw [countL, countT_eq]; simp; omega
theorem len_countP (l : List (T × Rule)) : l.length ≤ countP l := by have := len_count (l.map (·.1)); unfold countP; simpa using this
theorem sub_count (t : T) : t.subs.length + 1 ≤ countT t := by have := len_count t.subs; rw [countT_eq]; omega
end Go.Proofs.YtapfecciakijhaaGreatDoor
