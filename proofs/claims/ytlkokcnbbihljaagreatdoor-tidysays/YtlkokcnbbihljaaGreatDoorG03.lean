/- Trees of nodes, and how they lie in memory that is only read: whatever rows they share, whatever lies beside them. -/
import Derived.Test.YtlkokcnbbihljaaGreatDoorG02
import Derived.ChangeArms
import Derived.Deep.Slices
import Derived.Below
namespace Go.Proofs.YtlkokcnbbihljaaGreatDoor
open Go.RowKit

/-- A tree: kind, name, number, place, what is below. -/
inductive T where
  | mk (kind : Int) (name : List UInt8) (num at' : Int) (subs : List T)
def T.kind : T → Int
  | .mk k _ _ _ _ => k
def T.name : T → List UInt8
  | .mk _ s _ _ _ => s
def T.num : T → Int
  | .mk _ _ n _ _ => n
def T.at' : T → Int
  | .mk _ _ _ a _ => a
def T.subs : T → List T
  | .mk _ _ _ _ l => l

abbrev nodeV (t : T) (sv : Value) : Value := .agg #[.int .i64 t.kind, .string ⟨t.name.toArray⟩, .int .i64 t.num, .int .i64 t.at', sv]

/-- Numbers of 64 bits, and a name that can be. -/
structure Fits (t : T) : Prop where
  name : t.name.length ≤ maxLen
  k1 : -9223372036854775808 ≤ t.kind
  k2 : t.kind ≤ 9223372036854775807
  n1 : -9223372036854775808 ≤ t.num
  n2 : t.num ≤ 9223372036854775807

/-- The five cells of a node. -/
structure Node5 (w : World) (g o : Nat) (t : T) (sv : Value) : Prop where
  c0 : w.cell? ⟨g, o, none⟩ = some (.int .i64 t.kind)
  c1 : w.cell? ⟨g, o + 1, none⟩ = some (.string ⟨t.name.toArray⟩)
  c2 : w.cell? ⟨g, o + 2, none⟩ = some (.int .i64 t.num)
  c3 : w.cell? ⟨g, o + 3, none⟩ = some (.int .i64 t.at')
  c4 : w.cell? ⟨g, o + 4, none⟩ = some sv

/-- A list of trees, as it is read. -/
inductive AT (w : World) : List T → Value → Prop
  | nil (a : Option Addr) (c : Nat) (hc : c ≤ maxLen) : AT w [] (.slice a 0 c)
  | mk (ts : List T) (g o c : Nat) (svs : List Value) (hl : svs.length = ts.length) (h1 : ts.length ≤ c) (h2 : c ≤ maxLen)
      (cells : ∀ (i : Nat) (t : T) (sv : Value), ts[i]? = some t → svs[i]? = some sv → Node5 w g (o + i * 5) t sv ∧ Fits t)
      (sub : ∀ (i : Nat) (t : T) (sv : Value), ts[i]? = some t → svs[i]? = some sv → AT w t.subs sv) : AT w ts (.slice (some ⟨g, o, none⟩) ts.length c)

theorem block_lt {w : World} {a : Addr} {v : Value} (h : w.cell? a = some v) : a.block < w.heap.size := World.block_lt_of_cell? w a h
theorem gb_cell {w w' : World} {a : Addr} {v : Value} (hg : w.grownBy w' none) (h : w.cell? a = some v) : w'.cell? a = some v := by
  have hb := hg.block a.block (block_lt h) (by simp)
  unfold World.cell? at h ⊢
  rw [hb]
  exact h
theorem gb_put {a w : World} {row : Option Nat} {b : Nat} (h : a.grownBy w row) (hb : a.heap.size ≤ b) (o : Nat) (v : Value) : a.grownBy (w.setCell ⟨b, o, none⟩ v) row :=
  ⟨h.os, h.tape, h.output, by simpa [World.setCell] using h.size, fun k hk hne => (Below.heap_setCell _ _ _ _ (by simp; omega)).trans (h.block k hk hne)⟩
theorem gb_drew {a w : World} {row : Option Nat} (h : a.grownBy w row) : a.grownBy w.drew row := gb_drewN h 1
theorem Node5.kept {w w' : World} {g o : Nat} {t : T} {sv : Value} (h : Node5 w g o t sv) (hg : w.grownBy w' none) : Node5 w' g o t sv :=
  ⟨gb_cell hg h.c0, gb_cell hg h.c1, gb_cell hg h.c2, gb_cell hg h.c3, gb_cell hg h.c4⟩
theorem AT.kept {w w' : World} {ts : List T} {v : Value} (h : AT w ts v) (hg : w.grownBy w' none) : AT w' ts v := by
  induction h with
  | nil a c hc => exact .nil a c hc
  | mk ts g o c svs hl h1 h2 cells sub ih => exact .mk ts g o c svs hl h1 h2 (fun i t sv e1 e2 => ⟨(cells i t sv e1 e2).1.kept hg, (cells i t sv e1 e2).2⟩) ih

theorem AT.form {w : World} {ts : List T} {v : Value} (h : AT w ts v) : ∃ a c, v = .slice a ts.length c ∧ ts.length ≤ c ∧ c ≤ maxLen := by
  cases h with
  | nil a c hc => exact ⟨a, c, rfl, Nat.zero_le _, hc⟩
  | mk _ g o c svs hl h1 h2 cells sub => exact ⟨_, c, rfl, h1, h2⟩

/-- One of a list's trees. -/
theorem AT.node {w : World} {ts : List T} {a : Option Addr} {n c : Nat} (h : AT w ts (.slice a n c)) (i : Nat) (t : T) (ht : ts[i]? = some t) :
    ∃ g o sv, a = some ⟨g, o, none⟩ ∧ Node5 w g (o + i * 5) t sv ∧ Fits t ∧ AT w t.subs sv := by
  have hi : i < ts.length := by
    rcases Nat.lt_or_ge i ts.length with h9 | h9
    · exact h9
    · rw [List.getElem?_eq_none h9] at ht; cases ht
  cases h with
  | nil a c hc => simp at hi
  | mk _ g o c svs hl h1 h2 cells sub =>
    obtain ⟨sv, hsv⟩ : ∃ sv, svs[i]? = some sv := ⟨_, List.getElem?_eq_getElem (by omega)⟩
    exact ⟨g, o, sv, rfl, (cells i t sv ht hsv).1, (cells i t sv ht hsv).2, sub i t sv ht hsv⟩

/-- The rest of a list. -/
theorem AT.drop {w : World} {ts : List T} {g o n c : Nat} (h : AT w ts (.slice (some ⟨g, o, none⟩) n c)) (k : Nat) (hk : k ≤ ts.length) : AT w (ts.drop k) (.slice (some ⟨g, o + k * 5, none⟩) (n - k) (c - k)) := by
  cases h with
  | nil a c hc =>
    have : k = 0 := by simpa using hk
    subst this
    exact .nil _ _ hc
  | mk _ _ _ c svs hl h1 h2 cells sub =>
    have e : ts.length - k = (ts.drop k).length := by simp
    rw [e]
    refine .mk (ts.drop k) g (o + k * 5) (c - k) (svs.drop k) (by simp [hl]) (by simp; omega) (by omega) (fun i t sv e1 e2 => ?_) (fun i t sv e1 e2 => ?_)
    · rw [List.getElem?_drop] at e1 e2
      have := cells (k + i) t sv e1 e2
      rw [show o + k * 5 + i * 5 = o + (k + i) * 5 by omega]
      exact this
    · rw [List.getElem?_drop] at e1 e2
      exact sub (k + i) t sv e1 e2

/-! ### From what is read as data -/
theorem addr_add (g o : Nat) (sp : Option Nat) (k : Nat) (hk : k ≠ 0) : Addr.add ⟨g, o, sp⟩ k = ⟨g, o + k, none⟩ := by unfold Addr.add; rw [if_neg hk]
theorem five {α : Type} (l : List α) (h : l.length = 5) : ∃ a b c d e, l = [a, b, c, d, e] := by
  match l, h with
  | [a, b, c, d, e], _ => exact ⟨a, b, c, d, e, rfl⟩
theorem nodeFields : ∃ f0 f1 f2 f3 f4 : Field, Tryz.prog.underlying 24 = some (.struct #[f0, f1, f2, f3, f4]) ∧ f0.type = 3 ∧ f1.type = 9 ∧ f2.type = 3 ∧ f3.type = 3 ∧ f4.type = 22 ∧ f0.offset = 0 ∧ f1.offset = 1 ∧ f2.offset = 2 ∧ f3.offset = 3 ∧ f4.offset = 4 :=
  ⟨_, _, _, _, _, Tryz.underlying24, rfl, rfl, rfl, rfl, rfl, rfl, rfl, rfl, rfl, rfl⟩
theorem cellsNode : Tryz.prog.cellsOf 24 = 5 := by kernel_rfl
theorem cellsInt : Tryz.prog.cellsOf 3 = 1 := by kernel_rfl
theorem cellsString : Tryz.prog.cellsOf 9 = 1 := by kernel_rfl
theorem cellsNodes : Tryz.prog.cellsOf 22 = 1 := by kernel_rfl

section
variable {H : Type} {enc : TypeId × Value → H} {w : World} {base : Nat} {spare : Nat → Bool} {held : Bool}
theorem i64_wf {n : Int} (h : (Lit.int .i64 n).wf = true) : -9223372036854775808 ≤ n ∧ n ≤ 9223372036854775807 := by
  have e1 : IntKind.i64.min = -9223372036854775808 := rfl
  have e2 : IntKind.i64.max = 9223372036854775807 := rfl
  simp [Lit.wf, e1, e2] at h
  omega
/-- A node that is read as data. -/
theorem node_of_trod (n : Nat) (ih : ∀ (v : Value) (x : DataW H × List MemPlace), DataW.trod enc Tryz.prog w base spare held n 22 [v] = some x → ∃ ts, AT w ts v)
    (cs : List Value) (x : DataW H × List MemPlace) (h : DataW.trod enc Tryz.prog w base spare held (n + 1) 24 cs = some x) :
    ∃ t sv, cs = [.int .i64 t.kind, .string ⟨t.name.toArray⟩, .int .i64 t.num, .int .i64 t.at', sv] ∧ Fits t ∧ AT w t.subs sv := by
  obtain ⟨f0, f1, f2, f3, f4, hu, t0, t1, t2, t3, t4, o0, o1, o2, o3, o4⟩ := nodeFields
  obtain ⟨xs, m, hm, rfl, hc, hl, hf⟩ := DataW.trod_struct hu h
  obtain rfl : m = n := by omega
  rw [cellsNode] at hc
  have hxs : xs.length = 5 := by rw [hl]; rfl
  obtain ⟨c0, c1, c2, c3, c4, rfl⟩ : ∃ c0 c1 c2 c3 c4, cs = [c0, c1, c2, c3, c4] := five cs hc
  obtain ⟨x0, x1, x2, x3, x4, rfl⟩ : ∃ x0 x1 x2 x3 x4, xs = [x0, x1, x2, x3, x4] := five xs hxs
  have h0 := hf 0 f0 rfl
  have h1 := hf 1 f1 rfl
  have h2 := hf 2 f2 rfl
  have h3 := hf 3 f3 rfl
  have h4 := hf 4 f4 rfl
  rw [t0, o0, cellsInt] at h0
  rw [t1, o1, cellsString] at h1
  rw [t2, o2, cellsInt] at h2
  rw [t3, o3, cellsInt] at h3
  rw [t4, o4, cellsNodes] at h4
  obtain ⟨k, e0, _, w0⟩ := DataW.trod_int Tryz.underlying3 h0
  obtain ⟨s, e1, _, w1⟩ := DataW.trod_string Tryz.underlying9 h1
  obtain ⟨m2, e2, _, w2⟩ := DataW.trod_int Tryz.underlying3 h2
  obtain ⟨a, e3, _, w3⟩ := DataW.trod_int Tryz.underlying3 h3
  obtain ⟨ts, hts⟩ := ih c4 x4 h4
  simp at e0 e1 e2 e3
  subst e0 e1 e2 e3
  refine ⟨.mk k s.data.toList m2 a ts, c4, by simp [T.kind, T.name, T.num, T.at'], ⟨?_, ?_, ?_, ?_, ?_⟩, hts⟩
  · show s.data.toList.length ≤ maxLen
    rw [← bs_size]
    exact w1
  · exact (i64_wf w0).1
  · exact (i64_wf w0).2
  · exact (i64_wf w2).1
  · exact (i64_wf w2).2
theorem cells5 {g o : Nat} {sp : Option Nat} {t : T} {sv : Value} {cs : List Value} (h : w.cells? base ⟨g, o, sp⟩ 5 = some cs) (e : cs = [.int .i64 t.kind, .string ⟨t.name.toArray⟩, .int .i64 t.num, .int .i64 t.at', sv]) : sp = none ∧ Node5 w g o t sv := by
  subst e
  unfold World.cells? at h
  split at h
  · have key : ∀ j, j < 5 → w.cell? (Addr.add ⟨g, o, sp⟩ j) = [Value.int .i64 t.kind, .string ⟨t.name.toArray⟩, .int .i64 t.num, .int .i64 t.at', sv][j]? := fun j hj => by
      have := mapM_some_get h j j (by simp [hj])
      exact this
    have k0 := key 0 (by omega)
    have hsp : sp = none := by
      cases sp with
      | none => rfl
      | some z =>
        simp only [Addr.add, if_true, World.cell?] at k0
        split at k0 <;> simp at k0
    subst hsp
    exact ⟨rfl, k0, key 1 (by omega), key 2 (by omega), key 3 (by omega), key 4 (by omega)⟩
  · cases h
theorem nodes_of_trod : ∀ (fuel : Nat) (v : Value) (x : DataW H × List MemPlace), DataW.trod enc Tryz.prog w base spare held fuel 22 [v] = some x → ∃ ts, AT w ts v := by
  intro fuel
  induction fuel using Nat.strongRecOn with
  | ind fuel ih =>
    intro v x h
    rcases DataW.trod_slice Tryz.underlying22 h with ⟨e, _⟩ | ⟨a, len, cap, elems, rest, n, rfl, e, _, _, hlc, hcm, hel, hcell, _, _⟩
    · simp at e
      subst e
      exact ⟨[], .nil _ _ (Nat.zero_le _)⟩
    · simp at e
      subst e
      by_cases h0 : len = 0
      · subst h0
        exact ⟨[], .nil _ _ hcm⟩
      obtain ⟨g, o, sp⟩ := a
      have key : ∀ i, i < len → ∃ t sv, (sp = none ∨ 0 < i) ∧ Node5 w g (o + i * 5) t sv ∧ Fits t ∧ AT w t.subs sv := by
        intro i hi
        have hc := hcell i hi
        rw [List.getElem?_eq_getElem (by omega), cellsNode] at hc
        obtain ⟨cs', h1, h2⟩ := Option.bind_eq_some_iff.1 hc
        obtain ⟨m, rfl⟩ : ∃ m, n = m + 1 := by
          cases n with
          | zero => simp [DataW.trod] at h2
          | succ m => exact ⟨m, rfl⟩
        obtain ⟨t, sv, he, hf, ha⟩ := node_of_trod m (fun v x hx => ih m (by omega) v x hx) cs' _ h2
        by_cases hi0 : i = 0
        · subst hi0
          have h1' : w.cells? base ⟨g, o, sp⟩ 5 = some cs' := by simpa [Addr.add] using h1
          obtain ⟨hsp, hn⟩ := cells5 h1' he
          exact ⟨t, sv, .inl hsp, by simpa using hn, hf, ha⟩
        · have h1' : w.cells? base ⟨g, o + i * 5, none⟩ 5 = some cs' := by
            rw [addr_add g o sp (i * 5) (by omega)] at h1
            exact h1
          exact ⟨t, sv, .inr (by omega), (cells5 h1' he).2, hf, ha⟩
      obtain ⟨_, _, hsp0, _⟩ := key 0 (by omega)
      have hsp : sp = none := by rcases hsp0 with h | h; exact h; omega
      subst hsp
      have kt : ∀ i : Fin len, ∃ t sv, Node5 w g (o + i.1 * 5) t sv ∧ Fits t ∧ AT w t.subs sv := fun i => by
        obtain ⟨t, sv, _, h⟩ := key i.1 i.2
        exact ⟨t, sv, h⟩
      let F : Fin len → T := fun i => (kt i).choose
      let G : Fin len → Value := fun i => (kt i).choose_spec.choose
      have hFG : ∀ i, Node5 w g (o + i.1 * 5) (F i) (G i) ∧ Fits (F i) ∧ AT w (F i).subs (G i) := fun i => (kt i).choose_spec.choose_spec
      have hlen : (List.ofFn F).length = len := by simp
      refine ⟨List.ofFn F, ?_⟩
      have := AT.mk (w := w) (List.ofFn F) g o cap (List.ofFn G) (by simp) (by simpa using hlc) hcm (fun i t sv e1 e2 => ?_) (fun i t sv e1 e2 => ?_)
      · rwa [hlen] at this
      · have hi : i < len := by
          rcases Nat.lt_or_ge i len with h9 | h9
          · exact h9
          · rw [List.getElem?_eq_none (by simpa using h9)] at e1; cases e1
        rw [List.getElem?_eq_getElem (by simpa using hi), List.getElem_ofFn] at e1 e2
        cases e1
        cases e2
        exact ⟨(hFG ⟨i, hi⟩).1, (hFG ⟨i, hi⟩).2.1⟩
      · have hi : i < len := by
          rcases Nat.lt_or_ge i len with h9 | h9
          · exact h9
          · rw [List.getElem?_eq_none (by simpa using h9)] at e1; cases e1
        rw [List.getElem?_eq_getElem (by simpa using hi), List.getElem_ofFn] at e1 e2
        cases e1
        cases e2
        exact (hFG ⟨i, hi⟩).2.2
end
end Go.Proofs.YtlkokcnbbihljaaGreatDoor

/- What shape a text's tree has, told by rules, each of one node and those right below it; and its text, as functions: the document's words C1 to C4. -/
namespace Go.Proofs.YtlkokcnbbihljaaGreatDoor

/-! ### Operators -/
def relL : List (List UInt8) := [[61], [35], [60], [60, 61], [62], [62, 61]]
def sumL : List (List UInt8) := [[43], [45], [79, 82]]
def proL : List (List UInt8) := [[42], [68, 73, 86], [77, 79, 68], [38]]
def inB (xs : List (List UInt8)) (x : List UInt8) : Bool := xs.contains x
def levelOf (x : List UInt8) : Int := if inB relL x = true then 0 else if inB sumL x = true then 1 else if inB proL x = true then 2 else -1

/-! ### Shapes -/
/-- A node of a kind; its name a name or empty; its number at most so great; with so many below it (below 0: any). -/
def headB (t : T) (k : Int) (named : Bool) (most many : Int) : Bool :=
  decide (t.kind = k ∧ 0 ≤ t.num ∧ t.num ≤ most ∧ (0 ≤ many → (t.subs.length : Int) = many)) && (if named then nameB t.name else t.name.isEmpty)
def maxNum : Int := 2147483647
/-- What a node may be, where it stands. -/
inductive Rule where
  | module | imported | procedure | typeItself | typeName | typeNameOrNone | ref | act | expression | designator
  | list (r : Rule)
  | declared (kind most : Int) (r : Rule)
/-- As many nodes as rules. -/
def zipR : List T → List Rule → List (T × Rule)
  | t :: l, r :: m => (t, r) :: zipR l m
  | _, _ => []
def eachR (l : List T) (r : Rule) : List (T × Rule) := l.map fun t => (t, r)
def onlyIf (c : Bool) (l : List (T × Rule)) : Option (List (T × Rule)) := if c = true then some l else none
/-- Conditions and lists in turn; the last one more, if there is an odd number of them. -/
def turnR : List T → List (T × Rule)
  | [] => []
  | [x] => [(x, .list .act)]
  | x :: y :: l => (x, .expression) :: (y, .list .act) :: turnR l
def designatorR (t : T) : Option (List (T × Rule)) :=
  if t.kind = 24 then onlyIf (headB t 24 true 0 0) [] else
  if t.kind = 25 then onlyIf (headB t 25 true 0 1) (zipR t.subs [.designator]) else
  if t.kind = 26 then onlyIf (headB t 26 false 0 2) (zipR t.subs [.designator, .expression]) else
  if t.kind = 27 then onlyIf (headB t 27 false 0 1) (zipR t.subs [.designator]) else
  if t.kind = 28 then onlyIf (headB t 28 false 0 2) (zipR t.subs [.designator, .typeName]) else none
def firstR (t : T) (r q : Rule) : List (T × Rule) := match t.subs with
  | [] => []
  | x :: l => (x, r) :: eachR l q
def expressionR (t : T) : Option (List (T × Rule)) :=
  if t.kind = 29 then onlyIf (headB t 29 false maxNum 0) [] else
  if t.kind = 30 ∨ t.kind = 31 ∨ t.kind = 32 then onlyIf (headB t t.kind false 0 0) [] else
  if t.kind = 33 then onlyIf (headB t 33 false 0 (-1) && decide (0 < t.subs.length)) (firstR t .designator .expression) else
  if t.kind = 34 ∨ t.kind = 35 then onlyIf (headB t t.kind false 0 1) (zipR t.subs [.expression]) else
  if t.kind = 37 then onlyIf (headB t 37 false 0 2) (zipR t.subs [.expression, .typeName]) else
  if t.kind = 36 then onlyIf (decide (0 ≤ levelOf t.name) && t.num == 0 && t.subs.length == 2) (zipR t.subs [.expression, .expression]) else designatorR t
def actR (t : T) : Option (List (T × Rule)) :=
  if t.kind = 16 then onlyIf (t.name.isEmpty && decide (2 ≤ t.subs.length) && decide (((t.subs.length : Int) % 2) = t.num)) (turnR t.subs) else
  if t.kind = 14 then onlyIf (headB t 14 false 0 2) (zipR t.subs [.designator, .expression]) else
  if t.kind = 15 then onlyIf (headB t 15 false 0 (-1) && decide (0 < t.subs.length)) (firstR t .designator .expression) else
  if t.kind = 17 then onlyIf (headB t 17 false 0 2) (zipR t.subs [.expression, .list .act]) else
  if t.kind = 18 then onlyIf (headB t 18 false 0 2) (zipR t.subs [.list .act, .expression]) else
  if t.kind = 19 then onlyIf (headB t 19 false 0 (-1) && decide (t.subs.length ≤ 1)) (eachR t.subs .expression) else
  if t.kind = 20 ∨ t.kind = 22 then onlyIf (headB t t.kind false 0 1) (zipR t.subs [.designator]) else
  if t.kind = 21 ∨ t.kind = 23 then onlyIf (headB t t.kind false 0 1) (zipR t.subs [.expression]) else none
def typeNameR (t : T) : Option (List (T × Rule)) := onlyIf (headB t 13 true 0 (-1) && decide (t.subs.length ≤ 1)) (eachR t.subs .ref)
/-- What a rule asks of a node: nothing, or the rules of those right below it. -/
def stepR : Rule → T → Option (List (T × Rule))
  | .module, t => onlyIf (headB t 2 true 0 6) (zipR t.subs [.list .imported, .list (.declared 4 1 .expression), .list (.declared 5 1 .typeItself), .list (.declared 6 1 .typeName), .list .procedure, .list .act])
  | .imported, t => onlyIf (headB t 3 true 0 0) []
  | .procedure, t => onlyIf (headB t 7 true 1 4) (zipR t.subs [.list (.declared 8 1 .typeName), .typeNameOrNone, .list (.declared 6 0 .typeName), .list .act])
  | .typeItself, t =>
    if t.kind = 9 then onlyIf (headB t 9 false maxNum 1) (zipR t.subs [.typeName]) else
    if t.kind = 12 then onlyIf (headB t 12 false 0 1) (zipR t.subs [.typeName]) else
    if t.kind = 10 then onlyIf (headB t 10 false 0 (-1) && decide (0 < t.subs.length)) (firstR t .typeNameOrNone (.declared 11 1 .typeName)) else none
  | .typeName, t => typeNameR t
  | .typeNameOrNone, t => if t.kind = 0 then onlyIf (headB t 0 false 0 0) [] else typeNameR t
  | .ref, t => onlyIf (headB t 24 true 0 0) []
  | .act, t => actR t
  | .expression, t => expressionR t
  | .designator, t => designatorR t
  | .list r, t => onlyIf (headB t 1 false 0 (-1)) (eachR t.subs r)
  | .declared kind most r, t => onlyIf (headB t kind true most 1) (zipR t.subs [r])
/-- A tree that goes by a rule, all through. -/
inductive Well : Rule → T → Prop
  | mk {r : Rule} {t : T} (l : List (T × Rule)) (h : stepR r t = some l) (all : ∀ p ∈ l, Well p.2 p.1) : Well r t
theorem Well.iff {r : Rule} {t : T} : Well r t ↔ ∃ l, stepR r t = some l ∧ ∀ p ∈ l, Well p.2 p.1 :=
  ⟨fun h => by cases h with | mk l h all => exact ⟨l, h, all⟩, fun ⟨l, h, all⟩ => .mk l h all⟩
theorem Well.of_some {r : Rule} {t : T} {l : List (T × Rule)} (h : stepR r t = some l) : Well r t ↔ ∀ p ∈ l, Well p.2 p.1 := by
  rw [Well.iff]
  exact ⟨fun ⟨m, hm, all⟩ => by rw [h] at hm; cases hm; exact all, fun all => ⟨l, h, all⟩⟩
theorem Well.of_none {r : Rule} {t : T} (h : stepR r t = none) : ¬ Well r t := by
  rw [Well.iff]
  rintro ⟨m, hm, -⟩
  rw [h] at hm
  cases hm
/-- All that is still to be looked at. -/
def WellAll (l : List (T × Rule)) : Prop := ∀ p ∈ l, Well p.2 p.1
theorem WellAll.step {l : List (T × Rule)} {r : Rule} {t : T} {m : List (T × Rule)} (h : stepR r t = some m) : WellAll (l ++ [(t, r)]) ↔ WellAll (l ++ m) := by
  unfold WellAll
  constructor
  · intro H p hp
    rcases List.mem_append.1 hp with h1 | h1
    · exact H p (List.mem_append.2 (.inl h1))
    · exact (Well.of_some h).1 (H (t, r) (List.mem_append.2 (.inr (List.mem_singleton.2 rfl)))) p h1
  · intro H p hp
    rcases List.mem_append.1 hp with h1 | h1
    · exact H p (List.mem_append.2 (.inl h1))
    · cases List.mem_singleton.1 h1
      exact (Well.of_some h).2 fun q hq => H q (List.mem_append.2 (.inr hq))
theorem WellAll.stop {l : List (T × Rule)} {r : Rule} {t : T} (h : stepR r t = none) : ¬ WellAll (l ++ [(t, r)]) := fun H => Well.of_none h (H (t, r) (List.mem_append.2 (.inr (List.mem_singleton.2 rfl))))

/-! ### How many nodes, how deep -/
mutual
def countT : T → Nat
  | .mk _ _ _ _ l => 1 + countL l
def countL : List T → Nat
  | [] => 0
  | t :: l => countT t + countL l
end
mutual
def depthT : T → Nat
  | .mk _ _ _ _ l => 1 + depthL l
def depthL : List T → Nat
  | [] => 0
  | t :: l => max (depthT t) (depthL l)
end
theorem depth_sub {t u : T} (h : u ∈ t.subs) : depthT u < depthT t := by
  obtain ⟨k, x, n, a, l⟩ := t
  have H : ∀ l : List T, u ∈ l → depthT u ≤ depthL l := by
    intro l
    induction l with
    | nil => intro h; cases h
    | cons t l ih =>
      intro h
      rw [depthL]
      rcases List.mem_cons.1 h with rfl | h
      · exact Nat.le_max_left _ _
      · exact Nat.le_trans (ih h) (Nat.le_max_right _ _)
  have := H l h
  rw [show depthT (T.mk k x n a l) = 1 + depthL l by rw [depthT]]
  omega
def countP (l : List (T × Rule)) : Nat := countL (l.map (·.1))
theorem countL_append (l m : List T) : countL (l ++ m) = countL l + countL m := by
  induction l with
  | nil => rw [List.nil_append, countL]; omega
  | cons t l ih => rw [List.cons_append, countL, countL, ih]; omega

/-! ### Texts -/
def nameTx (t : T) : List UInt8 := match t.subs with
  | [m] => m.name ++ (46 :: t.name)
  | _ => t.name
def starTx (t : T) : List UInt8 := if t.num = 1 then t.name ++ [42] else t.name
/-- A number's digits. -/
def decTx : Nat → Nat → List UInt8
  | 0, _ => []
  | f + 1, n => if n < 10 then [UInt8.ofNat (48 + n)] else decTx f (n / 10) ++ [UInt8.ofNat (48 + n % 10)]
def numTx (n : Int) : List UInt8 := decTx 11 n.toNat
def subT (t : T) (i : Nat) : T := t.subs[i]?.getD (.mk 0 [] 0 0 [])
def rankT (t : T) : Int := if t.kind = 36 then levelOf t.name else if t.kind = 37 then 0 else if t.kind = 35 then 1 else 3
def sepTx (sep : List UInt8) : List (List UInt8) → List UInt8
  | [] => []
  | [x] => x
  | x :: l => x ++ (sep ++ sepTx sep l)
def exprTx : Nat → T → List UInt8
  | 0, _ => []
  | f + 1, t =>
    let at9 := fun (u : T) (r : Int) => if rankT u < r then 40 :: (exprTx f u ++ [41]) else exprTx f u
    let s0 := subT t 0
    let s1 := subT t 1
    if t.kind = 24 then t.name else
    if t.kind = 25 then exprTx f s0 ++ (46 :: t.name) else
    if t.kind = 26 then exprTx f s0 ++ (91 :: (exprTx f s1 ++ [93])) else
    if t.kind = 27 then exprTx f s0 ++ [94] else
    if t.kind = 28 then exprTx f s0 ++ (123 :: (nameTx s1 ++ [125])) else
    if t.kind = 29 then numTx t.num else
    if t.kind = 30 then [84, 82, 85, 69] else
    if t.kind = 31 then [70, 65, 76, 83, 69] else
    if t.kind = 32 then [78, 73, 76] else
    if t.kind = 33 then exprTx f s0 ++ (40 :: (sepTx [44, 32] ((t.subs.drop 1).map (exprTx f)) ++ [41])) else
    if t.kind = 34 then 126 :: at9 s0 3 else
    if t.kind = 35 then 45 :: at9 s0 2 else
    if t.kind = 37 then at9 s0 1 ++ ([32, 73, 83, 32] ++ nameTx s1) else
    at9 s0 (if levelOf t.name = 2 then 2 else 1) ++ (32 :: (t.name ++ (32 :: at9 s1 (if levelOf t.name = 1 then 2 else if levelOf t.name = 2 then 3 else 1))))
end Go.Proofs.YtlkokcnbbihljaaGreatDoor
