/- The text of a tree, as functions: the document's words C1 to C4; and how long it can be. -/
import Derived.Test.YtlkokcnbbihljaaGreatDoorG03
namespace Go.Proofs.YtlkokcnbbihljaaGreatDoor

def padTx (L : Nat) : List UInt8 := List.replicate (2 * L) 32
def argsTx (f : Nat) (l : List T) : List UInt8 := 40 :: (sepTx [44, 32] (l.map (exprTx f)) ++ [41])
/-- Lines: each a level within; sep behind each but the last, last behind that. -/
def linesTx (sep last : List UInt8) (tx : T → List UInt8) (L : Nat) (l : List T) : List UInt8 :=
  if l.isEmpty then [] else sepTx (sep ++ [10]) (l.map fun t => padTx (L + 1) ++ tx t) ++ (last ++ [10])
/-- What stands behind the first condition and its acts. -/
def restTx (ex ac : T → List UInt8) (L : Nat) : List T → List UInt8
  | [] => []
  | [x] => padTx L ++ ([69, 76, 83, 69, 10] ++ ac x)
  | x :: y :: l => padTx L ++ ([69, 76, 83, 73, 70, 32] ++ (ex x ++ ([32, 84, 72, 69, 78, 10] ++ (ac y ++ restTx ex ac L l))))
def wordTx (k : Int) : List UInt8 := if k = 20 then [78, 69, 87] else if k = 21 then [79, 85, 84] else if k = 22 then [71, 69, 84] else [65, 83, 83, 69, 82, 84]
def actTx : Nat → Nat → T → List UInt8
  | 0, _, _ => []
  | f + 1, L, t =>
    let acts := fun (u : T) => linesTx [59] [] (actTx f (L + 1)) L u.subs
    let s0 := subT t 0
    let s1 := subT t 1
    if t.kind = 14 then exprTx f s0 ++ ([32, 58, 61, 32] ++ exprTx f s1) else
    if t.kind = 15 then exprTx f s0 ++ (if 1 < t.subs.length then argsTx f (t.subs.drop 1) else []) else
    if t.kind = 16 then [73, 70, 32] ++ (exprTx f s0 ++ ([32, 84, 72, 69, 78, 10] ++ (acts s1 ++ (restTx (exprTx f) acts L (t.subs.drop 2) ++ (padTx L ++ [69, 78, 68]))))) else
    if t.kind = 17 then [87, 72, 73, 76, 69, 32] ++ (exprTx f s0 ++ ([32, 68, 79, 10] ++ (acts s1 ++ (padTx L ++ [69, 78, 68])))) else
    if t.kind = 18 then [82, 69, 80, 69, 65, 84, 10] ++ (acts s0 ++ (padTx L ++ ([85, 78, 84, 73, 76, 32] ++ exprTx f s1))) else
    if t.kind = 19 then [82, 69, 84, 85, 82, 78] ++ (if 0 < t.subs.length then 32 :: exprTx f s0 else []) else
    wordTx t.kind ++ (40 :: (exprTx f s0 ++ [41]))
def actsTx (f L : Nat) (l : List T) : List UInt8 := linesTx [59] [] (actTx f (L + 1)) L l
def typedTx (t : T) : List UInt8 := starTx t ++ ([58, 32] ++ nameTx (subT t 0))
def paramTx (t : T) : List UInt8 := (if t.num = 1 then [86, 65, 82, 32] else []) ++ (t.name ++ ([58, 32] ++ nameTx (subT t 0)))
def flatTx (tx : T → List UInt8) : List T → List UInt8
  | [] => []
  | t :: l => tx t ++ flatTx tx l
def typeTx (t : T) : List UInt8 :=
  if t.kind = 9 then [65, 82, 82, 65, 89, 32] ++ (numTx t.num ++ ([32, 79, 70, 32] ++ nameTx (subT t 0))) else
  if t.kind = 12 then [80, 79, 73, 78, 84, 69, 82, 32, 84, 79, 32] ++ nameTx (subT t 0) else
  [82, 69, 67, 79, 82, 68, 32] ++ ((if (subT t 0).kind = 0 then [] else 40 :: (nameTx (subT t 0) ++ [41, 32])) ++ (flatTx (fun x => typedTx x ++ [59, 32]) (t.subs.drop 1) ++ [69, 78, 68]))
def constTx (f : Nat) (t : T) : List UInt8 := starTx t ++ ([32, 61, 32] ++ exprTx f (subT t 0))
def namedTx (t : T) : List UInt8 := starTx t ++ ([32, 61, 32] ++ typeTx (subT t 0))
/-- A section's declarations below its word, if there are some. -/
def sectTx (word : List UInt8) (tx : T → List UInt8) (l : List T) : List UInt8 := if l.isEmpty then [] else word ++ (10 :: linesTx [59] [59] tx 0 l)
def VARw : List UInt8 := [86, 65, 82]
def procTx (f : Nat) (t : T) : List UInt8 :=
  let ps := (subT t 0).subs
  let r := subT t 1
  [80, 82, 79, 67, 69, 68, 85, 82, 69, 32] ++ (starTx t ++ ((if ps.isEmpty && r.kind == 0 then [] else 40 :: (sepTx [59, 32] (ps.map paramTx) ++ [41])) ++ ((if r.kind = 0 then [] else [58, 32] ++ nameTx r) ++ ([59, 10] ++
    (sectTx VARw typedTx (subT t 2).subs ++ ([66, 69, 71, 73, 78, 10] ++ (actsTx f 0 (subT t 3).subs ++ ([69, 78, 68, 32] ++ (t.name ++ [59, 10])))))))))
def importsTx (l : List T) : List UInt8 := if l.isEmpty then [] else [73, 77, 80, 79, 82, 84, 32] ++ (sepTx [44, 32] (l.map T.name) ++ [59, 10])
def moduleTx (f : Nat) (t : T) : List UInt8 :=
  [77, 79, 68, 85, 76, 69, 32] ++ (t.name ++ ([59, 10] ++ (importsTx (subT t 0).subs ++ (sectTx [67, 79, 78, 83, 84] (constTx f) (subT t 1).subs ++ (sectTx [84, 89, 80, 69] namedTx (subT t 2).subs ++ (sectTx VARw typedTx (subT t 3).subs ++
    (flatTx (procTx f) (subT t 4).subs ++ ((if (subT t 5).subs.isEmpty then [] else [66, 69, 71, 73, 78, 10] ++ actsTx f 0 (subT t 5).subs) ++ ([69, 78, 68, 32] ++ (t.name ++ [46, 10]))))))))))

/-! ### Lengths -/
theorem padTx_len (L : Nat) : (padTx L).length = 2 * L := by simp [padTx]
theorem sepTx_snoc (sep : List UInt8) (l : List (List UInt8)) (x : List UInt8) : sepTx sep (l ++ [x]) = sepTx sep l ++ ((if l.isEmpty then [] else sep) ++ x) := by
  induction l with
  | nil => simp [sepTx]
  | cons y l ih =>
    cases l with
    | nil => simp [sepTx]
    | cons z l =>
      have e : sepTx sep (y :: (z :: l ++ [x])) = y ++ (sep ++ sepTx sep (z :: l ++ [x])) := rfl
      rw [List.cons_append, e, ih]
      simp [sepTx]
/-- Each part so long at most. -/
theorem sepTx_len (sep : List UInt8) (tx : T → List UInt8) (c : Nat) (l : List T) (h : ∀ t ∈ l, (tx t).length + sep.length ≤ c * countT t) : (sepTx sep (l.map tx)).length ≤ c * countL l := by
  induction l with
  | nil => simp [sepTx]
  | cons t l ih =>
    have h1 := h t (by simp)
    have h2 := ih (fun u hu => h u (by simp [hu]))
    rw [countL, Nat.mul_add]
    cases l with
    | nil => simp only [List.map_cons, List.map_nil, sepTx]; omega
    | cons z l =>
      have e : sepTx sep ((t :: z :: l).map tx) = tx t ++ (sep ++ sepTx sep ((z :: l).map tx)) := rfl
      rw [e]
      simp only [List.length_append]
      omega
theorem flatTx_len (tx : T → List UInt8) (c : Nat) (l : List T) (h : ∀ t ∈ l, (tx t).length ≤ c * countT t) : (flatTx tx l).length ≤ c * countL l := by
  induction l with
  | nil => simp [flatTx]
  | cons t l ih =>
    have h1 := h t (by simp)
    have h2 := ih (fun u hu => h u (by simp [hu]))
    rw [countL, Nat.mul_add]
    simp only [flatTx, List.length_append]
    omega
theorem flatTx_append (tx : T → List UInt8) (l m : List T) : flatTx tx (l ++ m) = flatTx tx l ++ flatTx tx m := by
  induction l with
  | nil => simp [flatTx]
  | cons t l ih => simp [flatTx, ih]
/-- Lines, as the document lays them: each with what stands behind it. -/
theorem lines_flat (sep : List UInt8) (tx : T → List UInt8) (L : Nat) (l : List T) : linesTx sep sep tx L l = flatTx (fun t => padTx (L + 1) ++ (tx t ++ (sep ++ [10]))) l := by
  unfold linesTx
  cases l with
  | nil => rfl
  | cons t l =>
    rw [if_neg (by simp)]
    induction l generalizing t with
    | nil => simp [sepTx, flatTx]
    | cons u l ih =>
      have e : sepTx (sep ++ [10]) ((t :: u :: l).map fun t => padTx (L + 1) ++ tx t) = (padTx (L + 1) ++ tx t) ++ ((sep ++ [10]) ++ sepTx (sep ++ [10]) ((u :: l).map fun t => padTx (L + 1) ++ tx t)) := rfl
      rw [e, flatTx, ← ih u]
      simp [List.append_assoc]
end Go.Proofs.YtlkokcnbbihljaaGreatDoor

/- What trees that go by a rule look like, case by case; how long their texts can be. -/
namespace Go.Proofs.YtlkokcnbbihljaaGreatDoor

theorem only_yes {c : Bool} {l m : List (T × Rule)} (h : onlyIf c l = some m) : c = true ∧ l = m := by
  unfold onlyIf at h
  split at h
  · cases h; exact ⟨‹_›, rfl⟩
  · cases h
theorem head_parts {k k' : Int} {x : List UInt8} {m p : Int} {ts : List T} {most many : Int} {named : Bool} (h : headB (.mk k x m p ts) k' named most many = true) : k = k' ∧ 0 ≤ m ∧ m ≤ most ∧ (0 ≤ many → (ts.length : Int) = many) ∧ (named = true → nameB x = true) ∧ (named = false → x = []) := by
  unfold headB at h
  rw [Bool.and_eq_true, decide_eq_true_eq] at h
  obtain ⟨⟨h1, h2, h3, h4⟩, h5⟩ := h
  refine ⟨h1, h2, h3, h4, fun e => ?_, fun e => ?_⟩
  · subst e; simpa [T.name] using h5
  · subst e
    have : x.isEmpty = true := by simpa [T.name] using h5
    exact List.isEmpty_iff.1 this
theorem len0 {ts : List T} (h : (ts.length : Int) = 0) : ts = [] := List.eq_nil_of_length_eq_zero (by omega)
theorem len1 {ts : List T} (h : (ts.length : Int) = 1) : ∃ u, ts = [u] := List.length_eq_one_iff.1 (by omega)
theorem len2 {ts : List T} (h : (ts.length : Int) = 2) : ∃ u v, ts = [u, v] := by
  match ts, h with
  | [u, v], _ => exact ⟨u, v, rfl⟩
  | [], h => simp at h
  | [_], h => simp at h
  | _ :: _ :: _ :: l, h => simp at h; omega
theorem le1 {ts : List T} (h : ts.length ≤ 1) : ts = [] ∨ ∃ u, ts = [u] := by
  match ts, h with
  | [], _ => exact .inl rfl
  | [u], _ => exact .inr ⟨u, rfl⟩
  | _ :: _ :: l, h => simp at h
theorem all1 {u : T} {r : Rule} {l : List (T × Rule)} (e : zipR [u] [r] = l) (h : ∀ p ∈ l, Well p.2 p.1) : Well r u := by subst e; exact h (u, r) (by simp [zipR])
theorem all2 {u v : T} {r q : Rule} {l : List (T × Rule)} (e : zipR [u, v] [r, q] = l) (h : ∀ p ∈ l, Well p.2 p.1) : Well r u ∧ Well q v := by subst e; exact ⟨h (u, r) (by simp [zipR]), h (v, q) (by simp [zipR])⟩
theorem alle {us : List T} {r : Rule} {l : List (T × Rule)} (e : eachR us r = l) (h : ∀ p ∈ l, Well p.2 p.1) : ∀ u ∈ us, Well r u := by
  subst e
  intro u hu
  exact h (u, r) (List.mem_map.2 ⟨u, hu, rfl⟩)
theorem allf {u : T} {us : List T} {k m p : Int} {x : List UInt8} {r q : Rule} {l : List (T × Rule)} (e : firstR (.mk k x m p (u :: us)) r q = l) (h : ∀ p ∈ l, Well p.2 p.1) : Well r u ∧ ∀ v ∈ us, Well q v := by
  subst e
  refine ⟨h (u, r) (by simp [firstR, T.subs]), fun v hv => h (v, q) (List.mem_cons_of_mem _ (List.mem_map.2 ⟨v, hv, rfl⟩))⟩
theorem pos_cons {ts : List T} (h : 0 < ts.length) : ∃ u us, ts = u :: us := by
  match ts, h with
  | u :: us, _ => exact ⟨u, us, rfl⟩

/-- A name of a type. -/
inductive TN : T → Prop
  | plain (x : List UInt8) (p : Int) (h : nameB x = true) : TN (.mk 13 x 0 p [])
  | dot (x : List UInt8) (p : Int) (y : List UInt8) (q : Int) (h : nameB x = true) (hy : nameB y = true) : TN (.mk 13 x 0 p [.mk 24 y 0 q []])
theorem ref_of {t : T} (h : Well .ref t) : ∃ y q, t = .mk 24 y 0 q [] ∧ nameB y = true := by
  obtain ⟨l, hs, all⟩ := Well.iff.1 h
  obtain ⟨k, x, m, p, ts⟩ := t
  obtain ⟨h1, _⟩ := only_yes hs
  obtain ⟨rfl, a, b, c, d, _⟩ := head_parts h1
  obtain rfl : m = 0 := by omega
  obtain rfl := len0 (c (by omega))
  exact ⟨x, p, rfl, d rfl⟩
theorem tn_of' {t : T} {l : List (T × Rule)} (hs : typeNameR t = some l) (all : ∀ p ∈ l, Well p.2 p.1) : TN t := by
  obtain ⟨k, x, m, p, ts⟩ := t
  obtain ⟨h1, h2⟩ := only_yes hs
  rw [Bool.and_eq_true, decide_eq_true_eq] at h1
  obtain ⟨rfl, a, b, _, d, _⟩ := head_parts h1.1
  obtain rfl : m = 0 := by omega
  have hq := alle h2 all
  rcases le1 h1.2 with e | ⟨u, e⟩
  · change ts = [] at e; subst e; exact .plain x p (d rfl)
  · change ts = [u] at e
    subst e
    obtain ⟨y, q, rfl, hy⟩ := ref_of (hq u (by simp [T.subs]))
    exact .dot x p y q (d rfl) hy
theorem tn_of {t : T} (h : Well .typeName t) : TN t := by
  obtain ⟨l, hs, all⟩ := Well.iff.1 h
  exact tn_of' hs all
/-- .. or none. -/
theorem tno_of {t : T} (h : Well .typeNameOrNone t) : (∃ p, t = .mk 0 [] 0 p []) ∨ (t.kind = 13 ∧ TN t) := by
  obtain ⟨l, hs, all⟩ := Well.iff.1 h
  obtain ⟨k, x, m, p, ts⟩ := t
  by_cases hk : k = 0
  · subst hk
    obtain ⟨h1, _⟩ := only_yes (show onlyIf _ _ = _ from hs)
    obtain ⟨_, a, b, c, _, d⟩ := head_parts h1
    obtain rfl : m = 0 := by omega
    obtain rfl := len0 (c (by omega))
    obtain rfl := d rfl
    exact .inl ⟨p, rfl⟩
  · have hs' : typeNameR (.mk k x m p ts) = some l := by rw [← hs]; simp [stepR, T.kind, hk]
    have := tn_of' hs' all
    refine .inr ⟨?_, this⟩
    cases this <;> rfl

/-- An expression. -/
inductive EX : T → Prop
  | ref (x : List UInt8) (p : Int) (h : nameB x = true) : EX (.mk 24 x 0 p [])
  | dot (x : List UInt8) (p : Int) (u : T) (h : nameB x = true) (hu : Well .designator u) : EX (.mk 25 x 0 p [u])
  | index (p : Int) (u v : T) (hu : Well .designator u) (hv : Well .expression v) : EX (.mk 26 [] 0 p [u, v])
  | deref (p : Int) (u : T) (hu : Well .designator u) : EX (.mk 27 [] 0 p [u])
  | guard (p : Int) (u v : T) (hu : Well .designator u) (hv : TN v) : EX (.mk 28 [] 0 p [u, v])
  | number (m p : Int) (h0 : 0 ≤ m) (h1 : m ≤ 2147483647) : EX (.mk 29 [] m p [])
  | word (k p : Int) (hk : k = 30 ∨ k = 31 ∨ k = 32) : EX (.mk k [] 0 p [])
  | call (p : Int) (u : T) (us : List T) (hu : Well .designator u) (hs : ∀ v ∈ us, Well .expression v) : EX (.mk 33 [] 0 p (u :: us))
  | one (k p : Int) (u : T) (hk : k = 34 ∨ k = 35) (hu : Well .expression u) : EX (.mk k [] 0 p [u])
  | is (p : Int) (u v : T) (hu : Well .expression u) (hv : TN v) : EX (.mk 37 [] 0 p [u, v])
  | op (x : List UInt8) (p : Int) (u v : T) (hx : 0 ≤ levelOf x) (hu : Well .expression u) (hv : Well .expression v) : EX (.mk 36 x 0 p [u, v])
theorem de_of' {k : Int} {x : List UInt8} {m p : Int} {ts : List T} {l : List (T × Rule)} (hs : designatorR (.mk k x m p ts) = some l) (all : ∀ p ∈ l, Well p.2 p.1) : EX (.mk k x m p ts) := by
  unfold designatorR at hs
  by_cases h90 : (T.mk k x m p ts).kind = 24
  · rw [if_pos h90] at hs
    obtain ⟨h1, -⟩ := only_yes hs
    obtain ⟨rfl, a, b, c, d, _⟩ := head_parts h1
    obtain rfl : m = 0 := by omega
    obtain rfl := len0 (c (by omega))
    exact .ref x p (d rfl)
  rw [if_neg h90] at hs
  by_cases h91 : (T.mk k x m p ts).kind = 25
  · rw [if_pos h91] at hs
    obtain ⟨h1, h2⟩ := only_yes hs
    obtain ⟨rfl, a, b, c, d, _⟩ := head_parts h1
    obtain rfl : m = 0 := by omega
    obtain ⟨u, rfl⟩ := len1 (c (by omega))
    exact .dot x p u (d rfl) (all1 h2 all)
  rw [if_neg h91] at hs
  by_cases h92 : (T.mk k x m p ts).kind = 26
  · rw [if_pos h92] at hs
    obtain ⟨h1, h2⟩ := only_yes hs
    obtain ⟨rfl, a, b, c, _, d⟩ := head_parts h1
    obtain rfl : m = 0 := by omega
    obtain ⟨u, v, rfl⟩ := len2 (c (by omega))
    obtain rfl := d rfl
    obtain ⟨q1, q2⟩ := all2 h2 all
    exact .index p u v q1 q2
  rw [if_neg h92] at hs
  by_cases h93 : (T.mk k x m p ts).kind = 27
  · rw [if_pos h93] at hs
    obtain ⟨h1, h2⟩ := only_yes hs
    obtain ⟨rfl, a, b, c, _, d⟩ := head_parts h1
    obtain rfl : m = 0 := by omega
    obtain ⟨u, rfl⟩ := len1 (c (by omega))
    obtain rfl := d rfl
    exact .deref p u (all1 h2 all)
  rw [if_neg h93] at hs
  by_cases h94 : (T.mk k x m p ts).kind = 28
  · rw [if_pos h94] at hs
    obtain ⟨h1, h2⟩ := only_yes hs
    obtain ⟨rfl, a, b, c, _, d⟩ := head_parts h1
    obtain rfl : m = 0 := by omega
    obtain ⟨u, v, rfl⟩ := len2 (c (by omega))
    obtain rfl := d rfl
    obtain ⟨q1, q2⟩ := all2 h2 all
    exact .guard p u v q1 (tn_of q2)
  · rw [if_neg h94] at hs
    cases hs
theorem de_of {t : T} (h : Well .designator t) : EX t := by
  obtain ⟨l, hs, all⟩ := Well.iff.1 h
  obtain ⟨k, x, m, p, ts⟩ := t
  exact de_of' hs all
theorem de_kind {t : T} (h : Well .designator t) : t.kind = 24 ∨ t.kind = 25 ∨ t.kind = 26 ∨ t.kind = 27 ∨ t.kind = 28 := by
  obtain ⟨l, hs, _⟩ := Well.iff.1 h
  change designatorR t = some l at hs
  unfold designatorR at hs
  by_cases h1 : t.kind = 24
  · exact .inl h1
  by_cases h2 : t.kind = 25
  · exact .inr (.inl h2)
  by_cases h3 : t.kind = 26
  · exact .inr (.inr (.inl h3))
  by_cases h4 : t.kind = 27
  · exact .inr (.inr (.inr (.inl h4)))
  by_cases h5 : t.kind = 28
  · exact .inr (.inr (.inr (.inr h5)))
  · simp [h1, h2, h3, h4, h5] at hs
theorem ex_of_de {t : T} (h : Well .designator t) : Well .expression t := by
  have hk := de_kind h
  obtain ⟨l, hs, all⟩ := Well.iff.1 h
  refine .mk l ?_ all
  rw [← hs]
  show expressionR t = designatorR t
  unfold expressionR
  rcases hk with e | e | e | e | e <;> simp [e]
theorem ex_of {t : T} (h : Well .expression t) : EX t := by
  obtain ⟨l, hs, all⟩ := Well.iff.1 h
  obtain ⟨k, x, m, p, ts⟩ := t
  change expressionR (.mk k x m p ts) = some l at hs
  unfold expressionR at hs
  by_cases h90 : (T.mk k x m p ts).kind = 29
  · rw [if_pos h90] at hs
    obtain ⟨h1, -⟩ := only_yes hs
    obtain ⟨rfl, a, b, c, _, d⟩ := head_parts h1
    obtain rfl := len0 (c (by omega))
    obtain rfl := d rfl
    exact .number m p a b
  rw [if_neg h90] at hs
  by_cases h91 : (T.mk k x m p ts).kind = 30 ∨ (T.mk k x m p ts).kind = 31 ∨ (T.mk k x m p ts).kind = 32
  · rw [if_pos h91] at hs
    have hk : k = 30 ∨ k = 31 ∨ k = 32 := h91
    obtain ⟨h1, -⟩ := only_yes hs
    obtain ⟨-, a, b, c, _, d⟩ := head_parts h1
    obtain rfl : m = 0 := by omega
    obtain rfl := len0 (c (by omega))
    obtain rfl := d rfl
    exact .word k p hk
  rw [if_neg h91] at hs
  by_cases h92 : (T.mk k x m p ts).kind = 33
  · rw [if_pos h92] at hs
    obtain ⟨h1, h2⟩ := only_yes hs
    rw [Bool.and_eq_true, decide_eq_true_eq] at h1
    obtain ⟨rfl, a, b, _, _, d⟩ := head_parts h1.1
    obtain rfl : m = 0 := by omega
    obtain ⟨u, us, rfl⟩ := pos_cons (ts := ts) h1.2
    obtain rfl := d rfl
    obtain ⟨q1, q2⟩ := allf h2 all
    exact .call p u us q1 q2
  rw [if_neg h92] at hs
  by_cases h93 : (T.mk k x m p ts).kind = 34 ∨ (T.mk k x m p ts).kind = 35
  · rw [if_pos h93] at hs
    have hk : k = 34 ∨ k = 35 := h93
    obtain ⟨h1, h2⟩ := only_yes hs
    obtain ⟨-, a, b, c, _, d⟩ := head_parts h1
    obtain rfl : m = 0 := by omega
    obtain ⟨u, rfl⟩ := len1 (c (by omega))
    obtain rfl := d rfl
    exact .one k p u hk (all1 h2 all)
  rw [if_neg h93] at hs
  by_cases h94 : (T.mk k x m p ts).kind = 37
  · rw [if_pos h94] at hs
    obtain ⟨h1, h2⟩ := only_yes hs
    obtain ⟨rfl, a, b, c, _, d⟩ := head_parts h1
    obtain rfl : m = 0 := by omega
    obtain ⟨u, v, rfl⟩ := len2 (c (by omega))
    obtain rfl := d rfl
    obtain ⟨q1, q2⟩ := all2 h2 all
    exact .is p u v q1 (tn_of q2)
  rw [if_neg h94] at hs
  by_cases h95 : (T.mk k x m p ts).kind = 36
  · rw [if_pos h95] at hs
    have hk : k = 36 := h95
    subst hk
    obtain ⟨h1, h2⟩ := only_yes hs
    simp only [Bool.and_eq_true, beq_iff_eq, T.num, T.name, T.subs] at h1
    obtain ⟨⟨hx, rfl⟩, hl⟩ := h1
    obtain ⟨u, v, rfl⟩ := len2 (ts := ts) (by omega)
    obtain ⟨q1, q2⟩ := all2 h2 all
    exact .op x p u v (of_decide_eq_true hx) q1 q2
  · rw [if_neg h95] at hs
    exact de_of' hs all
theorem lv_len {x : List UInt8} (h : 0 ≤ levelOf x) : x.length ≤ 3 := by
  unfold levelOf at h
  have key : ∀ xs : List (List UInt8), (∀ y ∈ xs, y.length ≤ 3) → inB xs x = true → x.length ≤ 3 := fun xs hx hb => hx x (by unfold inB at hb; simpa using hb)
  split at h
  · rename_i h1; exact key _ (by decide) h1
  split at h
  · rename_i h1; exact key _ (by decide) h1
  split at h
  · rename_i h1; exact key _ (by decide) h1
  · omega
theorem nameB_len {x : List UInt8} (h : nameB x = true) : x.length ≤ 12 := by
  rcases Nat.lt_or_ge 12 x.length with h9 | h9
  · have := shape_long ⟨x.toArray⟩ (by simpa [ByteArray.size] using h9)
    simp at this
    rw [h] at this
    cases this
  · exact h9
theorem nameTx_len {t : T} (h : TN t) : (nameTx t).length ≤ 25 := by
  cases h with
  | plain x p h => have := nameB_len h; simp [nameTx, T.subs, T.name]; omega
  | dot x p y q h hy => have := nameB_len h; have := nameB_len hy; simp [nameTx, T.subs, T.name]; omega
theorem decTx_len : ∀ (f n : Nat), (decTx f n).length ≤ f := by
  intro f
  induction f with
  | zero => intro n; simp [decTx]
  | succ f ih => intro n; unfold decTx; split; · simp
                 · have := ih (n / 10); simp; omega
theorem numTx_len (n : Int) : (numTx n).length ≤ 11 := decTx_len 11 _
theorem countT_pos (t : T) : 1 ≤ countT t := by obtain ⟨k, x, m, p, l⟩ := t; rw [countT]; omega
theorem cnt1 (k : Int) (x : List UInt8) (m p : Int) (u : T) : countT (.mk k x m p [u]) = 1 + countT u := by rw [countT, countL, countL]; omega
theorem cnt2 (k : Int) (x : List UInt8) (m p : Int) (u v : T) : countT (.mk k x m p [u, v]) = 1 + countT u + countT v := by rw [countT, countL, countL, countL]; omega
theorem cntC (k : Int) (x : List UInt8) (m p : Int) (u : T) (us : List T) : countT (.mk k x m p (u :: us)) = 1 + countT u + countL us := by rw [countT, countL]; omega
theorem cnt0 (k : Int) (x : List UInt8) (m p : Int) : countT (.mk k x m p []) = 1 := by rw [countT, countL]
theorem expr_len : ∀ (f : Nat) (t : T), Well .expression t → (exprTx f t).length + 4 ≤ 40 * countT t := by
  intro f
  induction f with
  | zero => intro t _; have := countT_pos t; simp [exprTx]; omega
  | succ f ih =>
    intro t h
    have H := ex_of h
    clear h
    have hat : ∀ (u : T) (r : Int), Well .expression u → (if rankT u < r then 40 :: (exprTx f u ++ [41]) else exprTx f u).length + 2 ≤ 40 * countT u := by
      intro u r hu
      have := ih u hu
      split
      · simp; omega
      · omega
    cases H with
    | ref x p h => have := nameB_len h; rw [cnt0]; simp [exprTx, T.kind, T.name]; omega
    | dot x p u h hu => have := nameB_len h; have := ih u (ex_of_de hu); rw [cnt1]; simp [exprTx, T.kind, T.name, subT, T.subs]; omega
    | index p u v hu hv => have := ih u (ex_of_de hu); have := ih v hv; rw [cnt2]; simp [exprTx, T.kind, subT, T.subs]; omega
    | deref p u hu => have := ih u (ex_of_de hu); rw [cnt1]; simp [exprTx, T.kind, subT, T.subs]; omega
    | guard p u v hu hv => have := ih u (ex_of_de hu); have := nameTx_len hv; have := countT_pos v; rw [cnt2]; simp [exprTx, T.kind, subT, T.subs]; omega
    | number m p h0 h1 => have := numTx_len m; rw [cnt0]; simp [exprTx, T.kind, T.num]; omega
    | word k p hk => rw [cnt0]; rcases hk with rfl | rfl | rfl <;> simp [exprTx, T.kind]
    | call p u us hu hs =>
      have := ih u (ex_of_de hu)
      have h2 := sepTx_len [44, 32] (exprTx f) 40 us (fun v hv => by have := ih v (hs v hv); simp; omega)
      rw [cntC]
      have e : exprTx (f + 1) (.mk 33 [] 0 p (u :: us)) = exprTx f u ++ (40 :: (sepTx [44, 32] (us.map (exprTx f)) ++ [41])) := by simp [exprTx, T.kind, subT, T.subs]
      rw [e]
      simp
      omega
    | one k p u hk hu =>
      have h3 := hat u 3 hu
      have h2 := hat u 2 hu
      rw [cnt1]
      rcases hk with rfl | rfl
      · have e : exprTx (f + 1) (.mk 34 [] 0 p [u]) = 126 :: (if rankT u < 3 then 40 :: (exprTx f u ++ [41]) else exprTx f u) := by simp [exprTx, T.kind, subT, T.subs]
        rw [e, List.length_cons]; omega
      · have e : exprTx (f + 1) (.mk 35 [] 0 p [u]) = 45 :: (if rankT u < 2 then 40 :: (exprTx f u ++ [41]) else exprTx f u) := by simp [exprTx, T.kind, subT, T.subs]
        rw [e, List.length_cons]; omega
    | is p u v hu hv =>
      have h1 := hat u 1 hu
      have := nameTx_len hv
      have := countT_pos v
      rw [cnt2]
      have e : exprTx (f + 1) (.mk 37 [] 0 p [u, v]) = (if rankT u < 1 then 40 :: (exprTx f u ++ [41]) else exprTx f u) ++ ([32, 73, 83, 32] ++ nameTx v) := by simp [exprTx, T.kind, subT, T.subs]
      rw [e]
      simp only [List.length_append, List.length_cons, List.length_nil]
      omega
    | op x p u v hx hu hv =>
      have h1 := hat u (if levelOf x = 2 then 2 else 1) hu
      have h2 := hat v (if levelOf x = 1 then 2 else if levelOf x = 2 then 3 else 1) hv
      have h3 := lv_len hx
      rw [cnt2]
      have e : exprTx (f + 1) (.mk 36 x 0 p [u, v]) = (if rankT u < (if levelOf x = 2 then 2 else 1) then 40 :: (exprTx f u ++ [41]) else exprTx f u) ++ (32 :: (x ++ (32 :: (if rankT v < (if levelOf x = 1 then 2 else if levelOf x = 2 then 3 else 1) then 40 :: (exprTx f v ++ [41]) else exprTx f v)))) := by simp [exprTx, T.kind, subT, T.subs, T.name]; rfl
      rw [e]
      simp only [List.length_append, List.length_cons]
      omega
end Go.Proofs.YtlkokcnbbihljaaGreatDoor

/- What trees that go by a rule look like: acts, types, declarations, procedures, modules; how long their texts can be. -/
namespace Go.Proofs.YtlkokcnbbihljaaGreatDoor

/-- A list of nodes that go by a rule. -/
theorem list_of {r : Rule} {t : T} (h : Well (.list r) t) : ∃ p us, t = .mk 1 [] 0 p us ∧ ∀ u ∈ us, Well r u := by
  obtain ⟨l, hs, all⟩ := Well.iff.1 h
  obtain ⟨k, x, m, p, ts⟩ := t
  obtain ⟨h1, h2⟩ := only_yes (show onlyIf _ _ = _ from hs)
  obtain ⟨rfl, a, b, _, _, d⟩ := head_parts h1
  obtain rfl : m = 0 := by omega
  obtain rfl := d rfl
  exact ⟨p, ts, rfl, alle h2 all⟩
/-- Conditions and lists in turn. -/
inductive Turns : List T → Prop
  | nil : Turns []
  | one (x : T) (h : Well (.list .act) x) : Turns [x]
  | more (x y : T) (l : List T) (hx : Well .expression x) (hy : Well (.list .act) y) (h : Turns l) : Turns (x :: y :: l)
theorem turns_of : ∀ (us : List T), (∀ p ∈ turnR us, Well p.2 p.1) → Turns us
  | [], _ => .nil
  | [x], h => .one x (h (x, .list .act) (by simp [turnR]))
  | x :: y :: l, h => .more x y l (h (x, .expression) (by simp [turnR])) (h (y, .list .act) (by simp [turnR])) (turns_of l (fun p hp => h p (by simp [turnR, hp])))
/-- An act. -/
inductive AC : T → Prop
  | assign (p : Int) (u v : T) (hu : Well .designator u) (hv : Well .expression v) : AC (.mk 14 [] 0 p [u, v])
  | call (p : Int) (u : T) (us : List T) (hu : Well .designator u) (hs : ∀ v ∈ us, Well .expression v) : AC (.mk 15 [] 0 p (u :: us))
  | choice (m p : Int) (u v : T) (us : List T) (hm : m = (us.length : Int) % 2) (hu : Well .expression u) (hv : Well (.list .act) v) (hs : Turns us) : AC (.mk 16 [] m p (u :: v :: us))
  | loop (p : Int) (u v : T) (hu : Well .expression u) (hv : Well (.list .act) v) : AC (.mk 17 [] 0 p [u, v])
  | rept (p : Int) (u v : T) (hu : Well (.list .act) u) (hv : Well .expression v) : AC (.mk 18 [] 0 p [u, v])
  | ret0 (p : Int) : AC (.mk 19 [] 0 p [])
  | ret1 (p : Int) (u : T) (hu : Well .expression u) : AC (.mk 19 [] 0 p [u])
  | word (k p : Int) (u : T) (hk : k = 20 ∨ k = 21 ∨ k = 22 ∨ k = 23) (hu : Well .expression u) : AC (.mk k [] 0 p [u])
theorem ac_of {t : T} (h : Well .act t) : AC t := by
  obtain ⟨l, hs, all⟩ := Well.iff.1 h
  obtain ⟨k, x, m, p, ts⟩ := t
  change actR (.mk k x m p ts) = some l at hs
  unfold actR at hs
  by_cases h90 : (T.mk k x m p ts).kind = 16
  · rw [if_pos h90] at hs
    have hk : k = 16 := h90
    subst hk
    obtain ⟨h1, h2⟩ := only_yes hs
    simp only [Bool.and_eq_true, T.num, T.name, T.subs, List.isEmpty_iff] at h1
    obtain ⟨⟨rfl, hl⟩, hm⟩ := h1
    match ts, hl, hm, h2 with
    | u :: v :: us, hl, hm, h2 =>
      have ht := turns_of (u :: v :: us) (by intro q hq; exact all q (h2 ▸ hq))
      cases ht with
      | more _ _ _ hx hy ht => exact .choice m p u v us (by have hm2 := of_decide_eq_true hm; simp only [List.length_cons] at hm2; omega) hx hy ht
  rw [if_neg h90] at hs
  by_cases h91 : (T.mk k x m p ts).kind = 14
  · rw [if_pos h91] at hs
    obtain ⟨h1, h2⟩ := only_yes hs
    obtain ⟨rfl, a, b, c, _, d⟩ := head_parts h1
    obtain rfl : m = 0 := by omega
    obtain ⟨u, v, rfl⟩ := len2 (c (by omega))
    obtain rfl := d rfl
    obtain ⟨q1, q2⟩ := all2 h2 all
    exact .assign p u v q1 q2
  rw [if_neg h91] at hs
  by_cases h92 : (T.mk k x m p ts).kind = 15
  · rw [if_pos h92] at hs
    obtain ⟨h1, h2⟩ := only_yes hs
    rw [Bool.and_eq_true, decide_eq_true_eq] at h1
    obtain ⟨rfl, a, b, _, _, d⟩ := head_parts h1.1
    obtain rfl : m = 0 := by omega
    obtain ⟨u, us, rfl⟩ := pos_cons (ts := ts) h1.2
    obtain rfl := d rfl
    obtain ⟨q1, q2⟩ := allf h2 all
    exact .call p u us q1 q2
  rw [if_neg h92] at hs
  by_cases h93 : (T.mk k x m p ts).kind = 17
  · rw [if_pos h93] at hs
    obtain ⟨h1, h2⟩ := only_yes hs
    obtain ⟨rfl, a, b, c, _, d⟩ := head_parts h1
    obtain rfl : m = 0 := by omega
    obtain ⟨u, v, rfl⟩ := len2 (c (by omega))
    obtain rfl := d rfl
    obtain ⟨q1, q2⟩ := all2 h2 all
    exact .loop p u v q1 q2
  rw [if_neg h93] at hs
  by_cases h94 : (T.mk k x m p ts).kind = 18
  · rw [if_pos h94] at hs
    obtain ⟨h1, h2⟩ := only_yes hs
    obtain ⟨rfl, a, b, c, _, d⟩ := head_parts h1
    obtain rfl : m = 0 := by omega
    obtain ⟨u, v, rfl⟩ := len2 (c (by omega))
    obtain rfl := d rfl
    obtain ⟨q1, q2⟩ := all2 h2 all
    exact .rept p u v q1 q2
  rw [if_neg h94] at hs
  by_cases h95 : (T.mk k x m p ts).kind = 19
  · rw [if_pos h95] at hs
    obtain ⟨h1, h2⟩ := only_yes hs
    rw [Bool.and_eq_true, decide_eq_true_eq] at h1
    obtain ⟨rfl, a, b, _, _, d⟩ := head_parts h1.1
    obtain rfl : m = 0 := by omega
    obtain rfl := d rfl
    have hq := alle h2 all
    rcases le1 h1.2 with e | ⟨u, e⟩
    · change ts = [] at e; subst e; exact .ret0 p
    · change ts = [u] at e; subst e; exact .ret1 p u (hq u (by simp [T.subs]))
  rw [if_neg h95] at hs
  by_cases h96 : (T.mk k x m p ts).kind = 20 ∨ (T.mk k x m p ts).kind = 22
  · rw [if_pos h96] at hs
    have hk : k = 20 ∨ k = 22 := h96
    obtain ⟨h1, h2⟩ := only_yes hs
    obtain ⟨-, a, b, c, _, d⟩ := head_parts h1
    obtain rfl : m = 0 := by omega
    obtain ⟨u, rfl⟩ := len1 (c (by omega))
    obtain rfl := d rfl
    exact .word k p u (by rcases hk with h | h <;> simp [h]) (ex_of_de (all1 h2 all))
  rw [if_neg h96] at hs
  by_cases h97 : (T.mk k x m p ts).kind = 21 ∨ (T.mk k x m p ts).kind = 23
  · rw [if_pos h97] at hs
    have hk : k = 21 ∨ k = 23 := h97
    obtain ⟨h1, h2⟩ := only_yes hs
    obtain ⟨-, a, b, c, _, d⟩ := head_parts h1
    obtain rfl : m = 0 := by omega
    obtain ⟨u, rfl⟩ := len1 (c (by omega))
    obtain rfl := d rfl
    exact .word k p u (by rcases hk with h | h <;> simp [h]) (all1 h2 all)
  · rw [if_neg h97] at hs
    cases hs
/-- What is declared: a name, a number, one node below. -/
theorem decl_of {k most : Int} {r : Rule} {t : T} (h : Well (.declared k most r) t) : ∃ x m p u, t = .mk k x m p [u] ∧ nameB x = true ∧ 0 ≤ m ∧ m ≤ most ∧ Well r u := by
  obtain ⟨l, hs, all⟩ := Well.iff.1 h
  obtain ⟨k', x, m, p, ts⟩ := t
  obtain ⟨h1, h2⟩ := only_yes (show onlyIf _ _ = _ from hs)
  obtain ⟨rfl, a, b, c, d, _⟩ := head_parts h1
  obtain ⟨u, rfl⟩ := len1 (c (by omega))
  exact ⟨x, m, p, u, rfl, d rfl, a, b, all1 h2 all⟩
/-- A type itself. -/
inductive TY : T → Prop
  | array (m p : Int) (u : T) (h0 : 0 ≤ m) (h1 : m ≤ 2147483647) (hu : TN u) : TY (.mk 9 [] m p [u])
  | pointer (p : Int) (u : T) (hu : TN u) : TY (.mk 12 [] 0 p [u])
  | record (p : Int) (u : T) (us : List T) (hu : (∃ q, u = .mk 0 [] 0 q []) ∨ (u.kind = 13 ∧ TN u)) (hs : ∀ v ∈ us, Well (.declared 11 1 .typeName) v) : TY (.mk 10 [] 0 p (u :: us))
theorem ty_of {t : T} (h : Well .typeItself t) : TY t := by
  obtain ⟨l, hs, all⟩ := Well.iff.1 h
  obtain ⟨k, x, m, p, ts⟩ := t
  simp only [stepR] at hs
  by_cases h90 : (T.mk k x m p ts).kind = 9
  · rw [if_pos h90] at hs
    obtain ⟨h1, h2⟩ := only_yes hs
    obtain ⟨rfl, a, b, c, _, d⟩ := head_parts h1
    obtain ⟨u, rfl⟩ := len1 (c (by omega))
    obtain rfl := d rfl
    exact .array m p u a b (tn_of (all1 h2 all))
  rw [if_neg h90] at hs
  by_cases h91 : (T.mk k x m p ts).kind = 12
  · rw [if_pos h91] at hs
    obtain ⟨h1, h2⟩ := only_yes hs
    obtain ⟨rfl, a, b, c, _, d⟩ := head_parts h1
    obtain rfl : m = 0 := by omega
    obtain ⟨u, rfl⟩ := len1 (c (by omega))
    obtain rfl := d rfl
    exact .pointer p u (tn_of (all1 h2 all))
  rw [if_neg h91] at hs
  by_cases h92 : (T.mk k x m p ts).kind = 10
  · rw [if_pos h92] at hs
    obtain ⟨h1, h2⟩ := only_yes hs
    rw [Bool.and_eq_true, decide_eq_true_eq] at h1
    obtain ⟨rfl, a, b, _, _, d⟩ := head_parts h1.1
    obtain rfl : m = 0 := by omega
    obtain ⟨u, us, rfl⟩ := pos_cons (ts := ts) h1.2
    obtain rfl := d rfl
    obtain ⟨q1, q2⟩ := allf h2 all
    exact .record p u us (tno_of q1) q2
  · rw [if_neg h92] at hs
    cases hs
theorem imp_of {t : T} (h : Well .imported t) : ∃ x p, t = .mk 3 x 0 p [] ∧ nameB x = true := by
  obtain ⟨l, hs, all⟩ := Well.iff.1 h
  obtain ⟨k, x, m, p, ts⟩ := t
  obtain ⟨h1, _⟩ := only_yes (show onlyIf _ _ = _ from hs)
  obtain ⟨rfl, a, b, c, d, _⟩ := head_parts h1
  obtain rfl : m = 0 := by omega
  obtain rfl := len0 (c (by omega))
  exact ⟨x, p, rfl, d rfl⟩
theorem len4 {ts : List T} (h : (ts.length : Int) = 4) : ∃ a b c d, ts = [a, b, c, d] := by
  match ts, h with
  | [a, b, c, d], _ => exact ⟨a, b, c, d, rfl⟩
  | [], h => simp at h
  | [_], h => simp at h
  | [_, _], h => simp at h
  | [_, _, _], h => simp at h
  | _ :: _ :: _ :: _ :: _ :: l, h => simp at h; omega
theorem len6 {ts : List T} (h : (ts.length : Int) = 6) : ∃ a b c d e f, ts = [a, b, c, d, e, f] := by
  match ts, h with
  | [a, b, c, d, e, f], _ => exact ⟨a, b, c, d, e, f, rfl⟩
  | [], h => simp at h
  | [_], h => simp at h
  | [_, _], h => simp at h
  | [_, _, _], h => simp at h
  | [_, _, _, _], h => simp at h
  | [_, _, _, _, _], h => simp at h
  | _ :: _ :: _ :: _ :: _ :: _ :: _ :: l, h => simp at h; omega
theorem proc_of {t : T} (h : Well .procedure t) : ∃ x m p ps rs vs bs, t = .mk 7 x m p [ps, rs, vs, bs] ∧ nameB x = true ∧ 0 ≤ m ∧ m ≤ 1 ∧ Well (.list (.declared 8 1 .typeName)) ps ∧ ((∃ q, rs = .mk 0 [] 0 q []) ∨ (rs.kind = 13 ∧ TN rs)) ∧ Well (.list (.declared 6 0 .typeName)) vs ∧ Well (.list .act) bs := by
  obtain ⟨l, hs, all⟩ := Well.iff.1 h
  obtain ⟨k, x, m, p, ts⟩ := t
  obtain ⟨h1, h2⟩ := only_yes (show onlyIf _ _ = _ from hs)
  obtain ⟨rfl, a, b, c, d, _⟩ := head_parts h1
  obtain ⟨ps, rs, vs, bs, rfl⟩ := len4 (c (by omega))
  subst h2
  exact ⟨x, m, p, ps, rs, vs, bs, rfl, d rfl, a, b, all (ps, _) (by simp [zipR, T.subs]), tno_of (all (rs, .typeNameOrNone) (by simp [zipR, T.subs])), all (vs, _) (by simp [zipR, T.subs]), all (bs, .list .act) (by simp [zipR, T.subs])⟩
theorem mod_of {t : T} (h : Well .module t) : ∃ x p is cs ts vs ps bs, t = .mk 2 x 0 p [is, cs, ts, vs, ps, bs] ∧ nameB x = true ∧ Well (.list .imported) is ∧ Well (.list (.declared 4 1 .expression)) cs ∧ Well (.list (.declared 5 1 .typeItself)) ts ∧ Well (.list (.declared 6 1 .typeName)) vs ∧ Well (.list .procedure) ps ∧ Well (.list .act) bs := by
  obtain ⟨l, hs, all⟩ := Well.iff.1 h
  obtain ⟨k, x, m, p, us⟩ := t
  obtain ⟨h1, h2⟩ := only_yes (show onlyIf _ _ = _ from hs)
  obtain ⟨rfl, a, b, c, d, _⟩ := head_parts h1
  obtain rfl : m = 0 := by omega
  obtain ⟨is, cs, ts, vs, ps, bs, rfl⟩ := len6 (c (by omega))
  subst h2
  exact ⟨x, p, is, cs, ts, vs, ps, bs, rfl, d rfl, all (is, .list .imported) (by simp [zipR, T.subs]), all (cs, .list (.declared 4 1 .expression)) (by simp [zipR, T.subs]), all (ts, .list (.declared 5 1 .typeItself)) (by simp [zipR, T.subs]), all (vs, .list (.declared 6 1 .typeName)) (by simp [zipR, T.subs]), all (ps, .list .procedure) (by simp [zipR, T.subs]), all (bs, .list .act) (by simp [zipR, T.subs])⟩

/-! ### Lengths -/
theorem starTx_len {t : T} (h : nameB t.name = true) : (starTx t).length ≤ 13 := by
  have := nameB_len h
  unfold starTx
  split <;> simp <;> omega
theorem lines_len (sep last : List UInt8) (tx : T → List UInt8) (L c : Nat) (l : List T) (h1 : last.length ≤ sep.length) (h : ∀ t ∈ l, (tx t).length + (2 * L + 2 + sep.length + 1) ≤ c * countT t) : (linesTx sep last tx L l).length ≤ c * countL l + sep.length + 1 := by
  unfold linesTx
  split
  · simp
  · have := sepTx_len (sep ++ [10]) (fun t => padTx (L + 1) ++ tx t) c l (fun t ht => by have := h t ht; simp [padTx_len]; omega)
    simp only [List.length_append, List.length_cons, List.length_nil]
    omega
theorem depth_mem {l : List T} {u : T} (h : u ∈ l) : depthT u ≤ depthL l := by
  induction l with
  | nil => cases h
  | cons t l ih =>
    rw [depthL]
    rcases List.mem_cons.1 h with rfl | h
    · exact Nat.le_max_left _ _
    · exact Nat.le_trans (ih h) (Nat.le_max_right _ _)
/-- An act's text, by how deep it stands: no more than so long. -/
theorem act_len : ∀ (f L : Nat) (t : T), f + L ≤ 100 → Well .act t → (actTx f L t).length + 210 ≤ 700 * countT t := by
  intro f
  induction f with
  | zero => intro L t _ _; have := countT_pos t; simp [actTx]; omega
  | succ f ih =>
    intro L t hL h
    have H := ac_of h
    clear h
    have hpad := padTx_len L
    have acts : ∀ u, Well (.list .act) u → (linesTx [59] [] (actTx f (L + 1)) L u.subs).length + 300 ≤ 700 * countT u := by
      intro u hu
      obtain ⟨p, us, rfl, hw⟩ := list_of hu
      have := lines_len [59] [] (actTx f (L + 1)) L 700 us (by simp) (fun t ht => by have := ih (L + 1) t (by omega) (hw t ht); simp; omega)
      rw [countT]
      simp only [List.length_cons, List.length_nil] at this
      simp only [T.subs]
      omega
    have rest : ∀ us, Turns us → (restTx (exprTx f) (fun u => linesTx [59] [] (actTx f (L + 1)) L u.subs) L us).length ≤ 700 * countL us := by
      intro us hus
      induction hus with
      | nil => simp [restTx]
      | one x hx => have := acts x hx; simp only [restTx, countL, List.length_append, List.length_cons, List.length_nil]; omega
      | more x y l hx hy _ ihl =>
        have := acts y hy
        have := expr_len f x hx
        simp only [restTx, countL, List.length_append, List.length_cons, List.length_nil]
        omega
    cases H with
    | assign p u v hu hv =>
      have := expr_len f u (ex_of_de hu); have := expr_len f v hv
      rw [cnt2]; simp [actTx, T.kind, subT, T.subs]; omega
    | call p u us hu hs =>
      have := expr_len f u (ex_of_de hu)
      have h2 := sepTx_len [44, 32] (exprTx f) 40 us (fun v hv => by have := expr_len f v (hs v hv); simp; omega)
      rw [cntC]
      have e : actTx (f + 1) L (.mk 15 [] 0 p (u :: us)) = exprTx f u ++ (if 1 < (u :: us).length then argsTx f us else []) := by simp [actTx, T.kind, subT, T.subs]
      rw [e]
      unfold argsTx
      split <;> simp <;> omega
    | choice m p u v us hm hu hv hs =>
      have := expr_len f u hu; have := acts v hv; have := rest us hs
      have e : actTx (f + 1) L (.mk 16 [] m p (u :: v :: us)) = [73, 70, 32] ++ (exprTx f u ++ ([32, 84, 72, 69, 78, 10] ++ (linesTx [59] [] (actTx f (L + 1)) L v.subs ++ (restTx (exprTx f) (fun u => linesTx [59] [] (actTx f (L + 1)) L u.subs) L us ++ (padTx L ++ [69, 78, 68]))))) := by simp [actTx, T.kind, subT, T.subs]
      rw [e, cntC, countL]
      simp only [List.length_append, List.length_cons, List.length_nil]
      omega
    | loop p u v hu hv =>
      have := expr_len f u hu; have := acts v hv
      have e : actTx (f + 1) L (.mk 17 [] 0 p [u, v]) = [87, 72, 73, 76, 69, 32] ++ (exprTx f u ++ ([32, 68, 79, 10] ++ (linesTx [59] [] (actTx f (L + 1)) L v.subs ++ (padTx L ++ [69, 78, 68])))) := by simp [actTx, T.kind, subT, T.subs]
      rw [e, cnt2]
      simp only [List.length_append, List.length_cons, List.length_nil]
      omega
    | rept p u v hu hv =>
      have := expr_len f v hv; have := acts u hu
      have e : actTx (f + 1) L (.mk 18 [] 0 p [u, v]) = [82, 69, 80, 69, 65, 84, 10] ++ (linesTx [59] [] (actTx f (L + 1)) L u.subs ++ (padTx L ++ ([85, 78, 84, 73, 76, 32] ++ exprTx f v))) := by simp [actTx, T.kind, subT, T.subs]
      rw [e, cnt2]
      simp only [List.length_append, List.length_cons, List.length_nil]
      omega
    | ret0 p => rw [cnt0]; simp [actTx, T.kind, T.subs]
    | ret1 p u hu => have := expr_len f u hu; rw [cnt1]; simp [actTx, T.kind, subT, T.subs]; omega
    | word k p u hk hu =>
      have := expr_len f u hu
      rw [cnt1]
      have e : actTx (f + 1) L (.mk k [] 0 p [u]) = wordTx k ++ (40 :: (exprTx f u ++ [41])) := by rcases hk with rfl | rfl | rfl | rfl <;> simp [actTx, T.kind, subT, T.subs]
      have hw : (wordTx k).length ≤ 6 := by unfold wordTx; (repeat' split) <;> simp
      rw [e]
      simp only [List.length_append, List.length_cons, List.length_nil]
      omega
end Go.Proofs.YtlkokcnbbihljaaGreatDoor

/- What is worked out of a tree, as functions: the document's words H1; and what is kept by it. -/
namespace Go.Proofs.YtlkokcnbbihljaaGreatDoor

/-- A loop without rounds. -/
def idleB (t : T) : Bool := decide (t.kind = 17) && decide ((subT t 0).kind = 31)
/-- The number that a node tells. -/
def numOf (t : T) : Option Int := if t.kind = 29 then some t.num else if t.kind = 35 ∧ (subT t 0).kind = 29 then some (-(subT t 0).num) else none
def boolT (b : Bool) (p : Int) : T := .mk (if b then 30 else 31) [] 0 p []
def numT (v p : Int) : T := if v < 0 then .mk 35 [] 0 p [.mk 29 [] (-v) p []] else .mk 29 [] v p []
/-- Within 32 bits. -/
def arZ (n : Int) : Int := (n + 2147483648) % 4294967296 - 2147483648
def opZ (x : List UInt8) (a b : Int) : Option Int :=
  if x = [43] then some (arZ (a + b)) else if x = [45] then some (arZ (a - b)) else if x = [42] then some (arZ (a * b)) else
  if b ≤ 0 then none else if x = [77, 79, 68] then some (a % b) else some (a / b)
def relZ (x : List UInt8) (a b : Int) : Bool :=
  if x = [61] then decide (a = b) else if x = [35] then decide (a ≠ b) else if x = [60] then decide (a < b) else if x = [60, 61] then decide (a ≤ b) else if x = [62] then decide (a > b) else decide (a ≥ b)
def workT (t : T) (a b : Int) : T :=
  if levelOf t.name = 0 then boolT (relZ t.name a b) t.at' else
  match opZ t.name a b with
  | some z => if z = -2147483648 then t else numT z t.at'
  | none => t
def opT (t : T) : T :=
  if t.name = [38] ∨ t.name = [79, 82] then
    (if (subT t 0).kind = 30 then (if t.name = [38] then subT t 1 else subT t 0) else if (subT t 0).kind = 31 then (if t.name = [38] then subT t 0 else subT t 1) else t)
  else
    match numOf (subT t 0), numOf (subT t 1) with
    | some a, some b => workT t a b
    | _, _ => t
/-- What is put for a node whose parts are worked out. -/
def plainT (t : T) : T :=
  if t.kind = 34 then (if (subT t 0).kind = 30 then boolT false t.at' else if (subT t 0).kind = 31 then boolT true t.at' else t) else
  if t.kind = 36 then opT t else t
mutual
def foldT : T → T
  | .mk k x n p l => plainT (.mk k x n p (foldL l))
def foldL : List T → List T
  | [] => []
  | t :: l => if idleB (foldT t) then foldL l else foldT t :: foldL l
end

/-- What a tree must have to be worked out: parts where they are asked for, numbers of 32 bits, loops in lists alone. -/
inductive GT : T → Prop
  | mk (k : Int) (x : List UInt8) (n p : Int) (l : List T) (hl : ∀ u ∈ l, GT u) (h1 : k = 34 ∨ k = 35 → l.length = 1) (h2 : k = 36 → l.length = 2 ∧ 0 ≤ levelOf x) (h3 : k = 17 → l.length = 2) (h4 : k = 29 → 0 ≤ n ∧ n ≤ 2147483647) (h5 : k ≠ 1 → ∀ u ∈ l, u.kind ≠ 17) : GT (.mk k x n p l)
theorem GT.sub {t u : T} (h : GT t) (hu : u ∈ t.subs) : GT u := by cases h with | mk k x n p l hl => exact hl u hu
theorem subT_mem {t : T} {i : Nat} (h : i < t.subs.length) : subT t i ∈ t.subs := by
  unfold subT
  rw [List.getElem?_eq_getElem h]
  exact List.getElem_mem h
theorem gt_leaf (k : Int) (x : List UInt8) (n p : Int) (h1 : k ≠ 34 ∧ k ≠ 35 ∧ k ≠ 36 ∧ k ≠ 17) (h4 : k = 29 → 0 ≤ n ∧ n ≤ 2147483647) : GT (.mk k x n p []) :=
  .mk k x n p [] (fun _ h => by cases h) (fun h => by omega) (fun h => by omega) (fun h => by omega) h4 (fun _ _ h => by cases h)
theorem gt_bool (b : Bool) (p : Int) : GT (boolT b p) := by
  unfold boolT
  exact gt_leaf _ _ _ _ (by cases b <;> simp) (fun h => by cases b <;> simp at h)
theorem gt_num {v p : Int} (h0 : -2147483647 ≤ v) (h1 : v ≤ 2147483647) : GT (numT v p) := by
  unfold numT
  split
  · have h9 : GT (.mk 29 [] (-v) p []) := gt_leaf _ _ _ _ (by omega) (fun _ => by omega)
    exact .mk 35 [] 0 p _ (fun u hu => by rw [List.mem_singleton] at hu; subst hu; exact h9) (fun _ => rfl) (fun h => by omega) (fun h => by omega) (fun h => by omega) (fun _ u hu => by rw [List.mem_singleton] at hu; subst hu; simp [T.kind])
  · exact gt_leaf _ _ _ _ (by omega) (fun _ => by omega)
theorem boolT_kind (b : Bool) (p : Int) : (boolT b p).kind ≠ 17 := by cases b <;> simp [boolT, T.kind]
theorem numT_kind (v p : Int) : (numT v p).kind ≠ 17 := by unfold numT; split <;> simp [T.kind]
theorem numOf_rng {t : T} (h : GT t) {v : Int} (hv : numOf t = some v) : -2147483647 ≤ v ∧ v ≤ 2147483647 := by
  cases h with
  | mk k x n p l hl h1 h2 h3 h4 h5 =>
    unfold numOf at hv
    split at hv
    · rename_i hk
      have := h4 hk
      cases hv
      exact ⟨by show -2147483647 ≤ n; omega, by show n ≤ 2147483647; omega⟩
    · split at hv
      · rename_i hk
        have hlen := h1 (Or.inr hk.1)
        have hg := hl _ (show subT (T.mk k x n p l) 0 ∈ l from subT_mem (t := T.mk k x n p l) (by show 0 < l.length; omega))
        cases hv
        generalize subT (T.mk k x n p l) 0 = u at *
        cases hg with
        | mk k' x' n' p' l' _ _ _ _ h4' _ =>
          have := h4' hk.2
          simp only [T.num]
          omega
      · cases hv
theorem arZ_rng (n : Int) : -2147483648 ≤ arZ n ∧ arZ n ≤ 2147483647 := by unfold arZ; omega
theorem opZ_rng {x : List UInt8} {a b z : Int} (ha : -2147483647 ≤ a ∧ a ≤ 2147483647) (hb : -2147483647 ≤ b ∧ b ≤ 2147483647) (h : opZ x a b = some z) : -2147483648 ≤ z ∧ z ≤ 2147483647 := by
  unfold opZ at h
  split at h
  · cases h; exact arZ_rng _
  split at h
  · cases h; exact arZ_rng _
  split at h
  · cases h; exact arZ_rng _
  split at h
  · cases h
  rename_i hb0
  split at h
  · cases h
    have h1 := Int.emod_nonneg a (show b ≠ 0 by omega)
    have h2 := Int.emod_lt_of_pos a (show 0 < b by omega)
    omega
  · cases h
    have h1 := Int.mul_ediv_add_emod a b
    have h2 := Int.emod_nonneg a (show b ≠ 0 by omega)
    have h3 := Int.emod_lt_of_pos a (show 0 < b by omega)
    constructor
    · by_cases h9 : a / b < -2147483648
      · have : b * (a / b) ≤ b * (-2147483649) := Int.mul_le_mul_of_nonneg_left (by omega) (by omega)
        omega
      · omega
    · by_cases h9 : 2147483647 < a / b
      · have : b * 2147483648 ≤ b * (a / b) := Int.mul_le_mul_of_nonneg_left (by omega) (by omega)
        omega
      · omega
theorem gt_work {t : T} (h : GT t) (hk : t.kind ≠ 17) {a b : Int} (ha : -2147483647 ≤ a ∧ a ≤ 2147483647) (hb : -2147483647 ≤ b ∧ b ≤ 2147483647) : GT (workT t a b) ∧ (workT t a b).kind ≠ 17 := by
  unfold workT
  split
  · exact ⟨gt_bool _ _, boolT_kind _ _⟩
  · split
    · rename_i z hz
      have := opZ_rng ha hb hz
      split
      · exact ⟨h, hk⟩
      · exact ⟨gt_num (by omega) (by omega), numT_kind _ _⟩
    · exact ⟨h, hk⟩
theorem gt_plain {t : T} (h : GT t) : GT (plainT t) ∧ (t.kind ≠ 17 → (plainT t).kind ≠ 17) := by
  unfold plainT
  split
  · split
    · exact ⟨gt_bool _ _, fun _ => boolT_kind _ _⟩
    · split
      · exact ⟨gt_bool _ _, fun _ => boolT_kind _ _⟩
      · exact ⟨h, id⟩
  · split
    · rename_i hk
      have hh := h
      cases h with
      | mk k x n p l hl h1 h2 h3 h4 h5 =>
        have hlen := (h2 hk).1
        have m0 : subT (T.mk k x n p l) 0 ∈ l := subT_mem (t := T.mk k x n p l) (by show 0 < l.length; omega)
        have m1 : subT (T.mk k x n p l) 1 ∈ l := subT_mem (t := T.mk k x n p l) (by show 1 < l.length; omega)
        have hk36 : k = 36 := hk
        have hk1 : k ≠ 1 := by omega
        have p0 := hl _ m0
        have p1 := hl _ m1
        have k0 := h5 hk1 _ m0
        have k1 := h5 hk1 _ m1
        unfold opT
        split
        · split
          · split
            · exact ⟨p1, fun _ => k1⟩
            · exact ⟨p0, fun _ => k0⟩
          · split
            · split
              · exact ⟨p0, fun _ => k0⟩
              · exact ⟨p1, fun _ => k1⟩
            · exact ⟨hh, id⟩
        · split
          · rename_i a b ea eb
            have hk17 : (T.mk k x n p l).kind ≠ 17 := by rw [hk]; decide
            have := gt_work hh hk17 (numOf_rng p0 ea) (numOf_rng p1 eb)
            exact ⟨this.1, fun _ => this.2⟩
          · exact ⟨hh, id⟩
    · exact ⟨h, id⟩
theorem not_idle {t : T} (h : t.kind ≠ 17) : idleB t = false := by simp [idleB, h]
theorem foldL_map {l : List T} (h : ∀ u ∈ l, (foldT u).kind ≠ 17) : foldL l = l.map foldT := by
  induction l with
  | nil => rw [foldL]; rfl
  | cons t l ih =>
    rw [foldL, not_idle (h t (by simp)), ih (fun u hu => h u (by simp [hu]))]
    rfl
theorem foldL_mem {l : List T} {u : T} (h : u ∈ foldL l) : ∃ v ∈ l, u = foldT v := by
  induction l with
  | nil => rw [foldL] at h; cases h
  | cons t l ih =>
    rw [foldL] at h
    split at h
    · obtain ⟨v, hv, e⟩ := ih h
      exact ⟨v, by simp [hv], e⟩
    · rcases List.mem_cons.1 h with rfl | h
      · exact ⟨t, by simp, rfl⟩
      · obtain ⟨v, hv, e⟩ := ih h
        exact ⟨v, by simp [hv], e⟩
/-- A node with its parts worked out; and itself. -/
theorem gt_fold {t : T} (h : GT t) : GT (.mk t.kind t.name t.num t.at' (foldL t.subs)) ∧ GT (foldT t) ∧ (t.kind ≠ 17 → (foldT t).kind ≠ 17) := by
  induction h with
  | mk k x n p l hl h1 h2 h3 h4 h5 ih =>
    have hm : k ≠ 1 → foldL l = l.map foldT := fun hk => foldL_map (fun u hu => (ih u hu).2.2 (h5 hk u hu))
    have hg : GT (.mk k x n p (foldL l)) := by
      refine .mk k x n p _ (fun u hu => ?_) (fun hk => ?_) (fun hk => ?_) (fun hk => ?_) h4 (fun hk u hu => ?_)
      · obtain ⟨v, hv, rfl⟩ := foldL_mem hu
        exact (ih v hv).2.1
      · rw [hm (by omega), List.length_map]; exact h1 hk
      · rw [hm (by omega), List.length_map]; exact h2 hk
      · rw [hm (by omega), List.length_map]; exact h3 hk
      · obtain ⟨v, hv, rfl⟩ := foldL_mem hu
        exact (ih v hv).2.2 (h5 hk v hv)
    refine ⟨hg, ?_, ?_⟩
    · rw [foldT]; exact (gt_plain hg).1
    · intro hk; rw [foldT]; exact (gt_plain hg).2 hk
theorem fold_node {k : Int} {x : List UInt8} {n p : Int} {l : List T} : foldT (.mk k x n p l) = plainT (.mk k x n p (foldL l)) := by rw [foldT]
/-- Where no list stands nothing is left out. -/
theorem fold_all {k : Int} {x : List UInt8} {n p : Int} {l : List T} (h : GT (.mk k x n p l)) (hk : k ≠ 1) : foldL l = l.map foldT := by
  cases h with
  | mk _ _ _ _ _ hl h1 h2 h3 h4 h5 => exact foldL_map (fun u hu => (gt_fold (hl u hu)).2.2 (h5 hk u hu))

/-! ### Trees that have the shape of a text's -/
theorem gt_tn {t : T} (h : TN t) : GT t ∧ t.kind ≠ 17 := by
  cases h with
  | plain x p hx => exact ⟨gt_leaf _ _ _ _ (by omega) (fun h => by omega), by simp [T.kind]⟩
  | dot x p y q hx hy =>
    refine ⟨.mk 13 x 0 p _ (fun u hu => ?_) (fun h => by omega) (fun h => by omega) (fun h => by omega) (fun h => by omega) (fun _ u hu => ?_), by simp [T.kind]⟩
    · rw [List.mem_singleton] at hu; subst hu; exact gt_leaf _ _ _ _ (by omega) (fun h => by omega)
    · rw [List.mem_singleton] at hu; subst hu; simp [T.kind]
theorem gt_plainkind (k : Int) (x : List UInt8) (n p : Int) (l : List T) (hk : k ≠ 34 ∧ k ≠ 35 ∧ k ≠ 36 ∧ k ≠ 17 ∧ k ≠ 29) (h : ∀ u ∈ l, GT u) (h5 : k ≠ 1 → ∀ u ∈ l, u.kind ≠ 17) : GT (.mk k x n p l) :=
  .mk k x n p l h (fun h9 => by omega) (fun h9 => by omega) (fun h9 => by omega) (fun h9 => by omega) h5
theorem gt_ex : ∀ (f : Nat) (t : T), depthT t ≤ f → Well .expression t → GT t ∧ t.kind ≠ 17 := by
  intro f
  induction f with
  | zero => intro t h; obtain ⟨k, x, n, p, l⟩ := t; rw [depthT] at h; omega
  | succ f ih =>
    intro t ht h
    have sub : ∀ u, u ∈ t.subs → Well .expression u → GT u ∧ u.kind ≠ 17 := fun u hu hw => ih u (by have := depth_sub hu; omega) hw
    have H := ex_of h
    clear h
    cases H with
    | ref x p hx => exact ⟨gt_leaf _ _ _ _ (by omega) (fun h => by omega), by simp [T.kind]⟩
    | dot x p u hx hu =>
      have := sub u (by simp [T.subs]) (ex_of_de hu)
      exact ⟨gt_plainkind _ _ _ _ _ (by omega) (fun v hv => by rw [List.mem_singleton] at hv; subst hv; exact this.1) (fun _ v hv => by rw [List.mem_singleton] at hv; subst hv; exact this.2), by simp [T.kind]⟩
    | index p u v hu hv =>
      have a := sub u (by simp [T.subs]) (ex_of_de hu)
      have b := sub v (by simp [T.subs]) hv
      refine ⟨gt_plainkind _ _ _ _ _ (by omega) (fun z hz => ?_) (fun _ z hz => ?_), by simp [T.kind]⟩ <;> rcases List.mem_cons.1 hz with rfl | hz
      · exact a.1
      · rw [List.mem_singleton] at hz; subst hz; exact b.1
      · exact a.2
      · rw [List.mem_singleton] at hz; subst hz; exact b.2
    | deref p u hu =>
      have := sub u (by simp [T.subs]) (ex_of_de hu)
      exact ⟨gt_plainkind _ _ _ _ _ (by omega) (fun v hv => by rw [List.mem_singleton] at hv; subst hv; exact this.1) (fun _ v hv => by rw [List.mem_singleton] at hv; subst hv; exact this.2), by simp [T.kind]⟩
    | guard p u v hu hv =>
      have a := sub u (by simp [T.subs]) (ex_of_de hu)
      have b := gt_tn hv
      refine ⟨gt_plainkind _ _ _ _ _ (by omega) (fun z hz => ?_) (fun _ z hz => ?_), by simp [T.kind]⟩ <;> rcases List.mem_cons.1 hz with rfl | hz
      · exact a.1
      · rw [List.mem_singleton] at hz; subst hz; exact b.1
      · exact a.2
      · rw [List.mem_singleton] at hz; subst hz; exact b.2
    | number m p h0 h1 => exact ⟨gt_leaf _ _ _ _ (by omega) (fun _ => ⟨h0, h1⟩), by simp [T.kind]⟩
    | word k p hk2 => exact ⟨gt_leaf _ _ _ _ (by omega) (fun h => by omega), by simp only [T.kind]; omega⟩
    | call p u us hu hs =>
      have a := sub u (by simp [T.subs]) (ex_of_de hu)
      have b : ∀ z ∈ us, GT z ∧ z.kind ≠ 17 := fun z hz => sub z (by simp [T.subs, hz]) (hs z hz)
      refine ⟨gt_plainkind _ _ _ _ _ (by omega) (fun z hz => ?_) (fun _ z hz => ?_), by simp [T.kind]⟩ <;> rcases List.mem_cons.1 hz with rfl | hz
      · exact a.1
      · exact (b z hz).1
      · exact a.2
      · exact (b z hz).2
    | one k p u hk2 hu =>
      have a := sub u (by simp [T.subs]) hu
      exact ⟨.mk k [] 0 p _ (fun v hv => by rw [List.mem_singleton] at hv; subst hv; exact a.1) (fun _ => rfl) (fun h => by omega) (fun h => by omega) (fun h => by omega) (fun _ v hv => by rw [List.mem_singleton] at hv; subst hv; exact a.2), by simp only [T.kind]; omega⟩
    | is p u v hu hv =>
      have a := sub u (by simp [T.subs]) hu
      have b := gt_tn hv
      refine ⟨gt_plainkind _ _ _ _ _ (by omega) (fun z hz => ?_) (fun _ z hz => ?_), by simp [T.kind]⟩ <;> rcases List.mem_cons.1 hz with rfl | hz
      · exact a.1
      · rw [List.mem_singleton] at hz; subst hz; exact b.1
      · exact a.2
      · rw [List.mem_singleton] at hz; subst hz; exact b.2
    | op x p u v hx hu hv =>
      have a := sub u (by simp [T.subs]) hu
      have b := sub v (by simp [T.subs]) hv
      refine ⟨.mk 36 x 0 p _ (fun z hz => ?_) (fun h => by omega) (fun _ => ⟨rfl, hx⟩) (fun h => by omega) (fun h => by omega) (fun _ z hz => ?_), by simp [T.kind]⟩ <;> rcases List.mem_cons.1 hz with rfl | hz
      · exact a.1
      · rw [List.mem_singleton] at hz; subst hz; exact b.1
      · exact a.2
      · rw [List.mem_singleton] at hz; subst hz; exact b.2
theorem gt_list (p : Int) (l : List T) (h : ∀ u ∈ l, GT u) : GT (.mk 1 [] 0 p l) := gt_plainkind _ _ _ _ _ (by omega) h (fun h9 => absurd rfl h9)
theorem gt_some {P : T → Prop} {l : List T} {a b : T} (ha : P a) (hb : P b) (h : ∀ z ∈ l, P z) : ∀ z ∈ a :: b :: l, P z := fun z hz => by
  rcases List.mem_cons.1 hz with rfl | hz
  · exact ha
  · rcases List.mem_cons.1 hz with rfl | hz
    · exact hb
    · exact h z hz
theorem gt_turns {us : List T} (h : Turns us) : (∀ x ∈ us, Well .expression x → GT x ∧ x.kind ≠ 17) → (∀ x ∈ us, Well (.list .act) x → GT x ∧ x.kind ≠ 17) → ∀ x ∈ us, GT x ∧ x.kind ≠ 17 := by
  induction h with
  | nil => intro _ _ x hx; cases hx
  | one x hx => intro _ h2 y hy; rw [List.mem_singleton] at hy; subst hy; exact h2 y (by simp) hx
  | more x y l hx hy _ ih =>
    intro h1 h2
    exact gt_some (P := fun z => GT z ∧ z.kind ≠ 17) (h1 x (by simp) hx) (h2 y (by simp) hy) (ih (fun z hz => h1 z (by simp [hz])) (fun z hz => h2 z (by simp [hz])))
theorem gt_act : ∀ (f : Nat) (t : T), depthT t ≤ f → Well .act t → GT t := by
  intro f
  induction f with
  | zero => intro t h; obtain ⟨k, x, n, p, l⟩ := t; rw [depthT] at h; omega
  | succ f ih =>
    intro t ht h
    have ex : ∀ u, u ∈ t.subs → Well .expression u → GT u ∧ u.kind ≠ 17 := fun u hu hw => gt_ex f u (by have := depth_sub hu; omega) hw
    have acts : ∀ u, u ∈ t.subs → Well (.list .act) u → GT u ∧ u.kind ≠ 17 := fun u hu hw => by
      have hd := depth_sub hu
      obtain ⟨p, us, rfl, hw2⟩ := list_of hw
      exact ⟨gt_list p us (fun v hv => ih v (by have := depth_sub (t := T.mk 1 [] 0 p us) (u := v) hv; omega) (hw2 v hv)), by simp [T.kind]⟩
    have H := ac_of h
    clear h
    cases H with
    | assign p u v hu hv =>
      have a := ex u (by simp [T.subs]) (ex_of_de hu)
      have b := ex v (by simp [T.subs]) hv
      exact gt_plainkind _ _ _ _ _ (by omega) (gt_some a.1 b.1 (fun _ h => by cases h)) (fun _ => gt_some (P := fun z => z.kind ≠ 17) a.2 b.2 (fun _ h => by cases h))
    | call p u us hu hs =>
      have a := ex u (by simp [T.subs]) (ex_of_de hu)
      have b : ∀ z ∈ us, GT z ∧ z.kind ≠ 17 := fun z hz => ex z (by simp [T.subs, hz]) (hs z hz)
      refine gt_plainkind _ _ _ _ _ (by omega) (fun z hz => ?_) (fun _ z hz => ?_) <;> rcases List.mem_cons.1 hz with rfl | hz
      · exact a.1
      · exact (b z hz).1
      · exact a.2
      · exact (b z hz).2
    | choice m p u v us hm hu hv hs =>
      have a := ex u (by simp [T.subs]) hu
      have b := acts v (by simp [T.subs]) hv
      have r := gt_turns hs (fun x hx hw => ex x (by simp [T.subs, hx]) hw) (fun x hx hw => acts x (by simp [T.subs, hx]) hw)
      exact gt_plainkind _ _ _ _ _ (by omega) (gt_some a.1 b.1 (fun z hz => (r z hz).1)) (fun _ => gt_some (P := fun z => z.kind ≠ 17) a.2 b.2 (fun z hz => (r z hz).2))
    | loop p u v hu hv =>
      have a := ex u (by simp [T.subs]) hu
      have b := acts v (by simp [T.subs]) hv
      exact .mk 17 [] 0 p _ (gt_some a.1 b.1 (fun _ h => by cases h)) (fun h => by omega) (fun h => by omega) (fun _ => rfl) (fun h => by omega) (fun _ => gt_some (P := fun z => z.kind ≠ 17) a.2 b.2 (fun _ h => by cases h))
    | rept p u v hu hv =>
      have a := acts u (by simp [T.subs]) hu
      have b := ex v (by simp [T.subs]) hv
      exact gt_plainkind _ _ _ _ _ (by omega) (gt_some a.1 b.1 (fun _ h => by cases h)) (fun _ => gt_some (P := fun z => z.kind ≠ 17) a.2 b.2 (fun _ h => by cases h))
    | ret0 p => exact gt_leaf _ _ _ _ (by omega) (fun h => by omega)
    | ret1 p u hu =>
      have a := ex u (by simp [T.subs]) hu
      exact gt_plainkind _ _ _ _ _ (by omega) (fun v hv => by rw [List.mem_singleton] at hv; subst hv; exact a.1) (fun _ v hv => by rw [List.mem_singleton] at hv; subst hv; exact a.2)
    | word k p u hk hu =>
      have a := ex u (by simp [T.subs]) hu
      exact gt_plainkind _ _ _ _ _ (by omega) (fun v hv => by rw [List.mem_singleton] at hv; subst hv; exact a.1) (fun _ v hv => by rw [List.mem_singleton] at hv; subst hv; exact a.2)
theorem gt_acts {t : T} (h : Well (.list .act) t) : GT t := by
  obtain ⟨p, us, rfl, hw⟩ := list_of h
  exact gt_list p us (fun v hv => gt_act _ v (Nat.le_refl _) (hw v hv))
theorem gt_decl {k most : Int} {r : Rule} {t : T} (hk : k ≠ 34 ∧ k ≠ 35 ∧ k ≠ 36 ∧ k ≠ 17 ∧ k ≠ 29) (h : Well (.declared k most r) t) (hr : ∀ u, Well r u → GT u ∧ u.kind ≠ 17) : GT t := by
  obtain ⟨x, m, p, u, rfl, -, -, -, hu⟩ := decl_of h
  have a := hr u hu
  exact gt_plainkind _ _ _ _ _ hk (fun v hv => by rw [List.mem_singleton] at hv; subst hv; exact a.1) (fun _ v hv => by rw [List.mem_singleton] at hv; subst hv; exact a.2)
theorem gt_name (u : T) (h : Well .typeName u) : GT u ∧ u.kind ≠ 17 := gt_tn (tn_of h)
theorem gt_none {u : T} (h : (∃ q, u = .mk 0 [] 0 q []) ∨ (u.kind = 13 ∧ TN u)) : GT u ∧ u.kind ≠ 17 := by
  rcases h with ⟨q, rfl⟩ | ⟨_, h⟩
  · exact ⟨gt_leaf _ _ _ _ (by omega) (fun h => by omega), by simp [T.kind]⟩
  · exact gt_tn h
theorem gt_ty (t : T) (h : Well .typeItself t) : GT t ∧ t.kind ≠ 17 := by
  have H := ty_of h
  clear h
  cases H with
  | array m p u h0 h1 hu =>
    have a := gt_tn hu
    exact ⟨gt_plainkind _ _ _ _ _ (by omega) (fun v hv => by rw [List.mem_singleton] at hv; subst hv; exact a.1) (fun _ v hv => by rw [List.mem_singleton] at hv; subst hv; exact a.2), by simp [T.kind]⟩
  | pointer p u hu =>
    have a := gt_tn hu
    exact ⟨gt_plainkind _ _ _ _ _ (by omega) (fun v hv => by rw [List.mem_singleton] at hv; subst hv; exact a.1) (fun _ v hv => by rw [List.mem_singleton] at hv; subst hv; exact a.2), by simp [T.kind]⟩
  | record p u us hu hs =>
    have a := gt_none hu
    have k11 : ∀ z ∈ us, z.kind ≠ 17 := fun z hz => by obtain ⟨x, m, q, y, rfl, -⟩ := decl_of (hs z hz); simp [T.kind]
    refine ⟨gt_plainkind _ _ _ _ _ (by omega) (fun z hz => ?_) (fun _ z hz => ?_), by simp [T.kind]⟩ <;> rcases List.mem_cons.1 hz with rfl | hz
    · exact a.1
    · exact gt_decl (by omega) (hs z hz) gt_name
    · exact a.2
    · exact k11 z hz
theorem gt_lst {r : Rule} {t : T} (h : Well (.list r) t) (hr : ∀ u, Well r u → GT u) : GT t ∧ t.kind ≠ 17 := by
  obtain ⟨p, us, rfl, hw⟩ := list_of h
  exact ⟨gt_list p us (fun v hv => hr v (hw v hv)), by simp [T.kind]⟩
theorem gt_proc (t : T) (h : Well .procedure t) : GT t := by
  obtain ⟨x, m, p, ps, rs, vs, bs, rfl, -, -, -, hps, hr, hvs, hbs⟩ := proc_of h
  have a := gt_lst hps (fun u hu => gt_decl (by omega) hu gt_name)
  have b := gt_none hr
  have c := gt_lst hvs (fun u hu => gt_decl (by omega) hu gt_name)
  have d := gt_lst hbs (fun u hu => gt_act _ u (Nat.le_refl _) hu)
  exact gt_plainkind _ _ _ _ _ (by omega) (gt_some a.1 b.1 (gt_some c.1 d.1 (fun _ h => by cases h))) (fun _ => gt_some (P := fun z => z.kind ≠ 17) a.2 b.2 (gt_some (P := fun z => z.kind ≠ 17) c.2 d.2 (fun _ h => by cases h)))
theorem gt_module {t : T} (h : Well .module t) : GT t := by
  obtain ⟨x, p, is, cs, ts, vs, ps, bs, rfl, -, his, hcs, hts, hvs, hps, hbs⟩ := mod_of h
  have a := gt_lst his (fun u hu => by obtain ⟨y, q, rfl, -⟩ := imp_of hu; exact gt_leaf _ _ _ _ (by omega) (fun h => by omega))
  have b := gt_lst hcs (fun u hu => gt_decl (by omega) hu (fun v hv => gt_ex _ v (Nat.le_refl _) hv))
  have c := gt_lst hts (fun u hu => gt_decl (by omega) hu gt_ty)
  have d := gt_lst hvs (fun u hu => gt_decl (by omega) hu gt_name)
  have e := gt_lst hps gt_proc
  have g := gt_lst hbs (fun u hu => gt_act _ u (Nat.le_refl _) hu)
  exact gt_plainkind _ _ _ _ _ (by omega) (gt_some a.1 b.1 (gt_some c.1 d.1 (gt_some e.1 g.1 (fun _ h => by cases h)))) (fun _ => gt_some (P := fun z => z.kind ≠ 17) a.2 b.2 (gt_some (P := fun z => z.kind ≠ 17) c.2 d.2 (gt_some (P := fun z => z.kind ≠ 17) e.2 g.2 (fun _ h => by cases h))))
end Go.Proofs.YtlkokcnbbihljaaGreatDoor
