/- The program's levels, as a machine: what is open, and that it ends with the tree worked out. -/
import Derived.Test.YtlkokcnbbihljaaGreatDoorG11
namespace Go.Proofs.YtlkokcnbbihljaaGreatDoor

/-- A node whose parts are being worked out: so many are begun, so came of those that are done. -/
structure Lv where
  t : T
  i : Nat
  acc : List T
/-- The node with what came of its parts. -/
def Lv.node (v : Lv) : T := .mk v.t.kind v.t.name v.t.num v.t.at' v.acc
/-- Levels one within the other: each but the last has begun the part that the next one is. -/
inductive Stk (r : T) : List Lv → Prop
  | one (i : Nat) (h : i ≤ r.subs.length) : Stk r [⟨r, i, foldL (r.subs.take i)⟩]
  | more (l : List Lv) (t : T) (i : Nat) (u : T) (j : Nat) (h : Stk r (l ++ [⟨t, i, foldL (t.subs.take i)⟩])) (hu : t.subs[i]? = some u) (hj : j ≤ u.subs.length) : Stk r ((l ++ [⟨t, i + 1, foldL (t.subs.take i)⟩]) ++ [⟨u, j, foldL (u.subs.take j)⟩])
theorem snoc_eq {α : Type} {l l' : List α} {a a' : α} (h : l ++ [a] = l' ++ [a']) : l = l' ∧ a = a' := by
  have h1 := List.append_inj' h rfl
  exact ⟨h1.1, by simpa using h1.2⟩
/-- The last level has what comes of the parts that it has begun. -/
theorem Stk.top {r : T} {l : List Lv} {v : Lv} (h : Stk r (l ++ [v])) : v.acc = foldL (v.t.subs.take v.i) ∧ v.i ≤ v.t.subs.length := by
  generalize e : l ++ [v] = s at h
  cases h with
  | one i hi =>
    obtain ⟨_, rfl⟩ := snoc_eq (show l ++ [v] = [] ++ [_] from e)
    exact ⟨rfl, hi⟩
  | more l' t i u j h hu hj =>
    obtain ⟨_, rfl⟩ := snoc_eq e
    exact ⟨rfl, hj⟩
/-- A part is begun. -/
theorem Stk.next {r : T} {l : List Lv} {t u : T} {i : Nat} {acc : List T} (h : Stk r (l ++ [⟨t, i, acc⟩])) (hu : t.subs[i]? = some u) : Stk r ((l ++ [⟨t, i + 1, acc⟩]) ++ [⟨u, 0, []⟩]) := by
  have ht : acc = foldL (t.subs.take i) := h.top.1
  subst ht
  have := Stk.more l t i u 0 h hu (Nat.zero_le _)
  rw [List.take_zero, foldL] at this
  exact this
/-- All parts of a level are done: so it comes to what its node is worked out to. -/
theorem Stk.done {r : T} {l : List Lv} {v : Lv} (h : Stk r (l ++ [v])) (hi : v.i = v.t.subs.length) : plainT v.node = foldT v.t := by
  obtain ⟨t, i, acc⟩ := v
  obtain ⟨ha, _⟩ := h.top
  simp only at ha hi
  subst ha hi
  obtain ⟨k, x, n, p, s⟩ := t
  rw [fold_node]
  show plainT (.mk k x n p (foldL (s.take s.length))) = _
  rw [List.take_length]
theorem Stk.root {r : T} {v : Lv} (h : Stk r [v]) (hi : v.i = v.t.subs.length) : plainT v.node = foldT r := by
  have e := Stk.done (l := []) h hi
  generalize es : [v] = s at h
  cases h with
  | one i _ =>
    cases es
    exact e
  | more l t i u j _ _ _ =>
    have := congrArg List.length es
    simp at this
/-- What a level comes to is put where it stood. -/
theorem Stk.close {r : T} {l : List Lv} {v v' : Lv} (h : Stk r ((l ++ [v']) ++ [v])) (hi : v.i = v.t.subs.length) : Stk r (l ++ [⟨v'.t, v'.i, if idleB (plainT v.node) then v'.acc else v'.acc ++ [plainT v.node]⟩]) := by
  have e := h.done hi
  rw [e]
  generalize es : (l ++ [v']) ++ [v] = s at h
  cases h with
  | one i _ =>
    have := congrArg List.length es
    simp at this
  | more l' t i u j h hu hj =>
    obtain ⟨e1, rfl⟩ := snoc_eq es
    obtain ⟨rfl, rfl⟩ := snoc_eq e1
    have hlt : i < t.subs.length := by
      rcases Nat.lt_or_ge i t.subs.length with h9 | h9
      · exact h9
      · rw [List.getElem?_eq_none h9] at hu; cases hu
    have hf := foldL_take hu
    have e2 : (if idleB (foldT u) = true then foldL (t.subs.take i) else foldL (t.subs.take i) ++ [foldT u]) = foldL (t.subs.take (i + 1)) := by
      rw [hf]
      split <;> simp
    show Stk r (l ++ [⟨t, i + 1, if idleB (foldT u) = true then foldL (t.subs.take i) else foldL (t.subs.take i) ++ [foldT u]⟩])
    rw [e2]
    generalize es2 : l ++ [(⟨t, i, foldL (t.subs.take i)⟩ : Lv)] = s2 at h
    cases h with
    | one i' h' =>
      obtain ⟨rfl, e3⟩ := snoc_eq (show l ++ [_] = [] ++ [_] from es2)
      cases e3
      exact Stk.one (i + 1) (by omega)
    | more l2 t2 i2 u2 j2 h2 hu2 hj2 =>
      obtain ⟨rfl, e3⟩ := snoc_eq es2
      cases e3
      exact Stk.more l2 t2 i2 t (i + 1) h2 hu2 (by omega)

/-- How many steps are left. -/
def Lv.left (v : Lv) : Nat := 1 + 2 * countL (v.t.subs.drop v.i)
def leftL : List Lv → Nat
  | [] => 0
  | v :: l => v.left + leftL l
theorem leftL_append (l m : List Lv) : leftL (l ++ m) = leftL l + leftL m := by
  induction l with
  | nil => simp [leftL]
  | cons v l ih => simp [leftL, ih]; omega
theorem left_next {l : List Lv} {t u : T} {i : Nat} {acc : List T} (hu : t.subs[i]? = some u) : leftL ((l ++ [⟨t, i + 1, acc⟩]) ++ [⟨u, 0, []⟩]) < leftL (l ++ [⟨t, i, acc⟩]) := by
  have hd : t.subs.drop i = u :: t.subs.drop (i + 1) := by
    have hlt : i < t.subs.length := by
      rcases Nat.lt_or_ge i t.subs.length with h9 | h9
      · exact h9
      · rw [List.getElem?_eq_none h9] at hu; cases hu
    rw [List.drop_eq_getElem_cons hlt]
    rw [List.getElem?_eq_getElem hlt] at hu
    cases hu
    rfl
  have hc : countT u = 1 + countL u.subs := by obtain ⟨k, x, n, p, s⟩ := u; rw [countT]; rfl
  rw [leftL_append, leftL_append, leftL_append]
  simp only [leftL, Lv.left]
  rw [hd, countL, List.drop_zero]
  omega
theorem left_close {l : List Lv} {v v' : Lv} {a : List T} : leftL (l ++ [⟨v'.t, v'.i, a⟩]) < leftL ((l ++ [v']) ++ [v]) := by
  rw [leftL_append, leftL_append, leftL_append]
  simp only [leftL, Lv.left]
  omega
/-- Every level's node is part of the tree. -/
theorem Stk.all {r : T} {l : List Lv} (h : Stk r l) {P : T → Prop} (hr : P r) (hs : ∀ t u, P t → u ∈ t.subs → P u) : ∀ v ∈ l, P v.t := by
  induction h with
  | one i hi => intro v hv; rw [List.mem_singleton] at hv; subst hv; exact hr
  | more l t i u j h hu hj ih =>
    intro v hv
    rcases List.mem_append.1 hv with hv | hv
    · rcases List.mem_append.1 hv with hv | hv
      · exact ih v (List.mem_append.2 (Or.inl hv))
      · rw [List.mem_singleton] at hv
        subst hv
        exact ih ⟨t, i, foldL (t.subs.take i)⟩ (List.mem_append.2 (Or.inr (List.mem_singleton.2 rfl)))
    · rw [List.mem_singleton] at hv
      subst hv
      exact hs t u (ih ⟨t, i, foldL (t.subs.take i)⟩ (List.mem_append.2 (Or.inr (List.mem_singleton.2 rfl)))) (List.mem_of_getElem? hu)
theorem Stk.gt {r : T} {l : List Lv} (h : Stk r l) (hr : GT r) : ∀ v ∈ l, GT v.t := h.all hr (fun _ _ h1 h2 => h1.sub h2)
theorem Stk.gtNode {r : T} {l : List Lv} {v : Lv} (h : Stk r (l ++ [v])) (hr : GT r) (hi : v.i = v.t.subs.length) : GT v.node := by
  have g := h.gt hr v (by simp)
  obtain ⟨t, i, acc⟩ := v
  obtain ⟨ha, _⟩ := h.top
  simp only at ha hi g
  subst ha hi
  show GT (.mk t.kind t.name t.num t.at' (foldL (t.subs.take t.subs.length)))
  rw [List.take_length]
  exact (gt_fold g).1
end Go.Proofs.YtlkokcnbbihljaaGreatDoor
