/- The program's writer: every designator, every expression. -/
import Derived.Test.YtapfecciakijhaaGreatDoorG14
import Derived.Test.YtapfecciakijhaaGreatDoorG04
namespace Go.Proofs.YtapfecciakijhaaGreatDoor
open Go.RowKit Go.Maps Go.WideMaps Go.WideElems

section
variable (f : Nat) (x : List UInt8) (m p : Int) (u v : T) (us : List T)
theorem tx24 : exprTx (f + 1) (.mk 24 x m p []) = x := by simp [exprTx, T.kind, T.name]
theorem tx25 : exprTx (f + 1) (.mk 25 x m p [u]) = exprTx f u ++ ([46] ++ x) := by simp [exprTx, T.kind, T.name, subT, T.subs]
theorem tx26 : exprTx (f + 1) (.mk 26 x m p [u, v]) = exprTx f u ++ ([91] ++ (exprTx f v ++ [93])) := by simp [exprTx, T.kind, subT, T.subs]
theorem tx27 : exprTx (f + 1) (.mk 27 x m p [u]) = exprTx f u ++ [94] := by simp [exprTx, T.kind, subT, T.subs]
theorem tx28 : exprTx (f + 1) (.mk 28 x m p [u, v]) = exprTx f u ++ ([123] ++ (nameTx v ++ [125])) := by simp [exprTx, T.kind, subT, T.subs]
theorem tx29 : exprTx (f + 1) (.mk 29 x m p []) = numTx m := by simp [exprTx, T.kind, T.num]
theorem tx30 (k : Int) (hk : k = 30 ∨ k = 31 ∨ k = 32) : exprTx (f + 1) (.mk k x m p []) = kwTx k := by rcases hk with rfl | rfl | rfl <;> simp [exprTx, T.kind, kwTx]
theorem tx33 : exprTx (f + 1) (.mk 33 x m p (u :: us)) = exprTx f u ++ ([40] ++ (sepTx [44, 32] (us.map (exprTx f)) ++ [41])) := by simp [exprTx, T.kind, subT, T.subs]
theorem tx34 : exprTx (f + 1) (.mk 34 x m p [u]) = [126] ++ atTx u 3 (exprTx f u) := by simp [exprTx, T.kind, subT, T.subs, atTx]
theorem tx35 : exprTx (f + 1) (.mk 35 x m p [u]) = [45] ++ atTx u 2 (exprTx f u) := by simp [exprTx, T.kind, subT, T.subs, atTx]
theorem tx37 : exprTx (f + 1) (.mk 37 x m p [u, v]) = atTx u 1 (exprTx f u) ++ ([32, 73, 83, 32] ++ nameTx v) := by simp [exprTx, T.kind, subT, T.subs, atTx]
theorem tx36 (h : 0 ≤ levelOf x) : exprTx (f + 1) (.mk 36 x m p [u, v]) = atTx u (max (levelOf x) 1) (exprTx f u) ++ ([32] ++ (x ++ ([32] ++ atTx v (levelOf x + 1) (exprTx f v)))) := by
  have e : exprTx (f + 1) (.mk 36 x m p [u, v]) = (if rankT u < (if levelOf x = 2 then 2 else 1) then 40 :: (exprTx f u ++ [41]) else exprTx f u) ++ (32 :: (x ++ (32 :: (if rankT v < (if levelOf x = 1 then 2 else if levelOf x = 2 then 3 else 1) then 40 :: (exprTx f v ++ [41]) else exprTx f v)))) := by simp [exprTx, T.kind, subT, T.subs, T.name]; rfl
  rw [e]
  rcases lv_three h with h9 | h9 | h9 <;> rw [h9] <;> simp [atTx] <;> rfl
end
theorem expr_any (w0 : World) (wb : Nat) (hp : PT w0) : ∀ (f : Nat) (t : T), depthT t ≤ f → (Well .designator t → DEW w0 wb t (exprTx f t)) ∧ (Well .expression t → EXW w0 wb t (exprTx f t)) := by
  intro f
  induction f with
  | zero => intro t h; have := depthT_eq t; omega
  | succ f ih =>
    intro t ht
    have sub : ∀ u, u ∈ t.subs → depthT u ≤ f := fun u hu => by have := depth_sub hu; omega
    have HD : Well .designator t → DEW w0 wb t (exprTx (f + 1) t) := by
      intro h; have hk := de_kind h; have H := de_of h; cases H with
      | ref x p hx => rw [tx24]; exact fun w S L sv hw ha hl => de24 w0 wb w S L x 0 p sv hw ha hl
      | dot x p u hx hu => rw [tx25]; exact fun w S L sv hw ha hl => de25 w0 wb w S L x 0 p u sv hw ha _ ((ih u (sub u (by simp [T.subs]))).1 hu) hl
      | index p u v hu hv => rw [tx26]; exact fun w S L sv hw ha hl => de26 w0 wb w S L [] 0 p u v sv hw ha _ _ ((ih u (sub u (by simp [T.subs]))).1 hu) ((ih v (sub v (by simp [T.subs]))).2 hv) hl
      | deref p u hu => rw [tx27]; exact fun w S L sv hw ha hl => de27 w0 wb w S L [] 0 p u sv hw ha _ ((ih u (sub u (by simp [T.subs]))).1 hu) hl
      | guard p u v hu hv => rw [tx28]; exact fun w S L sv hw ha hl => de28 w0 wb w S L [] 0 p u v sv hw ha _ ((ih u (sub u (by simp [T.subs]))).1 hu) hv hl
      | number m p h0 h1 => simp [T.kind] at hk
      | word k p hk2 => rcases hk2 with rfl | rfl | rfl <;> simp [T.kind] at hk
      | call p u us hu hs => simp [T.kind] at hk
      | one k p u hk2 hu => rcases hk2 with rfl | rfl <;> simp [T.kind] at hk
      | is p u v hu hv => simp [T.kind] at hk
      | op x p u v hx hu hv => simp [T.kind] at hk
    refine ⟨HD, fun h => ?_⟩; have H := ex_of h
    have HDE : ∀ (hk : t.kind = 24 ∨ t.kind = 25 ∨ t.kind = 26 ∨ t.kind = 27 ∨ t.kind = 28), Well .designator t := by
      intro hk; obtain ⟨l,hs,all⟩ := Well.iff.1 h; refine .mk l ?_ all; rw [← hs]
      show designatorR t = expressionR t
      unfold expressionR
      rcases hk with e | e | e | e | e <;> simp [e]
    cases H with
    | ref x p hx => exact fun w S L sv hw ha hl => xd24 w0 wb w S L x 0 p sv hw ha _ (HD (HDE (by simp [T.kind]))) hl
    | dot x p u hx hu => exact fun w S L sv hw ha hl => xd25 w0 wb w S L x 0 p u sv hw ha _ (HD (HDE (by simp [T.kind]))) hl
    | index p u v hu hv => exact fun w S L sv hw ha hl => xd26 w0 wb w S L [] 0 p u v sv hw ha _ (HD (HDE (by simp [T.kind]))) hl
    | deref p u hu => exact fun w S L sv hw ha hl => xd27 w0 wb w S L [] 0 p u sv hw ha _ (HD (HDE (by simp [T.kind]))) hl
    | guard p u v hu hv => exact fun w S L sv hw ha hl => xd28 w0 wb w S L [] 0 p u v sv hw ha _ (HD (HDE (by simp [T.kind]))) hl
    | number m p h0 h1 => rw [tx29]; exact fun w S L sv hw ha hl => xe29 w0 wb w S L [] m p sv hw ha h0 h1 hp hl
    | word k p hk2 => rw [tx30 f [] 0 p k hk2]; exact fun w S L sv hw ha hl => xe30 w0 wb w S L k [] 0 p sv hw (at_form ha) hk2 hl
    | call p u us hu hs => rw [tx33]; exact fun w S L sv hw ha hl => xe33 w0 wb w S L [] 0 p u us sv hw ha _ (exprTx f) ((ih u (sub u (by simp [T.subs]))).2 (ex_of_de hu)) (fun v hv => (ih v (sub v (by simp [T.subs, hv]))).2 (hs v hv)) hl
    | one k p u hk2 hu =>
      rcases hk2 with rfl | rfl
      · rw [tx34]; exact fun w S L sv hw ha hl => xe34 w0 wb w S L [] 0 p u sv hw ha _ hu ((ih u (sub u (by simp [T.subs]))).2 hu) hl
      · rw [tx35]; exact fun w S L sv hw ha hl => xe35 w0 wb w S L [] 0 p u sv hw ha _ hu ((ih u (sub u (by simp [T.subs]))).2 hu) hl
    | is p u v hu hv => rw [tx37]; exact fun w S L sv hw ha hl => xe37 w0 wb w S L [] 0 p u v sv hw ha _ hu ((ih u (sub u (by simp [T.subs]))).2 hu) hv hl
    | op x p u v hx hu hv =>
      rw [tx36 f x 0 p u v hx]
      exact fun w S L sv hw ha hl => xe36 w0 wb w S L x 0 p u v sv hw ha _ (fun w' S' L' sv' hw' ha' hl' => operation_w w0 wb w' S' L' x 0 p u v sv' hw' ha' _ _ _ _ hx rfl rfl hu hv ((ih u (sub u (by simp [T.subs]))).2 hu) ((ih v (sub v (by simp [T.subs]))).2 hv) hl') hl
end Go.Proofs.YtapfecciakijhaaGreatDoor
