/- The document's texts: every act. -/
import Derived.Test.YtapfecciakijhaaGreatDoorG24
import Derived.Test.YtapfecciakijhaaGreatDoorG26
namespace Go.Proofs.YtapfecciakijhaaGreatDoor
open Go.RowKit

theorem actsTx_len {f L : Nat} (hL : f + L ≤ 90) {u : T} (h : Well (.list .act) u) : (actsTx f L u.subs).length + 300 ≤ 700 * countT u := by
  obtain ⟨_,us,rfl,hw⟩ := list_of h; have := lines_len [59] [] (actTx f (L + 1)) L 700 us (by simp) (fun t ht => by have := act_len f (L + 1) t (by omega) (hw t ht); simp; omega); rw [countT]; simp only [List.length_cons, List.length_nil] at this; simp only [T.subs, actsTx]
  omega
theorem stx_of (f L : Nat) (hL : f + L ≤ 90) (ih : ∀ t, depthT t ≤ f → Well .act t → countT t ≤ 3000 → ∀ w, CTx w t (padTx (L + 1)) (padTx (L + 1) ++ actTx f (L + 1) t)) (u : T) (hd : depthT u ≤ f + 1) (h : Well (.list .act) u) (hc : countT u ≤ 3000) (w : World) : STx w u (padTx (L + 1)) (actsTx f L u.subs) := by
  have hl := actsTx_len hL h; refine ⟨by omega, fun w' sv hg ha => ?_⟩; obtain ⟨p,us,rfl,hw⟩ := list_of h
  have hcl : ∀ v ∈ us, countT v ≤ 3000 := fun v hv => by
    have h1 := countL_mem hv; rw [countT] at hc
    omega
  have hp := padTx_len (L + 1)
  have h5 := flatTx_len (fun t => (padTx (L + 1) ++ actTx f (L + 1) t) ++ ([59] ++ [10])) 700 us (fun t ht => by
    have := act_len f (L + 1) t (by omega) (hw t ht); simp only [List.length_append, List.length_cons, List.length_nil]
    omega)
  rw [countT] at hc; rw [show actsTx f L (T.mk _ [] _ p us).subs = stmtsL (fun t => padTx (L + 1) ++ actTx f (L + 1) t) us from (stmts_lines _ _ _).symm]
  exact stmtsText_of _ [] _ p us (padTx (L + 1)) sv (fun t => padTx (L + 1) ++ actTx f (L + 1) t) w' ha (fun v hv => ih v (by have := depth_sub (t := T.mk 1 [] 0 p us) (u := v) hv; omega) (hw v hv) (hcl v hv) w') (by show (flatTx (fun t => (padTx (L + 1) ++ actTx f (L + 1) t) ++ ([59] ++ [10])) us).length ≤ 4000000; omega)
theorem ch_of {w : World} {P : List UInt8} {ex ac : T → List UInt8} {us : List T} (h : Turns us) : (∀ x ∈ us, Well .expression x → ETx w x (ex x)) → (∀ x ∈ us, Well (.list .act) x → STx w x (P ++ [32, 32]) (ac x)) → Ch w P ex ac us := by
  induction h with
  | nil => intro _ _; exact .nil
  | one x hx => intro _ h2; exact .one x (h2 x (by simp) hx)
  | more x y l hx hy _ ih => intro h1 h2; exact .more x y l (h1 x (by simp) hx) (h2 y (by simp) hy) (ih (fun z hz => h1 z (by simp [hz])) (fun z hz => h2 z (by simp [hz])))
theorem st_any : ∀ (f L : Nat) (t : T), f + L ≤ 90 → depthT t ≤ f → Well .act t → countT t ≤ 3000 → ∀ w, CTx w t (padTx L) (padTx L ++ actTx f L t) := by
  intro f
  induction f with
  | zero => intro L t _ h; have := depthT_eq t; omega
  | succ f ih =>
    intro L t hL ht h hcount w; have hlen := act_len (f + 1) L t (by omega) h; have hp := padTx_len L
    have lP : (padTx L).length ≤ 1000 := by omega
    have hw2 : (padTx L ++ actTx (f + 1) L t).length ≤ 4000000 := by rw [List.length_append]; omega
    have cnt : ∀ u, u ∈ t.subs → countT u ≤ 3000 := fun u hu => by have := countL_one t u hu; omega
    have E : ∀ u, u ∈ t.subs → Well .expression u → ∀ w, ETx w u (exprTx f u) := fun u hu hw => etx_any f u (by have := depth_sub hu; omega) hw (cnt u hu)
    have A : ∀ u, u ∈ t.subs → Well (.list .act) u → ∀ w, STx w u (padTx L ++ [32, 32]) (actsTx f L u.subs) := fun u hu hw w => by
      rw [← pad_succ]
      exact stx_of f L (by omega) (fun v h1 h2 h3 => ih (L + 1) v (by omega) h1 h2 h3) u (by have := depth_sub hu; omega) hw (cnt u hu) w
    refine ⟨by omega, fun w' sv hg ha => ?_⟩; have H := ac_of h; clear h; cases H with
    | assign p u v hu hv =>
      rw [at14]
      exact st14 [] 0 p u v (padTx L) sv w' ha lP _ _ (E u (by simp [T.subs]) (ex_of_de hu) w') (E v (by simp [T.subs]) hv w')
    | call p u us hu hs =>
      cases us with
      | nil =>
        rw [at15n]
        exact st15n [] 0 p u (padTx L) sv w' ha lP _ (E u (by simp [T.subs]) (ex_of_de hu) w')
      | cons v us =>
        rw [at15s (f := f) (L := L) (x := []) (m := 0) (p := p) (u := u) (us := v :: us) (by simp)]; have h2 := sepTx_len [44, 32] (exprTx f) 40 (v :: us) (fun z hz => by have := expr_len f z (hs z hz); simp; omega); rw [cntC] at hcount
        exact st15s [] 0 p u (v :: us) (padTx L) sv w' ha lP _ (exprTx f) (E u (by simp [T.subs]) (ex_of_de hu) w') (fun z hz => E z (by simp only [T.subs, List.mem_cons]; exact Or.inr (List.mem_cons.1 hz)) (hs z hz) w') (by simp) (by omega)
    | choice m p u v us hm hu hv hs =>
      have hch := ch_at16 f L [] m p u v us; rw [← hch] at hw2 ⊢; rw [List.length_append] at hw2; refine st16 m p u v us (padTx L) sv w' ha lP (exprTx f) (fun u => actsTx f L u.subs) hm (.more u v us (E u (by simp [T.subs]) hu w') (A v (by simp [T.subs]) hv w') (ch_of hs (fun x hx hw => E x (by simp [T.subs, hx]) hw w') (fun x hx hw => A x (by simp [T.subs, hx]) hw w'))) (by omega)
    | loop p u v hu hv =>
      rw [at17]
      exact st17 [] 0 p u v (padTx L) sv w' ha lP _ _ (E u (by simp [T.subs]) hu w') (A v (by simp [T.subs]) hv w')
    | rept p u v hu hv =>
      rw [at18]
      exact st18 [] 0 p u v (padTx L) sv w' ha lP _ _ (A u (by simp [T.subs]) hu w') (E v (by simp [T.subs]) hv w')
    | ret0 p =>
      have e : padTx L ++ actTx (f + 1) L (.mk 19 [] 0 p []) = padTx L ++ [82, 69, 84, 85, 82, 78] := by simp [actTx, T.kind, T.subs]
      rw [e]
      exact st19n [] 0 p (padTx L) sv w' ha lP
    | ret1 p u hu =>
      have e : padTx L ++ actTx (f + 1) L (.mk 19 [] 0 p [u]) = padTx L ++ ([82, 69, 84, 85, 82, 78, 32] ++ exprTx f u) := by simp [actTx, T.kind, T.subs, subT]
      rw [e]
      exact st19s [] 0 p u (padTx L) sv w' ha lP _ (E u (by simp [T.subs]) hu w')
    | word k p u hk hu =>
      have e : padTx L ++ actTx (f + 1) L (.mk k [] 0 p [u]) = padTx L ++ (wordTx k ++ ([40] ++ (exprTx f u ++ [41]))) := by rcases hk with rfl | rfl | rfl | rfl <;> simp [actTx, T.kind, subT, T.subs]
      rw [e]
      exact st20 k [] 0 p u (padTx L) sv w' ha lP _ (E u (by simp [T.subs]) hu w') hk
/-- A list of acts, a level within. -/
theorem sacts_any (f : Nat) (hf : f ≤ 80) (u : T) (hd : depthT u ≤ f + 1) (h : Well (.list .act) u) (hc : countT u ≤ 3000) (w : World) : STx w u [32, 32] (actsTx f 0 u.subs) :=
  stx_of f 0 (by omega) (fun t h1 h2 h3 => st_any f 1 t (by omega) h1 h2 h3) u hd h hc w
end Go.Proofs.YtapfecciakijhaaGreatDoor
