/- The document's texts and the told text: the same lists. -/
import Derived.Test.YtapfecciakijhaaGreatDoorG19
import Derived.Test.YtapfecciakijhaaGreatDoorG22
import Derived.Test.YtapfecciakijhaaGreatDoorG23
namespace Go.Proofs.YtapfecciakijhaaGreatDoor

theorem stmts_lines (tx : T → List UInt8) (L : Nat) : ∀ l : List T, stmtsL (fun t => padTx (L + 1) ++ tx t) l = linesTx [59] [] tx L l
  | [] => rfl
  | [t] => by simp [stmtsL, linesTx, sepTx]
  | t :: u :: l => by
    have ih := stmts_lines tx L (u :: l)
    have e : stmtsL (fun t => padTx (L + 1) ++ tx t) (t :: u :: l) = (padTx (L + 1) ++ tx t) ++ ([59] ++ ([10] ++ stmtsL (fun t => padTx (L + 1) ++ tx t) (u :: l))) := rfl
    rw [e, ih]
    simp [linesTx, sepTx]
theorem flat_congr {a b : T → List UInt8} : ∀ {l : List T}, (∀ t ∈ l, a t = b t) → flatTx a l = flatTx b l
  | [], _ => rfl
  | t :: l, h => by
    rw [flatTx, flatTx, h t (by simp), flat_congr (fun u hu => h u (by simp [hu]))]
theorem pad1 : padTx 1 = [32, 32] := rfl
theorem sect_decl (word sep : List UInt8) (ty : T → List UInt8) (l : List T) : (if l.isEmpty then [] else word ++ ([10] ++ flatTx (fun t => [32, 32] ++ (starTx t ++ (sep ++ (ty (subT t 0) ++ [59, 10])))) l)) = sectTx word (fun t => starTx t ++ (sep ++ ty (subT t 0))) l := by
  unfold sectTx
  split
  · rfl
  · rw [lines_flat]
    simp only [List.append_assoc]
    rfl
theorem sect_const (f : Nat) (l : List T) : (if l.isEmpty then [] else [67, 79, 78, 83, 84] ++ ([10] ++ flatTx (fun t => [32, 32] ++ (starTx t ++ ([32, 61, 32] ++ (exprTx f (subT t 0) ++ [59, 10])))) l)) = sectTx [67, 79, 78, 83, 84] (constTx f) l := sect_decl _ _ _ _
theorem sect_named (l : List T) : (if l.isEmpty then [] else [84, 89, 80, 69] ++ ([10] ++ flatTx (fun t => [32, 32] ++ (starTx t ++ ([32, 61, 32] ++ (typeTx (subT t 0) ++ [59, 10])))) l)) = sectTx [84, 89, 80, 69] namedTx l := sect_decl _ _ _ _
theorem sect_typed (word : List UInt8) (l : List T) : (if l.isEmpty then [] else word ++ ([10] ++ flatTx (fun t => [32, 32] ++ (starTx t ++ ([58, 32] ++ (nameTx (subT t 0) ++ [59, 10])))) l)) = sectTx word typedTx l := sect_decl _ _ _ _
/-- A choice's text, as the document lays it and as it is told. -/
theorem ch_at16 (f L : Nat) (x : List UInt8) (m p : Int) (u v : T) (us : List T) : chTx (padTx L) (exprTx f) (fun u => actsTx f L u.subs) true (u :: v :: us) ++ (elTx (padTx L) (fun u => actsTx f L u.subs) (u :: v :: us) ++ (padTx L ++ [69, 78, 68])) = padTx L ++ actTx (f + 1) L (.mk 16 x m p (u :: v :: us)) := by
  rw [at16]; have h := ch_rest L (exprTx f) (fun u => actsTx f L u.subs) us; rw [← h]
  show (padTx L ++ ([73, 70, 32] ++ (exprTx f u ++ ([32, 84, 72, 69, 78, 10] ++ (actsTx f L v.subs ++ chTx (padTx L) (exprTx f) (fun u => actsTx f L u.subs) false us))))) ++ (elTx (padTx L) (fun u => actsTx f L u.subs) us ++ (padTx L ++ [69, 78, 68])) = _
  simp
end Go.Proofs.YtapfecciakijhaaGreatDoor

/- The document's texts: every type, every section of declarations. -/
namespace Go.Proofs.YtapfecciakijhaaGreatDoor
open Go.RowKit

theorem countL_one (t : T) (u : T) (h : u ∈ t.subs) : countT u ≤ countT t := by
  obtain ⟨k,x,m,p,l⟩ := t
  have h1 : countT (T.mk k x m p l) = 1 + countL l := by rw [countT]
  have h2 := countL_mem (show u ∈ l from h)
  omega
theorem typed_len {k most : Int} {t : T} (h : Well (.declared k most .typeName) t) : (typedTx t).length ≤ 40 := by
  obtain ⟨x, m, p, u, rfl, hx, -, -, hu⟩ := decl_of h; have h1 := starTx_len (t := .mk k x m p [u]) hx; have h2 := nameTx_len (tn_of hu)
  have e : subT (.mk k x m p [u]) 0 = u := rfl
  unfold typedTx
  rw [e]; simp only [List.length_append, List.length_cons, List.length_nil]
  omega
theorem fields_len {us : List T} (h : ∀ v ∈ us, Well (.declared 11 1 .typeName) v) : (flatTx (fun x => typedTx x ++ [59, 32]) us).length ≤ 50 * countL us := by
  refine flatTx_len _ 50 us (fun t ht => ?_); have h1 := typed_len (h t ht); have h2 := countT_pos t; simp only [List.length_append, List.length_cons, List.length_nil]
  omega
theorem typeTx_len {t : T} (h : TY t) : (typeTx t).length ≤ 50 * countT t + 60 := by
  cases h with
  | array m p u h0 h1 hu =>
    have h2 := nameTx_len hu; have h3 := numTx_len m
    have e : typeTx (.mk 9 [] m p [u]) = [65, 82, 82, 65, 89, 32] ++ (numTx m ++ ([32, 79, 70, 32] ++ nameTx u)) := by simp [typeTx, T.kind, T.num, subT, T.subs]
    rw [e]; simp only [List.length_append, List.length_cons, List.length_nil]
    omega
  | pointer p u hu =>
    have h2 := nameTx_len hu
    have e : typeTx (.mk 12 [] 0 p [u]) = [80, 79, 73, 78, 84, 69, 82, 32, 84, 79, 32] ++ nameTx u := by simp [typeTx, T.kind, subT, T.subs]
    rw [e]; simp only [List.length_append, List.length_cons, List.length_nil]
    omega
  | record p u us hu hs =>
    have h2 := fields_len hs; have h3 : countT (T.mk 10 [] 0 p (u :: us)) = 1 + countT u + countL us := cntC _ _ _ _ _ _
    have e : typeTx (.mk 10 [] 0 p (u :: us)) = [82, 69, 67, 79, 82, 68, 32] ++ ((if u.kind = 0 then [] else 40 :: (nameTx u ++ [41, 32])) ++ (flatTx (fun x => typedTx x ++ [59, 32]) us ++ [69, 78, 68])) := by simp [typeTx, T.kind, subT, T.subs]; rfl
    rw [e]
    rcases hu with ⟨q, rfl⟩ | ⟨hk, hu⟩
    · rw [if_pos (show (T.mk 0 [] 0 q []).kind = 0 from rfl)]
      simp only [List.length_append, List.length_cons, List.length_nil]
      omega
    · have h4 := nameTx_len hu
      rw [if_neg (by rw [hk]; decide)]; simp only [List.length_append, List.length_cons, List.length_nil]
      omega
theorem ttx_any {t : T} (h : TY t) (hc : countT t ≤ 3000) (w : World) (sv : Value) (ha : AT w t.subs sv) : Calls Tryz.prog 43 #[nodeV t sv] w (Sy w (.string ⟨(typeTx t).toArray⟩)) := by
  cases h with
  | array m p u h0 h1 hu => exact ty9 m p u sv w ha h0 h1 _ (ntx_of hu w)
  | pointer p u hu => exact ty12 p u sv w ha _ (ntx_of hu w)
  | record p u us hu hs =>
    have h2 := fields_len hs; have h3 : countT (T.mk 10 [] 0 p (u :: us)) = 1 + countT u + countL us := cntC _ _ _ _ _ _
    have hk : ∀ t ∈ us, ∃ x m q z, t = .mk 11 x m q [z] ∧ x.length ≤ 12 ∧ NTx w z (nameTx z) := fun t ht => by
      obtain ⟨x, m, q, z, e, hx, -, -, hz⟩ := decl_of (hs t ht)
      exact ⟨x, m, q, z, e, nameB_len hx, ntx_of (tn_of hz) w⟩
    have hfld : ∀ t, (fun x => typedTx x ++ [59, 32]) t = starTx t ++ ([58, 32] ++ (nameTx (subT t 0) ++ [59, 32])) := fun t => by simp [typedTx]
    have e : typeTx (.mk 10 [] 0 p (u :: us)) = [82, 69, 67, 79, 82, 68, 32] ++ ((if u.kind = 0 then [] else 40 :: (nameTx u ++ [41, 32])) ++ (flatTx (fun x => typedTx x ++ [59, 32]) us ++ [69, 78, 68])) := by simp [typeTx, T.kind, subT, T.subs]; rfl
    rw [e]
    rcases hu with ⟨q, rfl⟩ | ⟨hk0, hu⟩
    · rw [if_pos (show (T.mk 0 [] 0 q []).kind = 0 from rfl)]
      exact ty10n p _ us sv w ha (fun x => typedTx x ++ [59, 32]) hfld rfl hk (by omega)
    · rw [if_neg (by rw [hk0]; decide)]
      have h9 := ty10b p u us sv w ha (fun x => typedTx x ++ [59, 32]) hfld (nameTx u) (by rw [hk0]; rfl) (ntx_of hu w) hk (by omega)
      have e2 : ([82, 69, 67, 79, 82, 68, 32] ++ [40] ++ nameTx u ++ [41, 32]) ++ (flatTx (fun x => typedTx x ++ [59, 32]) us ++ [69, 78, 68]) = [82, 69, 67, 79, 82, 68, 32] ++ (40 :: (nameTx u ++ [41, 32]) ++ (flatTx (fun x => typedTx x ++ [59, 32]) us ++ [69, 78, 68])) := by simp
      rw [e2] at h9
      exact h9
end Go.Proofs.YtapfecciakijhaaGreatDoor

/- The document's texts: every section of declarations. -/
namespace Go.Proofs.YtapfecciakijhaaGreatDoor
open Go.RowKit

theorem count_sub1 (k : Int) (x : List UInt8) (m p : Int) (u : T) : countT (.mk k x m p [u]) = 1 + countT u := cnt1 k x m p u
theorem dtx_const (f : Nat) (l : List T) (H : ∀ v ∈ l, Well (.declared 4 1 .expression) v) (hd : ∀ v ∈ l, depthT v ≤ f) (hc : countL l ≤ 3000) (w : World) (sl : Value) (ha : AT w l sl) :
    Calls Tryz.prog 19 #[.string ⟨List.toArray [67, 79, 78, 83, 84]⟩, sl] w (Sy w (.string ⟨(sectTx [67, 79, 78, 83, 84] (constTx f) l).toArray⟩)) := by
  rw [← sect_const]; refine decl_const [67, 79, 78, 83, 84] 4 l sl (exprTx f) w ha rfl (fun t ht => ?_) (fun x m p u hm => ?_) (by decide) ?_
  · obtain ⟨x, m, p, u, e, hx, -, -, -⟩ := decl_of (H t ht)
    exact ⟨x, m, p, u, e, nameB_len hx⟩
  · obtain ⟨x', m', p', u', e, -, -, -, hu⟩ := decl_of (H _ hm)
    cases e; have h1 := hd _ hm; have h2 := depth_sub (t := .mk 4 x m p [u]) (u := u) (by simp [T.subs]); have h3 := countL_mem hm; rw [count_sub1] at h3; have h4 := expr_len f u hu; refine ⟨by omega, fun w' sv _ ha' => (etx_any f u (by omega) hu (by omega) w').2 w' sv (gb_refl w' none) ha'⟩
  · have h5 := flatTx_len (fun t => [32, 32] ++ (starTx t ++ ([32, 61, 32] ++ (exprTx f (subT t 0) ++ [59, 10])))) 60 l (fun t ht => by
      obtain ⟨x, m, p, u, rfl, hx, -, -, hu⟩ := decl_of (H t ht); have h1 := starTx_len (t := .mk 4 x m p [u]) hx; have h4 := expr_len f u hu; rw [count_sub1, show subT (T.mk 4 x m p [u]) 0 = u from rfl]; simp only [List.length_append, List.length_cons, List.length_nil]
      omega)
    omega
theorem dtx_named (l : List T) (H : ∀ v ∈ l, Well (.declared 5 1 .typeItself) v) (hc : countL l ≤ 3000) (w : World) (sl : Value) (ha : AT w l sl) :
    Calls Tryz.prog 19 #[.string ⟨List.toArray [84, 89, 80, 69]⟩, sl] w (Sy w (.string ⟨(sectTx [84, 89, 80, 69] namedTx l).toArray⟩)) := by
  rw [← sect_named]; refine decl_named [84, 89, 80, 69] 5 l sl typeTx w ha rfl (fun t ht => ?_) (fun x m p u hm => ?_) (by decide) ?_
  · obtain ⟨x, m, p, u, e, hx, -, -, -⟩ := decl_of (H t ht)
    exact ⟨x, m, p, u, e, nameB_len hx⟩
  · obtain ⟨x', m', p', u', e, -, -, -, hu⟩ := decl_of (H _ hm)
    cases e; have h3 := countL_mem hm; rw [count_sub1] at h3; have h4 := typeTx_len (ty_of hu); refine ⟨by omega, fun w' sv _ ha' => ttx_any (ty_of hu) (by omega) w' sv ha'⟩
  · have h5 := flatTx_len (fun t => [32, 32] ++ (starTx t ++ ([32, 61, 32] ++ (typeTx (subT t 0) ++ [59, 10])))) 150 l (fun t ht => by
      obtain ⟨x, m, p, u, rfl, hx, -, -, hu⟩ := decl_of (H t ht); have h1 := starTx_len (t := .mk 5 x m p [u]) hx; have h4 := typeTx_len (ty_of hu); rw [count_sub1, show subT (T.mk 5 x m p [u]) 0 = u from rfl]; simp only [List.length_append, List.length_cons, List.length_nil]
      omega)
    omega
theorem dtx_typed (most : Int) (l : List T) (H : ∀ v ∈ l, Well (.declared 6 most .typeName) v) (hc : countL l ≤ 3000) (w : World) (sl : Value) (ha : AT w l sl) :
    Calls Tryz.prog 19 #[.string ⟨List.toArray [86, 65, 82]⟩, sl] w (Sy w (.string ⟨(sectTx VARw typedTx l).toArray⟩)) := by
  rw [← sect_typed]; refine decl_typed VARw 6 l sl nameTx w ha rfl (fun t ht => ?_) (fun x m p u hm => ?_) (by decide) ?_
  · obtain ⟨x, m, p, u, e, hx, -, -, -⟩ := decl_of (H t ht)
    exact ⟨x, m, p, u, e, nameB_len hx⟩
  · obtain ⟨x', m', p', u', e, -, -, -, hu⟩ := decl_of (H _ hm)
    cases e; have h4 := nameTx_len (tn_of hu); refine ⟨by omega, fun w' sv _ ha' => (ntx_of (tn_of hu) w').2 w' sv (gb_refl w' none) ha'⟩
  · have h5 := flatTx_len (fun t => [32, 32] ++ (starTx t ++ ([58, 32] ++ (nameTx (subT t 0) ++ [59, 10])))) 50 l (fun t ht => by
      obtain ⟨x, m, p, u, rfl, hx, -, -, hu⟩ := decl_of (H t ht); have h1 := starTx_len (t := .mk 6 x m p [u]) hx; have h4 := nameTx_len (tn_of hu); have h6 := countT_pos u; rw [count_sub1, show subT (T.mk 6 x m p [u]) 0 = u from rfl]; simp only [List.length_append, List.length_cons, List.length_nil]
      omega)
    omega
end Go.Proofs.YtapfecciakijhaaGreatDoor
