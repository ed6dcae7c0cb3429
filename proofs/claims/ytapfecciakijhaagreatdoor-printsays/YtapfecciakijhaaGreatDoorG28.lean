/- The document's texts: every procedure, every module. -/
import Derived.Test.YtapfecciakijhaaGreatDoorG25
import Derived.Test.YtapfecciakijhaaGreatDoorG27
namespace Go.Proofs.YtapfecciakijhaaGreatDoor
open Go.RowKit
set_option maxHeartbeats 1000000

theorem sect_len (word : List UInt8) (hw : word.length ≤ 5) (tx : T → List UInt8) (c : Nat) (l : List T) (h : ∀ t ∈ l, (tx t).length + 4 ≤ c * countT t) : (sectTx word tx l).length ≤ c * countL l + 10 := by
  unfold sectTx
  split
  · simp
  · have := lines_len [59] [59] tx 0 c l (by simp) (fun t ht => by have := h t ht; simp; omega)
    simp only [List.length_append, List.length_cons, List.length_nil] at this ⊢
    omega
theorem params_len {us : List T} (h : ∀ t ∈ us, Well (.declared 8 1 .typeName) t) : (sepTx [59, 32] (us.map paramTx)).length ≤ 50 * countL us :=
  sepTx_len [59, 32] paramTx 50 us (fun t ht => by
    obtain ⟨x, m, p, u, rfl, hx, -, -, hu⟩ := decl_of (h t ht); have h1 := nameB_len hx; have h2 := nameTx_len (tn_of hu); have h3 := countT_pos u; rw [count_sub1]
    unfold paramTx
    rw [show subT (T.mk 8 x m p [u]) 0 = u from rfl, show (T.mk 8 x m p [u]).name = x from rfl]
    split <;> simp only [List.length_append, List.length_cons, List.length_nil] <;> omega)
theorem vars_len {most : Int} {l : List T} (h : ∀ t ∈ l, Well (.declared 6 most .typeName) t) : (sectTx VARw typedTx l).length ≤ 50 * countL l + 10 :=
  sect_len VARw (by decide) typedTx 50 l (fun t ht => by have := typed_len (h t ht); have := countT_pos t; omega)
theorem procTx_eq (f : Nat) (x : List UInt8) (m p q qv : Int) (us vl : List T) (rs bs : T) : procTx f (.mk 7 x m p [.mk 1 [] 0 q us, rs, .mk 1 [] 0 qv vl, bs]) = [80, 82, 79, 67, 69, 68, 85, 82, 69, 32] ++ (starTx (.mk 7 x m p [.mk 1 [] 0 q us, rs, .mk 1 [] 0 qv vl, bs]) ++ ((if us.isEmpty && rs.kind == 0 then [] else [40] ++ (sepTx [59, 32] (us.map paramTx) ++ [41])) ++ ((if rs.kind = 0 then [] else [58, 32] ++ nameTx rs) ++ ([59, 10] ++ (sectTx VARw typedTx vl ++ ([66, 69, 71, 73, 78, 10] ++ (actsTx f 0 bs.subs ++ ([69, 78, 68, 32] ++ (x ++ [59, 10]))))))))) := rfl
theorem cnt4 (k : Int) (x : List UInt8) (m p : Int) (a b c d : T) : countT (.mk k x m p [a, b, c, d]) = 1 + countT a + countT b + countT c + countT d := by
  rw [countT, countL, countL, countL, countL, countL]; omega
theorem cntL (p : Int) (us : List T) : countT (.mk 1 [] 0 p us) = 1 + countL us := by rw [countT]
theorem proc_len (f : Nat) (hf : f ≤ 80) {t : T} (h : Well .procedure t) : (procTx f t).length ≤ 800 * countT t := by
  obtain ⟨x,m,p,_,rs,_,bs,rfl,hx,_,_,hps,hr,hvs,hbs⟩ := proc_of h; obtain ⟨q,us,rfl,hus⟩ := list_of hps; obtain ⟨qv,vl,rfl,hvl⟩ := list_of hvs; have l1 := actsTx_len (f := f) (L := 0) (by omega) hbs; have l2 := vars_len hvl; have l3 := params_len hus; have l4 := starTx_len (t := .mk 7 x m p [.mk 1 [] 0 q us, rs, .mk 1 [] 0 qv vl, bs]) hx; have l5 := nameB_len hx
  have l6 : (if rs.kind = 0 then [] else [58, 32] ++ nameTx rs).length ≤ 27 := by
    rcases hr with ⟨q0, rfl⟩ | ⟨hk, htn⟩
    · simp [T.kind]
    · have := nameTx_len htn
      rw [if_neg (by omega)]; simp only [List.length_append, List.length_cons, List.length_nil]
      omega
  have l7 : (if us.isEmpty && rs.kind == 0 then [] else [40] ++ (sepTx [59, 32] (us.map paramTx) ++ [41])).length ≤ 50 * countL us + 2 := by
    split
    · simp
    · simp only [List.length_append, List.length_cons, List.length_nil]
      omega
  have l8 := countT_pos rs; rw [procTx_eq, cnt4, cntL, cntL]; simp only [List.length_append, List.length_cons, List.length_nil] at l6 l7 ⊢
  omega
theorem depth4 {t u : T} {f : Nat} (hd : depthT t ≤ f) (h : u ∈ t.subs) : depthT u ≤ f := by have := depth_sub h; omega
theorem dproc_any (f : Nat) (hf : f ≤ 80) {t : T} (h : Well .procedure t) (hd : depthT t ≤ f) (hc : countT t ≤ 3000) (w : World) (sv : Value) (ha : AT w t.subs sv) : Calls Tryz.prog 20 #[nodeV t sv] w (Sy w (.string ⟨(procTx f t).toArray⟩)) := by
  obtain ⟨x,m,p,_,rs,_,bs,rfl,hx,_,_,hps,hr,hvs,hbs⟩ := proc_of h; obtain ⟨q,us,rfl,hus⟩ := list_of hps; obtain ⟨qv,vl,rfl,hvl⟩ := list_of hvs; have hdb : depthT bs ≤ f := depth4 hd (by simp [T.subs]); rw [cnt4, cntL, cntL] at hc; have l2 := vars_len hvl; have l3 := params_len hus; have lx := nameB_len hx
  have hD : ∀ w' sl, w.grownBy w' none → AT w' (T.mk 1 [] 0 qv vl).subs sl → Calls Tryz.prog 19 #[.string ⟨List.toArray [86, 65, 82]⟩, sl] w' (Sy w' (.string ⟨(sectTx VARw typedTx vl).toArray⟩)) := fun w' sl _ hal => dtx_typed 0 vl hvl (by omega) w' sl hal
  have hB := sacts_any f hf bs (by omega) hbs (by omega) w
  have hk : ∀ t ∈ us, ∃ y n q z, t = .mk 8 y n q [z] ∧ y.length ≤ 12 ∧ NTx w z (nameTx z) := fun t ht => by
    obtain ⟨y, n, q1, z, e, hy, -, -, hz⟩ := decl_of (hus t ht)
    exact ⟨y, n, q1, z, e, nameB_len hy, ntx_of (tn_of hz) w⟩
  rw [procTx_eq]
  rcases hr with ⟨q0, rfl⟩ | ⟨hk13, htn⟩
  · cases us with
    | nil =>
      rw [if_pos (by rfl), if_pos (by rfl), List.nil_append, List.nil_append]
      exact proc0 x m p q [] _ _ bs sv w ha lx _ _ (by omega) hD hB rfl rfl
    | cons u us =>
      rw [if_neg (by simp), if_pos (by rfl), List.nil_append]; simp only [List.append_assoc]
      exact procN x m p q (u :: us) _ _ bs sv w ha lx _ _ (by omega) hD hB (by simp) rfl hk (by omega)
  · have hne : (rs.kind != 0) = true := by rw [hk13]; rfl
    cases us with
    | nil =>
      rw [if_neg (by rw [hk13]; simp), if_neg (by omega)]; simp only [List.append_assoc]
      exact procR0 x m p q [] _ _ bs sv w ha lx _ _ (by omega) hD hB (by simp) hne _ (ntx_of htn w) hk (by omega)
    | cons u us =>
      rw [if_neg (by simp), if_neg (by omega)]; simp only [List.append_assoc]
      exact procR x m p q (u :: us) _ _ bs sv w ha lx _ _ (by omega) hD hB (by simp) hne _ (ntx_of htn w) hk (by omega)
theorem moduleTx_eq (f : Nat) (x : List UInt8) (p q1 q2 q3 q4 q5 : Int) (us cl tl vl pl : List T) (bs : T) : moduleTx f (.mk 2 x 0 p [.mk 1 [] 0 q1 us, .mk 1 [] 0 q2 cl, .mk 1 [] 0 q3 tl, .mk 1 [] 0 q4 vl, .mk 1 [] 0 q5 pl, bs]) =
    [77, 79, 68, 85, 76, 69, 32] ++ (x ++ ([59, 10] ++ ((if us.isEmpty then [] else [73, 77, 80, 79, 82, 84, 32] ++ (sepTx [44, 32] (us.map T.name) ++ [59, 10])) ++ (sectTx [67, 79, 78, 83, 84] (constTx f) cl ++ (sectTx [84, 89, 80, 69] namedTx tl ++ (sectTx VARw typedTx vl ++
      (flatTx (procTx f) pl ++ ((if bs.subs.isEmpty then [] else [66, 69, 71, 73, 78, 10] ++ actsTx f 0 bs.subs) ++ ([69, 78, 68, 32] ++ (x ++ [46, 10])))))))))) := rfl
theorem cnt6 (k : Int) (x : List UInt8) (m p : Int) (a b c d e g : T) : countT (.mk k x m p [a, b, c, d, e, g]) = 1 + countT a + countT b + countT c + countT d + countT e + countT g := by
  rw [countT, countL, countL, countL, countL, countL, countL, countL]; omega
theorem const_len (f : Nat) {l : List T} (h : ∀ t ∈ l, Well (.declared 4 1 .expression) t) : (sectTx [67, 79, 78, 83, 84] (constTx f) l).length ≤ 60 * countL l + 10 :=
  sect_len _ (by decide) (constTx f) 60 l (fun t ht => by
    obtain ⟨x, m, p, u, rfl, hx, -, -, hu⟩ := decl_of (h t ht); have h1 := starTx_len (t := .mk 4 x m p [u]) hx; have h4 := expr_len f u hu; rw [count_sub1]
    unfold constTx
    rw [show subT (T.mk 4 x m p [u]) 0 = u from rfl]; simp only [List.length_append, List.length_cons, List.length_nil]
    omega)
theorem named_len {l : List T} (h : ∀ t ∈ l, Well (.declared 5 1 .typeItself) t) : (sectTx [84, 89, 80, 69] namedTx l).length ≤ 150 * countL l + 10 :=
  sect_len _ (by decide) namedTx 150 l (fun t ht => by
    obtain ⟨x, m, p, u, rfl, hx, -, -, hu⟩ := decl_of (h t ht); have h1 := starTx_len (t := .mk 5 x m p [u]) hx; have h4 := typeTx_len (ty_of hu); rw [count_sub1]
    unfold namedTx
    rw [show subT (T.mk 5 x m p [u]) 0 = u from rfl]; simp only [List.length_append, List.length_cons, List.length_nil]
    omega)
theorem imps_len {l : List T} (h : ∀ t ∈ l, Well .imported t) : (sepTx [44, 32] (l.map T.name)).length ≤ 14 * countL l :=
  sepTx_len [44, 32] T.name 14 l (fun t ht => by
    obtain ⟨x,p,rfl,hx⟩ := imp_of (h t ht); have h1 := nameB_len hx; have h2 := countT_pos (.mk 3 x 0 p []); simp only [T.name, List.length_cons, List.length_nil]
    omega)
theorem module_len (f : Nat) (hf : f ≤ 80) {t : T} (h : Well .module t) : (moduleTx f t).length ≤ 800 * countT t + 200 := by
  obtain ⟨_,_,_,_,_,_,_,bs,rfl,hx,his,hcs,hts,hvs,hps,hbs⟩ := mod_of h; obtain ⟨_,us,rfl,hus⟩ := list_of his; obtain ⟨_,_,rfl,hcl⟩ := list_of hcs; obtain ⟨_,_,rfl,htl⟩ := list_of hts; obtain ⟨_,_,rfl,hvl⟩ := list_of hvs; obtain ⟨_,pl,rfl,hpl⟩ := list_of hps; have l1 := actsTx_len (f := f) (L := 0) (by omega) hbs; have l2 := vars_len hvl; have l3 := const_len f hcl; have l4 := named_len htl; have l5 := nameB_len hx; have l6 := flatTx_len (procTx f) 800 pl (fun t ht => proc_len f hf (hpl t ht)); have l7 := imps_len hus
  have l8 : (if us.isEmpty then [] else [73, 77, 80, 79, 82, 84, 32] ++ (sepTx [44, 32] (us.map T.name) ++ [59, 10])).length ≤ 14 * countL us + 9 := by
    split
    · simp
    · simp only [List.length_append, List.length_cons, List.length_nil]
      omega
  have l9 : (if bs.subs.isEmpty then [] else [66, 69, 71, 73, 78, 10] ++ actsTx f 0 bs.subs).length ≤ 700 * countT bs := by
    split
    · simp
    · simp only [List.length_append, List.length_cons, List.length_nil]
      omega
  rw [moduleTx_eq, cnt6, cntL, cntL, cntL, cntL, cntL]; simp only [List.length_append, List.length_cons, List.length_nil] at l8 l9 ⊢
  omega
theorem printed_any (f : Nat) (hf : f ≤ 80) {t : T} (h : Well .module t) (hd : depthT t ≤ f) (hc : countT t ≤ 3000) (w : World) (sv : Value) (ha : AT w t.subs sv) : Calls Tryz.prog 7 #[nodeV t sv] w (Sy w (.string ⟨(moduleTx f t).toArray⟩)) := by
  obtain ⟨x,p,_,_,_,_,_,bs,rfl,hx,his,hcs,hts,hvs,hps,hbs⟩ := mod_of h; obtain ⟨q1,us,rfl,hus⟩ := list_of his; obtain ⟨q2,cl,rfl,hcl⟩ := list_of hcs; obtain ⟨q3,tl,rfl,htl⟩ := list_of hts; obtain ⟨q4,vl,rfl,hvl⟩ := list_of hvs; obtain ⟨q5,pl,rfl,hpl⟩ := list_of hps
  have hdc : ∀ v ∈ cl, depthT v ≤ f := fun v hv => depth4 (depth4 hd (u := .mk 1 [] 0 q2 cl) (by simp [T.subs])) hv
  have hdp : ∀ v ∈ pl, depthT v ≤ f := fun v hv => depth4 (depth4 hd (u := .mk 1 [] 0 q5 pl) (by simp [T.subs])) hv
  have hdb : depthT bs ≤ f := depth4 hd (by simp [T.subs]); rw [cnt6, cntL, cntL, cntL, cntL, cntL] at hc; have l2 := vars_len hvl; have l3 := const_len f hcl; have l4 := named_len htl; have lx := nameB_len hx; have l6 := flatTx_len (procTx f) 800 pl (fun t ht => proc_len f hf (hpl t ht)); have l7 := imps_len hus; have hB := sacts_any f hf bs (by omega) hbs (by omega) w
  have hC : ∀ w' sl, w.grownBy w' none → AT w' (T.mk 1 [] 0 q2 cl).subs sl → Calls Tryz.prog 19 #[.string ⟨List.toArray [67, 79, 78, 83, 84]⟩, sl] w' (Sy w' (.string ⟨(sectTx [67, 79, 78, 83, 84] (constTx f) cl).toArray⟩)) := fun w' sl _ hal => dtx_const f cl hcl hdc (by omega) w' sl hal
  have hK : ∀ w' sl, w.grownBy w' none → AT w' (T.mk 1 [] 0 q3 tl).subs sl → Calls Tryz.prog 19 #[.string ⟨List.toArray [84, 89, 80, 69]⟩, sl] w' (Sy w' (.string ⟨(sectTx [84, 89, 80, 69] namedTx tl).toArray⟩)) := fun w' sl _ hal => dtx_named tl htl (by omega) w' sl hal
  have hV : ∀ w' sl, w.grownBy w' none → AT w' (T.mk 1 [] 0 q4 vl).subs sl → Calls Tryz.prog 19 #[.string ⟨List.toArray [86, 65, 82]⟩, sl] w' (Sy w' (.string ⟨(sectTx VARw typedTx vl).toArray⟩)) := fun w' sl _ hal => dtx_typed 1 vl hvl (by omega) w' sl hal
  have hP : ∀ t ∈ pl, (procTx f t).length ≤ 4000000 ∧ ∀ w' st, w.grownBy w' none → AT w' t.subs st → Calls Tryz.prog 20 #[nodeV t st] w' (Sy w' (.string ⟨(procTx f t).toArray⟩)) := fun t ht => by
    have h1 := proc_len f hf (hpl t ht); have h2 := countL_mem ht
    exact ⟨by omega, fun w' st _ hat => dproc_any f hf (hpl t ht) (hdp t ht) (by omega) w' st hat⟩
  rw [moduleTx_eq]; cases us with
  | nil =>
    rw [if_pos (by rfl), List.nil_append]; have hh := printedZ x p q1 q5 [] pl _ _ _ bs sv w ha lx _ _ _ _ (by omega) (by omega) (by omega) hC hK hV hB (procTx f) hP (by omega) _ rfl (by simp); simp only [List.append_assoc] at hh ⊢
    exact hh
  | cons u us =>
    rw [if_neg (by simp)]; have hh := printedI x p q1 q5 (u :: us) pl _ _ _ bs sv w ha lx _ _ _ _ (by omega) (by omega) (by omega) hC hK hV hB (procTx f) hP (by omega) _ rfl (by simp) (fun t ht => by obtain ⟨_,_,rfl,hy⟩ := imp_of (hus t ht); exact nameB_len hy) (by omega); simp only [List.append_assoc] at hh ⊢
    exact hh
end Go.Proofs.YtapfecciakijhaaGreatDoor
