/- One part more of a designator. -/
import Derived.Test.YtnmkffjklpfflaaGreatDoorG19
namespace Go.Proofs.YtnmkffjklpfflaaGreatDoor
open Go.RowKit
set_option maxHeartbeats 4000000
set_option maxRecDepth 100000
theorem LR.putS {w : World} {S : Nat -> Prop} {ts : List T} {v : Value} {b : Nat} (h : LR w S ts v) (hb : ¬ S b) (o : Nat) (u : Value) : LR (w.setCell ⟨b,o,none⟩ u) S ts v :=
 h.kept (zR (zc w (some b)) o u) (fun k hk hs => by cases hk; exact hb hs)
theorem fY {L : List Tok} {E : P T} {of' : T} {i : Nat} (h : wd L i = jv) : vw L E of' i = (uj L).bind (fun s => P.ret (.mk 25 s 0 of'.at' [of'])) (i + 1) := by
 unfold vw; rw [if_pos h]
theorem hY {L : List Tok} {E : P T} {of' : T} {i : Nat} (h : wd L i = pf) : vw L E of' i = E.bind (fun e => (zD L mA).bind fun _ => P.ret (.mk 26 [] 0 of'.at' [of',e])) (i + 1) := by
 unfold vw; rw [if_neg (by rw [h]; decide),if_pos h]
theorem pn {L : List Tok} {E : P T} {of' : T} {i : Nat} (h : wd L i = fM) : vw L E of' i = .ok (.mk 27 [] 0 of'.at' [of'],i + 1) := by
 unfold vw; rw [if_neg (by rw [h]; decide),if_neg (by rw [h]; decide),if_pos h]
theorem qO {L : List Tok} {E : P T} {of' : T} {i : Nat} (h : wd L i = mg) : vw L E of' i = (yf L).bind (fun y => (zD L mV).bind fun _ => P.ret (.mk 28 [] 0 of'.at' [of',y])) (i + 1) := by
 unfold vw; rw [if_neg (by rw [h]; decide),if_neg (by rw [h]; decide),if_neg (by rw [h]; decide)]
theorem pN (c : PC) (w : World) (i d : Nat) (E : P T) (of' : T) (S0 : Nat -> Prop) (svo : Value) (h : PS c w i d) (hl : LR w S0 of'.subs svo) (hS : ∀ k,S0 k -> k < w.heap.size /\ k ≠ c.pb) (hE : ExprOK c d E) (hp : yH (wd c.L i) = true) :
    Calls Tryz.prog 224 #[.pointer (some ⟨c.pb,0,none⟩),.agg #[.int .i64 of'.kind,.string ⟨of'.name.toArray⟩,.int .i64 of'.num,.int .i64 of'.at',svo]] w
      (Steps c w i d (fun w' t v => ∃ sv,v = .agg #[.int .i64 t.kind,.string ⟨t.name.toArray⟩,.int .i64 t.num,.int .i64 t.at',sv] /\ LR w' (Un S0 w.heap.size w'.heap.size) t.subs sv) (vw c.L E of' i)) := by
  obtain ⟨u,x,z,l,A⟩ := of'; simp only [T.kind,T.name,T.num,T.at',T.subs] at hl ⊢; obtain ⟨_,_,rfl⟩ := hl.form; have HP := ze h; have O := ze h.low; have j := h.lt; have HE := ze hE; have HS := ze hS
  have Q : ¬ S0 c.pb := fun e => (hS _ e).2 rfl
  have b9 := ze hl
  have c0 : wd c.L i ≠ [] := by
    intro e; rw [e] at hp
    revert hp
    decide
  have c1 := ze hp; clear h hE hS hl hp
  go_enter Tryz.func224,Tryz.ntmps224
  go_wp2_with fail; go_at_call 139; refine (xg c _ i d (PS.alloc (PS.alloc (PS.alloc (PS.alloc HP.out _) _) _) _) c0).mono ?_; rintro e D ⟨rfl,X,p1⟩; have G1 : w.grownBy D (some c.pb) := za (zf (zf (zf (zf (zc w (some c.pb)) _) _) _) _) X; have s1 := X.size
  try simp at s1
  have r1 : RB D (w.heap.size + 1) := RB.kept (RB.alloc (RB.alloc (RB.new' (by simp)) _) _) X (by simp; omega)
  have l1 : LR D (fun k => S0 k \/ k = w.heap.size + 1 + 1) [T.mk u x z l A] (.slice (some ⟨w.heap.size + 1 + 1,0,none⟩) 1 1) := by
    refine LR.kept (row := some c.pb) ?_ X (fun b j hs => by cases j; exact hs.elim (fun h => Q h) (fun h => by omega)); refine LR.grownU ?_ (World.grownBy_alloc _ _ none)
    exact LR.build1S _ (t := T.mk u x z l A) (S := S0) ((b9.out.grownU (World.grownBy_alloc _ _ none)).grownU (World.grownBy_alloc _ _ none)) (fun k g => Nat.lt_of_lt_of_le (HS.out k g).1 (by omega)) (by simp) rfl
  have n1 : NB D (w.heap.size + 1 + 1 + 1) (.int .i64 0) (.string ⟨#[]⟩) (.int .i64 0) (.int .i64 l) (.slice (some ⟨w.heap.size + 1 + 1,0,none⟩) 1 1) := NB.kept (NB.new' (by simp)) X (by simp; omega); have c2 := r1.lt; have c3 := n1.lt; obtain ⟨_,_,_,_,_,_,_,_,_,_,_⟩ := id r1; obtain ⟨_,_,x2,_,x4,_⟩ := id n1
  have a4 : ¬ S0 (w.heap.size + 1) := fun e => by have := (HS.out _ e).1; omega
  have F : ¬ S0 (w.heap.size + 1 + 1 + 1) := fun e => by have := (HS.out _ e).1; omega
  by_cases h1 : wd c.L i = jv
  · have c4 : (wd c.L i == [46]) = true := by rw [h1]; decide
    go_wp2_with fail; go_at_call 89; refine (vq c _ (i + 1) d (PS.put p1 O.out (by omega) _ _)).mono ?_; rintro e w2 (⟨x2,a5,b7,G⟩ | ⟨a2,j2,v2,a5,rfl,⟨rfl,d1,d2⟩,G,p2,d3⟩)
    · obtain ⟨q,rfl,-⟩ := id b7; exact ⟨rfl,Steps.err ((fY h1).trans (P.bind_err a5)) b7 (zq G1 (by omega) _ _) G⟩
    have G2 : w.grownBy w2 (some c.pb) := za (zq G1 (by omega) _ _) G; have s2 := G.size
    try simp at s2
    have r2 : RB w2 (w.heap.size + 1) := RB.kept (RB.put r1 _ _ _) G (by simp; omega); have n2 : NB w2 (w.heap.size + 1 + 1 + 1) (.int .i64 25) (.string ⟨#[]⟩) (.int .i64 0) (.int .i64 l) (.slice (some ⟨w.heap.size + 1 + 1,0,none⟩) 1 1) := NB.kept (NB.s0 n1 _) G (by simp; omega)
    have l2 : LR w2 (fun k => S0 k \/ k = w.heap.size + 1 + 1) [T.mk u x z l A] (.slice (some ⟨w.heap.size + 1 + 1,0,none⟩) 1 1) := by
      refine LR.kept (row := some c.pb) ?_ G (fun b j hs => by cases j; exact hs.elim (fun h => Q h) (fun h => by omega)); refine LR.kept (row := some (w.heap.size + 1 + 1 + 1)) l1 (zR (zc _ _) _ _) (fun b j hs => by cases j; exact hs.elim (fun h => F h) (fun h => by omega))
    have c5 := r2.lt; have c6 := n2.lt; obtain ⟨_,_,_,_,_,u0,u1,u2,u3,u4,uz⟩ := id r2; obtain ⟨z0,z1,z2,z3,z4,zz⟩ := id n2; go_wp2; refine zj Tryz.results224 rfl (RB.five ?_) rfl ?_
    · exact RB.put r2 _ _ _
    refine Steps.ok (a := T.mk 25 a2 0 l [T.mk u x z l A]) ((fY h1).trans (P.bind_ok a5)) ⟨_,rfl,?_⟩ ?_ ?_ (by omega)
    · have hq := l2
      refine LR.mono (S := fun k => S0 k \/ k = w.heap.size + 1 + 1) (ts := [T.mk u x z l A]) ?_ (fun k g => ?_)
      · have f : ¬ (S0 (w.heap.size + 1) \/ w.heap.size + 1 = w.heap.size + 1 + 1) := fun h => h.elim a4 (fun h => by omega)
        have a7 : ¬ (S0 (w.heap.size + 1 + 1 + 1) \/ w.heap.size + 1 + 1 + 1 = w.heap.size + 1 + 1) := fun h => h.elim F (fun h => by omega)
        exact (((((hq.putS a7 _ _).putS f _ _).putS f _ _).putS f _ _).putS f _ _).putS f _ _
      · rcases g with g | g
        · exact .inl g
        · exact .inr ⟨by omega,by first | omega | (simp <;> omega)⟩
    · exact zy (zq G2 (by omega) _ _) (by omega)
    · exact PS.p5 (PS.put p2 O.out (by omega) _ _) O.out (by omega)
  have c4 : (wd c.L i == [46]) = false := by simpa [jv] using h1
  by_cases h3 : wd c.L i = fM
  · have b8 : (wd c.L i == [91]) = false := by rw [h3]; decide
    have c7 : (wd c.L i == [94]) = true := by rw [h3]; decide
    go_wp2; refine zj Tryz.results224 rfl (RB.five ?_) rfl ?_
    · exact RB.put r1 _ _ _
    refine Steps.ok (a := T.mk 27 [] 0 l [T.mk u x z l A]) (pn h3) ⟨_,rfl,?_⟩ ?_ ?_ (by omega)
    · have hq := l1
      refine LR.mono (S := fun k => S0 k \/ k = w.heap.size + 1 + 1) (ts := [T.mk u x z l A]) ?_ (fun k g => ?_)
      · have f : ¬ (S0 (w.heap.size + 1) \/ w.heap.size + 1 = w.heap.size + 1 + 1) := fun h => h.elim a4 (fun h => by omega)
        have a7 : ¬ (S0 (w.heap.size + 1 + 1 + 1) \/ w.heap.size + 1 + 1 + 1 = w.heap.size + 1 + 1) := fun h => h.elim F (fun h => by omega)
        exact (((((hq.putS a7 _ _).putS f _ _).putS f _ _).putS f _ _).putS f _ _).putS f _ _
      · rcases g with g | g
        · exact .inl g
        · exact .inr ⟨by omega,by first | omega | (simp <;> omega)⟩
    · exact zy (zq G1 (by omega) _ _) (by omega)
    · exact PS.p5 (PS.put p1 O.out (by omega) _ _) O.out (by omega)
  by_cases h2 : wd c.L i = pf
  · have b8 : (wd c.L i == [91]) = true := by rw [h2]; decide
    go_wp2_with fail
    go_region_law (first
      | (go_simp
         go_at_call 145; refine (HE.out.call _ (i + 1) (PS.drew (PS.put p1 O.out (by omega) _ _)) trivial).mono ?_; rintro e H (⟨x4,B,Y,m⟩ | ⟨⟨R,n4,U,V,I⟩,j4,v4,B,rfl,⟨c8,rfl,o⟩,m,p4,c9⟩)
         focus
           have HT := Y; obtain ⟨q,rfl,-⟩ := Y
           exact ⟨rfl,Steps.err ((hY h2).trans (P.bind_err B)) HT (zh (zq G1 (by omega) _ _)) m⟩
         simp only [T.kind,T.name,T.num,T.at',T.subs] at o ⊢; obtain ⟨Z,a0,rfl⟩ := o.form; have s4 := m.size
         try simp at s4
         have J : NB H (w.heap.size + 1 + 1 + 1) (.int .i64 26) (.string ⟨#[]⟩) (.int .i64 0) (.int .i64 l) (.slice (some ⟨w.heap.size + 1 + 1,0,none⟩) 1 1) := NB.kept (NB.drew (NB.s0 n1 _)) m (by simp; omega); have r4 : RB H (w.heap.size + 1) := RB.kept (RB.drew (RB.put r1 _ _ _)) m (by simp; omega); have G4 : w.grownBy H (some c.pb) := za (zh (zq G1 (by omega) _ _)) m
         have a8 : LR H (fun k => S0 k \/ k = w.heap.size + 1 + 1) [T.mk u x z l A] (.slice (some ⟨w.heap.size + 1 + 1,0,none⟩) 1 1) := by
           refine LR.kept (row := some c.pb) ?_ m (fun b j hs => by cases j; exact hs.elim (fun h => Q h) (fun h => by omega)); refine LR.kept (row := none) ?_ (zo (zc _ none) 1) (fun b j => by cases j)
           exact LR.kept (row := some (w.heap.size + 1 + 1 + 1)) l1 (zR (zc _ _) _ _) (fun b j hs => by cases j; exact hs.elim (fun h => F h) (fun h => by omega))
         have o := LR.wide o (lo' := D.heap.size) (by simp) (Nat.le_refl _); have a9 := J.lt; have b0 := r4.lt
         obtain ⟨z0,z1,z2,z3,z4,zz⟩ := id J)
      | (have r : ∀ b,Value.ownBlock (.slice (some ⟨w.heap.size + 1 + 1,0,none⟩) 1 1) = some b -> b = w.heap.size + 1 + 1 := fun b e => by simp [Value.ownBlock] at e; omega
         refine xL (v := .slice (some ⟨w.heap.size + 1 + 1,0,none⟩) 1 1) rfl _ _ rfl (fun k => S0 k \/ (k = w.heap.size + 1 + 1 \/ (D.heap.size <= k /\ k < H.heap.size + 2))) rfl rfl (a8.grownU (World.grownBy_alloc _ _ none)) (LR.build1 H (cs := #[.int .i64 R,.string ⟨n4.toArray⟩,.int .i64 U,.int .i64 V,.slice Z I.length a0]) (t := T.mk R n4 U V I) (sv := .slice Z I.length a0) o rfl rfl (by omega))
           (fun k g e => by have h1 := r k e; have h2 : D.heap.size <= k := g.1; omega) (fun k g => g.elim .inl (fun h => .inr (.inl h))) (fun k g => .inr (.inr ⟨g.1,by have h : k < H.heap.size + 1 := g.2; omega⟩)) (.inr (.inr ⟨by simp; omega,by simp⟩)) (by simp) ?_
         intro v5 C a1 s; obtain ⟨K,M,e5⟩ := a1.form; rw [List.length_append,List.length_singleton] at e5; subst e5; have s5 := s.size
         try simp at s5
         have n5 : NB C (w.heap.size + 1 + 1 + 1) (.int .i64 26) (.string ⟨#[]⟩) (.int .i64 0) (.int .i64 l) (.slice (some ⟨w.heap.size + 1 + 1,0,none⟩) 1 1) := NB.kept (J.alloc _) s (fun e => by have := r _ e.symm; omega); have r5 : RB C (w.heap.size + 1) := RB.kept (r4.alloc _) s (fun e => by have := r _ e.symm; omega); have p5 : PS c C j4 d := PS.own (p4.alloc _) O.out s (fun b j => by have := r b j; omega); have G5 : w.grownBy C (some c.pb) := yX (zf G4 _) s (fun b j => by have := r b j; omega); have b1 := n5.lt; have b2 := r5.lt
         obtain ⟨z0,z1,z2,z3,z4,zz⟩ := id n5))
    all_goals
      have b3 : LR C (fun k => S0 k \/ (k = w.heap.size + 1 + 1 \/ (D.heap.size <= k /\ k < C.heap.size))) [T.mk u x z l A,T.mk R n4 U V I] (.slice K 2 M) := a1.bounded.mono (fun k g => g.1.elim .inl (fun h => .inr (h.elim .inl (fun h => .inr ⟨h.1,g.2⟩)))); go_wp2_with fail; go_at_call 88; refine (zx c _ j4 d mA _ rfl (by decide) (PS.put p5 O.out (by omega) _ _)).mono ?_; rintro e w6 (⟨x6,N,a3,n⟩ | ⟨a6,j6,v6,N,rfl,-,n,p6,d0⟩)
      · obtain ⟨q,rfl,-⟩ := id a3; exact ⟨rfl,Steps.err (((hY h2).trans (P.bind_ok B)).trans (P.bind_err N)) a3 (zq G5 (by omega) _ _) n⟩
      have b4 : vw c.L E (T.mk u x z l A) i = _ := ((hY h2).trans (P.bind_ok B)).trans (P.bind_ok N); have G6 : w.grownBy w6 (some c.pb) := za (zq G5 (by omega) _ _) n; have s6 := n.size
      try simp at s6
      have r6 : RB w6 (w.heap.size + 1) := RB.kept (RB.put r5 _ _ _) n (by simp; omega); have n6 : NB w6 (w.heap.size + 1 + 1 + 1) (.int .i64 26) (.string ⟨#[]⟩) (.int .i64 0) (.int .i64 l) (.slice K 2 M) := NB.kept (NB.s4 n5 _) n (by simp; omega)
      have l6 : LR w6 (fun k => S0 k \/ (k = w.heap.size + 1 + 1 \/ (D.heap.size <= k /\ k < C.heap.size))) [T.mk u x z l A,T.mk R n4 U V I] (.slice K 2 M) := by
        refine LR.kept (row := some c.pb) ?_ n (fun b j hs => by cases j; exact hs.elim (fun h => Q h) (fun h => by omega))
        exact LR.kept (row := some (w.heap.size + 1 + 1 + 1)) b3 (zR (zc _ _) _ _) (fun b j hs => by cases j; exact hs.elim (fun h => F h) (fun h => by omega))
      have b5 := r6.lt; have b6 := n6.lt; obtain ⟨_,_,_,_,_,u0,u1,u2,u3,u4,uz⟩ := id r6; obtain ⟨t0,t1,t2,t3,t4,tz⟩ := id n6; go_wp2; refine zj Tryz.results224 rfl (RB.five ?_) rfl ?_
      · exact r6
      refine Steps.ok (a := T.mk 26 [] 0 l [T.mk u x z l A,T.mk R n4 U V I]) b4 ⟨_,rfl,?_⟩ ?_ ?_ (by omega)
      · refine LR.mono (S := fun k => S0 k \/ (k = w.heap.size + 1 + 1 \/ (D.heap.size <= k /\ k < C.heap.size))) (ts := [T.mk u x z l A,T.mk R n4 U V I]) ?_ (fun k g => ?_)
        · have f : ¬ (S0 (w.heap.size + 1) \/ (w.heap.size + 1 = w.heap.size + 1 + 1 \/ (D.heap.size <= w.heap.size + 1 /\ w.heap.size + 1 < C.heap.size))) := fun h => h.elim a4 (fun h => by omega)
          exact ((((l6.putS f _ _).putS f _ _).putS f _ _).putS f _ _).putS f _ _
        · rcases g with g | g
          · exact .inl g
          · exact .inr ⟨by omega,by first | omega | (simp <;> omega)⟩
      · exact zy G6 (by omega)
      · exact PS.p5 p6 O.out (by omega)
  · have b8 : (wd c.L i == [91]) = false := by simpa [pf] using h2
    have c7 : (wd c.L i == [94]) = false := by simpa [fM] using h3
    have h4 : wd c.L i = mg := by
      have h := c1.out
      unfold yH at h
      simp only [Bool.or_eq_true,beq_iff_eq] at h
      rcases h with ((h | h) | h) | h
      · exact absurd h h1
      · exact absurd h h2
      · exact absurd h h3
      · exact h
    have d4 : (wd c.L i == [123]) = true := by rw [h4]; decide
    go_wp2_with fail
    go_region_law (first
      | (go_simp
         go_at_call 177; refine (yF c _ (i + 1) d (PS.drew (PS.put p1 O.out (by omega) _ _))).mono ?_; rintro e H (⟨x4,B,Y,m⟩ | ⟨⟨R,n4,U,V,I⟩,j4,v4,B,rfl,⟨c8,rfl,o⟩,m,p4,c9⟩)
         focus
           have HT := Y; obtain ⟨q,rfl,-⟩ := Y
           exact ⟨rfl,Steps.err ((qO h4).trans (P.bind_err B)) HT (zh (zq G1 (by omega) _ _)) m⟩
         simp only [T.kind,T.name,T.num,T.at',T.subs] at o ⊢; obtain ⟨Z,a0,rfl⟩ := o.form; have s4 := m.size
         try simp at s4
         have J : NB H (w.heap.size + 1 + 1 + 1) (.int .i64 28) (.string ⟨#[]⟩) (.int .i64 0) (.int .i64 l) (.slice (some ⟨w.heap.size + 1 + 1,0,none⟩) 1 1) := NB.kept (NB.drew (NB.s0 n1 _)) m (by simp; omega); have r4 : RB H (w.heap.size + 1) := RB.kept (RB.drew (RB.put r1 _ _ _)) m (by simp; omega); have G4 : w.grownBy H (some c.pb) := za (zh (zq G1 (by omega) _ _)) m
         have a8 : LR H (fun k => S0 k \/ k = w.heap.size + 1 + 1) [T.mk u x z l A] (.slice (some ⟨w.heap.size + 1 + 1,0,none⟩) 1 1) := by
           refine LR.kept (row := some c.pb) ?_ m (fun b j hs => by cases j; exact hs.elim (fun h => Q h) (fun h => by omega)); refine LR.kept (row := none) ?_ (zo (zc _ none) 1) (fun b j => by cases j)
           exact LR.kept (row := some (w.heap.size + 1 + 1 + 1)) l1 (zR (zc _ _) _ _) (fun b j hs => by cases j; exact hs.elim (fun h => F h) (fun h => by omega))
         have o := LR.wide o (lo' := D.heap.size) (by simp) (Nat.le_refl _); have a9 := J.lt; have b0 := r4.lt
         obtain ⟨z0,z1,z2,z3,z4,zz⟩ := id J)
      | (have r : ∀ b,Value.ownBlock (.slice (some ⟨w.heap.size + 1 + 1,0,none⟩) 1 1) = some b -> b = w.heap.size + 1 + 1 := fun b e => by simp [Value.ownBlock] at e; omega
         refine xL (v := .slice (some ⟨w.heap.size + 1 + 1,0,none⟩) 1 1) rfl _ _ rfl (fun k => S0 k \/ (k = w.heap.size + 1 + 1 \/ (D.heap.size <= k /\ k < H.heap.size + 2))) rfl rfl (a8.grownU (World.grownBy_alloc _ _ none)) (LR.build1 H (cs := #[.int .i64 R,.string ⟨n4.toArray⟩,.int .i64 U,.int .i64 V,.slice Z I.length a0]) (t := T.mk R n4 U V I) (sv := .slice Z I.length a0) o rfl rfl (by omega))
           (fun k g e => by have h1 := r k e; have h2 : D.heap.size <= k := g.1; omega) (fun k g => g.elim .inl (fun h => .inr (.inl h))) (fun k g => .inr (.inr ⟨g.1,by have h : k < H.heap.size + 1 := g.2; omega⟩)) (.inr (.inr ⟨by simp; omega,by simp⟩)) (by simp) ?_
         intro v5 C a1 s; obtain ⟨K,M,e5⟩ := a1.form; rw [List.length_append,List.length_singleton] at e5; subst e5; have s5 := s.size
         try simp at s5
         have n5 : NB C (w.heap.size + 1 + 1 + 1) (.int .i64 28) (.string ⟨#[]⟩) (.int .i64 0) (.int .i64 l) (.slice (some ⟨w.heap.size + 1 + 1,0,none⟩) 1 1) := NB.kept (J.alloc _) s (fun e => by have := r _ e.symm; omega); have r5 : RB C (w.heap.size + 1) := RB.kept (r4.alloc _) s (fun e => by have := r _ e.symm; omega); have p5 : PS c C j4 d := PS.own (p4.alloc _) O.out s (fun b j => by have := r b j; omega); have G5 : w.grownBy C (some c.pb) := yX (zf G4 _) s (fun b j => by have := r b j; omega); have b1 := n5.lt; have b2 := r5.lt
         obtain ⟨z0,z1,z2,z3,z4,zz⟩ := id n5))
    all_goals
      have b3 : LR C (fun k => S0 k \/ (k = w.heap.size + 1 + 1 \/ (D.heap.size <= k /\ k < C.heap.size))) [T.mk u x z l A,T.mk R n4 U V I] (.slice K 2 M) := a1.bounded.mono (fun k g => g.1.elim .inl (fun h => .inr (h.elim .inl (fun h => .inr ⟨h.1,g.2⟩)))); go_wp2_with fail; go_at_call 88; refine (zx c _ j4 d mV _ rfl (by decide) (PS.put p5 O.out (by omega) _ _)).mono ?_; rintro e w6 (⟨x6,N,a3,n⟩ | ⟨a6,j6,v6,N,rfl,-,n,p6,d0⟩)
      · obtain ⟨q,rfl,-⟩ := id a3; exact ⟨rfl,Steps.err (((qO h4).trans (P.bind_ok B)).trans (P.bind_err N)) a3 (zq G5 (by omega) _ _) n⟩
      have b4 : vw c.L E (T.mk u x z l A) i = _ := ((qO h4).trans (P.bind_ok B)).trans (P.bind_ok N); have G6 : w.grownBy w6 (some c.pb) := za (zq G5 (by omega) _ _) n; have s6 := n.size
      try simp at s6
      have r6 : RB w6 (w.heap.size + 1) := RB.kept (RB.put r5 _ _ _) n (by simp; omega); have n6 : NB w6 (w.heap.size + 1 + 1 + 1) (.int .i64 28) (.string ⟨#[]⟩) (.int .i64 0) (.int .i64 l) (.slice K 2 M) := NB.kept (NB.s4 n5 _) n (by simp; omega)
      have l6 : LR w6 (fun k => S0 k \/ (k = w.heap.size + 1 + 1 \/ (D.heap.size <= k /\ k < C.heap.size))) [T.mk u x z l A,T.mk R n4 U V I] (.slice K 2 M) := by
        refine LR.kept (row := some c.pb) ?_ n (fun b j hs => by cases j; exact hs.elim (fun h => Q h) (fun h => by omega))
        exact LR.kept (row := some (w.heap.size + 1 + 1 + 1)) b3 (zR (zc _ _) _ _) (fun b j hs => by cases j; exact hs.elim (fun h => F h) (fun h => by omega))
      have b5 := r6.lt; have b6 := n6.lt; obtain ⟨_,_,_,_,_,u0,u1,u2,u3,u4,uz⟩ := id r6; obtain ⟨t0,t1,t2,t3,t4,tz⟩ := id n6; go_wp2; refine zj Tryz.results224 rfl (RB.five ?_) rfl ?_
      · exact r6
      refine Steps.ok (a := T.mk 28 [] 0 l [T.mk u x z l A,T.mk R n4 U V I]) b4 ⟨_,rfl,?_⟩ ?_ ?_ (by omega)
      · refine LR.mono (S := fun k => S0 k \/ (k = w.heap.size + 1 + 1 \/ (D.heap.size <= k /\ k < C.heap.size))) (ts := [T.mk u x z l A,T.mk R n4 U V I]) ?_ (fun k g => ?_)
        · have f : ¬ (S0 (w.heap.size + 1) \/ (w.heap.size + 1 = w.heap.size + 1 + 1 \/ (D.heap.size <= w.heap.size + 1 /\ w.heap.size + 1 < C.heap.size))) := fun h => h.elim a4 (fun h => by omega)
          exact ((((l6.putS f _ _).putS f _ _).putS f _ _).putS f _ _).putS f _ _
        · rcases g with g | g
          · exact .inl g
          · exact .inr ⟨by omega,by first | omega | (simp <;> omega)⟩
      · exact zy G6 (by omega)
      · exact PS.p5 p6 O.out (by omega)
set_option maxHeartbeats 2000000
theorem oX {L : List Tok} {E : P T} {f j : Nat} {t : T} (h : yH (wd L j) = false) : zQ L E f t j = .ok (t,j) := by
 cases f <;> (rw [zQ]; exact if_neg (by rw [h]; decide))
theorem fX {L : List Tok} {E : P T} {f j : Nat} {t : T} (h : yH (wd L j) = true) : zQ L E (f + 1) t j = ((vw L E t).bind fun n' => zQ L E f n') j := by
 rw [zQ]
 exact if_pos h
theorem gz {L : List Tok} {E : P T} {j : Nat} {t : T} (h : yH (wd L j) = true) : zQ L E 0 t j = ((vw L E t).bind fun _ => vi L) j := by
 rw [zQ]
 exact if_pos h
structure DI (c : PC) (w : World) (i d N : Nat) (S0 : Nat -> Prop) (r : Except (Int × Int) (T × Nat)) (q : Nat -> T -> P T) (wr : World) (k : Int) (s : List UInt8) (n a : Int) (l : List T) (sv : Value) (j f : Nat) : Prop where
 nb : NB wr N (.int .i64 k) (.string ⟨s.toArray⟩) (.int .i64 n) (.int .i64 a) sv
 rb : RB wr w.heap.size
 lr : LR wr (Un S0 (N + 1) wr.heap.size) l sv
 ps : PS c wr j d
 gb : w.grownBy wr (some c.pb)
 same : r = q f (.mk k s n a l) j
 le : i <= j
theorem vf (c : PC) (w : World) (i d : Nat) (E : P T) (h : PS c w i d) (hE : ExprOK c d E) :
  Calls Tryz.prog 218 #[.pointer (some ⟨c.pb,0,none⟩)] w (Steps c w i d (fun w' t v => TR w' w.heap.size w'.heap.size t v) (zU c.L E i)) := by
 have HP := ze h; have HL := ze h.low; have hb := h.lt; have HE := ze hE; clear h hE
 go_enter Tryz.func218,Tryz.ntmps218
 go_wp2_with fail; go_at_call 142; refine (vF c _ i d 24 (PS.alloc HP.out _)).mono ?_; rintro e g (⟨x1,I,Z,r⟩ | ⟨⟨k1,n1,m1,q1,X⟩,j1,v1,I,rfl,⟨c2,rfl,u⟩,r,p1,a6⟩)
 ·obtain ⟨q,rfl,-⟩ := id Z; exact ⟨rfl,Steps.err (P.bind_err I) Z (zf (zc w (some c.pb)) _) r⟩
 have a0 : zU c.L E i = _ := P.bind_ok I; simp only [T.kind,T.name,T.num,T.at',T.subs] at u ⊢; obtain ⟨N,O,rfl⟩ := u.form; obtain ⟨o,a7,u⟩ : ∃ b,b = _ /\ LR g (In b g.heap.size) X (.slice N X.length O) := ⟨_,rfl,u⟩
 try simp at a7
 have G1 : w.grownBy g (some c.pb) := za (zf (zc w (some c.pb)) _) r; have s1 := r.size
 try simp at s1
 have r1 : RB g w.heap.size := RB.kept (RB.new' (by simp)) r (by simp; omega)
 have D0 : Hid (DI c w i d g.heap.size (In o g.heap.size) (zU c.L E i) (zQ c.L E) (g.alloc (.cells #[.int .i64 k1,.string ⟨n1.toArray⟩,.int .i64 m1,.int .i64 q1,.slice N X.length O] 100)) k1 n1 m1 q1 X (.slice N X.length O) j1 20) :=
  DI.mk (NB.new' rfl) (r1.alloc _) ((u.un).grownU (World.grownBy_alloc _ _ none)) (p1.alloc _) (zf G1 _) a0 a6
 have c3 : ¬ In o g.heap.size c.pb := fun e => by have h1 : o <= c.pb := e.1; omega
 have a8 : ¬ In o g.heap.size w.heap.size := fun e => by have h1 : o <= w.heap.size := e.1; omega
 have a9 : ¬ In o g.heap.size g.heap.size := fun e => by have h1 : g.heap.size < g.heap.size := e.2; omega
 clear u p1 r a0 I G1 r1; go_wp2_with fail
 go_loopw [4] (fun v wr => ∃ (k : Int) (s : List UInt8) (n a : Int) (l : List T) (sv : Value) (j f : Nat),f <= 20 /\ v = .int .i64 (21 - (f : Int)) /\ Hid (DI c w i d g.heap.size (In o g.heap.size) (zU c.L E i) (zQ c.L E) wr k s n a l sv j f)) (fun v _ => 22 - (intOf v).toNat)
 case atStart => exact ⟨k1,n1,m1,q1,X,_,j1,20,by omega,rfl,D0⟩
 case round =>
  obtain ⟨k,s,n,a,l,sv,j,f,_,rfl,HC⟩ := hrel; clear D0; have H := HC.out; obtain ⟨ad,cp,rfl⟩ := H.lr.form; have b0 := ze H.nb; have b2 := ze H.rb; have b3 := ze H.lr; have a1 := ze H.ps; have HG := ze H.gb; have C := ze H.same; have c4 := H.le; have c5 := H.nb.lt; clear H HC; go_wp2_with fail; go_at_call 223; refine (qt c _ j d a1.out).mono ?_; rintro e w2 ⟨rfl,z⟩; have s2 := z.size; have p2 : PS c w2 j d := a1.out.kept z; have G2 : w.grownBy w2 (some c.pb) := za HG.out (zv z _); have Q := b0.out.kept z (by simp); have J := b2.out.kept z (by simp); have a2 := b3.out.grownU z; have b4 := Q.lt; have b5 := J.lt; obtain ⟨_,x1,_,_,x4,_⟩ := id Q; obtain ⟨_,_,_,_,_,_,_,_,_,_,_⟩ := id J; cases A : yH (wd c.L j)
  ·go_wp2
   refine zj Tryz.results218 rfl (RB.five ?_) rfl ?_
   ·exact J
   refine Steps.ok (a := T.mk k s n a l) (C.out.trans (oX A)) ⟨_,rfl,?_⟩ ?_ ?_ (by omega)
   ·have D : ¬ Un (In o g.heap.size) (g.heap.size + 1) wr.heap.size w.heap.size := fun h => h.elim a8 (fun h => by omega)
    refine LR.mono (S := Un (In o g.heap.size) (g.heap.size + 1) wr.heap.size) (ts := l) ((((((a2.putS D _ _).putS D _ _).putS D _ _).putS D _ _).putS D _ _)) (fun k m => ?_)
    rcases m with m | m
    ·have h1 : o <= k := m.1
     have h2 : k < g.heap.size := m.2
     exact ⟨by omega,by first | omega | (simp <;> omega)⟩
    ·exact ⟨by omega,by first | omega | (simp <;> omega)⟩
   ·exact zy G2 (by omega)
   ·exact PS.p5 p2 HL.out (by omega)
  ·go_wp2_with fail
   go_at_call 224; refine (pN c _ j d E (T.mk k s n a l) (Un (In o g.heap.size) (g.heap.size + 1) wr.heap.size) (.slice ad l.length cp) p2 a2 (fun k m => ?_) HE.out A).mono ?_
   ·rcases m with m | m
    ·have h1 : o <= k := m.1
     have h2 : k < g.heap.size := m.2
     exact ⟨by omega,by omega⟩
    ·exact ⟨by omega,by omega⟩
   rintro e Y (⟨x4,F,a3,B⟩ | ⟨⟨k4,n4,m4,q4,R⟩,j4,v4,F,rfl,⟨c6,rfl,U⟩,B,p4,c7⟩)
   ·have HT := a3
    obtain ⟨q,rfl,-⟩ := a3; refine ⟨rfl,Steps.err (x := x4) ?_ HT G2 B⟩; cases f with
    | zero => exact C.out.trans ((gz A).trans (P.bind_err F))
    | succ f => exact C.out.trans ((fX A).trans (P.bind_err F))
   simp only [T.kind,T.name,T.num,T.at',T.subs] at U ⊢; obtain ⟨K,M,rfl⟩ := U.form; have s4 := B.size; have G4 : w.grownBy Y (some c.pb) := za G2 B; have V := Q.kept B (by simp; omega); have a4 := J.kept B (by simp; omega); have b6 := V.lt; have b7 := a4.lt
   have b8 : LR Y (Un (In o g.heap.size) (g.heap.size + 1) Y.heap.size) R (.slice K R.length M) := U.mono (fun k m => by
    rcases m with (m | m) | m
    ·exact .inl m
    ·exact .inr ⟨m.1,by omega⟩
    ·exact .inr ⟨by omega,m.2⟩)
   have G : ¬ Un (In o g.heap.size) (g.heap.size + 1) Y.heap.size g.heap.size := fun h => h.elim a9 (fun h => by omega)
   have b9 : LR (put5 Y g.heap.size (.int .i64 k4) (.string ⟨n4.toArray⟩) (.int .i64 m4) (.int .i64 q4) (.slice K R.length M)) (Un (In o g.heap.size) (g.heap.size + 1) Y.heap.size) R (.slice K R.length M) :=
    ((((b8.putS G _ _).putS G _ _).putS G _ _).putS G _ _).putS G _ _
   have c0 := ze b9; obtain ⟨_,_,_,_,_,_⟩ := id V; cases f with
   | zero =>
    have hx : decide ((20 : Int) < 21 - ((0 : Nat) : Int)) = true := by decide
    go_wp2_with fail; go_at_call 98; refine (vz c _ j4 d 3 (PS.p5 p4 HL.out (by omega))).mono ?_; rintro e w5 ⟨a5,c1⟩; have HT := a5; obtain ⟨q,rfl,-⟩ := a5
    exact ⟨rfl,Steps.err (x := (3,pos c.L j4)) ((C.out.trans (gz A)).trans (P.bind_ok F)) HT (zy G4 (by omega)) (zv c1 _)⟩
   | succ f =>
    have hx : decide ((20 : Int) < 21 - ((f + 1 : Nat) : Int)) = false := by simp; omega
    go_wp2; refine ⟨⟨k4,n4,m4,q4,R,.slice K R.length M,j4,f,by omega,by simp; omega,DI.mk ((NB.s4 (NB.s3 (NB.s2 (NB.s1 (NB.s0 V _) _) _) _) _)) ((RB.p5 a4)) ?_ ((PS.p5 p4 HL.out (by omega))) ((zy G4 (by omega))) (C.out.trans ((fX A).trans (P.bind_ok F))) (by omega)⟩,?_⟩
    ·exact c0.out.wideU (Nat.le_refl _) (by simp)
    ·simp [intOf]
     omega
end Go.Proofs.YtnmkffjklpfflaaGreatDoor
