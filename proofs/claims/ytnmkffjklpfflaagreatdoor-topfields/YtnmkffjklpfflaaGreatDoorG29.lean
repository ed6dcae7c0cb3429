/- One part more of a designator. -/
import Derived.Test.YtnmkffjklpfflaaGreatDoorG10
namespace Go.Proofs.YtnmkffjklpfflaaGreatDoor
open Go.RowKit
set_option maxHeartbeats 4000000
set_option maxRecDepth 100000
theorem LR.putS {w : World} {S : Nat -> Prop} {ts : List T} {v : Value} {b : Nat} (h : LR w S ts v) (hb : ¬ S b) (o : Nat) (u : Value) : LR (w.setCell ⟨b,o,none⟩ u) S ts v :=
 h.kept (zT gr o u) (fun k hk hs => by cases hk; exact hb hs)
theorem tq {L : List Tok} {E : P T} {of' : T} {i : Nat} (h : wd L i = jY) : xZ L E of' i = (vd L).bind (fun s => P.ret (.mk 25 s 0 of'.at' [of'])) (i + 1) := by
 unfold xZ; rw [if_pos h]
theorem gA {L : List Tok} {E : P T} {of' : T} {i : Nat} (h : wd L i = mS) : xZ L E of' i = E.bind (fun e => (zB L zah).bind fun _ => P.ret (.mk 26 [] 0 of'.at' [of',e])) (i + 1) := by
 unfold xZ; rw [if_neg (by rw [h]; decide),if_pos h]
theorem ls {L : List Tok} {E : P T} {of' : T} {i : Nat} (h : wd L i = tF) : xZ L E of' i = .ok (.mk 27 [] 0 of'.at' [of'],i + 1) := by
 unfold xZ; rw [if_neg (by rw [h]; decide),if_neg (by rw [h]; decide),if_pos h]
theorem ff {L : List Tok} {E : P T} {of' : T} {i : Nat} (h : wd L i = cO) : xZ L E of' i = (yt L).bind (fun y => (zB L aF).bind fun _ => P.ret (.mk 28 [] 0 of'.at' [of',y])) (i + 1) := by
 unfold xZ; rw [if_neg (by rw [h]; decide),if_neg (by rw [h]; decide),if_neg (by rw [h]; decide)]
theorem my (c : PC) (w : World) (i d : Nat) (E : P T) (of' : T) (S0 : Nat -> Prop) (svo : Value) (h : PS c w i d) (hl : LR w S0 of'.subs svo) (hS : ∀ k,S0 k -> k < w.heap.size /\ k ≠ c.pb) (hE : ExprOK c d E) (hp : yy (wd c.L i) = true) :
    Calls Tryz.prog 224 #[pq c.pb,.agg #[.int .i64 of'.kind,.string ⟨of'.name.toArray⟩,.int .i64 of'.num,.int .i64 of'.at',svo]] w
      (Steps c w i d (fun w' t v => ∃ sv,v = .agg #[.int .i64 t.kind,.string ⟨t.name.toArray⟩,.int .i64 t.num,.int .i64 t.at',sv] /\ LR w' (Un S0 w.heap.size w'.heap.size) t.subs sv) (xZ c.L E of' i)) := by
  obtain ⟨u,x,z,l,A⟩ := of'; simp only [T.kind,T.name,T.num,T.at',T.subs] at hl ⊢; obtain ⟨_,_,rfl⟩ := hl.form; have HP := zc h; have O := zc h.low; have j := h.lt; have HE := zc hE; have HS := zc hS
  have Q : ¬ S0 c.pb := fun e => (hS _ e).2 rfl
  have b9 := zc hl
  have c0 : wd c.L i ≠ [] := by
    intro e; rw [e] at hp
    revert hp
    decide
  have c1 := zc hp; clear h hE hS hl hp
  go_enter Tryz.func224,Tryz.ntmps224
  go_wp2_with fail; go_at_call 139; refine (xB c _ i d (PS.alloc (PS.alloc (PS.alloc (PS.alloc HP.out _) _) _) _) c0).mono ?_; rintro e D ⟨rfl,X,p1⟩; have G1 : w.grownBy D (some c.pb) := za (zh (zh (zh ga _) _) _) X; have s1 := X.size
  try simp at s1
  have r1 : RB D (w.heap.size + 1) := RB.kept (RB.alloc (RB.alloc (RB.new' (by simp)) _) _) X (by simp; omega)
  have l1 : LR D (fun k => S0 k \/ k = w.heap.size + 1 + 1) [T.mk u x z l A] (.slice (some ⟨w.heap.size + 1 + 1,0,none⟩) 1 1) := by
    refine LR.kept (row := some c.pb) ?_ X (fun b j hs => by cases j; exact hs.elim (fun h => Q h) (fun h => by omega)); refine LR.grownU ?_ (World.grownBy_alloc _ _ none)
    exact LR.build1S _ (t := T.mk u x z l A) (S := S0) ((b9.out.grownU (World.grownBy_alloc _ _ none)).grownU (World.grownBy_alloc _ _ none)) (fun k g => Nat.lt_of_lt_of_le (HS.out k g).1 (by omega)) (by simp) rfl
  have n1 : NB D (w.heap.size + 1 + 1 + 1) (.int .i64 0) (.string ⟨#[]⟩) (.int .i64 0) (.int .i64 l) (.slice (some ⟨w.heap.size + 1 + 1,0,none⟩) 1 1) := NB.kept (NB.new' (by simp)) X (by simp; omega); have c2 := r1.lt; have c3 := n1.lt; obtain ⟨_,_,_,_,_,_,_,_,_,_,_⟩ := id r1; obtain ⟨_,_,x2,_,x4,_⟩ := id n1
  have a4 : ¬ S0 (w.heap.size + 1) := fun e => by have := (HS.out _ e).1; omega
  have F : ¬ S0 (w.heap.size + 1 + 1 + 1) := fun e => by have := (HS.out _ e).1; omega
  by_cases h1 : wd c.L i = jY
  · have c4 : (wd c.L i == [46]) = true := by rw [h1]; decide
    go_wp2_with fail; go_at_call 89; refine (vQ c _ (i + 1) d (PS.put p1 O.out (by omega) _ _)).mono ?_; rintro e w2 (⟨x2,a5,b7,G⟩ | ⟨a2,j2,v2,a5,rfl,⟨rfl,d1,d2⟩,G,p2,d3⟩)
    · obtain ⟨q,rfl,-⟩ := id b7; exact ⟨rfl,Steps.err ((tq h1).trans (P.bind_err a5)) b7 (zs G1 (by omega) _ _) G⟩
    have G2 : w.grownBy w2 (some c.pb) := za (zs G1 (by omega) _ _) G; have s2 := G.size
    try simp at s2
    have r2 : RB w2 (w.heap.size + 1) := RB.kept (RB.put r1 _ _ _) G (by simp; omega); have n2 : NB w2 (w.heap.size + 1 + 1 + 1) (.int .i64 25) (.string ⟨#[]⟩) (.int .i64 0) (.int .i64 l) (.slice (some ⟨w.heap.size + 1 + 1,0,none⟩) 1 1) := NB.kept (NB.s0 n1 _) G (by simp; omega)
    have l2 : LR w2 (fun k => S0 k \/ k = w.heap.size + 1 + 1) [T.mk u x z l A] (.slice (some ⟨w.heap.size + 1 + 1,0,none⟩) 1 1) := by
      refine LR.kept (row := some c.pb) ?_ G (fun b j hs => by cases j; exact hs.elim (fun h => Q h) (fun h => by omega)); refine LR.kept (row := some (w.heap.size + 1 + 1 + 1)) l1 (zT (zj _ _) _ _) (fun b j hs => by cases j; exact hs.elim (fun h => F h) (fun h => by omega))
    have c5 := r2.lt; have c6 := n2.lt; obtain ⟨_,_,_,_,_,u0,u1,u2,u3,u4,uz⟩ := id r2; obtain ⟨z0,z1,z2,z3,z4,zz⟩ := id n2; go_wp2; refine zn Tryz.results224 rfl (RB.five ?_) rfl ?_
    · exact RB.put r2 _ _ _
    refine Steps.ok (a := T.mk 25 a2 0 l [T.mk u x z l A]) ((tq h1).trans (P.bind_ok a5)) ⟨_,rfl,?_⟩ ?_ ?_ (by omega)
    · have hq := l2
      refine LR.mono (S := fun k => S0 k \/ k = w.heap.size + 1 + 1) (ts := [T.mk u x z l A]) ?_ (fun k g => ?_)
      · have f : ¬ (S0 (w.heap.size + 1) \/ w.heap.size + 1 = w.heap.size + 1 + 1) := fun h => h.elim a4 (fun h => by omega)
        have a7 : ¬ (S0 (w.heap.size + 1 + 1 + 1) \/ w.heap.size + 1 + 1 + 1 = w.heap.size + 1 + 1) := fun h => h.elim F (fun h => by omega)
        exact (((((hq.putS a7 _ _).putS f _ _).putS f _ _).putS f _ _).putS f _ _).putS f _ _
      · rcases g with g | g
        · exact .inl g
        · exact .inr ⟨by omega,by first | omega | (simp <;> omega)⟩
    · exact zC (zs G2 (by omega) _ _) (by omega)
    · exact PS.p5 (PS.put p2 O.out (by omega) _ _) O.out (by omega)
  have c4 : (wd c.L i == [46]) = false := by simpa [jY] using h1
  by_cases h3 : wd c.L i = tF
  · have b8 : (wd c.L i == [91]) = false := by rw [h3]; decide
    have c7 : (wd c.L i == [94]) = true := by rw [h3]; decide
    go_wp2; refine zn Tryz.results224 rfl (RB.five ?_) rfl ?_
    · exact RB.put r1 _ _ _
    refine Steps.ok (a := T.mk 27 [] 0 l [T.mk u x z l A]) (ls h3) ⟨_,rfl,?_⟩ ?_ ?_ (by omega)
    · have hq := l1
      refine LR.mono (S := fun k => S0 k \/ k = w.heap.size + 1 + 1) (ts := [T.mk u x z l A]) ?_ (fun k g => ?_)
      · have f : ¬ (S0 (w.heap.size + 1) \/ w.heap.size + 1 = w.heap.size + 1 + 1) := fun h => h.elim a4 (fun h => by omega)
        have a7 : ¬ (S0 (w.heap.size + 1 + 1 + 1) \/ w.heap.size + 1 + 1 + 1 = w.heap.size + 1 + 1) := fun h => h.elim F (fun h => by omega)
        exact (((((hq.putS a7 _ _).putS f _ _).putS f _ _).putS f _ _).putS f _ _).putS f _ _
      · rcases g with g | g
        · exact .inl g
        · exact .inr ⟨by omega,by first | omega | (simp <;> omega)⟩
    · exact zC (zs G1 (by omega) _ _) (by omega)
    · exact PS.p5 (PS.put p1 O.out (by omega) _ _) O.out (by omega)
  by_cases h2 : wd c.L i = mS
  · have b8 : (wd c.L i == [91]) = true := by rw [h2]; decide
    go_wp2_with fail
    go_region_law (first
      | (go_simp
         go_at_call 145; refine (HE.out.call _ (i + 1) (PS.drew (PS.put p1 O.out (by omega) _ _)) trivial).mono ?_; rintro e H (⟨x4,B,Y,m⟩ | ⟨⟨R,n4,U,V,I⟩,j4,v4,B,rfl,⟨c8,rfl,o⟩,m,p4,c9⟩)
         focus
           have HT := Y; obtain ⟨q,rfl,-⟩ := Y
           exact ⟨rfl,Steps.err ((gA h2).trans (P.bind_err B)) HT (zf (zs G1 (by omega) _ _)) m⟩
         simp only [T.kind,T.name,T.num,T.at',T.subs] at o ⊢; obtain ⟨Z,a0,rfl⟩ := o.form; have s4 := m.size
         try simp at s4
         have J : NB H (w.heap.size + 1 + 1 + 1) (.int .i64 26) (.string ⟨#[]⟩) (.int .i64 0) (.int .i64 l) (.slice (some ⟨w.heap.size + 1 + 1,0,none⟩) 1 1) := NB.kept (NB.drew (NB.s0 n1 _)) m (by simp; omega); have r4 : RB H (w.heap.size + 1) := RB.kept (RB.drew (RB.put r1 _ _ _)) m (by simp; omega); have G4 : w.grownBy H (some c.pb) := za (zf (zs G1 (by omega) _ _)) m
         have a8 : LR H (fun k => S0 k \/ k = w.heap.size + 1 + 1) [T.mk u x z l A] (.slice (some ⟨w.heap.size + 1 + 1,0,none⟩) 1 1) := by
           refine LR.kept (row := some c.pb) ?_ m (fun b j hs => by cases j; exact hs.elim (fun h => Q h) (fun h => by omega)); refine LR.kept (row := none) ?_ (zq grn 1) (fun b j => by cases j)
           exact LR.kept (row := some (w.heap.size + 1 + 1 + 1)) l1 (zT (zj _ _) _ _) (fun b j hs => by cases j; exact hs.elim (fun h => F h) (fun h => by omega))
         have o := LR.wide o (lo' := D.heap.size) (by simp) (Nat.le_refl _); have a9 := J.lt; have b0 := r4.lt
         obtain ⟨z0,z1,z2,z3,z4,zz⟩ := id J)
      | (have r : ∀ b,Value.ownBlock (.slice (some ⟨w.heap.size + 1 + 1,0,none⟩) 1 1) = some b -> b = w.heap.size + 1 + 1 := fun b e => by simp [Value.ownBlock] at e; omega
         refine vh (v := .slice (some ⟨w.heap.size + 1 + 1,0,none⟩) 1 1) rfl _ _ rfl (fun k => S0 k \/ (k = w.heap.size + 1 + 1 \/ (D.heap.size <= k /\ k < H.heap.size + 2))) rfl rfl (a8.grownU (World.grownBy_alloc _ _ none)) (LR.build1 H (cs := #[.int .i64 R,.string ⟨n4.toArray⟩,.int .i64 U,.int .i64 V,.slice Z I.length a0]) (t := T.mk R n4 U V I) (sv := .slice Z I.length a0) o rfl rfl (by omega))
           (fun k g e => by have h1 := r k e; have h2 : D.heap.size <= k := g.1; omega) (fun k g => g.elim .inl (fun h => .inr (.inl h))) (fun k g => .inr (.inr ⟨g.1,by have h : k < H.heap.size + 1 := g.2; omega⟩)) (.inr (.inr ⟨by simp; omega,by simp⟩)) (by simp) ?_
         intro v5 C a1 s; obtain ⟨K,M,e5⟩ := a1.form; rw [List.length_append,List.length_singleton] at e5; subst e5; have s5 := s.size
         try simp at s5
         have n5 : NB C (w.heap.size + 1 + 1 + 1) (.int .i64 26) (.string ⟨#[]⟩) (.int .i64 0) (.int .i64 l) (.slice (some ⟨w.heap.size + 1 + 1,0,none⟩) 1 1) := NB.kept (J.alloc _) s (fun e => by have := r _ e.symm; omega); have r5 : RB C (w.heap.size + 1) := RB.kept (r4.alloc _) s (fun e => by have := r _ e.symm; omega); have p5 : PS c C j4 d := PS.own (p4.alloc _) O.out s (fun b j => by have := r b j; omega); have G5 : w.grownBy C (some c.pb) := xi (zh G4 _) s (fun b j => by have := r b j; omega); have b1 := n5.lt; have b2 := r5.lt
         obtain ⟨z0,z1,z2,z3,z4,zz⟩ := id n5))
    all_goals
      have b3 : LR C (fun k => S0 k \/ (k = w.heap.size + 1 + 1 \/ (D.heap.size <= k /\ k < C.heap.size))) [T.mk u x z l A,T.mk R n4 U V I] (.slice K 2 M) := a1.bounded.mono (fun k g => g.1.elim .inl (fun h => .inr (h.elim .inl (fun h => .inr ⟨h.1,g.2⟩)))); go_wp2_with fail; go_at_call 88; refine (zy c _ j4 d zah _ rfl (by decide) (PS.put p5 O.out (by omega) _ _)).mono ?_; rintro e w6 (⟨x6,N,a3,n⟩ | ⟨a6,j6,v6,N,rfl,-,n,p6,d0⟩)
      · obtain ⟨q,rfl,-⟩ := id a3; exact ⟨rfl,Steps.err (((gA h2).trans (P.bind_ok B)).trans (P.bind_err N)) a3 (zs G5 (by omega) _ _) n⟩
      have b4 : xZ c.L E (T.mk u x z l A) i = _ := ((gA h2).trans (P.bind_ok B)).trans (P.bind_ok N); have G6 : w.grownBy w6 (some c.pb) := za (zs G5 (by omega) _ _) n; have s6 := n.size
      try simp at s6
      have r6 : RB w6 (w.heap.size + 1) := RB.kept (RB.put r5 _ _ _) n (by simp; omega); have n6 : NB w6 (w.heap.size + 1 + 1 + 1) (.int .i64 26) (.string ⟨#[]⟩) (.int .i64 0) (.int .i64 l) (.slice K 2 M) := NB.kept (NB.s4 n5 _) n (by simp; omega)
      have l6 : LR w6 (fun k => S0 k \/ (k = w.heap.size + 1 + 1 \/ (D.heap.size <= k /\ k < C.heap.size))) [T.mk u x z l A,T.mk R n4 U V I] (.slice K 2 M) := by
        refine LR.kept (row := some c.pb) ?_ n (fun b j hs => by cases j; exact hs.elim (fun h => Q h) (fun h => by omega))
        exact LR.kept (row := some (w.heap.size + 1 + 1 + 1)) b3 (zT (zj _ _) _ _) (fun b j hs => by cases j; exact hs.elim (fun h => F h) (fun h => by omega))
      have b5 := r6.lt; have b6 := n6.lt; obtain ⟨_,_,_,_,_,u0,u1,u2,u3,u4,uz⟩ := id r6; obtain ⟨t0,t1,t2,t3,t4,tz⟩ := id n6; go_wp2; refine zn Tryz.results224 rfl (RB.five ?_) rfl ?_
      · exact r6
      refine Steps.ok (a := T.mk 26 [] 0 l [T.mk u x z l A,T.mk R n4 U V I]) b4 ⟨_,rfl,?_⟩ ?_ ?_ (by omega)
      · refine LR.mono (S := fun k => S0 k \/ (k = w.heap.size + 1 + 1 \/ (D.heap.size <= k /\ k < C.heap.size))) (ts := [T.mk u x z l A,T.mk R n4 U V I]) ?_ (fun k g => ?_)
        · have f : ¬ (S0 (w.heap.size + 1) \/ (w.heap.size + 1 = w.heap.size + 1 + 1 \/ (D.heap.size <= w.heap.size + 1 /\ w.heap.size + 1 < C.heap.size))) := fun h => h.elim a4 (fun h => by omega)
          exact ((((l6.putS f _ _).putS f _ _).putS f _ _).putS f _ _).putS f _ _
        · rcases g with g | g
          · exact .inl g
          · exact .inr ⟨by omega,by first | omega | (simp <;> omega)⟩
      · exact zC G6 (by omega)
      · exact PS.p5 p6 O.out (by omega)
  · have b8 : (wd c.L i == [91]) = false := by simpa [mS] using h2
    have c7 : (wd c.L i == [94]) = false := by simpa [tF] using h3
    have h4 : wd c.L i = cO := by
      have h := c1.out
      unfold yy at h
      simp only [Bool.or_eq_true,beq_iff_eq] at h
      rcases h with ((h | h) | h) | h
      · exact absurd h h1
      · exact absurd h h2
      · exact absurd h h3
      · exact h
    have d4 : (wd c.L i == [123]) = true := by rw [h4]; decide
    go_wp2_with fail
    go_region_law (first
      | (go_simp
         go_at_call 177; refine (yW c _ (i + 1) d (PS.drew (PS.put p1 O.out (by omega) _ _))).mono ?_; rintro e H (⟨x4,B,Y,m⟩ | ⟨⟨R,n4,U,V,I⟩,j4,v4,B,rfl,⟨c8,rfl,o⟩,m,p4,c9⟩)
         focus
           have HT := Y; obtain ⟨q,rfl,-⟩ := Y
           exact ⟨rfl,Steps.err ((ff h4).trans (P.bind_err B)) HT (zf (zs G1 (by omega) _ _)) m⟩
         simp only [T.kind,T.name,T.num,T.at',T.subs] at o ⊢; obtain ⟨Z,a0,rfl⟩ := o.form; have s4 := m.size
         try simp at s4
         have J : NB H (w.heap.size + 1 + 1 + 1) (.int .i64 28) (.string ⟨#[]⟩) (.int .i64 0) (.int .i64 l) (.slice (some ⟨w.heap.size + 1 + 1,0,none⟩) 1 1) := NB.kept (NB.drew (NB.s0 n1 _)) m (by simp; omega); have r4 : RB H (w.heap.size + 1) := RB.kept (RB.drew (RB.put r1 _ _ _)) m (by simp; omega); have G4 : w.grownBy H (some c.pb) := za (zf (zs G1 (by omega) _ _)) m
         have a8 : LR H (fun k => S0 k \/ k = w.heap.size + 1 + 1) [T.mk u x z l A] (.slice (some ⟨w.heap.size + 1 + 1,0,none⟩) 1 1) := by
           refine LR.kept (row := some c.pb) ?_ m (fun b j hs => by cases j; exact hs.elim (fun h => Q h) (fun h => by omega)); refine LR.kept (row := none) ?_ (zq grn 1) (fun b j => by cases j)
           exact LR.kept (row := some (w.heap.size + 1 + 1 + 1)) l1 (zT (zj _ _) _ _) (fun b j hs => by cases j; exact hs.elim (fun h => F h) (fun h => by omega))
         have o := LR.wide o (lo' := D.heap.size) (by simp) (Nat.le_refl _); have a9 := J.lt; have b0 := r4.lt
         obtain ⟨z0,z1,z2,z3,z4,zz⟩ := id J)
      | (have r : ∀ b,Value.ownBlock (.slice (some ⟨w.heap.size + 1 + 1,0,none⟩) 1 1) = some b -> b = w.heap.size + 1 + 1 := fun b e => by simp [Value.ownBlock] at e; omega
         refine vh (v := .slice (some ⟨w.heap.size + 1 + 1,0,none⟩) 1 1) rfl _ _ rfl (fun k => S0 k \/ (k = w.heap.size + 1 + 1 \/ (D.heap.size <= k /\ k < H.heap.size + 2))) rfl rfl (a8.grownU (World.grownBy_alloc _ _ none)) (LR.build1 H (cs := #[.int .i64 R,.string ⟨n4.toArray⟩,.int .i64 U,.int .i64 V,.slice Z I.length a0]) (t := T.mk R n4 U V I) (sv := .slice Z I.length a0) o rfl rfl (by omega))
           (fun k g e => by have h1 := r k e; have h2 : D.heap.size <= k := g.1; omega) (fun k g => g.elim .inl (fun h => .inr (.inl h))) (fun k g => .inr (.inr ⟨g.1,by have h : k < H.heap.size + 1 := g.2; omega⟩)) (.inr (.inr ⟨by simp; omega,by simp⟩)) (by simp) ?_
         intro v5 C a1 s; obtain ⟨K,M,e5⟩ := a1.form; rw [List.length_append,List.length_singleton] at e5; subst e5; have s5 := s.size
         try simp at s5
         have n5 : NB C (w.heap.size + 1 + 1 + 1) (.int .i64 28) (.string ⟨#[]⟩) (.int .i64 0) (.int .i64 l) (.slice (some ⟨w.heap.size + 1 + 1,0,none⟩) 1 1) := NB.kept (J.alloc _) s (fun e => by have := r _ e.symm; omega); have r5 : RB C (w.heap.size + 1) := RB.kept (r4.alloc _) s (fun e => by have := r _ e.symm; omega); have p5 : PS c C j4 d := PS.own (p4.alloc _) O.out s (fun b j => by have := r b j; omega); have G5 : w.grownBy C (some c.pb) := xi (zh G4 _) s (fun b j => by have := r b j; omega); have b1 := n5.lt; have b2 := r5.lt
         obtain ⟨z0,z1,z2,z3,z4,zz⟩ := id n5))
    all_goals
      have b3 : LR C (fun k => S0 k \/ (k = w.heap.size + 1 + 1 \/ (D.heap.size <= k /\ k < C.heap.size))) [T.mk u x z l A,T.mk R n4 U V I] (.slice K 2 M) := a1.bounded.mono (fun k g => g.1.elim .inl (fun h => .inr (h.elim .inl (fun h => .inr ⟨h.1,g.2⟩)))); go_wp2_with fail; go_at_call 88; refine (zy c _ j4 d aF _ rfl (by decide) (PS.put p5 O.out (by omega) _ _)).mono ?_; rintro e w6 (⟨x6,N,a3,n⟩ | ⟨a6,j6,v6,N,rfl,-,n,p6,d0⟩)
      · obtain ⟨q,rfl,-⟩ := id a3; exact ⟨rfl,Steps.err (((ff h4).trans (P.bind_ok B)).trans (P.bind_err N)) a3 (zs G5 (by omega) _ _) n⟩
      have b4 : xZ c.L E (T.mk u x z l A) i = _ := ((ff h4).trans (P.bind_ok B)).trans (P.bind_ok N); have G6 : w.grownBy w6 (some c.pb) := za (zs G5 (by omega) _ _) n; have s6 := n.size
      try simp at s6
      have r6 : RB w6 (w.heap.size + 1) := RB.kept (RB.put r5 _ _ _) n (by simp; omega); have n6 : NB w6 (w.heap.size + 1 + 1 + 1) (.int .i64 28) (.string ⟨#[]⟩) (.int .i64 0) (.int .i64 l) (.slice K 2 M) := NB.kept (NB.s4 n5 _) n (by simp; omega)
      have l6 : LR w6 (fun k => S0 k \/ (k = w.heap.size + 1 + 1 \/ (D.heap.size <= k /\ k < C.heap.size))) [T.mk u x z l A,T.mk R n4 U V I] (.slice K 2 M) := by
        refine LR.kept (row := some c.pb) ?_ n (fun b j hs => by cases j; exact hs.elim (fun h => Q h) (fun h => by omega))
        exact LR.kept (row := some (w.heap.size + 1 + 1 + 1)) b3 (zT (zj _ _) _ _) (fun b j hs => by cases j; exact hs.elim (fun h => F h) (fun h => by omega))
      have b5 := r6.lt; have b6 := n6.lt; obtain ⟨_,_,_,_,_,u0,u1,u2,u3,u4,uz⟩ := id r6; obtain ⟨t0,t1,t2,t3,t4,tz⟩ := id n6; go_wp2; refine zn Tryz.results224 rfl (RB.five ?_) rfl ?_
      · exact r6
      refine Steps.ok (a := T.mk 28 [] 0 l [T.mk u x z l A,T.mk R n4 U V I]) b4 ⟨_,rfl,?_⟩ ?_ ?_ (by omega)
      · refine LR.mono (S := fun k => S0 k \/ (k = w.heap.size + 1 + 1 \/ (D.heap.size <= k /\ k < C.heap.size))) (ts := [T.mk u x z l A,T.mk R n4 U V I]) ?_ (fun k g => ?_)
        · have f : ¬ (S0 (w.heap.size + 1) \/ (w.heap.size + 1 = w.heap.size + 1 + 1 \/ (D.heap.size <= w.heap.size + 1 /\ w.heap.size + 1 < C.heap.size))) := fun h => h.elim a4 (fun h => by omega)
          exact ((((l6.putS f _ _).putS f _ _).putS f _ _).putS f _ _).putS f _ _
        · rcases g with g | g
          · exact .inl g
          · exact .inr ⟨by omega,by first | omega | (simp <;> omega)⟩
      · exact zC G6 (by omega)
      · exact PS.p5 p6 O.out (by omega)
set_option maxHeartbeats 2000000
theorem iY {L : List Tok} {E : P T} {f j : Nat} {t : T} (h : yy (wd L j) = false) : zN L E f t j = .ok (t,j) := by
 cases f <;> (rw [zN]; exact if_neg (by rw [h]; decide))
theorem tg {L : List Tok} {E : P T} {f j : Nat} {t : T} (h : yy (wd L j) = true) : zN L E (f + 1) t j = ((xZ L E t).bind fun n' => zN L E f n') j := by
 rw [zN]
 exact if_pos h
theorem di {L : List Tok} {E : P T} {j : Nat} {t : T} (h : yy (wd L j) = true) : zN L E 0 t j = ((xZ L E t).bind fun _ => xX L) j := by
 rw [zN]
 exact if_pos h
structure DI (c : PC) (w : World) (i d N : Nat) (S0 : Nat -> Prop) (r : Except (Int × Int) (T × Nat)) (q : Nat -> T -> P T) (wr : World) (k : Int) (s : List UInt8) (n a : Int) (l : List T) (sv : Value) (j f : Nat) : Prop where
 nb : NB wr N (.int .i64 k) (.string ⟨s.toArray⟩) (.int .i64 n) (.int .i64 a) sv
 rb : RB wr w.heap.size
 lr : LR wr (Un S0 (N + 1) wr.heap.size) l sv
 ps : PS c wr j d
 gb : w.grownBy wr (some c.pb)
 same : r = q f (.mk k s n a l) j
 le : i <= j
theorem vH (c : PC) (w : World) (i d : Nat) (E : P T) (h : PS c w i d) (hE : ExprOK c d E) :
  Calls Tryz.prog 218 #[pq c.pb] w (Steps c w i d (fun w' t v => TR w' w.heap.size w'.heap.size t v) (zQ c.L E i)) := by
 have HP := zc h; have HL := zc h.low; have hb := h.lt; have HE := zc hE; clear h hE
 go_enter Tryz.func218,Tryz.ntmps218
 go_wp2_with fail; go_at_call 142; refine (ue c _ i d 24 (PS.alloc HP.out _)).mono ?_; rintro e b (⟨x1,H,R,o⟩ | ⟨⟨k1,n1,m1,q1,l1⟩,j1,v1,H,rfl,⟨b9,rfl,r⟩,o,p1,a3⟩)
 ·obtain ⟨q,rfl,-⟩ := id R; exact ⟨rfl,Steps.err (P.bind_err H) R ga o⟩
 have U : zQ c.L E i = _ := P.bind_ok H; simp only [T.kind,T.name,T.num,T.at',T.subs] at r ⊢; obtain ⟨V,X,rfl⟩ := r.form; obtain ⟨m,a4,r⟩ := r.nm
 try simp at a4
 have G1 := za ga o; have s1 := o.size
 try simp at s1
 have r1 : RB b w.heap.size := RB.kept (RB.new' (by simp)) o (by simp; omega)
 have D0 : Hid (DI c w i d b.heap.size (In m b.heap.size) (zQ c.L E i) (zN c.L E) (b.alloc (.cells #[.int .i64 k1,.string ⟨n1.toArray⟩,.int .i64 m1,.int .i64 q1,.slice V l1.length X] 100)) k1 n1 m1 q1 l1 (.slice V l1.length X) j1 20) :=
  DI.mk (NB.new' rfl) (r1.alloc _) ((r.un).grownU (World.grownBy_alloc _ _ none)) (p1.alloc _) (zh G1 _) U a3
 have c0 : ¬ In m b.heap.size c.pb := fun e => by have h1 : m <= c.pb := e.1; omega
 have a5 : ¬ In m b.heap.size w.heap.size := fun e => by have h1 : m <= w.heap.size := e.1; omega
 have a6 : ¬ In m b.heap.size b.heap.size := fun e => by have h1 : b.heap.size < b.heap.size := e.2; omega
 clear r p1 o U H G1 r1; go_wp2_with fail
 go_loopw [4] (fun v wr => ∃ (k : Int) (s : List UInt8) (n a : Int) (l : List T) (sv : Value) (j f : Nat),f <= 20 /\ v = .int .i64 (21 - (f : Int)) /\ Hid (DI c w i d b.heap.size (In m b.heap.size) (zQ c.L E i) (zN c.L E) wr k s n a l sv j f)) (fun v _ => 22 - (intOf v).toNat)
 case atStart => exact ⟨k1,n1,m1,q1,l1,_,j1,20,by omega,rfl,D0⟩
 case round =>
  obtain ⟨k,s,n,a,l,sv,j,f,_,rfl,HC⟩ := hrel; clear D0; have G := HC.out; obtain ⟨ad,cp,rfl⟩ := G.lr.form; have a7 := zc G.nb; have a8 := zc G.rb; have a9 := zc G.lr; have Y := zc G.ps; have HG := zc G.gb; have B := zc G.same; have c1 := G.le; have c2 := G.nb.lt; clear G HC; go_wp2_with fail; go_at_call 223; refine (gi c _ j d Y.out).mono ?_; rintro e w2 ⟨rfl,u⟩; have s2 := u.size; have p2 : PS c w2 j d := Y.out.kept u; have G2 : w.grownBy w2 (some c.pb) := za HG.out (zv u _); have M := a7.out.kept u (by simp); have I := a8.out.kept u (by simp); have Z := a9.out.grownU u; have b0 := M.lt; have b2 := I.lt; obtain ⟨_,x1,_,_,x4,_⟩ := id M; obtain ⟨_,_,_,_,_,_,_,_,_,_,_⟩ := id I; cases z : yy (wd c.L j)
  ·go_wp2
   refine zn Tryz.results218 rfl (RB.five ?_) rfl ?_
   ·exact I
   refine Steps.ok (a := T.mk k s n a l) (B.out.trans (iY z)) ⟨_,rfl,?_⟩ ?_ ?_ (by omega)
   ·have C : ¬ Un (In m b.heap.size) (b.heap.size + 1) wr.heap.size w.heap.size := fun h => h.elim a5 (fun h => by omega)
    refine LR.mono (S := Un (In m b.heap.size) (b.heap.size + 1) wr.heap.size) (ts := l) ((((((Z.putS C _ _).putS C _ _).putS C _ _).putS C _ _).putS C _ _)) (fun k g => ?_)
    rcases g with g | g
    ·have h1 : m <= k := g.1
     have h2 : k < b.heap.size := g.2
     exact ⟨by omega,by first | omega | (simp <;> omega)⟩
    ·exact ⟨by omega,by first | omega | (simp <;> omega)⟩
   ·exact zC G2 (by omega)
   ·exact PS.p5 p2 HL.out (by omega)
  ·go_wp2_with fail
   go_at_call 224; refine (my c _ j d E (T.mk k s n a l) (Un (In m b.heap.size) (b.heap.size + 1) wr.heap.size) (.slice ad l.length cp) p2 Z (fun k g => ?_) HE.out z).mono ?_
   ·rcases g with g | g
    ·have h1 : m <= k := g.1
     have h2 : k < b.heap.size := g.2
     exact ⟨by omega,by omega⟩
    ·exact ⟨by omega,by omega⟩
   rintro e w4 (⟨x4,D,a0,A⟩ | ⟨⟨k4,n4,m4,q4,N⟩,j4,v4,D,rfl,⟨c3,rfl,O⟩,A,p4,c4⟩)
   ·have HT := a0
    obtain ⟨q,rfl,-⟩ := a0; refine ⟨rfl,Steps.err (x := x4) ?_ HT G2 A⟩; cases f with
    | zero => exact B.out.trans ((di z).trans (P.bind_err D))
    | succ f => exact B.out.trans ((tg z).trans (P.bind_err D))
   simp only [T.kind,T.name,T.num,T.at',T.subs] at O ⊢; obtain ⟨J,K,rfl⟩ := O.form; have s4 := A.size; have G4 := za G2 A; have Q := M.kept A (by simp; omega); have a1 := I.kept A (by simp; omega); have b3 := Q.lt; have b4 := a1.lt
   have b5 : LR w4 (Un (In m b.heap.size) (b.heap.size + 1) w4.heap.size) N (.slice J N.length K) := O.mono (fun k g => by
    rcases g with (g | g) | g
    ·exact .inl g
    ·exact .inr ⟨g.1,by omega⟩
    ·exact .inr ⟨by omega,g.2⟩)
   have F : ¬ Un (In m b.heap.size) (b.heap.size + 1) w4.heap.size b.heap.size := fun h => h.elim a6 (fun h => by omega)
   have b6 : LR (put5 w4 b.heap.size (.int .i64 k4) (.string ⟨n4.toArray⟩) (.int .i64 m4) (.int .i64 q4) (.slice J N.length K)) (Un (In m b.heap.size) (b.heap.size + 1) w4.heap.size) N (.slice J N.length K) :=
    ((((b5.putS F _ _).putS F _ _).putS F _ _).putS F _ _).putS F _ _
   have b7 := zc b6; obtain ⟨_,_,_,_,_,_⟩ := id Q; cases f with
   | zero =>
    have hx : decide ((20 : Int) < 21 - ((0 : Nat) : Int)) = true := by decide
    go_wp2_with fail; go_at_call 98; refine (vV c _ j4 d 3 (PS.p5 p4 HL.out (by omega))).mono ?_; rintro e w5 ⟨a2,b8⟩; have HT := a2; obtain ⟨q,rfl,-⟩ := a2
    exact ⟨rfl,Steps.err (x := (3,pos c.L j4)) ((B.out.trans (di z)).trans (P.bind_ok D)) HT (zC G4 (by omega)) (zv b8 _)⟩
   | succ f =>
    have hx : decide ((20 : Int) < 21 - ((f + 1 : Nat) : Int)) = false := by simp; omega
    go_wp2; refine ⟨⟨k4,n4,m4,q4,N,.slice J N.length K,j4,f,by omega,by simp; omega,DI.mk ((NB.s4 (NB.s3 (NB.s2 (NB.s1 (NB.s0 Q _) _) _) _) _)) ((RB.p5 a1)) ?_ ((PS.p5 p4 HL.out (by omega))) ((zC G4 (by omega))) (B.out.trans ((tg z).trans (P.bind_ok D))) (by omega)⟩,?_⟩
    ·exact b7.out.wideU (Nat.le_refl _) (by simp)
    ·simp [intOf]
     omega
end Go.Proofs.YtnmkffjklpfflaaGreatDoor
