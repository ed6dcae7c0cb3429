/- One part more of a designator. -/
import Derived.Test.YtfjgelmllcnokaaGreatDoorG10
import Derived.Test.YtfjgelmllcnokaaGreatDoorG04
namespace Go.Proofs.YtfjgelmllcnokaaGreatDoor
open Go.RowKit
set_option maxHeartbeats 4000000
set_option maxRecDepth 100000
theorem LR.putS {w : World} {S : Nat -> Prop} {ts : List T} {v : Value} {b : Nat} (h : LR w S ts v) (hb : ¬ S b) (o : Nat) (u : Value) : LR (w.setCell ⟨b,o,none⟩ u) S ts v :=
 h.kept (yU gr o u) (fun k hk hs => by cases hk; exact hb hs)
theorem pP {L : List Tok} {E : P T} {of' : T} {i : Nat} (h : wd L i = vG) : xH L E of' i = (uo L).bind (fun s => P.ret (.mk 25 s 0 of'.at' [of'])) (i + 1) := by
 unfold xH; rw [if_pos h]
theorem sM {L : List Tok} {E : P T} {of' : T} {i : Nat} (h : wd L i = pn) : xH L E of' i = E.bind (fun e => (zx L mw).bind fun _ => P.ret (.mk 26 [] 0 of'.at' [of',e])) (i + 1) := by
 unfold xH; rw [if_neg (by rw [h]; decide),if_pos h]
theorem bQ {L : List Tok} {E : P T} {of' : T} {i : Nat} (h : wd L i = gR) : xH L E of' i = .ok (.mk 27 [] 0 of'.at' [of'],i + 1) := by
 unfold xH; rw [if_neg (by rw [h]; decide),if_neg (by rw [h]; decide),if_pos h]
theorem sK {L : List Tok} {E : P T} {of' : T} {i : Nat} (h : wd L i = np) : xH L E of' i = (yu L).bind (fun y => (zx L cP).bind fun _ => P.ret (.mk 28 [] 0 of'.at' [of',y])) (i + 1) := by
 unfold xH; rw [if_neg (by rw [h]; decide),if_neg (by rw [h]; decide),if_neg (by rw [h]; decide)]
theorem aq (c : PC) (w : World) (i d : Nat) (E : P T) (of' : T) (S0 : Nat -> Prop) (svo : Value) (h : PS c w i d) (hl : LR w S0 of'.subs svo) (hS : ∀ k,S0 k -> k < w.heap.size /\ k ≠ c.pb) (hE : ExprOK c d E) (hp : yb (wd c.L i) = true) :
    Calls Tryz.prog 195 #[.pointer (some ⟨c.pb,0,none⟩),.agg #[.int .i64 of'.kind,.string ⟨of'.name.toArray⟩,.int .i64 of'.num,.int .i64 of'.at',svo]] w
      (Steps c w i d (fun w' t v => ∃ sv,v = .agg #[.int .i64 t.kind,.string ⟨t.name.toArray⟩,.int .i64 t.num,.int .i64 t.at',sv] /\ LR w' (Un S0 w.heap.size w'.heap.size) t.subs sv) (xH c.L E of' i)) := by
  obtain ⟨u,x,y,l,z⟩ := of'; simp only [T.kind,T.name,T.num,T.at',T.subs] at hl ⊢; obtain ⟨_,_,rfl⟩ := hl.form; have HP := za h; have O := za h.low; have j := h.lt; have HE := za hE; have HS := za hS
  have R : ¬ S0 c.pb := fun e => (hS _ e).2 rfl
  have c0 := za hl
  have c1 : wd c.L i ≠ [] := by
    intro e; rw [e] at hp
    revert hp
    decide
  have c2 := za hp; clear h hE hS hl hp
  go_enter Tryz.func195,Tryz.ntmps195
  go_wp2_with fail; go_at_call 115; refine (uK c _ i d (PS.alloc (PS.alloc (PS.alloc (PS.alloc HP.out _) _) _) _) c1).mono ?_; rintro e C ⟨rfl,Y,p1⟩; have G1 : w.grownBy C (some c.pb) := zb (zf (zf (zf ga _) _) _) Y; have s1 := Y.size
  try simp at s1
  have r1 : RB C (w.heap.size + 1) := RB.kept (RB.alloc (RB.alloc (RB.new' (by simp)) _) _) Y (by simp; omega)
  have l1 : LR C (fun k => S0 k \/ k = w.heap.size + 1 + 1) [T.mk u x y l z] (.slice (some ⟨w.heap.size + 1 + 1,0,none⟩) 1 1) := by
    refine LR.kept (row := some c.pb) ?_ Y (fun b j hs => by cases j; exact hs.elim (fun h => R h) (fun h => by omega)); refine LR.grownU ?_ (World.grownBy_alloc _ _ none)
    exact LR.build1S _ (t := T.mk u x y l z) (S := S0) ((c0.out.grownU (World.grownBy_alloc _ _ none)).grownU (World.grownBy_alloc _ _ none)) (fun k g => Nat.lt_of_lt_of_le (HS.out k g).1 (by omega)) (by simp) rfl
  have n1 : NB C (w.heap.size + 1 + 1 + 1) (.int .i64 0) (.string ⟨#[]⟩) (.int .i64 0) (.int .i64 l) (.slice (some ⟨w.heap.size + 1 + 1,0,none⟩) 1 1) := NB.kept (NB.new' (by simp)) Y (by simp; omega); have c3 := r1.lt; have c4 := n1.lt; obtain ⟨_,_,_,_,_,_,_,_,_,_,_⟩ := id r1; obtain ⟨_,_,x2,_,x4,_⟩ := id n1
  have a5 : ¬ S0 (w.heap.size + 1) := fun e => by have := (HS.out _ e).1; omega
  have D : ¬ S0 (w.heap.size + 1 + 1 + 1) := fun e => by have := (HS.out _ e).1; omega
  by_cases h1 : wd c.L i = vG
  · have c5 : (wd c.L i == [46]) = true := by rw [h1]; decide
    go_wp2_with fail; go_at_call 61; refine (ke c _ (i + 1) d (PS.put p1 O.out (by omega) _ _)).mono ?_; rintro e w2 (⟨x2,a7,b8,F⟩ | ⟨a2,j2,v2,a7,rfl,⟨rfl,d2,d3⟩,F,p2,d4⟩)
    · obtain ⟨q,rfl,-⟩ := id b8; exact ⟨rfl,Steps.err ((pP h1).trans (P.bind_err a7)) b8 (zC G1 (by omega) _ _) F⟩
    have G2 : w.grownBy w2 (some c.pb) := zb (zC G1 (by omega) _ _) F; have s2 := F.size
    try simp at s2
    have r2 : RB w2 (w.heap.size + 1) := RB.kept (RB.put r1 _ _ _) F (by simp; omega); have n2 : NB w2 (w.heap.size + 1 + 1 + 1) (.int .i64 25) (.string ⟨#[]⟩) (.int .i64 0) (.int .i64 l) (.slice (some ⟨w.heap.size + 1 + 1,0,none⟩) 1 1) := NB.kept (NB.s0 n1 _) F (by simp; omega)
    have l2 : LR w2 (fun k => S0 k \/ k = w.heap.size + 1 + 1) [T.mk u x y l z] (.slice (some ⟨w.heap.size + 1 + 1,0,none⟩) 1 1) := by
      refine LR.kept (row := some c.pb) ?_ F (fun b j hs => by cases j; exact hs.elim (fun h => R h) (fun h => by omega)); refine LR.kept (row := some (w.heap.size + 1 + 1 + 1)) l1 (yU (zl _ _) _ _) (fun b j hs => by cases j; exact hs.elim (fun h => D h) (fun h => by omega))
    have c6 := r2.lt; have c7 := n2.lt; obtain ⟨_,_,_,_,_,u0,u1,u2,u3,u4,uz⟩ := id r2; obtain ⟨z0,z1,z2,z3,z4,zz⟩ := id n2; go_wp2; refine zn Tryz.results195 rfl (RB.five ?_) rfl ?_
    · exact RB.put r2 _ _ _
    refine Steps.ok (a := T.mk 25 a2 0 l [T.mk u x y l z]) ((pP h1).trans (P.bind_ok a7)) ⟨_,rfl,?_⟩ ?_ ?_ (by omega)
    · have hq := l2
      refine LR.mono (S := fun k => S0 k \/ k = w.heap.size + 1 + 1) (ts := [T.mk u x y l z]) ?_ (fun k g => ?_)
      · have f : ¬ (S0 (w.heap.size + 1) \/ w.heap.size + 1 = w.heap.size + 1 + 1) := fun h => h.elim a5 (fun h => by omega)
        have a8 : ¬ (S0 (w.heap.size + 1 + 1 + 1) \/ w.heap.size + 1 + 1 + 1 = w.heap.size + 1 + 1) := fun h => h.elim D (fun h => by omega)
        exact (((((hq.putS a8 _ _).putS f _ _).putS f _ _).putS f _ _).putS f _ _).putS f _ _
      · rcases g with g | g
        · exact .inl g
        · exact .inr ⟨by omega,by first | omega | (simp <;> omega)⟩
    · exact zS (zC G2 (by omega) _ _) (by omega)
    · exact PS.p5 (PS.put p2 O.out (by omega) _ _) O.out (by omega)
  have c5 : (wd c.L i == [46]) = false := by simpa [vG] using h1
  by_cases h3 : wd c.L i = gR
  · have b9 : (wd c.L i == [91]) = false := by rw [h3]; decide
    have c8 : (wd c.L i == [94]) = true := by rw [h3]; decide
    go_wp2; refine zn Tryz.results195 rfl (RB.five ?_) rfl ?_
    · exact RB.put r1 _ _ _
    refine Steps.ok (a := T.mk 27 [] 0 l [T.mk u x y l z]) (bQ h3) ⟨_,rfl,?_⟩ ?_ ?_ (by omega)
    · have hq := l1
      refine LR.mono (S := fun k => S0 k \/ k = w.heap.size + 1 + 1) (ts := [T.mk u x y l z]) ?_ (fun k g => ?_)
      · have f : ¬ (S0 (w.heap.size + 1) \/ w.heap.size + 1 = w.heap.size + 1 + 1) := fun h => h.elim a5 (fun h => by omega)
        have a8 : ¬ (S0 (w.heap.size + 1 + 1 + 1) \/ w.heap.size + 1 + 1 + 1 = w.heap.size + 1 + 1) := fun h => h.elim D (fun h => by omega)
        exact (((((hq.putS a8 _ _).putS f _ _).putS f _ _).putS f _ _).putS f _ _).putS f _ _
      · rcases g with g | g
        · exact .inl g
        · exact .inr ⟨by omega,by first | omega | (simp <;> omega)⟩
    · exact zS (zC G1 (by omega) _ _) (by omega)
    · exact PS.p5 (PS.put p1 O.out (by omega) _ _) O.out (by omega)
  by_cases h2 : wd c.L i = pn
  · have b9 : (wd c.L i == [91]) = true := by rw [h2]; decide
    go_wp2_with fail
    go_region_law (first
      | (go_simp
         go_at_call 121; refine (HE.out.call _ (i + 1) (PS.drew (PS.put p1 O.out (by omega) _ _)) trivial).mono ?_; rintro e H (⟨x4,A,Z,m⟩ | ⟨⟨U,n4,V,X,I⟩,j4,v4,A,rfl,⟨c9,rfl,o⟩,m,p4,d0⟩)
         focus
           have HT := Z; obtain ⟨q,rfl,-⟩ := Z
           exact ⟨rfl,Steps.err ((sM h2).trans (P.bind_err A)) HT (zj (zC G1 (by omega) _ _)) m⟩
         simp only [T.kind,T.name,T.num,T.at',T.subs] at o ⊢; obtain ⟨a0,a1,rfl⟩ := o.form; have s4 := m.size
         try simp at s4
         have J : NB H (w.heap.size + 1 + 1 + 1) (.int .i64 26) (.string ⟨#[]⟩) (.int .i64 0) (.int .i64 l) (.slice (some ⟨w.heap.size + 1 + 1,0,none⟩) 1 1) := NB.kept (NB.drew (NB.s0 n1 _)) m (by simp; omega); have r4 : RB H (w.heap.size + 1) := RB.kept (RB.drew (RB.put r1 _ _ _)) m (by simp; omega); have G4 : w.grownBy H (some c.pb) := zb (zj (zC G1 (by omega) _ _)) m
         have a9 : LR H (fun k => S0 k \/ k = w.heap.size + 1 + 1) [T.mk u x y l z] (.slice (some ⟨w.heap.size + 1 + 1,0,none⟩) 1 1) := by
           refine LR.kept (row := some c.pb) ?_ m (fun b j hs => by cases j; exact hs.elim (fun h => R h) (fun h => by omega)); refine LR.kept (row := none) ?_ (zy grn 1) (fun b j => by cases j)
           exact LR.kept (row := some (w.heap.size + 1 + 1 + 1)) l1 (yU (zl _ _) _ _) (fun b j hs => by cases j; exact hs.elim (fun h => D h) (fun h => by omega))
         have o := LR.wide o (lo' := C.heap.size) (by simp) (Nat.le_refl _); have b0 := J.lt; have b1 := r4.lt
         obtain ⟨z0,z1,z2,z3,z4,zz⟩ := id J)
      | (have r : ∀ b,Value.ownBlock (.slice (some ⟨w.heap.size + 1 + 1,0,none⟩) 1 1) = some b -> b = w.heap.size + 1 + 1 := fun b e => by simp [Value.ownBlock] at e; omega
         refine jF (v := .slice (some ⟨w.heap.size + 1 + 1,0,none⟩) 1 1) rfl _ _ rfl (fun k => S0 k \/ (k = w.heap.size + 1 + 1 \/ (C.heap.size <= k /\ k < H.heap.size + 2))) rfl rfl (a9.grownU (World.grownBy_alloc _ _ none)) (LR.build1 H (cs := #[.int .i64 U,.string ⟨n4.toArray⟩,.int .i64 V,.int .i64 X,.slice a0 I.length a1]) (t := T.mk U n4 V X I) (sv := .slice a0 I.length a1) o rfl rfl (by omega))
           (fun k g e => by have h1 := r k e; have h2 : C.heap.size <= k := g.1; omega) (fun k g => g.elim .inl (fun h => .inr (.inl h))) (fun k g => .inr (.inr ⟨g.1,by have h : k < H.heap.size + 1 := g.2; omega⟩)) (.inr (.inr ⟨by simp; omega,by simp⟩)) (by simp) ?_
         intro v5 B a3 s; obtain ⟨K,M,e5⟩ := a3.form; rw [List.length_append,List.length_singleton] at e5; subst e5; have s5 := s.size
         try simp at s5
         have n5 : NB B (w.heap.size + 1 + 1 + 1) (.int .i64 26) (.string ⟨#[]⟩) (.int .i64 0) (.int .i64 l) (.slice (some ⟨w.heap.size + 1 + 1,0,none⟩) 1 1) := NB.kept (J.alloc _) s (fun e => by have := r _ e.symm; omega); have r5 : RB B (w.heap.size + 1) := RB.kept (r4.alloc _) s (fun e => by have := r _ e.symm; omega); have p5 : PS c B j4 d := PS.own (p4.alloc _) O.out s (fun b j => by have := r b j; omega); have G5 : w.grownBy B (some c.pb) := vY (zf G4 _) s (fun b j => by have := r b j; omega); have b2 := n5.lt; have b3 := r5.lt
         obtain ⟨z0,z1,z2,z3,z4,zz⟩ := id n5))
    all_goals
      have b4 : LR B (fun k => S0 k \/ (k = w.heap.size + 1 + 1 \/ (C.heap.size <= k /\ k < B.heap.size))) [T.mk u x y l z,T.mk U n4 V X I] (.slice K 2 M) := a3.bounded.mono (fun k g => g.1.elim .inl (fun h => .inr (h.elim .inl (fun h => .inr ⟨h.1,g.2⟩)))); go_wp2_with fail; go_at_call 60; refine (zI c _ j4 d mw _ rfl (by decide) (PS.put p5 O.out (by omega) _ _)).mono ?_; rintro e w6 (⟨x6,N,a4,n⟩ | ⟨a6,j6,v6,N,rfl,-,n,p6,d1⟩)
      · obtain ⟨q,rfl,-⟩ := id a4; exact ⟨rfl,Steps.err (((sM h2).trans (P.bind_ok A)).trans (P.bind_err N)) a4 (zC G5 (by omega) _ _) n⟩
      have b5 : xH c.L E (T.mk u x y l z) i = _ := ((sM h2).trans (P.bind_ok A)).trans (P.bind_ok N); have G6 : w.grownBy w6 (some c.pb) := zb (zC G5 (by omega) _ _) n; have s6 := n.size
      try simp at s6
      have r6 : RB w6 (w.heap.size + 1) := RB.kept (RB.put r5 _ _ _) n (by simp; omega); have n6 : NB w6 (w.heap.size + 1 + 1 + 1) (.int .i64 26) (.string ⟨#[]⟩) (.int .i64 0) (.int .i64 l) (.slice K 2 M) := NB.kept (NB.s4 n5 _) n (by simp; omega)
      have l6 : LR w6 (fun k => S0 k \/ (k = w.heap.size + 1 + 1 \/ (C.heap.size <= k /\ k < B.heap.size))) [T.mk u x y l z,T.mk U n4 V X I] (.slice K 2 M) := by
        refine LR.kept (row := some c.pb) ?_ n (fun b j hs => by cases j; exact hs.elim (fun h => R h) (fun h => by omega))
        exact LR.kept (row := some (w.heap.size + 1 + 1 + 1)) b4 (yU (zl _ _) _ _) (fun b j hs => by cases j; exact hs.elim (fun h => D h) (fun h => by omega))
      have b6 := r6.lt; have b7 := n6.lt; obtain ⟨_,_,_,_,_,u0,u1,u2,u3,u4,uz⟩ := id r6; obtain ⟨t0,t1,t2,t3,t4,tz⟩ := id n6; go_wp2; refine zn Tryz.results195 rfl (RB.five ?_) rfl ?_
      · exact r6
      refine Steps.ok (a := T.mk 26 [] 0 l [T.mk u x y l z,T.mk U n4 V X I]) b5 ⟨_,rfl,?_⟩ ?_ ?_ (by omega)
      · refine LR.mono (S := fun k => S0 k \/ (k = w.heap.size + 1 + 1 \/ (C.heap.size <= k /\ k < B.heap.size))) (ts := [T.mk u x y l z,T.mk U n4 V X I]) ?_ (fun k g => ?_)
        · have f : ¬ (S0 (w.heap.size + 1) \/ (w.heap.size + 1 = w.heap.size + 1 + 1 \/ (C.heap.size <= w.heap.size + 1 /\ w.heap.size + 1 < B.heap.size))) := fun h => h.elim a5 (fun h => by omega)
          exact ((((l6.putS f _ _).putS f _ _).putS f _ _).putS f _ _).putS f _ _
        · rcases g with g | g
          · exact .inl g
          · exact .inr ⟨by omega,by first | omega | (simp <;> omega)⟩
      · exact zS G6 (by omega)
      · exact PS.p5 p6 O.out (by omega)
  · have b9 : (wd c.L i == [91]) = false := by simpa [pn] using h2
    have c8 : (wd c.L i == [94]) = false := by simpa [gR] using h3
    have h4 : wd c.L i = np := by
      have h := c2.out
      unfold yb at h
      simp only [Bool.or_eq_true,beq_iff_eq] at h
      rcases h with ((h | h) | h) | h
      · exact absurd h h1
      · exact absurd h h2
      · exact absurd h h3
      · exact h
    have d5 : (wd c.L i == [123]) = true := by rw [h4]; decide
    go_wp2_with fail
    go_region_law (first
      | (go_simp
         go_at_call 153; refine (vC c _ (i + 1) d (PS.drew (PS.put p1 O.out (by omega) _ _))).mono ?_; rintro e H (⟨x4,A,Z,m⟩ | ⟨⟨U,n4,V,X,I⟩,j4,v4,A,rfl,⟨c9,rfl,o⟩,m,p4,d0⟩)
         focus
           have HT := Z; obtain ⟨q,rfl,-⟩ := Z
           exact ⟨rfl,Steps.err ((sK h4).trans (P.bind_err A)) HT (zj (zC G1 (by omega) _ _)) m⟩
         simp only [T.kind,T.name,T.num,T.at',T.subs] at o ⊢; obtain ⟨a0,a1,rfl⟩ := o.form; have s4 := m.size
         try simp at s4
         have J : NB H (w.heap.size + 1 + 1 + 1) (.int .i64 28) (.string ⟨#[]⟩) (.int .i64 0) (.int .i64 l) (.slice (some ⟨w.heap.size + 1 + 1,0,none⟩) 1 1) := NB.kept (NB.drew (NB.s0 n1 _)) m (by simp; omega); have r4 : RB H (w.heap.size + 1) := RB.kept (RB.drew (RB.put r1 _ _ _)) m (by simp; omega); have G4 : w.grownBy H (some c.pb) := zb (zj (zC G1 (by omega) _ _)) m
         have a9 : LR H (fun k => S0 k \/ k = w.heap.size + 1 + 1) [T.mk u x y l z] (.slice (some ⟨w.heap.size + 1 + 1,0,none⟩) 1 1) := by
           refine LR.kept (row := some c.pb) ?_ m (fun b j hs => by cases j; exact hs.elim (fun h => R h) (fun h => by omega)); refine LR.kept (row := none) ?_ (zy grn 1) (fun b j => by cases j)
           exact LR.kept (row := some (w.heap.size + 1 + 1 + 1)) l1 (yU (zl _ _) _ _) (fun b j hs => by cases j; exact hs.elim (fun h => D h) (fun h => by omega))
         have o := LR.wide o (lo' := C.heap.size) (by simp) (Nat.le_refl _); have b0 := J.lt; have b1 := r4.lt
         obtain ⟨z0,z1,z2,z3,z4,zz⟩ := id J)
      | (have r : ∀ b,Value.ownBlock (.slice (some ⟨w.heap.size + 1 + 1,0,none⟩) 1 1) = some b -> b = w.heap.size + 1 + 1 := fun b e => by simp [Value.ownBlock] at e; omega
         refine jF (v := .slice (some ⟨w.heap.size + 1 + 1,0,none⟩) 1 1) rfl _ _ rfl (fun k => S0 k \/ (k = w.heap.size + 1 + 1 \/ (C.heap.size <= k /\ k < H.heap.size + 2))) rfl rfl (a9.grownU (World.grownBy_alloc _ _ none)) (LR.build1 H (cs := #[.int .i64 U,.string ⟨n4.toArray⟩,.int .i64 V,.int .i64 X,.slice a0 I.length a1]) (t := T.mk U n4 V X I) (sv := .slice a0 I.length a1) o rfl rfl (by omega))
           (fun k g e => by have h1 := r k e; have h2 : C.heap.size <= k := g.1; omega) (fun k g => g.elim .inl (fun h => .inr (.inl h))) (fun k g => .inr (.inr ⟨g.1,by have h : k < H.heap.size + 1 := g.2; omega⟩)) (.inr (.inr ⟨by simp; omega,by simp⟩)) (by simp) ?_
         intro v5 B a3 s; obtain ⟨K,M,e5⟩ := a3.form; rw [List.length_append,List.length_singleton] at e5; subst e5; have s5 := s.size
         try simp at s5
         have n5 : NB B (w.heap.size + 1 + 1 + 1) (.int .i64 28) (.string ⟨#[]⟩) (.int .i64 0) (.int .i64 l) (.slice (some ⟨w.heap.size + 1 + 1,0,none⟩) 1 1) := NB.kept (J.alloc _) s (fun e => by have := r _ e.symm; omega); have r5 : RB B (w.heap.size + 1) := RB.kept (r4.alloc _) s (fun e => by have := r _ e.symm; omega); have p5 : PS c B j4 d := PS.own (p4.alloc _) O.out s (fun b j => by have := r b j; omega); have G5 : w.grownBy B (some c.pb) := vY (zf G4 _) s (fun b j => by have := r b j; omega); have b2 := n5.lt; have b3 := r5.lt
         obtain ⟨z0,z1,z2,z3,z4,zz⟩ := id n5))
    all_goals
      have b4 : LR B (fun k => S0 k \/ (k = w.heap.size + 1 + 1 \/ (C.heap.size <= k /\ k < B.heap.size))) [T.mk u x y l z,T.mk U n4 V X I] (.slice K 2 M) := a3.bounded.mono (fun k g => g.1.elim .inl (fun h => .inr (h.elim .inl (fun h => .inr ⟨h.1,g.2⟩)))); go_wp2_with fail; go_at_call 60; refine (zI c _ j4 d cP _ rfl (by decide) (PS.put p5 O.out (by omega) _ _)).mono ?_; rintro e w6 (⟨x6,N,a4,n⟩ | ⟨a6,j6,v6,N,rfl,-,n,p6,d1⟩)
      · obtain ⟨q,rfl,-⟩ := id a4; exact ⟨rfl,Steps.err (((sK h4).trans (P.bind_ok A)).trans (P.bind_err N)) a4 (zC G5 (by omega) _ _) n⟩
      have b5 : xH c.L E (T.mk u x y l z) i = _ := ((sK h4).trans (P.bind_ok A)).trans (P.bind_ok N); have G6 : w.grownBy w6 (some c.pb) := zb (zC G5 (by omega) _ _) n; have s6 := n.size
      try simp at s6
      have r6 : RB w6 (w.heap.size + 1) := RB.kept (RB.put r5 _ _ _) n (by simp; omega); have n6 : NB w6 (w.heap.size + 1 + 1 + 1) (.int .i64 28) (.string ⟨#[]⟩) (.int .i64 0) (.int .i64 l) (.slice K 2 M) := NB.kept (NB.s4 n5 _) n (by simp; omega)
      have l6 : LR w6 (fun k => S0 k \/ (k = w.heap.size + 1 + 1 \/ (C.heap.size <= k /\ k < B.heap.size))) [T.mk u x y l z,T.mk U n4 V X I] (.slice K 2 M) := by
        refine LR.kept (row := some c.pb) ?_ n (fun b j hs => by cases j; exact hs.elim (fun h => R h) (fun h => by omega))
        exact LR.kept (row := some (w.heap.size + 1 + 1 + 1)) b4 (yU (zl _ _) _ _) (fun b j hs => by cases j; exact hs.elim (fun h => D h) (fun h => by omega))
      have b6 := r6.lt; have b7 := n6.lt; obtain ⟨_,_,_,_,_,u0,u1,u2,u3,u4,uz⟩ := id r6; obtain ⟨t0,t1,t2,t3,t4,tz⟩ := id n6; go_wp2; refine zn Tryz.results195 rfl (RB.five ?_) rfl ?_
      · exact r6
      refine Steps.ok (a := T.mk 28 [] 0 l [T.mk u x y l z,T.mk U n4 V X I]) b5 ⟨_,rfl,?_⟩ ?_ ?_ (by omega)
      · refine LR.mono (S := fun k => S0 k \/ (k = w.heap.size + 1 + 1 \/ (C.heap.size <= k /\ k < B.heap.size))) (ts := [T.mk u x y l z,T.mk U n4 V X I]) ?_ (fun k g => ?_)
        · have f : ¬ (S0 (w.heap.size + 1) \/ (w.heap.size + 1 = w.heap.size + 1 + 1 \/ (C.heap.size <= w.heap.size + 1 /\ w.heap.size + 1 < B.heap.size))) := fun h => h.elim a5 (fun h => by omega)
          exact ((((l6.putS f _ _).putS f _ _).putS f _ _).putS f _ _).putS f _ _
        · rcases g with g | g
          · exact .inl g
          · exact .inr ⟨by omega,by first | omega | (simp <;> omega)⟩
      · exact zS G6 (by omega)
      · exact PS.p5 p6 O.out (by omega)
end Go.Proofs.YtfjgelmllcnokaaGreatDoor
