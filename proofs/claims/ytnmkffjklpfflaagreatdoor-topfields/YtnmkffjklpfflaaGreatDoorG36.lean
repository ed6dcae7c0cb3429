/- A record: what it extends,and its fields. -/
import Derived.Test.YtnmkffjklpfflaaGreatDoorG35
namespace Go.Proofs.YtnmkffjklpfflaaGreatDoor
open Go.RowKit
set_option maxHeartbeats 4000000
set_option maxRecDepth 100000
theorem oF {α : Type} (L : List Tok) (k : T -> P α) (j : Nat) : (iL L).bind k j = ((yr L xA).bind fun b => if b = true then (yt L).bind fun y => (zB L jx).bind fun _ => k y else k (.mk 0 [] 0 (pos L j) [])) j := by
 by_cases f : wd L j = xA
 ·have d : yr L xA j = .ok (true,j + 1) := if_pos f
  rw [P.bind_ok d,if_pos rfl]; have c : iL L j = _ := P.bind_ok d; rw [if_pos rfl] at c; cases g : yt L (j + 1) with
  | error e => rw [P.bind_err g] at c ⊢; exact P.bind_err c
  | ok a =>
   obtain ⟨y,i⟩ := a; rw [P.bind_ok g] at c ⊢; cases h : zB L jx i with
   | error e => rw [P.bind_err h] at c ⊢; exact P.bind_err c
   | ok a =>
    obtain ⟨_,_⟩ := a; rw [P.bind_ok h] at c ⊢
    exact P.bind_ok c
 ·have d : yr L xA j = .ok (false,j) := if_neg f
  rw [P.bind_ok d]
  exact P.bind_ok (P.bind_ok d)
theorem rS (c : PC) (w : World) (i d : Nat) (h : PS c w i d) :
    Calls Tryz.prog 175 #[pq c.pb] w (Steps c w i d (fun w' t v => TR w' w.heap.size w'.heap.size t v) (uO c.L i)) := by
  have HP := zc h; have HL := zc h.low; have J := h.lt; have l4 := h.good.few; clear h
  go_enter Tryz.func175,Tryz.ntmps175
  go_wp2_with fail; go_at_call 87; refine (zL c _ i d 10 (PS.alloc HP.out _)).mono ?_; rintro e w1 ⟨rfl,c8⟩; have p1 : PS c w1 i d := PS.kept (PS.alloc HP.out _) c8; have G1 : w.grownBy w1 (some c.pb) := za ga (zv c8 (some c.pb)); have s1 := c8.size
  try simp at s1
  have d7 : RB w1 w.heap.size := RB.kept (RB.new' (by simp)) c8 (by simp); have h9 := d7.lt; obtain ⟨_,_,_,_,_,_,_,_,_,_,_⟩ := id d7; go_wp2_with fail; go_at_call 88; refine (zy c _ i d kN _ rfl (by decide) (PS.alloc p1 _)).mono ?_; rintro e w2 (⟨x2,d8,g6,a8⟩ | ⟨a2,M,v2,d8,rfl,-,a8,p2,l6⟩)
  · obtain ⟨q,rfl,-⟩ := id g6; exact ⟨rfl,Steps.err (P.bind_err d8) g6 (zh G1 _) a8⟩
  have j0 : uO c.L i = _ := P.bind_ok d8; have G2 : w.grownBy w2 (some c.pb) := za (zh G1 _) a8; have s2 := a8.size
  try simp at s2
  have d9 : RB w2 w.heap.size := RB.k (RB.alloc d7 _) a8; have f0 : NB w2 w1.heap.size (.int .i64 10) (.string ⟨#[]⟩) (.int .i64 0) (.int .i64 (pos c.L i)) (.slice none 0 0) := NB.k (NB.new' (by simp)) a8; have j1 := d9.lt; have j3 := f0.lt; obtain ⟨_,_,_,_,_,_,_,_,_,_,_⟩ := id d9; obtain ⟨_,_,_,_,_,_⟩ := id f0; go_wp2_with fail; go_at_call 87; refine (zL c _ M d 0 p2).mono ?_; rintro e w3 ⟨rfl,b8⟩; have p3 : PS c w3 M d := PS.kept p2 b8; have G3 : w.grownBy w3 (some c.pb) := za G2 (zv b8 (some c.pb)); have s3 := b8.size
  try simp at s3
  have f1 : RB w3 w.heap.size := RB.kept d9 b8 (by simp); have f2 : NB w3 w1.heap.size (.int .i64 10) (.string ⟨#[]⟩) (.int .i64 0) (.int .i64 (pos c.L i)) (.slice none 0 0) := NB.kept f0 b8 (by simp); have j8 := f1.lt; have k0 := f2.lt; obtain ⟨_,_,_,_,_,_,_,_,_,_,_⟩ := id f1; obtain ⟨_,_,_,_,_,_⟩ := id f2; have g7 : uO c.L i = _ := j0.trans (oF _ _ _); go_wp2_with fail; go_at_call 137; refine (yp c _ M d xA _ rfl (by decide) (PS.alloc p3 _)).mono ?_; rintro e N ⟨b4,j4,k1,rfl,b9,p4,l7⟩; have c9 : uO c.L i = _ := g7.trans (P.bind_ok k1); have G4 : w.grownBy N (some c.pb) := za (zh G3 _) b9; have s4 := b9.size
  try simp at s4
  have c0 : RB N w.heap.size := RB.k (RB.alloc f1 _) b9; have c1 : NB N w1.heap.size (.int .i64 10) (.string ⟨#[]⟩) (.int .i64 0) (.int .i64 (pos c.L i)) (.slice none 0 0) := NB.k (NB.alloc f2 _) b9; have B : NB N w3.heap.size (.int .i64 0) (.string ⟨#[]⟩) (.int .i64 0) (.int .i64 (pos c.L M)) (.slice none 0 0) := NB.k (NB.new' (by simp)) b9; have k2 := c0.lt; have k3 := c1.lt; have g4 := B.lt; obtain ⟨_,_,_,_,_,_,_,_,_,_,_⟩ := id c0; obtain ⟨_,_,_,_,_,_⟩ := id c1; obtain ⟨_,_,_,_,_,_⟩ := id B; cases b4
  · go_wp2_with fail
    go_region_law (first
      | (go_simp
         go_at_call 143; refine (xV c _ j4 d 203 (fh c.L) (by first | with_reducible exact PS.drew p4 | with_reducible exact PS.drew (PS.alloc p4 _)) ⟨fun w i hp _ => gD c w i d hp,fun _ _ _ _ => trivial,enters_of Tryz.func203 (by kernel_rfl) rfl⟩).mono ?_; rintro e C (⟨x5,a0,c2,s⟩ | ⟨a5,j5,v5,a0,rfl,⟨F,l8⟩,s,p5,k4⟩)
         focus
           have HT := c2; obtain ⟨q,rfl,-⟩ := c2
           exact ⟨rfl,Steps.err (c9.trans (P.bind_err a0)) HT (by first | with_reducible exact zf G4 | with_reducible exact zf (zh G4 _)) s⟩
         have c3 := c9.trans (P.bind_ok a0); have G5 : w.grownBy C (some c.pb) := za (by first | with_reducible exact zf G4 | with_reducible exact zf (zh G4 _)) s; have s5 := s.size
         try simp at s5
         have O : RB C w.heap.size := RB.k (by first | with_reducible exact RB.drew c0 | with_reducible exact RB.drew (RB.alloc c0 _)) s; have Q : NB C w1.heap.size (.int .i64 10) (.string ⟨#[]⟩) (.int .i64 0) (.int .i64 (pos c.L i)) (.slice none 0 0) := NB.k (by first | with_reducible exact NB.drew c1 | with_reducible exact NB.drew (NB.alloc c1 _)) s; have m : NB C w3.heap.size (.int .i64 0) (.string ⟨#[]⟩) (.int .i64 0) (.int .i64 (pos c.L M)) (.slice none 0 0) := NB.k (by first | with_reducible exact NB.drew B | with_reducible exact NB.drew (NB.alloc B _)) s; have f3 := O.lt; have f4 := Q.lt; have b0 := m.lt; obtain ⟨_,_,_,_,_,_,_,_,_,_,_⟩ := id O; obtain ⟨_,_,_,_,_,_⟩ := id Q; obtain ⟨_,_,_,_,_,_⟩ := id m; obtain ⟨x,z,rfl⟩ := F.form; obtain ⟨R,f5,F⟩ := F.nm
         try simp at f5)
      | (have lb : LR C (fun k => In 0 0 k \/ k = N.heap.size) [(T.mk 0 [] 0 (pos c.L M) [])] (.slice (some ⟨N.heap.size,0,none⟩) 1 1) := (LR.build1S N.drew (g := N.heap.size) (S := In 0 0) (t := (T.mk 0 [] 0 (pos c.L M) [])) (sv := .slice none 0 0) (cs := #[.int .i64 0,.string ⟨#[]⟩,.int .i64 0,.int .i64 (pos c.L M),.slice none 0 0]) (LR.drew (LR.nil N (In 0 0))) (fun k hk => Nat.lt_of_lt_of_le hk.2 (by omega)) rfl rfl).kept s (fun b J hs => by cases J; rcases hs with hs | hs; (have h1 : 0 <= c.pb := hs.1; have h2 : c.pb < 0 := hs.2; omega); omega)
         have j : ∀ b,Value.ownBlock (.slice (some ⟨N.heap.size,0,none⟩) 1 1) = some b -> b = N.heap.size := fun b e => by simp [Value.ownBlock] at e; omega
         refine xf (v := .slice (some ⟨N.heap.size,0,none⟩) 1 1) (u := .slice x a5.length z) rfl _ _ rfl (fun k => In 0 0 k \/ (N.heap.size <= k /\ k <= C.heap.size + 1)) rfl rfl lb F
           (fun k hk e => by have h1 := j k e; have h2 : R <= k := hk.1; have h3 : k < C.heap.size := hk.2; omega) (fun k hk => hk.elim .inl (fun h => .inr ⟨by omega,by omega⟩)) (fun k hk => .inr ⟨by have h2 : R <= k := hk.1; omega,by have h3 : k < C.heap.size := hk.2; omega⟩) (.inr ⟨by first | omega | (simp <;> omega),by first | omega | (simp <;> omega)⟩) (by simp; omega) ?_
         intro v6 A d0 l; obtain ⟨d1,d2,e6⟩ := d0.form; rw [List.length_append,List.length_singleton] at e6; subst e6; have s6 := l.size
         try simp at s6
         have G : RB A w.heap.size := RB.kept O l (fun e => by have := j _ e.symm; omega); have H : NB A w1.heap.size (.int .i64 10) (.string ⟨#[]⟩) (.int .i64 0) (.int .i64 (pos c.L i)) (.slice none 0 0) := NB.kept Q l (fun e => by have := j _ e.symm; omega); have f : NB A w3.heap.size (.int .i64 0) (.string ⟨#[]⟩) (.int .i64 0) (.int .i64 (pos c.L M)) (.slice none 0 0) := NB.kept m l (fun e => by have := j _ e.symm; omega); have p6 : PS c A j5 d := PS.own p5 HL.out l (fun b J => by have := j b J; omega); have G6 : w.grownBy A (some c.pb) := xi G5 l (fun b J => by have := j b J; omega); have c4 := G.lt; have c5 := H.lt; have K := f.lt; obtain ⟨_,_,_,_,_,_,_,_,_,_,_⟩ := id G; obtain ⟨_,_,_,_,_,_⟩ := id H
         obtain ⟨_,_,_,_,_,_⟩ := id f)
      | (have lb : LR (C.alloc (.cells #[.int .i64 0,.string ⟨#[]⟩,.int .i64 0,.int .i64 (pos c.L M),.slice none 0 0] 100)) (fun k => In 0 0 k \/ k = C.heap.size) [(T.mk 0 [] 0 (pos c.L M) [])] (.slice (some ⟨C.heap.size,0,none⟩) 1 1) := LR.build1S C (S := In 0 0) (t := (T.mk 0 [] 0 (pos c.L M) [])) (sv := .slice none 0 0) (cs := #[.int .i64 0,.string ⟨#[]⟩,.int .i64 0,.int .i64 (pos c.L M),.slice none 0 0]) (LR.nil C (In 0 0)) (fun k hk => Nat.lt_of_lt_of_le hk.2 (by omega)) rfl rfl
         have j : ∀ b,Value.ownBlock (.slice (some ⟨C.heap.size,0,none⟩) 1 1) = some b -> b = C.heap.size := fun b e => by simp [Value.ownBlock] at e; omega
         refine xf (v := .slice (some ⟨C.heap.size,0,none⟩) 1 1) (u := .slice x a5.length z) rfl _ _ rfl (fun k => In 0 0 k \/ (N.heap.size <= k /\ k <= C.heap.size + 1)) rfl rfl lb (F.alloc _)
           (fun k hk e => by have h1 := j k e; have h2 : R <= k := hk.1; have h3 : k < C.heap.size := hk.2; omega) (fun k hk => hk.elim .inl (fun h => .inr ⟨by omega,by omega⟩)) (fun k hk => .inr ⟨by have h2 : R <= k := hk.1; omega,by have h3 : k < C.heap.size := hk.2; omega⟩) (.inr ⟨by first | omega | (simp <;> omega),by first | omega | (simp <;> omega)⟩) (by simp; omega) ?_
         intro v6 A d0 l; obtain ⟨d1,d2,e6⟩ := d0.form; rw [List.length_append,List.length_singleton] at e6; subst e6; have s6 := l.size
         try simp at s6
         have G : RB A w.heap.size := RB.kept (RB.alloc O _) l (fun e => by have := j _ e.symm; omega); have H : NB A w1.heap.size (.int .i64 10) (.string ⟨#[]⟩) (.int .i64 0) (.int .i64 (pos c.L i)) (.slice none 0 0) := NB.kept (NB.alloc Q _) l (fun e => by have := j _ e.symm; omega); have f : NB A w3.heap.size (.int .i64 0) (.string ⟨#[]⟩) (.int .i64 0) (.int .i64 (pos c.L M)) (.slice none 0 0) := NB.kept (NB.alloc m _) l (fun e => by have := j _ e.symm; omega); have p6 : PS c A j5 d := PS.own (PS.alloc p5 _) HL.out l (fun b J => by have := j b J; omega); have G6 : w.grownBy A (some c.pb) := xi (zh G5 _) l (fun b J => by have := j b J; omega); have c4 := G.lt; have c5 := H.lt; have K := f.lt; obtain ⟨_,_,_,_,_,_,_,_,_,_,_⟩ := id G; obtain ⟨_,_,_,_,_,_⟩ := id H
         obtain ⟨_,_,_,_,_,_⟩ := id f))
    all_goals
      have k6 : LR A (In N.heap.size A.heap.size) ((T.mk 0 [] 0 (pos c.L M) []) :: a5) (.slice d1 (1 + a5.length) d2) := d0.bounded.mono (fun k hk => ⟨hk.1.elim (fun h => by first | exact h.1 | (have h1 : 0 <= k := h.1; have h2 : k < 0 := h.2; omega)) (fun h => by omega),hk.2⟩); go_wp2_with fail; go_at_call 88; refine (zy c _ j5 d kh _ rfl (by decide) (PS.put p6 HL.out (by omega) _ _)).mono ?_; rintro e E (⟨x7,a1,c6,o⟩ | ⟨a7,j7,v7,a1,rfl,-,o,p7,k7⟩)
      · obtain ⟨q,rfl,-⟩ := id c6; exact ⟨rfl,Steps.err (c3.trans (P.bind_err a1)) c6 (zs G6 (by omega) _ _) o⟩
      have d3 := c3.trans (P.bind_ok a1); have G7 : w.grownBy E (some c.pb) := za (zs G6 (by omega) _ _) o; have s7 := o.size
      try simp at s7
      have U : RB E w.heap.size := RB.k (RB.put G _ _ _) o; have a3 : NB E w1.heap.size (.int .i64 10) (.string ⟨#[]⟩) (.int .i64 0) (.int .i64 (pos c.L i)) (.slice d1 (1 + a5.length) d2) := NB.k (NB.s4 H _) o; have n : NB E w3.heap.size (.int .i64 0) (.string ⟨#[]⟩) (.int .i64 0) (.int .i64 (pos c.L M)) (.slice none 0 0) := NB.k (NB.far f (by omega) _ _) o; have g8 : LR E (In N.heap.size A.heap.size) (((T.mk 0 [] 0 (pos c.L M) []) :: a5)) (.slice d1 (1 + a5.length) d2) := LR.c (LR.put k6 (by omega) _ _) o; have f6 := U.lt; have f7 := a3.lt; have b1 := n.lt; obtain ⟨_,_,_,_,_,_,_,_,_,_,_⟩ := id U; obtain ⟨_,_,_,_,_,_⟩ := id a3; obtain ⟨_,_,_,_,_,_⟩ := id n; go_wp2; refine zn Tryz.results175 rfl (RB.five ?_) rfl ?_
      · exact U
      refine Steps.ok (a := (T.mk 10 [] 0 (pos c.L i) ((T.mk 0 [] 0 (pos c.L M) []) :: a5))) d3 ⟨_,rfl,?_⟩ ?_ ?_ (by omega)
      · refine LR.wide (lo := N.heap.size) (hi := A.heap.size) (ts := ((T.mk 0 [] 0 (pos c.L M) []) :: a5)) ?_ (by omega) (by first | omega | (simp <;> omega))
        exact LR.p5 g8 (by omega)
      · exact zC G7 (by omega)
      · exact PS.p5 p7 HL.out (by omega)
  · go_wp2_with fail
    go_at_call 177; refine (yW c _ j4 d p4).mono ?_; rintro e C (⟨x5,a0,c2,s⟩ | ⟨⟨X,Y,Z,q5,I⟩,j5,v5,a0,rfl,⟨l9,rfl,F⟩,s,p5,k4⟩)
    · obtain ⟨q,rfl,-⟩ := id c2; exact ⟨rfl,Steps.err (c9.trans (P.bind_err a0)) c2 G4 s⟩
    have c3 := c9.trans (P.bind_ok a0); simp only [T.kind,T.name,T.num,T.at',T.subs] at F ⊢; obtain ⟨x,z,rfl⟩ := F.form; obtain ⟨R,f5,F⟩ := F.nm
    try simp at f5
    have G5 := za G4 s; have s5 := s.size
    try simp at s5
    have O := RB.k c0 s; have Q := NB.k c1 s; have m := NB.k B s; have f3 := O.lt; have f4 := Q.lt; have b0 := m.lt; obtain ⟨_,_,_,_,_,_,_,_,_,_,_⟩ := id O; obtain ⟨_,_,_,_,_,_⟩ := id Q; obtain ⟨_,_,_,_,_,_⟩ := id m; go_wp2_with fail; go_at_call 88; refine (zy c _ j5 d jx _ rfl (by decide) (PS.p5 p5 HL.out (by omega))).mono ?_; rintro e A (⟨x6,f8,g9,l⟩ | ⟨a6,j6,v6,f8,rfl,-,l,p6,m0⟩)
    · obtain ⟨q,rfl,-⟩ := id g9; exact ⟨rfl,Steps.err (c3.trans (P.bind_err f8)) g9 (zC G5 (by omega)) l⟩
    have h0 := c3.trans (P.bind_ok f8); have G6 : w.grownBy A (some c.pb) := za (zC G5 (by omega)) l; have s6 := l.size
    try simp at s6
    have G : RB A w.heap.size := RB.k (RB.p5 O) l; have H : NB A w1.heap.size (.int .i64 10) (.string ⟨#[]⟩) (.int .i64 0) (.int .i64 (pos c.L i)) (.slice none 0 0) := NB.k (NB.p5 Q (by omega)) l; have f : NB A w3.heap.size (.int .i64 X) (.string ⟨Y.toArray⟩) (.int .i64 Z) (.int .i64 q5) (.slice x I.length z) := NB.keep (NB.s4 (NB.s3 (NB.s2 (NB.s1 (NB.s0 m _) _) _) _) _) l (by omega); have f9 : LR A (In R C.heap.size) I (.slice x I.length z) := LR.c (LR.p5 F (by omega)) l; have c4 := G.lt; have c5 := H.lt; have K := f.lt; obtain ⟨_,_,_,_,_,_,_,_,_,_,_⟩ := id G; obtain ⟨_,_,_,_,_,_⟩ := id H; obtain ⟨_,_,_,_,_,_⟩ := id f; go_wp2_with fail
    go_region_law (first
      | (go_simp
         go_at_call 143; refine (xV c _ j6 d 203 (fh c.L) (by first | with_reducible exact PS.drew p6 | with_reducible exact PS.drew (PS.alloc p6 _)) ⟨fun w i hp _ => gD c w i d hp,fun _ _ _ _ => trivial,enters_of Tryz.func203 (by kernel_rfl) rfl⟩).mono ?_; rintro e E (⟨x7,a1,c6,o⟩ | ⟨a7,j7,v7,a1,rfl,⟨c7,m1⟩,o,p7,k7⟩)
         focus
           have HT := c6; obtain ⟨q,rfl,-⟩ := c6
           exact ⟨rfl,Steps.err (h0.trans (P.bind_err a1)) HT (by first | with_reducible exact zf G6 | with_reducible exact zf (zh G6 _)) o⟩
         have d3 := h0.trans (P.bind_ok a1); have G7 : w.grownBy E (some c.pb) := za (by first | with_reducible exact zf G6 | with_reducible exact zf (zh G6 _)) o; have s7 := o.size
         try simp at s7
         have U : RB E w.heap.size := RB.k (by first | with_reducible exact RB.drew G | with_reducible exact RB.drew (RB.alloc G _)) o; have a3 : NB E w1.heap.size (.int .i64 10) (.string ⟨#[]⟩) (.int .i64 0) (.int .i64 (pos c.L i)) (.slice none 0 0) := NB.k (by first | with_reducible exact NB.drew H | with_reducible exact NB.drew (NB.alloc H _)) o; have n : NB E w3.heap.size (.int .i64 X) (.string ⟨Y.toArray⟩) (.int .i64 Z) (.int .i64 q5) (.slice x I.length z) := NB.k (by first | with_reducible exact NB.drew f | with_reducible exact NB.drew (NB.alloc f _)) o; have k8 : LR E (In R C.heap.size) I (.slice x I.length z) := LR.c (by first | with_reducible exact LR.drew f9 | with_reducible exact LR.drew (LR.alloc f9 _)) o; have f6 := U.lt; have f7 := a3.lt; have b1 := n.lt; obtain ⟨_,_,_,_,_,_,_,_,_,_,_⟩ := id U; obtain ⟨_,_,_,_,_,_⟩ := id a3; obtain ⟨_,_,_,_,_,_⟩ := id n; obtain ⟨h4,h5,rfl⟩ := c7.form; obtain ⟨b7,k9,c7⟩ := c7.nm
         try simp at k9)
      | (have lb : LR E (fun k => In R C.heap.size k \/ k = A.heap.size) [(T.mk X Y Z q5 I)] (.slice (some ⟨A.heap.size,0,none⟩) 1 1) := (LR.build1S A.drew (g := A.heap.size) (S := In R C.heap.size) (t := (T.mk X Y Z q5 I)) (sv := .slice x I.length z) (cs := #[.int .i64 X,.string ⟨Y.toArray⟩,.int .i64 Z,.int .i64 q5,.slice x I.length z]) (LR.drew f9) (fun k hk => Nat.lt_of_lt_of_le hk.2 (by omega)) rfl rfl).kept o (fun b J hs => by cases J; rcases hs with hs | hs; (have h1 : R <= c.pb := hs.1; have h2 : c.pb < C.heap.size := hs.2; omega); omega)
         have j : ∀ b,Value.ownBlock (.slice (some ⟨A.heap.size,0,none⟩) 1 1) = some b -> b = A.heap.size := fun b e => by simp [Value.ownBlock] at e; omega
         refine xf (v := .slice (some ⟨A.heap.size,0,none⟩) 1 1) (u := .slice h4 a7.length h5) rfl _ _ rfl (fun k => In R C.heap.size k \/ (A.heap.size <= k /\ k <= E.heap.size + 1)) rfl rfl lb c7
           (fun k hk e => by have h1 := j k e; have h2 : b7 <= k := hk.1; have h3 : k < E.heap.size := hk.2; omega) (fun k hk => hk.elim .inl (fun h => .inr ⟨by omega,by omega⟩)) (fun k hk => .inr ⟨by have h2 : b7 <= k := hk.1; omega,by have h3 : k < E.heap.size := hk.2; omega⟩) (.inr ⟨by first | omega | (simp <;> omega),by first | omega | (simp <;> omega)⟩) (by simp; omega) ?_
         intro v8 w8 d4 D; obtain ⟨d5,d6,e8⟩ := d4.form; rw [List.length_append,List.length_singleton] at e8; subst e8; have s8 := D.size
         try simp at s8
         have b2 : RB w8 w.heap.size := RB.kept U D (fun e => by have := j _ e.symm; omega); have b3 : NB w8 w1.heap.size (.int .i64 10) (.string ⟨#[]⟩) (.int .i64 0) (.int .i64 (pos c.L i)) (.slice none 0 0) := NB.kept a3 D (fun e => by have := j _ e.symm; omega); have r : NB w8 w3.heap.size (.int .i64 X) (.string ⟨Y.toArray⟩) (.int .i64 Z) (.int .i64 q5) (.slice x I.length z) := NB.kept n D (fun e => by have := j _ e.symm; omega); have p8 : PS c w8 j7 d := PS.own p7 HL.out D (fun b J => by have := j b J; omega); have G8 : w.grownBy w8 (some c.pb) := xi G7 D (fun b J => by have := j b J; omega); have g0 := b2.lt; have g1 := b3.lt; have b6 := r.lt; obtain ⟨_,_,_,_,_,_,_,_,_,_,_⟩ := id b2; obtain ⟨_,_,_,_,_,_⟩ := id b3
         obtain ⟨_,_,_,_,_,_⟩ := id r)
      | (have lb : LR (E.alloc (.cells #[.int .i64 X,.string ⟨Y.toArray⟩,.int .i64 Z,.int .i64 q5,.slice x I.length z] 100)) (fun k => In R C.heap.size k \/ k = E.heap.size) [(T.mk X Y Z q5 I)] (.slice (some ⟨E.heap.size,0,none⟩) 1 1) := LR.build1S E (S := In R C.heap.size) (t := (T.mk X Y Z q5 I)) (sv := .slice x I.length z) (cs := #[.int .i64 X,.string ⟨Y.toArray⟩,.int .i64 Z,.int .i64 q5,.slice x I.length z]) k8 (fun k hk => Nat.lt_of_lt_of_le hk.2 (by omega)) rfl rfl
         have j : ∀ b,Value.ownBlock (.slice (some ⟨E.heap.size,0,none⟩) 1 1) = some b -> b = E.heap.size := fun b e => by simp [Value.ownBlock] at e; omega
         refine xf (v := .slice (some ⟨E.heap.size,0,none⟩) 1 1) (u := .slice h4 a7.length h5) rfl _ _ rfl (fun k => In R C.heap.size k \/ (A.heap.size <= k /\ k <= E.heap.size + 1)) rfl rfl lb (c7.alloc _)
           (fun k hk e => by have h1 := j k e; have h2 : b7 <= k := hk.1; have h3 : k < E.heap.size := hk.2; omega) (fun k hk => hk.elim .inl (fun h => .inr ⟨by omega,by omega⟩)) (fun k hk => .inr ⟨by have h2 : b7 <= k := hk.1; omega,by have h3 : k < E.heap.size := hk.2; omega⟩) (.inr ⟨by first | omega | (simp <;> omega),by first | omega | (simp <;> omega)⟩) (by simp; omega) ?_
         intro v8 w8 d4 D; obtain ⟨d5,d6,e8⟩ := d4.form; rw [List.length_append,List.length_singleton] at e8; subst e8; have s8 := D.size
         try simp at s8
         have b2 : RB w8 w.heap.size := RB.kept (RB.alloc U _) D (fun e => by have := j _ e.symm; omega); have b3 : NB w8 w1.heap.size (.int .i64 10) (.string ⟨#[]⟩) (.int .i64 0) (.int .i64 (pos c.L i)) (.slice none 0 0) := NB.kept (NB.alloc a3 _) D (fun e => by have := j _ e.symm; omega); have r : NB w8 w3.heap.size (.int .i64 X) (.string ⟨Y.toArray⟩) (.int .i64 Z) (.int .i64 q5) (.slice x I.length z) := NB.kept (NB.alloc n _) D (fun e => by have := j _ e.symm; omega); have p8 : PS c w8 j7 d := PS.own (PS.alloc p7 _) HL.out D (fun b J => by have := j b J; omega); have G8 : w.grownBy w8 (some c.pb) := xi (zh G7 _) D (fun b J => by have := j b J; omega); have g0 := b2.lt; have g1 := b3.lt; have b6 := r.lt; obtain ⟨_,_,_,_,_,_,_,_,_,_,_⟩ := id b2; obtain ⟨_,_,_,_,_,_⟩ := id b3
         obtain ⟨_,_,_,_,_,_⟩ := id r))
    all_goals
      have l0 : LR w8 (In R w8.heap.size) ((T.mk X Y Z q5 I) :: a7) (.slice d5 (1 + a7.length) d6) := d4.bounded.mono (fun k hk => ⟨hk.1.elim (fun h => by first | exact h.1 | (have h1 : 0 <= k := h.1; have h2 : k < 0 := h.2; omega)) (fun h => by omega),hk.2⟩); go_wp2_with fail; go_at_call 88; refine (zy c _ j7 d kh _ rfl (by decide) (PS.put p8 HL.out (by omega) _ _)).mono ?_; rintro e w9 (⟨x9,g2,h6,V⟩ | ⟨a9,j9,v9,g2,rfl,-,V,p9,m2⟩)
      · obtain ⟨q,rfl,-⟩ := id h6; exact ⟨rfl,Steps.err (d3.trans (P.bind_err g2)) h6 (zs G8 (by omega) _ _) V⟩
      have l1 := d3.trans (P.bind_ok g2); have G9 : w.grownBy w9 (some c.pb) := za (zs G8 (by omega) _ _) V; have s9 := V.size
      try simp at s9
      have g3 : RB w9 w.heap.size := RB.k (RB.put b2 _ _ _) V; have h7 : NB w9 w1.heap.size (.int .i64 10) (.string ⟨#[]⟩) (.int .i64 0) (.int .i64 (pos c.L i)) (.slice d5 (1 + a7.length) d6) := NB.k (NB.s4 b3 _) V; have a4 : NB w9 w3.heap.size (.int .i64 X) (.string ⟨Y.toArray⟩) (.int .i64 Z) (.int .i64 q5) (.slice x I.length z) := NB.k (NB.far r (by omega) _ _) V; have h8 : LR w9 (In R w8.heap.size) (((T.mk X Y Z q5 I) :: a7)) (.slice d5 (1 + a7.length) d6) := LR.c (LR.put l0 (by omega) _ _) V; have l2 := g3.lt; have l3 := h7.lt; have g5 := a4.lt; obtain ⟨_,_,_,_,_,_,_,_,_,_,_⟩ := id g3; obtain ⟨_,_,_,_,_,_⟩ := id h7; obtain ⟨_,_,_,_,_,_⟩ := id a4; go_wp2; refine zn Tryz.results175 rfl (RB.five ?_) rfl ?_
      · exact g3
      refine Steps.ok (a := (T.mk 10 [] 0 (pos c.L i) ((T.mk X Y Z q5 I) :: a7))) l1 ⟨_,rfl,?_⟩ ?_ ?_ (by omega)
      · refine LR.wide (lo := R) (hi := w8.heap.size) (ts := ((T.mk X Y Z q5 I) :: a7)) ?_ (by omega) (by first | omega | (simp <;> omega))
        exact LR.p5 h8 (by omega)
      · exact zC G9 (by omega)
      · exact PS.p5 p9 HL.out (by omega)
end Go.Proofs.YtnmkffjklpfflaaGreatDoor
