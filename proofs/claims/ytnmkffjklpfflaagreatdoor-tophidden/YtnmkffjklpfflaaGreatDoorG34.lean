/- A record: what it extends,and its fields. -/
import Derived.Test.YtnmkffjklpfflaaGreatDoorG33
namespace Go.Proofs.YtnmkffjklpfflaaGreatDoor
open Go.RowKit
set_option maxHeartbeats 4000000
set_option maxRecDepth 100000
theorem rk {α : Type} (L : List Tok) (k : T -> P α) (j : Nat) : (nj L).bind k j = ((yu L xy).bind fun b => if b = true then (yf L).bind fun y => (zD L jk).bind fun _ => k y else k (.mk 0 [] 0 (pos L j) [])) j := by
 by_cases f : wd L j = xy
 ·have d : yu L xy j = .ok (true,j + 1) := if_pos f
  rw [P.bind_ok d,if_pos rfl]; have c : nj L j = _ := P.bind_ok d; rw [if_pos rfl] at c; cases g : yf L (j + 1) with
  | error e => rw [P.bind_err g] at c ⊢; exact P.bind_err c
  | ok a =>
   obtain ⟨y,i⟩ := a; rw [P.bind_ok g] at c ⊢; cases h : zD L jk i with
   | error e => rw [P.bind_err h] at c ⊢; exact P.bind_err c
   | ok a =>
    obtain ⟨_,_⟩ := a; rw [P.bind_ok h] at c ⊢
    exact P.bind_ok c
 ·have d : yu L xy j = .ok (false,j) := if_neg f
  rw [P.bind_ok d]
  exact P.bind_ok (P.bind_ok d)
theorem tZ (c : PC) (w : World) (i d : Nat) (h : PS c w i d) :
    Calls Tryz.prog 175 #[.pointer (some ⟨c.pb,0,none⟩)] w (Steps c w i d (fun w' t v => TR w' w.heap.size w'.heap.size t v) (xf c.L i)) := by
  have HP := ze h; have HL := ze h.low; have J := h.lt; have l4 := h.good.few; clear h
  go_enter Tryz.func175,Tryz.ntmps175
  go_wp2_with fail; go_at_call 87; refine (zI c _ i d 10 (PS.alloc HP.out _)).mono ?_; rintro e X ⟨rfl,c8⟩; have p1 : PS c X i d := PS.kept (PS.alloc HP.out _) c8; have G1 : w.grownBy X (some c.pb) := za (zf (zc w (some c.pb)) _) (zv c8 (some c.pb)); have s1 := c8.size
  try simp at s1
  have d7 : RB X w.heap.size := RB.kept (RB.new' (by simp)) c8 (by simp); have h9 := d7.lt; obtain ⟨_,_,_,_,_,_,_,_,_,_,_⟩ := id d7; go_wp2_with fail; go_at_call 88; refine (zx c _ i d jV _ rfl (by decide) (PS.alloc p1 _)).mono ?_; rintro e w2 (⟨x2,d8,g8,a8⟩ | ⟨a2,K,v2,d8,rfl,-,a8,p2,l6⟩)
  · obtain ⟨q,rfl,-⟩ := id g8; exact ⟨rfl,Steps.err (P.bind_err d8) g8 (zf G1 _) a8⟩
  have j0 : xf c.L i = _ := P.bind_ok d8; have G2 : w.grownBy w2 (some c.pb) := za (zf G1 _) a8; have s2 := a8.size
  try simp at s2
  have d9 : RB w2 w.heap.size := RB.keep (RB.alloc d7 _) a8 (by omega); have f0 : NB w2 X.heap.size (.int .i64 10) (.string ⟨#[]⟩) (.int .i64 0) (.int .i64 (pos c.L i)) (.slice none 0 0) := NB.keep (NB.new' (by simp)) a8 (by omega); have j1 := d9.lt; have j3 := f0.lt; obtain ⟨_,_,_,_,_,_,_,_,_,_,_⟩ := id d9; obtain ⟨_,_,_,_,_,_⟩ := id f0; go_wp2_with fail; go_at_call 87; refine (zI c _ K d 0 p2).mono ?_; rintro e w3 ⟨rfl,b8⟩; have p3 : PS c w3 K d := PS.kept p2 b8; have G3 : w.grownBy w3 (some c.pb) := za G2 (zv b8 (some c.pb)); have s3 := b8.size
  try simp at s3
  have f1 : RB w3 w.heap.size := RB.kept d9 b8 (by simp); have f2 : NB w3 X.heap.size (.int .i64 10) (.string ⟨#[]⟩) (.int .i64 0) (.int .i64 (pos c.L i)) (.slice none 0 0) := NB.kept f0 b8 (by simp); have j8 := f1.lt; have k0 := f2.lt; obtain ⟨_,_,_,_,_,_,_,_,_,_,_⟩ := id f1; obtain ⟨_,_,_,_,_,_⟩ := id f2; have g9 : xf c.L i = _ := j0.trans (rk _ _ _); go_wp2_with fail; go_at_call 137; refine (yb c _ K d xy _ rfl (by decide) (PS.alloc p3 _)).mono ?_; rintro e N ⟨b4,j4,k1,rfl,b9,p4,l7⟩; have c9 : xf c.L i = _ := g9.trans (P.bind_ok k1); have G4 : w.grownBy N (some c.pb) := za (zf G3 _) b9; have s4 := b9.size
  try simp at s4
  have c0 : RB N w.heap.size := RB.keep (RB.alloc f1 _) b9 (by omega); have c1 : NB N X.heap.size (.int .i64 10) (.string ⟨#[]⟩) (.int .i64 0) (.int .i64 (pos c.L i)) (.slice none 0 0) := NB.keep (NB.alloc f2 _) b9 (by omega); have C : NB N w3.heap.size (.int .i64 0) (.string ⟨#[]⟩) (.int .i64 0) (.int .i64 (pos c.L K)) (.slice none 0 0) := NB.keep (NB.new' (by simp)) b9 (by omega); have k2 := c0.lt; have k3 := c1.lt; have g6 := C.lt; obtain ⟨_,_,_,_,_,_,_,_,_,_,_⟩ := id c0; obtain ⟨_,_,_,_,_,_⟩ := id c1; obtain ⟨_,_,_,_,_,_⟩ := id C; cases b4
  · go_wp2_with fail
    go_region_law (first
      | (go_simp
         go_at_call 143; refine (xB c _ j4 d 203 (kH c.L) (by first | with_reducible exact PS.drew p4 | with_reducible exact PS.drew (PS.alloc p4 _)) ⟨fun w i hp _ => gA c w i d hp,fun _ _ _ _ => trivial,enters_of Tryz.func203 (by kernel_rfl) rfl⟩).mono ?_; rintro e o (⟨x5,a0,c2,A⟩ | ⟨a5,j5,v5,a0,rfl,⟨G,l8⟩,A,p5,k4⟩)
         focus
           have HT := c2; obtain ⟨q,rfl,-⟩ := c2
           exact ⟨rfl,Steps.err (c9.trans (P.bind_err a0)) HT (by first | with_reducible exact zh G4 | with_reducible exact zh (zf G4 _)) A⟩
         have c3 : xf c.L i = _ := c9.trans (P.bind_ok a0); have G5 : w.grownBy o (some c.pb) := za (by first | with_reducible exact zh G4 | with_reducible exact zh (zf G4 _)) A; have s5 := A.size
         try simp at s5
         have O : RB o w.heap.size := RB.keep (by first | with_reducible exact RB.drew c0 | with_reducible exact RB.drew (RB.alloc c0 _)) A (by omega); have Q : NB o X.heap.size (.int .i64 10) (.string ⟨#[]⟩) (.int .i64 0) (.int .i64 (pos c.L i)) (.slice none 0 0) := NB.keep (by first | with_reducible exact NB.drew c1 | with_reducible exact NB.drew (NB.alloc c1 _)) A (by omega); have m : NB o w3.heap.size (.int .i64 0) (.string ⟨#[]⟩) (.int .i64 0) (.int .i64 (pos c.L K)) (.slice none 0 0) := NB.keep (by first | with_reducible exact NB.drew C | with_reducible exact NB.drew (NB.alloc C _)) A (by omega); have f3 := O.lt; have f4 := Q.lt; have b0 := m.lt; obtain ⟨_,_,_,_,_,_,_,_,_,_,_⟩ := id O; obtain ⟨_,_,_,_,_,_⟩ := id Q; obtain ⟨_,_,_,_,_,_⟩ := id m; obtain ⟨s,x,rfl⟩ := G.form; obtain ⟨R,f5,G⟩ : ∃ b,b = _ /\ LR o (In b o.heap.size) a5 (.slice s a5.length x) := ⟨_,rfl,G⟩
         try simp at f5)
      | (have lb : LR o (fun k => In 0 0 k \/ k = N.heap.size) [(T.mk 0 [] 0 (pos c.L K) [])] (.slice (some ⟨N.heap.size,0,none⟩) 1 1) := (LR.build1S N.drew (g := N.heap.size) (S := In 0 0) (t := (T.mk 0 [] 0 (pos c.L K) [])) (sv := .slice none 0 0) (cs := #[.int .i64 0,.string ⟨#[]⟩,.int .i64 0,.int .i64 (pos c.L K),.slice none 0 0]) (LR.drew (LR.nil N (In 0 0))) (fun k hk => Nat.lt_of_lt_of_le hk.2 (by omega)) rfl rfl).kept A (fun b J hs => by cases J; rcases hs with hs | hs; (have h1 : 0 <= c.pb := hs.1; have h2 : c.pb < 0 := hs.2; omega); omega)
         have j : ∀ b,Value.ownBlock (.slice (some ⟨N.heap.size,0,none⟩) 1 1) = some b -> b = N.heap.size := fun b e => by simp [Value.ownBlock] at e; omega
         refine yQ (v := .slice (some ⟨N.heap.size,0,none⟩) 1 1) (u := .slice s a5.length x) rfl _ _ rfl (fun k => In 0 0 k \/ (N.heap.size <= k /\ k <= o.heap.size + 1)) rfl rfl lb G
           (fun k hk e => by have h1 := j k e; have h2 : R <= k := hk.1; have h3 : k < o.heap.size := hk.2; omega) (fun k hk => hk.elim .inl (fun h => .inr ⟨by omega,by omega⟩)) (fun k hk => .inr ⟨by have h2 : R <= k := hk.1; omega,by have h3 : k < o.heap.size := hk.2; omega⟩) (.inr ⟨by first | omega | (simp <;> omega),by first | omega | (simp <;> omega)⟩) (by simp; omega) ?_
         intro v6 B d0 l; obtain ⟨d1,d2,e6⟩ := d0.form; rw [List.length_append,List.length_singleton] at e6; subst e6; have s6 := l.size
         try simp at s6
         have H : RB B w.heap.size := RB.kept O l (fun e => by have := j _ e.symm; omega); have I : NB B X.heap.size (.int .i64 10) (.string ⟨#[]⟩) (.int .i64 0) (.int .i64 (pos c.L i)) (.slice none 0 0) := NB.kept Q l (fun e => by have := j _ e.symm; omega); have f : NB B w3.heap.size (.int .i64 0) (.string ⟨#[]⟩) (.int .i64 0) (.int .i64 (pos c.L K)) (.slice none 0 0) := NB.kept m l (fun e => by have := j _ e.symm; omega); have p6 : PS c B j5 d := PS.own p5 HL.out l (fun b J => by have := j b J; omega); have G6 : w.grownBy B (some c.pb) := yX G5 l (fun b J => by have := j b J; omega); have c4 := H.lt; have c5 := I.lt; have M := f.lt; obtain ⟨_,_,_,_,_,_,_,_,_,_,_⟩ := id H; obtain ⟨_,_,_,_,_,_⟩ := id I
         obtain ⟨_,_,_,_,_,_⟩ := id f)
      | (have lb : LR (o.alloc (.cells #[.int .i64 0,.string ⟨#[]⟩,.int .i64 0,.int .i64 (pos c.L K),.slice none 0 0] 100)) (fun k => In 0 0 k \/ k = o.heap.size) [(T.mk 0 [] 0 (pos c.L K) [])] (.slice (some ⟨o.heap.size,0,none⟩) 1 1) := LR.build1S o (S := In 0 0) (t := (T.mk 0 [] 0 (pos c.L K) [])) (sv := .slice none 0 0) (cs := #[.int .i64 0,.string ⟨#[]⟩,.int .i64 0,.int .i64 (pos c.L K),.slice none 0 0]) (LR.nil o (In 0 0)) (fun k hk => Nat.lt_of_lt_of_le hk.2 (by omega)) rfl rfl
         have j : ∀ b,Value.ownBlock (.slice (some ⟨o.heap.size,0,none⟩) 1 1) = some b -> b = o.heap.size := fun b e => by simp [Value.ownBlock] at e; omega
         refine yQ (v := .slice (some ⟨o.heap.size,0,none⟩) 1 1) (u := .slice s a5.length x) rfl _ _ rfl (fun k => In 0 0 k \/ (N.heap.size <= k /\ k <= o.heap.size + 1)) rfl rfl lb (G.alloc _)
           (fun k hk e => by have h1 := j k e; have h2 : R <= k := hk.1; have h3 : k < o.heap.size := hk.2; omega) (fun k hk => hk.elim .inl (fun h => .inr ⟨by omega,by omega⟩)) (fun k hk => .inr ⟨by have h2 : R <= k := hk.1; omega,by have h3 : k < o.heap.size := hk.2; omega⟩) (.inr ⟨by first | omega | (simp <;> omega),by first | omega | (simp <;> omega)⟩) (by simp; omega) ?_
         intro v6 B d0 l; obtain ⟨d1,d2,e6⟩ := d0.form; rw [List.length_append,List.length_singleton] at e6; subst e6; have s6 := l.size
         try simp at s6
         have H : RB B w.heap.size := RB.kept (RB.alloc O _) l (fun e => by have := j _ e.symm; omega); have I : NB B X.heap.size (.int .i64 10) (.string ⟨#[]⟩) (.int .i64 0) (.int .i64 (pos c.L i)) (.slice none 0 0) := NB.kept (NB.alloc Q _) l (fun e => by have := j _ e.symm; omega); have f : NB B w3.heap.size (.int .i64 0) (.string ⟨#[]⟩) (.int .i64 0) (.int .i64 (pos c.L K)) (.slice none 0 0) := NB.kept (NB.alloc m _) l (fun e => by have := j _ e.symm; omega); have p6 : PS c B j5 d := PS.own (PS.alloc p5 _) HL.out l (fun b J => by have := j b J; omega); have G6 : w.grownBy B (some c.pb) := yX (zf G5 _) l (fun b J => by have := j b J; omega); have c4 := H.lt; have c5 := I.lt; have M := f.lt; obtain ⟨_,_,_,_,_,_,_,_,_,_,_⟩ := id H; obtain ⟨_,_,_,_,_,_⟩ := id I
         obtain ⟨_,_,_,_,_,_⟩ := id f))
    all_goals
      have k6 : LR B (In N.heap.size B.heap.size) ((T.mk 0 [] 0 (pos c.L K) []) :: a5) (.slice d1 (1 + a5.length) d2) := d0.bounded.mono (fun k hk => ⟨hk.1.elim (fun h => by first | exact h.1 | (have h1 : 0 <= k := h.1; have h2 : k < 0 := h.2; omega)) (fun h => by omega),hk.2⟩); go_wp2_with fail; go_at_call 88; refine (zx c _ j5 d jB _ rfl (by decide) (PS.put p6 HL.out (by omega) _ _)).mono ?_; rintro e D (⟨x7,a1,c6,r⟩ | ⟨a7,j7,v7,a1,rfl,-,r,p7,k7⟩)
      · obtain ⟨q,rfl,-⟩ := id c6; exact ⟨rfl,Steps.err (c3.trans (P.bind_err a1)) c6 (zq G6 (by omega) _ _) r⟩
      have d3 : xf c.L i = _ := c3.trans (P.bind_ok a1); have G7 : w.grownBy D (some c.pb) := za (zq G6 (by omega) _ _) r; have s7 := r.size
      try simp at s7
      have U : RB D w.heap.size := RB.keep (RB.put H _ _ _) r (by omega); have a3 : NB D X.heap.size (.int .i64 10) (.string ⟨#[]⟩) (.int .i64 0) (.int .i64 (pos c.L i)) (.slice d1 (1 + a5.length) d2) := NB.keep (NB.s4 I _) r (by omega); have n : NB D w3.heap.size (.int .i64 0) (.string ⟨#[]⟩) (.int .i64 0) (.int .i64 (pos c.L K)) (.slice none 0 0) := NB.keep (NB.far f (by omega) _ _) r (by omega); have h0 : LR D (In N.heap.size B.heap.size) (((T.mk 0 [] 0 (pos c.L K) []) :: a5)) (.slice d1 (1 + a5.length) d2) := LR.call (LR.put k6 (by omega) _ _) r (by omega); have f6 := U.lt; have f7 := a3.lt; have b1 := n.lt; obtain ⟨_,_,_,_,_,_,_,_,_,_,_⟩ := id U; obtain ⟨_,_,_,_,_,_⟩ := id a3; obtain ⟨_,_,_,_,_,_⟩ := id n; go_wp2; refine zj Tryz.results175 rfl (RB.five ?_) rfl ?_
      · exact U
      refine Steps.ok (a := (T.mk 10 [] 0 (pos c.L i) ((T.mk 0 [] 0 (pos c.L K) []) :: a5))) d3 ⟨_,rfl,?_⟩ ?_ ?_ (by omega)
      · refine LR.wide (lo := N.heap.size) (hi := B.heap.size) (ts := ((T.mk 0 [] 0 (pos c.L K) []) :: a5)) ?_ (by omega) (by first | omega | (simp <;> omega))
        exact LR.p5 h0 (by omega)
      · exact zy G7 (by omega)
      · exact PS.p5 p7 HL.out (by omega)
  · go_wp2_with fail
    go_at_call 177; refine (yF c _ j4 d p4).mono ?_; rintro e o (⟨x5,a0,c2,A⟩ | ⟨⟨Y,Z,m5,q5,F⟩,j5,v5,a0,rfl,⟨l9,rfl,G⟩,A,p5,k4⟩)
    · obtain ⟨q,rfl,-⟩ := id c2; exact ⟨rfl,Steps.err (c9.trans (P.bind_err a0)) c2 G4 A⟩
    have c3 : xf c.L i = _ := c9.trans (P.bind_ok a0); simp only [T.kind,T.name,T.num,T.at',T.subs] at G ⊢; obtain ⟨s,x,rfl⟩ := G.form; obtain ⟨R,f5,G⟩ : ∃ b,b = _ /\ LR o (In b o.heap.size) F (.slice s F.length x) := ⟨_,rfl,G⟩
    try simp at f5
    have G5 : w.grownBy o (some c.pb) := za G4 A; have s5 := A.size
    try simp at s5
    have O : RB o w.heap.size := RB.keep c0 A (by omega); have Q : NB o X.heap.size (.int .i64 10) (.string ⟨#[]⟩) (.int .i64 0) (.int .i64 (pos c.L i)) (.slice none 0 0) := NB.keep c1 A (by omega); have m : NB o w3.heap.size (.int .i64 0) (.string ⟨#[]⟩) (.int .i64 0) (.int .i64 (pos c.L K)) (.slice none 0 0) := NB.keep C A (by omega); have f3 := O.lt; have f4 := Q.lt; have b0 := m.lt; obtain ⟨_,_,_,_,_,_,_,_,_,_,_⟩ := id O; obtain ⟨_,_,_,_,_,_⟩ := id Q; obtain ⟨_,_,_,_,_,_⟩ := id m; go_wp2_with fail; go_at_call 88; refine (zx c _ j5 d jk _ rfl (by decide) (PS.p5 p5 HL.out (by omega))).mono ?_; rintro e B (⟨x6,f8,h4,l⟩ | ⟨a6,j6,v6,f8,rfl,-,l,p6,m0⟩)
    · obtain ⟨q,rfl,-⟩ := id h4; exact ⟨rfl,Steps.err (c3.trans (P.bind_err f8)) h4 (zy G5 (by omega)) l⟩
    have h5 : xf c.L i = _ := c3.trans (P.bind_ok f8); have G6 : w.grownBy B (some c.pb) := za (zy G5 (by omega)) l; have s6 := l.size
    try simp at s6
    have H : RB B w.heap.size := RB.keep (RB.p5 O) l (by omega); have I : NB B X.heap.size (.int .i64 10) (.string ⟨#[]⟩) (.int .i64 0) (.int .i64 (pos c.L i)) (.slice none 0 0) := NB.keep (NB.p5 Q (by omega)) l (by omega); have f : NB B w3.heap.size (.int .i64 Y) (.string ⟨Z.toArray⟩) (.int .i64 m5) (.int .i64 q5) (.slice s F.length x) := NB.keep (NB.s4 (NB.s3 (NB.s2 (NB.s1 (NB.s0 m _) _) _) _) _) l (by omega); have f9 : LR B (In R o.heap.size) F (.slice s F.length x) := LR.call (LR.p5 G (by omega)) l (by omega); have c4 := H.lt; have c5 := I.lt; have M := f.lt; obtain ⟨_,_,_,_,_,_,_,_,_,_,_⟩ := id H; obtain ⟨_,_,_,_,_,_⟩ := id I; obtain ⟨_,_,_,_,_,_⟩ := id f; go_wp2_with fail
    go_region_law (first
      | (go_simp
         go_at_call 143; refine (xB c _ j6 d 203 (kH c.L) (by first | with_reducible exact PS.drew p6 | with_reducible exact PS.drew (PS.alloc p6 _)) ⟨fun w i hp _ => gA c w i d hp,fun _ _ _ _ => trivial,enters_of Tryz.func203 (by kernel_rfl) rfl⟩).mono ?_; rintro e D (⟨x7,a1,c6,r⟩ | ⟨a7,j7,v7,a1,rfl,⟨c7,m1⟩,r,p7,k7⟩)
         focus
           have HT := c6; obtain ⟨q,rfl,-⟩ := c6
           exact ⟨rfl,Steps.err (h5.trans (P.bind_err a1)) HT (by first | with_reducible exact zh G6 | with_reducible exact zh (zf G6 _)) r⟩
         have d3 : xf c.L i = _ := h5.trans (P.bind_ok a1); have G7 : w.grownBy D (some c.pb) := za (by first | with_reducible exact zh G6 | with_reducible exact zh (zf G6 _)) r; have s7 := r.size
         try simp at s7
         have U : RB D w.heap.size := RB.keep (by first | with_reducible exact RB.drew H | with_reducible exact RB.drew (RB.alloc H _)) r (by omega); have a3 : NB D X.heap.size (.int .i64 10) (.string ⟨#[]⟩) (.int .i64 0) (.int .i64 (pos c.L i)) (.slice none 0 0) := NB.keep (by first | with_reducible exact NB.drew I | with_reducible exact NB.drew (NB.alloc I _)) r (by omega); have n : NB D w3.heap.size (.int .i64 Y) (.string ⟨Z.toArray⟩) (.int .i64 m5) (.int .i64 q5) (.slice s F.length x) := NB.keep (by first | with_reducible exact NB.drew f | with_reducible exact NB.drew (NB.alloc f _)) r (by omega); have k8 : LR D (In R o.heap.size) F (.slice s F.length x) := LR.call (by first | with_reducible exact LR.drew f9 | with_reducible exact LR.drew (LR.alloc f9 _)) r (by omega); have f6 := U.lt; have f7 := a3.lt; have b1 := n.lt; obtain ⟨_,_,_,_,_,_,_,_,_,_,_⟩ := id U; obtain ⟨_,_,_,_,_,_⟩ := id a3; obtain ⟨_,_,_,_,_,_⟩ := id n; obtain ⟨g0,g1,rfl⟩ := c7.form; obtain ⟨b7,k9,c7⟩ : ∃ b,b = _ /\ LR D (In b D.heap.size) a7 (.slice g0 a7.length g1) := ⟨_,rfl,c7⟩
         try simp at k9)
      | (have lb : LR D (fun k => In R o.heap.size k \/ k = B.heap.size) [(T.mk Y Z m5 q5 F)] (.slice (some ⟨B.heap.size,0,none⟩) 1 1) := (LR.build1S B.drew (g := B.heap.size) (S := In R o.heap.size) (t := (T.mk Y Z m5 q5 F)) (sv := .slice s F.length x) (cs := #[.int .i64 Y,.string ⟨Z.toArray⟩,.int .i64 m5,.int .i64 q5,.slice s F.length x]) (LR.drew f9) (fun k hk => Nat.lt_of_lt_of_le hk.2 (by omega)) rfl rfl).kept r (fun b J hs => by cases J; rcases hs with hs | hs; (have h1 : R <= c.pb := hs.1; have h2 : c.pb < o.heap.size := hs.2; omega); omega)
         have j : ∀ b,Value.ownBlock (.slice (some ⟨B.heap.size,0,none⟩) 1 1) = some b -> b = B.heap.size := fun b e => by simp [Value.ownBlock] at e; omega
         refine yQ (v := .slice (some ⟨B.heap.size,0,none⟩) 1 1) (u := .slice g0 a7.length g1) rfl _ _ rfl (fun k => In R o.heap.size k \/ (B.heap.size <= k /\ k <= D.heap.size + 1)) rfl rfl lb c7
           (fun k hk e => by have h1 := j k e; have h2 : b7 <= k := hk.1; have h3 : k < D.heap.size := hk.2; omega) (fun k hk => hk.elim .inl (fun h => .inr ⟨by omega,by omega⟩)) (fun k hk => .inr ⟨by have h2 : b7 <= k := hk.1; omega,by have h3 : k < D.heap.size := hk.2; omega⟩) (.inr ⟨by first | omega | (simp <;> omega),by first | omega | (simp <;> omega)⟩) (by simp; omega) ?_
         intro v8 w8 d4 E; obtain ⟨d5,d6,e8⟩ := d4.form; rw [List.length_append,List.length_singleton] at e8; subst e8; have s8 := E.size
         try simp at s8
         have b2 : RB w8 w.heap.size := RB.kept U E (fun e => by have := j _ e.symm; omega); have b3 : NB w8 X.heap.size (.int .i64 10) (.string ⟨#[]⟩) (.int .i64 0) (.int .i64 (pos c.L i)) (.slice none 0 0) := NB.kept a3 E (fun e => by have := j _ e.symm; omega); have z : NB w8 w3.heap.size (.int .i64 Y) (.string ⟨Z.toArray⟩) (.int .i64 m5) (.int .i64 q5) (.slice s F.length x) := NB.kept n E (fun e => by have := j _ e.symm; omega); have p8 : PS c w8 j7 d := PS.own p7 HL.out E (fun b J => by have := j b J; omega); have G8 : w.grownBy w8 (some c.pb) := yX G7 E (fun b J => by have := j b J; omega); have g2 := b2.lt; have g3 := b3.lt; have b6 := z.lt; obtain ⟨_,_,_,_,_,_,_,_,_,_,_⟩ := id b2; obtain ⟨_,_,_,_,_,_⟩ := id b3
         obtain ⟨_,_,_,_,_,_⟩ := id z)
      | (have lb : LR (D.alloc (.cells #[.int .i64 Y,.string ⟨Z.toArray⟩,.int .i64 m5,.int .i64 q5,.slice s F.length x] 100)) (fun k => In R o.heap.size k \/ k = D.heap.size) [(T.mk Y Z m5 q5 F)] (.slice (some ⟨D.heap.size,0,none⟩) 1 1) := LR.build1S D (S := In R o.heap.size) (t := (T.mk Y Z m5 q5 F)) (sv := .slice s F.length x) (cs := #[.int .i64 Y,.string ⟨Z.toArray⟩,.int .i64 m5,.int .i64 q5,.slice s F.length x]) k8 (fun k hk => Nat.lt_of_lt_of_le hk.2 (by omega)) rfl rfl
         have j : ∀ b,Value.ownBlock (.slice (some ⟨D.heap.size,0,none⟩) 1 1) = some b -> b = D.heap.size := fun b e => by simp [Value.ownBlock] at e; omega
         refine yQ (v := .slice (some ⟨D.heap.size,0,none⟩) 1 1) (u := .slice g0 a7.length g1) rfl _ _ rfl (fun k => In R o.heap.size k \/ (B.heap.size <= k /\ k <= D.heap.size + 1)) rfl rfl lb (c7.alloc _)
           (fun k hk e => by have h1 := j k e; have h2 : b7 <= k := hk.1; have h3 : k < D.heap.size := hk.2; omega) (fun k hk => hk.elim .inl (fun h => .inr ⟨by omega,by omega⟩)) (fun k hk => .inr ⟨by have h2 : b7 <= k := hk.1; omega,by have h3 : k < D.heap.size := hk.2; omega⟩) (.inr ⟨by first | omega | (simp <;> omega),by first | omega | (simp <;> omega)⟩) (by simp; omega) ?_
         intro v8 w8 d4 E; obtain ⟨d5,d6,e8⟩ := d4.form; rw [List.length_append,List.length_singleton] at e8; subst e8; have s8 := E.size
         try simp at s8
         have b2 : RB w8 w.heap.size := RB.kept (RB.alloc U _) E (fun e => by have := j _ e.symm; omega); have b3 : NB w8 X.heap.size (.int .i64 10) (.string ⟨#[]⟩) (.int .i64 0) (.int .i64 (pos c.L i)) (.slice none 0 0) := NB.kept (NB.alloc a3 _) E (fun e => by have := j _ e.symm; omega); have z : NB w8 w3.heap.size (.int .i64 Y) (.string ⟨Z.toArray⟩) (.int .i64 m5) (.int .i64 q5) (.slice s F.length x) := NB.kept (NB.alloc n _) E (fun e => by have := j _ e.symm; omega); have p8 : PS c w8 j7 d := PS.own (PS.alloc p7 _) HL.out E (fun b J => by have := j b J; omega); have G8 : w.grownBy w8 (some c.pb) := yX (zf G7 _) E (fun b J => by have := j b J; omega); have g2 := b2.lt; have g3 := b3.lt; have b6 := z.lt; obtain ⟨_,_,_,_,_,_,_,_,_,_,_⟩ := id b2; obtain ⟨_,_,_,_,_,_⟩ := id b3
         obtain ⟨_,_,_,_,_,_⟩ := id z))
    all_goals
      have l0 : LR w8 (In R w8.heap.size) ((T.mk Y Z m5 q5 F) :: a7) (.slice d5 (1 + a7.length) d6) := d4.bounded.mono (fun k hk => ⟨hk.1.elim (fun h => by first | exact h.1 | (have h1 : 0 <= k := h.1; have h2 : k < 0 := h.2; omega)) (fun h => by omega),hk.2⟩); go_wp2_with fail; go_at_call 88; refine (zx c _ j7 d jB _ rfl (by decide) (PS.put p8 HL.out (by omega) _ _)).mono ?_; rintro e w9 (⟨x9,g4,h6,V⟩ | ⟨a9,j9,v9,g4,rfl,-,V,p9,m2⟩)
      · obtain ⟨q,rfl,-⟩ := id h6; exact ⟨rfl,Steps.err (d3.trans (P.bind_err g4)) h6 (zq G8 (by omega) _ _) V⟩
      have l1 : xf c.L i = _ := d3.trans (P.bind_ok g4); have G9 : w.grownBy w9 (some c.pb) := za (zq G8 (by omega) _ _) V; have s9 := V.size
      try simp at s9
      have g5 : RB w9 w.heap.size := RB.keep (RB.put b2 _ _ _) V (by omega); have h7 : NB w9 X.heap.size (.int .i64 10) (.string ⟨#[]⟩) (.int .i64 0) (.int .i64 (pos c.L i)) (.slice d5 (1 + a7.length) d6) := NB.keep (NB.s4 b3 _) V (by omega); have a4 : NB w9 w3.heap.size (.int .i64 Y) (.string ⟨Z.toArray⟩) (.int .i64 m5) (.int .i64 q5) (.slice s F.length x) := NB.keep (NB.far z (by omega) _ _) V (by omega); have h8 : LR w9 (In R w8.heap.size) (((T.mk Y Z m5 q5 F) :: a7)) (.slice d5 (1 + a7.length) d6) := LR.call (LR.put l0 (by omega) _ _) V (by omega); have l2 := g5.lt; have l3 := h7.lt; have g7 := a4.lt; obtain ⟨_,_,_,_,_,_,_,_,_,_,_⟩ := id g5; obtain ⟨_,_,_,_,_,_⟩ := id h7; obtain ⟨_,_,_,_,_,_⟩ := id a4; go_wp2; refine zj Tryz.results175 rfl (RB.five ?_) rfl ?_
      · exact g5
      refine Steps.ok (a := (T.mk 10 [] 0 (pos c.L i) ((T.mk Y Z m5 q5 F) :: a7))) l1 ⟨_,rfl,?_⟩ ?_ ?_ (by omega)
      · refine LR.wide (lo := R) (hi := w8.heap.size) (ts := ((T.mk Y Z m5 q5 F) :: a7)) ?_ (by omega) (by first | omega | (simp <;> omega))
        exact LR.p5 h8 (by omega)
      · exact zy G9 (by omega)
      · exact PS.p5 p9 HL.out (by omega)
end Go.Proofs.YtnmkffjklpfflaaGreatDoor
