/- Assignments and calls. -/
import Derived.Test.YtnmkffjklpfflaaGreatDoorG28
namespace Go.Proofs.YtnmkffjklpfflaaGreatDoor
open Go.RowKit
set_option maxHeartbeats 4000000
set_option maxRecDepth 100000
theorem uL (c : PC) (w : World) (i d : Nat) (E : P T) (h : PS c w i d) (hE : ExprOK c d E) :
    Calls Tryz.prog 219 #[.pointer (some ⟨c.pb,0,none⟩)] w (Steps c w i d (fun w' t v => TR w' w.heap.size w'.heap.size t v) (xX c.L E i)) := by
  have HP := ze h; have X := ze h.low; have hb := h.lt; have g2 := h.good.few; clear h
  go_enter Tryz.func219,Tryz.ntmps219
  go_wp2_with fail; go_at_call 87; refine (zI c _ i d 15 (PS.alloc HP.out _)).mono ?_; rintro e Y ⟨rfl,Z⟩; have p1 : PS c Y i d := PS.kept (PS.alloc HP.out _) Z; have G1 : w.grownBy Y (some c.pb) := za (zf (zc w (some c.pb)) _) (zv Z (some c.pb)); have s1 := Z.size
  try simp at s1
  have a7 : RB Y w.heap.size := RB.kept (RB.new' (by simp)) Z (by simp); have d6 := a7.lt; obtain ⟨_,_,_,_,_,_,_,_,_,_,_⟩ := id a7; go_wp2_with fail; go_at_call 218; refine (vf c _ i d E (PS.alloc p1 _) hE).mono ?_; rintro e g (⟨x2,a8,c2,D⟩ | ⟨⟨F,G,H,I,l⟩,R,v2,a8,rfl,⟨g4,rfl,J⟩,D,p2,g5⟩)
  · obtain ⟨q,rfl,-⟩ := id c2; exact ⟨rfl,Steps.err (P.bind_err a8) c2 (zf G1 _) D⟩
  have c3 : xX c.L E i = _ := P.bind_ok a8; simp only [T.kind,T.name,T.num,T.at',T.subs] at J ⊢; obtain ⟨K,M,rfl⟩ := J.form; obtain ⟨s,d7,J⟩ : ∃ b,b = _ /\ LR g (In b g.heap.size) l (.slice K l.length M) := ⟨_,rfl,J⟩
  try simp at d7
  have G2 : w.grownBy g (some c.pb) := za (zf G1 _) D; have s2 := D.size
  try simp at s2
  have a9 : RB g w.heap.size := RB.keep (RB.alloc a7 _) D (by omega); have b0 : NB g Y.heap.size (.int .i64 15) (.string ⟨#[]⟩) (.int .i64 0) (.int .i64 (pos c.L i)) (.slice none 0 0) := NB.keep (NB.new' (by simp)) D (by omega); have d8 := a9.lt; have d9 := b0.lt; obtain ⟨_,_,_,_,_,_,_,_,_,_,_⟩ := id a9; obtain ⟨_,_,_,_,_,_⟩ := id b0; go_wp2_with fail; go_at_call 68; refine (yR c _ R d (PS.alloc (PS.alloc (PS.put p2 X.out (by omega) _ _) _) _)).mono ?_; rintro e w3 ⟨rfl,x⟩; have p3 : PS c w3 R d := PS.kept (PS.alloc (PS.alloc (PS.put p2 X.out (by omega) _ _) _) _) x; have G3 : w.grownBy w3 (some c.pb) := za (zf (zf (zq G2 (by omega) _ _) _) _) (zv x (some c.pb)); have s3 := x.size
  try simp at s3
  have U : RB w3 w.heap.size := RB.kept (RB.alloc (RB.alloc (RB.put a9 _ _ _) _) _) x (by simp); have a0 : NB w3 Y.heap.size (.int .i64 15) (.string ⟨#[]⟩) (.int .i64 0) (.int .i64 (pos c.L i)) (.slice (some ⟨g.heap.size + 1,0,none⟩) 1 1) := NB.kept (NB.alloc (NB.alloc (NB.s4 b0 _) _) _) x (by simp); have c4 : LR w3 (In s g.heap.size) l (.slice K l.length M) := LR.grown (LR.alloc (LR.alloc (LR.put J (by omega) _ _) _) _) x; have b1 : LR w3 (In s (g.heap.size + 1 + 1)) ([(T.mk F G H I l)]) (.slice (some ⟨g.heap.size + 1,0,none⟩) 1 1) := LR.grown (LR.build1 _ (t := (T.mk F G H I l)) (sv := .slice K l.length M) (LR.wide (lo := s) (hi := g.heap.size) (ts := l) (LR.alloc (LR.put J (by omega) _ _) _) (by omega) (by first | omega | (simp <;> omega))) (by simp) rfl (by omega)) x; have f0 := U.lt; have f1 := a0.lt; obtain ⟨_,_,_,_,_,_,_,_,_,_,_⟩ := id U; obtain ⟨_,_,_,_,_,_⟩ := id a0
  by_cases h1 : wd c.L R = kJ
  · have f2 : (wd c.L R == [58,61]) = true := by rw [h1]; decide
    have a3 : xX c.L E i = _ := c3.trans (if_pos h1); go_wp2_with fail; go_at_call 139; refine (xg c _ R d p3 (by rw [h1]; decide)).mono ?_; rintro e z ⟨rfl,f,p4⟩; have G4 : w.grownBy z (some c.pb) := za G3 f; have s4 := f.size
    try simp at s4
    have A : RB z w.heap.size := RB.keep U f (by omega); have B : NB z Y.heap.size (.int .i64 15) (.string ⟨#[]⟩) (.int .i64 0) (.int .i64 (pos c.L i)) (.slice (some ⟨g.heap.size + 1,0,none⟩) 1 1) := NB.keep a0 f (by omega); have c5 : LR z (In s g.heap.size) l (.slice K l.length M) := LR.call c4 f (by omega); have a1 : LR z (In s (g.heap.size + 1 + 1)) ([(T.mk F G H I l)]) (.slice (some ⟨g.heap.size + 1,0,none⟩) 1 1) := LR.call b1 f (by omega); have b3 := A.lt; have b6 := B.lt; obtain ⟨_,_,_,_,_,_,_,_,_,_,_⟩ := id A; obtain ⟨_,_,_,_,_,_⟩ := id B; go_wp2_with fail
    go_region_law (first
      | (go_simp
         go_at_call 145; refine (hE.call _ (R + 1) (PS.drew (PS.put p4 X.out (by omega) _ _)) trivial).mono ?_; rintro e o (⟨x5,b7,c6,j⟩ | ⟨⟨k5,n5,m5,q5,l5⟩,j5,v5,b7,rfl,⟨g6,rfl,r⟩,j,p5,g7⟩)
         focus
           have HT := c6; obtain ⟨q,rfl,-⟩ := c6
           exact ⟨rfl,Steps.err (a3.trans (P.bind_err b7)) HT (zh (zq G4 (by omega) _ _)) j⟩
         have f3 : xX c.L E i = _ := a3.trans (P.bind_ok b7); simp only [T.kind,T.name,T.num,T.at',T.subs] at r ⊢; obtain ⟨N,O,rfl⟩ := r.form; obtain ⟨b5,f4,r⟩ : ∃ b,b = _ /\ LR o (In b o.heap.size) l5 (.slice N l5.length O) := ⟨_,rfl,r⟩
         try simp at f4
         have G5 : w.grownBy o (some c.pb) := za (zh (zq G4 (by omega) _ _)) j; have s5 := j.size
         try simp at s5
         have C : RB o w.heap.size := RB.keep (RB.drew (RB.put A _ _ _)) j (by omega); have Q : NB o Y.heap.size (.int .i64 14) (.string ⟨#[]⟩) (.int .i64 0) (.int .i64 (pos c.L i)) (.slice (some ⟨g.heap.size + 1,0,none⟩) 1 1) := NB.keep (NB.drew (NB.s0 B _)) j (by omega); have g8 : LR o (In s g.heap.size) l (.slice K l.length M) := LR.call (LR.drew (LR.put c5 (by omega) _ _)) j (by omega); have c7 : LR o (In s (g.heap.size + 1 + 1)) ([(T.mk F G H I l)]) (.slice (some ⟨g.heap.size + 1,0,none⟩) 1 1) := LR.call (LR.drew (LR.put a1 (by omega) _ _)) j (by omega); have b8 := C.lt; have b9 := Q.lt; obtain ⟨_,_,_,_,_,_,_,_,_,_,_⟩ := id C
         obtain ⟨_,_,_,_,_,_⟩ := id Q)
      | (have m := c7.rows
         refine xL (v := .slice (some ⟨g.heap.size + 1,0,none⟩) 1 1) rfl _ _ rfl (In s (o.heap.size + 2)) rfl rfl (LR.alloc c7 _) (LR.build1 o (cs := #[.int .i64 k5,.string ⟨n5.toArray⟩,.int .i64 m5,.int .i64 q5,.slice N l5.length O]) (t := (T.mk k5 n5 m5 q5 l5)) (sv := .slice N l5.length O) r rfl rfl (by omega))
           (fun k hk e => by have h1 := m k e; have h2 : b5 <= k := hk.1; omega) (fun k hk => ⟨hk.1,by have h : k < g.heap.size + 1 + 1 := hk.2; omega⟩) (fun k hk => ⟨by have h : b5 <= k := hk.1; omega,by have h : k < o.heap.size + 1 := hk.2; omega⟩) ⟨by simp; omega,by simp⟩ (by simp; try omega) ?_
         intro v6 w6 c8 V; obtain ⟨c9,d0,e6⟩ := c8.form; have e6 : v6 = .slice c9 2 d0 := e6; subst e6; have s6 := V.size
         try simp at s6
         have c0 : RB w6 w.heap.size := RB.kept (RB.alloc C _) V (fun e => by have := m _ e.symm; omega); have d1 : NB w6 Y.heap.size (.int .i64 14) (.string ⟨#[]⟩) (.int .i64 0) (.int .i64 (pos c.L i)) (.slice (some ⟨g.heap.size + 1,0,none⟩) 1 1) := NB.kept (NB.alloc Q _) V (fun e => by have := m _ e.symm; omega); have p6 : PS c w6 j5 d := PS.own (PS.alloc p5 _) X.out V (fun b hb => by have := m b hb; omega); have G6 : w.grownBy w6 (some c.pb) := yX (zf G5 _) V (fun b hb => by have := m b hb; omega); have f5 := c0.lt; have f6 := d1.lt; obtain ⟨_,_,_,_,_,_,_,_,_,_,_⟩ := id c0
         obtain ⟨_,_,_,_,_,_⟩ := id d1))
    all_goals
      have f7 : LR w6 (In s w6.heap.size) ([(T.mk F G H I l)] ++ [(T.mk k5 n5 m5 q5 l5)]) (.slice c9 2 d0) := c8.bounded.mono (fun k hk => ⟨hk.1.1,hk.2⟩); go_wp2; refine zj Tryz.results219 rfl (RB.five ?_) rfl ?_
      · exact RB.put c0 _ _ _
      refine Steps.ok (a := (T.mk 14 [] 0 (pos c.L i) [(T.mk F G H I l),(T.mk k5 n5 m5 q5 l5)])) f3 ⟨_,rfl,?_⟩ ?_ ?_ (by omega)
      · refine LR.wide (lo := s) (hi := w6.heap.size) (ts := ([(T.mk F G H I l)] ++ [(T.mk k5 n5 m5 q5 l5)])) ?_ (by omega) (by first | omega | (simp <;> omega))
        exact LR.p5 (LR.put f7 (by omega) _ _) (by omega)
      · exact zy (zq G6 (by omega) _ _) (by omega)
      · exact PS.p5 (PS.put p6 X.out (by omega) _ _) X.out (by omega)
  have f2 : (wd c.L R == [58,61]) = false := by simpa [kJ] using h1
  have a5 : xX c.L E i = _ := c3.trans (if_neg h1)
  by_cases h2 : wd c.L R = xy
  · have f8 : (wd c.L R == [40]) = true := by rw [h2]; decide
    have a6 : xX c.L E i = _ := a5.trans (if_pos h2); go_wp2_with fail
    go_region_law (first
      | (go_simp
         go_at_call 225; refine (uN c _ R d E (PS.drew p3) hE).mono ?_; rintro e z (⟨x4,c1,d2,f⟩ | ⟨a4,j4,v4,c1,rfl,⟨a2,g3⟩,f,p4,g9⟩)
         focus
           have HT := d2; obtain ⟨q,rfl,-⟩ := d2
           exact ⟨rfl,Steps.err (a6.trans (P.bind_err c1)) HT (zh G3) f⟩
         have f9 : xX c.L E i = _ := a6.trans (P.bind_ok c1); obtain ⟨d3,d4,rfl⟩ := a2.form; obtain ⟨b4,g0,a2⟩ : ∃ b,b = _ /\ LR z (In b z.heap.size) a4 (.slice d3 a4.length d4) := ⟨_,rfl,a2⟩
         try simp at g0
         have G4 : w.grownBy z (some c.pb) := za (zh G3) f; have s4 := f.size
         try simp at s4
         have A : RB z w.heap.size := RB.keep (RB.drew U) f (by omega); have B : NB z Y.heap.size (.int .i64 15) (.string ⟨#[]⟩) (.int .i64 0) (.int .i64 (pos c.L i)) (.slice (some ⟨g.heap.size + 1,0,none⟩) 1 1) := NB.keep (NB.drew a0) f (by omega); have c5 : LR z (In s g.heap.size) l (.slice K l.length M) := LR.call (LR.drew c4) f (by omega); have a1 : LR z (In s (g.heap.size + 1 + 1)) ([(T.mk F G H I l)]) (.slice (some ⟨g.heap.size + 1,0,none⟩) 1 1) := LR.call (LR.drew b1) f (by omega); have b3 := A.lt; have b6 := B.lt; obtain ⟨_,_,_,_,_,_,_,_,_,_,_⟩ := id A
         obtain ⟨_,_,_,_,_,_⟩ := id B)
      | (have n := a1.rows
         refine yQ (v := .slice (some ⟨g.heap.size + 1,0,none⟩) 1 1) (u := .slice d3 a4.length d4) rfl _ _ rfl (In s (z.heap.size + 1)) rfl rfl a1 a2
           (fun k hk e => by have h1 := n k e; have h2 : b4 <= k := hk.1; omega) (fun k hk => ⟨hk.1,by have h : k < g.heap.size + 1 + 1 := hk.2; omega⟩) (fun k hk => ⟨by have h : b4 <= k := hk.1; omega,by have h : k < z.heap.size := hk.2; omega⟩) ⟨by first | omega | (simp <;> omega),by first | omega | (simp <;> omega)⟩ (by simp; omega) ?_
         intro v5 o r j; obtain ⟨N,O,e5⟩ := r.form; rw [List.length_append,List.length_singleton] at e5; have e5 : v5 = .slice N (1 + a4.length) O := e5; subst e5; have s5 := j.size
         try simp at s5
         have C : RB o w.heap.size := RB.kept A j (fun e => by have := n _ e.symm; omega); have Q : NB o Y.heap.size (.int .i64 15) (.string ⟨#[]⟩) (.int .i64 0) (.int .i64 (pos c.L i)) (.slice (some ⟨g.heap.size + 1,0,none⟩) 1 1) := NB.kept B j (fun e => by have := n _ e.symm; omega); have p5 : PS c o j4 d := PS.own p4 X.out j (fun b hb => by have := n b hb; omega); have G5 : w.grownBy o (some c.pb) := yX G4 j (fun b hb => by have := n b hb; omega); have b8 := C.lt; have b9 := Q.lt; obtain ⟨_,_,_,_,_,_,_,_,_,_,_⟩ := id C
         obtain ⟨_,_,_,_,_,_⟩ := id Q))
    all_goals
      have g1 : LR o (In s o.heap.size) ([(T.mk F G H I l)] ++ a4) (.slice N (1 + a4.length) O) := r.bounded.mono (fun k hk => ⟨hk.1.1,hk.2⟩); go_wp2; refine zj Tryz.results219 rfl (RB.five ?_) rfl ?_
      · exact RB.put C _ _ _
      refine Steps.ok (a := (T.mk 15 [] 0 (pos c.L i) ((T.mk F G H I l) :: a4))) f9 ⟨_,rfl,?_⟩ ?_ ?_ (by omega)
      · refine LR.wide (lo := s) (hi := o.heap.size) (ts := ([(T.mk F G H I l)] ++ a4)) ?_ (by omega) (by first | omega | (simp <;> omega))
        exact LR.p5 (LR.put g1 (by omega) _ _) (by omega)
      · exact zy (zq G5 (by omega) _ _) (by omega)
      · exact PS.p5 (PS.put p5 X.out (by omega) _ _) X.out (by omega)
  have f8 : (wd c.L R == [40]) = false := by simpa [xy] using h2
  have d5 : xX c.L E i = _ := a5.trans (if_neg h2); go_wp2; refine zj Tryz.results219 rfl (RB.five ?_) rfl ?_
  · exact U
  refine Steps.ok (a := (T.mk 15 [] 0 (pos c.L i) [(T.mk F G H I l)])) d5 ⟨_,rfl,?_⟩ ?_ ?_ (by omega)
  · refine LR.wide (lo := s) (hi := g.heap.size + 1 + 1) (ts := [(T.mk F G H I l)]) ?_ (by omega) (by first | omega | (simp <;> omega))
    exact LR.p5 b1 (by omega)
  · exact zy G3 (by omega)
  · exact PS.p5 p3 X.out (by omega)
end Go.Proofs.YtnmkffjklpfflaaGreatDoor
