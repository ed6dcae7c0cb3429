/- Assignments and calls. -/
import Derived.Test.YtfjgelmllcnokaaGreatDoorG36
import Derived.Test.YtfjgelmllcnokaaGreatDoorG04
namespace Go.Proofs.YtfjgelmllcnokaaGreatDoor
open Go.RowKit
set_option maxHeartbeats 4000000
set_option maxRecDepth 100000
theorem qQ (c : PC) (w : World) (i d : Nat) (E : P T) (h : PS c w i d) (hE : ExprOK c d E) :
    Calls Tryz.prog 185 #[.pointer (some ⟨c.pb,0,none⟩)] w (Steps c w i d (fun w' t v => TR w' w.heap.size w'.heap.size t v) (jP c.L E i)) := by
  have HP := za h; have U := za h.low; have hb := h.lt; have g2 := h.good.few; clear h
  go_enter Tryz.func185,Tryz.ntmps185
  go_wp2_with fail; go_at_call 59; refine (yA c _ i d 15 (PS.alloc HP.out _)).mono ?_; rintro e V ⟨rfl,X⟩; have p1 : PS c V i d := PS.kept (PS.alloc HP.out _) X; have G1 : w.grownBy V (some c.pb) := zb ga (zJ X (some c.pb)); have s1 := X.size
  try simp at s1
  have a7 : RB V w.heap.size := RB.kept (RB.new' (by simp)) X (by simp); have d4 := a7.lt; obtain ⟨_,_,_,_,_,_,_,_,_,_,_⟩ := id a7; go_wp2_with fail; go_at_call 184; refine (jV c _ i d E (PS.alloc p1 _) hE).mono ?_; rintro e j (⟨x2,a8,c2,B⟩ | ⟨⟨F,H,I,J,n⟩,K,v2,a8,rfl,⟨g4,rfl,C⟩,B,p2,g5⟩)
  · obtain ⟨q,rfl,-⟩ := id c2; exact ⟨rfl,Steps.err (P.bind_err a8) c2 (zf G1 _) B⟩
  have c3 : jP c.L E i = _ := P.bind_ok a8; simp only [T.kind,T.name,T.num,T.at',T.subs] at C ⊢; obtain ⟨Y,Z,rfl⟩ := C.form; obtain ⟨A,d5,C⟩ := C.nm
  try simp at d5
  have G2 : w.grownBy j (some c.pb) := zb (zf G1 _) B; have s2 := B.size
  try simp at s2
  have a9 : RB j w.heap.size := RB.k (RB.alloc a7 _) B; have b0 : NB j V.heap.size (.int .i64 15) (.string ⟨#[]⟩) (.int .i64 0) (.int .i64 (pos c.L i)) (.slice none 0 0) := NB.k (NB.new' (by simp)) B; have d6 := a9.lt; have d7 := b0.lt; obtain ⟨_,_,_,_,_,_,_,_,_,_,_⟩ := id a9; obtain ⟨_,_,_,_,_,_⟩ := id b0; go_wp2_with fail; go_at_call 29; refine (ud c _ K d (PS.alloc (PS.alloc (PS.put p2 U.out (by omega) _ _) _) _)).mono ?_; rintro e w3 ⟨rfl,s⟩; have p3 : PS c w3 K d := PS.kept (PS.alloc (PS.alloc (PS.put p2 U.out (by omega) _ _) _) _) s; have G3 : w.grownBy w3 (some c.pb) := zb (zf (zf (zC G2 (by omega) _ _) _) _) (zJ s (some c.pb)); have s3 := s.size
  try simp at s3
  have M : RB w3 w.heap.size := RB.kept (RB.alloc (RB.alloc (RB.put a9 _ _ _) _) _) s (by simp); have a0 : NB w3 V.heap.size (.int .i64 15) (.string ⟨#[]⟩) (.int .i64 0) (.int .i64 (pos c.L i)) (.slice (some ⟨j.heap.size + 1,0,none⟩) 1 1) := NB.kept (NB.alloc (NB.alloc (NB.s4 b0 _) _) _) s (by simp); have c4 : LR w3 (In A j.heap.size) n (.slice Y n.length Z) := LR.grown (LR.alloc (LR.alloc (LR.put C (by omega) _ _) _) _) s; have b1 : LR w3 (In A (j.heap.size + 1 + 1)) ([(T.mk F H I J n)]) (.slice (some ⟨j.heap.size + 1,0,none⟩) 1 1) := LR.grown (LR.build1 _ (t := (T.mk F H I J n)) (sv := .slice Y n.length Z) (LR.wide (lo := A) (hi := j.heap.size) (ts := n) (LR.alloc (LR.put C (by omega) _ _) _) (by omega) (by first | omega | (simp <;> omega))) (by simp) rfl (by omega)) s; have d8 := M.lt; have d9 := a0.lt; obtain ⟨_,_,_,_,_,_,_,_,_,_,_⟩ := id M; obtain ⟨_,_,_,_,_,_⟩ := id a0
  by_cases h1 : wd c.L K = xG
  · have f0 : (wd c.L K == [58,61]) = true := by rw [h1]; decide
    have a3 : jP c.L E i = _ := c3.trans (if_pos h1); go_wp2_with fail; go_at_call 115; refine (uK c _ K d p3 (by rw [h1]; decide)).mono ?_; rintro e w4 ⟨rfl,f,p4⟩; have G4 := zb G3 f; have s4 := f.size
    try simp at s4
    have x := RB.k M f; have y := NB.k a0 f; have c5 := LR.c c4 f; have a1 := LR.c b1 f; have b3 := x.lt; have b6 := y.lt; obtain ⟨_,_,_,_,_,_,_,_,_,_,_⟩ := id x; obtain ⟨_,_,_,_,_,_⟩ := id y; go_wp2_with fail
    go_region_law (first
      | (go_simp
         go_at_call 121; refine (hE.call _ (K + 1) (PS.drew (PS.put p4 U.out (by omega) _ _)) trivial).mono ?_; rintro e r (⟨x5,b7,c6,g⟩ | ⟨⟨k5,n5,m5,q5,l5⟩,j5,v5,b7,rfl,⟨g6,rfl,o⟩,g,p5,g7⟩)
         focus
           have HT := c6; obtain ⟨q,rfl,-⟩ := c6
           exact ⟨rfl,Steps.err (a3.trans (P.bind_err b7)) HT (zj (zC G4 (by omega) _ _)) g⟩
         have f1 : jP c.L E i = _ := a3.trans (P.bind_ok b7); simp only [T.kind,T.name,T.num,T.at',T.subs] at o ⊢; obtain ⟨N,O,rfl⟩ := o.form; obtain ⟨b5,f2,o⟩ := o.nm
         try simp at f2
         have G5 : w.grownBy r (some c.pb) := zb (zj (zC G4 (by omega) _ _)) g; have s5 := g.size
         try simp at s5
         have z : RB r w.heap.size := RB.k (RB.drew (RB.put x _ _ _)) g; have D : NB r V.heap.size (.int .i64 14) (.string ⟨#[]⟩) (.int .i64 0) (.int .i64 (pos c.L i)) (.slice (some ⟨j.heap.size + 1,0,none⟩) 1 1) := NB.k (NB.drew (NB.s0 y _)) g; have g8 : LR r (In A j.heap.size) n (.slice Y n.length Z) := LR.c (LR.drew (LR.put c5 (by omega) _ _)) g; have c7 : LR r (In A (j.heap.size + 1 + 1)) ([(T.mk F H I J n)]) (.slice (some ⟨j.heap.size + 1,0,none⟩) 1 1) := LR.c (LR.drew (LR.put a1 (by omega) _ _)) g; have b8 := z.lt; have b9 := D.lt; obtain ⟨_,_,_,_,_,_,_,_,_,_,_⟩ := id z
         obtain ⟨_,_,_,_,_,_⟩ := id D)
      | (have l := c7.rows
         refine jF (v := .slice (some ⟨j.heap.size + 1,0,none⟩) 1 1) rfl _ _ rfl (In A (r.heap.size + 2)) rfl rfl (LR.alloc c7 _) (LR.build1 r (cs := #[.int .i64 k5,.string ⟨n5.toArray⟩,.int .i64 m5,.int .i64 q5,.slice N l5.length O]) (t := (T.mk k5 n5 m5 q5 l5)) (sv := .slice N l5.length O) o rfl rfl (by omega))
           (fun k hk e => by have h1 := l k e; have h2 : b5 <= k := hk.1; omega) (fun k hk => ⟨hk.1,by have h : k < j.heap.size + 1 + 1 := hk.2; omega⟩) (fun k hk => ⟨by have h : b5 <= k := hk.1; omega,by have h : k < r.heap.size + 1 := hk.2; omega⟩) ⟨by simp; omega,by simp⟩ (by simp; try omega) ?_
         intro v6 w6 c8 R; obtain ⟨c9,d0,e6⟩ := c8.form; have e6 : v6 = .slice c9 2 d0 := e6; subst e6; have s6 := R.size
         try simp at s6
         have c0 : RB w6 w.heap.size := RB.kept (RB.alloc z _) R (fun e => by have := l _ e.symm; omega); have d1 : NB w6 V.heap.size (.int .i64 14) (.string ⟨#[]⟩) (.int .i64 0) (.int .i64 (pos c.L i)) (.slice (some ⟨j.heap.size + 1,0,none⟩) 1 1) := NB.kept (NB.alloc D _) R (fun e => by have := l _ e.symm; omega); have p6 : PS c w6 j5 d := PS.own (PS.alloc p5 _) U.out R (fun b hb => by have := l b hb; omega); have G6 : w.grownBy w6 (some c.pb) := vY (zf G5 _) R (fun b hb => by have := l b hb; omega); have f3 := c0.lt; have f4 := d1.lt; obtain ⟨_,_,_,_,_,_,_,_,_,_,_⟩ := id c0
         obtain ⟨_,_,_,_,_,_⟩ := id d1))
    all_goals
      have f5 : LR w6 (In A w6.heap.size) ([(T.mk F H I J n)] ++ [(T.mk k5 n5 m5 q5 l5)]) (.slice c9 2 d0) := c8.bounded.mono (fun k hk => ⟨hk.1.1,hk.2⟩); go_wp2; refine zn Tryz.results185 rfl (RB.five ?_) rfl ?_
      · exact RB.put c0 _ _ _
      refine Steps.ok (a := (T.mk 14 [] 0 (pos c.L i) [(T.mk F H I J n),(T.mk k5 n5 m5 q5 l5)])) f1 ⟨_,rfl,?_⟩ ?_ ?_ (by omega)
      · refine LR.wide (lo := A) (hi := w6.heap.size) (ts := ([(T.mk F H I J n)] ++ [(T.mk k5 n5 m5 q5 l5)])) ?_ (by omega) (by first | omega | (simp <;> omega))
        exact LR.p5 (LR.put f5 (by omega) _ _) (by omega)
      · exact zS (zC G6 (by omega) _ _) (by omega)
      · exact PS.p5 (PS.put p6 U.out (by omega) _ _) U.out (by omega)
  have f0 : (wd c.L K == [58,61]) = false := by simpa [xG] using h1
  have a5 : jP c.L E i = _ := c3.trans (if_neg h1)
  by_cases h2 : wd c.L K = yw
  · have f6 : (wd c.L K == [40]) = true := by rw [h2]; decide
    have a6 : jP c.L E i = _ := a5.trans (if_pos h2); go_wp2_with fail
    go_region_law (first
      | (go_simp
         go_at_call 196; refine (gh c _ K d E (PS.drew p3) hE).mono ?_; rintro e w4 (⟨x4,c1,d2,f⟩ | ⟨a4,j4,v4,c1,rfl,⟨a2,g3⟩,f,p4,g9⟩)
         focus
           have HT := d2; obtain ⟨q,rfl,-⟩ := d2
           exact ⟨rfl,Steps.err (a6.trans (P.bind_err c1)) HT (zj G3) f⟩
         have f7 : jP c.L E i = _ := a6.trans (P.bind_ok c1); obtain ⟨f8,f9,rfl⟩ := a2.form; obtain ⟨b4,g0,a2⟩ := a2.nm
         try simp at g0
         have G4 : w.grownBy w4 (some c.pb) := zb (zj G3) f; have s4 := f.size
         try simp at s4
         have x : RB w4 w.heap.size := RB.k (RB.drew M) f; have y : NB w4 V.heap.size (.int .i64 15) (.string ⟨#[]⟩) (.int .i64 0) (.int .i64 (pos c.L i)) (.slice (some ⟨j.heap.size + 1,0,none⟩) 1 1) := NB.k (NB.drew a0) f; have c5 : LR w4 (In A j.heap.size) n (.slice Y n.length Z) := LR.c (LR.drew c4) f; have a1 : LR w4 (In A (j.heap.size + 1 + 1)) ([(T.mk F H I J n)]) (.slice (some ⟨j.heap.size + 1,0,none⟩) 1 1) := LR.c (LR.drew b1) f; have b3 := x.lt; have b6 := y.lt; obtain ⟨_,_,_,_,_,_,_,_,_,_,_⟩ := id x
         obtain ⟨_,_,_,_,_,_⟩ := id y)
      | (have m := a1.rows
         refine vR (v := .slice (some ⟨j.heap.size + 1,0,none⟩) 1 1) (u := .slice f8 a4.length f9) rfl _ _ rfl (In A (w4.heap.size + 1)) rfl rfl a1 a2
           (fun k hk e => by have h1 := m k e; have h2 : b4 <= k := hk.1; omega) (fun k hk => ⟨hk.1,by have h : k < j.heap.size + 1 + 1 := hk.2; omega⟩) (fun k hk => ⟨by have h : b4 <= k := hk.1; omega,by have h : k < w4.heap.size := hk.2; omega⟩) ⟨by first | omega | (simp <;> omega),by first | omega | (simp <;> omega)⟩ (by simp; omega) ?_
         intro v5 r o g; obtain ⟨N,O,e5⟩ := o.form; rw [List.length_append,List.length_singleton] at e5; have e5 : v5 = .slice N (1 + a4.length) O := e5; subst e5; have s5 := g.size
         try simp at s5
         have z : RB r w.heap.size := RB.kept x g (fun e => by have := m _ e.symm; omega); have D : NB r V.heap.size (.int .i64 15) (.string ⟨#[]⟩) (.int .i64 0) (.int .i64 (pos c.L i)) (.slice (some ⟨j.heap.size + 1,0,none⟩) 1 1) := NB.kept y g (fun e => by have := m _ e.symm; omega); have p5 : PS c r j4 d := PS.own p4 U.out g (fun b hb => by have := m b hb; omega); have G5 : w.grownBy r (some c.pb) := vY G4 g (fun b hb => by have := m b hb; omega); have b8 := z.lt; have b9 := D.lt; obtain ⟨_,_,_,_,_,_,_,_,_,_,_⟩ := id z
         obtain ⟨_,_,_,_,_,_⟩ := id D))
    all_goals
      have g1 : LR r (In A r.heap.size) ([(T.mk F H I J n)] ++ a4) (.slice N (1 + a4.length) O) := o.bounded.mono (fun k hk => ⟨hk.1.1,hk.2⟩); go_wp2; refine zn Tryz.results185 rfl (RB.five ?_) rfl ?_
      · exact RB.put z _ _ _
      refine Steps.ok (a := (T.mk 15 [] 0 (pos c.L i) ((T.mk F H I J n) :: a4))) f7 ⟨_,rfl,?_⟩ ?_ ?_ (by omega)
      · refine LR.wide (lo := A) (hi := r.heap.size) (ts := ([(T.mk F H I J n)] ++ a4)) ?_ (by omega) (by first | omega | (simp <;> omega))
        exact LR.p5 (LR.put g1 (by omega) _ _) (by omega)
      · exact zS (zC G5 (by omega) _ _) (by omega)
      · exact PS.p5 (PS.put p5 U.out (by omega) _ _) U.out (by omega)
  have f6 : (wd c.L K == [40]) = false := by simpa [yw] using h2
  have d3 : jP c.L E i = _ := a5.trans (if_neg h2); go_wp2; refine zn Tryz.results185 rfl (RB.five ?_) rfl ?_
  · exact M
  refine Steps.ok (a := (T.mk 15 [] 0 (pos c.L i) [(T.mk F H I J n)])) d3 ⟨_,rfl,?_⟩ ?_ ?_ (by omega)
  · refine LR.wide (lo := A) (hi := j.heap.size + 1 + 1) (ts := [(T.mk F H I J n)]) ?_ (by omega) (by first | omega | (simp <;> omega))
    exact LR.p5 b1 (by omega)
  · exact zS G3 (by omega)
  · exact PS.p5 p3 U.out (by omega)
end Go.Proofs.YtfjgelmllcnokaaGreatDoor
