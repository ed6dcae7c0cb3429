/- Assignments and calls. -/
import Derived.Test.YtnmkffjklpfflaaGreatDoorG30
namespace Go.Proofs.YtnmkffjklpfflaaGreatDoor
open Go.RowKit
set_option maxHeartbeats 4000000
set_option maxRecDepth 100000
theorem jp (c : PC) (w : World) (i d : Nat) (E : P T) (h : PS c w i d) (hE : ExprOK c d E) :
    Calls Tryz.prog 219 #[pq c.pb] w (Steps c w i d (fun w' t v => TR w' w.heap.size w'.heap.size t v) (vu c.L E i)) := by
  have HP := zc h; have R := zc h.low; have hb := h.lt; have g1 := h.good.few; clear h
  go_enter Tryz.func219,Tryz.ntmps219
  go_wp2_with fail; go_at_call 87; refine (zL c _ i d 15 (PS.alloc HP.out _)).mono ?_; rintro e U ⟨rfl,V⟩; have p1 : PS c U i d := PS.kept (PS.alloc HP.out _) V; have G1 : w.grownBy U (some c.pb) := za ga (zv V (some c.pb)); have s1 := V.size
  try simp at s1
  have a6 : RB U w.heap.size := RB.kept (RB.new' (by simp)) V (by simp); have d3 := a6.lt; obtain ⟨_,_,_,_,_,_,_,_,_,_,_⟩ := id a6; go_wp2_with fail; go_at_call 218; refine (vH c _ i d E (PS.alloc p1 _) hE).mono ?_; rintro e j (⟨x2,a7,c1,C⟩ | ⟨⟨G,H,I,J,n⟩,K,v2,a7,rfl,⟨g3,rfl,D⟩,C,p2,g4⟩)
  · obtain ⟨q,rfl,-⟩ := id c1; exact ⟨rfl,Steps.err (P.bind_err a7) c1 (zh G1 _) C⟩
  have c2 : vu c.L E i = _ := P.bind_ok a7; simp only [T.kind,T.name,T.num,T.at',T.subs] at D ⊢; obtain ⟨X,Y,rfl⟩ := D.form; obtain ⟨B,d4,D⟩ := D.nm
  try simp at d4
  have G2 : w.grownBy j (some c.pb) := za (zh G1 _) C; have s2 := C.size
  try simp at s2
  have a8 : RB j w.heap.size := RB.k (RB.alloc a6 _) C; have a9 : NB j U.heap.size (.int .i64 15) (.string ⟨#[]⟩) (.int .i64 0) (.int .i64 (pos c.L i)) (.slice none 0 0) := NB.k (NB.new' (by simp)) C; have d5 := a8.lt; have d6 := a9.lt; obtain ⟨_,_,_,_,_,_,_,_,_,_,_⟩ := id a8; obtain ⟨_,_,_,_,_,_⟩ := id a9; go_wp2_with fail; go_at_call 68; refine (xh c _ K d (PS.alloc (PS.alloc (PS.put p2 R.out (by omega) _ _) _) _)).mono ?_; rintro e w3 ⟨rfl,s⟩; have p3 : PS c w3 K d := PS.kept (PS.alloc (PS.alloc (PS.put p2 R.out (by omega) _ _) _) _) s; have G3 : w.grownBy w3 (some c.pb) := za (zh (zh (zs G2 (by omega) _ _) _) _) (zv s (some c.pb)); have s3 := s.size
  try simp at s3
  have M : RB w3 w.heap.size := RB.kept (RB.alloc (RB.alloc (RB.put a8 _ _ _) _) _) s (by simp); have Z : NB w3 U.heap.size (.int .i64 15) (.string ⟨#[]⟩) (.int .i64 0) (.int .i64 (pos c.L i)) (.slice (some ⟨j.heap.size + 1,0,none⟩) 1 1) := NB.kept (NB.alloc (NB.alloc (NB.s4 a9 _) _) _) s (by simp); have c3 : LR w3 (In B j.heap.size) n (.slice X n.length Y) := LR.grown (LR.alloc (LR.alloc (LR.put D (by omega) _ _) _) _) s; have b0 : LR w3 (In B (j.heap.size + 1 + 1)) ([(T.mk G H I J n)]) (.slice (some ⟨j.heap.size + 1,0,none⟩) 1 1) := LR.grown (LR.build1 _ (t := (T.mk G H I J n)) (sv := .slice X n.length Y) (LR.wide (lo := B) (hi := j.heap.size) (ts := n) (LR.alloc (LR.put D (by omega) _ _) _) (by omega) (by first | omega | (simp <;> omega))) (by simp) rfl (by omega)) s; have d7 := M.lt; have d8 := Z.lt; obtain ⟨_,_,_,_,_,_,_,_,_,_,_⟩ := id M; obtain ⟨_,_,_,_,_,_⟩ := id Z
  by_cases h1 : wd c.L K = jR
  · have d9 : (wd c.L K == [58,61]) = true := by rw [h1]; decide
    have a2 : vu c.L E i = _ := c2.trans (if_pos h1); go_wp2_with fail; go_at_call 139; refine (xB c _ K d p3 (by rw [h1]; decide)).mono ?_; rintro e w4 ⟨rfl,f,p4⟩; have G4 := za G3 f; have s4 := f.size
    try simp at s4
    have x := RB.k M f; have z := NB.k Z f; have c4 := LR.c c3 f; have a0 := LR.c b0 f; have b1 := x.lt; have b3 := z.lt; obtain ⟨_,_,_,_,_,_,_,_,_,_,_⟩ := id x; obtain ⟨_,_,_,_,_,_⟩ := id z; go_wp2_with fail
    go_region_law (first
      | (go_simp
         go_at_call 145; refine (hE.call _ (K + 1) (PS.drew (PS.put p4 R.out (by omega) _ _)) trivial).mono ?_; rintro e r (⟨x5,b6,c5,g⟩ | ⟨⟨k5,n5,m5,q5,l5⟩,j5,v5,b6,rfl,⟨g5,rfl,o⟩,g,p5,g6⟩)
         focus
           have HT := c5; obtain ⟨q,rfl,-⟩ := c5
           exact ⟨rfl,Steps.err (a2.trans (P.bind_err b6)) HT (zf (zs G4 (by omega) _ _)) g⟩
         have f0 : vu c.L E i = _ := a2.trans (P.bind_ok b6); simp only [T.kind,T.name,T.num,T.at',T.subs] at o ⊢; obtain ⟨N,O,rfl⟩ := o.form; obtain ⟨b5,f1,o⟩ := o.nm
         try simp at f1
         have G5 : w.grownBy r (some c.pb) := za (zf (zs G4 (by omega) _ _)) g; have s5 := g.size
         try simp at s5
         have A : RB r w.heap.size := RB.k (RB.drew (RB.put x _ _ _)) g; have F : NB r U.heap.size (.int .i64 14) (.string ⟨#[]⟩) (.int .i64 0) (.int .i64 (pos c.L i)) (.slice (some ⟨j.heap.size + 1,0,none⟩) 1 1) := NB.k (NB.drew (NB.s0 z _)) g; have g7 : LR r (In B j.heap.size) n (.slice X n.length Y) := LR.c (LR.drew (LR.put c4 (by omega) _ _)) g; have c6 : LR r (In B (j.heap.size + 1 + 1)) ([(T.mk G H I J n)]) (.slice (some ⟨j.heap.size + 1,0,none⟩) 1 1) := LR.c (LR.drew (LR.put a0 (by omega) _ _)) g; have b7 := A.lt; have b8 := F.lt; obtain ⟨_,_,_,_,_,_,_,_,_,_,_⟩ := id A
         obtain ⟨_,_,_,_,_,_⟩ := id F)
      | (have l := c6.rows
         refine vh (v := .slice (some ⟨j.heap.size + 1,0,none⟩) 1 1) rfl _ _ rfl (In B (r.heap.size + 2)) rfl rfl (LR.alloc c6 _) (LR.build1 r (cs := #[.int .i64 k5,.string ⟨n5.toArray⟩,.int .i64 m5,.int .i64 q5,.slice N l5.length O]) (t := (T.mk k5 n5 m5 q5 l5)) (sv := .slice N l5.length O) o rfl rfl (by omega))
           (fun k hk e => by have h1 := l k e; have h2 : b5 <= k := hk.1; omega) (fun k hk => ⟨hk.1,by have h : k < j.heap.size + 1 + 1 := hk.2; omega⟩) (fun k hk => ⟨by have h : b5 <= k := hk.1; omega,by have h : k < r.heap.size + 1 := hk.2; omega⟩) ⟨by simp; omega,by simp⟩ (by simp; try omega) ?_
         intro v6 w6 c7 Q; obtain ⟨c8,c9,e6⟩ := c7.form; have e6 : v6 = .slice c8 2 c9 := e6; subst e6; have s6 := Q.size
         try simp at s6
         have b9 : RB w6 w.heap.size := RB.kept (RB.alloc A _) Q (fun e => by have := l _ e.symm; omega); have d0 : NB w6 U.heap.size (.int .i64 14) (.string ⟨#[]⟩) (.int .i64 0) (.int .i64 (pos c.L i)) (.slice (some ⟨j.heap.size + 1,0,none⟩) 1 1) := NB.kept (NB.alloc F _) Q (fun e => by have := l _ e.symm; omega); have p6 : PS c w6 j5 d := PS.own (PS.alloc p5 _) R.out Q (fun b hb => by have := l b hb; omega); have G6 : w.grownBy w6 (some c.pb) := xi (zh G5 _) Q (fun b hb => by have := l b hb; omega); have f2 := b9.lt; have f3 := d0.lt; obtain ⟨_,_,_,_,_,_,_,_,_,_,_⟩ := id b9
         obtain ⟨_,_,_,_,_,_⟩ := id d0))
    all_goals
      have f4 : LR w6 (In B w6.heap.size) ([(T.mk G H I J n)] ++ [(T.mk k5 n5 m5 q5 l5)]) (.slice c8 2 c9) := c7.bounded.mono (fun k hk => ⟨hk.1.1,hk.2⟩); go_wp2; refine zn Tryz.results219 rfl (RB.five ?_) rfl ?_
      · exact RB.put b9 _ _ _
      refine Steps.ok (a := (T.mk 14 [] 0 (pos c.L i) [(T.mk G H I J n),(T.mk k5 n5 m5 q5 l5)])) f0 ⟨_,rfl,?_⟩ ?_ ?_ (by omega)
      · refine LR.wide (lo := B) (hi := w6.heap.size) (ts := ([(T.mk G H I J n)] ++ [(T.mk k5 n5 m5 q5 l5)])) ?_ (by omega) (by first | omega | (simp <;> omega))
        exact LR.p5 (LR.put f4 (by omega) _ _) (by omega)
      · exact zC (zs G6 (by omega) _ _) (by omega)
      · exact PS.p5 (PS.put p6 R.out (by omega) _ _) R.out (by omega)
  have d9 : (wd c.L K == [58,61]) = false := by simpa [jR] using h1
  have a3 : vu c.L E i = _ := c2.trans (if_neg h1)
  by_cases h2 : wd c.L K = xA
  · have f5 : (wd c.L K == [40]) = true := by rw [h2]; decide
    have a5 : vu c.L E i = _ := a3.trans (if_pos h2); go_wp2_with fail
    go_region_law (first
      | (go_simp
         go_at_call 225; refine (jr c _ K d E (PS.drew p3) hE).mono ?_; rintro e w4 (⟨x4,c0,d1,f⟩ | ⟨a4,j4,v4,c0,rfl,⟨a1,g2⟩,f,p4,g8⟩)
         focus
           have HT := d1; obtain ⟨q,rfl,-⟩ := d1
           exact ⟨rfl,Steps.err (a5.trans (P.bind_err c0)) HT (zf G3) f⟩
         have f6 : vu c.L E i = _ := a5.trans (P.bind_ok c0); obtain ⟨f7,f8,rfl⟩ := a1.form; obtain ⟨b4,f9,a1⟩ := a1.nm
         try simp at f9
         have G4 : w.grownBy w4 (some c.pb) := za (zf G3) f; have s4 := f.size
         try simp at s4
         have x : RB w4 w.heap.size := RB.k (RB.drew M) f; have z : NB w4 U.heap.size (.int .i64 15) (.string ⟨#[]⟩) (.int .i64 0) (.int .i64 (pos c.L i)) (.slice (some ⟨j.heap.size + 1,0,none⟩) 1 1) := NB.k (NB.drew Z) f; have c4 : LR w4 (In B j.heap.size) n (.slice X n.length Y) := LR.c (LR.drew c3) f; have a0 : LR w4 (In B (j.heap.size + 1 + 1)) ([(T.mk G H I J n)]) (.slice (some ⟨j.heap.size + 1,0,none⟩) 1 1) := LR.c (LR.drew b0) f; have b1 := x.lt; have b3 := z.lt; obtain ⟨_,_,_,_,_,_,_,_,_,_,_⟩ := id x
         obtain ⟨_,_,_,_,_,_⟩ := id z)
      | (have m := a0.rows
         refine xf (v := .slice (some ⟨j.heap.size + 1,0,none⟩) 1 1) (u := .slice f7 a4.length f8) rfl _ _ rfl (In B (w4.heap.size + 1)) rfl rfl a0 a1
           (fun k hk e => by have h1 := m k e; have h2 : b4 <= k := hk.1; omega) (fun k hk => ⟨hk.1,by have h : k < j.heap.size + 1 + 1 := hk.2; omega⟩) (fun k hk => ⟨by have h : b4 <= k := hk.1; omega,by have h : k < w4.heap.size := hk.2; omega⟩) ⟨by first | omega | (simp <;> omega),by first | omega | (simp <;> omega)⟩ (by simp; omega) ?_
         intro v5 r o g; obtain ⟨N,O,e5⟩ := o.form; rw [List.length_append,List.length_singleton] at e5; have e5 : v5 = .slice N (1 + a4.length) O := e5; subst e5; have s5 := g.size
         try simp at s5
         have A : RB r w.heap.size := RB.kept x g (fun e => by have := m _ e.symm; omega); have F : NB r U.heap.size (.int .i64 15) (.string ⟨#[]⟩) (.int .i64 0) (.int .i64 (pos c.L i)) (.slice (some ⟨j.heap.size + 1,0,none⟩) 1 1) := NB.kept z g (fun e => by have := m _ e.symm; omega); have p5 : PS c r j4 d := PS.own p4 R.out g (fun b hb => by have := m b hb; omega); have G5 : w.grownBy r (some c.pb) := xi G4 g (fun b hb => by have := m b hb; omega); have b7 := A.lt; have b8 := F.lt; obtain ⟨_,_,_,_,_,_,_,_,_,_,_⟩ := id A
         obtain ⟨_,_,_,_,_,_⟩ := id F))
    all_goals
      have g0 : LR r (In B r.heap.size) ([(T.mk G H I J n)] ++ a4) (.slice N (1 + a4.length) O) := o.bounded.mono (fun k hk => ⟨hk.1.1,hk.2⟩); go_wp2; refine zn Tryz.results219 rfl (RB.five ?_) rfl ?_
      · exact RB.put A _ _ _
      refine Steps.ok (a := (T.mk 15 [] 0 (pos c.L i) ((T.mk G H I J n) :: a4))) f6 ⟨_,rfl,?_⟩ ?_ ?_ (by omega)
      · refine LR.wide (lo := B) (hi := r.heap.size) (ts := ([(T.mk G H I J n)] ++ a4)) ?_ (by omega) (by first | omega | (simp <;> omega))
        exact LR.p5 (LR.put g0 (by omega) _ _) (by omega)
      · exact zC (zs G5 (by omega) _ _) (by omega)
      · exact PS.p5 (PS.put p5 R.out (by omega) _ _) R.out (by omega)
  have f5 : (wd c.L K == [40]) = false := by simpa [xA] using h2
  have d2 : vu c.L E i = _ := a3.trans (if_neg h2); go_wp2; refine zn Tryz.results219 rfl (RB.five ?_) rfl ?_
  · exact M
  refine Steps.ok (a := (T.mk 15 [] 0 (pos c.L i) [(T.mk G H I J n)])) d2 ⟨_,rfl,?_⟩ ?_ ?_ (by omega)
  · refine LR.wide (lo := B) (hi := j.heap.size + 1 + 1) (ts := [(T.mk G H I J n)]) ?_ (by omega) (by first | omega | (simp <;> omega))
    exact LR.p5 b0 (by omega)
  · exact zC G3 (by omega)
  · exact PS.p5 p3 R.out (by omega)
end Go.Proofs.YtnmkffjklpfflaaGreatDoor
