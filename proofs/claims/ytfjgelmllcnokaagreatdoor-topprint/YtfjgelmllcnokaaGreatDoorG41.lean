/- Declarations. -/
import Derived.Test.YtfjgelmllcnokaaGreatDoorG10
import Derived.Test.YtfjgelmllcnokaaGreatDoorG04
namespace Go.Proofs.YtfjgelmllcnokaaGreatDoor
open Go.RowKit
set_option maxHeartbeats 400000
set_option maxRecDepth 100000
theorem pj (c : PC) (w : World) (i d : Nat) (h : PS c w i d) :
  Calls Tryz.prog 66 #[.pointer (some ⟨c.pb,0,none⟩)] w (Steps c w i d (fun w' t v => TR w' w.heap.size w'.heap.size t v) (kg c.L i)) := by
 have J := za h; have K := za h.low; have hb := h.lt; clear h
 go_enter Tryz.func66,Tryz.ntmps66
 go_wp2_with fail; go_at_call 120; refine (jS c _ i d 6 (PS.alloc J.out _)).mono ?_; rintro e x (⟨x1,l,r,g⟩ | ⟨⟨M,N,O,R,y⟩,U,v1,l,rfl,⟨V,rfl,b⟩,g,X,Y⟩)
 ·obtain ⟨q,rfl,-⟩ := id r; exact ⟨rfl,Steps.err (P.bind_err l) r ga g⟩
 have s : kg c.L i = _ := P.bind_ok l; simp only [T.kind,T.name,T.num,T.at',T.subs] at b ⊢; obtain ⟨z,A,rfl⟩ := b.form; obtain ⟨H,B,b⟩ := b.nm
 try simp at B
 have I := zb ga g; have Z := g.size
 try simp at Z
 have m : RB x w.heap.size := RB.k (RB.new' (by simp)) g; have C := m.lt; obtain ⟨_,_,_,_,_,_,_,_,_,_,_⟩ := id m; go_wp2_with fail; go_at_call 123; refine (kl c _ U d (T.mk M N O R y) H x.heap.size _ X ⟨_,rfl,(show LR _ (In H x.heap.size) y (.slice z y.length A) from b)⟩).mono ?_; rintro e w2 (⟨x2,n,u,f⟩ | ⟨⟨k2,n2,m2,q2,l2⟩,j2,v2,n,rfl,⟨a0,rfl,j⟩,f,p2,a1⟩)
 ·obtain ⟨q,rfl,-⟩ := id u; exact ⟨rfl,Steps.err (s.trans n) u I f⟩
 have D := s.trans n; simp only [T.kind,T.name,T.num,T.at',T.subs] at j ⊢; obtain ⟨a2,a3,rfl⟩ := j.form; obtain ⟨b2,E,j⟩ := j.nm
 try simp at E
 have G2 := zb I f; have s2 := f.size
 try simp at s2
 have o := RB.k m f; have a4 := LR.c b f; have F := o.lt; obtain ⟨_,_,_,_,_,_,_,_,_,_,_⟩ := id o; go_wp2; refine zn Tryz.results66 rfl (RB.five ?_) rfl ?_
 ·exact o
 refine Steps.ok (a := (T.mk k2 n2 m2 q2 l2)) D ⟨_,rfl,?_⟩ ?_ ?_ (by omega)
 ·exact (LR.p5 j (by omega)).wd
 ·exact zS G2 (by omega)
 ·exact PS.p5 p2 K.out (by omega)
theorem sg (c : PC) (w : World) (i d : Nat) (h : PS c w i d) :
  Calls Tryz.prog 166 #[.pointer (some ⟨c.pb,0,none⟩)] w (Steps c w i d (fun w' t v => TR w' w.heap.size w'.heap.size t v) (du c.L i)) := by
 have J := za h; have K := za h.low; have hb := h.lt; clear h
 go_enter Tryz.func166,Tryz.ntmps166
 go_wp2_with fail; go_at_call 120; refine (jS c _ i d 11 (PS.alloc J.out _)).mono ?_; rintro e x (⟨x1,l,r,g⟩ | ⟨⟨M,N,O,R,y⟩,U,v1,l,rfl,⟨V,rfl,b⟩,g,X,Y⟩)
 ·obtain ⟨q,rfl,-⟩ := id r; exact ⟨rfl,Steps.err (P.bind_err l) r ga g⟩
 have s : du c.L i = _ := P.bind_ok l; simp only [T.kind,T.name,T.num,T.at',T.subs] at b ⊢; obtain ⟨z,A,rfl⟩ := b.form; obtain ⟨H,B,b⟩ := b.nm
 try simp at B
 have I := zb ga g; have Z := g.size
 try simp at Z
 have m : RB x w.heap.size := RB.k (RB.new' (by simp)) g; have C := m.lt; obtain ⟨_,_,_,_,_,_,_,_,_,_,_⟩ := id m; go_wp2_with fail; go_at_call 123; refine (kl c _ U d (T.mk M N O R y) H x.heap.size _ X ⟨_,rfl,(show LR _ (In H x.heap.size) y (.slice z y.length A) from b)⟩).mono ?_; rintro e w2 (⟨x2,n,u,f⟩ | ⟨⟨k2,n2,m2,q2,l2⟩,j2,v2,n,rfl,⟨a0,rfl,j⟩,f,p2,a1⟩)
 ·obtain ⟨q,rfl,-⟩ := id u; exact ⟨rfl,Steps.err (s.trans n) u I f⟩
 have D := s.trans n; simp only [T.kind,T.name,T.num,T.at',T.subs] at j ⊢; obtain ⟨a2,a3,rfl⟩ := j.form; obtain ⟨b2,E,j⟩ := j.nm
 try simp at E
 have G2 := zb I f; have s2 := f.size
 try simp at s2
 have o := RB.k m f; have a4 := LR.c b f; have F := o.lt; obtain ⟨_,_,_,_,_,_,_,_,_,_,_⟩ := id o; go_wp2; refine zn Tryz.results166 rfl (RB.five ?_) rfl ?_
 ·exact o
 refine Steps.ok (a := (T.mk k2 n2 m2 q2 l2)) D ⟨_,rfl,?_⟩ ?_ ?_ (by omega)
 ·exact (LR.p5 j (by omega)).wd
 ·exact zS G2 (by omega)
 ·exact PS.p5 p2 K.out (by omega)
theorem ff (c : PC) (w : World) (i d : Nat) (h : PS c w i d) :
  Calls Tryz.prog 156 #[.pointer (some ⟨c.pb,0,none⟩)] w (Steps c w i d (fun w' t v => TR w' w.heap.size w'.heap.size t v) (kS c.L i)) := by
 have J := za h; have K := za h.low; have hb := h.lt; clear h
 go_enter Tryz.func156,Tryz.ntmps156
 go_wp2_with fail; go_at_call 118; refine (kz c _ i d 6 (PS.alloc J.out _)).mono ?_; rintro e x (⟨x1,l,r,g⟩ | ⟨⟨M,N,O,R,y⟩,U,v1,l,rfl,⟨V,rfl,b⟩,g,X,Y⟩)
 ·obtain ⟨q,rfl,-⟩ := id r; exact ⟨rfl,Steps.err (P.bind_err l) r ga g⟩
 have s : kS c.L i = _ := P.bind_ok l; simp only [T.kind,T.name,T.num,T.at',T.subs] at b ⊢; obtain ⟨z,A,rfl⟩ := b.form; obtain ⟨H,B,b⟩ := b.nm
 try simp at B
 have I := zb ga g; have Z := g.size
 try simp at Z
 have m : RB x w.heap.size := RB.k (RB.new' (by simp)) g; have C := m.lt; obtain ⟨_,_,_,_,_,_,_,_,_,_,_⟩ := id m; go_wp2_with fail; go_at_call 123; refine (kl c _ U d (T.mk M N O R y) H x.heap.size _ X ⟨_,rfl,(show LR _ (In H x.heap.size) y (.slice z y.length A) from b)⟩).mono ?_; rintro e w2 (⟨x2,n,u,f⟩ | ⟨⟨k2,n2,m2,q2,l2⟩,j2,v2,n,rfl,⟨a0,rfl,j⟩,f,p2,a1⟩)
 ·obtain ⟨q,rfl,-⟩ := id u; exact ⟨rfl,Steps.err (s.trans n) u I f⟩
 have D := s.trans n; simp only [T.kind,T.name,T.num,T.at',T.subs] at j ⊢; obtain ⟨a2,a3,rfl⟩ := j.form; obtain ⟨b2,E,j⟩ := j.nm
 try simp at E
 have G2 := zb I f; have s2 := f.size
 try simp at s2
 have o := RB.k m f; have a4 := LR.c b f; have F := o.lt; obtain ⟨_,_,_,_,_,_,_,_,_,_,_⟩ := id o; go_wp2; refine zn Tryz.results156 rfl (RB.five ?_) rfl ?_
 ·exact o
 refine Steps.ok (a := (T.mk k2 n2 m2 q2 l2)) D ⟨_,rfl,?_⟩ ?_ ?_ (by omega)
 ·exact (LR.p5 j (by omega)).wd
 ·exact zS G2 (by omega)
 ·exact PS.p5 p2 K.out (by omega)
theorem pv (c : PC) (w : World) (i d : Nat) (E : P T) (h : PS c w i d) (hE : ExprOK c d E) :
  Calls Tryz.prog 64 #[.pointer (some ⟨c.pb,0,none⟩)] w (Steps c w i d (fun w' t v => TR w' w.heap.size w'.heap.size t v) (((xq c.L 4).bind fun n => (zx c.L qO).bind fun _ => E.bind fun e => P.ret (kG n e)) i)) := by
 have HP := za h; have HL := za h.low; have hb := h.lt; clear h
 go_enter Tryz.func64,Tryz.ntmps64
 go_wp2_with fail; go_at_call 120; refine (jS c _ i d 4 (PS.alloc HP.out _)).mono ?_; rintro e M (⟨x1,m,z,g⟩ | ⟨⟨k1,n1,m1,q1,N⟩,j1,v1,m,rfl,⟨a7,rfl,j⟩,g,p1,a8⟩)
 ·obtain ⟨q,rfl,-⟩ := id z; exact ⟨rfl,Steps.err (P.bind_err m) z ga g⟩
 have A : ((xq c.L 4).bind fun n => (zx c.L qO).bind fun _ => E.bind fun e => P.ret (kG n e)) i = _ := P.bind_ok m; simp only [T.kind,T.name,T.num,T.at',T.subs] at j ⊢; obtain ⟨B,C,rfl⟩ := j.form; obtain ⟨b1,O,j⟩ := j.nm
 try simp at O
 have G1 := zb ga g; have s1 := g.size
 try simp at s1
 have o : RB M w.heap.size := RB.k (RB.new' (by simp)) g; have R := o.lt; obtain ⟨_,_,_,_,_,_,_,_,_,_,_⟩ := id o; go_wp2_with fail; go_at_call 60; refine (zI c _ j1 d qO _ rfl (by decide) (PS.alloc p1 _)).mono ?_; rintro e K (⟨x2,r,D,b⟩ | ⟨a2,j2,v2,r,rfl,-,b,p2,a9⟩)
 ·obtain ⟨q,rfl,-⟩ := id D; exact ⟨rfl,Steps.err (A.trans (P.bind_err r)) D (zf G1 _) b⟩
 have F : ((xq c.L 4).bind fun n => (zx c.L qO).bind fun _ => E.bind fun e => P.ret (kG n e)) i = _ := A.trans (P.bind_ok r); have G2 : w.grownBy K (some c.pb) := zb (zf G1 _) b; have s2 := b.size
 try simp at s2
 have s : RB K w.heap.size := RB.k (RB.alloc o _) b; have u : NB K M.heap.size (.int .i64 k1) (.string ⟨n1.toArray⟩) (.int .i64 m1) (.int .i64 q1) (.slice B N.length C) := NB.k (NB.new' (by simp)) b; have U : LR K (In b1 M.heap.size) N (.slice B N.length C) := LR.c (LR.alloc j _) b; have V := s.lt; have X := u.lt; obtain ⟨_,_,_,_,_,_,_,_,_,_,_⟩ := id s; obtain ⟨_,_,_,_,_,_⟩ := id u; go_wp2_with fail; go_at_call 121; refine (hE.call _ j2 p2 trivial).mono ?_; rintro e w3 (⟨x3,x,H,f⟩ | ⟨⟨Y,Z,m3,q3,I⟩,j3,v3,x,rfl,⟨b0,rfl,l⟩,f,p3,b2⟩)
 ·obtain ⟨q,rfl,-⟩ := id H; exact ⟨rfl,Steps.err (F.trans (P.bind_err x)) H G2 f⟩
 have a0 : ((xq c.L 4).bind fun n => (zx c.L qO).bind fun _ => E.bind fun e => P.ret (kG n e)) i = _ := F.trans (P.bind_ok x); simp only [T.kind,T.name,T.num,T.at',T.subs] at l ⊢; obtain ⟨a1,a3,rfl⟩ := l.form; obtain ⟨b3,a4,l⟩ := l.nm
 try simp at a4
 have G3 := zb G2 f; have s3 := f.size
 try simp at s3
 have y := RB.k s f; have J := NB.k u f; have b4 := LR.c U f; have a5 := y.lt; have a6 := J.lt; obtain ⟨_,_,_,_,_,_,_,_,_,_,_⟩ := id y; obtain ⟨_,_,_,_,_,_⟩ := id J; go_wp2; refine zn Tryz.results64 rfl (NB.alloc (RB.five ?_) _) rfl ?_
 ·exact RB.put y _ _ _
 refine Steps.ok (a := (T.mk k1 n1 m1 q1 [(T.mk Y Z m3 q3 I)])) a0 ⟨_,rfl,?_⟩ ?_ ?_ (by omega)
 ·refine LR.wide (lo := b3) (hi := w3.heap.size + 1) (ts := [(T.mk Y Z m3 q3 I)]) ?_ (by omega) (by first | omega | (simp <;> omega))
  exact (LR.build1 _ (t := (T.mk Y Z m3 q3 I)) (sv := .slice a1 I.length a3) (LR.wide (lo := b3) (hi := w3.heap.size) (ts := I) (LR.p5 (LR.put l (by omega) _ _) (by omega)) (by omega) (by first | omega | (simp <;> omega))) (by simp) rfl (by omega))
 ·exact zf (zS (zC G3 (by omega) _ _) (by omega)) _
 ·exact PS.alloc (PS.p5 (PS.put p3 HL.out (by omega) _ _) HL.out (by omega)) _
theorem hU (c : PC) (w : World) (i d : Nat) (h : PS c w i d) (hT : PartOK c d 122 (yh c.L)) :
  Calls Tryz.prog 65 #[.pointer (some ⟨c.pb,0,none⟩)] w (Steps c w i d (fun w' t v => TR w' w.heap.size w'.heap.size t v) (uI c.L i)) := by
 have HP := za h; have HL := za h.low; have hb := h.lt; clear h
 go_enter Tryz.func65,Tryz.ntmps65
 go_wp2_with fail; go_at_call 120; refine (jS c _ i d 5 (PS.alloc HP.out _)).mono ?_; rintro e J (⟨x1,m,y,g⟩ | ⟨⟨k1,n1,m1,q1,K⟩,j1,v1,m,rfl,⟨a7,rfl,j⟩,g,p1,a8⟩)
 ·obtain ⟨q,rfl,-⟩ := id y; exact ⟨rfl,Steps.err (P.bind_err m) y ga g⟩
 have z : uI c.L i = _ := P.bind_ok m; simp only [T.kind,T.name,T.num,T.at',T.subs] at j ⊢; obtain ⟨A,B,rfl⟩ := j.form; obtain ⟨b1,M,j⟩ := j.nm
 try simp at M
 have G1 := zb ga g; have s1 := g.size
 try simp at s1
 have n : RB J w.heap.size := RB.k (RB.new' (by simp)) g; have N := n.lt; obtain ⟨_,_,_,_,_,_,_,_,_,_,_⟩ := id n; go_wp2_with fail; go_at_call 60; refine (zI c _ j1 d qO _ rfl (by decide) (PS.alloc p1 _)).mono ?_; rintro e I (⟨x2,o,C,b⟩ | ⟨a2,j2,v2,o,rfl,-,b,p2,a9⟩)
 ·obtain ⟨q,rfl,-⟩ := id C; exact ⟨rfl,Steps.err (z.trans (P.bind_err o)) C (zf G1 _) b⟩
 have D := z.trans (P.bind_ok o); have G2 : w.grownBy I (some c.pb) := zb (zf G1 _) b; have s2 := b.size
 try simp at s2
 have r : RB I w.heap.size := RB.k (RB.alloc n _) b; have s : NB I J.heap.size (.int .i64 k1) (.string ⟨n1.toArray⟩) (.int .i64 m1) (.int .i64 q1) (.slice A K.length B) := NB.k (NB.new' (by simp)) b; have O : LR I (In b1 J.heap.size) K (.slice A K.length B) := LR.c (LR.alloc j _) b; have R := r.lt; have U := s.lt; obtain ⟨_,_,_,_,_,_,_,_,_,_,_⟩ := id r; obtain ⟨_,_,_,_,_,_⟩ := id s; go_wp2_with fail; go_at_call 122; refine (hT _ j2 p2).mono ?_; rintro e w3 (⟨x3,u,E,f⟩ | ⟨⟨V,X,Y,Z,F⟩,j3,v3,u,rfl,⟨b0,rfl,l⟩,f,p3,b2⟩)
 ·obtain ⟨q,rfl,-⟩ := id E; exact ⟨rfl,Steps.err (D.trans (P.bind_err u)) E G2 f⟩
 have a0 := D.trans (P.bind_ok u); simp only [T.kind,T.name,T.num,T.at',T.subs] at l ⊢; obtain ⟨a1,a3,rfl⟩ := l.form; obtain ⟨b3,a4,l⟩ := l.nm
 try simp at a4
 have G3 := zb G2 f; have s3 := f.size
 try simp at s3
 have x := RB.k r f; have H := NB.k s f; have b4 := LR.c O f; have a5 := x.lt; have a6 := H.lt; obtain ⟨_,_,_,_,_,_,_,_,_,_,_⟩ := id x; obtain ⟨_,_,_,_,_,_⟩ := id H; go_wp2; refine zn Tryz.results65 rfl (NB.alloc (RB.five ?_) _) rfl ?_
 ·exact RB.put x _ _ _
 refine Steps.ok (a := (T.mk k1 n1 m1 q1 [(T.mk V X Y Z F)])) a0 ⟨_,rfl,?_⟩ ?_ ?_ (by omega)
 ·refine LR.wide (lo := b3) (hi := w3.heap.size + 1) (ts := [(T.mk V X Y Z F)]) ?_ (by omega) (by first | omega | (simp <;> omega))
  exact (LR.build1 _ (t := (T.mk V X Y Z F)) (sv := .slice a1 F.length a3) (LR.wide (lo := b3) (hi := w3.heap.size) (ts := F) (LR.p5 (LR.put l (by omega) _ _) (by omega)) (by omega) (by first | omega | (simp <;> omega))) (by simp) rfl (by omega))
 ·exact zf (zS (zC G3 (by omega) _ _) (by omega)) _
 ·exact PS.alloc (PS.p5 (PS.put p3 HL.out (by omega) _ _) HL.out (by omega)) _
theorem tS (c : PC) (w : World) (i d : Nat) (h : PS c w i d) :
  Calls Tryz.prog 168 #[.pointer (some ⟨c.pb,0,none⟩)] w (Steps c w i d (fun w' t v => TR w' w.heap.size w'.heap.size t v) (vZ c.L i)) := by
 have HP := za h; have O := za h.low; have hb := h.lt; clear h
 go_enter Tryz.func168,Tryz.ntmps168
 go_wp2_with fail; go_at_call 59; refine (yA c _ i d 8 (PS.alloc HP.out _)).mono ?_; rintro e D ⟨rfl,y⟩; have p1 : PS c D i d := PS.kept (PS.alloc HP.out _) y; have G1 : w.grownBy D (some c.pb) := zb ga (zJ y (some c.pb)); have s1 := y.size
 try simp at s1
 have E : RB D w.heap.size := RB.kept (RB.new' (by simp)) y (by simp); have Y := E.lt; obtain ⟨_,_,_,_,_,_,_,_,_,_,_⟩ := id E; go_wp2_with fail; go_at_call 113; refine (xB c _ i d vE _ rfl (by decide) (PS.alloc p1 _)).mono ?_; rintro e Z ⟨b2,j2,a0,rfl,z,p2,b1⟩; have A : vZ c.L i = _ := P.bind_ok a0; have V : w.grownBy Z (some c.pb) := zb (zf G1 _) z; have s2 := z.size
 try simp at s2
 have B : RB Z w.heap.size := RB.k (RB.alloc E _) z; have C : NB Z D.heap.size (.int .i64 8) (.string ⟨#[]⟩) (.int .i64 0) (.int .i64 (pos c.L i)) (.slice none 0 0) := NB.k (NB.new' (by simp)) z; have a1 := B.lt; have a2 := C.lt; obtain ⟨_,_,_,_,_,_,_,_,_,_,_⟩ := id B; obtain ⟨_,_,_,_,_,_⟩ := id C; cases b2
 ·go_wp2_with fail
  go_at_call 61; refine (ke c _ j2 d p2).mono ?_; rintro e X (⟨x3,j,r,b⟩ | ⟨R,j3,v3,j,rfl,⟨rfl,a4,a5⟩,b,p3,a6⟩)
  ·obtain ⟨q,rfl,-⟩ := id r; exact ⟨rfl,Steps.err (A.trans (P.bind_err j)) r V b⟩
  have s := A.trans (P.bind_ok j); have U := zb V b; have s3 := b.size
  try simp at s3
  have l := RB.k B b; have m := NB.k C b; have F := l.lt; have H := m.lt; obtain ⟨_,_,_,_,_,_,_,_,_,_,_⟩ := id l; obtain ⟨_,_,_,_,_,_⟩ := id m; go_wp2_with fail; go_at_call 123; refine (kl c _ j3 d (T.mk 8 R 0 (pos c.L i) []) 0 0 _ (PS.put p3 O.out (by omega) _ _) ⟨_,rfl,LR.nil _ _⟩).mono ?_; rintro e I (⟨x4,n,u,f⟩ | ⟨⟨k4,n4,m4,q4,l4⟩,j4,v4,n,rfl,⟨a7,rfl,g⟩,f,p4,a8⟩)
  ·obtain ⟨q,rfl,-⟩ := id u; exact ⟨rfl,Steps.err (s.trans n) u (zC U (by omega) _ _) f⟩
  have J := s.trans n; simp only [T.kind,T.name,T.num,T.at',T.subs] at g ⊢; obtain ⟨a9,b0,rfl⟩ := g.form; obtain ⟨b4,K,g⟩ := g.nm
  try simp at K
  have G4 : w.grownBy I (some c.pb) := zb (zC U (by omega) _ _) f; have s4 := f.size
  try simp at s4
  have o : RB I w.heap.size := RB.k (RB.put l _ _ _) f; have x : NB I D.heap.size (.int .i64 8) (.string ⟨R.toArray⟩) (.int .i64 0) (.int .i64 (pos c.L i)) (.slice none 0 0) := NB.k (NB.s1 m _) f; have M := o.lt; have N := x.lt; obtain ⟨_,_,_,_,_,_,_,_,_,_,_⟩ := id o; obtain ⟨_,_,_,_,_,_⟩ := id x; go_wp2; refine zn Tryz.results168 rfl (RB.five ?_) rfl ?_
  ·exact o
  refine Steps.ok (a := (T.mk k4 n4 m4 q4 l4)) J ⟨_,rfl,?_⟩ ?_ ?_ (by omega)
  ·exact (LR.p5 g (by omega)).wd
  ·exact zS G4 (by omega)
  ·exact PS.p5 p4 O.out (by omega)
 ·go_wp2_with fail
  go_at_call 61; refine (ke c _ j2 d (PS.put p2 O.out (by omega) _ _)).mono ?_; rintro e X (⟨x3,j,r,b⟩ | ⟨R,j3,v3,j,rfl,⟨rfl,a4,a5⟩,b,p3,a6⟩)
  ·obtain ⟨q,rfl,-⟩ := id r; exact ⟨rfl,Steps.err (A.trans (P.bind_err j)) r (zC V (by omega) _ _) b⟩
  have s := A.trans (P.bind_ok j); have U : w.grownBy X (some c.pb) := zb (zC V (by omega) _ _) b; have s3 := b.size
  try simp at s3
  have l : RB X w.heap.size := RB.k (RB.put B _ _ _) b; have m : NB X D.heap.size (.int .i64 8) (.string ⟨#[]⟩) (.int .i64 1) (.int .i64 (pos c.L i)) (.slice none 0 0) := NB.k (NB.s2 C _) b; have F := l.lt; have H := m.lt; obtain ⟨_,_,_,_,_,_,_,_,_,_,_⟩ := id l; obtain ⟨_,_,_,_,_,_⟩ := id m; go_wp2_with fail; go_at_call 123; refine (kl c _ j3 d (T.mk 8 R 1 (pos c.L i) []) 0 0 _ (PS.put p3 O.out (by omega) _ _) ⟨_,rfl,LR.nil _ _⟩).mono ?_; rintro e I (⟨x4,n,u,f⟩ | ⟨⟨k4,n4,m4,q4,l4⟩,j4,v4,n,rfl,⟨a7,rfl,g⟩,f,p4,a8⟩)
  ·obtain ⟨q,rfl,-⟩ := id u; exact ⟨rfl,Steps.err (s.trans n) u (zC U (by omega) _ _) f⟩
  have J := s.trans n; simp only [T.kind,T.name,T.num,T.at',T.subs] at g ⊢; obtain ⟨a9,b0,rfl⟩ := g.form; obtain ⟨b4,K,g⟩ := g.nm
  try simp at K
  have G4 : w.grownBy I (some c.pb) := zb (zC U (by omega) _ _) f; have s4 := f.size
  try simp at s4
  have o : RB I w.heap.size := RB.k (RB.put l _ _ _) f; have x : NB I D.heap.size (.int .i64 8) (.string ⟨R.toArray⟩) (.int .i64 1) (.int .i64 (pos c.L i)) (.slice none 0 0) := NB.k (NB.s1 m _) f; have M := o.lt; have N := x.lt; obtain ⟨_,_,_,_,_,_,_,_,_,_,_⟩ := id o; obtain ⟨_,_,_,_,_,_⟩ := id x; go_wp2; refine zn Tryz.results168 rfl (RB.five ?_) rfl ?_
  ·exact o
  refine Steps.ok (a := (T.mk k4 n4 m4 q4 l4)) J ⟨_,rfl,?_⟩ ?_ ?_ (by omega)
  ·exact (LR.p5 g (by omega)).wd
  ·exact zS G4 (by omega)
  ·exact PS.p5 p4 O.out (by omega)
theorem iS (c : PC) (w : World) (i d : Nat) (h : PS c w i d) :
  Calls Tryz.prog 150 #[.pointer (some ⟨c.pb,0,none⟩)] w (Steps c w i d (fun w' t v => TR w' w.heap.size w'.heap.size t v) (oU c.L i)) := by
 have HP := za h; have U := za h.low; have hb := h.lt; clear h
 go_enter Tryz.func150,Tryz.ntmps150
 go_wp2_with fail; go_at_call 59; refine (yA c _ i d 9 (PS.alloc HP.out _)).mono ?_; rintro e E ⟨rfl,m⟩; have p1 : PS c E i d := PS.kept (PS.alloc HP.out _) m; have G1 : w.grownBy E (some c.pb) := zb ga (zJ m (some c.pb)); have s1 := m.size
 try simp at s1
 have n : RB E w.heap.size := RB.kept (RB.new' (by simp)) m (by simp); have V := n.lt; obtain ⟨_,_,_,_,_,_,_,_,_,_,_⟩ := id n; go_wp2_with fail; go_at_call 60; refine (zI c _ i d jy _ rfl (by decide) (PS.alloc p1 _)).mono ?_; rintro e X (⟨x2,o,F,b⟩ | ⟨a2,j2,v2,o,rfl,-,b,p2,b3⟩)
 ·obtain ⟨q,rfl,-⟩ := id F; exact ⟨rfl,Steps.err (P.bind_err o) F (zf G1 _) b⟩
 have H : oU c.L i = _ := P.bind_ok o; have G2 : w.grownBy X (some c.pb) := zb (zf G1 _) b; have s2 := b.size
 try simp at s2
 have r : RB X w.heap.size := RB.k (RB.alloc n _) b; have s : NB X E.heap.size (.int .i64 9) (.string ⟨#[]⟩) (.int .i64 0) (.int .i64 (pos c.L i)) (.slice none 0 0) := NB.k (NB.new' (by simp)) b; have Y := r.lt; have Z := s.lt; obtain ⟨_,_,_,_,_,_,_,_,_,_,_⟩ := id r; obtain ⟨_,_,_,_,_,_⟩ := id s; go_wp2_with fail; go_at_call 165; refine (dO c _ j2 d p2).mono ?_; rintro e w3 (⟨x3,u,I,f⟩ | ⟨a3,j3,v3,u,rfl,rfl,f,p3,b4⟩)
 ·obtain ⟨q,rfl,-⟩ := id I; exact ⟨rfl,Steps.err (H.trans (P.bind_err u)) I G2 f⟩
 have J := H.trans (P.bind_ok u); have G3 := zb G2 f; have s3 := f.size
 try simp at s3
 have x := RB.k r f; have y := NB.k s f; have a0 := x.lt; have a1 := y.lt; obtain ⟨_,_,_,_,_,_,_,_,_,_,_⟩ := id x; obtain ⟨_,_,_,_,_,_⟩ := id y; go_wp2_with fail; go_at_call 60; refine (zI c _ j3 d kOF _ rfl (by decide) (PS.put p3 U.out (by omega) _ _)).mono ?_; rintro e w4 (⟨x4,z,K,g⟩ | ⟨a4,j4,v4,z,rfl,-,g,p4,b6⟩)
 ·obtain ⟨q,rfl,-⟩ := id K; exact ⟨rfl,Steps.err (J.trans (P.bind_err z)) K (zC G3 (by omega) _ _) g⟩
 have M := J.trans (P.bind_ok z); have G4 : w.grownBy w4 (some c.pb) := zb (zC G3 (by omega) _ _) g; have s4 := g.size
 try simp at s4
 have A : RB w4 w.heap.size := RB.k (RB.put x _ _ _) g; have B : NB w4 E.heap.size (.int .i64 9) (.string ⟨#[]⟩) (.int .i64 a3) (.int .i64 (pos c.L i)) (.slice none 0 0) := NB.k (NB.s2 y _) g; have a5 := A.lt; have a6 := B.lt; obtain ⟨_,_,_,_,_,_,_,_,_,_,_⟩ := id A; obtain ⟨_,_,_,_,_,_⟩ := id B; go_wp2_with fail; go_at_call 153; refine (vC c _ j4 d p4).mono ?_; rintro e w5 (⟨x5,C,N,j⟩ | ⟨⟨k5,n5,m5,q5,O⟩,j5,v5,C,rfl,⟨b7,rfl,l⟩,j,p5,b8⟩)
 ·obtain ⟨q,rfl,-⟩ := id N; exact ⟨rfl,Steps.err (M.trans (P.bind_err C)) N G4 j⟩
 have a7 := M.trans (P.bind_ok C); simp only [T.kind,T.name,T.num,T.at',T.subs] at l ⊢; obtain ⟨a8,a9,rfl⟩ := l.form; obtain ⟨b5,b0,l⟩ := l.nm
 try simp at b0
 have G5 := zb G4 j; have s5 := j.size
 try simp at s5
 have D := RB.k A j; have R := NB.k B j; have b1 := D.lt; have b2 := R.lt; obtain ⟨_,_,_,_,_,_,_,_,_,_,_⟩ := id D; obtain ⟨_,_,_,_,_,_⟩ := id R; go_wp2; refine zn Tryz.results150 rfl (NB.alloc (RB.five ?_) _) rfl ?_
 ·exact RB.put D _ _ _
 refine Steps.ok (a := (T.mk 9 [] a3 (pos c.L i) [(T.mk k5 n5 m5 q5 O)])) a7 ⟨_,rfl,?_⟩ ?_ ?_ (by omega)
 ·refine LR.wide (lo := b5) (hi := w5.heap.size + 1) (ts := [(T.mk k5 n5 m5 q5 O)]) ?_ (by omega) (by first | omega | (simp <;> omega))
  exact (LR.build1 _ (t := (T.mk k5 n5 m5 q5 O)) (sv := .slice a8 O.length a9) (LR.wide (lo := b5) (hi := w5.heap.size) (ts := O) (LR.p5 (LR.put l (by omega) _ _) (by omega)) (by omega) (by first | omega | (simp <;> omega))) (by simp) rfl (by omega))
 ·exact zf (zS (zC G5 (by omega) _ _) (by omega)) _
 ·exact PS.alloc (PS.p5 (PS.put p5 U.out (by omega) _ _) U.out (by omega)) _
theorem nE (c : PC) (w : World) (i d : Nat) (h : PS c w i d) :
  Calls Tryz.prog 152 #[.pointer (some ⟨c.pb,0,none⟩)] w (Steps c w i d (fun w' t v => TR w' w.heap.size w'.heap.size t v) (fC c.L i)) := by
 have HP := za h; have HL := za h.low; have hb := h.lt; clear h
 go_enter Tryz.func152,Tryz.ntmps152
 go_wp2_with fail; go_at_call 59; refine (yA c _ i d 12 (PS.alloc HP.out _)).mono ?_; rintro e I ⟨rfl,l⟩; have p1 : PS c I i d := PS.kept (PS.alloc HP.out _) l; have G1 : w.grownBy I (some c.pb) := zb ga (zJ l (some c.pb)); have s1 := l.size
 try simp at s1
 have m : RB I w.heap.size := RB.kept (RB.new' (by simp)) l (by simp); have J := m.lt; obtain ⟨_,_,_,_,_,_,_,_,_,_,_⟩ := id m; go_wp2_with fail; go_at_call 60; refine (zI c _ i d vN _ rfl (by decide) (PS.alloc p1 _)).mono ?_; rintro e K (⟨x2,n,A,b⟩ | ⟨a2,j2,v2,n,rfl,-,b,p2,a7⟩)
 ·obtain ⟨q,rfl,-⟩ := id A; exact ⟨rfl,Steps.err (P.bind_err n) A (zf G1 _) b⟩
 have B : fC c.L i = _ := P.bind_ok n; have G2 : w.grownBy K (some c.pb) := zb (zf G1 _) b; have s2 := b.size
 try simp at s2
 have o : RB K w.heap.size := RB.k (RB.alloc m _) b; have r : NB K I.heap.size (.int .i64 12) (.string ⟨#[]⟩) (.int .i64 0) (.int .i64 (pos c.L i)) (.slice none 0 0) := NB.k (NB.new' (by simp)) b; have M := o.lt; have N := r.lt; obtain ⟨_,_,_,_,_,_,_,_,_,_,_⟩ := id o; obtain ⟨_,_,_,_,_,_⟩ := id r; go_wp2_with fail; go_at_call 60; refine (zI c _ j2 d kTO _ rfl (by decide) p2).mono ?_; rintro e w3 (⟨x3,s,C,f⟩ | ⟨a3,j3,v3,s,rfl,-,f,p3,a8⟩)
 ·obtain ⟨q,rfl,-⟩ := id C; exact ⟨rfl,Steps.err (B.trans (P.bind_err s)) C G2 f⟩
 have D := B.trans (P.bind_ok s); have G3 := zb G2 f; have s3 := f.size
 try simp at s3
 have u := RB.k o f; have x := NB.k r f; have O := u.lt; have R := x.lt; obtain ⟨_,_,_,_,_,_,_,_,_,_,_⟩ := id u; obtain ⟨_,_,_,_,_,_⟩ := id x; go_wp2_with fail; go_at_call 153; refine (vC c _ j3 d p3).mono ?_; rintro e w4 (⟨x4,y,E,g⟩ | ⟨⟨U,V,X,Y,F⟩,j4,v4,y,rfl,⟨a9,rfl,j⟩,g,p4,b0⟩)
 ·obtain ⟨q,rfl,-⟩ := id E; exact ⟨rfl,Steps.err (D.trans (P.bind_err y)) E G3 g⟩
 have Z := D.trans (P.bind_ok y); simp only [T.kind,T.name,T.num,T.at',T.subs] at j ⊢; obtain ⟨a0,a1,rfl⟩ := j.form; obtain ⟨b4,a4,j⟩ := j.nm
 try simp at a4
 have G4 := zb G3 g; have s4 := g.size
 try simp at s4
 have z := RB.k u g; have H := NB.k x g; have a5 := z.lt; have a6 := H.lt; obtain ⟨_,_,_,_,_,_,_,_,_,_,_⟩ := id z; obtain ⟨_,_,_,_,_,_⟩ := id H; go_wp2; refine zn Tryz.results152 rfl (NB.alloc (RB.five ?_) _) rfl ?_
 ·exact RB.put z _ _ _
 refine Steps.ok (a := (T.mk 12 [] 0 (pos c.L i) [(T.mk U V X Y F)])) Z ⟨_,rfl,?_⟩ ?_ ?_ (by omega)
 ·refine LR.wide (lo := b4) (hi := w4.heap.size + 1) (ts := [(T.mk U V X Y F)]) ?_ (by omega) (by first | omega | (simp <;> omega))
  exact (LR.build1 _ (t := (T.mk U V X Y F)) (sv := .slice a0 F.length a1) (LR.wide (lo := b4) (hi := w4.heap.size) (ts := F) (LR.p5 (LR.put j (by omega) _ _) (by omega)) (by omega) (by first | omega | (simp <;> omega))) (by simp) rfl (by omega))
 ·exact zf (zS (zC G4 (by omega) _ _) (by omega)) _
 ·exact PS.alloc (PS.p5 (PS.put p4 HL.out (by omega) _ _) HL.out (by omega)) _
theorem nG (c : PC) (w : World) (i d : Nat) (h : PS c w i d) :
  Calls Tryz.prog 155 #[.pointer (some ⟨c.pb,0,none⟩)] w (Steps c w i d (fun w' t v => TR w' w.heap.size w'.heap.size t v) (gw c.L i)) := by
 have I := za h; have H := za h.low; have hb := h.lt; clear h
 go_enter Tryz.func155,Tryz.ntmps155
 go_wp2_with fail; go_at_call 113; refine (xB c _ i d xk _ rfl (by decide) (PS.alloc I.out _)).mono ?_; rintro e J ⟨K,x,r,rfl,l,y,M⟩; have m : gw c.L i = _ := P.bind_ok r; have z := zb ga l; have N := l.size
 try simp at N
 have j : RB J w.heap.size := RB.k (RB.new' (by simp)) l; have A := j.lt; obtain ⟨_,_,_,_,_,_,_,_,_,_,_⟩ := id j; cases K
 ·have hj := fU r
  go_wp2_with fail; go_at_call 59; refine (yA c _ x d 0 y).mono ?_; rintro e u ⟨rfl,b⟩; have B : PS c u x d := PS.kept y b; have C : w.grownBy u (some c.pb) := zb z (zJ b (some c.pb)); have D := b.size
  try simp at D
  have f : RB u w.heap.size := RB.kept j b (by simp); have n := f.lt; obtain ⟨_,_,_,_,_,_,_,_,_,_,_⟩ := id f; go_wp2; refine zn Tryz.results155 rfl (RB.five ?_) rfl ?_
  ·exact f
  refine Steps.ok (a := (T.mk 0 [] 0 (pos c.L i) [])) m ⟨_,rfl,?_⟩ ?_ ?_ (by omega)
  ·exact LR.nil _ _
  ·exact zS C (by omega)
  ·exact PS.p5 B H.out (by omega)
 ·go_wp2_with fail
  go_at_call 153; refine (vC c _ x d y).mono ?_; rintro e u (⟨x2,o,s,b⟩ | ⟨⟨O,R,U,V,X⟩,j2,v2,o,rfl,⟨Y,rfl,g⟩,b,B,Z⟩)
  ·obtain ⟨q,rfl,-⟩ := id s; exact ⟨rfl,Steps.err (m.trans o) s z b⟩
  have E := m.trans o; simp only [T.kind,T.name,T.num,T.at',T.subs] at g ⊢; obtain ⟨a0,a1,rfl⟩ := g.form; obtain ⟨b2,F,g⟩ := g.nm
  try simp at F
  have C := zb z b; have D := b.size
  try simp at D
  have f := RB.k j b; have n := f.lt; obtain ⟨_,_,_,_,_,_,_,_,_,_,_⟩ := id f; go_wp2; refine zn Tryz.results155 rfl (RB.five ?_) rfl ?_
  ·exact f
  refine Steps.ok (a := (T.mk O R U V X)) E ⟨_,rfl,?_⟩ ?_ ?_ (by omega)
  ·exact (LR.p5 g (by omega)).wd
  ·exact zS C (by omega)
  ·exact PS.p5 B H.out (by omega)
theorem kc (c : PC) (w : World) (i d : Nat) (k : List UInt8) (sb : ByteArray) (hsb : sb.data.toList = k) (hk : k ≠ []) (g : Nat) (p : P T) (h : PS c w i d) (hp : Part c d (fun _ => True) g #[.pointer (some ⟨c.pb,0,none⟩)] p) :
  Calls Tryz.prog 63 #[.pointer (some ⟨c.pb,0,none⟩),.string sb,.func (.func g) #[.pointer (some ⟨c.pb,0,none⟩)] #[]] w (Steps c w i d (fun w' t v => TR w' w.heap.size w'.heap.size t v) (jj c.L k p i)) := by
 have N := za h; have A := za h.low; have hb := h.lt; clear h
 go_enter Tryz.func63,Tryz.ntmps63
 go_wp2_with fail; go_at_call 59; refine (yA c _ i d 1 (PS.alloc N.out _)).mono ?_; rintro e z ⟨rfl,f⟩; have U : PS c z i d := PS.kept (PS.alloc N.out _) f; have V : w.grownBy z (some c.pb) := zb ga (zJ f (some c.pb)); have X := f.size
 try simp at X
 have n : RB z w.heap.size := RB.kept (RB.new' (by simp)) f (by simp); have B := n.lt; obtain ⟨_,_,_,_,_,_,_,_,_,_,_⟩ := id n; go_wp2_with fail; go_at_call 113; refine (xB c _ i d k _ hsb hk (PS.alloc U _)).mono ?_; rintro e C ⟨Y,Z,D,rfl,j,O,a0⟩; have o : jj c.L k p i = _ := P.bind_ok D; have E : w.grownBy C (some c.pb) := zb (zf V _) j; have s2 := j.size
 try simp at s2
 have l : RB C w.heap.size := RB.k (RB.alloc n _) j; have r : NB C z.heap.size (.int .i64 1) (.string ⟨#[]⟩) (.int .i64 0) (.int .i64 (pos c.L i)) (.slice none 0 0) := NB.k (NB.new' (by simp)) j; have F := l.lt; have H := r.lt; obtain ⟨_,_,_,_,_,_,_,_,_,_,_⟩ := id l; obtain ⟨_,_,_,_,_,_⟩ := id r; cases Y
 ·go_wp2
  refine zn Tryz.results63 rfl (RB.five ?_) rfl ?_
  ·exact l
  refine Steps.ok (a := (T.mk 1 [] 0 (pos c.L i) [])) o ⟨_,rfl,?_⟩ ?_ ?_ (by omega)
  ·exact LR.nil _ _
  ·exact zS E (by omega)
  ·exact PS.p5 O A.out (by omega)
 ·go_wp2_with fail
  go_at_call 119; refine (ji c _ Z d g p O hp).mono ?_; rintro e w3 (⟨x3,s,x,b⟩ | ⟨a3,j3,v3,s,rfl,⟨m,R⟩,b,p3,a1⟩)
  ·obtain ⟨q,rfl,-⟩ := id x; exact ⟨rfl,Steps.err (o.trans (P.bind_err s)) x E b⟩
  have I := o.trans (P.bind_ok s); obtain ⟨a2,a4,rfl⟩ := m.form; obtain ⟨b3,J,m⟩ := m.nm
  try simp at J
  have G3 := zb E b; have s3 := b.size
  try simp at s3
  have u := RB.k l b; have y := NB.k r b; have K := u.lt; have M := y.lt; obtain ⟨_,_,_,_,_,_,_,_,_,_,_⟩ := id u; obtain ⟨_,_,_,_,_,_⟩ := id y; go_wp2; refine zn Tryz.results63 rfl (RB.five ?_) rfl ?_
  ·exact RB.put u _ _ _
  refine Steps.ok (a := (T.mk 1 [] 0 (pos c.L i) a3)) I ⟨_,rfl,?_⟩ ?_ ?_ (by omega)
  ·exact (LR.p5 (LR.put m (by omega) _ _) (by omega)).wd
  ·exact zS (zC G3 (by omega) _ _) (by omega)
  ·exact PS.p5 (PS.put p3 A.out (by omega) _ _) A.out (by omega)
theorem tC (c : PC) (w : World) (i d : Nat) (h : PS c w i d) (hp : Part c d (fun _ => True) 168 #[.pointer (some ⟨c.pb,0,none⟩)] (vZ c.L)) :
  Calls Tryz.prog 154 #[.pointer (some ⟨c.pb,0,none⟩)] w (Steps c w i d (fun w' t v => TR w' w.heap.size w'.heap.size t v) (xo c.L i)) := by
 have O := za h; have C := za h.low; have hb := h.lt; clear h
 go_enter Tryz.func154,Tryz.ntmps154
 go_wp2_with fail; go_at_call 59; refine (yA c _ i d 1 (PS.alloc O.out _)).mono ?_; rintro e z ⟨rfl,g⟩; have R : PS c z i d := PS.kept (PS.alloc O.out _) g; have X : w.grownBy z (some c.pb) := zb ga (zJ g (some c.pb)); have Y := g.size
 try simp at Y
 have n : RB z w.heap.size := RB.kept (RB.new' (by simp)) g (by simp); have D := n.lt; obtain ⟨_,_,_,_,_,_,_,_,_,_,_⟩ := id n; go_wp2_with fail; go_at_call 29; refine (ud c _ i d (PS.alloc R _)).mono ?_; rintro e A ⟨rfl,f⟩; have U : PS c A i d := PS.kept (PS.alloc R _) f; have E : w.grownBy A (some c.pb) := zb (zf X _) (zJ f (some c.pb)); have Z := f.size
 try simp at Z
 have j : RB A w.heap.size := RB.kept (RB.alloc n _) f (by simp); have o : NB A z.heap.size (.int .i64 1) (.string ⟨#[]⟩) (.int .i64 0) (.int .i64 (pos c.L i)) (.slice none 0 0) := NB.kept (NB.new' (by simp)) f (by simp); have F := j.lt; have H := o.lt; obtain ⟨_,_,_,_,_,_,_,_,_,_,_⟩ := id j; obtain ⟨_,_,_,_,_,_⟩ := id o
 by_cases B : wd c.L i = yw
 ·have I : (wd c.L i == [40]) = true := by rw [B]; decide
  have m : xo c.L i = _ := if_pos B; go_wp2_with fail; go_at_call 167; refine (gf c _ i d 168 (vZ c.L) zE _ rfl (by decide) U hp).mono ?_; rintro e w3 (⟨x3,r,u,b⟩ | ⟨a3,j3,v3,r,rfl,⟨l,V⟩,b,p3,a0⟩)
  ·obtain ⟨q,rfl,-⟩ := id u; exact ⟨rfl,Steps.err (m.trans (P.bind_err r)) u E b⟩
  have J : xo c.L i = _ := m.trans (P.bind_ok r); obtain ⟨a1,a2,rfl⟩ := l.form; obtain ⟨b3,K,l⟩ := l.nm
  try simp at K
  have G3 := zb E b; have s3 := b.size
  try simp at s3
  have s := RB.k j b; have x := NB.k o b; have M := s.lt; have N := x.lt; obtain ⟨_,_,_,_,_,_,_,_,_,_,_⟩ := id s; obtain ⟨_,_,_,_,_,_⟩ := id x; go_wp2; refine zn Tryz.results154 rfl (RB.five ?_) rfl ?_
  ·exact RB.put s _ _ _
  refine Steps.ok (a := (T.mk 1 [] 0 (pos c.L i) a3)) J ⟨_,rfl,?_⟩ ?_ ?_ (by omega)
  ·exact (LR.p5 (LR.put l (by omega) _ _) (by omega)).wd
  ·exact zS (zC G3 (by omega) _ _) (by omega)
  ·exact PS.p5 (PS.put p3 C.out (by omega) _ _) C.out (by omega)
 ·have I : (wd c.L i == [40]) = false := by simpa [yw] using B
  have y : xo c.L i = _ := if_neg B; go_wp2; refine zn Tryz.results154 rfl (RB.five ?_) rfl ?_
  ·exact j
  refine Steps.ok (a := (T.mk 1 [] 0 (pos c.L i) [])) y ⟨_,rfl,?_⟩ ?_ ?_ (by omega)
  ·exact LR.nil _ _
  ·exact zS E (by omega)
  ·exact PS.p5 U C.out (by omega)
end Go.Proofs.YtfjgelmllcnokaaGreatDoor
