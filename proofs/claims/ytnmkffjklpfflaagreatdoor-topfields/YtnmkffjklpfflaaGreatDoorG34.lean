/- Declarations. -/
import Derived.Test.YtnmkffjklpfflaaGreatDoorG10
namespace Go.Proofs.YtnmkffjklpfflaaGreatDoor
open Go.RowKit
set_option maxHeartbeats 400000
set_option maxRecDepth 100000
theorem dF (c : PC) (w : World) (i d : Nat) (h : PS c w i d) :
  Calls Tryz.prog 94 #[pq c.pb] w (Steps c w i d (fun w' t v => TR w' w.heap.size w'.heap.size t v) (vj c.L i)) := by
 have J := zc h; have K := zc h.low; have hb := h.lt; clear h
 go_enter Tryz.func94,Tryz.ntmps94
 go_wp2_with fail; go_at_call 144; refine (vE c _ i d 6 (PS.alloc J.out _)).mono ?_; rintro e x (⟨x1,l,r,g⟩ | ⟨⟨M,N,O,Q,z⟩,R,v1,l,rfl,⟨U,rfl,b⟩,g,V,X⟩)
 ·obtain ⟨q,rfl,-⟩ := id r; exact ⟨rfl,Steps.err (P.bind_err l) r ga g⟩
 have s : vj c.L i = _ := P.bind_ok l; simp only [T.kind,T.name,T.num,T.at',T.subs] at b ⊢; obtain ⟨A,B,rfl⟩ := b.form; obtain ⟨H,C,b⟩ := b.nm
 try simp at C
 have I := za ga g; have Y := g.size
 try simp at Y
 have m : RB x w.heap.size := RB.k (RB.new' (by simp)) g; have D := m.lt; obtain ⟨_,_,_,_,_,_,_,_,_,_,_⟩ := id m; go_wp2_with fail; go_at_call 147; refine (uf c _ R d (T.mk M N O Q z) H x.heap.size _ V ⟨_,rfl,(show LR _ (In H x.heap.size) z (.slice A z.length B) from b)⟩).mono ?_; rintro e w2 (⟨x2,n,u,f⟩ | ⟨⟨Z,n2,m2,q2,l2⟩,j2,v2,n,rfl,⟨a0,rfl,j⟩,f,p2,a1⟩)
 ·obtain ⟨q,rfl,-⟩ := id u; exact ⟨rfl,Steps.err (s.trans n) u I f⟩
 have E := s.trans n; simp only [T.kind,T.name,T.num,T.at',T.subs] at j ⊢; obtain ⟨a2,a3,rfl⟩ := j.form; obtain ⟨b2,F,j⟩ := j.nm
 try simp at F
 have G2 := za I f; have s2 := f.size
 try simp at s2
 have o := RB.k m f; have a4 := LR.c b f; have G := o.lt; obtain ⟨_,_,_,_,_,_,_,_,_,_,_⟩ := id o; go_wp2; refine zn Tryz.results94 rfl (RB.five ?_) rfl ?_
 ·exact o
 refine Steps.ok (a := (T.mk Z n2 m2 q2 l2)) E ⟨_,rfl,?_⟩ ?_ ?_ (by omega)
 ·exact (LR.p5 j (by omega)).wd
 ·exact zC G2 (by omega)
 ·exact PS.p5 p2 K.out (by omega)
theorem gD (c : PC) (w : World) (i d : Nat) (h : PS c w i d) :
  Calls Tryz.prog 203 #[pq c.pb] w (Steps c w i d (fun w' t v => TR w' w.heap.size w'.heap.size t v) (fh c.L i)) := by
 have J := zc h; have K := zc h.low; have hb := h.lt; clear h
 go_enter Tryz.func203,Tryz.ntmps203
 go_wp2_with fail; go_at_call 144; refine (vE c _ i d 11 (PS.alloc J.out _)).mono ?_; rintro e x (⟨x1,l,r,g⟩ | ⟨⟨M,N,O,Q,z⟩,R,v1,l,rfl,⟨U,rfl,b⟩,g,V,X⟩)
 ·obtain ⟨q,rfl,-⟩ := id r; exact ⟨rfl,Steps.err (P.bind_err l) r ga g⟩
 have s : fh c.L i = _ := P.bind_ok l; simp only [T.kind,T.name,T.num,T.at',T.subs] at b ⊢; obtain ⟨A,B,rfl⟩ := b.form; obtain ⟨H,C,b⟩ := b.nm
 try simp at C
 have I := za ga g; have Y := g.size
 try simp at Y
 have m : RB x w.heap.size := RB.k (RB.new' (by simp)) g; have D := m.lt; obtain ⟨_,_,_,_,_,_,_,_,_,_,_⟩ := id m; go_wp2_with fail; go_at_call 147; refine (uf c _ R d (T.mk M N O Q z) H x.heap.size _ V ⟨_,rfl,(show LR _ (In H x.heap.size) z (.slice A z.length B) from b)⟩).mono ?_; rintro e w2 (⟨x2,n,u,f⟩ | ⟨⟨Z,n2,m2,q2,l2⟩,j2,v2,n,rfl,⟨a0,rfl,j⟩,f,p2,a1⟩)
 ·obtain ⟨q,rfl,-⟩ := id u; exact ⟨rfl,Steps.err (s.trans n) u I f⟩
 have E := s.trans n; simp only [T.kind,T.name,T.num,T.at',T.subs] at j ⊢; obtain ⟨a2,a3,rfl⟩ := j.form; obtain ⟨b2,F,j⟩ := j.nm
 try simp at F
 have G2 := za I f; have s2 := f.size
 try simp at s2
 have o := RB.k m f; have a4 := LR.c b f; have G := o.lt; obtain ⟨_,_,_,_,_,_,_,_,_,_,_⟩ := id o; go_wp2; refine zn Tryz.results203 rfl (RB.five ?_) rfl ?_
 ·exact o
 refine Steps.ok (a := (T.mk Z n2 m2 q2 l2)) E ⟨_,rfl,?_⟩ ?_ ?_ (by omega)
 ·exact (LR.p5 j (by omega)).wd
 ·exact zC G2 (by omega)
 ·exact PS.p5 p2 K.out (by omega)
theorem ki (c : PC) (w : World) (i d : Nat) (h : PS c w i d) :
  Calls Tryz.prog 180 #[pq c.pb] w (Steps c w i d (fun w' t v => TR w' w.heap.size w'.heap.size t v) (kr c.L i)) := by
 have J := zc h; have K := zc h.low; have hb := h.lt; clear h
 go_enter Tryz.func180,Tryz.ntmps180
 go_wp2_with fail; go_at_call 142; refine (ue c _ i d 6 (PS.alloc J.out _)).mono ?_; rintro e x (⟨x1,l,r,g⟩ | ⟨⟨M,N,O,Q,z⟩,R,v1,l,rfl,⟨U,rfl,b⟩,g,V,X⟩)
 ·obtain ⟨q,rfl,-⟩ := id r; exact ⟨rfl,Steps.err (P.bind_err l) r ga g⟩
 have s : kr c.L i = _ := P.bind_ok l; simp only [T.kind,T.name,T.num,T.at',T.subs] at b ⊢; obtain ⟨A,B,rfl⟩ := b.form; obtain ⟨H,C,b⟩ := b.nm
 try simp at C
 have I := za ga g; have Y := g.size
 try simp at Y
 have m : RB x w.heap.size := RB.k (RB.new' (by simp)) g; have D := m.lt; obtain ⟨_,_,_,_,_,_,_,_,_,_,_⟩ := id m; go_wp2_with fail; go_at_call 147; refine (uf c _ R d (T.mk M N O Q z) H x.heap.size _ V ⟨_,rfl,(show LR _ (In H x.heap.size) z (.slice A z.length B) from b)⟩).mono ?_; rintro e w2 (⟨x2,n,u,f⟩ | ⟨⟨Z,n2,m2,q2,l2⟩,j2,v2,n,rfl,⟨a0,rfl,j⟩,f,p2,a1⟩)
 ·obtain ⟨q,rfl,-⟩ := id u; exact ⟨rfl,Steps.err (s.trans n) u I f⟩
 have E := s.trans n; simp only [T.kind,T.name,T.num,T.at',T.subs] at j ⊢; obtain ⟨a2,a3,rfl⟩ := j.form; obtain ⟨b2,F,j⟩ := j.nm
 try simp at F
 have G2 := za I f; have s2 := f.size
 try simp at s2
 have o := RB.k m f; have a4 := LR.c b f; have G := o.lt; obtain ⟨_,_,_,_,_,_,_,_,_,_,_⟩ := id o; go_wp2; refine zn Tryz.results180 rfl (RB.five ?_) rfl ?_
 ·exact o
 refine Steps.ok (a := (T.mk Z n2 m2 q2 l2)) E ⟨_,rfl,?_⟩ ?_ ?_ (by omega)
 ·exact (LR.p5 j (by omega)).wd
 ·exact zC G2 (by omega)
 ·exact PS.p5 p2 K.out (by omega)
theorem dE (c : PC) (w : World) (i d : Nat) (E : P T) (h : PS c w i d) (hE : ExprOK c d E) :
  Calls Tryz.prog 92 #[pq c.pb] w (Steps c w i d (fun w' t v => TR w' w.heap.size w'.heap.size t v) (((xj c.L 4).bind fun n => (zB c.L dB).bind fun _ => E.bind fun e => P.ret (jQ n e)) i)) := by
 have HP := zc h; have HL := zc h.low; have hb := h.lt; clear h
 go_enter Tryz.func92,Tryz.ntmps92
 go_wp2_with fail; go_at_call 144; refine (vE c _ i d 4 (PS.alloc HP.out _)).mono ?_; rintro e M (⟨x1,m,A,g⟩ | ⟨⟨k1,n1,m1,q1,N⟩,j1,v1,m,rfl,⟨a7,rfl,j⟩,g,p1,a8⟩)
 ·obtain ⟨q,rfl,-⟩ := id A; exact ⟨rfl,Steps.err (P.bind_err m) A ga g⟩
 have B : ((xj c.L 4).bind fun n => (zB c.L dB).bind fun _ => E.bind fun e => P.ret (jQ n e)) i = _ := P.bind_ok m; simp only [T.kind,T.name,T.num,T.at',T.subs] at j ⊢; obtain ⟨C,D,rfl⟩ := j.form; obtain ⟨b1,O,j⟩ := j.nm
 try simp at O
 have G1 := za ga g; have s1 := g.size
 try simp at s1
 have o : RB M w.heap.size := RB.k (RB.new' (by simp)) g; have Q := o.lt; obtain ⟨_,_,_,_,_,_,_,_,_,_,_⟩ := id o; go_wp2_with fail; go_at_call 88; refine (zy c _ j1 d dB _ rfl (by decide) (PS.alloc p1 _)).mono ?_; rintro e K (⟨x2,r,F,b⟩ | ⟨a2,j2,v2,r,rfl,-,b,p2,a9⟩)
 ·obtain ⟨q,rfl,-⟩ := id F; exact ⟨rfl,Steps.err (B.trans (P.bind_err r)) F (zh G1 _) b⟩
 have G : ((xj c.L 4).bind fun n => (zB c.L dB).bind fun _ => E.bind fun e => P.ret (jQ n e)) i = _ := B.trans (P.bind_ok r); have G2 : w.grownBy K (some c.pb) := za (zh G1 _) b; have s2 := b.size
 try simp at s2
 have s : RB K w.heap.size := RB.k (RB.alloc o _) b; have u : NB K M.heap.size (.int .i64 k1) (.string ⟨n1.toArray⟩) (.int .i64 m1) (.int .i64 q1) (.slice C N.length D) := NB.k (NB.new' (by simp)) b; have R : LR K (In b1 M.heap.size) N (.slice C N.length D) := LR.c (LR.alloc j _) b; have U := s.lt; have V := u.lt; obtain ⟨_,_,_,_,_,_,_,_,_,_,_⟩ := id s; obtain ⟨_,_,_,_,_,_⟩ := id u; go_wp2_with fail; go_at_call 145; refine (hE.call _ j2 p2 trivial).mono ?_; rintro e w3 (⟨x3,x,H,f⟩ | ⟨⟨X,Y,Z,q3,I⟩,j3,v3,x,rfl,⟨b0,rfl,l⟩,f,p3,b2⟩)
 ·obtain ⟨q,rfl,-⟩ := id H; exact ⟨rfl,Steps.err (G.trans (P.bind_err x)) H G2 f⟩
 have a0 : ((xj c.L 4).bind fun n => (zB c.L dB).bind fun _ => E.bind fun e => P.ret (jQ n e)) i = _ := G.trans (P.bind_ok x); simp only [T.kind,T.name,T.num,T.at',T.subs] at l ⊢; obtain ⟨a1,a3,rfl⟩ := l.form; obtain ⟨b3,a4,l⟩ := l.nm
 try simp at a4
 have G3 := za G2 f; have s3 := f.size
 try simp at s3
 have z := RB.k s f; have J := NB.k u f; have b4 := LR.c R f; have a5 := z.lt; have a6 := J.lt; obtain ⟨_,_,_,_,_,_,_,_,_,_,_⟩ := id z; obtain ⟨_,_,_,_,_,_⟩ := id J; go_wp2; refine zn Tryz.results92 rfl (NB.alloc (RB.five ?_) _) rfl ?_
 ·exact RB.put z _ _ _
 refine Steps.ok (a := (T.mk k1 n1 m1 q1 [(T.mk X Y Z q3 I)])) a0 ⟨_,rfl,?_⟩ ?_ ?_ (by omega)
 ·refine LR.wide (lo := b3) (hi := w3.heap.size + 1) (ts := [(T.mk X Y Z q3 I)]) ?_ (by omega) (by first | omega | (simp <;> omega))
  exact (LR.build1 _ (t := (T.mk X Y Z q3 I)) (sv := .slice a1 I.length a3) (LR.wide (lo := b3) (hi := w3.heap.size) (ts := I) (LR.p5 (LR.put l (by omega) _ _) (by omega)) (by omega) (by first | omega | (simp <;> omega))) (by simp) rfl (by omega))
 ·exact zh (zC (zs G3 (by omega) _ _) (by omega)) _
 ·exact PS.alloc (PS.p5 (PS.put p3 HL.out (by omega) _ _) HL.out (by omega)) _
theorem jz (c : PC) (w : World) (i d : Nat) (h : PS c w i d) (hT : PartOK c d 146 (ya c.L)) :
  Calls Tryz.prog 93 #[pq c.pb] w (Steps c w i d (fun w' t v => TR w' w.heap.size w'.heap.size t v) (vt c.L i)) := by
 have HP := zc h; have HL := zc h.low; have hb := h.lt; clear h
 go_enter Tryz.func93,Tryz.ntmps93
 go_wp2_with fail; go_at_call 144; refine (vE c _ i d 5 (PS.alloc HP.out _)).mono ?_; rintro e J (⟨x1,m,z,g⟩ | ⟨⟨k1,n1,m1,q1,K⟩,j1,v1,m,rfl,⟨a6,rfl,j⟩,g,p1,a7⟩)
 ·obtain ⟨q,rfl,-⟩ := id z; exact ⟨rfl,Steps.err (P.bind_err m) z ga g⟩
 have A : vt c.L i = _ := P.bind_ok m; simp only [T.kind,T.name,T.num,T.at',T.subs] at j ⊢; obtain ⟨B,C,rfl⟩ := j.form; obtain ⟨b1,M,j⟩ := j.nm
 try simp at M
 have G1 := za ga g; have s1 := g.size
 try simp at s1
 have n : RB J w.heap.size := RB.k (RB.new' (by simp)) g; have N := n.lt; obtain ⟨_,_,_,_,_,_,_,_,_,_,_⟩ := id n; go_wp2_with fail; go_at_call 88; refine (zy c _ j1 d dB _ rfl (by decide) (PS.alloc p1 _)).mono ?_; rintro e I (⟨x2,o,D,b⟩ | ⟨a2,j2,v2,o,rfl,-,b,p2,a8⟩)
 ·obtain ⟨q,rfl,-⟩ := id D; exact ⟨rfl,Steps.err (A.trans (P.bind_err o)) D (zh G1 _) b⟩
 have E := A.trans (P.bind_ok o); have G2 : w.grownBy I (some c.pb) := za (zh G1 _) b; have s2 := b.size
 try simp at s2
 have r : RB I w.heap.size := RB.k (RB.alloc n _) b; have s : NB I J.heap.size (.int .i64 k1) (.string ⟨n1.toArray⟩) (.int .i64 m1) (.int .i64 q1) (.slice B K.length C) := NB.k (NB.new' (by simp)) b; have O : LR I (In b1 J.heap.size) K (.slice B K.length C) := LR.c (LR.alloc j _) b; have Q := r.lt; have R := s.lt; obtain ⟨_,_,_,_,_,_,_,_,_,_,_⟩ := id r; obtain ⟨_,_,_,_,_,_⟩ := id s; go_wp2_with fail; go_at_call 146; refine (hT _ j2 p2).mono ?_; rintro e w3 (⟨x3,u,F,f⟩ | ⟨⟨U,V,X,Y,G⟩,j3,v3,u,rfl,⟨a9,rfl,l⟩,f,p3,b0⟩)
 ·obtain ⟨q,rfl,-⟩ := id F; exact ⟨rfl,Steps.err (E.trans (P.bind_err u)) F G2 f⟩
 have Z := E.trans (P.bind_ok u); simp only [T.kind,T.name,T.num,T.at',T.subs] at l ⊢; obtain ⟨a0,a1,rfl⟩ := l.form; obtain ⟨b3,a3,l⟩ := l.nm
 try simp at a3
 have G3 := za G2 f; have s3 := f.size
 try simp at s3
 have x := RB.k r f; have H := NB.k s f; have b2 := LR.c O f; have a4 := x.lt; have a5 := H.lt; obtain ⟨_,_,_,_,_,_,_,_,_,_,_⟩ := id x; obtain ⟨_,_,_,_,_,_⟩ := id H; go_wp2; refine zn Tryz.results93 rfl (NB.alloc (RB.five ?_) _) rfl ?_
 ·exact RB.put x _ _ _
 refine Steps.ok (a := (T.mk k1 n1 m1 q1 [(T.mk U V X Y G)])) Z ⟨_,rfl,?_⟩ ?_ ?_ (by omega)
 ·refine LR.wide (lo := b3) (hi := w3.heap.size + 1) (ts := [(T.mk U V X Y G)]) ?_ (by omega) (by first | omega | (simp <;> omega))
  exact (LR.build1 _ (t := (T.mk U V X Y G)) (sv := .slice a0 G.length a1) (LR.wide (lo := b3) (hi := w3.heap.size) (ts := G) (LR.p5 (LR.put l (by omega) _ _) (by omega)) (by omega) (by first | omega | (simp <;> omega))) (by simp) rfl (by omega))
 ·exact zh (zC (zs G3 (by omega) _ _) (by omega)) _
 ·exact PS.alloc (PS.p5 (PS.put p3 HL.out (by omega) _ _) HL.out (by omega)) _
theorem gM (c : PC) (w : World) (i d : Nat) (h : PS c w i d) :
  Calls Tryz.prog 205 #[pq c.pb] w (Steps c w i d (fun w' t v => TR w' w.heap.size w'.heap.size t v) (xw c.L i)) := by
 have HP := zc h; have O := zc h.low; have hb := h.lt; clear h
 go_enter Tryz.func205,Tryz.ntmps205
 go_wp2_with fail; go_at_call 87; refine (zL c _ i d 8 (PS.alloc HP.out _)).mono ?_; rintro e E ⟨rfl,z⟩; have p1 : PS c E i d := PS.kept (PS.alloc HP.out _) z; have G1 : w.grownBy E (some c.pb) := za ga (zv z (some c.pb)); have s1 := z.size
 try simp at s1
 have F : RB E w.heap.size := RB.kept (RB.new' (by simp)) z (by simp); have X := F.lt; obtain ⟨_,_,_,_,_,_,_,_,_,_,_⟩ := id F; go_wp2_with fail; go_at_call 137; refine (yp c _ i d dm _ rfl (by decide) (PS.alloc p1 _)).mono ?_; rintro e Y ⟨b2,j2,Z,rfl,A,p2,b0⟩; have B : xw c.L i = _ := P.bind_ok Z; have U : w.grownBy Y (some c.pb) := za (zh G1 _) A; have s2 := A.size
 try simp at s2
 have C : RB Y w.heap.size := RB.k (RB.alloc F _) A; have D : NB Y E.heap.size (.int .i64 8) (.string ⟨#[]⟩) (.int .i64 0) (.int .i64 (pos c.L i)) (.slice none 0 0) := NB.k (NB.new' (by simp)) A; have a0 := C.lt; have a1 := D.lt; obtain ⟨_,_,_,_,_,_,_,_,_,_,_⟩ := id C; obtain ⟨_,_,_,_,_,_⟩ := id D; cases b2
 ·go_wp2_with fail
  go_at_call 89; refine (vQ c _ j2 d p2).mono ?_; rintro e V (⟨x3,j,r,b⟩ | ⟨Q,j3,v3,j,rfl,⟨rfl,a2,a4⟩,b,p3,a5⟩)
  ·obtain ⟨q,rfl,-⟩ := id r; exact ⟨rfl,Steps.err (B.trans (P.bind_err j)) r U b⟩
  have s := B.trans (P.bind_ok j); have R := za U b; have s3 := b.size
  try simp at s3
  have l := RB.k C b; have m := NB.k D b; have G := l.lt; have H := m.lt; obtain ⟨_,_,_,_,_,_,_,_,_,_,_⟩ := id l; obtain ⟨_,_,_,_,_,_⟩ := id m; go_wp2_with fail; go_at_call 147; refine (uf c _ j3 d (T.mk 8 Q 0 (pos c.L i) []) 0 0 _ (PS.put p3 O.out (by omega) _ _) ⟨_,rfl,LR.nil _ _⟩).mono ?_; rintro e I (⟨x4,n,u,f⟩ | ⟨⟨k4,n4,m4,q4,l4⟩,j4,v4,n,rfl,⟨a6,rfl,g⟩,f,p4,a7⟩)
  ·obtain ⟨q,rfl,-⟩ := id u; exact ⟨rfl,Steps.err (s.trans n) u (zs R (by omega) _ _) f⟩
  have J := s.trans n; simp only [T.kind,T.name,T.num,T.at',T.subs] at g ⊢; obtain ⟨a8,a9,rfl⟩ := g.form; obtain ⟨b4,K,g⟩ := g.nm
  try simp at K
  have G4 : w.grownBy I (some c.pb) := za (zs R (by omega) _ _) f; have s4 := f.size
  try simp at s4
  have o : RB I w.heap.size := RB.k (RB.put l _ _ _) f; have x : NB I E.heap.size (.int .i64 8) (.string ⟨Q.toArray⟩) (.int .i64 0) (.int .i64 (pos c.L i)) (.slice none 0 0) := NB.k (NB.s1 m _) f; have M := o.lt; have N := x.lt; obtain ⟨_,_,_,_,_,_,_,_,_,_,_⟩ := id o; obtain ⟨_,_,_,_,_,_⟩ := id x; go_wp2; refine zn Tryz.results205 rfl (RB.five ?_) rfl ?_
  ·exact o
  refine Steps.ok (a := (T.mk k4 n4 m4 q4 l4)) J ⟨_,rfl,?_⟩ ?_ ?_ (by omega)
  ·exact (LR.p5 g (by omega)).wd
  ·exact zC G4 (by omega)
  ·exact PS.p5 p4 O.out (by omega)
 ·go_wp2_with fail
  go_at_call 89; refine (vQ c _ j2 d (PS.put p2 O.out (by omega) _ _)).mono ?_; rintro e V (⟨x3,j,r,b⟩ | ⟨Q,j3,v3,j,rfl,⟨rfl,a2,a4⟩,b,p3,a5⟩)
  ·obtain ⟨q,rfl,-⟩ := id r; exact ⟨rfl,Steps.err (B.trans (P.bind_err j)) r (zs U (by omega) _ _) b⟩
  have s := B.trans (P.bind_ok j); have R : w.grownBy V (some c.pb) := za (zs U (by omega) _ _) b; have s3 := b.size
  try simp at s3
  have l : RB V w.heap.size := RB.k (RB.put C _ _ _) b; have m : NB V E.heap.size (.int .i64 8) (.string ⟨#[]⟩) (.int .i64 1) (.int .i64 (pos c.L i)) (.slice none 0 0) := NB.k (NB.s2 D _) b; have G := l.lt; have H := m.lt; obtain ⟨_,_,_,_,_,_,_,_,_,_,_⟩ := id l; obtain ⟨_,_,_,_,_,_⟩ := id m; go_wp2_with fail; go_at_call 147; refine (uf c _ j3 d (T.mk 8 Q 1 (pos c.L i) []) 0 0 _ (PS.put p3 O.out (by omega) _ _) ⟨_,rfl,LR.nil _ _⟩).mono ?_; rintro e I (⟨x4,n,u,f⟩ | ⟨⟨k4,n4,m4,q4,l4⟩,j4,v4,n,rfl,⟨a6,rfl,g⟩,f,p4,a7⟩)
  ·obtain ⟨q,rfl,-⟩ := id u; exact ⟨rfl,Steps.err (s.trans n) u (zs R (by omega) _ _) f⟩
  have J := s.trans n; simp only [T.kind,T.name,T.num,T.at',T.subs] at g ⊢; obtain ⟨a8,a9,rfl⟩ := g.form; obtain ⟨b4,K,g⟩ := g.nm
  try simp at K
  have G4 : w.grownBy I (some c.pb) := za (zs R (by omega) _ _) f; have s4 := f.size
  try simp at s4
  have o : RB I w.heap.size := RB.k (RB.put l _ _ _) f; have x : NB I E.heap.size (.int .i64 8) (.string ⟨Q.toArray⟩) (.int .i64 1) (.int .i64 (pos c.L i)) (.slice none 0 0) := NB.k (NB.s1 m _) f; have M := o.lt; have N := x.lt; obtain ⟨_,_,_,_,_,_,_,_,_,_,_⟩ := id o; obtain ⟨_,_,_,_,_,_⟩ := id x; go_wp2; refine zn Tryz.results205 rfl (RB.five ?_) rfl ?_
  ·exact o
  refine Steps.ok (a := (T.mk k4 n4 m4 q4 l4)) J ⟨_,rfl,?_⟩ ?_ ?_ (by omega)
  ·exact (LR.p5 g (by omega)).wd
  ·exact zC G4 (by omega)
  ·exact PS.p5 p4 O.out (by omega)
theorem ns (c : PC) (w : World) (i d : Nat) (h : PS c w i d) :
  Calls Tryz.prog 174 #[pq c.pb] w (Steps c w i d (fun w' t v => TR w' w.heap.size w'.heap.size t v) (sj c.L i)) := by
 have HP := zc h; have R := zc h.low; have hb := h.lt; clear h
 go_enter Tryz.func174,Tryz.ntmps174
 go_wp2_with fail; go_at_call 87; refine (zL c _ i d 9 (PS.alloc HP.out _)).mono ?_; rintro e F ⟨rfl,m⟩; have p1 : PS c F i d := PS.kept (PS.alloc HP.out _) m; have G1 : w.grownBy F (some c.pb) := za ga (zv m (some c.pb)); have s1 := m.size
 try simp at s1
 have n : RB F w.heap.size := RB.kept (RB.new' (by simp)) m (by simp); have U := n.lt; obtain ⟨_,_,_,_,_,_,_,_,_,_,_⟩ := id n; go_wp2_with fail; go_at_call 88; refine (zy c _ i d fO _ rfl (by decide) (PS.alloc p1 _)).mono ?_; rintro e V (⟨x2,o,G,b⟩ | ⟨a2,j2,v2,o,rfl,-,b,p2,b2⟩)
 ·obtain ⟨q,rfl,-⟩ := id G; exact ⟨rfl,Steps.err (P.bind_err o) G (zh G1 _) b⟩
 have H : sj c.L i = _ := P.bind_ok o; have G2 : w.grownBy V (some c.pb) := za (zh G1 _) b; have s2 := b.size
 try simp at s2
 have r : RB V w.heap.size := RB.k (RB.alloc n _) b; have s : NB V F.heap.size (.int .i64 9) (.string ⟨#[]⟩) (.int .i64 0) (.int .i64 (pos c.L i)) (.slice none 0 0) := NB.k (NB.new' (by simp)) b; have X := r.lt; have Y := s.lt; obtain ⟨_,_,_,_,_,_,_,_,_,_,_⟩ := id r; obtain ⟨_,_,_,_,_,_⟩ := id s; go_wp2_with fail; go_at_call 202; refine (qR c _ j2 d p2).mono ?_; rintro e w3 (⟨x3,u,I,f⟩ | ⟨a3,j3,v3,u,rfl,rfl,f,p3,b3⟩)
 ·obtain ⟨q,rfl,-⟩ := id I; exact ⟨rfl,Steps.err (H.trans (P.bind_err u)) I G2 f⟩
 have J := H.trans (P.bind_ok u); have G3 := za G2 f; have s3 := f.size
 try simp at s3
 have x := RB.k r f; have z := NB.k s f; have Z := x.lt; have a0 := z.lt; obtain ⟨_,_,_,_,_,_,_,_,_,_,_⟩ := id x; obtain ⟨_,_,_,_,_,_⟩ := id z; go_wp2_with fail; go_at_call 88; refine (zy c _ j3 d kOF _ rfl (by decide) (PS.put p3 R.out (by omega) _ _)).mono ?_; rintro e w4 (⟨x4,A,K,g⟩ | ⟨a4,j4,v4,A,rfl,-,g,p4,b4⟩)
 ·obtain ⟨q,rfl,-⟩ := id K; exact ⟨rfl,Steps.err (J.trans (P.bind_err A)) K (zs G3 (by omega) _ _) g⟩
 have M := J.trans (P.bind_ok A); have G4 : w.grownBy w4 (some c.pb) := za (zs G3 (by omega) _ _) g; have s4 := g.size
 try simp at s4
 have B : RB w4 w.heap.size := RB.k (RB.put x _ _ _) g; have C : NB w4 F.heap.size (.int .i64 9) (.string ⟨#[]⟩) (.int .i64 a3) (.int .i64 (pos c.L i)) (.slice none 0 0) := NB.k (NB.s2 z _) g; have a1 := B.lt; have a5 := C.lt; obtain ⟨_,_,_,_,_,_,_,_,_,_,_⟩ := id B; obtain ⟨_,_,_,_,_,_⟩ := id C; go_wp2_with fail; go_at_call 177; refine (yW c _ j4 d p4).mono ?_; rintro e w5 (⟨x5,D,N,j⟩ | ⟨⟨k5,n5,m5,q5,O⟩,j5,v5,D,rfl,⟨b6,rfl,l⟩,j,p5,b7⟩)
 ·obtain ⟨q,rfl,-⟩ := id N; exact ⟨rfl,Steps.err (M.trans (P.bind_err D)) N G4 j⟩
 have a6 := M.trans (P.bind_ok D); simp only [T.kind,T.name,T.num,T.at',T.subs] at l ⊢; obtain ⟨a7,a8,rfl⟩ := l.form; obtain ⟨b5,a9,l⟩ := l.nm
 try simp at a9
 have G5 := za G4 j; have s5 := j.size
 try simp at s5
 have E := RB.k B j; have Q := NB.k C j; have b0 := E.lt; have b1 := Q.lt; obtain ⟨_,_,_,_,_,_,_,_,_,_,_⟩ := id E; obtain ⟨_,_,_,_,_,_⟩ := id Q; go_wp2; refine zn Tryz.results174 rfl (NB.alloc (RB.five ?_) _) rfl ?_
 ·exact RB.put E _ _ _
 refine Steps.ok (a := (T.mk 9 [] a3 (pos c.L i) [(T.mk k5 n5 m5 q5 O)])) a6 ⟨_,rfl,?_⟩ ?_ ?_ (by omega)
 ·refine LR.wide (lo := b5) (hi := w5.heap.size + 1) (ts := [(T.mk k5 n5 m5 q5 O)]) ?_ (by omega) (by first | omega | (simp <;> omega))
  exact (LR.build1 _ (t := (T.mk k5 n5 m5 q5 O)) (sv := .slice a7 O.length a8) (LR.wide (lo := b5) (hi := w5.heap.size) (ts := O) (LR.p5 (LR.put l (by omega) _ _) (by omega)) (by omega) (by first | omega | (simp <;> omega))) (by simp) rfl (by omega))
 ·exact zh (zC (zs G5 (by omega) _ _) (by omega)) _
 ·exact PS.alloc (PS.p5 (PS.put p5 R.out (by omega) _ _) R.out (by omega)) _
theorem tR (c : PC) (w : World) (i d : Nat) (h : PS c w i d) :
  Calls Tryz.prog 176 #[pq c.pb] w (Steps c w i d (fun w' t v => TR w' w.heap.size w'.heap.size t v) (qa c.L i)) := by
 have HP := zc h; have HL := zc h.low; have hb := h.lt; clear h
 go_enter Tryz.func176,Tryz.ntmps176
 go_wp2_with fail; go_at_call 87; refine (zL c _ i d 12 (PS.alloc HP.out _)).mono ?_; rintro e I ⟨rfl,l⟩; have p1 : PS c I i d := PS.kept (PS.alloc HP.out _) l; have G1 : w.grownBy I (some c.pb) := za ga (zv l (some c.pb)); have s1 := l.size
 try simp at s1
 have m : RB I w.heap.size := RB.kept (RB.new' (by simp)) l (by simp); have J := m.lt; obtain ⟨_,_,_,_,_,_,_,_,_,_,_⟩ := id m; go_wp2_with fail; go_at_call 88; refine (zy c _ i d jG _ rfl (by decide) (PS.alloc p1 _)).mono ?_; rintro e K (⟨x2,n,B,b⟩ | ⟨a2,j2,v2,n,rfl,-,b,p2,a6⟩)
 ·obtain ⟨q,rfl,-⟩ := id B; exact ⟨rfl,Steps.err (P.bind_err n) B (zh G1 _) b⟩
 have C : qa c.L i = _ := P.bind_ok n; have G2 : w.grownBy K (some c.pb) := za (zh G1 _) b; have s2 := b.size
 try simp at s2
 have o : RB K w.heap.size := RB.k (RB.alloc m _) b; have r : NB K I.heap.size (.int .i64 12) (.string ⟨#[]⟩) (.int .i64 0) (.int .i64 (pos c.L i)) (.slice none 0 0) := NB.k (NB.new' (by simp)) b; have M := o.lt; have N := r.lt; obtain ⟨_,_,_,_,_,_,_,_,_,_,_⟩ := id o; obtain ⟨_,_,_,_,_,_⟩ := id r; go_wp2_with fail; go_at_call 88; refine (zy c _ j2 d kTO _ rfl (by decide) p2).mono ?_; rintro e w3 (⟨x3,s,D,f⟩ | ⟨a3,j3,v3,s,rfl,-,f,p3,a7⟩)
 ·obtain ⟨q,rfl,-⟩ := id D; exact ⟨rfl,Steps.err (C.trans (P.bind_err s)) D G2 f⟩
 have E := C.trans (P.bind_ok s); have G3 := za G2 f; have s3 := f.size
 try simp at s3
 have u := RB.k o f; have x := NB.k r f; have O := u.lt; have Q := x.lt; obtain ⟨_,_,_,_,_,_,_,_,_,_,_⟩ := id u; obtain ⟨_,_,_,_,_,_⟩ := id x; go_wp2_with fail; go_at_call 177; refine (yW c _ j3 d p3).mono ?_; rintro e w4 (⟨x4,z,F,g⟩ | ⟨⟨R,U,V,X,G⟩,j4,v4,z,rfl,⟨a8,rfl,j⟩,g,p4,a9⟩)
 ·obtain ⟨q,rfl,-⟩ := id F; exact ⟨rfl,Steps.err (E.trans (P.bind_err z)) F G3 g⟩
 have Y := E.trans (P.bind_ok z); simp only [T.kind,T.name,T.num,T.at',T.subs] at j ⊢; obtain ⟨Z,a0,rfl⟩ := j.form; obtain ⟨b4,a1,j⟩ := j.nm
 try simp at a1
 have G4 := za G3 g; have s4 := g.size
 try simp at s4
 have A := RB.k u g; have H := NB.k x g; have a4 := A.lt; have a5 := H.lt; obtain ⟨_,_,_,_,_,_,_,_,_,_,_⟩ := id A; obtain ⟨_,_,_,_,_,_⟩ := id H; go_wp2; refine zn Tryz.results176 rfl (NB.alloc (RB.five ?_) _) rfl ?_
 ·exact RB.put A _ _ _
 refine Steps.ok (a := (T.mk 12 [] 0 (pos c.L i) [(T.mk R U V X G)])) Y ⟨_,rfl,?_⟩ ?_ ?_ (by omega)
 ·refine LR.wide (lo := b4) (hi := w4.heap.size + 1) (ts := [(T.mk R U V X G)]) ?_ (by omega) (by first | omega | (simp <;> omega))
  exact (LR.build1 _ (t := (T.mk R U V X G)) (sv := .slice Z G.length a0) (LR.wide (lo := b4) (hi := w4.heap.size) (ts := G) (LR.p5 (LR.put j (by omega) _ _) (by omega)) (by omega) (by first | omega | (simp <;> omega))) (by simp) rfl (by omega))
 ·exact zh (zC (zs G4 (by omega) _ _) (by omega)) _
 ·exact PS.alloc (PS.p5 (PS.put p4 HL.out (by omega) _ _) HL.out (by omega)) _
theorem rL (c : PC) (w : World) (i d : Nat) (h : PS c w i d) :
  Calls Tryz.prog 179 #[pq c.pb] w (Steps c w i d (fun w' t v => TR w' w.heap.size w'.heap.size t v) (gu c.L i)) := by
 have I := zc h; have H := zc h.low; have hb := h.lt; clear h
 go_enter Tryz.func179,Tryz.ntmps179
 go_wp2_with fail; go_at_call 137; refine (yp c _ i d kG _ rfl (by decide) (PS.alloc I.out _)).mono ?_; rintro e J ⟨K,x,r,rfl,l,z,M⟩; have m : gu c.L i = _ := P.bind_ok r; have A := za ga l; have N := l.size
 try simp at N
 have j : RB J w.heap.size := RB.k (RB.new' (by simp)) l; have B := j.lt; obtain ⟨_,_,_,_,_,_,_,_,_,_,_⟩ := id j; cases K
 ·have hj := kY r
  go_wp2_with fail; go_at_call 87; refine (zL c _ x d 0 z).mono ?_; rintro e u ⟨rfl,b⟩; have C : PS c u x d := PS.kept z b; have D : w.grownBy u (some c.pb) := za A (zv b (some c.pb)); have E := b.size
  try simp at E
  have f : RB u w.heap.size := RB.kept j b (by simp); have n := f.lt; obtain ⟨_,_,_,_,_,_,_,_,_,_,_⟩ := id f; go_wp2; refine zn Tryz.results179 rfl (RB.five ?_) rfl ?_
  ·exact f
  refine Steps.ok (a := (T.mk 0 [] 0 (pos c.L i) [])) m ⟨_,rfl,?_⟩ ?_ ?_ (by omega)
  ·exact LR.nil _ _
  ·exact zC D (by omega)
  ·exact PS.p5 C H.out (by omega)
 ·go_wp2_with fail
  go_at_call 177; refine (yW c _ x d z).mono ?_; rintro e u (⟨x2,o,s,b⟩ | ⟨⟨O,Q,R,U,V⟩,j2,v2,o,rfl,⟨X,rfl,g⟩,b,C,Y⟩)
  ·obtain ⟨q,rfl,-⟩ := id s; exact ⟨rfl,Steps.err (m.trans o) s A b⟩
  have F := m.trans o; simp only [T.kind,T.name,T.num,T.at',T.subs] at g ⊢; obtain ⟨Z,a0,rfl⟩ := g.form; obtain ⟨b2,G,g⟩ := g.nm
  try simp at G
  have D := za A b; have E := b.size
  try simp at E
  have f := RB.k j b; have n := f.lt; obtain ⟨_,_,_,_,_,_,_,_,_,_,_⟩ := id f; go_wp2; refine zn Tryz.results179 rfl (RB.five ?_) rfl ?_
  ·exact f
  refine Steps.ok (a := (T.mk O Q R U V)) F ⟨_,rfl,?_⟩ ?_ ?_ (by omega)
  ·exact (LR.p5 g (by omega)).wd
  ·exact zC D (by omega)
  ·exact PS.p5 C H.out (by omega)
theorem vO (c : PC) (w : World) (i d : Nat) (k : List UInt8) (sb : ByteArray) (hsb : sb.data.toList = k) (hk : k ≠ []) (g : Nat) (p : P T) (h : PS c w i d) (hp : Part c d (fun _ => True) g #[pq c.pb] p) :
  Calls Tryz.prog 91 #[pq c.pb,.string sb,.func (.func g) #[pq c.pb] #[]] w (Steps c w i d (fun w' t v => TR w' w.heap.size w'.heap.size t v) (xb c.L k p i)) := by
 have N := zc h; have B := zc h.low; have hb := h.lt; clear h
 go_enter Tryz.func91,Tryz.ntmps91
 go_wp2_with fail; go_at_call 87; refine (zL c _ i d 1 (PS.alloc N.out _)).mono ?_; rintro e A ⟨rfl,f⟩; have R : PS c A i d := PS.kept (PS.alloc N.out _) f; have U : w.grownBy A (some c.pb) := za ga (zv f (some c.pb)); have V := f.size
 try simp at V
 have n : RB A w.heap.size := RB.kept (RB.new' (by simp)) f (by simp); have C := n.lt; obtain ⟨_,_,_,_,_,_,_,_,_,_,_⟩ := id n; go_wp2_with fail; go_at_call 137; refine (yp c _ i d k _ hsb hk (PS.alloc R _)).mono ?_; rintro e D ⟨X,Y,E,rfl,j,O,Z⟩; have o : xb c.L k p i = _ := P.bind_ok E; have F : w.grownBy D (some c.pb) := za (zh U _) j; have s2 := j.size
 try simp at s2
 have l : RB D w.heap.size := RB.k (RB.alloc n _) j; have r : NB D A.heap.size (.int .i64 1) (.string ⟨#[]⟩) (.int .i64 0) (.int .i64 (pos c.L i)) (.slice none 0 0) := NB.k (NB.new' (by simp)) j; have G := l.lt; have H := r.lt; obtain ⟨_,_,_,_,_,_,_,_,_,_,_⟩ := id l; obtain ⟨_,_,_,_,_,_⟩ := id r; cases X
 ·go_wp2
  refine zn Tryz.results91 rfl (RB.five ?_) rfl ?_
  ·exact l
  refine Steps.ok (a := (T.mk 1 [] 0 (pos c.L i) [])) o ⟨_,rfl,?_⟩ ?_ ?_ (by omega)
  ·exact LR.nil _ _
  ·exact zC F (by omega)
  ·exact PS.p5 O B.out (by omega)
 ·go_wp2_with fail
  go_at_call 143; refine (xV c _ Y d g p O hp).mono ?_; rintro e w3 (⟨x3,s,x,b⟩ | ⟨a3,j3,v3,s,rfl,⟨m,Q⟩,b,p3,a0⟩)
  ·obtain ⟨q,rfl,-⟩ := id x; exact ⟨rfl,Steps.err (o.trans (P.bind_err s)) x F b⟩
  have I := o.trans (P.bind_ok s); obtain ⟨a1,a2,rfl⟩ := m.form; obtain ⟨b3,J,m⟩ := m.nm
  try simp at J
  have G3 := za F b; have s3 := b.size
  try simp at s3
  have u := RB.k l b; have z := NB.k r b; have K := u.lt; have M := z.lt; obtain ⟨_,_,_,_,_,_,_,_,_,_,_⟩ := id u; obtain ⟨_,_,_,_,_,_⟩ := id z; go_wp2; refine zn Tryz.results91 rfl (RB.five ?_) rfl ?_
  ·exact RB.put u _ _ _
  refine Steps.ok (a := (T.mk 1 [] 0 (pos c.L i) a3)) I ⟨_,rfl,?_⟩ ?_ ?_ (by omega)
  ·exact (LR.p5 (LR.put m (by omega) _ _) (by omega)).wd
  ·exact zC (zs G3 (by omega) _ _) (by omega)
  ·exact PS.p5 (PS.put p3 B.out (by omega) _ _) B.out (by omega)
theorem qV (c : PC) (w : World) (i d : Nat) (h : PS c w i d) (hp : Part c d (fun _ => True) 205 #[pq c.pb] (xw c.L)) :
  Calls Tryz.prog 178 #[pq c.pb] w (Steps c w i d (fun w' t v => TR w' w.heap.size w'.heap.size t v) (xt c.L i)) := by
 have O := zc h; have D := zc h.low; have hb := h.lt; clear h
 go_enter Tryz.func178,Tryz.ntmps178
 go_wp2_with fail; go_at_call 87; refine (zL c _ i d 1 (PS.alloc O.out _)).mono ?_; rintro e A ⟨rfl,g⟩; have Q : PS c A i d := PS.kept (PS.alloc O.out _) g; have V : w.grownBy A (some c.pb) := za ga (zv g (some c.pb)); have X := g.size
 try simp at X
 have n : RB A w.heap.size := RB.kept (RB.new' (by simp)) g (by simp); have E := n.lt; obtain ⟨_,_,_,_,_,_,_,_,_,_,_⟩ := id n; go_wp2_with fail; go_at_call 68; refine (xh c _ i d (PS.alloc Q _)).mono ?_; rintro e B ⟨rfl,f⟩; have R : PS c B i d := PS.kept (PS.alloc Q _) f; have F : w.grownBy B (some c.pb) := za (zh V _) (zv f (some c.pb)); have Y := f.size
 try simp at Y
 have j : RB B w.heap.size := RB.kept (RB.alloc n _) f (by simp); have o : NB B A.heap.size (.int .i64 1) (.string ⟨#[]⟩) (.int .i64 0) (.int .i64 (pos c.L i)) (.slice none 0 0) := NB.kept (NB.new' (by simp)) f (by simp); have G := j.lt; have H := o.lt; obtain ⟨_,_,_,_,_,_,_,_,_,_,_⟩ := id j; obtain ⟨_,_,_,_,_,_⟩ := id o
 by_cases C : wd c.L i = xA
 ·have I : (wd c.L i == [40]) = true := by rw [C]; decide
  have m : xt c.L i = _ := if_pos C; go_wp2_with fail; go_at_call 204; refine (jA c _ i d 205 (xw c.L) yl _ rfl (by decide) R hp).mono ?_; rintro e w3 (⟨x3,r,u,b⟩ | ⟨Z,j3,v3,r,rfl,⟨l,U⟩,b,p3,a0⟩)
  ·obtain ⟨q,rfl,-⟩ := id u; exact ⟨rfl,Steps.err (m.trans (P.bind_err r)) u F b⟩
  have J : xt c.L i = _ := m.trans (P.bind_ok r); obtain ⟨a1,a2,rfl⟩ := l.form; obtain ⟨b3,K,l⟩ := l.nm
  try simp at K
  have G3 := za F b; have s3 := b.size
  try simp at s3
  have s := RB.k j b; have x := NB.k o b; have M := s.lt; have N := x.lt; obtain ⟨_,_,_,_,_,_,_,_,_,_,_⟩ := id s; obtain ⟨_,_,_,_,_,_⟩ := id x; go_wp2; refine zn Tryz.results178 rfl (RB.five ?_) rfl ?_
  ·exact RB.put s _ _ _
  refine Steps.ok (a := (T.mk 1 [] 0 (pos c.L i) Z)) J ⟨_,rfl,?_⟩ ?_ ?_ (by omega)
  ·exact (LR.p5 (LR.put l (by omega) _ _) (by omega)).wd
  ·exact zC (zs G3 (by omega) _ _) (by omega)
  ·exact PS.p5 (PS.put p3 D.out (by omega) _ _) D.out (by omega)
 ·have I : (wd c.L i == [40]) = false := by simpa [xA] using C
  have z : xt c.L i = _ := if_neg C; go_wp2; refine zn Tryz.results178 rfl (RB.five ?_) rfl ?_
  ·exact j
  refine Steps.ok (a := (T.mk 1 [] 0 (pos c.L i) [])) z ⟨_,rfl,?_⟩ ?_ ?_ (by omega)
  ·exact LR.nil _ _
  ·exact zC F (by omega)
  ·exact PS.p5 R D.out (by omega)
end Go.Proofs.YtnmkffjklpfflaaGreatDoor
