/- A module. -/
import Derived.Test.YtfjgelmllcnokaaGreatDoorG42
import Derived.Test.YtfjgelmllcnokaaGreatDoorG04
import Derived.Test.YtfjgelmllcnokaaGreatDoorG45
import Derived.Test.YtfjgelmllcnokaaGreatDoorG46
namespace Go.Proofs.YtfjgelmllcnokaaGreatDoor
open Go.RowKit
set_option maxHeartbeats 4000000
set_option maxRecDepth 100000
theorem LR.build4 {lo : Nat} (w : World) {t1 t2 t3 t4 : T} {v1 v2 v3 v4 : Value} {g : Nat} {cs : Array Value} (e1 : LR w (In lo g) t1.subs v1) (e2 : LR w (In lo g) t2.subs v2) (e3 : LR w (In lo g) t3.subs v3) (e4 : LR w (In lo g) t4.subs v4) (hg : g = w.heap.size) (hc : cs.toList = vT t1 v1 ++ (vT t2 v2 ++ (vT t3 v3 ++ (vT t4 v4)))) (hlo : lo <= g) :
  LR (w.alloc (.cells cs 28)) (In lo (g + 1)) [t1,t2,t3,t4] (.slice (some ⟨g,0,none⟩) 4 4) :=
 LR.build w (svs := [v1,v2,v3,v4]) hg rfl hc rfl (by simp) hlo (fun i t' sv' h3 h4 => by
  match i,h3,h4 with
  | 0,h3,h4 => cases h3; cases h4; exact e1
  | 1,h3,h4 => cases h3; cases h4; exact e2
  | 2,h3,h4 => cases h3; cases h4; exact e3
  | 3,h3,h4 => cases h3; cases h4; exact e4)
theorem LR.build6 {lo : Nat} (w : World) {t1 t2 t3 t4 t5 t6 : T} {v1 v2 v3 v4 v5 v6 : Value} {g : Nat} {cs : Array Value} (e1 : LR w (In lo g) t1.subs v1) (e2 : LR w (In lo g) t2.subs v2) (e3 : LR w (In lo g) t3.subs v3) (e4 : LR w (In lo g) t4.subs v4) (e5 : LR w (In lo g) t5.subs v5) (e6 : LR w (In lo g) t6.subs v6) (hg : g = w.heap.size) (hc : cs.toList = vT t1 v1 ++ (vT t2 v2 ++ (vT t3 v3 ++ (vT t4 v4 ++ (vT t5 v5 ++ (vT t6 v6)))))) (hlo : lo <= g) :
  LR (w.alloc (.cells cs 28)) (In lo (g + 1)) [t1,t2,t3,t4,t5,t6] (.slice (some ⟨g,0,none⟩) 6 6) :=
 LR.build w (svs := [v1,v2,v3,v4,v5,v6]) hg rfl hc rfl (by simp) hlo (fun i t' sv' h3 h4 => by
  match i,h3,h4 with
  | 0,h3,h4 => cases h3; cases h4; exact e1
  | 1,h3,h4 => cases h3; cases h4; exact e2
  | 2,h3,h4 => cases h3; cases h4; exact e3
  | 3,h3,h4 => cases h3; cases h4; exact e4
  | 4,h3,h4 => cases h3; cases h4; exact e5
  | 5,h3,h4 => cases h3; cases h4; exact e6)
theorem lw (c : PC) (w : World) (i d : Nat) (h : PS c w i d) (h_constant : Part c d (fun _ => True) 64 #[.pointer (some ⟨c.pb,0,none⟩)] (uZ c.L)) (h_typeDeclaration : Part c d (fun _ => True) 65 #[.pointer (some ⟨c.pb,0,none⟩)] (uI c.L)) (h_variable : Part c d (fun _ => True) 66 #[.pointer (some ⟨c.pb,0,none⟩)] (kg c.L)) (hPr : PartOK c d 67 (vQ c.L)) (hB : PartOK c d 68 (zbw c.L)) :
  Calls Tryz.prog 28 #[.pointer (some ⟨c.pb,0,none⟩)] w (Steps c w i d (fun w' t v => TR w' w.heap.size w'.heap.size t v) (gH c.L i)) := by
 have HP := za h; have HL := za h.low; have hb := h.lt; clear h
 go_enter Tryz.func28,Tryz.ntmps28
 go_wp2_with fail; go_at_call 59; refine (yA c _ i d 2 (PS.alloc HP.out _)).mono ?_; rintro e w1 ⟨rfl,R⟩; have p1 : PS c w1 i d := PS.kept (PS.alloc HP.out _) R; have G1 : w.grownBy w1 (some c.pb) := zb ga (zJ R (some c.pb)); have s1 := R.size
 try simp at s1
 have b2 : RB w1 w.heap.size := RB.kept (RB.new' (by simp)) R (by simp); have o3 := b2.lt; obtain ⟨_,_,_,_,_,_,_,_,_,_,_⟩ := id b2; go_wp2_with fail; go_at_call 60; refine (zI c _ i d jI _ rfl (by decide) (PS.alloc p1 _)).mono ?_; rintro e w2 (⟨x2,b3,f7,u⟩ | ⟨a2,j2,v2,b3,rfl,-,u,p2,v0⟩)
 ·obtain ⟨q,rfl,-⟩ := id f7; exact ⟨rfl,Steps.err (P.bind_err b3) f7 (zf G1 _) u⟩
 have f8 : gH c.L i = _ := P.bind_ok b3; have G2 : w.grownBy w2 (some c.pb) := zb (zf G1 _) u; have s2 := u.size
 try simp at s2
 have b4 : RB w2 w.heap.size := RB.k (RB.alloc b2 _) u; have c0 : NB w2 w1.heap.size (.int .i64 2) (.string ⟨#[]⟩) (.int .i64 0) (.int .i64 (pos c.L i)) (.slice none 0 0) := NB.k (NB.new' (by simp)) u; have o4 := b4.lt; have o5 := c0.lt; obtain ⟨_,_,_,_,_,_,_,_,_,_,_⟩ := id b4; obtain ⟨_,_,_,_,_,_⟩ := id c0; go_wp2_with fail; go_at_call 61; refine (ke c _ j2 d p2).mono ?_; rintro e w3 (⟨x3,c1,f9,x⟩ | ⟨a3,j3,v3,c1,rfl,⟨rfl,o6,x0⟩,x,p3,x1⟩)
 ·obtain ⟨q,rfl,-⟩ := id f9; exact ⟨rfl,Steps.err (f8.trans (P.bind_err c1)) f9 G2 x⟩
 have g0 := f8.trans (P.bind_ok c1); have G3 := zb G2 x; have s3 := x.size
 try simp at s3
 have c2 := RB.k b4 x; have c3 := NB.k c0 x; have o7 := c2.lt; have o8 := c3.lt; obtain ⟨_,_,_,_,_,_,_,_,_,_,_⟩ := id c2; obtain ⟨_,_,_,_,_,_⟩ := id c3; go_wp2_with fail; go_at_call 60; refine (zI c _ j3 d zE _ rfl (by decide) (PS.put p3 HL.out (by omega) _ _)).mono ?_; rintro e w4 (⟨x4,c4,g1,y⟩ | ⟨a4,j4,v4,c4,rfl,-,y,p4,y0⟩)
 ·obtain ⟨q,rfl,-⟩ := id g1; exact ⟨rfl,Steps.err (g0.trans (P.bind_err c4)) g1 (zC G3 (by omega) _ _) y⟩
 have g2 := g0.trans (P.bind_ok c4); have G4 : w.grownBy w4 (some c.pb) := zb (zC G3 (by omega) _ _) y; have s4 := y.size
 try simp at s4
 have c5 : RB w4 w.heap.size := RB.k (RB.put c2 _ _ _) y; have c6 : NB w4 w1.heap.size (.int .i64 2) (.string ⟨a3.toArray⟩) (.int .i64 0) (.int .i64 (pos c.L i)) (.slice none 0 0) := NB.k (NB.s1 c3 _) y; have o9 := c5.lt; have p0 := c6.lt; obtain ⟨_,_,_,_,_,_,_,_,_,_,_⟩ := id c5; obtain ⟨_,_,_,_,_,_⟩ := id c6; go_wp2_with fail; go_at_call 62; refine (oO c _ j4 d p4).mono ?_; rintro e w5 (⟨x5,c7,g3,z⟩ | ⟨⟨k5,n5,m5,q5,l5⟩,j5,v5,c7,rfl,⟨y1,rfl,A⟩,z,p5,y2⟩)
 ·obtain ⟨q,rfl,-⟩ := id g3; exact ⟨rfl,Steps.err (g2.trans (P.bind_err c7)) g3 G4 z⟩
 have g4 := g2.trans (P.bind_ok c7); simp only [T.kind,T.name,T.num,T.at',T.subs] at A ⊢; obtain ⟨g5,g6,rfl⟩ := A.form; obtain ⟨U,q0,A⟩ := A.nm
 try simp at q0
 have G5 := zb G4 z; have s5 := z.size
 try simp at s5
 have c8 := RB.k c5 z; have c9 := NB.k c6 z; have q1 := c8.lt; have q2 := c9.lt; obtain ⟨_,_,_,_,_,_,_,_,_,_,_⟩ := id c8; obtain ⟨_,_,_,_,_,_⟩ := id c9; go_wp2_with fail; go_at_call 63; refine (kc c _ j5 d uD _ rfl (by decide) 64 (uZ c.L) p5 h_constant).mono ?_; rintro e w6 (⟨x6,d0,g7,r⟩ | ⟨⟨k6,n6,m6,q6,l6⟩,j6,v6,d0,rfl,⟨y3,rfl,B⟩,r,p6,y4⟩)
 ·obtain ⟨q,rfl,-⟩ := id g7; exact ⟨rfl,Steps.err (g4.trans (P.bind_err d0)) g7 G5 r⟩
 have g8 := g4.trans (P.bind_ok d0); simp only [T.kind,T.name,T.num,T.at',T.subs] at B ⊢; obtain ⟨g9,h0,rfl⟩ := B.form; obtain ⟨b6,q3,B⟩ := B.nm
 try simp at q3
 have G6 := zb G5 r; have s6 := r.size
 try simp at s6
 have d1 := RB.k c8 r; have d2 := NB.k c9 r; have h1 := LR.c A r; have q4 := d1.lt; have r0 := d2.lt; obtain ⟨_,_,_,_,_,_,_,_,_,_,_⟩ := id d1; obtain ⟨_,_,_,_,_,_⟩ := id d2; go_wp2_with fail; go_at_call 63; refine (kc c _ j6 d jT _ rfl (by decide) 65 (uI c.L) p6 h_typeDeclaration).mono ?_; rintro e w7 (⟨x7,d3,h2,n⟩ | ⟨⟨k7,n7,m7,q7,l7⟩,j7,v7,d3,rfl,⟨y5,rfl,C⟩,n,p7,y6⟩)
 ·obtain ⟨q,rfl,-⟩ := id h2; exact ⟨rfl,Steps.err (g8.trans (P.bind_err d3)) h2 G6 n⟩
 have h3 := g8.trans (P.bind_ok d3); simp only [T.kind,T.name,T.num,T.at',T.subs] at C ⊢; obtain ⟨h4,h5,rfl⟩ := C.form; obtain ⟨b7,r1,C⟩ := C.nm
 try simp at r1
 have G7 := zb G6 n; have s7 := n.size
 try simp at s7
 have d4 := RB.k d1 n; have d5 := NB.k d2 n; have h6 := LR.c h1 n; have h7 := LR.c B n; have r2 := d4.lt; have r3 := d5.lt; obtain ⟨_,_,_,_,_,_,_,_,_,_,_⟩ := id d4; obtain ⟨_,_,_,_,_,_⟩ := id d5; go_wp2_with fail; go_at_call 63; refine (kc c _ j7 d vE _ rfl (by decide) 66 (kg c.L) p7 h_variable).mono ?_; rintro e w8 (⟨x8,d6,h8,m⟩ | ⟨⟨k8,n8,m8,q8,l8⟩,j8,v8,d6,rfl,⟨y7,rfl,D⟩,m,p8,y8⟩)
 ·obtain ⟨q,rfl,-⟩ := id h8; exact ⟨rfl,Steps.err (h3.trans (P.bind_err d6)) h8 G7 m⟩
 have h9 := h3.trans (P.bind_ok d6); simp only [T.kind,T.name,T.num,T.at',T.subs] at D ⊢; obtain ⟨j0,j1,rfl⟩ := D.form; obtain ⟨b8,r4,D⟩ := D.nm
 try simp at r4
 have G8 := zb G7 m; have s8 := m.size
 try simp at s8
 have d7 := RB.k d4 m; have d8 := NB.k d5 m; have k0 := LR.c h6 m; have k1 := LR.c h7 m; have k2 := LR.c C m; have r5 := d7.lt; have r6 := d8.lt; obtain ⟨_,_,_,_,_,_,_,_,_,_,_⟩ := id d7; obtain ⟨_,_,_,_,_,_⟩ := id d8; go_wp2_with fail; go_at_call 67; refine (hPr _ j8 p8).mono ?_; rintro e w9 (⟨x9,d9,k3,l⟩ | ⟨⟨k9,n9,m9,q9,l9⟩,j9,v9,d9,rfl,⟨y9,rfl,E⟩,l,p9,z0⟩)
 ·obtain ⟨q,rfl,-⟩ := id k3; exact ⟨rfl,Steps.err (h9.trans (P.bind_err d9)) k3 G8 l⟩
 have k4 := h9.trans (P.bind_ok d9); simp only [T.kind,T.name,T.num,T.at',T.subs] at E ⊢; obtain ⟨l0,l1,rfl⟩ := E.form; obtain ⟨b9,r7,E⟩ := E.nm
 try simp at r7
 have G9 := zb G8 l; have s9 := l.size
 try simp at s9
 have f0 := RB.k d7 l; have f1 := NB.k d8 l; have l2 := LR.c k0 l; have l3 := LR.c k1 l; have l4 := LR.c k2 l; have m0 := LR.c D l; have r8 := f0.lt; have r9 := f1.lt; obtain ⟨_,_,_,_,_,_,_,_,_,_,_⟩ := id f0; obtain ⟨_,_,_,_,_,_⟩ := id f1; go_wp2_with fail; go_at_call 68; refine (hB _ j9 p9).mono ?_; rintro e f (⟨z1,F,a1,b⟩ | ⟨⟨V,X,Y,Z,s⟩,t0,z2,F,rfl,⟨u6,rfl,o⟩,b,t7,u7⟩)
 ·obtain ⟨q,rfl,-⟩ := id a1; exact ⟨rfl,Steps.err (k4.trans (P.bind_err F)) a1 G9 b⟩
 have a5 := k4.trans (P.bind_ok F); simp only [T.kind,T.name,T.num,T.at',T.subs] at o ⊢; obtain ⟨a6,a7,rfl⟩ := o.form; obtain ⟨t8,m1,o⟩ := o.nm
 try simp at m1
 have m2 := zb G9 b; have t9 := b.size
 try simp at t9
 have H := RB.k f0 b; have I := NB.k f1 b; have f2 := LR.c l2 b; have f3 := LR.c l3 b; have f4 := LR.c l4 b; have f5 := LR.c m0 b; have f6 := LR.c E b; have n2 := H.lt; have n3 := I.lt; obtain ⟨_,_,_,_,_,_,_,_,_,_,_⟩ := id H; obtain ⟨_,_,_,_,_,_⟩ := id I; go_wp2_with fail; go_at_call 69; refine (dV c _ t0 d a3 _ (by simp) o6 (PS.alloc (PS.put t7 HL.out (by omega) _ _) _)).mono ?_; rintro e a0 (⟨z3,J,a8,g⟩ | ⟨z4,u0,z5,J,rfl,-,g,u1,u8⟩)
 ·obtain ⟨q,rfl,-⟩ := id a8; exact ⟨rfl,Steps.err (a5.trans (P.bind_err J)) a8 (zf (zC m2 (by omega) _ _) _) g⟩
 have a9 := a5.trans (P.bind_ok J); have m3 : w.grownBy a0 (some c.pb) := zb (zf (zC m2 (by omega) _ _) _) g; have u2 := g.size
 try simp at u2
 have K : RB a0 w.heap.size := RB.k (RB.alloc (RB.put H _ _ _) _) g; have M : NB a0 w1.heap.size (.int .i64 2) (.string ⟨a3.toArray⟩) (.int .i64 0) (.int .i64 (pos c.L i)) (.slice (some ⟨f.heap.size,0,none⟩) 6 6) := NB.k (NB.alloc (NB.s4 I _) _) g; have m4 : LR a0 (In U (f.heap.size + 1)) ([(T.mk k5 n5 m5 q5 l5),(T.mk k6 n6 m6 q6 l6),(T.mk k7 n7 m7 q7 l7),(T.mk k8 n8 m8 q8 l8),(T.mk k9 n9 m9 q9 l9),(T.mk V X Y Z s)]) (.slice (some ⟨f.heap.size,0,none⟩) 6 6) := LR.c (LR.build6 _ (t1 := (T.mk k5 n5 m5 q5 l5)) (t2 := (T.mk k6 n6 m6 q6 l6)) (t3 := (T.mk k7 n7 m7 q7 l7)) (t4 := (T.mk k8 n8 m8 q8 l8)) (t5 := (T.mk k9 n9 m9 q9 l9)) (t6 := (T.mk V X Y Z s)) (v1 := .slice g5 l5.length g6) (v2 := .slice g9 l6.length h0) (v3 := .slice h4 l7.length h5) (v4 := .slice j0 l8.length j1) (v5 := .slice l0 l9.length l1) (v6 := .slice a6 s.length a7) (show LR _ (In U f.heap.size) l5 (.slice g5 l5.length g6) from LR.wide (lo := U) (hi := w5.heap.size) (LR.put f2 (by omega) _ _) (by omega) (by first | omega | (simp <;> omega))) (show LR _ (In U f.heap.size) l6 (.slice g9 l6.length h0) from LR.wide (lo := b6) (hi := w6.heap.size) (LR.put f3 (by omega) _ _) (by omega) (by first | omega | (simp <;> omega))) (show LR _ (In U f.heap.size) l7 (.slice h4 l7.length h5) from LR.wide (lo := b7) (hi := w7.heap.size) (LR.put f4 (by omega) _ _) (by omega) (by first | omega | (simp <;> omega))) (show LR _ (In U f.heap.size) l8 (.slice j0 l8.length j1) from LR.wide (lo := b8) (hi := w8.heap.size) (LR.put f5 (by omega) _ _) (by omega) (by first | omega | (simp <;> omega))) (show LR _ (In U f.heap.size) l9 (.slice l0 l9.length l1) from LR.wide (lo := b9) (hi := w9.heap.size) (LR.put f6 (by omega) _ _) (by omega) (by first | omega | (simp <;> omega))) (show LR _ (In U f.heap.size) s (.slice a6 s.length a7) from LR.wide (lo := t8) (hi := f.heap.size) (LR.put o (by omega) _ _) (by omega) (by first | omega | (simp <;> omega))) (by simp) rfl (by omega)) g; have n4 := K.lt; have o0 := M.lt; obtain ⟨_,_,_,_,_,_,_,_,_,_,_⟩ := id K; obtain ⟨_,_,_,_,_,_⟩ := id M; go_wp2_with fail; go_at_call 60; refine (zI c _ u0 d vG _ rfl (by decide) u1).mono ?_; rintro e z6 (⟨z7,N,b0,j⟩ | ⟨z8,z9,A0,N,rfl,-,j,u3,u9⟩)
 ·obtain ⟨q,rfl,-⟩ := id b0; exact ⟨rfl,Steps.err (a9.trans (P.bind_err N)) b0 m3 j⟩
 have n0 := a9.trans (P.bind_ok N); have u4 := zb m3 j; have u5 := j.size
 try simp at u5
 have O := RB.k K j; have b1 := NB.k M j; have n1 := LR.c m4 j; have o1 := O.lt; have o2 := b1.lt; obtain ⟨_,_,_,_,_,_,_,_,_,_,_⟩ := id O; obtain ⟨_,_,_,_,_,_⟩ := id b1; go_wp2; refine zn Tryz.results28 rfl (RB.five ?_) rfl ?_
 ·exact O
 refine Steps.ok (a := (T.mk 2 a3 0 (pos c.L i) [(T.mk k5 n5 m5 q5 l5),(T.mk k6 n6 m6 q6 l6),(T.mk k7 n7 m7 q7 l7),(T.mk k8 n8 m8 q8 l8),(T.mk k9 n9 m9 q9 l9),(T.mk V X Y Z s)])) n0 ⟨_,rfl,?_⟩ ?_ ?_ (by omega)
 ·refine LR.wide (lo := U) (hi := f.heap.size + 1) (ts := [(T.mk k5 n5 m5 q5 l5),(T.mk k6 n6 m6 q6 l6),(T.mk k7 n7 m7 q7 l7),(T.mk k8 n8 m8 q8 l8),(T.mk k9 n9 m9 q9 l9),(T.mk V X Y Z s)]) ?_ (by omega) (by first | omega | (simp <;> omega))
  exact LR.p5 n1 (by omega)
 ·exact zS u4 (by omega)
 ·exact PS.p5 u3 HL.out (by omega)
end Go.Proofs.YtfjgelmllcnokaaGreatDoor
