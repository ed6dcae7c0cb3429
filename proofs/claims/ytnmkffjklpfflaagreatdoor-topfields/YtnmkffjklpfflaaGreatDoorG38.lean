/- A module. -/
import Derived.Test.YtnmkffjklpfflaaGreatDoorG35
import Derived.Test.YtnmkffjklpfflaaGreatDoorG37
import Derived.Test.YtnmkffjklpfflaaGreatDoorG10
namespace Go.Proofs.YtnmkffjklpfflaaGreatDoor
open Go.RowKit
set_option maxHeartbeats 4000000
set_option maxRecDepth 100000
theorem LR.build4 {lo : Nat} (w : World) {t1 t2 t3 t4 : T} {v1 v2 v3 v4 : Value} {g : Nat} {cs : Array Value} (e1 : LR w (In lo g) t1.subs v1) (e2 : LR w (In lo g) t2.subs v2) (e3 : LR w (In lo g) t3.subs v3) (e4 : LR w (In lo g) t4.subs v4) (hg : g = w.heap.size) (hc : cs.toList = headC t1 v1 ++ (headC t2 v2 ++ (headC t3 v3 ++ (headC t4 v4)))) (hlo : lo <= g) :
  LR (w.alloc (.cells cs 100)) (In lo (g + 1)) [t1,t2,t3,t4] (.slice (some ⟨g,0,none⟩) 4 4) :=
 LR.build w (svs := [v1,v2,v3,v4]) hg rfl hc rfl (by simp) hlo (fun i t' sv' h3 h4 => by
  match i,h3,h4 with
  | 0,h3,h4 => cases h3; cases h4; exact e1
  | 1,h3,h4 => cases h3; cases h4; exact e2
  | 2,h3,h4 => cases h3; cases h4; exact e3
  | 3,h3,h4 => cases h3; cases h4; exact e4)
theorem LR.build6 {lo : Nat} (w : World) {t1 t2 t3 t4 t5 t6 : T} {v1 v2 v3 v4 v5 v6 : Value} {g : Nat} {cs : Array Value} (e1 : LR w (In lo g) t1.subs v1) (e2 : LR w (In lo g) t2.subs v2) (e3 : LR w (In lo g) t3.subs v3) (e4 : LR w (In lo g) t4.subs v4) (e5 : LR w (In lo g) t5.subs v5) (e6 : LR w (In lo g) t6.subs v6) (hg : g = w.heap.size) (hc : cs.toList = headC t1 v1 ++ (headC t2 v2 ++ (headC t3 v3 ++ (headC t4 v4 ++ (headC t5 v5 ++ (headC t6 v6)))))) (hlo : lo <= g) :
  LR (w.alloc (.cells cs 100)) (In lo (g + 1)) [t1,t2,t3,t4,t5,t6] (.slice (some ⟨g,0,none⟩) 6 6) :=
 LR.build w (svs := [v1,v2,v3,v4,v5,v6]) hg rfl hc rfl (by simp) hlo (fun i t' sv' h3 h4 => by
  match i,h3,h4 with
  | 0,h3,h4 => cases h3; cases h4; exact e1
  | 1,h3,h4 => cases h3; cases h4; exact e2
  | 2,h3,h4 => cases h3; cases h4; exact e3
  | 3,h3,h4 => cases h3; cases h4; exact e4
  | 4,h3,h4 => cases h3; cases h4; exact e5
  | 5,h3,h4 => cases h3; cases h4; exact e6)
theorem pU (c : PC) (w : World) (i d : Nat) (h : PS c w i d) (h_constant : Part c d (fun _ => True) 92 #[pq c.pb] (uE c.L)) (h_typeDeclaration : Part c d (fun _ => True) 93 #[pq c.pb] (vt c.L)) (h_variable : Part c d (fun _ => True) 94 #[pq c.pb] (vj c.L)) (hPr : PartOK c d 95 (xv c.L)) (hB : PartOK c d 96 (af c.L)) :
  Calls Tryz.prog 67 #[pq c.pb] w (Steps c w i d (fun w' t v => TR w' w.heap.size w'.heap.size t v) (kV c.L i)) := by
 have HP := zc h; have HL := zc h.low; have hb := h.lt; clear h
 go_enter Tryz.func67,Tryz.ntmps67
 go_wp2_with fail; go_at_call 87; refine (zL c _ i d 2 (PS.alloc HP.out _)).mono ?_; rintro e w1 ⟨rfl,Q⟩; have p1 : PS c w1 i d := PS.kept (PS.alloc HP.out _) Q; have G1 : w.grownBy w1 (some c.pb) := za ga (zv Q (some c.pb)); have s1 := Q.size
 try simp at s1
 have b1 : RB w1 w.heap.size := RB.kept (RB.new' (by simp)) Q (by simp); have o2 := b1.lt; obtain ⟨_,_,_,_,_,_,_,_,_,_,_⟩ := id b1; go_wp2_with fail; go_at_call 88; refine (zy c _ i d gy _ rfl (by decide) (PS.alloc p1 _)).mono ?_; rintro e w2 (⟨x2,b2,f6,u⟩ | ⟨a2,j2,v2,b2,rfl,-,u,p2,u9⟩)
 ·obtain ⟨q,rfl,-⟩ := id f6; exact ⟨rfl,Steps.err (P.bind_err b2) f6 (zh G1 _) u⟩
 have f7 : kV c.L i = _ := P.bind_ok b2; have G2 : w.grownBy w2 (some c.pb) := za (zh G1 _) u; have s2 := u.size
 try simp at s2
 have b3 : RB w2 w.heap.size := RB.k (RB.alloc b1 _) u; have b4 : NB w2 w1.heap.size (.int .i64 2) (.string ⟨#[]⟩) (.int .i64 0) (.int .i64 (pos c.L i)) (.slice none 0 0) := NB.k (NB.new' (by simp)) u; have o3 := b3.lt; have o4 := b4.lt; obtain ⟨_,_,_,_,_,_,_,_,_,_,_⟩ := id b3; obtain ⟨_,_,_,_,_,_⟩ := id b4; go_wp2_with fail; go_at_call 89; refine (vQ c _ j2 d p2).mono ?_; rintro e w3 (⟨x3,c0,f8,x⟩ | ⟨a3,j3,v3,c0,rfl,⟨rfl,o5,v0⟩,x,p3,x0⟩)
 ·obtain ⟨q,rfl,-⟩ := id f8; exact ⟨rfl,Steps.err (f7.trans (P.bind_err c0)) f8 G2 x⟩
 have f9 := f7.trans (P.bind_ok c0); have G3 := za G2 x; have s3 := x.size
 try simp at s3
 have c1 := RB.k b3 x; have c2 := NB.k b4 x; have o6 := c1.lt; have o7 := c2.lt; obtain ⟨_,_,_,_,_,_,_,_,_,_,_⟩ := id c1; obtain ⟨_,_,_,_,_,_⟩ := id c2; go_wp2_with fail; go_at_call 88; refine (zy c _ j3 d yl _ rfl (by decide) (PS.put p3 HL.out (by omega) _ _)).mono ?_; rintro e w4 (⟨x4,c3,g0,z⟩ | ⟨a4,j4,v4,c3,rfl,-,z,p4,x1⟩)
 ·obtain ⟨q,rfl,-⟩ := id g0; exact ⟨rfl,Steps.err (f9.trans (P.bind_err c3)) g0 (zs G3 (by omega) _ _) z⟩
 have g1 := f9.trans (P.bind_ok c3); have G4 : w.grownBy w4 (some c.pb) := za (zs G3 (by omega) _ _) z; have s4 := z.size
 try simp at s4
 have c4 : RB w4 w.heap.size := RB.k (RB.put c1 _ _ _) z; have c5 : NB w4 w1.heap.size (.int .i64 2) (.string ⟨a3.toArray⟩) (.int .i64 0) (.int .i64 (pos c.L i)) (.slice none 0 0) := NB.k (NB.s1 c2 _) z; have o8 := c4.lt; have o9 := c5.lt; obtain ⟨_,_,_,_,_,_,_,_,_,_,_⟩ := id c4; obtain ⟨_,_,_,_,_,_⟩ := id c5; go_wp2_with fail; go_at_call 90; refine (sy c _ j4 d p4).mono ?_; rintro e w5 (⟨x5,c6,g2,A⟩ | ⟨⟨k5,n5,m5,q5,l5⟩,j5,v5,c6,rfl,⟨y1,rfl,B⟩,A,p5,y4⟩)
 ·obtain ⟨q,rfl,-⟩ := id g2; exact ⟨rfl,Steps.err (g1.trans (P.bind_err c6)) g2 G4 A⟩
 have g3 := g1.trans (P.bind_ok c6); simp only [T.kind,T.name,T.num,T.at',T.subs] at B ⊢; obtain ⟨g4,g5,rfl⟩ := B.form; obtain ⟨R,p0,B⟩ := B.nm
 try simp at p0
 have G5 := za G4 A; have s5 := A.size
 try simp at s5
 have c7 := RB.k c4 A; have c8 := NB.k c5 A; have q0 := c7.lt; have q1 := c8.lt; obtain ⟨_,_,_,_,_,_,_,_,_,_,_⟩ := id c7; obtain ⟨_,_,_,_,_,_⟩ := id c8; go_wp2_with fail; go_at_call 91; refine (vO c _ j5 d sC _ rfl (by decide) 92 (uE c.L) p5 h_constant).mono ?_; rintro e w6 (⟨x6,c9,g6,r⟩ | ⟨⟨k6,n6,m6,q6,l6⟩,j6,v6,c9,rfl,⟨y6,rfl,C⟩,r,p6,y8⟩)
 ·obtain ⟨q,rfl,-⟩ := id g6; exact ⟨rfl,Steps.err (g3.trans (P.bind_err c9)) g6 G5 r⟩
 have g7 := g3.trans (P.bind_ok c9); simp only [T.kind,T.name,T.num,T.at',T.subs] at C ⊢; obtain ⟨g8,g9,rfl⟩ := C.form; obtain ⟨b6,q2,C⟩ := C.nm
 try simp at q2
 have G6 := za G5 r; have s6 := r.size
 try simp at s6
 have d0 := RB.k c7 r; have d1 := NB.k c8 r; have h0 := LR.c B r; have q3 := d0.lt; have q4 := d1.lt; obtain ⟨_,_,_,_,_,_,_,_,_,_,_⟩ := id d0; obtain ⟨_,_,_,_,_,_⟩ := id d1; go_wp2_with fail; go_at_call 91; refine (vO c _ j6 d mg _ rfl (by decide) 93 (vt c.L) p6 h_typeDeclaration).mono ?_; rintro e w7 (⟨x7,d2,h1,n⟩ | ⟨⟨k7,n7,m7,q7,l7⟩,j7,v7,d2,rfl,⟨y9,rfl,D⟩,n,p7,z0⟩)
 ·obtain ⟨q,rfl,-⟩ := id h1; exact ⟨rfl,Steps.err (g7.trans (P.bind_err d2)) h1 G6 n⟩
 have h2 := g7.trans (P.bind_ok d2); simp only [T.kind,T.name,T.num,T.at',T.subs] at D ⊢; obtain ⟨h3,h4,rfl⟩ := D.form; obtain ⟨b7,r0,D⟩ := D.nm
 try simp at r0
 have G7 := za G6 n; have s7 := n.size
 try simp at s7
 have d3 := RB.k d0 n; have d4 := NB.k d1 n; have h5 := LR.c h0 n; have h6 := LR.c C n; have r1 := d3.lt; have r2 := d4.lt; obtain ⟨_,_,_,_,_,_,_,_,_,_,_⟩ := id d3; obtain ⟨_,_,_,_,_,_⟩ := id d4; go_wp2_with fail; go_at_call 91; refine (vO c _ j7 d dm _ rfl (by decide) 94 (vj c.L) p7 h_variable).mono ?_; rintro e w8 (⟨x8,d5,h7,m⟩ | ⟨⟨k8,n8,m8,q8,l8⟩,j8,v8,d5,rfl,⟨z1,rfl,E⟩,m,p8,z2⟩)
 ·obtain ⟨q,rfl,-⟩ := id h7; exact ⟨rfl,Steps.err (h2.trans (P.bind_err d5)) h7 G7 m⟩
 have h8 := h2.trans (P.bind_ok d5); simp only [T.kind,T.name,T.num,T.at',T.subs] at E ⊢; obtain ⟨h9,j0,rfl⟩ := E.form; obtain ⟨b8,r3,E⟩ := E.nm
 try simp at r3
 have G8 := za G7 m; have s8 := m.size
 try simp at s8
 have d6 := RB.k d3 m; have d7 := NB.k d4 m; have j1 := LR.c h5 m; have k0 := LR.c h6 m; have k1 := LR.c D m; have r4 := d6.lt; have r5 := d7.lt; obtain ⟨_,_,_,_,_,_,_,_,_,_,_⟩ := id d6; obtain ⟨_,_,_,_,_,_⟩ := id d7; go_wp2_with fail; go_at_call 95; refine (hPr _ j8 p8).mono ?_; rintro e w9 (⟨x9,d8,k2,l⟩ | ⟨⟨k9,n9,m9,q9,l9⟩,j9,v9,d8,rfl,⟨z3,rfl,F⟩,l,p9,z4⟩)
 ·obtain ⟨q,rfl,-⟩ := id k2; exact ⟨rfl,Steps.err (h8.trans (P.bind_err d8)) k2 G8 l⟩
 have k3 := h8.trans (P.bind_ok d8); simp only [T.kind,T.name,T.num,T.at',T.subs] at F ⊢; obtain ⟨k4,l0,rfl⟩ := F.form; obtain ⟨b9,r6,F⟩ := F.nm
 try simp at r6
 have G9 := za G8 l; have s9 := l.size
 try simp at s9
 have d9 := RB.k d6 l; have f0 := NB.k d7 l; have l1 := LR.c j1 l; have l2 := LR.c k0 l; have l3 := LR.c k1 l; have l4 := LR.c E l; have r7 := d9.lt; have r8 := f0.lt; obtain ⟨_,_,_,_,_,_,_,_,_,_,_⟩ := id d9; obtain ⟨_,_,_,_,_,_⟩ := id f0; go_wp2_with fail; go_at_call 96; refine (hB _ j9 p9).mono ?_; rintro e f (⟨z5,G,a0,b⟩ | ⟨⟨U,V,X,Y,s⟩,r9,z6,G,rfl,⟨u5,rfl,o⟩,b,t0,u6⟩)
 ·obtain ⟨q,rfl,-⟩ := id a0; exact ⟨rfl,Steps.err (k3.trans (P.bind_err G)) a0 G9 b⟩
 have a1 := k3.trans (P.bind_ok G); simp only [T.kind,T.name,T.num,T.at',T.subs] at o ⊢; obtain ⟨a5,a6,rfl⟩ := o.form; obtain ⟨t7,m0,o⟩ := o.nm
 try simp at m0
 have m1 := za G9 b; have t8 := b.size
 try simp at t8
 have H := RB.k d9 b; have I := NB.k f0 b; have f1 := LR.c l1 b; have f2 := LR.c l2 b; have f3 := LR.c l3 b; have f4 := LR.c l4 b; have f5 := LR.c F b; have n1 := H.lt; have n2 := I.lt; obtain ⟨_,_,_,_,_,_,_,_,_,_,_⟩ := id H; obtain ⟨_,_,_,_,_,_⟩ := id I; go_wp2_with fail; go_at_call 97; refine (qS c _ r9 d a3 _ (by simp) o5 (PS.alloc (PS.put t0 HL.out (by omega) _ _) _)).mono ?_; rintro e Z (⟨z7,J,a7,g⟩ | ⟨z8,t9,z9,J,rfl,-,g,u0,u7⟩)
 ·obtain ⟨q,rfl,-⟩ := id a7; exact ⟨rfl,Steps.err (a1.trans (P.bind_err J)) a7 (zh (zs m1 (by omega) _ _) _) g⟩
 have a8 := a1.trans (P.bind_ok J); have m2 : w.grownBy Z (some c.pb) := za (zh (zs m1 (by omega) _ _) _) g; have u1 := g.size
 try simp at u1
 have K : RB Z w.heap.size := RB.k (RB.alloc (RB.put H _ _ _) _) g; have M : NB Z w1.heap.size (.int .i64 2) (.string ⟨a3.toArray⟩) (.int .i64 0) (.int .i64 (pos c.L i)) (.slice (some ⟨f.heap.size,0,none⟩) 6 6) := NB.k (NB.alloc (NB.s4 I _) _) g; have m3 : LR Z (In R (f.heap.size + 1)) ([(T.mk k5 n5 m5 q5 l5),(T.mk k6 n6 m6 q6 l6),(T.mk k7 n7 m7 q7 l7),(T.mk k8 n8 m8 q8 l8),(T.mk k9 n9 m9 q9 l9),(T.mk U V X Y s)]) (.slice (some ⟨f.heap.size,0,none⟩) 6 6) := LR.c (LR.build6 _ (t1 := (T.mk k5 n5 m5 q5 l5)) (t2 := (T.mk k6 n6 m6 q6 l6)) (t3 := (T.mk k7 n7 m7 q7 l7)) (t4 := (T.mk k8 n8 m8 q8 l8)) (t5 := (T.mk k9 n9 m9 q9 l9)) (t6 := (T.mk U V X Y s)) (v1 := .slice g4 l5.length g5) (v2 := .slice g8 l6.length g9) (v3 := .slice h3 l7.length h4) (v4 := .slice h9 l8.length j0) (v5 := .slice k4 l9.length l0) (v6 := .slice a5 s.length a6) (show LR _ (In R f.heap.size) l5 (.slice g4 l5.length g5) from LR.wide (lo := R) (hi := w5.heap.size) (LR.put f1 (by omega) _ _) (by omega) (by first | omega | (simp <;> omega))) (show LR _ (In R f.heap.size) l6 (.slice g8 l6.length g9) from LR.wide (lo := b6) (hi := w6.heap.size) (LR.put f2 (by omega) _ _) (by omega) (by first | omega | (simp <;> omega))) (show LR _ (In R f.heap.size) l7 (.slice h3 l7.length h4) from LR.wide (lo := b7) (hi := w7.heap.size) (LR.put f3 (by omega) _ _) (by omega) (by first | omega | (simp <;> omega))) (show LR _ (In R f.heap.size) l8 (.slice h9 l8.length j0) from LR.wide (lo := b8) (hi := w8.heap.size) (LR.put f4 (by omega) _ _) (by omega) (by first | omega | (simp <;> omega))) (show LR _ (In R f.heap.size) l9 (.slice k4 l9.length l0) from LR.wide (lo := b9) (hi := w9.heap.size) (LR.put f5 (by omega) _ _) (by omega) (by first | omega | (simp <;> omega))) (show LR _ (In R f.heap.size) s (.slice a5 s.length a6) from LR.wide (lo := t7) (hi := f.heap.size) (LR.put o (by omega) _ _) (by omega) (by first | omega | (simp <;> omega))) (by simp) rfl (by omega)) g; have n3 := K.lt; have n4 := M.lt; obtain ⟨_,_,_,_,_,_,_,_,_,_,_⟩ := id K; obtain ⟨_,_,_,_,_,_⟩ := id M; go_wp2_with fail; go_at_call 88; refine (zy c _ t9 d jY _ rfl (by decide) u0).mono ?_; rintro e A0 (⟨A1,N,a9,j⟩ | ⟨A2,A3,A4,N,rfl,-,j,u2,u8⟩)
 ·obtain ⟨q,rfl,-⟩ := id a9; exact ⟨rfl,Steps.err (a8.trans (P.bind_err N)) a9 m2 j⟩
 have m4 := a8.trans (P.bind_ok N); have u3 := za m2 j; have u4 := j.size
 try simp at u4
 have O := RB.k K j; have b0 := NB.k M j; have n0 := LR.c m3 j; have o0 := O.lt; have o1 := b0.lt; obtain ⟨_,_,_,_,_,_,_,_,_,_,_⟩ := id O; obtain ⟨_,_,_,_,_,_⟩ := id b0; go_wp2; refine zn Tryz.results67 rfl (RB.five ?_) rfl ?_
 ·exact O
 refine Steps.ok (a := (T.mk 2 a3 0 (pos c.L i) [(T.mk k5 n5 m5 q5 l5),(T.mk k6 n6 m6 q6 l6),(T.mk k7 n7 m7 q7 l7),(T.mk k8 n8 m8 q8 l8),(T.mk k9 n9 m9 q9 l9),(T.mk U V X Y s)])) m4 ⟨_,rfl,?_⟩ ?_ ?_ (by omega)
 ·refine LR.wide (lo := R) (hi := f.heap.size + 1) (ts := [(T.mk k5 n5 m5 q5 l5),(T.mk k6 n6 m6 q6 l6),(T.mk k7 n7 m7 q7 l7),(T.mk k8 n8 m8 q8 l8),(T.mk k9 n9 m9 q9 l9),(T.mk U V X Y s)]) ?_ (by omega) (by first | omega | (simp <;> omega))
  exact LR.p5 n0 (by omega)
 ·exact zC u3 (by omega)
 ·exact PS.p5 u2 HL.out (by omega)
set_option maxHeartbeats 8000000
theorem rM {s : List UInt8} (h : yh s = true) : s ≠ [] := by
 rintro rfl
 revert h
 decide
theorem mD {L : List Tok} {k : Int} {i j : Nat} {t : T} (h : xj L k i = .ok (t,j)) : t.name ≠ [] := by
 by_cases b : yh (wd L i) = true
 ·have c : vo L k i = .ok (T.mk k (wd L i) 0 (pos L i) [],i + 1) := P.bind_ok (by unfold vd; rw [if_pos b])
  rw [xj,P.bind_ok c] at h
  by_cases d : wd L (i + 1) = gI
  ·rw [ii,P.bind_ok (a := true) (j := i + 1 + 1) (by unfold yr; rw [if_pos d])] at h
   cases h
   exact rM b
  ·rw [ii,P.bind_ok (a := false) (j := i + 1) (by unfold yr; rw [if_neg d])] at h
   cases h
   exact rM b
 ·have c : vo L k i = .error (yu L i) := P.bind_err (by unfold vd; rw [if_neg b])
  rw [xj,P.bind_err c] at h; cases h
theorem fc (c : PC) (w : World) (i d : Nat) (h : PS c w i d) (hPar : PartOK c d 178 (xt c.L)) (hV : Part c d (fun _ => True) 180 #[pq c.pb] (kr c.L)) (hA : ActsOK c d (uG c.L 20)) :
    Calls Tryz.prog 148 #[pq c.pb] w (Steps c w i d (fun w' t v => TR w' w.heap.size w'.heap.size t v) (yJ c.L i)) := by
  have HP := zc h; have HL := zc h.low; have hb := h.lt; clear h
  go_enter Tryz.func148,Tryz.ntmps148
  go_wp2_with fail; go_at_call 87; refine (zL c _ i d 7 (PS.alloc HP.out _)).mono ?_; rintro e w1 ⟨rfl,a0⟩; have p1 : PS c w1 i d := PS.kept (PS.alloc HP.out _) a0; have G1 : w.grownBy w1 (some c.pb) := za ga (zv a0 (some c.pb)); have s1 := a0.size
  try simp at s1
  have a9 : RB w1 w.heap.size := RB.kept (RB.new' (by simp)) a0 (by simp); have l0 := a9.lt; obtain ⟨_,_,_,_,_,_,_,_,_,_,_⟩ := id a9; go_wp2_with fail; go_at_call 88; refine (zy c _ i d yV _ rfl (by decide) (PS.alloc p1 _)).mono ?_; rintro e w2 (⟨x2,b0,g1,F⟩ | ⟨a2,j2,v2,b0,rfl,-,F,p2,x1⟩)
  · obtain ⟨q,rfl,-⟩ := id g1; exact ⟨rfl,Steps.err (P.bind_err b0) g1 (zh G1 _) F⟩
  have g2 : yJ c.L i = _ := P.bind_ok b0; have G2 : w.grownBy w2 (some c.pb) := za (zh G1 _) F; have s2 := F.size
  try simp at s2
  have b1 : RB w2 w.heap.size := RB.k (RB.alloc a9 _) F; have b2 : NB w2 w1.heap.size (.int .i64 7) (.string ⟨#[]⟩) (.int .i64 0) (.int .i64 (pos c.L i)) (.slice none 0 0) := NB.k (NB.new' (by simp)) F; have l1 := b1.lt; have l2 := b2.lt; obtain ⟨_,_,_,_,_,_,_,_,_,_,_⟩ := id b1; obtain ⟨_,_,_,_,_,_⟩ := id b2; go_wp2_with fail; go_at_call 144; refine (vE c _ j2 d 7 p2).mono ?_; rintro e w3 (⟨x3,a1,g3,G⟩ | ⟨⟨k3,H,M,q3,C⟩,j3,v3,a1,rfl,⟨y1,rfl,N⟩,G,p3,y4⟩)
  · obtain ⟨q,rfl,-⟩ := id g3; exact ⟨rfl,Steps.err (g2.trans (P.bind_err a1)) g3 G2 G⟩
  have g4 := g2.trans (P.bind_ok a1); simp only [T.kind,T.name,T.num,T.at',T.subs] at N ⊢; obtain ⟨m,n,rfl⟩ := N.form; obtain ⟨b3,l6,N⟩ := N.nm
  try simp at l6
  have G3 := za G2 G; have s3 := G.size
  try simp at s3
  have b6 := RB.k b1 G; have b8 := NB.k b2 G; have l8 := b6.lt; have m0 := b8.lt; obtain ⟨_,_,_,_,_,_,_,_,_,_,_⟩ := id b6; obtain ⟨_,_,_,_,_,_⟩ := id b8; have a4 := mD a1; simp only [T.name] at a4; go_wp2_with fail
  go_region
  all_goals
    go_wp2_with fail; go_at_call 178; refine (hPar _ j3 (PS.drew (PS.alloc (PS.put (PS.put p3 HL.out (by omega) _ _) HL.out (by omega) _ _) _))).mono ?_; rintro e D (⟨x4,c0,g5,x⟩ | ⟨⟨k4,n4,m4,q4,u⟩,j4,v4,c0,rfl,⟨y6,rfl,O⟩,x,p4,y8⟩)
    · obtain ⟨q,rfl,-⟩ := id g5; exact ⟨rfl,Steps.err (g4.trans (P.bind_err c0)) g5 (zf (zh (zs (zs G3 (by omega) _ _) (by omega) _ _) _)) x⟩
    have g6 := g4.trans (P.bind_ok c0); simp only [T.kind,T.name,T.num,T.at',T.subs] at O ⊢; obtain ⟨o,r,rfl⟩ := O.form; obtain ⟨Q,m1,O⟩ := O.nm
    try simp at m1
    have G4 : w.grownBy D (some c.pb) := za (zf (zh (zs (zs G3 (by omega) _ _) (by omega) _ _) _)) x; have s4 := x.size
    try simp at s4
    have c1 : RB D w.heap.size := RB.k (RB.drew (RB.alloc (RB.put (RB.put b6 _ _ _) _ _ _) _)) x; have c2 : NB D w1.heap.size (.int .i64 7) (.string ⟨H.toArray⟩) (.int .i64 M) (.int .i64 (pos c.L i)) (.slice none 0 0) := NB.k (NB.drew (NB.alloc (NB.s2 (NB.s1 b8 _) _) _)) x; have c3 : NB D w3.heap.size (.int .i64 k3) (.string ⟨H.toArray⟩) (.int .i64 M) (.int .i64 q3) (.slice m C.length n) := NB.k (NB.drew (NB.new' (by simp))) x; have m2 : LR D (In b3 w3.heap.size) C (.slice m C.length n) := LR.call (LR.drew (LR.alloc (LR.put (LR.put N (by omega) _ _) (by omega) _ _) _)) x (by omega); have m6 := c1.lt; have m8 := c2.lt; have n0 := c3.lt; obtain ⟨_,_,_,_,_,_,_,_,_,_,_⟩ := id c1; obtain ⟨_,_,_,_,_,_⟩ := id c2; obtain ⟨_,_,_,_,_,_⟩ := id c3; go_wp2_with fail; go_at_call 179; refine (rL c _ j4 d (PS.alloc p4 _)).mono ?_; rintro e E (⟨x5,c4,g7,s⟩ | ⟨⟨k5,n5,m5,q5,B⟩,j5,v5,c4,rfl,⟨y9,rfl,R⟩,s,p5,z0⟩)
    · obtain ⟨q,rfl,-⟩ := id g7; exact ⟨rfl,Steps.err (g6.trans (P.bind_err c4)) g7 (zh G4 _) s⟩
    have g8 := g6.trans (P.bind_ok c4); simp only [T.kind,T.name,T.num,T.at',T.subs] at R ⊢; obtain ⟨z,A,rfl⟩ := R.form; obtain ⟨b5,n1,R⟩ := R.nm
    try simp at n1
    have G5 : w.grownBy E (some c.pb) := za (zh G4 _) s; have s5 := s.size
    try simp at s5
    have c5 : RB E w.heap.size := RB.k (RB.alloc c1 _) s; have c6 : NB E w1.heap.size (.int .i64 7) (.string ⟨H.toArray⟩) (.int .i64 M) (.int .i64 (pos c.L i)) (.slice none 0 0) := NB.k (NB.alloc c2 _) s; have c7 : NB E w3.heap.size (.int .i64 k3) (.string ⟨H.toArray⟩) (.int .i64 M) (.int .i64 q3) (.slice m C.length n) := NB.k (NB.alloc c3 _) s; have c8 : NB E D.heap.size (.int .i64 k4) (.string ⟨n4.toArray⟩) (.int .i64 m4) (.int .i64 q4) (.slice o u.length r) := NB.k (NB.new' (by simp)) s; have n2 : LR E (In b3 w3.heap.size) C (.slice m C.length n) := LR.c (LR.alloc m2 _) s; have n6 : LR E (In Q D.heap.size) u (.slice o u.length r) := LR.c (LR.alloc O _) s; have n8 := c5.lt; have o0 := c6.lt; have o1 := c7.lt; have o2 := c8.lt; obtain ⟨_,_,_,_,_,_,_,_,_,_,_⟩ := id c5; obtain ⟨_,_,_,_,_,_⟩ := id c6; obtain ⟨_,_,_,_,_,_⟩ := id c7; obtain ⟨_,_,_,_,_,_⟩ := id c8; go_wp2_with fail; go_at_call 88; refine (zy c _ j5 d yl _ rfl (by decide) (PS.alloc p5 _)).mono ?_; rintro e w6 (⟨x6,c9,g9,g⟩ | ⟨a6,j6,v6,c9,rfl,-,g,p6,z1⟩)
    · obtain ⟨q,rfl,-⟩ := id g9; exact ⟨rfl,Steps.err (g8.trans (P.bind_err c9)) g9 (zh G5 _) g⟩
    have h0 := g8.trans (P.bind_ok c9); have G6 : w.grownBy w6 (some c.pb) := za (zh G5 _) g; have s6 := g.size
    try simp at s6
    have d0 : RB w6 w.heap.size := RB.k (RB.alloc c5 _) g; have d1 : NB w6 w1.heap.size (.int .i64 7) (.string ⟨H.toArray⟩) (.int .i64 M) (.int .i64 (pos c.L i)) (.slice none 0 0) := NB.k (NB.alloc c6 _) g; have d2 : NB w6 w3.heap.size (.int .i64 k3) (.string ⟨H.toArray⟩) (.int .i64 M) (.int .i64 q3) (.slice m C.length n) := NB.k (NB.alloc c7 _) g; have d3 : NB w6 D.heap.size (.int .i64 k4) (.string ⟨n4.toArray⟩) (.int .i64 m4) (.int .i64 q4) (.slice o u.length r) := NB.k (NB.alloc c8 _) g; have d4 : NB w6 E.heap.size (.int .i64 k5) (.string ⟨n5.toArray⟩) (.int .i64 m5) (.int .i64 q5) (.slice z B.length A) := NB.k (NB.new' (by simp)) g; have o3 : LR w6 (In b3 w3.heap.size) C (.slice m C.length n) := LR.c (LR.alloc n2 _) g; have o4 : LR w6 (In Q D.heap.size) u (.slice o u.length r) := LR.c (LR.alloc n6 _) g; have o5 : LR w6 (In b5 E.heap.size) B (.slice z B.length A) := LR.c (LR.alloc R _) g; have o6 := d0.lt; have o7 := d1.lt; have o8 := d2.lt; have o9 := d3.lt; have p0 := d4.lt; obtain ⟨_,_,_,_,_,_,_,_,_,_,_⟩ := id d0; obtain ⟨_,_,_,_,_,_⟩ := id d1; obtain ⟨_,_,_,_,_,_⟩ := id d2; obtain ⟨_,_,_,_,_,_⟩ := id d3; obtain ⟨_,_,_,_,_,_⟩ := id d4; go_wp2_with fail; go_at_call 91; refine (vO c _ j6 d dm _ rfl (by decide) 180 (kr c.L) p6 hV).mono ?_; rintro e w7 (⟨x7,d5,h1,j⟩ | ⟨⟨k7,n7,m7,q7,I⟩,j7,v7,d5,rfl,⟨z2,rfl,U⟩,j,p7,z3⟩)
    · obtain ⟨q,rfl,-⟩ := id h1; exact ⟨rfl,Steps.err (h0.trans (P.bind_err d5)) h1 G6 j⟩
    have h2 := h0.trans (P.bind_ok d5); simp only [T.kind,T.name,T.num,T.at',T.subs] at U ⊢; obtain ⟨J,K,rfl⟩ := U.form; obtain ⟨b7,q0,U⟩ := U.nm
    try simp at q0
    have G7 := za G6 j; have s7 := j.size
    try simp at s7
    have d6 := RB.k d0 j; have d7 := NB.k d1 j; have d8 := NB.k d2 j; have d9 := NB.k d3 j; have f0 := NB.k d4 j; have q1 := LR.c o3 j; have q2 := LR.c o4 j; have q6 := LR.c o5 j; have q8 := d6.lt; have r0 := d7.lt; have r1 := d8.lt; have r2 := d9.lt; have r3 := f0.lt; obtain ⟨_,_,_,_,_,_,_,_,_,_,_⟩ := id d6; obtain ⟨_,_,_,_,_,_⟩ := id d7; obtain ⟨_,_,_,_,_,_⟩ := id d8; obtain ⟨_,_,_,_,_,_⟩ := id d9; obtain ⟨_,_,_,_,_,_⟩ := id f0; go_wp2_with fail; go_at_call 88; refine (zy c _ j7 d ju _ rfl (by decide) (PS.alloc p7 _)).mono ?_; rintro e V (⟨x8,f1,h3,b⟩ | ⟨a8,j8,v8,f1,rfl,-,b,p8,z4⟩)
    · obtain ⟨q,rfl,-⟩ := id h3; exact ⟨rfl,Steps.err (h2.trans (P.bind_err f1)) h3 (zh G7 _) b⟩
    have h4 := h2.trans (P.bind_ok f1); have G8 : w.grownBy V (some c.pb) := za (zh G7 _) b; have s8 := b.size
    try simp at s8
    have f2 : RB V w.heap.size := RB.k (RB.alloc d6 _) b; have f3 : NB V w1.heap.size (.int .i64 7) (.string ⟨H.toArray⟩) (.int .i64 M) (.int .i64 (pos c.L i)) (.slice none 0 0) := NB.k (NB.alloc d7 _) b; have f4 : NB V w3.heap.size (.int .i64 k3) (.string ⟨H.toArray⟩) (.int .i64 M) (.int .i64 q3) (.slice m C.length n) := NB.k (NB.alloc d8 _) b; have f5 : NB V D.heap.size (.int .i64 k4) (.string ⟨n4.toArray⟩) (.int .i64 m4) (.int .i64 q4) (.slice o u.length r) := NB.k (NB.alloc d9 _) b; have f6 : NB V E.heap.size (.int .i64 k5) (.string ⟨n5.toArray⟩) (.int .i64 m5) (.int .i64 q5) (.slice z B.length A) := NB.k (NB.alloc f0 _) b; have f7 : NB V w7.heap.size (.int .i64 k7) (.string ⟨n7.toArray⟩) (.int .i64 m7) (.int .i64 q7) (.slice J I.length K) := NB.k (NB.new' (by simp)) b; have r4 : LR V (In b3 w3.heap.size) C (.slice m C.length n) := LR.c (LR.alloc q1 _) b; have r5 : LR V (In Q D.heap.size) u (.slice o u.length r) := LR.c (LR.alloc q2 _) b; have r6 : LR V (In b5 E.heap.size) B (.slice z B.length A) := LR.c (LR.alloc q6 _) b; have r7 : LR V (In b7 w7.heap.size) I (.slice J I.length K) := LR.c (LR.alloc U _) b; have r8 := f2.lt; have r9 := f3.lt; have t0 := f4.lt; have t5 := f5.lt; have t6 := f6.lt; have t7 := f7.lt; obtain ⟨_,_,_,_,_,_,_,_,_,_,_⟩ := id f2; obtain ⟨_,_,_,_,_,_⟩ := id f3; obtain ⟨_,_,_,_,_,_⟩ := id f4; obtain ⟨_,_,_,_,_,_⟩ := id f5; obtain ⟨_,_,_,_,_,_⟩ := id f6; obtain ⟨_,_,_,_,_,_⟩ := id f7; go_wp2_with fail
    go_region_with (first
      | (go_at_call 149
         refine (hA _ j8 (PS.drew p8)).mono ?_; rintro e w9 (⟨x9,f8,h5,f⟩ | ⟨⟨k9,n9,m9,q9,l9⟩,j9,v9,f8,rfl,⟨z5,rfl,X⟩,f,p9,z6⟩)
         focus
           have HT := h5; obtain ⟨q,rfl,-⟩ := h5
           exact ⟨rfl,Steps.err (h4.trans (P.bind_err f8)) HT (zf G8) f⟩
         have h6 := h4.trans (P.bind_ok f8); simp only [T.kind,T.name,T.num,T.at',T.subs] at X ⊢; obtain ⟨h7,h8,rfl⟩ := X.form; obtain ⟨b9,t8,X⟩ := X.nm
         try simp at t8
         have G9 : w.grownBy w9 (some c.pb) := za (zf G8) f; have s9 := f.size
         try simp at s9
         have f9 : RB w9 w.heap.size := RB.k (RB.drew f2) f; have g0 : NB w9 w1.heap.size (.int .i64 7) (.string ⟨H.toArray⟩) (.int .i64 M) (.int .i64 (pos c.L i)) (.slice none 0 0) := NB.k (NB.drew f3) f; have h9 : NB w9 w3.heap.size (.int .i64 k3) (.string ⟨H.toArray⟩) (.int .i64 M) (.int .i64 q3) (.slice m C.length n) := NB.k (NB.drew f4) f; have j0 : NB w9 D.heap.size (.int .i64 k4) (.string ⟨n4.toArray⟩) (.int .i64 m4) (.int .i64 q4) (.slice o u.length r) := NB.k (NB.drew f5) f; have j1 : NB w9 E.heap.size (.int .i64 k5) (.string ⟨n5.toArray⟩) (.int .i64 m5) (.int .i64 q5) (.slice z B.length A) := NB.k (NB.drew f6) f; have k0 : NB w9 w7.heap.size (.int .i64 k7) (.string ⟨n7.toArray⟩) (.int .i64 m7) (.int .i64 q7) (.slice J I.length K) := NB.k (NB.drew f7) f; have z7 : LR w9 (In b3 w3.heap.size) C (.slice m C.length n) := LR.c (LR.drew r4) f; have t9 : LR w9 (In Q D.heap.size) u (.slice o u.length r) := LR.c (LR.drew r5) f; have u0 : LR w9 (In b5 E.heap.size) B (.slice z B.length A) := LR.c (LR.drew r6) f; have u1 : LR w9 (In b7 w7.heap.size) I (.slice J I.length K) := LR.c (LR.drew r7) f; have u2 := f9.lt; have u3 := g0.lt; have u4 := h9.lt; have u5 := j0.lt; have u6 := j1.lt; have u7 := k0.lt; obtain ⟨_,_,_,_,_,_,_,_,_,_,_⟩ := id f9; obtain ⟨_,_,_,_,_,_⟩ := id g0; obtain ⟨_,_,_,_,_,_⟩ := id h9; obtain ⟨_,_,_,_,_,_⟩ := id j0; obtain ⟨_,_,_,_,_,_⟩ := id j1
         obtain ⟨_,_,_,_,_,_⟩ := id k0))
    all_goals
      go_wp2_with fail; go_at_call 97; refine (qS c _ j9 d H _ (by simp) a4 (PS.alloc (PS.put p9 HL.out (by omega) _ _) _)).mono ?_; rintro e a3 (⟨z8,Y,a5,l⟩ | ⟨z9,A0,A1,Y,rfl,-,l,u8,x0⟩)
      · obtain ⟨q,rfl,-⟩ := id a5; exact ⟨rfl,Steps.err (h6.trans (P.bind_err Y)) a5 (zh (zs G9 (by omega) _ _) _) l⟩
      have k1 := h6.trans (P.bind_ok Y); have u9 : w.grownBy a3 (some c.pb) := za (zh (zs G9 (by omega) _ _) _) l; have v0 := l.size
      try simp at v0
      have Z : RB a3 w.heap.size := RB.k (RB.alloc (RB.put f9 _ _ _) _) l; have a7 : NB a3 w1.heap.size (.int .i64 7) (.string ⟨H.toArray⟩) (.int .i64 M) (.int .i64 (pos c.L i)) (.slice (some ⟨w9.heap.size,0,none⟩) 4 4) := NB.k (NB.alloc (NB.s4 g0 _) _) l; have k2 : LR a3 (In Q (w9.heap.size + 1)) ([(T.mk k4 n4 m4 q4 u),(T.mk k5 n5 m5 q5 B),(T.mk k7 n7 m7 q7 I),(T.mk k9 n9 m9 q9 l9)]) (.slice (some ⟨w9.heap.size,0,none⟩) 4 4) := LR.c (LR.build4 _ (t1 := (T.mk k4 n4 m4 q4 u)) (t2 := (T.mk k5 n5 m5 q5 B)) (t3 := (T.mk k7 n7 m7 q7 I)) (t4 := (T.mk k9 n9 m9 q9 l9)) (v1 := .slice o u.length r) (v2 := .slice z B.length A) (v3 := .slice J I.length K) (v4 := .slice h7 l9.length h8) (show LR _ (In Q w9.heap.size) u (.slice o u.length r) from LR.wide (lo := Q) (hi := D.heap.size) (LR.put t9 (by omega) _ _) (by omega) (by first | omega | (simp <;> omega))) (show LR _ (In Q w9.heap.size) B (.slice z B.length A) from LR.wide (lo := b5) (hi := E.heap.size) (LR.put u0 (by omega) _ _) (by omega) (by first | omega | (simp <;> omega))) (show LR _ (In Q w9.heap.size) I (.slice J I.length K) from LR.wide (lo := b7) (hi := w7.heap.size) (LR.put u1 (by omega) _ _) (by omega) (by first | omega | (simp <;> omega))) (show LR _ (In Q w9.heap.size) l9 (.slice h7 l9.length h8) from LR.wide (lo := b9) (hi := w9.heap.size) (LR.put X (by omega) _ _) (by omega) (by first | omega | (simp <;> omega))) (by simp) rfl (by omega)) l; have k6 := Z.lt; have k8 := a7.lt; obtain ⟨_,_,_,_,_,_,_,_,_,_,_⟩ := id Z; obtain ⟨_,_,_,_,_,_⟩ := id a7; go_wp2; refine zn Tryz.results148 rfl (RB.five ?_) rfl ?_
      · exact Z
      refine Steps.ok (a := (T.mk 7 H M (pos c.L i) [(T.mk k4 n4 m4 q4 u),(T.mk k5 n5 m5 q5 B),(T.mk k7 n7 m7 q7 I),(T.mk k9 n9 m9 q9 l9)])) k1 ⟨_,rfl,?_⟩ ?_ ?_ (by omega)
      · refine LR.wide (lo := Q) (hi := w9.heap.size + 1) (ts := [(T.mk k4 n4 m4 q4 u),(T.mk k5 n5 m5 q5 B),(T.mk k7 n7 m7 q7 I),(T.mk k9 n9 m9 q9 l9)]) ?_ (by omega) (by first | omega | (simp <;> omega))
        exact LR.p5 k2 (by omega)
      · exact zC u9 (by omega)
      · exact PS.p5 u8 HL.out (by omega)
end Go.Proofs.YtnmkffjklpfflaaGreatDoor
