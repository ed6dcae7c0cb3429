/- A module. -/
import Derived.Test.YtnmkffjklpfflaaGreatDoorG33
import Derived.Test.YtnmkffjklpfflaaGreatDoorG35
import Derived.Test.YtnmkffjklpfflaaGreatDoorG36
namespace Go.Proofs.YtnmkffjklpfflaaGreatDoor
open Go.RowKit
set_option maxHeartbeats 4000000
set_option maxRecDepth 100000
theorem LR.build4 {lo : Nat} (w : World) {t1 t2 t3 t4 : T} {v1 v2 v3 v4 : Value} {g : Nat} {cs : Array Value} (e1 : LR w (In lo g) t1.subs v1) (e2 : LR w (In lo g) t2.subs v2) (e3 : LR w (In lo g) t3.subs v3) (e4 : LR w (In lo g) t4.subs v4) (hg : g = w.heap.size) (hc : cs.toList = headC t1 v1 ++ (headC t2 v2 ++ (headC t3 v3 ++ (headC t4 v4)))) (hlo : lo <= g) :
  LR (w.alloc (.cells cs 100)) (In lo (g + 1)) [t1,t2,t3,t4] (.slice (some ⟨g,0,none⟩) 4 4) :=
 LR.build w (svs := [v1,v2,v3,v4]) hg rfl hc rfl (by simp) hlo (fun i t' sv' h3 h4 => by
  match i,h3,h4 with
  | 0,h3,h4 => cases h3; cases h4; exact e1
  | 1,h3,h4 => cases h3; cases h4; exact e2
  | 2,h3,h4 => cases h3; cases h4; exact e3
  | 3,h3,h4 => cases h3; cases h4; exact e4)
theorem LR.build6 {lo : Nat} (w : World) {t1 t2 t3 t4 t5 t6 : T} {v1 v2 v3 v4 v5 v6 : Value} {g : Nat} {cs : Array Value} (e1 : LR w (In lo g) t1.subs v1) (e2 : LR w (In lo g) t2.subs v2) (e3 : LR w (In lo g) t3.subs v3) (e4 : LR w (In lo g) t4.subs v4) (e5 : LR w (In lo g) t5.subs v5) (e6 : LR w (In lo g) t6.subs v6) (hg : g = w.heap.size) (hc : cs.toList = headC t1 v1 ++ (headC t2 v2 ++ (headC t3 v3 ++ (headC t4 v4 ++ (headC t5 v5 ++ (headC t6 v6)))))) (hlo : lo <= g) :
  LR (w.alloc (.cells cs 100)) (In lo (g + 1)) [t1,t2,t3,t4,t5,t6] (.slice (some ⟨g,0,none⟩) 6 6) :=
 LR.build w (svs := [v1,v2,v3,v4,v5,v6]) hg rfl hc rfl (by simp) hlo (fun i t' sv' h3 h4 => by
  match i,h3,h4 with
  | 0,h3,h4 => cases h3; cases h4; exact e1
  | 1,h3,h4 => cases h3; cases h4; exact e2
  | 2,h3,h4 => cases h3; cases h4; exact e3
  | 3,h3,h4 => cases h3; cases h4; exact e4
  | 4,h3,h4 => cases h3; cases h4; exact e5
  | 5,h3,h4 => cases h3; cases h4; exact e6)
theorem tV (c : PC) (w : World) (i d : Nat) (h : PS c w i d) (h_constant : Part c d (fun _ => True) 92 #[.pointer (some ⟨c.pb,0,none⟩)] (kE c.L)) (h_typeDeclaration : Part c d (fun _ => True) 93 #[.pointer (some ⟨c.pb,0,none⟩)] (xM c.L)) (h_variable : Part c d (fun _ => True) 94 #[.pointer (some ⟨c.pb,0,none⟩)] (vr c.L)) (hPr : PartOK c d 95 (yO c.L)) (hB : PartOK c d 96 (mx c.L)) :
  Calls Tryz.prog 67 #[.pointer (some ⟨c.pb,0,none⟩)] w (Steps c w i d (fun w' t v => TR w' w.heap.size w'.heap.size t v) (yY c.L i)) := by
 have HP := ze h; have HL := ze h.low; have hb := h.lt; clear h
 go_enter Tryz.func67,Tryz.ntmps67
 go_wp2_with fail; go_at_call 87; refine (zI c _ i d 2 (PS.alloc HP.out _)).mono ?_; rintro e F ⟨rfl,c6⟩; have p1 : PS c F i d := PS.kept (PS.alloc HP.out _) c6; have G1 : w.grownBy F (some c.pb) := za (zf (zc w (some c.pb)) _) (zv c6 (some c.pb)); have s1 := c6.size
 try simp at s1
 have d7 : RB F w.heap.size := RB.kept (RB.new' (by simp)) c6 (by simp); have q2 := d7.lt; obtain ⟨_,_,_,_,_,_,_,_,_,_,_⟩ := id d7; go_wp2_with fail; go_at_call 88; refine (zx c _ i d rN _ rfl (by decide) (PS.alloc p1 _)).mono ?_; rintro e w2 (⟨x2,d8,h7,H⟩ | ⟨a2,j2,v2,d8,rfl,-,H,p2,z2⟩)
 ·obtain ⟨q,rfl,-⟩ := id h7; exact ⟨rfl,Steps.err (P.bind_err d8) h7 (zf G1 _) H⟩
 have h8 : yY c.L i = _ := P.bind_ok d8; have G2 : w.grownBy w2 (some c.pb) := za (zf G1 _) H; have s2 := H.size
 try simp at s2
 have d9 : RB w2 w.heap.size := RB.keep (RB.alloc d7 _) H (by omega); have f0 : NB w2 F.heap.size (.int .i64 2) (.string ⟨#[]⟩) (.int .i64 0) (.int .i64 (pos c.L i)) (.slice none 0 0) := NB.keep (NB.new' (by simp)) H (by omega); have q3 := d9.lt; have q4 := f0.lt; obtain ⟨_,_,_,_,_,_,_,_,_,_,_⟩ := id d9; obtain ⟨_,_,_,_,_,_⟩ := id f0; go_wp2_with fail; go_at_call 89; refine (vq c _ j2 d p2).mono ?_; rintro e w3 (⟨x3,f1,h9,I⟩ | ⟨Q,j3,v3,f1,rfl,⟨rfl,r0,z3⟩,I,p3,z4⟩)
 ·obtain ⟨q,rfl,-⟩ := id h9; exact ⟨rfl,Steps.err (h8.trans (P.bind_err f1)) h9 G2 I⟩
 have j0 : yY c.L i = _ := h8.trans (P.bind_ok f1); have G3 : w.grownBy w3 (some c.pb) := za G2 I; have s3 := I.size
 try simp at s3
 have f2 : RB w3 w.heap.size := RB.keep d9 I (by omega); have f3 : NB w3 F.heap.size (.int .i64 2) (.string ⟨#[]⟩) (.int .i64 0) (.int .i64 (pos c.L i)) (.slice none 0 0) := NB.keep f0 I (by omega); have r1 := f2.lt; have r2 := f3.lt; obtain ⟨_,_,_,_,_,_,_,_,_,_,_⟩ := id f2; obtain ⟨_,_,_,_,_,_⟩ := id f3; go_wp2_with fail; go_at_call 88; refine (zx c _ j3 d yy _ rfl (by decide) (PS.put p3 HL.out (by omega) _ _)).mono ?_; rintro e w4 (⟨x4,f4,j1,J⟩ | ⟨a4,j4,v4,f4,rfl,-,J,p4,z5⟩)
 ·obtain ⟨q,rfl,-⟩ := id j1; exact ⟨rfl,Steps.err (j0.trans (P.bind_err f4)) j1 (zq G3 (by omega) _ _) J⟩
 have k0 : yY c.L i = _ := j0.trans (P.bind_ok f4); have G4 : w.grownBy w4 (some c.pb) := za (zq G3 (by omega) _ _) J; have s4 := J.size
 try simp at s4
 have f5 : RB w4 w.heap.size := RB.keep (RB.put f2 _ _ _) J (by omega); have f6 : NB w4 F.heap.size (.int .i64 2) (.string ⟨Q.toArray⟩) (.int .i64 0) (.int .i64 (pos c.L i)) (.slice none 0 0) := NB.keep (NB.s1 f3 _) J (by omega); have r3 := f5.lt; have r4 := f6.lt; obtain ⟨_,_,_,_,_,_,_,_,_,_,_⟩ := id f5; obtain ⟨_,_,_,_,_,_⟩ := id f6; go_wp2_with fail; go_at_call 90; refine (dg c _ j4 d p4).mono ?_; rintro e R (⟨x5,f7,k1,K⟩ | ⟨⟨k5,n5,m5,q5,n⟩,j5,v5,f7,rfl,⟨z6,rfl,U⟩,K,p5,z7⟩)
 ·obtain ⟨q,rfl,-⟩ := id k1; exact ⟨rfl,Steps.err (k0.trans (P.bind_err f7)) k1 G4 K⟩
 have k2 : yY c.L i = _ := k0.trans (P.bind_ok f7); simp only [T.kind,T.name,T.num,T.at',T.subs] at U ⊢; obtain ⟨s,u,rfl⟩ := U.form; obtain ⟨B,r5,U⟩ : ∃ b,b = _ /\ LR R (In b R.heap.size) n (.slice s n.length u) := ⟨_,rfl,U⟩
 try simp at r5
 have G5 : w.grownBy R (some c.pb) := za G4 K; have s5 := K.size
 try simp at s5
 have f8 : RB R w.heap.size := RB.keep f5 K (by omega); have f9 : NB R F.heap.size (.int .i64 2) (.string ⟨Q.toArray⟩) (.int .i64 0) (.int .i64 (pos c.L i)) (.slice none 0 0) := NB.keep f6 K (by omega); have r6 := f8.lt; have r7 := f9.lt; obtain ⟨_,_,_,_,_,_,_,_,_,_,_⟩ := id f8; obtain ⟨_,_,_,_,_,_⟩ := id f9; go_wp2_with fail; go_at_call 91; refine (vp c _ j5 d oP _ rfl (by decide) 92 (kE c.L) p5 h_constant).mono ?_; rintro e V (⟨x6,g0,k3,C⟩ | ⟨⟨k6,n6,m6,q6,r⟩,j6,v6,g0,rfl,⟨z8,rfl,X⟩,C,p6,z9⟩)
 ·obtain ⟨q,rfl,-⟩ := id k3; exact ⟨rfl,Steps.err (k2.trans (P.bind_err g0)) k3 G5 C⟩
 have k4 : yY c.L i = _ := k2.trans (P.bind_ok g0); simp only [T.kind,T.name,T.num,T.at',T.subs] at X ⊢; obtain ⟨D,E,rfl⟩ := X.form; obtain ⟨b6,r8,X⟩ : ∃ b,b = _ /\ LR V (In b V.heap.size) r (.slice D r.length E) := ⟨_,rfl,X⟩
 try simp at r8
 have G6 : w.grownBy V (some c.pb) := za G5 C; have s6 := C.size
 try simp at s6
 have g1 : RB V w.heap.size := RB.keep f8 C (by omega); have g2 : NB V F.heap.size (.int .i64 2) (.string ⟨Q.toArray⟩) (.int .i64 0) (.int .i64 (pos c.L i)) (.slice none 0 0) := NB.keep f9 C (by omega); have l0 : LR V (In B R.heap.size) n (.slice s n.length u) := LR.call U C (by omega); have r9 := g1.lt; have t0 := g2.lt; obtain ⟨_,_,_,_,_,_,_,_,_,_,_⟩ := id g1; obtain ⟨_,_,_,_,_,_⟩ := id g2; go_wp2_with fail; go_at_call 91; refine (vp c _ j6 d mt _ rfl (by decide) 93 (xM c.L) p6 h_typeDeclaration).mono ?_; rintro e Y (⟨x7,g3,l1,x⟩ | ⟨⟨k7,n7,m7,q7,A⟩,j7,v7,g3,rfl,⟨A0,rfl,Z⟩,x,p7,A1⟩)
 ·obtain ⟨q,rfl,-⟩ := id l1; exact ⟨rfl,Steps.err (k4.trans (P.bind_err g3)) l1 G6 x⟩
 have l2 : yY c.L i = _ := k4.trans (P.bind_ok g3); simp only [T.kind,T.name,T.num,T.at',T.subs] at Z ⊢; obtain ⟨M,N,rfl⟩ := Z.form; obtain ⟨b7,t7,Z⟩ : ∃ b,b = _ /\ LR Y (In b Y.heap.size) A (.slice M A.length N) := ⟨_,rfl,Z⟩
 try simp at t7
 have G7 : w.grownBy Y (some c.pb) := za G6 x; have s7 := x.size
 try simp at s7
 have g4 : RB Y w.heap.size := RB.keep g1 x (by omega); have g5 : NB Y F.heap.size (.int .i64 2) (.string ⟨Q.toArray⟩) (.int .i64 0) (.int .i64 (pos c.L i)) (.slice none 0 0) := NB.keep g2 x (by omega); have l3 : LR Y (In B R.heap.size) n (.slice s n.length u) := LR.call l0 x (by omega); have l4 : LR Y (In b6 V.heap.size) r (.slice D r.length E) := LR.call X x (by omega); have t8 := g4.lt; have t9 := g5.lt; obtain ⟨_,_,_,_,_,_,_,_,_,_,_⟩ := id g4; obtain ⟨_,_,_,_,_,_⟩ := id g5; go_wp2_with fail; go_at_call 91; refine (vp c _ j7 d pG _ rfl (by decide) 94 (vr c.L) p7 h_variable).mono ?_; rintro e w8 (⟨x8,g6,m0,o⟩ | ⟨⟨k8,n8,m8,q8,G⟩,j8,v8,g6,rfl,⟨A2,rfl,a0⟩,o,p8,A3⟩)
 ·obtain ⟨q,rfl,-⟩ := id m0; exact ⟨rfl,Steps.err (l2.trans (P.bind_err g6)) m0 G7 o⟩
 have m1 : yY c.L i = _ := l2.trans (P.bind_ok g6); simp only [T.kind,T.name,T.num,T.at',T.subs] at a0 ⊢; obtain ⟨a1,a5,rfl⟩ := a0.form; obtain ⟨b8,u0,a0⟩ : ∃ b,b = _ /\ LR w8 (In b w8.heap.size) G (.slice a1 G.length a5) := ⟨_,rfl,a0⟩
 try simp at u0
 have G8 : w.grownBy w8 (some c.pb) := za G7 o; have s8 := o.size
 try simp at s8
 have g7 : RB w8 w.heap.size := RB.keep g4 o (by omega); have g8 : NB w8 F.heap.size (.int .i64 2) (.string ⟨Q.toArray⟩) (.int .i64 0) (.int .i64 (pos c.L i)) (.slice none 0 0) := NB.keep g5 o (by omega); have m2 : LR w8 (In B R.heap.size) n (.slice s n.length u) := LR.call l3 o (by omega); have m3 : LR w8 (In b6 V.heap.size) r (.slice D r.length E) := LR.call l4 o (by omega); have m4 : LR w8 (In b7 Y.heap.size) A (.slice M A.length N) := LR.call Z o (by omega); have u1 := g7.lt; have u2 := g8.lt; obtain ⟨_,_,_,_,_,_,_,_,_,_,_⟩ := id g7; obtain ⟨_,_,_,_,_,_⟩ := id g8; go_wp2_with fail; go_at_call 95; refine (hPr _ j8 p8).mono ?_; rintro e w9 (⟨x9,g9,n0,l⟩ | ⟨⟨k9,n9,m9,q9,O⟩,j9,v9,g9,rfl,⟨A4,rfl,a6⟩,l,p9,A5⟩)
 ·obtain ⟨q,rfl,-⟩ := id n0; exact ⟨rfl,Steps.err (m1.trans (P.bind_err g9)) n0 G8 l⟩
 have n1 : yY c.L i = _ := m1.trans (P.bind_ok g9); simp only [T.kind,T.name,T.num,T.at',T.subs] at a6 ⊢; obtain ⟨c7,c8,rfl⟩ := a6.form; obtain ⟨b9,u3,a6⟩ : ∃ b,b = _ /\ LR w9 (In b w9.heap.size) O (.slice c7 O.length c8) := ⟨_,rfl,a6⟩
 try simp at u3
 have G9 : w.grownBy w9 (some c.pb) := za G8 l; have s9 := l.size
 try simp at s9
 have h0 : RB w9 w.heap.size := RB.keep g7 l (by omega); have h1 : NB w9 F.heap.size (.int .i64 2) (.string ⟨Q.toArray⟩) (.int .i64 0) (.int .i64 (pos c.L i)) (.slice none 0 0) := NB.keep g8 l (by omega); have n2 : LR w9 (In B R.heap.size) n (.slice s n.length u) := LR.call m2 l (by omega); have n3 : LR w9 (In b6 V.heap.size) r (.slice D r.length E) := LR.call m3 l (by omega); have n4 : LR w9 (In b7 Y.heap.size) A (.slice M A.length N) := LR.call m4 l (by omega); have o0 : LR w9 (In b8 w8.heap.size) G (.slice a1 G.length a5) := LR.call a0 l (by omega); have u4 := h0.lt; have u5 := h1.lt; obtain ⟨_,_,_,_,_,_,_,_,_,_,_⟩ := id h0; obtain ⟨_,_,_,_,_,_⟩ := id h1; go_wp2_with fail; go_at_call 96; refine (hB _ j9 p9).mono ?_; rintro e f (⟨A6,a7,d1,g⟩ | ⟨⟨a8,a9,b0,b1,m⟩,u6,A7,a7,rfl,⟨y8,rfl,z⟩,g,u7,y9⟩)
 ·obtain ⟨q,rfl,-⟩ := id d1; exact ⟨rfl,Steps.err (n1.trans (P.bind_err a7)) d1 G9 g⟩
 have d2 : yY c.L i = _ := n1.trans (P.bind_ok a7); simp only [T.kind,T.name,T.num,T.at',T.subs] at z ⊢; obtain ⟨b2,b3,rfl⟩ := z.form; obtain ⟨u8,o1,z⟩ : ∃ b,b = _ /\ LR f (In b f.heap.size) m (.slice b2 m.length b3) := ⟨_,rfl,z⟩
 try simp at o1
 have o2 : w.grownBy f (some c.pb) := za G9 g; have u9 := g.size
 try simp at u9
 have b4 : RB f w.heap.size := RB.keep h0 g (by omega); have c0 : NB f F.heap.size (.int .i64 2) (.string ⟨Q.toArray⟩) (.int .i64 0) (.int .i64 (pos c.L i)) (.slice none 0 0) := NB.keep h1 g (by omega); have h2 : LR f (In B R.heap.size) n (.slice s n.length u) := LR.call n2 g (by omega); have h3 : LR f (In b6 V.heap.size) r (.slice D r.length E) := LR.call n3 g (by omega); have h4 : LR f (In b7 Y.heap.size) A (.slice M A.length N) := LR.call n4 g (by omega); have h5 : LR f (In b8 w8.heap.size) G (.slice a1 G.length a5) := LR.call o0 g (by omega); have h6 : LR f (In b9 w9.heap.size) O (.slice c7 O.length c8) := LR.call a6 g (by omega); have o7 := b4.lt; have o8 := c0.lt; obtain ⟨_,_,_,_,_,_,_,_,_,_,_⟩ := id b4; obtain ⟨_,_,_,_,_,_⟩ := id c0; go_wp2_with fail; go_at_call 97; refine (kZ c _ u6 d Q _ (by simp) r0 (PS.alloc (PS.put u7 HL.out (by omega) _ _) _)).mono ?_; rintro e c9 (⟨A8,c1,d3,j⟩ | ⟨A9,v0,B0,c1,rfl,-,j,x0,z0⟩)
 ·obtain ⟨q,rfl,-⟩ := id d3; exact ⟨rfl,Steps.err (d2.trans (P.bind_err c1)) d3 (zf (zq o2 (by omega) _ _) _) j⟩
 have d4 : yY c.L i = _ := d2.trans (P.bind_ok c1); have o3 : w.grownBy c9 (some c.pb) := za (zf (zq o2 (by omega) _ _) _) j; have x1 := j.size
 try simp at x1
 have c2 : RB c9 w.heap.size := RB.keep (RB.alloc (RB.put b4 _ _ _) _) j (by omega); have c3 : NB c9 F.heap.size (.int .i64 2) (.string ⟨Q.toArray⟩) (.int .i64 0) (.int .i64 (pos c.L i)) (.slice (some ⟨f.heap.size,0,none⟩) 6 6) := NB.keep (NB.alloc (NB.s4 c0 _) _) j (by omega); have o4 : LR c9 (In B (f.heap.size + 1)) ([(T.mk k5 n5 m5 q5 n),(T.mk k6 n6 m6 q6 r),(T.mk k7 n7 m7 q7 A),(T.mk k8 n8 m8 q8 G),(T.mk k9 n9 m9 q9 O),(T.mk a8 a9 b0 b1 m)]) (.slice (some ⟨f.heap.size,0,none⟩) 6 6) := LR.call (LR.build6 _ (t1 := (T.mk k5 n5 m5 q5 n)) (t2 := (T.mk k6 n6 m6 q6 r)) (t3 := (T.mk k7 n7 m7 q7 A)) (t4 := (T.mk k8 n8 m8 q8 G)) (t5 := (T.mk k9 n9 m9 q9 O)) (t6 := (T.mk a8 a9 b0 b1 m)) (v1 := .slice s n.length u) (v2 := .slice D r.length E) (v3 := .slice M A.length N) (v4 := .slice a1 G.length a5) (v5 := .slice c7 O.length c8) (v6 := .slice b2 m.length b3) (show LR _ (In B f.heap.size) n (.slice s n.length u) from LR.wide (lo := B) (hi := R.heap.size) (LR.put h2 (by omega) _ _) (by omega) (by first | omega | (simp <;> omega))) (show LR _ (In B f.heap.size) r (.slice D r.length E) from LR.wide (lo := b6) (hi := V.heap.size) (LR.put h3 (by omega) _ _) (by omega) (by first | omega | (simp <;> omega))) (show LR _ (In B f.heap.size) A (.slice M A.length N) from LR.wide (lo := b7) (hi := Y.heap.size) (LR.put h4 (by omega) _ _) (by omega) (by first | omega | (simp <;> omega))) (show LR _ (In B f.heap.size) G (.slice a1 G.length a5) from LR.wide (lo := b8) (hi := w8.heap.size) (LR.put h5 (by omega) _ _) (by omega) (by first | omega | (simp <;> omega))) (show LR _ (In B f.heap.size) O (.slice c7 O.length c8) from LR.wide (lo := b9) (hi := w9.heap.size) (LR.put h6 (by omega) _ _) (by omega) (by first | omega | (simp <;> omega))) (show LR _ (In B f.heap.size) m (.slice b2 m.length b3) from LR.wide (lo := u8) (hi := f.heap.size) (LR.put z (by omega) _ _) (by omega) (by first | omega | (simp <;> omega))) (by simp) rfl (by omega)) j (by omega); have o9 := c2.lt; have p0 := c3.lt; obtain ⟨_,_,_,_,_,_,_,_,_,_,_⟩ := id c2; obtain ⟨_,_,_,_,_,_⟩ := id c3; go_wp2_with fail; go_at_call 88; refine (zx c _ v0 d jv _ rfl (by decide) x0).mono ?_; rintro e d0 (⟨B1,c4,d5,k⟩ | ⟨B2,B3,B4,c4,rfl,-,k,y1,z1⟩)
 ·obtain ⟨q,rfl,-⟩ := id d5; exact ⟨rfl,Steps.err (d4.trans (P.bind_err c4)) d5 o3 k⟩
 have o5 : yY c.L i = _ := d4.trans (P.bind_ok c4); have y4 : w.grownBy d0 (some c.pb) := za o3 k; have y6 := k.size
 try simp at y6
 have c5 : RB d0 w.heap.size := RB.keep c2 k (by omega); have d6 : NB d0 F.heap.size (.int .i64 2) (.string ⟨Q.toArray⟩) (.int .i64 0) (.int .i64 (pos c.L i)) (.slice (some ⟨f.heap.size,0,none⟩) 6 6) := NB.keep c3 k (by omega); have o6 : LR d0 (In B (f.heap.size + 1)) ([(T.mk k5 n5 m5 q5 n),(T.mk k6 n6 m6 q6 r),(T.mk k7 n7 m7 q7 A),(T.mk k8 n8 m8 q8 G),(T.mk k9 n9 m9 q9 O),(T.mk a8 a9 b0 b1 m)]) (.slice (some ⟨f.heap.size,0,none⟩) 6 6) := LR.call o4 k (by omega); have q0 := c5.lt; have q1 := d6.lt; obtain ⟨_,_,_,_,_,_,_,_,_,_,_⟩ := id c5; obtain ⟨_,_,_,_,_,_⟩ := id d6; go_wp2; refine zj Tryz.results67 rfl (RB.five ?_) rfl ?_
 ·exact c5
 refine Steps.ok (a := (T.mk 2 Q 0 (pos c.L i) [(T.mk k5 n5 m5 q5 n),(T.mk k6 n6 m6 q6 r),(T.mk k7 n7 m7 q7 A),(T.mk k8 n8 m8 q8 G),(T.mk k9 n9 m9 q9 O),(T.mk a8 a9 b0 b1 m)])) o5 ⟨_,rfl,?_⟩ ?_ ?_ (by omega)
 ·refine LR.wide (lo := B) (hi := f.heap.size + 1) (ts := [(T.mk k5 n5 m5 q5 n),(T.mk k6 n6 m6 q6 r),(T.mk k7 n7 m7 q7 A),(T.mk k8 n8 m8 q8 G),(T.mk k9 n9 m9 q9 O),(T.mk a8 a9 b0 b1 m)]) ?_ (by omega) (by first | omega | (simp <;> omega))
  exact LR.p5 o6 (by omega)
 ·exact zy y4 (by omega)
 ·exact PS.p5 y1 HL.out (by omega)
end Go.Proofs.YtnmkffjklpfflaaGreatDoor
