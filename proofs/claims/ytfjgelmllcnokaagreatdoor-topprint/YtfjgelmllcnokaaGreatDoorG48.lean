/- A procedure. -/
import Derived.Test.YtfjgelmllcnokaaGreatDoorG47
import Derived.Test.YtfjgelmllcnokaaGreatDoorG04
namespace Go.Proofs.YtfjgelmllcnokaaGreatDoor
open Go.RowKit
set_option maxHeartbeats 8000000
set_option maxRecDepth 100000
theorem li {s : List UInt8} (h : zF s = true) : s ≠ [] := by
 rintro rfl
 revert h
 decide
theorem ai {L : List Tok} {k : Int} {i j : Nat} {t : T} (h : xq L k i = .ok (t,j)) : t.name ≠ [] := by
 by_cases b : zF (wd L i) = true
 ·have d : vj L k i = .ok (T.mk k (wd L i) 0 (pos L i) [],i + 1) := P.bind_ok (by unfold uo; rw [if_pos b])
  rw [xq,P.bind_ok d] at h
  by_cases e : wd L (i + 1) = qz
  ·rw [mY,P.bind_ok (a := true) (j := i + 1 + 1) (by unfold yP; rw [if_pos e])] at h
   cases h
   exact li b
  ·rw [mY,P.bind_ok (a := false) (j := i + 1) (by unfold yP; rw [if_neg e])] at h
   cases h
   exact li b
 ·have d : vj L k i = .error (xw L i) := P.bind_err (by unfold uo; rw [if_neg b])
  rw [xq,P.bind_err d] at h; cases h
theorem sT (c : PC) (w : World) (i d : Nat) (h : PS c w i d) (hPar : PartOK c d 154 (xo c.L)) (hV : Part c d (fun _ => True) 156 #[.pointer (some ⟨c.pb,0,none⟩)] (kS c.L)) (hA : ActsOK c d (vp c.L 20)) :
    Calls Tryz.prog 124 #[.pointer (some ⟨c.pb,0,none⟩)] w (Steps c w i d (fun w' t v => TR w' w.heap.size w'.heap.size t v) (xv c.L i)) := by
  have HP := za h; have HL := za h.low; have hb := h.lt; clear h
  go_enter Tryz.func124,Tryz.ntmps124
  go_wp2_with fail; go_at_call 59; refine (yA c _ i d 7 (PS.alloc HP.out _)).mono ?_; rintro e w1 ⟨rfl,a1⟩; have p1 : PS c w1 i d := PS.kept (PS.alloc HP.out _) a1; have G1 : w.grownBy w1 (some c.pb) := zb ga (zJ a1 (some c.pb)); have s1 := a1.size
  try simp at s1
  have b0 : RB w1 w.heap.size := RB.kept (RB.new' (by simp)) a1 (by simp); have l1 := b0.lt; obtain ⟨_,_,_,_,_,_,_,_,_,_,_⟩ := id b0; go_wp2_with fail; go_at_call 60; refine (zI c _ i d yk _ rfl (by decide) (PS.alloc p1 _)).mono ?_; rintro e w2 (⟨x2,b1,g2,E⟩ | ⟨a2,j2,v2,b1,rfl,-,E,p2,y0⟩)
  · obtain ⟨q,rfl,-⟩ := id g2; exact ⟨rfl,Steps.err (P.bind_err b1) g2 (zf G1 _) E⟩
  have g3 : xv c.L i = _ := P.bind_ok b1; have G2 : w.grownBy w2 (some c.pb) := zb (zf G1 _) E; have s2 := E.size
  try simp at s2
  have b2 : RB w2 w.heap.size := RB.k (RB.alloc b0 _) E; have b6 : NB w2 w1.heap.size (.int .i64 7) (.string ⟨#[]⟩) (.int .i64 0) (.int .i64 (pos c.L i)) (.slice none 0 0) := NB.k (NB.new' (by simp)) E; have l2 := b2.lt; have l6 := b6.lt; obtain ⟨_,_,_,_,_,_,_,_,_,_,_⟩ := id b2; obtain ⟨_,_,_,_,_,_⟩ := id b6; go_wp2_with fail; go_at_call 120; refine (jS c _ j2 d 7 p2).mono ?_; rintro e w3 (⟨x3,a3,g4,F⟩ | ⟨⟨k3,H,M,q3,B⟩,j3,v3,a3,rfl,⟨y1,rfl,N⟩,F,p3,y2⟩)
  · obtain ⟨q,rfl,-⟩ := id g4; exact ⟨rfl,Steps.err (g3.trans (P.bind_err a3)) g4 G2 F⟩
  have g5 := g3.trans (P.bind_ok a3); simp only [T.kind,T.name,T.num,T.at',T.subs] at N ⊢; obtain ⟨m,n,rfl⟩ := N.form; obtain ⟨b3,l8,N⟩ := N.nm
  try simp at l8
  have G3 := zb G2 F; have s3 := F.size
  try simp at s3
  have b8 := RB.k b2 F; have c0 := NB.k b6 F; have m0 := b8.lt; have m1 := c0.lt; obtain ⟨_,_,_,_,_,_,_,_,_,_,_⟩ := id b8; obtain ⟨_,_,_,_,_,_⟩ := id c0; have a5 := ai a3; simp only [T.name] at a5; go_wp2_with fail
  go_region
  all_goals
    go_wp2_with fail; go_at_call 154; refine (hPar _ j3 (PS.drew (PS.alloc (PS.put (PS.put p3 HL.out (by omega) _ _) HL.out (by omega) _ _) _))).mono ?_; rintro e C (⟨x4,c1,g6,x⟩ | ⟨⟨k4,n4,m4,q4,u⟩,j4,v4,c1,rfl,⟨y3,rfl,O⟩,x,p4,y4⟩)
    · obtain ⟨q,rfl,-⟩ := id g6; exact ⟨rfl,Steps.err (g5.trans (P.bind_err c1)) g6 (zj (zf (zC (zC G3 (by omega) _ _) (by omega) _ _) _)) x⟩
    have g7 := g5.trans (P.bind_ok c1); simp only [T.kind,T.name,T.num,T.at',T.subs] at O ⊢; obtain ⟨o,r,rfl⟩ := O.form; obtain ⟨R,m2,O⟩ := O.nm
    try simp at m2
    have G4 : w.grownBy C (some c.pb) := zb (zj (zf (zC (zC G3 (by omega) _ _) (by omega) _ _) _)) x; have s4 := x.size
    try simp at s4
    have c2 : RB C w.heap.size := RB.k (RB.drew (RB.alloc (RB.put (RB.put b8 _ _ _) _ _ _) _)) x; have c3 : NB C w1.heap.size (.int .i64 7) (.string ⟨H.toArray⟩) (.int .i64 M) (.int .i64 (pos c.L i)) (.slice none 0 0) := NB.k (NB.drew (NB.alloc (NB.s2 (NB.s1 c0 _) _) _)) x; have c4 : NB C w3.heap.size (.int .i64 k3) (.string ⟨H.toArray⟩) (.int .i64 M) (.int .i64 q3) (.slice m B.length n) := NB.k (NB.drew (NB.new' (by simp))) x; have m6 : LR C (In b3 w3.heap.size) B (.slice m B.length n) := LR.call (LR.drew (LR.alloc (LR.put (LR.put N (by omega) _ _) (by omega) _ _) _)) x (by omega); have m8 := c2.lt; have n0 := c3.lt; have n1 := c4.lt; obtain ⟨_,_,_,_,_,_,_,_,_,_,_⟩ := id c2; obtain ⟨_,_,_,_,_,_⟩ := id c3; obtain ⟨_,_,_,_,_,_⟩ := id c4; go_wp2_with fail; go_at_call 155; refine (nG c _ j4 d (PS.alloc p4 _)).mono ?_; rintro e D (⟨x5,c5,g8,s⟩ | ⟨⟨k5,n5,m5,q5,A⟩,j5,v5,c5,rfl,⟨y5,rfl,U⟩,s,p5,y6⟩)
    · obtain ⟨q,rfl,-⟩ := id g8; exact ⟨rfl,Steps.err (g7.trans (P.bind_err c5)) g8 (zf G4 _) s⟩
    have g9 := g7.trans (P.bind_ok c5); simp only [T.kind,T.name,T.num,T.at',T.subs] at U ⊢; obtain ⟨y,z,rfl⟩ := U.form; obtain ⟨b5,n2,U⟩ := U.nm
    try simp at n2
    have G5 : w.grownBy D (some c.pb) := zb (zf G4 _) s; have s5 := s.size
    try simp at s5
    have c6 : RB D w.heap.size := RB.k (RB.alloc c2 _) s; have c7 : NB D w1.heap.size (.int .i64 7) (.string ⟨H.toArray⟩) (.int .i64 M) (.int .i64 (pos c.L i)) (.slice none 0 0) := NB.k (NB.alloc c3 _) s; have c8 : NB D w3.heap.size (.int .i64 k3) (.string ⟨H.toArray⟩) (.int .i64 M) (.int .i64 q3) (.slice m B.length n) := NB.k (NB.alloc c4 _) s; have c9 : NB D C.heap.size (.int .i64 k4) (.string ⟨n4.toArray⟩) (.int .i64 m4) (.int .i64 q4) (.slice o u.length r) := NB.k (NB.new' (by simp)) s; have n6 : LR D (In b3 w3.heap.size) B (.slice m B.length n) := LR.c (LR.alloc m6 _) s; have n8 : LR D (In R C.heap.size) u (.slice o u.length r) := LR.c (LR.alloc O _) s; have o0 := c6.lt; have o1 := c7.lt; have o2 := c8.lt; have o3 := c9.lt; obtain ⟨_,_,_,_,_,_,_,_,_,_,_⟩ := id c6; obtain ⟨_,_,_,_,_,_⟩ := id c7; obtain ⟨_,_,_,_,_,_⟩ := id c8; obtain ⟨_,_,_,_,_,_⟩ := id c9; go_wp2_with fail; go_at_call 60; refine (zI c _ j5 d zE _ rfl (by decide) (PS.alloc p5 _)).mono ?_; rintro e w6 (⟨x6,d0,h0,g⟩ | ⟨a6,j6,v6,d0,rfl,-,g,p6,y7⟩)
    · obtain ⟨q,rfl,-⟩ := id h0; exact ⟨rfl,Steps.err (g9.trans (P.bind_err d0)) h0 (zf G5 _) g⟩
    have h1 := g9.trans (P.bind_ok d0); have G6 : w.grownBy w6 (some c.pb) := zb (zf G5 _) g; have s6 := g.size
    try simp at s6
    have d1 : RB w6 w.heap.size := RB.k (RB.alloc c6 _) g; have d2 : NB w6 w1.heap.size (.int .i64 7) (.string ⟨H.toArray⟩) (.int .i64 M) (.int .i64 (pos c.L i)) (.slice none 0 0) := NB.k (NB.alloc c7 _) g; have d3 : NB w6 w3.heap.size (.int .i64 k3) (.string ⟨H.toArray⟩) (.int .i64 M) (.int .i64 q3) (.slice m B.length n) := NB.k (NB.alloc c8 _) g; have d4 : NB w6 C.heap.size (.int .i64 k4) (.string ⟨n4.toArray⟩) (.int .i64 m4) (.int .i64 q4) (.slice o u.length r) := NB.k (NB.alloc c9 _) g; have d5 : NB w6 D.heap.size (.int .i64 k5) (.string ⟨n5.toArray⟩) (.int .i64 m5) (.int .i64 q5) (.slice y A.length z) := NB.k (NB.new' (by simp)) g; have o4 : LR w6 (In b3 w3.heap.size) B (.slice m B.length n) := LR.c (LR.alloc n6 _) g; have o5 : LR w6 (In R C.heap.size) u (.slice o u.length r) := LR.c (LR.alloc n8 _) g; have o6 : LR w6 (In b5 D.heap.size) A (.slice y A.length z) := LR.c (LR.alloc U _) g; have o7 := d1.lt; have o8 := d2.lt; have o9 := d3.lt; have p0 := d4.lt; have q0 := d5.lt; obtain ⟨_,_,_,_,_,_,_,_,_,_,_⟩ := id d1; obtain ⟨_,_,_,_,_,_⟩ := id d2; obtain ⟨_,_,_,_,_,_⟩ := id d3; obtain ⟨_,_,_,_,_,_⟩ := id d4; obtain ⟨_,_,_,_,_,_⟩ := id d5; go_wp2_with fail; go_at_call 63; refine (kc c _ j6 d vE _ rfl (by decide) 156 (kS c.L) p6 hV).mono ?_; rintro e w7 (⟨x7,d6,h2,j⟩ | ⟨⟨k7,n7,m7,q7,I⟩,j7,v7,d6,rfl,⟨y8,rfl,V⟩,j,p7,y9⟩)
    · obtain ⟨q,rfl,-⟩ := id h2; exact ⟨rfl,Steps.err (h1.trans (P.bind_err d6)) h2 G6 j⟩
    have h3 := h1.trans (P.bind_ok d6); simp only [T.kind,T.name,T.num,T.at',T.subs] at V ⊢; obtain ⟨J,K,rfl⟩ := V.form; obtain ⟨b7,q1,V⟩ := V.nm
    try simp at q1
    have G7 := zb G6 j; have s7 := j.size
    try simp at s7
    have d7 := RB.k d1 j; have d8 := NB.k d2 j; have d9 := NB.k d3 j; have f0 := NB.k d4 j; have f1 := NB.k d5 j; have q2 := LR.c o4 j; have q6 := LR.c o5 j; have q8 := LR.c o6 j; have r0 := d7.lt; have r1 := d8.lt; have r2 := d9.lt; have r3 := f0.lt; have r4 := f1.lt; obtain ⟨_,_,_,_,_,_,_,_,_,_,_⟩ := id d7; obtain ⟨_,_,_,_,_,_⟩ := id d8; obtain ⟨_,_,_,_,_,_⟩ := id d9; obtain ⟨_,_,_,_,_,_⟩ := id f0; obtain ⟨_,_,_,_,_,_⟩ := id f1; go_wp2_with fail; go_at_call 60; refine (zI c _ j7 d yZ _ rfl (by decide) (PS.alloc p7 _)).mono ?_; rintro e X (⟨x8,f2,h4,b⟩ | ⟨a8,j8,v8,f2,rfl,-,b,p8,z0⟩)
    · obtain ⟨q,rfl,-⟩ := id h4; exact ⟨rfl,Steps.err (h3.trans (P.bind_err f2)) h4 (zf G7 _) b⟩
    have h5 := h3.trans (P.bind_ok f2); have G8 : w.grownBy X (some c.pb) := zb (zf G7 _) b; have s8 := b.size
    try simp at s8
    have f3 : RB X w.heap.size := RB.k (RB.alloc d7 _) b; have f4 : NB X w1.heap.size (.int .i64 7) (.string ⟨H.toArray⟩) (.int .i64 M) (.int .i64 (pos c.L i)) (.slice none 0 0) := NB.k (NB.alloc d8 _) b; have f5 : NB X w3.heap.size (.int .i64 k3) (.string ⟨H.toArray⟩) (.int .i64 M) (.int .i64 q3) (.slice m B.length n) := NB.k (NB.alloc d9 _) b; have f6 : NB X C.heap.size (.int .i64 k4) (.string ⟨n4.toArray⟩) (.int .i64 m4) (.int .i64 q4) (.slice o u.length r) := NB.k (NB.alloc f0 _) b; have f7 : NB X D.heap.size (.int .i64 k5) (.string ⟨n5.toArray⟩) (.int .i64 m5) (.int .i64 q5) (.slice y A.length z) := NB.k (NB.alloc f1 _) b; have f8 : NB X w7.heap.size (.int .i64 k7) (.string ⟨n7.toArray⟩) (.int .i64 m7) (.int .i64 q7) (.slice J I.length K) := NB.k (NB.new' (by simp)) b; have r5 : LR X (In b3 w3.heap.size) B (.slice m B.length n) := LR.c (LR.alloc q2 _) b; have r6 : LR X (In R C.heap.size) u (.slice o u.length r) := LR.c (LR.alloc q6 _) b; have r7 : LR X (In b5 D.heap.size) A (.slice y A.length z) := LR.c (LR.alloc q8 _) b; have r8 : LR X (In b7 w7.heap.size) I (.slice J I.length K) := LR.c (LR.alloc V _) b; have r9 := f3.lt; have t0 := f4.lt; have t5 := f5.lt; have t6 := f6.lt; have t7 := f7.lt; have t8 := f8.lt; obtain ⟨_,_,_,_,_,_,_,_,_,_,_⟩ := id f3; obtain ⟨_,_,_,_,_,_⟩ := id f4; obtain ⟨_,_,_,_,_,_⟩ := id f5; obtain ⟨_,_,_,_,_,_⟩ := id f6; obtain ⟨_,_,_,_,_,_⟩ := id f7; obtain ⟨_,_,_,_,_,_⟩ := id f8; go_wp2_with fail
    go_region_with (first
      | (go_at_call 125
         refine (hA _ j8 (PS.drew p8)).mono ?_; rintro e w9 (⟨x9,f9,h6,f⟩ | ⟨⟨k9,n9,m9,q9,l9⟩,j9,v9,f9,rfl,⟨z1,rfl,Y⟩,f,p9,z2⟩)
         focus
           have HT := h6; obtain ⟨q,rfl,-⟩ := h6
           exact ⟨rfl,Steps.err (h5.trans (P.bind_err f9)) HT (zj G8) f⟩
         have h7 := h5.trans (P.bind_ok f9); simp only [T.kind,T.name,T.num,T.at',T.subs] at Y ⊢; obtain ⟨h8,h9,rfl⟩ := Y.form; obtain ⟨b9,t9,Y⟩ := Y.nm
         try simp at t9
         have G9 : w.grownBy w9 (some c.pb) := zb (zj G8) f; have s9 := f.size
         try simp at s9
         have g0 : RB w9 w.heap.size := RB.k (RB.drew f3) f; have g1 : NB w9 w1.heap.size (.int .i64 7) (.string ⟨H.toArray⟩) (.int .i64 M) (.int .i64 (pos c.L i)) (.slice none 0 0) := NB.k (NB.drew f4) f; have j0 : NB w9 w3.heap.size (.int .i64 k3) (.string ⟨H.toArray⟩) (.int .i64 M) (.int .i64 q3) (.slice m B.length n) := NB.k (NB.drew f5) f; have j1 : NB w9 C.heap.size (.int .i64 k4) (.string ⟨n4.toArray⟩) (.int .i64 m4) (.int .i64 q4) (.slice o u.length r) := NB.k (NB.drew f6) f; have k0 : NB w9 D.heap.size (.int .i64 k5) (.string ⟨n5.toArray⟩) (.int .i64 m5) (.int .i64 q5) (.slice y A.length z) := NB.k (NB.drew f7) f; have k1 : NB w9 w7.heap.size (.int .i64 k7) (.string ⟨n7.toArray⟩) (.int .i64 m7) (.int .i64 q7) (.slice J I.length K) := NB.k (NB.drew f8) f; have z3 : LR w9 (In b3 w3.heap.size) B (.slice m B.length n) := LR.c (LR.drew r5) f; have u0 : LR w9 (In R C.heap.size) u (.slice o u.length r) := LR.c (LR.drew r6) f; have u1 : LR w9 (In b5 D.heap.size) A (.slice y A.length z) := LR.c (LR.drew r7) f; have u2 : LR w9 (In b7 w7.heap.size) I (.slice J I.length K) := LR.c (LR.drew r8) f; have u3 := g0.lt; have u4 := g1.lt; have u5 := j0.lt; have u6 := j1.lt; have u7 := k0.lt; have u8 := k1.lt; obtain ⟨_,_,_,_,_,_,_,_,_,_,_⟩ := id g0; obtain ⟨_,_,_,_,_,_⟩ := id g1; obtain ⟨_,_,_,_,_,_⟩ := id j0; obtain ⟨_,_,_,_,_,_⟩ := id j1; obtain ⟨_,_,_,_,_,_⟩ := id k0
         obtain ⟨_,_,_,_,_,_⟩ := id k1))
    all_goals
      go_wp2_with fail; go_at_call 69; refine (dV c _ j9 d H _ (by simp) a5 (PS.alloc (PS.put p9 HL.out (by omega) _ _) _)).mono ?_; rintro e a4 (⟨z4,Z,a7,l⟩ | ⟨z5,z6,z7,Z,rfl,-,l,u9,x1⟩)
      · obtain ⟨q,rfl,-⟩ := id a7; exact ⟨rfl,Steps.err (h7.trans (P.bind_err Z)) a7 (zf (zC G9 (by omega) _ _) _) l⟩
      have k2 := h7.trans (P.bind_ok Z); have v0 : w.grownBy a4 (some c.pb) := zb (zf (zC G9 (by omega) _ _) _) l; have x0 := l.size
      try simp at x0
      have a0 : RB a4 w.heap.size := RB.k (RB.alloc (RB.put g0 _ _ _) _) l; have a9 : NB a4 w1.heap.size (.int .i64 7) (.string ⟨H.toArray⟩) (.int .i64 M) (.int .i64 (pos c.L i)) (.slice (some ⟨w9.heap.size,0,none⟩) 4 4) := NB.k (NB.alloc (NB.s4 g1 _) _) l; have k6 : LR a4 (In R (w9.heap.size + 1)) ([(T.mk k4 n4 m4 q4 u),(T.mk k5 n5 m5 q5 A),(T.mk k7 n7 m7 q7 I),(T.mk k9 n9 m9 q9 l9)]) (.slice (some ⟨w9.heap.size,0,none⟩) 4 4) := LR.c (LR.build4 _ (t1 := (T.mk k4 n4 m4 q4 u)) (t2 := (T.mk k5 n5 m5 q5 A)) (t3 := (T.mk k7 n7 m7 q7 I)) (t4 := (T.mk k9 n9 m9 q9 l9)) (v1 := .slice o u.length r) (v2 := .slice y A.length z) (v3 := .slice J I.length K) (v4 := .slice h8 l9.length h9) (show LR _ (In R w9.heap.size) u (.slice o u.length r) from LR.wide (lo := R) (hi := C.heap.size) (LR.put u0 (by omega) _ _) (by omega) (by first | omega | (simp <;> omega))) (show LR _ (In R w9.heap.size) A (.slice y A.length z) from LR.wide (lo := b5) (hi := D.heap.size) (LR.put u1 (by omega) _ _) (by omega) (by first | omega | (simp <;> omega))) (show LR _ (In R w9.heap.size) I (.slice J I.length K) from LR.wide (lo := b7) (hi := w7.heap.size) (LR.put u2 (by omega) _ _) (by omega) (by first | omega | (simp <;> omega))) (show LR _ (In R w9.heap.size) l9 (.slice h8 l9.length h9) from LR.wide (lo := b9) (hi := w9.heap.size) (LR.put Y (by omega) _ _) (by omega) (by first | omega | (simp <;> omega))) (by simp) rfl (by omega)) l; have k8 := a0.lt; have l0 := a9.lt; obtain ⟨_,_,_,_,_,_,_,_,_,_,_⟩ := id a0; obtain ⟨_,_,_,_,_,_⟩ := id a9; go_wp2; refine zn Tryz.results124 rfl (RB.five ?_) rfl ?_
      · exact a0
      refine Steps.ok (a := (T.mk 7 H M (pos c.L i) [(T.mk k4 n4 m4 q4 u),(T.mk k5 n5 m5 q5 A),(T.mk k7 n7 m7 q7 I),(T.mk k9 n9 m9 q9 l9)])) k2 ⟨_,rfl,?_⟩ ?_ ?_ (by omega)
      · refine LR.wide (lo := R) (hi := w9.heap.size + 1) (ts := [(T.mk k4 n4 m4 q4 u),(T.mk k5 n5 m5 q5 A),(T.mk k7 n7 m7 q7 I),(T.mk k9 n9 m9 q9 l9)]) ?_ (by omega) (by first | omega | (simp <;> omega))
        exact LR.p5 k6 (by omega)
      · exact zS v0 (by omega)
      · exact PS.p5 u9 HL.out (by omega)
end Go.Proofs.YtfjgelmllcnokaaGreatDoor
