/- A procedure. -/
import Derived.Test.YtnmkffjklpfflaaGreatDoorG37
namespace Go.Proofs.YtnmkffjklpfflaaGreatDoor
open Go.RowKit
set_option maxHeartbeats 8000000
set_option maxRecDepth 100000
theorem tB {s : List UInt8} (h : yv s = true) : s ≠ [] := by
 rintro rfl
 revert h
 decide
theorem pw {L : List Tok} {k : Int} {i j : Nat} {t : T} (h : yT L k i = .ok (t,j)) : t.name ≠ [] := by
 by_cases b : yv (wd L i) = true
 ·have c : vh L k i = .ok (T.mk k (wd L i) 0 (pos L i) [],i + 1) := P.bind_ok (by unfold uj; rw [if_pos b])
  rw [yT,P.bind_ok c] at h
  by_cases d : wd L (i + 1) = gt
  ·rw [nw,P.bind_ok (a := true) (j := i + 1 + 1) (by unfold yu; rw [if_pos d])] at h
   cases h
   exact tB b
  ·rw [nw,P.bind_ok (a := false) (j := i + 1) (by unfold yu; rw [if_neg d])] at h
   cases h
   exact tB b
 ·have c : vh L k i = .error (yi L i) := P.bind_err (by unfold uj; rw [if_neg b])
  rw [yT,P.bind_err c] at h; cases h
theorem gH (c : PC) (w : World) (i d : Nat) (h : PS c w i d) (hPar : PartOK c d 178 (xw c.L)) (hV : Part c d (fun _ => True) 180 #[.pointer (some ⟨c.pb,0,none⟩)] (kz c.L)) (hA : ActsOK c d (ju c.L 20)) :
    Calls Tryz.prog 148 #[.pointer (some ⟨c.pb,0,none⟩)] w (Steps c w i d (fun w' t v => TR w' w.heap.size w'.heap.size t v) (zW c.L i)) := by
  have HP := ze h; have HL := ze h.low; have hb := h.lt; clear h
  go_enter Tryz.func148,Tryz.ntmps148
  go_wp2_with fail; go_at_call 87; refine (zI c _ i d 7 (PS.alloc HP.out _)).mono ?_; rintro e Q ⟨rfl,a4⟩; have p1 : PS c Q i d := PS.kept (PS.alloc HP.out _) a4; have G1 : w.grownBy Q (some c.pb) := za (zf (zc w (some c.pb)) _) (zv a4 (some c.pb)); have s1 := a4.size
  try simp at s1
  have b2 : RB Q w.heap.size := RB.kept (RB.new' (by simp)) a4 (by simp); have l6 := b2.lt; obtain ⟨_,_,_,_,_,_,_,_,_,_,_⟩ := id b2; go_wp2_with fail; go_at_call 88; refine (zx c _ i d xo _ rfl (by decide) (PS.alloc p1 _)).mono ?_; rintro e w2 (⟨x2,b6,g6,N⟩ | ⟨a2,j2,v2,b6,rfl,-,N,p2,y6⟩)
  · obtain ⟨q,rfl,-⟩ := id g6; exact ⟨rfl,Steps.err (P.bind_err b6) g6 (zf G1 _) N⟩
  have g7 : zW c.L i = _ := P.bind_ok b6; have G2 : w.grownBy w2 (some c.pb) := za (zf G1 _) N; have s2 := N.size
  try simp at s2
  have b8 : RB w2 w.heap.size := RB.keep (RB.alloc b2 _) N (by omega); have c0 : NB w2 Q.heap.size (.int .i64 7) (.string ⟨#[]⟩) (.int .i64 0) (.int .i64 (pos c.L i)) (.slice none 0 0) := NB.keep (NB.new' (by simp)) N (by omega); have l8 := b8.lt; have m0 := c0.lt; obtain ⟨_,_,_,_,_,_,_,_,_,_,_⟩ := id b8; obtain ⟨_,_,_,_,_,_⟩ := id c0; go_wp2_with fail; go_at_call 144; refine (vd c _ j2 d 7 p2).mono ?_; rintro e E (⟨x3,a5,g8,O⟩ | ⟨⟨k3,H,M,q3,B⟩,j3,v3,a5,rfl,⟨y8,rfl,U⟩,O,p3,y9⟩)
  · obtain ⟨q,rfl,-⟩ := id g8; exact ⟨rfl,Steps.err (g7.trans (P.bind_err a5)) g8 G2 O⟩
  have g9 : zW c.L i = _ := g7.trans (P.bind_ok a5); simp only [T.kind,T.name,T.num,T.at',T.subs] at U ⊢; obtain ⟨j,k,rfl⟩ := U.form; obtain ⟨b3,m1,U⟩ : ∃ b,b = _ /\ LR E (In b E.heap.size) B (.slice j B.length k) := ⟨_,rfl,U⟩
  try simp at m1
  have G3 : w.grownBy E (some c.pb) := za G2 O; have s3 := O.size
  try simp at s3
  have c1 : RB E w.heap.size := RB.keep b8 O (by omega); have c2 : NB E Q.heap.size (.int .i64 7) (.string ⟨#[]⟩) (.int .i64 0) (.int .i64 (pos c.L i)) (.slice none 0 0) := NB.keep c0 O (by omega); have m2 := c1.lt; have m6 := c2.lt; obtain ⟨_,_,_,_,_,_,_,_,_,_,_⟩ := id c1; obtain ⟨_,_,_,_,_,_⟩ := id c2; have a9 := pw a5; simp only [T.name] at a9; go_wp2_with fail
  go_region
  all_goals
    go_wp2_with fail; go_at_call 178; refine (hPar _ j3 (PS.drew (PS.alloc (PS.put (PS.put p3 HL.out (by omega) _ _) HL.out (by omega) _ _) _))).mono ?_; rintro e C (⟨x4,c3,h0,F⟩ | ⟨⟨k4,n4,m4,q4,r⟩,j4,v4,c3,rfl,⟨z0,rfl,V⟩,F,p4,z1⟩)
    · obtain ⟨q,rfl,-⟩ := id h0; exact ⟨rfl,Steps.err (g9.trans (P.bind_err c3)) h0 (zh (zf (zq (zq G3 (by omega) _ _) (by omega) _ _) _)) F⟩
    have h1 : zW c.L i = _ := g9.trans (P.bind_ok c3); simp only [T.kind,T.name,T.num,T.at',T.subs] at V ⊢; obtain ⟨l,m,rfl⟩ := V.form; obtain ⟨R,m8,V⟩ : ∃ b,b = _ /\ LR C (In b C.heap.size) r (.slice l r.length m) := ⟨_,rfl,V⟩
    try simp at m8
    have G4 : w.grownBy C (some c.pb) := za (zh (zf (zq (zq G3 (by omega) _ _) (by omega) _ _) _)) F; have s4 := F.size
    try simp at s4
    have c4 : RB C w.heap.size := RB.keep (RB.drew (RB.alloc (RB.put (RB.put c1 _ _ _) _ _ _) _)) F (by omega); have c5 : NB C Q.heap.size (.int .i64 7) (.string ⟨H.toArray⟩) (.int .i64 M) (.int .i64 (pos c.L i)) (.slice none 0 0) := NB.keep (NB.drew (NB.alloc (NB.s2 (NB.s1 c2 _) _) _)) F (by omega); have c6 : NB C E.heap.size (.int .i64 k3) (.string ⟨H.toArray⟩) (.int .i64 M) (.int .i64 q3) (.slice j B.length k) := NB.keep (NB.drew (NB.new' (by simp))) F (by omega); have n0 : LR C (In b3 E.heap.size) B (.slice j B.length k) := LR.call (LR.drew (LR.alloc (LR.put (LR.put U (by omega) _ _) (by omega) _ _) _)) F (by omega); have n1 := c4.lt; have n2 := c5.lt; have n6 := c6.lt; obtain ⟨_,_,_,_,_,_,_,_,_,_,_⟩ := id c4; obtain ⟨_,_,_,_,_,_⟩ := id c5; obtain ⟨_,_,_,_,_,_⟩ := id c6; go_wp2_with fail; go_at_call 179; refine (sg c _ j4 d (PS.alloc p4 _)).mono ?_; rintro e D (⟨x5,c7,h2,z⟩ | ⟨⟨k5,n5,m5,q5,A⟩,j5,v5,c7,rfl,⟨z2,rfl,X⟩,z,p5,z3⟩)
    · obtain ⟨q,rfl,-⟩ := id h2; exact ⟨rfl,Steps.err (h1.trans (P.bind_err c7)) h2 (zf G4 _) z⟩
    have h3 : zW c.L i = _ := h1.trans (P.bind_ok c7); simp only [T.kind,T.name,T.num,T.at',T.subs] at X ⊢; obtain ⟨s,u,rfl⟩ := X.form; obtain ⟨b5,n8,X⟩ : ∃ b,b = _ /\ LR D (In b D.heap.size) A (.slice s A.length u) := ⟨_,rfl,X⟩
    try simp at n8
    have G5 : w.grownBy D (some c.pb) := za (zf G4 _) z; have s5 := z.size
    try simp at s5
    have c8 : RB D w.heap.size := RB.keep (RB.alloc c4 _) z (by omega); have c9 : NB D Q.heap.size (.int .i64 7) (.string ⟨H.toArray⟩) (.int .i64 M) (.int .i64 (pos c.L i)) (.slice none 0 0) := NB.keep (NB.alloc c5 _) z (by omega); have d0 : NB D E.heap.size (.int .i64 k3) (.string ⟨H.toArray⟩) (.int .i64 M) (.int .i64 q3) (.slice j B.length k) := NB.keep (NB.alloc c6 _) z (by omega); have d1 : NB D C.heap.size (.int .i64 k4) (.string ⟨n4.toArray⟩) (.int .i64 m4) (.int .i64 q4) (.slice l r.length m) := NB.keep (NB.new' (by simp)) z (by omega); have o0 : LR D (In b3 E.heap.size) B (.slice j B.length k) := LR.call (LR.alloc n0 _) z (by omega); have o1 : LR D (In R C.heap.size) r (.slice l r.length m) := LR.call (LR.alloc V _) z (by omega); have o2 := c8.lt; have o3 := c9.lt; have o4 := d0.lt; have o5 := d1.lt; obtain ⟨_,_,_,_,_,_,_,_,_,_,_⟩ := id c8; obtain ⟨_,_,_,_,_,_⟩ := id c9; obtain ⟨_,_,_,_,_,_⟩ := id d0; obtain ⟨_,_,_,_,_,_⟩ := id d1; go_wp2_with fail; go_at_call 88; refine (zx c _ j5 d yy _ rfl (by decide) (PS.alloc p5 _)).mono ?_; rintro e w6 (⟨x6,d2,h4,n⟩ | ⟨a6,j6,v6,d2,rfl,-,n,p6,z4⟩)
    · obtain ⟨q,rfl,-⟩ := id h4; exact ⟨rfl,Steps.err (h3.trans (P.bind_err d2)) h4 (zf G5 _) n⟩
    have h5 : zW c.L i = _ := h3.trans (P.bind_ok d2); have G6 : w.grownBy w6 (some c.pb) := za (zf G5 _) n; have s6 := n.size
    try simp at s6
    have d3 : RB w6 w.heap.size := RB.keep (RB.alloc c8 _) n (by omega); have d4 : NB w6 Q.heap.size (.int .i64 7) (.string ⟨H.toArray⟩) (.int .i64 M) (.int .i64 (pos c.L i)) (.slice none 0 0) := NB.keep (NB.alloc c9 _) n (by omega); have d5 : NB w6 E.heap.size (.int .i64 k3) (.string ⟨H.toArray⟩) (.int .i64 M) (.int .i64 q3) (.slice j B.length k) := NB.keep (NB.alloc d0 _) n (by omega); have d6 : NB w6 C.heap.size (.int .i64 k4) (.string ⟨n4.toArray⟩) (.int .i64 m4) (.int .i64 q4) (.slice l r.length m) := NB.keep (NB.alloc d1 _) n (by omega); have d7 : NB w6 D.heap.size (.int .i64 k5) (.string ⟨n5.toArray⟩) (.int .i64 m5) (.int .i64 q5) (.slice s A.length u) := NB.keep (NB.new' (by simp)) n (by omega); have o6 : LR w6 (In b3 E.heap.size) B (.slice j B.length k) := LR.call (LR.alloc o0 _) n (by omega); have o7 : LR w6 (In R C.heap.size) r (.slice l r.length m) := LR.call (LR.alloc o1 _) n (by omega); have o8 : LR w6 (In b5 D.heap.size) A (.slice s A.length u) := LR.call (LR.alloc X _) n (by omega); have o9 := d3.lt; have p0 := d4.lt; have q0 := d5.lt; have q1 := d6.lt; have q2 := d7.lt; obtain ⟨_,_,_,_,_,_,_,_,_,_,_⟩ := id d3; obtain ⟨_,_,_,_,_,_⟩ := id d4; obtain ⟨_,_,_,_,_,_⟩ := id d5; obtain ⟨_,_,_,_,_,_⟩ := id d6; obtain ⟨_,_,_,_,_,_⟩ := id d7; go_wp2_with fail; go_at_call 91; refine (vp c _ j6 d pG _ rfl (by decide) 180 (kz c.L) p6 hV).mono ?_; rintro e G (⟨x7,d8,h6,o⟩ | ⟨⟨k7,n7,m7,q7,I⟩,j7,v7,d8,rfl,⟨z5,rfl,Y⟩,o,p7,z6⟩)
    · obtain ⟨q,rfl,-⟩ := id h6; exact ⟨rfl,Steps.err (h5.trans (P.bind_err d8)) h6 G6 o⟩
    have h7 : zW c.L i = _ := h5.trans (P.bind_ok d8); simp only [T.kind,T.name,T.num,T.at',T.subs] at Y ⊢; obtain ⟨J,K,rfl⟩ := Y.form; obtain ⟨b7,q6,Y⟩ : ∃ b,b = _ /\ LR G (In b G.heap.size) I (.slice J I.length K) := ⟨_,rfl,Y⟩
    try simp at q6
    have G7 : w.grownBy G (some c.pb) := za G6 o; have s7 := o.size
    try simp at s7
    have d9 : RB G w.heap.size := RB.keep d3 o (by omega); have f0 : NB G Q.heap.size (.int .i64 7) (.string ⟨H.toArray⟩) (.int .i64 M) (.int .i64 (pos c.L i)) (.slice none 0 0) := NB.keep d4 o (by omega); have f1 : NB G E.heap.size (.int .i64 k3) (.string ⟨H.toArray⟩) (.int .i64 M) (.int .i64 q3) (.slice j B.length k) := NB.keep d5 o (by omega); have f2 : NB G C.heap.size (.int .i64 k4) (.string ⟨n4.toArray⟩) (.int .i64 m4) (.int .i64 q4) (.slice l r.length m) := NB.keep d6 o (by omega); have f3 : NB G D.heap.size (.int .i64 k5) (.string ⟨n5.toArray⟩) (.int .i64 m5) (.int .i64 q5) (.slice s A.length u) := NB.keep d7 o (by omega); have q8 : LR G (In b3 E.heap.size) B (.slice j B.length k) := LR.call o6 o (by omega); have r0 : LR G (In R C.heap.size) r (.slice l r.length m) := LR.call o7 o (by omega); have r1 : LR G (In b5 D.heap.size) A (.slice s A.length u) := LR.call o8 o (by omega); have r2 := d9.lt; have r3 := f0.lt; have r4 := f1.lt; have r5 := f2.lt; have r6 := f3.lt; obtain ⟨_,_,_,_,_,_,_,_,_,_,_⟩ := id d9; obtain ⟨_,_,_,_,_,_⟩ := id f0; obtain ⟨_,_,_,_,_,_⟩ := id f1; obtain ⟨_,_,_,_,_,_⟩ := id f2; obtain ⟨_,_,_,_,_,_⟩ := id f3; go_wp2_with fail; go_at_call 88; refine (zx c _ j7 d jG _ rfl (by decide) (PS.alloc p7 _)).mono ?_; rintro e Z (⟨x8,f4,h8,f⟩ | ⟨a8,j8,v8,f4,rfl,-,f,p8,z7⟩)
    · obtain ⟨q,rfl,-⟩ := id h8; exact ⟨rfl,Steps.err (h7.trans (P.bind_err f4)) h8 (zf G7 _) f⟩
    have h9 : zW c.L i = _ := h7.trans (P.bind_ok f4); have G8 : w.grownBy Z (some c.pb) := za (zf G7 _) f; have s8 := f.size
    try simp at s8
    have f5 : RB Z w.heap.size := RB.keep (RB.alloc d9 _) f (by omega); have f6 : NB Z Q.heap.size (.int .i64 7) (.string ⟨H.toArray⟩) (.int .i64 M) (.int .i64 (pos c.L i)) (.slice none 0 0) := NB.keep (NB.alloc f0 _) f (by omega); have f7 : NB Z E.heap.size (.int .i64 k3) (.string ⟨H.toArray⟩) (.int .i64 M) (.int .i64 q3) (.slice j B.length k) := NB.keep (NB.alloc f1 _) f (by omega); have f8 : NB Z C.heap.size (.int .i64 k4) (.string ⟨n4.toArray⟩) (.int .i64 m4) (.int .i64 q4) (.slice l r.length m) := NB.keep (NB.alloc f2 _) f (by omega); have f9 : NB Z D.heap.size (.int .i64 k5) (.string ⟨n5.toArray⟩) (.int .i64 m5) (.int .i64 q5) (.slice s A.length u) := NB.keep (NB.alloc f3 _) f (by omega); have g0 : NB Z G.heap.size (.int .i64 k7) (.string ⟨n7.toArray⟩) (.int .i64 m7) (.int .i64 q7) (.slice J I.length K) := NB.keep (NB.new' (by simp)) f (by omega); have r7 : LR Z (In b3 E.heap.size) B (.slice j B.length k) := LR.call (LR.alloc q8 _) f (by omega); have r8 : LR Z (In R C.heap.size) r (.slice l r.length m) := LR.call (LR.alloc r0 _) f (by omega); have r9 : LR Z (In b5 D.heap.size) A (.slice s A.length u) := LR.call (LR.alloc r1 _) f (by omega); have t0 : LR Z (In b7 G.heap.size) I (.slice J I.length K) := LR.call (LR.alloc Y _) f (by omega); have t5 := f5.lt; have t6 := f6.lt; have t7 := f7.lt; have t8 := f8.lt; have t9 := f9.lt; have u0 := g0.lt; obtain ⟨_,_,_,_,_,_,_,_,_,_,_⟩ := id f5; obtain ⟨_,_,_,_,_,_⟩ := id f6; obtain ⟨_,_,_,_,_,_⟩ := id f7; obtain ⟨_,_,_,_,_,_⟩ := id f8; obtain ⟨_,_,_,_,_,_⟩ := id f9; obtain ⟨_,_,_,_,_,_⟩ := id g0; go_wp2_with fail
    go_region_with (first
      | (go_at_call 149
         refine (hA _ j8 (PS.drew p8)).mono ?_; rintro e w9 (⟨x9,g1,j0,g⟩ | ⟨⟨k9,n9,m9,q9,l9⟩,j9,v9,g1,rfl,⟨z8,rfl,a0⟩,g,p9,z9⟩)
         focus
           have HT := j0; obtain ⟨q,rfl,-⟩ := j0
           exact ⟨rfl,Steps.err (h9.trans (P.bind_err g1)) HT (zh G8) g⟩
         have j1 : zW c.L i = _ := h9.trans (P.bind_ok g1); simp only [T.kind,T.name,T.num,T.at',T.subs] at a0 ⊢; obtain ⟨g2,g3,rfl⟩ := a0.form; obtain ⟨b9,u1,a0⟩ : ∃ b,b = _ /\ LR w9 (In b w9.heap.size) l9 (.slice g2 l9.length g3) := ⟨_,rfl,a0⟩
         try simp at u1
         have G9 : w.grownBy w9 (some c.pb) := za (zh G8) g; have s9 := g.size
         try simp at s9
         have g4 : RB w9 w.heap.size := RB.keep (RB.drew f5) g (by omega); have g5 : NB w9 Q.heap.size (.int .i64 7) (.string ⟨H.toArray⟩) (.int .i64 M) (.int .i64 (pos c.L i)) (.slice none 0 0) := NB.keep (NB.drew f6) g (by omega); have k0 : NB w9 E.heap.size (.int .i64 k3) (.string ⟨H.toArray⟩) (.int .i64 M) (.int .i64 q3) (.slice j B.length k) := NB.keep (NB.drew f7) g (by omega); have k1 : NB w9 C.heap.size (.int .i64 k4) (.string ⟨n4.toArray⟩) (.int .i64 m4) (.int .i64 q4) (.slice l r.length m) := NB.keep (NB.drew f8) g (by omega); have k2 : NB w9 D.heap.size (.int .i64 k5) (.string ⟨n5.toArray⟩) (.int .i64 m5) (.int .i64 q5) (.slice s A.length u) := NB.keep (NB.drew f9) g (by omega); have k6 : NB w9 G.heap.size (.int .i64 k7) (.string ⟨n7.toArray⟩) (.int .i64 m7) (.int .i64 q7) (.slice J I.length K) := NB.keep (NB.drew g0) g (by omega); have A0 : LR w9 (In b3 E.heap.size) B (.slice j B.length k) := LR.call (LR.drew r7) g (by omega); have u2 : LR w9 (In R C.heap.size) r (.slice l r.length m) := LR.call (LR.drew r8) g (by omega); have u3 : LR w9 (In b5 D.heap.size) A (.slice s A.length u) := LR.call (LR.drew r9) g (by omega); have u4 : LR w9 (In b7 G.heap.size) I (.slice J I.length K) := LR.call (LR.drew t0) g (by omega); have u5 := g4.lt; have u6 := g5.lt; have u7 := k0.lt; have u8 := k1.lt; have u9 := k2.lt; have v0 := k6.lt; obtain ⟨_,_,_,_,_,_,_,_,_,_,_⟩ := id g4; obtain ⟨_,_,_,_,_,_⟩ := id g5; obtain ⟨_,_,_,_,_,_⟩ := id k0; obtain ⟨_,_,_,_,_,_⟩ := id k1; obtain ⟨_,_,_,_,_,_⟩ := id k2
         obtain ⟨_,_,_,_,_,_⟩ := id k6))
    all_goals
      go_wp2_with fail; go_at_call 97; refine (kZ c _ j9 d H _ (by simp) a9 (PS.alloc (PS.put p9 HL.out (by omega) _ _) _)).mono ?_; rintro e a7 (⟨A1,a1,b0,x⟩ | ⟨A2,A3,A4,a1,rfl,-,x,x0,y4⟩)
      · obtain ⟨q,rfl,-⟩ := id b0; exact ⟨rfl,Steps.err (j1.trans (P.bind_err a1)) b0 (zf (zq G9 (by omega) _ _) _) x⟩
      have k8 : zW c.L i = _ := j1.trans (P.bind_ok a1); have x1 : w.grownBy a7 (some c.pb) := za (zf (zq G9 (by omega) _ _) _) x; have y1 := x.size
      try simp at y1
      have a3 : RB a7 w.heap.size := RB.keep (RB.alloc (RB.put g4 _ _ _) _) x (by omega); have b1 : NB a7 Q.heap.size (.int .i64 7) (.string ⟨H.toArray⟩) (.int .i64 M) (.int .i64 (pos c.L i)) (.slice (some ⟨w9.heap.size,0,none⟩) 4 4) := NB.keep (NB.alloc (NB.s4 g5 _) _) x (by omega); have l0 : LR a7 (In R (w9.heap.size + 1)) ([(T.mk k4 n4 m4 q4 r),(T.mk k5 n5 m5 q5 A),(T.mk k7 n7 m7 q7 I),(T.mk k9 n9 m9 q9 l9)]) (.slice (some ⟨w9.heap.size,0,none⟩) 4 4) := LR.call (LR.build4 _ (t1 := (T.mk k4 n4 m4 q4 r)) (t2 := (T.mk k5 n5 m5 q5 A)) (t3 := (T.mk k7 n7 m7 q7 I)) (t4 := (T.mk k9 n9 m9 q9 l9)) (v1 := .slice l r.length m) (v2 := .slice s A.length u) (v3 := .slice J I.length K) (v4 := .slice g2 l9.length g3) (show LR _ (In R w9.heap.size) r (.slice l r.length m) from LR.wide (lo := R) (hi := C.heap.size) (LR.put u2 (by omega) _ _) (by omega) (by first | omega | (simp <;> omega))) (show LR _ (In R w9.heap.size) A (.slice s A.length u) from LR.wide (lo := b5) (hi := D.heap.size) (LR.put u3 (by omega) _ _) (by omega) (by first | omega | (simp <;> omega))) (show LR _ (In R w9.heap.size) I (.slice J I.length K) from LR.wide (lo := b7) (hi := G.heap.size) (LR.put u4 (by omega) _ _) (by omega) (by first | omega | (simp <;> omega))) (show LR _ (In R w9.heap.size) l9 (.slice g2 l9.length g3) from LR.wide (lo := b9) (hi := w9.heap.size) (LR.put a0 (by omega) _ _) (by omega) (by first | omega | (simp <;> omega))) (by simp) rfl (by omega)) x (by omega); have l1 := a3.lt; have l2 := b1.lt; obtain ⟨_,_,_,_,_,_,_,_,_,_,_⟩ := id a3; obtain ⟨_,_,_,_,_,_⟩ := id b1; go_wp2; refine zj Tryz.results148 rfl (RB.five ?_) rfl ?_
      · exact a3
      refine Steps.ok (a := (T.mk 7 H M (pos c.L i) [(T.mk k4 n4 m4 q4 r),(T.mk k5 n5 m5 q5 A),(T.mk k7 n7 m7 q7 I),(T.mk k9 n9 m9 q9 l9)])) k8 ⟨_,rfl,?_⟩ ?_ ?_ (by omega)
      · refine LR.wide (lo := R) (hi := w9.heap.size + 1) (ts := [(T.mk k4 n4 m4 q4 r),(T.mk k5 n5 m5 q5 A),(T.mk k7 n7 m7 q7 I),(T.mk k9 n9 m9 q9 l9)]) ?_ (by omega) (by first | omega | (simp <;> omega))
        exact LR.p5 l0 (by omega)
      · exact zy x1 (by omega)
      · exact PS.p5 x0 HL.out (by omega)
end Go.Proofs.YtnmkffjklpfflaaGreatDoor
