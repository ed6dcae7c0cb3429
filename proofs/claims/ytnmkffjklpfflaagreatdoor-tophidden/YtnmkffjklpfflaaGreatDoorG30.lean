/- Acts: while,repeat,return,and those of one word. -/
import Derived.Test.YtnmkffjklpfflaaGreatDoorG28
namespace Go.Proofs.YtnmkffjklpfflaaGreatDoor
open Go.RowKit
set_option maxHeartbeats 1000000
set_option maxRecDepth 100000
abbrev ActsOK (c : PC) (d : Nat) (A : P T) : Prop := PartOK c d 149 A
theorem gm (c : PC) (w : World) (i d : Nat) (E A : P T) (h : PS c w i d) (hE : ExprOK c d E) (hA : ActsOK c d A) :
    Calls Tryz.prog 214 #[.pointer (some ⟨c.pb,0,none⟩)] w (Steps c w i d (fun w' t v => TR w' w.heap.size w'.heap.size t v) (uP c.L E A i)) := by
  have HP := ze h; have HL := ze h.low; have hb := h.lt; clear h
  go_enter Tryz.func214,Tryz.ntmps214
  go_wp2_with fail; go_at_call 87; refine (zI c _ i d 17 (PS.alloc HP.out _)).mono ?_; rintro e C ⟨rfl,B⟩; have p1 : PS c C i d := PS.kept (PS.alloc HP.out _) B; have G1 : w.grownBy C (some c.pb) := za (zf (zc w (some c.pb)) _) (zv B (some c.pb)); have s1 := B.size
  try simp at s1
  have D : RB C w.heap.size := RB.kept (RB.new' (by simp)) B (by simp); have c3 := D.lt; obtain ⟨_,_,_,_,_,_,_,_,_,_,_⟩ := id D; go_wp2_with fail; go_at_call 88; refine (zx c _ i d gc _ rfl (by decide) (PS.alloc p1 _)).mono ?_; rintro e w2 (⟨x2,F,a9,n⟩ | ⟨a2,j2,v2,F,rfl,-,n,p2,f2⟩)
  · obtain ⟨q,rfl,-⟩ := id a9; exact ⟨rfl,Steps.err (P.bind_err F) a9 (zf G1 _) n⟩
  have b0 : uP c.L E A i = _ := P.bind_ok F; have G2 : w.grownBy w2 (some c.pb) := za (zf G1 _) n; have s2 := n.size
  try simp at s2
  have G : RB w2 w.heap.size := RB.keep (RB.alloc D _) n (by omega); have H : NB w2 C.heap.size (.int .i64 17) (.string ⟨#[]⟩) (.int .i64 0) (.int .i64 (pos c.L i)) (.slice none 0 0) := NB.keep (NB.new' (by simp)) n (by omega); have c4 := G.lt; have c5 := H.lt; obtain ⟨_,_,_,_,_,_,_,_,_,_,_⟩ := id G; obtain ⟨_,_,_,_,_,_⟩ := id H; go_wp2_with fail; go_at_call 145; refine (hE.call _ j2 p2 trivial).mono ?_; rintro e u (⟨x3,I,b1,o⟩ | ⟨⟨J,K,M,N,g⟩,j3,v3,I,rfl,⟨f3,rfl,x⟩,o,p3,f4⟩)
  · obtain ⟨q,rfl,-⟩ := id b1; exact ⟨rfl,Steps.err (b0.trans (P.bind_err I)) b1 G2 o⟩
  have b2 : uP c.L E A i = _ := b0.trans (P.bind_ok I); simp only [T.kind,T.name,T.num,T.at',T.subs] at x ⊢; obtain ⟨j,k,rfl⟩ := x.form; obtain ⟨b3,c6,x⟩ : ∃ b,b = _ /\ LR u (In b u.heap.size) g (.slice j g.length k) := ⟨_,rfl,x⟩
  try simp at c6
  have G3 : w.grownBy u (some c.pb) := za G2 o; have s3 := o.size
  try simp at s3
  have O : RB u w.heap.size := RB.keep G o (by omega); have Q : NB u C.heap.size (.int .i64 17) (.string ⟨#[]⟩) (.int .i64 0) (.int .i64 (pos c.L i)) (.slice none 0 0) := NB.keep H o (by omega); have c7 := O.lt; have c8 := Q.lt; obtain ⟨_,_,_,_,_,_,_,_,_,_,_⟩ := id O; obtain ⟨_,_,_,_,_,_⟩ := id Q; go_wp2_with fail; go_at_call 88; refine (zx c _ j3 d kDO _ rfl (by decide) (PS.alloc p3 _)).mono ?_; rintro e w4 (⟨x4,R,b4,l⟩ | ⟨a4,j4,v4,R,rfl,-,l,p4,f5⟩)
  · obtain ⟨q,rfl,-⟩ := id b4; exact ⟨rfl,Steps.err (b2.trans (P.bind_err R)) b4 (zf G3 _) l⟩
  have b6 : uP c.L E A i = _ := b2.trans (P.bind_ok R); have G4 : w.grownBy w4 (some c.pb) := za (zf G3 _) l; have s4 := l.size
  try simp at s4
  have U : RB w4 w.heap.size := RB.keep (RB.alloc O _) l (by omega); have V : NB w4 C.heap.size (.int .i64 17) (.string ⟨#[]⟩) (.int .i64 0) (.int .i64 (pos c.L i)) (.slice none 0 0) := NB.keep (NB.alloc Q _) l (by omega); have X : NB w4 u.heap.size (.int .i64 J) (.string ⟨K.toArray⟩) (.int .i64 M) (.int .i64 N) (.slice j g.length k) := NB.keep (NB.new' (by simp)) l (by omega); have c9 : LR w4 (In b3 u.heap.size) g (.slice j g.length k) := LR.call (LR.alloc x _) l (by omega); have d0 := U.lt; have d1 := V.lt; have d2 := X.lt; obtain ⟨_,_,_,_,_,_,_,_,_,_,_⟩ := id U; obtain ⟨_,_,_,_,_,_⟩ := id V; obtain ⟨_,_,_,_,_,_⟩ := id X; go_wp2_with fail
  go_region_with (first
    | (go_at_call 149
       refine (hA _ j4 (PS.drew p4)).mono ?_; rintro e r (⟨x5,Y,b7,m⟩ | ⟨⟨k5,n5,m5,q5,z⟩,j5,v5,Y,rfl,⟨f6,rfl,s⟩,m,p5,f7⟩)
       focus
         have HT := b7; obtain ⟨q,rfl,-⟩ := b7
         exact ⟨rfl,Steps.err (b6.trans (P.bind_err Y)) HT (zh G4) m⟩
       have b8 : uP c.L E A i = _ := b6.trans (P.bind_ok Y); simp only [T.kind,T.name,T.num,T.at',T.subs] at s ⊢; obtain ⟨Z,a0,rfl⟩ := s.form; obtain ⟨b5,d3,s⟩ : ∃ b,b = _ /\ LR r (In b r.heap.size) z (.slice Z z.length a0) := ⟨_,rfl,s⟩
       try simp at d3
       have G5 : w.grownBy r (some c.pb) := za (zh G4) m; have s5 := m.size
       try simp at s5
       have a1 : RB r w.heap.size := RB.keep (RB.drew U) m (by omega); have a3 : NB r C.heap.size (.int .i64 17) (.string ⟨#[]⟩) (.int .i64 0) (.int .i64 (pos c.L i)) (.slice none 0 0) := NB.keep (NB.drew V) m (by omega); have a5 : NB r u.heap.size (.int .i64 J) (.string ⟨K.toArray⟩) (.int .i64 M) (.int .i64 N) (.slice j g.length k) := NB.keep (NB.drew X) m (by omega); have b9 : LR r (In b3 u.heap.size) g (.slice j g.length k) := LR.call (LR.drew c9) m (by omega); have d4 := a1.lt; have d5 := a3.lt; have d6 := a5.lt; obtain ⟨_,_,_,_,_,_,_,_,_,_,_⟩ := id a1; obtain ⟨_,_,_,_,_,_⟩ := id a3
       obtain ⟨_,_,_,_,_,_⟩ := id a5))
  all_goals
    go_wp2_with fail; go_at_call 88; refine (zx c _ j5 d jB _ rfl (by decide) (PS.alloc (PS.put p5 HL.out (by omega) _ _) _)).mono ?_; rintro e w6 (⟨x6,a7,c0,f⟩ | ⟨a6,j6,v6,a7,rfl,-,f,p6,f8⟩)
    · obtain ⟨q,rfl,-⟩ := id c0; exact ⟨rfl,Steps.err (b8.trans (P.bind_err a7)) c0 (zf (zq G5 (by omega) _ _) _) f⟩
    have d7 : uP c.L E A i = _ := b8.trans (P.bind_ok a7); have G6 : w.grownBy w6 (some c.pb) := za (zf (zq G5 (by omega) _ _) _) f; have s6 := f.size
    try simp at s6
    have a8 : RB w6 w.heap.size := RB.keep (RB.alloc (RB.put a1 _ _ _) _) f (by omega); have c1 : NB w6 C.heap.size (.int .i64 17) (.string ⟨#[]⟩) (.int .i64 0) (.int .i64 (pos c.L i)) (.slice (some ⟨r.heap.size,0,none⟩) 2 2) := NB.keep (NB.alloc (NB.s4 a3 _) _) f (by omega); have c2 : NB w6 u.heap.size (.int .i64 J) (.string ⟨K.toArray⟩) (.int .i64 M) (.int .i64 N) (.slice j g.length k) := NB.keep (NB.alloc (NB.far a5 (by omega) _ _) _) f (by omega); have f9 : LR w6 (In b3 u.heap.size) g (.slice j g.length k) := LR.call (LR.alloc (LR.put b9 (by omega) _ _) _) f (by omega); have g0 : LR w6 (In b5 r.heap.size) z (.slice Z z.length a0) := LR.call (LR.alloc (LR.put s (by omega) _ _) _) f (by omega); have d8 : LR w6 (In b3 (r.heap.size + 1)) ([(T.mk J K M N g),(T.mk k5 n5 m5 q5 z)]) (.slice (some ⟨r.heap.size,0,none⟩) 2 2) := LR.call (LR.build2 _ (t := (T.mk J K M N g)) (t2 := (T.mk k5 n5 m5 q5 z)) (sv := .slice j g.length k) (sv2 := .slice Z z.length a0) (LR.wide (lo := b3) (hi := u.heap.size) (ts := g) (LR.put b9 (by omega) _ _) (by omega) (by first | omega | (simp <;> omega))) (LR.wide (lo := b5) (hi := r.heap.size) (ts := z) (LR.put s (by omega) _ _) (by omega) (by first | omega | (simp <;> omega))) (by simp) rfl (by omega)) f (by omega); have d9 := a8.lt; have f0 := c1.lt; have f1 := c2.lt; obtain ⟨_,_,_,_,_,_,_,_,_,_,_⟩ := id a8; obtain ⟨_,_,_,_,_,_⟩ := id c1; obtain ⟨_,_,_,_,_,_⟩ := id c2; go_wp2; refine zj Tryz.results214 rfl (RB.five ?_) rfl ?_
    · exact a8
    refine Steps.ok (a := (T.mk 17 [] 0 (pos c.L i) [(T.mk J K M N g),(T.mk k5 n5 m5 q5 z)])) d7 ⟨_,rfl,?_⟩ ?_ ?_ (by omega)
    · refine LR.wide (lo := b3) (hi := r.heap.size + 1) (ts := [(T.mk J K M N g),(T.mk k5 n5 m5 q5 z)]) ?_ (by omega) (by first | omega | (simp <;> omega))
      exact LR.p5 d8 (by omega)
    · exact zy G6 (by omega)
    · exact PS.p5 p6 HL.out (by omega)
theorem qk (c : PC) (w : World) (i d : Nat) (E A : P T) (h : PS c w i d) (hE : ExprOK c d E) (hA : ActsOK c d A) :
    Calls Tryz.prog 215 #[.pointer (some ⟨c.pb,0,none⟩)] w (Steps c w i d (fun w' t v => TR w' w.heap.size w'.heap.size t v) (uq c.L E A i)) := by
  have HP := ze h; have HL := ze h.low; have hb := h.lt; clear h
  go_enter Tryz.func215,Tryz.ntmps215
  go_wp2_with fail; go_at_call 87; refine (zI c _ i d 18 (PS.alloc HP.out _)).mono ?_; rintro e z ⟨rfl,u⟩; have p1 : PS c z i d := PS.kept (PS.alloc HP.out _) u; have G1 : w.grownBy z (some c.pb) := za (zf (zc w (some c.pb)) _) (zv u (some c.pb)); have s1 := u.size
  try simp at s1
  have B : RB z w.heap.size := RB.kept (RB.new' (by simp)) u (by simp); have b0 := B.lt; obtain ⟨_,_,_,_,_,_,_,_,_,_,_⟩ := id B; go_wp2_with fail; go_at_call 88; refine (zx c _ i d jX _ rfl (by decide) (PS.alloc p1 _)).mono ?_; rintro e w2 (⟨x2,C,U,j⟩ | ⟨a2,j2,v2,C,rfl,-,j,p2,c8⟩)
  · obtain ⟨q,rfl,-⟩ := id U; exact ⟨rfl,Steps.err (P.bind_err C) U (zf G1 _) j⟩
  have V : uq c.L E A i = _ := P.bind_ok C; have G2 : w.grownBy w2 (some c.pb) := za (zf G1 _) j; have s2 := j.size
  try simp at s2
  have D : RB w2 w.heap.size := RB.keep (RB.alloc B _) j (by omega); have F : NB w2 z.heap.size (.int .i64 18) (.string ⟨#[]⟩) (.int .i64 0) (.int .i64 (pos c.L i)) (.slice none 0 0) := NB.keep (NB.new' (by simp)) j (by omega); have b1 := D.lt; have b2 := F.lt; obtain ⟨_,_,_,_,_,_,_,_,_,_,_⟩ := id D; obtain ⟨_,_,_,_,_,_⟩ := id F; go_wp2_with fail; go_at_call 149; refine (hA _ j2 p2).mono ?_; rintro e s (⟨x3,G,X,k⟩ | ⟨⟨Y,Z,m3,q3,l⟩,j3,v3,G,rfl,⟨c9,rfl,o⟩,k,p3,d0⟩)
  · obtain ⟨q,rfl,-⟩ := id X; exact ⟨rfl,Steps.err (V.trans (P.bind_err G)) X G2 k⟩
  have a0 : uq c.L E A i = _ := V.trans (P.bind_ok G); simp only [T.kind,T.name,T.num,T.at',T.subs] at o ⊢; obtain ⟨m,n,rfl⟩ := o.form; obtain ⟨b3,b4,o⟩ : ∃ b,b = _ /\ LR s (In b s.heap.size) l (.slice m l.length n) := ⟨_,rfl,o⟩
  try simp at b4
  have G3 : w.grownBy s (some c.pb) := za G2 k; have s3 := k.size
  try simp at s3
  have H : RB s w.heap.size := RB.keep D k (by omega); have I : NB s z.heap.size (.int .i64 18) (.string ⟨#[]⟩) (.int .i64 0) (.int .i64 (pos c.L i)) (.slice none 0 0) := NB.keep F k (by omega); have b6 := H.lt; have b7 := I.lt; obtain ⟨_,_,_,_,_,_,_,_,_,_,_⟩ := id H; obtain ⟨_,_,_,_,_,_⟩ := id I; go_wp2_with fail; go_at_call 88; refine (zx c _ j3 d dx _ rfl (by decide) (PS.alloc p3 _)).mono ?_; rintro e w4 (⟨x4,J,a1,f⟩ | ⟨a4,j4,v4,J,rfl,-,f,p4,d1⟩)
  · obtain ⟨q,rfl,-⟩ := id a1; exact ⟨rfl,Steps.err (a0.trans (P.bind_err J)) a1 (zf G3 _) f⟩
  have a3 : uq c.L E A i = _ := a0.trans (P.bind_ok J); have G4 : w.grownBy w4 (some c.pb) := za (zf G3 _) f; have s4 := f.size
  try simp at s4
  have K : RB w4 w.heap.size := RB.keep (RB.alloc H _) f (by omega); have M : NB w4 z.heap.size (.int .i64 18) (.string ⟨#[]⟩) (.int .i64 0) (.int .i64 (pos c.L i)) (.slice none 0 0) := NB.keep (NB.alloc I _) f (by omega); have N : NB w4 s.heap.size (.int .i64 Y) (.string ⟨Z.toArray⟩) (.int .i64 m3) (.int .i64 q3) (.slice m l.length n) := NB.keep (NB.new' (by simp)) f (by omega); have b8 : LR w4 (In b3 s.heap.size) l (.slice m l.length n) := LR.call (LR.alloc o _) f (by omega); have b9 := K.lt; have c0 := M.lt; have c1 := N.lt; obtain ⟨_,_,_,_,_,_,_,_,_,_,_⟩ := id K; obtain ⟨_,_,_,_,_,_⟩ := id M; obtain ⟨_,_,_,_,_,_⟩ := id N; go_wp2_with fail
  go_region_with (first
    | (go_at_call 145
       refine (hE.call _ j4 (PS.drew p4) trivial).mono ?_; rintro e x (⟨x5,O,a5,g⟩ | ⟨⟨k5,n5,m5,q5,Q⟩,j5,v5,O,rfl,⟨d2,rfl,r⟩,g,p5,d3⟩)
       focus
         have HT := a5; obtain ⟨q,rfl,-⟩ := a5
         exact ⟨rfl,Steps.err (a3.trans (P.bind_err O)) HT (zh G4) g⟩
       have c2 : uq c.L E A i = _ := a3.trans (P.bind_ok O); simp only [T.kind,T.name,T.num,T.at',T.subs] at r ⊢; obtain ⟨a6,a7,rfl⟩ := r.form; obtain ⟨b5,c3,r⟩ : ∃ b,b = _ /\ LR x (In b x.heap.size) Q (.slice a6 Q.length a7) := ⟨_,rfl,r⟩
       try simp at c3
       have G5 : w.grownBy x (some c.pb) := za (zh G4) g; have s5 := g.size
       try simp at s5
       have R : RB x w.heap.size := RB.keep (RB.drew K) g (by omega); have a8 : NB x z.heap.size (.int .i64 18) (.string ⟨#[]⟩) (.int .i64 0) (.int .i64 (pos c.L i)) (.slice none 0 0) := NB.keep (NB.drew M) g (by omega); have a9 : NB x s.heap.size (.int .i64 Y) (.string ⟨Z.toArray⟩) (.int .i64 m3) (.int .i64 q3) (.slice m l.length n) := NB.keep (NB.drew N) g (by omega); have c4 : LR x (In b3 s.heap.size) l (.slice m l.length n) := LR.call (LR.drew b8) g (by omega); have c5 := R.lt; have c6 := a8.lt; have c7 := a9.lt; obtain ⟨_,_,_,_,_,_,_,_,_,_,_⟩ := id R; obtain ⟨_,_,_,_,_,_⟩ := id a8
       obtain ⟨_,_,_,_,_,_⟩ := id a9))
  all_goals
    go_wp2; refine zj Tryz.results215 rfl (NB.alloc (RB.five ?_) _) rfl ?_
    · exact RB.put R _ _ _
    refine Steps.ok (a := (T.mk 18 [] 0 (pos c.L i) [(T.mk Y Z m3 q3 l),(T.mk k5 n5 m5 q5 Q)])) c2 ⟨_,rfl,?_⟩ ?_ ?_ (by omega)
    · refine LR.wide (lo := b3) (hi := x.heap.size + 1) (ts := [(T.mk Y Z m3 q3 l),(T.mk k5 n5 m5 q5 Q)]) ?_ (by omega) (by first | omega | (simp <;> omega))
      exact (LR.build2 _ (t := (T.mk Y Z m3 q3 l)) (t2 := (T.mk k5 n5 m5 q5 Q)) (sv := .slice m l.length n) (sv2 := .slice a6 Q.length a7) (LR.wide (lo := b3) (hi := s.heap.size) (ts := l) (LR.p5 (LR.put c4 (by omega) _ _) (by omega)) (by omega) (by first | omega | (simp <;> omega))) (LR.wide (lo := b5) (hi := x.heap.size) (ts := Q) (LR.p5 (LR.put r (by omega) _ _) (by omega)) (by omega) (by first | omega | (simp <;> omega))) (by simp) rfl (by omega))
    · exact zf (zy (zq G5 (by omega) _ _) (by omega)) _
    · exact PS.alloc (PS.p5 (PS.put p5 HL.out (by omega) _ _) HL.out (by omega)) _
theorem qT (c : PC) (w : World) (i d : Nat) (E : P T) (h : PS c w i d) (hE : ExprOK c d E) :
  Calls Tryz.prog 216 #[.pointer (some ⟨c.pb,0,none⟩)] w (Steps c w i d (fun w' t v => TR w' w.heap.size w'.heap.size t v) (uo c.L E i)) := by
 have HP := ze h; have R := ze h.low; have hb := h.lt; clear h
 go_enter Tryz.func216,Tryz.ntmps216
 go_wp2_with fail; go_at_call 87; refine (zI c _ i d 19 (PS.alloc HP.out _)).mono ?_; rintro e D ⟨rfl,l⟩; have p1 : PS c D i d := PS.kept (PS.alloc HP.out _) l; have G1 : w.grownBy D (some c.pb) := za (zf (zc w (some c.pb)) _) (zv l (some c.pb)); have s1 := l.size
 try simp at s1
 have o : RB D w.heap.size := RB.kept (RB.new' (by simp)) l (by simp); have U := o.lt; obtain ⟨_,_,_,_,_,_,_,_,_,_,_⟩ := id o; go_wp2_with fail; go_at_call 88; refine (zx c _ i d kb _ rfl (by decide) (PS.alloc p1 _)).mono ?_; rintro e V (⟨x2,r,F,f⟩ | ⟨a2,O,v2,r,rfl,-,f,p2,a7⟩)
 ·obtain ⟨q,rfl,-⟩ := id F; exact ⟨rfl,Steps.err (P.bind_err r) F (zf G1 _) f⟩
 have G : uo c.L E i = _ := P.bind_ok r; have G2 : w.grownBy V (some c.pb) := za (zf G1 _) f; have s2 := f.size
 try simp at s2
 have s : RB V w.heap.size := RB.keep (RB.alloc o _) f (by omega); have u : NB V D.heap.size (.int .i64 19) (.string ⟨#[]⟩) (.int .i64 0) (.int .i64 (pos c.L i)) (.slice none 0 0) := NB.keep (NB.new' (by simp)) f (by omega); have X := s.lt; have Y := u.lt; obtain ⟨_,_,_,_,_,_,_,_,_,_,_⟩ := id s; obtain ⟨_,_,_,_,_,_⟩ := id u; go_wp2_with fail; go_at_call 206; refine (vG c _ O d p2).mono ?_; rintro e Q ⟨rfl,j⟩; have p3 : PS c Q O d := PS.kept p2 j; have Z : w.grownBy Q (some c.pb) := za G2 (zv j (some c.pb)); have s3 := j.size
 try simp at s3
 have m : RB Q w.heap.size := RB.kept s j (by simp); have x : NB Q D.heap.size (.int .i64 19) (.string ⟨#[]⟩) (.int .i64 0) (.int .i64 (pos c.L i)) (.slice none 0 0) := NB.kept u j (by simp); have a0 := m.lt; have a1 := x.lt; obtain ⟨_,_,_,_,_,_,_,_,_,_,_⟩ := id m; obtain ⟨_,_,_,_,_,_⟩ := id x; cases H : xA (wd c.L O)
 ·have n : uo c.L E i = _ := G.trans (if_neg (by rw [H]; decide))
  go_wp2_with fail; go_at_call 145; refine (hE.call _ O p3 trivial).mono ?_; rintro e z (⟨x4,A,I,g⟩ | ⟨⟨k4,n4,m4,q4,B⟩,j4,v4,A,rfl,⟨a8,rfl,k⟩,g,p4,a9⟩)
  ·obtain ⟨q,rfl,-⟩ := id I; exact ⟨rfl,Steps.err (n.trans (P.bind_err A)) I Z g⟩
  have a3 : uo c.L E i = _ := n.trans (P.bind_ok A); simp only [T.kind,T.name,T.num,T.at',T.subs] at k ⊢; obtain ⟨J,K,rfl⟩ := k.form; obtain ⟨b4,a4,k⟩ : ∃ b,b = _ /\ LR z (In b z.heap.size) B (.slice J B.length K) := ⟨_,rfl,k⟩
  try simp at a4
  have G4 : w.grownBy z (some c.pb) := za Z g; have s4 := g.size
  try simp at s4
  have C : RB z w.heap.size := RB.keep m g (by omega); have M : NB z D.heap.size (.int .i64 19) (.string ⟨#[]⟩) (.int .i64 0) (.int .i64 (pos c.L i)) (.slice none 0 0) := NB.keep x g (by omega); have a5 := C.lt; have a6 := M.lt; obtain ⟨_,_,_,_,_,_,_,_,_,_,_⟩ := id C; obtain ⟨_,_,_,_,_,_⟩ := id M; go_wp2; refine zj Tryz.results216 rfl (NB.alloc (RB.five ?_) _) rfl ?_
  ·exact RB.put C _ _ _
  refine Steps.ok (a := (T.mk 19 [] 0 (pos c.L i) [(T.mk k4 n4 m4 q4 B)])) a3 ⟨_,rfl,?_⟩ ?_ ?_ (by omega)
  ·refine LR.wide (lo := b4) (hi := z.heap.size + 1) (ts := [(T.mk k4 n4 m4 q4 B)]) ?_ (by omega) (by first | omega | (simp <;> omega))
   exact (LR.build1 _ (t := (T.mk k4 n4 m4 q4 B)) (sv := .slice J B.length K) (LR.wide (lo := b4) (hi := z.heap.size) (ts := B) (LR.p5 (LR.put k (by omega) _ _) (by omega)) (by omega) (by first | omega | (simp <;> omega))) (by simp) rfl (by omega))
  ·exact zf (zy (zq G4 (by omega) _ _) (by omega)) _
  ·exact PS.alloc (PS.p5 (PS.put p4 R.out (by omega) _ _) R.out (by omega)) _
 ·have N : uo c.L E i = _ := G.trans (if_pos H)
  go_wp2; refine zj Tryz.results216 rfl (RB.five ?_) rfl ?_
  ·exact m
  refine Steps.ok (a := (T.mk 19 [] 0 (pos c.L i) [])) N ⟨_,rfl,?_⟩ ?_ ?_ (by omega)
  ·exact LR.nil _ _
  ·exact zy Z (by omega)
  ·exact PS.p5 p3 R.out (by omega)
theorem vo (c : PC) (w : World) (i d : Nat) (kind : Int) (k : List UInt8) (g : Nat) (p : P T) (h : PS c w i d) (hk : wd c.L i = k) (hk0 : k ≠ []) (hp : Part c d (fun _ => True) g #[.pointer (some ⟨c.pb,0,none⟩)] p) :
  Calls Tryz.prog 217 #[.pointer (some ⟨c.pb,0,none⟩),.int .i64 kind,.func (.func g) #[.pointer (some ⟨c.pb,0,none⟩)] #[]] w (Steps c w i d (fun w' t v => TR w' w.heap.size w'.heap.size t v) (yK c.L kind k p i)) := by
 have HP := ze h; have HL := ze h.low; have hb := h.lt; have b5 := hp.ent; clear h
 go_enter Tryz.func217,Tryz.ntmps217
 go_wp2_with fail; go_at_call 87; refine (zI c _ i d kind (PS.alloc HP.out _)).mono ?_; rintro e z ⟨rfl,s⟩; have p1 : PS c z i d := PS.kept (PS.alloc HP.out _) s; have G1 : w.grownBy z (some c.pb) := za (zf (zc w (some c.pb)) _) (zv s (some c.pb)); have s1 := s.size
 try simp at s1
 have A : RB z w.heap.size := RB.kept (RB.new' (by simp)) s (by simp); have a0 := A.lt; obtain ⟨_,_,_,_,_,_,_,_,_,_,_⟩ := id A; go_wp2_with fail; go_at_call 139; refine (xg c _ i d (PS.alloc p1 _) (by rw [hk]; exact hk0)).mono ?_; rintro e w2 ⟨rfl,u,p2⟩; have G2 : w.grownBy w2 (some c.pb) := za (zf G1 _) u; have s2 := u.size
 try simp at s2
 have B : RB w2 w.heap.size := RB.keep (RB.alloc A _) u (by omega); have C : NB w2 z.heap.size (.int .i64 kind) (.string ⟨#[]⟩) (.int .i64 0) (.int .i64 (pos c.L i)) (.slice none 0 0) := NB.keep (NB.new' (by simp)) u (by omega); have a1 := B.lt; have a2 := C.lt; obtain ⟨_,_,_,_,_,_,_,_,_,_,_⟩ := id B; obtain ⟨_,_,_,_,_,_⟩ := id C; have x : yK c.L kind k p i = _ := P.bind_ok (a := ()) (j := i + 1) (by unfold zD; rw [if_pos hk]); go_wp2_with fail; go_at_call 88; refine (zx c _ (i + 1) d xy _ rfl (by decide) p2).mono ?_; rintro e w3 (⟨x3,D,O,l⟩ | ⟨a3,j3,v3,D,rfl,-,l,p3,b6⟩)
 ·obtain ⟨q,rfl,-⟩ := id O; exact ⟨rfl,Steps.err (x.trans (P.bind_err D)) O G2 l⟩
 have Q : yK c.L kind k p i = _ := x.trans (P.bind_ok D); have G3 : w.grownBy w3 (some c.pb) := za G2 l; have s3 := l.size
 try simp at s3
 have E : RB w3 w.heap.size := RB.keep B l (by omega); have F : NB w3 z.heap.size (.int .i64 kind) (.string ⟨#[]⟩) (.int .i64 0) (.int .i64 (pos c.L i)) (.slice none 0 0) := NB.keep C l (by omega); have a4 := E.lt; have a6 := F.lt; obtain ⟨_,_,_,_,_,_,_,_,_,_,_⟩ := id E; obtain ⟨_,_,_,_,_,_⟩ := id F; go_wp2_with fail; refine (hp.call _ j3 p3 trivial).mono ?_; rintro e o (⟨x4,G,R,m⟩ | ⟨⟨Z,n4,m4,q4,r⟩,j4,v4,G,rfl,⟨b7,rfl,n⟩,m,p4,b8⟩)
 ·obtain ⟨q,rfl,-⟩ := id R; exact ⟨rfl,Steps.err (Q.trans (P.bind_err G)) R G3 m⟩
 have U : yK c.L kind k p i = _ := Q.trans (P.bind_ok G); simp only [T.kind,T.name,T.num,T.at',T.subs] at n ⊢; obtain ⟨H,I,rfl⟩ := n.form; obtain ⟨b4,a7,n⟩ : ∃ b,b = _ /\ LR o (In b o.heap.size) r (.slice H r.length I) := ⟨_,rfl,n⟩
 try simp at a7
 have G4 : w.grownBy o (some c.pb) := za G3 m; have s4 := m.size
 try simp at s4
 have J : RB o w.heap.size := RB.keep E m (by omega); have K : NB o z.heap.size (.int .i64 kind) (.string ⟨#[]⟩) (.int .i64 0) (.int .i64 (pos c.L i)) (.slice none 0 0) := NB.keep F m (by omega); have a8 := J.lt; have a9 := K.lt; obtain ⟨_,_,_,_,_,_,_,_,_,_,_⟩ := id J; obtain ⟨_,_,_,_,_,_⟩ := id K; go_wp2_with fail; go_at_call 88; refine (zx c _ j4 d jk _ rfl (by decide) (PS.alloc (PS.put p4 HL.out (by omega) _ _) _)).mono ?_; rintro e V (⟨x5,M,X,f⟩ | ⟨a5,j5,v5,M,rfl,-,f,p5,b9⟩)
 ·obtain ⟨q,rfl,-⟩ := id X; exact ⟨rfl,Steps.err (U.trans (P.bind_err M)) X (zf (zq G4 (by omega) _ _) _) f⟩
 have b0 : yK c.L kind k p i = _ := U.trans (P.bind_ok M); have G5 : w.grownBy V (some c.pb) := za (zf (zq G4 (by omega) _ _) _) f; have s5 := f.size
 try simp at s5
 have N : RB V w.heap.size := RB.keep (RB.alloc (RB.put J _ _ _) _) f (by omega); have Y : NB V z.heap.size (.int .i64 kind) (.string ⟨#[]⟩) (.int .i64 0) (.int .i64 (pos c.L i)) (.slice (some ⟨o.heap.size,0,none⟩) 1 1) := NB.keep (NB.alloc (NB.s4 K _) _) f (by omega); have c0 : LR V (In b4 o.heap.size) r (.slice H r.length I) := LR.call (LR.alloc (LR.put n (by omega) _ _) _) f (by omega); have b1 : LR V (In b4 (o.heap.size + 1)) ([(T.mk Z n4 m4 q4 r)]) (.slice (some ⟨o.heap.size,0,none⟩) 1 1) := LR.call (LR.build1 _ (t := (T.mk Z n4 m4 q4 r)) (sv := .slice H r.length I) (LR.wide (lo := b4) (hi := o.heap.size) (ts := r) (LR.put n (by omega) _ _) (by omega) (by first | omega | (simp <;> omega))) (by simp) rfl (by omega)) f (by omega); have b2 := N.lt; have b3 := Y.lt; obtain ⟨_,_,_,_,_,_,_,_,_,_,_⟩ := id N; obtain ⟨_,_,_,_,_,_⟩ := id Y; go_wp2; refine zj Tryz.results217 rfl (RB.five ?_) rfl ?_
 ·exact N
 refine Steps.ok (a := (T.mk kind [] 0 (pos c.L i) [(T.mk Z n4 m4 q4 r)])) b0 ⟨_,rfl,?_⟩ ?_ ?_ (by omega)
 ·refine LR.wide (lo := b4) (hi := o.heap.size + 1) (ts := [(T.mk Z n4 m4 q4 r)]) ?_ (by omega) (by first | omega | (simp <;> omega))
  exact LR.p5 b1 (by omega)
 ·exact zy G5 (by omega)
 ·exact PS.p5 p5 HL.out (by omega)
theorem kX (c : PC) (w : World) (i d : Nat) (E A : P T) (h : PS c w i d) (hE : ExprOK c d E) (hA : ActsOK c d A) :
    Calls Tryz.prog 222 #[.pointer (some ⟨c.pb,0,none⟩)] w (Steps c w i d (fun w' ts v => LR w' (In w.heap.size w'.heap.size) ts v /\ ts.length <= 2) (vN c.L E A i)) := by
  have HP := ze h; have HL := ze h.low; have hb := h.lt; clear h
  go_enter Tryz.func222,Tryz.ntmps222
  go_wp2_with fail; go_at_call 145; refine (hE.call _ i HP.out trivial).mono ?_; rintro e r (⟨x1,s,D,o⟩ | ⟨⟨F,G,H,I,f⟩,j1,v1,s,rfl,⟨a5,rfl,m⟩,o,p1,a6⟩)
  · obtain ⟨q,rfl,-⟩ := id D; exact ⟨rfl,Steps.err (P.bind_err s) D (zc w (some c.pb)) o⟩
  have J : vN c.L E A i = _ := P.bind_ok s; simp only [T.kind,T.name,T.num,T.at',T.subs] at m ⊢; obtain ⟨g,j,rfl⟩ := m.form; obtain ⟨U,V,m⟩ : ∃ b,b = _ /\ LR r (In b r.heap.size) f (.slice g f.length j) := ⟨_,rfl,m⟩
  try simp at V
  have G1 : w.grownBy r (some c.pb) := za (zc w (some c.pb)) o; have s1 := o.size
  try simp at s1
  go_wp2_with fail; go_at_call 88; refine (zx c _ j1 d mz _ rfl (by decide) (PS.alloc p1 _)).mono ?_; rintro e X (⟨x2,u,K,k⟩ | ⟨a2,j2,v2,u,rfl,-,k,p2,a7⟩)
  · obtain ⟨q,rfl,-⟩ := id K; exact ⟨rfl,Steps.err (J.trans (P.bind_err u)) K (zf G1 _) k⟩
  have M : vN c.L E A i = _ := J.trans (P.bind_ok u); have G2 : w.grownBy X (some c.pb) := za (zf G1 _) k; have s2 := k.size
  try simp at s2
  have x : NB X r.heap.size (.int .i64 F) (.string ⟨G.toArray⟩) (.int .i64 H) (.int .i64 I) (.slice g f.length j) := NB.keep (NB.new' (by simp)) k (by omega); have Y : LR X (In U r.heap.size) f (.slice g f.length j) := LR.call (LR.alloc m _) k (by omega); have Z := x.lt; obtain ⟨_,_,_,_,_,_⟩ := id x; go_wp2_with fail
  go_region_with (first
    | (go_at_call 149
       refine (hA _ j2 (PS.drew p2)).mono ?_; rintro e z (⟨x3,B,N,l⟩ | ⟨⟨k3,n3,m3,q3,C⟩,j3,v3,B,rfl,⟨a8,rfl,n⟩,l,p3,a9⟩)
       focus
         have HT := N; obtain ⟨q,rfl,-⟩ := N
         exact ⟨rfl,Steps.err (M.trans (P.bind_err B)) HT (zh G2) l⟩
       have a0 : vN c.L E A i = _ := M.trans (P.bind_ok B); simp only [T.kind,T.name,T.num,T.at',T.subs] at n ⊢; obtain ⟨O,Q,rfl⟩ := n.form; obtain ⟨b3,a1,n⟩ : ∃ b,b = _ /\ LR z (In b z.heap.size) C (.slice O C.length Q) := ⟨_,rfl,n⟩
       try simp at a1
       have G3 : w.grownBy z (some c.pb) := za (zh G2) l; have s3 := l.size
       try simp at s3
       have R : NB z r.heap.size (.int .i64 F) (.string ⟨G.toArray⟩) (.int .i64 H) (.int .i64 I) (.slice g f.length j) := NB.keep (NB.drew x) l (by omega); have a3 : LR z (In U r.heap.size) f (.slice g f.length j) := LR.call (LR.drew Y) l (by omega); have a4 := R.lt
       obtain ⟨_,_,_,_,_,_⟩ := id R))
  all_goals
    go_wp2
    go_ret
    refine Steps.ok (a := [(T.mk F G H I f),(T.mk k3 n3 m3 q3 C)]) a0 ⟨?_,by simp⟩ (zf G3 _) (PS.alloc p3 _) (by omega); refine LR.wide (lo := U) (hi := z.heap.size + 1) (ts := [(T.mk F G H I f),(T.mk k3 n3 m3 q3 C)]) ?_ (by omega) (by first | omega | (simp <;> omega))
    exact (LR.build2 _ (t := (T.mk F G H I f)) (t2 := (T.mk k3 n3 m3 q3 C)) (sv := .slice g f.length j) (sv2 := .slice O C.length Q) (LR.wide (lo := U) (hi := r.heap.size) (ts := f) a3 (by omega) (by first | omega | (simp <;> omega))) (LR.wide (lo := b3) (hi := z.heap.size) (ts := C) n (by omega) (by first | omega | (simp <;> omega))) (by simp) rfl (by omega))
end Go.Proofs.YtnmkffjklpfflaaGreatDoor
