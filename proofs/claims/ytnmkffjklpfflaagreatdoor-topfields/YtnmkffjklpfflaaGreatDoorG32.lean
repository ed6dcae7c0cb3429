/- Acts: while,repeat,return,and those of one word. -/
import Derived.Test.YtnmkffjklpfflaaGreatDoorG30
namespace Go.Proofs.YtnmkffjklpfflaaGreatDoor
open Go.RowKit
set_option maxHeartbeats 1000000
set_option maxRecDepth 100000
abbrev ActsOK (c : PC) (d : Nat) (A : P T) : Prop := PartOK c d 149 A
theorem gR (c : PC) (w : World) (i d : Nat) (E A : P T) (h : PS c w i d) (hE : ExprOK c d E) (hA : ActsOK c d A) :
    Calls Tryz.prog 214 #[pq c.pb] w (Steps c w i d (fun w' t v => TR w' w.heap.size w'.heap.size t v) (tQ c.L E A i)) := by
  have HP := zc h; have HL := zc h.low; have hb := h.lt; clear h
  go_enter Tryz.func214,Tryz.ntmps214
  go_wp2_with fail; go_at_call 87; refine (zL c _ i d 17 (PS.alloc HP.out _)).mono ?_; rintro e B ⟨rfl,x⟩; have p1 : PS c B i d := PS.kept (PS.alloc HP.out _) x; have G1 : w.grownBy B (some c.pb) := za ga (zv x (some c.pb)); have s1 := x.size
  try simp at s1
  have C : RB B w.heap.size := RB.kept (RB.new' (by simp)) x (by simp); have c3 := C.lt; obtain ⟨_,_,_,_,_,_,_,_,_,_,_⟩ := id C; go_wp2_with fail; go_at_call 88; refine (zy c _ i d qq _ rfl (by decide) (PS.alloc p1 _)).mono ?_; rintro e w2 (⟨x2,D,a7,n⟩ | ⟨a2,j2,v2,D,rfl,-,n,p2,f2⟩)
  · obtain ⟨q,rfl,-⟩ := id a7; exact ⟨rfl,Steps.err (P.bind_err D) a7 (zh G1 _) n⟩
  have a8 : tQ c.L E A i = _ := P.bind_ok D; have G2 : w.grownBy w2 (some c.pb) := za (zh G1 _) n; have s2 := n.size
  try simp at s2
  have F : RB w2 w.heap.size := RB.k (RB.alloc C _) n; have G : NB w2 B.heap.size (.int .i64 17) (.string ⟨#[]⟩) (.int .i64 0) (.int .i64 (pos c.L i)) (.slice none 0 0) := NB.k (NB.new' (by simp)) n; have c4 := F.lt; have c5 := G.lt; obtain ⟨_,_,_,_,_,_,_,_,_,_,_⟩ := id F; obtain ⟨_,_,_,_,_,_⟩ := id G; go_wp2_with fail; go_at_call 145; refine (hE.call _ j2 p2 trivial).mono ?_; rintro e H (⟨x3,I,a9,o⟩ | ⟨⟨J,K,M,N,j⟩,j3,v3,I,rfl,⟨f3,rfl,s⟩,o,p3,f4⟩)
  · obtain ⟨q,rfl,-⟩ := id a9; exact ⟨rfl,Steps.err (a8.trans (P.bind_err I)) a9 G2 o⟩
  have b0 := a8.trans (P.bind_ok I); simp only [T.kind,T.name,T.num,T.at',T.subs] at s ⊢; obtain ⟨l,m,rfl⟩ := s.form; obtain ⟨b3,c6,s⟩ := s.nm
  try simp at c6
  have G3 := za G2 o; have s3 := o.size
  try simp at s3
  have O := RB.k F o; have Q := NB.k G o; have c7 := O.lt; have c8 := Q.lt; obtain ⟨_,_,_,_,_,_,_,_,_,_,_⟩ := id O; obtain ⟨_,_,_,_,_,_⟩ := id Q; go_wp2_with fail; go_at_call 88; refine (zy c _ j3 d kDO _ rfl (by decide) (PS.alloc p3 _)).mono ?_; rintro e w4 (⟨x4,R,b1,f⟩ | ⟨a4,j4,v4,R,rfl,-,f,p4,f5⟩)
  · obtain ⟨q,rfl,-⟩ := id b1; exact ⟨rfl,Steps.err (b0.trans (P.bind_err R)) b1 (zh G3 _) f⟩
  have b2 := b0.trans (P.bind_ok R); have G4 : w.grownBy w4 (some c.pb) := za (zh G3 _) f; have s4 := f.size
  try simp at s4
  have U : RB w4 w.heap.size := RB.k (RB.alloc O _) f; have V : NB w4 B.heap.size (.int .i64 17) (.string ⟨#[]⟩) (.int .i64 0) (.int .i64 (pos c.L i)) (.slice none 0 0) := NB.k (NB.alloc Q _) f; have X : NB w4 H.heap.size (.int .i64 J) (.string ⟨K.toArray⟩) (.int .i64 M) (.int .i64 N) (.slice l j.length m) := NB.k (NB.new' (by simp)) f; have c9 : LR w4 (In b3 H.heap.size) j (.slice l j.length m) := LR.c (LR.alloc s _) f; have d0 := U.lt; have d1 := V.lt; have d2 := X.lt; obtain ⟨_,_,_,_,_,_,_,_,_,_,_⟩ := id U; obtain ⟨_,_,_,_,_,_⟩ := id V; obtain ⟨_,_,_,_,_,_⟩ := id X; go_wp2_with fail
  go_region_with (first
    | (go_at_call 149
       refine (hA _ j4 (PS.drew p4)).mono ?_; rintro e u (⟨x5,Y,b4,g⟩ | ⟨⟨k5,n5,m5,q5,z⟩,j5,v5,Y,rfl,⟨f6,rfl,r⟩,g,p5,f7⟩)
       focus
         have HT := b4; obtain ⟨q,rfl,-⟩ := b4
         exact ⟨rfl,Steps.err (b2.trans (P.bind_err Y)) HT (zf G4) g⟩
       have b6 := b2.trans (P.bind_ok Y); simp only [T.kind,T.name,T.num,T.at',T.subs] at r ⊢; obtain ⟨b7,b8,rfl⟩ := r.form; obtain ⟨b5,d3,r⟩ := r.nm
       try simp at d3
       have G5 : w.grownBy u (some c.pb) := za (zf G4) g; have s5 := g.size
       try simp at s5
       have Z : RB u w.heap.size := RB.k (RB.drew U) g; have a0 : NB u B.heap.size (.int .i64 17) (.string ⟨#[]⟩) (.int .i64 0) (.int .i64 (pos c.L i)) (.slice none 0 0) := NB.k (NB.drew V) g; have a1 : NB u H.heap.size (.int .i64 J) (.string ⟨K.toArray⟩) (.int .i64 M) (.int .i64 N) (.slice l j.length m) := NB.k (NB.drew X) g; have b9 : LR u (In b3 H.heap.size) j (.slice l j.length m) := LR.c (LR.drew c9) g; have d4 := Z.lt; have d5 := a0.lt; have d6 := a1.lt; obtain ⟨_,_,_,_,_,_,_,_,_,_,_⟩ := id Z; obtain ⟨_,_,_,_,_,_⟩ := id a0
       obtain ⟨_,_,_,_,_,_⟩ := id a1))
  all_goals
    go_wp2_with fail; go_at_call 88; refine (zy c _ j5 d kh _ rfl (by decide) (PS.alloc (PS.put p5 HL.out (by omega) _ _) _)).mono ?_; rintro e w6 (⟨x6,a3,c0,b⟩ | ⟨a6,j6,v6,a3,rfl,-,b,p6,f8⟩)
    · obtain ⟨q,rfl,-⟩ := id c0; exact ⟨rfl,Steps.err (b6.trans (P.bind_err a3)) c0 (zh (zs G5 (by omega) _ _) _) b⟩
    have d7 := b6.trans (P.bind_ok a3); have G6 : w.grownBy w6 (some c.pb) := za (zh (zs G5 (by omega) _ _) _) b; have s6 := b.size
    try simp at s6
    have a5 : RB w6 w.heap.size := RB.k (RB.alloc (RB.put Z _ _ _) _) b; have c1 : NB w6 B.heap.size (.int .i64 17) (.string ⟨#[]⟩) (.int .i64 0) (.int .i64 (pos c.L i)) (.slice (some ⟨u.heap.size,0,none⟩) 2 2) := NB.k (NB.alloc (NB.s4 a0 _) _) b; have c2 : NB w6 H.heap.size (.int .i64 J) (.string ⟨K.toArray⟩) (.int .i64 M) (.int .i64 N) (.slice l j.length m) := NB.k (NB.alloc (NB.far a1 (by omega) _ _) _) b; have f9 : LR w6 (In b3 H.heap.size) j (.slice l j.length m) := LR.c (LR.alloc (LR.put b9 (by omega) _ _) _) b; have g0 : LR w6 (In b5 u.heap.size) z (.slice b7 z.length b8) := LR.c (LR.alloc (LR.put r (by omega) _ _) _) b; have d8 : LR w6 (In b3 (u.heap.size + 1)) ([(T.mk J K M N j),(T.mk k5 n5 m5 q5 z)]) (.slice (some ⟨u.heap.size,0,none⟩) 2 2) := LR.c (LR.build2 _ (t := (T.mk J K M N j)) (t2 := (T.mk k5 n5 m5 q5 z)) (sv := .slice l j.length m) (sv2 := .slice b7 z.length b8) (LR.wide (lo := b3) (hi := H.heap.size) (ts := j) (LR.put b9 (by omega) _ _) (by omega) (by first | omega | (simp <;> omega))) (LR.wide (lo := b5) (hi := u.heap.size) (ts := z) (LR.put r (by omega) _ _) (by omega) (by first | omega | (simp <;> omega))) (by simp) rfl (by omega)) b; have d9 := a5.lt; have f0 := c1.lt; have f1 := c2.lt; obtain ⟨_,_,_,_,_,_,_,_,_,_,_⟩ := id a5; obtain ⟨_,_,_,_,_,_⟩ := id c1; obtain ⟨_,_,_,_,_,_⟩ := id c2; go_wp2; refine zn Tryz.results214 rfl (RB.five ?_) rfl ?_
    · exact a5
    refine Steps.ok (a := (T.mk 17 [] 0 (pos c.L i) [(T.mk J K M N j),(T.mk k5 n5 m5 q5 z)])) d7 ⟨_,rfl,?_⟩ ?_ ?_ (by omega)
    · refine LR.wide (lo := b3) (hi := u.heap.size + 1) (ts := [(T.mk J K M N j),(T.mk k5 n5 m5 q5 z)]) ?_ (by omega) (by first | omega | (simp <;> omega))
      exact LR.p5 d8 (by omega)
    · exact zC G6 (by omega)
    · exact PS.p5 p6 HL.out (by omega)
theorem qW (c : PC) (w : World) (i d : Nat) (E A : P T) (h : PS c w i d) (hE : ExprOK c d E) (hA : ActsOK c d A) :
    Calls Tryz.prog 215 #[pq c.pb] w (Steps c w i d (fun w' t v => TR w' w.heap.size w'.heap.size t v) (gs c.L E A i)) := by
  have HP := zc h; have HL := zc h.low; have hb := h.lt; clear h
  go_enter Tryz.func215,Tryz.ntmps215
  go_wp2_with fail; go_at_call 87; refine (zL c _ i d 18 (PS.alloc HP.out _)).mono ?_; rintro e O ⟨rfl,s⟩; have p1 : PS c O i d := PS.kept (PS.alloc HP.out _) s; have G1 : w.grownBy O (some c.pb) := za ga (zv s (some c.pb)); have s1 := s.size
  try simp at s1
  have u : RB O w.heap.size := RB.kept (RB.new' (by simp)) s (by simp); have a8 := u.lt; obtain ⟨_,_,_,_,_,_,_,_,_,_,_⟩ := id u; go_wp2_with fail; go_at_call 88; refine (zy c _ i d jU _ rfl (by decide) (PS.alloc p1 _)).mono ?_; rintro e w2 (⟨x2,x,Q,g⟩ | ⟨a2,j2,v2,x,rfl,-,g,p2,c8⟩)
  · obtain ⟨q,rfl,-⟩ := id Q; exact ⟨rfl,Steps.err (P.bind_err x) Q (zh G1 _) g⟩
  have R : gs c.L E A i = _ := P.bind_ok x; have G2 : w.grownBy w2 (some c.pb) := za (zh G1 _) g; have s2 := g.size
  try simp at s2
  have z : RB w2 w.heap.size := RB.k (RB.alloc u _) g; have B : NB w2 O.heap.size (.int .i64 18) (.string ⟨#[]⟩) (.int .i64 0) (.int .i64 (pos c.L i)) (.slice none 0 0) := NB.k (NB.new' (by simp)) g; have a9 := z.lt; have b0 := B.lt; obtain ⟨_,_,_,_,_,_,_,_,_,_,_⟩ := id z; obtain ⟨_,_,_,_,_,_⟩ := id B; go_wp2_with fail; go_at_call 149; refine (hA _ j2 p2).mono ?_; rintro e U (⟨x3,C,V,j⟩ | ⟨⟨X,Y,Z,q3,l⟩,j3,v3,C,rfl,⟨c9,rfl,m⟩,j,p3,d0⟩)
  · obtain ⟨q,rfl,-⟩ := id V; exact ⟨rfl,Steps.err (R.trans (P.bind_err C)) V G2 j⟩
  have a0 := R.trans (P.bind_ok C); simp only [T.kind,T.name,T.num,T.at',T.subs] at m ⊢; obtain ⟨n,o,rfl⟩ := m.form; obtain ⟨b3,b1,m⟩ := m.nm
  try simp at b1
  have G3 := za G2 j; have s3 := j.size
  try simp at s3
  have D := RB.k z j; have F := NB.k B j; have b2 := D.lt; have b4 := F.lt; obtain ⟨_,_,_,_,_,_,_,_,_,_,_⟩ := id D; obtain ⟨_,_,_,_,_,_⟩ := id F; go_wp2_with fail; go_at_call 88; refine (zy c _ j3 d tL _ rfl (by decide) (PS.alloc p3 _)).mono ?_; rintro e w4 (⟨x4,G,a1,b⟩ | ⟨a4,j4,v4,G,rfl,-,b,p4,d1⟩)
  · obtain ⟨q,rfl,-⟩ := id a1; exact ⟨rfl,Steps.err (a0.trans (P.bind_err G)) a1 (zh G3 _) b⟩
  have a3 := a0.trans (P.bind_ok G); have G4 : w.grownBy w4 (some c.pb) := za (zh G3 _) b; have s4 := b.size
  try simp at s4
  have H : RB w4 w.heap.size := RB.k (RB.alloc D _) b; have I : NB w4 O.heap.size (.int .i64 18) (.string ⟨#[]⟩) (.int .i64 0) (.int .i64 (pos c.L i)) (.slice none 0 0) := NB.k (NB.alloc F _) b; have J : NB w4 U.heap.size (.int .i64 X) (.string ⟨Y.toArray⟩) (.int .i64 Z) (.int .i64 q3) (.slice n l.length o) := NB.k (NB.new' (by simp)) b; have b6 : LR w4 (In b3 U.heap.size) l (.slice n l.length o) := LR.c (LR.alloc m _) b; have b7 := H.lt; have b8 := I.lt; have b9 := J.lt; obtain ⟨_,_,_,_,_,_,_,_,_,_,_⟩ := id H; obtain ⟨_,_,_,_,_,_⟩ := id I; obtain ⟨_,_,_,_,_,_⟩ := id J; go_wp2_with fail
  go_region_with (first
    | (go_at_call 145
       refine (hE.call _ j4 (PS.drew p4) trivial).mono ?_; rintro e K (⟨x5,M,a5,f⟩ | ⟨⟨k5,n5,m5,q5,l5⟩,j5,v5,M,rfl,⟨d2,rfl,r⟩,f,p5,d3⟩)
       focus
         have HT := a5; obtain ⟨q,rfl,-⟩ := a5
         exact ⟨rfl,Steps.err (a3.trans (P.bind_err M)) HT (zf G4) f⟩
       have c0 := a3.trans (P.bind_ok M); simp only [T.kind,T.name,T.num,T.at',T.subs] at r ⊢; obtain ⟨c1,c2,rfl⟩ := r.form; obtain ⟨b5,c3,r⟩ := r.nm
       try simp at c3
       have G5 : w.grownBy K (some c.pb) := za (zf G4) f; have s5 := f.size
       try simp at s5
       have N : RB K w.heap.size := RB.k (RB.drew H) f; have a6 : NB K O.heap.size (.int .i64 18) (.string ⟨#[]⟩) (.int .i64 0) (.int .i64 (pos c.L i)) (.slice none 0 0) := NB.k (NB.drew I) f; have a7 : NB K U.heap.size (.int .i64 X) (.string ⟨Y.toArray⟩) (.int .i64 Z) (.int .i64 q3) (.slice n l.length o) := NB.k (NB.drew J) f; have c4 : LR K (In b3 U.heap.size) l (.slice n l.length o) := LR.c (LR.drew b6) f; have c5 := N.lt; have c6 := a6.lt; have c7 := a7.lt; obtain ⟨_,_,_,_,_,_,_,_,_,_,_⟩ := id N; obtain ⟨_,_,_,_,_,_⟩ := id a6
       obtain ⟨_,_,_,_,_,_⟩ := id a7))
  all_goals
    go_wp2; refine zn Tryz.results215 rfl (NB.alloc (RB.five ?_) _) rfl ?_
    · exact RB.put N _ _ _
    refine Steps.ok (a := (T.mk 18 [] 0 (pos c.L i) [(T.mk X Y Z q3 l),(T.mk k5 n5 m5 q5 l5)])) c0 ⟨_,rfl,?_⟩ ?_ ?_ (by omega)
    · refine LR.wide (lo := b3) (hi := K.heap.size + 1) (ts := [(T.mk X Y Z q3 l),(T.mk k5 n5 m5 q5 l5)]) ?_ (by omega) (by first | omega | (simp <;> omega))
      exact (LR.build2 _ (t := (T.mk X Y Z q3 l)) (t2 := (T.mk k5 n5 m5 q5 l5)) (sv := .slice n l.length o) (sv2 := .slice c1 l5.length c2) (LR.wide (lo := b3) (hi := U.heap.size) (ts := l) (LR.p5 (LR.put c4 (by omega) _ _) (by omega)) (by omega) (by first | omega | (simp <;> omega))) (LR.wide (lo := b5) (hi := K.heap.size) (ts := l5) (LR.p5 (LR.put r (by omega) _ _) (by omega)) (by omega) (by first | omega | (simp <;> omega))) (by simp) rfl (by omega))
    · exact zh (zC (zs G5 (by omega) _ _) (by omega)) _
    · exact PS.alloc (PS.p5 (PS.put p5 HL.out (by omega) _ _) HL.out (by omega)) _
theorem gX (c : PC) (w : World) (i d : Nat) (E : P T) (h : PS c w i d) (hE : ExprOK c d E) :
  Calls Tryz.prog 216 #[pq c.pb] w (Steps c w i d (fun w' t v => TR w' w.heap.size w'.heap.size t v) (uV c.L E i)) := by
 have HP := zc h; have N := zc h.low; have hb := h.lt; clear h
 go_enter Tryz.func216,Tryz.ntmps216
 go_wp2_with fail; go_at_call 87; refine (zL c _ i d 19 (PS.alloc HP.out _)).mono ?_; rintro e B ⟨rfl,l⟩; have p1 : PS c B i d := PS.kept (PS.alloc HP.out _) l; have G1 : w.grownBy B (some c.pb) := za ga (zv l (some c.pb)); have s1 := l.size
 try simp at s1
 have o : RB B w.heap.size := RB.kept (RB.new' (by simp)) l (by simp); have O := o.lt; obtain ⟨_,_,_,_,_,_,_,_,_,_,_⟩ := id o; go_wp2_with fail; go_at_call 88; refine (zy c _ i d jN _ rfl (by decide) (PS.alloc p1 _)).mono ?_; rintro e Q (⟨x2,r,C,b⟩ | ⟨a2,K,v2,r,rfl,-,b,p2,a7⟩)
 ·obtain ⟨q,rfl,-⟩ := id C; exact ⟨rfl,Steps.err (P.bind_err r) C (zh G1 _) b⟩
 have D : uV c.L E i = _ := P.bind_ok r; have G2 : w.grownBy Q (some c.pb) := za (zh G1 _) b; have s2 := b.size
 try simp at s2
 have s : RB Q w.heap.size := RB.k (RB.alloc o _) b; have u : NB Q B.heap.size (.int .i64 19) (.string ⟨#[]⟩) (.int .i64 0) (.int .i64 (pos c.L i)) (.slice none 0 0) := NB.k (NB.new' (by simp)) b; have R := s.lt; have U := u.lt; obtain ⟨_,_,_,_,_,_,_,_,_,_,_⟩ := id s; obtain ⟨_,_,_,_,_,_⟩ := id u; go_wp2_with fail; go_at_call 206; refine (vT c _ K d p2).mono ?_; rintro e M ⟨rfl,g⟩; have p3 : PS c M K d := PS.kept p2 g; have V : w.grownBy M (some c.pb) := za G2 (zv g (some c.pb)); have s3 := g.size
 try simp at s3
 have m : RB M w.heap.size := RB.kept s g (by simp); have x : NB M B.heap.size (.int .i64 19) (.string ⟨#[]⟩) (.int .i64 0) (.int .i64 (pos c.L i)) (.slice none 0 0) := NB.kept u g (by simp); have X := m.lt; have Y := x.lt; obtain ⟨_,_,_,_,_,_,_,_,_,_,_⟩ := id m; obtain ⟨_,_,_,_,_,_⟩ := id x; cases F : xH (wd c.L K)
 ·have n : uV c.L E i = _ := D.trans (if_neg (by rw [F]; decide))
  go_wp2_with fail; go_at_call 145; refine (hE.call _ K p3 trivial).mono ?_; rintro e w4 (⟨x4,z,G,f⟩ | ⟨⟨Z,n4,m4,q4,H⟩,j4,v4,z,rfl,⟨a8,rfl,j⟩,f,p4,a9⟩)
  ·obtain ⟨q,rfl,-⟩ := id G; exact ⟨rfl,Steps.err (n.trans (P.bind_err z)) G V f⟩
  have a0 : uV c.L E i = _ := n.trans (P.bind_ok z); simp only [T.kind,T.name,T.num,T.at',T.subs] at j ⊢; obtain ⟨a1,a3,rfl⟩ := j.form; obtain ⟨b4,a4,j⟩ := j.nm
  try simp at a4
  have G4 := za V f; have s4 := f.size
  try simp at s4
  have A := RB.k m f; have I := NB.k x f; have a5 := A.lt; have a6 := I.lt; obtain ⟨_,_,_,_,_,_,_,_,_,_,_⟩ := id A; obtain ⟨_,_,_,_,_,_⟩ := id I; go_wp2; refine zn Tryz.results216 rfl (NB.alloc (RB.five ?_) _) rfl ?_
  ·exact RB.put A _ _ _
  refine Steps.ok (a := (T.mk 19 [] 0 (pos c.L i) [(T.mk Z n4 m4 q4 H)])) a0 ⟨_,rfl,?_⟩ ?_ ?_ (by omega)
  ·refine LR.wide (lo := b4) (hi := w4.heap.size + 1) (ts := [(T.mk Z n4 m4 q4 H)]) ?_ (by omega) (by first | omega | (simp <;> omega))
   exact (LR.build1 _ (t := (T.mk Z n4 m4 q4 H)) (sv := .slice a1 H.length a3) (LR.wide (lo := b4) (hi := w4.heap.size) (ts := H) (LR.p5 (LR.put j (by omega) _ _) (by omega)) (by omega) (by first | omega | (simp <;> omega))) (by simp) rfl (by omega))
  ·exact zh (zC (zs G4 (by omega) _ _) (by omega)) _
  ·exact PS.alloc (PS.p5 (PS.put p4 N.out (by omega) _ _) N.out (by omega)) _
 ·have J : uV c.L E i = _ := D.trans (if_pos F)
  go_wp2; refine zn Tryz.results216 rfl (RB.five ?_) rfl ?_
  ·exact m
  refine Steps.ok (a := (T.mk 19 [] 0 (pos c.L i) [])) J ⟨_,rfl,?_⟩ ?_ ?_ (by omega)
  ·exact LR.nil _ _
  ·exact zC V (by omega)
  ·exact PS.p5 p3 N.out (by omega)
theorem vJ (c : PC) (w : World) (i d : Nat) (kind : Int) (k : List UInt8) (g : Nat) (p : P T) (h : PS c w i d) (hk : wd c.L i = k) (hk0 : k ≠ []) (hp : Part c d (fun _ => True) g #[pq c.pb] p) :
  Calls Tryz.prog 217 #[pq c.pb,.int .i64 kind,.func (.func g) #[pq c.pb] #[]] w (Steps c w i d (fun w' t v => TR w' w.heap.size w'.heap.size t v) (xk c.L kind k p i)) := by
 have HP := zc h; have HL := zc h.low; have hb := h.lt; have b5 := hp.ent; clear h
 go_enter Tryz.func217,Tryz.ntmps217
 go_wp2_with fail; go_at_call 87; refine (zL c _ i d kind (PS.alloc HP.out _)).mono ?_; rintro e J ⟨rfl,n⟩; have p1 : PS c J i d := PS.kept (PS.alloc HP.out _) n; have G1 : w.grownBy J (some c.pb) := za ga (zv n (some c.pb)); have s1 := n.size
 try simp at s1
 have u : RB J w.heap.size := RB.kept (RB.new' (by simp)) n (by simp); have a0 := u.lt; obtain ⟨_,_,_,_,_,_,_,_,_,_,_⟩ := id u; go_wp2_with fail; go_at_call 139; refine (xB c _ i d (PS.alloc p1 _) (by rw [hk]; exact hk0)).mono ?_; rintro e w2 ⟨rfl,o,p2⟩; have G2 : w.grownBy w2 (some c.pb) := za (zh G1 _) o; have s2 := o.size
 try simp at s2
 have x : RB w2 w.heap.size := RB.k (RB.alloc u _) o; have z : NB w2 J.heap.size (.int .i64 kind) (.string ⟨#[]⟩) (.int .i64 0) (.int .i64 (pos c.L i)) (.slice none 0 0) := NB.k (NB.new' (by simp)) o; have a1 := x.lt; have a2 := z.lt; obtain ⟨_,_,_,_,_,_,_,_,_,_,_⟩ := id x; obtain ⟨_,_,_,_,_,_⟩ := id z; have r : xk c.L kind k p i = _ := P.bind_ok (a := ()) (j := i + 1) (by unfold zB; rw [if_pos hk]); go_wp2_with fail; go_at_call 88; refine (zy c _ (i + 1) d xA _ rfl (by decide) p2).mono ?_; rintro e w3 (⟨x3,A,K,f⟩ | ⟨a3,j3,v3,A,rfl,-,f,p3,b6⟩)
 ·obtain ⟨q,rfl,-⟩ := id K; exact ⟨rfl,Steps.err (r.trans (P.bind_err A)) K G2 f⟩
 have M : xk c.L kind k p i = _ := r.trans (P.bind_ok A); have G3 := za G2 f; have s3 := f.size
 try simp at s3
 have B := RB.k x f; have C := NB.k z f; have a4 := B.lt; have a6 := C.lt; obtain ⟨_,_,_,_,_,_,_,_,_,_,_⟩ := id B; obtain ⟨_,_,_,_,_,_⟩ := id C; go_wp2_with fail; refine (hp.call _ j3 p3 trivial).mono ?_; rintro e I (⟨x4,D,N,l⟩ | ⟨⟨Y,Z,m4,q4,s⟩,j4,v4,D,rfl,⟨b7,rfl,m⟩,l,p4,b8⟩)
 ·obtain ⟨q,rfl,-⟩ := id N; exact ⟨rfl,Steps.err (M.trans (P.bind_err D)) N G3 l⟩
 have O := M.trans (P.bind_ok D); simp only [T.kind,T.name,T.num,T.at',T.subs] at m ⊢; obtain ⟨Q,R,rfl⟩ := m.form; obtain ⟨b4,a7,m⟩ := m.nm
 try simp at a7
 have G4 := za G3 l; have s4 := l.size
 try simp at s4
 have E := RB.k B l; have F := NB.k C l; have a8 := E.lt; have a9 := F.lt; obtain ⟨_,_,_,_,_,_,_,_,_,_,_⟩ := id E; obtain ⟨_,_,_,_,_,_⟩ := id F; go_wp2_with fail; go_at_call 88; refine (zy c _ j4 d jx _ rfl (by decide) (PS.alloc (PS.put p4 HL.out (by omega) _ _) _)).mono ?_; rintro e U (⟨x5,G,V,b⟩ | ⟨a5,j5,v5,G,rfl,-,b,p5,b9⟩)
 ·obtain ⟨q,rfl,-⟩ := id V; exact ⟨rfl,Steps.err (O.trans (P.bind_err G)) V (zh (zs G4 (by omega) _ _) _) b⟩
 have b0 := O.trans (P.bind_ok G); have G5 : w.grownBy U (some c.pb) := za (zh (zs G4 (by omega) _ _) _) b; have s5 := b.size
 try simp at s5
 have H : RB U w.heap.size := RB.k (RB.alloc (RB.put E _ _ _) _) b; have X : NB U J.heap.size (.int .i64 kind) (.string ⟨#[]⟩) (.int .i64 0) (.int .i64 (pos c.L i)) (.slice (some ⟨I.heap.size,0,none⟩) 1 1) := NB.k (NB.alloc (NB.s4 F _) _) b; have c0 : LR U (In b4 I.heap.size) s (.slice Q s.length R) := LR.c (LR.alloc (LR.put m (by omega) _ _) _) b; have b1 : LR U (In b4 (I.heap.size + 1)) ([(T.mk Y Z m4 q4 s)]) (.slice (some ⟨I.heap.size,0,none⟩) 1 1) := LR.c (LR.build1 _ (t := (T.mk Y Z m4 q4 s)) (sv := .slice Q s.length R) (LR.wide (lo := b4) (hi := I.heap.size) (ts := s) (LR.put m (by omega) _ _) (by omega) (by first | omega | (simp <;> omega))) (by simp) rfl (by omega)) b; have b2 := H.lt; have b3 := X.lt; obtain ⟨_,_,_,_,_,_,_,_,_,_,_⟩ := id H; obtain ⟨_,_,_,_,_,_⟩ := id X; go_wp2; refine zn Tryz.results217 rfl (RB.five ?_) rfl ?_
 ·exact H
 refine Steps.ok (a := (T.mk kind [] 0 (pos c.L i) [(T.mk Y Z m4 q4 s)])) b0 ⟨_,rfl,?_⟩ ?_ ?_ (by omega)
 ·refine LR.wide (lo := b4) (hi := I.heap.size + 1) (ts := [(T.mk Y Z m4 q4 s)]) ?_ (by omega) (by first | omega | (simp <;> omega))
  exact LR.p5 b1 (by omega)
 ·exact zC G5 (by omega)
 ·exact PS.p5 p5 HL.out (by omega)
theorem qN (c : PC) (w : World) (i d : Nat) (E A : P T) (h : PS c w i d) (hE : ExprOK c d E) (hA : ActsOK c d A) :
    Calls Tryz.prog 222 #[pq c.pb] w (Steps c w i d (fun w' ts v => LR w' (In w.heap.size w'.heap.size) ts v /\ ts.length <= 2) (jf c.L E A i)) := by
  have HP := zc h; have HL := zc h.low; have hb := h.lt; clear h
  go_enter Tryz.func222,Tryz.ntmps222
  go_wp2_with fail; go_at_call 145; refine (hE.call _ i HP.out trivial).mono ?_; rintro e z (⟨x1,r,B,o⟩ | ⟨⟨C,D,F,G,g⟩,j1,v1,r,rfl,⟨a7,rfl,j⟩,o,p1,a8⟩)
  · obtain ⟨q,rfl,-⟩ := id B; exact ⟨rfl,Steps.err (P.bind_err r) B gr o⟩
  have H : jf c.L E A i = _ := P.bind_ok r; simp only [T.kind,T.name,T.num,T.at',T.subs] at j ⊢; obtain ⟨l,m,rfl⟩ := j.form; obtain ⟨Q,R,j⟩ := j.nm
  try simp at R
  have G1 := za gr o; have s1 := o.size
  try simp at s1
  go_wp2_with fail; go_at_call 88; refine (zy c _ j1 d ae _ rfl (by decide) (PS.alloc p1 _)).mono ?_; rintro e U (⟨x2,s,I,b⟩ | ⟨a2,j2,v2,s,rfl,-,b,p2,a9⟩)
  · obtain ⟨q,rfl,-⟩ := id I; exact ⟨rfl,Steps.err (H.trans (P.bind_err s)) I (zh G1 _) b⟩
  have J := H.trans (P.bind_ok s); have G2 : w.grownBy U (some c.pb) := za (zh G1 _) b; have s2 := b.size
  try simp at s2
  have u : NB U z.heap.size (.int .i64 C) (.string ⟨D.toArray⟩) (.int .i64 F) (.int .i64 G) (.slice l g.length m) := NB.k (NB.new' (by simp)) b; have V : LR U (In Q z.heap.size) g (.slice l g.length m) := LR.c (LR.alloc j _) b; have X := u.lt; obtain ⟨_,_,_,_,_,_⟩ := id u; go_wp2_with fail
  go_region_with (first
    | (go_at_call 149
       refine (hA _ j2 (PS.drew p2)).mono ?_; rintro e K (⟨x3,x,M,f⟩ | ⟨⟨Y,Z,m3,q3,N⟩,j3,v3,x,rfl,⟨b0,rfl,n⟩,f,p3,b2⟩)
       focus
         have HT := M; obtain ⟨q,rfl,-⟩ := M
         exact ⟨rfl,Steps.err (J.trans (P.bind_err x)) HT (zf G2) f⟩
       have a0 := J.trans (P.bind_ok x); simp only [T.kind,T.name,T.num,T.at',T.subs] at n ⊢; obtain ⟨a1,a3,rfl⟩ := n.form; obtain ⟨b3,a4,n⟩ := n.nm
       try simp at a4
       have G3 : w.grownBy K (some c.pb) := za (zf G2) f; have s3 := f.size
       try simp at s3
       have O : NB K z.heap.size (.int .i64 C) (.string ⟨D.toArray⟩) (.int .i64 F) (.int .i64 G) (.slice l g.length m) := NB.k (NB.drew u) f; have a5 : LR K (In Q z.heap.size) g (.slice l g.length m) := LR.c (LR.drew V) f; have a6 := O.lt
       obtain ⟨_,_,_,_,_,_⟩ := id O))
  all_goals
    go_wp2
    go_ret
    refine Steps.ok (a := [(T.mk C D F G g),(T.mk Y Z m3 q3 N)]) a0 ⟨?_,by simp⟩ (zh G3 _) (PS.alloc p3 _) (by omega); refine LR.wide (lo := Q) (hi := K.heap.size + 1) (ts := [(T.mk C D F G g),(T.mk Y Z m3 q3 N)]) ?_ (by omega) (by first | omega | (simp <;> omega))
    exact (LR.build2 _ (t := (T.mk C D F G g)) (t2 := (T.mk Y Z m3 q3 N)) (sv := .slice l g.length m) (sv2 := .slice a1 N.length a3) (LR.wide (lo := Q) (hi := z.heap.size) (ts := g) a5 (by omega) (by first | omega | (simp <;> omega))) (LR.wide (lo := b3) (hi := K.heap.size) (ts := N) n (by omega) (by first | omega | (simp <;> omega))) (by simp) rfl (by omega))
end Go.Proofs.YtnmkffjklpfflaaGreatDoor
