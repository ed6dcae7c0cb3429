/- Acts: while,repeat,return,and those of one word. -/
import Derived.Test.YtfjgelmllcnokaaGreatDoorG36
import Derived.Test.YtfjgelmllcnokaaGreatDoorG04
namespace Go.Proofs.YtfjgelmllcnokaaGreatDoor
open Go.RowKit
set_option maxHeartbeats 1000000
set_option maxRecDepth 100000
abbrev ActsOK (c : PC) (d : Nat) (A : P T) : Prop := PartOK c d 125 A
theorem rW (c : PC) (w : World) (i d : Nat) (E A : P T) (h : PS c w i d) (hE : ExprOK c d E) (hA : ActsOK c d A) :
    Calls Tryz.prog 180 #[.pointer (some ⟨c.pb,0,none⟩)] w (Steps c w i d (fun w' t v => TR w' w.heap.size w'.heap.size t v) (nA c.L E A i)) := by
  have HP := za h; have HL := za h.low; have hb := h.lt; clear h
  go_enter Tryz.func180,Tryz.ntmps180
  go_wp2_with fail; go_at_call 59; refine (yA c _ i d 17 (PS.alloc HP.out _)).mono ?_; rintro e z ⟨rfl,x⟩; have p1 : PS c z i d := PS.kept (PS.alloc HP.out _) x; have G1 : w.grownBy z (some c.pb) := zb ga (zJ x (some c.pb)); have s1 := x.size
  try simp at s1
  have B : RB z w.heap.size := RB.kept (RB.new' (by simp)) x (by simp); have c4 := B.lt; obtain ⟨_,_,_,_,_,_,_,_,_,_,_⟩ := id B; go_wp2_with fail; go_at_call 60; refine (zI c _ i d ue _ rfl (by decide) (PS.alloc p1 _)).mono ?_; rintro e w2 (⟨x2,C,a8,n⟩ | ⟨a2,j2,v2,C,rfl,-,n,p2,f3⟩)
  · obtain ⟨q,rfl,-⟩ := id a8; exact ⟨rfl,Steps.err (P.bind_err C) a8 (zf G1 _) n⟩
  have a9 : nA c.L E A i = _ := P.bind_ok C; have G2 : w.grownBy w2 (some c.pb) := zb (zf G1 _) n; have s2 := n.size
  try simp at s2
  have D : RB w2 w.heap.size := RB.k (RB.alloc B _) n; have F : NB w2 z.heap.size (.int .i64 17) (.string ⟨#[]⟩) (.int .i64 0) (.int .i64 (pos c.L i)) (.slice none 0 0) := NB.k (NB.new' (by simp)) n; have c5 := D.lt; have c6 := F.lt; obtain ⟨_,_,_,_,_,_,_,_,_,_,_⟩ := id D; obtain ⟨_,_,_,_,_,_⟩ := id F; go_wp2_with fail; go_at_call 121; refine (hE.call _ j2 p2 trivial).mono ?_; rintro e H (⟨x3,I,b0,o⟩ | ⟨⟨J,K,M,N,j⟩,j3,v3,I,rfl,⟨f4,rfl,s⟩,o,p3,f5⟩)
  · obtain ⟨q,rfl,-⟩ := id b0; exact ⟨rfl,Steps.err (a9.trans (P.bind_err I)) b0 G2 o⟩
  have b1 := a9.trans (P.bind_ok I); simp only [T.kind,T.name,T.num,T.at',T.subs] at s ⊢; obtain ⟨l,m,rfl⟩ := s.form; obtain ⟨b3,c7,s⟩ := s.nm
  try simp at c7
  have G3 := zb G2 o; have s3 := o.size
  try simp at s3
  have O := RB.k D o; have R := NB.k F o; have c8 := O.lt; have c9 := R.lt; obtain ⟨_,_,_,_,_,_,_,_,_,_,_⟩ := id O; obtain ⟨_,_,_,_,_,_⟩ := id R; go_wp2_with fail; go_at_call 60; refine (zI c _ j3 d kDO _ rfl (by decide) (PS.alloc p3 _)).mono ?_; rintro e w4 (⟨x4,U,b2,f⟩ | ⟨a4,j4,v4,U,rfl,-,f,p4,f6⟩)
  · obtain ⟨q,rfl,-⟩ := id b2; exact ⟨rfl,Steps.err (b1.trans (P.bind_err U)) b2 (zf G3 _) f⟩
  have b4 := b1.trans (P.bind_ok U); have G4 : w.grownBy w4 (some c.pb) := zb (zf G3 _) f; have s4 := f.size
  try simp at s4
  have V : RB w4 w.heap.size := RB.k (RB.alloc O _) f; have X : NB w4 z.heap.size (.int .i64 17) (.string ⟨#[]⟩) (.int .i64 0) (.int .i64 (pos c.L i)) (.slice none 0 0) := NB.k (NB.alloc R _) f; have Y : NB w4 H.heap.size (.int .i64 J) (.string ⟨K.toArray⟩) (.int .i64 M) (.int .i64 N) (.slice l j.length m) := NB.k (NB.new' (by simp)) f; have d0 : LR w4 (In b3 H.heap.size) j (.slice l j.length m) := LR.c (LR.alloc s _) f; have d1 := V.lt; have d2 := X.lt; have d3 := Y.lt; obtain ⟨_,_,_,_,_,_,_,_,_,_,_⟩ := id V; obtain ⟨_,_,_,_,_,_⟩ := id X; obtain ⟨_,_,_,_,_,_⟩ := id Y; go_wp2_with fail
  go_region_with (first
    | (go_at_call 125
       refine (hA _ j4 (PS.drew p4)).mono ?_; rintro e u (⟨x5,Z,b6,g⟩ | ⟨⟨k5,n5,m5,q5,y⟩,j5,v5,Z,rfl,⟨f7,rfl,r⟩,g,p5,f8⟩)
       focus
         have HT := b6; obtain ⟨q,rfl,-⟩ := b6
         exact ⟨rfl,Steps.err (b4.trans (P.bind_err Z)) HT (zj G4) g⟩
       have b7 := b4.trans (P.bind_ok Z); simp only [T.kind,T.name,T.num,T.at',T.subs] at r ⊢; obtain ⟨b8,b9,rfl⟩ := r.form; obtain ⟨b5,d4,r⟩ := r.nm
       try simp at d4
       have G5 : w.grownBy u (some c.pb) := zb (zj G4) g; have s5 := g.size
       try simp at s5
       have a0 : RB u w.heap.size := RB.k (RB.drew V) g; have a1 : NB u z.heap.size (.int .i64 17) (.string ⟨#[]⟩) (.int .i64 0) (.int .i64 (pos c.L i)) (.slice none 0 0) := NB.k (NB.drew X) g; have a3 : NB u H.heap.size (.int .i64 J) (.string ⟨K.toArray⟩) (.int .i64 M) (.int .i64 N) (.slice l j.length m) := NB.k (NB.drew Y) g; have c0 : LR u (In b3 H.heap.size) j (.slice l j.length m) := LR.c (LR.drew d0) g; have d5 := a0.lt; have d6 := a1.lt; have d7 := a3.lt; obtain ⟨_,_,_,_,_,_,_,_,_,_,_⟩ := id a0; obtain ⟨_,_,_,_,_,_⟩ := id a1
       obtain ⟨_,_,_,_,_,_⟩ := id a3))
  all_goals
    go_wp2_with fail; go_at_call 60; refine (zI c _ j5 d yD _ rfl (by decide) (PS.alloc (PS.put p5 HL.out (by omega) _ _) _)).mono ?_; rintro e w6 (⟨x6,a5,c1,b⟩ | ⟨a6,j6,v6,a5,rfl,-,b,p6,f9⟩)
    · obtain ⟨q,rfl,-⟩ := id c1; exact ⟨rfl,Steps.err (b7.trans (P.bind_err a5)) c1 (zf (zC G5 (by omega) _ _) _) b⟩
    have d8 := b7.trans (P.bind_ok a5); have G6 : w.grownBy w6 (some c.pb) := zb (zf (zC G5 (by omega) _ _) _) b; have s6 := b.size
    try simp at s6
    have a7 : RB w6 w.heap.size := RB.k (RB.alloc (RB.put a0 _ _ _) _) b; have c2 : NB w6 z.heap.size (.int .i64 17) (.string ⟨#[]⟩) (.int .i64 0) (.int .i64 (pos c.L i)) (.slice (some ⟨u.heap.size,0,none⟩) 2 2) := NB.k (NB.alloc (NB.s4 a1 _) _) b; have c3 : NB w6 H.heap.size (.int .i64 J) (.string ⟨K.toArray⟩) (.int .i64 M) (.int .i64 N) (.slice l j.length m) := NB.k (NB.alloc (NB.far a3 (by omega) _ _) _) b; have g0 : LR w6 (In b3 H.heap.size) j (.slice l j.length m) := LR.c (LR.alloc (LR.put c0 (by omega) _ _) _) b; have g1 : LR w6 (In b5 u.heap.size) y (.slice b8 y.length b9) := LR.c (LR.alloc (LR.put r (by omega) _ _) _) b; have d9 : LR w6 (In b3 (u.heap.size + 1)) ([(T.mk J K M N j),(T.mk k5 n5 m5 q5 y)]) (.slice (some ⟨u.heap.size,0,none⟩) 2 2) := LR.c (LR.build2 _ (t := (T.mk J K M N j)) (t2 := (T.mk k5 n5 m5 q5 y)) (sv := .slice l j.length m) (sv2 := .slice b8 y.length b9) (LR.wide (lo := b3) (hi := H.heap.size) (ts := j) (LR.put c0 (by omega) _ _) (by omega) (by first | omega | (simp <;> omega))) (LR.wide (lo := b5) (hi := u.heap.size) (ts := y) (LR.put r (by omega) _ _) (by omega) (by first | omega | (simp <;> omega))) (by simp) rfl (by omega)) b; have f0 := a7.lt; have f1 := c2.lt; have f2 := c3.lt; obtain ⟨_,_,_,_,_,_,_,_,_,_,_⟩ := id a7; obtain ⟨_,_,_,_,_,_⟩ := id c2; obtain ⟨_,_,_,_,_,_⟩ := id c3; go_wp2; refine zn Tryz.results180 rfl (RB.five ?_) rfl ?_
    · exact a7
    refine Steps.ok (a := (T.mk 17 [] 0 (pos c.L i) [(T.mk J K M N j),(T.mk k5 n5 m5 q5 y)])) d8 ⟨_,rfl,?_⟩ ?_ ?_ (by omega)
    · refine LR.wide (lo := b3) (hi := u.heap.size + 1) (ts := [(T.mk J K M N j),(T.mk k5 n5 m5 q5 y)]) ?_ (by omega) (by first | omega | (simp <;> omega))
      exact LR.p5 d9 (by omega)
    · exact zS G6 (by omega)
    · exact PS.p5 p6 HL.out (by omega)
theorem ti (c : PC) (w : World) (i d : Nat) (E A : P T) (h : PS c w i d) (hE : ExprOK c d E) (hA : ActsOK c d A) :
    Calls Tryz.prog 181 #[.pointer (some ⟨c.pb,0,none⟩)] w (Steps c w i d (fun w' t v => TR w' w.heap.size w'.heap.size t v) (tN c.L E A i)) := by
  have HP := za h; have HL := za h.low; have hb := h.lt; clear h
  go_enter Tryz.func181,Tryz.ntmps181
  go_wp2_with fail; go_at_call 59; refine (yA c _ i d 18 (PS.alloc HP.out _)).mono ?_; rintro e O ⟨rfl,s⟩; have p1 : PS c O i d := PS.kept (PS.alloc HP.out _) s; have G1 : w.grownBy O (some c.pb) := zb ga (zJ s (some c.pb)); have s1 := s.size
  try simp at s1
  have u : RB O w.heap.size := RB.kept (RB.new' (by simp)) s (by simp); have a8 := u.lt; obtain ⟨_,_,_,_,_,_,_,_,_,_,_⟩ := id u; go_wp2_with fail; go_at_call 60; refine (zI c _ i d va _ rfl (by decide) (PS.alloc p1 _)).mono ?_; rintro e w2 (⟨x2,x,R,g⟩ | ⟨a2,j2,v2,x,rfl,-,g,p2,c8⟩)
  · obtain ⟨q,rfl,-⟩ := id R; exact ⟨rfl,Steps.err (P.bind_err x) R (zf G1 _) g⟩
  have U : tN c.L E A i = _ := P.bind_ok x; have G2 : w.grownBy w2 (some c.pb) := zb (zf G1 _) g; have s2 := g.size
  try simp at s2
  have y : RB w2 w.heap.size := RB.k (RB.alloc u _) g; have z : NB w2 O.heap.size (.int .i64 18) (.string ⟨#[]⟩) (.int .i64 0) (.int .i64 (pos c.L i)) (.slice none 0 0) := NB.k (NB.new' (by simp)) g; have a9 := y.lt; have b0 := z.lt; obtain ⟨_,_,_,_,_,_,_,_,_,_,_⟩ := id y; obtain ⟨_,_,_,_,_,_⟩ := id z; go_wp2_with fail; go_at_call 125; refine (hA _ j2 p2).mono ?_; rintro e V (⟨x3,B,X,j⟩ | ⟨⟨Y,Z,m3,q3,l⟩,j3,v3,B,rfl,⟨c9,rfl,m⟩,j,p3,d0⟩)
  · obtain ⟨q,rfl,-⟩ := id X; exact ⟨rfl,Steps.err (U.trans (P.bind_err B)) X G2 j⟩
  have a0 := U.trans (P.bind_ok B); simp only [T.kind,T.name,T.num,T.at',T.subs] at m ⊢; obtain ⟨n,o,rfl⟩ := m.form; obtain ⟨b3,b1,m⟩ := m.nm
  try simp at b1
  have G3 := zb G2 j; have s3 := j.size
  try simp at s3
  have C := RB.k y j; have D := NB.k z j; have b2 := C.lt; have b4 := D.lt; obtain ⟨_,_,_,_,_,_,_,_,_,_,_⟩ := id C; obtain ⟨_,_,_,_,_,_⟩ := id D; go_wp2_with fail; go_at_call 60; refine (zI c _ j3 d jq _ rfl (by decide) (PS.alloc p3 _)).mono ?_; rintro e w4 (⟨x4,F,a1,b⟩ | ⟨a4,j4,v4,F,rfl,-,b,p4,d1⟩)
  · obtain ⟨q,rfl,-⟩ := id a1; exact ⟨rfl,Steps.err (a0.trans (P.bind_err F)) a1 (zf G3 _) b⟩
  have a3 := a0.trans (P.bind_ok F); have G4 : w.grownBy w4 (some c.pb) := zb (zf G3 _) b; have s4 := b.size
  try simp at s4
  have H : RB w4 w.heap.size := RB.k (RB.alloc C _) b; have I : NB w4 O.heap.size (.int .i64 18) (.string ⟨#[]⟩) (.int .i64 0) (.int .i64 (pos c.L i)) (.slice none 0 0) := NB.k (NB.alloc D _) b; have J : NB w4 V.heap.size (.int .i64 Y) (.string ⟨Z.toArray⟩) (.int .i64 m3) (.int .i64 q3) (.slice n l.length o) := NB.k (NB.new' (by simp)) b; have b6 : LR w4 (In b3 V.heap.size) l (.slice n l.length o) := LR.c (LR.alloc m _) b; have b7 := H.lt; have b8 := I.lt; have b9 := J.lt; obtain ⟨_,_,_,_,_,_,_,_,_,_,_⟩ := id H; obtain ⟨_,_,_,_,_,_⟩ := id I; obtain ⟨_,_,_,_,_,_⟩ := id J; go_wp2_with fail
  go_region_with (first
    | (go_at_call 121
       refine (hE.call _ j4 (PS.drew p4) trivial).mono ?_; rintro e K (⟨x5,M,a5,f⟩ | ⟨⟨k5,n5,m5,q5,l5⟩,j5,v5,M,rfl,⟨d2,rfl,r⟩,f,p5,d3⟩)
       focus
         have HT := a5; obtain ⟨q,rfl,-⟩ := a5
         exact ⟨rfl,Steps.err (a3.trans (P.bind_err M)) HT (zj G4) f⟩
       have c0 := a3.trans (P.bind_ok M); simp only [T.kind,T.name,T.num,T.at',T.subs] at r ⊢; obtain ⟨c1,c2,rfl⟩ := r.form; obtain ⟨b5,c3,r⟩ := r.nm
       try simp at c3
       have G5 : w.grownBy K (some c.pb) := zb (zj G4) f; have s5 := f.size
       try simp at s5
       have N : RB K w.heap.size := RB.k (RB.drew H) f; have a6 : NB K O.heap.size (.int .i64 18) (.string ⟨#[]⟩) (.int .i64 0) (.int .i64 (pos c.L i)) (.slice none 0 0) := NB.k (NB.drew I) f; have a7 : NB K V.heap.size (.int .i64 Y) (.string ⟨Z.toArray⟩) (.int .i64 m3) (.int .i64 q3) (.slice n l.length o) := NB.k (NB.drew J) f; have c4 : LR K (In b3 V.heap.size) l (.slice n l.length o) := LR.c (LR.drew b6) f; have c5 := N.lt; have c6 := a6.lt; have c7 := a7.lt; obtain ⟨_,_,_,_,_,_,_,_,_,_,_⟩ := id N; obtain ⟨_,_,_,_,_,_⟩ := id a6
       obtain ⟨_,_,_,_,_,_⟩ := id a7))
  all_goals
    go_wp2; refine zn Tryz.results181 rfl (NB.alloc (RB.five ?_) _) rfl ?_
    · exact RB.put N _ _ _
    refine Steps.ok (a := (T.mk 18 [] 0 (pos c.L i) [(T.mk Y Z m3 q3 l),(T.mk k5 n5 m5 q5 l5)])) c0 ⟨_,rfl,?_⟩ ?_ ?_ (by omega)
    · refine LR.wide (lo := b3) (hi := K.heap.size + 1) (ts := [(T.mk Y Z m3 q3 l),(T.mk k5 n5 m5 q5 l5)]) ?_ (by omega) (by first | omega | (simp <;> omega))
      exact (LR.build2 _ (t := (T.mk Y Z m3 q3 l)) (t2 := (T.mk k5 n5 m5 q5 l5)) (sv := .slice n l.length o) (sv2 := .slice c1 l5.length c2) (LR.wide (lo := b3) (hi := V.heap.size) (ts := l) (LR.p5 (LR.put c4 (by omega) _ _) (by omega)) (by omega) (by first | omega | (simp <;> omega))) (LR.wide (lo := b5) (hi := K.heap.size) (ts := l5) (LR.p5 (LR.put r (by omega) _ _) (by omega)) (by omega) (by first | omega | (simp <;> omega))) (by simp) rfl (by omega))
    · exact zf (zS (zC G5 (by omega) _ _) (by omega)) _
    · exact PS.alloc (PS.p5 (PS.put p5 HL.out (by omega) _ _) HL.out (by omega)) _
theorem sP (c : PC) (w : World) (i d : Nat) (E : P T) (h : PS c w i d) (hE : ExprOK c d E) :
  Calls Tryz.prog 182 #[.pointer (some ⟨c.pb,0,none⟩)] w (Steps c w i d (fun w' t v => TR w' w.heap.size w'.heap.size t v) (qn c.L E i)) := by
 have HP := za h; have N := za h.low; have hb := h.lt; clear h
 go_enter Tryz.func182,Tryz.ntmps182
 go_wp2_with fail; go_at_call 59; refine (yA c _ i d 19 (PS.alloc HP.out _)).mono ?_; rintro e A ⟨rfl,l⟩; have p1 : PS c A i d := PS.kept (PS.alloc HP.out _) l; have G1 : w.grownBy A (some c.pb) := zb ga (zJ l (some c.pb)); have s1 := l.size
 try simp at s1
 have o : RB A w.heap.size := RB.kept (RB.new' (by simp)) l (by simp); have O := o.lt; obtain ⟨_,_,_,_,_,_,_,_,_,_,_⟩ := id o; go_wp2_with fail; go_at_call 60; refine (zI c _ i d xK _ rfl (by decide) (PS.alloc p1 _)).mono ?_; rintro e R (⟨x2,r,B,b⟩ | ⟨a2,K,v2,r,rfl,-,b,p2,a7⟩)
 ·obtain ⟨q,rfl,-⟩ := id B; exact ⟨rfl,Steps.err (P.bind_err r) B (zf G1 _) b⟩
 have C : qn c.L E i = _ := P.bind_ok r; have G2 : w.grownBy R (some c.pb) := zb (zf G1 _) b; have s2 := b.size
 try simp at s2
 have s : RB R w.heap.size := RB.k (RB.alloc o _) b; have u : NB R A.heap.size (.int .i64 19) (.string ⟨#[]⟩) (.int .i64 0) (.int .i64 (pos c.L i)) (.slice none 0 0) := NB.k (NB.new' (by simp)) b; have U := s.lt; have V := u.lt; obtain ⟨_,_,_,_,_,_,_,_,_,_,_⟩ := id s; obtain ⟨_,_,_,_,_,_⟩ := id u; go_wp2_with fail; go_at_call 169; refine (kn c _ K d p2).mono ?_; rintro e M ⟨rfl,g⟩; have p3 : PS c M K d := PS.kept p2 g; have X : w.grownBy M (some c.pb) := zb G2 (zJ g (some c.pb)); have s3 := g.size
 try simp at s3
 have m : RB M w.heap.size := RB.kept s g (by simp); have x : NB M A.heap.size (.int .i64 19) (.string ⟨#[]⟩) (.int .i64 0) (.int .i64 (pos c.L i)) (.slice none 0 0) := NB.kept u g (by simp); have Y := m.lt; have Z := x.lt; obtain ⟨_,_,_,_,_,_,_,_,_,_,_⟩ := id m; obtain ⟨_,_,_,_,_,_⟩ := id x; cases D : yF (wd c.L K)
 ·have n : qn c.L E i = _ := C.trans (if_neg (by rw [D]; decide))
  go_wp2_with fail; go_at_call 121; refine (hE.call _ K p3 trivial).mono ?_; rintro e w4 (⟨x4,y,F,f⟩ | ⟨⟨k4,n4,m4,q4,H⟩,j4,v4,y,rfl,⟨a8,rfl,j⟩,f,p4,a9⟩)
  ·obtain ⟨q,rfl,-⟩ := id F; exact ⟨rfl,Steps.err (n.trans (P.bind_err y)) F X f⟩
  have a0 : qn c.L E i = _ := n.trans (P.bind_ok y); simp only [T.kind,T.name,T.num,T.at',T.subs] at j ⊢; obtain ⟨a1,a3,rfl⟩ := j.form; obtain ⟨b4,a4,j⟩ := j.nm
  try simp at a4
  have G4 := zb X f; have s4 := f.size
  try simp at s4
  have z := RB.k m f; have I := NB.k x f; have a5 := z.lt; have a6 := I.lt; obtain ⟨_,_,_,_,_,_,_,_,_,_,_⟩ := id z; obtain ⟨_,_,_,_,_,_⟩ := id I; go_wp2; refine zn Tryz.results182 rfl (NB.alloc (RB.five ?_) _) rfl ?_
  ·exact RB.put z _ _ _
  refine Steps.ok (a := (T.mk 19 [] 0 (pos c.L i) [(T.mk k4 n4 m4 q4 H)])) a0 ⟨_,rfl,?_⟩ ?_ ?_ (by omega)
  ·refine LR.wide (lo := b4) (hi := w4.heap.size + 1) (ts := [(T.mk k4 n4 m4 q4 H)]) ?_ (by omega) (by first | omega | (simp <;> omega))
   exact (LR.build1 _ (t := (T.mk k4 n4 m4 q4 H)) (sv := .slice a1 H.length a3) (LR.wide (lo := b4) (hi := w4.heap.size) (ts := H) (LR.p5 (LR.put j (by omega) _ _) (by omega)) (by omega) (by first | omega | (simp <;> omega))) (by simp) rfl (by omega))
  ·exact zf (zS (zC G4 (by omega) _ _) (by omega)) _
  ·exact PS.alloc (PS.p5 (PS.put p4 N.out (by omega) _ _) N.out (by omega)) _
 ·have J : qn c.L E i = _ := C.trans (if_pos D)
  go_wp2; refine zn Tryz.results182 rfl (RB.five ?_) rfl ?_
  ·exact m
  refine Steps.ok (a := (T.mk 19 [] 0 (pos c.L i) [])) J ⟨_,rfl,?_⟩ ?_ ?_ (by omega)
  ·exact LR.nil _ _
  ·exact zS X (by omega)
  ·exact PS.p5 p3 N.out (by omega)
theorem ka (c : PC) (w : World) (i d : Nat) (kind : Int) (k : List UInt8) (g : Nat) (p : P T) (h : PS c w i d) (hk : wd c.L i = k) (hk0 : k ≠ []) (hp : Part c d (fun _ => True) g #[.pointer (some ⟨c.pb,0,none⟩)] p) :
  Calls Tryz.prog 183 #[.pointer (some ⟨c.pb,0,none⟩),.int .i64 kind,.func (.func g) #[.pointer (some ⟨c.pb,0,none⟩)] #[]] w (Steps c w i d (fun w' t v => TR w' w.heap.size w'.heap.size t v) (vm c.L kind k p i)) := by
 have HP := za h; have HL := za h.low; have hb := h.lt; have b5 := hp.ent; clear h
 go_enter Tryz.func183,Tryz.ntmps183
 go_wp2_with fail; go_at_call 59; refine (yA c _ i d kind (PS.alloc HP.out _)).mono ?_; rintro e J ⟨rfl,n⟩; have p1 : PS c J i d := PS.kept (PS.alloc HP.out _) n; have G1 : w.grownBy J (some c.pb) := zb ga (zJ n (some c.pb)); have s1 := n.size
 try simp at s1
 have u : RB J w.heap.size := RB.kept (RB.new' (by simp)) n (by simp); have a0 := u.lt; obtain ⟨_,_,_,_,_,_,_,_,_,_,_⟩ := id u; go_wp2_with fail; go_at_call 115; refine (uK c _ i d (PS.alloc p1 _) (by rw [hk]; exact hk0)).mono ?_; rintro e w2 ⟨rfl,o,p2⟩; have G2 : w.grownBy w2 (some c.pb) := zb (zf G1 _) o; have s2 := o.size
 try simp at s2
 have x : RB w2 w.heap.size := RB.k (RB.alloc u _) o; have y : NB w2 J.heap.size (.int .i64 kind) (.string ⟨#[]⟩) (.int .i64 0) (.int .i64 (pos c.L i)) (.slice none 0 0) := NB.k (NB.new' (by simp)) o; have a1 := x.lt; have a2 := y.lt; obtain ⟨_,_,_,_,_,_,_,_,_,_,_⟩ := id x; obtain ⟨_,_,_,_,_,_⟩ := id y; have r : vm c.L kind k p i = _ := P.bind_ok (a := ()) (j := i + 1) (by unfold zx; rw [if_pos hk]); go_wp2_with fail; go_at_call 60; refine (zI c _ (i + 1) d yw _ rfl (by decide) p2).mono ?_; rintro e w3 (⟨x3,z,K,f⟩ | ⟨a3,j3,v3,z,rfl,-,f,p3,b6⟩)
 ·obtain ⟨q,rfl,-⟩ := id K; exact ⟨rfl,Steps.err (r.trans (P.bind_err z)) K G2 f⟩
 have M : vm c.L kind k p i = _ := r.trans (P.bind_ok z); have G3 := zb G2 f; have s3 := f.size
 try simp at s3
 have A := RB.k x f; have B := NB.k y f; have a4 := A.lt; have a6 := B.lt; obtain ⟨_,_,_,_,_,_,_,_,_,_,_⟩ := id A; obtain ⟨_,_,_,_,_,_⟩ := id B; go_wp2_with fail; refine (hp.call _ j3 p3 trivial).mono ?_; rintro e I (⟨x4,C,N,l⟩ | ⟨⟨Z,n4,m4,q4,s⟩,j4,v4,C,rfl,⟨b7,rfl,m⟩,l,p4,b8⟩)
 ·obtain ⟨q,rfl,-⟩ := id N; exact ⟨rfl,Steps.err (M.trans (P.bind_err C)) N G3 l⟩
 have O := M.trans (P.bind_ok C); simp only [T.kind,T.name,T.num,T.at',T.subs] at m ⊢; obtain ⟨R,U,rfl⟩ := m.form; obtain ⟨b4,a7,m⟩ := m.nm
 try simp at a7
 have G4 := zb G3 l; have s4 := l.size
 try simp at s4
 have D := RB.k A l; have E := NB.k B l; have a8 := D.lt; have a9 := E.lt; obtain ⟨_,_,_,_,_,_,_,_,_,_,_⟩ := id D; obtain ⟨_,_,_,_,_,_⟩ := id E; go_wp2_with fail; go_at_call 60; refine (zI c _ j4 d xd _ rfl (by decide) (PS.alloc (PS.put p4 HL.out (by omega) _ _) _)).mono ?_; rintro e V (⟨x5,F,X,b⟩ | ⟨a5,j5,v5,F,rfl,-,b,p5,b9⟩)
 ·obtain ⟨q,rfl,-⟩ := id X; exact ⟨rfl,Steps.err (O.trans (P.bind_err F)) X (zf (zC G4 (by omega) _ _) _) b⟩
 have b0 := O.trans (P.bind_ok F); have G5 : w.grownBy V (some c.pb) := zb (zf (zC G4 (by omega) _ _) _) b; have s5 := b.size
 try simp at s5
 have H : RB V w.heap.size := RB.k (RB.alloc (RB.put D _ _ _) _) b; have Y : NB V J.heap.size (.int .i64 kind) (.string ⟨#[]⟩) (.int .i64 0) (.int .i64 (pos c.L i)) (.slice (some ⟨I.heap.size,0,none⟩) 1 1) := NB.k (NB.alloc (NB.s4 E _) _) b; have c0 : LR V (In b4 I.heap.size) s (.slice R s.length U) := LR.c (LR.alloc (LR.put m (by omega) _ _) _) b; have b1 : LR V (In b4 (I.heap.size + 1)) ([(T.mk Z n4 m4 q4 s)]) (.slice (some ⟨I.heap.size,0,none⟩) 1 1) := LR.c (LR.build1 _ (t := (T.mk Z n4 m4 q4 s)) (sv := .slice R s.length U) (LR.wide (lo := b4) (hi := I.heap.size) (ts := s) (LR.put m (by omega) _ _) (by omega) (by first | omega | (simp <;> omega))) (by simp) rfl (by omega)) b; have b2 := H.lt; have b3 := Y.lt; obtain ⟨_,_,_,_,_,_,_,_,_,_,_⟩ := id H; obtain ⟨_,_,_,_,_,_⟩ := id Y; go_wp2; refine zn Tryz.results183 rfl (RB.five ?_) rfl ?_
 ·exact H
 refine Steps.ok (a := (T.mk kind [] 0 (pos c.L i) [(T.mk Z n4 m4 q4 s)])) b0 ⟨_,rfl,?_⟩ ?_ ?_ (by omega)
 ·refine LR.wide (lo := b4) (hi := I.heap.size + 1) (ts := [(T.mk Z n4 m4 q4 s)]) ?_ (by omega) (by first | omega | (simp <;> omega))
  exact LR.p5 b1 (by omega)
 ·exact zS G5 (by omega)
 ·exact PS.p5 p5 HL.out (by omega)
theorem dQ (c : PC) (w : World) (i d : Nat) (E A : P T) (h : PS c w i d) (hE : ExprOK c d E) (hA : ActsOK c d A) :
    Calls Tryz.prog 193 #[.pointer (some ⟨c.pb,0,none⟩)] w (Steps c w i d (fun w' ts v => LR w' (In w.heap.size w'.heap.size) ts v /\ ts.length <= 2) (jK c.L E A i)) := by
  have HP := za h; have HL := za h.low; have hb := h.lt; clear h
  go_enter Tryz.func193,Tryz.ntmps193
  go_wp2_with fail; go_at_call 121; refine (hE.call _ i HP.out trivial).mono ?_; rintro e y (⟨x1,r,z,o⟩ | ⟨⟨B,C,D,F,g⟩,j1,v1,r,rfl,⟨a7,rfl,j⟩,o,p1,a8⟩)
  · obtain ⟨q,rfl,-⟩ := id z; exact ⟨rfl,Steps.err (P.bind_err r) z gr o⟩
  have H : jK c.L E A i = _ := P.bind_ok r; simp only [T.kind,T.name,T.num,T.at',T.subs] at j ⊢; obtain ⟨l,m,rfl⟩ := j.form; obtain ⟨R,U,j⟩ := j.nm
  try simp at U
  have G1 := zb gr o; have s1 := o.size
  try simp at s1
  go_wp2_with fail; go_at_call 60; refine (zI c _ j1 d xP _ rfl (by decide) (PS.alloc p1 _)).mono ?_; rintro e V (⟨x2,s,I,b⟩ | ⟨a2,j2,v2,s,rfl,-,b,p2,a9⟩)
  · obtain ⟨q,rfl,-⟩ := id I; exact ⟨rfl,Steps.err (H.trans (P.bind_err s)) I (zf G1 _) b⟩
  have J := H.trans (P.bind_ok s); have G2 : w.grownBy V (some c.pb) := zb (zf G1 _) b; have s2 := b.size
  try simp at s2
  have u : NB V y.heap.size (.int .i64 B) (.string ⟨C.toArray⟩) (.int .i64 D) (.int .i64 F) (.slice l g.length m) := NB.k (NB.new' (by simp)) b; have X : LR V (In R y.heap.size) g (.slice l g.length m) := LR.c (LR.alloc j _) b; have Y := u.lt; obtain ⟨_,_,_,_,_,_⟩ := id u; go_wp2_with fail
  go_region_with (first
    | (go_at_call 125
       refine (hA _ j2 (PS.drew p2)).mono ?_; rintro e K (⟨x3,x,M,f⟩ | ⟨⟨Z,n3,m3,q3,N⟩,j3,v3,x,rfl,⟨b0,rfl,n⟩,f,p3,b2⟩)
       focus
         have HT := M; obtain ⟨q,rfl,-⟩ := M
         exact ⟨rfl,Steps.err (J.trans (P.bind_err x)) HT (zj G2) f⟩
       have a0 := J.trans (P.bind_ok x); simp only [T.kind,T.name,T.num,T.at',T.subs] at n ⊢; obtain ⟨a1,a3,rfl⟩ := n.form; obtain ⟨b3,a4,n⟩ := n.nm
       try simp at a4
       have G3 : w.grownBy K (some c.pb) := zb (zj G2) f; have s3 := f.size
       try simp at s3
       have O : NB K y.heap.size (.int .i64 B) (.string ⟨C.toArray⟩) (.int .i64 D) (.int .i64 F) (.slice l g.length m) := NB.k (NB.drew u) f; have a5 : LR K (In R y.heap.size) g (.slice l g.length m) := LR.c (LR.drew X) f; have a6 := O.lt
       obtain ⟨_,_,_,_,_,_⟩ := id O))
  all_goals
    go_wp2
    go_ret
    refine Steps.ok (a := [(T.mk B C D F g),(T.mk Z n3 m3 q3 N)]) a0 ⟨?_,by simp⟩ (zf G3 _) (PS.alloc p3 _) (by omega); refine LR.wide (lo := R) (hi := K.heap.size + 1) (ts := [(T.mk B C D F g),(T.mk Z n3 m3 q3 N)]) ?_ (by omega) (by first | omega | (simp <;> omega))
    exact (LR.build2 _ (t := (T.mk B C D F g)) (t2 := (T.mk Z n3 m3 q3 N)) (sv := .slice l g.length m) (sv2 := .slice a1 N.length a3) (LR.wide (lo := R) (hi := y.heap.size) (ts := g) a5 (by omega) (by first | omega | (simp <;> omega))) (LR.wide (lo := b3) (hi := K.heap.size) (ts := N) n (by omega) (by first | omega | (simp <;> omega))) (by simp) rfl (by omega))
end Go.Proofs.YtfjgelmllcnokaaGreatDoor
