/- Declarations. -/
import Derived.Test.YtnmkffjklpfflaaGreatDoorG19
namespace Go.Proofs.YtnmkffjklpfflaaGreatDoor
open Go.RowKit
set_option maxHeartbeats 400000
set_option maxRecDepth 100000
theorem fC (c : PC) (w : World) (i d : Nat) (h : PS c w i d) :
  Calls Tryz.prog 94 #[.pointer (some ⟨c.pb,0,none⟩)] w (Steps c w i d (fun w' t v => TR w' w.heap.size w'.heap.size t v) (vr c.L i)) := by
 have O := ze h; have Q := ze h.low; have hb := h.lt; clear h
 go_enter Tryz.func94,Tryz.ntmps94
 go_wp2_with fail; go_at_call 144; refine (vd c _ i d 6 (PS.alloc O.out _)).mono ?_; rintro e l (⟨x1,m,A,j⟩ | ⟨⟨R,U,V,X,n⟩,Y,v1,m,rfl,⟨Z,rfl,f⟩,j,p1,a0⟩)
 ·obtain ⟨q,rfl,-⟩ := id A; exact ⟨rfl,Steps.err (P.bind_err m) A (zf (zc w (some c.pb)) _) j⟩
 have B : vr c.L i = _ := P.bind_ok m; simp only [T.kind,T.name,T.num,T.at',T.subs] at f ⊢; obtain ⟨o,r,rfl⟩ := f.form; obtain ⟨E,F,f⟩ : ∃ b,b = _ /\ LR l (In b l.heap.size) n (.slice o n.length r) := ⟨_,rfl,f⟩
 try simp at F
 have N : w.grownBy l (some c.pb) := za (zf (zc w (some c.pb)) _) j; have s1 := j.size
 try simp at s1
 have s : RB l w.heap.size := RB.keep (RB.new' (by simp)) j (by omega); have G := s.lt; obtain ⟨_,_,_,_,_,_,_,_,_,_,_⟩ := id s; go_wp2_with fail; go_at_call 147; refine (vy c _ Y d (T.mk R U V X n) E l.heap.size _ p1 ⟨_,rfl,(show LR _ (In E l.heap.size) n (.slice o n.length r) from f)⟩).mono ?_; rintro e z (⟨x2,u,C,g⟩ | ⟨⟨k2,n2,m2,q2,D⟩,j2,v2,u,rfl,⟨a1,rfl,k⟩,g,p2,a2⟩)
 ·obtain ⟨q,rfl,-⟩ := id C; exact ⟨rfl,Steps.err (B.trans u) C N g⟩
 have H : vr c.L i = _ := B.trans u; simp only [T.kind,T.name,T.num,T.at',T.subs] at k ⊢; obtain ⟨I,J,rfl⟩ := k.form; obtain ⟨b2,K,k⟩ : ∃ b,b = _ /\ LR z (In b z.heap.size) D (.slice I D.length J) := ⟨_,rfl,k⟩
 try simp at K
 have G2 : w.grownBy z (some c.pb) := za N g; have s2 := g.size
 try simp at s2
 have x : RB z w.heap.size := RB.keep s g (by omega); have a3 : LR z (In E l.heap.size) n (.slice o n.length r) := LR.call f g (by omega); have M := x.lt; obtain ⟨_,_,_,_,_,_,_,_,_,_,_⟩ := id x; go_wp2; refine zj Tryz.results94 rfl (RB.five ?_) rfl ?_
 ·exact x
 refine Steps.ok (a := (T.mk k2 n2 m2 q2 D)) H ⟨_,rfl,?_⟩ ?_ ?_ (by omega)
 ·refine LR.wide (lo := b2) (hi := z.heap.size) (ts := D) ?_ (by omega) (by first | omega | (simp <;> omega))
  exact LR.p5 k (by omega)
 ·exact zy G2 (by omega)
 ·exact PS.p5 p2 Q.out (by omega)
theorem gA (c : PC) (w : World) (i d : Nat) (h : PS c w i d) :
  Calls Tryz.prog 203 #[.pointer (some ⟨c.pb,0,none⟩)] w (Steps c w i d (fun w' t v => TR w' w.heap.size w'.heap.size t v) (kH c.L i)) := by
 have O := ze h; have Q := ze h.low; have hb := h.lt; clear h
 go_enter Tryz.func203,Tryz.ntmps203
 go_wp2_with fail; go_at_call 144; refine (vd c _ i d 11 (PS.alloc O.out _)).mono ?_; rintro e l (⟨x1,m,A,j⟩ | ⟨⟨R,U,V,X,n⟩,Y,v1,m,rfl,⟨Z,rfl,f⟩,j,p1,a0⟩)
 ·obtain ⟨q,rfl,-⟩ := id A; exact ⟨rfl,Steps.err (P.bind_err m) A (zf (zc w (some c.pb)) _) j⟩
 have B : kH c.L i = _ := P.bind_ok m; simp only [T.kind,T.name,T.num,T.at',T.subs] at f ⊢; obtain ⟨o,r,rfl⟩ := f.form; obtain ⟨E,F,f⟩ : ∃ b,b = _ /\ LR l (In b l.heap.size) n (.slice o n.length r) := ⟨_,rfl,f⟩
 try simp at F
 have N : w.grownBy l (some c.pb) := za (zf (zc w (some c.pb)) _) j; have s1 := j.size
 try simp at s1
 have s : RB l w.heap.size := RB.keep (RB.new' (by simp)) j (by omega); have G := s.lt; obtain ⟨_,_,_,_,_,_,_,_,_,_,_⟩ := id s; go_wp2_with fail; go_at_call 147; refine (vy c _ Y d (T.mk R U V X n) E l.heap.size _ p1 ⟨_,rfl,(show LR _ (In E l.heap.size) n (.slice o n.length r) from f)⟩).mono ?_; rintro e z (⟨x2,u,C,g⟩ | ⟨⟨k2,n2,m2,q2,D⟩,j2,v2,u,rfl,⟨a1,rfl,k⟩,g,p2,a2⟩)
 ·obtain ⟨q,rfl,-⟩ := id C; exact ⟨rfl,Steps.err (B.trans u) C N g⟩
 have H : kH c.L i = _ := B.trans u; simp only [T.kind,T.name,T.num,T.at',T.subs] at k ⊢; obtain ⟨I,J,rfl⟩ := k.form; obtain ⟨b2,K,k⟩ : ∃ b,b = _ /\ LR z (In b z.heap.size) D (.slice I D.length J) := ⟨_,rfl,k⟩
 try simp at K
 have G2 : w.grownBy z (some c.pb) := za N g; have s2 := g.size
 try simp at s2
 have x : RB z w.heap.size := RB.keep s g (by omega); have a3 : LR z (In E l.heap.size) n (.slice o n.length r) := LR.call f g (by omega); have M := x.lt; obtain ⟨_,_,_,_,_,_,_,_,_,_,_⟩ := id x; go_wp2; refine zj Tryz.results203 rfl (RB.five ?_) rfl ?_
 ·exact x
 refine Steps.ok (a := (T.mk k2 n2 m2 q2 D)) H ⟨_,rfl,?_⟩ ?_ ?_ (by omega)
 ·refine LR.wide (lo := b2) (hi := z.heap.size) (ts := D) ?_ (by omega) (by first | omega | (simp <;> omega))
  exact LR.p5 k (by omega)
 ·exact zy G2 (by omega)
 ·exact PS.p5 p2 Q.out (by omega)
theorem jF (c : PC) (w : World) (i d : Nat) (h : PS c w i d) :
  Calls Tryz.prog 180 #[.pointer (some ⟨c.pb,0,none⟩)] w (Steps c w i d (fun w' t v => TR w' w.heap.size w'.heap.size t v) (kz c.L i)) := by
 have O := ze h; have Q := ze h.low; have hb := h.lt; clear h
 go_enter Tryz.func180,Tryz.ntmps180
 go_wp2_with fail; go_at_call 142; refine (vF c _ i d 6 (PS.alloc O.out _)).mono ?_; rintro e l (⟨x1,m,A,j⟩ | ⟨⟨R,U,V,X,n⟩,Y,v1,m,rfl,⟨Z,rfl,f⟩,j,p1,a0⟩)
 ·obtain ⟨q,rfl,-⟩ := id A; exact ⟨rfl,Steps.err (P.bind_err m) A (zf (zc w (some c.pb)) _) j⟩
 have B : kz c.L i = _ := P.bind_ok m; simp only [T.kind,T.name,T.num,T.at',T.subs] at f ⊢; obtain ⟨o,r,rfl⟩ := f.form; obtain ⟨E,F,f⟩ : ∃ b,b = _ /\ LR l (In b l.heap.size) n (.slice o n.length r) := ⟨_,rfl,f⟩
 try simp at F
 have N : w.grownBy l (some c.pb) := za (zf (zc w (some c.pb)) _) j; have s1 := j.size
 try simp at s1
 have s : RB l w.heap.size := RB.keep (RB.new' (by simp)) j (by omega); have G := s.lt; obtain ⟨_,_,_,_,_,_,_,_,_,_,_⟩ := id s; go_wp2_with fail; go_at_call 147; refine (vy c _ Y d (T.mk R U V X n) E l.heap.size _ p1 ⟨_,rfl,(show LR _ (In E l.heap.size) n (.slice o n.length r) from f)⟩).mono ?_; rintro e z (⟨x2,u,C,g⟩ | ⟨⟨k2,n2,m2,q2,D⟩,j2,v2,u,rfl,⟨a1,rfl,k⟩,g,p2,a2⟩)
 ·obtain ⟨q,rfl,-⟩ := id C; exact ⟨rfl,Steps.err (B.trans u) C N g⟩
 have H : kz c.L i = _ := B.trans u; simp only [T.kind,T.name,T.num,T.at',T.subs] at k ⊢; obtain ⟨I,J,rfl⟩ := k.form; obtain ⟨b2,K,k⟩ : ∃ b,b = _ /\ LR z (In b z.heap.size) D (.slice I D.length J) := ⟨_,rfl,k⟩
 try simp at K
 have G2 : w.grownBy z (some c.pb) := za N g; have s2 := g.size
 try simp at s2
 have x : RB z w.heap.size := RB.keep s g (by omega); have a3 : LR z (In E l.heap.size) n (.slice o n.length r) := LR.call f g (by omega); have M := x.lt; obtain ⟨_,_,_,_,_,_,_,_,_,_,_⟩ := id x; go_wp2; refine zj Tryz.results180 rfl (RB.five ?_) rfl ?_
 ·exact x
 refine Steps.ok (a := (T.mk k2 n2 m2 q2 D)) H ⟨_,rfl,?_⟩ ?_ ?_ (by omega)
 ·refine LR.wide (lo := b2) (hi := z.heap.size) (ts := D) ?_ (by omega) (by first | omega | (simp <;> omega))
  exact LR.p5 k (by omega)
 ·exact zy G2 (by omega)
 ·exact PS.p5 p2 Q.out (by omega)
theorem gX (c : PC) (w : World) (i d : Nat) (E : P T) (h : PS c w i d) (hE : ExprOK c d E) :
  Calls Tryz.prog 92 #[.pointer (some ⟨c.pb,0,none⟩)] w (Steps c w i d (fun w' t v => TR w' w.heap.size w'.heap.size t v) (((yT c.L 4).bind fun n => (zD c.L fe).bind fun _ => E.bind fun e => P.ret (jn n e)) i)) := by
 have HP := ze h; have HL := ze h.low; have hb := h.lt; clear h
 go_enter Tryz.func92,Tryz.ntmps92
 go_wp2_with fail; go_at_call 144; refine (vd c _ i d 4 (PS.alloc HP.out _)).mono ?_; rintro e r (⟨x1,x,H,j⟩ | ⟨⟨U,V,X,Y,s⟩,j1,v1,x,rfl,⟨a9,rfl,k⟩,j,p1,b0⟩)
 ·obtain ⟨q,rfl,-⟩ := id H; exact ⟨rfl,Steps.err (P.bind_err x) H (zf (zc w (some c.pb)) _) j⟩
 have I : ((yT c.L 4).bind fun n => (zD c.L fe).bind fun _ => E.bind fun e => P.ret (jn n e)) i = _ := P.bind_ok x; simp only [T.kind,T.name,T.num,T.at',T.subs] at k ⊢; obtain ⟨l,m,rfl⟩ := k.form; obtain ⟨b1,Z,k⟩ : ∃ b,b = _ /\ LR r (In b r.heap.size) s (.slice l s.length m) := ⟨_,rfl,k⟩
 try simp at Z
 have G1 : w.grownBy r (some c.pb) := za (zf (zc w (some c.pb)) _) j; have s1 := j.size
 try simp at s1
 have z : RB r w.heap.size := RB.keep (RB.new' (by simp)) j (by omega); have a0 := z.lt; obtain ⟨_,_,_,_,_,_,_,_,_,_,_⟩ := id z; go_wp2_with fail; go_at_call 88; refine (zx c _ j1 d fe _ rfl (by decide) (PS.alloc p1 _)).mono ?_; rintro e R (⟨x2,A,J,f⟩ | ⟨a2,j2,v2,A,rfl,-,f,p2,b2⟩)
 ·obtain ⟨q,rfl,-⟩ := id J; exact ⟨rfl,Steps.err (I.trans (P.bind_err A)) J (zf G1 _) f⟩
 have K : ((yT c.L 4).bind fun n => (zD c.L fe).bind fun _ => E.bind fun e => P.ret (jn n e)) i = _ := I.trans (P.bind_ok A); have G2 : w.grownBy R (some c.pb) := za (zf G1 _) f; have s2 := f.size
 try simp at s2
 have B : RB R w.heap.size := RB.keep (RB.alloc z _) f (by omega); have C : NB R r.heap.size (.int .i64 U) (.string ⟨V.toArray⟩) (.int .i64 X) (.int .i64 Y) (.slice l s.length m) := NB.keep (NB.new' (by simp)) f (by omega); have a1 : LR R (In b1 r.heap.size) s (.slice l s.length m) := LR.call (LR.alloc k _) f (by omega); have a3 := B.lt; have a4 := C.lt; obtain ⟨_,_,_,_,_,_,_,_,_,_,_⟩ := id B; obtain ⟨_,_,_,_,_,_⟩ := id C; go_wp2_with fail; go_at_call 145; refine (hE.call _ j2 p2 trivial).mono ?_; rintro e u (⟨x3,D,M,g⟩ | ⟨⟨k3,n3,m3,q3,F⟩,j3,v3,D,rfl,⟨b4,rfl,o⟩,g,p3,b5⟩)
 ·obtain ⟨q,rfl,-⟩ := id M; exact ⟨rfl,Steps.err (K.trans (P.bind_err D)) M G2 g⟩
 have a5 : ((yT c.L 4).bind fun n => (zD c.L fe).bind fun _ => E.bind fun e => P.ret (jn n e)) i = _ := K.trans (P.bind_ok D); simp only [T.kind,T.name,T.num,T.at',T.subs] at o ⊢; obtain ⟨N,O,rfl⟩ := o.form; obtain ⟨b3,a6,o⟩ : ∃ b,b = _ /\ LR u (In b u.heap.size) F (.slice N F.length O) := ⟨_,rfl,o⟩
 try simp at a6
 have G3 : w.grownBy u (some c.pb) := za G2 g; have s3 := g.size
 try simp at s3
 have G : RB u w.heap.size := RB.keep B g (by omega); have Q : NB u r.heap.size (.int .i64 U) (.string ⟨V.toArray⟩) (.int .i64 X) (.int .i64 Y) (.slice l s.length m) := NB.keep C g (by omega); have b6 : LR u (In b1 r.heap.size) s (.slice l s.length m) := LR.call a1 g (by omega); have a7 := G.lt; have a8 := Q.lt; obtain ⟨_,_,_,_,_,_,_,_,_,_,_⟩ := id G; obtain ⟨_,_,_,_,_,_⟩ := id Q; go_wp2; refine zj Tryz.results92 rfl (NB.alloc (RB.five ?_) _) rfl ?_
 ·exact RB.put G _ _ _
 refine Steps.ok (a := (T.mk U V X Y [(T.mk k3 n3 m3 q3 F)])) a5 ⟨_,rfl,?_⟩ ?_ ?_ (by omega)
 ·refine LR.wide (lo := b3) (hi := u.heap.size + 1) (ts := [(T.mk k3 n3 m3 q3 F)]) ?_ (by omega) (by first | omega | (simp <;> omega))
  exact (LR.build1 _ (t := (T.mk k3 n3 m3 q3 F)) (sv := .slice N F.length O) (LR.wide (lo := b3) (hi := u.heap.size) (ts := F) (LR.p5 (LR.put o (by omega) _ _) (by omega)) (by omega) (by first | omega | (simp <;> omega))) (by simp) rfl (by omega))
 ·exact zf (zy (zq G3 (by omega) _ _) (by omega)) _
 ·exact PS.alloc (PS.p5 (PS.put p3 HL.out (by omega) _ _) HL.out (by omega)) _
theorem uO (c : PC) (w : World) (i d : Nat) (h : PS c w i d) (hT : PartOK c d 146 (zP c.L)) :
  Calls Tryz.prog 93 #[.pointer (some ⟨c.pb,0,none⟩)] w (Steps c w i d (fun w' t v => TR w' w.heap.size w'.heap.size t v) (xM c.L i)) := by
 have HP := ze h; have HL := ze h.low; have hb := h.lt; clear h
 go_enter Tryz.func93,Tryz.ntmps93
 go_wp2_with fail; go_at_call 144; refine (vd c _ i d 5 (PS.alloc HP.out _)).mono ?_; rintro e o (⟨x1,u,F,j⟩ | ⟨⟨Q,R,U,V,r⟩,j1,v1,u,rfl,⟨a7,rfl,k⟩,j,p1,a8⟩)
 ·obtain ⟨q,rfl,-⟩ := id F; exact ⟨rfl,Steps.err (P.bind_err u) F (zf (zc w (some c.pb)) _) j⟩
 have G : xM c.L i = _ := P.bind_ok u; simp only [T.kind,T.name,T.num,T.at',T.subs] at k ⊢; obtain ⟨l,m,rfl⟩ := k.form; obtain ⟨b1,X,k⟩ : ∃ b,b = _ /\ LR o (In b o.heap.size) r (.slice l r.length m) := ⟨_,rfl,k⟩
 try simp at X
 have G1 : w.grownBy o (some c.pb) := za (zf (zc w (some c.pb)) _) j; have s1 := j.size
 try simp at s1
 have x : RB o w.heap.size := RB.keep (RB.new' (by simp)) j (by omega); have Y := x.lt; obtain ⟨_,_,_,_,_,_,_,_,_,_,_⟩ := id x; go_wp2_with fail; go_at_call 88; refine (zx c _ j1 d fe _ rfl (by decide) (PS.alloc p1 _)).mono ?_; rintro e O (⟨x2,z,H,f⟩ | ⟨a2,j2,v2,z,rfl,-,f,p2,a9⟩)
 ·obtain ⟨q,rfl,-⟩ := id H; exact ⟨rfl,Steps.err (G.trans (P.bind_err z)) H (zf G1 _) f⟩
 have I : xM c.L i = _ := G.trans (P.bind_ok z); have G2 : w.grownBy O (some c.pb) := za (zf G1 _) f; have s2 := f.size
 try simp at s2
 have A : RB O w.heap.size := RB.keep (RB.alloc x _) f (by omega); have B : NB O o.heap.size (.int .i64 Q) (.string ⟨R.toArray⟩) (.int .i64 U) (.int .i64 V) (.slice l r.length m) := NB.keep (NB.new' (by simp)) f (by omega); have Z : LR O (In b1 o.heap.size) r (.slice l r.length m) := LR.call (LR.alloc k _) f (by omega); have a0 := A.lt; have a1 := B.lt; obtain ⟨_,_,_,_,_,_,_,_,_,_,_⟩ := id A; obtain ⟨_,_,_,_,_,_⟩ := id B; go_wp2_with fail; go_at_call 146; refine (hT _ j2 p2).mono ?_; rintro e s (⟨x3,C,J,g⟩ | ⟨⟨k3,n3,m3,q3,D⟩,j3,v3,C,rfl,⟨b0,rfl,n⟩,g,p3,b2⟩)
 ·obtain ⟨q,rfl,-⟩ := id J; exact ⟨rfl,Steps.err (I.trans (P.bind_err C)) J G2 g⟩
 have a3 : xM c.L i = _ := I.trans (P.bind_ok C); simp only [T.kind,T.name,T.num,T.at',T.subs] at n ⊢; obtain ⟨K,M,rfl⟩ := n.form; obtain ⟨b3,a4,n⟩ : ∃ b,b = _ /\ LR s (In b s.heap.size) D (.slice K D.length M) := ⟨_,rfl,n⟩
 try simp at a4
 have G3 : w.grownBy s (some c.pb) := za G2 g; have s3 := g.size
 try simp at s3
 have E : RB s w.heap.size := RB.keep A g (by omega); have N : NB s o.heap.size (.int .i64 Q) (.string ⟨R.toArray⟩) (.int .i64 U) (.int .i64 V) (.slice l r.length m) := NB.keep B g (by omega); have b4 : LR s (In b1 o.heap.size) r (.slice l r.length m) := LR.call Z g (by omega); have a5 := E.lt; have a6 := N.lt; obtain ⟨_,_,_,_,_,_,_,_,_,_,_⟩ := id E; obtain ⟨_,_,_,_,_,_⟩ := id N; go_wp2; refine zj Tryz.results93 rfl (NB.alloc (RB.five ?_) _) rfl ?_
 ·exact RB.put E _ _ _
 refine Steps.ok (a := (T.mk Q R U V [(T.mk k3 n3 m3 q3 D)])) a3 ⟨_,rfl,?_⟩ ?_ ?_ (by omega)
 ·refine LR.wide (lo := b3) (hi := s.heap.size + 1) (ts := [(T.mk k3 n3 m3 q3 D)]) ?_ (by omega) (by first | omega | (simp <;> omega))
  exact (LR.build1 _ (t := (T.mk k3 n3 m3 q3 D)) (sv := .slice K D.length M) (LR.wide (lo := b3) (hi := s.heap.size) (ts := D) (LR.p5 (LR.put n (by omega) _ _) (by omega)) (by omega) (by first | omega | (simp <;> omega))) (by simp) rfl (by omega))
 ·exact zf (zy (zq G3 (by omega) _ _) (by omega)) _
 ·exact PS.alloc (PS.p5 (PS.put p3 HL.out (by omega) _ _) HL.out (by omega)) _
theorem gd (c : PC) (w : World) (i d : Nat) (h : PS c w i d) :
  Calls Tryz.prog 205 #[.pointer (some ⟨c.pb,0,none⟩)] w (Steps c w i d (fun w' t v => TR w' w.heap.size w'.heap.size t v) (yU c.L i)) := by
 have HP := ze h; have V := ze h.low; have hb := h.lt; clear h
 go_enter Tryz.func205,Tryz.ntmps205
 go_wp2_with fail; go_at_call 87; refine (zI c _ i d 8 (PS.alloc HP.out _)).mono ?_; rintro e G ⟨rfl,A⟩; have p1 : PS c G i d := PS.kept (PS.alloc HP.out _) A; have G1 : w.grownBy G (some c.pb) := za (zf (zc w (some c.pb)) _) (zv A (some c.pb)); have s1 := A.size
 try simp at s1
 have H : RB G w.heap.size := RB.kept (RB.new' (by simp)) A (by simp); have a0 := H.lt; obtain ⟨_,_,_,_,_,_,_,_,_,_,_⟩ := id H; go_wp2_with fail; go_at_call 137; refine (yb c _ i d pG _ rfl (by decide) (PS.alloc p1 _)).mono ?_; rintro e w2 ⟨b2,j2,a1,rfl,B,p2,b0⟩; have C : yU c.L i = _ := P.bind_ok a1; have Z : w.grownBy w2 (some c.pb) := za (zf G1 _) B; have s2 := B.size
 try simp at s2
 have D : RB w2 w.heap.size := RB.keep (RB.alloc H _) B (by omega); have E : NB w2 G.heap.size (.int .i64 8) (.string ⟨#[]⟩) (.int .i64 0) (.int .i64 (pos c.L i)) (.slice none 0 0) := NB.keep (NB.new' (by simp)) B (by omega); have a2 := D.lt; have a4 := E.lt; obtain ⟨_,_,_,_,_,_,_,_,_,_,_⟩ := id D; obtain ⟨_,_,_,_,_,_⟩ := id E; cases b2
 ·go_wp2_with fail
  go_at_call 89; refine (vq c _ j2 d p2).mono ?_; rintro e I (⟨x3,k,s,f⟩ | ⟨X,j3,v3,k,rfl,⟨rfl,a5,a6⟩,f,p3,a7⟩)
  ·obtain ⟨q,rfl,-⟩ := id s; exact ⟨rfl,Steps.err (C.trans (P.bind_err k)) s Z f⟩
  have u : yU c.L i = _ := C.trans (P.bind_ok k); have Y : w.grownBy I (some c.pb) := za Z f; have s3 := f.size
  try simp at s3
  have l : RB I w.heap.size := RB.keep D f (by omega); have m : NB I G.heap.size (.int .i64 8) (.string ⟨#[]⟩) (.int .i64 0) (.int .i64 (pos c.L i)) (.slice none 0 0) := NB.keep E f (by omega); have J := l.lt; have K := m.lt; obtain ⟨_,_,_,_,_,_,_,_,_,_,_⟩ := id l; obtain ⟨_,_,_,_,_,_⟩ := id m; go_wp2_with fail; go_at_call 147; refine (vy c _ j3 d (T.mk 8 X 0 (pos c.L i) []) 0 0 _ (PS.put p3 V.out (by omega) _ _) ⟨_,rfl,LR.nil _ _⟩).mono ?_; rintro e r (⟨x4,n,x,g⟩ | ⟨⟨k4,n4,m4,q4,F⟩,j4,v4,n,rfl,⟨a8,rfl,j⟩,g,p4,a9⟩)
  ·obtain ⟨q,rfl,-⟩ := id x; exact ⟨rfl,Steps.err (u.trans n) x (zq Y (by omega) _ _) g⟩
  have M : yU c.L i = _ := u.trans n; simp only [T.kind,T.name,T.num,T.at',T.subs] at j ⊢; obtain ⟨N,O,rfl⟩ := j.form; obtain ⟨b4,Q,j⟩ : ∃ b,b = _ /\ LR r (In b r.heap.size) F (.slice N F.length O) := ⟨_,rfl,j⟩
  try simp at Q
  have G4 : w.grownBy r (some c.pb) := za (zq Y (by omega) _ _) g; have s4 := g.size
  try simp at s4
  have o : RB r w.heap.size := RB.keep (RB.put l _ _ _) g (by omega); have z : NB r G.heap.size (.int .i64 8) (.string ⟨X.toArray⟩) (.int .i64 0) (.int .i64 (pos c.L i)) (.slice none 0 0) := NB.keep (NB.s1 m _) g (by omega); have R := o.lt; have U := z.lt; obtain ⟨_,_,_,_,_,_,_,_,_,_,_⟩ := id o; obtain ⟨_,_,_,_,_,_⟩ := id z; go_wp2; refine zj Tryz.results205 rfl (RB.five ?_) rfl ?_
  ·exact o
  refine Steps.ok (a := (T.mk k4 n4 m4 q4 F)) M ⟨_,rfl,?_⟩ ?_ ?_ (by omega)
  ·refine LR.wide (lo := b4) (hi := r.heap.size) (ts := F) ?_ (by omega) (by first | omega | (simp <;> omega))
   exact LR.p5 j (by omega)
  ·exact zy G4 (by omega)
  ·exact PS.p5 p4 V.out (by omega)
 ·go_wp2_with fail
  go_at_call 89; refine (vq c _ j2 d (PS.put p2 V.out (by omega) _ _)).mono ?_; rintro e I (⟨x3,k,s,f⟩ | ⟨X,j3,v3,k,rfl,⟨rfl,a5,a6⟩,f,p3,a7⟩)
  ·obtain ⟨q,rfl,-⟩ := id s; exact ⟨rfl,Steps.err (C.trans (P.bind_err k)) s (zq Z (by omega) _ _) f⟩
  have u : yU c.L i = _ := C.trans (P.bind_ok k); have Y : w.grownBy I (some c.pb) := za (zq Z (by omega) _ _) f; have s3 := f.size
  try simp at s3
  have l : RB I w.heap.size := RB.keep (RB.put D _ _ _) f (by omega); have m : NB I G.heap.size (.int .i64 8) (.string ⟨#[]⟩) (.int .i64 1) (.int .i64 (pos c.L i)) (.slice none 0 0) := NB.keep (NB.s2 E _) f (by omega); have J := l.lt; have K := m.lt; obtain ⟨_,_,_,_,_,_,_,_,_,_,_⟩ := id l; obtain ⟨_,_,_,_,_,_⟩ := id m; go_wp2_with fail; go_at_call 147; refine (vy c _ j3 d (T.mk 8 X 1 (pos c.L i) []) 0 0 _ (PS.put p3 V.out (by omega) _ _) ⟨_,rfl,LR.nil _ _⟩).mono ?_; rintro e r (⟨x4,n,x,g⟩ | ⟨⟨k4,n4,m4,q4,F⟩,j4,v4,n,rfl,⟨a8,rfl,j⟩,g,p4,a9⟩)
  ·obtain ⟨q,rfl,-⟩ := id x; exact ⟨rfl,Steps.err (u.trans n) x (zq Y (by omega) _ _) g⟩
  have M : yU c.L i = _ := u.trans n; simp only [T.kind,T.name,T.num,T.at',T.subs] at j ⊢; obtain ⟨N,O,rfl⟩ := j.form; obtain ⟨b4,Q,j⟩ : ∃ b,b = _ /\ LR r (In b r.heap.size) F (.slice N F.length O) := ⟨_,rfl,j⟩
  try simp at Q
  have G4 : w.grownBy r (some c.pb) := za (zq Y (by omega) _ _) g; have s4 := g.size
  try simp at s4
  have o : RB r w.heap.size := RB.keep (RB.put l _ _ _) g (by omega); have z : NB r G.heap.size (.int .i64 8) (.string ⟨X.toArray⟩) (.int .i64 1) (.int .i64 (pos c.L i)) (.slice none 0 0) := NB.keep (NB.s1 m _) g (by omega); have R := o.lt; have U := z.lt; obtain ⟨_,_,_,_,_,_,_,_,_,_,_⟩ := id o; obtain ⟨_,_,_,_,_,_⟩ := id z; go_wp2; refine zj Tryz.results205 rfl (RB.five ?_) rfl ?_
  ·exact o
  refine Steps.ok (a := (T.mk k4 n4 m4 q4 F)) M ⟨_,rfl,?_⟩ ?_ ?_ (by omega)
  ·refine LR.wide (lo := b4) (hi := r.heap.size) (ts := F) ?_ (by omega) (by first | omega | (simp <;> omega))
   exact LR.p5 j (by omega)
  ·exact zy G4 (by omega)
  ·exact PS.p5 p4 V.out (by omega)
theorem sK (c : PC) (w : World) (i d : Nat) (h : PS c w i d) :
  Calls Tryz.prog 174 #[.pointer (some ⟨c.pb,0,none⟩)] w (Steps c w i d (fun w' t v => TR w' w.heap.size w'.heap.size t v) (jD c.L i)) := by
 have HP := ze h; have X := ze h.low; have hb := h.lt; clear h
 go_enter Tryz.func174,Tryz.ntmps174
 go_wp2_with fail; go_at_call 87; refine (zI c _ i d 9 (PS.alloc HP.out _)).mono ?_; rintro e n ⟨rfl,m⟩; have p1 : PS c n i d := PS.kept (PS.alloc HP.out _) m; have G1 : w.grownBy n (some c.pb) := za (zf (zc w (some c.pb)) _) (zv m (some c.pb)); have s1 := m.size
 try simp at s1
 have o : RB n w.heap.size := RB.kept (RB.new' (by simp)) m (by simp); have Y := o.lt; obtain ⟨_,_,_,_,_,_,_,_,_,_,_⟩ := id o; go_wp2_with fail; go_at_call 88; refine (zx c _ i d qX _ rfl (by decide) (PS.alloc p1 _)).mono ?_; rintro e Z (⟨x2,r,I,f⟩ | ⟨a2,j2,v2,r,rfl,-,f,p2,b3⟩)
 ·obtain ⟨q,rfl,-⟩ := id I; exact ⟨rfl,Steps.err (P.bind_err r) I (zf G1 _) f⟩
 have J : jD c.L i = _ := P.bind_ok r; have G2 : w.grownBy Z (some c.pb) := za (zf G1 _) f; have s2 := f.size
 try simp at s2
 have s : RB Z w.heap.size := RB.keep (RB.alloc o _) f (by omega); have u : NB Z n.heap.size (.int .i64 9) (.string ⟨#[]⟩) (.int .i64 0) (.int .i64 (pos c.L i)) (.slice none 0 0) := NB.keep (NB.new' (by simp)) f (by omega); have a0 := s.lt; have a1 := u.lt; obtain ⟨_,_,_,_,_,_,_,_,_,_,_⟩ := id s; obtain ⟨_,_,_,_,_,_⟩ := id u; go_wp2_with fail; go_at_call 202; refine (kU c _ j2 d p2).mono ?_; rintro e w3 (⟨x3,x,K,g⟩ | ⟨a3,j3,v3,x,rfl,rfl,g,p3,b4⟩)
 ·obtain ⟨q,rfl,-⟩ := id K; exact ⟨rfl,Steps.err (J.trans (P.bind_err x)) K G2 g⟩
 have M : jD c.L i = _ := J.trans (P.bind_ok x); have G3 : w.grownBy w3 (some c.pb) := za G2 g; have s3 := g.size
 try simp at s3
 have z : RB w3 w.heap.size := RB.keep s g (by omega); have A : NB w3 n.heap.size (.int .i64 9) (.string ⟨#[]⟩) (.int .i64 0) (.int .i64 (pos c.L i)) (.slice none 0 0) := NB.keep u g (by omega); have a5 := z.lt; have a6 := A.lt; obtain ⟨_,_,_,_,_,_,_,_,_,_,_⟩ := id z; obtain ⟨_,_,_,_,_,_⟩ := id A; go_wp2_with fail; go_at_call 88; refine (zx c _ j3 d kOF _ rfl (by decide) (PS.put p3 X.out (by omega) _ _)).mono ?_; rintro e w4 (⟨x4,B,N,j⟩ | ⟨a4,j4,v4,B,rfl,-,j,p4,b6⟩)
 ·obtain ⟨q,rfl,-⟩ := id N; exact ⟨rfl,Steps.err (M.trans (P.bind_err B)) N (zq G3 (by omega) _ _) j⟩
 have O : jD c.L i = _ := M.trans (P.bind_ok B); have G4 : w.grownBy w4 (some c.pb) := za (zq G3 (by omega) _ _) j; have s4 := j.size
 try simp at s4
 have C : RB w4 w.heap.size := RB.keep (RB.put z _ _ _) j (by omega); have D : NB w4 n.heap.size (.int .i64 9) (.string ⟨#[]⟩) (.int .i64 a3) (.int .i64 (pos c.L i)) (.slice none 0 0) := NB.keep (NB.s2 A _) j (by omega); have a7 := C.lt; have a8 := D.lt; obtain ⟨_,_,_,_,_,_,_,_,_,_,_⟩ := id C; obtain ⟨_,_,_,_,_,_⟩ := id D; go_wp2_with fail; go_at_call 177; refine (yF c _ j4 d p4).mono ?_; rintro e E (⟨x5,F,Q,k⟩ | ⟨⟨k5,n5,m5,q5,G⟩,j5,v5,F,rfl,⟨b7,rfl,l⟩,k,p5,b8⟩)
 ·obtain ⟨q,rfl,-⟩ := id Q; exact ⟨rfl,Steps.err (O.trans (P.bind_err F)) Q G4 k⟩
 have a9 : jD c.L i = _ := O.trans (P.bind_ok F); simp only [T.kind,T.name,T.num,T.at',T.subs] at l ⊢; obtain ⟨R,U,rfl⟩ := l.form; obtain ⟨b5,b0,l⟩ : ∃ b,b = _ /\ LR E (In b E.heap.size) G (.slice R G.length U) := ⟨_,rfl,l⟩
 try simp at b0
 have G5 : w.grownBy E (some c.pb) := za G4 k; have s5 := k.size
 try simp at s5
 have H : RB E w.heap.size := RB.keep C k (by omega); have V : NB E n.heap.size (.int .i64 9) (.string ⟨#[]⟩) (.int .i64 a3) (.int .i64 (pos c.L i)) (.slice none 0 0) := NB.keep D k (by omega); have b1 := H.lt; have b2 := V.lt; obtain ⟨_,_,_,_,_,_,_,_,_,_,_⟩ := id H; obtain ⟨_,_,_,_,_,_⟩ := id V; go_wp2; refine zj Tryz.results174 rfl (NB.alloc (RB.five ?_) _) rfl ?_
 ·exact RB.put H _ _ _
 refine Steps.ok (a := (T.mk 9 [] a3 (pos c.L i) [(T.mk k5 n5 m5 q5 G)])) a9 ⟨_,rfl,?_⟩ ?_ ?_ (by omega)
 ·refine LR.wide (lo := b5) (hi := E.heap.size + 1) (ts := [(T.mk k5 n5 m5 q5 G)]) ?_ (by omega) (by first | omega | (simp <;> omega))
  exact (LR.build1 _ (t := (T.mk k5 n5 m5 q5 G)) (sv := .slice R G.length U) (LR.wide (lo := b5) (hi := E.heap.size) (ts := G) (LR.p5 (LR.put l (by omega) _ _) (by omega)) (by omega) (by first | omega | (simp <;> omega))) (by simp) rfl (by omega))
 ·exact zf (zy (zq G5 (by omega) _ _) (by omega)) _
 ·exact PS.alloc (PS.p5 (PS.put p5 X.out (by omega) _ _) X.out (by omega)) _
theorem dS (c : PC) (w : World) (i d : Nat) (h : PS c w i d) :
  Calls Tryz.prog 176 #[.pointer (some ⟨c.pb,0,none⟩)] w (Steps c w i d (fun w' t v => TR w' w.heap.size w'.heap.size t v) (vV c.L i)) := by
 have HP := ze h; have HL := ze h.low; have hb := h.lt; clear h
 go_enter Tryz.func176,Tryz.ntmps176
 go_wp2_with fail; go_at_call 87; refine (zI c _ i d 12 (PS.alloc HP.out _)).mono ?_; rintro e D ⟨rfl,l⟩; have p1 : PS c D i d := PS.kept (PS.alloc HP.out _) l; have G1 : w.grownBy D (some c.pb) := za (zf (zc w (some c.pb)) _) (zv l (some c.pb)); have s1 := l.size
 try simp at s1
 have m : RB D w.heap.size := RB.kept (RB.new' (by simp)) l (by simp); have N := m.lt; obtain ⟨_,_,_,_,_,_,_,_,_,_,_⟩ := id m; go_wp2_with fail; go_at_call 88; refine (zx c _ i d ji _ rfl (by decide) (PS.alloc p1 _)).mono ?_; rintro e O (⟨x2,n,E,f⟩ | ⟨a2,j2,v2,n,rfl,-,f,p2,a6⟩)
 ·obtain ⟨q,rfl,-⟩ := id E; exact ⟨rfl,Steps.err (P.bind_err n) E (zf G1 _) f⟩
 have F : vV c.L i = _ := P.bind_ok n; have G2 : w.grownBy O (some c.pb) := za (zf G1 _) f; have s2 := f.size
 try simp at s2
 have o : RB O w.heap.size := RB.keep (RB.alloc m _) f (by omega); have r : NB O D.heap.size (.int .i64 12) (.string ⟨#[]⟩) (.int .i64 0) (.int .i64 (pos c.L i)) (.slice none 0 0) := NB.keep (NB.new' (by simp)) f (by omega); have Q := o.lt; have R := r.lt; obtain ⟨_,_,_,_,_,_,_,_,_,_,_⟩ := id o; obtain ⟨_,_,_,_,_,_⟩ := id r; go_wp2_with fail; go_at_call 88; refine (zx c _ j2 d kTO _ rfl (by decide) p2).mono ?_; rintro e U (⟨x3,s,G,g⟩ | ⟨a3,j3,v3,s,rfl,-,g,p3,a7⟩)
 ·obtain ⟨q,rfl,-⟩ := id G; exact ⟨rfl,Steps.err (F.trans (P.bind_err s)) G G2 g⟩
 have H : vV c.L i = _ := F.trans (P.bind_ok s); have G3 : w.grownBy U (some c.pb) := za G2 g; have s3 := g.size
 try simp at s3
 have u : RB U w.heap.size := RB.keep o g (by omega); have x : NB U D.heap.size (.int .i64 12) (.string ⟨#[]⟩) (.int .i64 0) (.int .i64 (pos c.L i)) (.slice none 0 0) := NB.keep r g (by omega); have V := u.lt; have X := x.lt; obtain ⟨_,_,_,_,_,_,_,_,_,_,_⟩ := id u; obtain ⟨_,_,_,_,_,_⟩ := id x; go_wp2_with fail; go_at_call 177; refine (yF c _ j3 d p3).mono ?_; rintro e z (⟨x4,A,I,j⟩ | ⟨⟨Y,Z,m4,q4,B⟩,j4,v4,A,rfl,⟨a8,rfl,k⟩,j,p4,a9⟩)
 ·obtain ⟨q,rfl,-⟩ := id I; exact ⟨rfl,Steps.err (H.trans (P.bind_err A)) I G3 j⟩
 have a0 : vV c.L i = _ := H.trans (P.bind_ok A); simp only [T.kind,T.name,T.num,T.at',T.subs] at k ⊢; obtain ⟨J,K,rfl⟩ := k.form; obtain ⟨b4,a1,k⟩ : ∃ b,b = _ /\ LR z (In b z.heap.size) B (.slice J B.length K) := ⟨_,rfl,k⟩
 try simp at a1
 have G4 : w.grownBy z (some c.pb) := za G3 j; have s4 := j.size
 try simp at s4
 have C : RB z w.heap.size := RB.keep u j (by omega); have M : NB z D.heap.size (.int .i64 12) (.string ⟨#[]⟩) (.int .i64 0) (.int .i64 (pos c.L i)) (.slice none 0 0) := NB.keep x j (by omega); have a4 := C.lt; have a5 := M.lt; obtain ⟨_,_,_,_,_,_,_,_,_,_,_⟩ := id C; obtain ⟨_,_,_,_,_,_⟩ := id M; go_wp2; refine zj Tryz.results176 rfl (NB.alloc (RB.five ?_) _) rfl ?_
 ·exact RB.put C _ _ _
 refine Steps.ok (a := (T.mk 12 [] 0 (pos c.L i) [(T.mk Y Z m4 q4 B)])) a0 ⟨_,rfl,?_⟩ ?_ ?_ (by omega)
 ·refine LR.wide (lo := b4) (hi := z.heap.size + 1) (ts := [(T.mk Y Z m4 q4 B)]) ?_ (by omega) (by first | omega | (simp <;> omega))
  exact (LR.build1 _ (t := (T.mk Y Z m4 q4 B)) (sv := .slice J B.length K) (LR.wide (lo := b4) (hi := z.heap.size) (ts := B) (LR.p5 (LR.put k (by omega) _ _) (by omega)) (by omega) (by first | omega | (simp <;> omega))) (by simp) rfl (by omega))
 ·exact zf (zy (zq G4 (by omega) _ _) (by omega)) _
 ·exact PS.alloc (PS.p5 (PS.put p4 HL.out (by omega) _ _) HL.out (by omega)) _
theorem sg (c : PC) (w : World) (i d : Nat) (h : PS c w i d) :
  Calls Tryz.prog 179 #[.pointer (some ⟨c.pb,0,none⟩)] w (Steps c w i d (fun w' t v => TR w' w.heap.size w'.heap.size t v) (qJ c.L i)) := by
 have N := ze h; have K := ze h.low; have hb := h.lt; clear h
 go_enter Tryz.func179,Tryz.ntmps179
 go_wp2_with fail; go_at_call 137; refine (yb c _ i d qE _ rfl (by decide) (PS.alloc N.out _)).mono ?_; rintro e M ⟨O,z,s,rfl,m,A,Q⟩; have n : qJ c.L i = _ := P.bind_ok s; have B : w.grownBy M (some c.pb) := za (zf (zc w (some c.pb)) _) m; have R := m.size
 try simp at R
 have k : RB M w.heap.size := RB.keep (RB.new' (by simp)) m (by omega); have C := k.lt; obtain ⟨_,_,_,_,_,_,_,_,_,_,_⟩ := id k; cases O
 ·have hj := jT s
  go_wp2_with fail; go_at_call 87; refine (zI c _ z d 0 A).mono ?_; rintro e l ⟨rfl,f⟩; have D : PS c l z d := PS.kept A f; have E : w.grownBy l (some c.pb) := za B (zv f (some c.pb)); have F := f.size
  try simp at F
  have g : RB l w.heap.size := RB.kept k f (by simp); have o := g.lt; obtain ⟨_,_,_,_,_,_,_,_,_,_,_⟩ := id g; go_wp2; refine zj Tryz.results179 rfl (RB.five ?_) rfl ?_
  ·exact g
  refine Steps.ok (a := (T.mk 0 [] 0 (pos c.L i) [])) n ⟨_,rfl,?_⟩ ?_ ?_ (by omega)
  ·exact LR.nil _ _
  ·exact zy E (by omega)
  ·exact PS.p5 D K.out (by omega)
 ·go_wp2_with fail
  go_at_call 177; refine (yF c _ z d A).mono ?_; rintro e l (⟨x2,r,u,f⟩ | ⟨⟨U,V,X,Y,x⟩,j2,v2,r,rfl,⟨Z,rfl,j⟩,f,D,a0⟩)
  ·obtain ⟨q,rfl,-⟩ := id u; exact ⟨rfl,Steps.err (n.trans r) u B f⟩
  have G : qJ c.L i = _ := n.trans r; simp only [T.kind,T.name,T.num,T.at',T.subs] at j ⊢; obtain ⟨H,I,rfl⟩ := j.form; obtain ⟨b2,J,j⟩ : ∃ b,b = _ /\ LR l (In b l.heap.size) x (.slice H x.length I) := ⟨_,rfl,j⟩
  try simp at J
  have E : w.grownBy l (some c.pb) := za B f; have F := f.size
  try simp at F
  have g : RB l w.heap.size := RB.keep k f (by omega); have o := g.lt; obtain ⟨_,_,_,_,_,_,_,_,_,_,_⟩ := id g; go_wp2; refine zj Tryz.results179 rfl (RB.five ?_) rfl ?_
  ·exact g
  refine Steps.ok (a := (T.mk U V X Y x)) G ⟨_,rfl,?_⟩ ?_ ?_ (by omega)
  ·refine LR.wide (lo := b2) (hi := l.heap.size) (ts := x) ?_ (by omega) (by first | omega | (simp <;> omega))
   exact LR.p5 j (by omega)
  ·exact zy E (by omega)
  ·exact PS.p5 D K.out (by omega)
theorem vp (c : PC) (w : World) (i d : Nat) (k : List UInt8) (sb : ByteArray) (hsb : sb.data.toList = k) (hk : k ≠ []) (g : Nat) (p : P T) (h : PS c w i d) (hp : Part c d (fun _ => True) g #[.pointer (some ⟨c.pb,0,none⟩)] p) :
  Calls Tryz.prog 91 #[.pointer (some ⟨c.pb,0,none⟩),.string sb,.func (.func g) #[.pointer (some ⟨c.pb,0,none⟩)] #[]] w (Steps c w i d (fun w' t v => TR w' w.heap.size w'.heap.size t v) (vC c.L k p i)) := by
 have V := ze h; have E := ze h.low; have hb := h.lt; clear h
 go_enter Tryz.func91,Tryz.ntmps91
 go_wp2_with fail; go_at_call 87; refine (zI c _ i d 1 (PS.alloc V.out _)).mono ?_; rintro e A ⟨rfl,j⟩; have Z : PS c A i d := PS.kept (PS.alloc V.out _) j; have G1 : w.grownBy A (some c.pb) := za (zf (zc w (some c.pb)) _) (zv j (some c.pb)); have s1 := j.size
 try simp at s1
 have o : RB A w.heap.size := RB.kept (RB.new' (by simp)) j (by simp); have F := o.lt; obtain ⟨_,_,_,_,_,_,_,_,_,_,_⟩ := id o; go_wp2_with fail; go_at_call 137; refine (yb c _ i d k _ hsb hk (PS.alloc Z _)).mono ?_; rintro e G ⟨b2,j2,H,rfl,l,X,a0⟩; have r : vC c.L k p i = _ := P.bind_ok H; have I : w.grownBy G (some c.pb) := za (zf G1 _) l; have s2 := l.size
 try simp at s2
 have m : RB G w.heap.size := RB.keep (RB.alloc o _) l (by omega); have s : NB G A.heap.size (.int .i64 1) (.string ⟨#[]⟩) (.int .i64 0) (.int .i64 (pos c.L i)) (.slice none 0 0) := NB.keep (NB.new' (by simp)) l (by omega); have J := m.lt; have K := s.lt; obtain ⟨_,_,_,_,_,_,_,_,_,_,_⟩ := id m; obtain ⟨_,_,_,_,_,_⟩ := id s; cases b2
 ·go_wp2
  refine zj Tryz.results91 rfl (RB.five ?_) rfl ?_
  ·exact m
  refine Steps.ok (a := (T.mk 1 [] 0 (pos c.L i) [])) r ⟨_,rfl,?_⟩ ?_ ?_ (by omega)
  ·exact LR.nil _ _
  ·exact zy I (by omega)
  ·exact PS.p5 X E.out (by omega)
 ·go_wp2_with fail
  go_at_call 143; refine (xB c _ j2 d g p X hp).mono ?_; rintro e z (⟨x3,u,B,f⟩ | ⟨D,j3,v3,u,rfl,⟨n,Y⟩,f,p3,a1⟩)
  ·obtain ⟨q,rfl,-⟩ := id B; exact ⟨rfl,Steps.err (r.trans (P.bind_err u)) B I f⟩
  have M : vC c.L k p i = _ := r.trans (P.bind_ok u); obtain ⟨N,O,rfl⟩ := n.form; obtain ⟨b3,Q,n⟩ : ∃ b,b = _ /\ LR z (In b z.heap.size) D (.slice N D.length O) := ⟨_,rfl,n⟩
  try simp at Q
  have G3 : w.grownBy z (some c.pb) := za I f; have s3 := f.size
  try simp at s3
  have x : RB z w.heap.size := RB.keep m f (by omega); have C : NB z A.heap.size (.int .i64 1) (.string ⟨#[]⟩) (.int .i64 0) (.int .i64 (pos c.L i)) (.slice none 0 0) := NB.keep s f (by omega); have R := x.lt; have U := C.lt; obtain ⟨_,_,_,_,_,_,_,_,_,_,_⟩ := id x; obtain ⟨_,_,_,_,_,_⟩ := id C; go_wp2; refine zj Tryz.results91 rfl (RB.five ?_) rfl ?_
  ·exact RB.put x _ _ _
  refine Steps.ok (a := (T.mk 1 [] 0 (pos c.L i) D)) M ⟨_,rfl,?_⟩ ?_ ?_ (by omega)
  ·refine LR.wide (lo := b3) (hi := z.heap.size) (ts := D) ?_ (by omega) (by first | omega | (simp <;> omega))
   exact LR.p5 (LR.put n (by omega) _ _) (by omega)
  ·exact zy (zq G3 (by omega) _ _) (by omega)
  ·exact PS.p5 (PS.put p3 E.out (by omega) _ _) E.out (by omega)
theorem qj (c : PC) (w : World) (i d : Nat) (h : PS c w i d) (hp : Part c d (fun _ => True) 205 #[.pointer (some ⟨c.pb,0,none⟩)] (yU c.L)) :
  Calls Tryz.prog 178 #[.pointer (some ⟨c.pb,0,none⟩)] w (Steps c w i d (fun w' t v => TR w' w.heap.size w'.heap.size t v) (xw c.L i)) := by
 have V := ze h; have F := ze h.low; have hb := h.lt; clear h
 go_enter Tryz.func178,Tryz.ntmps178
 go_wp2_with fail; go_at_call 87; refine (zI c _ i d 1 (PS.alloc V.out _)).mono ?_; rintro e x ⟨rfl,j⟩; have X : PS c x i d := PS.kept (PS.alloc V.out _) j; have G1 : w.grownBy x (some c.pb) := za (zf (zc w (some c.pb)) _) (zv j (some c.pb)); have s1 := j.size
 try simp at s1
 have n : RB x w.heap.size := RB.kept (RB.new' (by simp)) j (by simp); have G := n.lt; obtain ⟨_,_,_,_,_,_,_,_,_,_,_⟩ := id n; go_wp2_with fail; go_at_call 68; refine (yR c _ i d (PS.alloc X _)).mono ?_; rintro e C ⟨rfl,g⟩; have Y : PS c C i d := PS.kept (PS.alloc X _) g; have H : w.grownBy C (some c.pb) := za (zf G1 _) (zv g (some c.pb)); have s2 := g.size
 try simp at s2
 have k : RB C w.heap.size := RB.kept (RB.alloc n _) g (by simp); have o : NB C x.heap.size (.int .i64 1) (.string ⟨#[]⟩) (.int .i64 0) (.int .i64 (pos c.L i)) (.slice none 0 0) := NB.kept (NB.new' (by simp)) g (by simp); have I := k.lt; have J := o.lt; obtain ⟨_,_,_,_,_,_,_,_,_,_,_⟩ := id k; obtain ⟨_,_,_,_,_,_⟩ := id o
 by_cases D : wd c.L i = xy
 ·have K : (wd c.L i == [40]) = true := by rw [D]; decide
  have m : xw c.L i = _ := if_pos D; go_wp2_with fail; go_at_call 204; refine (jc c _ i d 205 (yU c.L) yy _ rfl (by decide) Y hp).mono ?_; rintro e u (⟨x3,r,z,f⟩ | ⟨E,j3,v3,r,rfl,⟨l,Z⟩,f,p3,a0⟩)
  ·obtain ⟨q,rfl,-⟩ := id z; exact ⟨rfl,Steps.err (m.trans (P.bind_err r)) z H f⟩
  have M : xw c.L i = _ := m.trans (P.bind_ok r); obtain ⟨N,O,rfl⟩ := l.form; obtain ⟨b3,Q,l⟩ : ∃ b,b = _ /\ LR u (In b u.heap.size) E (.slice N E.length O) := ⟨_,rfl,l⟩
  try simp at Q
  have G3 : w.grownBy u (some c.pb) := za H f; have s3 := f.size
  try simp at s3
  have s : RB u w.heap.size := RB.keep k f (by omega); have A : NB u x.heap.size (.int .i64 1) (.string ⟨#[]⟩) (.int .i64 0) (.int .i64 (pos c.L i)) (.slice none 0 0) := NB.keep o f (by omega); have R := s.lt; have U := A.lt; obtain ⟨_,_,_,_,_,_,_,_,_,_,_⟩ := id s; obtain ⟨_,_,_,_,_,_⟩ := id A; go_wp2; refine zj Tryz.results178 rfl (RB.five ?_) rfl ?_
  ·exact RB.put s _ _ _
  refine Steps.ok (a := (T.mk 1 [] 0 (pos c.L i) E)) M ⟨_,rfl,?_⟩ ?_ ?_ (by omega)
  ·refine LR.wide (lo := b3) (hi := u.heap.size) (ts := E) ?_ (by omega) (by first | omega | (simp <;> omega))
   exact LR.p5 (LR.put l (by omega) _ _) (by omega)
  ·exact zy (zq G3 (by omega) _ _) (by omega)
  ·exact PS.p5 (PS.put p3 F.out (by omega) _ _) F.out (by omega)
 ·have K : (wd c.L i == [40]) = false := by simpa [xy] using D
  have B : xw c.L i = _ := if_neg D; go_wp2; refine zj Tryz.results178 rfl (RB.five ?_) rfl ?_
  ·exact k
  refine Steps.ok (a := (T.mk 1 [] 0 (pos c.L i) [])) B ⟨_,rfl,?_⟩ ?_ ?_ (by omega)
  ·exact LR.nil _ _
  ·exact zy H (by omega)
  ·exact PS.p5 Y F.out (by omega)
end Go.Proofs.YtnmkffjklpfflaaGreatDoor
