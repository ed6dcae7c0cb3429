/- The reader's small parts: a node,a name with its node,numbers. -/
import Derived.Test.YtnmkffjklpfflaaGreatDoorG07
namespace Go.Proofs.YtnmkffjklpfflaaGreatDoor
open Go.RowKit
set_option maxHeartbeats 400000
set_option maxRecDepth 100000
theorem zI (c : PC) (w : World) (i d : Nat) (k : Int) (h : PS c w i d) :
  Calls Tryz.prog 87 #[.pointer (some ⟨c.pb,0,none⟩),.int .i64 k] w fun e w' => e = .returned (.agg #[.int .i64 k,.string ⟨#[]⟩,.int .i64 0,.int .i64 (pos c.L i),.slice none 0 0]) /\ w.grownBy w' none := by
 have b := ze h; clear h
 go_enter Tryz.func87,Tryz.ntmps87
 go_wp2_with (go_at_call 136; refine (rI c _ i d (b.out.alloc _)).mono ?_; rintro e f ⟨rfl,m,rfl⟩)
 exact zj Tryz.results87 rfl ((NB.new w _).drewN m).put5 rfl ⟨rfl,mq (zo (zf (zc _ _) _) _) (Nat.le_refl _) _ _ _ _ _⟩
theorem vF (c : PC) (w : World) (i d : Nat) (k : Int) (h : PS c w i d) :
  Calls Tryz.prog 142 #[.pointer (some ⟨c.pb,0,none⟩),.int .i64 k] w (Steps c w i d (fun w' t v => TR w' w.heap.size w'.heap.size t v) (vh c.L k i)) := by
 have m := ze h; have n := ze h.low; have K := h.lt; clear h
 go_enter Tryz.func142,Tryz.ntmps142
 go_wp2_with fail; go_at_call 87; refine (zI c _ i d k (PS.alloc m.out _)).mono ?_; rintro e f ⟨rfl,b⟩; have o : w.grownBy f (some c.pb) := za (zf (zc w (some c.pb)) _) (zv b (some c.pb)); have A := b.size
 simp at A
 have B : PS c f i d := PS.kept (PS.alloc m.out _) b; have C : RB f w.heap.size := RB.kept (RB.new w _) b (by simp); go_wp2_with fail; go_at_call 89; refine (vq c _ i d (PS.alloc B _)).mono ?_; rintro e r (⟨x,g,u,b⟩ | ⟨s,j,v,g,rfl,⟨rfl,D,E⟩,b,F,l⟩)
 ·have G := u
  obtain ⟨q,rfl,-⟩ := u
  exact ⟨rfl,Steps.err (P.bind_err g) G (zf o _) b⟩
 have H : w.grownBy r (some c.pb) := za (zf o _) b; have I := b.size
 simp at I
 have z : RB r w.heap.size := RB.kept (RB.alloc C _) b (by simp; omega); have J := NB.kept (NB.new f 100) b (by simp; omega); obtain ⟨_,_,_,_,_,_,_,_,_,_,_⟩ := id z; obtain ⟨_,_,_,_,_,_⟩ := id J; go_wp2; refine zj Tryz.results142 rfl (RB.five ?_) rfl ?_
 ·exact RB.put z _ _ _
 exact Steps.ok (P.bind_ok g) ⟨_,rfl,LR.nil _ _⟩ (zy (zq H (by omega) _ _) (by omega)) (PS.p5 (PS.put F n.out (by omega) _ _) n.out (by omega)) l
theorem vd (c : PC) (w : World) (i d : Nat) (k : Int) (h : PS c w i d) :
  Calls Tryz.prog 144 #[.pointer (some ⟨c.pb,0,none⟩),.int .i64 k] w (Steps c w i d (fun w' t v => TR w' w.heap.size w'.heap.size t v) (yT c.L k i)) := by
 have V := ze h; have D := ze h.low; have hb := h.lt; clear h
 go_enter Tryz.func144,Tryz.ntmps144
 go_wp2_with fail; go_at_call 142; refine (vF c _ i d k (PS.alloc V.out _)).mono ?_; rintro e n (⟨x1,o,x,f⟩ | ⟨⟨E,F,Q,G,l⟩,X,v1,o,rfl,⟨Y,rfl,g⟩,f,Z,a0⟩)
 ·obtain ⟨q,rfl,-⟩ := id x; exact ⟨rfl,Steps.err (P.bind_err o) x (zf (zc w (some c.pb)) _) f⟩
 have H : yT c.L k i = _ := P.bind_ok o; simp only [T.kind,T.name,T.num,T.at',T.subs] at g ⊢; obtain ⟨r,s,rfl⟩ := g.form; obtain ⟨I,J,g⟩ : ∃ b,b = _ /\ LR n (In b n.heap.size) l (.slice r l.length s) := ⟨_,rfl,g⟩
 try simp at J
 have G1 : w.grownBy n (some c.pb) := za (zf (zc w (some c.pb)) _) f; have s1 := f.size
 try simp at s1
 have u : RB n w.heap.size := RB.keep (RB.new' (by simp)) f (by omega); have K := u.lt; obtain ⟨_,_,_,_,_,_,_,_,_,_,_⟩ := id u; go_wp2_with fail; go_at_call 137; refine (yb c _ X d gt _ rfl (by decide) (PS.alloc Z _)).mono ?_; rintro e C ⟨b2,j2,M,rfl,j,R,a1⟩; have z : yT c.L k i = _ := H.trans (P.bind_ok M); have U : w.grownBy C (some c.pb) := za (zf G1 _) j; have s2 := j.size
 try simp at s2
 have m : RB C w.heap.size := RB.keep (RB.alloc u _) j (by omega); have A : NB C n.heap.size (.int .i64 E) (.string ⟨F.toArray⟩) (.int .i64 Q) (.int .i64 G) (.slice r l.length s) := NB.keep (NB.new' (by simp)) j (by omega); have B : LR C (In I n.heap.size) l (.slice r l.length s) := LR.call (LR.alloc g _) j (by omega); have N := m.lt; have O := A.lt; obtain ⟨_,_,_,_,_,_,_,_,_,_,_⟩ := id m; obtain ⟨_,_,_,_,_,_⟩ := id A; cases b2
 ·go_wp2
  refine zj Tryz.results144 rfl (RB.five ?_) rfl ?_
  ·exact m
  refine Steps.ok (a := (T.mk E F Q G l)) z ⟨_,rfl,?_⟩ ?_ ?_ (by omega)
  ·refine LR.wide (lo := I) (hi := n.heap.size) (ts := l) ?_ (by omega) (by first | omega | (simp <;> omega))
   exact LR.p5 B (by omega)
  ·exact zy U (by omega)
  ·exact PS.p5 R D.out (by omega)
 ·go_wp2
  refine zj Tryz.results144 rfl (RB.five ?_) rfl ?_
  ·exact RB.put m _ _ _
  refine Steps.ok (a := (T.mk E F 1 G l)) z ⟨_,rfl,?_⟩ ?_ ?_ (by omega)
  ·refine LR.wide (lo := I) (hi := n.heap.size) (ts := l) ?_ (by omega) (by first | omega | (simp <;> omega))
   exact LR.p5 (LR.put B (by omega) _ _) (by omega)
  ·exact zy (zq U (by omega) _ _) (by omega)
  ·exact PS.p5 (PS.put R D.out (by omega) _ _) D.out (by omega)
theorem yF (c : PC) (w : World) (i d : Nat) (h : PS c w i d) :
  Calls Tryz.prog 177 #[.pointer (some ⟨c.pb,0,none⟩)] w (Steps c w i d (fun w' t v => TR w' w.heap.size w'.heap.size t v) (yf c.L i)) := by
 have HP := ze h; have K := ze h.low; have hb := h.lt; clear h
 go_enter Tryz.func177,Tryz.ntmps177
 go_wp2_with fail; go_at_call 142; refine (vF c _ i d 13 (PS.alloc HP.out _)).mono ?_; rintro e m (⟨x1,x,F,g⟩ | ⟨⟨M,z,N,u,n⟩,j1,v1,x,rfl,⟨a5,rfl,j⟩,g,p1,a6⟩)
 ·obtain ⟨q,rfl,-⟩ := id F; exact ⟨rfl,Steps.err (P.bind_err x) F (zf (zc w (some c.pb)) _) g⟩
 have O : yf c.L i = _ := P.bind_ok x; simp only [T.kind,T.name,T.num,T.at',T.subs] at j ⊢; obtain ⟨o,r,rfl⟩ := j.form; obtain ⟨Q,R,j⟩ : ∃ b,b = _ /\ LR m (In b m.heap.size) n (.slice o n.length r) := ⟨_,rfl,j⟩
 try simp at R
 have G1 : w.grownBy m (some c.pb) := za (zf (zc w (some c.pb)) _) g; have s1 := g.size
 try simp at s1
 have A : RB m w.heap.size := RB.keep (RB.new' (by simp)) g (by omega); have U := A.lt; obtain ⟨_,_,_,_,_,_,_,_,_,_,_⟩ := id A; go_wp2_with fail; go_at_call 137; refine (yb c _ j1 d jv _ rfl (by decide) (PS.alloc p1 _)).mono ?_; rintro e l ⟨b2,j2,V,rfl,k,p2,a7⟩; have B : yf c.L i = _ := O.trans (P.bind_ok V); have X : w.grownBy l (some c.pb) := za (zf G1 _) k; have s2 := k.size
 try simp at s2
 have s : RB l w.heap.size := RB.keep (RB.alloc A _) k (by omega); have C : NB l m.heap.size (.int .i64 M) (.string ⟨z.toArray⟩) (.int .i64 N) (.int .i64 u) (.slice o n.length r) := NB.keep (NB.new' (by simp)) k (by omega); have G : LR l (In Q m.heap.size) n (.slice o n.length r) := LR.call (LR.alloc j _) k (by omega); have Y := s.lt; have Z := C.lt; obtain ⟨_,_,_,_,_,_,_,_,_,_,_⟩ := id s; obtain ⟨_,_,_,_,_,_⟩ := id C; cases b2
 ·go_wp2
  refine zj Tryz.results177 rfl (RB.five ?_) rfl ?_
  ·exact s
  refine Steps.ok (a := (T.mk M z N u n)) B ⟨_,rfl,?_⟩ ?_ ?_ (by omega)
  ·refine LR.wide (lo := Q) (hi := m.heap.size) (ts := n) ?_ (by omega) (by first | omega | (simp <;> omega))
   exact LR.p5 G (by omega)
  ·exact zy X (by omega)
  ·exact PS.p5 p2 K.out (by omega)
 ·go_wp2_with fail
  go_at_call 89; refine (vq c _ j2 d (PS.alloc (PS.put p2 K.out (by omega) _ _) _)).mono ?_; rintro e H (⟨x3,D,I,f⟩ | ⟨a3,j3,v3,D,rfl,⟨rfl,a8,a9⟩,f,p3,b0⟩)
  ·obtain ⟨q,rfl,-⟩ := id I; exact ⟨rfl,Steps.err (B.trans (P.bind_err D)) I (zf (zq X (by omega) _ _) _) f⟩
  have a0 : yf c.L i = _ := B.trans (P.bind_ok D); have G3 : w.grownBy H (some c.pb) := za (zf (zq X (by omega) _ _) _) f; have s3 := f.size
  try simp at s3
  have E : RB H w.heap.size := RB.keep (RB.alloc (RB.put s _ _ _) _) f (by omega); have J : NB H m.heap.size (.int .i64 M) (.string ⟨z.toArray⟩) (.int .i64 N) (.int .i64 u) (.slice (some ⟨l.heap.size,0,none⟩) 1 1) := NB.keep (NB.alloc (NB.s4 C _) _) f (by omega); have b3 : LR H (In Q m.heap.size) n (.slice o n.length r) := LR.call (LR.alloc (LR.put G (by omega) _ _) _) f (by omega); have a1 : LR H (In l.heap.size (l.heap.size + 1)) ([(T.mk 24 z 0 u [])]) (.slice (some ⟨l.heap.size,0,none⟩) 1 1) := LR.call (LR.build1 _ (t := (T.mk 24 z 0 u [])) (sv := .slice none 0 0) (LR.nil _ _) (by simp) rfl (by omega)) f (by omega); have a2 := E.lt; have a4 := J.lt; obtain ⟨_,_,_,_,_,_,_,_,_,_,_⟩ := id E; obtain ⟨_,_,_,_,_,_⟩ := id J; go_wp2; refine zj Tryz.results177 rfl (RB.five ?_) rfl ?_
  ·exact RB.put E _ _ _
  refine Steps.ok (a := (T.mk M a3 N u [(T.mk 24 z 0 u [])])) a0 ⟨_,rfl,?_⟩ ?_ ?_ (by omega)
  ·refine LR.wide (lo := l.heap.size) (hi := l.heap.size + 1) (ts := [(T.mk 24 z 0 u [])]) ?_ (by omega) (by first | omega | (simp <;> omega))
   exact LR.p5 (LR.put a1 (by omega) _ _) (by omega)
  ·exact zy (zq G3 (by omega) _ _) (by omega)
  ·exact PS.p5 (PS.put p3 K.out (by omega) _ _) K.out (by omega)
theorem vy (c : PC) (w : World) (i d : Nat) (t : T) (lo hi : Nat) (v : Value) (h : PS c w i d) (ht : TR w lo hi t v) :
  Calls Tryz.prog 147 #[.pointer (some ⟨c.pb,0,none⟩),v] w (Steps c w i d (fun w' t v => TR w' w.heap.size w'.heap.size t v) (jO c.L t i)) := by
 have HP := ze h; have Y := ze h.low; have hb := h.lt; obtain ⟨u,x,z,A,H⟩ := t; obtain ⟨sv,rfl,lt⟩ := ht; obtain ⟨Z,cp,rfl⟩ := lt.form; simp only [T.kind,T.name,T.num,T.at',T.subs] at lt ⊢; clear lt; clear h
 go_enter Tryz.func147,Tryz.ntmps147
 go_wp2_with fail; go_at_call 88; refine (zx c _ i d qE _ rfl (by decide) (PS.alloc (PS.alloc HP.out _) _)).mono ?_; rintro e I (⟨x1,k,B,f⟩ | ⟨a1,j1,v1,k,rfl,-,f,p1,a0⟩)
 ·obtain ⟨q,rfl,-⟩ := id B; exact ⟨rfl,Steps.err (P.bind_err k) B (zf (zf (zc w (some c.pb)) _) _) f⟩
 have C : jO c.L (T.mk u x z A H) i = _ := P.bind_ok k; have G1 : w.grownBy I (some c.pb) := za (zf (zf (zc w (some c.pb)) _) _) f; have s1 := f.size
 try simp at s1
 have l : NB I w.heap.size (.int .i64 u) (.string ⟨x.toArray⟩) (.int .i64 z) (.int .i64 A) (.slice Z H.length cp) := NB.keep (NB.alloc (NB.new' (by simp)) _) f (by omega); have m : RB I (w.heap.size + 1) := RB.keep (RB.new' (by simp)) f (by omega); have J := m.lt; have K := l.lt; obtain ⟨_,_,_,_,_,_,_,_,_,_,_⟩ := id m; obtain ⟨_,_,_,_,_,_⟩ := id l; go_wp2_with fail; go_at_call 177; refine (yF c _ j1 d p1).mono ?_; rintro e n (⟨x2,o,D,g⟩ | ⟨⟨M,N,O,Q,r⟩,j2,v2,o,rfl,⟨a2,rfl,j⟩,g,p2,a3⟩)
 ·obtain ⟨q,rfl,-⟩ := id D; exact ⟨rfl,Steps.err (C.trans (P.bind_err o)) D G1 g⟩
 have R : jO c.L (T.mk u x z A H) i = _ := C.trans (P.bind_ok o); simp only [T.kind,T.name,T.num,T.at',T.subs] at j ⊢; obtain ⟨E,F,rfl⟩ := j.form; obtain ⟨b2,U,j⟩ : ∃ b,b = _ /\ LR n (In b n.heap.size) r (.slice E r.length F) := ⟨_,rfl,j⟩
 try simp at U
 have G2 : w.grownBy n (some c.pb) := za G1 g; have s2 := g.size
 try simp at s2
 have s : RB n (w.heap.size + 1) := RB.keep m g (by omega); have G : NB n w.heap.size (.int .i64 u) (.string ⟨x.toArray⟩) (.int .i64 z) (.int .i64 A) (.slice Z H.length cp) := NB.keep l g (by omega); have V := s.lt; have X := G.lt; obtain ⟨_,_,_,_,_,_,_,_,_,_,_⟩ := id s; obtain ⟨_,_,_,_,_,_⟩ := id G; go_wp2; refine zj Tryz.results147 rfl (NB.alloc (RB.five ?_) _) rfl ?_
 ·exact RB.put s _ _ _
 refine Steps.ok (a := (T.mk u x z A [(T.mk M N O Q r)])) R ⟨_,rfl,?_⟩ ?_ ?_ (by omega)
 ·refine LR.wide (lo := b2) (hi := n.heap.size + 1) (ts := [(T.mk M N O Q r)]) ?_ (by omega) (by first | omega | (simp <;> omega))
  exact (LR.build1 _ (t := (T.mk M N O Q r)) (sv := .slice E r.length F) (LR.wide (lo := b2) (hi := n.heap.size) (ts := r) (LR.p5 (LR.put j (by omega) _ _) (by omega)) (by omega) (by first | omega | (simp <;> omega))) (by simp) rfl (by omega))
 ·exact zf (zy (zq G2 (by omega) _ _) (by omega)) _
 ·exact PS.alloc (PS.p5 (PS.put p2 Y.out (by omega) _ _) Y.out (by omega)) _
def PartOK (c : PC) (d : Nat) (g : Nat) (p : P T) : Prop :=
 ∀ (w : World) (i : Nat),PS c w i d -> Calls Tryz.prog g #[.pointer (some ⟨c.pb,0,none⟩)] w (Steps c w i d (fun w' t v => TR w' w.heap.size w'.heap.size t v) (p i))
theorem xt (c : PC) (w : World) (i d : Nat) (g : Nat) (p : P T) (h : PS c w i d) (hd20 : d <= 20) (hp : d < 20 -> PartOK c (d + 1) g p) (hent : ∀ (args : Array Value) (w : World),(callFunc g args).run Tryz.prog w = .ok (.enter g args) w) :
  Calls Tryz.prog 172 #[.pointer (some ⟨c.pb,0,none⟩),.func (.func g) #[.pointer (some ⟨c.pb,0,none⟩)] #[]] w (Steps c w i d (fun w' t v => TR w' w.heap.size w'.heap.size t v) ((if d < 20 then p else vi c.L) i)) := by
 have A := ze h; have C := ze h.low; have V := h.lt; have D := h.deep; have c2 := h.c2; have z2 := h.z2; clear h
 by_cases u : d < 20
 ·rw [if_pos u]
  have E : decide ((20 : Int) < (d : Int) + 1) = false := by simp; omega
  go_enter Tryz.func172,Tryz.ntmps172
  go_wp2_with fail; refine (hp u _ i ((A.out.set2 _ (d + 1) (by simp) (by omega)).alloc _)).mono ?_; rintro e l (⟨X,m,j,f⟩ | ⟨⟨F,G,H,I,r⟩,Y,Z,m,rfl,⟨J,rfl,k⟩,f,s,K⟩)
  ·obtain ⟨q,rfl,-⟩ := id j; exact ⟨rfl,Steps.err m j (zf (zR (zc _ _) _ _) _) f⟩
  simp only [T.kind,T.name,T.num,T.at',T.subs] at k ⊢; obtain ⟨x,z,rfl⟩ := k.form; obtain ⟨M,o,k⟩ : ∃ b,b = _ /\ LR l (In b l.heap.size) r (.slice x r.length z) := ⟨_,rfl,k⟩
  try simp at o
  have N : w.grownBy l (some c.pb) := za (zf (zR (zc _ _) _ _) _) f; have O := f.size
  try simp at O
  have Q : l.cell? ⟨c.pb,2,none⟩ = some (.int .i64 ((d : Int) + 1)) := by have := s.c2; simpa using this
  have R := s.z2; have hb1 := s.lt; have n : RB l w.heap.size := RB.kept (RB.new' (by simp)) f (by simp; omega); have B := n.lt; obtain ⟨_,_,_,_,_,_,_,_,_,_,_⟩ := id n; go_wp2; refine zj Tryz.results172 rfl (NB.alloc (RB.five ?_) _) rfl ?_
  ·exact RB.put n _ _ _
  refine Steps.ok (a := T.mk F G H I r) m ⟨_,rfl,?_⟩ ?_ ?_ (by omega)
  ·refine LR.wide (ts := r) (hi := l.heap.size) (lo := M) ?_ (by omega) (by first | omega | (simp <;> omega))
   exact LR.alloc (LR.p5 (LR.put k (by omega) _ _) (by omega)) _
  ·exact zf (zy (zR N _ _) (by omega)) _
  ·exact PS.alloc (PS.p5 (s.set2 _ d (by simp) (by omega)) C.out (by omega)) _
 ·rw [if_neg u]
  have E : decide ((20 : Int) < (d : Int) + 1) = true := by simp; omega
  go_enter Tryz.func172,Tryz.ntmps172
  go_wp2_with fail; go_at_call 98; refine (vz c _ i (d + 1) 3 ((A.out.set2 _ (d + 1) (by simp) (by omega)).alloc _)).mono ?_; rintro e l ⟨j,f⟩; have U := j; obtain ⟨q,rfl,-⟩ := j
  exact ⟨rfl,Steps.err rfl U (zf (zR (zc _ _) _ _) _) (zv f _)⟩
theorem PS.own {c : PC} {w w' : World} {i d n : Nat} {row : Option Nat} (h : PS c w i d) (hl : Low c n) (hg : w.grownBy w' row) (hr : ∀ b,row = some b -> n <= b) : PS c w' i d where
 c0 := zC hg h.c0 (fun e => absurd (hr _ e.symm) (Nat.not_le.2 hl.pb))
 c1 := zC hg h.c1 (fun e => absurd (hr _ e.symm) (Nat.not_le.2 hl.pb))
 c2 := zC hg h.c2 (fun e => absurd (hr _ e.symm) (Nat.not_le.2 hl.pb))
 c3 := zC hg h.c3 (fun e => absurd (hr _ e.symm) (Nat.not_le.2 hl.pb))
 z1 := zV hg h.lt h.z1 (fun e => absurd (hr _ e.symm) (Nat.not_le.2 hl.pb))
 z2 := zV hg h.lt h.z2 (fun e => absurd (hr _ e.symm) (Nat.not_le.2 hl.pb))
 tk := fun j hj => ⟨zC hg (h.tk j hj).1 (fun e => absurd (hr _ e.symm) (Nat.not_le.2 hl.tb)),zC hg (h.tk j hj).2 (fun e => absurd (hr _ e.symm) (Nat.not_le.2 hl.tb))⟩
 lx := World.ownsMap.kept h.lx hg (fun e => absurd (hr _ e.symm) (Nat.not_le.2 hl.lb))
 n1 := h.n1
 n2 := h.n2
 il := h.il
 good := h.good
 deep := h.deep
theorem PS.atOf {c : PC} {w : World} {i d : Nat} (h : PS c w i d) : atOf w c.pb = i := by unfold Proofs.YtnmkffjklpfflaaGreatDoor.atOf; rw [h.c1]; simp [intOf]
theorem Tryz.infoNode : (Tryz.prog.info? 100).map (fun i => (i.zero,i.size,i.bytes)) = some (some (.agg #[.int .i64 0,.string ⟨#[]⟩,.int .i64 0,.int .i64 0,.slice none 0 0]),5,64) := by kernel_rfl
theorem LR.rows {w : World} {lo hi : Nat} {ts : List T} {v : Value} (h : LR w (In lo hi) ts v) : ∀ b,v.ownBlock = some b -> lo <= b /\ b < hi := by
 obtain ⟨_,_,_,h,_⟩ := h.own
 exact h
theorem hU : ∀ (ts : List T) (svs : List Value),svs.length = ts.length -> (∀ (i : Nat) (t : T) (sv : Value),ts[i]? = some t -> svs[i]? = some sv -> ∃ a c,sv = .slice a t.subs.length c) -> ∀ u ∈ xa ts svs,u.oneCell' = true
 | [],[],_,_,u,hu => by cases hu
 | t :: ts,sv :: svs,hl,hs,u,hu => by
  rcases List.mem_append.1 hu with h | h
  ·obtain ⟨a,c,rfl⟩ := hs 0 t sv rfl rfl
   simp only [headC,List.mem_cons,List.not_mem_nil,or_false] at h
   rcases h with rfl | rfl | rfl | rfl | rfl <;> rfl
  ·exact hU ts svs (by simpa using hl) (fun i t' sv' h1 h2 => hs (i + 1) t' sv' (by simpa using h1) (by simpa using h2)) u h
theorem kq {ops : Array Oper} {rest : List Oper} {o : Oper} {a : Act} {w : World} {Q : Exit -> Act -> World -> Prop} (hgd : o.guard = none) (s x : Operand)
  (ho : o.op = .call { callee := .builtin .append,args := #[s,x],argTypes := #[80,80] })
  {lo hi l2 hi2 g m c : Nat} {ts us : List T} {v : Value} (hs : a.eval s = v) (hx : a.eval x = .slice (some ⟨g,0,none⟩) m c) (hl : LR w (In lo hi) ts v) (hu : LR w (In l2 hi2) us (.slice (some ⟨g,0,none⟩) m c))
  (h1 : lo <= l2) (h2 : hi <= l2) (h3 : l2 <= w.heap.size) (h4 : hi2 <= w.heap.size) (hlen : ts.length + us.length <= 20000)
  (k : ∀ v' w',LR w' (In lo w'.heap.size) (ts ++ us) v' -> w.grownBy w' v.ownBlock -> wpList Tryz.prog ops Q rest (a.put o.dst v') w') : wpList Tryz.prog ops Q (o :: rest) a w := by
 obtain ⟨H,n,q,r,z⟩ := info_parts Tryz.infoNode; obtain ⟨A,B,own,C,j⟩ := hl.own; obtain ⟨l,h,d,_,e⟩ := hu.own
 have I : m = us.length := by
  rcases d.2 with ⟨D,_⟩ | ⟨_,_,_,D,_⟩
  ·cases D
  ·cases D; rfl
 subst I; refine wpList_append_own_at w hgd s x 80 ho 0 100 H _ 5 64 Tryz.underlying80 n q r z rfl (by decide) v ts.length (xa ts A) hs own ⟨g,0,none⟩ us.length c (xa us l) hx
  (yk _ _ h) (d.cells rfl) ?_ (by unfold maxLen; omega) (by omega) (Nat.zero_le _) ?_
 ·intro u E
  exact hU us l h (fun i t sv ht hsv => (e i t sv ht hsv).form) u E
 ·intro v' w' f F _ G
  refine k v' w' (LR.append C B j h (fun i t sv ht hsv => (e i t sv ht hsv).mono (fun k hk => hk.1)) h1 h2 h3 h4 F.size (fun b hb => (f.lt b hb).2) f F rfl G) F
set_option maxHeartbeats 1000000
structure Part (c : PC) (d : Nat) (Inv : World -> Prop) (g : Nat) (av : Array Value) (p : P T) : Prop where
 call : ∀ (w : World) (i : Nat),PS c w i d -> Inv w -> Calls Tryz.prog g av w (Steps c w i d (fun w' t v => TR w' w.heap.size w'.heap.size t v) (p i))
 inv : ∀ w w',Inv w -> w.grownBy w' (some c.pb) -> Inv w'
 ent : ∀ (args : Array Value) (w : World),(callFunc g args).run Tryz.prog w = .ok (.enter g args) w
theorem gI {L : List Tok} {p : P T} {sep : List UInt8} {f j : Nat} {acc : List T} (h : yu L sep j = .ok (false,j)) (hf : 0 < f) : xd L p sep f acc j = .ok (acc,j) := by
 obtain ⟨b,rfl⟩ : ∃ b,f = b + 1 := ⟨f - 1,by omega⟩
 exact P.bind_ok h
theorem uI {L : List Tok} {p : P T} {sep : List UInt8} {f j j2 : Nat} {acc : List T} (h : yu L sep j = .ok (true,j2)) (hf : 0 < f) : xd L p sep f acc j = (p.bind fun t => xd L p sep (f - 1) (acc ++ [t])) j2 := by
 obtain ⟨b,rfl⟩ : ∃ b,f = b + 1 := ⟨f - 1,by omega⟩
 exact P.bind_ok h
theorem jT {L : List Tok} {x : List UInt8} {i j : Nat} (h : yu L x i = .ok (false,j)) : j = i := by
 unfold yu at h
 split at h
 ·cases h
 ·cases h; rfl
theorem qZ {L : List Tok} {x : List UInt8} {i j : Nat} (h : yu L x i = .ok (true,j)) : j = i + 1 := by
 unfold yu at h
 split at h
 ·cases h; rfl
 ·cases h
structure SI (c : PC) (w : World) (i d : Nat) (r : Except (Int × Int) (List T × Nat)) (q : Nat -> List T -> P (List T)) (v : Value) (wr : World) (acc : List T) (j f lo : Nat) : Prop where
 lr : LR wr (In lo wr.heap.size) acc v
 ps : PS c wr j d
 gb : w.grownBy wr (some c.pb)
 same : r = q f acc j
 fuel : c.L.length <= f + j
 len : acc.length + f <= c.L.length + 1
 le : i <= j
 low : w.heap.size <= lo
 low2 : lo <= wr.heap.size
theorem jU (c : PC) (w : World) (i d : Nat) (Inv : World -> Prop) (g : Nat) (fa ca : Array Value) (p : P T) (sep : List UInt8) (sb : ByteArray) (hsb : sb.data.toList = sep) (hsep : sep ≠ []) (h : PS c w i d) (hI : Inv w) (hp : Part c d Inv g (fa ++ ca) p) :
  Calls Tryz.prog 140 #[.pointer (some ⟨c.pb,0,none⟩),.func (.func g) fa ca,.string sb] w (Steps c w i d (fun w' ts v => LR w' (In w.heap.size w'.heap.size) ts v /\ ts.length <= 5001) (vA c.L p sep i)) := by
 have HP := ze h; have HL := ze h.low; have Y := h.lt; have a3 := h.good.few; have a4 := hp.ent; have z := ze hp; have HI := ze hI; clear h hp hI
 go_enter Tryz.func140,Tryz.ntmps140
 go_wp2_with fail; refine (z.out.call _ i HP.out HI.out).mono ?_; rintro e w1 (⟨x1,o,I,k⟩ | ⟨⟨Z,n1,m1,q1,J⟩,j1,v1,o,rfl,⟨a7,rfl,s⟩,k,p1,K⟩)
 ·obtain ⟨q,rfl,-⟩ := id I; exact ⟨rfl,Steps.err (P.bind_err o) I (zc _ _) k⟩
 simp only [T.kind,T.name,T.num,T.at',T.subs] at s ⊢; obtain ⟨A,B,rfl⟩ := s.form; have M : vA c.L p sep i = _ := P.bind_ok o; have s1 := k.size
 have S0 := ze (SI.mk (c := c) (w := w) (i := i) (d := d) (r := vA c.L p sep i) (q := xd c.L p sep) (f := c.L.length) (j := j1) (acc := [T.mk Z n1 m1 q1 J]) (lo := w.heap.size)
  (wr := w1.alloc (.cells #[.int .i64 Z,.string ⟨n1.toArray⟩,.int .i64 m1,.int .i64 q1,.slice A J.length B] 100)) (v := .slice (some ⟨w1.heap.size,0,none⟩) 1 1)
  (LR.wide (LR.build1 w1 (cs := #[.int .i64 Z,.string ⟨n1.toArray⟩,.int .i64 m1,.int .i64 q1,.slice A J.length B]) (t := T.mk Z n1 m1 q1 J) (sv := .slice A J.length B) s rfl rfl s1) (Nat.le_refl _) (by simp)) (p1.alloc _) (zf k _) M (by omega) (by simp only [List.length_singleton]; omega) K (Nat.le_refl _) (by simp; omega))
 clear s p1 k M o K s1; go_wp2_with fail
 go_loopw [7] (fun v wr => ∃ acc j f lo,Hid (SI c w i d (vA c.L p sep i) (xd c.L p sep) v wr acc j f lo)) (fun _ wr => c.L.length - atOf wr c.pb)
 case atStart => exact ⟨_,_,_,_,S0⟩
 case round =>
  obtain ⟨acc,j,f,lo,HS⟩ := hrel; clear S0; have hI := HS.out; have N := hI.ps; have O := hI.low; have a5 := hI.low2; have a6 := hI.len; have a8 := hI.fuel; have a9 := hI.le; have b0 := hI.ps.il; obtain ⟨ad,cp,rfl⟩ := hI.lr.form; have a0 := ze hI.lr; have HG := ze hI.gb; have C := ze hI.same; have Q := ze N; clear hI HS N; go_wp2_with fail; go_at_call 137; refine (yb c _ j d sep _ hsb hsep Q.out).mono ?_; rintro e w2 ⟨b2,j2,l,rfl,D,p2,b1⟩; have s2 := D.size; have G2 : w.grownBy w2 (some c.pb) := za HG.out D; have m : LR w2 (In lo wr.heap.size) acc (.slice ad acc.length cp) := a0.out.call D (by omega); cases b2
  ·have hj := jT l
   subst hj; go_wp2
   go_ret
   exact Steps.ok (C.out.trans (gI l (by omega))) ⟨m.wide O s2,by omega⟩ G2 p2 (by omega)
  ·have hj := qZ l
   go_wp2_with fail; refine (z.out.call _ j2 p2 (z.out.inv _ _ HI.out G2)).mono ?_; rintro e w3 (⟨x3,E,R,n⟩ | ⟨⟨k3,n3,m3,q3,l3⟩,j3,v3,E,rfl,⟨b3,rfl,u⟩,n,p3,b4⟩)
   ·obtain ⟨q,rfl,-⟩ := id R; exact ⟨rfl,Steps.err ((C.out.trans (uI l (by omega))).trans (P.bind_err E)) R G2 n⟩
   simp only [T.kind,T.name,T.num,T.at',T.subs] at u ⊢; obtain ⟨F,G,rfl⟩ := u.form; have s3 := n.size; have G3 : w.grownBy w3 (some c.pb) := za G2 n; have m : LR w3 (In lo wr.heap.size) acc (.slice ad acc.length cp) := m.call n (by omega); have U := LR.build1 w3 (cs := #[.int .i64 k3,.string ⟨n3.toArray⟩,.int .i64 m3,.int .i64 q3,.slice F l3.length G]) (t := T.mk k3 n3 m3 q3 l3) (sv := .slice F l3.length G) u rfl rfl s3; have V : vA c.L p sep i = _ := (C.out.trans (uI l (by omega))).trans (P.bind_ok E); have X := ze (m.alloc (.cells #[.int .i64 k3,.string ⟨n3.toArray⟩,.int .i64 m3,.int .i64 q3,.slice F l3.length G] 100)); have a1 := ze U; have b5 := p3.il; clear m u U
   go_wp2_with (at_builtin; refine kq rfl _ _ rfl rfl rfl X.out a1.out (by omega) (by omega) (by simp; omega) (by simp) (by simp; omega) ?_; intro v5 w5 a2 H)
   have x := X.out.rows; have p5 : PS c w5 j3 d := PS.own (p3.alloc _) HL.out H (fun b Y => by have := x b Y; omega); have G5 : w.grownBy w5 (some c.pb) := yX (zf G3 _) H (fun b Y => by have := x b Y; omega); have s5 := H.size
   simp at s5
   refine ⟨⟨_,j3,f - 1,lo,SI.mk a2 p5 G5 V (by omega) (by simp only [List.length_append,List.length_singleton]; omega) (by omega) O (by omega)⟩,?_⟩; rw [p5.atOf,Q.out.atOf]
   omega
theorem jc (c : PC) (w : World) (i d : Nat) (g : Nat) (p : P T) (sep : List UInt8) (sb : ByteArray) (hsb : sb.data.toList = sep) (hsep : sep ≠ []) (h : PS c w i d) (hp : Part c d (fun _ => True) g #[.pointer (some ⟨c.pb,0,none⟩)] p) :
  Calls Tryz.prog 204 #[.pointer (some ⟨c.pb,0,none⟩),.func (.func g) #[.pointer (some ⟨c.pb,0,none⟩)] #[],.string sb] w (Steps c w i d (fun w' ts v => LR w' (In w.heap.size w'.heap.size) ts v /\ ts.length <= 5001) (xr c.L p sep i)) := by
 have I := ze h; have HL := ze h.low; have hb := h.lt; have z := ze hp; clear h hp
 go_enter Tryz.func204,Tryz.ntmps204
 go_wp2_with fail; go_at_call 88; refine (zx c _ i d xy _ rfl (by decide) I.out).mono ?_; rintro e w1 (⟨x1,k,o,f⟩ | ⟨a1,J,v1,k,rfl,-,f,K,M⟩)
 ·obtain ⟨q,rfl,-⟩ := id o; exact ⟨rfl,Steps.err (P.bind_err k) o (zc _ _) f⟩
 have A : xr c.L p sep i = _ := P.bind_ok k; have s1 := f.size; go_wp2_with fail; go_at_call 137; refine (yb c _ J d jk _ rfl (by decide) K).mono ?_; rintro e N ⟨O,Q,B,rfl,r,G,R⟩; have l : xr c.L p sep i = _ := A.trans (P.bind_ok B); have C : w.grownBy N (some c.pb) := za f r; have s2 := r.size; cases O
 ·go_wp2_with fail
  go_at_call 140; refine (jU c _ Q d (fun _ => True) g #[.pointer (some ⟨c.pb,0,none⟩)] #[] p sep sb hsb hsep G trivial (by simpa using z.out)).mono ?_; rintro e U (⟨x3,m,s,j⟩ | ⟨V,X,v3,m,rfl,⟨D,t⟩,j,Y,Z⟩)
  ·obtain ⟨q,rfl,-⟩ := id s; exact ⟨rfl,Steps.err (l.trans (P.bind_err m)) s C j⟩
  have u : xr c.L p sep i = _ := l.trans (P.bind_ok m); have H : w.grownBy U (some c.pb) := za C j; have s3 := j.size; go_wp2_with fail; go_at_call 88; refine (zx c _ X d jk _ rfl (by decide) Y).mono ?_; rintro e w4 (⟨x4,n,x,b⟩ | ⟨a4,j4,v4,n,rfl,-,b,p4,a0⟩)
  ·obtain ⟨q,rfl,-⟩ := id x; exact ⟨rfl,Steps.err (u.trans (P.bind_err n)) x H b⟩
  have E : xr c.L p sep i = _ := u.trans (P.bind_ok n); have s4 := b.size; have F := D.call b (by omega); go_wp2
  go_ret
  exact Steps.ok (a := V) E ⟨F.wide (by omega) (by omega),t⟩ (za H b) p4 (by omega)
 ·go_wp2
  go_ret
  exact Steps.ok (a := []) l ⟨LR.nil _ _,by simp⟩ C G (by omega)
theorem sr {L : List Tok} {p : P T} {f j : Nat} {acc : List T} (h : yv (wd L j) = false) (hf : 0 < f) : ys L p f acc j = .ok (acc,j) := by
 obtain ⟨b,rfl⟩ : ∃ b,f = b + 1 := ⟨f - 1,by omega⟩; rw [ys]
 exact if_neg (by rw [h]; decide)
theorem ku {L : List Tok} {p : P T} {f j : Nat} {acc : List T} (h : yv (wd L j) = true) (hf : 0 < f) : ys L p f acc j = (p.bind fun t => (zD L yy).bind fun _ => ys L p (f - 1) (acc ++ [t])) j := by
 obtain ⟨b,rfl⟩ : ∃ b,f = b + 1 := ⟨f - 1,by omega⟩; rw [ys]
 exact if_pos h
theorem fO {L : List Tok} {x : List UInt8} {i j : Nat} {u : Unit} (h : zD L x i = .ok (u,j)) : j = i + 1 := by
 unfold zD at h
 split at h
 ·cases h; rfl
 ·cases h
theorem xB (c : PC) (w : World) (i d : Nat) (g : Nat) (p : P T) (h : PS c w i d) (hp : Part c d (fun _ => True) g #[.pointer (some ⟨c.pb,0,none⟩)] p) :
  Calls Tryz.prog 143 #[.pointer (some ⟨c.pb,0,none⟩),.func (.func g) #[.pointer (some ⟨c.pb,0,none⟩)] #[]] w (Steps c w i d (fun w' ts v => LR w' (In w.heap.size w'.heap.size) ts v /\ ts.length <= 5001) (ys c.L p (c.L.length + 1) [] i)) := by
 have HP := ze h; have HL := ze h.low; have Q := h.lt; have a3 := h.good.few; have a4 := hp.ent; have U := ze hp; have S0 := ze (SI.mk (c := c) (w := w) (i := i) (d := d) (r := ys c.L p (c.L.length + 1) [] i) (q := ys c.L p) (f := c.L.length + 1) (j := i) (acc := []) (lo := w.heap.size) (wr := w) (v := .slice none 0 0) (LR.nil _ _) h (zc _ _) rfl (by omega) (by simp) (Nat.le_refl _) (Nat.le_refl _) (Nat.le_refl _)); clear h hp
 go_enter Tryz.func143,Tryz.ntmps143
 go_wp2_with fail
 go_loopw [5] (fun v wr => ∃ acc j f lo,Hid (SI c w i d (ys c.L p (c.L.length + 1) [] i) (ys c.L p) v wr acc j f lo)) (fun _ wr => c.L.length - atOf wr c.pb)
 case atStart => exact ⟨_,_,_,_,S0⟩
 case round =>
  obtain ⟨acc,j,f,lo,HS⟩ := hrel; clear S0; have k := HS.out; have H := k.ps; have I := k.low; have a5 := k.low2; have a7 := k.len; have a8 := k.fuel; have a9 := k.le; have b0 := k.ps.il; obtain ⟨ad,cp,rfl⟩ := k.lr.form; have V := ze k.lr; have HG := ze k.gb; have A := ze k.same; have B := ze H; clear k HS H; go_wp2_with fail; go_at_call 138; refine (xl c _ j d B.out).mono ?_; rintro e X ⟨rfl,o⟩; have s2 := o.size; have Y : w.grownBy X (some c.pb) := za HG.out (zv o _); have l : LR X (In lo wr.heap.size) acc (.slice ad acc.length cp) := V.out.grown o; have p2 : PS c X j d := B.out.kept o; cases C : yv (wd c.L j)
  ·go_wp2
   go_ret
   exact Steps.ok (A.out.trans (sr C (by omega))) ⟨l.wide I s2,by omega⟩ Y p2 (by omega)
  ·go_wp2_with fail
   refine (U.out.call _ j p2 trivial).mono ?_; rintro e Z (⟨x3,D,J,m⟩ | ⟨⟨k3,n3,m3,q3,R⟩,j3,v3,D,rfl,⟨b1,rfl,s⟩,m,p3,b2⟩)
   ·obtain ⟨q,rfl,-⟩ := id J; exact ⟨rfl,Steps.err ((A.out.trans (ku C (by omega))).trans (P.bind_err D)) J Y m⟩
   simp only [T.kind,T.name,T.num,T.at',T.subs] at s ⊢; obtain ⟨E,F,rfl⟩ := s.form; have s3 := m.size; have G3 : w.grownBy Z (some c.pb) := za Y m; have l : LR Z (In lo wr.heap.size) acc (.slice ad acc.length cp) := l.call m (by omega); have K := LR.build1 Z (cs := #[.int .i64 k3,.string ⟨n3.toArray⟩,.int .i64 m3,.int .i64 q3,.slice E R.length F]) (t := T.mk k3 n3 m3 q3 R) (sv := .slice E R.length F) s rfl rfl s3; have x : ys c.L p (c.L.length + 1) [] i = _ := (A.out.trans (ku C (by omega))).trans (P.bind_ok D); have M := ze (l.alloc (.cells #[.int .i64 k3,.string ⟨n3.toArray⟩,.int .i64 m3,.int .i64 q3,.slice E R.length F] 100)); have a0 := ze K; have b3 := p3.il; clear l s K
   go_wp2_with (at_builtin; refine kq rfl _ _ rfl rfl rfl M.out a0.out (by omega) (by omega) (by simp; omega) (by simp) (by simp; omega) ?_; intro v5 w5 a1 G)
   have z := M.out.rows; have p5 : PS c w5 j3 d := PS.own (p3.alloc _) HL.out G (fun b Q => by have := z b Q; omega); have G5 : w.grownBy w5 (some c.pb) := yX (zf G3 _) G (fun b Q => by have := z b Q; omega); have s5 := G.size
   simp at s5
   go_at_call 88; refine (zx c _ j3 d yy _ rfl (by decide) p5).mono ?_; rintro e w6 (⟨x6,u,N,n⟩ | ⟨a6,j6,v6,u,rfl,-,n,p6,b4⟩)
   ·obtain ⟨q,rfl,-⟩ := id N; exact ⟨rfl,Steps.err (x.trans (P.bind_err u)) N G5 n⟩
   have O : ys c.L p (c.L.length + 1) [] i = _ := x.trans (P.bind_ok u); have b5 := fO u; have s6 := n.size; have a2 := a1.call n (by omega); go_wp2; refine ⟨⟨_,j6,f - 1,lo,SI.mk (a2.wide (Nat.le_refl _) (by omega)) p6 (za G5 n) O (by omega) (by simp only [List.length_append,List.length_singleton]; omega) (by omega) I (by omega)⟩,?_⟩; rw [p6.atOf,B.out.atOf]
   omega
end Go.Proofs.YtnmkffjklpfflaaGreatDoor
