/- The reader's small parts: a node,a name with its node,numbers. -/
import Derived.Test.YtfjgelmllcnokaaGreatDoorG03
import Derived.Test.YtfjgelmllcnokaaGreatDoorG04
import Derived.Deep.RegionLaw
import Derived.Deep.AppendLies
namespace Go.Proofs.YtfjgelmllcnokaaGreatDoor
open Go.RowKit
set_option maxHeartbeats 400000
set_option maxRecDepth 100000
theorem yA (c : PC) (w : World) (i d : Nat) (k : Int) (h : PS c w i d) :
  Calls Tryz.prog 59 #[.pointer (some ⟨c.pb,0,none⟩),.int .i64 k] w fun e w' => e = .returned (.agg #[.int .i64 k,.string ⟨#[]⟩,.int .i64 0,.int .i64 (pos c.L i),.slice none 0 0]) /\ w.grownBy w' none := by
 have b := za h; clear h
 go_enter Tryz.func59,Tryz.ntmps59
 go_wp2_with (go_at_call 112; refine (bL c _ i d (b.out.alloc _)).mono ?_; rintro e f ⟨rfl,m,rfl⟩)
 exact zn Tryz.results59 rfl ((NB.new w _).drewN m).put5 rfl ⟨rfl,ze2 (zy (zf (zl _ _) _) _) (Nat.le_refl _) _ _ _ _ _⟩
theorem kz (c : PC) (w : World) (i d : Nat) (k : Int) (h : PS c w i d) :
  Calls Tryz.prog 118 #[.pointer (some ⟨c.pb,0,none⟩),.int .i64 k] w (Steps c w i d (fun w' t v => TR w' w.heap.size w'.heap.size t v) (vj c.L k i)) := by
 have m := za h; have n := za h.low; have K := h.lt; clear h
 go_enter Tryz.func118,Tryz.ntmps118
 go_wp2_with fail; go_at_call 59; refine (yA c _ i d k (PS.alloc m.out _)).mono ?_; rintro e f ⟨rfl,b⟩; have o : w.grownBy f (some c.pb) := zb ga (zJ b (some c.pb)); have z := b.size
 simp at z
 have A : PS c f i d := PS.kept (PS.alloc m.out _) b; have B : RB f w.heap.size := RB.kept (RB.new w _) b (by simp); go_wp2_with fail; go_at_call 61; refine (ke c _ i d (PS.alloc A _)).mono ?_; rintro e r (⟨x,g,u,b⟩ | ⟨s,j,v,g,rfl,⟨rfl,C,D⟩,b,E,l⟩)
 ·have F := u
  obtain ⟨q,rfl,-⟩ := u
  exact ⟨rfl,Steps.err (P.bind_err g) F (zf o _) b⟩
 have H : w.grownBy r (some c.pb) := zb (zf o _) b; have I := b.size
 simp at I
 have y : RB r w.heap.size := RB.kept (RB.alloc B _) b (by simp; omega); have J := NB.kept (NB.new f 28) b (by simp; omega); obtain ⟨_,_,_,_,_,_,_,_,_,_,_⟩ := id y; obtain ⟨_,_,_,_,_,_⟩ := id J; go_wp2; refine zn Tryz.results118 rfl (RB.five ?_) rfl ?_
 ·exact RB.put y _ _ _
 exact Steps.ok (P.bind_ok g) ⟨_,rfl,LR.nil _ _⟩ (zS (zC H (by omega) _ _) (by omega)) (PS.p5 (PS.put E n.out (by omega) _ _) n.out (by omega)) l
theorem jS (c : PC) (w : World) (i d : Nat) (k : Int) (h : PS c w i d) :
  Calls Tryz.prog 120 #[.pointer (some ⟨c.pb,0,none⟩),.int .i64 k] w (Steps c w i d (fun w' t v => TR w' w.heap.size w'.heap.size t v) (xq c.L k i)) := by
 have U := za h; have A := za h.low; have hb := h.lt; clear h
 go_enter Tryz.func120,Tryz.ntmps120
 go_wp2_with fail; go_at_call 118; refine (kz c _ i d k (PS.alloc U.out _)).mono ?_; rintro e B (⟨x1,l,n,b⟩ | ⟨⟨C,D,N,E,o⟩,V,v1,l,rfl,⟨X,rfl,f⟩,b,Y,Z⟩)
 ·obtain ⟨q,rfl,-⟩ := id n; exact ⟨rfl,Steps.err (P.bind_err l) n ga b⟩
 have F : xq c.L k i = _ := P.bind_ok l; simp only [T.kind,T.name,T.num,T.at',T.subs] at f ⊢; obtain ⟨r,s,rfl⟩ := f.form; obtain ⟨b1,H,f⟩ := f.nm
 try simp at H
 have G1 := zb ga b; have s1 := b.size
 try simp at s1
 have m : RB B w.heap.size := RB.k (RB.new' (by simp)) b; have I := m.lt; obtain ⟨_,_,_,_,_,_,_,_,_,_,_⟩ := id m; go_wp2_with fail; go_at_call 113; refine (xB c _ V d qz _ rfl (by decide) (PS.alloc Y _)).mono ?_; rintro e z ⟨b2,j2,J,rfl,g,O,a0⟩; have u := F.trans (P.bind_ok J); have R : w.grownBy z (some c.pb) := zb (zf G1 _) g; have s2 := g.size
 try simp at s2
 have j : RB z w.heap.size := RB.k (RB.alloc m _) g; have x : NB z B.heap.size (.int .i64 C) (.string ⟨D.toArray⟩) (.int .i64 N) (.int .i64 E) (.slice r o.length s) := NB.k (NB.new' (by simp)) g; have y : LR z (In b1 B.heap.size) o (.slice r o.length s) := LR.c (LR.alloc f _) g; have K := j.lt; have M := x.lt; obtain ⟨_,_,_,_,_,_,_,_,_,_,_⟩ := id j; obtain ⟨_,_,_,_,_,_⟩ := id x; cases b2
 ·go_wp2
  refine zn Tryz.results120 rfl (RB.five ?_) rfl ?_
  ·exact j
  refine Steps.ok (a := (T.mk C D N E o)) u ⟨_,rfl,?_⟩ ?_ ?_ (by omega)
  ·exact (LR.p5 y (by omega)).wd
  ·exact zS R (by omega)
  ·exact PS.p5 O A.out (by omega)
 ·go_wp2
  refine zn Tryz.results120 rfl (RB.five ?_) rfl ?_
  ·exact RB.put j _ _ _
  refine Steps.ok (a := (T.mk C D 1 E o)) u ⟨_,rfl,?_⟩ ?_ ?_ (by omega)
  ·exact (LR.p5 (LR.put y (by omega) _ _) (by omega)).wd
  ·exact zS (zC R (by omega) _ _) (by omega)
  ·exact PS.p5 (PS.put O A.out (by omega) _ _) A.out (by omega)
theorem vC (c : PC) (w : World) (i d : Nat) (h : PS c w i d) :
  Calls Tryz.prog 153 #[.pointer (some ⟨c.pb,0,none⟩)] w (Steps c w i d (fun w' t v => TR w' w.heap.size w'.heap.size t v) (yu c.L i)) := by
 have HP := za h; have K := za h.low; have hb := h.lt; clear h
 go_enter Tryz.func153,Tryz.ntmps153
 go_wp2_with fail; go_at_call 118; refine (kz c _ i d 13 (PS.alloc HP.out _)).mono ?_; rintro e D (⟨x1,o,E,f⟩ | ⟨⟨M,r,N,n,C⟩,j1,v1,o,rfl,⟨a5,rfl,g⟩,f,p1,a6⟩)
 ·obtain ⟨q,rfl,-⟩ := id E; exact ⟨rfl,Steps.err (P.bind_err o) E ga f⟩
 have O : yu c.L i = _ := P.bind_ok o; simp only [T.kind,T.name,T.num,T.at',T.subs] at g ⊢; obtain ⟨s,u,rfl⟩ := g.form; obtain ⟨b1,R,g⟩ := g.nm
 try simp at R
 have G1 := zb ga f; have s1 := f.size
 try simp at s1
 have x : RB D w.heap.size := RB.k (RB.new' (by simp)) f; have U := x.lt; obtain ⟨_,_,_,_,_,_,_,_,_,_,_⟩ := id x; go_wp2_with fail; go_at_call 113; refine (xB c _ j1 d vG _ rfl (by decide) (PS.alloc p1 _)).mono ?_; rintro e l ⟨b2,j2,V,rfl,j,p2,a7⟩; have y := O.trans (P.bind_ok V); have X : w.grownBy l (some c.pb) := zb (zf G1 _) j; have s2 := j.size
 try simp at s2
 have m : RB l w.heap.size := RB.k (RB.alloc x _) j; have z : NB l D.heap.size (.int .i64 M) (.string ⟨r.toArray⟩) (.int .i64 N) (.int .i64 n) (.slice s C.length u) := NB.k (NB.new' (by simp)) j; have F : LR l (In b1 D.heap.size) C (.slice s C.length u) := LR.c (LR.alloc g _) j; have Y := m.lt; have Z := z.lt; obtain ⟨_,_,_,_,_,_,_,_,_,_,_⟩ := id m; obtain ⟨_,_,_,_,_,_⟩ := id z; cases b2
 ·go_wp2
  refine zn Tryz.results153 rfl (RB.five ?_) rfl ?_
  ·exact m
  refine Steps.ok (a := (T.mk M r N n C)) y ⟨_,rfl,?_⟩ ?_ ?_ (by omega)
  ·exact (LR.p5 F (by omega)).wd
  ·exact zS X (by omega)
  ·exact PS.p5 p2 K.out (by omega)
 ·go_wp2_with fail
  go_at_call 61; refine (ke c _ j2 d (PS.alloc (PS.put p2 K.out (by omega) _ _) _)).mono ?_; rintro e H (⟨x3,A,I,b⟩ | ⟨a3,j3,v3,A,rfl,⟨rfl,a8,a9⟩,b,p3,b0⟩)
  ·obtain ⟨q,rfl,-⟩ := id I; exact ⟨rfl,Steps.err (y.trans (P.bind_err A)) I (zf (zC X (by omega) _ _) _) b⟩
  have a0 := y.trans (P.bind_ok A); have G3 : w.grownBy H (some c.pb) := zb (zf (zC X (by omega) _ _) _) b; have s3 := b.size
  try simp at s3
  have B : RB H w.heap.size := RB.k (RB.alloc (RB.put m _ _ _) _) b; have J : NB H D.heap.size (.int .i64 M) (.string ⟨r.toArray⟩) (.int .i64 N) (.int .i64 n) (.slice (some ⟨l.heap.size,0,none⟩) 1 1) := NB.k (NB.alloc (NB.s4 z _) _) b; have b3 : LR H (In b1 D.heap.size) C (.slice s C.length u) := LR.c (LR.alloc (LR.put F (by omega) _ _) _) b; have a1 : LR H (In l.heap.size (l.heap.size + 1)) ([(T.mk 24 r 0 n [])]) (.slice (some ⟨l.heap.size,0,none⟩) 1 1) := LR.c (LR.build1 _ (t := (T.mk 24 r 0 n [])) (sv := .slice none 0 0) (LR.nil _ _) (by simp) rfl (by omega)) b; have a2 := B.lt; have a4 := J.lt; obtain ⟨_,_,_,_,_,_,_,_,_,_,_⟩ := id B; obtain ⟨_,_,_,_,_,_⟩ := id J; go_wp2; refine zn Tryz.results153 rfl (RB.five ?_) rfl ?_
  ·exact RB.put B _ _ _
  refine Steps.ok (a := (T.mk M a3 N n [(T.mk 24 r 0 n [])])) a0 ⟨_,rfl,?_⟩ ?_ ?_ (by omega)
  ·refine LR.wide (lo := l.heap.size) (hi := l.heap.size + 1) (ts := [(T.mk 24 r 0 n [])]) ?_ (by omega) (by first | omega | (simp <;> omega))
   exact LR.p5 (LR.put a1 (by omega) _ _) (by omega)
  ·exact zS (zC G3 (by omega) _ _) (by omega)
  ·exact PS.p5 (PS.put p3 K.out (by omega) _ _) K.out (by omega)
theorem kl (c : PC) (w : World) (i d : Nat) (t : T) (lo hi : Nat) (v : Value) (h : PS c w i d) (ht : TR w lo hi t v) :
  Calls Tryz.prog 123 #[.pointer (some ⟨c.pb,0,none⟩),v] w (Steps c w i d (fun w' t v => TR w' w.heap.size w'.heap.size t v) (jA c.L t i)) := by
 have HP := za h; have X := za h.low; have hb := h.lt; obtain ⟨z,A,B,C,Y⟩ := t; obtain ⟨sv,rfl,lt⟩ := ht; obtain ⟨ad,cp,rfl⟩ := lt.form; simp only [T.kind,T.name,T.num,T.at',T.subs] at lt ⊢; clear lt; clear h
 go_enter Tryz.func123,Tryz.ntmps123
 go_wp2_with fail; go_at_call 60; refine (zI c _ i d xk _ rfl (by decide) (PS.alloc (PS.alloc HP.out _) _)).mono ?_; rintro e D (⟨x1,j,r,b⟩ | ⟨a1,j1,v1,j,rfl,-,b,p1,a0⟩)
 ·obtain ⟨q,rfl,-⟩ := id r; exact ⟨rfl,Steps.err (P.bind_err j) r (zf ga _) b⟩
 have s : jA c.L (T.mk z A B C Y) i = _ := P.bind_ok j; have Z : w.grownBy D (some c.pb) := zb (zf ga _) b; have s1 := b.size
 try simp at s1
 have l : NB D w.heap.size (.int .i64 z) (.string ⟨A.toArray⟩) (.int .i64 B) (.int .i64 C) (.slice ad Y.length cp) := NB.k (NB.alloc (NB.new' (by simp)) _) b; have m : RB D (w.heap.size + 1) := RB.k (RB.new' (by simp)) b; have E := m.lt; have F := l.lt; obtain ⟨_,_,_,_,_,_,_,_,_,_,_⟩ := id m; obtain ⟨_,_,_,_,_,_⟩ := id l; go_wp2_with fail; go_at_call 153; refine (vC c _ j1 d p1).mono ?_; rintro e w2 (⟨x2,n,u,f⟩ | ⟨⟨H,I,J,K,x⟩,j2,v2,n,rfl,⟨a2,rfl,g⟩,f,p2,a3⟩)
 ·obtain ⟨q,rfl,-⟩ := id u; exact ⟨rfl,Steps.err (s.trans (P.bind_err n)) u Z f⟩
 have M := s.trans (P.bind_ok n); simp only [T.kind,T.name,T.num,T.at',T.subs] at g ⊢; obtain ⟨N,O,rfl⟩ := g.form; obtain ⟨b2,R,g⟩ := g.nm
 try simp at R
 have G2 := zb Z f; have s2 := f.size
 try simp at s2
 have o := RB.k m f; have y := NB.k l f; have U := o.lt; have V := y.lt; obtain ⟨_,_,_,_,_,_,_,_,_,_,_⟩ := id o; obtain ⟨_,_,_,_,_,_⟩ := id y; go_wp2; refine zn Tryz.results123 rfl (NB.alloc (RB.five ?_) _) rfl ?_
 ·exact RB.put o _ _ _
 refine Steps.ok (a := (T.mk z A B C [(T.mk H I J K x)])) M ⟨_,rfl,?_⟩ ?_ ?_ (by omega)
 ·refine LR.wide (lo := b2) (hi := w2.heap.size + 1) (ts := [(T.mk H I J K x)]) ?_ (by omega) (by first | omega | (simp <;> omega))
  exact (LR.build1 _ (t := (T.mk H I J K x)) (sv := .slice N x.length O) (LR.wide (lo := b2) (hi := w2.heap.size) (ts := x) (LR.p5 (LR.put g (by omega) _ _) (by omega)) (by omega) (by first | omega | (simp <;> omega))) (by simp) rfl (by omega))
 ·exact zf (zS (zC G2 (by omega) _ _) (by omega)) _
 ·exact PS.alloc (PS.p5 (PS.put p2 X.out (by omega) _ _) X.out (by omega)) _
def PartOK (c : PC) (d : Nat) (g : Nat) (p : P T) : Prop :=
 ∀ (w : World) (i : Nat),PS c w i d -> Calls Tryz.prog g #[.pointer (some ⟨c.pb,0,none⟩)] w (Steps c w i d (fun w' t v => TR w' w.heap.size w'.heap.size t v) (p i))
theorem ja (c : PC) (w : World) (i d : Nat) (g : Nat) (p : P T) (h : PS c w i d) (hd20 : d <= 20) (hp : d < 20 -> PartOK c (d + 1) g p) (hent : ∀ (args : Array Value) (w : World),(callFunc g args).run Tryz.prog w = .ok (.enter g args) w) :
  Calls Tryz.prog 148 #[.pointer (some ⟨c.pb,0,none⟩),.func (.func g) #[.pointer (some ⟨c.pb,0,none⟩)] #[]] w (Steps c w i d (fun w' t v => TR w' w.heap.size w'.heap.size t v) ((if d < 20 then p else vM c.L) i)) := by
 have A := za h; have C := za h.low; have Y := h.lt; have D := h.deep; have c2 := h.c2; have z2 := h.z2; clear h
 by_cases x : d < 20
 ·rw [if_pos x]
  have E : decide ((20 : Int) < (d : Int) + 1) = false := by simp; omega
  go_enter Tryz.func148,Tryz.ntmps148
  go_wp2_with fail; refine (hp x _ i ((A.out.set2 _ (d + 1) (by simp) (by omega)).alloc _)).mono ?_; rintro e m (⟨Z,n,j,f⟩ | ⟨⟨F,H,I,J,s⟩,j1,v1,n,rfl,⟨K,rfl,l⟩,f,u,M⟩)
  ·obtain ⟨q,rfl,-⟩ := id j; exact ⟨rfl,Steps.err n j (zf (yU (zl _ _) _ _) _) f⟩
  simp only [T.kind,T.name,T.num,T.at',T.subs] at l ⊢; obtain ⟨y,z,rfl⟩ := l.form; obtain ⟨N,r,l⟩ : ∃ b,b = _ /\ LR m (In b m.heap.size) s (.slice y s.length z) := ⟨_,rfl,l⟩
  try simp at r
  have O : w.grownBy m (some c.pb) := zb (zf (yU (zl _ _) _ _) _) f; have R := f.size
  try simp at R
  have U : m.cell? ⟨c.pb,2,none⟩ = some (.int .i64 ((d : Int) + 1)) := by have := u.c2; simpa using this
  have V := u.z2; have hb1 := u.lt; have o : RB m w.heap.size := RB.kept (RB.new' (by simp)) f (by simp; omega); have B := o.lt; obtain ⟨_,_,_,_,_,_,_,_,_,_,_⟩ := id o; go_wp2; refine zn Tryz.results148 rfl (NB.alloc (RB.five ?_) _) rfl ?_
  ·exact RB.put o _ _ _
  refine Steps.ok (a := T.mk F H I J s) n ⟨_,rfl,?_⟩ ?_ ?_ (by omega)
  ·refine LR.wide (ts := s) (hi := m.heap.size) (lo := N) ?_ (by omega) (by first | omega | (simp <;> omega))
   exact LR.alloc (LR.p5 (LR.put l (by omega) _ _) (by omega)) _
  ·exact zf (zS (yU O _ _) (by omega)) _
  ·exact PS.alloc (PS.p5 (u.set2 _ d (by simp) (by omega)) C.out (by omega)) _
 ·rw [if_neg x]
  have E : decide ((20 : Int) < (d : Int) + 1) = true := by simp; omega
  go_enter Tryz.func148,Tryz.ntmps148
  go_wp2_with fail; go_at_call 70; refine (kp c _ i (d + 1) 3 ((A.out.set2 _ (d + 1) (by simp) (by omega)).alloc _)).mono ?_; rintro e m ⟨j,f⟩; have X := j; obtain ⟨q,rfl,-⟩ := j
  exact ⟨rfl,Steps.err rfl X (zf (yU (zl _ _) _ _) _) (zJ f _)⟩
theorem PS.own {c : PC} {w w' : World} {i d n : Nat} {row : Option Nat} (h : PS c w i d) (hl : Low c n) (hg : w.grownBy w' row) (hr : ∀ b,row = some b -> n <= b) : PS c w' i d where
 c0 := zY hg h.c0 (fun e => absurd (hr _ e.symm) (Nat.not_le.2 hl.pb))
 c1 := zY hg h.c1 (fun e => absurd (hr _ e.symm) (Nat.not_le.2 hl.pb))
 c2 := zY hg h.c2 (fun e => absurd (hr _ e.symm) (Nat.not_le.2 hl.pb))
 c3 := zY hg h.c3 (fun e => absurd (hr _ e.symm) (Nat.not_le.2 hl.pb))
 z1 := yY hg h.lt h.z1 (fun e => absurd (hr _ e.symm) (Nat.not_le.2 hl.pb))
 z2 := yY hg h.lt h.z2 (fun e => absurd (hr _ e.symm) (Nat.not_le.2 hl.pb))
 tk := fun j hj => ⟨zY hg (h.tk j hj).1 (fun e => absurd (hr _ e.symm) (Nat.not_le.2 hl.tb)),zY hg (h.tk j hj).2 (fun e => absurd (hr _ e.symm) (Nat.not_le.2 hl.tb))⟩
 lx := World.ownsMap.kept h.lx hg (fun e => absurd (hr _ e.symm) (Nat.not_le.2 hl.lb))
 n1 := h.n1
 n2 := h.n2
 il := h.il
 good := h.good
 deep := h.deep
theorem PS.atOf {c : PC} {w : World} {i d : Nat} (h : PS c w i d) : atOf w c.pb = i := by unfold Proofs.YtfjgelmllcnokaaGreatDoor.atOf; rw [h.c1]; simp [intOf]
theorem Tryz.infoNode : (Tryz.prog.info? 28).map (fun i => (i.zero,i.size,i.bytes)) = some (some (.agg #[.int .i64 0,.string ⟨#[]⟩,.int .i64 0,.int .i64 0,.slice none 0 0]),5,64) := by kernel_rfl
theorem LR.rows {w : World} {lo hi : Nat} {ts : List T} {v : Value} (h : LR w (In lo hi) ts v) : ∀ b,v.ownBlock = some b -> lo <= b /\ b < hi := by
 obtain ⟨_,_,_,h,_⟩ := h.own
 exact h
theorem sO : ∀ (ts : List T) (svs : List Value),svs.length = ts.length -> (∀ (i : Nat) (t : T) (sv : Value),ts[i]? = some t -> svs[i]? = some sv -> ∃ a c,sv = .slice a t.subs.length c) -> ∀ u ∈ uA ts svs,u.oneCell' = true
 | [],[],_,_,u,hu => by cases hu
 | t :: ts,sv :: svs,hl,hs,u,hu => by
  rcases List.mem_append.1 hu with h | h
  ·obtain ⟨a,c,rfl⟩ := hs 0 t sv rfl rfl
   simp only [vT,List.mem_cons,List.not_mem_nil,or_false] at h
   rcases h with rfl | rfl | rfl | rfl | rfl <;> rfl
  ·exact sO ts svs (by simpa using hl) (fun i t' sv' h1 h2 => hs (i + 1) t' sv' (by simpa using h1) (by simpa using h2)) u h
theorem fS {ops : Array Oper} {rest : List Oper} {o : Oper} {a : Act} {w : World} {Q : Exit -> Act -> World -> Prop} (hgd : o.guard = none) (s x : Operand)
  (ho : o.op = .call { callee := .builtin .append,args := #[s,x],argTypes := #[26,26] })
  {lo hi l2 hi2 g m c : Nat} {ts us : List T} {v : Value} (hs : a.eval s = v) (hx : a.eval x = .slice (some ⟨g,0,none⟩) m c) (hl : LR w (In lo hi) ts v) (hu : LR w (In l2 hi2) us (.slice (some ⟨g,0,none⟩) m c))
  (h1 : lo <= l2) (h2 : hi <= l2) (h3 : l2 <= w.heap.size) (h4 : hi2 <= w.heap.size) (hlen : ts.length + us.length <= 20000)
  (k : ∀ v' w',LR w' (In lo w'.heap.size) (ts ++ us) v' -> w.grownBy w' v.ownBlock -> wpList Tryz.prog ops Q rest (a.put o.dst v') w') : wpList Tryz.prog ops Q (o :: rest) a w := by
 obtain ⟨I,n,r,y,z⟩ := info_parts Tryz.infoNode; obtain ⟨A,B,own,C,j⟩ := hl.own; obtain ⟨l,h,d,_,e⟩ := hu.own
 have J : m = us.length := by
  rcases d.2 with ⟨D,_⟩ | ⟨_,_,_,D,_⟩
  ·cases D
  ·cases D; rfl
 subst J; refine wpList_append_own_at w hgd s x 26 ho 0 28 I _ 5 64 Tryz.underlying26 n r y z rfl (by decide) v ts.length (uA ts A) hs own ⟨g,0,none⟩ us.length c (uA us l) hx
  (vb _ _ h) (d.cells rfl) ?_ (by unfold maxLen; omega) (by omega) (Nat.zero_le _) ?_
 ·intro u E
  exact sO us l h (fun i t sv ht hsv => (e i t sv ht hsv).form) u E
 ·intro v' w' f F _ H
  refine k v' w' (LR.append C B j h (fun i t sv ht hsv => (e i t sv ht hsv).mono (fun k hk => hk.1)) h1 h2 h3 h4 F.size (fun b hb => (f.lt b hb).2) f F rfl H) F
set_option maxHeartbeats 1000000
structure Part (c : PC) (d : Nat) (Inv : World -> Prop) (g : Nat) (av : Array Value) (p : P T) : Prop where
 call : ∀ (w : World) (i : Nat),PS c w i d -> Inv w -> Calls Tryz.prog g av w (Steps c w i d (fun w' t v => TR w' w.heap.size w'.heap.size t v) (p i))
 inv : ∀ w w',Inv w -> w.grownBy w' (some c.pb) -> Inv w'
 ent : ∀ (args : Array Value) (w : World),(callFunc g args).run Tryz.prog w = .ok (.enter g args) w
theorem ri {L : List Tok} {p : P T} {sep : List UInt8} {f j : Nat} {acc : List T} (h : yP L sep j = .ok (false,j)) (hf : 0 < f) : yG L p sep f acc j = .ok (acc,j) := by
 obtain ⟨b,rfl⟩ : ∃ b,f = b + 1 := ⟨f - 1,by omega⟩
 exact P.bind_ok h
theorem qJ {L : List Tok} {p : P T} {sep : List UInt8} {f j j2 : Nat} {acc : List T} (h : yP L sep j = .ok (true,j2)) (hf : 0 < f) : yG L p sep f acc j = (p.bind fun t => yG L p sep (f - 1) (acc ++ [t])) j2 := by
 obtain ⟨b,rfl⟩ : ∃ b,f = b + 1 := ⟨f - 1,by omega⟩
 exact P.bind_ok h
theorem fU {L : List Tok} {x : List UInt8} {i j : Nat} (h : yP L x i = .ok (false,j)) : j = i := by
 unfold yP at h
 split at h
 ·cases h
 ·cases h; rfl
theorem rC {L : List Tok} {x : List UInt8} {i j : Nat} (h : yP L x i = .ok (true,j)) : j = i + 1 := by
 unfold yP at h
 split at h
 ·cases h; rfl
 ·cases h
structure SI (c : PC) (w : World) (i d : Nat) (r : Except (Int × Int) (List T × Nat)) (q : Nat -> List T -> P (List T)) (v : Value) (wr : World) (acc : List T) (j f lo : Nat) : Prop where
 lr : LR wr (In lo wr.heap.size) acc v
 ps : PS c wr j d
 gb : w.grownBy wr (some c.pb)
 same : r = q f acc j
 fuel : c.L.length <= f + j
 len : acc.length + f <= c.L.length + 1
 le : i <= j
 low : w.heap.size <= lo
 low2 : lo <= wr.heap.size
theorem fH (c : PC) (w : World) (i d : Nat) (Inv : World -> Prop) (g : Nat) (fa ca : Array Value) (p : P T) (sep : List UInt8) (sb : ByteArray) (hsb : sb.data.toList = sep) (hsep : sep ≠ []) (h : PS c w i d) (hI : Inv w) (hp : Part c d Inv g (fa ++ ca) p) :
  Calls Tryz.prog 116 #[.pointer (some ⟨c.pb,0,none⟩),.func (.func g) fa ca,.string sb] w (Steps c w i d (fun w' ts v => LR w' (In w.heap.size w'.heap.size) ts v /\ ts.length <= 5001) (xC c.L p sep i)) := by
 have HP := za h; have HL := za h.low; have hb := h.lt; have a3 := h.good.few; have a4 := hp.ent; have z := za hp; have HI := za hI; clear h hp hI
 go_enter Tryz.func116,Tryz.ntmps116
 go_wp2_with fail; refine (z.out.call _ i HP.out HI.out).mono ?_; rintro e w1 (⟨x1,s,J,l⟩ | ⟨⟨k1,n1,m1,q1,K⟩,j1,v1,s,rfl,⟨a7,rfl,u⟩,l,p1,M⟩)
 ·obtain ⟨q,rfl,-⟩ := id J; exact ⟨rfl,Steps.err (P.bind_err s) J (zl _ _) l⟩
 simp only [T.kind,T.name,T.num,T.at',T.subs] at u ⊢; obtain ⟨A,B,rfl⟩ := u.form; have N : xC c.L p sep i = _ := P.bind_ok s; have s1 := l.size
 have S0 := za (SI.mk (c := c) (w := w) (i := i) (d := d) (r := xC c.L p sep i) (q := yG c.L p sep) (f := c.L.length) (j := j1) (acc := [T.mk k1 n1 m1 q1 K]) (lo := w.heap.size)
  (wr := w1.alloc (.cells #[.int .i64 k1,.string ⟨n1.toArray⟩,.int .i64 m1,.int .i64 q1,.slice A K.length B] 28)) (v := .slice (some ⟨w1.heap.size,0,none⟩) 1 1)
  (LR.wide (LR.build1 w1 (cs := #[.int .i64 k1,.string ⟨n1.toArray⟩,.int .i64 m1,.int .i64 q1,.slice A K.length B]) (t := T.mk k1 n1 m1 q1 K) (sv := .slice A K.length B) u rfl rfl s1) (Nat.le_refl _) (by simp)) (p1.alloc _) (zf l _) N (by omega) (by simp only [List.length_singleton]; omega) M (Nat.le_refl _) (by simp; omega))
 clear u p1 l N s M s1; go_wp2_with fail
 go_loopw [7] (fun v wr => ∃ acc j f lo,Hid (SI c w i d (xC c.L p sep i) (yG c.L p sep) v wr acc j f lo)) (fun _ wr => c.L.length - atOf wr c.pb)
 case atStart => exact ⟨_,_,_,_,S0⟩
 case round =>
  obtain ⟨acc,j,f,lo,HS⟩ := hrel; clear S0; have hI := HS.out; have O := hI.ps; have R := hI.low; have a5 := hI.low2; have a6 := hI.len; have a8 := hI.fuel; have a9 := hI.le; have b0 := hI.ps.il; obtain ⟨ad,cp,rfl⟩ := hI.lr.form; have a0 := za hI.lr; have HG := za hI.gb; have C := za hI.same; have U := za O; clear hI HS O; go_wp2_with fail; go_at_call 113; refine (xB c _ j d sep _ hsb hsep U.out).mono ?_; rintro e w2 ⟨b2,j2,m,rfl,D,p2,b1⟩; have s2 := D.size; have G2 : w.grownBy w2 (some c.pb) := zb HG.out D; have n : LR w2 (In lo wr.heap.size) acc (.slice ad acc.length cp) := a0.out.call D (by omega); cases b2
  ·have hj := fU m
   subst hj; go_wp2
   go_ret
   exact Steps.ok (C.out.trans (ri m (by omega))) ⟨n.wide R s2,by omega⟩ G2 p2 (by omega)
  ·have hj := rC m
   go_wp2_with fail; refine (z.out.call _ j2 p2 (z.out.inv _ _ HI.out G2)).mono ?_; rintro e w3 (⟨x3,E,V,o⟩ | ⟨⟨k3,n3,m3,q3,l3⟩,j3,v3,E,rfl,⟨b3,rfl,x⟩,o,p3,b4⟩)
   ·obtain ⟨q,rfl,-⟩ := id V; exact ⟨rfl,Steps.err ((C.out.trans (qJ m (by omega))).trans (P.bind_err E)) V G2 o⟩
   simp only [T.kind,T.name,T.num,T.at',T.subs] at x ⊢; obtain ⟨F,H,rfl⟩ := x.form; have s3 := o.size; have G3 := zb G2 o; have n : LR w3 (In lo wr.heap.size) acc (.slice ad acc.length cp) := n.call o (by omega); have X := LR.build1 w3 (cs := #[.int .i64 k3,.string ⟨n3.toArray⟩,.int .i64 m3,.int .i64 q3,.slice F l3.length H]) (t := T.mk k3 n3 m3 q3 l3) (sv := .slice F l3.length H) x rfl rfl s3; have Y : xC c.L p sep i = _ := (C.out.trans (qJ m (by omega))).trans (P.bind_ok E); have Z := za (n.alloc (.cells #[.int .i64 k3,.string ⟨n3.toArray⟩,.int .i64 m3,.int .i64 q3,.slice F l3.length H] 28)); have a1 := za X; have b5 := p3.il; clear n x X
   go_wp2_with (at_builtin; refine fS rfl _ _ rfl rfl rfl Z.out a1.out (by omega) (by omega) (by simp; omega) (by simp) (by simp; omega) ?_; intro v5 w5 a2 I)
   have y := Z.out.rows; have p5 : PS c w5 j3 d := PS.own (p3.alloc _) HL.out I (fun b hb => by have := y b hb; omega); have G5 : w.grownBy w5 (some c.pb) := vY (zf G3 _) I (fun b hb => by have := y b hb; omega); have s5 := I.size
   simp at s5
   refine ⟨⟨_,j3,f - 1,lo,SI.mk a2 p5 G5 Y (by omega) (by simp only [List.length_append,List.length_singleton]; omega) (by omega) R (by omega)⟩,?_⟩; rw [p5.atOf,U.out.atOf]
   omega
theorem gf (c : PC) (w : World) (i d : Nat) (g : Nat) (p : P T) (sep : List UInt8) (sb : ByteArray) (hsb : sb.data.toList = sep) (hsep : sep ≠ []) (h : PS c w i d) (hp : Part c d (fun _ => True) g #[.pointer (some ⟨c.pb,0,none⟩)] p) :
  Calls Tryz.prog 167 #[.pointer (some ⟨c.pb,0,none⟩),.func (.func g) #[.pointer (some ⟨c.pb,0,none⟩)] #[],.string sb] w (Steps c w i d (fun w' ts v => LR w' (In w.heap.size w'.heap.size) ts v /\ ts.length <= 5001) (xF c.L p sep i)) := by
 have J := za h; have HL := za h.low; have hb := h.lt; have z := za hp; clear h hp
 go_enter Tryz.func167,Tryz.ntmps167
 go_wp2_with fail; go_at_call 60; refine (zI c _ i d yw _ rfl (by decide) J.out).mono ?_; rintro e w1 (⟨x1,l,r,f⟩ | ⟨a1,K,v1,l,rfl,-,f,M,N⟩)
 ·obtain ⟨q,rfl,-⟩ := id r; exact ⟨rfl,Steps.err (P.bind_err l) r (zl _ _) f⟩
 have A : xF c.L p sep i = _ := P.bind_ok l; have s1 := f.size; go_wp2_with fail; go_at_call 113; refine (xB c _ K d xd _ rfl (by decide) M).mono ?_; rintro e w2 ⟨O,R,B,rfl,s,H,U⟩; have m := A.trans (P.bind_ok B); have C := zb f s; have s2 := s.size; cases O
 ·go_wp2_with fail
  go_at_call 116; refine (fH c _ R d (fun _ => True) g #[.pointer (some ⟨c.pb,0,none⟩)] #[] p sep sb hsb hsep H trivial (by simpa using z.out)).mono ?_; rintro e w3 (⟨x3,n,t,j⟩ | ⟨V,X,v3,n,rfl,⟨D,u⟩,j,Y,Z⟩)
  ·obtain ⟨q,rfl,-⟩ := id t; exact ⟨rfl,Steps.err (m.trans (P.bind_err n)) t C j⟩
  have x := m.trans (P.bind_ok n); have I := zb C j; have s3 := j.size; go_wp2_with fail; go_at_call 60; refine (zI c _ X d xd _ rfl (by decide) Y).mono ?_; rintro e w4 (⟨x4,o,y,b⟩ | ⟨a4,j4,v4,o,rfl,-,b,p4,a0⟩)
  ·obtain ⟨q,rfl,-⟩ := id y; exact ⟨rfl,Steps.err (x.trans (P.bind_err o)) y I b⟩
  have E := x.trans (P.bind_ok o); have s4 := b.size; have F := D.call b (by omega); go_wp2
  go_ret
  exact Steps.ok (a := V) E ⟨F.wide (by omega) (by omega),u⟩ (zb I b) p4 (by omega)
 ·go_wp2
  go_ret
  exact Steps.ok (a := []) m ⟨LR.nil _ _,by simp⟩ C H (by omega)
theorem lT {L : List Tok} {p : P T} {f j : Nat} {acc : List T} (h : zF (wd L j) = false) (hf : 0 < f) : yR L p f acc j = .ok (acc,j) := by
 obtain ⟨b,rfl⟩ : ∃ b,f = b + 1 := ⟨f - 1,by omega⟩; rw [yR]
 exact if_neg (by rw [h]; decide)
theorem fN {L : List Tok} {p : P T} {f j : Nat} {acc : List T} (h : zF (wd L j) = true) (hf : 0 < f) : yR L p f acc j = (p.bind fun t => (zx L zE).bind fun _ => yR L p (f - 1) (acc ++ [t])) j := by
 obtain ⟨b,rfl⟩ : ∃ b,f = b + 1 := ⟨f - 1,by omega⟩; rw [yR]
 exact if_pos h
theorem pX {L : List Tok} {x : List UInt8} {i j : Nat} {u : Unit} (h : zx L x i = .ok (u,j)) : j = i + 1 := by
 unfold zx at h
 split at h
 ·cases h; rfl
 ·cases h
theorem ji (c : PC) (w : World) (i d : Nat) (g : Nat) (p : P T) (h : PS c w i d) (hp : Part c d (fun _ => True) g #[.pointer (some ⟨c.pb,0,none⟩)] p) :
  Calls Tryz.prog 119 #[.pointer (some ⟨c.pb,0,none⟩),.func (.func g) #[.pointer (some ⟨c.pb,0,none⟩)] #[]] w (Steps c w i d (fun w' ts v => LR w' (In w.heap.size w'.heap.size) ts v /\ ts.length <= 5001) (yR c.L p (c.L.length + 1) [] i)) := by
 have HP := za h; have HL := za h.low; have U := h.lt; have a3 := h.good.few; have a4 := hp.ent; have X := za hp; have S0 := za (SI.mk (c := c) (w := w) (i := i) (d := d) (r := yR c.L p (c.L.length + 1) [] i) (q := yR c.L p) (f := c.L.length + 1) (j := i) (acc := []) (lo := w.heap.size) (wr := w) (v := .slice none 0 0) (LR.nil _ _) h (zl _ _) rfl (by omega) (by simp) (Nat.le_refl _) (Nat.le_refl _) (Nat.le_refl _)); clear h hp
 go_enter Tryz.func119,Tryz.ntmps119
 go_wp2_with fail
 go_loopw [5] (fun v wr => ∃ acc j f lo,Hid (SI c w i d (yR c.L p (c.L.length + 1) [] i) (yR c.L p) v wr acc j f lo)) (fun _ wr => c.L.length - atOf wr c.pb)
 case atStart => exact ⟨_,_,_,_,S0⟩
 case round =>
  obtain ⟨acc,j,f,lo,HS⟩ := hrel; clear S0; have l := HS.out; have I := l.ps; have J := l.low; have a5 := l.low2; have a7 := l.len; have a8 := l.fuel; have a9 := l.le; have b0 := l.ps.il; obtain ⟨ad,cp,rfl⟩ := l.lr.form; have Y := za l.lr; have HG := za l.gb; have A := za l.same; have B := za I; clear l HS I; go_wp2_with fail; go_at_call 114; refine (uO c _ j d B.out).mono ?_; rintro e Z ⟨rfl,s⟩; have s2 := s.size; have G2 : w.grownBy Z (some c.pb) := zb HG.out (zJ s _); have m : LR Z (In lo wr.heap.size) acc (.slice ad acc.length cp) := Y.out.grown s; have p2 : PS c Z j d := B.out.kept s; cases C : zF (wd c.L j)
  ·go_wp2
   go_ret
   exact Steps.ok (A.out.trans (lT C (by omega))) ⟨m.wide J s2,by omega⟩ G2 p2 (by omega)
  ·go_wp2_with fail
   refine (X.out.call _ j p2 trivial).mono ?_; rintro e w3 (⟨x3,D,K,n⟩ | ⟨⟨k3,n3,m3,q3,V⟩,j3,v3,D,rfl,⟨b1,rfl,u⟩,n,p3,b2⟩)
   ·obtain ⟨q,rfl,-⟩ := id K; exact ⟨rfl,Steps.err ((A.out.trans (fN C (by omega))).trans (P.bind_err D)) K G2 n⟩
   simp only [T.kind,T.name,T.num,T.at',T.subs] at u ⊢; obtain ⟨E,F,rfl⟩ := u.form; have s3 := n.size; have G3 := zb G2 n; have m : LR w3 (In lo wr.heap.size) acc (.slice ad acc.length cp) := m.call n (by omega); have M := LR.build1 w3 (cs := #[.int .i64 k3,.string ⟨n3.toArray⟩,.int .i64 m3,.int .i64 q3,.slice E V.length F]) (t := T.mk k3 n3 m3 q3 V) (sv := .slice E V.length F) u rfl rfl s3; have y : yR c.L p (c.L.length + 1) [] i = _ := (A.out.trans (fN C (by omega))).trans (P.bind_ok D); have N := za (m.alloc (.cells #[.int .i64 k3,.string ⟨n3.toArray⟩,.int .i64 m3,.int .i64 q3,.slice E V.length F] 28)); have a0 := za M; have b3 := p3.il; clear m u M
   go_wp2_with (at_builtin; refine fS rfl _ _ rfl rfl rfl N.out a0.out (by omega) (by omega) (by simp; omega) (by simp) (by simp; omega) ?_; intro v5 w5 a1 H)
   have z := N.out.rows; have p5 : PS c w5 j3 d := PS.own (p3.alloc _) HL.out H (fun b U => by have := z b U; omega); have G5 : w.grownBy w5 (some c.pb) := vY (zf G3 _) H (fun b U => by have := z b U; omega); have s5 := H.size
   simp at s5
   go_at_call 60; refine (zI c _ j3 d zE _ rfl (by decide) p5).mono ?_; rintro e w6 (⟨x6,x,O,o⟩ | ⟨a6,j6,v6,x,rfl,-,o,p6,b4⟩)
   ·obtain ⟨q,rfl,-⟩ := id O; exact ⟨rfl,Steps.err (y.trans (P.bind_err x)) O G5 o⟩
   have R : yR c.L p (c.L.length + 1) [] i = _ := y.trans (P.bind_ok x); have b5 := pX x; have s6 := o.size; have a2 := a1.call o (by omega); go_wp2; refine ⟨⟨_,j6,f - 1,lo,SI.mk (a2.wide (Nat.le_refl _) (by omega)) p6 (zb G5 o) R (by omega) (by simp only [List.length_append,List.length_singleton]; omega) (by omega) J (by omega)⟩,?_⟩; rw [p6.atOf,B.out.atOf]
   omega
set_option maxRecDepth 1000000
theorem zal (s : ByteArray) (w : World) (hs : s.size <= maxLen) (hd : ∀ h : 0 < s.size,zs ((s[0]'h).toNat : Int) = false /\ (s[0]'h).toNat < 128) :
  Calls Tryz.prog 109 #[.string s] w fun e w' => e = .returned (.tuple #[.int .i64 0,.bool false]) /\ w.grownBy w' none := by
 unfold maxLen at hs
 have d := za hd; clear hd
 go_enter Tryz.func109,Tryz.ntmps109
 go_wp2
 go_loopw [2] (fun v wr => wr = w.iter s 0 /\ v = .int .i64 0) (fun _ _ => 0)
 case atStart => exact ⟨rfl,rfl⟩
 case round =>
  obtain ⟨rfl,rfl⟩ := hrel
  by_cases b : 0 < s.size
  ·obtain ⟨f,_⟩ := jC d b
   have g : ∀ ty,(Instr.next (.pointer (some ⟨w.heap.size,0,none⟩)) true ty).run Tryz.prog (w.iter s 0) = _ := fun ty => run_next_ascii w s 0 ty b (by omega)
   clear d
   go_wp2_with (go_at_call 108; refine (vg _ _).mono ?_; rintro e w' ⟨rfl,rfl⟩; simp only [f])
   go_ret2
   exact ⟨rfl,vz w s _⟩
  ·have g : ∀ ty,(Instr.next (.pointer (some ⟨w.heap.size,0,none⟩)) true ty).run Tryz.prog (w.iter s 0) = _ := fun ty => run_next_end w s 0 ty b
   have i : (s.toList == []) = true := by
    rw [jG]
    have : s.data.toList.length = 0 := by rw [<- zT]; omega
    cases h : s.data.toList with
    | nil => rfl
    | cons a l => rw [h] at this; simp at this
   clear d; go_wp2
   go_ret2
   exact ⟨rfl,vz w s _⟩
theorem zch (s : ByteArray) (h : 0 < s.size) : s.data.toList.headD 0 = s[0] := (gE s h).1
theorem dO (c : PC) (w : World) (i d : Nat) (h : PS c w i d) :
    Calls Tryz.prog 165 #[.pointer (some ⟨c.pb,0,none⟩)] w (Steps c w i d (fun _ n v => v = .int .i64 n) (qd c.L i)) := by
  have l := za h; have z := h.good.short i
  by_cases b : wd c.L i ≠ [] /\ zs (((wd c.L i).headD 0).toNat : Int) = true
  · obtain ⟨n,o⟩ := h.good.val i b.1 b.2
    have r := za (h.good.dig i b.2)
    have s : Hid (qd c.L i = .ok (n,i + 1)) := by
      show qd c.L i = _
      unfold qd ku
      rw [if_pos b,o]
    have A := za b.1; have B := za o; have t : (wd c.L i).isEmpty = false := jM b.1; clear h b o
    go_enter Tryz.func165,Tryz.ntmps165
    go_wp2_with (first
      | (go_at_call 29; refine (vx c _ i d l.out).mono ?_; rintro e C ⟨rfl,m,rfl⟩)
      | (go_at_call 109; refine (dG ⟨(wd c.L i).toArray⟩ _ (by unfold maxLen; simp [ByteArray.size]; omega) (by simpa using t) (fun j hj => r.out _ (by simp [ByteArray.getElem_eq_getElem_data]))).mono ?_; rintro e D ⟨x,g⟩; rw [show (ByteArray.mk (wd c.L i).toArray).data.toList = wd c.L i from by simp,B.out] at x; subst x; simp only [fF])
      | (go_at_call 115; refine (uK c _ i d ((l.out.drewN _).kept g) A.out).mono ?_; rintro e E ⟨rfl,f,F⟩))
    go_ret
    exact Steps.ok s.out rfl (zb (zJ (zb (zy (zl _ _) _) g) _) f) F (by omega)
  · have s : Hid (qd c.L i = .error (xw c.L i)) := by
      show qd c.L i = _
      unfold qd ku
      rw [if_neg b]
    have r : Hid (∀ h : 0 < (ByteArray.mk (wd c.L i).toArray).size,zs (((ByteArray.mk (wd c.L i).toArray)[0]'h).toNat : Int) = false /\ ((ByteArray.mk (wd c.L i).toArray)[0]'h).toNat < 128) := by
      intro u; have e := zch _ u; have H := h.good.low i; simp only [] at e; rw [<- e]; refine ⟨?_,by simpa using H⟩; cases I : zs (((wd c.L i).headD 0).toNat : Int)
      · simp only
      · refine absurd ⟨?_,I⟩ b
        intro J; rw [J] at u
        simp [ByteArray.size] at u
    clear h b
    go_enter Tryz.func165,Tryz.ntmps165
    go_wp2_with (first
      | (go_at_call 29; refine (vx c _ i d l.out).mono ?_; rintro e C ⟨rfl,m,rfl⟩)
      | (go_at_call 109; refine (zal ⟨(wd c.L i).toArray⟩ _ (by unfold maxLen; simp [ByteArray.size]; omega) r.out).mono ?_; rintro e D ⟨rfl,g⟩)
      | (go_at_call 30; refine (jR c _ i d ((l.out.drewN _).kept g)).mono ?_; rintro e E ⟨y,f⟩; have K := za y; obtain ⟨q,rfl,-⟩ := y))
    exact ⟨rfl,Steps.err s.out K.out (zJ (zb (zy (zl _ _) _) g) _) (zJ f _)⟩
theorem dV (c : PC) (w : World) (i d : Nat) (x : List UInt8) (sb : ByteArray) (hsb : sb.data.toList = x) (hx : x ≠ []) (h : PS c w i d) :
  Calls Tryz.prog 69 #[.pointer (some ⟨c.pb,0,none⟩),.string sb] w (Steps c w i d (fun _ _ _ => True) (uN c.L x i)) := by
 have o := za h; clear h
 go_enter Tryz.func69,Tryz.ntmps69
 go_wp2_with fail; go_at_call 60; refine (zI c _ i d yD _ rfl (by decide) o.out).mono ?_; rintro e y (⟨z,f,l,b⟩ | ⟨A,r,B,f,rfl,-,b,s,t⟩)
 ·obtain ⟨q,rfl,-⟩ := id l; exact ⟨rfl,Steps.err (P.bind_err f) l (zl _ _) b⟩
 have m : uN c.L x i = _ := P.bind_ok f; go_wp2_with fail; go_at_call 60; refine (zI c _ r d x _ hsb hx s).mono ?_; rintro e C (⟨D,g,n,j⟩ | ⟨E,F,H,g,rfl,-,j,u,v⟩)
 ·obtain ⟨q,rfl,-⟩ := id n; exact ⟨rfl,Steps.err (m.trans g) n b j⟩
 go_wp2; refine bodyPost_end (results_none rfl _ _ _) rfl ?_
 exact Steps.ok (m.trans g) trivial (zb b j) u (by omega)
set_option maxHeartbeats 400000
set_option maxRecDepth 100000
def Un (S : Nat -> Prop) (lo hi : Nat) : Nat -> Prop := fun k => S k \/ (lo <= k /\ k < hi)
section
variable {w w' : World} {S : Nat -> Prop} {lo hi lo' hi' b : Nat} {ts : List T} {v : Value}
theorem LR.callU (h : LR w (Un S lo hi) ts v) (hg : w.grownBy w' (some b)) (hb : ¬ S b) (hb2 : b < lo \/ hi <= b) : LR w' (Un S lo hi) ts v :=
 h.kept hg (fun k hk hs => by
  cases hk
  rcases hs with hs | hs
  ·exact hb hs
  ·omega)
theorem LR.wideU (h : LR w (Un S lo hi) ts v) (h1 : lo' <= lo) (h2 : hi <= hi') : LR w (Un S lo' hi') ts v := h.mono (fun k hk => hk.elim .inl (fun h => .inr ⟨by omega,by omega⟩))
theorem LR.inU (h : LR w (In lo hi) ts v) : LR w (Un S lo hi) ts v := h.mono (fun _ hk => .inr hk)
theorem LR.un (h : LR w S ts v) : LR w (Un S lo hi) ts v := h.mono (fun _ hk => .inl hk)
theorem LR.grownU (h : LR w S ts v) (hg : w.grownBy w' none) : LR w' S ts v := h.kept hg (fun _ hk => by cases hk)
theorem LR.buildS (w : World) {cs : Array Value} {svs : List Value} {g n : Nat} (hg : g = w.heap.size) (hn : n = ts.length) (hc : cs.toList = uA ts svs) (hl : svs.length = ts.length) (hlen : ts.length <= 5000) (hS : ∀ k,S k -> k < g)
  (hs : ∀ (i : Nat) (t : T) (sv : Value),ts[i]? = some t -> svs[i]? = some sv -> LR w S t.subs sv) : LR (w.alloc (.cells cs 28)) (fun k => S k \/ k = g) ts (.slice (some ⟨g,0,none⟩) n n) := by
 subst hg hn
 have d : cs.size = ts.length * 5 := by rw [<- Array.length_toList,hc,vb _ _ hl]
 refine .mk _ _ _ svs hl ⟨vb _ _ hl,.inr ⟨w.heap.size,ts.length,cs,rfl,Nat.zero_le _,heap_alloc_new w _,Nat.le_refl _,by unfold maxLen; omega,d,?_⟩⟩ (fun b hb => ?_) (fun i t sv h1 h2 => ?_)
 ·rw [hc,<- vb _ _ hl,List.take_length]
 ·cases hb
  exact .inr rfl
 ·refine ((hs i t sv h1 h2).grownU (World.grownBy_alloc w _ none)).mono (fun k hk => ⟨.inl hk,fun e => ?_⟩)
  have f := hS k hk
  simp [Value.ownBlock] at e
  omega
theorem LR.build1S (w : World) {t : T} {sv : Value} {g : Nat} {cs : Array Value} (h : LR w S t.subs sv) (hS : ∀ k,S k -> k < g) (hg : g = w.heap.size) (hc : cs.toList = vT t sv) :
  LR (w.alloc (.cells cs 28)) (fun k => S k \/ k = g) [t] (.slice (some ⟨g,0,none⟩) 1 1) :=
 LR.buildS w (svs := [sv]) hg rfl hc rfl (by simp) hS (fun i t' sv' h1 h2 => by
  match i,h1,h2 with
  | 0,h1,h2 => cases h1; cases h2; exact h)
theorem LR.build2S (w : World) {t t2 : T} {sv sv2 : Value} {g : Nat} {cs : Array Value} (h : LR w S t.subs sv) (h2 : LR w S t2.subs sv2) (hS : ∀ k,S k -> k < g) (hg : g = w.heap.size) (hc : cs.toList = vT t sv ++ vT t2 sv2) :
  LR (w.alloc (.cells cs 28)) (fun k => S k \/ k = g) [t,t2] (.slice (some ⟨g,0,none⟩) 2 2) :=
 LR.buildS w (svs := [sv,sv2]) hg rfl hc rfl (by simp) hS (fun i t' sv' h3 h4 => by
  match i,h3,h4 with
  | 0,h3,h4 => cases h3; cases h4; exact h
  | 1,h3,h4 => cases h3; cases h4; exact h2)
end
theorem gd (w : World) (sign : List UInt8) (left right : T) (S : Nat -> Prop) (svl svr : Value) (hl : LR w S left.subs svl) (hr : LR w S right.subs svr) (hS : ∀ k,S k -> k < w.heap.size) :
  Calls Tryz.prog 164 #[.string ⟨sign.toArray⟩,.agg #[.int .i64 left.kind,.string ⟨left.name.toArray⟩,.int .i64 left.num,.int .i64 left.at',svl],.agg #[.int .i64 right.kind,.string ⟨right.name.toArray⟩,.int .i64 right.num,.int .i64 right.at',svr]] w
   fun e w' => ∃ sv,e = .returned (.agg #[.int .i64 36,.string ⟨sign.toArray⟩,.int .i64 0,.int .i64 left.at',sv]) /\ LR w' (Un S w.heap.size w'.heap.size) [left,right] sv /\ w.grownBy w' none := by
 obtain ⟨h,i,j,l,m⟩ := left; obtain ⟨n,o,r,s,u⟩ := right; simp only [T.kind,T.name,T.num,T.at',T.subs] at hl hr ⊢; obtain ⟨_,_,rfl⟩ := hl.form; obtain ⟨_,_,rfl⟩ := hr.form; have f := za hl; have g := za hr; clear hl hr
 go_enter Tryz.func164,Tryz.ntmps164
 go_wp2; refine zn Tryz.results164 rfl (NB.alloc (NB.new' (by simp)) _) rfl ⟨_,rfl,?_,?_⟩
 ·refine LR.mono (LR.build2S _ (t := T.mk h i j l m) (t2 := T.mk n o r s u) (S := S) (((f.out.grownU (World.grownBy_alloc _ _ none)).grownU (World.grownBy_alloc _ _ none)).grownU (World.grownBy_alloc _ _ none))
   (((g.out.grownU (World.grownBy_alloc _ _ none)).grownU (World.grownBy_alloc _ _ none)).grownU (World.grownBy_alloc _ _ none)) (fun k d => Nat.lt_of_lt_of_le (hS k d) (by omega)) (by simp) rfl) ?_
  intro k d
  rcases d with d | rfl
  ·exact .inl d
  ·exact .inr ⟨by omega,by simp⟩
 ·exact zf (zf (zf (zf (zl _ _) _) _) _) _
theorem pw (x : List UInt8) (w : World) : Calls Tryz.prog 178 #[.string ⟨x.toArray⟩] w fun e w' => e = .returned (.bool (kZ x)) /\ w' = w := by
 unfold kZ
 go_enter Tryz.func178,Tryz.ntmps178
 go_wp2
 all_goals go_ret
 all_goals
  refine ⟨?_,rfl⟩
  simp_all [zc7,vd,kOR]
theorem tt (x : List UInt8) (w : World) : Calls Tryz.prog 192 #[.string ⟨x.toArray⟩] w fun e w' => e = .returned (.bool (xp x)) /\ w' = w := by
 unfold xp
 go_enter Tryz.func192,Tryz.ntmps192
 go_wp2
 all_goals go_ret
 all_goals
  refine ⟨?_,rfl⟩
  simp_all [qz,zin,zh5,zfj]
theorem pm (x : List UInt8) (w : World) : Calls Tryz.prog 163 #[.string ⟨x.toArray⟩] w fun e w' => e = .returned (.bool (xE x)) /\ w' = w := by
 unfold xE
 go_enter Tryz.func163,Tryz.ntmps163
 go_wp2
 all_goals go_ret
 all_goals
  refine ⟨?_,rfl⟩
  simp_all [qO,zc8,zic,zh7,ziz,zi2]
theorem tA (c : PC) (w : World) (i d : Nat) (h : PS c w i d) : Calls Tryz.prog 194 #[.pointer (some ⟨c.pb,0,none⟩)] w fun e w' => e = .returned (.bool (yb (wd c.L i))) /\ w.grownBy w' none := by
 have f := za h; clear h
 unfold yb
 go_enter Tryz.func194,Tryz.ntmps194
 go_wp2_with fail; go_at_call 29; refine (vx c _ i d f.out).mono ?_; rintro e g ⟨rfl,n,rfl⟩; go_wp2
 all_goals go_ret
 all_goals
  refine ⟨?_,zy (zl _ _) _⟩
  simp_all [vG,pn,gR,np]
theorem kn (c : PC) (w : World) (i d : Nat) (h : PS c w i d) : Calls Tryz.prog 169 #[.pointer (some ⟨c.pb,0,none⟩)] w fun e w' => e = .returned (.bool (yF (wd c.L i))) /\ w.grownBy w' none := by
 have f := za h; clear h
 unfold yF
 go_enter Tryz.func169,Tryz.ntmps169
 go_wp2_with fail; go_at_call 29; refine (vx c _ i d f.out).mono ?_; rintro e g ⟨rfl,n,rfl⟩; go_wp2
 all_goals go_ret
 all_goals
  refine ⟨?_,zy (zl _ _) _⟩
  simp_all [zE,yD,jf,qM,jq]
set_option maxHeartbeats 1000000
structure CI (c : PC) (w : World) (i d : Nat) (S0 : Nat -> Prop) (r : Except (Int × Int) (T × Nat)) (q : Nat -> T -> P T) (wr : World) (k : Int) (s : List UInt8) (n a : Int) (l : List T) (sv : Value) (j f : Nat) : Prop where
 nb : NB wr w.heap.size (.int .i64 k) (.string ⟨s.toArray⟩) (.int .i64 n) (.int .i64 a) sv
 rb : RB wr (w.heap.size + 1)
 lr : LR wr (Un S0 (w.heap.size + 2) wr.heap.size) l sv
 ps : PS c wr j d
 gb : w.grownBy wr (some c.pb)
 same : r = q f (.mk k s n a l) j
 le : i <= j
theorem zbs {L : List Tok} {joins : List UInt8 -> Bool} {p : P T} {f j : Nat} {t : T} (h : joins (wd L j) = false) : yO L joins p f t j = .ok (t,j) := by
 cases f <;> (rw [yO]; exact if_neg (by rw [h]; decide))
theorem aO {L : List Tok} {joins : List UInt8 -> Bool} {p : P T} {f j : Nat} {t : T} (h : joins (wd L j) = true) : yO L joins p (f + 1) t j = (p.bind fun r => yO L joins p f (opT (wd L j) t r)) (j + 1) := by
 rw [yO]
 exact if_pos h
theorem iB {L : List Tok} {joins : List UInt8 -> Bool} {p : P T} {j : Nat} {t : T} (h : joins (wd L j) = true) : yO L joins p 0 t j = .error (3,pos L (j + 1)) := by
 rw [yO]
 exact if_pos h
theorem gT (c : PC) (w : World) (i d : Nat) (joins : List UInt8 -> Bool) (jg : Nat) (g : Nat) (p : P T) (S0 : Nat -> Prop) (left : T) (svl : Value) (h : PS c w i d) (hl : LR w S0 left.subs svl) (hS : ∀ k,S0 k -> k < w.heap.size /\ k ≠ c.pb)
    (hp : Part c d (fun _ => True) g #[.pointer (some ⟨c.pb,0,none⟩)] p) (hj : ∀ (x : List UInt8) (w : World),Calls Tryz.prog jg #[.string ⟨x.toArray⟩] w fun e w' => e = .returned (.bool (joins x)) /\ w' = w)
    (hje : ∀ (args : Array Value) (w : World),(callFunc jg args).run Tryz.prog w = .ok (.enter jg args) w) (hjn : joins [] = false) :
    Calls Tryz.prog 176 #[.pointer (some ⟨c.pb,0,none⟩),.agg #[.int .i64 left.kind,.string ⟨left.name.toArray⟩,.int .i64 left.num,.int .i64 left.at',svl],.func (.func jg) #[] #[],.func (.func g) #[.pointer (some ⟨c.pb,0,none⟩)] #[]] w
      (Steps c w i d (fun w' t v => ∃ sv,v = .agg #[.int .i64 t.kind,.string ⟨t.name.toArray⟩,.int .i64 t.num,.int .i64 t.at',sv] /\ LR w' (Un S0 w.heap.size w'.heap.size) t.subs sv) (yO c.L joins p 20 left i)) := by
  obtain ⟨k0,n0,m0,q0,l0⟩ := left; simp only [T.kind,T.name,T.num,T.at',T.subs] at hl ⊢; obtain ⟨b4,b5,rfl⟩ := hl.form; have HP := za h; have HL := za h.low; have hb := h.lt; have c1 := h.good.few; have c2 := hp.ent; have b6 := za hp; have HJ := za hj; have HS := za hS; have a0 := za hl
  have a1 : ¬ S0 c.pb := fun e => (hS _ e).2 rfl
  have y : ¬ S0 w.heap.size := fun e => by have := (hS _ e).1; omega
  have z : ¬ S0 (w.heap.size + 1) := fun e => by have := (hS _ e).1; omega
  clear h hp hj hS hl
  go_enter Tryz.func176,Tryz.ntmps176
  go_wp2_with fail
  go_loopw [9] (fun v wr => ∃ (k : Int) (s : List UInt8) (n a : Int) (l : List T) (sv : Value) (j f : Nat),f <= 20 /\ v = .int .i64 (21 - (f : Int)) /\ Hid (CI c w i d S0 (yO c.L joins p 20 (.mk k0 n0 m0 q0 l0) i) (yO c.L joins p) wr k s n a l sv j f)) (fun v _ => 22 - (intOf v).toNat)
  case atStart =>
    refine ⟨k0,n0,m0,q0,l0,.slice b4 l0.length b5,i,20,by omega,rfl,CI.mk ((NB.alloc (NB.new' (by simp)) _)) ((RB.new' (by simp))) ?_ (PS.alloc (PS.alloc HP.out _) _) (zf ga _) rfl (Nat.le_refl _)⟩
    exact ((a0.out.un).grownU (World.grownBy_alloc _ _ none)).grownU (World.grownBy_alloc _ _ none)
  case round =>
    obtain ⟨k,s,n,a,l,sv,j,f,_,rfl,HC⟩ := hrel; clear a0; have D := HC.out; obtain ⟨ad,cp,rfl⟩ := D.lr.form; have K := za D.nb; have E := za D.rb; have M := za D.lr; have N := za D.ps; have HG := za D.gb; have O := za D.same; have b7 := D.le; have c3 := D.rb.lt; clear D HC; go_wp2_with fail; go_at_call 29; refine (vx c _ j d N.out).mono ?_; rintro e w1 ⟨rfl,m,rfl⟩; go_wp2_with fail; refine (HJ.out (wd c.L j) _).mono ?_; rintro e w2 ⟨rfl,rfl⟩; cases A : joins (wd c.L j)
    · obtain ⟨x0,x1,x2,x3,x4,xz⟩ := K.out.drewN m
      obtain ⟨_,_,_,_,_,y0,y1,y2,y3,y4,yz⟩ := E.out.drewN m; go_wp2; refine zn Tryz.results176 rfl (RB.five ?_) rfl ?_
      · exact E.out.drewN m
      refine Steps.ok (a := T.mk k s n a l) (O.out.trans (zbs A)) ⟨_,rfl,?_⟩ ?_ ?_ b7
      · refine LR.wideU (lo := w.heap.size + 2) (hi := wr.heap.size) ?_ (by omega) (by simp)
        have h5 := (M.out.grownU (zy grn m))
        exact ((((h5.callU (yU (zl _ _) _ _) z (by omega)).callU (yU (zl _ _) _ _) z (by omega)).callU (yU (zl _ _) _ _) z (by omega)).callU (yU (zl _ _) _ _) z (by omega)).callU (yU (zl _ _) _ _) z (by omega)
      · exact zS (zy HG.out _) (by omega)
      · exact PS.p5 (PS.drewN N.out _) HL.out (by omega)
    · have b8 : wd c.L j ≠ [] := by
        intro e; rw [e,hjn] at A; cases A
      go_wp2_with fail; go_at_call 115; refine (uK c _ j d (N.out.drewN m) b8).mono ?_; rintro e w3 ⟨rfl,o,p3⟩; have s3 := o.size; have G3 : w.grownBy w3 (some c.pb) := zb (zy HG.out m) o; have R := (K.out.drewN m).kept o (by simp; omega); have U := (E.out.drewN m).kept o (by simp; omega); have a2 := (M.out.grownU (zy grn m)).callU o a1 (by omega)
      simp at s3
      have b9 := U.lt; have a3 := za R; have a4 := za U; have a5 := za a2; have a6 := za p3; have V := za G3; obtain ⟨x0,x1,x2,x3,x4,xz⟩ := id R; clear R U a2 p3 G3 K E M HG o; cases f with
      | zero =>
        have hx : decide ((20 : Int) < 21 - ((0 : Nat) : Int)) = true := by decide
        go_wp2_with fail; go_at_call 70; refine (kp c _ (j + 1) d 3 a6.out).mono ?_; rintro e F ⟨B,b⟩; have HT := B; obtain ⟨q,rfl,-⟩ := B
        exact ⟨rfl,Steps.err (O.out.trans (iB A)) HT V.out (zJ b _)⟩
      | succ f =>
        have hx : decide ((20 : Int) < 21 - ((f + 1 : Nat) : Int)) = false := by simp; omega
        have HR : Hid (yO c.L joins p 20 (T.mk k0 n0 m0 q0 l0) i = (p.bind fun r => yO c.L joins p f (opT (wd c.L j) (T.mk k s n a l) r)) (j + 1)) := O.out.trans (aO A); go_wp2_with fail
        go_region_with (first
          | (refine (b6.out.call _ (j + 1) (a6.out.drewN _) trivial).mono ?_
             rintro e F (⟨x4,u,B,b⟩ | ⟨⟨k4,n4,m4,q4,Z⟩,j4,v4,u,rfl,⟨c4,rfl,H⟩,b,p4,X⟩)
             focus
               have HT := B; obtain ⟨q,rfl,-⟩ := B
               exact ⟨rfl,Steps.err (HR.out.trans (P.bind_err u)) HT (zy V.out _) b⟩
             simp only [T.kind,T.name,T.num,T.at',T.subs] at H ⊢; obtain ⟨a7,a8,rfl⟩ := H.form; have Y := NB.kept (a3.out.drewN _) b (by simp; omega); have a9 := RB.kept (a4.out.drewN _) b (by simp; omega); have s4 := b.size
             simp at s4
             have H1 : LR F (Un S0 (w.heap.size + 2) F.heap.size) l (.slice ad l.length cp) := ((a5.out.grownU (zy grn _)).callU b a1 (by omega)).wideU (Nat.le_refl _) (by omega); have H2 : LR F (Un S0 (w.heap.size + 2) F.heap.size) Z (.slice a7 Z.length a8) := LR.inU (H.wide (by simp; omega) (Nat.le_refl _))
             have H3 : ∀ k,Un S0 (w.heap.size + 2) F.heap.size k -> k < F.heap.size := fun k I => I.elim (fun h => by have := (HS.out k h).1; omega) (fun h => h.2)
             have G4 : w.grownBy F (some c.pb) := zb (zy V.out _) b; obtain ⟨_,_,_,_,_,_⟩ := id Y; have J := za (And.intro H1 (And.intro H2 (And.intro H3 (And.intro G4 (And.intro Y (And.intro a9 (And.intro p4 (And.intro u X))))))))
             clear H1 H2 H3 G4 Y a9 p4 u X H b)
          | (go_at_call 164
             refine (gd _ (wd c.L j) (T.mk k s n a l) (T.mk k4 n4 m4 q4 Z) (Un S0 (w.heap.size + 2) F.heap.size) (.slice ad l.length cp) (.slice a7 Z.length a8) J.out.1 J.out.2.1 J.out.2.2.1).mono ?_; simp only [T.at']; rintro e w5 ⟨c5,rfl,b0,C⟩; obtain ⟨b1,b2,rfl⟩ := b0.form; have b3 := J.out.2.2.2.2.1.kept C (by simp)
             obtain ⟨y0,y1,y2,y3,y4,yz⟩ := id b3))
        all_goals
          go_wp2; have c0 := J.out.2.2.2.2.2.1.kept C (by simp); have p5 := J.out.2.2.2.2.2.2.1.kept C; have G5 : w.grownBy w5 (some c.pb) := zb J.out.2.2.2.1 (zJ C _); have u := J.out.2.2.2.2.2.2.2.1; have X := J.out.2.2.2.2.2.2.2.2; have s5 := C.size; refine ⟨⟨36,wd c.L j,0,a,[T.mk k s n a l,T.mk k4 n4 m4 q4 Z],.slice b1 2 b2,j4,f,by omega,by simp; omega,CI.mk ((NB.s4 (NB.s3 (NB.s2 (NB.s1 (NB.s0 b3 _) _) _) _) _)) ((RB.p5 c0)) ?_ ((PS.p5 p5 HL.out (by omega))) ((zS G5 (by omega))) (HR.out.trans (P.bind_ok u)) (by omega)⟩,?_⟩
          · have h5 : LR w5 (Un S0 (w.heap.size + 2) w5.heap.size) [T.mk k s n a l,T.mk k4 n4 m4 q4 Z] (.slice b1 2 b2) := b0.mono (fun k I => by
              rcases I with (I | I) | I
              · exact .inl I
              · exact .inr ⟨I.1,by omega⟩
              · exact .inr ⟨by omega,I.2⟩)
            refine LR.wideU (lo := w.heap.size + 2) (hi := w5.heap.size) ?_ (by omega) (by simp)
            exact ((((h5.callU (yU (zl _ _) _ _) y (by omega)).callU (yU (zl _ _) _ _) y (by omega)).callU (yU (zl _ _) _ _) y (by omega)).callU (yU (zl _ _) _ _) y (by omega)).callU (yU (zl _ _) _ _) y (by omega)
          · simp [intOf]
            omega
set_option maxHeartbeats 400000
abbrev ExprOK (c : PC) (d : Nat) (E : P T) : Prop := Part c d (fun _ => True) 121 #[.pointer (some ⟨c.pb,0,none⟩)] E
def NegOK (c : PC) (d : Nat) (F : P T) : Prop := ∀ (w : World) (i : Nat),PS c w i d -> Calls Tryz.prog 148 #[.pointer (some ⟨c.pb,0,none⟩),.func (.func 191) #[.pointer (some ⟨c.pb,0,none⟩)] #[]] w (Steps c w i d (fun w' t v => TR w' w.heap.size w'.heap.size t v) (F i))
theorem ql (c : PC) (w : World) (i d : Nat) (k : Int) (h : PS c w i d) (hne : wd c.L i ≠ []) :
  Calls Tryz.prog 199 #[.pointer (some ⟨c.pb,0,none⟩),.int .i64 k] w (Steps c w i d (fun w' t v => TR w' w.heap.size w'.heap.size t v) ((P.ret (T.mk k [] 0 (pos c.L i) [])) (i + 1))) := by
 have u := za h; have x := za h.low; have E := h.lt; clear h
 go_enter Tryz.func199,Tryz.ntmps199
 go_wp2_with fail; go_at_call 59; refine (yA c _ i d k (PS.alloc u.out _)).mono ?_; rintro e m ⟨rfl,b⟩; have y : PS c m i d := PS.kept (PS.alloc u.out _) b; have z : w.grownBy m (some c.pb) := zb ga (zJ b (some c.pb)); have A := b.size
 try simp at A
 have g : RB m w.heap.size := RB.kept (RB.new' (by simp)) b (by simp); have n := g.lt; obtain ⟨_,_,_,_,_,_,_,_,_,_,_⟩ := id g; go_wp2_with fail; go_at_call 115; refine (uK c _ i d (PS.alloc y _) hne).mono ?_; rintro e o ⟨rfl,f,B⟩; have C : w.grownBy o (some c.pb) := zb (zf z _) f; have D := f.size
 try simp at D
 have j : RB o w.heap.size := RB.k (RB.alloc g _) f; have l : NB o m.heap.size (.int .i64 k) (.string ⟨#[]⟩) (.int .i64 0) (.int .i64 (pos c.L i)) (.slice none 0 0) := NB.k (NB.new' (by simp)) f; have r := j.lt; have s := l.lt; obtain ⟨_,_,_,_,_,_,_,_,_,_,_⟩ := id j; obtain ⟨_,_,_,_,_,_⟩ := id l; go_wp2; refine zn Tryz.results199 rfl (RB.five ?_) rfl ?_
 ·exact j
 refine Steps.ok (a := (T.mk k [] 0 (pos c.L i) [])) rfl ⟨_,rfl,?_⟩ ?_ ?_ (by omega)
 ·exact LR.nil _ _
 ·exact zS C (by omega)
 ·exact PS.p5 B x.out (by omega)
theorem tj (c : PC) (w : World) (i d : Nat) (E : P T) (h : PS c w i d) (hE : ExprOK c d E) :
  Calls Tryz.prog 201 #[.pointer (some ⟨c.pb,0,none⟩)] w (Steps c w i d (fun w' t v => TR w' w.heap.size w'.heap.size t v) (((zx c.L yw).bind fun _ => E.bind fun e => (zx c.L xd).bind fun _ => P.ret e) i)) := by
 have HP := za h; have HL := za h.low; have hb := h.lt; clear h
 go_enter Tryz.func201,Tryz.ntmps201
 go_wp2_with fail; go_at_call 60; refine (zI c _ i d yw _ rfl (by decide) (PS.alloc HP.out _)).mono ?_; rintro e w1 (⟨x1,l,u,f⟩ | ⟨a1,j1,v1,l,rfl,-,f,p1,a0⟩)
 ·obtain ⟨q,rfl,-⟩ := id u; exact ⟨rfl,Steps.err (P.bind_err l) u ga f⟩
 have x : ((zx c.L yw).bind fun _ => E.bind fun e => (zx c.L xd).bind fun _ => P.ret e) i = _ := P.bind_ok l; have U := zb ga f; have s1 := f.size
 try simp at s1
 have m : RB w1 w.heap.size := RB.k (RB.new' (by simp)) f; have I := m.lt; obtain ⟨_,_,_,_,_,_,_,_,_,_,_⟩ := id m; go_wp2_with fail; go_at_call 121; refine (hE.call _ j1 p1 trivial).mono ?_; rintro e V (⟨x2,n,y,g⟩ | ⟨⟨X,Y,Z,q2,F⟩,j2,v2,n,rfl,⟨a2,rfl,j⟩,g,p2,a4⟩)
 ·obtain ⟨q,rfl,-⟩ := id y; exact ⟨rfl,Steps.err (x.trans (P.bind_err n)) y U g⟩
 have z : ((zx c.L yw).bind fun _ => E.bind fun e => (zx c.L xd).bind fun _ => P.ret e) i = _ := x.trans (P.bind_ok n); simp only [T.kind,T.name,T.num,T.at',T.subs] at j ⊢; obtain ⟨A,B,rfl⟩ := j.form; obtain ⟨b2,J,j⟩ := j.nm
 try simp at J
 have G2 := zb U g; have s2 := g.size
 try simp at s2
 have o := RB.k m g; have K := o.lt; obtain ⟨_,_,_,_,_,_,_,_,_,_,_⟩ := id o; go_wp2_with fail; go_at_call 60; refine (zI c _ j2 d xd _ rfl (by decide) (PS.alloc p2 _)).mono ?_; rintro e H (⟨x3,r,C,b⟩ | ⟨a3,j3,v3,r,rfl,-,b,p3,a5⟩)
 ·obtain ⟨q,rfl,-⟩ := id C; exact ⟨rfl,Steps.err (z.trans (P.bind_err r)) C (zf G2 _) b⟩
 have M : ((zx c.L yw).bind fun _ => E.bind fun e => (zx c.L xd).bind fun _ => P.ret e) i = _ := z.trans (P.bind_ok r); have G3 : w.grownBy H (some c.pb) := zb (zf G2 _) b; have s3 := b.size
 try simp at s3
 have s : RB H w.heap.size := RB.k (RB.alloc o _) b; have D : NB H V.heap.size (.int .i64 X) (.string ⟨Y.toArray⟩) (.int .i64 Z) (.int .i64 q2) (.slice A F.length B) := NB.k (NB.new' (by simp)) b; have N : LR H (In b2 V.heap.size) F (.slice A F.length B) := LR.c (LR.alloc j _) b; have O := s.lt; have R := D.lt; obtain ⟨_,_,_,_,_,_,_,_,_,_,_⟩ := id s; obtain ⟨_,_,_,_,_,_⟩ := id D; go_wp2; refine zn Tryz.results201 rfl (RB.five ?_) rfl ?_
 ·exact s
 refine Steps.ok (a := (T.mk X Y Z q2 F)) M ⟨_,rfl,?_⟩ ?_ ?_ (by omega)
 ·exact (LR.p5 N (by omega)).wd
 ·exact zS G3 (by omega)
 ·exact PS.p5 p3 HL.out (by omega)
theorem pe (c : PC) (w : World) (i d : Nat) (F : P T) (h : PS c w i d) (hF : NegOK c d F) :
  Calls Tryz.prog 200 #[.pointer (some ⟨c.pb,0,none⟩)] w (Steps c w i d (fun w' t v => TR w' w.heap.size w'.heap.size t v) (((zx c.L uq).bind fun _ => F.bind fun t => P.ret (T.mk 34 [] 0 (pos c.L i) [t])) i)) := by
 have Y := za h; have Z := za h.low; have hb := h.lt; clear h
 go_enter Tryz.func200,Tryz.ntmps200
 go_wp2_with fail; go_at_call 59; refine (yA c _ i d 34 (PS.alloc Y.out _)).mono ?_; rintro e B ⟨rfl,j⟩; have p1 : PS c B i d := PS.kept (PS.alloc Y.out _) j; have G1 : w.grownBy B (some c.pb) := zb ga (zJ j (some c.pb)); have s1 := j.size
 try simp at s1
 have l : RB B w.heap.size := RB.kept (RB.new' (by simp)) j (by simp); have C := l.lt; obtain ⟨_,_,_,_,_,_,_,_,_,_,_⟩ := id l; go_wp2_with fail; go_at_call 60; refine (zI c _ i d uq _ rfl (by decide) (PS.alloc p1 _)).mono ?_; rintro e D (⟨x2,m,u,b⟩ | ⟨a2,j2,v2,m,rfl,-,b,p2,a0⟩)
 ·obtain ⟨q,rfl,-⟩ := id u; exact ⟨rfl,Steps.err (P.bind_err m) u (zf G1 _) b⟩
 have x : ((zx c.L uq).bind fun _ => F.bind fun t => P.ret (T.mk 34 [] 0 (pos c.L i) [t])) i = _ := P.bind_ok m; have G2 : w.grownBy D (some c.pb) := zb (zf G1 _) b; have s2 := b.size
 try simp at s2
 have n : RB D w.heap.size := RB.k (RB.alloc l _) b; have o : NB D B.heap.size (.int .i64 34) (.string ⟨#[]⟩) (.int .i64 0) (.int .i64 (pos c.L i)) (.slice none 0 0) := NB.k (NB.new' (by simp)) b; have E := n.lt; have H := o.lt; obtain ⟨_,_,_,_,_,_,_,_,_,_,_⟩ := id n; obtain ⟨_,_,_,_,_,_⟩ := id o; go_wp2_with fail; go_at_call 148; refine (hF _ j2 p2).mono ?_; rintro e w3 (⟨x3,r,y,f⟩ | ⟨⟨I,J,K,M,z⟩,j3,v3,r,rfl,⟨a1,rfl,g⟩,f,p3,a3⟩)
 ·obtain ⟨q,rfl,-⟩ := id y; exact ⟨rfl,Steps.err (x.trans (P.bind_err r)) y G2 f⟩
 have N : ((zx c.L uq).bind fun _ => F.bind fun t => P.ret (T.mk 34 [] 0 (pos c.L i) [t])) i = _ := x.trans (P.bind_ok r); simp only [T.kind,T.name,T.num,T.at',T.subs] at g ⊢; obtain ⟨O,R,rfl⟩ := g.form; obtain ⟨b3,U,g⟩ := g.nm
 try simp at U
 have G3 := zb G2 f; have s3 := f.size
 try simp at s3
 have s := RB.k n f; have A := NB.k o f; have V := s.lt; have X := A.lt; obtain ⟨_,_,_,_,_,_,_,_,_,_,_⟩ := id s; obtain ⟨_,_,_,_,_,_⟩ := id A; go_wp2; refine zn Tryz.results200 rfl (NB.alloc (RB.five ?_) _) rfl ?_
 ·exact RB.put s _ _ _
 refine Steps.ok (a := (T.mk 34 [] 0 (pos c.L i) [(T.mk I J K M z)])) N ⟨_,rfl,?_⟩ ?_ ?_ (by omega)
 ·refine LR.wide (lo := b3) (hi := w3.heap.size + 1) (ts := [(T.mk I J K M z)]) ?_ (by omega) (by first | omega | (simp <;> omega))
  exact (LR.build1 _ (t := (T.mk I J K M z)) (sv := .slice O z.length R) (LR.wide (lo := b3) (hi := w3.heap.size) (ts := z) (LR.p5 (LR.put g (by omega) _ _) (by omega)) (by omega) (by first | omega | (simp <;> omega))) (by simp) rfl (by omega))
 ·exact zf (zS (zC G3 (by omega) _ _) (by omega)) _
 ·exact PS.alloc (PS.p5 (PS.put p3 Z.out (by omega) _ _) Z.out (by omega)) _
theorem nc (c : PC) (w : World) (i d : Nat) (E F : P T) (h : PS c w i d) (hX : Part c d (fun _ => True) 191 #[.pointer (some ⟨c.pb,0,none⟩)] (zV c.L E F)) :
  Calls Tryz.prog 177 #[.pointer (some ⟨c.pb,0,none⟩)] w (Steps c w i d (fun w' t v => TR w' w.heap.size w'.heap.size t v) (ur c.L E F i)) := by
 have V := za h; have X := za h.low; have hb := h.lt; clear h
 go_enter Tryz.func177,Tryz.ntmps177
 go_wp2_with fail; go_at_call 191; refine (hX.call _ i (PS.alloc V.out _) trivial).mono ?_; rintro e s (⟨x1,m,u,g⟩ | ⟨⟨Y,Z,m1,q1,B⟩,j1,v1,m,rfl,⟨a0,rfl,f⟩,g,p1,a1⟩)
 ·obtain ⟨q,rfl,-⟩ := id u; exact ⟨rfl,Steps.err (P.bind_err m) u ga g⟩
 have x : ur c.L E F i = _ := P.bind_ok m; simp only [T.kind,T.name,T.num,T.at',T.subs] at f ⊢; obtain ⟨y,z,rfl⟩ := f.form; obtain ⟨C,H,f⟩ := f.nm
 try simp at H
 have R := zb ga g; have s1 := g.size
 try simp at s1
 have n : RB s w.heap.size := RB.k (RB.new' (by simp)) g; have I := n.lt; obtain ⟨_,_,_,_,_,_,_,_,_,_,_⟩ := id n; go_wp2_with fail; go_at_call 176; refine (gT c _ j1 d xp 192 191 (zV c.L E F) (In C s.heap.size) (T.mk Y Z m1 q1 B) (.slice y B.length z) p1 (show LR _ (In C s.heap.size) B (.slice y B.length z) from f) (fun k l => ⟨by have D : k < s.heap.size := l.2; first | omega | (simp <;> omega),by have D : C <= k := l.1; omega⟩) hX tt (enters_of Tryz.func192 (by kernel_rfl) rfl) rfl).mono ?_; rintro e U (⟨x2,o,A,b⟩ | ⟨⟨k2,n2,m2,q2,J⟩,j2,v2,o,rfl,⟨a2,rfl,j⟩,b,p2,a3⟩)
 ·obtain ⟨q,rfl,-⟩ := id A; exact ⟨rfl,Steps.err (x.trans o) A R b⟩
 have K := x.trans o; simp only [T.kind,T.name,T.num,T.at',T.subs] at j ⊢; obtain ⟨M,N,rfl⟩ := j.form
 have j : LR U (In C U.heap.size) J (.slice M J.length N) := j.mono (fun k l => by
  have h9 := b.size
  try simp at h9
  rcases l with l | l
  ·have D : k < s.heap.size := l.2
   exact ⟨l.1,by omega⟩
  ·have D := l.1
   try simp at D
   exact ⟨by omega,l.2⟩)
 have G2 := zb R b; have s2 := b.size
 try simp at s2
 have r := RB.k n b; have a4 := LR.c f b; have O := r.lt; obtain ⟨_,_,_,_,_,_,_,_,_,_,_⟩ := id r; go_wp2; refine zn Tryz.results177 rfl (RB.five ?_) rfl ?_
 ·exact r
 refine Steps.ok (a := (T.mk k2 n2 m2 q2 J)) K ⟨_,rfl,?_⟩ ?_ ?_ (by omega)
 ·exact (LR.p5 j (by omega)).wd
 ·exact zS G2 (by omega)
 ·exact PS.p5 p2 X.out (by omega)
theorem za0 (c : PC) (w : World) (i d : Nat) (E F : P T) (h : PS c w i d) (hX : Part c d (fun _ => True) 177 #[.pointer (some ⟨c.pb,0,none⟩)] (ur c.L E F)) :
  Calls Tryz.prog 162 #[.pointer (some ⟨c.pb,0,none⟩)] w (Steps c w i d (fun w' t v => TR w' w.heap.size w'.heap.size t v) (cr c.L E F i)) := by
 have HP := za h; have HL := za h.low; have hb := h.lt; clear h
 go_enter Tryz.func162,Tryz.ntmps162
 go_wp2_with fail; go_at_call 59; refine (yA c _ i d 35 (PS.alloc HP.out _)).mono ?_; rintro e w1 ⟨rfl,J⟩; have p1 : PS c w1 i d := PS.kept (PS.alloc HP.out _) J; have G1 : w.grownBy w1 (some c.pb) := zb ga (zJ J (some c.pb)); have s1 := J.size
 try simp at s1
 have U : RB w1 w.heap.size := RB.kept (RB.new' (by simp)) J (by simp); have a8 := U.lt; obtain ⟨_,_,_,_,_,_,_,_,_,_,_⟩ := id U; go_wp2_with fail; go_at_call 113; refine (xB c _ i d vd _ rfl (by decide) (PS.alloc p1 _)).mono ?_; rintro e w2 ⟨b2,j2,a9,rfl,K,p2,b9⟩; have M : cr c.L E F i = _ := P.bind_ok a9; have G2 : w.grownBy w2 (some c.pb) := zb (zf G1 _) K; have s2 := K.size
 try simp at s2
 have N : RB w2 w.heap.size := RB.k (RB.alloc U _) K; have O : NB w2 w1.heap.size (.int .i64 35) (.string ⟨#[]⟩) (.int .i64 0) (.int .i64 (pos c.L i)) (.slice none 0 0) := NB.k (NB.new' (by simp)) K; have b0 := N.lt; have b1 := O.lt; obtain ⟨_,_,_,_,_,_,_,_,_,_,_⟩ := id N; obtain ⟨_,_,_,_,_,_⟩ := id O; cases b2
 ·go_wp2_with fail
  go_at_call 177; refine (hX.call _ j2 p2 trivial).mono ?_; rintro e m (⟨x3,o,B,g⟩ | ⟨⟨V,X,Y,Z,n⟩,j3,v3,o,rfl,⟨b4,rfl,f⟩,g,p3,b5⟩)
  ·obtain ⟨q,rfl,-⟩ := id B; exact ⟨rfl,Steps.err (M.trans (P.bind_err o)) B G2 g⟩
  have C := M.trans (P.bind_ok o); simp only [T.kind,T.name,T.num,T.at',T.subs] at f ⊢; obtain ⟨y,z,rfl⟩ := f.form; obtain ⟨A,a0,f⟩ := f.nm
  try simp at a0
  have G3 := zb G2 g; have s3 := g.size
  try simp at s3
  have r := RB.k N g; have s := NB.k O g; have a1 := r.lt; have a2 := s.lt; obtain ⟨_,_,_,_,_,_,_,_,_,_,_⟩ := id r; obtain ⟨_,_,_,_,_,_⟩ := id s; go_wp2_with fail; go_at_call 176; refine (gT c _ j3 d kZ 178 177 (ur c.L E F) (In A m.heap.size) (T.mk V X Y Z n) (.slice y n.length z) p3 (show LR _ (In A m.heap.size) n (.slice y n.length z) from f) (fun k l => ⟨by have R : k < m.heap.size := l.2; first | omega | (simp <;> omega),by have R : A <= k := l.1; omega⟩) hX pw (enters_of Tryz.func178 (by kernel_rfl) rfl) rfl).mono ?_; rintro e I (⟨x4,u,D,b⟩ | ⟨⟨k4,n4,m4,q4,l4⟩,j4,v4,u,rfl,⟨b6,rfl,j⟩,b,p4,b7⟩)
  ·obtain ⟨q,rfl,-⟩ := id D; exact ⟨rfl,Steps.err (C.trans u) D G3 b⟩
  have a3 := C.trans u; simp only [T.kind,T.name,T.num,T.at',T.subs] at j ⊢; obtain ⟨a4,a5,rfl⟩ := j.form
  have j : LR I (In A I.heap.size) l4 (.slice a4 l4.length a5) := j.mono (fun k l => by
   have h9 := b.size
   try simp at h9
   rcases l with l | l
   ·have R : k < m.heap.size := l.2
    exact ⟨l.1,by omega⟩
   ·have R := l.1
    try simp at R
    exact ⟨by omega,l.2⟩)
  have G4 := zb G3 b; have s4 := b.size
  try simp at s4
  have x := RB.k r b; have H := NB.k s b; have b8 := LR.c f b; have a6 := x.lt; have a7 := H.lt; obtain ⟨_,_,_,_,_,_,_,_,_,_,_⟩ := id x; obtain ⟨_,_,_,_,_,_⟩ := id H; go_wp2; refine zn Tryz.results162 rfl (RB.five ?_) rfl ?_
  ·exact x
  refine Steps.ok (a := (T.mk k4 n4 m4 q4 l4)) a3 ⟨_,rfl,?_⟩ ?_ ?_ (by omega)
  ·exact (LR.p5 j (by omega)).wd
  ·exact zS G4 (by omega)
  ·exact PS.p5 p4 HL.out (by omega)
 ·go_wp2_with fail
  go_at_call 177; refine (hX.call _ j2 p2 trivial).mono ?_; rintro e m (⟨x3,o,B,g⟩ | ⟨⟨V,X,Y,Z,n⟩,j3,v3,o,rfl,⟨b4,rfl,f⟩,g,p3,b5⟩)
  ·obtain ⟨q,rfl,-⟩ := id B; exact ⟨rfl,Steps.err (M.trans (P.bind_err o)) B G2 g⟩
  have C := M.trans (P.bind_ok o); simp only [T.kind,T.name,T.num,T.at',T.subs] at f ⊢; obtain ⟨y,z,rfl⟩ := f.form; obtain ⟨A,a0,f⟩ := f.nm
  try simp at a0
  have G3 := zb G2 g; have s3 := g.size
  try simp at s3
  have r := RB.k N g; have s := NB.k O g; have a1 := r.lt; have a2 := s.lt; obtain ⟨_,_,_,_,_,_,_,_,_,_,_⟩ := id r; obtain ⟨_,_,_,_,_,_⟩ := id s; go_wp2_with fail; go_at_call 176; refine (gT c _ j3 d kZ 178 177 (ur c.L E F) (In A (m.heap.size + 1)) (T.mk 35 [] 0 (pos c.L i) [(T.mk V X Y Z n)]) (.slice (some ⟨m.heap.size,0,none⟩) 1 1) (PS.alloc (PS.put p3 HL.out (by omega) _ _) _) (show LR _ (In A (m.heap.size + 1)) ([(T.mk V X Y Z n)]) (.slice (some ⟨m.heap.size,0,none⟩) 1 1) from (LR.build1 _ (t := (T.mk V X Y Z n)) (sv := .slice y n.length z) (LR.wide (lo := A) (hi := m.heap.size) (ts := n) (LR.put f (by omega) _ _) (by omega) (by first | omega | (simp <;> omega))) (by simp) rfl (by omega))) (fun k l => ⟨by have R : k < m.heap.size + 1 := l.2; first | omega | (simp <;> omega),by have R : A <= k := l.1; omega⟩) hX pw (enters_of Tryz.func178 (by kernel_rfl) rfl) rfl).mono ?_; rintro e I (⟨x4,u,D,b⟩ | ⟨⟨k4,n4,m4,q4,l4⟩,j4,v4,u,rfl,⟨b6,rfl,j⟩,b,p4,b7⟩)
  ·obtain ⟨q,rfl,-⟩ := id D; exact ⟨rfl,Steps.err (C.trans u) D (zf (zC G3 (by omega) _ _) _) b⟩
  have a3 := C.trans u; simp only [T.kind,T.name,T.num,T.at',T.subs] at j ⊢; obtain ⟨a4,a5,rfl⟩ := j.form
  have j : LR I (In A I.heap.size) l4 (.slice a4 l4.length a5) := j.mono (fun k l => by
   have h9 := b.size
   try simp at h9
   rcases l with l | l
   ·have R : k < m.heap.size + 1 := l.2
    exact ⟨l.1,by omega⟩
   ·have R := l.1
    try simp at R
    exact ⟨by omega,l.2⟩)
  have G4 : w.grownBy I (some c.pb) := zb (zf (zC G3 (by omega) _ _) _) b; have s4 := b.size
  try simp at s4
  have x : RB I w.heap.size := RB.k (RB.alloc (RB.put r _ _ _) _) b; have H : NB I w1.heap.size (.int .i64 35) (.string ⟨#[]⟩) (.int .i64 0) (.int .i64 (pos c.L i)) (.slice (some ⟨m.heap.size,0,none⟩) 1 1) := NB.k (NB.alloc (NB.s4 s _) _) b; have b8 : LR I (In A m.heap.size) n (.slice y n.length z) := LR.c (LR.alloc (LR.put f (by omega) _ _) _) b; have c0 : LR I (In A (m.heap.size + 1)) ([(T.mk V X Y Z n)]) (.slice (some ⟨m.heap.size,0,none⟩) 1 1) := LR.c (LR.build1 _ (t := (T.mk V X Y Z n)) (sv := .slice y n.length z) (LR.wide (lo := A) (hi := m.heap.size) (ts := n) (LR.put f (by omega) _ _) (by omega) (by first | omega | (simp <;> omega))) (by simp) rfl (by omega)) b; have a6 := x.lt; have a7 := H.lt; obtain ⟨_,_,_,_,_,_,_,_,_,_,_⟩ := id x; obtain ⟨_,_,_,_,_,_⟩ := id H; go_wp2; refine zn Tryz.results162 rfl (RB.five ?_) rfl ?_
  ·exact x
  refine Steps.ok (a := (T.mk k4 n4 m4 q4 l4)) a3 ⟨_,rfl,?_⟩ ?_ ?_ (by omega)
  ·exact (LR.p5 j (by omega)).wd
  ·exact zS G4 (by omega)
  ·exact PS.p5 p4 HL.out (by omega)
set_option maxHeartbeats 1000000
theorem tQ {L : List Tok} {x : List UInt8} {i j : Nat} (h : yP L x i = .ok (false,j)) : wd L i ≠ x /\ j = i := by
 unfold yP at h
 split at h
 ·cases h
 ·rename_i hw
  cases h
  exact ⟨hw,rfl⟩
theorem od {L : List Tok} {x : List UInt8} {i j : Nat} (h : yP L x i = .ok (true,j)) : wd L i = x /\ j = i + 1 := by
 unfold yP at h
 split at h
 ·rename_i hw
  cases h
  exact ⟨hw,rfl⟩
 ·cases h
theorem ud (c : PC) (w : World) (i d : Nat) (h : PS c w i d) :
  Calls Tryz.prog 29 #[.pointer (some ⟨c.pb,0,none⟩)] w fun e w' => e = .returned (.string ⟨(wd c.L i).toArray⟩) /\ w.grownBy w' none :=
 (vx c w i d h).mono (by rintro e w' ⟨rfl,n,rfl⟩; exact ⟨rfl,zy (zl _ _) _⟩)
theorem nL {x : List UInt8} (h : xE x = true) : x ≠ [] := by
 rintro rfl
 revert h
 decide
theorem rX (c : PC) (w : World) (i d : Nat) (E F : P T) (h : PS c w i d) (hX : Part c d (fun _ => True) 162 #[.pointer (some ⟨c.pb,0,none⟩)] (cr c.L E F)) :
    Calls Tryz.prog 149 #[.pointer (some ⟨c.pb,0,none⟩)] w (Steps c w i d (fun w' t v => TR w' w.heap.size w'.heap.size t v) (vi c.L E F i)) := by
  have HP := za h; have HL := za h.low; have hb := h.lt; clear h
  go_enter Tryz.func149,Tryz.ntmps149
  go_wp2_with fail; go_at_call 162; refine (hX.call _ i (PS.alloc HP.out _) trivial).mono ?_; rintro e r (⟨x1,a1,c1,C⟩ | ⟨⟨s,u,x,m,f⟩,K,v1,a1,rfl,⟨g1,rfl,D⟩,C,p1,g2⟩)
  · obtain ⟨q,rfl,-⟩ := id c1; exact ⟨rfl,Steps.err (P.bind_err a1) c1 ga C⟩
  have c2 : vi c.L E F i = _ := P.bind_ok a1; simp only [T.kind,T.name,T.num,T.at',T.subs] at D ⊢; obtain ⟨g,j,rfl⟩ := D.form; obtain ⟨y,d1,D⟩ := D.nm
  try simp at d1
  have G1 := zb ga C; have s1 := C.size
  try simp at s1
  have a2 : RB r w.heap.size := RB.k (RB.new' (by simp)) C; have d2 := a2.lt; obtain ⟨_,_,_,_,_,_,_,_,_,_,_⟩ := id a2; go_wp2_with fail; go_at_call 113; refine (xB c _ K d kIS _ rfl (by decide) (PS.alloc p1 _)).mono ?_; rintro e w2 ⟨b2,j2,c3,rfl,H,p2,g3⟩; have G2 : w.grownBy w2 (some c.pb) := zb (zf G1 _) H; have s2 := H.size
  try simp at s2
  have N : RB w2 w.heap.size := RB.k (RB.alloc a2 _) H; have O : NB w2 r.heap.size (.int .i64 s) (.string ⟨u.toArray⟩) (.int .i64 x) (.int .i64 m) (.slice g f.length j) := NB.k (NB.new' (by simp)) H; have c4 : LR w2 (In y r.heap.size) f (.slice g f.length j) := LR.c (LR.alloc D _) H; have d3 := N.lt; have d4 := O.lt; obtain ⟨_,_,_,_,_,_,_,_,_,_,_⟩ := id N; obtain ⟨_,_,_,_,_,_⟩ := id O; cases b2
  · obtain ⟨a3,a4⟩ := tQ c3
    rw [a4] at p2; have X : vi c.L E F i = _ := c2.trans (if_neg a3); go_wp2_with fail; go_at_call 29; refine (ud c _ K d p2).mono ?_; rintro e B ⟨rfl,b⟩; have p3 : PS c B K d := PS.kept p2 b; have G3 : w.grownBy B (some c.pb) := zb G2 (zJ b (some c.pb)); have s3 := b.size
    try simp at s3
    have l : RB B w.heap.size := RB.kept N b (by simp); have z : NB B r.heap.size (.int .i64 s) (.string ⟨u.toArray⟩) (.int .i64 x) (.int .i64 m) (.slice g f.length j) := NB.kept O b (by simp); have R : LR B (In y r.heap.size) f (.slice g f.length j) := LR.grown c4 b; have a5 := l.lt; have a6 := z.lt; obtain ⟨_,_,_,_,_,_,_,_,_,_,_⟩ := id l; obtain ⟨_,_,_,_,_,_⟩ := id z; go_wp2_with fail; go_at_call 163; refine (pm (wd c.L K) _).mono ?_; rintro e w_ ⟨rfl,rfl⟩; cases a7 : xE (wd c.L K)
    · have c5 : vi c.L E F i = _ := X.trans (if_neg (by rw [a7]; decide))
      go_wp2; refine zn Tryz.results149 rfl (RB.five ?_) rfl ?_
      · exact l
      refine Steps.ok (a := (T.mk s u x m f)) c5 ⟨_,rfl,?_⟩ ?_ ?_ (by omega)
      · exact (LR.p5 R (by omega)).wd
      · exact zS G3 (by omega)
      · exact PS.p5 p3 HL.out (by omega)
    · have Y : vi c.L E F i = _ := X.trans (if_pos a7)
      go_wp2_with fail; go_at_call 115; refine (uK c _ K d p3 (nL a7)).mono ?_; rintro e w4 ⟨rfl,I,p4⟩; have G4 := zb G3 I; have s4 := I.size
      try simp at s4
      have a8 := RB.k l I; have a9 := NB.k z I; have d5 := LR.c R I; have d6 := a8.lt; have d7 := a9.lt; obtain ⟨_,_,_,_,_,_,_,_,_,_,_⟩ := id a8; obtain ⟨_,_,_,_,_,_⟩ := id a9; go_wp2_with fail
      go_region_with (first
        | (go_at_call 162
           refine (hX.call _ (K + 1) (PS.drew p4) trivial).mono ?_; rintro e M (⟨x5,b0,c6,n⟩ | ⟨⟨k5,n5,m5,q5,U⟩,j5,v5,b0,rfl,⟨g4,rfl,A⟩,n,p5,g5⟩)
           focus
             have HT := c6; obtain ⟨q,rfl,-⟩ := c6
             exact ⟨rfl,Steps.err (Y.trans (P.bind_err b0)) HT (zj G4) n⟩
           have d8 : vi c.L E F i = _ := Y.trans (P.bind_ok b0); simp only [T.kind,T.name,T.num,T.at',T.subs] at A ⊢; obtain ⟨b4,b6,rfl⟩ := A.form; obtain ⟨b5,d9,A⟩ := A.nm
           try simp at d9
           have G5 : w.grownBy M (some c.pb) := zb (zj G4) n; have s5 := n.size
           try simp at s5
           have b7 : RB M w.heap.size := RB.k (RB.drew a8) n; have b8 : NB M r.heap.size (.int .i64 s) (.string ⟨u.toArray⟩) (.int .i64 x) (.int .i64 m) (.slice g f.length j) := NB.k (NB.drew a9) n; have c7 : LR M (In y r.heap.size) f (.slice g f.length j) := LR.c (LR.drew d5) n; have f0 := b7.lt; have f1 := b8.lt; obtain ⟨_,_,_,_,_,_,_,_,_,_,_⟩ := id b7
           obtain ⟨_,_,_,_,_,_⟩ := id b8)
        | (go_at_call 164
           refine (gd _ (wd c.L K) (T.mk s u x m f) (T.mk k5 n5 m5 q5 U) (In y M.heap.size) (.slice g f.length j) (.slice b4 U.length b6) (show LR _ (In y M.heap.size) f (.slice g f.length j) from LR.wide (lo := y) (hi := r.heap.size) c7 (by omega) (by omega)) (show LR _ (In y M.heap.size) U (.slice b4 U.length b6) from LR.wide (lo := b5) (hi := M.heap.size) A (by omega) (by omega)) (fun k Z => Z.2)).mono ?_; simp only [T.at']; rintro e V ⟨g6,rfl,c8,o⟩; obtain ⟨f2,f3,rfl⟩ := c8.form; have p6 : PS c V j5 d := PS.kept p5 o; have G6 : w.grownBy V (some c.pb) := zb G5 (zJ o (some c.pb)); have s6 := o.size
           try simp at s6
           have b9 : RB V w.heap.size := RB.kept b7 o (by simp); have c9 : NB V r.heap.size (.int .i64 s) (.string ⟨u.toArray⟩) (.int .i64 x) (.int .i64 m) (.slice g f.length j) := NB.kept b8 o (by simp); have g7 : LR V (In y r.heap.size) f (.slice g f.length j) := LR.grown c7 o; have g8 : LR V (In b5 M.heap.size) U (.slice b4 U.length b6) := LR.grown A o; have f4 := b9.lt; have f5 := c9.lt; obtain ⟨_,_,_,_,_,_,_,_,_,_,_⟩ := id b9; obtain ⟨_,_,_,_,_,_⟩ := id c9
           have f6 : LR V (In y V.heap.size) [(T.mk s u x m f),(T.mk k5 n5 m5 q5 U)] (.slice f2 2 f3) := c8.mono (fun k Z => by
             rcases Z with Z | Z
             · have h1 : k < M.heap.size := Z.2
               exact ⟨Z.1,by omega⟩
             · exact ⟨by omega,Z.2⟩)))
      all_goals
        go_wp2; refine zn Tryz.results149 rfl (RB.five ?_) rfl ?_
        · exact b9
        refine Steps.ok (a := (T.mk 36 (wd c.L K) 0 m [(T.mk s u x m f),(T.mk k5 n5 m5 q5 U)])) d8 ⟨_,rfl,?_⟩ ?_ ?_ (by omega)
        · refine LR.wide (lo := y) (hi := V.heap.size) (ts := [(T.mk s u x m f),(T.mk k5 n5 m5 q5 U)]) ?_ (by omega) (by first | omega | (simp <;> omega))
          exact LR.p5 f6 (by omega)
        · exact zS G6 (by omega)
        · exact PS.p5 p6 HL.out (by omega)
  · obtain ⟨a3,a4⟩ := od c3
    rw [a4] at p2; have a0 : vi c.L E F i = _ := c2.trans (if_pos a3); go_wp2_with fail
    go_region_with (first
      | (go_at_call 153
         refine (vC c _ (K + 1) d (PS.drew p2)).mono ?_; rintro e B (⟨x3,c0,d0,b⟩ | ⟨⟨k3,n3,m3,q3,l3⟩,j3,v3,c0,rfl,⟨g9,rfl,J⟩,b,p3,h0⟩)
         focus
           have HT := d0; obtain ⟨q,rfl,-⟩ := d0
           exact ⟨rfl,Steps.err (a0.trans (P.bind_err c0)) HT (zj G2) b⟩
         have f7 : vi c.L E F i = _ := a0.trans (P.bind_ok c0); simp only [T.kind,T.name,T.num,T.at',T.subs] at J ⊢; obtain ⟨f8,f9,rfl⟩ := J.form; obtain ⟨b3,g0,J⟩ := J.nm
         try simp at g0
         have G3 : w.grownBy B (some c.pb) := zb (zj G2) b; have s3 := b.size
         try simp at s3
         have l : RB B w.heap.size := RB.k (RB.drew N) b; have z : NB B r.heap.size (.int .i64 s) (.string ⟨u.toArray⟩) (.int .i64 x) (.int .i64 m) (.slice g f.length j) := NB.k (NB.drew O) b; have R : LR B (In y r.heap.size) f (.slice g f.length j) := LR.c (LR.drew c4) b; have a5 := l.lt; have a6 := z.lt; obtain ⟨_,_,_,_,_,_,_,_,_,_,_⟩ := id l
         obtain ⟨_,_,_,_,_,_⟩ := id z))
    all_goals
      go_wp2; refine zn Tryz.results149 rfl (NB.alloc (RB.five ?_) _) rfl ?_
      · exact l
      refine Steps.ok (a := (T.mk 37 [] 0 m [(T.mk s u x m f),(T.mk k3 n3 m3 q3 l3)])) f7 ⟨_,rfl,?_⟩ ?_ ?_ (by omega)
      · refine LR.wide (lo := y) (hi := B.heap.size + 1) (ts := [(T.mk s u x m f),(T.mk k3 n3 m3 q3 l3)]) ?_ (by omega) (by first | omega | (simp <;> omega))
        exact (LR.build2 _ (t := (T.mk s u x m f)) (t2 := (T.mk k3 n3 m3 q3 l3)) (sv := .slice g f.length j) (sv2 := .slice f8 l3.length f9) (LR.wide (lo := y) (hi := r.heap.size) (ts := f) (LR.p5 R (by omega)) (by omega) (by first | omega | (simp <;> omega))) (LR.wide (lo := b3) (hi := B.heap.size) (ts := l3) (LR.p5 J (by omega)) (by omega) (by first | omega | (simp <;> omega))) (by simp) rfl (by omega))
      · exact zf (zS G3 (by omega)) _
      · exact PS.alloc (PS.p5 p3 HL.out (by omega)) _
section
variable {w w' : World} {S S2 S' : Nat -> Prop} {ts us : List T} {v v' : Value} {svs uvs : List Value} {row : Option Nat}
theorem LR.appendS (h : ∀ b,v.ownBlock = some b -> S b) (hl : svs.length = ts.length)
  (hs : ∀ (i : Nat) (t : T) (sv : Value),ts[i]? = some t -> svs[i]? = some sv -> LR w (fun k => S k /\ v.ownBlock ≠ some k) t.subs sv)
  (hu : uvs.length = us.length) (hus : ∀ (i : Nat) (t : T) (sv : Value),us[i]? = some t -> uvs[i]? = some sv -> LR w S2 t.subs sv)
  (hd : ∀ k,S2 k -> v.ownBlock ≠ some k) (h1 : ∀ k,S k -> S' k) (h2 : ∀ k,S2 k -> S' k) (h3 : S' w.heap.size)
  (own : w'.ownsRow 0 28 5 v' (ts.length + us.length) (uA ts svs ++ uA us uvs)) (hg : w.grownBy w' row) (hrow : row = v.ownBlock)
  (hat : v'.ownBlock = v.ownBlock \/ v'.ownBlock = some w.heap.size) : LR w' S' (ts ++ us) v' := by
 subst hrow
 have f : ∀ (l : List T) (sv : Value),LR w (fun k => S' k /\ v.ownBlock ≠ some k) l sv -> LR w' (fun k => S' k /\ v'.ownBlock ≠ some k) l sv := by
  intro l sv g; refine (g.bounded.kept hg (fun b hb hs' => hs'.1.2 hb)).mono (fun k hk => ⟨hk.1.1,fun e => ?_⟩)
  rcases hat with hat | hat
  ·exact hk.1.2 (hat ▸ e)
  ·have j := hk.2
   rw [hat] at e; cases e
   omega
 refine .mk _ _ _ (svs ++ uvs) (by simp [hl,hu]) (by rw [qB _ _ _ _ hl,List.length_append]; exact own) (fun b hb => ?_) (fun i t sv h1' h2' => f _ _ ?_)
 ·rcases hat with hat | hat
  ·exact h1 b (h b (hat ▸ hb))
  ·rw [hat] at hb
   cases hb
   exact h3
 ·rcases Nat.lt_or_ge i ts.length with d | d
  ·rw [List.getElem?_append_left d] at h1'
   rw [List.getElem?_append_left (by omega)] at h2'
   exact (hs i t sv h1' h2').mono (fun k hk => ⟨h1 k hk.1,hk.2⟩)
  ·rw [List.getElem?_append_right d] at h1'
   rw [List.getElem?_append_right (by omega),hl] at h2'
   exact (hus _ t sv h1' h2').mono (fun k hk => ⟨h2 k hk,hd k hk⟩)
end
theorem jF {ops : Array Oper} {o : Oper} {a : Act} {w : World} {K : Act -> World -> Prop} {Q : Exit -> Act -> World -> Prop} {E : Prop} (hgd : o.guard = none) (s x : Operand)
  (ho : o.op = .call { callee := .builtin .append,args := #[s,x],argTypes := #[26,26] })
  {S S2 : Nat -> Prop} (S' : Nat -> Prop) {g m c : Nat} {ts us : List T} {v : Value} (hs : a.eval s = v) (hx : a.eval x = .slice (some ⟨g,0,none⟩) m c) (hl : LR w S ts v) (hu : LR w S2 us (.slice (some ⟨g,0,none⟩) m c))
  (hd : ∀ k,S2 k -> v.ownBlock ≠ some k) (h1 : ∀ k,S k -> S' k) (h2 : ∀ k,S2 k -> S' k) (h3 : S' w.heap.size) (hlen : ts.length + us.length <= 20000)
  (k : ∀ v' w',LR w' S' (ts ++ us) v' -> w.grownBy w' v.ownBlock -> K (a.put o.dst v') w') :
  if Region.wanted o (yielded ops a.tmps) = true then Oper.wp Tryz.prog o a w K Q else E := by
 have D : Region.wanted o (yielded ops a.tmps) = true := by simp [Region.wanted,hgd]
 rw [if_pos D]; obtain ⟨F,j,l,n,r⟩ := info_parts Tryz.infoNode; obtain ⟨svs,y,own,z,f⟩ := hl.own; obtain ⟨uvs,e,b,_,d⟩ := hu.own
 have H : m = us.length := by
  rcases b.2 with ⟨A,_⟩ | ⟨_,_,_,A,_⟩
  ·cases A
  ·cases A; rfl
 subst H; obtain ⟨v',w',I,h,C,_,B⟩ := run_append_own_at (P := Tryz.prog) w 0 26 o.type 28 F _ 5 64 Tryz.underlying26 j l n r rfl (by decide) v ts.length (uA ts svs) own ⟨g,0,none⟩ us.length c (uA us uvs)
  (vb _ _ e) (b.cells rfl) (fun u hu' => sO us uvs e (fun i t sv ht hsv => (d i t sv ht hsv).form) u hu') (by unfold maxLen; omega) (by omega) (Nat.zero_le _)
 unfold Oper.wp execOp
 simp only [ho,resolve,invoke,builtin,Sem.run_bind,Sem.run_pure,Result.andThen_ok,List.map_toArray,List.map_cons,List.map_nil,hs,hx,I]
 exact k v' w' (LR.appendS z y f e (fun i t sv ht hsv => (d i t sv ht hsv).mono (fun k hk => hk.1)) hd h1 h2 h3 h C rfl B) C
theorem mO {ops : Array Oper} {o : Oper} {a : Act} {w : World} {K : Act -> World -> Prop} {Q : Exit -> Act -> World -> Prop} {E : Prop} (hgd : o.guard = none) (s x : Operand)
  (ho : o.op = .call { callee := .builtin .append,args := #[s,x],argTypes := #[26,26] })
  {g n c : Nat} (hs : a.eval s = .slice (some ⟨g,0,none⟩) n c) (hx : a.eval x = .slice none 0 0) (hn : n <= c)
  (k : K (a.put o.dst (.slice (some ⟨g,0,none⟩) n c)) w) :
  if Region.wanted o (yielded ops a.tmps) = true then Oper.wp Tryz.prog o a w K Q else E := by
 have d : Region.wanted o (yielded ops a.tmps) = true := by simp [Region.wanted,hgd]
 rw [if_pos d]; obtain ⟨_,b,_,_,_⟩ := info_parts Tryz.infoNode
 have e : (Builtin.append_ #[26,26] o.type #[.slice (some ⟨g,0,none⟩) n c,.slice none 0 0]).run Tryz.prog w = .ok (.slice (some ⟨g,0,none⟩) n c) w := by
  simp [Builtin.append_,run_underlying Tryz.underlying26,sizeOf,typeInfo,b,Builtin.lenOf,Builtin.firstCells,loadCells,hn]
  rfl
 unfold Oper.wp execOp
 simp only [ho,resolve,invoke,builtin,Sem.run_bind,Sem.run_pure,Result.andThen_ok,List.map_toArray,List.map_cons,List.map_nil,hs,hx,e]
 exact k
set_option maxHeartbeats 2000000
theorem oI {L : List Tok} {E A : P T} {f j : Nat} {acc : List T} (h : yF (wd L j) = true) (hf : 0 < f) : xa L E A f acc j = ((yP L zE).bind fun b => if b = true then xa L E A (f - 1) acc else P.ret acc) j := by
 obtain ⟨d,rfl⟩ : ∃ d,f = d + 1 := ⟨f - 1,by omega⟩; rw [xa]
 dsimp only
 rw [if_pos h]
 rfl
theorem kE {α β γ : Type} (p : P α) (k : α -> P β) (m : β -> P γ) : (p.bind k).bind m = p.bind fun a => (k a).bind m := by
 funext i
 unfold P.bind
 cases p i <;> rfl
theorem oF {L : List Tok} {E A : P T} {f j : Nat} {acc : List T} (h : yF (wd L j) = false) (hf : 0 < f) : xa L E A f acc j = ((xQ L E A).bind fun t => (yP L zE).bind fun b => if b = true then xa L E A (f - 1) (acc ++ [t]) else P.ret (acc ++ [t])) j := by
 obtain ⟨d,rfl⟩ : ∃ d,f = d + 1 := ⟨f - 1,by omega⟩; rw [xa]
 dsimp only
 rw [if_neg (by rw [h]; decide),kE]
 rfl
theorem nF (c : PC) (w : World) (i d : Nat) (E A : P T) (h : PS c w i d)
    (hA : ∀ (w : World) (i : Nat),PS c w i d -> yF (wd c.L i) = false -> Calls Tryz.prog 170 #[.pointer (some ⟨c.pb,0,none⟩)] w (Steps c w i d (fun w' t v => TR w' w.heap.size w'.heap.size t v) (xQ c.L E A i))) :
    Calls Tryz.prog 157 #[.pointer (some ⟨c.pb,0,none⟩)] w (Steps c w i d (fun w' t v => TR w' w.heap.size w'.heap.size t v) (mS c.L E A i)) := by
  have HP := za h; have HL := za h.low; have hb := h.lt; have d1 := h.good.few; have HA := za hA; clear h hA
  go_enter Tryz.func157,Tryz.ntmps157
  go_wp2_with fail; go_at_call 59; refine (yA c _ i d 1 (PS.alloc HP.out _)).mono ?_; rintro e x ⟨rfl,z⟩; have p1 : PS c x i d := PS.kept (PS.alloc HP.out _) z; have G1 : w.grownBy x (some c.pb) := zb ga (zJ z (some c.pb)); have s1 := z.size
  simp at s1
  have r1 : RB x w.heap.size := RB.kept (RB.new' (by simp)) z (by simp); have S0 := za (SI.mk (c := c) (w := w) (i := i) (d := d) (r := xa c.L E A (c.L.length + 1) [] i) (q := xa c.L E A) (f := c.L.length + 1) (j := i) (acc := []) (lo := x.heap.size + 1) (wr := x.alloc (.cells #[.int .i64 1,.string ⟨#[]⟩,.int .i64 0,.int .i64 (pos c.L i),.slice none 0 0] 28)) (v := .slice none 0 0) (LR.nil _ _) (PS.alloc p1 _) (zf G1 _) rfl (by omega) (by simp) (Nat.le_refl _) (by omega) (by simp)); have N0 := za (NB.new' (w := x) (v0 := .int .i64 1) (v1 := .string ⟨#[]⟩) (v2 := .int .i64 0) (v3 := .int .i64 (pos c.L i)) (v4 := .slice none 0 0) (t := 28) rfl); have R0 := za (r1.alloc (.cells #[.int .i64 1,.string ⟨#[]⟩,.int .i64 0,.int .i64 (pos c.L i),.slice none 0 0] 28)); clear p1 G1 z r1; go_wp2_with fail
  go_loopw [] (fun wr => ∃ (acc : List T) (v : Value) (j f lo : Nat),NB wr x.heap.size (.int .i64 1) (.string ⟨#[]⟩) (.int .i64 0) (.int .i64 (pos c.L i)) v /\ RB wr w.heap.size /\ x.heap.size + 1 <= lo /\ Hid (SI c w i d (xa c.L E A (c.L.length + 1) [] i) (xa c.L E A) v wr acc j f lo)) (fun wr => c.L.length - atOf wr c.pb)
  case atStart => exact ⟨[],_,i,_,_,N0.out,R0.out,Nat.le_refl _,S0⟩
  case round =>
    obtain ⟨acc,v,j,f,lo,a8,a9,N,HS⟩ := hrel; clear S0 N0 R0; have y := HS.out; have b0 := y.ps; have b1 := y.low; have d2 := y.low2; have d3 := y.len; have d5 := y.fuel; have d6 := y.le; have d7 := y.ps.il; obtain ⟨ad,cp,rfl⟩ := y.lr.form; have c0 := za y.lr; have HG := za y.gb; have b2 := za y.same; have H := za b0; have c1 := za a8; have c2 := za a9; clear y HS b0 a8 a9; go_wp2_with fail; go_at_call 169; refine (kn c _ j d H.out).mono ?_; rintro e w2 ⟨rfl,u⟩; have s2 := u.size; have p2 : PS c w2 j d := H.out.kept u; have G2 : w.grownBy w2 (some c.pb) := zb HG.out (zJ u _); have I := c1.out.kept u (by simp); have U := c2.out.kept u (by simp); have b3 := c0.out.grown u; have c3 := I.lt; have c4 := U.lt; cases V : yF (wd c.L j)
    · have J : Hid (xa c.L E A (c.L.length + 1) [] i = _) := b2.out.trans (oF V (by omega))
      obtain ⟨x0,x1,x2,x3,x4,xz⟩ := id I; go_wp2_with fail
      go_region_law (first
        | (go_simp
           go_at_call 170; refine (HA.out _ j (PS.drew p2) V).mono ?_; rintro e O (⟨x4,X,b4,m⟩ | ⟨⟨Y,Z,m4,q4,R⟩,j4,v4,X,rfl,⟨d8,rfl,B⟩,m,p4,d9⟩)
           focus
             have HT := b4; obtain ⟨q,rfl,-⟩ := b4
             exact ⟨rfl,Steps.err (P.bind_err (J.out.trans (P.bind_err X))) HT (zj G2) m⟩
           simp only [T.kind,T.name,T.num,T.at',T.subs] at B ⊢; obtain ⟨b5,b7,rfl⟩ := B.form; have s4 := m.size
           try simp at s4
           have a0 : NB O x.heap.size (.int .i64 1) (.string ⟨#[]⟩) (.int .i64 0) (.int .i64 (pos c.L i)) (.slice ad acc.length cp) := NB.kept (NB.drew I) m (by simp; omega); have b8 : RB O w.heap.size := RB.kept (RB.drew U) m (by simp; omega); have G4 : w.grownBy O (some c.pb) := zb (zj G2) m; have a1 : LR O (In lo wr.heap.size) acc (.slice ad acc.length cp) := LR.c (LR.drew b3) m; have B := LR.wide B (lo' := w2.heap.size) (by simp) (Nat.le_refl _); have c5 := a0.lt; have c6 := b8.lt
           obtain ⟨z0,z1,z2,z3,z4,zz⟩ := id a0)
        | (refine jF (v := .slice ad acc.length cp) rfl _ _ rfl (In lo (O.heap.size + 2)) rfl rfl (LR.alloc a1 _) (LR.build1 O (cs := #[.int .i64 Y,.string ⟨Z.toArray⟩,.int .i64 m4,.int .i64 q4,.slice b5 R.length b7]) (t := T.mk Y Z m4 q4 R) (sv := .slice b5 R.length b7) B rfl rfl (by omega))
             (fun k hk e => by have h1 := a1.rows k e; have h2 : w2.heap.size <= k := hk.1; omega) (fun k hk => ⟨hk.1,by have h : k < wr.heap.size := hk.2; omega⟩) (fun k hk => ⟨by have h : w2.heap.size <= k := hk.1; omega,by have h : k < O.heap.size + 1 := hk.2; omega⟩) ⟨by simp; omega,by simp⟩ (by simp; omega) ?_
           intro v5 K M C; obtain ⟨a2,a3,e5⟩ := M.form; rw [List.length_append,List.length_singleton] at e5; subst e5; have s := a1.rows; have s5 := C.size
           try simp at s5
           have a4 : NB K x.heap.size (.int .i64 1) (.string ⟨#[]⟩) (.int .i64 0) (.int .i64 (pos c.L i)) (.slice ad acc.length cp) := NB.kept (a0.alloc _) C (fun e => by have := s _ e.symm; omega); have b9 : RB K w.heap.size := RB.kept (b8.alloc _) C (fun e => by have := s _ e.symm; omega); have p5 : PS c K j4 d := PS.own (p4.alloc _) HL.out C (fun b hb => by have := s b hb; omega); have G5 : w.grownBy K (some c.pb) := vY (zf G4 _) C (fun b hb => by have := s b hb; omega); have f0 : O.heap.size + 2 <= K.heap.size \/ True := .inr trivial; have c7 := a4.lt; have c8 := b9.lt
           obtain ⟨z0,z1,z2,z3,z4,zz⟩ := id a4))
      all_goals
        have c9 : xa c.L E A (c.L.length + 1) [] i = _ := J.out.trans (P.bind_ok X); have M : LR K (In lo K.heap.size) (acc ++ [T.mk Y Z m4 q4 R]) (.slice a2 (acc.length + 1) a3) := M.bounded.mono (fun k hk => ⟨hk.1.1,hk.2⟩); have d4 := p4.il; go_wp2_with fail; go_at_call 113; refine (xB c _ j4 d zE _ rfl (by decide) (PS.put p5 HL.out (by omega) _ _)).mono ?_; rintro e w6 ⟨b6,j6,n,rfl,g,p6,d0⟩; have D := c9.trans (P.bind_ok n); have s6 := g.size
        try simp at s6
        have G6 : w.grownBy w6 (some c.pb) := zb (zC G5 (by omega) _ _) g; have o : NB w6 x.heap.size (.int .i64 1) (.string ⟨#[]⟩) (.int .i64 0) (.int .i64 (pos c.L i)) (.slice a2 (acc.length + 1) a3) := NB.kept (NB.s4 a4 _) g (by simp; omega); have l : RB w6 w.heap.size := RB.kept (RB.put b9 _ _ _) g (by simp; omega); have F : LR w6 (In lo K.heap.size) (acc ++ [T.mk Y Z m4 q4 R]) (.slice a2 (acc.length + 1) a3) := LR.c (LR.put M (by omega) _ _) g; have a5 := o.lt; have a6 := l.lt; obtain ⟨x0,x1,x2,x3,x4,xz⟩ := id o; obtain ⟨_,_,_,_,_,y0,y1,y2,y3,y4,yz⟩ := id l; cases b6
        · have a7 := fU n
          go_wp2; refine zn Tryz.results157 rfl (RB.five ?_) rfl ?_
          · exact l
          refine Steps.ok (a := T.mk 1 [] 0 (pos c.L i) (acc ++ [T.mk Y Z m4 q4 R])) (P.bind_ok (p := xa c.L E A (c.L.length + 1) []) D) ⟨_,rfl,?_⟩ ?_ ?_ (by omega)
          · refine LR.wide (lo := lo) (hi := K.heap.size) (ts := acc ++ [T.mk Y Z m4 q4 R]) ?_ (by omega) (by first | omega | (simp <;> omega))
            exact LR.p5 F (by omega)
          · exact zS G6 (by omega)
          · exact PS.p5 p6 HL.out (by omega)
        · have a7 := rC n
          go_wp2; refine ⟨⟨acc ++ [T.mk Y Z m4 q4 R],_,j6,f - 1,lo,o,l,N,SI.mk (F.wide (Nat.le_refl _) (by omega)) p6 G6 D (by omega) (by (try simp only [List.length_append,List.length_singleton]); omega) (by omega) b1 (by omega)⟩,?_⟩; rw [p6.atOf,H.out.atOf]
          omega
    · have J : xa c.L E A (c.L.length + 1) [] i = _ := b2.out.trans (oI V (by omega))
      go_wp2_with fail; go_at_call 113; refine (xB c _ j d zE _ rfl (by decide) p2).mono ?_; rintro e w6 ⟨b6,j6,n,rfl,g,p6,d0⟩; have D := J.trans (P.bind_ok n); have s6 := g.size
      try simp at s6
      have G6 := zb G2 g; have o : NB w6 x.heap.size (.int .i64 1) (.string ⟨#[]⟩) (.int .i64 0) (.int .i64 (pos c.L i)) (.slice ad acc.length cp) := NB.kept I g (by simp; omega); have l : RB w6 w.heap.size := RB.kept U g (by simp; omega); have F := LR.c b3 g; have a5 := o.lt; have a6 := l.lt; obtain ⟨x0,x1,x2,x3,x4,xz⟩ := id o; obtain ⟨_,_,_,_,_,y0,y1,y2,y3,y4,yz⟩ := id l; cases b6
      · have a7 := fU n
        go_wp2; refine zn Tryz.results157 rfl (RB.five ?_) rfl ?_
        · exact l
        refine Steps.ok (a := T.mk 1 [] 0 (pos c.L i) acc) (P.bind_ok (p := xa c.L E A (c.L.length + 1) []) D) ⟨_,rfl,?_⟩ ?_ ?_ (by omega)
        · exact (LR.p5 F (by omega)).wd
        · exact zS G6 (by omega)
        · exact PS.p5 p6 HL.out (by omega)
      · have a7 := rC n
        go_wp2; refine ⟨⟨acc,_,j6,f - 1,lo,o,l,N,SI.mk (F.wide (Nat.le_refl _) (by omega)) p6 G6 D (by omega) (by (try simp only [List.length_append,List.length_singleton]); omega) (by omega) b1 (by omega)⟩,?_⟩; rw [p6.atOf,H.out.atOf]
        omega
set_option maxHeartbeats 4000000
theorem vR {ops : Array Oper} {o : Oper} {a : Act} {w : World} {K : Act -> World -> Prop} {Q : Exit -> Act -> World -> Prop} {E : Prop} (hgd : o.guard = none) (s x : Operand)
  (ho : o.op = .call { callee := .builtin .append,args := #[s,x],argTypes := #[26,26] })
  {S S2 : Nat -> Prop} (S' : Nat -> Prop) {ts us : List T} {v u : Value} (hs : a.eval s = v) (hx : a.eval x = u) (hl : LR w S ts v) (hu : LR w S2 us u)
  (hd : ∀ k,S2 k -> v.ownBlock ≠ some k) (h1 : ∀ k,S k -> S' k) (h2 : ∀ k,S2 k -> S' k) (h3 : S' w.heap.size) (hlen : ts.length + us.length <= 20000)
  (k : ∀ v' w',LR w' S' (ts ++ us) v' -> w.grownBy w' v.ownBlock -> K (a.put o.dst v') w') :
  if Region.wanted o (yielded ops a.tmps) = true then Oper.wp Tryz.prog o a w K Q else E := by
 obtain ⟨_,_,b,_,_⟩ := hu.own
 rcases b.2 with ⟨rfl,l⟩ | ⟨g,d,e,rfl,_⟩
 ·have f : us = [] := List.eq_nil_of_length_eq_zero l
  subst f; have j := k v w (by rw [List.append_nil]; exact hl.mono h1) (zl _ _)
  have m : Region.wanted o (yielded ops a.tmps) = true := by simp [Region.wanted,hgd]
  obtain ⟨_,_,own,_,_⟩ := hl.own
  rcases own.2 with ⟨rfl,n⟩ | ⟨g,d,e,rfl,_,_,h,_⟩
  ·rw [if_pos m]
   obtain ⟨_,i,_,_,_⟩ := info_parts Tryz.infoNode
   have r : (Builtin.append_ #[26,26] o.type #[.slice none 0 0,.slice none 0 0]).run Tryz.prog w = .ok (.slice none 0 0) w := by
    simp [Builtin.append_,run_underlying Tryz.underlying26,sizeOf,typeInfo,i,Builtin.lenOf,Builtin.firstCells]
   unfold Oper.wp execOp
   simp only [ho,resolve,invoke,builtin,Sem.run_bind,Sem.run_pure,Result.andThen_ok,List.map_toArray,List.map_cons,List.map_nil,hs,hx,r]
   exact j
  ·exact mO hgd s x ho hs hx h j
 ·exact jF hgd s x ho S' hs hx hl hu hd h1 h2 h3 hlen k
theorem gh (c : PC) (w : World) (i d : Nat) (E : P T) (h : PS c w i d) (hE : ExprOK c d E) :
  Calls Tryz.prog 196 #[.pointer (some ⟨c.pb,0,none⟩)] w (Steps c w i d (fun w' ts v => LR w' (In w.heap.size w'.heap.size) ts v /\ ts.length <= 5001) (yS c.L E i)) := by
 have m := za h; have n := za hE; clear h hE
 go_enter Tryz.func196,Tryz.ntmps196
 go_wp2_with fail; go_at_call 167; refine (gf c _ i d 121 E yq _ rfl (by decide) m.out n.out).mono ?_; rintro e r (⟨s,b,g,f⟩ | ⟨t,u,x,b,rfl,j,f,o,l⟩)
 ·obtain ⟨q,rfl,-⟩ := id g; exact ⟨rfl,Steps.err b g (zl _ _) f⟩
 go_wp2
 go_ret
 exact Steps.ok b j f o l
theorem qP (c : PC) (w : World) (i d : Nat) (E : P T) (h : PS c w i d) (hE : ExprOK c d E)
    (hD : ∀ (w : World) (i : Nat),PS c w i d -> Calls Tryz.prog 184 #[.pointer (some ⟨c.pb,0,none⟩)] w (Steps c w i d (fun w' t v => TR w' w.heap.size w'.heap.size t v) (zQ c.L E i))) :
    Calls Tryz.prog 202 #[.pointer (some ⟨c.pb,0,none⟩)] w (Steps c w i d (fun w' t v => TR w' w.heap.size w'.heap.size t v) (yB c.L E i)) := by
  have HP := za h; have HL := za h.low; have K := h.lt; have b8 := h.good.few; have HE := za hE; clear h hE
  go_enter Tryz.func202,Tryz.ntmps202
  go_wp2_with fail; go_at_call 184; refine (hD _ i (PS.alloc HP.out _)).mono ?_; rintro e B (⟨x1,N,Z,F⟩ | ⟨⟨x,y,z,s,l⟩,V,v1,N,rfl,⟨b9,rfl,H⟩,F,p1,c0⟩)
  · obtain ⟨q,rfl,-⟩ := id Z; exact ⟨rfl,Steps.err (P.bind_err N) Z ga F⟩
  have a0 : yB c.L E i = _ := P.bind_ok N; simp only [T.kind,T.name,T.num,T.at',T.subs] at H ⊢; obtain ⟨m,n,rfl⟩ := H.form; obtain ⟨I,a8,H⟩ := H.nm
  try simp at a8
  have G1 := zb ga F; have s1 := F.size
  try simp at s1
  have r1 : RB B w.heap.size := RB.kept (RB.new' (by simp)) F (by simp; omega); go_wp2_with fail; go_at_call 29; refine (ud c _ V d (PS.alloc p1 _)).mono ?_; rintro e A ⟨rfl,C⟩; have p2 : PS c A V d := PS.kept (PS.alloc p1 _) C; have G2 : w.grownBy A (some c.pb) := zb (zf G1 _) (zJ C _); have s2 := C.size
  try simp at s2
  have r2 : RB A w.heap.size := RB.kept (RB.alloc r1 _) C (by simp); have n2 : NB A B.heap.size (.int .i64 x) (.string ⟨y.toArray⟩) (.int .i64 z) (.int .i64 s) (.slice m l.length n) := NB.kept (NB.new' (by simp)) C (by simp); have l2 : LR A (In I B.heap.size) l (.slice m l.length n) := LR.grown (LR.alloc H _) C; have a9 := r2.lt; have b0 := n2.lt; obtain ⟨_,_,_,_,_,_,_,_,_,_,_⟩ := id r2; obtain ⟨_,x1,_,_,x4,_⟩ := id n2
  by_cases hw : wd c.L V = yw
  · have b2 : (wd c.L V == [40]) = true := by rw [hw]; decide
    have a1 := a0.trans (if_pos hw); go_wp2_with fail
    go_region_law (first
      | (go_simp
         go_at_call 196; refine (gh c _ V d E (by first | with_reducible exact PS.drew p2 | with_reducible exact PS.drew (PS.alloc p2 _)) HE.out).mono ?_; rintro e o (⟨x4,O,a2,r⟩ | ⟨X,j4,v4,O,rfl,⟨J,c1⟩,r,p4,c2⟩)
         focus
           have HT := a2; obtain ⟨q,rfl,-⟩ := a2
           exact ⟨rfl,Steps.err (a1.trans (P.bind_err O)) HT (by first | with_reducible exact zj G2 | with_reducible exact zj (zf G2 _)) r⟩
         have s4 := r.size
         try simp at s4
         have n4 : NB o B.heap.size (.int .i64 x) (.string ⟨y.toArray⟩) (.int .i64 z) (.int .i64 s) (.slice m l.length n) := NB.kept (by first | with_reducible exact NB.drew n2 | with_reducible exact NB.drew (NB.alloc n2 _)) r (by simp; omega); have r4 : RB o w.heap.size := RB.kept (by first | with_reducible exact RB.drew r2 | with_reducible exact RB.drew (RB.alloc r2 _)) r (by simp; omega); have G4 : w.grownBy o (some c.pb) := zb (by first | with_reducible exact zj G2 | with_reducible exact zj (zf G2 _)) r; have l4 : LR o (In I B.heap.size) l (.slice m l.length n) := LR.c (by first | with_reducible exact LR.drew l2 | with_reducible exact LR.drew (LR.alloc l2 _)) r; have b3 := n4.lt; have b5 := r4.lt; obtain ⟨a3,a5,rfl⟩ := J.form; obtain ⟨b4,b6,J⟩ := J.nm
         try simp at b6
         obtain ⟨_,_,_,_,_,_⟩ := id n4)
      | (have lb : LR o (fun k => In I B.heap.size k \/ k = A.heap.size) [T.mk x y z s l] (.slice (some ⟨A.heap.size,0,none⟩) 1 1) := (LR.build1S A.drew (g := A.heap.size) (S := In I B.heap.size) (t := T.mk x y z s l) (cs := #[.int .i64 x,.string ⟨y.toArray⟩,.int .i64 z,.int .i64 s,.slice m l.length n]) l2.drew (fun k hk => Nat.lt_of_lt_of_le hk.2 (by omega)) rfl rfl).kept r (fun b K hs => by cases K; rcases hs with hs | hs; (have h1 : I <= c.pb := hs.1; omega); omega)
         have f : ∀ b,Value.ownBlock (.slice (some ⟨A.heap.size,0,none⟩) 1 1) = some b -> b = A.heap.size := fun b e => by simp [Value.ownBlock] at e; omega
         refine vR (v := .slice (some ⟨A.heap.size,0,none⟩) 1 1) (u := .slice a3 X.length a5) rfl _ _ rfl (fun k => In I B.heap.size k \/ (A.heap.size <= k /\ k <= o.heap.size + 1)) rfl rfl lb J
           (fun k hk e => by have h1 := f k e; have h2 : b4 <= k := hk.1; have h3 : k < o.heap.size := hk.2; omega) (fun k hk => hk.elim .inl (fun h => .inr ⟨by omega,by omega⟩)) (fun k hk => .inr ⟨by have h2 : b4 <= k := hk.1; omega,by have h3 : k < o.heap.size := hk.2; omega⟩) (.inr ⟨by first | omega | (simp <;> omega),by first | omega | (simp <;> omega)⟩) (by simp; omega) ?_
         intro v5 D M j; obtain ⟨a6,a7,e5⟩ := M.form; rw [List.length_append,List.length_singleton] at e5; subst e5; have s5 := j.size
         try simp at s5
         have Y : RB D w.heap.size := RB.kept r4 j (fun e => by have := f _ e.symm; omega); have p5 : PS c D j4 d := PS.own p4 HL.out j (fun b K => by have := f b K; omega); have G5 : w.grownBy D (some c.pb) := vY G4 j (fun b K => by have := f b K; omega); have n5 : NB D B.heap.size (.int .i64 x) (.string ⟨y.toArray⟩) (.int .i64 z) (.int .i64 s) (.slice m l.length n) := NB.kept n4 j (fun e => by have := f _ e.symm; omega); have R := Y.lt; have U := n5.lt; obtain ⟨t0,t1,t2,t3,t4,tz⟩ := id n5
         obtain ⟨_,_,_,_,_,u0,u1,u2,u3,u4,uz⟩ := id Y)
      | (have lb : LR (o.alloc (.cells #[.int .i64 x,.string ⟨y.toArray⟩,.int .i64 z,.int .i64 s,.slice m l.length n] 28)) (fun k => In I B.heap.size k \/ k = o.heap.size) [T.mk x y z s l] (.slice (some ⟨o.heap.size,0,none⟩) 1 1) := LR.build1S o (S := In I B.heap.size) (t := T.mk x y z s l) (cs := #[.int .i64 x,.string ⟨y.toArray⟩,.int .i64 z,.int .i64 s,.slice m l.length n]) l4 (fun k hk => Nat.lt_of_lt_of_le hk.2 (by omega)) rfl rfl
         have f : ∀ b,Value.ownBlock (.slice (some ⟨o.heap.size,0,none⟩) 1 1) = some b -> b = o.heap.size := fun b e => by simp [Value.ownBlock] at e; omega
         refine vR (v := .slice (some ⟨o.heap.size,0,none⟩) 1 1) (u := .slice a3 X.length a5) rfl _ _ rfl (fun k => In I B.heap.size k \/ (A.heap.size <= k /\ k <= o.heap.size + 1)) rfl rfl lb (J.alloc _)
           (fun k hk e => by have h1 := f k e; have h2 : b4 <= k := hk.1; have h3 : k < o.heap.size := hk.2; omega) (fun k hk => hk.elim .inl (fun h => .inr ⟨by omega,by omega⟩)) (fun k hk => .inr ⟨by have h2 : b4 <= k := hk.1; omega,by have h3 : k < o.heap.size := hk.2; omega⟩) (.inr ⟨by first | omega | (simp <;> omega),by first | omega | (simp <;> omega)⟩) (by simp; omega) ?_
         intro v5 D M j; obtain ⟨a6,a7,e5⟩ := M.form; rw [List.length_append,List.length_singleton] at e5; subst e5; have s5 := j.size
         try simp at s5
         have Y : RB D w.heap.size := RB.kept (RB.alloc r4 _) j (fun e => by have := f _ e.symm; omega); have p5 : PS c D j4 d := PS.own (PS.alloc p4 _) HL.out j (fun b K => by have := f b K; omega); have G5 : w.grownBy D (some c.pb) := vY (zf G4 _) j (fun b K => by have := f b K; omega); have n5 : NB D B.heap.size (.int .i64 x) (.string ⟨y.toArray⟩) (.int .i64 z) (.int .i64 s) (.slice m l.length n) := NB.kept (NB.alloc n4 _) j (fun e => by have := f _ e.symm; omega); have R := Y.lt; have U := n5.lt; obtain ⟨t0,t1,t2,t3,t4,tz⟩ := id n5
         obtain ⟨_,_,_,_,_,u0,u1,u2,u3,u4,uz⟩ := id Y))
    all_goals
      go_wp2; refine zn Tryz.results202 rfl (RB.five ?_) rfl ?_
      · exact Y
      refine Steps.ok (a := T.mk 33 [] 0 s (T.mk x y z s l :: X)) (a1.trans (P.bind_ok O)) ⟨_,rfl,?_⟩ ?_ ?_ (by omega)
      · have b7 : LR D (In I D.heap.size) (T.mk x y z s l :: X) (.slice a6 (1 + X.length) a7) := M.bounded.mono (fun k hk => ⟨hk.1.elim (fun h => h.1) (fun h => by omega),hk.2⟩)
        refine LR.wide (lo := I) (hi := D.heap.size) (ts := T.mk x y z s l :: X) ?_ (by omega) (by first | omega | (simp <;> omega))
        exact LR.p5 b7 (by omega)
      · exact zS G5 (by omega)
      · exact PS.p5 p5 HL.out (by omega)
  · have b2 : (wd c.L V == [40]) = false := by simpa [yw] using hw
    go_wp2; refine zn Tryz.results202 rfl (RB.five ?_) rfl ?_
    · exact r2
    refine Steps.ok (a := T.mk x y z s l) (a0.trans (if_neg hw)) ⟨_,rfl,?_⟩ ?_ ?_ (by omega)
    · exact (LR.p5 l2 (by omega)).wd
    · exact zS G2 (by omega)
    · exact PS.p5 p2 HL.out (by omega)
theorem gt : ∀ (ts : List T) (svs : List Value) (i : Nat) (t : T) (sv : Value) (j : Nat),svs.length = ts.length -> ts[i]? = some t -> svs[i]? = some sv -> j < 5 -> (uA ts svs)[i * 5 + j]? = (vT t sv)[j]?
 | [],_,i,t,sv,j,_,h,_,_ => by simp at h
 | t0 :: ts,[],i,t,sv,j,h,_,_,_ => by simp at h
 | t0 :: ts,s0 :: svs,0,t,sv,j,h,ht,hs,hj => by
  cases ht; cases hs; rw [uA,Nat.zero_mul,Nat.zero_add,List.getElem?_append_left (by simpa [vT] using hj)]
 | t0 :: ts,s0 :: svs,i + 1,t,sv,j,h,ht,hs,hj => by
  rw [uA,List.getElem?_append_right (by simp [vT]; omega)]; have := gt ts svs i t sv j (by simpa using h) (by simpa using ht) (by simpa using hs) hj; rw [<- this]
  congr 1
  simp [vT]
  omega
theorem LR.node {w : World} {S : Nat -> Prop} {ts : List T} {v : Value} (h : LR w S ts v) (i : Nat) (t : T) (ht : ts[i]? = some t) : ∃ g cap sv,v = .slice (some ⟨g,0,none⟩) ts.length cap /\ ts.length <= maxLen /\ LR w (fun _ => True) t.subs sv /\
  w.cell? ⟨g,i * 5,none⟩ = some (.int .i64 t.kind) /\ w.cell? ⟨g,i * 5 + 1,none⟩ = some (.string ⟨t.name.toArray⟩) /\ w.cell? ⟨g,i * 5 + 2,none⟩ = some (.int .i64 t.num) /\ w.cell? ⟨g,i * 5 + 3,none⟩ = some (.int .i64 t.at') /\ w.cell? ⟨g,i * 5 + 4,none⟩ = some sv := by
 obtain ⟨d,m,own,_,e⟩ := h.own
 have o : i < ts.length := by
  rcases Nat.lt_or_ge i ts.length with l | l
  ·exact l
  ·rw [List.getElem?_eq_none l] at ht; cases ht
 obtain ⟨sv,f⟩ : ∃ sv,d[i]? = some sv := ⟨_,List.getElem?_eq_getElem (by omega)⟩
 rcases own.2 with ⟨_,r⟩ | ⟨g,cap,n,rfl,s⟩
 ·omega
 ·have b : ∀ j,j < 5 -> w.cell? ⟨g,i * 5 + j,none⟩ = (vT t sv)[j]? := fun j hj => (own.cellAt (i * 5 + j) (by omega)).trans (gt ts d i t sv j m ht f hj)
  exact ⟨g,cap,sv,rfl,by omega,(e i t sv ht f).mono (fun _ _ => trivial),b 0 (by omega),b 1 (by omega),b 2 (by omega),b 3 (by omega),b 4 (by omega)⟩
theorem LR.nodeS {w : World} {S : Nat -> Prop} {ts : List T} {v : Value} (h : LR w S ts v) (i : Nat) (t : T) (ht : ts[i]? = some t) : ∃ g cap sv,v = .slice (some ⟨g,0,none⟩) ts.length cap /\ ts.length <= cap /\ cap <= maxLen /\ S g /\ Node5 w g (i * 5) t sv /\ LR w (fun k => S k /\ g ≠ k) t.subs sv := by
 obtain ⟨d,r,own,m,f⟩ := h.own
 have u : i < ts.length := by
  rcases Nat.lt_or_ge i ts.length with n | n
  ·exact n
  ·rw [List.getElem?_eq_none n] at ht; cases ht
 obtain ⟨sv,l⟩ : ∃ sv,d[i]? = some sv := ⟨_,List.getElem?_eq_getElem (by omega)⟩
 rcases own.2 with ⟨_,x⟩ | ⟨g,cap,s,rfl,o⟩
 ·omega
 ·have b : ∀ j,j < 5 -> w.cell? ⟨g,i * 5 + j,none⟩ = (vT t sv)[j]? := fun j hj => (own.cellAt (i * 5 + j) (by omega)).trans (gt ts d i t sv j r ht l hj)
  exact ⟨g,cap,sv,rfl,o.2.2.1,o.2.2.2.1,m g rfl,⟨b 0 (by omega),b 1 (by omega),b 2 (by omega),b 3 (by omega),b 4 (by omega)⟩,(f i t sv ht l).mono (fun k hk => ⟨hk.1,fun e => hk.2 (by rw [e]; rfl)⟩)⟩
theorem LR.one {w : World} {S : Nat -> Prop} {a : T} {v : Value} (h : LR w S [a] v) : ∃ g cap sa,v = .slice (some ⟨g,0,none⟩) 1 cap /\ 1 <= cap /\ cap <= maxLen /\ Node5 w g 0 a sa /\ LR w S a.subs sa := by
 obtain ⟨g,cap,sa,e,b,d,_,f,i⟩ := h.nodeS 0 a rfl
 exact ⟨g,cap,sa,e,b,d,by simpa using f,i.mono (fun k hk => hk.1)⟩
theorem LR.two {w : World} {S : Nat -> Prop} {a b : T} {v : Value} (h : LR w S [a,b] v) : ∃ g cap sa sb,v = .slice (some ⟨g,0,none⟩) 2 cap /\ 2 <= cap /\ cap <= maxLen /\ Node5 w g 0 a sa /\ Node5 w g 5 b sb /\ LR w S a.subs sa /\ LR w S b.subs sb := by
 obtain ⟨g,cap,sa,e,i,j,_,l,m⟩ := h.nodeS 0 a rfl; obtain ⟨r,d,sb,f,_,_,_,n,o⟩ := h.nodeS 1 b rfl; rw [e] at f; cases f
 exact ⟨g,cap,sa,sb,e,i,j,by simpa using l,by simpa using n,m.mono (fun k hk => hk.1),o.mono (fun k hk => hk.1)⟩
end Go.Proofs.YtfjgelmllcnokaaGreatDoor
