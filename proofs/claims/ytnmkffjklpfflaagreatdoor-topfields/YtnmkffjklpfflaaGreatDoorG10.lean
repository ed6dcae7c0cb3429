/- The reader's small parts: a node,a name with its node,numbers. -/
import Derived.Test.YtnmkffjklpfflaaGreatDoorG04
import Derived.Deep.RegionLaw
namespace Go.Proofs.YtnmkffjklpfflaaGreatDoor
open Go.RowKit
set_option maxHeartbeats 400000
set_option maxRecDepth 100000
theorem zL (c : PC) (w : World) (i d : Nat) (k : Int) (h : PS c w i d) :
  Calls Tryz.prog 87 #[pq c.pb,.int .i64 k] w fun e w' => e = .returned (.agg #[.int .i64 k,.string ⟨#[]⟩,.int .i64 0,.int .i64 (pos c.L i),.slice none 0 0]) /\ w.grownBy w' none := by
 have b := zc h; clear h
 go_enter Tryz.func87,Tryz.ntmps87
 go_wp2_with (go_at_call 136; refine (nV c _ i d (b.out.alloc _)).mono ?_; rintro e f ⟨rfl,m,rfl⟩)
 exact zn Tryz.results87 rfl ((NB.new w _).drewN m).put5 rfl ⟨rfl,bj (zq (zh (zj _ _) _) _) (Nat.le_refl _) _ _ _ _ _⟩
theorem ue (c : PC) (w : World) (i d : Nat) (k : Int) (h : PS c w i d) :
  Calls Tryz.prog 142 #[pq c.pb,.int .i64 k] w (Steps c w i d (fun w' t v => TR w' w.heap.size w'.heap.size t v) (vo c.L k i)) := by
 have m := zc h; have n := zc h.low; have K := h.lt; clear h
 go_enter Tryz.func142,Tryz.ntmps142
 go_wp2_with fail; go_at_call 87; refine (zL c _ i d k (PS.alloc m.out _)).mono ?_; rintro e f ⟨rfl,b⟩; have o : w.grownBy f (some c.pb) := za ga (zv b (some c.pb)); have A := b.size
 simp at A
 have B : PS c f i d := PS.kept (PS.alloc m.out _) b; have C : RB f w.heap.size := RB.kept (RB.new w _) b (by simp); go_wp2_with fail; go_at_call 89; refine (vQ c _ i d (PS.alloc B _)).mono ?_; rintro e r (⟨x,g,u,b⟩ | ⟨s,j,v,g,rfl,⟨rfl,D,E⟩,b,F,l⟩)
 ·have G := u
  obtain ⟨q,rfl,-⟩ := u
  exact ⟨rfl,Steps.err (P.bind_err g) G (zh o _) b⟩
 have H : w.grownBy r (some c.pb) := za (zh o _) b; have I := b.size
 simp at I
 have z : RB r w.heap.size := RB.kept (RB.alloc C _) b (by simp; omega); have J := NB.kept (NB.new f 100) b (by simp; omega); obtain ⟨_,_,_,_,_,_,_,_,_,_,_⟩ := id z; obtain ⟨_,_,_,_,_,_⟩ := id J; go_wp2; refine zn Tryz.results142 rfl (RB.five ?_) rfl ?_
 ·exact RB.put z _ _ _
 exact Steps.ok (P.bind_ok g) ⟨_,rfl,LR.nil _ _⟩ (zC (zs H (by omega) _ _) (by omega)) (PS.p5 (PS.put F n.out (by omega) _ _) n.out (by omega)) l
theorem vE (c : PC) (w : World) (i d : Nat) (k : Int) (h : PS c w i d) :
  Calls Tryz.prog 144 #[pq c.pb,.int .i64 k] w (Steps c w i d (fun w' t v => TR w' w.heap.size w'.heap.size t v) (xj c.L k i)) := by
 have R := zc h; have B := zc h.low; have hb := h.lt; clear h
 go_enter Tryz.func144,Tryz.ntmps144
 go_wp2_with fail; go_at_call 142; refine (ue c _ i d k (PS.alloc R.out _)).mono ?_; rintro e C (⟨x1,l,n,b⟩ | ⟨⟨D,E,N,F,o⟩,U,v1,l,rfl,⟨V,rfl,f⟩,b,X,Y⟩)
 ·obtain ⟨q,rfl,-⟩ := id n; exact ⟨rfl,Steps.err (P.bind_err l) n ga b⟩
 have G : xj c.L k i = _ := P.bind_ok l; simp only [T.kind,T.name,T.num,T.at',T.subs] at f ⊢; obtain ⟨r,s,rfl⟩ := f.form; obtain ⟨Z,H,f⟩ := f.nm
 try simp at H
 have G1 := za ga b; have s1 := b.size
 try simp at s1
 have m : RB C w.heap.size := RB.k (RB.new' (by simp)) b; have I := m.lt; obtain ⟨_,_,_,_,_,_,_,_,_,_,_⟩ := id m; go_wp2_with fail; go_at_call 137; refine (yp c _ U d gI _ rfl (by decide) (PS.alloc X _)).mono ?_; rintro e A ⟨b2,j2,J,rfl,g,O,a0⟩; have u := G.trans (P.bind_ok J); have Q : w.grownBy A (some c.pb) := za (zh G1 _) g; have s2 := g.size
 try simp at s2
 have j : RB A w.heap.size := RB.k (RB.alloc m _) g; have x : NB A C.heap.size (.int .i64 D) (.string ⟨E.toArray⟩) (.int .i64 N) (.int .i64 F) (.slice r o.length s) := NB.k (NB.new' (by simp)) g; have z : LR A (In Z C.heap.size) o (.slice r o.length s) := LR.c (LR.alloc f _) g; have K := j.lt; have M := x.lt; obtain ⟨_,_,_,_,_,_,_,_,_,_,_⟩ := id j; obtain ⟨_,_,_,_,_,_⟩ := id x; cases b2
 ·go_wp2
  refine zn Tryz.results144 rfl (RB.five ?_) rfl ?_
  ·exact j
  refine Steps.ok (a := (T.mk D E N F o)) u ⟨_,rfl,?_⟩ ?_ ?_ (by omega)
  ·exact (LR.p5 z (by omega)).wd
  ·exact zC Q (by omega)
  ·exact PS.p5 O B.out (by omega)
 ·go_wp2
  refine zn Tryz.results144 rfl (RB.five ?_) rfl ?_
  ·exact RB.put j _ _ _
  refine Steps.ok (a := (T.mk D E 1 F o)) u ⟨_,rfl,?_⟩ ?_ ?_ (by omega)
  ·exact (LR.p5 (LR.put z (by omega) _ _) (by omega)).wd
  ·exact zC (zs Q (by omega) _ _) (by omega)
  ·exact PS.p5 (PS.put O B.out (by omega) _ _) B.out (by omega)
theorem yW (c : PC) (w : World) (i d : Nat) (h : PS c w i d) :
  Calls Tryz.prog 177 #[pq c.pb] w (Steps c w i d (fun w' t v => TR w' w.heap.size w'.heap.size t v) (yt c.L i)) := by
 have HP := zc h; have K := zc h.low; have hb := h.lt; clear h
 go_enter Tryz.func177,Tryz.ntmps177
 go_wp2_with fail; go_at_call 142; refine (ue c _ i d 13 (PS.alloc HP.out _)).mono ?_; rintro e E (⟨x1,o,F,f⟩ | ⟨⟨M,r,N,n,D⟩,j1,v1,o,rfl,⟨a4,rfl,g⟩,f,p1,a5⟩)
 ·obtain ⟨q,rfl,-⟩ := id F; exact ⟨rfl,Steps.err (P.bind_err o) F ga f⟩
 have O : yt c.L i = _ := P.bind_ok o; simp only [T.kind,T.name,T.num,T.at',T.subs] at g ⊢; obtain ⟨s,u,rfl⟩ := g.form; obtain ⟨b1,Q,g⟩ := g.nm
 try simp at Q
 have G1 := za ga f; have s1 := f.size
 try simp at s1
 have x : RB E w.heap.size := RB.k (RB.new' (by simp)) f; have R := x.lt; obtain ⟨_,_,_,_,_,_,_,_,_,_,_⟩ := id x; go_wp2_with fail; go_at_call 137; refine (yp c _ j1 d jY _ rfl (by decide) (PS.alloc p1 _)).mono ?_; rintro e l ⟨b2,j2,U,rfl,j,p2,a6⟩; have z := O.trans (P.bind_ok U); have V : w.grownBy l (some c.pb) := za (zh G1 _) j; have s2 := j.size
 try simp at s2
 have m : RB l w.heap.size := RB.k (RB.alloc x _) j; have A : NB l E.heap.size (.int .i64 M) (.string ⟨r.toArray⟩) (.int .i64 N) (.int .i64 n) (.slice s D.length u) := NB.k (NB.new' (by simp)) j; have G : LR l (In b1 E.heap.size) D (.slice s D.length u) := LR.c (LR.alloc g _) j; have X := m.lt; have Y := A.lt; obtain ⟨_,_,_,_,_,_,_,_,_,_,_⟩ := id m; obtain ⟨_,_,_,_,_,_⟩ := id A; cases b2
 ·go_wp2
  refine zn Tryz.results177 rfl (RB.five ?_) rfl ?_
  ·exact m
  refine Steps.ok (a := (T.mk M r N n D)) z ⟨_,rfl,?_⟩ ?_ ?_ (by omega)
  ·exact (LR.p5 G (by omega)).wd
  ·exact zC V (by omega)
  ·exact PS.p5 p2 K.out (by omega)
 ·go_wp2_with fail
  go_at_call 89; refine (vQ c _ j2 d (PS.alloc (PS.put p2 K.out (by omega) _ _) _)).mono ?_; rintro e H (⟨x3,B,I,b⟩ | ⟨a3,j3,v3,B,rfl,⟨rfl,a7,a8⟩,b,p3,a9⟩)
  ·obtain ⟨q,rfl,-⟩ := id I; exact ⟨rfl,Steps.err (z.trans (P.bind_err B)) I (zh (zs V (by omega) _ _) _) b⟩
  have Z := z.trans (P.bind_ok B); have G3 : w.grownBy H (some c.pb) := za (zh (zs V (by omega) _ _) _) b; have s3 := b.size
  try simp at s3
  have C : RB H w.heap.size := RB.k (RB.alloc (RB.put m _ _ _) _) b; have J : NB H E.heap.size (.int .i64 M) (.string ⟨r.toArray⟩) (.int .i64 N) (.int .i64 n) (.slice (some ⟨l.heap.size,0,none⟩) 1 1) := NB.k (NB.alloc (NB.s4 A _) _) b; have b0 : LR H (In b1 E.heap.size) D (.slice s D.length u) := LR.c (LR.alloc (LR.put G (by omega) _ _) _) b; have a0 : LR H (In l.heap.size (l.heap.size + 1)) ([(T.mk 24 r 0 n [])]) (.slice (some ⟨l.heap.size,0,none⟩) 1 1) := LR.c (LR.build1 _ (t := (T.mk 24 r 0 n [])) (sv := .slice none 0 0) (LR.nil _ _) (by simp) rfl (by omega)) b; have a1 := C.lt; have a2 := J.lt; obtain ⟨_,_,_,_,_,_,_,_,_,_,_⟩ := id C; obtain ⟨_,_,_,_,_,_⟩ := id J; go_wp2; refine zn Tryz.results177 rfl (RB.five ?_) rfl ?_
  ·exact RB.put C _ _ _
  refine Steps.ok (a := (T.mk M a3 N n [(T.mk 24 r 0 n [])])) Z ⟨_,rfl,?_⟩ ?_ ?_ (by omega)
  ·refine LR.wide (lo := l.heap.size) (hi := l.heap.size + 1) (ts := [(T.mk 24 r 0 n [])]) ?_ (by omega) (by first | omega | (simp <;> omega))
   exact LR.p5 (LR.put a0 (by omega) _ _) (by omega)
  ·exact zC (zs G3 (by omega) _ _) (by omega)
  ·exact PS.p5 (PS.put p3 K.out (by omega) _ _) K.out (by omega)
theorem uf (c : PC) (w : World) (i d : Nat) (t : T) (lo hi : Nat) (v : Value) (h : PS c w i d) (ht : TR w lo hi t v) :
  Calls Tryz.prog 147 #[pq c.pb,v] w (Steps c w i d (fun w' t v => TR w' w.heap.size w'.heap.size t v) (kc c.L t i)) := by
 have HP := zc h; have V := zc h.low; have hb := h.lt; obtain ⟨A,B,C,D,X⟩ := t; obtain ⟨sv,rfl,lt⟩ := ht; obtain ⟨ad,cp,rfl⟩ := lt.form; simp only [T.kind,T.name,T.num,T.at',T.subs] at lt ⊢; clear lt; clear h
 go_enter Tryz.func147,Tryz.ntmps147
 go_wp2_with fail; go_at_call 88; refine (zy c _ i d kG _ rfl (by decide) (PS.alloc (PS.alloc HP.out _) _)).mono ?_; rintro e E (⟨x1,j,r,b⟩ | ⟨a1,j1,v1,j,rfl,-,b,p1,a0⟩)
 ·obtain ⟨q,rfl,-⟩ := id r; exact ⟨rfl,Steps.err (P.bind_err j) r (zh ga _) b⟩
 have s : kc c.L (T.mk A B C D X) i = _ := P.bind_ok j; have Y : w.grownBy E (some c.pb) := za (zh ga _) b; have s1 := b.size
 try simp at s1
 have l : NB E w.heap.size (.int .i64 A) (.string ⟨B.toArray⟩) (.int .i64 C) (.int .i64 D) (.slice ad X.length cp) := NB.k (NB.alloc (NB.new' (by simp)) _) b; have m : RB E (w.heap.size + 1) := RB.k (RB.new' (by simp)) b; have F := m.lt; have G := l.lt; obtain ⟨_,_,_,_,_,_,_,_,_,_,_⟩ := id m; obtain ⟨_,_,_,_,_,_⟩ := id l; go_wp2_with fail; go_at_call 177; refine (yW c _ j1 d p1).mono ?_; rintro e Z (⟨x2,n,u,f⟩ | ⟨⟨H,I,J,K,x⟩,j2,v2,n,rfl,⟨a2,rfl,g⟩,f,p2,a3⟩)
 ·obtain ⟨q,rfl,-⟩ := id u; exact ⟨rfl,Steps.err (s.trans (P.bind_err n)) u Y f⟩
 have M := s.trans (P.bind_ok n); simp only [T.kind,T.name,T.num,T.at',T.subs] at g ⊢; obtain ⟨N,O,rfl⟩ := g.form; obtain ⟨b2,Q,g⟩ := g.nm
 try simp at Q
 have G2 := za Y f; have s2 := f.size
 try simp at s2
 have o := RB.k m f; have z := NB.k l f; have R := o.lt; have U := z.lt; obtain ⟨_,_,_,_,_,_,_,_,_,_,_⟩ := id o; obtain ⟨_,_,_,_,_,_⟩ := id z; go_wp2; refine zn Tryz.results147 rfl (NB.alloc (RB.five ?_) _) rfl ?_
 ·exact RB.put o _ _ _
 refine Steps.ok (a := (T.mk A B C D [(T.mk H I J K x)])) M ⟨_,rfl,?_⟩ ?_ ?_ (by omega)
 ·refine LR.wide (lo := b2) (hi := Z.heap.size + 1) (ts := [(T.mk H I J K x)]) ?_ (by omega) (by first | omega | (simp <;> omega))
  exact (LR.build1 _ (t := (T.mk H I J K x)) (sv := .slice N x.length O) (LR.wide (lo := b2) (hi := Z.heap.size) (ts := x) (LR.p5 (LR.put g (by omega) _ _) (by omega)) (by omega) (by first | omega | (simp <;> omega))) (by simp) rfl (by omega))
 ·exact zh (zC (zs G2 (by omega) _ _) (by omega)) _
 ·exact PS.alloc (PS.p5 (PS.put p2 V.out (by omega) _ _) V.out (by omega)) _
def PartOK (c : PC) (d : Nat) (g : Nat) (p : P T) : Prop :=
 ∀ (w : World) (i : Nat),PS c w i d -> Calls Tryz.prog g #[pq c.pb] w (Steps c w i d (fun w' t v => TR w' w.heap.size w'.heap.size t v) (p i))
theorem xN (c : PC) (w : World) (i d : Nat) (g : Nat) (p : P T) (h : PS c w i d) (hd20 : d <= 20) (hp : d < 20 -> PartOK c (d + 1) g p) (hent : ∀ (args : Array Value) (w : World),(callFunc g args).run Tryz.prog w = .ok (.enter g args) w) :
  Calls Tryz.prog 172 #[pq c.pb,.func (.func g) #[pq c.pb] #[]] w (Steps c w i d (fun w' t v => TR w' w.heap.size w'.heap.size t v) ((if d < 20 then p else xX c.L) i)) := by
 have A := zc h; have C := zc h.low; have V := h.lt; have D := h.deep; have c2 := h.c2; have z2 := h.z2; clear h
 by_cases u : d < 20
 ·rw [if_pos u]
  have E : decide ((20 : Int) < (d : Int) + 1) = false := by simp; omega
  go_enter Tryz.func172,Tryz.ntmps172
  go_wp2_with fail; refine (hp u _ i ((A.out.set2 _ (d + 1) (by simp) (by omega)).alloc _)).mono ?_; rintro e l (⟨X,m,j,f⟩ | ⟨⟨F,G,H,I,r⟩,Y,Z,m,rfl,⟨J,rfl,k⟩,f,s,K⟩)
  ·obtain ⟨q,rfl,-⟩ := id j; exact ⟨rfl,Steps.err m j (zh (zT (zj _ _) _ _) _) f⟩
  simp only [T.kind,T.name,T.num,T.at',T.subs] at k ⊢; obtain ⟨x,z,rfl⟩ := k.form; obtain ⟨M,o,k⟩ : ∃ b,b = _ /\ LR l (In b l.heap.size) r (.slice x r.length z) := ⟨_,rfl,k⟩
  try simp at o
  have N : w.grownBy l (some c.pb) := za (zh (zT (zj _ _) _ _) _) f; have O := f.size
  try simp at O
  have Q : l.cell? ⟨c.pb,2,none⟩ = some (.int .i64 ((d : Int) + 1)) := by have := s.c2; simpa using this
  have R := s.z2; have hb1 := s.lt; have n : RB l w.heap.size := RB.kept (RB.new' (by simp)) f (by simp; omega); have B := n.lt; obtain ⟨_,_,_,_,_,_,_,_,_,_,_⟩ := id n; go_wp2; refine zn Tryz.results172 rfl (NB.alloc (RB.five ?_) _) rfl ?_
  ·exact RB.put n _ _ _
  refine Steps.ok (a := T.mk F G H I r) m ⟨_,rfl,?_⟩ ?_ ?_ (by omega)
  ·refine LR.wide (ts := r) (hi := l.heap.size) (lo := M) ?_ (by omega) (by first | omega | (simp <;> omega))
   exact LR.alloc (LR.p5 (LR.put k (by omega) _ _) (by omega)) _
  ·exact zh (zC (zT N _ _) (by omega)) _
  ·exact PS.alloc (PS.p5 (s.set2 _ d (by simp) (by omega)) C.out (by omega)) _
 ·rw [if_neg u]
  have E : decide ((20 : Int) < (d : Int) + 1) = true := by simp; omega
  go_enter Tryz.func172,Tryz.ntmps172
  go_wp2_with fail; go_at_call 98; refine (vV c _ i (d + 1) 3 ((A.out.set2 _ (d + 1) (by simp) (by omega)).alloc _)).mono ?_; rintro e l ⟨j,f⟩; have U := j; obtain ⟨q,rfl,-⟩ := j
  exact ⟨rfl,Steps.err rfl U (zh (zT (zj _ _) _ _) _) (zv f _)⟩
theorem PS.own {c : PC} {w w' : World} {i d n : Nat} {row : Option Nat} (h : PS c w i d) (hl : Low c n) (hg : w.grownBy w' row) (hr : ∀ b,row = some b -> n <= b) : PS c w' i d where
 c0 := zE hg h.c0 (fun e => absurd (hr _ e.symm) (Nat.not_le.2 hl.pb))
 c1 := zE hg h.c1 (fun e => absurd (hr _ e.symm) (Nat.not_le.2 hl.pb))
 c2 := zE hg h.c2 (fun e => absurd (hr _ e.symm) (Nat.not_le.2 hl.pb))
 c3 := zE hg h.c3 (fun e => absurd (hr _ e.symm) (Nat.not_le.2 hl.pb))
 z1 := ye hg h.lt h.z1 (fun e => absurd (hr _ e.symm) (Nat.not_le.2 hl.pb))
 z2 := ye hg h.lt h.z2 (fun e => absurd (hr _ e.symm) (Nat.not_le.2 hl.pb))
 tk := fun j hj => ⟨zE hg (h.tk j hj).1 (fun e => absurd (hr _ e.symm) (Nat.not_le.2 hl.tb)),zE hg (h.tk j hj).2 (fun e => absurd (hr _ e.symm) (Nat.not_le.2 hl.tb))⟩
 lx := World.ownsMap.kept h.lx hg (fun e => absurd (hr _ e.symm) (Nat.not_le.2 hl.lb))
 n1 := h.n1
 n2 := h.n2
 il := h.il
 good := h.good
 deep := h.deep
theorem PS.atOf {c : PC} {w : World} {i d : Nat} (h : PS c w i d) : atOf w c.pb = i := by unfold Proofs.YtnmkffjklpfflaaGreatDoor.atOf; rw [h.c1]; simp [intOf]
theorem Tryz.infoNode : (Tryz.prog.info? 100).map (fun i => (i.zero,i.size,i.bytes)) = some (some (.agg #[.int .i64 0,.string ⟨#[]⟩,.int .i64 0,.int .i64 0,.slice none 0 0]),5,64) := by kernel_rfl
theorem LR.rows {w : World} {lo hi : Nat} {ts : List T} {v : Value} (h : LR w (In lo hi) ts v) : ∀ b,v.ownBlock = some b -> lo <= b /\ b < hi := by
 obtain ⟨_,_,_,h,_⟩ := h.own
 exact h
theorem fQ : ∀ (ts : List T) (svs : List Value),svs.length = ts.length -> (∀ (i : Nat) (t : T) (sv : Value),ts[i]? = some t -> svs[i]? = some sv -> ∃ a c,sv = .slice a t.subs.length c) -> ∀ u ∈ xy ts svs,u.oneCell' = true
 | [],[],_,_,u,hu => by cases hu
 | t :: ts,sv :: svs,hl,hs,u,hu => by
  rcases List.mem_append.1 hu with h | h
  ·obtain ⟨a,c,rfl⟩ := hs 0 t sv rfl rfl
   simp only [headC,List.mem_cons,List.not_mem_nil,or_false] at h
   rcases h with rfl | rfl | rfl | rfl | rfl <;> rfl
  ·exact fQ ts svs (by simpa using hl) (fun i t' sv' h1 h2 => hs (i + 1) t' sv' (by simpa using h1) (by simpa using h2)) u h
theorem kz {ops : Array Oper} {rest : List Oper} {o : Oper} {a : Act} {w : World} {Q : Exit -> Act -> World -> Prop} (hgd : o.guard = none) (s x : Operand)
  (ho : o.op = .call { callee := .builtin .append,args := #[s,x],argTypes := #[80,80] })
  {lo hi l2 hi2 g m c : Nat} {ts us : List T} {v : Value} (hs : a.eval s = v) (hx : a.eval x = .slice (some ⟨g,0,none⟩) m c) (hl : LR w (In lo hi) ts v) (hu : LR w (In l2 hi2) us (.slice (some ⟨g,0,none⟩) m c))
  (h1 : lo <= l2) (h2 : hi <= l2) (h3 : l2 <= w.heap.size) (h4 : hi2 <= w.heap.size) (hlen : ts.length + us.length <= 20000)
  (k : ∀ v' w',LR w' (In lo w'.heap.size) (ts ++ us) v' -> w.grownBy w' v.ownBlock -> wpList Tryz.prog ops Q rest (a.put o.dst v') w') : wpList Tryz.prog ops Q (o :: rest) a w := by
 obtain ⟨H,n,q,r,z⟩ := info_parts Tryz.infoNode; obtain ⟨A,B,own,C,j⟩ := hl.own; obtain ⟨l,h,d,_,e⟩ := hu.own
 have I : m = us.length := by
  rcases d.2 with ⟨D,_⟩ | ⟨_,_,_,D,_⟩
  ·cases D
  ·cases D; rfl
 subst I; refine wpList_append_own_at w hgd s x 80 ho 0 100 H _ 5 64 Tryz.underlying80 n q r z rfl (by decide) v ts.length (xy ts A) hs own ⟨g,0,none⟩ us.length c (xy us l) hx
  (yC _ _ h) (d.cells rfl) ?_ (by unfold maxLen; omega) (by omega) (Nat.zero_le _) ?_
 ·intro u E
  exact fQ us l h (fun i t sv ht hsv => (e i t sv ht hsv).form) u E
 ·intro v' w' f F _ G
  refine k v' w' (LR.append C B j h (fun i t sv ht hsv => (e i t sv ht hsv).mono (fun k hk => hk.1)) h1 h2 h3 h4 F.size (fun b hb => (f.lt b hb).2) f F rfl G) F
set_option maxHeartbeats 1000000
structure Part (c : PC) (d : Nat) (Inv : World -> Prop) (g : Nat) (av : Array Value) (p : P T) : Prop where
 call : ∀ (w : World) (i : Nat),PS c w i d -> Inv w -> Calls Tryz.prog g av w (Steps c w i d (fun w' t v => TR w' w.heap.size w'.heap.size t v) (p i))
 inv : ∀ w w',Inv w -> w.grownBy w' (some c.pb) -> Inv w'
 ent : ∀ (args : Array Value) (w : World),(callFunc g args).run Tryz.prog w = .ok (.enter g args) w
theorem db {L : List Tok} {p : P T} {sep : List UInt8} {f j : Nat} {acc : List T} (h : yr L sep j = .ok (false,j)) (hf : 0 < f) : yE L p sep f acc j = .ok (acc,j) := by
 obtain ⟨b,rfl⟩ : ∃ b,f = b + 1 := ⟨f - 1,by omega⟩
 exact P.bind_ok h
theorem jn {L : List Tok} {p : P T} {sep : List UInt8} {f j j2 : Nat} {acc : List T} (h : yr L sep j = .ok (true,j2)) (hf : 0 < f) : yE L p sep f acc j = (p.bind fun t => yE L p sep (f - 1) (acc ++ [t])) j2 := by
 obtain ⟨b,rfl⟩ : ∃ b,f = b + 1 := ⟨f - 1,by omega⟩
 exact P.bind_ok h
theorem kY {L : List Tok} {x : List UInt8} {i j : Nat} (h : yr L x i = .ok (false,j)) : j = i := by
 unfold yr at h
 split at h
 ·cases h
 ·cases h; rfl
theorem dh {L : List Tok} {x : List UInt8} {i j : Nat} (h : yr L x i = .ok (true,j)) : j = i + 1 := by
 unfold yr at h
 split at h
 ·cases h; rfl
 ·cases h
structure SI (c : PC) (w : World) (i d : Nat) (r : Except (Int × Int) (List T × Nat)) (q : Nat -> List T -> P (List T)) (v : Value) (wr : World) (acc : List T) (j f lo : Nat) : Prop where
 lr : LR wr (In lo wr.heap.size) acc v
 ps : PS c wr j d
 gb : w.grownBy wr (some c.pb)
 same : r = q f acc j
 fuel : c.L.length <= f + j
 len : acc.length + f <= c.L.length + 1
 le : i <= j
 low : w.heap.size <= lo
 low2 : lo <= wr.heap.size
theorem kZ (c : PC) (w : World) (i d : Nat) (Inv : World -> Prop) (g : Nat) (fa ca : Array Value) (p : P T) (sep : List UInt8) (sb : ByteArray) (hsb : sb.data.toList = sep) (hsep : sep ≠ []) (h : PS c w i d) (hI : Inv w) (hp : Part c d Inv g (fa ++ ca) p) :
  Calls Tryz.prog 140 #[pq c.pb,.func (.func g) fa ca,.string sb] w (Steps c w i d (fun w' ts v => LR w' (In w.heap.size w'.heap.size) ts v /\ ts.length <= 5001) (vG c.L p sep i)) := by
 have HP := zc h; have HL := zc h.low; have Y := h.lt; have a3 := h.good.few; have a4 := hp.ent; have z := zc hp; have HI := zc hI; clear h hp hI
 go_enter Tryz.func140,Tryz.ntmps140
 go_wp2_with fail; refine (z.out.call _ i HP.out HI.out).mono ?_; rintro e w1 (⟨x1,o,I,k⟩ | ⟨⟨Z,n1,m1,q1,J⟩,j1,v1,o,rfl,⟨a7,rfl,s⟩,k,p1,K⟩)
 ·obtain ⟨q,rfl,-⟩ := id I; exact ⟨rfl,Steps.err (P.bind_err o) I (zj _ _) k⟩
 simp only [T.kind,T.name,T.num,T.at',T.subs] at s ⊢; obtain ⟨A,B,rfl⟩ := s.form; have M : vG c.L p sep i = _ := P.bind_ok o; have s1 := k.size
 have S0 := zc (SI.mk (c := c) (w := w) (i := i) (d := d) (r := vG c.L p sep i) (q := yE c.L p sep) (f := c.L.length) (j := j1) (acc := [T.mk Z n1 m1 q1 J]) (lo := w.heap.size)
  (wr := w1.alloc (.cells #[.int .i64 Z,.string ⟨n1.toArray⟩,.int .i64 m1,.int .i64 q1,.slice A J.length B] 100)) (v := .slice (some ⟨w1.heap.size,0,none⟩) 1 1)
  (LR.wide (LR.build1 w1 (cs := #[.int .i64 Z,.string ⟨n1.toArray⟩,.int .i64 m1,.int .i64 q1,.slice A J.length B]) (t := T.mk Z n1 m1 q1 J) (sv := .slice A J.length B) s rfl rfl s1) (Nat.le_refl _) (by simp)) (p1.alloc _) (zh k _) M (by omega) (by simp only [List.length_singleton]; omega) K (Nat.le_refl _) (by simp; omega))
 clear s p1 k M o K s1; go_wp2_with fail
 go_loopw [7] (fun v wr => ∃ acc j f lo,Hid (SI c w i d (vG c.L p sep i) (yE c.L p sep) v wr acc j f lo)) (fun _ wr => c.L.length - atOf wr c.pb)
 case atStart => exact ⟨_,_,_,_,S0⟩
 case round =>
  obtain ⟨acc,j,f,lo,HS⟩ := hrel; clear S0; have hI := HS.out; have N := hI.ps; have O := hI.low; have a5 := hI.low2; have a6 := hI.len; have a8 := hI.fuel; have a9 := hI.le; have b0 := hI.ps.il; obtain ⟨ad,cp,rfl⟩ := hI.lr.form; have a0 := zc hI.lr; have HG := zc hI.gb; have C := zc hI.same; have Q := zc N; clear hI HS N; go_wp2_with fail; go_at_call 137; refine (yp c _ j d sep _ hsb hsep Q.out).mono ?_; rintro e w2 ⟨b2,j2,l,rfl,D,p2,b1⟩; have s2 := D.size; have G2 : w.grownBy w2 (some c.pb) := za HG.out D; have m : LR w2 (In lo wr.heap.size) acc (.slice ad acc.length cp) := a0.out.call D (by omega); cases b2
  ·have hj := kY l
   subst hj; go_wp2
   go_ret
   exact Steps.ok (C.out.trans (db l (by omega))) ⟨m.wide O s2,by omega⟩ G2 p2 (by omega)
  ·have hj := dh l
   go_wp2_with fail; refine (z.out.call _ j2 p2 (z.out.inv _ _ HI.out G2)).mono ?_; rintro e w3 (⟨x3,E,R,n⟩ | ⟨⟨k3,n3,m3,q3,l3⟩,j3,v3,E,rfl,⟨b3,rfl,u⟩,n,p3,b4⟩)
   ·obtain ⟨q,rfl,-⟩ := id R; exact ⟨rfl,Steps.err ((C.out.trans (jn l (by omega))).trans (P.bind_err E)) R G2 n⟩
   simp only [T.kind,T.name,T.num,T.at',T.subs] at u ⊢; obtain ⟨F,G,rfl⟩ := u.form; have s3 := n.size; have G3 := za G2 n; have m : LR w3 (In lo wr.heap.size) acc (.slice ad acc.length cp) := m.call n (by omega); have U := LR.build1 w3 (cs := #[.int .i64 k3,.string ⟨n3.toArray⟩,.int .i64 m3,.int .i64 q3,.slice F l3.length G]) (t := T.mk k3 n3 m3 q3 l3) (sv := .slice F l3.length G) u rfl rfl s3; have V : vG c.L p sep i = _ := (C.out.trans (jn l (by omega))).trans (P.bind_ok E); have X := zc (m.alloc (.cells #[.int .i64 k3,.string ⟨n3.toArray⟩,.int .i64 m3,.int .i64 q3,.slice F l3.length G] 100)); have a1 := zc U; have b5 := p3.il; clear m u U
   go_wp2_with (at_builtin; refine kz rfl _ _ rfl rfl rfl X.out a1.out (by omega) (by omega) (by simp; omega) (by simp) (by simp; omega) ?_; intro v5 w5 a2 H)
   have x := X.out.rows; have p5 : PS c w5 j3 d := PS.own (p3.alloc _) HL.out H (fun b Y => by have := x b Y; omega); have G5 : w.grownBy w5 (some c.pb) := xi (zh G3 _) H (fun b Y => by have := x b Y; omega); have s5 := H.size
   simp at s5
   refine ⟨⟨_,j3,f - 1,lo,SI.mk a2 p5 G5 V (by omega) (by simp only [List.length_append,List.length_singleton]; omega) (by omega) O (by omega)⟩,?_⟩; rw [p5.atOf,Q.out.atOf]
   omega
theorem jA (c : PC) (w : World) (i d : Nat) (g : Nat) (p : P T) (sep : List UInt8) (sb : ByteArray) (hsb : sb.data.toList = sep) (hsep : sep ≠ []) (h : PS c w i d) (hp : Part c d (fun _ => True) g #[pq c.pb] p) :
  Calls Tryz.prog 204 #[pq c.pb,.func (.func g) #[pq c.pb] #[],.string sb] w (Steps c w i d (fun w' ts v => LR w' (In w.heap.size w'.heap.size) ts v /\ ts.length <= 5001) (vm c.L p sep i)) := by
 have I := zc h; have HL := zc h.low; have hb := h.lt; have z := zc hp; clear h hp
 go_enter Tryz.func204,Tryz.ntmps204
 go_wp2_with fail; go_at_call 88; refine (zy c _ i d xA _ rfl (by decide) I.out).mono ?_; rintro e w1 (⟨x1,k,o,f⟩ | ⟨a1,J,v1,k,rfl,-,f,K,M⟩)
 ·obtain ⟨q,rfl,-⟩ := id o; exact ⟨rfl,Steps.err (P.bind_err k) o (zj _ _) f⟩
 have A : vm c.L p sep i = _ := P.bind_ok k; have s1 := f.size; go_wp2_with fail; go_at_call 137; refine (yp c _ J d jx _ rfl (by decide) K).mono ?_; rintro e w2 ⟨N,O,B,rfl,r,G,Q⟩; have l := A.trans (P.bind_ok B); have C := za f r; have s2 := r.size; cases N
 ·go_wp2_with fail
  go_at_call 140; refine (kZ c _ O d (fun _ => True) g #[pq c.pb] #[] p sep sb hsb hsep G trivial (by simpa using z.out)).mono ?_; rintro e w3 (⟨x3,m,s,j⟩ | ⟨R,U,v3,m,rfl,⟨D,t⟩,j,V,X⟩)
  ·obtain ⟨q,rfl,-⟩ := id s; exact ⟨rfl,Steps.err (l.trans (P.bind_err m)) s C j⟩
  have u := l.trans (P.bind_ok m); have H := za C j; have s3 := j.size; go_wp2_with fail; go_at_call 88; refine (zy c _ U d jx _ rfl (by decide) V).mono ?_; rintro e w4 (⟨x4,n,x,b⟩ | ⟨a4,j4,v4,n,rfl,-,b,Y,Z⟩)
  ·obtain ⟨q,rfl,-⟩ := id x; exact ⟨rfl,Steps.err (u.trans (P.bind_err n)) x H b⟩
  have E := u.trans (P.bind_ok n); have s4 := b.size; have F := D.call b (by omega); go_wp2
  go_ret
  exact Steps.ok (a := R) E ⟨F.wide (by omega) (by omega),t⟩ (za H b) Y (by omega)
 ·go_wp2
  go_ret
  exact Steps.ok (a := []) l ⟨LR.nil _ _,by simp⟩ C G (by omega)
theorem rI {L : List Tok} {p : P T} {f j : Nat} {acc : List T} (h : yh (wd L j) = false) (hf : 0 < f) : yc L p f acc j = .ok (acc,j) := by
 obtain ⟨b,rfl⟩ : ∃ b,f = b + 1 := ⟨f - 1,by omega⟩; rw [yc]
 exact if_neg (by rw [h]; decide)
theorem kF {L : List Tok} {p : P T} {f j : Nat} {acc : List T} (h : yh (wd L j) = true) (hf : 0 < f) : yc L p f acc j = (p.bind fun t => (zB L yl).bind fun _ => yc L p (f - 1) (acc ++ [t])) j := by
 obtain ⟨b,rfl⟩ : ∃ b,f = b + 1 := ⟨f - 1,by omega⟩; rw [yc]
 exact if_pos h
theorem dU {L : List Tok} {x : List UInt8} {i j : Nat} {u : Unit} (h : zB L x i = .ok (u,j)) : j = i + 1 := by
 unfold zB at h
 split at h
 ·cases h; rfl
 ·cases h
theorem xV (c : PC) (w : World) (i d : Nat) (g : Nat) (p : P T) (h : PS c w i d) (hp : Part c d (fun _ => True) g #[pq c.pb] p) :
  Calls Tryz.prog 143 #[pq c.pb,.func (.func g) #[pq c.pb] #[]] w (Steps c w i d (fun w' ts v => LR w' (In w.heap.size w'.heap.size) ts v /\ ts.length <= 5001) (yc c.L p (c.L.length + 1) [] i)) := by
 have HP := zc h; have HL := zc h.low; have Q := h.lt; have a3 := h.good.few; have a4 := hp.ent; have U := zc hp; have S0 := zc (SI.mk (c := c) (w := w) (i := i) (d := d) (r := yc c.L p (c.L.length + 1) [] i) (q := yc c.L p) (f := c.L.length + 1) (j := i) (acc := []) (lo := w.heap.size) (wr := w) (v := .slice none 0 0) (LR.nil _ _) h (zj _ _) rfl (by omega) (by simp) (Nat.le_refl _) (Nat.le_refl _) (Nat.le_refl _)); clear h hp
 go_enter Tryz.func143,Tryz.ntmps143
 go_wp2_with fail
 go_loopw [5] (fun v wr => ∃ acc j f lo,Hid (SI c w i d (yc c.L p (c.L.length + 1) [] i) (yc c.L p) v wr acc j f lo)) (fun _ wr => c.L.length - atOf wr c.pb)
 case atStart => exact ⟨_,_,_,_,S0⟩
 case round =>
  obtain ⟨acc,j,f,lo,HS⟩ := hrel; clear S0; have k := HS.out; have H := k.ps; have I := k.low; have a5 := k.low2; have a7 := k.len; have a8 := k.fuel; have a9 := k.le; have b0 := k.ps.il; obtain ⟨ad,cp,rfl⟩ := k.lr.form; have V := zc k.lr; have HG := zc k.gb; have A := zc k.same; have B := zc H; clear k HS H; go_wp2_with fail; go_at_call 138; refine (xJ c _ j d B.out).mono ?_; rintro e X ⟨rfl,o⟩; have s2 := o.size; have Y : w.grownBy X (some c.pb) := za HG.out (zv o _); have l : LR X (In lo wr.heap.size) acc (.slice ad acc.length cp) := V.out.grown o; have p2 : PS c X j d := B.out.kept o; cases C : yh (wd c.L j)
  ·go_wp2
   go_ret
   exact Steps.ok (A.out.trans (rI C (by omega))) ⟨l.wide I s2,by omega⟩ Y p2 (by omega)
  ·go_wp2_with fail
   refine (U.out.call _ j p2 trivial).mono ?_; rintro e w3 (⟨x3,D,J,m⟩ | ⟨⟨Z,n3,m3,q3,R⟩,j3,v3,D,rfl,⟨b1,rfl,s⟩,m,p3,b2⟩)
   ·obtain ⟨q,rfl,-⟩ := id J; exact ⟨rfl,Steps.err ((A.out.trans (kF C (by omega))).trans (P.bind_err D)) J Y m⟩
   simp only [T.kind,T.name,T.num,T.at',T.subs] at s ⊢; obtain ⟨E,F,rfl⟩ := s.form; have s3 := m.size; have G3 := za Y m; have l : LR w3 (In lo wr.heap.size) acc (.slice ad acc.length cp) := l.call m (by omega); have K := LR.build1 w3 (cs := #[.int .i64 Z,.string ⟨n3.toArray⟩,.int .i64 m3,.int .i64 q3,.slice E R.length F]) (t := T.mk Z n3 m3 q3 R) (sv := .slice E R.length F) s rfl rfl s3; have x : yc c.L p (c.L.length + 1) [] i = _ := (A.out.trans (kF C (by omega))).trans (P.bind_ok D); have M := zc (l.alloc (.cells #[.int .i64 Z,.string ⟨n3.toArray⟩,.int .i64 m3,.int .i64 q3,.slice E R.length F] 100)); have a0 := zc K; have b3 := p3.il; clear l s K
   go_wp2_with (at_builtin; refine kz rfl _ _ rfl rfl rfl M.out a0.out (by omega) (by omega) (by simp; omega) (by simp) (by simp; omega) ?_; intro v5 w5 a1 G)
   have z := M.out.rows; have p5 : PS c w5 j3 d := PS.own (p3.alloc _) HL.out G (fun b Q => by have := z b Q; omega); have G5 : w.grownBy w5 (some c.pb) := xi (zh G3 _) G (fun b Q => by have := z b Q; omega); have s5 := G.size
   simp at s5
   go_at_call 88; refine (zy c _ j3 d yl _ rfl (by decide) p5).mono ?_; rintro e w6 (⟨x6,u,N,n⟩ | ⟨a6,j6,v6,u,rfl,-,n,p6,b4⟩)
   ·obtain ⟨q,rfl,-⟩ := id N; exact ⟨rfl,Steps.err (x.trans (P.bind_err u)) N G5 n⟩
   have O : yc c.L p (c.L.length + 1) [] i = _ := x.trans (P.bind_ok u); have b5 := dU u; have s6 := n.size; have a2 := a1.call n (by omega); go_wp2; refine ⟨⟨_,j6,f - 1,lo,SI.mk (a2.wide (Nat.le_refl _) (by omega)) p6 (za G5 n) O (by omega) (by simp only [List.length_append,List.length_singleton]; omega) (by omega) I (by omega)⟩,?_⟩; rw [p6.atOf,B.out.atOf]
   omega
set_option maxRecDepth 1000000
theorem iQ (s : ByteArray) (w : World) (hs : s.size <= maxLen) (hd : ∀ h : 0 < s.size,zx ((s[0]'h).toNat : Int) = false /\ (s[0]'h).toNat < 128) :
  Calls Tryz.prog 133 #[.string s] w fun e w' => e = .returned (.tuple #[.int .i64 0,.bool false]) /\ w.grownBy w' none := by
 unfold maxLen at hs
 have c := zc hd; clear hd
 go_enter Tryz.func133,Tryz.ntmps133
 go_wp2
 go_loopw [2] (fun v wr => wr = w.iter s 0 /\ v = .int .i64 0) (fun _ _ => 0)
 case atStart => exact ⟨rfl,rfl⟩
 case round =>
  obtain ⟨rfl,rfl⟩ := hrel
  by_cases b : 0 < s.size
  ·obtain ⟨d,_⟩ := vl c b
   have f : ∀ ty,(Instr.next (pq w.heap.size) true ty).run Tryz.prog (w.iter s 0) = _ := fun ty => run_next_ascii w s 0 ty b (by omega)
   clear c
   go_wp2_with (go_at_call 132; refine (yH _ _).mono ?_; rintro e w' ⟨rfl,rfl⟩; simp only [d])
   go_ret2
   exact ⟨rfl,yS w s _⟩
  ·have f : ∀ ty,(Instr.next (pq w.heap.size) true ty).run Tryz.prog (w.iter s 0) = _ := fun ty => run_next_end w s 0 ty b
   have g : (s.toList == []) = true := by
    rw [vr]
    have : s.data.toList.length = 0 := by rw [<- zD]; omega
    cases h : s.data.toList with
    | nil => rfl
    | cons a l => rw [h] at this; simp at this
   clear c; go_wp2
   go_ret2
   exact ⟨rfl,yS w s _⟩
theorem lQ (s : ByteArray) (h : 0 < s.size) : s.data.toList.headD 0 = s[0] := (jV s h).1
theorem qR (c : PC) (w : World) (i d : Nat) (h : PS c w i d) :
    Calls Tryz.prog 202 #[pq c.pb] w (Steps c w i d (fun _ n v => v = .int .i64 n) (qY c.L i)) := by
  have k := zc h; have z := h.good.short i
  by_cases b : wd c.L i ≠ [] /\ zx (((wd c.L i).headD 0).toNat : Int) = true
  · obtain ⟨n,l⟩ := h.good.val i b.1 b.2
    have o := zc (h.good.dig i b.2)
    have r : Hid (qY c.L i = .ok (n,i + 1)) := by
      show qY c.L i = _
      unfold qY ky
      rw [if_pos b,l]
    have A := zc b.1; have B := zc l; have s : (wd c.L i).isEmpty = false := vw b.1; clear h b l
    go_enter Tryz.func202,Tryz.ntmps202
    go_wp2_with (first
      | (go_at_call 68; refine (yM c _ i d k.out).mono ?_; rintro e C ⟨rfl,m,rfl⟩)
      | (go_at_call 133; refine (qy ⟨(wd c.L i).toArray⟩ _ (by unfold maxLen; simp [ByteArray.size]; omega) (by simpa using s) (fun j hj => o.out _ (by simp [ByteArray.getElem_eq_getElem_data]))).mono ?_; rintro e D ⟨u,g⟩; rw [show (ByteArray.mk (wd c.L i).toArray).data.toList = wd c.L i from by simp,B.out] at u; subst u; simp only [kU])
      | (go_at_call 139; refine (xB c _ i d ((k.out.drewN _).kept g) A.out).mono ?_; rintro e E ⟨rfl,f,F⟩))
    go_ret
    exact Steps.ok r.out rfl (za (zv (za (zq (zj _ _) _) g) _) f) F (by omega)
  · have r : Hid (qY c.L i = .error (yu c.L i)) := by
      show qY c.L i = _
      unfold qY ky
      rw [if_neg b]
    have o : Hid (∀ h : 0 < (ByteArray.mk (wd c.L i).toArray).size,zx (((ByteArray.mk (wd c.L i).toArray)[0]'h).toNat : Int) = false /\ ((ByteArray.mk (wd c.L i).toArray)[0]'h).toNat < 128) := by
      intro t; have e := lQ _ t; have G := h.good.low i; simp only [] at e; rw [<- e]; refine ⟨?_,by simpa using G⟩; cases H : zx (((wd c.L i).headD 0).toNat : Int)
      · simp only
      · refine absurd ⟨?_,H⟩ b
        intro I; rw [I] at t
        simp [ByteArray.size] at t
    clear h b
    go_enter Tryz.func202,Tryz.ntmps202
    go_wp2_with (first
      | (go_at_call 68; refine (yM c _ i d k.out).mono ?_; rintro e C ⟨rfl,m,rfl⟩)
      | (go_at_call 133; refine (iQ ⟨(wd c.L i).toArray⟩ _ (by unfold maxLen; simp [ByteArray.size]; omega) o.out).mono ?_; rintro e D ⟨rfl,g⟩)
      | (go_at_call 69; refine (vF c _ i d ((k.out.drewN _).kept g)).mono ?_; rintro e E ⟨x,f⟩; have J := zc x; obtain ⟨q,rfl,-⟩ := x))
    exact ⟨rfl,Steps.err r.out J.out (zv (za (zq (zj _ _) _) g) _) (zv f _)⟩
theorem qS (c : PC) (w : World) (i d : Nat) (x : List UInt8) (sb : ByteArray) (hsb : sb.data.toList = x) (hx : x ≠ []) (h : PS c w i d) :
  Calls Tryz.prog 97 #[pq c.pb,.string sb] w (Steps c w i d (fun _ _ _ => True) (kL c.L x i)) := by
 have n := zc h; clear h
 go_enter Tryz.func97,Tryz.ntmps97
 go_wp2_with fail; go_at_call 88; refine (zy c _ i d kh _ rfl (by decide) n.out).mono ?_; rintro e v (⟨z,f,k,b⟩ | ⟨A,o,B,f,rfl,-,b,r,s⟩)
 ·obtain ⟨q,rfl,-⟩ := id k; exact ⟨rfl,Steps.err (P.bind_err f) k (zj _ _) b⟩
 have l : kL c.L x i = _ := P.bind_ok f; go_wp2_with fail; go_at_call 88; refine (zy c _ o d x _ hsb hx r).mono ?_; rintro e C (⟨D,g,m,j⟩ | ⟨E,F,G,g,rfl,-,j,t,u⟩)
 ·obtain ⟨q,rfl,-⟩ := id m; exact ⟨rfl,Steps.err (l.trans g) m b j⟩
 go_wp2; refine bodyPost_end (results_none rfl _ _ _) rfl ?_
 exact Steps.ok (l.trans g) trivial (za b j) t (by omega)
set_option maxHeartbeats 400000
set_option maxRecDepth 100000
def Un (S : Nat -> Prop) (lo hi : Nat) : Nat -> Prop := fun k => S k \/ (lo <= k /\ k < hi)
section
variable {w w' : World} {S : Nat -> Prop} {lo hi lo' hi' b : Nat} {ts : List T} {v : Value}
theorem LR.callU (h : LR w (Un S lo hi) ts v) (hg : w.grownBy w' (some b)) (hb : ¬ S b) (hb2 : b < lo \/ hi <= b) : LR w' (Un S lo hi) ts v :=
 h.kept hg (fun k hk hs => by
  cases hk
  rcases hs with hs | hs
  ·exact hb hs
  ·omega)
theorem LR.wideU (h : LR w (Un S lo hi) ts v) (h1 : lo' <= lo) (h2 : hi <= hi') : LR w (Un S lo' hi') ts v := h.mono (fun k hk => hk.elim .inl (fun h => .inr ⟨by omega,by omega⟩))
theorem LR.inU (h : LR w (In lo hi) ts v) : LR w (Un S lo hi) ts v := h.mono (fun _ hk => .inr hk)
theorem LR.un (h : LR w S ts v) : LR w (Un S lo hi) ts v := h.mono (fun _ hk => .inl hk)
theorem LR.grownU (h : LR w S ts v) (hg : w.grownBy w' none) : LR w' S ts v := h.kept hg (fun _ hk => by cases hk)
theorem LR.buildS (w : World) {cs : Array Value} {svs : List Value} {g n : Nat} (hg : g = w.heap.size) (hn : n = ts.length) (hc : cs.toList = xy ts svs) (hl : svs.length = ts.length) (hlen : ts.length <= 5000) (hS : ∀ k,S k -> k < g)
  (hs : ∀ (i : Nat) (t : T) (sv : Value),ts[i]? = some t -> svs[i]? = some sv -> LR w S t.subs sv) : LR (w.alloc (.cells cs 100)) (fun k => S k \/ k = g) ts (.slice (some ⟨g,0,none⟩) n n) := by
 subst hg hn
 have c : cs.size = ts.length * 5 := by rw [<- Array.length_toList,hc,yC _ _ hl]
 refine .mk _ _ _ svs hl ⟨yC _ _ hl,.inr ⟨w.heap.size,ts.length,cs,rfl,Nat.zero_le _,heap_alloc_new w _,Nat.le_refl _,by unfold maxLen; omega,c,?_⟩⟩ (fun b hb => ?_) (fun i t sv h1 h2 => ?_)
 ·rw [hc,<- yC _ _ hl,List.take_length]
 ·cases hb
  exact .inr rfl
 ·refine ((hs i t sv h1 h2).grownU (World.grownBy_alloc w _ none)).mono (fun k hk => ⟨.inl hk,fun e => ?_⟩)
  have d := hS k hk
  simp [Value.ownBlock] at e
  omega
theorem LR.build1S (w : World) {t : T} {sv : Value} {g : Nat} {cs : Array Value} (h : LR w S t.subs sv) (hS : ∀ k,S k -> k < g) (hg : g = w.heap.size) (hc : cs.toList = headC t sv) :
  LR (w.alloc (.cells cs 100)) (fun k => S k \/ k = g) [t] (.slice (some ⟨g,0,none⟩) 1 1) :=
 LR.buildS w (svs := [sv]) hg rfl hc rfl (by simp) hS (fun i t' sv' h1 h2 => by
  match i,h1,h2 with
  | 0,h1,h2 => cases h1; cases h2; exact h)
theorem LR.build2S (w : World) {t t2 : T} {sv sv2 : Value} {g : Nat} {cs : Array Value} (h : LR w S t.subs sv) (h2 : LR w S t2.subs sv2) (hS : ∀ k,S k -> k < g) (hg : g = w.heap.size) (hc : cs.toList = headC t sv ++ headC t2 sv2) :
  LR (w.alloc (.cells cs 100)) (fun k => S k \/ k = g) [t,t2] (.slice (some ⟨g,0,none⟩) 2 2) :=
 LR.buildS w (svs := [sv,sv2]) hg rfl hc rfl (by simp) hS (fun i t' sv' h3 h4 => by
  match i,h3,h4 with
  | 0,h3,h4 => cases h3; cases h4; exact h
  | 1,h3,h4 => cases h3; cases h4; exact h2)
end
theorem jv (w : World) (sign : List UInt8) (left right : T) (S : Nat -> Prop) (svl svr : Value) (hl : LR w S left.subs svl) (hr : LR w S right.subs svr) (hS : ∀ k,S k -> k < w.heap.size) :
  Calls Tryz.prog 201 #[.string ⟨sign.toArray⟩,.agg #[.int .i64 left.kind,.string ⟨left.name.toArray⟩,.int .i64 left.num,.int .i64 left.at',svl],.agg #[.int .i64 right.kind,.string ⟨right.name.toArray⟩,.int .i64 right.num,.int .i64 right.at',svr]] w
   fun e w' => ∃ sv,e = .returned (.agg #[.int .i64 36,.string ⟨sign.toArray⟩,.int .i64 0,.int .i64 left.at',sv]) /\ LR w' (Un S w.heap.size w'.heap.size) [left,right] sv /\ w.grownBy w' none := by
 obtain ⟨g,h,i,j,l⟩ := left; obtain ⟨m,n,o,q,r⟩ := right; simp only [T.kind,T.name,T.num,T.at',T.subs] at hl hr ⊢; obtain ⟨_,_,rfl⟩ := hl.form; obtain ⟨_,_,rfl⟩ := hr.form; have d := zc hl; have f := zc hr; clear hl hr
 go_enter Tryz.func201,Tryz.ntmps201
 go_wp2; refine zn Tryz.results201 rfl (NB.alloc (NB.new' (by simp)) _) rfl ⟨_,rfl,?_,?_⟩
 ·refine LR.mono (LR.build2S _ (t := T.mk g h i j l) (t2 := T.mk m n o q r) (S := S) (((d.out.grownU (World.grownBy_alloc _ _ none)).grownU (World.grownBy_alloc _ _ none)).grownU (World.grownBy_alloc _ _ none))
   (((f.out.grownU (World.grownBy_alloc _ _ none)).grownU (World.grownBy_alloc _ _ none)).grownU (World.grownBy_alloc _ _ none)) (fun k c => Nat.lt_of_lt_of_le (hS k c) (by omega)) (by simp) rfl) ?_
  intro k c
  rcases c with c | rfl
  ·exact .inl c
  ·exact .inr ⟨by omega,by simp⟩
 ·exact zh (zh (zh (zh (zj _ _) _) _) _) _
theorem dJ (x : List UInt8) (w : World) : Calls Tryz.prog 212 #[.string ⟨x.toArray⟩] w fun e w' => e = .returned (.bool (gW x)) /\ w' = w := by
 unfold gW
 go_enter Tryz.func212,Tryz.ntmps212
 go_wp2
 all_goals go_ret
 all_goals
  refine ⟨?_,rfl⟩
  simp_all [iJ,kS,kOR]
theorem gf (x : List UInt8) (w : World) : Calls Tryz.prog 221 #[.string ⟨x.toArray⟩] w fun e w' => e = .returned (.bool (xR x)) /\ w' = w := by
 unfold xR
 go_enter Tryz.func221,Tryz.ntmps221
 go_wp2
 all_goals go_ret
 all_goals
  refine ⟨?_,rfl⟩
  simp_all [gI,zba,za8,ai]
theorem dw (x : List UInt8) (w : World) : Calls Tryz.prog 200 #[.string ⟨x.toArray⟩] w fun e w' => e = .returned (.bool (xO x)) /\ w' = w := by
 unfold xO
 go_enter Tryz.func200,Tryz.ntmps200
 go_wp2
 all_goals go_ret
 all_goals
  refine ⟨?_,rfl⟩
  simp_all [dB,i4,za7,zat,zax,zas]
theorem gi (c : PC) (w : World) (i d : Nat) (h : PS c w i d) : Calls Tryz.prog 223 #[pq c.pb] w fun e w' => e = .returned (.bool (yy (wd c.L i))) /\ w.grownBy w' none := by
 have f := zc h; clear h
 unfold yy
 go_enter Tryz.func223,Tryz.ntmps223
 go_wp2_with fail; go_at_call 68; refine (yM c _ i d f.out).mono ?_; rintro e g ⟨rfl,n,rfl⟩; go_wp2
 all_goals go_ret
 all_goals
  refine ⟨?_,zq (zj _ _) _⟩
  simp_all [jY,mS,tF,cO]
theorem vT (c : PC) (w : World) (i d : Nat) (h : PS c w i d) : Calls Tryz.prog 206 #[pq c.pb] w fun e w' => e = .returned (.bool (xH (wd c.L i))) /\ w.grownBy w' none := by
 have f := zc h; clear h
 unfold xH
 go_enter Tryz.func206,Tryz.ntmps206
 go_wp2_with fail; go_at_call 68; refine (yM c _ i d f.out).mono ?_; rintro e g ⟨rfl,n,rfl⟩; go_wp2
 all_goals go_ret
 all_goals
  refine ⟨?_,zq (zj _ _) _⟩
  simp_all [yl,kh,qh,rZ,tL]
set_option maxHeartbeats 1000000
structure CI (c : PC) (w : World) (i d : Nat) (S0 : Nat -> Prop) (r : Except (Int × Int) (T × Nat)) (q : Nat -> T -> P T) (wr : World) (k : Int) (s : List UInt8) (n a : Int) (l : List T) (sv : Value) (j f : Nat) : Prop where
 nb : NB wr w.heap.size (.int .i64 k) (.string ⟨s.toArray⟩) (.int .i64 n) (.int .i64 a) sv
 rb : RB wr (w.heap.size + 1)
 lr : LR wr (Un S0 (w.heap.size + 2) wr.heap.size) l sv
 ps : PS c wr j d
 gb : w.grownBy wr (some c.pb)
 same : r = q f (.mk k s n a l) j
 le : i <= j
theorem cH {L : List Tok} {joins : List UInt8 -> Bool} {p : P T} {f j : Nat} {t : T} (h : joins (wd L j) = false) : xo L joins p f t j = .ok (t,j) := by
 cases f <;> (rw [xo]; exact if_neg (by rw [h]; decide))
theorem lp {L : List Tok} {joins : List UInt8 -> Bool} {p : P T} {f j : Nat} {t : T} (h : joins (wd L j) = true) : xo L joins p (f + 1) t j = (p.bind fun r => xo L joins p f (opT (wd L j) t r)) (j + 1) := by
 rw [xo]
 exact if_pos h
theorem ox {L : List Tok} {joins : List UInt8 -> Bool} {p : P T} {j : Nat} {t : T} (h : joins (wd L j) = true) : xo L joins p 0 t j = .error (3,pos L (j + 1)) := by
 rw [xo]
 exact if_pos h
theorem kl (c : PC) (w : World) (i d : Nat) (joins : List UInt8 -> Bool) (jg : Nat) (g : Nat) (p : P T) (S0 : Nat -> Prop) (left : T) (svl : Value) (h : PS c w i d) (hl : LR w S0 left.subs svl) (hS : ∀ k,S0 k -> k < w.heap.size /\ k ≠ c.pb)
    (hp : Part c d (fun _ => True) g #[pq c.pb] p) (hj : ∀ (x : List UInt8) (w : World),Calls Tryz.prog jg #[.string ⟨x.toArray⟩] w fun e w' => e = .returned (.bool (joins x)) /\ w' = w)
    (hje : ∀ (args : Array Value) (w : World),(callFunc jg args).run Tryz.prog w = .ok (.enter jg args) w) (hjn : joins [] = false) :
    Calls Tryz.prog 210 #[pq c.pb,.agg #[.int .i64 left.kind,.string ⟨left.name.toArray⟩,.int .i64 left.num,.int .i64 left.at',svl],.func (.func jg) #[] #[],.func (.func g) #[pq c.pb] #[]] w
      (Steps c w i d (fun w' t v => ∃ sv,v = .agg #[.int .i64 t.kind,.string ⟨t.name.toArray⟩,.int .i64 t.num,.int .i64 t.at',sv] /\ LR w' (Un S0 w.heap.size w'.heap.size) t.subs sv) (xo c.L joins p 20 left i)) := by
  obtain ⟨k0,n0,m0,q0,l0⟩ := left; simp only [T.kind,T.name,T.num,T.at',T.subs] at hl ⊢; obtain ⟨b3,b4,rfl⟩ := hl.form; have HP := zc h; have HL := zc h.low; have hb := h.lt; have c0 := h.good.few; have c1 := hp.ent; have b5 := zc hp; have HJ := zc hj; have HS := zc hS; have Z := zc hl
  have a0 : ¬ S0 c.pb := fun e => (hS _ e).2 rfl
  have z : ¬ S0 w.heap.size := fun e => by have := (hS _ e).1; omega
  have A : ¬ S0 (w.heap.size + 1) := fun e => by have := (hS _ e).1; omega
  clear h hp hj hS hl
  go_enter Tryz.func210,Tryz.ntmps210
  go_wp2_with fail
  go_loopw [9] (fun v wr => ∃ (k : Int) (s : List UInt8) (n a : Int) (l : List T) (sv : Value) (j f : Nat),f <= 20 /\ v = .int .i64 (21 - (f : Int)) /\ Hid (CI c w i d S0 (xo c.L joins p 20 (.mk k0 n0 m0 q0 l0) i) (xo c.L joins p) wr k s n a l sv j f)) (fun v _ => 22 - (intOf v).toNat)
  case atStart =>
    refine ⟨k0,n0,m0,q0,l0,.slice b3 l0.length b4,i,20,by omega,rfl,CI.mk ((NB.alloc (NB.new' (by simp)) _)) ((RB.new' (by simp))) ?_ (PS.alloc (PS.alloc HP.out _) _) (zh ga _) rfl (Nat.le_refl _)⟩
    exact ((Z.out.un).grownU (World.grownBy_alloc _ _ none)).grownU (World.grownBy_alloc _ _ none)
  case round =>
    obtain ⟨k,s,n,a,l,sv,j,f,_,rfl,HC⟩ := hrel; clear Z; have E := HC.out; obtain ⟨ad,cp,rfl⟩ := E.lr.form; have K := zc E.nb; have F := zc E.rb; have M := zc E.lr; have N := zc E.ps; have HG := zc E.gb; have O := zc E.same; have b6 := E.le; have c2 := E.rb.lt; clear E HC; go_wp2_with fail; go_at_call 68; refine (yM c _ j d N.out).mono ?_; rintro e w1 ⟨rfl,m,rfl⟩; go_wp2_with fail; refine (HJ.out (wd c.L j) _).mono ?_; rintro e w2 ⟨rfl,rfl⟩; cases B : joins (wd c.L j)
    · obtain ⟨x0,x1,x2,x3,x4,xz⟩ := K.out.drewN m
      obtain ⟨_,_,_,_,_,y0,y1,y2,y3,y4,yz⟩ := F.out.drewN m; go_wp2; refine zn Tryz.results210 rfl (RB.five ?_) rfl ?_
      · exact F.out.drewN m
      refine Steps.ok (a := T.mk k s n a l) (O.out.trans (cH B)) ⟨_,rfl,?_⟩ ?_ ?_ b6
      · refine LR.wideU (lo := w.heap.size + 2) (hi := wr.heap.size) ?_ (by omega) (by simp)
        have h5 := (M.out.grownU (zq grn m))
        exact ((((h5.callU (zT (zj _ _) _ _) A (by omega)).callU (zT (zj _ _) _ _) A (by omega)).callU (zT (zj _ _) _ _) A (by omega)).callU (zT (zj _ _) _ _) A (by omega)).callU (zT (zj _ _) _ _) A (by omega)
      · exact zC (zq HG.out _) (by omega)
      · exact PS.p5 (PS.drewN N.out _) HL.out (by omega)
    · have b7 : wd c.L j ≠ [] := by
        intro e; rw [e,hjn] at B; cases B
      go_wp2_with fail; go_at_call 139; refine (xB c _ j d (N.out.drewN m) b7).mono ?_; rintro e w3 ⟨rfl,o,p3⟩; have s3 := o.size; have G3 : w.grownBy w3 (some c.pb) := za (zq HG.out m) o; have Q := (K.out.drewN m).kept o (by simp; omega); have R := (F.out.drewN m).kept o (by simp; omega); have a1 := (M.out.grownU (zq grn m)).callU o a0 (by omega)
      simp at s3
      have b8 := R.lt; have a2 := zc Q; have a3 := zc R; have a4 := zc a1; have a5 := zc p3; have U := zc G3; obtain ⟨x0,x1,x2,x3,x4,xz⟩ := id Q; clear Q R a1 p3 G3 K F M HG o; cases f with
      | zero =>
        have hx : decide ((20 : Int) < 21 - ((0 : Nat) : Int)) = true := by decide
        go_wp2_with fail; go_at_call 98; refine (vV c _ (j + 1) d 3 a5.out).mono ?_; rintro e G ⟨C,b⟩; have HT := C; obtain ⟨q,rfl,-⟩ := C
        exact ⟨rfl,Steps.err (O.out.trans (ox B)) HT U.out (zv b _)⟩
      | succ f =>
        have hx : decide ((20 : Int) < 21 - ((f + 1 : Nat) : Int)) = false := by simp; omega
        have HR : Hid (xo c.L joins p 20 (T.mk k0 n0 m0 q0 l0) i = (p.bind fun r => xo c.L joins p f (opT (wd c.L j) (T.mk k s n a l) r)) (j + 1)) := O.out.trans (lp B); go_wp2_with fail
        go_region_with (first
          | (refine (b5.out.call _ (j + 1) (a5.out.drewN _) trivial).mono ?_
             rintro e G (⟨x4,u,C,b⟩ | ⟨⟨k4,n4,m4,q4,Y⟩,j4,v4,u,rfl,⟨c3,rfl,H⟩,b,p4,V⟩)
             focus
               have HT := C; obtain ⟨q,rfl,-⟩ := C
               exact ⟨rfl,Steps.err (HR.out.trans (P.bind_err u)) HT (zq U.out _) b⟩
             simp only [T.kind,T.name,T.num,T.at',T.subs] at H ⊢; obtain ⟨a6,a7,rfl⟩ := H.form; have X := NB.kept (a2.out.drewN _) b (by simp; omega); have a8 := RB.kept (a3.out.drewN _) b (by simp; omega); have s4 := b.size
             simp at s4
             have H1 : LR G (Un S0 (w.heap.size + 2) G.heap.size) l (.slice ad l.length cp) := ((a4.out.grownU (zq grn _)).callU b a0 (by omega)).wideU (Nat.le_refl _) (by omega); have H2 : LR G (Un S0 (w.heap.size + 2) G.heap.size) Y (.slice a6 Y.length a7) := LR.inU (H.wide (by simp; omega) (Nat.le_refl _))
             have H3 : ∀ k,Un S0 (w.heap.size + 2) G.heap.size k -> k < G.heap.size := fun k I => I.elim (fun h => by have := (HS.out k h).1; omega) (fun h => h.2)
             have G4 : w.grownBy G (some c.pb) := za (zq U.out _) b; obtain ⟨_,_,_,_,_,_⟩ := id X; have J := zc (And.intro H1 (And.intro H2 (And.intro H3 (And.intro G4 (And.intro X (And.intro a8 (And.intro p4 (And.intro u V))))))))
             clear H1 H2 H3 G4 X a8 p4 u V H b)
          | (go_at_call 201
             refine (jv _ (wd c.L j) (T.mk k s n a l) (T.mk k4 n4 m4 q4 Y) (Un S0 (w.heap.size + 2) G.heap.size) (.slice ad l.length cp) (.slice a6 Y.length a7) J.out.1 J.out.2.1 J.out.2.2.1).mono ?_; simp only [T.at']; rintro e w5 ⟨c4,rfl,a9,D⟩; obtain ⟨b0,b1,rfl⟩ := a9.form; have b2 := J.out.2.2.2.2.1.kept D (by simp)
             obtain ⟨y0,y1,y2,y3,y4,yz⟩ := id b2))
        all_goals
          go_wp2; have b9 := J.out.2.2.2.2.2.1.kept D (by simp); have p5 := J.out.2.2.2.2.2.2.1.kept D; have G5 : w.grownBy w5 (some c.pb) := za J.out.2.2.2.1 (zv D _); have u := J.out.2.2.2.2.2.2.2.1; have V := J.out.2.2.2.2.2.2.2.2; have s5 := D.size; refine ⟨⟨36,wd c.L j,0,a,[T.mk k s n a l,T.mk k4 n4 m4 q4 Y],.slice b0 2 b1,j4,f,by omega,by simp; omega,CI.mk ((NB.s4 (NB.s3 (NB.s2 (NB.s1 (NB.s0 b2 _) _) _) _) _)) ((RB.p5 b9)) ?_ ((PS.p5 p5 HL.out (by omega))) ((zC G5 (by omega))) (HR.out.trans (P.bind_ok u)) (by omega)⟩,?_⟩
          · have h5 : LR w5 (Un S0 (w.heap.size + 2) w5.heap.size) [T.mk k s n a l,T.mk k4 n4 m4 q4 Y] (.slice b0 2 b1) := a9.mono (fun k I => by
              rcases I with (I | I) | I
              · exact .inl I
              · exact .inr ⟨I.1,by omega⟩
              · exact .inr ⟨by omega,I.2⟩)
            refine LR.wideU (lo := w.heap.size + 2) (hi := w5.heap.size) ?_ (by omega) (by simp)
            exact ((((h5.callU (zT (zj _ _) _ _) z (by omega)).callU (zT (zj _ _) _ _) z (by omega)).callU (zT (zj _ _) _ _) z (by omega)).callU (zT (zj _ _) _ _) z (by omega)).callU (zT (zj _ _) _ _) z (by omega)
          · simp [intOf]
            omega
set_option maxHeartbeats 400000
abbrev ExprOK (c : PC) (d : Nat) (E : P T) : Prop := Part c d (fun _ => True) 145 #[pq c.pb] E
def NegOK (c : PC) (d : Nat) (F : P T) : Prop := ∀ (w : World) (i : Nat),PS c w i d -> Calls Tryz.prog 172 #[pq c.pb,.func (.func 220) #[pq c.pb] #[]] w (Steps c w i d (fun w' t v => TR w' w.heap.size w'.heap.size t v) (F i))
theorem jb (c : PC) (w : World) (i d : Nat) (k : Int) (h : PS c w i d) (hne : wd c.L i ≠ []) :
  Calls Tryz.prog 226 #[pq c.pb,.int .i64 k] w (Steps c w i d (fun w' t v => TR w' w.heap.size w'.heap.size t v) ((P.ret (T.mk k [] 0 (pos c.L i) [])) (i + 1))) := by
 have s := zc h; have u := zc h.low; have E := h.lt; clear h
 go_enter Tryz.func226,Tryz.ntmps226
 go_wp2_with fail; go_at_call 87; refine (zL c _ i d k (PS.alloc s.out _)).mono ?_; rintro e m ⟨rfl,b⟩; have x : PS c m i d := PS.kept (PS.alloc s.out _) b; have z : w.grownBy m (some c.pb) := za ga (zv b (some c.pb)); have A := b.size
 try simp at A
 have g : RB m w.heap.size := RB.kept (RB.new' (by simp)) b (by simp); have n := g.lt; obtain ⟨_,_,_,_,_,_,_,_,_,_,_⟩ := id g; go_wp2_with fail; go_at_call 139; refine (xB c _ i d (PS.alloc x _) hne).mono ?_; rintro e o ⟨rfl,f,B⟩; have C : w.grownBy o (some c.pb) := za (zh z _) f; have D := f.size
 try simp at D
 have j : RB o w.heap.size := RB.k (RB.alloc g _) f; have l : NB o m.heap.size (.int .i64 k) (.string ⟨#[]⟩) (.int .i64 0) (.int .i64 (pos c.L i)) (.slice none 0 0) := NB.k (NB.new' (by simp)) f; have q := j.lt; have r := l.lt; obtain ⟨_,_,_,_,_,_,_,_,_,_,_⟩ := id j; obtain ⟨_,_,_,_,_,_⟩ := id l; go_wp2; refine zn Tryz.results226 rfl (RB.five ?_) rfl ?_
 ·exact j
 refine Steps.ok (a := (T.mk k [] 0 (pos c.L i) [])) rfl ⟨_,rfl,?_⟩ ?_ ?_ (by omega)
 ·exact LR.nil _ _
 ·exact zC C (by omega)
 ·exact PS.p5 B u.out (by omega)
theorem hH (c : PC) (w : World) (i d : Nat) (E : P T) (h : PS c w i d) (hE : ExprOK c d E) :
  Calls Tryz.prog 228 #[pq c.pb] w (Steps c w i d (fun w' t v => TR w' w.heap.size w'.heap.size t v) (((zB c.L xA).bind fun _ => E.bind fun e => (zB c.L jx).bind fun _ => P.ret e) i)) := by
 have HP := zc h; have HL := zc h.low; have hb := h.lt; clear h
 go_enter Tryz.func228,Tryz.ntmps228
 go_wp2_with fail; go_at_call 88; refine (zy c _ i d xA _ rfl (by decide) (PS.alloc HP.out _)).mono ?_; rintro e w1 (⟨x1,l,u,f⟩ | ⟨a1,j1,v1,l,rfl,-,f,p1,a0⟩)
 ·obtain ⟨q,rfl,-⟩ := id u; exact ⟨rfl,Steps.err (P.bind_err l) u ga f⟩
 have x : ((zB c.L xA).bind fun _ => E.bind fun e => (zB c.L jx).bind fun _ => P.ret e) i = _ := P.bind_ok l; have R := za ga f; have s1 := f.size
 try simp at s1
 have m : RB w1 w.heap.size := RB.k (RB.new' (by simp)) f; have I := m.lt; obtain ⟨_,_,_,_,_,_,_,_,_,_,_⟩ := id m; go_wp2_with fail; go_at_call 145; refine (hE.call _ j1 p1 trivial).mono ?_; rintro e U (⟨x2,n,z,g⟩ | ⟨⟨V,X,Y,Z,G⟩,j2,v2,n,rfl,⟨a2,rfl,j⟩,g,p2,a4⟩)
 ·obtain ⟨q,rfl,-⟩ := id z; exact ⟨rfl,Steps.err (x.trans (P.bind_err n)) z R g⟩
 have A : ((zB c.L xA).bind fun _ => E.bind fun e => (zB c.L jx).bind fun _ => P.ret e) i = _ := x.trans (P.bind_ok n); simp only [T.kind,T.name,T.num,T.at',T.subs] at j ⊢; obtain ⟨B,C,rfl⟩ := j.form; obtain ⟨b2,J,j⟩ := j.nm
 try simp at J
 have G2 := za R g; have s2 := g.size
 try simp at s2
 have o := RB.k m g; have K := o.lt; obtain ⟨_,_,_,_,_,_,_,_,_,_,_⟩ := id o; go_wp2_with fail; go_at_call 88; refine (zy c _ j2 d jx _ rfl (by decide) (PS.alloc p2 _)).mono ?_; rintro e H (⟨x3,r,D,b⟩ | ⟨a3,j3,v3,r,rfl,-,b,p3,a5⟩)
 ·obtain ⟨q,rfl,-⟩ := id D; exact ⟨rfl,Steps.err (A.trans (P.bind_err r)) D (zh G2 _) b⟩
 have M : ((zB c.L xA).bind fun _ => E.bind fun e => (zB c.L jx).bind fun _ => P.ret e) i = _ := A.trans (P.bind_ok r); have G3 : w.grownBy H (some c.pb) := za (zh G2 _) b; have s3 := b.size
 try simp at s3
 have s : RB H w.heap.size := RB.k (RB.alloc o _) b; have F : NB H U.heap.size (.int .i64 V) (.string ⟨X.toArray⟩) (.int .i64 Y) (.int .i64 Z) (.slice B G.length C) := NB.k (NB.new' (by simp)) b; have N : LR H (In b2 U.heap.size) G (.slice B G.length C) := LR.c (LR.alloc j _) b; have O := s.lt; have Q := F.lt; obtain ⟨_,_,_,_,_,_,_,_,_,_,_⟩ := id s; obtain ⟨_,_,_,_,_,_⟩ := id F; go_wp2; refine zn Tryz.results228 rfl (RB.five ?_) rfl ?_
 ·exact s
 refine Steps.ok (a := (T.mk V X Y Z G)) M ⟨_,rfl,?_⟩ ?_ ?_ (by omega)
 ·exact (LR.p5 N (by omega)).wd
 ·exact zC G3 (by omega)
 ·exact PS.p5 p3 HL.out (by omega)
theorem dy (c : PC) (w : World) (i d : Nat) (F : P T) (h : PS c w i d) (hF : NegOK c d F) :
  Calls Tryz.prog 227 #[pq c.pb] w (Steps c w i d (fun w' t v => TR w' w.heap.size w'.heap.size t v) (((zB c.L vx).bind fun _ => F.bind fun t => P.ret (T.mk 34 [] 0 (pos c.L i) [t])) i)) := by
 have X := zc h; have Y := zc h.low; have hb := h.lt; clear h
 go_enter Tryz.func227,Tryz.ntmps227
 go_wp2_with fail; go_at_call 87; refine (zL c _ i d 34 (PS.alloc X.out _)).mono ?_; rintro e C ⟨rfl,j⟩; have p1 : PS c C i d := PS.kept (PS.alloc X.out _) j; have Z : w.grownBy C (some c.pb) := za ga (zv j (some c.pb)); have s1 := j.size
 try simp at s1
 have l : RB C w.heap.size := RB.kept (RB.new' (by simp)) j (by simp); have D := l.lt; obtain ⟨_,_,_,_,_,_,_,_,_,_,_⟩ := id l; go_wp2_with fail; go_at_call 88; refine (zy c _ i d vx _ rfl (by decide) (PS.alloc p1 _)).mono ?_; rintro e E (⟨x2,m,u,b⟩ | ⟨a2,j2,v2,m,rfl,-,b,p2,a0⟩)
 ·obtain ⟨q,rfl,-⟩ := id u; exact ⟨rfl,Steps.err (P.bind_err m) u (zh Z _) b⟩
 have x : ((zB c.L vx).bind fun _ => F.bind fun t => P.ret (T.mk 34 [] 0 (pos c.L i) [t])) i = _ := P.bind_ok m; have G2 : w.grownBy E (some c.pb) := za (zh Z _) b; have s2 := b.size
 try simp at s2
 have n : RB E w.heap.size := RB.k (RB.alloc l _) b; have o : NB E C.heap.size (.int .i64 34) (.string ⟨#[]⟩) (.int .i64 0) (.int .i64 (pos c.L i)) (.slice none 0 0) := NB.k (NB.new' (by simp)) b; have G := n.lt; have H := o.lt; obtain ⟨_,_,_,_,_,_,_,_,_,_,_⟩ := id n; obtain ⟨_,_,_,_,_,_⟩ := id o; go_wp2_with fail; go_at_call 172; refine (hF _ j2 p2).mono ?_; rintro e w3 (⟨x3,r,z,f⟩ | ⟨⟨I,J,K,M,A⟩,j3,v3,r,rfl,⟨a1,rfl,g⟩,f,p3,a3⟩)
 ·obtain ⟨q,rfl,-⟩ := id z; exact ⟨rfl,Steps.err (x.trans (P.bind_err r)) z G2 f⟩
 have N : ((zB c.L vx).bind fun _ => F.bind fun t => P.ret (T.mk 34 [] 0 (pos c.L i) [t])) i = _ := x.trans (P.bind_ok r); simp only [T.kind,T.name,T.num,T.at',T.subs] at g ⊢; obtain ⟨O,Q,rfl⟩ := g.form; obtain ⟨b3,R,g⟩ := g.nm
 try simp at R
 have G3 := za G2 f; have s3 := f.size
 try simp at s3
 have s := RB.k n f; have B := NB.k o f; have U := s.lt; have V := B.lt; obtain ⟨_,_,_,_,_,_,_,_,_,_,_⟩ := id s; obtain ⟨_,_,_,_,_,_⟩ := id B; go_wp2; refine zn Tryz.results227 rfl (NB.alloc (RB.five ?_) _) rfl ?_
 ·exact RB.put s _ _ _
 refine Steps.ok (a := (T.mk 34 [] 0 (pos c.L i) [(T.mk I J K M A)])) N ⟨_,rfl,?_⟩ ?_ ?_ (by omega)
 ·refine LR.wide (lo := b3) (hi := w3.heap.size + 1) (ts := [(T.mk I J K M A)]) ?_ (by omega) (by first | omega | (simp <;> omega))
  exact (LR.build1 _ (t := (T.mk I J K M A)) (sv := .slice O A.length Q) (LR.wide (lo := b3) (hi := w3.heap.size) (ts := A) (LR.p5 (LR.put g (by omega) _ _) (by omega)) (by omega) (by first | omega | (simp <;> omega))) (by simp) rfl (by omega))
 ·exact zh (zC (zs G3 (by omega) _ _) (by omega)) _
 ·exact PS.alloc (PS.p5 (PS.put p3 Y.out (by omega) _ _) Y.out (by omega)) _
theorem tP (c : PC) (w : World) (i d : Nat) (E F : P T) (h : PS c w i d) (hX : Part c d (fun _ => True) 220 #[pq c.pb] (zK c.L E F)) :
  Calls Tryz.prog 211 #[pq c.pb] w (Steps c w i d (fun w' t v => TR w' w.heap.size w'.heap.size t v) (xT c.L E F i)) := by
 have U := zc h; have V := zc h.low; have hb := h.lt; clear h
 go_enter Tryz.func211,Tryz.ntmps211
 go_wp2_with fail; go_at_call 220; refine (hX.call _ i (PS.alloc U.out _) trivial).mono ?_; rintro e s (⟨x1,m,u,g⟩ | ⟨⟨X,Y,Z,q1,C⟩,j1,v1,m,rfl,⟨a0,rfl,f⟩,g,p1,a1⟩)
 ·obtain ⟨q,rfl,-⟩ := id u; exact ⟨rfl,Steps.err (P.bind_err m) u ga g⟩
 have x : xT c.L E F i = _ := P.bind_ok m; simp only [T.kind,T.name,T.num,T.at',T.subs] at f ⊢; obtain ⟨z,A,rfl⟩ := f.form; obtain ⟨D,H,f⟩ := f.nm
 try simp at H
 have Q := za ga g; have s1 := g.size
 try simp at s1
 have n : RB s w.heap.size := RB.k (RB.new' (by simp)) g; have I := n.lt; obtain ⟨_,_,_,_,_,_,_,_,_,_,_⟩ := id n; go_wp2_with fail; go_at_call 210; refine (kl c _ j1 d xR 221 220 (zK c.L E F) (In D s.heap.size) (T.mk X Y Z q1 C) (.slice z C.length A) p1 (show LR _ (In D s.heap.size) C (.slice z C.length A) from f) (fun k l => ⟨by have G : k < s.heap.size := l.2; first | omega | (simp <;> omega),by have G : D <= k := l.1; omega⟩) hX gf (enters_of Tryz.func221 (by kernel_rfl) rfl) rfl).mono ?_; rintro e R (⟨x2,o,B,b⟩ | ⟨⟨k2,n2,m2,q2,J⟩,j2,v2,o,rfl,⟨a2,rfl,j⟩,b,p2,a3⟩)
 ·obtain ⟨q,rfl,-⟩ := id B; exact ⟨rfl,Steps.err (x.trans o) B Q b⟩
 have K := x.trans o; simp only [T.kind,T.name,T.num,T.at',T.subs] at j ⊢; obtain ⟨M,N,rfl⟩ := j.form
 have j : LR R (In D R.heap.size) J (.slice M J.length N) := j.mono (fun k l => by
  have h9 := b.size
  try simp at h9
  rcases l with l | l
  ·have G : k < s.heap.size := l.2
   exact ⟨l.1,by omega⟩
  ·have G := l.1
   try simp at G
   exact ⟨by omega,l.2⟩)
 have G2 := za Q b; have s2 := b.size
 try simp at s2
 have r := RB.k n b; have a4 := LR.c f b; have O := r.lt; obtain ⟨_,_,_,_,_,_,_,_,_,_,_⟩ := id r; go_wp2; refine zn Tryz.results211 rfl (RB.five ?_) rfl ?_
 ·exact r
 refine Steps.ok (a := (T.mk k2 n2 m2 q2 J)) K ⟨_,rfl,?_⟩ ?_ ?_ (by omega)
 ·exact (LR.p5 j (by omega)).wd
 ·exact zC G2 (by omega)
 ·exact PS.p5 p2 V.out (by omega)
theorem iZ (c : PC) (w : World) (i d : Nat) (E F : P T) (h : PS c w i d) (hX : Part c d (fun _ => True) 211 #[pq c.pb] (xT c.L E F)) :
  Calls Tryz.prog 199 #[pq c.pb] w (Steps c w i d (fun w' t v => TR w' w.heap.size w'.heap.size t v) (sN c.L E F i)) := by
 have HP := zc h; have HL := zc h.low; have hb := h.lt; clear h
 go_enter Tryz.func199,Tryz.ntmps199
 go_wp2_with fail; go_at_call 87; refine (zL c _ i d 35 (PS.alloc HP.out _)).mono ?_; rintro e w1 ⟨rfl,J⟩; have p1 : PS c w1 i d := PS.kept (PS.alloc HP.out _) J; have G1 : w.grownBy w1 (some c.pb) := za ga (zv J (some c.pb)); have s1 := J.size
 try simp at s1
 have R : RB w1 w.heap.size := RB.kept (RB.new' (by simp)) J (by simp); have a7 := R.lt; obtain ⟨_,_,_,_,_,_,_,_,_,_,_⟩ := id R; go_wp2_with fail; go_at_call 137; refine (yp c _ i d kS _ rfl (by decide) (PS.alloc p1 _)).mono ?_; rintro e w2 ⟨b2,j2,a8,rfl,K,p2,b8⟩; have M : sN c.L E F i = _ := P.bind_ok a8; have G2 : w.grownBy w2 (some c.pb) := za (zh G1 _) K; have s2 := K.size
 try simp at s2
 have N : RB w2 w.heap.size := RB.k (RB.alloc R _) K; have O : NB w2 w1.heap.size (.int .i64 35) (.string ⟨#[]⟩) (.int .i64 0) (.int .i64 (pos c.L i)) (.slice none 0 0) := NB.k (NB.new' (by simp)) K; have a9 := N.lt; have b0 := O.lt; obtain ⟨_,_,_,_,_,_,_,_,_,_,_⟩ := id N; obtain ⟨_,_,_,_,_,_⟩ := id O; cases b2
 ·go_wp2_with fail
  go_at_call 211; refine (hX.call _ j2 p2 trivial).mono ?_; rintro e m (⟨x3,o,C,g⟩ | ⟨⟨U,V,X,Y,n⟩,j3,v3,o,rfl,⟨b1,rfl,f⟩,g,p3,b4⟩)
  ·obtain ⟨q,rfl,-⟩ := id C; exact ⟨rfl,Steps.err (M.trans (P.bind_err o)) C G2 g⟩
  have D := M.trans (P.bind_ok o); simp only [T.kind,T.name,T.num,T.at',T.subs] at f ⊢; obtain ⟨z,A,rfl⟩ := f.form; obtain ⟨B,Z,f⟩ := f.nm
  try simp at Z
  have G3 := za G2 g; have s3 := g.size
  try simp at s3
  have r := RB.k N g; have s := NB.k O g; have a0 := r.lt; have a1 := s.lt; obtain ⟨_,_,_,_,_,_,_,_,_,_,_⟩ := id r; obtain ⟨_,_,_,_,_,_⟩ := id s; go_wp2_with fail; go_at_call 210; refine (kl c _ j3 d gW 212 211 (xT c.L E F) (In B m.heap.size) (T.mk U V X Y n) (.slice z n.length A) p3 (show LR _ (In B m.heap.size) n (.slice z n.length A) from f) (fun k l => ⟨by have Q : k < m.heap.size := l.2; first | omega | (simp <;> omega),by have Q : B <= k := l.1; omega⟩) hX dJ (enters_of Tryz.func212 (by kernel_rfl) rfl) rfl).mono ?_; rintro e I (⟨x4,u,G,b⟩ | ⟨⟨k4,n4,m4,q4,l4⟩,j4,v4,u,rfl,⟨b5,rfl,j⟩,b,p4,b6⟩)
  ·obtain ⟨q,rfl,-⟩ := id G; exact ⟨rfl,Steps.err (D.trans u) G G3 b⟩
  have a2 := D.trans u; simp only [T.kind,T.name,T.num,T.at',T.subs] at j ⊢; obtain ⟨a3,a4,rfl⟩ := j.form
  have j : LR I (In B I.heap.size) l4 (.slice a3 l4.length a4) := j.mono (fun k l => by
   have h9 := b.size
   try simp at h9
   rcases l with l | l
   ·have Q : k < m.heap.size := l.2
    exact ⟨l.1,by omega⟩
   ·have Q := l.1
    try simp at Q
    exact ⟨by omega,l.2⟩)
  have G4 := za G3 b; have s4 := b.size
  try simp at s4
  have x := RB.k r b; have H := NB.k s b; have b7 := LR.c f b; have a5 := x.lt; have a6 := H.lt; obtain ⟨_,_,_,_,_,_,_,_,_,_,_⟩ := id x; obtain ⟨_,_,_,_,_,_⟩ := id H; go_wp2; refine zn Tryz.results199 rfl (RB.five ?_) rfl ?_
  ·exact x
  refine Steps.ok (a := (T.mk k4 n4 m4 q4 l4)) a2 ⟨_,rfl,?_⟩ ?_ ?_ (by omega)
  ·exact (LR.p5 j (by omega)).wd
  ·exact zC G4 (by omega)
  ·exact PS.p5 p4 HL.out (by omega)
 ·go_wp2_with fail
  go_at_call 211; refine (hX.call _ j2 p2 trivial).mono ?_; rintro e m (⟨x3,o,C,g⟩ | ⟨⟨U,V,X,Y,n⟩,j3,v3,o,rfl,⟨b1,rfl,f⟩,g,p3,b4⟩)
  ·obtain ⟨q,rfl,-⟩ := id C; exact ⟨rfl,Steps.err (M.trans (P.bind_err o)) C G2 g⟩
  have D := M.trans (P.bind_ok o); simp only [T.kind,T.name,T.num,T.at',T.subs] at f ⊢; obtain ⟨z,A,rfl⟩ := f.form; obtain ⟨B,Z,f⟩ := f.nm
  try simp at Z
  have G3 := za G2 g; have s3 := g.size
  try simp at s3
  have r := RB.k N g; have s := NB.k O g; have a0 := r.lt; have a1 := s.lt; obtain ⟨_,_,_,_,_,_,_,_,_,_,_⟩ := id r; obtain ⟨_,_,_,_,_,_⟩ := id s; go_wp2_with fail; go_at_call 210; refine (kl c _ j3 d gW 212 211 (xT c.L E F) (In B (m.heap.size + 1)) (T.mk 35 [] 0 (pos c.L i) [(T.mk U V X Y n)]) (.slice (some ⟨m.heap.size,0,none⟩) 1 1) (PS.alloc (PS.put p3 HL.out (by omega) _ _) _) (show LR _ (In B (m.heap.size + 1)) ([(T.mk U V X Y n)]) (.slice (some ⟨m.heap.size,0,none⟩) 1 1) from (LR.build1 _ (t := (T.mk U V X Y n)) (sv := .slice z n.length A) (LR.wide (lo := B) (hi := m.heap.size) (ts := n) (LR.put f (by omega) _ _) (by omega) (by first | omega | (simp <;> omega))) (by simp) rfl (by omega))) (fun k l => ⟨by have Q : k < m.heap.size + 1 := l.2; first | omega | (simp <;> omega),by have Q : B <= k := l.1; omega⟩) hX dJ (enters_of Tryz.func212 (by kernel_rfl) rfl) rfl).mono ?_; rintro e I (⟨x4,u,G,b⟩ | ⟨⟨k4,n4,m4,q4,l4⟩,j4,v4,u,rfl,⟨b5,rfl,j⟩,b,p4,b6⟩)
  ·obtain ⟨q,rfl,-⟩ := id G; exact ⟨rfl,Steps.err (D.trans u) G (zh (zs G3 (by omega) _ _) _) b⟩
  have a2 := D.trans u; simp only [T.kind,T.name,T.num,T.at',T.subs] at j ⊢; obtain ⟨a3,a4,rfl⟩ := j.form
  have j : LR I (In B I.heap.size) l4 (.slice a3 l4.length a4) := j.mono (fun k l => by
   have h9 := b.size
   try simp at h9
   rcases l with l | l
   ·have Q : k < m.heap.size + 1 := l.2
    exact ⟨l.1,by omega⟩
   ·have Q := l.1
    try simp at Q
    exact ⟨by omega,l.2⟩)
  have G4 : w.grownBy I (some c.pb) := za (zh (zs G3 (by omega) _ _) _) b; have s4 := b.size
  try simp at s4
  have x : RB I w.heap.size := RB.k (RB.alloc (RB.put r _ _ _) _) b; have H : NB I w1.heap.size (.int .i64 35) (.string ⟨#[]⟩) (.int .i64 0) (.int .i64 (pos c.L i)) (.slice (some ⟨m.heap.size,0,none⟩) 1 1) := NB.k (NB.alloc (NB.s4 s _) _) b; have b7 : LR I (In B m.heap.size) n (.slice z n.length A) := LR.c (LR.alloc (LR.put f (by omega) _ _) _) b; have b9 : LR I (In B (m.heap.size + 1)) ([(T.mk U V X Y n)]) (.slice (some ⟨m.heap.size,0,none⟩) 1 1) := LR.c (LR.build1 _ (t := (T.mk U V X Y n)) (sv := .slice z n.length A) (LR.wide (lo := B) (hi := m.heap.size) (ts := n) (LR.put f (by omega) _ _) (by omega) (by first | omega | (simp <;> omega))) (by simp) rfl (by omega)) b; have a5 := x.lt; have a6 := H.lt; obtain ⟨_,_,_,_,_,_,_,_,_,_,_⟩ := id x; obtain ⟨_,_,_,_,_,_⟩ := id H; go_wp2; refine zn Tryz.results199 rfl (RB.five ?_) rfl ?_
  ·exact x
  refine Steps.ok (a := (T.mk k4 n4 m4 q4 l4)) a2 ⟨_,rfl,?_⟩ ?_ ?_ (by omega)
  ·exact (LR.p5 j (by omega)).wd
  ·exact zC G4 (by omega)
  ·exact PS.p5 p4 HL.out (by omega)
set_option maxHeartbeats 1000000
theorem fD {L : List Tok} {x : List UInt8} {i j : Nat} (h : yr L x i = .ok (false,j)) : wd L i ≠ x /\ j = i := by
 unfold yr at h
 split at h
 ·cases h
 ·rename_i hw
  cases h
  exact ⟨hw,rfl⟩
theorem dK {L : List Tok} {x : List UInt8} {i j : Nat} (h : yr L x i = .ok (true,j)) : wd L i = x /\ j = i + 1 := by
 unfold yr at h
 split at h
 ·rename_i hw
  cases h
  exact ⟨hw,rfl⟩
 ·cases h
theorem xh (c : PC) (w : World) (i d : Nat) (h : PS c w i d) :
  Calls Tryz.prog 68 #[pq c.pb] w fun e w' => e = .returned (.string ⟨(wd c.L i).toArray⟩) /\ w.grownBy w' none :=
 (yM c w i d h).mono (by rintro e w' ⟨rfl,n,rfl⟩; exact ⟨rfl,zq (zj _ _) _⟩)
theorem rH {x : List UInt8} (h : xO x = true) : x ≠ [] := by
 rintro rfl
 revert h
 decide
theorem dz (c : PC) (w : World) (i d : Nat) (E F : P T) (h : PS c w i d) (hX : Part c d (fun _ => True) 199 #[pq c.pb] (sN c.L E F)) :
    Calls Tryz.prog 173 #[pq c.pb] w (Steps c w i d (fun w' t v => TR w' w.heap.size w'.heap.size t v) (xl c.L E F i)) := by
  have HP := zc h; have HL := zc h.low; have hb := h.lt; clear h
  go_enter Tryz.func173,Tryz.ntmps173
  go_wp2_with fail; go_at_call 199; refine (hX.call _ i (PS.alloc HP.out _) trivial).mono ?_; rintro e r (⟨x1,a0,c0,D⟩ | ⟨⟨s,u,x,m,f⟩,K,v1,a0,rfl,⟨g0,rfl,G⟩,D,p1,g1⟩)
  · obtain ⟨q,rfl,-⟩ := id c0; exact ⟨rfl,Steps.err (P.bind_err a0) c0 ga D⟩
  have c1 : xl c.L E F i = _ := P.bind_ok a0; simp only [T.kind,T.name,T.num,T.at',T.subs] at G ⊢; obtain ⟨g,j,rfl⟩ := G.form; obtain ⟨z,d0,G⟩ := G.nm
  try simp at d0
  have G1 := za ga D; have s1 := D.size
  try simp at s1
  have a1 : RB r w.heap.size := RB.k (RB.new' (by simp)) D; have d1 := a1.lt; obtain ⟨_,_,_,_,_,_,_,_,_,_,_⟩ := id a1; go_wp2_with fail; go_at_call 137; refine (yp c _ K d kIS _ rfl (by decide) (PS.alloc p1 _)).mono ?_; rintro e w2 ⟨b2,j2,c2,rfl,H,p2,g2⟩; have G2 : w.grownBy w2 (some c.pb) := za (zh G1 _) H; have s2 := H.size
  try simp at s2
  have N : RB w2 w.heap.size := RB.k (RB.alloc a1 _) H; have O : NB w2 r.heap.size (.int .i64 s) (.string ⟨u.toArray⟩) (.int .i64 x) (.int .i64 m) (.slice g f.length j) := NB.k (NB.new' (by simp)) H; have c3 : LR w2 (In z r.heap.size) f (.slice g f.length j) := LR.c (LR.alloc G _) H; have d2 := N.lt; have d3 := O.lt; obtain ⟨_,_,_,_,_,_,_,_,_,_,_⟩ := id N; obtain ⟨_,_,_,_,_,_⟩ := id O; cases b2
  · obtain ⟨a2,a3⟩ := fD c2
    rw [a3] at p2; have V : xl c.L E F i = _ := c1.trans (if_neg a2); go_wp2_with fail; go_at_call 68; refine (xh c _ K d p2).mono ?_; rintro e C ⟨rfl,b⟩; have p3 : PS c C K d := PS.kept p2 b; have G3 : w.grownBy C (some c.pb) := za G2 (zv b (some c.pb)); have s3 := b.size
    try simp at s3
    have l : RB C w.heap.size := RB.kept N b (by simp); have A : NB C r.heap.size (.int .i64 s) (.string ⟨u.toArray⟩) (.int .i64 x) (.int .i64 m) (.slice g f.length j) := NB.kept O b (by simp); have Q : LR C (In z r.heap.size) f (.slice g f.length j) := LR.grown c3 b; have a4 := l.lt; have a5 := A.lt; obtain ⟨_,_,_,_,_,_,_,_,_,_,_⟩ := id l; obtain ⟨_,_,_,_,_,_⟩ := id A; go_wp2_with fail; go_at_call 200; refine (dw (wd c.L K) _).mono ?_; rintro e w_ ⟨rfl,rfl⟩; cases a6 : xO (wd c.L K)
    · have c4 : xl c.L E F i = _ := V.trans (if_neg (by rw [a6]; decide))
      go_wp2; refine zn Tryz.results173 rfl (RB.five ?_) rfl ?_
      · exact l
      refine Steps.ok (a := (T.mk s u x m f)) c4 ⟨_,rfl,?_⟩ ?_ ?_ (by omega)
      · exact (LR.p5 Q (by omega)).wd
      · exact zC G3 (by omega)
      · exact PS.p5 p3 HL.out (by omega)
    · have X : xl c.L E F i = _ := V.trans (if_pos a6)
      go_wp2_with fail; go_at_call 139; refine (xB c _ K d p3 (rH a6)).mono ?_; rintro e w4 ⟨rfl,I,p4⟩; have G4 := za G3 I; have s4 := I.size
      try simp at s4
      have a7 := RB.k l I; have a8 := NB.k A I; have d4 := LR.c Q I; have d5 := a7.lt; have d6 := a8.lt; obtain ⟨_,_,_,_,_,_,_,_,_,_,_⟩ := id a7; obtain ⟨_,_,_,_,_,_⟩ := id a8; go_wp2_with fail
      go_region_with (first
        | (go_at_call 199
           refine (hX.call _ (K + 1) (PS.drew p4) trivial).mono ?_; rintro e M (⟨x5,a9,c5,n⟩ | ⟨⟨k5,n5,m5,q5,R⟩,j5,v5,a9,rfl,⟨g3,rfl,B⟩,n,p5,g4⟩)
           focus
             have HT := c5; obtain ⟨q,rfl,-⟩ := c5
             exact ⟨rfl,Steps.err (X.trans (P.bind_err a9)) HT (zf G4) n⟩
           have d7 : xl c.L E F i = _ := X.trans (P.bind_ok a9); simp only [T.kind,T.name,T.num,T.at',T.subs] at B ⊢; obtain ⟨b0,b4,rfl⟩ := B.form; obtain ⟨b5,d8,B⟩ := B.nm
           try simp at d8
           have G5 : w.grownBy M (some c.pb) := za (zf G4) n; have s5 := n.size
           try simp at s5
           have b6 : RB M w.heap.size := RB.k (RB.drew a7) n; have b7 : NB M r.heap.size (.int .i64 s) (.string ⟨u.toArray⟩) (.int .i64 x) (.int .i64 m) (.slice g f.length j) := NB.k (NB.drew a8) n; have c6 : LR M (In z r.heap.size) f (.slice g f.length j) := LR.c (LR.drew d4) n; have d9 := b6.lt; have f0 := b7.lt; obtain ⟨_,_,_,_,_,_,_,_,_,_,_⟩ := id b6
           obtain ⟨_,_,_,_,_,_⟩ := id b7)
        | (go_at_call 201
           refine (jv _ (wd c.L K) (T.mk s u x m f) (T.mk k5 n5 m5 q5 R) (In z M.heap.size) (.slice g f.length j) (.slice b0 R.length b4) (show LR _ (In z M.heap.size) f (.slice g f.length j) from LR.wide (lo := z) (hi := r.heap.size) c6 (by omega) (by omega)) (show LR _ (In z M.heap.size) R (.slice b0 R.length b4) from LR.wide (lo := b5) (hi := M.heap.size) B (by omega) (by omega)) (fun k Y => Y.2)).mono ?_; simp only [T.at']; rintro e U ⟨g5,rfl,c7,o⟩; obtain ⟨f1,f2,rfl⟩ := c7.form; have p6 : PS c U j5 d := PS.kept p5 o; have G6 : w.grownBy U (some c.pb) := za G5 (zv o (some c.pb)); have s6 := o.size
           try simp at s6
           have b8 : RB U w.heap.size := RB.kept b6 o (by simp); have c8 : NB U r.heap.size (.int .i64 s) (.string ⟨u.toArray⟩) (.int .i64 x) (.int .i64 m) (.slice g f.length j) := NB.kept b7 o (by simp); have g6 : LR U (In z r.heap.size) f (.slice g f.length j) := LR.grown c6 o; have g7 : LR U (In b5 M.heap.size) R (.slice b0 R.length b4) := LR.grown B o; have f3 := b8.lt; have f4 := c8.lt; obtain ⟨_,_,_,_,_,_,_,_,_,_,_⟩ := id b8; obtain ⟨_,_,_,_,_,_⟩ := id c8
           have f5 : LR U (In z U.heap.size) [(T.mk s u x m f),(T.mk k5 n5 m5 q5 R)] (.slice f1 2 f2) := c7.mono (fun k Y => by
             rcases Y with Y | Y
             · have h1 : k < M.heap.size := Y.2
               exact ⟨Y.1,by omega⟩
             · exact ⟨by omega,Y.2⟩)))
      all_goals
        go_wp2; refine zn Tryz.results173 rfl (RB.five ?_) rfl ?_
        · exact b8
        refine Steps.ok (a := (T.mk 36 (wd c.L K) 0 m [(T.mk s u x m f),(T.mk k5 n5 m5 q5 R)])) d7 ⟨_,rfl,?_⟩ ?_ ?_ (by omega)
        · refine LR.wide (lo := z) (hi := U.heap.size) (ts := [(T.mk s u x m f),(T.mk k5 n5 m5 q5 R)]) ?_ (by omega) (by first | omega | (simp <;> omega))
          exact LR.p5 f5 (by omega)
        · exact zC G6 (by omega)
        · exact PS.p5 p6 HL.out (by omega)
  · obtain ⟨a2,a3⟩ := dK c2
    rw [a3] at p2; have Z : xl c.L E F i = _ := c1.trans (if_pos a2); go_wp2_with fail
    go_region_with (first
      | (go_at_call 177
         refine (yW c _ (K + 1) d (PS.drew p2)).mono ?_; rintro e C (⟨x3,b9,c9,b⟩ | ⟨⟨k3,n3,m3,q3,l3⟩,j3,v3,b9,rfl,⟨g8,rfl,J⟩,b,p3,g9⟩)
         focus
           have HT := c9; obtain ⟨q,rfl,-⟩ := c9
           exact ⟨rfl,Steps.err (Z.trans (P.bind_err b9)) HT (zf G2) b⟩
         have f6 : xl c.L E F i = _ := Z.trans (P.bind_ok b9); simp only [T.kind,T.name,T.num,T.at',T.subs] at J ⊢; obtain ⟨f7,f8,rfl⟩ := J.form; obtain ⟨b3,f9,J⟩ := J.nm
         try simp at f9
         have G3 : w.grownBy C (some c.pb) := za (zf G2) b; have s3 := b.size
         try simp at s3
         have l : RB C w.heap.size := RB.k (RB.drew N) b; have A : NB C r.heap.size (.int .i64 s) (.string ⟨u.toArray⟩) (.int .i64 x) (.int .i64 m) (.slice g f.length j) := NB.k (NB.drew O) b; have Q : LR C (In z r.heap.size) f (.slice g f.length j) := LR.c (LR.drew c3) b; have a4 := l.lt; have a5 := A.lt; obtain ⟨_,_,_,_,_,_,_,_,_,_,_⟩ := id l
         obtain ⟨_,_,_,_,_,_⟩ := id A))
    all_goals
      go_wp2; refine zn Tryz.results173 rfl (NB.alloc (RB.five ?_) _) rfl ?_
      · exact l
      refine Steps.ok (a := (T.mk 37 [] 0 m [(T.mk s u x m f),(T.mk k3 n3 m3 q3 l3)])) f6 ⟨_,rfl,?_⟩ ?_ ?_ (by omega)
      · refine LR.wide (lo := z) (hi := C.heap.size + 1) (ts := [(T.mk s u x m f),(T.mk k3 n3 m3 q3 l3)]) ?_ (by omega) (by first | omega | (simp <;> omega))
        exact (LR.build2 _ (t := (T.mk s u x m f)) (t2 := (T.mk k3 n3 m3 q3 l3)) (sv := .slice g f.length j) (sv2 := .slice f7 l3.length f8) (LR.wide (lo := z) (hi := r.heap.size) (ts := f) (LR.p5 Q (by omega)) (by omega) (by first | omega | (simp <;> omega))) (LR.wide (lo := b3) (hi := C.heap.size) (ts := l3) (LR.p5 J (by omega)) (by omega) (by first | omega | (simp <;> omega))) (by simp) rfl (by omega))
      · exact zh (zC G3 (by omega)) _
      · exact PS.alloc (PS.p5 p3 HL.out (by omega)) _
section
variable {w w' : World} {S S2 S' : Nat -> Prop} {ts us : List T} {v v' : Value} {svs uvs : List Value} {row : Option Nat}
theorem LR.appendS (h : ∀ b,v.ownBlock = some b -> S b) (hl : svs.length = ts.length)
  (hs : ∀ (i : Nat) (t : T) (sv : Value),ts[i]? = some t -> svs[i]? = some sv -> LR w (fun k => S k /\ v.ownBlock ≠ some k) t.subs sv)
  (hu : uvs.length = us.length) (hus : ∀ (i : Nat) (t : T) (sv : Value),us[i]? = some t -> uvs[i]? = some sv -> LR w S2 t.subs sv)
  (hd : ∀ k,S2 k -> v.ownBlock ≠ some k) (h1 : ∀ k,S k -> S' k) (h2 : ∀ k,S2 k -> S' k) (h3 : S' w.heap.size)
  (own : w'.ownsRow 0 100 5 v' (ts.length + us.length) (xy ts svs ++ xy us uvs)) (hg : w.grownBy w' row) (hrow : row = v.ownBlock)
  (hat : v'.ownBlock = v.ownBlock \/ v'.ownBlock = some w.heap.size) : LR w' S' (ts ++ us) v' := by
 subst hrow
 have d : ∀ (l : List T) (sv : Value),LR w (fun k => S' k /\ v.ownBlock ≠ some k) l sv -> LR w' (fun k => S' k /\ v'.ownBlock ≠ some k) l sv := by
  intro l sv f; refine (f.bounded.kept hg (fun b hb hs' => hs'.1.2 hb)).mono (fun k hk => ⟨hk.1.1,fun e => ?_⟩)
  rcases hat with hat | hat
  ·exact hk.1.2 (hat ▸ e)
  ·have g := hk.2
   rw [hat] at e; cases e
   omega
 refine .mk _ _ _ (svs ++ uvs) (by simp [hl,hu]) (by rw [uP _ _ _ _ hl,List.length_append]; exact own) (fun b hb => ?_) (fun i t sv h1' h2' => d _ _ ?_)
 ·rcases hat with hat | hat
  ·exact h1 b (h b (hat ▸ hb))
  ·rw [hat] at hb
   cases hb
   exact h3
 ·rcases Nat.lt_or_ge i ts.length with c | c
  ·rw [List.getElem?_append_left c] at h1'
   rw [List.getElem?_append_left (by omega)] at h2'
   exact (hs i t sv h1' h2').mono (fun k hk => ⟨h1 k hk.1,hk.2⟩)
  ·rw [List.getElem?_append_right c] at h1'
   rw [List.getElem?_append_right (by omega),hl] at h2'
   exact (hus _ t sv h1' h2').mono (fun k hk => ⟨h2 k hk,hd k hk⟩)
end
theorem vh {ops : Array Oper} {o : Oper} {a : Act} {w : World} {K : Act -> World -> Prop} {Q : Exit -> Act -> World -> Prop} {E : Prop} (hgd : o.guard = none) (s x : Operand)
  (ho : o.op = .call { callee := .builtin .append,args := #[s,x],argTypes := #[80,80] })
  {S S2 : Nat -> Prop} (S' : Nat -> Prop) {g m c : Nat} {ts us : List T} {v : Value} (hs : a.eval s = v) (hx : a.eval x = .slice (some ⟨g,0,none⟩) m c) (hl : LR w S ts v) (hu : LR w S2 us (.slice (some ⟨g,0,none⟩) m c))
  (hd : ∀ k,S2 k -> v.ownBlock ≠ some k) (h1 : ∀ k,S k -> S' k) (h2 : ∀ k,S2 k -> S' k) (h3 : S' w.heap.size) (hlen : ts.length + us.length <= 20000)
  (k : ∀ v' w',LR w' S' (ts ++ us) v' -> w.grownBy w' v.ownBlock -> K (a.put o.dst v') w') :
  if Region.wanted o (yielded ops a.tmps) = true then Oper.wp Tryz.prog o a w K Q else E := by
 have D : Region.wanted o (yielded ops a.tmps) = true := by simp [Region.wanted,hgd]
 rw [if_pos D]; obtain ⟨F,j,l,n,q⟩ := info_parts Tryz.infoNode; obtain ⟨svs,r,own,z,f⟩ := hl.own; obtain ⟨uvs,e,b,_,d⟩ := hu.own
 have G : m = us.length := by
  rcases b.2 with ⟨A,_⟩ | ⟨_,_,_,A,_⟩
  ·cases A
  ·cases A; rfl
 subst G; obtain ⟨v',w',H,h,C,_,B⟩ := run_append_own_at (P := Tryz.prog) w 0 80 o.type 100 F _ 5 64 Tryz.underlying80 j l n q rfl (by decide) v ts.length (xy ts svs) own ⟨g,0,none⟩ us.length c (xy us uvs)
  (yC _ _ e) (b.cells rfl) (fun u hu' => fQ us uvs e (fun i t sv ht hsv => (d i t sv ht hsv).form) u hu') (by unfold maxLen; omega) (by omega) (Nat.zero_le _)
 unfold Oper.wp execOp
 simp only [ho,resolve,invoke,builtin,Sem.run_bind,Sem.run_pure,Result.andThen_ok,List.map_toArray,List.map_cons,List.map_nil,hs,hx,H]
 exact k v' w' (LR.appendS z r f e (fun i t sv ht hsv => (d i t sv ht hsv).mono (fun k hk => hk.1)) hd h1 h2 h3 h C rfl B) C
theorem rU {ops : Array Oper} {o : Oper} {a : Act} {w : World} {K : Act -> World -> Prop} {Q : Exit -> Act -> World -> Prop} {E : Prop} (hgd : o.guard = none) (s x : Operand)
  (ho : o.op = .call { callee := .builtin .append,args := #[s,x],argTypes := #[80,80] })
  {g n c : Nat} (hs : a.eval s = .slice (some ⟨g,0,none⟩) n c) (hx : a.eval x = .slice none 0 0) (hn : n <= c)
  (k : K (a.put o.dst (.slice (some ⟨g,0,none⟩) n c)) w) :
  if Region.wanted o (yielded ops a.tmps) = true then Oper.wp Tryz.prog o a w K Q else E := by
 have d : Region.wanted o (yielded ops a.tmps) = true := by simp [Region.wanted,hgd]
 rw [if_pos d]; obtain ⟨_,b,_,_,_⟩ := info_parts Tryz.infoNode
 have e : (Builtin.append_ #[80,80] o.type #[.slice (some ⟨g,0,none⟩) n c,.slice none 0 0]).run Tryz.prog w = .ok (.slice (some ⟨g,0,none⟩) n c) w := by
  simp [Builtin.append_,run_underlying Tryz.underlying80,sizeOf,typeInfo,b,Builtin.lenOf,Builtin.firstCells,loadCells,hn]
  rfl
 unfold Oper.wp execOp
 simp only [ho,resolve,invoke,builtin,Sem.run_bind,Sem.run_pure,Result.andThen_ok,List.map_toArray,List.map_cons,List.map_nil,hs,hx,e]
 exact k
set_option maxHeartbeats 2000000
theorem tN {L : List Tok} {E A : P T} {f j : Nat} {acc : List T} (h : xH (wd L j) = true) (hf : 0 < f) : yw L E A f acc j = ((yr L yl).bind fun b => if b = true then yw L E A (f - 1) acc else P.ret acc) j := by
 obtain ⟨c,rfl⟩ : ∃ c,f = c + 1 := ⟨f - 1,by omega⟩; rw [yw]
 dsimp only
 rw [if_pos h]
 rfl
theorem uo {α β γ : Type} (p : P α) (k : α -> P β) (m : β -> P γ) : (p.bind k).bind m = p.bind fun a => (k a).bind m := by
 funext i
 unfold P.bind
 cases p i <;> rfl
theorem sk {L : List Tok} {E A : P T} {f j : Nat} {acc : List T} (h : xH (wd L j) = false) (hf : 0 < f) : yw L E A f acc j = ((xu L E A).bind fun t => (yr L yl).bind fun b => if b = true then yw L E A (f - 1) (acc ++ [t]) else P.ret (acc ++ [t])) j := by
 obtain ⟨c,rfl⟩ : ∃ c,f = c + 1 := ⟨f - 1,by omega⟩; rw [yw]
 dsimp only
 rw [if_neg (by rw [h]; decide),uo]
 rfl
theorem sJ (c : PC) (w : World) (i d : Nat) (E A : P T) (h : PS c w i d)
    (hA : ∀ (w : World) (i : Nat),PS c w i d -> xH (wd c.L i) = false -> Calls Tryz.prog 207 #[pq c.pb] w (Steps c w i d (fun w' t v => TR w' w.heap.size w'.heap.size t v) (xu c.L E A i))) :
    Calls Tryz.prog 181 #[pq c.pb] w (Steps c w i d (fun w' t v => TR w' w.heap.size w'.heap.size t v) (pB c.L E A i)) := by
  have HP := zc h; have HL := zc h.low; have hb := h.lt; have d1 := h.good.few; have HA := zc hA; clear h hA
  go_enter Tryz.func181,Tryz.ntmps181
  go_wp2_with fail; go_at_call 87; refine (zL c _ i d 1 (PS.alloc HP.out _)).mono ?_; rintro e x ⟨rfl,B⟩; have p1 : PS c x i d := PS.kept (PS.alloc HP.out _) B; have G1 : w.grownBy x (some c.pb) := za ga (zv B (some c.pb)); have s1 := B.size
  simp at s1
  have r1 : RB x w.heap.size := RB.kept (RB.new' (by simp)) B (by simp); have S0 := zc (SI.mk (c := c) (w := w) (i := i) (d := d) (r := yw c.L E A (c.L.length + 1) [] i) (q := yw c.L E A) (f := c.L.length + 1) (j := i) (acc := []) (lo := x.heap.size + 1) (wr := x.alloc (.cells #[.int .i64 1,.string ⟨#[]⟩,.int .i64 0,.int .i64 (pos c.L i),.slice none 0 0] 100)) (v := .slice none 0 0) (LR.nil _ _) (PS.alloc p1 _) (zh G1 _) rfl (by omega) (by simp) (Nat.le_refl _) (by omega) (by simp)); have N0 := zc (NB.new' (w := x) (v0 := .int .i64 1) (v1 := .string ⟨#[]⟩) (v2 := .int .i64 0) (v3 := .int .i64 (pos c.L i)) (v4 := .slice none 0 0) (t := 100) rfl); have R0 := zc (r1.alloc (.cells #[.int .i64 1,.string ⟨#[]⟩,.int .i64 0,.int .i64 (pos c.L i),.slice none 0 0] 100)); clear p1 G1 B r1; go_wp2_with fail
  go_loopw [] (fun wr => ∃ (acc : List T) (v : Value) (j f lo : Nat),NB wr x.heap.size (.int .i64 1) (.string ⟨#[]⟩) (.int .i64 0) (.int .i64 (pos c.L i)) v /\ RB wr w.heap.size /\ x.heap.size + 1 <= lo /\ Hid (SI c w i d (yw c.L E A (c.L.length + 1) [] i) (yw c.L E A) v wr acc j f lo)) (fun wr => c.L.length - atOf wr c.pb)
  case atStart => exact ⟨[],_,i,_,_,N0.out,R0.out,Nat.le_refl _,S0⟩
  case round =>
    obtain ⟨acc,v,j,f,lo,a8,a9,N,HS⟩ := hrel; clear S0 N0 R0; have z := HS.out; have b0 := z.ps; have b1 := z.low; have d2 := z.low2; have d3 := z.len; have d5 := z.fuel; have d6 := z.le; have d7 := z.ps.il; obtain ⟨ad,cp,rfl⟩ := z.lr.form; have c0 := zc z.lr; have HG := zc z.gb; have b2 := zc z.same; have H := zc b0; have c1 := zc a8; have c2 := zc a9; clear z HS b0 a8 a9; go_wp2_with fail; go_at_call 206; refine (vT c _ j d H.out).mono ?_; rintro e w2 ⟨rfl,u⟩; have s2 := u.size; have p2 : PS c w2 j d := H.out.kept u; have G2 : w.grownBy w2 (some c.pb) := za HG.out (zv u _); have I := c1.out.kept u (by simp); have R := c2.out.kept u (by simp); have b3 := c0.out.grown u; have c3 := I.lt; have c4 := R.lt; cases U : xH (wd c.L j)
    · have J : Hid (yw c.L E A (c.L.length + 1) [] i = _) := b2.out.trans (sk U (by omega))
      obtain ⟨x0,x1,x2,x3,x4,xz⟩ := id I; go_wp2_with fail
      go_region_law (first
        | (go_simp
           go_at_call 207; refine (HA.out _ j (PS.drew p2) U).mono ?_; rintro e O (⟨x4,V,b4,m⟩ | ⟨⟨X,Y,Z,q4,Q⟩,j4,v4,V,rfl,⟨d8,rfl,C⟩,m,p4,d9⟩)
           focus
             have HT := b4; obtain ⟨q,rfl,-⟩ := b4
             exact ⟨rfl,Steps.err (P.bind_err (J.out.trans (P.bind_err V))) HT (zf G2) m⟩
           simp only [T.kind,T.name,T.num,T.at',T.subs] at C ⊢; obtain ⟨b5,b7,rfl⟩ := C.form; have s4 := m.size
           try simp at s4
           have a0 : NB O x.heap.size (.int .i64 1) (.string ⟨#[]⟩) (.int .i64 0) (.int .i64 (pos c.L i)) (.slice ad acc.length cp) := NB.kept (NB.drew I) m (by simp; omega); have b8 : RB O w.heap.size := RB.kept (RB.drew R) m (by simp; omega); have G4 : w.grownBy O (some c.pb) := za (zf G2) m; have a1 : LR O (In lo wr.heap.size) acc (.slice ad acc.length cp) := LR.c (LR.drew b3) m; have C := LR.wide C (lo' := w2.heap.size) (by simp) (Nat.le_refl _); have c5 := a0.lt; have c6 := b8.lt
           obtain ⟨z0,z1,z2,z3,z4,zz⟩ := id a0)
        | (refine vh (v := .slice ad acc.length cp) rfl _ _ rfl (In lo (O.heap.size + 2)) rfl rfl (LR.alloc a1 _) (LR.build1 O (cs := #[.int .i64 X,.string ⟨Y.toArray⟩,.int .i64 Z,.int .i64 q4,.slice b5 Q.length b7]) (t := T.mk X Y Z q4 Q) (sv := .slice b5 Q.length b7) C rfl rfl (by omega))
             (fun k hk e => by have h1 := a1.rows k e; have h2 : w2.heap.size <= k := hk.1; omega) (fun k hk => ⟨hk.1,by have h : k < wr.heap.size := hk.2; omega⟩) (fun k hk => ⟨by have h : w2.heap.size <= k := hk.1; omega,by have h : k < O.heap.size + 1 := hk.2; omega⟩) ⟨by simp; omega,by simp⟩ (by simp; omega) ?_
           intro v5 K M D; obtain ⟨a2,a3,e5⟩ := M.form; rw [List.length_append,List.length_singleton] at e5; subst e5; have s := a1.rows; have s5 := D.size
           try simp at s5
           have a4 : NB K x.heap.size (.int .i64 1) (.string ⟨#[]⟩) (.int .i64 0) (.int .i64 (pos c.L i)) (.slice ad acc.length cp) := NB.kept (a0.alloc _) D (fun e => by have := s _ e.symm; omega); have b9 : RB K w.heap.size := RB.kept (b8.alloc _) D (fun e => by have := s _ e.symm; omega); have p5 : PS c K j4 d := PS.own (p4.alloc _) HL.out D (fun b hb => by have := s b hb; omega); have G5 : w.grownBy K (some c.pb) := xi (zh G4 _) D (fun b hb => by have := s b hb; omega); have f0 : O.heap.size + 2 <= K.heap.size \/ True := .inr trivial; have c7 := a4.lt; have c8 := b9.lt
           obtain ⟨z0,z1,z2,z3,z4,zz⟩ := id a4))
      all_goals
        have c9 : yw c.L E A (c.L.length + 1) [] i = _ := J.out.trans (P.bind_ok V); have M : LR K (In lo K.heap.size) (acc ++ [T.mk X Y Z q4 Q]) (.slice a2 (acc.length + 1) a3) := M.bounded.mono (fun k hk => ⟨hk.1.1,hk.2⟩); have d4 := p4.il; go_wp2_with fail; go_at_call 137; refine (yp c _ j4 d yl _ rfl (by decide) (PS.put p5 HL.out (by omega) _ _)).mono ?_; rintro e w6 ⟨b6,j6,n,rfl,g,p6,d0⟩; have F := c9.trans (P.bind_ok n); have s6 := g.size
        try simp at s6
        have G6 : w.grownBy w6 (some c.pb) := za (zs G5 (by omega) _ _) g; have o : NB w6 x.heap.size (.int .i64 1) (.string ⟨#[]⟩) (.int .i64 0) (.int .i64 (pos c.L i)) (.slice a2 (acc.length + 1) a3) := NB.kept (NB.s4 a4 _) g (by simp; omega); have l : RB w6 w.heap.size := RB.kept (RB.put b9 _ _ _) g (by simp; omega); have G : LR w6 (In lo K.heap.size) (acc ++ [T.mk X Y Z q4 Q]) (.slice a2 (acc.length + 1) a3) := LR.c (LR.put M (by omega) _ _) g; have a5 := o.lt; have a6 := l.lt; obtain ⟨x0,x1,x2,x3,x4,xz⟩ := id o; obtain ⟨_,_,_,_,_,y0,y1,y2,y3,y4,yz⟩ := id l; cases b6
        · have a7 := kY n
          go_wp2; refine zn Tryz.results181 rfl (RB.five ?_) rfl ?_
          · exact l
          refine Steps.ok (a := T.mk 1 [] 0 (pos c.L i) (acc ++ [T.mk X Y Z q4 Q])) (P.bind_ok (p := yw c.L E A (c.L.length + 1) []) F) ⟨_,rfl,?_⟩ ?_ ?_ (by omega)
          · refine LR.wide (lo := lo) (hi := K.heap.size) (ts := acc ++ [T.mk X Y Z q4 Q]) ?_ (by omega) (by first | omega | (simp <;> omega))
            exact LR.p5 G (by omega)
          · exact zC G6 (by omega)
          · exact PS.p5 p6 HL.out (by omega)
        · have a7 := dh n
          go_wp2; refine ⟨⟨acc ++ [T.mk X Y Z q4 Q],_,j6,f - 1,lo,o,l,N,SI.mk (G.wide (Nat.le_refl _) (by omega)) p6 G6 F (by omega) (by (try simp only [List.length_append,List.length_singleton]); omega) (by omega) b1 (by omega)⟩,?_⟩; rw [p6.atOf,H.out.atOf]
          omega
    · have J : yw c.L E A (c.L.length + 1) [] i = _ := b2.out.trans (tN U (by omega))
      go_wp2_with fail; go_at_call 137; refine (yp c _ j d yl _ rfl (by decide) p2).mono ?_; rintro e w6 ⟨b6,j6,n,rfl,g,p6,d0⟩; have F := J.trans (P.bind_ok n); have s6 := g.size
      try simp at s6
      have G6 := za G2 g; have o : NB w6 x.heap.size (.int .i64 1) (.string ⟨#[]⟩) (.int .i64 0) (.int .i64 (pos c.L i)) (.slice ad acc.length cp) := NB.kept I g (by simp; omega); have l : RB w6 w.heap.size := RB.kept R g (by simp; omega); have G := LR.c b3 g; have a5 := o.lt; have a6 := l.lt; obtain ⟨x0,x1,x2,x3,x4,xz⟩ := id o; obtain ⟨_,_,_,_,_,y0,y1,y2,y3,y4,yz⟩ := id l; cases b6
      · have a7 := kY n
        go_wp2; refine zn Tryz.results181 rfl (RB.five ?_) rfl ?_
        · exact l
        refine Steps.ok (a := T.mk 1 [] 0 (pos c.L i) acc) (P.bind_ok (p := yw c.L E A (c.L.length + 1) []) F) ⟨_,rfl,?_⟩ ?_ ?_ (by omega)
        · exact (LR.p5 G (by omega)).wd
        · exact zC G6 (by omega)
        · exact PS.p5 p6 HL.out (by omega)
      · have a7 := dh n
        go_wp2; refine ⟨⟨acc,_,j6,f - 1,lo,o,l,N,SI.mk (G.wide (Nat.le_refl _) (by omega)) p6 G6 F (by omega) (by (try simp only [List.length_append,List.length_singleton]); omega) (by omega) b1 (by omega)⟩,?_⟩; rw [p6.atOf,H.out.atOf]
        omega
set_option maxHeartbeats 1000000
theorem pF (c : PC) (w : World) (i d : Nat) (b : Nat) (h : PS c w i d) (hc : w.cell? ⟨b,0,none⟩ = some (pq c.pb)) :
  Calls Tryz.prog 141 #[pq b] w (Steps c w i d (fun w' t v => TR w' w.heap.size w'.heap.size t v) (vo c.L 3 i)) := by
 have s := zc h; have u := zc h.low; have N := h.lt; have x := zw hc; clear h
 go_enter Tryz.func141,Tryz.ntmps141
 go_wp2_with fail; go_at_call 142; refine (ue c _ i d 3 (PS.alloc s.out _)).mono ?_; rintro e z (⟨O,j,m,f⟩ | ⟨⟨A,B,C,D,E⟩,Q,R,j,rfl,⟨F,rfl,g⟩,f,G,H⟩)
 ·obtain ⟨q,rfl,-⟩ := id m; exact ⟨rfl,Steps.err j m ga f⟩
 have n : vo c.L 3 i = _ := j; simp only [T.kind,T.name,T.num,T.at',T.subs] at g ⊢; obtain ⟨I,J,rfl⟩ := g.form; obtain ⟨U,o,g⟩ := g.nm
 try simp at o
 have K := za ga f; have M := f.size
 try simp at M
 have l : RB z w.heap.size := RB.k (RB.new' (by simp)) f; have r := l.lt; obtain ⟨_,_,_,_,_,_,_,_,_,_,_⟩ := id l; go_wp2; refine zn Tryz.results141 rfl (RB.five ?_) rfl ?_
 ·exact l
 refine Steps.ok (a := (T.mk A B C D E)) n ⟨_,rfl,?_⟩ ?_ ?_ (by omega)
 ·exact (LR.p5 g (by omega)).wd
 ·exact zC K (by omega)
 ·exact PS.p5 G u.out (by omega)
theorem oz (c : PC) (d b : Nat) (hb : b ≠ c.pb) : Part c d (fun w => w.cell? ⟨b,0,none⟩ = some (pq c.pb)) 141 (#[] ++ #[pq b]) (vo c.L 3) :=
 ⟨fun w i hp hc => by simpa using pF c w i d b hp hc,fun w w' h hg => zE hg h (by simpa using hb),enters_of Tryz.func141 (by kernel_rfl) rfl⟩
theorem sy (c : PC) (w : World) (i d : Nat) (h : PS c w i d) :
  Calls Tryz.prog 90 #[pq c.pb] w (Steps c w i d (fun w' t v => TR w' w.heap.size w'.heap.size t v) (js c.L i)) := by
 have HP := zc h; have O := zc h.low; have hb := h.lt; clear h
 have l : (w.alloc (.cells #[pq c.pb] 142)).cell? ⟨w.heap.size,0,none⟩ = some (pq c.pb) := by simp
 have b7 : (w.alloc (.cells #[pq c.pb] 142)).heap.size = w.heap.size + 1 := by simp
 go_enter Tryz.func90,Tryz.ntmps90
 go_wp2_with fail; go_at_call 87; refine (zL c _ i d 1 (PS.alloc (PS.alloc HP.out _) _)).mono ?_; rintro e C ⟨rfl,g⟩; have p1 : PS c C i d := PS.kept (PS.alloc (PS.alloc HP.out _) _) g; have G1 : w.grownBy C (some c.pb) := za (zh ga _) (zv g (some c.pb)); have s1 := g.size
 try simp at s1
 have H1 : (w.alloc (.cells #[pq c.pb] 142)).grownBy C (some c.pb) := za (zh (zj (w.alloc (.cells #[pq c.pb] 142)) (some c.pb)) _) (zv g (some c.pb)); have Q := zE H1 l (by simp; omega); have R := zw Q; simp only [] at R; have o : RB C (w.heap.size + 1) := RB.kept (RB.new' (by simp)) g (by simp); have U := o.lt; obtain ⟨_,_,_,_,_,_,_,_,_,_,_⟩ := id o; go_wp2_with fail; go_at_call 137; refine (yp c _ i d mr _ rfl (by decide) (PS.alloc p1 _)).mono ?_; rintro e M ⟨b2,j2,V,rfl,j,p2,b8⟩; have r : js c.L i = _ := P.bind_ok V; have X : w.grownBy M (some c.pb) := za (zh G1 _) j; have s2 := j.size
 try simp at s2
 have H2 : (w.alloc (.cells #[pq c.pb] 142)).grownBy M (some c.pb) := za (zh H1 _) j; have D := zE H2 l (by simp; omega); have Y := zw D; simp only [] at Y; have m : RB M (w.heap.size + 1) := RB.k (RB.alloc o _) j; have s : NB M C.heap.size (.int .i64 1) (.string ⟨#[]⟩) (.int .i64 0) (.int .i64 (pos c.L i)) (.slice none 0 0) := NB.k (NB.new' (by simp)) j; have Z := m.lt; have a0 := s.lt; obtain ⟨_,_,_,_,_,_,_,_,_,_,_⟩ := id m; obtain ⟨_,_,_,_,_,_⟩ := id s; cases b2
 ·go_wp2
  refine zn Tryz.results90 rfl (RB.five ?_) rfl ?_
  ·exact m
  refine Steps.ok (a := (T.mk 1 [] 0 (pos c.L i) [])) r ⟨_,rfl,?_⟩ ?_ ?_ (by omega)
  ·exact LR.nil _ _
  ·exact zC X (by omega)
  ·exact PS.p5 p2 O.out (by omega)
 ·go_wp2_with fail
  go_at_call 140; refine (kZ c _ j2 d (fun w' => w'.cell? ⟨w.heap.size,0,none⟩ = some (pq c.pb)) 141 #[] #[pq w.heap.size] (vo c.L 3) gz _ rfl (by decide) p2 D (oz c d w.heap.size (by omega))).mono ?_; rintro e w3 (⟨x3,u,E,f⟩ | ⟨N,j3,v3,u,rfl,⟨n,b6⟩,f,p3,b9⟩)
  ·obtain ⟨q,rfl,-⟩ := id E; exact ⟨rfl,Steps.err (r.trans (P.bind_err u)) E X f⟩
  have F := r.trans (P.bind_ok u); obtain ⟨G,H,rfl⟩ := n.form; obtain ⟨b3,a1,n⟩ := n.nm
  try simp at a1
  have G3 := za X f; have s3 := f.size
  try simp at s3
  have H3 : (w.alloc (.cells #[pq c.pb] 142)).grownBy w3 (some c.pb) := za H2 f; have a2 := zE H3 l (by simp; omega); have a5 := zw a2; simp only [] at a5; have x := RB.k m f; have z := NB.k s f; have a6 := x.lt; have a7 := z.lt; obtain ⟨_,_,_,_,_,_,_,_,_,_,_⟩ := id x; obtain ⟨_,_,_,_,_,_⟩ := id z; go_wp2_with fail; go_at_call 88; refine (zy c _ j3 d yl _ rfl (by decide) (PS.put p3 O.out (by omega) _ _)).mono ?_; rintro e I (⟨x4,A,J,b⟩ | ⟨a4,j4,v4,A,rfl,-,b,p4,c0⟩)
  ·obtain ⟨q,rfl,-⟩ := id J; exact ⟨rfl,Steps.err (F.trans (P.bind_err A)) J (zs G3 (by omega) _ _) b⟩
  have a8 := F.trans (P.bind_ok A); have G4 : w.grownBy I (some c.pb) := za (zs G3 (by omega) _ _) b; have s4 := b.size
  try simp at s4
  have H4 : (w.alloc (.cells #[pq c.pb] 142)).grownBy I (some c.pb) := za (zs H3 (by omega) _ _) b; have a9 := zE H4 l (by simp; omega); have b0 := zw a9; simp only [] at b0; have B : RB I (w.heap.size + 1) := RB.k (RB.put x _ _ _) b; have K : NB I C.heap.size (.int .i64 1) (.string ⟨#[]⟩) (.int .i64 0) (.int .i64 (pos c.L i)) (.slice G N.length H) := NB.k (NB.s4 z _) b; have b1 : LR I (In b3 w3.heap.size) N (.slice G N.length H) := LR.c (LR.put n (by omega) _ _) b; have b4 := B.lt; have b5 := K.lt; obtain ⟨_,_,_,_,_,_,_,_,_,_,_⟩ := id B; obtain ⟨_,_,_,_,_,_⟩ := id K; go_wp2; refine zn Tryz.results90 rfl (RB.five ?_) rfl ?_
  ·exact B
  refine Steps.ok (a := (T.mk 1 [] 0 (pos c.L i) N)) a8 ⟨_,rfl,?_⟩ ?_ ?_ (by omega)
  ·exact (LR.p5 b1 (by omega)).wd
  ·exact zC G4 (by omega)
  ·exact PS.p5 p4 O.out (by omega)
end Go.Proofs.YtnmkffjklpfflaaGreatDoor
