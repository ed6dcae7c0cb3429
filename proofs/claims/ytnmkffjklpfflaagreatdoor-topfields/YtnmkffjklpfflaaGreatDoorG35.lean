/- Types,and a module's acts. -/
import Derived.Test.YtnmkffjklpfflaaGreatDoorG33
import Derived.Test.YtnmkffjklpfflaaGreatDoorG34
namespace Go.Proofs.YtnmkffjklpfflaaGreatDoor
open Go.RowKit
set_option maxHeartbeats 1000000
set_option maxRecDepth 100000
theorem gc (c : PC) (w : World) (i d : Nat) (h : PS c w i d) (hR : PartOK c d 175 (uO c.L)) :
  Calls Tryz.prog 146 #[pq c.pb] w (Steps c w i d (fun w' t v => TR w' w.heap.size w'.heap.size t v) (ya c.L i)) := by
 have HP := zc h; have Y := zc h.low; have hb := h.lt; clear h
 go_enter Tryz.func146,Tryz.ntmps146
 go_wp2_with fail; go_at_call 68; refine (xh c _ i d (PS.alloc HP.out _)).mono ?_; rintro e Z ⟨rfl,s⟩; have V : PS c Z i d := PS.kept (PS.alloc HP.out _) s; have A : w.grownBy Z (some c.pb) := za ga (zv s (some c.pb)); have s1 := s.size
 try simp at s1
 have m : RB Z w.heap.size := RB.kept (RB.new' (by simp)) s (by simp); have a0 := m.lt; obtain ⟨_,_,_,_,_,_,_,_,_,_,_⟩ := id m
 by_cases B : wd c.L i = fO
 ·have a1 : (wd c.L i == [65,82,82,65,89]) = true := by rw [B]; decide
  have u : ya c.L i = sj c.L i := by unfold ya; rw [if_pos B]
  go_wp2_with fail; go_at_call 174; refine (ns c _ i d V).mono ?_; rintro e w2 (⟨x2,g,l,b⟩ | ⟨⟨C,D,E,F,G⟩,j2,v2,g,rfl,⟨H,rfl,f⟩,b,I,J⟩)
  ·obtain ⟨q,rfl,-⟩ := id l; exact ⟨rfl,Steps.err (u.trans g) l A b⟩
  have n : ya c.L i = _ := u.trans g; simp only [T.kind,T.name,T.num,T.at',T.subs] at f ⊢; obtain ⟨K,M,rfl⟩ := f.form; obtain ⟨b2,o,f⟩ := f.nm
  try simp at o
  have N := za A b; have O := b.size
  try simp at O
  have j := RB.k m b; have r := j.lt; obtain ⟨_,_,_,_,_,_,_,_,_,_,_⟩ := id j; go_wp2; refine zn Tryz.results146 rfl (RB.five ?_) rfl ?_
  ·exact j
  refine Steps.ok (a := (T.mk C D E F G)) n ⟨_,rfl,?_⟩ ?_ ?_ (by omega)
  ·exact (LR.p5 f (by omega)).wd
  ·exact zC N (by omega)
  ·exact PS.p5 I Y.out (by omega)
 have a1 : (wd c.L i == [65,82,82,65,89]) = false := by simpa [fO] using B
 by_cases Q : wd c.L i = kN
 ·have a2 : (wd c.L i == [82,69,67,79,82,68]) = true := by rw [Q]; decide
  have x : ya c.L i = uO c.L i := by unfold ya; rw [if_neg B,if_pos Q]
  go_wp2_with fail; go_at_call 175; refine (hR _ i V).mono ?_; rintro e w2 (⟨x2,g,l,b⟩ | ⟨⟨C,D,E,F,G⟩,j2,v2,g,rfl,⟨H,rfl,f⟩,b,I,J⟩)
  ·obtain ⟨q,rfl,-⟩ := id l; exact ⟨rfl,Steps.err (x.trans g) l A b⟩
  have n : ya c.L i = _ := x.trans g; simp only [T.kind,T.name,T.num,T.at',T.subs] at f ⊢; obtain ⟨K,M,rfl⟩ := f.form; obtain ⟨b2,o,f⟩ := f.nm
  try simp at o
  have N := za A b; have O := b.size
  try simp at O
  have j := RB.k m b; have r := j.lt; obtain ⟨_,_,_,_,_,_,_,_,_,_,_⟩ := id j; go_wp2; refine zn Tryz.results146 rfl (RB.five ?_) rfl ?_
  ·exact j
  refine Steps.ok (a := (T.mk C D E F G)) n ⟨_,rfl,?_⟩ ?_ ?_ (by omega)
  ·exact (LR.p5 f (by omega)).wd
  ·exact zC N (by omega)
  ·exact PS.p5 I Y.out (by omega)
 have a2 : (wd c.L i == [82,69,67,79,82,68]) = false := by simpa [kN] using Q
 by_cases X : wd c.L i = jG
 ·have a3 : (wd c.L i == [80,79,73,78,84,69,82]) = true := by rw [X]; decide
  have z : ya c.L i = qa c.L i := by unfold ya; rw [if_neg B,if_neg Q,if_pos X]
  go_wp2_with fail; go_at_call 176; refine (tR c _ i d V).mono ?_; rintro e w2 (⟨x2,g,l,b⟩ | ⟨⟨C,D,E,F,G⟩,j2,v2,g,rfl,⟨H,rfl,f⟩,b,I,J⟩)
  ·obtain ⟨q,rfl,-⟩ := id l; exact ⟨rfl,Steps.err (z.trans g) l A b⟩
  have n : ya c.L i = _ := z.trans g; simp only [T.kind,T.name,T.num,T.at',T.subs] at f ⊢; obtain ⟨K,M,rfl⟩ := f.form; obtain ⟨b2,o,f⟩ := f.nm
  try simp at o
  have N := za A b; have O := b.size
  try simp at O
  have j := RB.k m b; have r := j.lt; obtain ⟨_,_,_,_,_,_,_,_,_,_,_⟩ := id j; go_wp2; refine zn Tryz.results146 rfl (RB.five ?_) rfl ?_
  ·exact j
  refine Steps.ok (a := (T.mk C D E F G)) n ⟨_,rfl,?_⟩ ?_ ?_ (by omega)
  ·exact (LR.p5 f (by omega)).wd
  ·exact zC N (by omega)
  ·exact PS.p5 I Y.out (by omega)
 have a3 : (wd c.L i == [80,79,73,78,84,69,82]) = false := by simpa [jG] using X
 have R : ya c.L i = .error (yu c.L i) := by unfold ya; rw [if_neg B,if_neg Q,if_neg X]
 go_wp2_with fail; go_at_call 69; refine (vF c _ i d V).mono ?_; rintro e w9 ⟨U,a4⟩; have HT := U; obtain ⟨q,rfl,-⟩ := U
 exact ⟨rfl,Steps.err R HT A (zv a4 _)⟩
theorem hY (c : PC) (w : World) (i d : Nat) (A : P T) (h : PS c w i d) (hA : ActsOK c d A) :
  Calls Tryz.prog 96 #[pq c.pb] w (Steps c w i d (fun w' t v => TR w' w.heap.size w'.heap.size t v) (((yr c.L ju).bind (fun b => if b = true then A else P.ret (.mk 1 [] 0 (pos c.L i) []))) i)) := by
 have K := zc h; have J := zc h.low; have hb := h.lt; clear h
 go_enter Tryz.func96,Tryz.ntmps96
 go_wp2_with fail; go_at_call 137; refine (yp c _ i d ju _ rfl (by decide) (PS.alloc K.out _)).mono ?_; rintro e M ⟨N,z,s,rfl,m,B,O⟩; have n : ((yr c.L ju).bind (fun b => if b = true then A else P.ret (.mk 1 [] 0 (pos c.L i) []))) i = _ := P.bind_ok s; have C := za ga m; have Q := m.size
 try simp at Q
 have l : RB M w.heap.size := RB.k (RB.new' (by simp)) m; have D := l.lt; obtain ⟨_,_,_,_,_,_,_,_,_,_,_⟩ := id l; cases N
 ·have hj := kY s
  go_wp2_with fail; go_at_call 87; refine (zL c _ z d 1 B).mono ?_; rintro e x ⟨rfl,f⟩; have E : PS c x z d := PS.kept B f; have F : w.grownBy x (some c.pb) := za C (zv f (some c.pb)); have G := f.size
  try simp at G
  have g : RB x w.heap.size := RB.kept l f (by simp); have o := g.lt; obtain ⟨_,_,_,_,_,_,_,_,_,_,_⟩ := id g; go_wp2; refine zn Tryz.results96 rfl (RB.five ?_) rfl ?_
  ·exact g
  refine Steps.ok (a := (T.mk 1 [] 0 (pos c.L i) [])) n ⟨_,rfl,?_⟩ ?_ ?_ (by omega)
  ·exact LR.nil _ _
  ·exact zC F (by omega)
  ·exact PS.p5 E J.out (by omega)
 ·go_wp2_with fail
  go_at_call 149; refine (hA _ z B).mono ?_; rintro e x (⟨x2,r,u,f⟩ | ⟨⟨R,U,V,X,Y⟩,j2,v2,r,rfl,⟨Z,rfl,j⟩,f,E,a0⟩)
  ·obtain ⟨q,rfl,-⟩ := id u; exact ⟨rfl,Steps.err (n.trans r) u C f⟩
  have H : ((yr c.L ju).bind (fun b => if b = true then A else P.ret (.mk 1 [] 0 (pos c.L i) []))) i = _ := n.trans r; simp only [T.kind,T.name,T.num,T.at',T.subs] at j ⊢; obtain ⟨a1,a2,rfl⟩ := j.form; obtain ⟨b2,I,j⟩ := j.nm
  try simp at I
  have F := za C f; have G := f.size
  try simp at G
  have g := RB.k l f; have o := g.lt; obtain ⟨_,_,_,_,_,_,_,_,_,_,_⟩ := id g; go_wp2; refine zn Tryz.results96 rfl (RB.five ?_) rfl ?_
  ·exact g
  refine Steps.ok (a := (T.mk R U V X Y)) H ⟨_,rfl,?_⟩ ?_ ?_ (by omega)
  ·exact (LR.p5 j (by omega)).wd
  ·exact zC F (by omega)
  ·exact PS.p5 E J.out (by omega)
theorem nz (c : PC) (w : World) (i d : Nat) (h : PS c w i d) (hM : PartOK c d 67 (kV c.L)) :
  Calls Tryz.prog 52 #[pq c.pb] w (Steps c w i d (fun w' t v => TR w' w.heap.size w'.heap.size t v) (xE c.L i)) := by
 have Y := zc h; have Z := zc h.low; have hb := h.lt; clear h
 go_enter Tryz.func52,Tryz.ntmps52
 go_wp2_with fail; go_at_call 67; refine (hM _ i (PS.alloc Y.out _)).mono ?_; rintro e F (⟨x1,j,n,f⟩ | ⟨⟨N,O,Q,R,D⟩,o,v1,j,rfl,⟨a0,rfl,g⟩,f,U,a1⟩)
 ·obtain ⟨q,rfl,-⟩ := id n; exact ⟨rfl,Steps.err (P.bind_err j) n ga f⟩
 have r : xE c.L i = _ := P.bind_ok j; simp only [T.kind,T.name,T.num,T.at',T.subs] at g ⊢; obtain ⟨s,u,rfl⟩ := g.form; obtain ⟨b1,G,g⟩ := g.nm
 try simp at G
 have G1 := za ga f; have s1 := f.size
 try simp at s1
 have l : RB F w.heap.size := RB.k (RB.new' (by simp)) f; have H := l.lt; obtain ⟨_,_,_,_,_,_,_,_,_,_,_⟩ := id l; go_wp2_with fail; go_at_call 68; refine (xh c _ o d (PS.alloc U _)).mono ?_; rintro e x ⟨rfl,b⟩; have V : PS c x o d := PS.kept (PS.alloc U _) b; have X : w.grownBy x (some c.pb) := za (zh G1 _) (zv b (some c.pb)); have s2 := b.size
 try simp at s2
 have m : RB x w.heap.size := RB.kept (RB.alloc l _) b (by simp); have z : NB x F.heap.size (.int .i64 N) (.string ⟨O.toArray⟩) (.int .i64 Q) (.int .i64 R) (.slice s D.length u) := NB.kept (NB.new' (by simp)) b (by simp); have I : LR x (In b1 F.heap.size) D (.slice s D.length u) := LR.grown (LR.alloc g _) b; have J := m.lt; have K := z.lt; obtain ⟨_,_,_,_,_,_,_,_,_,_,_⟩ := id m; obtain ⟨_,_,_,_,_,_⟩ := id z
 by_cases E : wd c.L o = []
 ·have hx : (wd c.L o).isEmpty = true := by rw [E]; rfl
  have A : xE c.L i = _ := r.trans (if_pos E); go_wp2; refine zn Tryz.results52 rfl (RB.five ?_) rfl ?_
  ·exact m
  refine Steps.ok (a := (T.mk N O Q R D)) A ⟨_,rfl,?_⟩ ?_ ?_ (by omega)
  ·exact (LR.p5 I (by omega)).wd
  ·exact zC X (by omega)
  ·exact PS.p5 V Z.out (by omega)
 have hx := vw E; have B : xE c.L i = _ := r.trans (if_neg E); go_wp2_with fail; go_at_call 69; refine (vF c _ o d V).mono ?_; rintro e w9 ⟨C,M⟩; have HT := C; obtain ⟨q,rfl,-⟩ := C
 exact ⟨rfl,Steps.err B HT X (zv M _)⟩
end Go.Proofs.YtnmkffjklpfflaaGreatDoor
