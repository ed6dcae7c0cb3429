/- Types,and a module's acts. -/
import Derived.Test.YtnmkffjklpfflaaGreatDoorG31
import Derived.Test.YtnmkffjklpfflaaGreatDoorG32
namespace Go.Proofs.YtnmkffjklpfflaaGreatDoor
open Go.RowKit
set_option maxHeartbeats 1000000
set_option maxRecDepth 100000
theorem qv (c : PC) (w : World) (i d : Nat) (h : PS c w i d) (hR : PartOK c d 175 (xf c.L)) :
  Calls Tryz.prog 146 #[.pointer (some ⟨c.pb,0,none⟩)] w (Steps c w i d (fun w' t v => TR w' w.heap.size w'.heap.size t v) (zP c.L i)) := by
 have HP := ze h; have HL := ze h.low; have hb := h.lt; clear h
 go_enter Tryz.func146,Tryz.ntmps146
 go_wp2_with fail; go_at_call 68; refine (yR c _ i d (PS.alloc HP.out _)).mono ?_; rintro e w1 ⟨rfl,A⟩; have Y : PS c w1 i d := PS.kept (PS.alloc HP.out _) A; have E : w.grownBy w1 (some c.pb) := za (zf (zc w (some c.pb)) _) (zv A (some c.pb)); have s1 := A.size
 try simp at s1
 have o : RB w1 w.heap.size := RB.kept (RB.new' (by simp)) A (by simp); have a0 := o.lt; obtain ⟨_,_,_,_,_,_,_,_,_,_,_⟩ := id o
 by_cases F : wd c.L i = qX
 ·have a1 : (wd c.L i == [65,82,82,65,89]) = true := by rw [F]; decide
  have B : zP c.L i = jD c.L i := by unfold zP; rw [if_pos F]
  go_wp2_with fail; go_at_call 174; refine (sK c _ i d Y).mono ?_; rintro e l (⟨x2,j,m,f⟩ | ⟨⟨G,H,I,J,n⟩,j2,v2,j,rfl,⟨K,rfl,g⟩,f,M,N⟩)
  ·obtain ⟨q,rfl,-⟩ := id m; exact ⟨rfl,Steps.err (B.trans j) m E f⟩
  have r : zP c.L i = _ := B.trans j; simp only [T.kind,T.name,T.num,T.at',T.subs] at g ⊢; obtain ⟨s,u,rfl⟩ := g.form; obtain ⟨O,x,g⟩ : ∃ b,b = _ /\ LR l (In b l.heap.size) n (.slice s n.length u) := ⟨_,rfl,g⟩
  try simp at x
  have Q : w.grownBy l (some c.pb) := za E f; have R := f.size
  try simp at R
  have k : RB l w.heap.size := RB.keep o f (by omega); have z := k.lt; obtain ⟨_,_,_,_,_,_,_,_,_,_,_⟩ := id k; go_wp2; refine zj Tryz.results146 rfl (RB.five ?_) rfl ?_
  ·exact k
  refine Steps.ok (a := (T.mk G H I J n)) r ⟨_,rfl,?_⟩ ?_ ?_ (by omega)
  ·refine LR.wide (lo := O) (hi := l.heap.size) (ts := n) ?_ (by omega) (by first | omega | (simp <;> omega))
   exact LR.p5 g (by omega)
  ·exact zy Q (by omega)
  ·exact PS.p5 M HL.out (by omega)
 have a1 : (wd c.L i == [65,82,82,65,89]) = false := by simpa [qX] using F
 by_cases U : wd c.L i = jV
 ·have a2 : (wd c.L i == [82,69,67,79,82,68]) = true := by rw [U]; decide
  have C : zP c.L i = xf c.L i := by unfold zP; rw [if_neg F,if_pos U]
  go_wp2_with fail; go_at_call 175; refine (hR _ i Y).mono ?_; rintro e l (⟨x2,j,m,f⟩ | ⟨⟨G,H,I,J,n⟩,j2,v2,j,rfl,⟨K,rfl,g⟩,f,M,N⟩)
  ·obtain ⟨q,rfl,-⟩ := id m; exact ⟨rfl,Steps.err (C.trans j) m E f⟩
  have r : zP c.L i = _ := C.trans j; simp only [T.kind,T.name,T.num,T.at',T.subs] at g ⊢; obtain ⟨s,u,rfl⟩ := g.form; obtain ⟨O,x,g⟩ : ∃ b,b = _ /\ LR l (In b l.heap.size) n (.slice s n.length u) := ⟨_,rfl,g⟩
  try simp at x
  have Q : w.grownBy l (some c.pb) := za E f; have R := f.size
  try simp at R
  have k : RB l w.heap.size := RB.keep o f (by omega); have z := k.lt; obtain ⟨_,_,_,_,_,_,_,_,_,_,_⟩ := id k; go_wp2; refine zj Tryz.results146 rfl (RB.five ?_) rfl ?_
  ·exact k
  refine Steps.ok (a := (T.mk G H I J n)) r ⟨_,rfl,?_⟩ ?_ ?_ (by omega)
  ·refine LR.wide (lo := O) (hi := l.heap.size) (ts := n) ?_ (by omega) (by first | omega | (simp <;> omega))
   exact LR.p5 g (by omega)
  ·exact zy Q (by omega)
  ·exact PS.p5 M HL.out (by omega)
 have a2 : (wd c.L i == [82,69,67,79,82,68]) = false := by simpa [jV] using U
 by_cases Z : wd c.L i = ji
 ·have a3 : (wd c.L i == [80,79,73,78,84,69,82]) = true := by rw [Z]; decide
  have D : zP c.L i = vV c.L i := by unfold zP; rw [if_neg F,if_neg U,if_pos Z]
  go_wp2_with fail; go_at_call 176; refine (dS c _ i d Y).mono ?_; rintro e l (⟨x2,j,m,f⟩ | ⟨⟨G,H,I,J,n⟩,j2,v2,j,rfl,⟨K,rfl,g⟩,f,M,N⟩)
  ·obtain ⟨q,rfl,-⟩ := id m; exact ⟨rfl,Steps.err (D.trans j) m E f⟩
  have r : zP c.L i = _ := D.trans j; simp only [T.kind,T.name,T.num,T.at',T.subs] at g ⊢; obtain ⟨s,u,rfl⟩ := g.form; obtain ⟨O,x,g⟩ : ∃ b,b = _ /\ LR l (In b l.heap.size) n (.slice s n.length u) := ⟨_,rfl,g⟩
  try simp at x
  have Q : w.grownBy l (some c.pb) := za E f; have R := f.size
  try simp at R
  have k : RB l w.heap.size := RB.keep o f (by omega); have z := k.lt; obtain ⟨_,_,_,_,_,_,_,_,_,_,_⟩ := id k; go_wp2; refine zj Tryz.results146 rfl (RB.five ?_) rfl ?_
  ·exact k
  refine Steps.ok (a := (T.mk G H I J n)) r ⟨_,rfl,?_⟩ ?_ ?_ (by omega)
  ·refine LR.wide (lo := O) (hi := l.heap.size) (ts := n) ?_ (by omega) (by first | omega | (simp <;> omega))
   exact LR.p5 g (by omega)
  ·exact zy Q (by omega)
  ·exact PS.p5 M HL.out (by omega)
 have a3 : (wd c.L i == [80,79,73,78,84,69,82]) = false := by simpa [ji] using Z
 have V : zP c.L i = .error (yi c.L i) := by unfold zP; rw [if_neg F,if_neg U,if_neg Z]
 go_wp2_with fail; go_at_call 69; refine (vb c _ i d Y).mono ?_; rintro e w9 ⟨X,a4⟩; have HT := X; obtain ⟨q,rfl,-⟩ := X
 exact ⟨rfl,Steps.err V HT E (zv a4 _)⟩
theorem qo (c : PC) (w : World) (i d : Nat) (A : P T) (h : PS c w i d) (hA : ActsOK c d A) :
  Calls Tryz.prog 96 #[.pointer (some ⟨c.pb,0,none⟩)] w (Steps c w i d (fun w' t v => TR w' w.heap.size w'.heap.size t v) (((yu c.L jG).bind (fun b => if b = true then A else P.ret (.mk 1 [] 0 (pos c.L i) []))) i)) := by
 have O := ze h; have M := ze h.low; have hb := h.lt; clear h
 go_enter Tryz.func96,Tryz.ntmps96
 go_wp2_with fail; go_at_call 137; refine (yb c _ i d jG _ rfl (by decide) (PS.alloc O.out _)).mono ?_; rintro e N ⟨Q,z,s,rfl,m,B,R⟩; have n : ((yu c.L jG).bind (fun b => if b = true then A else P.ret (.mk 1 [] 0 (pos c.L i) []))) i = _ := P.bind_ok s; have C : w.grownBy N (some c.pb) := za (zf (zc w (some c.pb)) _) m; have U := m.size
 try simp at U
 have k : RB N w.heap.size := RB.keep (RB.new' (by simp)) m (by omega); have D := k.lt; obtain ⟨_,_,_,_,_,_,_,_,_,_,_⟩ := id k; cases Q
 ·have hj := jT s
  go_wp2_with fail; go_at_call 87; refine (zI c _ z d 1 B).mono ?_; rintro e l ⟨rfl,f⟩; have E : PS c l z d := PS.kept B f; have F : w.grownBy l (some c.pb) := za C (zv f (some c.pb)); have G := f.size
  try simp at G
  have g : RB l w.heap.size := RB.kept k f (by simp); have o := g.lt; obtain ⟨_,_,_,_,_,_,_,_,_,_,_⟩ := id g; go_wp2; refine zj Tryz.results96 rfl (RB.five ?_) rfl ?_
  ·exact g
  refine Steps.ok (a := (T.mk 1 [] 0 (pos c.L i) [])) n ⟨_,rfl,?_⟩ ?_ ?_ (by omega)
  ·exact LR.nil _ _
  ·exact zy F (by omega)
  ·exact PS.p5 E M.out (by omega)
 ·go_wp2_with fail
  go_at_call 149; refine (hA _ z B).mono ?_; rintro e l (⟨x2,r,u,f⟩ | ⟨⟨V,X,Y,Z,x⟩,j2,v2,r,rfl,⟨a0,rfl,j⟩,f,E,a1⟩)
  ·obtain ⟨q,rfl,-⟩ := id u; exact ⟨rfl,Steps.err (n.trans r) u C f⟩
  have H : ((yu c.L jG).bind (fun b => if b = true then A else P.ret (.mk 1 [] 0 (pos c.L i) []))) i = _ := n.trans r; simp only [T.kind,T.name,T.num,T.at',T.subs] at j ⊢; obtain ⟨I,J,rfl⟩ := j.form; obtain ⟨b2,K,j⟩ : ∃ b,b = _ /\ LR l (In b l.heap.size) x (.slice I x.length J) := ⟨_,rfl,j⟩
  try simp at K
  have F : w.grownBy l (some c.pb) := za C f; have G := f.size
  try simp at G
  have g : RB l w.heap.size := RB.keep k f (by omega); have o := g.lt; obtain ⟨_,_,_,_,_,_,_,_,_,_,_⟩ := id g; go_wp2; refine zj Tryz.results96 rfl (RB.five ?_) rfl ?_
  ·exact g
  refine Steps.ok (a := (T.mk V X Y Z x)) H ⟨_,rfl,?_⟩ ?_ ?_ (by omega)
  ·refine LR.wide (lo := b2) (hi := l.heap.size) (ts := x) ?_ (by omega) (by first | omega | (simp <;> omega))
   exact LR.p5 j (by omega)
  ·exact zy F (by omega)
  ·exact PS.p5 E M.out (by omega)
theorem sU (c : PC) (w : World) (i d : Nat) (h : PS c w i d) (hM : PartOK c d 67 (yY c.L)) :
  Calls Tryz.prog 52 #[.pointer (some ⟨c.pb,0,none⟩)] w (Steps c w i d (fun w' t v => TR w' w.heap.size w'.heap.size t v) (vB c.L i)) := by
 have Z := ze h; have HL := ze h.low; have hb := h.lt; clear h
 go_enter Tryz.func52,Tryz.ntmps52
 go_wp2_with fail; go_at_call 67; refine (hM _ i (PS.alloc Z.out _)).mono ?_; rintro e k (⟨x1,l,u,g⟩ | ⟨⟨N,O,Q,R,m⟩,x,v1,l,rfl,⟨a0,rfl,j⟩,g,U,a1⟩)
 ·obtain ⟨q,rfl,-⟩ := id u; exact ⟨rfl,Steps.err (P.bind_err l) u (zf (zc w (some c.pb)) _) g⟩
 have z : vB c.L i = _ := P.bind_ok l; simp only [T.kind,T.name,T.num,T.at',T.subs] at j ⊢; obtain ⟨n,o,rfl⟩ := j.form; obtain ⟨V,G,j⟩ : ∃ b,b = _ /\ LR k (In b k.heap.size) m (.slice n m.length o) := ⟨_,rfl,j⟩
 try simp at G
 have G1 : w.grownBy k (some c.pb) := za (zf (zc w (some c.pb)) _) g; have s1 := g.size
 try simp at s1
 have r : RB k w.heap.size := RB.keep (RB.new' (by simp)) g (by omega); have H := r.lt; obtain ⟨_,_,_,_,_,_,_,_,_,_,_⟩ := id r; go_wp2_with fail; go_at_call 68; refine (yR c _ x d (PS.alloc U _)).mono ?_; rintro e A ⟨rfl,f⟩; have X : PS c A x d := PS.kept (PS.alloc U _) f; have Y : w.grownBy A (some c.pb) := za (zf G1 _) (zv f (some c.pb)); have s2 := f.size
 try simp at s2
 have s : RB A w.heap.size := RB.kept (RB.alloc r _) f (by simp); have B : NB A k.heap.size (.int .i64 N) (.string ⟨O.toArray⟩) (.int .i64 Q) (.int .i64 R) (.slice n m.length o) := NB.kept (NB.new' (by simp)) f (by simp); have I : LR A (In V k.heap.size) m (.slice n m.length o) := LR.grown (LR.alloc j _) f; have J := s.lt; have K := B.lt; obtain ⟨_,_,_,_,_,_,_,_,_,_,_⟩ := id s; obtain ⟨_,_,_,_,_,_⟩ := id B
 by_cases F : wd c.L x = []
 ·have hx : (wd c.L x).isEmpty = true := by rw [F]; rfl
  have C : vB c.L i = _ := z.trans (if_pos F); go_wp2; refine zj Tryz.results52 rfl (RB.five ?_) rfl ?_
  ·exact s
  refine Steps.ok (a := (T.mk N O Q R m)) C ⟨_,rfl,?_⟩ ?_ ?_ (by omega)
  ·refine LR.wide (lo := V) (hi := k.heap.size) (ts := m) ?_ (by omega) (by first | omega | (simp <;> omega))
   exact LR.p5 I (by omega)
  ·exact zy Y (by omega)
  ·exact PS.p5 X HL.out (by omega)
 have hx := xV F; have D : vB c.L i = _ := z.trans (if_neg F); go_wp2_with fail; go_at_call 69; refine (vb c _ x d X).mono ?_; rintro e w9 ⟨E,M⟩; have HT := E; obtain ⟨q,rfl,-⟩ := E
 exact ⟨rfl,Steps.err D HT Y (zv M _)⟩
end Go.Proofs.YtnmkffjklpfflaaGreatDoor
