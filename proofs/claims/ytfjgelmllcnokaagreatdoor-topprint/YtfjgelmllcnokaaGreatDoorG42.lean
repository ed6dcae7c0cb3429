/- Types,and a module's acts. -/
import Derived.Test.YtfjgelmllcnokaaGreatDoorG40
import Derived.Test.YtfjgelmllcnokaaGreatDoorG04
import Derived.Test.YtfjgelmllcnokaaGreatDoorG41
namespace Go.Proofs.YtfjgelmllcnokaaGreatDoor
open Go.RowKit
set_option maxHeartbeats 1000000
set_option maxRecDepth 100000
theorem tu (c : PC) (w : World) (i d : Nat) (h : PS c w i d) (hR : PartOK c d 151 (qw c.L)) :
  Calls Tryz.prog 122 #[.pointer (some ⟨c.pb,0,none⟩)] w (Steps c w i d (fun w' t v => TR w' w.heap.size w'.heap.size t v) (yh c.L i)) := by
 have HP := za h; have Z := za h.low; have hb := h.lt; clear h
 go_enter Tryz.func122,Tryz.ntmps122
 go_wp2_with fail; go_at_call 29; refine (ud c _ i d (PS.alloc HP.out _)).mono ?_; rintro e w1 ⟨rfl,s⟩; have X : PS c w1 i d := PS.kept (PS.alloc HP.out _) s; have z : w.grownBy w1 (some c.pb) := zb ga (zJ s (some c.pb)); have s1 := s.size
 try simp at s1
 have m : RB w1 w.heap.size := RB.kept (RB.new' (by simp)) s (by simp); have a0 := m.lt; obtain ⟨_,_,_,_,_,_,_,_,_,_,_⟩ := id m
 by_cases A : wd c.L i = jy
 ·have a1 : (wd c.L i == [65,82,82,65,89]) = true := by rw [A]; decide
  have u : yh c.L i = oU c.L i := by unfold yh; rw [if_pos A]
  go_wp2_with fail; go_at_call 150; refine (iS c _ i d X).mono ?_; rintro e w2 (⟨x2,g,l,b⟩ | ⟨⟨B,C,D,E,F⟩,j2,v2,g,rfl,⟨H,rfl,f⟩,b,I,J⟩)
  ·obtain ⟨q,rfl,-⟩ := id l; exact ⟨rfl,Steps.err (u.trans g) l z b⟩
  have n : yh c.L i = _ := u.trans g; simp only [T.kind,T.name,T.num,T.at',T.subs] at f ⊢; obtain ⟨K,M,rfl⟩ := f.form; obtain ⟨b2,o,f⟩ := f.nm
  try simp at o
  have N := zb z b; have O := b.size
  try simp at O
  have j := RB.k m b; have r := j.lt; obtain ⟨_,_,_,_,_,_,_,_,_,_,_⟩ := id j; go_wp2; refine zn Tryz.results122 rfl (RB.five ?_) rfl ?_
  ·exact j
  refine Steps.ok (a := (T.mk B C D E F)) n ⟨_,rfl,?_⟩ ?_ ?_ (by omega)
  ·exact (LR.p5 f (by omega)).wd
  ·exact zS N (by omega)
  ·exact PS.p5 I Z.out (by omega)
 have a1 : (wd c.L i == [65,82,82,65,89]) = false := by simpa [jy] using A
 by_cases R : wd c.L i = vI
 ·have a2 : (wd c.L i == [82,69,67,79,82,68]) = true := by rw [R]; decide
  have x : yh c.L i = qw c.L i := by unfold yh; rw [if_neg A,if_pos R]
  go_wp2_with fail; go_at_call 151; refine (hR _ i X).mono ?_; rintro e w2 (⟨x2,g,l,b⟩ | ⟨⟨B,C,D,E,F⟩,j2,v2,g,rfl,⟨H,rfl,f⟩,b,I,J⟩)
  ·obtain ⟨q,rfl,-⟩ := id l; exact ⟨rfl,Steps.err (x.trans g) l z b⟩
  have n : yh c.L i = _ := x.trans g; simp only [T.kind,T.name,T.num,T.at',T.subs] at f ⊢; obtain ⟨K,M,rfl⟩ := f.form; obtain ⟨b2,o,f⟩ := f.nm
  try simp at o
  have N := zb z b; have O := b.size
  try simp at O
  have j := RB.k m b; have r := j.lt; obtain ⟨_,_,_,_,_,_,_,_,_,_,_⟩ := id j; go_wp2; refine zn Tryz.results122 rfl (RB.five ?_) rfl ?_
  ·exact j
  refine Steps.ok (a := (T.mk B C D E F)) n ⟨_,rfl,?_⟩ ?_ ?_ (by omega)
  ·exact (LR.p5 f (by omega)).wd
  ·exact zS N (by omega)
  ·exact PS.p5 I Z.out (by omega)
 have a2 : (wd c.L i == [82,69,67,79,82,68]) = false := by simpa [vI] using R
 by_cases Y : wd c.L i = vN
 ·have a3 : (wd c.L i == [80,79,73,78,84,69,82]) = true := by rw [Y]; decide
  have y : yh c.L i = fC c.L i := by unfold yh; rw [if_neg A,if_neg R,if_pos Y]
  go_wp2_with fail; go_at_call 152; refine (nE c _ i d X).mono ?_; rintro e w2 (⟨x2,g,l,b⟩ | ⟨⟨B,C,D,E,F⟩,j2,v2,g,rfl,⟨H,rfl,f⟩,b,I,J⟩)
  ·obtain ⟨q,rfl,-⟩ := id l; exact ⟨rfl,Steps.err (y.trans g) l z b⟩
  have n : yh c.L i = _ := y.trans g; simp only [T.kind,T.name,T.num,T.at',T.subs] at f ⊢; obtain ⟨K,M,rfl⟩ := f.form; obtain ⟨b2,o,f⟩ := f.nm
  try simp at o
  have N := zb z b; have O := b.size
  try simp at O
  have j := RB.k m b; have r := j.lt; obtain ⟨_,_,_,_,_,_,_,_,_,_,_⟩ := id j; go_wp2; refine zn Tryz.results122 rfl (RB.five ?_) rfl ?_
  ·exact j
  refine Steps.ok (a := (T.mk B C D E F)) n ⟨_,rfl,?_⟩ ?_ ?_ (by omega)
  ·exact (LR.p5 f (by omega)).wd
  ·exact zS N (by omega)
  ·exact PS.p5 I Z.out (by omega)
 have a3 : (wd c.L i == [80,79,73,78,84,69,82]) = false := by simpa [vN] using Y
 have U : yh c.L i = .error (xw c.L i) := by unfold yh; rw [if_neg A,if_neg R,if_neg Y]
 go_wp2_with fail; go_at_call 30; refine (jR c _ i d X).mono ?_; rintro e w9 ⟨V,a4⟩; have HT := V; obtain ⟨q,rfl,-⟩ := V
 exact ⟨rfl,Steps.err U HT z (zJ a4 _)⟩
theorem tf (c : PC) (w : World) (i d : Nat) (A : P T) (h : PS c w i d) (hA : ActsOK c d A) :
  Calls Tryz.prog 68 #[.pointer (some ⟨c.pb,0,none⟩)] w (Steps c w i d (fun w' t v => TR w' w.heap.size w'.heap.size t v) (((yP c.L yZ).bind (fun b => if b = true then A else P.ret (.mk 1 [] 0 (pos c.L i) []))) i)) := by
 have K := za h; have J := za h.low; have hb := h.lt; clear h
 go_enter Tryz.func68,Tryz.ntmps68
 go_wp2_with fail; go_at_call 113; refine (xB c _ i d yZ _ rfl (by decide) (PS.alloc K.out _)).mono ?_; rintro e M ⟨N,y,s,rfl,m,z,O⟩; have n : ((yP c.L yZ).bind (fun b => if b = true then A else P.ret (.mk 1 [] 0 (pos c.L i) []))) i = _ := P.bind_ok s; have B := zb ga m; have R := m.size
 try simp at R
 have l : RB M w.heap.size := RB.k (RB.new' (by simp)) m; have C := l.lt; obtain ⟨_,_,_,_,_,_,_,_,_,_,_⟩ := id l; cases N
 ·have hj := fU s
  go_wp2_with fail; go_at_call 59; refine (yA c _ y d 1 z).mono ?_; rintro e x ⟨rfl,f⟩; have D : PS c x y d := PS.kept z f; have E : w.grownBy x (some c.pb) := zb B (zJ f (some c.pb)); have F := f.size
  try simp at F
  have g : RB x w.heap.size := RB.kept l f (by simp); have o := g.lt; obtain ⟨_,_,_,_,_,_,_,_,_,_,_⟩ := id g; go_wp2; refine zn Tryz.results68 rfl (RB.five ?_) rfl ?_
  ·exact g
  refine Steps.ok (a := (T.mk 1 [] 0 (pos c.L i) [])) n ⟨_,rfl,?_⟩ ?_ ?_ (by omega)
  ·exact LR.nil _ _
  ·exact zS E (by omega)
  ·exact PS.p5 D J.out (by omega)
 ·go_wp2_with fail
  go_at_call 125; refine (hA _ y z).mono ?_; rintro e x (⟨x2,r,u,f⟩ | ⟨⟨U,V,X,Y,Z⟩,j2,v2,r,rfl,⟨a0,rfl,j⟩,f,D,a1⟩)
  ·obtain ⟨q,rfl,-⟩ := id u; exact ⟨rfl,Steps.err (n.trans r) u B f⟩
  have H : ((yP c.L yZ).bind (fun b => if b = true then A else P.ret (.mk 1 [] 0 (pos c.L i) []))) i = _ := n.trans r; simp only [T.kind,T.name,T.num,T.at',T.subs] at j ⊢; obtain ⟨a2,a3,rfl⟩ := j.form; obtain ⟨b2,I,j⟩ := j.nm
  try simp at I
  have E := zb B f; have F := f.size
  try simp at F
  have g := RB.k l f; have o := g.lt; obtain ⟨_,_,_,_,_,_,_,_,_,_,_⟩ := id g; go_wp2; refine zn Tryz.results68 rfl (RB.five ?_) rfl ?_
  ·exact g
  refine Steps.ok (a := (T.mk U V X Y Z)) H ⟨_,rfl,?_⟩ ?_ ?_ (by omega)
  ·exact (LR.p5 j (by omega)).wd
  ·exact zS E (by omega)
  ·exact PS.p5 D J.out (by omega)
theorem iW (c : PC) (w : World) (i d : Nat) (h : PS c w i d) (hM : PartOK c d 28 (gH c.L)) :
  Calls Tryz.prog 16 #[.pointer (some ⟨c.pb,0,none⟩)] w (Steps c w i d (fun w' t v => TR w' w.heap.size w'.heap.size t v) (vr c.L i)) := by
 have Z := za h; have HL := za h.low; have hb := h.lt; clear h
 go_enter Tryz.func16,Tryz.ntmps16
 go_wp2_with fail; go_at_call 28; refine (hM _ i (PS.alloc Z.out _)).mono ?_; rintro e E (⟨x1,j,n,f⟩ | ⟨⟨N,O,R,U,C⟩,o,v1,j,rfl,⟨a0,rfl,g⟩,f,V,a1⟩)
 ·obtain ⟨q,rfl,-⟩ := id n; exact ⟨rfl,Steps.err (P.bind_err j) n ga f⟩
 have r : vr c.L i = _ := P.bind_ok j; simp only [T.kind,T.name,T.num,T.at',T.subs] at g ⊢; obtain ⟨s,u,rfl⟩ := g.form; obtain ⟨b1,F,g⟩ := g.nm
 try simp at F
 have G1 := zb ga f; have s1 := f.size
 try simp at s1
 have l : RB E w.heap.size := RB.k (RB.new' (by simp)) f; have H := l.lt; obtain ⟨_,_,_,_,_,_,_,_,_,_,_⟩ := id l; go_wp2_with fail; go_at_call 29; refine (ud c _ o d (PS.alloc V _)).mono ?_; rintro e x ⟨rfl,b⟩; have X : PS c x o d := PS.kept (PS.alloc V _) b; have Y : w.grownBy x (some c.pb) := zb (zf G1 _) (zJ b (some c.pb)); have s2 := b.size
 try simp at s2
 have m : RB x w.heap.size := RB.kept (RB.alloc l _) b (by simp); have y : NB x E.heap.size (.int .i64 N) (.string ⟨O.toArray⟩) (.int .i64 R) (.int .i64 U) (.slice s C.length u) := NB.kept (NB.new' (by simp)) b (by simp); have I : LR x (In b1 E.heap.size) C (.slice s C.length u) := LR.grown (LR.alloc g _) b; have J := m.lt; have K := y.lt; obtain ⟨_,_,_,_,_,_,_,_,_,_,_⟩ := id m; obtain ⟨_,_,_,_,_,_⟩ := id y
 by_cases D : wd c.L o = []
 ·have hx : (wd c.L o).isEmpty = true := by rw [D]; rfl
  have z : vr c.L i = _ := r.trans (if_pos D); go_wp2; refine zn Tryz.results16 rfl (RB.five ?_) rfl ?_
  ·exact m
  refine Steps.ok (a := (T.mk N O R U C)) z ⟨_,rfl,?_⟩ ?_ ?_ (by omega)
  ·exact (LR.p5 I (by omega)).wd
  ·exact zS Y (by omega)
  ·exact PS.p5 X HL.out (by omega)
 have hx := jM D; have A : vr c.L i = _ := r.trans (if_neg D); go_wp2_with fail; go_at_call 30; refine (jR c _ o d X).mono ?_; rintro e w9 ⟨B,M⟩; have HT := B; obtain ⟨q,rfl,-⟩ := B
 exact ⟨rfl,Steps.err A HT Y (zJ M _)⟩
end Go.Proofs.YtfjgelmllcnokaaGreatDoor
