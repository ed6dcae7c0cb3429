/- An act,by its first word; acts,level by level. -/
import Derived.Test.YtnmkffjklpfflaaGreatDoorG29
import Derived.Test.YtnmkffjklpfflaaGreatDoorG30
namespace Go.Proofs.YtnmkffjklpfflaaGreatDoor
open Go.RowKit
set_option maxHeartbeats 2000000
set_option maxRecDepth 100000
theorem nc (c : PC) (w : World) (i d : Nat) (E A : P T) (h : PS c w i d) (hE : ExprOK c d E) (hA : ActsOK c d A) (hC : PartOK c d 213 (yV c.L E A)) :
  Calls Tryz.prog 207 #[.pointer (some ⟨c.pb,0,none⟩)] w (Steps c w i d (fun w' t v => TR w' w.heap.size w'.heap.size t v) (xp c.L E A i)) := by
 have HP := ze h; have R := ze h.low; have hb := h.lt; clear h; have hD : Part c d (fun _ => True) 218 #[.pointer (some ⟨c.pb,0,none⟩)] (zU c.L E) := ⟨fun w i h _ => vf c w i d E h hE,fun _ _ _ _ => trivial,enters_of Tryz.func218 (by kernel_rfl) rfl⟩
 go_enter Tryz.func207,Tryz.ntmps207
 go_wp2_with fail; go_at_call 68; refine (yR c _ i d (PS.alloc HP.out _)).mono ?_; rintro e w1 ⟨rfl,U⟩; have V : PS c w1 i d := PS.kept (PS.alloc HP.out _) U; have B : w.grownBy w1 (some c.pb) := za (zf (zc w (some c.pb)) _) (zv U (some c.pb)); have s1 := U.size
 try simp at s1
 have z : RB w1 w.heap.size := RB.kept (RB.new' (by simp)) U (by simp); have a8 := z.lt; obtain ⟨_,_,_,_,_,_,_,_,_,_,_⟩ := id z
 by_cases O : wd c.L i = kIF
 ·have a9 : (wd c.L i == [73,70]) = true := by rw [O]; decide
  have Y : xp c.L E A i = yV c.L E A i := by unfold xp; rw [if_pos O]
  go_wp2_with fail; go_at_call 213; refine (hC _ i V).mono ?_; rintro e l (⟨Z,j,m,f⟩ | ⟨⟨C,D,F,G,n⟩,j2,v2,j,rfl,⟨H,rfl,g⟩,f,I,J⟩)
  ·obtain ⟨q,rfl,-⟩ := id m; exact ⟨rfl,Steps.err (Y.trans j) m B f⟩
  have o : xp c.L E A i = _ := Y.trans j; simp only [T.kind,T.name,T.num,T.at',T.subs] at g ⊢; obtain ⟨r,s,rfl⟩ := g.form; obtain ⟨K,u,g⟩ : ∃ b,b = _ /\ LR l (In b l.heap.size) n (.slice r n.length s) := ⟨_,rfl,g⟩
  try simp at u
  have M : w.grownBy l (some c.pb) := za B f; have N := f.size
  try simp at N
  have k : RB l w.heap.size := RB.keep z f (by omega); have x := k.lt; obtain ⟨_,_,_,_,_,_,_,_,_,_,_⟩ := id k; go_wp2; refine zj Tryz.results207 rfl (RB.five ?_) rfl ?_
  ·exact k
  refine Steps.ok (a := (T.mk C D F G n)) o ⟨_,rfl,?_⟩ ?_ ?_ (by omega)
  ·refine LR.wide (lo := K) (hi := l.heap.size) (ts := n) ?_ (by omega) (by first | omega | (simp <;> omega))
   exact LR.p5 g (by omega)
  ·exact zy M (by omega)
  ·exact PS.p5 I R.out (by omega)
 have a9 : (wd c.L i == [73,70]) = false := by simpa [kIF] using O
 by_cases Q : wd c.L i = gc
 ·have b0 : (wd c.L i == [87,72,73,76,69]) = true := by rw [Q]; decide
  have a0 : xp c.L E A i = uP c.L E A i := by unfold xp; rw [if_neg O,if_pos Q]
  go_wp2_with fail; go_at_call 214; refine (gm c _ i d E A V hE hA).mono ?_; rintro e l (⟨Z,j,m,f⟩ | ⟨⟨C,D,F,G,n⟩,j2,v2,j,rfl,⟨H,rfl,g⟩,f,I,J⟩)
  ·obtain ⟨q,rfl,-⟩ := id m; exact ⟨rfl,Steps.err (a0.trans j) m B f⟩
  have o : xp c.L E A i = _ := a0.trans j; simp only [T.kind,T.name,T.num,T.at',T.subs] at g ⊢; obtain ⟨r,s,rfl⟩ := g.form; obtain ⟨K,u,g⟩ : ∃ b,b = _ /\ LR l (In b l.heap.size) n (.slice r n.length s) := ⟨_,rfl,g⟩
  try simp at u
  have M : w.grownBy l (some c.pb) := za B f; have N := f.size
  try simp at N
  have k : RB l w.heap.size := RB.keep z f (by omega); have x := k.lt; obtain ⟨_,_,_,_,_,_,_,_,_,_,_⟩ := id k; go_wp2; refine zj Tryz.results207 rfl (RB.five ?_) rfl ?_
  ·exact k
  refine Steps.ok (a := (T.mk C D F G n)) o ⟨_,rfl,?_⟩ ?_ ?_ (by omega)
  ·refine LR.wide (lo := K) (hi := l.heap.size) (ts := n) ?_ (by omega) (by first | omega | (simp <;> omega))
   exact LR.p5 g (by omega)
  ·exact zy M (by omega)
  ·exact PS.p5 I R.out (by omega)
 have b0 : (wd c.L i == [87,72,73,76,69]) = false := by simpa [gc] using Q
 by_cases X : wd c.L i = jX
 ·have b1 : (wd c.L i == [82,69,80,69,65,84]) = true := by rw [X]; decide
  have a1 : xp c.L E A i = uq c.L E A i := by unfold xp; rw [if_neg O,if_neg Q,if_pos X]
  go_wp2_with fail; go_at_call 215; refine (qk c _ i d E A V hE hA).mono ?_; rintro e l (⟨Z,j,m,f⟩ | ⟨⟨C,D,F,G,n⟩,j2,v2,j,rfl,⟨H,rfl,g⟩,f,I,J⟩)
  ·obtain ⟨q,rfl,-⟩ := id m; exact ⟨rfl,Steps.err (a1.trans j) m B f⟩
  have o : xp c.L E A i = _ := a1.trans j; simp only [T.kind,T.name,T.num,T.at',T.subs] at g ⊢; obtain ⟨r,s,rfl⟩ := g.form; obtain ⟨K,u,g⟩ : ∃ b,b = _ /\ LR l (In b l.heap.size) n (.slice r n.length s) := ⟨_,rfl,g⟩
  try simp at u
  have M : w.grownBy l (some c.pb) := za B f; have N := f.size
  try simp at N
  have k : RB l w.heap.size := RB.keep z f (by omega); have x := k.lt; obtain ⟨_,_,_,_,_,_,_,_,_,_,_⟩ := id k; go_wp2; refine zj Tryz.results207 rfl (RB.five ?_) rfl ?_
  ·exact k
  refine Steps.ok (a := (T.mk C D F G n)) o ⟨_,rfl,?_⟩ ?_ ?_ (by omega)
  ·refine LR.wide (lo := K) (hi := l.heap.size) (ts := n) ?_ (by omega) (by first | omega | (simp <;> omega))
   exact LR.p5 g (by omega)
  ·exact zy M (by omega)
  ·exact PS.p5 I R.out (by omega)
 have b1 : (wd c.L i == [82,69,80,69,65,84]) = false := by simpa [jX] using X
 by_cases h4 : wd c.L i = kb
 ·have b3 : (wd c.L i == [82,69,84,85,82,78]) = true := by rw [h4]; decide
  have a2 : xp c.L E A i = uo c.L E i := by unfold xp; rw [if_neg O,if_neg Q,if_neg X,if_pos h4]
  go_wp2_with fail; go_at_call 216; refine (qT c _ i d E V hE).mono ?_; rintro e l (⟨Z,j,m,f⟩ | ⟨⟨C,D,F,G,n⟩,j2,v2,j,rfl,⟨H,rfl,g⟩,f,I,J⟩)
  ·obtain ⟨q,rfl,-⟩ := id m; exact ⟨rfl,Steps.err (a2.trans j) m B f⟩
  have o : xp c.L E A i = _ := a2.trans j; simp only [T.kind,T.name,T.num,T.at',T.subs] at g ⊢; obtain ⟨r,s,rfl⟩ := g.form; obtain ⟨K,u,g⟩ : ∃ b,b = _ /\ LR l (In b l.heap.size) n (.slice r n.length s) := ⟨_,rfl,g⟩
  try simp at u
  have M : w.grownBy l (some c.pb) := za B f; have N := f.size
  try simp at N
  have k : RB l w.heap.size := RB.keep z f (by omega); have x := k.lt; obtain ⟨_,_,_,_,_,_,_,_,_,_,_⟩ := id k; go_wp2; refine zj Tryz.results207 rfl (RB.five ?_) rfl ?_
  ·exact k
  refine Steps.ok (a := (T.mk C D F G n)) o ⟨_,rfl,?_⟩ ?_ ?_ (by omega)
  ·refine LR.wide (lo := K) (hi := l.heap.size) (ts := n) ?_ (by omega) (by first | omega | (simp <;> omega))
   exact LR.p5 g (by omega)
  ·exact zy M (by omega)
  ·exact PS.p5 I R.out (by omega)
 have b3 : (wd c.L i == [82,69,84,85,82,78]) = false := by simpa [kb] using h4
 by_cases h5 : wd c.L i = pe
 ·have b4 : (wd c.L i == [78,69,87]) = true := by rw [h5]; decide
  have a3 : xp c.L E A i = yK c.L 20 pe (zU c.L E) i := by unfold xp; rw [if_neg O,if_neg Q,if_neg X,if_neg h4,if_pos h5]
  go_wp2_with fail; go_at_call 217; refine (vo c _ i d 20 pe 218 (zU c.L E) V h5 (by decide) hD).mono ?_; rintro e l (⟨Z,j,m,f⟩ | ⟨⟨C,D,F,G,n⟩,j2,v2,j,rfl,⟨H,rfl,g⟩,f,I,J⟩)
  ·obtain ⟨q,rfl,-⟩ := id m; exact ⟨rfl,Steps.err (a3.trans j) m B f⟩
  have o : xp c.L E A i = _ := a3.trans j; simp only [T.kind,T.name,T.num,T.at',T.subs] at g ⊢; obtain ⟨r,s,rfl⟩ := g.form; obtain ⟨K,u,g⟩ : ∃ b,b = _ /\ LR l (In b l.heap.size) n (.slice r n.length s) := ⟨_,rfl,g⟩
  try simp at u
  have M : w.grownBy l (some c.pb) := za B f; have N := f.size
  try simp at N
  have k : RB l w.heap.size := RB.keep z f (by omega); have x := k.lt; obtain ⟨_,_,_,_,_,_,_,_,_,_,_⟩ := id k; go_wp2; refine zj Tryz.results207 rfl (RB.five ?_) rfl ?_
  ·exact k
  refine Steps.ok (a := (T.mk C D F G n)) o ⟨_,rfl,?_⟩ ?_ ?_ (by omega)
  ·refine LR.wide (lo := K) (hi := l.heap.size) (ts := n) ?_ (by omega) (by first | omega | (simp <;> omega))
   exact LR.p5 g (by omega)
  ·exact zy M (by omega)
  ·exact PS.p5 I R.out (by omega)
 have b4 : (wd c.L i == [78,69,87]) = false := by simpa [pe] using h5
 by_cases h6 : wd c.L i = pH
 ·have b5 : (wd c.L i == [79,85,84]) = true := by rw [h6]; decide
  have a4 : xp c.L E A i = yK c.L 21 pH E i := by unfold xp; rw [if_neg O,if_neg Q,if_neg X,if_neg h4,if_neg h5,if_pos h6]
  go_wp2_with fail; go_at_call 217; refine (vo c _ i d 21 pH 145 E V h6 (by decide) hE).mono ?_; rintro e l (⟨Z,j,m,f⟩ | ⟨⟨C,D,F,G,n⟩,j2,v2,j,rfl,⟨H,rfl,g⟩,f,I,J⟩)
  ·obtain ⟨q,rfl,-⟩ := id m; exact ⟨rfl,Steps.err (a4.trans j) m B f⟩
  have o : xp c.L E A i = _ := a4.trans j; simp only [T.kind,T.name,T.num,T.at',T.subs] at g ⊢; obtain ⟨r,s,rfl⟩ := g.form; obtain ⟨K,u,g⟩ : ∃ b,b = _ /\ LR l (In b l.heap.size) n (.slice r n.length s) := ⟨_,rfl,g⟩
  try simp at u
  have M : w.grownBy l (some c.pb) := za B f; have N := f.size
  try simp at N
  have k : RB l w.heap.size := RB.keep z f (by omega); have x := k.lt; obtain ⟨_,_,_,_,_,_,_,_,_,_,_⟩ := id k; go_wp2; refine zj Tryz.results207 rfl (RB.five ?_) rfl ?_
  ·exact k
  refine Steps.ok (a := (T.mk C D F G n)) o ⟨_,rfl,?_⟩ ?_ ?_ (by omega)
  ·refine LR.wide (lo := K) (hi := l.heap.size) (ts := n) ?_ (by omega) (by first | omega | (simp <;> omega))
   exact LR.p5 g (by omega)
  ·exact zy M (by omega)
  ·exact PS.p5 I R.out (by omega)
 have b5 : (wd c.L i == [79,85,84]) = false := by simpa [pH] using h6
 by_cases h7 : wd c.L i = pO
 ·have b6 : (wd c.L i == [71,69,84]) = true := by rw [h7]; decide
  have a5 : xp c.L E A i = yK c.L 22 pO (zU c.L E) i := by unfold xp; rw [if_neg O,if_neg Q,if_neg X,if_neg h4,if_neg h5,if_neg h6,if_pos h7]
  go_wp2_with fail; go_at_call 217; refine (vo c _ i d 22 pO 218 (zU c.L E) V h7 (by decide) hD).mono ?_; rintro e l (⟨Z,j,m,f⟩ | ⟨⟨C,D,F,G,n⟩,j2,v2,j,rfl,⟨H,rfl,g⟩,f,I,J⟩)
  ·obtain ⟨q,rfl,-⟩ := id m; exact ⟨rfl,Steps.err (a5.trans j) m B f⟩
  have o : xp c.L E A i = _ := a5.trans j; simp only [T.kind,T.name,T.num,T.at',T.subs] at g ⊢; obtain ⟨r,s,rfl⟩ := g.form; obtain ⟨K,u,g⟩ : ∃ b,b = _ /\ LR l (In b l.heap.size) n (.slice r n.length s) := ⟨_,rfl,g⟩
  try simp at u
  have M : w.grownBy l (some c.pb) := za B f; have N := f.size
  try simp at N
  have k : RB l w.heap.size := RB.keep z f (by omega); have x := k.lt; obtain ⟨_,_,_,_,_,_,_,_,_,_,_⟩ := id k; go_wp2; refine zj Tryz.results207 rfl (RB.five ?_) rfl ?_
  ·exact k
  refine Steps.ok (a := (T.mk C D F G n)) o ⟨_,rfl,?_⟩ ?_ ?_ (by omega)
  ·refine LR.wide (lo := K) (hi := l.heap.size) (ts := n) ?_ (by omega) (by first | omega | (simp <;> omega))
   exact LR.p5 g (by omega)
  ·exact zy M (by omega)
  ·exact PS.p5 I R.out (by omega)
 have b6 : (wd c.L i == [71,69,84]) = false := by simpa [pO] using h7
 by_cases h8 : wd c.L i = jo
 ·have b7 : (wd c.L i == [65,83,83,69,82,84]) = true := by rw [h8]; decide
  have a6 : xp c.L E A i = yK c.L 23 jo E i := by unfold xp; rw [if_neg O,if_neg Q,if_neg X,if_neg h4,if_neg h5,if_neg h6,if_neg h7,if_pos h8]
  go_wp2_with fail; go_at_call 217; refine (vo c _ i d 23 jo 145 E V h8 (by decide) hE).mono ?_; rintro e l (⟨Z,j,m,f⟩ | ⟨⟨C,D,F,G,n⟩,j2,v2,j,rfl,⟨H,rfl,g⟩,f,I,J⟩)
  ·obtain ⟨q,rfl,-⟩ := id m; exact ⟨rfl,Steps.err (a6.trans j) m B f⟩
  have o : xp c.L E A i = _ := a6.trans j; simp only [T.kind,T.name,T.num,T.at',T.subs] at g ⊢; obtain ⟨r,s,rfl⟩ := g.form; obtain ⟨K,u,g⟩ : ∃ b,b = _ /\ LR l (In b l.heap.size) n (.slice r n.length s) := ⟨_,rfl,g⟩
  try simp at u
  have M : w.grownBy l (some c.pb) := za B f; have N := f.size
  try simp at N
  have k : RB l w.heap.size := RB.keep z f (by omega); have x := k.lt; obtain ⟨_,_,_,_,_,_,_,_,_,_,_⟩ := id k; go_wp2; refine zj Tryz.results207 rfl (RB.five ?_) rfl ?_
  ·exact k
  refine Steps.ok (a := (T.mk C D F G n)) o ⟨_,rfl,?_⟩ ?_ ?_ (by omega)
  ·refine LR.wide (lo := K) (hi := l.heap.size) (ts := n) ?_ (by omega) (by first | omega | (simp <;> omega))
   exact LR.p5 g (by omega)
  ·exact zy M (by omega)
  ·exact PS.p5 I R.out (by omega)
 have b7 : (wd c.L i == [65,83,83,69,82,84]) = false := by simpa [jo] using h8
 have a7 : xp c.L E A i = xX c.L E i := by unfold xp; rw [if_neg O,if_neg Q,if_neg X,if_neg h4,if_neg h5,if_neg h6,if_neg h7,if_neg h8]
 go_wp2_with fail; go_at_call 219; refine (uL c _ i d E V hE).mono ?_; rintro e l (⟨Z,j,m,f⟩ | ⟨⟨C,D,F,G,n⟩,j2,v2,j,rfl,⟨H,rfl,g⟩,f,I,J⟩)
 ·obtain ⟨q,rfl,-⟩ := id m; exact ⟨rfl,Steps.err (a7.trans j) m B f⟩
 have o : xp c.L E A i = _ := a7.trans j; simp only [T.kind,T.name,T.num,T.at',T.subs] at g ⊢; obtain ⟨r,s,rfl⟩ := g.form; obtain ⟨K,u,g⟩ : ∃ b,b = _ /\ LR l (In b l.heap.size) n (.slice r n.length s) := ⟨_,rfl,g⟩
 try simp at u
 have M : w.grownBy l (some c.pb) := za B f; have N := f.size
 try simp at N
 have k : RB l w.heap.size := RB.keep z f (by omega); have x := k.lt; obtain ⟨_,_,_,_,_,_,_,_,_,_,_⟩ := id k; go_wp2; refine zj Tryz.results207 rfl (RB.five ?_) rfl ?_
 ·exact k
 refine Steps.ok (a := (T.mk C D F G n)) o ⟨_,rfl,?_⟩ ?_ ?_ (by omega)
 ·refine LR.wide (lo := K) (hi := l.heap.size) (ts := n) ?_ (by omega) (by first | omega | (simp <;> omega))
  exact LR.p5 g (by omega)
 ·exact zy M (by omega)
 ·exact PS.p5 I R.out (by omega)
set_option maxHeartbeats 4000000
def qN (L : List Tok) (A : P T) (i : Nat) (l : List T) : P T := (yu L tY).bind fun b => if b = true then A.bind fun a => (zD L jB).bind fun _ => P.ret (.mk 16 [] 1 (pos L i) (l ++ [a])) else (zD L jB).bind fun _ => P.ret (.mk 16 [] 0 (pos L i) l)
theorem rW {L : List Tok} {E A : P T} {f j : Nat} {acc : List T} (h : yu L kA j = .ok (false,j)) (hf : 0 < f) : yG L E A f acc j = .ok (acc,j) := by
 obtain ⟨b,rfl⟩ : ∃ b,f = b + 1 := ⟨f - 1,by omega⟩
 exact P.bind_ok h
theorem ry {L : List Tok} {E A : P T} {f j j2 : Nat} {acc : List T} (h : yu L kA j = .ok (true,j2)) (hf : 0 < f) : yG L E A f acc j = ((vN L E A).bind fun l => yG L E A (f - 1) (acc ++ l)) j2 := by
 obtain ⟨b,rfl⟩ : ∃ b,f = b + 1 := ⟨f - 1,by omega⟩
 exact P.bind_ok h
structure CH (c : PC) (w : World) (i d : Nat) (r : Except (Int × Int) (List T × Nat)) (q : Nat -> List T -> P (List T)) (v : Value) (wr : World) (acc : List T) (j f lo : Nat) : Prop where
 lr : LR wr (In lo wr.heap.size) acc v
 ps : PS c wr j d
 gb : w.grownBy wr (some c.pb)
 same : r = q f acc j
 fuel : c.L.length <= f + j
 len : acc.length + 2 * f <= 2 * c.L.length + 2
 le : i <= j
 low2 : lo <= wr.heap.size
theorem tn (c : PC) (w : World) (i d : Nat) (E A : P T) (h : PS c w i d) (hE : ExprOK c d E) (hA : ActsOK c d A) :
    Calls Tryz.prog 213 #[.pointer (some ⟨c.pb,0,none⟩)] w (Steps c w i d (fun w' t v => TR w' w.heap.size w'.heap.size t v) (yV c.L E A i)) := by
  have HP := ze h; have HL := ze h.low; have hb := h.lt; have n8 := h.good.few; clear h
  go_enter Tryz.func213,Tryz.ntmps213
  go_wp2_with fail; go_at_call 87; refine (zI c _ i d 16 (PS.alloc HP.out _)).mono ?_; rintro e w1 ⟨rfl,d1⟩; have p1 : PS c w1 i d := PS.kept (PS.alloc HP.out _) d1; have G1 : w.grownBy w1 (some c.pb) := za (zf (zc w (some c.pb)) _) (zv d1 (some c.pb)); have s1 := d1.size
  try simp at s1
  have g1 : RB w1 w.heap.size := RB.kept (RB.new' (by simp)) d1 (by simp); have l7 := g1.lt; obtain ⟨_,_,_,_,_,_,_,_,_,_,_⟩ := id g1; go_wp2_with fail; go_at_call 88; refine (zx c _ i d kIF _ rfl (by decide) (PS.alloc p1 _)).mono ?_; rintro e w2 (⟨x2,g2,h6,b5⟩ | ⟨a2,j2,v2,g2,rfl,-,b5,p2,o5⟩)
  · obtain ⟨q,rfl,-⟩ := id h6; exact ⟨rfl,Steps.err (P.bind_err g2) h6 (zf G1 _) b5⟩
  have h7 : yV c.L E A i = _ := P.bind_ok g2; have G2 : w.grownBy w2 (some c.pb) := za (zf G1 _) b5; have s2 := b5.size
  try simp at s2
  have g3 : RB w2 w.heap.size := RB.keep (RB.alloc g1 _) b5 (by omega); have g4 : NB w2 w1.heap.size (.int .i64 16) (.string ⟨#[]⟩) (.int .i64 0) (.int .i64 (pos c.L i)) (.slice none 0 0) := NB.keep (NB.new' (by simp)) b5 (by omega); have l8 := g3.lt; have l9 := g4.lt; obtain ⟨_,_,_,_,_,_,_,_,_,_,_⟩ := id g3; obtain ⟨_,_,_,_,_,_⟩ := id g4; go_wp2_with fail; go_at_call 222; refine (kX c _ j2 d E A p2 hE hA).mono ?_; rintro e w3 (⟨x3,g5,h8,b6⟩ | ⟨a3,j3,v3,g5,rfl,⟨d2,n9⟩,b6,p3,o6⟩)
  · obtain ⟨q,rfl,-⟩ := id h8; exact ⟨rfl,Steps.err (h7.trans (P.bind_err g5)) h8 G2 b6⟩
  have m0 : yV c.L E A i = _ := h7.trans (P.bind_ok g5); obtain ⟨h9,j0,rfl⟩ := d2.form; obtain ⟨b3,m1,d2⟩ : ∃ b,b = _ /\ LR w3 (In b w3.heap.size) a3 (.slice h9 a3.length j0) := ⟨_,rfl,d2⟩
  try simp at m1
  have G3 : w.grownBy w3 (some c.pb) := za G2 b6; have s3 := b6.size
  try simp at s3
  have g6 : RB w3 w.heap.size := RB.keep g3 b6 (by omega); have g7 : NB w3 w1.heap.size (.int .i64 16) (.string ⟨#[]⟩) (.int .i64 0) (.int .i64 (pos c.L i)) (.slice none 0 0) := NB.keep g4 b6 (by omega); have m2 := g6.lt; have m3 := g7.lt; obtain ⟨_,_,_,_,_,_,_,_,_,_,_⟩ := id g6; obtain ⟨_,_,_,_,_,_⟩ := id g7; have j1 : yV c.L E A i = ((yG c.L E A c.L.length a3).bind (qN c.L A i)) j3 := m0; go_wp2_with fail
  go_loopw [] (fun wr => ∃ (g : List T) (v : Value) (j f lo : Nat),NB wr w1.heap.size (.int .i64 16) (.string ⟨#[]⟩) (.int .i64 0) (.int .i64 (pos c.L i)) v /\ RB wr w.heap.size /\ w1.heap.size + 1 <= lo /\ Hid (CH c w i d (yG c.L E A c.L.length a3 j3) (yG c.L E A) v wr g j f lo)) (fun wr => c.L.length - atOf wr c.pb)
  case atStart =>
    refine ⟨a3,.slice h9 a3.length j0,j3,c.L.length,b3,by exact (NB.s4 g7 _),by exact (RB.put g6 _ _ _),by omega,CH.mk ?_ (PS.put p3 HL.out (by omega) _ _) (zq G3 (by omega) _ _) rfl (by omega) (by omega) (by omega) (by simp; omega)⟩; refine LR.wide (lo := b3) (hi := w3.heap.size) ?_ (Nat.le_refl _) (by simp)
    exact LR.put d2 (by omega) _ _
  case round =>
    obtain ⟨Q,j4⟩ : ∃ x,x = wr := ⟨_,rfl⟩; subst j4; obtain ⟨g,v,d3,f,lo,c3,c4,j5,HS⟩ := hrel; have f3 := HS.out.lr; have j6 := HS.out.ps; have m4 := HS.out.gb; have SM := HS.out.same; have o7 := HS.out.fuel; have o0 := HS.out.len; have o8 := HS.out.le; have o1 := HS.out.low2; have o9 := HS.out.ps.il; obtain ⟨ad,cp,rfl⟩ := f3.form; have m5 := ze j6; clear HS; have k9 := c4.lt; have l0 := c3.lt; obtain ⟨_,_,_,_,_,_,_,_,_,_,_⟩ := id c4; obtain ⟨_,_,_,_,_,_⟩ := id c3; go_wp2_with fail; go_at_call 137; refine (yb c _ d3 d kA _ rfl (by decide) j6).mono ?_; rintro e d4 ⟨m6,p0,R,rfl,U,d5,o2⟩; have g8 : w.grownBy d4 (some c.pb) := za m4 U; have m7 := U.size
    try simp at m7
    have a5 : RB d4 w.heap.size := RB.keep c4 U (by omega); have a6 : NB d4 w1.heap.size (.int .i64 16) (.string ⟨#[]⟩) (.int .i64 0) (.int .i64 (pos c.L i)) (.slice ad g.length cp) := NB.keep c3 U (by omega); have f4 : LR d4 (In lo Q.heap.size) g (.slice ad g.length cp) := LR.call f3 U (by omega); have l1 := a5.lt; have l2 := a6.lt; obtain ⟨_,_,_,_,_,_,_,_,_,_,_⟩ := id a5; obtain ⟨_,_,_,_,_,_⟩ := id a6; cases m6
    · obtain ⟨j7,V⟩ := gi R
      rw [V] at d5; rw [V] at R; have j8 : yV c.L E A i = _ := j1.trans (P.bind_ok (SM.trans (rW R (by omega)))); go_wp2_with fail; go_at_call 137; refine (yb c _ d3 d tY _ rfl (by decide) d5).mono ?_; rintro e C ⟨d6,a4,M,rfl,o,d7,j9⟩; have X : yV c.L E A i = _ := j8.trans (P.bind_ok M); have b7 : w.grownBy C (some c.pb) := za g8 o; have g9 := o.size
      try simp at g9
      have D : RB C w.heap.size := RB.keep a5 o (by omega); have F : NB C w1.heap.size (.int .i64 16) (.string ⟨#[]⟩) (.int .i64 0) (.int .i64 (pos c.L i)) (.slice ad g.length cp) := NB.keep a6 o (by omega); have Y : LR C (In lo Q.heap.size) g (.slice ad g.length cp) := LR.call f4 o (by omega); have d8 := D.lt; have d9 := F.lt; obtain ⟨_,_,_,_,_,_,_,_,_,_,_⟩ := id D; obtain ⟨_,_,_,_,_,_⟩ := id F; cases d6
      · go_wp2_with fail
        go_at_call 88; refine (zx c _ a4 d jB _ rfl (by decide) d7).mono ?_; rintro e n (⟨m8,J,Z,m⟩ | ⟨p4,h0,h3,J,rfl,-,m,b8,k0⟩)
        · obtain ⟨q,rfl,-⟩ := id Z; exact ⟨rfl,Steps.err (X.trans (P.bind_err J)) Z b7 m⟩
        have a7 : yV c.L E A i = _ := X.trans (P.bind_ok J); have c5 : w.grownBy n (some c.pb) := za b7 m; have c6 := m.size
        try simp at c6
        have r : RB n w.heap.size := RB.keep D m (by omega); have s : NB n w1.heap.size (.int .i64 16) (.string ⟨#[]⟩) (.int .i64 0) (.int .i64 (pos c.L i)) (.slice ad g.length cp) := NB.keep F m (by omega); have a8 : LR n (In lo Q.heap.size) g (.slice ad g.length cp) := LR.call Y m (by omega); have a9 := r.lt; have b0 := s.lt; obtain ⟨_,_,_,_,_,_,_,_,_,_,_⟩ := id r; obtain ⟨_,_,_,_,_,_⟩ := id s; go_wp2; refine zj Tryz.results213 rfl (RB.five ?_) rfl ?_
        · exact r
        refine Steps.ok (a := (T.mk 16 [] 0 (pos c.L i) g)) a7 ⟨_,rfl,?_⟩ ?_ ?_ (by omega)
        · refine LR.wide (lo := lo) (hi := Q.heap.size) (ts := g) ?_ (by omega) (by first | omega | (simp <;> omega))
          exact LR.p5 a8 (by omega)
        · exact zy c5 (by omega)
        · exact PS.p5 b8 HL.out (by omega)
      · go_wp2_with fail
        go_region_law (first
          | (go_simp
             go_at_call 149; refine (hA _ a4 (PS.drew (PS.put d7 HL.out (by omega) _ _))).mono ?_; rintro e n (⟨m8,J,Z,m⟩ | ⟨⟨b9,c0,c1,c2,N⟩,h0,h3,J,rfl,⟨o3,rfl,G⟩,m,b8,k0⟩)
             focus
               have HT := Z; obtain ⟨q,rfl,-⟩ := Z
               exact ⟨rfl,Steps.err (X.trans (P.bind_err J)) HT (zh (zq b7 (by omega) _ _)) m⟩
             have a7 : yV c.L E A i = _ := X.trans (P.bind_ok J); simp only [T.kind,T.name,T.num,T.at',T.subs] at G ⊢; obtain ⟨H,I,rfl⟩ := G.form; obtain ⟨k1,k2,G⟩ : ∃ b,b = _ /\ LR n (In b n.heap.size) N (.slice H N.length I) := ⟨_,rfl,G⟩
             try simp at k2
             have c5 : w.grownBy n (some c.pb) := za (zh (zq b7 (by omega) _ _)) m; have c6 := m.size
             try simp at c6
             have r : RB n w.heap.size := RB.keep (RB.drew (RB.put D _ _ _)) m (by omega); have s : NB n w1.heap.size (.int .i64 16) (.string ⟨#[]⟩) (.int .i64 1) (.int .i64 (pos c.L i)) (.slice ad g.length cp) := NB.keep (NB.drew (NB.s2 F _)) m (by omega); have a8 : LR n (In lo Q.heap.size) g (.slice ad g.length cp) := LR.call (LR.drew (LR.put Y (by omega) _ _)) m (by omega); have a9 := r.lt; have b0 := s.lt; obtain ⟨_,_,_,_,_,_,_,_,_,_,_⟩ := id r
             obtain ⟨_,_,_,_,_,_⟩ := id s)
          | (have z := a8.rows
             refine xL (v := .slice ad g.length cp) rfl _ _ rfl (In lo (n.heap.size + 2)) rfl rfl (LR.alloc a8 _) (LR.build1 n (cs := #[.int .i64 b9,.string ⟨c0.toArray⟩,.int .i64 c1,.int .i64 c2,.slice H N.length I]) (t := (T.mk b9 c0 c1 c2 N)) (sv := .slice H N.length I) G rfl rfl (by omega))
               (fun k hk e => by have h1 := z k e; have h2 : k1 <= k := hk.1; omega) (fun k hk => ⟨hk.1,by have h : k < Q.heap.size := hk.2; omega⟩) (fun k hk => ⟨by have h : k1 <= k := hk.1; omega,by have h : k < n.heap.size + 1 := hk.2; omega⟩) ⟨by simp; omega,by simp⟩ (by simp; try omega) ?_
             intro m9 a0 f5 a1; obtain ⟨b1,b2,f0⟩ := f5.form; rw [List.length_append,List.length_singleton] at f0; have f0 : m9 = .slice b1 (g.length + 1) b2 := f0; subst f0; have n0 := a1.size
             try simp at n0
             have c7 : RB a0 w.heap.size := RB.kept (RB.alloc r _) a1 (fun e => by have := z _ e.symm; omega); have c8 : NB a0 w1.heap.size (.int .i64 16) (.string ⟨#[]⟩) (.int .i64 1) (.int .i64 (pos c.L i)) (.slice ad g.length cp) := NB.kept (NB.alloc s _) a1 (fun e => by have := z _ e.symm; omega); have n1 : PS c a0 h0 d := PS.own (PS.alloc b8 _) HL.out a1 (fun b hb => by have := z b hb; omega); have k3 : w.grownBy a0 (some c.pb) := yX (zf c5 _) a1 (fun b hb => by have := z b hb; omega); have l3 := c7.lt; have l4 := c8.lt; obtain ⟨_,_,_,_,_,_,_,_,_,_,_⟩ := id c7
             obtain ⟨_,_,_,_,_,_⟩ := id c8))
        all_goals
          have k4 : LR a0 (In lo a0.heap.size) (g ++ [(T.mk b9 c0 c1 c2 N)]) (.slice b1 (g.length + 1) b2) := f5.bounded.mono (fun k hk => ⟨hk.1.1,hk.2⟩); go_wp2_with fail; go_at_call 88; refine (zx c _ h0 d jB _ rfl (by decide) (PS.put n1 HL.out (by omega) _ _)).mono ?_; rintro e f1 (⟨p6,c9,f6,K⟩ | ⟨p7,p8,p9,c9,rfl,-,K,n2,o4⟩)
          · obtain ⟨q,rfl,-⟩ := id f6; exact ⟨rfl,Steps.err (a7.trans (P.bind_err c9)) f6 (zq k3 (by omega) _ _) K⟩
          have k5 : yV c.L E A i = _ := a7.trans (P.bind_ok c9); have n3 : w.grownBy f1 (some c.pb) := za (zq k3 (by omega) _ _) K; have n4 := K.size
          try simp at n4
          have d0 : RB f1 w.heap.size := RB.keep (RB.put c7 _ _ _) K (by omega); have f7 : NB f1 w1.heap.size (.int .i64 16) (.string ⟨#[]⟩) (.int .i64 1) (.int .i64 (pos c.L i)) (.slice b1 (g.length + 1) b2) := NB.keep (NB.s4 c8 _) K (by omega); have h4 : LR f1 (In lo a0.heap.size) ((g ++ [(T.mk b9 c0 c1 c2 N)])) (.slice b1 (g.length + 1) b2) := LR.call (LR.put k4 (by omega) _ _) K (by omega); have l5 := d0.lt; have l6 := f7.lt; obtain ⟨_,_,_,_,_,_,_,_,_,_,_⟩ := id d0; obtain ⟨_,_,_,_,_,_⟩ := id f7; go_wp2; refine zj Tryz.results213 rfl (RB.five ?_) rfl ?_
          · exact d0
          refine Steps.ok (a := (T.mk 16 [] 1 (pos c.L i) (g ++ [(T.mk b9 c0 c1 c2 N)]))) k5 ⟨_,rfl,?_⟩ ?_ ?_ (by omega)
          · refine LR.wide (lo := lo) (hi := a0.heap.size) (ts := (g ++ [(T.mk b9 c0 c1 c2 N)])) ?_ (by omega) (by first | omega | (simp <;> omega))
            exact LR.p5 h4 (by omega)
          · exact zy n3 (by omega)
          · exact PS.p5 n2 HL.out (by omega)
    · obtain ⟨j7,V⟩ := db R
      rw [V] at d5; have h5 := SM.trans (ry R (by omega)); rw [V] at h5
      have k6 : yV c.L E A i = ((vN c.L E A).bind fun l => (yG c.L E A (f - 1) (g ++ l)).bind (qN c.L A i)) (d3 + 1) := by
        rw [j1,P.bind,h5,<- P.bind,vM]
      go_wp2_with fail
      go_region_law (first
        | (go_simp
           go_at_call 222; refine (kX c _ (d3 + 1) d E A (PS.drew d5) hE hA).mono ?_; rintro e C (⟨q0,M,f8,o⟩ | ⟨O,a4,q1,M,rfl,⟨b4,n5⟩,o,d7,j9⟩)
           focus
             have HT := f8; obtain ⟨q,rfl,-⟩ := f8
             exact ⟨rfl,Steps.err (k6.trans (P.bind_err M)) HT (zh g8) o⟩
           have X : yV c.L E A i = _ := k6.trans (P.bind_ok M); obtain ⟨f9,g0,rfl⟩ := b4.form; obtain ⟨d6,k7,b4⟩ : ∃ b,b = _ /\ LR C (In b C.heap.size) O (.slice f9 O.length g0) := ⟨_,rfl,b4⟩
           try simp at k7
           have b7 : w.grownBy C (some c.pb) := za (zh g8) o; have g9 := o.size
           try simp at g9
           have D : RB C w.heap.size := RB.keep (RB.drew a5) o (by omega); have F : NB C w1.heap.size (.int .i64 16) (.string ⟨#[]⟩) (.int .i64 0) (.int .i64 (pos c.L i)) (.slice ad g.length cp) := NB.keep (NB.drew a6) o (by omega); have Y : LR C (In lo Q.heap.size) g (.slice ad g.length cp) := LR.call (LR.drew f4) o (by omega); have d8 := D.lt; have d9 := F.lt; obtain ⟨_,_,_,_,_,_,_,_,_,_,_⟩ := id D
           obtain ⟨_,_,_,_,_,_⟩ := id F)
        | (have B := Y.rows
           refine yQ (v := .slice ad g.length cp) (u := .slice f9 O.length g0) rfl _ _ rfl (In lo (C.heap.size + 1)) rfl rfl Y b4
             (fun k hk e => by have h1 := B k e; have h2 : d6 <= k := hk.1; omega) (fun k hk => ⟨hk.1,by have h : k < Q.heap.size := hk.2; omega⟩) (fun k hk => ⟨by have h : d6 <= k := hk.1; omega,by have h : k < C.heap.size := hk.2; omega⟩) ⟨by first | omega | (simp <;> omega),by first | omega | (simp <;> omega)⟩ (by first | omega | (simp <;> omega)) ?_
           intro h3 n G m; obtain ⟨H,I,f2⟩ := G.form; rw [List.length_append] at f2; have f2 : h3 = .slice H (g.length + O.length) I := f2; subst f2; have c6 := m.size
           try simp at c6
           have r : RB n w.heap.size := RB.kept D m (fun e => by have := B _ e.symm; omega); have s : NB n w1.heap.size (.int .i64 16) (.string ⟨#[]⟩) (.int .i64 0) (.int .i64 (pos c.L i)) (.slice ad g.length cp) := NB.kept F m (fun e => by have := B _ e.symm; omega); have b8 : PS c n a4 d := PS.own d7 HL.out m (fun b hb => by have := B b hb; omega); have c5 : w.grownBy n (some c.pb) := yX b7 m (fun b hb => by have := B b hb; omega); have a9 := r.lt; have b0 := s.lt; obtain ⟨_,_,_,_,_,_,_,_,_,_,_⟩ := id r
           obtain ⟨_,_,_,_,_,_⟩ := id s))
      all_goals
        have k8 : LR n (In lo n.heap.size) (g ++ O) (.slice H (g.length + O.length) I) := G.bounded.mono (fun k hk => ⟨hk.1.1,hk.2⟩); have n6 : yG c.L E A c.L.length a3 j3 = _ := h5.trans (P.bind_ok M); go_wp2; refine ⟨⟨(g ++ O),.slice H (g.length + O.length) I,a4,f - 1,lo,by exact (NB.s4 s _),by exact (RB.put r _ _ _),j5,CH.mk ?_ ((PS.put b8 HL.out (by omega) _ _)) ((zq c5 (by omega) _ _)) n6 (by omega) (by first | omega | (simp only [List.length_append]; omega)) (by omega) (by first | omega | (simp <;> omega))⟩,?_⟩
        · refine LR.wide (lo := lo) (hi := n.heap.size) ?_ (Nat.le_refl _) (by simp)
          exact LR.put k8 (by omega) _ _
        · have n7 : PS c _ a4 d := ((PS.put b8 HL.out (by omega) _ _) : PS c (n.setCell ⟨w1.heap.size,4,none⟩ (.slice H (g.length + O.length) I)) a4 d)
          rw [n7.atOf,m5.out.atOf]
          omega
theorem sN (c : PC) : ∀ (n d : Nat),d + n = 20 -> ActsOK c d (ju c.L n)
 | 0,d,h => by
  have hd : ¬ d < 20 := by omega
  refine fun w i hp => fR c w i d (vi c.L) hp (fun w i hp => ?_)
  have hx := xt c w i d 181 (vi c.L) hp (by omega) (fun h => absurd h hd) (enters_of Tryz.func181 (by kernel_rfl) rfl); rw [if_neg hd] at hx
  exact hx
 | n + 1,d,h => by
  have hd : d < 20 := by omega
  have hE := (sY c n (d + 1) (by omega)).1; have hA := sN c n (d + 1) (by omega)
  have hC : PartOK c (d + 1) 213 (yV c.L (uH c.L n) (ju c.L n)) := fun w i hp => tn c w i (d + 1) _ _ hp hE hA
  have hL : PartOK c (d + 1) 181 (ju c.L (n + 1)) := fun w i hp => dj c w i (d + 1) (uH c.L n) (ju c.L n) hp (fun w i hp _ => nc c w i (d + 1) _ _ hp hE hA hC)
  refine fun w i hp => fR c w i d (ju c.L (n + 1)) hp (fun w i hp => ?_)
  have hx := xt c w i d 181 (ju c.L (n + 1)) hp (by omega) (fun _ => hL) (enters_of Tryz.func181 (by kernel_rfl) rfl); rw [if_pos hd] at hx
  exact hx
end Go.Proofs.YtnmkffjklpfflaaGreatDoor
