/- An act,by its first word; acts,level by level. -/
import Derived.Test.YtnmkffjklpfflaaGreatDoorG31
import Derived.Test.YtnmkffjklpfflaaGreatDoorG32
namespace Go.Proofs.YtnmkffjklpfflaaGreatDoor
open Go.RowKit
set_option maxHeartbeats 2000000
set_option maxRecDepth 100000
theorem ly (c : PC) (w : World) (i d : Nat) (E A : P T) (h : PS c w i d) (hE : ExprOK c d E) (hA : ActsOK c d A) (hC : PartOK c d 213 (xU c.L E A)) :
  Calls Tryz.prog 207 #[pq c.pb] w (Steps c w i d (fun w' t v => TR w' w.heap.size w'.heap.size t v) (xu c.L E A i)) := by
 have HP := zc h; have O := zc h.low; have hb := h.lt; clear h; have hD : Part c d (fun _ => True) 218 #[pq c.pb] (zQ c.L E) := ⟨fun w i h _ => vH c w i d E h hE,fun _ _ _ _ => trivial,enters_of Tryz.func218 (by kernel_rfl) rfl⟩
 go_enter Tryz.func207,Tryz.ntmps207
 go_wp2_with fail; go_at_call 68; refine (xh c _ i d (PS.alloc HP.out _)).mono ?_; rintro e w1 ⟨rfl,Q⟩; have R : PS c w1 i d := PS.kept (PS.alloc HP.out _) Q; have s : w.grownBy w1 (some c.pb) := za ga (zv Q (some c.pb)); have s1 := Q.size
 try simp at s1
 have r : RB w1 w.heap.size := RB.kept (RB.new' (by simp)) Q (by simp); have a8 := r.lt; obtain ⟨_,_,_,_,_,_,_,_,_,_,_⟩ := id r
 by_cases M : wd c.L i = kIF
 ·have a9 : (wd c.L i == [73,70]) = true := by rw [M]; decide
  have V : xu c.L E A i = xU c.L E A i := by unfold xu; rw [if_pos M]
  go_wp2_with fail; go_at_call 213; refine (hC _ i R).mono ?_; rintro e X (⟨Y,g,l,b⟩ | ⟨⟨u,x,z,B,C⟩,Z,v2,g,rfl,⟨D,rfl,f⟩,b,F,G⟩)
  ·obtain ⟨q,rfl,-⟩ := id l; exact ⟨rfl,Steps.err (V.trans g) l s b⟩
  have m : xu c.L E A i = _ := V.trans g; simp only [T.kind,T.name,T.num,T.at',T.subs] at f ⊢; obtain ⟨H,I,rfl⟩ := f.form; obtain ⟨b2,n,f⟩ := f.nm
  try simp at n
  have J := za s b; have K := b.size
  try simp at K
  have j := RB.k r b; have o := j.lt; obtain ⟨_,_,_,_,_,_,_,_,_,_,_⟩ := id j; go_wp2; refine zn Tryz.results207 rfl (RB.five ?_) rfl ?_
  ·exact j
  refine Steps.ok (a := (T.mk u x z B C)) m ⟨_,rfl,?_⟩ ?_ ?_ (by omega)
  ·exact (LR.p5 f (by omega)).wd
  ·exact zC J (by omega)
  ·exact PS.p5 F O.out (by omega)
 have a9 : (wd c.L i == [73,70]) = false := by simpa [kIF] using M
 by_cases N : wd c.L i = qq
 ·have b0 : (wd c.L i == [87,72,73,76,69]) = true := by rw [N]; decide
  have a0 : xu c.L E A i = tQ c.L E A i := by unfold xu; rw [if_neg M,if_pos N]
  go_wp2_with fail; go_at_call 214; refine (gR c _ i d E A R hE hA).mono ?_; rintro e X (⟨Y,g,l,b⟩ | ⟨⟨u,x,z,B,C⟩,Z,v2,g,rfl,⟨D,rfl,f⟩,b,F,G⟩)
  ·obtain ⟨q,rfl,-⟩ := id l; exact ⟨rfl,Steps.err (a0.trans g) l s b⟩
  have m : xu c.L E A i = _ := a0.trans g; simp only [T.kind,T.name,T.num,T.at',T.subs] at f ⊢; obtain ⟨H,I,rfl⟩ := f.form; obtain ⟨b2,n,f⟩ := f.nm
  try simp at n
  have J := za s b; have K := b.size
  try simp at K
  have j := RB.k r b; have o := j.lt; obtain ⟨_,_,_,_,_,_,_,_,_,_,_⟩ := id j; go_wp2; refine zn Tryz.results207 rfl (RB.five ?_) rfl ?_
  ·exact j
  refine Steps.ok (a := (T.mk u x z B C)) m ⟨_,rfl,?_⟩ ?_ ?_ (by omega)
  ·exact (LR.p5 f (by omega)).wd
  ·exact zC J (by omega)
  ·exact PS.p5 F O.out (by omega)
 have b0 : (wd c.L i == [87,72,73,76,69]) = false := by simpa [qq] using N
 by_cases U : wd c.L i = jU
 ·have b1 : (wd c.L i == [82,69,80,69,65,84]) = true := by rw [U]; decide
  have a1 : xu c.L E A i = gs c.L E A i := by unfold xu; rw [if_neg M,if_neg N,if_pos U]
  go_wp2_with fail; go_at_call 215; refine (qW c _ i d E A R hE hA).mono ?_; rintro e X (⟨Y,g,l,b⟩ | ⟨⟨u,x,z,B,C⟩,Z,v2,g,rfl,⟨D,rfl,f⟩,b,F,G⟩)
  ·obtain ⟨q,rfl,-⟩ := id l; exact ⟨rfl,Steps.err (a1.trans g) l s b⟩
  have m : xu c.L E A i = _ := a1.trans g; simp only [T.kind,T.name,T.num,T.at',T.subs] at f ⊢; obtain ⟨H,I,rfl⟩ := f.form; obtain ⟨b2,n,f⟩ := f.nm
  try simp at n
  have J := za s b; have K := b.size
  try simp at K
  have j := RB.k r b; have o := j.lt; obtain ⟨_,_,_,_,_,_,_,_,_,_,_⟩ := id j; go_wp2; refine zn Tryz.results207 rfl (RB.five ?_) rfl ?_
  ·exact j
  refine Steps.ok (a := (T.mk u x z B C)) m ⟨_,rfl,?_⟩ ?_ ?_ (by omega)
  ·exact (LR.p5 f (by omega)).wd
  ·exact zC J (by omega)
  ·exact PS.p5 F O.out (by omega)
 have b1 : (wd c.L i == [82,69,80,69,65,84]) = false := by simpa [jU] using U
 by_cases h4 : wd c.L i = jN
 ·have b3 : (wd c.L i == [82,69,84,85,82,78]) = true := by rw [h4]; decide
  have a2 : xu c.L E A i = uV c.L E i := by unfold xu; rw [if_neg M,if_neg N,if_neg U,if_pos h4]
  go_wp2_with fail; go_at_call 216; refine (gX c _ i d E R hE).mono ?_; rintro e X (⟨Y,g,l,b⟩ | ⟨⟨u,x,z,B,C⟩,Z,v2,g,rfl,⟨D,rfl,f⟩,b,F,G⟩)
  ·obtain ⟨q,rfl,-⟩ := id l; exact ⟨rfl,Steps.err (a2.trans g) l s b⟩
  have m : xu c.L E A i = _ := a2.trans g; simp only [T.kind,T.name,T.num,T.at',T.subs] at f ⊢; obtain ⟨H,I,rfl⟩ := f.form; obtain ⟨b2,n,f⟩ := f.nm
  try simp at n
  have J := za s b; have K := b.size
  try simp at K
  have j := RB.k r b; have o := j.lt; obtain ⟨_,_,_,_,_,_,_,_,_,_,_⟩ := id j; go_wp2; refine zn Tryz.results207 rfl (RB.five ?_) rfl ?_
  ·exact j
  refine Steps.ok (a := (T.mk u x z B C)) m ⟨_,rfl,?_⟩ ?_ ?_ (by omega)
  ·exact (LR.p5 f (by omega)).wd
  ·exact zC J (by omega)
  ·exact PS.p5 F O.out (by omega)
 have b3 : (wd c.L i == [82,69,84,85,82,78]) = false := by simpa [jN] using h4
 by_cases h5 : wd c.L i = lm
 ·have b4 : (wd c.L i == [78,69,87]) = true := by rw [h5]; decide
  have a3 : xu c.L E A i = xk c.L 20 lm (zQ c.L E) i := by unfold xu; rw [if_neg M,if_neg N,if_neg U,if_neg h4,if_pos h5]
  go_wp2_with fail; go_at_call 217; refine (vJ c _ i d 20 lm 218 (zQ c.L E) R h5 (by decide) hD).mono ?_; rintro e X (⟨Y,g,l,b⟩ | ⟨⟨u,x,z,B,C⟩,Z,v2,g,rfl,⟨D,rfl,f⟩,b,F,G⟩)
  ·obtain ⟨q,rfl,-⟩ := id l; exact ⟨rfl,Steps.err (a3.trans g) l s b⟩
  have m : xu c.L E A i = _ := a3.trans g; simp only [T.kind,T.name,T.num,T.at',T.subs] at f ⊢; obtain ⟨H,I,rfl⟩ := f.form; obtain ⟨b2,n,f⟩ := f.nm
  try simp at n
  have J := za s b; have K := b.size
  try simp at K
  have j := RB.k r b; have o := j.lt; obtain ⟨_,_,_,_,_,_,_,_,_,_,_⟩ := id j; go_wp2; refine zn Tryz.results207 rfl (RB.five ?_) rfl ?_
  ·exact j
  refine Steps.ok (a := (T.mk u x z B C)) m ⟨_,rfl,?_⟩ ?_ ?_ (by omega)
  ·exact (LR.p5 f (by omega)).wd
  ·exact zC J (by omega)
  ·exact PS.p5 F O.out (by omega)
 have b4 : (wd c.L i == [78,69,87]) = false := by simpa [lm] using h5
 by_cases h6 : wd c.L i = lj
 ·have b5 : (wd c.L i == [79,85,84]) = true := by rw [h6]; decide
  have a4 : xu c.L E A i = xk c.L 21 lj E i := by unfold xu; rw [if_neg M,if_neg N,if_neg U,if_neg h4,if_neg h5,if_pos h6]
  go_wp2_with fail; go_at_call 217; refine (vJ c _ i d 21 lj 145 E R h6 (by decide) hE).mono ?_; rintro e X (⟨Y,g,l,b⟩ | ⟨⟨u,x,z,B,C⟩,Z,v2,g,rfl,⟨D,rfl,f⟩,b,F,G⟩)
  ·obtain ⟨q,rfl,-⟩ := id l; exact ⟨rfl,Steps.err (a4.trans g) l s b⟩
  have m : xu c.L E A i = _ := a4.trans g; simp only [T.kind,T.name,T.num,T.at',T.subs] at f ⊢; obtain ⟨H,I,rfl⟩ := f.form; obtain ⟨b2,n,f⟩ := f.nm
  try simp at n
  have J := za s b; have K := b.size
  try simp at K
  have j := RB.k r b; have o := j.lt; obtain ⟨_,_,_,_,_,_,_,_,_,_,_⟩ := id j; go_wp2; refine zn Tryz.results207 rfl (RB.five ?_) rfl ?_
  ·exact j
  refine Steps.ok (a := (T.mk u x z B C)) m ⟨_,rfl,?_⟩ ?_ ?_ (by omega)
  ·exact (LR.p5 f (by omega)).wd
  ·exact zC J (by omega)
  ·exact PS.p5 F O.out (by omega)
 have b5 : (wd c.L i == [79,85,84]) = false := by simpa [lj] using h6
 by_cases h7 : wd c.L i = mF
 ·have b6 : (wd c.L i == [71,69,84]) = true := by rw [h7]; decide
  have a5 : xu c.L E A i = xk c.L 22 mF (zQ c.L E) i := by unfold xu; rw [if_neg M,if_neg N,if_neg U,if_neg h4,if_neg h5,if_neg h6,if_pos h7]
  go_wp2_with fail; go_at_call 217; refine (vJ c _ i d 22 mF 218 (zQ c.L E) R h7 (by decide) hD).mono ?_; rintro e X (⟨Y,g,l,b⟩ | ⟨⟨u,x,z,B,C⟩,Z,v2,g,rfl,⟨D,rfl,f⟩,b,F,G⟩)
  ·obtain ⟨q,rfl,-⟩ := id l; exact ⟨rfl,Steps.err (a5.trans g) l s b⟩
  have m : xu c.L E A i = _ := a5.trans g; simp only [T.kind,T.name,T.num,T.at',T.subs] at f ⊢; obtain ⟨H,I,rfl⟩ := f.form; obtain ⟨b2,n,f⟩ := f.nm
  try simp at n
  have J := za s b; have K := b.size
  try simp at K
  have j := RB.k r b; have o := j.lt; obtain ⟨_,_,_,_,_,_,_,_,_,_,_⟩ := id j; go_wp2; refine zn Tryz.results207 rfl (RB.five ?_) rfl ?_
  ·exact j
  refine Steps.ok (a := (T.mk u x z B C)) m ⟨_,rfl,?_⟩ ?_ ?_ (by omega)
  ·exact (LR.p5 f (by omega)).wd
  ·exact zC J (by omega)
  ·exact PS.p5 F O.out (by omega)
 have b6 : (wd c.L i == [71,69,84]) = false := by simpa [mF] using h7
 by_cases h8 : wd c.L i = jO
 ·have b7 : (wd c.L i == [65,83,83,69,82,84]) = true := by rw [h8]; decide
  have a6 : xu c.L E A i = xk c.L 23 jO E i := by unfold xu; rw [if_neg M,if_neg N,if_neg U,if_neg h4,if_neg h5,if_neg h6,if_neg h7,if_pos h8]
  go_wp2_with fail; go_at_call 217; refine (vJ c _ i d 23 jO 145 E R h8 (by decide) hE).mono ?_; rintro e X (⟨Y,g,l,b⟩ | ⟨⟨u,x,z,B,C⟩,Z,v2,g,rfl,⟨D,rfl,f⟩,b,F,G⟩)
  ·obtain ⟨q,rfl,-⟩ := id l; exact ⟨rfl,Steps.err (a6.trans g) l s b⟩
  have m : xu c.L E A i = _ := a6.trans g; simp only [T.kind,T.name,T.num,T.at',T.subs] at f ⊢; obtain ⟨H,I,rfl⟩ := f.form; obtain ⟨b2,n,f⟩ := f.nm
  try simp at n
  have J := za s b; have K := b.size
  try simp at K
  have j := RB.k r b; have o := j.lt; obtain ⟨_,_,_,_,_,_,_,_,_,_,_⟩ := id j; go_wp2; refine zn Tryz.results207 rfl (RB.five ?_) rfl ?_
  ·exact j
  refine Steps.ok (a := (T.mk u x z B C)) m ⟨_,rfl,?_⟩ ?_ ?_ (by omega)
  ·exact (LR.p5 f (by omega)).wd
  ·exact zC J (by omega)
  ·exact PS.p5 F O.out (by omega)
 have b7 : (wd c.L i == [65,83,83,69,82,84]) = false := by simpa [jO] using h8
 have a7 : xu c.L E A i = vu c.L E i := by unfold xu; rw [if_neg M,if_neg N,if_neg U,if_neg h4,if_neg h5,if_neg h6,if_neg h7,if_neg h8]
 go_wp2_with fail; go_at_call 219; refine (jp c _ i d E R hE).mono ?_; rintro e X (⟨Y,g,l,b⟩ | ⟨⟨u,x,z,B,C⟩,Z,v2,g,rfl,⟨D,rfl,f⟩,b,F,G⟩)
 ·obtain ⟨q,rfl,-⟩ := id l; exact ⟨rfl,Steps.err (a7.trans g) l s b⟩
 have m : xu c.L E A i = _ := a7.trans g; simp only [T.kind,T.name,T.num,T.at',T.subs] at f ⊢; obtain ⟨H,I,rfl⟩ := f.form; obtain ⟨b2,n,f⟩ := f.nm
 try simp at n
 have J := za s b; have K := b.size
 try simp at K
 have j := RB.k r b; have o := j.lt; obtain ⟨_,_,_,_,_,_,_,_,_,_,_⟩ := id j; go_wp2; refine zn Tryz.results207 rfl (RB.five ?_) rfl ?_
 ·exact j
 refine Steps.ok (a := (T.mk u x z B C)) m ⟨_,rfl,?_⟩ ?_ ?_ (by omega)
 ·exact (LR.p5 f (by omega)).wd
 ·exact zC J (by omega)
 ·exact PS.p5 F O.out (by omega)
set_option maxHeartbeats 4000000
def fF (L : List Tok) (A : P T) (i : Nat) (l : List T) : P T := (yr L rZ).bind fun b => if b = true then A.bind fun a => (zB L kh).bind fun _ => P.ret (.mk 16 [] 1 (pos L i) (l ++ [a])) else (zB L kh).bind fun _ => P.ret (.mk 16 [] 0 (pos L i) l)
theorem mL {L : List Tok} {E A : P T} {f j : Nat} {acc : List T} (h : yr L qh j = .ok (false,j)) (hf : 0 < f) : yA L E A f acc j = .ok (acc,j) := by
 obtain ⟨b,rfl⟩ : ∃ b,f = b + 1 := ⟨f - 1,by omega⟩
 exact P.bind_ok h
theorem oD {L : List Tok} {E A : P T} {f j j2 : Nat} {acc : List T} (h : yr L qh j = .ok (true,j2)) (hf : 0 < f) : yA L E A f acc j = ((jf L E A).bind fun l => yA L E A (f - 1) (acc ++ l)) j2 := by
 obtain ⟨b,rfl⟩ : ∃ b,f = b + 1 := ⟨f - 1,by omega⟩
 exact P.bind_ok h
structure CH (c : PC) (w : World) (i d : Nat) (r : Except (Int × Int) (List T × Nat)) (q : Nat -> List T -> P (List T)) (v : Value) (wr : World) (acc : List T) (j f lo : Nat) : Prop where
 lr : LR wr (In lo wr.heap.size) acc v
 ps : PS c wr j d
 gb : w.grownBy wr (some c.pb)
 same : r = q f acc j
 fuel : c.L.length <= f + j
 len : acc.length + 2 * f <= 2 * c.L.length + 2
 le : i <= j
 low2 : lo <= wr.heap.size
theorem rl (c : PC) (w : World) (i d : Nat) (E A : P T) (h : PS c w i d) (hE : ExprOK c d E) (hA : ActsOK c d A) :
    Calls Tryz.prog 213 #[pq c.pb] w (Steps c w i d (fun w' t v => TR w' w.heap.size w'.heap.size t v) (xU c.L E A i)) := by
  have HP := zc h; have HL := zc h.low; have hb := h.lt; have n7 := h.good.few; clear h
  go_enter Tryz.func213,Tryz.ntmps213
  go_wp2_with fail; go_at_call 87; refine (zL c _ i d 16 (PS.alloc HP.out _)).mono ?_; rintro e w1 ⟨rfl,d0⟩; have p1 : PS c w1 i d := PS.kept (PS.alloc HP.out _) d0; have G1 : w.grownBy w1 (some c.pb) := za ga (zv d0 (some c.pb)); have s1 := d0.size
  try simp at s1
  have f8 : RB w1 w.heap.size := RB.kept (RB.new' (by simp)) d0 (by simp); have l4 := f8.lt; obtain ⟨_,_,_,_,_,_,_,_,_,_,_⟩ := id f8; go_wp2_with fail; go_at_call 88; refine (zy c _ i d kIF _ rfl (by decide) (PS.alloc p1 _)).mono ?_; rintro e w2 (⟨x2,f9,h3,b4⟩ | ⟨a2,j2,v2,f9,rfl,-,b4,p2,o4⟩)
  · obtain ⟨q,rfl,-⟩ := id h3; exact ⟨rfl,Steps.err (P.bind_err f9) h3 (zh G1 _) b4⟩
  have h4 : xU c.L E A i = _ := P.bind_ok f9; have G2 : w.grownBy w2 (some c.pb) := za (zh G1 _) b4; have s2 := b4.size
  try simp at s2
  have g0 : RB w2 w.heap.size := RB.k (RB.alloc f8 _) b4; have g1 : NB w2 w1.heap.size (.int .i64 16) (.string ⟨#[]⟩) (.int .i64 0) (.int .i64 (pos c.L i)) (.slice none 0 0) := NB.k (NB.new' (by simp)) b4; have l5 := g0.lt; have l6 := g1.lt; obtain ⟨_,_,_,_,_,_,_,_,_,_,_⟩ := id g0; obtain ⟨_,_,_,_,_,_⟩ := id g1; go_wp2_with fail; go_at_call 222; refine (qN c _ j2 d E A p2 hE hA).mono ?_; rintro e w3 (⟨x3,g2,h5,b5⟩ | ⟨a3,j3,v3,g2,rfl,⟨d1,n8⟩,b5,p3,o5⟩)
  · obtain ⟨q,rfl,-⟩ := id h5; exact ⟨rfl,Steps.err (h4.trans (P.bind_err g2)) h5 G2 b5⟩
  have l7 := h4.trans (P.bind_ok g2); obtain ⟨l8,l9,rfl⟩ := d1.form; obtain ⟨b3,m0,d1⟩ := d1.nm
  try simp at m0
  have G3 := za G2 b5; have s3 := b5.size
  try simp at s3
  have g3 := RB.k g0 b5; have g4 := NB.k g1 b5; have m1 := g3.lt; have m2 := g4.lt; obtain ⟨_,_,_,_,_,_,_,_,_,_,_⟩ := id g3; obtain ⟨_,_,_,_,_,_⟩ := id g4; have h6 : xU c.L E A i = ((yA c.L E A c.L.length a3).bind (fF c.L A i)) j3 := l7; go_wp2_with fail
  go_loopw [] (fun wr => ∃ (m : List T) (v : Value) (j f lo : Nat),NB wr w1.heap.size (.int .i64 16) (.string ⟨#[]⟩) (.int .i64 0) (.int .i64 (pos c.L i)) v /\ RB wr w.heap.size /\ w1.heap.size + 1 <= lo /\ Hid (CH c w i d (yA c.L E A c.L.length a3 j3) (yA c.L E A) v wr m j f lo)) (fun wr => c.L.length - atOf wr c.pb)
  case atStart =>
    refine ⟨a3,.slice l8 a3.length l9,j3,c.L.length,b3,by exact (NB.s4 g4 _),by exact (RB.put g3 _ _ _),by omega,CH.mk ?_ (PS.put p3 HL.out (by omega) _ _) (zs G3 (by omega) _ _) rfl (by omega) (by omega) (by omega) (by simp; omega)⟩; refine LR.wide (lo := b3) (hi := w3.heap.size) ?_ (Nat.le_refl _) (by simp)
    exact LR.put d1 (by omega) _ _
  case round =>
    obtain ⟨d2,h7⟩ : ∃ x,x = wr := ⟨_,rfl⟩; subst h7; obtain ⟨m,v,d3,f,lo,c2,c3,h8,HS⟩ := hrel; have f2 := HS.out.lr; have h9 := HS.out.ps; have m3 := HS.out.gb; have SM := HS.out.same; have o6 := HS.out.fuel; have n9 := HS.out.len; have o7 := HS.out.le; have o0 := HS.out.low2; have o8 := HS.out.ps.il; obtain ⟨ad,cp,rfl⟩ := f2.form; have m4 := zc h9; clear HS; have k6 := c3.lt; have k7 := c2.lt; obtain ⟨_,_,_,_,_,_,_,_,_,_,_⟩ := id c3; obtain ⟨_,_,_,_,_,_⟩ := id c2; go_wp2_with fail; go_at_call 137; refine (yp c _ d3 d qh _ rfl (by decide) h9).mono ?_; rintro e o9 ⟨m5,p0,M,rfl,N,d4,o1⟩; have g5 := za m3 N; have m6 := N.size
    try simp at m6
    have a4 := RB.k c3 N; have a5 := NB.k c2 N; have f3 := LR.c f2 N; have k8 := a4.lt; have k9 := a5.lt; obtain ⟨_,_,_,_,_,_,_,_,_,_,_⟩ := id a4; obtain ⟨_,_,_,_,_,_⟩ := id a5; cases m5
    · obtain ⟨j0,O⟩ := fD M
      rw [O] at d4; rw [O] at M; have j1 : xU c.L E A i = _ := h6.trans (P.bind_ok (SM.trans (mL M (by omega)))); go_wp2_with fail; go_at_call 137; refine (yp c _ d3 d rZ _ rfl (by decide) d4).mono ?_; rintro e Y ⟨d5,Z,K,rfl,n,d6,j4⟩; have Q : xU c.L E A i = _ := j1.trans (P.bind_ok K); have b6 := za g5 n; have g6 := n.size
      try simp at g6
      have C := RB.k a4 n; have D := NB.k a5 n; have R := LR.c f3 n; have d7 := C.lt; have d8 := D.lt; obtain ⟨_,_,_,_,_,_,_,_,_,_,_⟩ := id C; obtain ⟨_,_,_,_,_,_⟩ := id D; cases d5
      · go_wp2_with fail
        go_at_call 88; refine (zy c _ Z d kh _ rfl (by decide) d6).mono ?_; rintro e o (⟨m7,G,U,g⟩ | ⟨p4,g7,g8,G,rfl,-,g,b7,j5⟩)
        · obtain ⟨q,rfl,-⟩ := id U; exact ⟨rfl,Steps.err (Q.trans (P.bind_err G)) U b6 g⟩
        have a6 := Q.trans (P.bind_ok G); have c4 := za b6 g; have c5 := g.size
        try simp at c5
        have r := RB.k C g; have s := NB.k D g; have a7 := LR.c R g; have a8 := r.lt; have a9 := s.lt; obtain ⟨_,_,_,_,_,_,_,_,_,_,_⟩ := id r; obtain ⟨_,_,_,_,_,_⟩ := id s; go_wp2; refine zn Tryz.results213 rfl (RB.five ?_) rfl ?_
        · exact r
        refine Steps.ok (a := (T.mk 16 [] 0 (pos c.L i) m)) a6 ⟨_,rfl,?_⟩ ?_ ?_ (by omega)
        · exact (LR.p5 a7 (by omega)).wd
        · exact zC c4 (by omega)
        · exact PS.p5 b7 HL.out (by omega)
      · go_wp2_with fail
        go_region_law (first
          | (go_simp
             go_at_call 149; refine (hA _ Z (PS.drew (PS.put d6 HL.out (by omega) _ _))).mono ?_; rintro e o (⟨m7,G,U,g⟩ | ⟨⟨b8,b9,c0,c1,a0⟩,g7,g8,G,rfl,⟨o2,rfl,F⟩,g,b7,j5⟩)
             focus
               have HT := U; obtain ⟨q,rfl,-⟩ := U
               exact ⟨rfl,Steps.err (Q.trans (P.bind_err G)) HT (zf (zs b6 (by omega) _ _)) g⟩
             have a6 := Q.trans (P.bind_ok G); simp only [T.kind,T.name,T.num,T.at',T.subs] at F ⊢; obtain ⟨H,I,rfl⟩ := F.form; obtain ⟨j6,j7,F⟩ := F.nm
             try simp at j7
             have c4 : w.grownBy o (some c.pb) := za (zf (zs b6 (by omega) _ _)) g; have c5 := g.size
             try simp at c5
             have r : RB o w.heap.size := RB.k (RB.drew (RB.put C _ _ _)) g; have s : NB o w1.heap.size (.int .i64 16) (.string ⟨#[]⟩) (.int .i64 1) (.int .i64 (pos c.L i)) (.slice ad m.length cp) := NB.k (NB.drew (NB.s2 D _)) g; have a7 : LR o (In lo d2.heap.size) m (.slice ad m.length cp) := LR.c (LR.drew (LR.put R (by omega) _ _)) g; have a8 := r.lt; have a9 := s.lt; obtain ⟨_,_,_,_,_,_,_,_,_,_,_⟩ := id r
             obtain ⟨_,_,_,_,_,_⟩ := id s)
          | (have z := a7.rows
             refine vh (v := .slice ad m.length cp) rfl _ _ rfl (In lo (o.heap.size + 2)) rfl rfl (LR.alloc a7 _) (LR.build1 o (cs := #[.int .i64 b8,.string ⟨b9.toArray⟩,.int .i64 c0,.int .i64 c1,.slice H a0.length I]) (t := (T.mk b8 b9 c0 c1 a0)) (sv := .slice H a0.length I) F rfl rfl (by omega))
               (fun k hk e => by have h1 := z k e; have h2 : j6 <= k := hk.1; omega) (fun k hk => ⟨hk.1,by have h : k < d2.heap.size := hk.2; omega⟩) (fun k hk => ⟨by have h : j6 <= k := hk.1; omega,by have h : k < o.heap.size + 1 := hk.2; omega⟩) ⟨by simp; omega,by simp⟩ (by simp; try omega) ?_
             intro m8 V f4 X; obtain ⟨b0,b1,d9⟩ := f4.form; rw [List.length_append,List.length_singleton] at d9; have d9 : m8 = .slice b0 (m.length + 1) b1 := d9; subst d9; have m9 := X.size
             try simp at m9
             have c6 : RB V w.heap.size := RB.kept (RB.alloc r _) X (fun e => by have := z _ e.symm; omega); have c7 : NB V w1.heap.size (.int .i64 16) (.string ⟨#[]⟩) (.int .i64 1) (.int .i64 (pos c.L i)) (.slice ad m.length cp) := NB.kept (NB.alloc s _) X (fun e => by have := z _ e.symm; omega); have n0 : PS c V g7 d := PS.own (PS.alloc b7 _) HL.out X (fun b hb => by have := z b hb; omega); have j8 : w.grownBy V (some c.pb) := xi (zh c4 _) X (fun b hb => by have := z b hb; omega); have l0 := c6.lt; have l1 := c7.lt; obtain ⟨_,_,_,_,_,_,_,_,_,_,_⟩ := id c6
             obtain ⟨_,_,_,_,_,_⟩ := id c7))
        all_goals
          have j9 : LR V (In lo V.heap.size) (m ++ [(T.mk b8 b9 c0 c1 a0)]) (.slice b0 (m.length + 1) b1) := f4.bounded.mono (fun k hk => ⟨hk.1.1,hk.2⟩); go_wp2_with fail; go_at_call 88; refine (zy c _ g7 d kh _ rfl (by decide) (PS.put n0 HL.out (by omega) _ _)).mono ?_; rintro e f0 (⟨p6,c8,f5,J⟩ | ⟨p7,p8,p9,c8,rfl,-,J,n1,o3⟩)
          · obtain ⟨q,rfl,-⟩ := id f5; exact ⟨rfl,Steps.err (a6.trans (P.bind_err c8)) f5 (zs j8 (by omega) _ _) J⟩
          have k0 := a6.trans (P.bind_ok c8); have n2 : w.grownBy f0 (some c.pb) := za (zs j8 (by omega) _ _) J; have n3 := J.size
          try simp at n3
          have c9 : RB f0 w.heap.size := RB.k (RB.put c6 _ _ _) J; have f6 : NB f0 w1.heap.size (.int .i64 16) (.string ⟨#[]⟩) (.int .i64 1) (.int .i64 (pos c.L i)) (.slice b0 (m.length + 1) b1) := NB.k (NB.s4 c7 _) J; have g9 : LR f0 (In lo V.heap.size) ((m ++ [(T.mk b8 b9 c0 c1 a0)])) (.slice b0 (m.length + 1) b1) := LR.c (LR.put j9 (by omega) _ _) J; have l2 := c9.lt; have l3 := f6.lt; obtain ⟨_,_,_,_,_,_,_,_,_,_,_⟩ := id c9; obtain ⟨_,_,_,_,_,_⟩ := id f6; go_wp2; refine zn Tryz.results213 rfl (RB.five ?_) rfl ?_
          · exact c9
          refine Steps.ok (a := (T.mk 16 [] 1 (pos c.L i) (m ++ [(T.mk b8 b9 c0 c1 a0)]))) k0 ⟨_,rfl,?_⟩ ?_ ?_ (by omega)
          · refine LR.wide (lo := lo) (hi := V.heap.size) (ts := (m ++ [(T.mk b8 b9 c0 c1 a0)])) ?_ (by omega) (by first | omega | (simp <;> omega))
            exact LR.p5 g9 (by omega)
          · exact zC n2 (by omega)
          · exact PS.p5 n1 HL.out (by omega)
    · obtain ⟨j0,O⟩ := dK M
      rw [O] at d4; have h0 := SM.trans (oD M (by omega)); rw [O] at h0
      have k1 : xU c.L E A i = ((jf c.L E A).bind fun l => (yA c.L E A (f - 1) (m ++ l)).bind (fF c.L A i)) (d3 + 1) := by
        rw [h6,P.bind,h0,<- P.bind,uo]
      go_wp2_with fail
      go_region_law (first
        | (go_simp
           go_at_call 222; refine (qN c _ (d3 + 1) d E A (PS.drew d4) hE hA).mono ?_; rintro e Y (⟨q0,K,f7,n⟩ | ⟨a1,Z,q1,K,rfl,⟨b2,n4⟩,n,d6,j4⟩)
           focus
             have HT := f7; obtain ⟨q,rfl,-⟩ := f7
             exact ⟨rfl,Steps.err (k1.trans (P.bind_err K)) HT (zf g5) n⟩
           have Q : xU c.L E A i = _ := k1.trans (P.bind_ok K); obtain ⟨k2,k3,rfl⟩ := b2.form; obtain ⟨d5,k4,b2⟩ := b2.nm
           try simp at k4
           have b6 : w.grownBy Y (some c.pb) := za (zf g5) n; have g6 := n.size
           try simp at g6
           have C : RB Y w.heap.size := RB.k (RB.drew a4) n; have D : NB Y w1.heap.size (.int .i64 16) (.string ⟨#[]⟩) (.int .i64 0) (.int .i64 (pos c.L i)) (.slice ad m.length cp) := NB.k (NB.drew a5) n; have R : LR Y (In lo d2.heap.size) m (.slice ad m.length cp) := LR.c (LR.drew f3) n; have d7 := C.lt; have d8 := D.lt; obtain ⟨_,_,_,_,_,_,_,_,_,_,_⟩ := id C
           obtain ⟨_,_,_,_,_,_⟩ := id D)
        | (have B := R.rows
           refine xf (v := .slice ad m.length cp) (u := .slice k2 a1.length k3) rfl _ _ rfl (In lo (Y.heap.size + 1)) rfl rfl R b2
             (fun k hk e => by have h1 := B k e; have h2 : d5 <= k := hk.1; omega) (fun k hk => ⟨hk.1,by have h : k < d2.heap.size := hk.2; omega⟩) (fun k hk => ⟨by have h : d5 <= k := hk.1; omega,by have h : k < Y.heap.size := hk.2; omega⟩) ⟨by first | omega | (simp <;> omega),by first | omega | (simp <;> omega)⟩ (by first | omega | (simp <;> omega)) ?_
           intro g8 o F g; obtain ⟨H,I,f1⟩ := F.form; rw [List.length_append] at f1; have f1 : g8 = .slice H (m.length + a1.length) I := f1; subst f1; have c5 := g.size
           try simp at c5
           have r : RB o w.heap.size := RB.kept C g (fun e => by have := B _ e.symm; omega); have s : NB o w1.heap.size (.int .i64 16) (.string ⟨#[]⟩) (.int .i64 0) (.int .i64 (pos c.L i)) (.slice ad m.length cp) := NB.kept D g (fun e => by have := B _ e.symm; omega); have b7 : PS c o Z d := PS.own d6 HL.out g (fun b hb => by have := B b hb; omega); have c4 : w.grownBy o (some c.pb) := xi b6 g (fun b hb => by have := B b hb; omega); have a8 := r.lt; have a9 := s.lt; obtain ⟨_,_,_,_,_,_,_,_,_,_,_⟩ := id r
           obtain ⟨_,_,_,_,_,_⟩ := id s))
      all_goals
        have k5 : LR o (In lo o.heap.size) (m ++ a1) (.slice H (m.length + a1.length) I) := F.bounded.mono (fun k hk => ⟨hk.1.1,hk.2⟩); have n5 : yA c.L E A c.L.length a3 j3 = _ := h0.trans (P.bind_ok K); go_wp2; refine ⟨⟨(m ++ a1),.slice H (m.length + a1.length) I,Z,f - 1,lo,by exact (NB.s4 s _),by exact (RB.put r _ _ _),h8,CH.mk ?_ ((PS.put b7 HL.out (by omega) _ _)) ((zs c4 (by omega) _ _)) n5 (by omega) (by first | omega | (simp only [List.length_append]; omega)) (by omega) (by first | omega | (simp <;> omega))⟩,?_⟩
        · refine LR.wide (lo := lo) (hi := o.heap.size) ?_ (Nat.le_refl _) (by simp)
          exact LR.put k5 (by omega) _ _
        · have n6 : PS c _ Z d := ((PS.put b7 HL.out (by omega) _ _) : PS c (o.setCell ⟨w1.heap.size,4,none⟩ (.slice H (m.length + a1.length) I)) Z d)
          rw [n6.atOf,m4.out.atOf]
          omega
theorem ni (c : PC) : ∀ (n d : Nat),d + n = 20 -> ActsOK c d (uG c.L n)
 | 0,d,h => by
  have hd : ¬ d < 20 := by omega
  refine fun w i hp => dL c w i d (xX c.L) hp (fun w i hp => ?_)
  have hx := xN c w i d 181 (xX c.L) hp (by omega) (fun h => absurd h hd) (enters_of Tryz.func181 (by kernel_rfl) rfl); rw [if_neg hd] at hx
  exact hx
 | n + 1,d,h => by
  have hd : d < 20 := by omega
  have hE := (nB c n (d + 1) (by omega)).1; have hA := ni c n (d + 1) (by omega)
  have hC : PartOK c (d + 1) 213 (xU c.L (uj c.L n) (uG c.L n)) := fun w i hp => rl c w i (d + 1) _ _ hp hE hA
  have hL : PartOK c (d + 1) 181 (uG c.L (n + 1)) := fun w i hp => sJ c w i (d + 1) (uj c.L n) (uG c.L n) hp (fun w i hp _ => ly c w i (d + 1) _ _ hp hE hA hC)
  refine fun w i hp => dL c w i d (uG c.L (n + 1)) hp (fun w i hp => ?_)
  have hx := xN c w i d 181 (uG c.L (n + 1)) hp (by omega) (fun _ => hL) (enters_of Tryz.func181 (by kernel_rfl) rfl); rw [if_pos hd] at hx
  exact hx
end Go.Proofs.YtnmkffjklpfflaaGreatDoor
