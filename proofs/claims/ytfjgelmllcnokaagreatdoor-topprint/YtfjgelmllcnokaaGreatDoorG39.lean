/- An act,by its first word; acts,level by level. -/
import Derived.Test.YtfjgelmllcnokaaGreatDoorG37
import Derived.Test.YtfjgelmllcnokaaGreatDoorG04
import Derived.Test.YtfjgelmllcnokaaGreatDoorG38
namespace Go.Proofs.YtfjgelmllcnokaaGreatDoor
open Go.RowKit
set_option maxHeartbeats 2000000
set_option maxRecDepth 100000
theorem zao (c : PC) (w : World) (i d : Nat) (E A : P T) (h : PS c w i d) (hE : ExprOK c d E) (hA : ActsOK c d A) (hC : PartOK c d 179 (jk c.L E A)) :
  Calls Tryz.prog 170 #[.pointer (some ⟨c.pb,0,none⟩)] w (Steps c w i d (fun w' t v => TR w' w.heap.size w'.heap.size t v) (xQ c.L E A i)) := by
 have HP := za h; have O := za h.low; have hb := h.lt; clear h; have hD : Part c d (fun _ => True) 184 #[.pointer (some ⟨c.pb,0,none⟩)] (zQ c.L E) := ⟨fun w i h _ => jV c w i d E h hE,fun _ _ _ _ => trivial,enters_of Tryz.func184 (by kernel_rfl) rfl⟩
 go_enter Tryz.func170,Tryz.ntmps170
 go_wp2_with fail; go_at_call 29; refine (ud c _ i d (PS.alloc HP.out _)).mono ?_; rintro e w1 ⟨rfl,R⟩; have U : PS c w1 i d := PS.kept (PS.alloc HP.out _) R; have s : w.grownBy w1 (some c.pb) := zb ga (zJ R (some c.pb)); have s1 := R.size
 try simp at s1
 have r : RB w1 w.heap.size := RB.kept (RB.new' (by simp)) R (by simp); have a8 := r.lt; obtain ⟨_,_,_,_,_,_,_,_,_,_,_⟩ := id r
 by_cases M : wd c.L i = kIF
 ·have a9 : (wd c.L i == [73,70]) = true := by rw [M]; decide
  have X : xQ c.L E A i = jk c.L E A i := by unfold xQ; rw [if_pos M]
  go_wp2_with fail; go_at_call 179; refine (hC _ i U).mono ?_; rintro e Y (⟨Z,g,l,b⟩ | ⟨⟨u,x,y,z,B⟩,j2,v2,g,rfl,⟨C,rfl,f⟩,b,D,F⟩)
  ·obtain ⟨q,rfl,-⟩ := id l; exact ⟨rfl,Steps.err (X.trans g) l s b⟩
  have m : xQ c.L E A i = _ := X.trans g; simp only [T.kind,T.name,T.num,T.at',T.subs] at f ⊢; obtain ⟨H,I,rfl⟩ := f.form; obtain ⟨b2,n,f⟩ := f.nm
  try simp at n
  have J := zb s b; have K := b.size
  try simp at K
  have j := RB.k r b; have o := j.lt; obtain ⟨_,_,_,_,_,_,_,_,_,_,_⟩ := id j; go_wp2; refine zn Tryz.results170 rfl (RB.five ?_) rfl ?_
  ·exact j
  refine Steps.ok (a := (T.mk u x y z B)) m ⟨_,rfl,?_⟩ ?_ ?_ (by omega)
  ·exact (LR.p5 f (by omega)).wd
  ·exact zS J (by omega)
  ·exact PS.p5 D O.out (by omega)
 have a9 : (wd c.L i == [73,70]) = false := by simpa [kIF] using M
 by_cases N : wd c.L i = ue
 ·have b0 : (wd c.L i == [87,72,73,76,69]) = true := by rw [N]; decide
  have a0 : xQ c.L E A i = nA c.L E A i := by unfold xQ; rw [if_neg M,if_pos N]
  go_wp2_with fail; go_at_call 180; refine (rW c _ i d E A U hE hA).mono ?_; rintro e Y (⟨Z,g,l,b⟩ | ⟨⟨u,x,y,z,B⟩,j2,v2,g,rfl,⟨C,rfl,f⟩,b,D,F⟩)
  ·obtain ⟨q,rfl,-⟩ := id l; exact ⟨rfl,Steps.err (a0.trans g) l s b⟩
  have m : xQ c.L E A i = _ := a0.trans g; simp only [T.kind,T.name,T.num,T.at',T.subs] at f ⊢; obtain ⟨H,I,rfl⟩ := f.form; obtain ⟨b2,n,f⟩ := f.nm
  try simp at n
  have J := zb s b; have K := b.size
  try simp at K
  have j := RB.k r b; have o := j.lt; obtain ⟨_,_,_,_,_,_,_,_,_,_,_⟩ := id j; go_wp2; refine zn Tryz.results170 rfl (RB.five ?_) rfl ?_
  ·exact j
  refine Steps.ok (a := (T.mk u x y z B)) m ⟨_,rfl,?_⟩ ?_ ?_ (by omega)
  ·exact (LR.p5 f (by omega)).wd
  ·exact zS J (by omega)
  ·exact PS.p5 D O.out (by omega)
 have b0 : (wd c.L i == [87,72,73,76,69]) = false := by simpa [ue] using N
 by_cases V : wd c.L i = va
 ·have b1 : (wd c.L i == [82,69,80,69,65,84]) = true := by rw [V]; decide
  have a1 : xQ c.L E A i = tN c.L E A i := by unfold xQ; rw [if_neg M,if_neg N,if_pos V]
  go_wp2_with fail; go_at_call 181; refine (ti c _ i d E A U hE hA).mono ?_; rintro e Y (⟨Z,g,l,b⟩ | ⟨⟨u,x,y,z,B⟩,j2,v2,g,rfl,⟨C,rfl,f⟩,b,D,F⟩)
  ·obtain ⟨q,rfl,-⟩ := id l; exact ⟨rfl,Steps.err (a1.trans g) l s b⟩
  have m : xQ c.L E A i = _ := a1.trans g; simp only [T.kind,T.name,T.num,T.at',T.subs] at f ⊢; obtain ⟨H,I,rfl⟩ := f.form; obtain ⟨b2,n,f⟩ := f.nm
  try simp at n
  have J := zb s b; have K := b.size
  try simp at K
  have j := RB.k r b; have o := j.lt; obtain ⟨_,_,_,_,_,_,_,_,_,_,_⟩ := id j; go_wp2; refine zn Tryz.results170 rfl (RB.five ?_) rfl ?_
  ·exact j
  refine Steps.ok (a := (T.mk u x y z B)) m ⟨_,rfl,?_⟩ ?_ ?_ (by omega)
  ·exact (LR.p5 f (by omega)).wd
  ·exact zS J (by omega)
  ·exact PS.p5 D O.out (by omega)
 have b1 : (wd c.L i == [82,69,80,69,65,84]) = false := by simpa [va] using V
 by_cases h4 : wd c.L i = xK
 ·have b3 : (wd c.L i == [82,69,84,85,82,78]) = true := by rw [h4]; decide
  have a2 : xQ c.L E A i = qn c.L E i := by unfold xQ; rw [if_neg M,if_neg N,if_neg V,if_pos h4]
  go_wp2_with fail; go_at_call 182; refine (sP c _ i d E U hE).mono ?_; rintro e Y (⟨Z,g,l,b⟩ | ⟨⟨u,x,y,z,B⟩,j2,v2,g,rfl,⟨C,rfl,f⟩,b,D,F⟩)
  ·obtain ⟨q,rfl,-⟩ := id l; exact ⟨rfl,Steps.err (a2.trans g) l s b⟩
  have m : xQ c.L E A i = _ := a2.trans g; simp only [T.kind,T.name,T.num,T.at',T.subs] at f ⊢; obtain ⟨H,I,rfl⟩ := f.form; obtain ⟨b2,n,f⟩ := f.nm
  try simp at n
  have J := zb s b; have K := b.size
  try simp at K
  have j := RB.k r b; have o := j.lt; obtain ⟨_,_,_,_,_,_,_,_,_,_,_⟩ := id j; go_wp2; refine zn Tryz.results170 rfl (RB.five ?_) rfl ?_
  ·exact j
  refine Steps.ok (a := (T.mk u x y z B)) m ⟨_,rfl,?_⟩ ?_ ?_ (by omega)
  ·exact (LR.p5 f (by omega)).wd
  ·exact zS J (by omega)
  ·exact PS.p5 D O.out (by omega)
 have b3 : (wd c.L i == [82,69,84,85,82,78]) = false := by simpa [xK] using h4
 by_cases h5 : wd c.L i = lj
 ·have b4 : (wd c.L i == [78,69,87]) = true := by rw [h5]; decide
  have a3 : xQ c.L E A i = vm c.L 20 lj (zQ c.L E) i := by unfold xQ; rw [if_neg M,if_neg N,if_neg V,if_neg h4,if_pos h5]
  go_wp2_with fail; go_at_call 183; refine (ka c _ i d 20 lj 184 (zQ c.L E) U h5 (by decide) hD).mono ?_; rintro e Y (⟨Z,g,l,b⟩ | ⟨⟨u,x,y,z,B⟩,j2,v2,g,rfl,⟨C,rfl,f⟩,b,D,F⟩)
  ·obtain ⟨q,rfl,-⟩ := id l; exact ⟨rfl,Steps.err (a3.trans g) l s b⟩
  have m : xQ c.L E A i = _ := a3.trans g; simp only [T.kind,T.name,T.num,T.at',T.subs] at f ⊢; obtain ⟨H,I,rfl⟩ := f.form; obtain ⟨b2,n,f⟩ := f.nm
  try simp at n
  have J := zb s b; have K := b.size
  try simp at K
  have j := RB.k r b; have o := j.lt; obtain ⟨_,_,_,_,_,_,_,_,_,_,_⟩ := id j; go_wp2; refine zn Tryz.results170 rfl (RB.five ?_) rfl ?_
  ·exact j
  refine Steps.ok (a := (T.mk u x y z B)) m ⟨_,rfl,?_⟩ ?_ ?_ (by omega)
  ·exact (LR.p5 f (by omega)).wd
  ·exact zS J (by omega)
  ·exact PS.p5 D O.out (by omega)
 have b4 : (wd c.L i == [78,69,87]) = false := by simpa [lj] using h5
 by_cases h6 : wd c.L i = lY
 ·have b5 : (wd c.L i == [79,85,84]) = true := by rw [h6]; decide
  have a4 : xQ c.L E A i = vm c.L 21 lY E i := by unfold xQ; rw [if_neg M,if_neg N,if_neg V,if_neg h4,if_neg h5,if_pos h6]
  go_wp2_with fail; go_at_call 183; refine (ka c _ i d 21 lY 121 E U h6 (by decide) hE).mono ?_; rintro e Y (⟨Z,g,l,b⟩ | ⟨⟨u,x,y,z,B⟩,j2,v2,g,rfl,⟨C,rfl,f⟩,b,D,F⟩)
  ·obtain ⟨q,rfl,-⟩ := id l; exact ⟨rfl,Steps.err (a4.trans g) l s b⟩
  have m : xQ c.L E A i = _ := a4.trans g; simp only [T.kind,T.name,T.num,T.at',T.subs] at f ⊢; obtain ⟨H,I,rfl⟩ := f.form; obtain ⟨b2,n,f⟩ := f.nm
  try simp at n
  have J := zb s b; have K := b.size
  try simp at K
  have j := RB.k r b; have o := j.lt; obtain ⟨_,_,_,_,_,_,_,_,_,_,_⟩ := id j; go_wp2; refine zn Tryz.results170 rfl (RB.five ?_) rfl ?_
  ·exact j
  refine Steps.ok (a := (T.mk u x y z B)) m ⟨_,rfl,?_⟩ ?_ ?_ (by omega)
  ·exact (LR.p5 f (by omega)).wd
  ·exact zS J (by omega)
  ·exact PS.p5 D O.out (by omega)
 have b5 : (wd c.L i == [79,85,84]) = false := by simpa [lY] using h6
 by_cases h7 : wd c.L i = mp
 ·have b6 : (wd c.L i == [71,69,84]) = true := by rw [h7]; decide
  have a5 : xQ c.L E A i = vm c.L 22 mp (zQ c.L E) i := by unfold xQ; rw [if_neg M,if_neg N,if_neg V,if_neg h4,if_neg h5,if_neg h6,if_pos h7]
  go_wp2_with fail; go_at_call 183; refine (ka c _ i d 22 mp 184 (zQ c.L E) U h7 (by decide) hD).mono ?_; rintro e Y (⟨Z,g,l,b⟩ | ⟨⟨u,x,y,z,B⟩,j2,v2,g,rfl,⟨C,rfl,f⟩,b,D,F⟩)
  ·obtain ⟨q,rfl,-⟩ := id l; exact ⟨rfl,Steps.err (a5.trans g) l s b⟩
  have m : xQ c.L E A i = _ := a5.trans g; simp only [T.kind,T.name,T.num,T.at',T.subs] at f ⊢; obtain ⟨H,I,rfl⟩ := f.form; obtain ⟨b2,n,f⟩ := f.nm
  try simp at n
  have J := zb s b; have K := b.size
  try simp at K
  have j := RB.k r b; have o := j.lt; obtain ⟨_,_,_,_,_,_,_,_,_,_,_⟩ := id j; go_wp2; refine zn Tryz.results170 rfl (RB.five ?_) rfl ?_
  ·exact j
  refine Steps.ok (a := (T.mk u x y z B)) m ⟨_,rfl,?_⟩ ?_ ?_ (by omega)
  ·exact (LR.p5 f (by omega)).wd
  ·exact zS J (by omega)
  ·exact PS.p5 D O.out (by omega)
 have b6 : (wd c.L i == [71,69,84]) = false := by simpa [mp] using h7
 by_cases h8 : wd c.L i = kF
 ·have b7 : (wd c.L i == [65,83,83,69,82,84]) = true := by rw [h8]; decide
  have a6 : xQ c.L E A i = vm c.L 23 kF E i := by unfold xQ; rw [if_neg M,if_neg N,if_neg V,if_neg h4,if_neg h5,if_neg h6,if_neg h7,if_pos h8]
  go_wp2_with fail; go_at_call 183; refine (ka c _ i d 23 kF 121 E U h8 (by decide) hE).mono ?_; rintro e Y (⟨Z,g,l,b⟩ | ⟨⟨u,x,y,z,B⟩,j2,v2,g,rfl,⟨C,rfl,f⟩,b,D,F⟩)
  ·obtain ⟨q,rfl,-⟩ := id l; exact ⟨rfl,Steps.err (a6.trans g) l s b⟩
  have m : xQ c.L E A i = _ := a6.trans g; simp only [T.kind,T.name,T.num,T.at',T.subs] at f ⊢; obtain ⟨H,I,rfl⟩ := f.form; obtain ⟨b2,n,f⟩ := f.nm
  try simp at n
  have J := zb s b; have K := b.size
  try simp at K
  have j := RB.k r b; have o := j.lt; obtain ⟨_,_,_,_,_,_,_,_,_,_,_⟩ := id j; go_wp2; refine zn Tryz.results170 rfl (RB.five ?_) rfl ?_
  ·exact j
  refine Steps.ok (a := (T.mk u x y z B)) m ⟨_,rfl,?_⟩ ?_ ?_ (by omega)
  ·exact (LR.p5 f (by omega)).wd
  ·exact zS J (by omega)
  ·exact PS.p5 D O.out (by omega)
 have b7 : (wd c.L i == [65,83,83,69,82,84]) = false := by simpa [kF] using h8
 have a7 : xQ c.L E A i = jP c.L E i := by unfold xQ; rw [if_neg M,if_neg N,if_neg V,if_neg h4,if_neg h5,if_neg h6,if_neg h7,if_neg h8]
 go_wp2_with fail; go_at_call 185; refine (qQ c _ i d E U hE).mono ?_; rintro e Y (⟨Z,g,l,b⟩ | ⟨⟨u,x,y,z,B⟩,j2,v2,g,rfl,⟨C,rfl,f⟩,b,D,F⟩)
 ·obtain ⟨q,rfl,-⟩ := id l; exact ⟨rfl,Steps.err (a7.trans g) l s b⟩
 have m : xQ c.L E A i = _ := a7.trans g; simp only [T.kind,T.name,T.num,T.at',T.subs] at f ⊢; obtain ⟨H,I,rfl⟩ := f.form; obtain ⟨b2,n,f⟩ := f.nm
 try simp at n
 have J := zb s b; have K := b.size
 try simp at K
 have j := RB.k r b; have o := j.lt; obtain ⟨_,_,_,_,_,_,_,_,_,_,_⟩ := id j; go_wp2; refine zn Tryz.results170 rfl (RB.five ?_) rfl ?_
 ·exact j
 refine Steps.ok (a := (T.mk u x y z B)) m ⟨_,rfl,?_⟩ ?_ ?_ (by omega)
 ·exact (LR.p5 f (by omega)).wd
 ·exact zS J (by omega)
 ·exact PS.p5 D O.out (by omega)
end Go.Proofs.YtfjgelmllcnokaaGreatDoor
