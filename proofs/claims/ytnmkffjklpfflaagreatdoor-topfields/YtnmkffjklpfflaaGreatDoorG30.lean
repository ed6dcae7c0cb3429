/- Factors and expressions,level by level. -/
import Derived.Test.YtnmkffjklpfflaaGreatDoorG29
import Derived.Test.YtnmkffjklpfflaaGreatDoorG11
namespace Go.Proofs.YtnmkffjklpfflaaGreatDoor
open Go.RowKit
set_option maxHeartbeats 2000000
set_option maxRecDepth 100000
section
variable {L : List Tok} {E F : P T} {i : Nat}
theorem sV (h : wd L i = pu) : zK L E F i = (P.ret (T.mk 30 [] 0 (pos L i) [])) (i + 1) := by unfold zK; rw [if_pos h]; rfl
theorem dx (h : wd L i = fi) : zK L E F i = (P.ret (T.mk 31 [] 0 (pos L i) [])) (i + 1) := by unfold zK; rw [if_neg (by rw [h]; decide),if_pos h]; rfl
theorem pH (h : wd L i = iN) : zK L E F i = (P.ret (T.mk 32 [] 0 (pos L i) [])) (i + 1) := by unfold zK; rw [if_neg (by rw [h]; decide),if_neg (by rw [h]; decide),if_pos h]; rfl
theorem dq (h : wd L i = vx) : zK L E F i = ((zB L vx).bind fun _ => F.bind fun t => P.ret (T.mk 34 [] 0 (pos L i) [t])) i := by
 rw [P.bind_ok (a := ()) (j := i + 1) (by unfold zB; rw [if_pos h])]
 unfold zK; rw [if_neg (by rw [h]; decide),if_neg (by rw [h]; decide),if_neg (by rw [h]; decide),if_pos h]
theorem oC (h : wd L i = xA) : zK L E F i = ((zB L xA).bind fun _ => E.bind fun e => (zB L jx).bind fun _ => P.ret e) i := by
 rw [P.bind_ok (a := ()) (j := i + 1) (by unfold zB; rw [if_pos h])]
 unfold zK; rw [if_neg (by rw [h]; decide),if_neg (by rw [h]; decide),if_neg (by rw [h]; decide),if_neg (by rw [h]; decide),if_pos h]
theorem kH (h1 : wd L i ≠ pu) (h2 : wd L i ≠ fi) (h3 : wd L i ≠ iN) (h4 : wd L i ≠ vx) (h5 : wd L i ≠ xA) : zK L E F i = if yh (wd L i) = true then yR L E i else (qY L).bind (fun n => P.ret (.mk 29 [] n (pos L i) [])) i := by
 unfold zK; rw [if_neg h1,if_neg h2,if_neg h3,if_neg h4,if_neg h5]
end
theorem pE (c : PC) (w : World) (i d : Nat) (E F : P T) (h : PS c w i d) (hE : ExprOK c d E) (hF : NegOK c d F) :
  Calls Tryz.prog 220 #[pq c.pb] w (Steps c w i d (fun w' t v => TR w' w.heap.size w'.heap.size t v) (zK c.L E F i)) := by
 have HP := zc h; have U := zc h.low; have hb := h.lt; clear h
 go_enter Tryz.func220,Tryz.ntmps220
 go_wp2_with fail; go_at_call 68; refine (xh c _ i d (PS.alloc HP.out _)).mono ?_; rintro e w1 ⟨rfl,G⟩; have p1 : PS c w1 i d := PS.kept (PS.alloc HP.out _) G; have B : w.grownBy w1 (some c.pb) := za ga (zv G (some c.pb)); have s1 := G.size
 try simp at s1
 have s : RB w1 w.heap.size := RB.kept (RB.new' (by simp)) G (by simp); have b5 := s.lt; obtain ⟨_,_,_,_,_,_,_,_,_,_,_⟩ := id s
 by_cases h1 : wd c.L i = pu
 ·have b6 : (wd c.L i == [84,82,85,69]) = true := by rw [h1]; decide
  have V : zK c.L E F i = _ := sV h1; go_wp2_with fail; go_at_call 226; refine (jb c _ i d 30 p1 (by rw [h1]; decide)).mono ?_; rintro e X (⟨x2,j,l,b⟩ | ⟨⟨H,I,J,K,M⟩,j2,v2,j,rfl,⟨N,rfl,f⟩,b,x,O⟩)
  ·obtain ⟨q,rfl,-⟩ := id l; exact ⟨rfl,Steps.err (V.trans j) l B b⟩
  have o : zK c.L E F i = _ := V.trans j; simp only [T.kind,T.name,T.num,T.at',T.subs] at f ⊢; obtain ⟨Q,R,rfl⟩ := f.form; obtain ⟨b2,r,f⟩ := f.nm
  try simp at r
  have z := za B b; have C := b.size
  try simp at C
  have g := RB.k s b; have m := g.lt; obtain ⟨_,_,_,_,_,_,_,_,_,_,_⟩ := id g; go_wp2; refine zn Tryz.results220 rfl (RB.five ?_) rfl ?_
  ·exact g
  refine Steps.ok (a := (T.mk H I J K M)) o ⟨_,rfl,?_⟩ ?_ ?_ (by omega)
  ·exact (LR.p5 f (by omega)).wd
  ·exact zC z (by omega)
  ·exact PS.p5 x U.out (by omega)
 have b6 : (wd c.L i == [84,82,85,69]) = false := by simpa [pu] using h1
 by_cases h2 : wd c.L i = fi
 ·have b7 : (wd c.L i == [70,65,76,83,69]) = true := by rw [h2]; decide
  have Y : zK c.L E F i = _ := dx h2; go_wp2_with fail; go_at_call 226; refine (jb c _ i d 31 p1 (by rw [h2]; decide)).mono ?_; rintro e X (⟨x2,j,l,b⟩ | ⟨⟨H,I,J,K,M⟩,j2,v2,j,rfl,⟨N,rfl,f⟩,b,x,O⟩)
  ·obtain ⟨q,rfl,-⟩ := id l; exact ⟨rfl,Steps.err (Y.trans j) l B b⟩
  have o : zK c.L E F i = _ := Y.trans j; simp only [T.kind,T.name,T.num,T.at',T.subs] at f ⊢; obtain ⟨Q,R,rfl⟩ := f.form; obtain ⟨b2,r,f⟩ := f.nm
  try simp at r
  have z := za B b; have C := b.size
  try simp at C
  have g := RB.k s b; have m := g.lt; obtain ⟨_,_,_,_,_,_,_,_,_,_,_⟩ := id g; go_wp2; refine zn Tryz.results220 rfl (RB.five ?_) rfl ?_
  ·exact g
  refine Steps.ok (a := (T.mk H I J K M)) o ⟨_,rfl,?_⟩ ?_ ?_ (by omega)
  ·exact (LR.p5 f (by omega)).wd
  ·exact zC z (by omega)
  ·exact PS.p5 x U.out (by omega)
 have b7 : (wd c.L i == [70,65,76,83,69]) = false := by simpa [fi] using h2
 by_cases h3 : wd c.L i = iN
 ·have b8 : (wd c.L i == [78,73,76]) = true := by rw [h3]; decide
  have Z : zK c.L E F i = _ := pH h3; go_wp2_with fail; go_at_call 226; refine (jb c _ i d 32 p1 (by rw [h3]; decide)).mono ?_; rintro e X (⟨x2,j,l,b⟩ | ⟨⟨H,I,J,K,M⟩,j2,v2,j,rfl,⟨N,rfl,f⟩,b,x,O⟩)
  ·obtain ⟨q,rfl,-⟩ := id l; exact ⟨rfl,Steps.err (Z.trans j) l B b⟩
  have o : zK c.L E F i = _ := Z.trans j; simp only [T.kind,T.name,T.num,T.at',T.subs] at f ⊢; obtain ⟨Q,R,rfl⟩ := f.form; obtain ⟨b2,r,f⟩ := f.nm
  try simp at r
  have z := za B b; have C := b.size
  try simp at C
  have g := RB.k s b; have m := g.lt; obtain ⟨_,_,_,_,_,_,_,_,_,_,_⟩ := id g; go_wp2; refine zn Tryz.results220 rfl (RB.five ?_) rfl ?_
  ·exact g
  refine Steps.ok (a := (T.mk H I J K M)) o ⟨_,rfl,?_⟩ ?_ ?_ (by omega)
  ·exact (LR.p5 f (by omega)).wd
  ·exact zC z (by omega)
  ·exact PS.p5 x U.out (by omega)
 have b8 : (wd c.L i == [78,73,76]) = false := by simpa [iN] using h3
 by_cases h4 : wd c.L i = vx
 ·have b9 : (wd c.L i == [126]) = true := by rw [h4]; decide
  have a0 : zK c.L E F i = _ := dq h4; go_wp2_with fail; go_at_call 227; refine (dy c _ i d F p1 hF).mono ?_; rintro e X (⟨x2,j,l,b⟩ | ⟨⟨H,I,J,K,M⟩,j2,v2,j,rfl,⟨N,rfl,f⟩,b,x,O⟩)
  ·obtain ⟨q,rfl,-⟩ := id l; exact ⟨rfl,Steps.err (a0.trans j) l B b⟩
  have o : zK c.L E F i = _ := a0.trans j; simp only [T.kind,T.name,T.num,T.at',T.subs] at f ⊢; obtain ⟨Q,R,rfl⟩ := f.form; obtain ⟨b2,r,f⟩ := f.nm
  try simp at r
  have z := za B b; have C := b.size
  try simp at C
  have g := RB.k s b; have m := g.lt; obtain ⟨_,_,_,_,_,_,_,_,_,_,_⟩ := id g; go_wp2; refine zn Tryz.results220 rfl (RB.five ?_) rfl ?_
  ·exact g
  refine Steps.ok (a := (T.mk H I J K M)) o ⟨_,rfl,?_⟩ ?_ ?_ (by omega)
  ·exact (LR.p5 f (by omega)).wd
  ·exact zC z (by omega)
  ·exact PS.p5 x U.out (by omega)
 have b9 : (wd c.L i == [126]) = false := by simpa [vx] using h4
 by_cases h5 : wd c.L i = xA
 ·have c0 : (wd c.L i == [40]) = true := by rw [h5]; decide
  have a1 : zK c.L E F i = _ := oC h5; go_wp2_with fail; go_at_call 228; refine (hH c _ i d E p1 hE).mono ?_; rintro e X (⟨x2,j,l,b⟩ | ⟨⟨H,I,J,K,M⟩,j2,v2,j,rfl,⟨N,rfl,f⟩,b,x,O⟩)
  ·obtain ⟨q,rfl,-⟩ := id l; exact ⟨rfl,Steps.err (a1.trans j) l B b⟩
  have o : zK c.L E F i = _ := a1.trans j; simp only [T.kind,T.name,T.num,T.at',T.subs] at f ⊢; obtain ⟨Q,R,rfl⟩ := f.form; obtain ⟨b2,r,f⟩ := f.nm
  try simp at r
  have z := za B b; have C := b.size
  try simp at C
  have g := RB.k s b; have m := g.lt; obtain ⟨_,_,_,_,_,_,_,_,_,_,_⟩ := id g; go_wp2; refine zn Tryz.results220 rfl (RB.five ?_) rfl ?_
  ·exact g
  refine Steps.ok (a := (T.mk H I J K M)) o ⟨_,rfl,?_⟩ ?_ ?_ (by omega)
  ·exact (LR.p5 f (by omega)).wd
  ·exact zC z (by omega)
  ·exact PS.p5 x U.out (by omega)
 have c0 : (wd c.L i == [40]) = false := by simpa [xA] using h5
 go_wp2_with fail; go_at_call 138; refine (xJ c _ i d p1).mono ?_; rintro e X ⟨rfl,b⟩; have x : PS c X i d := PS.kept p1 b; have z : w.grownBy X (some c.pb) := za B (zv b (some c.pb)); have C := b.size
 try simp at C
 have g : RB X w.heap.size := RB.kept s b (by simp); have m := g.lt; obtain ⟨_,_,_,_,_,_,_,_,_,_,_⟩ := id g; cases a9 : yh (wd c.L i)
 ·have a2 : zK c.L E F i = _ := (kH h1 h2 h3 h4 h5).trans (if_neg (by rw [a9]; decide))
  go_wp2_with fail; go_at_call 87; refine (zL c _ i d 29 x).mono ?_; rintro e w3 ⟨rfl,n⟩; have p3 : PS c w3 i d := PS.kept x n; have G3 : w.grownBy w3 (some c.pb) := za z (zv n (some c.pb)); have s3 := n.size
  try simp at s3
  have u : RB w3 w.heap.size := RB.kept g n (by simp); have a5 := u.lt; obtain ⟨_,_,_,_,_,_,_,_,_,_,_⟩ := id u; go_wp2_with fail; go_at_call 202; refine (qR c _ i d (PS.alloc p3 _)).mono ?_; rintro e w4 (⟨x4,a6,b0,A⟩ | ⟨a4,j4,v4,a6,rfl,rfl,A,p4,c6⟩)
  ·obtain ⟨q,rfl,-⟩ := id b0; exact ⟨rfl,Steps.err (a2.trans (P.bind_err a6)) b0 (zh G3 _) A⟩
  have c1 : zK c.L E F i = _ := a2.trans (P.bind_ok a6); have G4 : w.grownBy w4 (some c.pb) := za (zh G3 _) A; have s4 := A.size
  try simp at s4
  have a7 : RB w4 w.heap.size := RB.k (RB.alloc u _) A; have b1 : NB w4 w3.heap.size (.int .i64 29) (.string ⟨#[]⟩) (.int .i64 0) (.int .i64 (pos c.L i)) (.slice none 0 0) := NB.k (NB.new' (by simp)) A; have c2 := a7.lt; have c3 := b1.lt; obtain ⟨_,_,_,_,_,_,_,_,_,_,_⟩ := id a7; obtain ⟨_,_,_,_,_,_⟩ := id b1; go_wp2; refine zn Tryz.results220 rfl (RB.five ?_) rfl ?_
  ·exact RB.put a7 _ _ _
  refine Steps.ok (a := (T.mk 29 [] a4 (pos c.L i) [])) c1 ⟨_,rfl,?_⟩ ?_ ?_ (by omega)
  ·exact LR.nil _ _
  ·exact zC (zs G4 (by omega) _ _) (by omega)
  ·exact PS.p5 (PS.put p4 U.out (by omega) _ _) U.out (by omega)
 ·have a3 : zK c.L E F i = _ := (kH h1 h2 h3 h4 h5).trans (if_pos a9)
  go_wp2_with fail; go_at_call 229; refine (jo c _ i d E x hE (fun w i h => vH c w i d E h hE)).mono ?_; rintro e w3 (⟨x3,a8,b4,n⟩ | ⟨⟨k3,n3,m3,q3,l3⟩,j3,v3,a8,rfl,⟨c7,rfl,D⟩,n,p3,c8⟩)
  ·obtain ⟨q,rfl,-⟩ := id b4; exact ⟨rfl,Steps.err (a3.trans a8) b4 z n⟩
  have c4 : zK c.L E F i = _ := a3.trans a8; simp only [T.kind,T.name,T.num,T.at',T.subs] at D ⊢; obtain ⟨c9,d0,rfl⟩ := D.form; obtain ⟨b3,c5,D⟩ := D.nm
  try simp at c5
  have G3 := za z n; have s3 := n.size
  try simp at s3
  have u := RB.k g n; have a5 := u.lt; obtain ⟨_,_,_,_,_,_,_,_,_,_,_⟩ := id u; go_wp2; refine zn Tryz.results220 rfl (RB.five ?_) rfl ?_
  ·exact u
  refine Steps.ok (a := (T.mk k3 n3 m3 q3 l3)) c4 ⟨_,rfl,?_⟩ ?_ ?_ (by omega)
  ·exact (LR.p5 D (by omega)).wd
  ·exact zC G3 (by omega)
  ·exact PS.p5 p3 U.out (by omega)
def WithinOK (c : PC) (d g : Nat) (q : P T) : Prop := ∀ (w : World) (i : Nat),PS c w i d -> Calls Tryz.prog 172 #[pq c.pb,.func (.func g) #[pq c.pb] #[]] w (Steps c w i d (fun w' t v => TR w' w.heap.size w'.heap.size t v) (q i))
theorem jm (c : PC) (w : World) (i d : Nat) (q : P T) (h : PS c w i d) (hW : WithinOK c d 173 q) :
  Calls Tryz.prog 145 #[pq c.pb] w (Steps c w i d (fun w' t v => TR w' w.heap.size w'.heap.size t v) (q i)) := by
 have r := zc h; have s := zc h.low; have N := h.lt; clear h
 go_enter Tryz.func145,Tryz.ntmps145
 go_wp2_with fail; go_at_call 172; refine (hW _ i (PS.alloc r.out _)).mono ?_; rintro e u (⟨O,g,l,b⟩ | ⟨⟨x,z,A,B,C⟩,Q,R,g,rfl,⟨D,rfl,f⟩,b,G,H⟩)
 ·obtain ⟨q,rfl,-⟩ := id l; exact ⟨rfl,Steps.err g l ga b⟩
 have m : q i = _ := g; simp only [T.kind,T.name,T.num,T.at',T.subs] at f ⊢; obtain ⟨I,J,rfl⟩ := f.form; obtain ⟨U,n,f⟩ := f.nm
 try simp at n
 have K := za ga b; have M := b.size
 try simp at M
 have j : RB u w.heap.size := RB.k (RB.new' (by simp)) b; have o := j.lt; obtain ⟨_,_,_,_,_,_,_,_,_,_,_⟩ := id j; go_wp2; refine zn Tryz.results145 rfl (RB.five ?_) rfl ?_
 ·exact j
 refine Steps.ok (a := (T.mk x z A B C)) m ⟨_,rfl,?_⟩ ?_ ?_ (by omega)
 ·exact (LR.p5 f (by omega)).wd
 ·exact zC K (by omega)
 ·exact PS.p5 G s.out (by omega)
theorem dL (c : PC) (w : World) (i d : Nat) (q : P T) (h : PS c w i d) (hW : WithinOK c d 181 q) :
  Calls Tryz.prog 149 #[pq c.pb] w (Steps c w i d (fun w' t v => TR w' w.heap.size w'.heap.size t v) (q i)) := by
 have r := zc h; have s := zc h.low; have N := h.lt; clear h
 go_enter Tryz.func149,Tryz.ntmps149
 go_wp2_with fail; go_at_call 172; refine (hW _ i (PS.alloc r.out _)).mono ?_; rintro e u (⟨O,g,l,b⟩ | ⟨⟨x,z,A,B,C⟩,Q,R,g,rfl,⟨D,rfl,f⟩,b,G,H⟩)
 ·obtain ⟨q,rfl,-⟩ := id l; exact ⟨rfl,Steps.err g l ga b⟩
 have m : q i = _ := g; simp only [T.kind,T.name,T.num,T.at',T.subs] at f ⊢; obtain ⟨I,J,rfl⟩ := f.form; obtain ⟨U,n,f⟩ := f.nm
 try simp at n
 have K := za ga b; have M := b.size
 try simp at M
 have j : RB u w.heap.size := RB.k (RB.new' (by simp)) b; have o := j.lt; obtain ⟨_,_,_,_,_,_,_,_,_,_,_⟩ := id j; go_wp2; refine zn Tryz.results149 rfl (RB.five ?_) rfl ?_
 ·exact j
 refine Steps.ok (a := (T.mk x z A B C)) m ⟨_,rfl,?_⟩ ?_ ?_ (by omega)
 ·exact (LR.p5 f (by omega)).wd
 ·exact zC K (by omega)
 ·exact PS.p5 G s.out (by omega)
theorem nB (c : PC) : ∀ (n d : Nat),d + n = 20 -> ExprOK c d (uj c.L n) /\ NegOK c d (xq c.L n)
 | 0,d,h => by
  have hd : ¬ d < 20 := by omega
  refine ⟨⟨fun w i hp _ => ?_,fun _ _ _ _ => trivial,enters_of Tryz.func145 (by kernel_rfl) rfl⟩,fun w i hp => ?_⟩
  ·refine jm c w i d (xX c.L) hp (fun w i hp => ?_)
   have hx := xN c w i d 173 (xX c.L) hp (by omega) (fun h => absurd h hd) (enters_of Tryz.func173 (by kernel_rfl) rfl); rw [if_neg hd] at hx
   exact hx
  ·have hx := xN c w i d 220 (xX c.L) hp (by omega) (fun h => absurd h hd) (enters_of Tryz.func220 (by kernel_rfl) rfl)
   rw [if_neg hd] at hx
   exact hx
 | n + 1,d,h => by
  have hd : d < 20 := by omega
  obtain ⟨hE,hF⟩ := nB c n (d + 1) (by omega)
  have hfac : PartOK c (d + 1) 220 (zK c.L (uj c.L n) (xq c.L n)) := fun w i hp => pE c w i (d + 1) _ _ hp hE hF
  have hfac' : Part c (d + 1) (fun _ => True) 220 #[pq c.pb] (zK c.L (uj c.L n) (xq c.L n)) := ⟨fun w i hp _ => hfac w i hp,fun _ _ _ _ => trivial,enters_of Tryz.func220 (by kernel_rfl) rfl⟩; have hprod : Part c (d + 1) (fun _ => True) 211 #[pq c.pb] (xT c.L (uj c.L n) (xq c.L n)) := ⟨fun w i hp _ => tP c w i (d + 1) _ _ hp hfac',fun _ _ _ _ => trivial,enters_of Tryz.func211 (by kernel_rfl) rfl⟩; have hsum : Part c (d + 1) (fun _ => True) 199 #[pq c.pb] (sN c.L (uj c.L n) (xq c.L n)) := ⟨fun w i hp _ => iZ c w i (d + 1) _ _ hp hprod,fun _ _ _ _ => trivial,enters_of Tryz.func199 (by kernel_rfl) rfl⟩
  have hrel : PartOK c (d + 1) 173 (uj c.L (n + 1)) := fun w i hp => dz c w i (d + 1) _ _ hp hsum
  refine ⟨⟨fun w i hp _ => ?_,fun _ _ _ _ => trivial,enters_of Tryz.func145 (by kernel_rfl) rfl⟩,fun w i hp => ?_⟩
  ·refine jm c w i d (uj c.L (n + 1)) hp (fun w i hp => ?_)
   have hx := xN c w i d 173 (uj c.L (n + 1)) hp (by omega) (fun _ => hrel) (enters_of Tryz.func173 (by kernel_rfl) rfl); rw [if_pos hd] at hx
   exact hx
  ·have hx := xN c w i d 220 (xq c.L (n + 1)) hp (by omega) (fun _ => hfac) (enters_of Tryz.func220 (by kernel_rfl) rfl)
   rw [if_pos hd] at hx
   exact hx
end Go.Proofs.YtnmkffjklpfflaaGreatDoor
