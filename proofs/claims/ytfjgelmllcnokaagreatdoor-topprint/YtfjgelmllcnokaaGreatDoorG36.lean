/- Factors and expressions,level by level. -/
import Derived.Test.YtfjgelmllcnokaaGreatDoorG35
import Derived.Test.YtfjgelmllcnokaaGreatDoorG04
import Derived.Test.YtfjgelmllcnokaaGreatDoorG10
namespace Go.Proofs.YtfjgelmllcnokaaGreatDoor
open Go.RowKit
set_option maxHeartbeats 2000000
set_option maxRecDepth 100000
section
variable {L : List Tok} {E F : P T} {i : Nat}
theorem ny (h : wd L i = gk) : zV L E F i = (P.ret (T.mk 30 [] 0 (pos L i) [])) (i + 1) := by unfold zV; rw [if_pos h]; rfl
theorem pr (h : wd L i = kj) : zV L E F i = (P.ret (T.mk 31 [] 0 (pos L i) [])) (i + 1) := by unfold zV; rw [if_neg (by rw [h]; decide),if_pos h]; rfl
theorem mV (h : wd L i = rB) : zV L E F i = (P.ret (T.mk 32 [] 0 (pos L i) [])) (i + 1) := by unfold zV; rw [if_neg (by rw [h]; decide),if_neg (by rw [h]; decide),if_pos h]; rfl
theorem pu (h : wd L i = uq) : zV L E F i = ((zx L uq).bind fun _ => F.bind fun t => P.ret (T.mk 34 [] 0 (pos L i) [t])) i := by
 rw [P.bind_ok (a := ()) (j := i + 1) (by unfold zx; rw [if_pos h])]
 unfold zV; rw [if_neg (by rw [h]; decide),if_neg (by rw [h]; decide),if_neg (by rw [h]; decide),if_pos h]
theorem cB (h : wd L i = yw) : zV L E F i = ((zx L yw).bind fun _ => E.bind fun e => (zx L xd).bind fun _ => P.ret e) i := by
 rw [P.bind_ok (a := ()) (j := i + 1) (by unfold zx; rw [if_pos h])]
 unfold zV; rw [if_neg (by rw [h]; decide),if_neg (by rw [h]; decide),if_neg (by rw [h]; decide),if_neg (by rw [h]; decide),if_pos h]
theorem fJ (h1 : wd L i ≠ gk) (h2 : wd L i ≠ kj) (h3 : wd L i ≠ rB) (h4 : wd L i ≠ uq) (h5 : wd L i ≠ yw) : zV L E F i = if zF (wd L i) = true then yB L E i else (qd L).bind (fun n => P.ret (.mk 29 [] n (pos L i) [])) i := by
 unfold zV; rw [if_neg h1,if_neg h2,if_neg h3,if_neg h4,if_neg h5]
end
theorem mQ (c : PC) (w : World) (i d : Nat) (E F : P T) (h : PS c w i d) (hE : ExprOK c d E) (hF : NegOK c d F) :
  Calls Tryz.prog 191 #[.pointer (some ⟨c.pb,0,none⟩)] w (Steps c w i d (fun w' t v => TR w' w.heap.size w'.heap.size t v) (zV c.L E F i)) := by
 have HP := za h; have V := za h.low; have hb := h.lt; clear h
 go_enter Tryz.func191,Tryz.ntmps191
 go_wp2_with fail; go_at_call 29; refine (ud c _ i d (PS.alloc HP.out _)).mono ?_; rintro e w1 ⟨rfl,D⟩; have p1 : PS c w1 i d := PS.kept (PS.alloc HP.out _) D; have A : w.grownBy w1 (some c.pb) := zb ga (zJ D (some c.pb)); have s1 := D.size
 try simp at s1
 have s : RB w1 w.heap.size := RB.kept (RB.new' (by simp)) D (by simp); have b6 := s.lt; obtain ⟨_,_,_,_,_,_,_,_,_,_,_⟩ := id s
 by_cases h1 : wd c.L i = gk
 ·have b7 : (wd c.L i == [84,82,85,69]) = true := by rw [h1]; decide
  have X : zV c.L E F i = _ := ny h1; go_wp2_with fail; go_at_call 199; refine (ql c _ i d 30 p1 (by rw [h1]; decide)).mono ?_; rintro e Y (⟨x2,j,l,b⟩ | ⟨⟨H,I,J,K,M⟩,j2,v2,j,rfl,⟨N,rfl,f⟩,b,x,O⟩)
  ·obtain ⟨q,rfl,-⟩ := id l; exact ⟨rfl,Steps.err (X.trans j) l A b⟩
  have o : zV c.L E F i = _ := X.trans j; simp only [T.kind,T.name,T.num,T.at',T.subs] at f ⊢; obtain ⟨R,U,rfl⟩ := f.form; obtain ⟨b2,r,f⟩ := f.nm
  try simp at r
  have y := zb A b; have B := b.size
  try simp at B
  have g := RB.k s b; have m := g.lt; obtain ⟨_,_,_,_,_,_,_,_,_,_,_⟩ := id g; go_wp2; refine zn Tryz.results191 rfl (RB.five ?_) rfl ?_
  ·exact g
  refine Steps.ok (a := (T.mk H I J K M)) o ⟨_,rfl,?_⟩ ?_ ?_ (by omega)
  ·exact (LR.p5 f (by omega)).wd
  ·exact zS y (by omega)
  ·exact PS.p5 x V.out (by omega)
 have b7 : (wd c.L i == [84,82,85,69]) = false := by simpa [gk] using h1
 by_cases h2 : wd c.L i = kj
 ·have b8 : (wd c.L i == [70,65,76,83,69]) = true := by rw [h2]; decide
  have Z : zV c.L E F i = _ := pr h2; go_wp2_with fail; go_at_call 199; refine (ql c _ i d 31 p1 (by rw [h2]; decide)).mono ?_; rintro e Y (⟨x2,j,l,b⟩ | ⟨⟨H,I,J,K,M⟩,j2,v2,j,rfl,⟨N,rfl,f⟩,b,x,O⟩)
  ·obtain ⟨q,rfl,-⟩ := id l; exact ⟨rfl,Steps.err (Z.trans j) l A b⟩
  have o : zV c.L E F i = _ := Z.trans j; simp only [T.kind,T.name,T.num,T.at',T.subs] at f ⊢; obtain ⟨R,U,rfl⟩ := f.form; obtain ⟨b2,r,f⟩ := f.nm
  try simp at r
  have y := zb A b; have B := b.size
  try simp at B
  have g := RB.k s b; have m := g.lt; obtain ⟨_,_,_,_,_,_,_,_,_,_,_⟩ := id g; go_wp2; refine zn Tryz.results191 rfl (RB.five ?_) rfl ?_
  ·exact g
  refine Steps.ok (a := (T.mk H I J K M)) o ⟨_,rfl,?_⟩ ?_ ?_ (by omega)
  ·exact (LR.p5 f (by omega)).wd
  ·exact zS y (by omega)
  ·exact PS.p5 x V.out (by omega)
 have b8 : (wd c.L i == [70,65,76,83,69]) = false := by simpa [kj] using h2
 by_cases h3 : wd c.L i = rB
 ·have b9 : (wd c.L i == [78,73,76]) = true := by rw [h3]; decide
  have a0 : zV c.L E F i = _ := mV h3; go_wp2_with fail; go_at_call 199; refine (ql c _ i d 32 p1 (by rw [h3]; decide)).mono ?_; rintro e Y (⟨x2,j,l,b⟩ | ⟨⟨H,I,J,K,M⟩,j2,v2,j,rfl,⟨N,rfl,f⟩,b,x,O⟩)
  ·obtain ⟨q,rfl,-⟩ := id l; exact ⟨rfl,Steps.err (a0.trans j) l A b⟩
  have o : zV c.L E F i = _ := a0.trans j; simp only [T.kind,T.name,T.num,T.at',T.subs] at f ⊢; obtain ⟨R,U,rfl⟩ := f.form; obtain ⟨b2,r,f⟩ := f.nm
  try simp at r
  have y := zb A b; have B := b.size
  try simp at B
  have g := RB.k s b; have m := g.lt; obtain ⟨_,_,_,_,_,_,_,_,_,_,_⟩ := id g; go_wp2; refine zn Tryz.results191 rfl (RB.five ?_) rfl ?_
  ·exact g
  refine Steps.ok (a := (T.mk H I J K M)) o ⟨_,rfl,?_⟩ ?_ ?_ (by omega)
  ·exact (LR.p5 f (by omega)).wd
  ·exact zS y (by omega)
  ·exact PS.p5 x V.out (by omega)
 have b9 : (wd c.L i == [78,73,76]) = false := by simpa [rB] using h3
 by_cases h4 : wd c.L i = uq
 ·have c0 : (wd c.L i == [126]) = true := by rw [h4]; decide
  have a1 : zV c.L E F i = _ := pu h4; go_wp2_with fail; go_at_call 200; refine (pe c _ i d F p1 hF).mono ?_; rintro e Y (⟨x2,j,l,b⟩ | ⟨⟨H,I,J,K,M⟩,j2,v2,j,rfl,⟨N,rfl,f⟩,b,x,O⟩)
  ·obtain ⟨q,rfl,-⟩ := id l; exact ⟨rfl,Steps.err (a1.trans j) l A b⟩
  have o : zV c.L E F i = _ := a1.trans j; simp only [T.kind,T.name,T.num,T.at',T.subs] at f ⊢; obtain ⟨R,U,rfl⟩ := f.form; obtain ⟨b2,r,f⟩ := f.nm
  try simp at r
  have y := zb A b; have B := b.size
  try simp at B
  have g := RB.k s b; have m := g.lt; obtain ⟨_,_,_,_,_,_,_,_,_,_,_⟩ := id g; go_wp2; refine zn Tryz.results191 rfl (RB.five ?_) rfl ?_
  ·exact g
  refine Steps.ok (a := (T.mk H I J K M)) o ⟨_,rfl,?_⟩ ?_ ?_ (by omega)
  ·exact (LR.p5 f (by omega)).wd
  ·exact zS y (by omega)
  ·exact PS.p5 x V.out (by omega)
 have c0 : (wd c.L i == [126]) = false := by simpa [uq] using h4
 by_cases h5 : wd c.L i = yw
 ·have c1 : (wd c.L i == [40]) = true := by rw [h5]; decide
  have a2 : zV c.L E F i = _ := cB h5; go_wp2_with fail; go_at_call 201; refine (tj c _ i d E p1 hE).mono ?_; rintro e Y (⟨x2,j,l,b⟩ | ⟨⟨H,I,J,K,M⟩,j2,v2,j,rfl,⟨N,rfl,f⟩,b,x,O⟩)
  ·obtain ⟨q,rfl,-⟩ := id l; exact ⟨rfl,Steps.err (a2.trans j) l A b⟩
  have o : zV c.L E F i = _ := a2.trans j; simp only [T.kind,T.name,T.num,T.at',T.subs] at f ⊢; obtain ⟨R,U,rfl⟩ := f.form; obtain ⟨b2,r,f⟩ := f.nm
  try simp at r
  have y := zb A b; have B := b.size
  try simp at B
  have g := RB.k s b; have m := g.lt; obtain ⟨_,_,_,_,_,_,_,_,_,_,_⟩ := id g; go_wp2; refine zn Tryz.results191 rfl (RB.five ?_) rfl ?_
  ·exact g
  refine Steps.ok (a := (T.mk H I J K M)) o ⟨_,rfl,?_⟩ ?_ ?_ (by omega)
  ·exact (LR.p5 f (by omega)).wd
  ·exact zS y (by omega)
  ·exact PS.p5 x V.out (by omega)
 have c1 : (wd c.L i == [40]) = false := by simpa [yw] using h5
 go_wp2_with fail; go_at_call 114; refine (uO c _ i d p1).mono ?_; rintro e Y ⟨rfl,b⟩; have x : PS c Y i d := PS.kept p1 b; have y : w.grownBy Y (some c.pb) := zb A (zJ b (some c.pb)); have B := b.size
 try simp at B
 have g : RB Y w.heap.size := RB.kept s b (by simp); have m := g.lt; obtain ⟨_,_,_,_,_,_,_,_,_,_,_⟩ := id g; cases b0 : zF (wd c.L i)
 ·have a3 : zV c.L E F i = _ := (fJ h1 h2 h3 h4 h5).trans (if_neg (by rw [b0]; decide))
  go_wp2_with fail; go_at_call 59; refine (yA c _ i d 29 x).mono ?_; rintro e w3 ⟨rfl,n⟩; have p3 : PS c w3 i d := PS.kept x n; have G3 : w.grownBy w3 (some c.pb) := zb y (zJ n (some c.pb)); have s3 := n.size
  try simp at s3
  have u : RB w3 w.heap.size := RB.kept g n (by simp); have a6 := u.lt; obtain ⟨_,_,_,_,_,_,_,_,_,_,_⟩ := id u; go_wp2_with fail; go_at_call 165; refine (dO c _ i d (PS.alloc p3 _)).mono ?_; rintro e w4 (⟨x4,a7,b1,z⟩ | ⟨a4,j4,v4,a7,rfl,rfl,z,p4,c7⟩)
  ·obtain ⟨q,rfl,-⟩ := id b1; exact ⟨rfl,Steps.err (a3.trans (P.bind_err a7)) b1 (zf G3 _) z⟩
  have c2 : zV c.L E F i = _ := a3.trans (P.bind_ok a7); have G4 : w.grownBy w4 (some c.pb) := zb (zf G3 _) z; have s4 := z.size
  try simp at s4
  have a8 : RB w4 w.heap.size := RB.k (RB.alloc u _) z; have b4 : NB w4 w3.heap.size (.int .i64 29) (.string ⟨#[]⟩) (.int .i64 0) (.int .i64 (pos c.L i)) (.slice none 0 0) := NB.k (NB.new' (by simp)) z; have c3 := a8.lt; have c4 := b4.lt; obtain ⟨_,_,_,_,_,_,_,_,_,_,_⟩ := id a8; obtain ⟨_,_,_,_,_,_⟩ := id b4; go_wp2; refine zn Tryz.results191 rfl (RB.five ?_) rfl ?_
  ·exact RB.put a8 _ _ _
  refine Steps.ok (a := (T.mk 29 [] a4 (pos c.L i) [])) c2 ⟨_,rfl,?_⟩ ?_ ?_ (by omega)
  ·exact LR.nil _ _
  ·exact zS (zC G4 (by omega) _ _) (by omega)
  ·exact PS.p5 (PS.put p4 V.out (by omega) _ _) V.out (by omega)
 ·have a5 : zV c.L E F i = _ := (fJ h1 h2 h3 h4 h5).trans (if_pos b0)
  go_wp2_with fail; go_at_call 202; refine (qP c _ i d E x hE (fun w i h => jV c w i d E h hE)).mono ?_; rintro e w3 (⟨x3,a9,b5,n⟩ | ⟨⟨k3,n3,m3,q3,l3⟩,j3,v3,a9,rfl,⟨c8,rfl,C⟩,n,p3,c9⟩)
  ·obtain ⟨q,rfl,-⟩ := id b5; exact ⟨rfl,Steps.err (a5.trans a9) b5 y n⟩
  have c5 : zV c.L E F i = _ := a5.trans a9; simp only [T.kind,T.name,T.num,T.at',T.subs] at C ⊢; obtain ⟨d0,d1,rfl⟩ := C.form; obtain ⟨b3,c6,C⟩ := C.nm
  try simp at c6
  have G3 := zb y n; have s3 := n.size
  try simp at s3
  have u := RB.k g n; have a6 := u.lt; obtain ⟨_,_,_,_,_,_,_,_,_,_,_⟩ := id u; go_wp2; refine zn Tryz.results191 rfl (RB.five ?_) rfl ?_
  ·exact u
  refine Steps.ok (a := (T.mk k3 n3 m3 q3 l3)) c5 ⟨_,rfl,?_⟩ ?_ ?_ (by omega)
  ·exact (LR.p5 C (by omega)).wd
  ·exact zS G3 (by omega)
  ·exact PS.p5 p3 V.out (by omega)
def WithinOK (c : PC) (d g : Nat) (q : P T) : Prop := ∀ (w : World) (i : Nat),PS c w i d -> Calls Tryz.prog 148 #[.pointer (some ⟨c.pb,0,none⟩),.func (.func g) #[.pointer (some ⟨c.pb,0,none⟩)] #[]] w (Steps c w i d (fun w' t v => TR w' w.heap.size w'.heap.size t v) (q i))
theorem qI (c : PC) (w : World) (i d : Nat) (q : P T) (h : PS c w i d) (hW : WithinOK c d 149 q) :
  Calls Tryz.prog 121 #[.pointer (some ⟨c.pb,0,none⟩)] w (Steps c w i d (fun w' t v => TR w' w.heap.size w'.heap.size t v) (q i)) := by
 have r := za h; have s := za h.low; have N := h.lt; clear h
 go_enter Tryz.func121,Tryz.ntmps121
 go_wp2_with fail; go_at_call 148; refine (hW _ i (PS.alloc r.out _)).mono ?_; rintro e u (⟨O,g,l,b⟩ | ⟨⟨x,y,z,A,B⟩,R,U,g,rfl,⟨C,rfl,f⟩,b,D,H⟩)
 ·obtain ⟨q,rfl,-⟩ := id l; exact ⟨rfl,Steps.err g l ga b⟩
 have m : q i = _ := g; simp only [T.kind,T.name,T.num,T.at',T.subs] at f ⊢; obtain ⟨I,J,rfl⟩ := f.form; obtain ⟨V,n,f⟩ := f.nm
 try simp at n
 have K := zb ga b; have M := b.size
 try simp at M
 have j : RB u w.heap.size := RB.k (RB.new' (by simp)) b; have o := j.lt; obtain ⟨_,_,_,_,_,_,_,_,_,_,_⟩ := id j; go_wp2; refine zn Tryz.results121 rfl (RB.five ?_) rfl ?_
 ·exact j
 refine Steps.ok (a := (T.mk x y z A B)) m ⟨_,rfl,?_⟩ ?_ ?_ (by omega)
 ·exact (LR.p5 f (by omega)).wd
 ·exact zS K (by omega)
 ·exact PS.p5 D s.out (by omega)
theorem pE (c : PC) (w : World) (i d : Nat) (q : P T) (h : PS c w i d) (hW : WithinOK c d 157 q) :
  Calls Tryz.prog 125 #[.pointer (some ⟨c.pb,0,none⟩)] w (Steps c w i d (fun w' t v => TR w' w.heap.size w'.heap.size t v) (q i)) := by
 have r := za h; have s := za h.low; have N := h.lt; clear h
 go_enter Tryz.func125,Tryz.ntmps125
 go_wp2_with fail; go_at_call 148; refine (hW _ i (PS.alloc r.out _)).mono ?_; rintro e u (⟨O,g,l,b⟩ | ⟨⟨x,y,z,A,B⟩,R,U,g,rfl,⟨C,rfl,f⟩,b,D,H⟩)
 ·obtain ⟨q,rfl,-⟩ := id l; exact ⟨rfl,Steps.err g l ga b⟩
 have m : q i = _ := g; simp only [T.kind,T.name,T.num,T.at',T.subs] at f ⊢; obtain ⟨I,J,rfl⟩ := f.form; obtain ⟨V,n,f⟩ := f.nm
 try simp at n
 have K := zb ga b; have M := b.size
 try simp at M
 have j : RB u w.heap.size := RB.k (RB.new' (by simp)) b; have o := j.lt; obtain ⟨_,_,_,_,_,_,_,_,_,_,_⟩ := id j; go_wp2; refine zn Tryz.results125 rfl (RB.five ?_) rfl ?_
 ·exact j
 refine Steps.ok (a := (T.mk x y z A B)) m ⟨_,rfl,?_⟩ ?_ ?_ (by omega)
 ·exact (LR.p5 f (by omega)).wd
 ·exact zS K (by omega)
 ·exact PS.p5 D s.out (by omega)
theorem io (c : PC) : ∀ (n d : Nat),d + n = 20 -> ExprOK c d (yy c.L n) /\ NegOK c d (xf c.L n)
 | 0,d,h => by
  have hd : ¬ d < 20 := by omega
  refine ⟨⟨fun w i hp _ => ?_,fun _ _ _ _ => trivial,enters_of Tryz.func121 (by kernel_rfl) rfl⟩,fun w i hp => ?_⟩
  ·refine qI c w i d (vM c.L) hp (fun w i hp => ?_)
   have hx := ja c w i d 149 (vM c.L) hp (by omega) (fun h => absurd h hd) (enters_of Tryz.func149 (by kernel_rfl) rfl); rw [if_neg hd] at hx
   exact hx
  ·have hx := ja c w i d 191 (vM c.L) hp (by omega) (fun h => absurd h hd) (enters_of Tryz.func191 (by kernel_rfl) rfl)
   rw [if_neg hd] at hx
   exact hx
 | n + 1,d,h => by
  have hd : d < 20 := by omega
  obtain ⟨hE,hF⟩ := io c n (d + 1) (by omega)
  have hfac : PartOK c (d + 1) 191 (zV c.L (yy c.L n) (xf c.L n)) := fun w i hp => mQ c w i (d + 1) _ _ hp hE hF
  have hfac' : Part c (d + 1) (fun _ => True) 191 #[.pointer (some ⟨c.pb,0,none⟩)] (zV c.L (yy c.L n) (xf c.L n)) := ⟨fun w i hp _ => hfac w i hp,fun _ _ _ _ => trivial,enters_of Tryz.func191 (by kernel_rfl) rfl⟩; have hprod : Part c (d + 1) (fun _ => True) 177 #[.pointer (some ⟨c.pb,0,none⟩)] (ur c.L (yy c.L n) (xf c.L n)) := ⟨fun w i hp _ => nc c w i (d + 1) _ _ hp hfac',fun _ _ _ _ => trivial,enters_of Tryz.func177 (by kernel_rfl) rfl⟩; have hsum : Part c (d + 1) (fun _ => True) 162 #[.pointer (some ⟨c.pb,0,none⟩)] (cr c.L (yy c.L n) (xf c.L n)) := ⟨fun w i hp _ => za0 c w i (d + 1) _ _ hp hprod,fun _ _ _ _ => trivial,enters_of Tryz.func162 (by kernel_rfl) rfl⟩
  have hrel : PartOK c (d + 1) 149 (yy c.L (n + 1)) := fun w i hp => rX c w i (d + 1) _ _ hp hsum
  refine ⟨⟨fun w i hp _ => ?_,fun _ _ _ _ => trivial,enters_of Tryz.func121 (by kernel_rfl) rfl⟩,fun w i hp => ?_⟩
  ·refine qI c w i d (yy c.L (n + 1)) hp (fun w i hp => ?_)
   have hx := ja c w i d 149 (yy c.L (n + 1)) hp (by omega) (fun _ => hrel) (enters_of Tryz.func149 (by kernel_rfl) rfl); rw [if_pos hd] at hx
   exact hx
  ·have hx := ja c w i d 191 (xf c.L (n + 1)) hp (by omega) (fun _ => hfac) (enters_of Tryz.func191 (by kernel_rfl) rfl)
   rw [if_pos hd] at hx
   exact hx
end Go.Proofs.YtfjgelmllcnokaaGreatDoor
