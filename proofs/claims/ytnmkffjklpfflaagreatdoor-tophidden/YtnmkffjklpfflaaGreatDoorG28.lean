/- Factors and expressions,level by level. -/
import Derived.Test.YtnmkffjklpfflaaGreatDoorG27
import Derived.Test.YtnmkffjklpfflaaGreatDoorG20
namespace Go.Proofs.YtnmkffjklpfflaaGreatDoor
open Go.RowKit
set_option maxHeartbeats 2000000
set_option maxRecDepth 100000
section
variable {L : List Tok} {E F : P T} {i : Nat}
theorem dH (h : wd L i = tR) : zJ L E F i = (P.ret (T.mk 30 [] 0 (pos L i) [])) (i + 1) := by unfold zJ; rw [if_pos h]; rfl
theorem fj (h : wd L i = qQ) : zJ L E F i = (P.ret (T.mk 31 [] 0 (pos L i) [])) (i + 1) := by unfold zJ; rw [if_neg (by rw [h]; decide),if_pos h]; rfl
theorem tt (h : wd L i = oV) : zJ L E F i = (P.ret (T.mk 32 [] 0 (pos L i) [])) (i + 1) := by unfold zJ; rw [if_neg (by rw [h]; decide),if_neg (by rw [h]; decide),if_pos h]; rfl
theorem fA (h : wd L i = xU) : zJ L E F i = ((zD L xU).bind fun _ => F.bind fun t => P.ret (T.mk 34 [] 0 (pos L i) [t])) i := by
 rw [P.bind_ok (a := ()) (j := i + 1) (by unfold zD; rw [if_pos h])]
 unfold zJ; rw [if_neg (by rw [h]; decide),if_neg (by rw [h]; decide),if_neg (by rw [h]; decide),if_pos h]
theorem ro (h : wd L i = xy) : zJ L E F i = ((zD L xy).bind fun _ => E.bind fun e => (zD L jk).bind fun _ => P.ret e) i := by
 rw [P.bind_ok (a := ()) (j := i + 1) (by unfold zD; rw [if_pos h])]
 unfold zJ; rw [if_neg (by rw [h]; decide),if_neg (by rw [h]; decide),if_neg (by rw [h]; decide),if_neg (by rw [h]; decide),if_pos h]
theorem jQ (h1 : wd L i ≠ tR) (h2 : wd L i ≠ qQ) (h3 : wd L i ≠ oV) (h4 : wd L i ≠ xU) (h5 : wd L i ≠ xy) : zJ L E F i = if yv (wd L i) = true then yB L E i else (gZ L).bind (fun n => P.ret (.mk 29 [] n (pos L i) [])) i := by
 unfold zJ; rw [if_neg h1,if_neg h2,if_neg h3,if_neg h4,if_neg h5]
end
theorem sz (c : PC) (w : World) (i d : Nat) (E F : P T) (h : PS c w i d) (hE : ExprOK c d E) (hF : NegOK c d F) :
  Calls Tryz.prog 220 #[.pointer (some ⟨c.pb,0,none⟩)] w (Steps c w i d (fun w' t v => TR w' w.heap.size w'.heap.size t v) (zJ c.L E F i)) := by
 have HP := ze h; have Y := ze h.low; have hb := h.lt; clear h
 go_enter Tryz.func220,Tryz.ntmps220
 go_wp2_with fail; go_at_call 68; refine (yR c _ i d (PS.alloc HP.out _)).mono ?_; rintro e w1 ⟨rfl,M⟩; have p1 : PS c w1 i d := PS.kept (PS.alloc HP.out _) M; have H : w.grownBy w1 (some c.pb) := za (zf (zc w (some c.pb)) _) (zv M (some c.pb)); have s1 := M.size
 try simp at s1
 have A : RB w1 w.heap.size := RB.kept (RB.new' (by simp)) M (by simp); have b7 := A.lt; obtain ⟨_,_,_,_,_,_,_,_,_,_,_⟩ := id A
 by_cases h1 : wd c.L i = tR
 ·have b8 : (wd c.L i == [84,82,85,69]) = true := by rw [h1]; decide
  have Z : zJ c.L E F i = _ := dH h1; go_wp2_with fail; go_at_call 226; refine (uE c _ i d 30 p1 (by rw [h1]; decide)).mono ?_; rintro e l (⟨x2,k,m,f⟩ | ⟨⟨N,O,Q,R,n⟩,j2,v2,k,rfl,⟨U,rfl,g⟩,f,C,V⟩)
  ·obtain ⟨q,rfl,-⟩ := id m; exact ⟨rfl,Steps.err (Z.trans k) m H f⟩
  have s : zJ c.L E F i = _ := Z.trans k; simp only [T.kind,T.name,T.num,T.at',T.subs] at g ⊢; obtain ⟨u,x,rfl⟩ := g.form; obtain ⟨X,z,g⟩ : ∃ b,b = _ /\ LR l (In b l.heap.size) n (.slice u n.length x) := ⟨_,rfl,g⟩
  try simp at z
  have D : w.grownBy l (some c.pb) := za H f; have I := f.size
  try simp at I
  have j : RB l w.heap.size := RB.keep A f (by omega); have o := j.lt; obtain ⟨_,_,_,_,_,_,_,_,_,_,_⟩ := id j; go_wp2; refine zj Tryz.results220 rfl (RB.five ?_) rfl ?_
  ·exact j
  refine Steps.ok (a := (T.mk N O Q R n)) s ⟨_,rfl,?_⟩ ?_ ?_ (by omega)
  ·refine LR.wide (lo := X) (hi := l.heap.size) (ts := n) ?_ (by omega) (by first | omega | (simp <;> omega))
   exact LR.p5 g (by omega)
  ·exact zy D (by omega)
  ·exact PS.p5 C Y.out (by omega)
 have b8 : (wd c.L i == [84,82,85,69]) = false := by simpa [tR] using h1
 by_cases h2 : wd c.L i = qQ
 ·have b9 : (wd c.L i == [70,65,76,83,69]) = true := by rw [h2]; decide
  have a0 : zJ c.L E F i = _ := fj h2; go_wp2_with fail; go_at_call 226; refine (uE c _ i d 31 p1 (by rw [h2]; decide)).mono ?_; rintro e l (⟨x2,k,m,f⟩ | ⟨⟨N,O,Q,R,n⟩,j2,v2,k,rfl,⟨U,rfl,g⟩,f,C,V⟩)
  ·obtain ⟨q,rfl,-⟩ := id m; exact ⟨rfl,Steps.err (a0.trans k) m H f⟩
  have s : zJ c.L E F i = _ := a0.trans k; simp only [T.kind,T.name,T.num,T.at',T.subs] at g ⊢; obtain ⟨u,x,rfl⟩ := g.form; obtain ⟨X,z,g⟩ : ∃ b,b = _ /\ LR l (In b l.heap.size) n (.slice u n.length x) := ⟨_,rfl,g⟩
  try simp at z
  have D : w.grownBy l (some c.pb) := za H f; have I := f.size
  try simp at I
  have j : RB l w.heap.size := RB.keep A f (by omega); have o := j.lt; obtain ⟨_,_,_,_,_,_,_,_,_,_,_⟩ := id j; go_wp2; refine zj Tryz.results220 rfl (RB.five ?_) rfl ?_
  ·exact j
  refine Steps.ok (a := (T.mk N O Q R n)) s ⟨_,rfl,?_⟩ ?_ ?_ (by omega)
  ·refine LR.wide (lo := X) (hi := l.heap.size) (ts := n) ?_ (by omega) (by first | omega | (simp <;> omega))
   exact LR.p5 g (by omega)
  ·exact zy D (by omega)
  ·exact PS.p5 C Y.out (by omega)
 have b9 : (wd c.L i == [70,65,76,83,69]) = false := by simpa [qQ] using h2
 by_cases h3 : wd c.L i = oV
 ·have c0 : (wd c.L i == [78,73,76]) = true := by rw [h3]; decide
  have a1 : zJ c.L E F i = _ := tt h3; go_wp2_with fail; go_at_call 226; refine (uE c _ i d 32 p1 (by rw [h3]; decide)).mono ?_; rintro e l (⟨x2,k,m,f⟩ | ⟨⟨N,O,Q,R,n⟩,j2,v2,k,rfl,⟨U,rfl,g⟩,f,C,V⟩)
  ·obtain ⟨q,rfl,-⟩ := id m; exact ⟨rfl,Steps.err (a1.trans k) m H f⟩
  have s : zJ c.L E F i = _ := a1.trans k; simp only [T.kind,T.name,T.num,T.at',T.subs] at g ⊢; obtain ⟨u,x,rfl⟩ := g.form; obtain ⟨X,z,g⟩ : ∃ b,b = _ /\ LR l (In b l.heap.size) n (.slice u n.length x) := ⟨_,rfl,g⟩
  try simp at z
  have D : w.grownBy l (some c.pb) := za H f; have I := f.size
  try simp at I
  have j : RB l w.heap.size := RB.keep A f (by omega); have o := j.lt; obtain ⟨_,_,_,_,_,_,_,_,_,_,_⟩ := id j; go_wp2; refine zj Tryz.results220 rfl (RB.five ?_) rfl ?_
  ·exact j
  refine Steps.ok (a := (T.mk N O Q R n)) s ⟨_,rfl,?_⟩ ?_ ?_ (by omega)
  ·refine LR.wide (lo := X) (hi := l.heap.size) (ts := n) ?_ (by omega) (by first | omega | (simp <;> omega))
   exact LR.p5 g (by omega)
  ·exact zy D (by omega)
  ·exact PS.p5 C Y.out (by omega)
 have c0 : (wd c.L i == [78,73,76]) = false := by simpa [oV] using h3
 by_cases h4 : wd c.L i = xU
 ·have c1 : (wd c.L i == [126]) = true := by rw [h4]; decide
  have a2 : zJ c.L E F i = _ := fA h4; go_wp2_with fail; go_at_call 227; refine (fD c _ i d F p1 hF).mono ?_; rintro e l (⟨x2,k,m,f⟩ | ⟨⟨N,O,Q,R,n⟩,j2,v2,k,rfl,⟨U,rfl,g⟩,f,C,V⟩)
  ·obtain ⟨q,rfl,-⟩ := id m; exact ⟨rfl,Steps.err (a2.trans k) m H f⟩
  have s : zJ c.L E F i = _ := a2.trans k; simp only [T.kind,T.name,T.num,T.at',T.subs] at g ⊢; obtain ⟨u,x,rfl⟩ := g.form; obtain ⟨X,z,g⟩ : ∃ b,b = _ /\ LR l (In b l.heap.size) n (.slice u n.length x) := ⟨_,rfl,g⟩
  try simp at z
  have D : w.grownBy l (some c.pb) := za H f; have I := f.size
  try simp at I
  have j : RB l w.heap.size := RB.keep A f (by omega); have o := j.lt; obtain ⟨_,_,_,_,_,_,_,_,_,_,_⟩ := id j; go_wp2; refine zj Tryz.results220 rfl (RB.five ?_) rfl ?_
  ·exact j
  refine Steps.ok (a := (T.mk N O Q R n)) s ⟨_,rfl,?_⟩ ?_ ?_ (by omega)
  ·refine LR.wide (lo := X) (hi := l.heap.size) (ts := n) ?_ (by omega) (by first | omega | (simp <;> omega))
   exact LR.p5 g (by omega)
  ·exact zy D (by omega)
  ·exact PS.p5 C Y.out (by omega)
 have c1 : (wd c.L i == [126]) = false := by simpa [xU] using h4
 by_cases h5 : wd c.L i = xy
 ·have c2 : (wd c.L i == [40]) = true := by rw [h5]; decide
  have a3 : zJ c.L E F i = _ := ro h5; go_wp2_with fail; go_at_call 228; refine (qf c _ i d E p1 hE).mono ?_; rintro e l (⟨x2,k,m,f⟩ | ⟨⟨N,O,Q,R,n⟩,j2,v2,k,rfl,⟨U,rfl,g⟩,f,C,V⟩)
  ·obtain ⟨q,rfl,-⟩ := id m; exact ⟨rfl,Steps.err (a3.trans k) m H f⟩
  have s : zJ c.L E F i = _ := a3.trans k; simp only [T.kind,T.name,T.num,T.at',T.subs] at g ⊢; obtain ⟨u,x,rfl⟩ := g.form; obtain ⟨X,z,g⟩ : ∃ b,b = _ /\ LR l (In b l.heap.size) n (.slice u n.length x) := ⟨_,rfl,g⟩
  try simp at z
  have D : w.grownBy l (some c.pb) := za H f; have I := f.size
  try simp at I
  have j : RB l w.heap.size := RB.keep A f (by omega); have o := j.lt; obtain ⟨_,_,_,_,_,_,_,_,_,_,_⟩ := id j; go_wp2; refine zj Tryz.results220 rfl (RB.five ?_) rfl ?_
  ·exact j
  refine Steps.ok (a := (T.mk N O Q R n)) s ⟨_,rfl,?_⟩ ?_ ?_ (by omega)
  ·refine LR.wide (lo := X) (hi := l.heap.size) (ts := n) ?_ (by omega) (by first | omega | (simp <;> omega))
   exact LR.p5 g (by omega)
  ·exact zy D (by omega)
  ·exact PS.p5 C Y.out (by omega)
 have c2 : (wd c.L i == [40]) = false := by simpa [xy] using h5
 go_wp2_with fail; go_at_call 138; refine (xl c _ i d p1).mono ?_; rintro e l ⟨rfl,f⟩; have C : PS c l i d := PS.kept p1 f; have D : w.grownBy l (some c.pb) := za H (zv f (some c.pb)); have I := f.size
 try simp at I
 have j : RB l w.heap.size := RB.kept A f (by simp); have o := j.lt; obtain ⟨_,_,_,_,_,_,_,_,_,_,_⟩ := id j; cases b1 : yv (wd c.L i)
 ·have a5 : zJ c.L E F i = _ := (jQ h1 h2 h3 h4 h5).trans (if_neg (by rw [b1]; decide))
  go_wp2_with fail; go_at_call 87; refine (zI c _ i d 29 C).mono ?_; rintro e K ⟨rfl,r⟩; have p3 : PS c K i d := PS.kept C r; have G3 : w.grownBy K (some c.pb) := za D (zv r (some c.pb)); have s3 := r.size
  try simp at s3
  have B : RB K w.heap.size := RB.kept j r (by simp); have a7 := B.lt; obtain ⟨_,_,_,_,_,_,_,_,_,_,_⟩ := id B; go_wp2_with fail; go_at_call 202; refine (kU c _ i d (PS.alloc p3 _)).mono ?_; rintro e w4 (⟨x4,a8,b4,G⟩ | ⟨a4,j4,v4,a8,rfl,rfl,G,p4,d0⟩)
  ·obtain ⟨q,rfl,-⟩ := id b4; exact ⟨rfl,Steps.err (a5.trans (P.bind_err a8)) b4 (zf G3 _) G⟩
  have c3 : zJ c.L E F i = _ := a5.trans (P.bind_ok a8); have G4 : w.grownBy w4 (some c.pb) := za (zf G3 _) G; have s4 := G.size
  try simp at s4
  have a9 : RB w4 w.heap.size := RB.keep (RB.alloc B _) G (by omega); have b5 : NB w4 K.heap.size (.int .i64 29) (.string ⟨#[]⟩) (.int .i64 0) (.int .i64 (pos c.L i)) (.slice none 0 0) := NB.keep (NB.new' (by simp)) G (by omega); have c4 := a9.lt; have c5 := b5.lt; obtain ⟨_,_,_,_,_,_,_,_,_,_,_⟩ := id a9; obtain ⟨_,_,_,_,_,_⟩ := id b5; go_wp2; refine zj Tryz.results220 rfl (RB.five ?_) rfl ?_
  ·exact RB.put a9 _ _ _
  refine Steps.ok (a := (T.mk 29 [] a4 (pos c.L i) [])) c3 ⟨_,rfl,?_⟩ ?_ ?_ (by omega)
  ·exact LR.nil _ _
  ·exact zy (zq G4 (by omega) _ _) (by omega)
  ·exact PS.p5 (PS.put p4 Y.out (by omega) _ _) Y.out (by omega)
 ·have a6 : zJ c.L E F i = _ := (jQ h1 h2 h3 h4 h5).trans (if_pos b1)
  go_wp2_with fail; go_at_call 229; refine (uM c _ i d E C hE (fun w i h => vf c w i d E h hE)).mono ?_; rintro e K (⟨x3,b0,b6,r⟩ | ⟨⟨k3,n3,m3,q3,l3⟩,j3,v3,b0,rfl,⟨d1,rfl,J⟩,r,p3,d2⟩)
  ·obtain ⟨q,rfl,-⟩ := id b6; exact ⟨rfl,Steps.err (a6.trans b0) b6 D r⟩
  have c6 : zJ c.L E F i = _ := a6.trans b0; simp only [T.kind,T.name,T.num,T.at',T.subs] at J ⊢; obtain ⟨c7,c8,rfl⟩ := J.form; obtain ⟨b3,c9,J⟩ : ∃ b,b = _ /\ LR K (In b K.heap.size) l3 (.slice c7 l3.length c8) := ⟨_,rfl,J⟩
  try simp at c9
  have G3 : w.grownBy K (some c.pb) := za D r; have s3 := r.size
  try simp at s3
  have B : RB K w.heap.size := RB.keep j r (by omega); have a7 := B.lt; obtain ⟨_,_,_,_,_,_,_,_,_,_,_⟩ := id B; go_wp2; refine zj Tryz.results220 rfl (RB.five ?_) rfl ?_
  ·exact B
  refine Steps.ok (a := (T.mk k3 n3 m3 q3 l3)) c6 ⟨_,rfl,?_⟩ ?_ ?_ (by omega)
  ·refine LR.wide (lo := b3) (hi := K.heap.size) (ts := l3) ?_ (by omega) (by first | omega | (simp <;> omega))
   exact LR.p5 J (by omega)
  ·exact zy G3 (by omega)
  ·exact PS.p5 p3 Y.out (by omega)
def WithinOK (c : PC) (d g : Nat) (q : P T) : Prop := ∀ (w : World) (i : Nat),PS c w i d -> Calls Tryz.prog 172 #[.pointer (some ⟨c.pb,0,none⟩),.func (.func g) #[.pointer (some ⟨c.pb,0,none⟩)] #[]] w (Steps c w i d (fun w' t v => TR w' w.heap.size w'.heap.size t v) (q i))
theorem uK (c : PC) (w : World) (i d : Nat) (q : P T) (h : PS c w i d) (hW : WithinOK c d 173 q) :
  Calls Tryz.prog 145 #[.pointer (some ⟨c.pb,0,none⟩)] w (Steps c w i d (fun w' t v => TR w' w.heap.size w'.heap.size t v) (q i)) := by
 have z := ze h; have A := ze h.low; have O := h.lt; clear h
 go_enter Tryz.func145,Tryz.ntmps145
 go_wp2_with fail; go_at_call 172; refine (hW _ i (PS.alloc z.out _)).mono ?_; rintro e l (⟨Q,j,m,f⟩ | ⟨⟨B,C,D,G,n⟩,R,U,j,rfl,⟨H,rfl,g⟩,f,I,J⟩)
 ·obtain ⟨q,rfl,-⟩ := id m; exact ⟨rfl,Steps.err j m (zf (zc w (some c.pb)) _) f⟩
 have o : q i = _ := j; simp only [T.kind,T.name,T.num,T.at',T.subs] at g ⊢; obtain ⟨r,s,rfl⟩ := g.form; obtain ⟨K,u,g⟩ : ∃ b,b = _ /\ LR l (In b l.heap.size) n (.slice r n.length s) := ⟨_,rfl,g⟩
 try simp at u
 have M : w.grownBy l (some c.pb) := za (zf (zc w (some c.pb)) _) f; have N := f.size
 try simp at N
 have k : RB l w.heap.size := RB.keep (RB.new' (by simp)) f (by omega); have x := k.lt; obtain ⟨_,_,_,_,_,_,_,_,_,_,_⟩ := id k; go_wp2; refine zj Tryz.results145 rfl (RB.five ?_) rfl ?_
 ·exact k
 refine Steps.ok (a := (T.mk B C D G n)) o ⟨_,rfl,?_⟩ ?_ ?_ (by omega)
 ·refine LR.wide (lo := K) (hi := l.heap.size) (ts := n) ?_ (by omega) (by first | omega | (simp <;> omega))
  exact LR.p5 g (by omega)
 ·exact zy M (by omega)
 ·exact PS.p5 I A.out (by omega)
theorem fR (c : PC) (w : World) (i d : Nat) (q : P T) (h : PS c w i d) (hW : WithinOK c d 181 q) :
  Calls Tryz.prog 149 #[.pointer (some ⟨c.pb,0,none⟩)] w (Steps c w i d (fun w' t v => TR w' w.heap.size w'.heap.size t v) (q i)) := by
 have z := ze h; have A := ze h.low; have O := h.lt; clear h
 go_enter Tryz.func149,Tryz.ntmps149
 go_wp2_with fail; go_at_call 172; refine (hW _ i (PS.alloc z.out _)).mono ?_; rintro e l (⟨Q,j,m,f⟩ | ⟨⟨B,C,D,G,n⟩,R,U,j,rfl,⟨H,rfl,g⟩,f,I,J⟩)
 ·obtain ⟨q,rfl,-⟩ := id m; exact ⟨rfl,Steps.err j m (zf (zc w (some c.pb)) _) f⟩
 have o : q i = _ := j; simp only [T.kind,T.name,T.num,T.at',T.subs] at g ⊢; obtain ⟨r,s,rfl⟩ := g.form; obtain ⟨K,u,g⟩ : ∃ b,b = _ /\ LR l (In b l.heap.size) n (.slice r n.length s) := ⟨_,rfl,g⟩
 try simp at u
 have M : w.grownBy l (some c.pb) := za (zf (zc w (some c.pb)) _) f; have N := f.size
 try simp at N
 have k : RB l w.heap.size := RB.keep (RB.new' (by simp)) f (by omega); have x := k.lt; obtain ⟨_,_,_,_,_,_,_,_,_,_,_⟩ := id k; go_wp2; refine zj Tryz.results149 rfl (RB.five ?_) rfl ?_
 ·exact k
 refine Steps.ok (a := (T.mk B C D G n)) o ⟨_,rfl,?_⟩ ?_ ?_ (by omega)
 ·refine LR.wide (lo := K) (hi := l.heap.size) (ts := n) ?_ (by omega) (by first | omega | (simp <;> omega))
  exact LR.p5 g (by omega)
 ·exact zy M (by omega)
 ·exact PS.p5 I A.out (by omega)
theorem sY (c : PC) : ∀ (n d : Nat),d + n = 20 -> ExprOK c d (uH c.L n) /\ NegOK c d (xu c.L n)
 | 0,d,h => by
  have hd : ¬ d < 20 := by omega
  refine ⟨⟨fun w i hp _ => ?_,fun _ _ _ _ => trivial,enters_of Tryz.func145 (by kernel_rfl) rfl⟩,fun w i hp => ?_⟩
  ·refine uK c w i d (vi c.L) hp (fun w i hp => ?_)
   have hx := xt c w i d 173 (vi c.L) hp (by omega) (fun h => absurd h hd) (enters_of Tryz.func173 (by kernel_rfl) rfl); rw [if_neg hd] at hx
   exact hx
  ·have hx := xt c w i d 220 (vi c.L) hp (by omega) (fun h => absurd h hd) (enters_of Tryz.func220 (by kernel_rfl) rfl)
   rw [if_neg hd] at hx
   exact hx
 | n + 1,d,h => by
  have hd : d < 20 := by omega
  obtain ⟨hE,hF⟩ := sY c n (d + 1) (by omega)
  have hfac : PartOK c (d + 1) 220 (zJ c.L (uH c.L n) (xu c.L n)) := fun w i hp => sz c w i (d + 1) _ _ hp hE hF
  have hfac' : Part c (d + 1) (fun _ => True) 220 #[.pointer (some ⟨c.pb,0,none⟩)] (zJ c.L (uH c.L n) (xu c.L n)) := ⟨fun w i hp _ => hfac w i hp,fun _ _ _ _ => trivial,enters_of Tryz.func220 (by kernel_rfl) rfl⟩; have hprod : Part c (d + 1) (fun _ => True) 211 #[.pointer (some ⟨c.pb,0,none⟩)] (xE c.L (uH c.L n) (xu c.L n)) := ⟨fun w i hp _ => dO c w i (d + 1) _ _ hp hfac',fun _ _ _ _ => trivial,enters_of Tryz.func211 (by kernel_rfl) rfl⟩; have hsum : Part c (d + 1) (fun _ => True) 199 #[.pointer (some ⟨c.pb,0,none⟩)] (fs c.L (uH c.L n) (xu c.L n)) := ⟨fun w i hp _ => nk c w i (d + 1) _ _ hp hprod,fun _ _ _ _ => trivial,enters_of Tryz.func199 (by kernel_rfl) rfl⟩
  have hrel : PartOK c (d + 1) 173 (uH c.L (n + 1)) := fun w i hp => fg c w i (d + 1) _ _ hp hsum
  refine ⟨⟨fun w i hp _ => ?_,fun _ _ _ _ => trivial,enters_of Tryz.func145 (by kernel_rfl) rfl⟩,fun w i hp => ?_⟩
  ·refine uK c w i d (uH c.L (n + 1)) hp (fun w i hp => ?_)
   have hx := xt c w i d 173 (uH c.L (n + 1)) hp (by omega) (fun _ => hrel) (enters_of Tryz.func173 (by kernel_rfl) rfl); rw [if_pos hd] at hx
   exact hx
  ·have hx := xt c w i d 220 (xu c.L (n + 1)) hp (by omega) (fun _ => hfac) (enters_of Tryz.func220 (by kernel_rfl) rfl)
   rw [if_pos hd] at hx
   exact hx
end Go.Proofs.YtnmkffjklpfflaaGreatDoor
