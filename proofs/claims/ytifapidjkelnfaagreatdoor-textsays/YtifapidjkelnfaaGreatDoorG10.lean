/- The document's reader,told loosely: declarations. -/
import Derived.Test.YtifapidjkelnfaaGreatDoorG08
import Derived.Test.YtifapidjkelnfaaGreatDoorG09
namespace Go.Proofs.YtifapidjkelnfaaGreatDoor
open Go.RowKit
theorem KX.hi {w : World} {b lo hi N : Nat} (h : KX w b lo hi N) : hi <= w.heap.size := by
 obtain ⟨_,_,_,_,_,_,h⟩ := h
 exact h.hw
def CE (w : World) (b : Nat) (x : Bs) : Prop := w.cell? ⟨b,1,none⟩ = some (.string ⟨x.toArray⟩)
section
variable {w w' : World} {b b' lo hi M : Nat} {x : Bs} {row : Option Nat} {ob : Obj}
theorem CE.kept (h : CE w b x) (hg : w.grownBy w' row) (h1 : some b ≠ row) : CE w' b x := zO hg h h1
theorem CE.call (h : CE w b x) (hg : w.grownBy w' (some b')) (hb : b' < b := by omega) : CE w' b x := h.kept hg (by simp; omega)
theorem CE.alloc (h : CE w b x) (o : Obj) : CE (w.alloc o) b x := h.kept (World.grownBy_alloc w o none) (by simp)
theorem CE.drewN (h : CE w b x) (n : Nat) : CE (w.drewN n) b x := h.kept (yl (zj w none) n) (by simp)
theorem CE.drew (h : CE w b x) : CE w.drew b x := h.drewN 1
theorem CE.put (h : CE w b x) {o : Nat} (h1 : b' ≠ b \/ o ≠ 1) (u : Value) : CE (w.setCell ⟨b',o,none⟩ u) b x := by
 unfold CE
 rw [World.cell?_setCell_other _ _ _ _ (by simp; omega)]
 exact h
theorem CE.ev (h : CE w b x) (e : CE w b x -> CE w' b x := by intro h; repeat' (first | with_reducible exact h | with_reducible refine CE.put ?_ (by omega) _ | with_reducible refine CE.alloc ?_ _ | with_reducible refine CE.drewN ?_ _ | with_reducible refine CE.drew ?_)) : CE w' b x := e h
theorem CE.sl (e : w = w') (h : CE w b x) : CE w' b x := e ▸ h
theorem CE.k {w1 : World} (h : CE w b x) (hg : w1.grownBy w' (some b')) (e : CE w b x -> CE w1 b x := by intro h; repeat' (first | with_reducible exact h | with_reducible refine CE.put ?_ (by omega) _ | with_reducible refine CE.alloc ?_ _ | with_reducible refine CE.drewN ?_ _ | with_reducible refine CE.drew ?_)) (hb : b' < b := by omega) : CE w' b x := (e h).call hg hb
theorem LR.cl {l : List T} {v : Value} (h : LR w (In lo hi) l v) (hg : w.grownBy w' (some b')) (hb : b' < lo := by omega) : LR w' (In lo hi) l v := h.kept hg (fun _ e hs => by cases e; have : lo <= b' := hs.1; omega)
theorem RB.ap (h : RB w b) (hg : (w.alloc ob).grownBy w' row) (hr : ∀ g,row = some g -> lo <= g /\ g < hi) (h1 : b < lo \/ hi <= b := by omega) : RB w' b := (h.alloc _).kept hg (fun e => by have := hr _ e.symm; omega)
theorem CE.ap (h : CE w b x) (hg : (w.alloc ob).grownBy w' row) (hr : ∀ g,row = some g -> lo <= g /\ g < hi) (h1 : b < lo \/ hi <= b := by omega) : CE w' b x := (h.alloc _).kept hg (fun e => by have := hr _ e.symm; omega)
theorem KX.ap {lo2 hi2 : Nat} (h : KX w b lo2 hi2 M) (hg : (w.alloc ob).grownBy w' row) (hr : ∀ g,row = some g -> lo <= g /\ g < hi) (h1 : b < lo \/ hi <= b := by omega) (h2 : hi2 <= lo := by omega) : KX w' b lo2 hi2 M := (h.alloc _).kept hg (fun e => by have := hr _ e.symm; omega) (fun g e => by have := hr g e; omega)
theorem KN.in {k m p : Int} {l : List T} {sv : Value} (h : KN w b lo hi M k x m p l sv) {g0 : Nat} (h1 : g0 <= lo := by omega) : LR w (In g0 w.heap.size) l sv := h.lr.mono (fun _ hj => ⟨Nat.le_trans h1 hj.1.1,Nat.lt_of_lt_of_le hj.1.2 h.hw⟩)
theorem KN.ft {k m p : Int} {l : List T} {sv : Value} (h : KN w b lo hi M k x m p l sv) : FT (.mk k x m p l) := Proofs.YtifapidjkelnfaaGreatDoor.ft h.fl h.hx h.hk h.hm
end
section
variable {ops : Array Oper} {rest : List Oper} {o : Oper} {act : Act} {K : Act -> World -> Prop} {Q : Exit -> Act -> World -> Prop} {E' : Prop} {c : KC} {a w : World} {i b lo hi N g0 cp nn : Nat} {E k m p : Int} {x : Bs} {l ts : List T} {ad : Option Addr} {ob : Obj}
theorem ni {w' : World} {v' : Value} (h : KS c a w i E) (n : KN w b lo hi N k x m p l (.slice ad l.length cp)) (hf : FL ts) (h4 : a.heap.size <= lo) (h10 : b < lo) (hin : ∀ g,(Value.slice ad l.length cp).ownBlock = some g -> lo <= g /\ g < hi) (lr : LR w' (In lo w'.heap.size) (l ++ ts) v') (hg : (w.alloc ob).grownBy w' (Value.slice ad l.length cp).ownBlock) :
  KS c a w' i E /\ NB w' b (.int .i64 k) (.string ⟨x.toArray⟩) (.int .i64 m) (.int .i64 p) (.slice ad l.length cp) /\ KX (w'.setCell ⟨b,4,none⟩ v') b lo w'.heap.size (N + ts.length) /\ w.heap.size + 1 <= w'.heap.size := by
 have q := hg.size; simp only [World.size_alloc] at q; have f := (n.nb.alloc _).kept hg (fun e => by have := hin b e.symm; omega)
 exact ⟨(h.alloc _).far hg (fun g e => Nat.le_trans h4 (hin g e).1) (jL (h.alloc _).g hg (fun g e => Nat.le_trans h4 (hin g e).1)),f,
  ⟨k,x,m,p,_,_,f.s4 _,(lr.mono (fun j hj => ⟨hj,by have : lo <= j := hj.1; omega⟩)).mine _ _,n.fl.app hf,by simp [World.setCell],n.hx,n.hk,n.hm,by have := n.len; simp; omega⟩,q⟩
theorem ry (hgd : o.guard = none) (s t : Operand) (ho : o.op = .call { callee := .builtin .append,args := #[s,t],argTypes := #[22,22] }) (h : KS c a w i E) (n : KN w b lo hi N k x m p l (.slice ad l.length cp)) (hf : FL ts) (key : LR (w.alloc ob) (In g0 (w.heap.size + 1)) ts (.slice (some ⟨w.heap.size,0,none⟩) nn nn))
  (hs : act.eval s = .slice ad l.length cp) (ht : act.eval t = .slice (some ⟨w.heap.size,0,none⟩) nn nn)
  (q : ∀ ad' ln' cp' w' row,KS c a w' i E -> NB w' b (.int .i64 k) (.string ⟨x.toArray⟩) (.int .i64 m) (.int .i64 p) (.slice ad l.length cp) -> KX (w'.setCell ⟨b,4,none⟩ (.slice ad' ln' cp')) b lo w'.heap.size (N + ts.length) -> w.heap.size + 1 <= w'.heap.size -> (w.alloc ob).grownBy w' row -> (∀ g,row = some g -> lo <= g /\ g < hi) -> wpList Tryz.prog ops Q rest (act.put o.dst (.slice ad' ln' cp')) w')
  (h1 : hi <= g0 := by omega) (h3 : g0 <= w.heap.size := by omega) (h4 : a.heap.size <= lo := by omega) (h5 : lo <= g0 := by omega) (h7 : N + ts.length <= 9000 := by simp <;> omega) (h10 : b < lo := by omega) :
  wpList Tryz.prog ops Q (o :: rest) act (w.alloc ob) := by
 obtain ⟨_,_,_,f,_⟩ := n.lr.own; refine vf hgd s t ho hs ht ((n.lr.kept (World.grownBy_alloc w _ none) (fun _ e => by cases e)).mono (fun j hj => hj.1)) key h5 h1 (by simp; omega) (by simp) (by have := n.len; omega) ?_; intro A w' lr r; obtain ⟨u,v,y,z⟩ := ni h n hf h4 h10 (fun g e => (f g e).1) lr r; obtain ⟨ad',cp',rfl⟩ := lr.form
 exact q ad' _ cp' w' _ u v y z r (fun g e => (f g e).1)
theorem nX (hgd : o.guard = none) (s t : Operand) (ho : o.op = .call { callee := .builtin .append,args := #[s,t],argTypes := #[22,22] }) (h : KS c a w i E) (n : KN w b lo hi N k x m p l (.slice ad l.length cp)) (hf : FL ts) (key : LR (w.alloc ob) (In g0 (w.heap.size + 1)) ts (.slice (some ⟨w.heap.size,0,none⟩) nn nn))
  (hs : act.eval s = .slice ad l.length cp) (ht : act.eval t = .slice (some ⟨w.heap.size,0,none⟩) nn nn)
  (q : ∀ ad' ln' cp' w' row,KS c a w' i E -> NB w' b (.int .i64 k) (.string ⟨x.toArray⟩) (.int .i64 m) (.int .i64 p) (.slice ad l.length cp) -> KX (w'.setCell ⟨b,4,none⟩ (.slice ad' ln' cp')) b lo w'.heap.size (N + ts.length) -> w.heap.size + 1 <= w'.heap.size -> (w.alloc ob).grownBy w' row -> (∀ g,row = some g -> lo <= g /\ g < hi) -> K (act.put o.dst (.slice ad' ln' cp')) w')
  (h1 : hi <= g0 := by omega) (h3 : g0 <= w.heap.size := by omega) (h4 : a.heap.size <= lo := by omega) (h5 : lo <= g0 := by omega) (h7 : N + ts.length <= 9000 := by simp <;> omega) (h10 : b < lo := by omega) :
  if Region.wanted o (yielded ops act.tmps) = true then Oper.wp Tryz.prog o act (w.alloc ob) K Q else E' := by
 obtain ⟨_,_,_,r,_⟩ := n.lr.own
 have f := fun g e => (r g e).1
 refine jP (v := .slice ad l.length cp) hgd s t ho (In lo (w.heap.size + 2)) hs ht (n.lr.kept (World.grownBy_alloc w _ none) (fun _ e => by cases e)) key
  (fun j hj e => by have u := f j e; have D : g0 <= j := hj.1; omega) (fun j hj => ⟨hj.1.1,by have u := hj.1.2; have := n.hw; omega⟩) (fun j hj => ⟨by have u : g0 <= j := hj.1; omega,by have u : j < w.heap.size + 1 := hj.2; omega⟩) ⟨by simp; omega,by simp⟩ (by have := n.len; omega) ?_
 intro F w' lr y; obtain ⟨z,A,B,C⟩ := ni h n hf h4 h10 f (lr.bounded.mono (fun j hj => ⟨hj.1.1,hj.2⟩)) y; obtain ⟨ad',cp',rfl⟩ := lr.form
 exact q ad' _ cp' w' _ z A B C y f
end
theorem lT {w : World} {lo g : Nat} {t1 t2 : T} {v1 v2 : Value} {cs : Array Value} (e1 : LR w (In lo g) t1.subs v1) (e2 : LR w (In lo g) t2.subs v2) (hg : g = w.heap.size := by rfl) (hc : cs.toList = xg [t1,t2] [v1,v2] := by rfl) (hlo : lo <= g := by omega) : LR (w.alloc (.cells cs 24)) (In lo (g + 1)) [t1,t2] (.slice (some ⟨g,0,none⟩) 2 2) :=
 LR.build w (svs := [v1,v2]) hg rfl hc rfl (by simp) hlo (fun i t' sv' h3 h4 => by
  match i,h3,h4 with
  | 0,h3,h4 => cases h3; cases h4; exact e1
  | 1,h3,h4 => cases h3; cases h4; exact e2)
set_option maxRecDepth 100000 in
set_option maxHeartbeats 4000000 in
theorem gu (c : KC) (kd : Int) (w : World) (i : Nat) (E : Int) (p : KS c w w i E) (hk : i64 kd) (hK : kd = 5 -> ∀ (w : World) (i : Nat) (E : Int),KS c w w i E -> Calls Tryz.prog 96 #[.pointer (some ⟨c.rb,0,none⟩)] w (Kr c w i E 1 (KT w.heap.size))) : Calls Tryz.prog 58 #[.pointer (some ⟨c.rb,0,none⟩),.int .i64 kd] w (Kr c w i E 1 (KT w.heap.size)) := by
 have V := p.l1; have X := p.il; have q := p.few.1
 go_enter Tryz.func58,Tryz.ntmps58
 go_wp2_with fail; go_at_call 27; refine (kn p.ev fun h => yN c _ _ _ h).mono ?_; rintro _ s ⟨rfl,p,g⟩; have r := (RB.new w _).call g; have v := g.size
 try simp at v
 go_wp2_with fail; go_at_call 29; refine (kc p.ev fun h => xD c _ _ _ h).mono ?_; rintro _ Y ⟨_,Z,E2,rfl,⟨x,rfl,hx,-⟩,p,g,h2⟩; have n := (KX.new (N := 0)).call g; have r := r.k g; have y := g.size
 try simp at y
 cases n.cc; go_wp2_with fail; go_at_call 30; refine (ki p.ev fun h => zW c _ _ _ h [42] (by simp)).mono ?_; rintro _ w3 ⟨i3,p,g,⟨rfl,z⟩ | ⟨rfl,z⟩⟩
 all_goals
  have r := r.k g; have n := n.k g; have A := g.size
  try simp at A
 all_goals
  cases n.cc
  have B : (kd == 4) = true \/ (kd == 4) = false /\ (kd == 5) = true \/ (kd == 4) = false /\ (kd == 5) = false := by cases kd == 4 <;> cases kd == 5 <;> simp
  rcases B with t | ⟨t,u⟩ | ⟨t,u⟩
  all_goals
   go_wp2_with fail; go_at_call 28; refine (kc p.ev fun h => zN c _ _ _ h _ (by simp)).mono ?_; rintro _ w4 ⟨_,i4,E4,rfl,-,p,g,h4⟩; have r := r.k g; have n := n.k g; have C := g.size
   try simp at C
   go_wp2_with fail
   first
    | (go_at_call 95; refine (kt p.ev fun h => sC c _ _ _ h).mono ?_)
    | (go_at_call 96; refine (kt p.ev fun h => hK (by simpa using u) _ _ _ h).mono ?_)
    | (go_at_call 59; refine (kt p.ev fun h => yP c _ _ _ h).mono ?_)
   rintro _ f ⟨_,i5,E5,rfl,⟨ba,j,D,F,G,H,I,J,L,rfl,O,R⟩,p,g,h5⟩
   try simp at j
   have r := r.k g; have n := n.k g; have U := g.size
   try simp at U
   cases n.cc
   go_upto_region 14 with fail
   generalize e : (f.setCell ⟨s.heap.size,4,none⟩ (.slice (some ⟨f.heap.size,0,none⟩) 1 1)).alloc (.cells #[.int .i64 D,.string ⟨F.toArray⟩,.int .i64 G,.int .i64 H,.slice J I.length L] 24) = w6
   have s6 : f.heap.size <= w6.heap.size := by rw [<- e]; simp [World.setCell]
   have p := KS.sl e p.ev; have r := RB.sl e r.ev; have n := KX.sl e (n.one (lo := s.heap.size + 1) (N := 5) O R); clear e; cases n.cc; cases r.d; go_wp2
   exact xi Tryz.results58 p.ev n.ev r.ev
set_option maxRecDepth 100000 in
set_option maxHeartbeats 4000000 in
theorem rZ (c : KC) (kd : Int) (x : Bs) (w : World) (i : Nat) (E : Int) (p : KS c w w i E) (hx : x ≠ []) (hD : ∀ (w : World) (i : Nat) (E : Int),KS c w w i E -> Calls Tryz.prog 58 #[.pointer (some ⟨c.rb,0,none⟩),.int .i64 kd] w (Kr c w i E 1 (KT w.heap.size))) : Calls Tryz.prog 31 #[.pointer (some ⟨c.rb,0,none⟩),.string ⟨x.toArray⟩,.int .i64 kd] w (Kr c w i E 0 (KT w.heap.size)) := by
  have hb := p.l1; have hn := p.il; have y := p.few.1
  go_enter Tryz.func31,Tryz.ntmps31
  go_wp2_with fail; go_at_call 27; refine (kn p.ev fun h => yN c _ _ _ h).mono ?_; rintro _ z ⟨rfl,p,g⟩; have r := (RB.new w _).call g; have B := g.size
  try simp at B
  go_wp2_with fail; go_at_call 30; refine (ki p.ev fun h => zW c _ _ _ h x (.inl hx)).mono ?_; rintro _ w2 ⟨i2,p,g,⟨rfl,C⟩ | ⟨rfl,C⟩⟩
  all_goals
    have n := (KX.new (N := 0)).call g; have r := r.k g; have D := g.size
    try simp at D
  · cases n.cc
    cases r.d; go_wp2
    exact xi Tryz.results31 p.ev n.ev r.ev
  · go_wp2_with fail
    go_loopw [] (fun wr => ∃ (e : Nat) (f : Int) (hi N : Nat),Hid (KS c w wr e f) /\ RB wr w.heap.size /\ KX wr z.heap.size (z.heap.size + 1) hi N /\ i <= e /\ N <= 5000 /\ (f = 0 -> E = 0 /\ N <= e)) (fun wr => vH wr c.rb c.n)
    case atStart => exact ⟨_,_,_,_,p.ev,r.ev,n.ev,by omega,by omega,by omega⟩
    case round =>
      clear p r n g; obtain ⟨e,f,hi,N,p,r,n,h8,h9,F⟩ := hrel
      replace p := p.out
      have G := p.il; have H := zb p; go_wp2_with fail; go_at_call 10; refine (kn p.ev fun h => yX c _ _ _ h).mono ?_; rintro _ I ⟨rfl,p,g⟩; have r := r.k g; have n := n.k g; have q := g.size
      try simp at q
      cases A : f == 0
      · have j : f ≠ 0 := by simpa using A
        cases n.cc; cases r.d; go_wp2
        exact xi Tryz.results31 p.ev n.ev r.ev
      · have j : f = 0 := by simpa using A
        go_wp2_with fail; go_at_call 11; refine (kn p.ev fun h => yv c _ _ _ h).mono ?_; rintro _ J ⟨rfl,p,g⟩; have r := r.k g; have n := n.k g; have s := g.size
        try simp at s
        go_wp2_with fail; go_at_call 57; refine (vT ⟨(c.W e).toArray⟩ c.ka c.kc _ (by have := p.sh e; unfold maxLen; simp [ByteArray.size]; omega) p.kp).mono ?_; rintro _ _ ⟨rfl,rfl⟩; cases hq : yB (c.W e)
        · cases n.cc
          cases r.d; go_wp2
          exact xi Tryz.results31 p.ev n.ev r.ev
        · obtain ⟨_,_,_,_,L,_,_,_,_,n⟩ := n.o
          cases n.nb; go_wp2_with fail
          go_region_law (first
            | (go_simp
               go_at_call 58; refine (kt p.ev fun h => hD _ _ _ h).mono ?_; rintro _ O ⟨_,R,U,rfl,⟨bb,t,kb,xb,mb,qb,lb,ab,cb,rfl,V,X⟩,p,g,Y⟩
               try simp at t
               have r := r.k g; have n := n.k g; have u := g.size
               try simp at u
               have := n.nb.lt
               cases n.nb)
            | (refine pN rfl _ _ rfl p r n V X rfl rfl ?_
               intro ad L cp Z p r nb n a1 ⟨row,g,hrow⟩
               cases nb))
          all_goals
            go_wp2_with fail; go_at_call 28; refine (kc p.ev fun h => zN c _ _ _ h [59] (by simp)).mono ?_; rintro _ a2 ⟨_,a3,a4,rfl,-,p,g,a5⟩; have r := r.k g; have n := n.k g; have v := g.size
            try simp at v
            go_wp2
            exact ⟨⟨_,_,_,_,p.ev,r.ev,n.ev,by omega,by omega,by omega⟩,H.less j p.ev (by omega)⟩
end Go.Proofs.YtifapidjkelnfaaGreatDoor
