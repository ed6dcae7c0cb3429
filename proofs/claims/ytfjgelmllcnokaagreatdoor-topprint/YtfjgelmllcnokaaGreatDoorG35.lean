/- Designators. -/
import Derived.Test.YtfjgelmllcnokaaGreatDoorG34
import Derived.Test.YtfjgelmllcnokaaGreatDoorG04
namespace Go.Proofs.YtfjgelmllcnokaaGreatDoor
open Go.RowKit
set_option maxHeartbeats 2000000
set_option maxRecDepth 100000
theorem zcf {L : List Tok} {E : P T} {f j : Nat} {t : T} (h : yb (wd L j) = false) : zt L E f t j = .ok (t,j) := by
 cases f <;> (rw [zt]; exact if_neg (by rw [h]; decide))
theorem pS {L : List Tok} {E : P T} {f j : Nat} {t : T} (h : yb (wd L j) = true) : zt L E (f + 1) t j = ((xH L E t).bind fun n' => zt L E f n') j := by
 rw [zt]
 exact if_pos h
theorem sH {L : List Tok} {E : P T} {j : Nat} {t : T} (h : yb (wd L j) = true) : zt L E 0 t j = ((xH L E t).bind fun _ => vM L) j := by
 rw [zt]
 exact if_pos h
structure DI (c : PC) (w : World) (i d N : Nat) (S0 : Nat -> Prop) (r : Except (Int × Int) (T × Nat)) (q : Nat -> T -> P T) (wr : World) (k : Int) (s : List UInt8) (n a : Int) (l : List T) (sv : Value) (j f : Nat) : Prop where
 nb : NB wr N (.int .i64 k) (.string ⟨s.toArray⟩) (.int .i64 n) (.int .i64 a) sv
 rb : RB wr w.heap.size
 lr : LR wr (Un S0 (N + 1) wr.heap.size) l sv
 ps : PS c wr j d
 gb : w.grownBy wr (some c.pb)
 same : r = q f (.mk k s n a l) j
 le : i <= j
theorem jV (c : PC) (w : World) (i d : Nat) (E : P T) (h : PS c w i d) (hE : ExprOK c d E) :
  Calls Tryz.prog 184 #[.pointer (some ⟨c.pb,0,none⟩)] w (Steps c w i d (fun w' t v => TR w' w.heap.size w'.heap.size t v) (zQ c.L E i)) := by
 have HP := za h; have HL := za h.low; have hb := h.lt; have HE := za hE; clear h hE
 go_enter Tryz.func184,Tryz.ntmps184
 go_wp2_with fail; go_at_call 118; refine (kz c _ i d 24 (PS.alloc HP.out _)).mono ?_; rintro e b (⟨x1,H,U,o⟩ | ⟨⟨k1,n1,m1,q1,l1⟩,j1,v1,H,rfl,⟨c0,rfl,r⟩,o,p1,a4⟩)
 ·obtain ⟨q,rfl,-⟩ := id U; exact ⟨rfl,Steps.err (P.bind_err H) U ga o⟩
 have V : zQ c.L E i = _ := P.bind_ok H; simp only [T.kind,T.name,T.num,T.at',T.subs] at r ⊢; obtain ⟨X,Y,rfl⟩ := r.form; obtain ⟨m,a5,r⟩ := r.nm
 try simp at a5
 have G1 := zb ga o; have s1 := o.size
 try simp at s1
 have r1 : RB b w.heap.size := RB.kept (RB.new' (by simp)) o (by simp; omega)
 have D0 : Hid (DI c w i d b.heap.size (In m b.heap.size) (zQ c.L E i) (zt c.L E) (b.alloc (.cells #[.int .i64 k1,.string ⟨n1.toArray⟩,.int .i64 m1,.int .i64 q1,.slice X l1.length Y] 28)) k1 n1 m1 q1 l1 (.slice X l1.length Y) j1 20) :=
  DI.mk (NB.new' rfl) (r1.alloc _) ((r.un).grownU (World.grownBy_alloc _ _ none)) (p1.alloc _) (zf G1 _) V a4
 have c1 : ¬ In m b.heap.size c.pb := fun e => by have h1 : m <= c.pb := e.1; omega
 have a6 : ¬ In m b.heap.size w.heap.size := fun e => by have h1 : m <= w.heap.size := e.1; omega
 have a7 : ¬ In m b.heap.size b.heap.size := fun e => by have h1 : b.heap.size < b.heap.size := e.2; omega
 clear r p1 o V H G1 r1; go_wp2_with fail
 go_loopw [4] (fun v wr => ∃ (k : Int) (s : List UInt8) (n a : Int) (l : List T) (sv : Value) (j f : Nat),f <= 20 /\ v = .int .i64 (21 - (f : Int)) /\ Hid (DI c w i d b.heap.size (In m b.heap.size) (zQ c.L E i) (zt c.L E) wr k s n a l sv j f)) (fun v _ => 22 - (intOf v).toNat)
 case atStart => exact ⟨k1,n1,m1,q1,l1,_,j1,20,by omega,rfl,D0⟩
 case round =>
  obtain ⟨k,s,n,a,l,sv,j,f,_,rfl,HC⟩ := hrel; clear D0; have F := HC.out; obtain ⟨ad,cp,rfl⟩ := F.lr.form; have a8 := za F.nb; have a9 := za F.rb; have b0 := za F.lr; have Z := za F.ps; have HG := za F.gb; have A := za F.same; have c2 := F.le; have c3 := F.nb.lt; clear F HC; go_wp2_with fail; go_at_call 194; refine (tA c _ j d Z.out).mono ?_; rintro e w2 ⟨rfl,u⟩; have s2 := u.size; have p2 : PS c w2 j d := Z.out.kept u; have G2 : w.grownBy w2 (some c.pb) := zb HG.out (zJ u _); have M := a8.out.kept u (by simp); have I := a9.out.kept u (by simp); have a0 := b0.out.grownU u; have b2 := M.lt; have b3 := I.lt; obtain ⟨_,x1,_,_,x4,_⟩ := id M; obtain ⟨_,_,_,_,_,_,_,_,_,_,_⟩ := id I; cases y : yb (wd c.L j)
  ·go_wp2
   refine zn Tryz.results184 rfl (RB.five ?_) rfl ?_
   ·exact I
   refine Steps.ok (a := T.mk k s n a l) (A.out.trans (zcf y)) ⟨_,rfl,?_⟩ ?_ ?_ (by omega)
   ·have B : ¬ Un (In m b.heap.size) (b.heap.size + 1) wr.heap.size w.heap.size := fun h => h.elim a6 (fun h => by omega)
    refine LR.mono (S := Un (In m b.heap.size) (b.heap.size + 1) wr.heap.size) (ts := l) ((((((a0.putS B _ _).putS B _ _).putS B _ _).putS B _ _).putS B _ _)) (fun k g => ?_)
    rcases g with g | g
    ·have h1 : m <= k := g.1
     have h2 : k < b.heap.size := g.2
     exact ⟨by omega,by first | omega | (simp <;> omega)⟩
    ·exact ⟨by omega,by first | omega | (simp <;> omega)⟩
   ·exact zS G2 (by omega)
   ·exact PS.p5 p2 HL.out (by omega)
  ·go_wp2_with fail
   go_at_call 195; refine (aq c _ j d E (T.mk k s n a l) (Un (In m b.heap.size) (b.heap.size + 1) wr.heap.size) (.slice ad l.length cp) p2 a0 (fun k g => ?_) HE.out y).mono ?_
   ·rcases g with g | g
    ·have h1 : m <= k := g.1
     have h2 : k < b.heap.size := g.2
     exact ⟨by omega,by omega⟩
    ·exact ⟨by omega,by omega⟩
   rintro e w4 (⟨x4,C,a1,z⟩ | ⟨⟨k4,n4,m4,q4,N⟩,j4,v4,C,rfl,⟨c4,rfl,O⟩,z,p4,c5⟩)
   ·have HT := a1
    obtain ⟨q,rfl,-⟩ := a1; refine ⟨rfl,Steps.err (x := x4) ?_ HT G2 z⟩; cases f with
    | zero => exact A.out.trans ((sH y).trans (P.bind_err C))
    | succ f => exact A.out.trans ((pS y).trans (P.bind_err C))
   simp only [T.kind,T.name,T.num,T.at',T.subs] at O ⊢; obtain ⟨J,K,rfl⟩ := O.form; have s4 := z.size; have G4 := zb G2 z; have R := M.kept z (by simp; omega); have a2 := I.kept z (by simp; omega); have b4 := R.lt; have b5 := a2.lt
   have b6 : LR w4 (Un (In m b.heap.size) (b.heap.size + 1) w4.heap.size) N (.slice J N.length K) := O.mono (fun k g => by
    rcases g with (g | g) | g
    ·exact .inl g
    ·exact .inr ⟨g.1,by omega⟩
    ·exact .inr ⟨by omega,g.2⟩)
   have D : ¬ Un (In m b.heap.size) (b.heap.size + 1) w4.heap.size b.heap.size := fun h => h.elim a7 (fun h => by omega)
   have b7 : LR (put5 w4 b.heap.size (.int .i64 k4) (.string ⟨n4.toArray⟩) (.int .i64 m4) (.int .i64 q4) (.slice J N.length K)) (Un (In m b.heap.size) (b.heap.size + 1) w4.heap.size) N (.slice J N.length K) :=
    ((((b6.putS D _ _).putS D _ _).putS D _ _).putS D _ _).putS D _ _
   have b8 := za b7; obtain ⟨_,_,_,_,_,_⟩ := id R; cases f with
   | zero =>
    have hx : decide ((20 : Int) < 21 - ((0 : Nat) : Int)) = true := by decide
    go_wp2_with fail; go_at_call 70; refine (kp c _ j4 d 3 (PS.p5 p4 HL.out (by omega))).mono ?_; rintro e w5 ⟨a3,b9⟩; have HT := a3; obtain ⟨q,rfl,-⟩ := a3
    exact ⟨rfl,Steps.err (x := (3,pos c.L j4)) ((A.out.trans (sH y)).trans (P.bind_ok C)) HT (zS G4 (by omega)) (zJ b9 _)⟩
   | succ f =>
    have hx : decide ((20 : Int) < 21 - ((f + 1 : Nat) : Int)) = false := by simp; omega
    go_wp2; refine ⟨⟨k4,n4,m4,q4,N,.slice J N.length K,j4,f,by omega,by simp; omega,DI.mk ((NB.s4 (NB.s3 (NB.s2 (NB.s1 (NB.s0 R _) _) _) _) _)) ((RB.p5 a2)) ?_ ((PS.p5 p4 HL.out (by omega))) ((zS G4 (by omega))) (A.out.trans ((pS y).trans (P.bind_ok C))) (by omega)⟩,?_⟩
    ·exact b8.out.wideU (Nat.le_refl _) (by simp)
    ·simp [intOf]
     omega
end Go.Proofs.YtfjgelmllcnokaaGreatDoor
