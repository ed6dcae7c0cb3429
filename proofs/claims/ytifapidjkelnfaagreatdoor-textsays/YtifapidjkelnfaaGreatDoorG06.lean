/- The document's reader,told loosely: expressions; arguments. -/
import Derived.Test.YtifapidjkelnfaaGreatDoorG03
namespace Go.Proofs.YtifapidjkelnfaaGreatDoor
open Go.RowKit
set_option maxRecDepth 100000 in
set_option maxHeartbeats 4000000 in
theorem rO (c : KC) (m : Nat) (w : World) (i : Nat) (E : Int) (p : KS c w w i E) (hm : c.n <= i + m) (hS : KOK c 137 1 m) : Calls Tryz.prog 95 #[.pointer (some ⟨c.rb,0,none⟩)] w (Kr c w i E 1 (KT w.heap.size)) := by
  have hb := p.l1; have hn := p.il; have y := p.few.1
  go_enter Tryz.func95,Tryz.ntmps95
  go_wp2_with fail; go_at_call 60; refine (kc p.ev fun h => uC c _ _ _ h).mono ?_; rintro _ w1 ⟨_,i1,E1,rfl,-,p,g,h1⟩; have r := (RB.new w _).call g; have C := g.size
  try simp at C
  go_wp2_with fail; go_at_call 137; refine (kt p.ev fun h => hS _ _ _ h (by omega)).mono ?_; rintro _ D ⟨_,b,E2,rfl,⟨ba,f,ka,xa,ma,qa,a0,aa,ca,rfl,F,G⟩,p,g,h2⟩
  try simp at f
  have r := r.k g; have H := g.size
  try simp at H
  go_wp2_with fail; go_at_call 11; refine (kn p.ev fun h => yv c _ _ _ h).mono ?_; rintro _ w3 ⟨rfl,p,g⟩; have n := (KX.of (t := 24) F (G.wide (lo' := w.heap.size + 1) (by omega) (Nat.le_refl _))).call g; have r := r.k g; have I := g.size
  try simp at I
  go_upto_if 12 with (go_at_call 30; refine (kj p.ev fun h => zW c _ _ _ h [73,83] (by simp)).mono ?_; rintro _ w4 ⟨b4,i4,rfl,p,g,j⟩)
  have r := r.k g; have n := n.k g; have J := g.size
  try simp at J
  go_cut [] from 13 (fun wx => ∃ (e : Nat) (l : Int) (A N : Nat),Hid (KS c w wx e l) /\ RB wx w.heap.size /\ KX wx D.heap.size (w.heap.size + 1) A N /\ i <= e /\ (l = 0 -> E = 0 /\ i + 1 <= e))
  case first =>
    rcases j with ⟨rfl,K⟩ | ⟨rfl,K⟩
    · go_wp2_with fail
      go_at_call 92; refine (qS _ _ _ _ (by rfl)).mono ?_; rintro _ _ ⟨rfl,rfl⟩; cases q : inB gd (c.W b)
      · go_wp2
        go_meet
        case rel => exact ⟨_,_,_,_,p.ev,r.ev,n.ev,by omega,by omega⟩
      · have s := sk q (by decide)
        have L : (c.W b).length <= maxLen := Nat.le_trans (p.sh b) (by decide); go_wp2_with fail; go_at_call 30; refine (ki p.ev fun h => zW c _ _ _ h (c.W b) (.inl s)).mono ?_; rintro _ M ⟨O,p,g,⟨rfl,B⟩ | ⟨rfl,B⟩⟩
        all_goals
          have r := r.k g; have n := n.k g; have u := g.size
          try simp at u
        · go_wp2
          go_meet
          case rel => exact ⟨_,_,_,_,p.ev,r.ev,n.ev,by omega,by omega⟩
        · go_wp2_with fail
          obtain ⟨Q,R,U,V,X,Y,Z,_,_,n⟩ := n.o; cases n.nb
          go_region_with (first
            | (go_at_call 137
               refine (kt p.ev fun h => hS _ _ _ h (by omega)).mono ?_; rintro _ w6 ⟨_,i6,E6,rfl,⟨bb,a,kb,xb,mb,qb,lb,ab,cb,rfl,v,x⟩,p,g,h6⟩
               try simp at a
               have r := r.k g; have n := n.k g; have s6 := g.size
               try simp at s6
               have := n.nb.lt
               cases n.nb))
          all_goals
            go_wp2; go_meet
            case rel => exact ⟨_,_,_,_,p.ev,r.ev,KX.two n v x,by omega,by omega⟩
    · go_wp2_with fail
      obtain ⟨Q,R,U,V,X,Y,Z,_,_,n⟩ := n.o; cases n.nb
      go_region_with (first
        | (go_at_call 59
           refine (kt p.ev fun h => yP c _ _ _ h).mono ?_; rintro _ M ⟨_,O,E5,rfl,⟨bb,a,kb,xb,mb,qb,lb,ab,cb,rfl,v,x⟩,p,g,B⟩
           try simp at a
           have r := r.k g; have n := n.k g; have u := g.size
           try simp at u
           have := n.nb.lt
           cases n.nb))
      all_goals
        go_wp2; go_meet
        case rel => exact ⟨_,_,_,_,p.ev,r.ev,KX.two n v x,by omega,by omega⟩
  case rest =>
    clear p r n g; obtain ⟨e,l,A,N,p,r,n,h8,h9⟩ := hcut
    replace p := p.out
    obtain ⟨_,_⟩ := p.c2; have := p.z; cases n.cc; cases r.d; go_wp2
    exact xi Tryz.results95 p.ev n.ev r.ev
end Go.Proofs.YtifapidjkelnfaaGreatDoor
