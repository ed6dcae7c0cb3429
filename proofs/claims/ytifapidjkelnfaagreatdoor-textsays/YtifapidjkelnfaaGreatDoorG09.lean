/- The document's reader,told loosely: lists of acts. -/
import Derived.Test.YtifapidjkelnfaaGreatDoorG03
namespace Go.Proofs.YtifapidjkelnfaaGreatDoor
open Go.RowKit
set_option maxRecDepth 100000 in
set_option maxHeartbeats 1000000 in
theorem rF (s : ByteArray) (w : World) : Calls Tryz.prog 61 #[.string s] w fun e w' => (∃ b,e = .returned (.bool b) /\ (b = false -> s.size ≠ 0)) /\ w' = w := by
 have a := xX s
 by_cases f : s.size = 0
 ·have g : s.toList.isEmpty = true := by rw [a]; simp [f]
  go_enter Tryz.func61,Tryz.ntmps61
  go_wp2
  all_goals
   go_ret
   exact ⟨⟨_,rfl,fun h => by simp_all⟩,rfl⟩
 ·go_enter Tryz.func61,Tryz.ntmps61
  go_wp2
  all_goals
   go_ret
   exact ⟨⟨_,rfl,fun _ => f⟩,rfl⟩
def KOA (c : KC) (m : Nat) : Prop := ∀ (w : World) (i : Nat) (E : Int),KS c w w i E -> c.n <= i + m -> E = 0 -> c.W i ≠ [] -> Calls Tryz.prog 62 #[.pointer (some ⟨c.rb,0,none⟩)] w (Kr c w i E 1 (KT w.heap.size))
set_option maxRecDepth 100000 in
set_option maxHeartbeats 8000000 in
theorem tD (c : KC) (m : Nat) (w : World) (i : Nat) (E : Int) (p : KS c w w i E) (hm : c.n <= i + m) (hA : KOA c m) : Calls Tryz.prog 33 #[.pointer (some ⟨c.rb,0,none⟩)] w (Kr c w i E 0 (KT w.heap.size)) := by
  have H := p.l1; have hn := p.il; have I := p.few.1
  go_enter Tryz.func33,Tryz.ntmps33
  go_wp2_with fail; go_at_call 27; refine (kn p.ev fun h => yN c _ _ _ h).mono ?_; rintro _ J ⟨rfl,p,g⟩; have r := (RB.new w _).call g; have M := g.size
  try simp at M
  go_wp2_with fail; go_at_call 60; refine (kc p.ev fun h => uC c _ _ _ h).mono ?_; rintro _ w2 ⟨_,i2,E2,rfl,-,p,g,h2⟩; have n := (KX.new (N := 0)).call g; have r := r.k g; have O := g.size
  try simp at O
  go_wp2_with fail
  go_loopw [] (fun wr => ∃ (l : Nat) (q : Int) (K N : Nat),Hid (KS c w wr l q) /\ RB wr w.heap.size /\ KX wr J.heap.size (J.heap.size + 1) K N /\ i <= l /\ (q = 0 -> E = 0) /\ N <= l) (fun wr => vH wr c.rb c.n)
  case atStart => exact ⟨_,_,_,_,p.ev,r.ev,n.ev,by omega,by omega,by omega⟩
  case round =>
    clear p r n g; obtain ⟨l,q,K,N,p,r,n,h8,h9,Q⟩ := hrel
    replace p := p.out
    have R := p.il; have t := zb p; go_wp2_with fail; go_at_call 10; refine (kn p.ev fun h => yX c _ _ _ h).mono ?_; rintro _ U ⟨rfl,p,g⟩; have r := r.k g; have n := n.k g; have u := g.size
    try simp at u
    cases L : q == 0
    · have a : q ≠ 0 := by simpa using L
      obtain ⟨_,_⟩ := p.c2; have := p.z; cases n.cc; cases r.d; go_wp2
      exact xi Tryz.results33 p.ev n.ev r.ev
    · have a : q = 0 := by simpa using L
      go_wp2_with fail; go_at_call 11; refine (kn p.ev fun h => yv c _ _ _ h).mono ?_; rintro _ V ⟨rfl,p,g⟩; have r := r.k g; have n := n.k g; have v := g.size
      try simp at v
      cases hq : c.W l == [59]
      · go_wp2_with fail
        go_at_call 11; refine (kn p.ev fun h => yv c _ _ _ h).mono ?_; rintro _ x ⟨rfl,p,g⟩; have r := r.k g; have n := n.k g; have f := g.size
        try simp at f
        go_wp2_with fail; go_at_call 61; refine (rF _ _).mono ?_; rintro _ _ ⟨⟨b,rfl,H⟩,rfl⟩; cases b
        · have y : c.W l ≠ [] := fun e => by have := H rfl; rw [e] at this; simp [ByteArray.size] at this
          obtain ⟨_,_,_,_,X,_,_,_,_,n⟩ := n.o; cases n.nb; go_wp2_with fail
          go_region_law (first
            | (go_simp
               go_at_call 62; refine (kt p.ev fun h => hA _ _ _ h (by omega) a y).mono ?_; rintro _ A ⟨_,B,Y,rfl,⟨bb,C,kb,xb,mb,qb,lb,ab,cb,rfl,Z,tb⟩,p,g,s⟩
               try simp at C
               have r := r.k g; have n := n.k g; have j := g.size
               try simp at j
               have := n.nb.lt
               cases n.nb)
            | (refine pN rfl _ _ rfl p r n Z tb rfl rfl ?_
               intro ad X cp a1 p r nb n a2 ⟨row,g,hrow⟩
               cases nb))
          all_goals
            go_wp2_with fail; go_at_call 30; refine (ki p.ev fun h => zW c _ _ _ h [59] (by simp)).mono ?_; rintro _ a3 ⟨a4,p,g,⟨rfl,D⟩ | ⟨rfl,D⟩⟩
            all_goals
              have r := r.k g; have n := n.k g; have F := g.size
              try simp at F
            · obtain ⟨_,_⟩ := p.c2
              have := p.z; cases n.cc; cases r.d; go_wp2
              exact xi Tryz.results33 p.ev n.ev r.ev
            · go_wp2
              exact ⟨⟨_,_,_,_,p.ev,r.ev,n.more,by omega,by omega,Nat.le_refl _⟩,t.less a p.ev (by omega)⟩
        · go_wp2_with fail
          go_at_call 30; refine (ki p.ev fun h => zW c _ _ _ h [59] (by simp)).mono ?_; rintro _ A ⟨B,p,g,⟨rfl,s⟩ | ⟨rfl,s⟩⟩
          all_goals
            have r := r.k g; have n := n.k g; have j := g.size
            try simp at j
          · obtain ⟨_,_⟩ := p.c2
            have := p.z; cases n.cc; cases r.d; go_wp2
            exact xi Tryz.results33 p.ev n.ev r.ev
          · go_wp2
            exact ⟨⟨_,_,_,_,p.ev,r.ev,n.more,by omega,by omega,Nat.le_refl _⟩,t.less a p.ev (by omega)⟩
      · go_wp2_with fail
        go_at_call 30; refine (ki p.ev fun h => zW c _ _ _ h [59] (by simp)).mono ?_; rintro _ x ⟨a5,p,g,⟨rfl,G⟩ | ⟨rfl,G⟩⟩
        all_goals
          have r := r.k g; have n := n.k g; have f := g.size
          try simp at f
        · obtain ⟨_,_⟩ := p.c2
          have := p.z; cases n.cc; cases r.d; go_wp2
          exact xi Tryz.results33 p.ev n.ev r.ev
        · go_wp2
          exact ⟨⟨_,_,_,_,p.ev,r.ev,n.more,by omega,by omega,Nat.le_refl _⟩,t.less a p.ev (by omega)⟩
end Go.Proofs.YtifapidjkelnfaaGreatDoor
