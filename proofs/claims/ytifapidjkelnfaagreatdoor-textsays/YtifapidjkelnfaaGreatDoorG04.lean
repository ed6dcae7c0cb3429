/- The document's reader,told loosely: products. -/
import Derived.Test.YtifapidjkelnfaaGreatDoorG03
namespace Go.Proofs.YtifapidjkelnfaaGreatDoor
open Go.RowKit
set_option maxRecDepth 100000 in
set_option maxHeartbeats 4000000 in
theorem gV (c : KC) (m : Nat) (w : World) (i : Nat) (E : Int) (p : KS c w w i E) (hm : c.n <= i + m) (hF : KOK c 176 1 m) : Calls Tryz.prog 166 #[.pointer (some ⟨c.rb,0,none⟩)] w (Kr c w i E 1 (KT w.heap.size)) := by
  have hb := p.l1; have hn := p.il; have B := p.few.1
  go_enter Tryz.func166,Tryz.ntmps166
  go_wp2_with fail; go_at_call 176; refine (kt p.ev fun h => hF _ _ _ h (by omega)).mono ?_; rintro _ G ⟨_,i1,E1,rfl,⟨ba,f,ka,xa,ma,qa,a0,aa,ca,rfl,H,I⟩,p,g,h1⟩
  try simp at f
  have r := (RB.new w _).call g; have J := g.size
  try simp at J
  have n := KX.of (t := 24) H (I.wide (lo' := w.heap.size + 1) (by omega) (Nat.le_refl _)); go_wp2_with fail
  go_loopw [4] (fun mv wr => ∃ (C : Int) (a : Nat) (b : Int) (D N : Nat),mv = .int .i64 C /\ Hid (KS c w wr a b) /\ RB wr w.heap.size /\ KX wr G.heap.size (w.heap.size + 1) D N /\ i <= a /\ (b = 0 -> E = 0 /\ i + 1 <= a)) (fun _ wr => vH wr c.rb c.n)
  case atStart => exact ⟨1,_,_,_,_,rfl,p.ev,r.ev,n,by omega,by omega⟩
  case round =>
    clear p r n g; obtain ⟨C,a,b,D,N,rfl,p,r,n,h8,h9⟩ := hrel
    replace p := p.out
    have K := p.il; have L := zb p; go_wp2_with fail; go_at_call 10; refine (kn p.ev fun h => yX c _ _ _ h).mono ?_; rintro _ M ⟨rfl,p,g⟩; have r := r.k g; have n := n.k g; have j := g.size
    try simp at j
    cases F : b == 0
    · have e : b ≠ 0 := by simpa using F
      cases n.cc; cases r.d; go_wp2
      exact xi Tryz.results166 p.ev n.ev r.ev
    · have e : b = 0 := by simpa using F
      go_wp2_with fail; go_at_call 11; refine (kn p.ev fun h => yv c _ _ _ h).mono ?_; rintro _ O ⟨rfl,p,g⟩; have r := r.k g; have n := n.k g; have l := g.size
      try simp at l
      go_wp2_with fail; go_at_call 92; refine (qg _ _ _ _ (by rfl)).mono ?_; rintro _ _ ⟨rfl,rfl⟩; cases q : inB fG (c.W a)
      · replace r := r.alloc (.cells #[.string ⟨#[42]⟩,.string ⟨#[68,73,86]⟩,.string ⟨#[77,79,68]⟩,.string ⟨#[38]⟩] 9)
        cases n.cc; cases r.d; go_wp2
        exact xi Tryz.results166 p.ev n.ev r.ev
      · have s := sk q (by decide)
        have Q : (c.W a).length <= maxLen := Nat.le_trans (p.sh a) (by decide); go_wp2_with fail; go_at_call 30; refine (ki p.ev fun h => zW c _ _ _ h (c.W a) (.inl s)).mono ?_; rintro _ R ⟨U,p,g,⟨rfl,u⟩ | ⟨rfl,u⟩⟩
        all_goals
          have r := r.k g; have n := n.k g; have v := g.size
          try simp at v
        · cases n.cc
          cases r.d; go_wp2
          exact xi Tryz.results166 p.ev n.ev r.ev
        · go_wp2_with (go_at_call 34; refine (kx p.ev fun h => ud c _ _ _ h _ (by decide)).mono ?_; rintro _ V ⟨rfl,X,Y,p,g⟩; have r := r.call g; have n := n.call g)
          all_goals
            obtain ⟨_,_,_,_,a1,_,_,_,_,n⟩ := n.o; cases n.nb
            go_region_with (first
              | (go_at_call 176
                 refine (kt p.ev fun h => hF _ _ _ h (by omega)).mono ?_; rintro _ Z ⟨_,x,y,rfl,⟨bb,z,kb,xb,mb,qb,lb,ab,cb,rfl,fb,tb⟩,p,g,a2⟩
                 try simp at z
                 have r := r.k g; have n := n.k g; have A := g.size
                 try simp at A
                 have := n.nb.lt
                 cases n.nb))
            all_goals go_wp2
            all_goals exact ⟨⟨_,x,y,_,_,rfl,p.ev,r.ev,KX.two n fb tb,by omega,by omega⟩,L.less e p.ev (by omega)⟩
end Go.Proofs.YtifapidjkelnfaaGreatDoor
