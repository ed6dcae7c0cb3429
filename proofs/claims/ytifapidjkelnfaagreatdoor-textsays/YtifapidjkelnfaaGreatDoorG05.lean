/- The document's reader,told loosely: sums. -/
import Derived.Test.YtifapidjkelnfaaGreatDoorG03
namespace Go.Proofs.YtifapidjkelnfaaGreatDoor
open Go.RowKit
set_option maxRecDepth 100000 in
set_option maxHeartbeats 20000000 in
theorem mn (c : KC) (m : Nat) (w : World) (i : Nat) (E : Int) (p : KS c w w i E) (hm : c.n <= i + m) (hP : KOK c 166 1 m) : Calls Tryz.prog 137 #[.pointer (some ⟨c.rb,0,none⟩)] w (Kr c w i E 1 (KT w.heap.size)) := by
  have hb := p.l1; have hn := p.il; have D := p.few.1
  go_enter Tryz.func137,Tryz.ntmps137
  go_wp2_with fail; go_at_call 27; refine (kn p.ev fun h => yN c _ _ _ h).mono ?_; rintro _ f ⟨rfl,p,g⟩; have r := (RB.new w _).call g; have J := g.size
  try simp at J
  go_upto_if 10 with (go_at_call 30; refine (kj p.ev fun h => zW c _ _ _ h [45] (by simp)).mono ?_; rintro _ w2 ⟨b2,i2,rfl,p,g,l⟩)
  have n := (KX.new (N := 0)).call g; have r := r.k g; have K := g.size
  try simp at K
  go_cut [] from 11 (fun wx => ∃ (a : Nat) (b : Int) (j N : Nat),Hid (KS c w wx a b) /\ RB wx w.heap.size /\ KX wx f.heap.size (f.heap.size + 1) j N /\ i <= a /\ (b = 0 -> E = 0 /\ i + 1 <= a))
  case first =>
    rcases l with ⟨rfl,L⟩ | ⟨rfl,L⟩
    all_goals
      go_wp2_with fail; go_at_call 166; refine (kt p.ev fun h => hP _ _ _ h (by omega)).mono ?_; rintro _ w3 ⟨_,i3,E3,rfl,⟨ba,q,ka,xa,ma,qa,a0,aa,ca,rfl,F,G⟩,p,g,h3⟩
      try simp at q
      have r := r.k g; have n := n.k g; have M := g.size
      try simp at M
      cases n.cc; go_wp2; go_meet
      case rel => exact ⟨_,_,_,_,p.ev,r.ev,(by first | exact KX.set n.rb F G | exact KX.one5 n.rb F G),by omega,by omega⟩
  case rest =>
    obtain ⟨i5,E5,_,_,p,r,n,h5,h6⟩ := hcut
    replace p := p.out
    go_wp2_with fail
    go_loopw [5] (fun mv wr => ∃ (H : Int) (a : Nat) (b : Int) (j N : Nat),mv = .int .i64 H /\ Hid (KS c w wr a b) /\ RB wr w.heap.size /\ KX wr f.heap.size (f.heap.size + 1) j N /\ i <= a /\ (b = 0 -> E = 0 /\ i + 1 <= a)) (fun _ wr => vH wr c.rb c.n)
    case atStart => exact ⟨1,_,_,_,_,rfl,p.ev,r.ev,n,by omega,by omega⟩
    case round =>
      clear p r n g; obtain ⟨H,a,b,j,N,rfl,p,r,n,h8,h9⟩ := hrel
      replace p := p.out
      have O := p.il; have Q := zb p; go_wp2_with fail; go_at_call 10; refine (kn p.ev fun h => yX c _ _ _ h).mono ?_; rintro _ R ⟨rfl,p,g⟩; have r := r.k g; have n := n.k g; have s := g.size
      try simp at s
      cases I : b == 0
      · have e : b ≠ 0 := by simpa using I
        cases n.cc; cases r.d; go_wp2
        exact xi Tryz.results137 p.ev n.ev r.ev
      · have e : b = 0 := by simpa using I
        go_wp2_with fail; go_at_call 11; refine (kn p.ev fun h => yv c _ _ _ h).mono ?_; rintro _ U ⟨rfl,p,g⟩; have r := r.k g; have n := n.k g; have t := g.size
        try simp at t
        go_wp2_with fail; go_at_call 92; refine (qF _ _ _ _ (by rfl)).mono ?_; rintro _ _ ⟨rfl,rfl⟩; cases u : inB fe (c.W a)
        · replace r := r.alloc (.cells #[.string ⟨#[43]⟩,.string ⟨#[45]⟩,.string ⟨#[79,82]⟩] 9)
          cases n.cc; cases r.d; go_wp2
          exact xi Tryz.results137 p.ev n.ev r.ev
        · have v := sk u (by decide)
          have V : (c.W a).length <= maxLen := Nat.le_trans (p.sh a) (by decide); go_wp2_with fail; go_at_call 30; refine (ki p.ev fun h => zW c _ _ _ h (c.W a) (.inl v)).mono ?_; rintro _ X ⟨Y,p,g,⟨rfl,x⟩ | ⟨rfl,x⟩⟩
          all_goals
            have r := r.k g; have n := n.k g; have y := g.size
            try simp at y
          · cases n.cc
            cases r.d; go_wp2
            exact xi Tryz.results137 p.ev n.ev r.ev
          · go_wp2_with (go_at_call 34; refine (kx p.ev fun h => ud c _ _ _ h _ (by decide)).mono ?_; rintro _ Z ⟨rfl,a2,a3,p,g⟩; have r := r.call g; have n := n.call g)
            all_goals
              obtain ⟨_,_,_,_,a1,_,_,_,_,n⟩ := n.o; cases n.nb
              go_region_with (first
                | (go_at_call 166
                   refine (kt p.ev fun h => hP _ _ _ h (by omega)).mono ?_; rintro _ a4 ⟨_,z,A,rfl,⟨bb,B,kb,xb,mb,qb,lb,ab,cb,rfl,fb,tb⟩,p,g,a5⟩
                   try simp at B
                   have r := r.k g; have n := n.k g; have C := g.size
                   try simp at C
                   have := n.nb.lt
                   cases n.nb))
              all_goals go_wp2
              all_goals exact ⟨⟨_,z,A,_,_,rfl,p.ev,r.ev,KX.two n fb tb,by omega,by omega⟩,Q.less e p.ev (by omega)⟩
end Go.Proofs.YtifapidjkelnfaaGreatDoor
