/- The document's reader,told loosely: modules; lists of acts,procedures,modules,whatever they hold. -/
import Derived.Test.YtifapidjkelnfaaGreatDoorG11
import Derived.Test.YtifapidjkelnfaaGreatDoorG12
import Derived.Deep.CutBlock
namespace Go.Proofs.YtifapidjkelnfaaGreatDoor
open Go.RowKit
set_option maxRecDepth 100000 in
set_option maxHeartbeats 20000000 in
theorem dx (c : KC) (w : World) (i : Nat) (E : Int) (p : KS c w w i E) (hS : KOK c 33 0 c.n) (hP : ∀ (w : World) (i : Nat) (E : Int),KS c w w i E -> Calls Tryz.prog 32 #[.pointer (some ⟨c.rb,0,none⟩)] w (Kr c w i E 0 (KT w.heap.size))) : Calls Tryz.prog 9 #[.pointer (some ⟨c.rb,0,none⟩)] w (Kr c w i E 0 (KT w.heap.size)) := by
  have hb := p.l1; have hn := p.il; have d5 := p.few.1
  go_enter Tryz.func9,Tryz.ntmps9
  go_wp2_with fail; go_at_call 27; refine (kn p.ev fun h => yN c _ _ _ h).mono ?_; rintro _ u ⟨rfl,p,g⟩; have r := (RB.new w _).call g; have s1 := g.size
  try simp at s1
  go_wp2_with fail; go_at_call 28; refine (kc p.ev fun h => zN c _ _ _ h [77,79,68,85,76,69] (by simp)).mono ?_; rintro _ w2 ⟨_,i2,E2,rfl,-,p,g,h2⟩; have n := (KX.new (N := 0)).call g; have r := r.k g; have s2 := g.size
  try simp at s2
  go_wp2_with fail; go_at_call 29; refine (kc p.ev fun h => xD c _ _ _ h).mono ?_; rintro _ w3 ⟨_,i3,E3,rfl,⟨x,rfl,hx,l⟩,p,g,h3⟩; have r := r.k g; have n := n.k g; have s3 := g.size
  try simp at s3
  cases n.cc; go_wp2_with fail; go_at_call 28; refine (kc p.ev fun h => zN c _ _ _ h [59] (by simp)).mono ?_; rintro _ w4 ⟨_,i4,E4,rfl,-,p,g,h4⟩; have a := (show CE (w3.setCell ⟨u.heap.size,1,none⟩ (.string ⟨x.toArray⟩)) u.heap.size x from KS.cell (o := 1) (o' := 1) _ (by assumption)).call g; have r := r.k g; have n := n.k g; have s4 := g.size
  try simp at s4
  go_wp2_with fail; go_at_call 27; refine (kn p.ev fun h => yN c _ _ _ h).mono ?_; rintro _ G ⟨rfl,p,g⟩; have r := r.k g; have n := n.k g; have a := a.k g; have s5 := g.size
  try simp at s5
  go_upto_if 22 with (go_at_call 30; refine (kj p.ev fun h => zW c _ _ _ h [73,77,80,79,82,84] (by simp)).mono ?_; rintro _ w6 ⟨b6,i6,rfl,p,g,Q⟩)
  have b := (KX.new (N := 0)).call g; have r := r.k g; have n := n.k g; have a := a.k g; have s6 := g.size
  try simp at s6
  go_cut [] from 23 (fun wx => ∃ (A : Nat) (s : Int) (hi N : Nat),KX wx G.heap.size (G.heap.size + 1) hi N /\ Hid (KS c w wx A s) /\ RB wx w.heap.size /\ KX wx u.heap.size (u.heap.size + 1) (u.heap.size + 1) 0 /\ CE wx u.heap.size x /\ i <= A /\ (s = 0 -> E = 0 /\ x ≠ []))
  case first =>
    cases b6
    · go_wp2
      go_meet
      case rel => exact ⟨_,_,_,_,b.ev,p.ev,r.ev,n.ev,a.ev,by omega,fun h0 => ⟨by omega,l (by omega)⟩⟩
    · go_wp2_with fail
      go_loopw [] (fun wx => ∃ (A : Nat) (s : Int) (hi N : Nat),KX wx G.heap.size (G.heap.size + 1) hi N /\ N <= 5000 /\ (s = 0 -> N <= A) /\ Hid (KS c w wx A s) /\ RB wx w.heap.size /\ KX wx u.heap.size (u.heap.size + 1) (u.heap.size + 1) 0 /\ CE wx u.heap.size x /\ i <= A /\ (s = 0 -> E = 0 /\ x ≠ [])) (fun wr => vH wr c.rb c.n)
      case atStart => exact ⟨_,_,_,_,b.ev,by omega,by omega,p.ev,r.ev,n.ev,a.ev,by omega,fun h0 => ⟨by omega,l (by omega)⟩⟩
      case round =>
        clear p r n a b; obtain ⟨A,s,hi,N,b,hN,a6,p,r,n,a,h9,D⟩ := hrel
        replace p := p.out
        have a7 := p.il; have PL := zb p; have := b.hi; have a8 := r.lt; have := b.rb.lt; have := n.hi; go_wp2_with fail; go_at_call 27; refine (kn p.ev fun h => yN c _ _ _ h).mono ?_; rintro _ R ⟨rfl,p,g⟩; have r := r.k g; have n := n.k g; have a := a.k g; have b := b.k g; have a9 := g.size
        try simp at a9
        go_wp2_with fail; go_at_call 29; refine (kc p.ev fun h => xD c _ _ _ h).mono ?_; rintro _ U ⟨_,f5,f6,rfl,⟨y,rfl,hy,-⟩,p,g,f7⟩; have v := (KX.new (N := 0)).call g; have r := r.k g; have n := n.k g; have a := a.k g; have b := b.k g; have b0 := g.size
        try simp at b0
        cases v.cc
        go_upto_region 9 with fail
        generalize H : U.setCell ⟨R.heap.size,1,none⟩ (.string ⟨y.toArray⟩) = w13
        have f8 : U.heap.size <= w13.heap.size := by rw [<- H]; simp [World.setCell]
        have p := KS.sl H p.ev; have r := RB.sl H r.ev; have n := KX.sl H n.ev; have a := CE.sl H a.ev; have b := KX.sl H b.ev; have v := KX.sl H v.ev; clear H; obtain ⟨kv,xv,mv,qv,lv,av,cv,_,_,v⟩ := v.o; cases v.nb; obtain ⟨_,_,_,_,_,_,_,_,_,z⟩ := b.o; cases z.nb
        go_wp2_with (first
          | (at_builtin
             refine ry rfl _ _ rfl p z (FL.cons v.ft FL.nil) (LR.build1 _ (t := .mk kv xv mv qv lv) (sv := .slice av lv.length cv) (v.in (g0 := R.heap.size)) rfl rfl (by omega)) rfl rfl ?_; intro ad V cp f9 I p nb b g1 g f; have r := r.ap g f; have n := n.ap g f; have a := a.ap g f
             cases nb))
        go_wp2_with fail; go_at_call 30; refine (ki p.ev fun h => zW c _ _ _ h [44] (by simp)).mono ?_; rintro _ g2 ⟨g3,p,g,⟨rfl,b1⟩ | ⟨rfl,b1⟩⟩
        all_goals
          have r := r.k g; have n := n.k g; have a := a.k g; have b := b.k g; have b2 := g.size
          try simp at b2
        · go_wp2_with fail
          go_at_call 28; refine (kc p.ev fun h => zN c _ _ _ h [59] (by simp)).mono ?_; rintro _ g4 ⟨_,g5,g6,rfl,-,p,g,g7⟩; have r := r.k g; have n := n.k g; have a := a.k g; have b := b.k g; have b3 := g.size
          try simp at b3
          go_wp2; go_meet
          case rel => exact ⟨_,_,_,_,b.ev,p.ev,r.ev,n.ev,a.ev,by omega,fun h0 => ⟨by omega,(D (by omega)).2⟩⟩
        · go_wp2
          exact ⟨⟨_,_,_,_,b.ev,by simp; omega,by simp; omega,p.ev,r.ev,n.ev,a.ev,by omega,fun h0 => ⟨by omega,(D (by omega)).2⟩⟩,PL.less (by omega) p.ev (by omega)⟩
  case rest =>
    clear p r n a b g; obtain ⟨g8,g9,h1,N3,b,p,r,n,a,h8,l⟩ := hcut
    replace p := p.out
    obtain ⟨h5,X⟩ : ∃ x,x = wc := ⟨_,rfl⟩; subst X; have d6 := p.il; have d7 := r.lt; have := n.hi; have := n.rb.lt; have := b.hi; have := b.rb.lt; have := b.hi; have := b.rb.lt
    go_upto_region 12 with fail
    go_cut [] from 40 (fun wx => ∃ (A : Nat) (s : Int) (hi : Nat),Hid (KS c w wx A s) /\ RB wx w.heap.size /\ KX wx u.heap.size (u.heap.size + 1) hi 4 /\ CE wx u.heap.size x /\ i <= A /\ (s = 0 -> E = 0 /\ x ≠ []))
    case first =>
      obtain ⟨Y,Z,ma,qa,a1,aa,ca,_,_,b⟩ := b.o; cases b.nb; obtain ⟨_,_,_,_,V,_,_,_,_,n⟩ := n.o; cases n.nb
      go_region_law (first
        | (go_simp
           go_at_call 31
           with_reducible show Calls _ _ #[_,_,Value.int IntKind.i64 4] _ _
           refine (kt p.ev fun h => oH c 4 [67,79,78,83,84] (by decide) (by simp) _ _ _ h).mono ?_; rintro _ h6 ⟨_,h7,j0,rfl,⟨bb,J,kb,xb,mb,qb,O,ab,cb,rfl,fb,K⟩,p,g,j1⟩
           try simp at J
           have r := r.k g; have a := a.k g; have n := n.k g; have b := b.k g; have b4 := g.size
           try simp at b4
           have := n.nb.lt; cases n.nb; have := b.nb.lt; cases b.nb)
        | (go_simp
           go_at_call 31
           with_reducible show Calls _ _ #[_,_,Value.int IntKind.i64 5] _ _
           refine (kt p.ev fun h => oH c 5 [84,89,80,69] (by decide) (by simp) _ _ _ h).mono ?_; rintro _ j2 ⟨_,j3,j4,rfl,⟨bd,b5,kd,xd,md,qd,ld,ad,cd,rfl,fd,td⟩,p,g,j5⟩
           try simp at b5
           have K := K.cl g; have r := r.k g; have a := a.k g; have n := n.k g; have b := b.k g; have b7 := g.size
           try simp at b7
           have := n.nb.lt; cases n.nb; have := b.nb.lt; cases b.nb)
        | (go_simp
           go_at_call 31
           with_reducible show Calls _ _ #[_,_,Value.int IntKind.i64 6] _ _
           refine (kt p.ev fun h => oH c 6 [86,65,82] (by decide) (by simp) _ _ _ h).mono ?_; rintro _ j6 ⟨_,j7,j8,rfl,⟨bu,b8,ku,xu,mu,qu,lu,au,cu,rfl,fu,tu⟩,p,g,j9⟩
           try simp at b8
           have K := K.cl g; have td := td.cl g; have r := r.k g; have a := a.k g; have n := n.k g; have b := b.k g; have b9 := g.size
           try simp at b9
           have := n.nb.lt; cases n.nb; have := b.nb.lt; cases b.nb)
        | (refine nX rfl _ _ rfl p n (FL.cons (KN.ft b) (FL.cons fb (FL.cons fd (FL.cons fu FL.nil)))) (lQ (lo := G.heap.size + 1) (t1 := .mk Y Z ma qa a1) (t2 := .mk kb xb mb qb O) (t3 := .mk kd xd md qd ld) (t4 := .mk ku xu mu qu lu) b.in (K.wide (by omega) (by omega)) (td.wide (by omega) (by omega)) (tu.wide (by omega) (by omega))) rfl rfl ?_
           intro ad V cp k0 I p nb n k1 g f; have r := r.ap g f; have a := a.ap g f
           cases nb))
      all_goals
        go_wp2_with fail; go_meet
        case rel => exact ⟨_,_,_,p.ev,r.ev,n.ev,a.ev,by omega,fun h0 => ⟨by omega,(l (by omega)).2⟩⟩
    case rest =>
      clear p r n a b g; obtain ⟨k2,k3,L,p,r,n,a,h8,l⟩ := hcut
      replace p := p.out
      obtain ⟨k4,a2⟩ : ∃ x,x = wc := ⟨_,rfl⟩; subst a2; have d8 := p.il; have d9 := r.lt; have := n.hi; have := n.rb.lt; have := n.hi; have := n.rb.lt; go_wp2_with fail; go_at_call 27; refine (kn p.ev fun h => yN c _ _ _ h).mono ?_; rintro _ B ⟨rfl,p,g⟩; have r := r.k g; have n := n.k g; have a := a.k g; have c0 := g.size
      try simp at c0
      go_upto_block 2 with fail
      go_cut [] from 55 (fun wx => ∃ (A : Nat) (s : Int) (hi N : Nat),KX wx B.heap.size (B.heap.size + 1) hi N /\ Hid (KS c w wx A s) /\ RB wx w.heap.size /\ KX wx u.heap.size (u.heap.size + 1) L 4 /\ CE wx u.heap.size x /\ i <= A /\ (s = 0 -> E = 0 /\ x ≠ []))
      case first =>
        go_wp2_with fail
        go_loopw [] (fun wx => ∃ (A : Nat) (s : Int) (hi N : Nat),KX wx B.heap.size (B.heap.size + 1) hi N /\ N <= 5000 /\ (s = 0 -> N <= A) /\ Hid (KS c w wx A s) /\ RB wx w.heap.size /\ KX wx u.heap.size (u.heap.size + 1) L 4 /\ CE wx u.heap.size x /\ i <= A /\ (s = 0 -> E = 0 /\ x ≠ [])) (fun wr => vH wr c.rb c.n)
        case atStart => exact ⟨_,_,_,0,KX.new (k := 1) (m := 0) (x := []),by omega,by omega,p.ev,r.ev,n.ev,a.ev,by omega,fun h0 => ⟨by omega,(l (by omega)).2⟩⟩
        case round =>
          clear p r n a; obtain ⟨A,s,hi,N,j,hN,a6,p,r,n,a,h9,D⟩ := hrel
          replace p := p.out
          have a7 := p.il; have PL := zb p; have := j.hi; have a8 := r.lt; have := j.rb.lt; have := n.hi; go_wp2_with fail; go_at_call 10; refine (kn p.ev fun h => yX c _ _ _ h).mono ?_; rintro _ k5 ⟨rfl,p,g⟩; have r := r.k g; have n := n.k g; have a := a.k g; have j := j.k g; have c1 := g.size
          try simp at c1
          cases hE : s == 0
          · go_wp2
            go_meet
            case rel => exact ⟨_,_,_,_,j.ev,p.ev,r.ev,n.ev,a.ev,by omega,fun h0 => ⟨by omega,(D (by omega)).2⟩⟩
          · have c2 : s = 0 := by simpa using hE
            go_wp2_with fail; go_at_call 11; refine (kn p.ev fun h => yv c _ _ _ h).mono ?_; rintro _ k6 ⟨rfl,p,g⟩; have r := r.k g; have n := n.k g; have a := a.k g; have j := j.k g; have c3 := g.size
            try simp at c3
            cases hq : c.W A == [80,82,79,67,69,68,85,82,69]
            · go_wp2
              go_meet
              case rel => exact ⟨_,_,_,_,j.ev,p.ev,r.ev,n.ev,a.ev,by omega,fun h0 => ⟨by omega,(D (by omega)).2⟩⟩
            · obtain ⟨_,_,_,_,V,_,_,_,_,z⟩ := j.o
              cases z.nb; go_wp2_with fail
              go_region_law (first
                | (go_simp
                   go_at_call 32; refine (kt p.ev fun h => hP _ _ _ h).mono ?_; rintro _ k7 ⟨_,k8,k9,rfl,⟨bb,J,kb,xb,mb,qb,O,ab,cb,rfl,fb,K⟩,p,g,l0⟩
                   try simp at J
                   have r := r.k g; have n := n.k g; have a := a.k g; have z := z.k g; have c4 := g.size
                   try simp at c4
                   have := z.nb.lt
                   cases z.nb)
                | (refine nX rfl _ _ rfl p z (FL.cons fb FL.nil) (LR.build1 _ (t := .mk kb xb mb qb O) (sv := .slice ab O.length cb) K rfl rfl (by omega)) rfl rfl ?_
                   intro ad V cp l2 I p nb j l3 g f; have r := r.ap g f; have n := n.ap g f; have a := a.ap g f
                   cases nb))
              all_goals
                go_wp2_with fail; go_at_call 28; refine (kc p.ev fun h => zN c _ _ _ h [59] (by simp)).mono ?_; rintro _ l4 ⟨_,l5,l6,rfl,-,p,g,l7⟩; have r := r.k g; have n := n.k g; have a := a.k g; have j := j.k g; have c5 := g.size
                try simp at c5
                go_wp2
                exact ⟨⟨_,_,_,_,j.ev,by simp; omega,by simp; omega,p.ev,r.ev,n.ev,a.ev,by omega,fun h0 => ⟨by omega,(D (by omega)).2⟩⟩,PL.less c2 p.ev (by omega)⟩
      case rest =>
        clear p r n a g; obtain ⟨l8,l9,Q,N6,j,p,r,n,a,h8,l⟩ := hcut
        replace p := p.out
        obtain ⟨m0,a3⟩ : ∃ x,x = wc := ⟨_,rfl⟩; subst a3; have f0 := p.il; have f1 := r.lt; have := n.hi; have := n.rb.lt; have := j.hi; have := j.rb.lt; have := j.hi; have := j.rb.lt; go_wp2_with fail; go_at_call 27; refine (kn p.ev fun h => yN c _ _ _ h).mono ?_; rintro _ c6 ⟨rfl,p,g⟩; have r := r.k g; have n := n.k g; have a := a.k g; have j := j.k g; have c7 := g.size
        try simp at c7
        go_upto_if 75 with (go_at_call 30; refine (kj p.ev fun h => zW c _ _ _ h [66,69,71,73,78] (by simp)).mono ?_; rintro _ m1 ⟨c8,m2,rfl,p,g,f2⟩)
        have C := (KX.new (N := 0)).call g; have r := r.k g; have n := n.k g; have a := a.k g; have j := j.k g; have c9 := g.size
        try simp at c9
        go_cut [] from 76 (fun wx => ∃ (A : Nat) (s : Int) (M a4 N7 : Nat),KX wx c6.heap.size M a4 N7 /\ B.heap.size + 1 <= M /\ KX wx B.heap.size (B.heap.size + 1) Q N6 /\ Hid (KS c w wx A s) /\ RB wx w.heap.size /\ KX wx u.heap.size (u.heap.size + 1) L 4 /\ CE wx u.heap.size x /\ i <= A /\ (s = 0 -> E = 0 /\ x ≠ []))
        case first =>
          cases c8
          · go_wp2
            go_meet
            case rel => exact ⟨_,_,_,_,_,C.ev,by omega,j.ev,p.ev,r.ev,n.ev,a.ev,by omega,fun h0 => ⟨by omega,(l (by omega)).2⟩⟩
          · go_wp2_with fail
            go_at_call 33; refine (kt p.ev fun h => hS _ _ _ h (by omega)).mono ?_; rintro _ m3 ⟨_,m4,m5,rfl,⟨ba,d0,Y,Z,ma,qa,a1,aa,ca,rfl,fa,ta⟩,p,g,m6⟩
            try simp at d0
            have r := r.k g; have n := n.k g; have a := a.k g; have j := j.k g; have C := C.k g; have d1 := g.size
            try simp at d1
            cases C.cc; go_wp2; go_meet
            case rel => exact ⟨_,_,_,_,_,KX.set (lo := B.heap.size + 1) C.rb fa ta,by omega,j.ev,p.ev,r.ev,n.ev,a.ev,by omega,fun h0 => ⟨by omega,(l (by omega)).2⟩⟩
        case rest =>
          clear p r n a j C g; obtain ⟨m7,m8,M,a4,N7,C,m9,j,p,r,n,a,h8,l⟩ := hcut
          replace p := p.out
          obtain ⟨n0,a5⟩ : ∃ x,x = wc := ⟨_,rfl⟩; subst a5; have f3 := p.il; have f4 := r.lt; have := n.hi; have := n.rb.lt; have := j.hi; have := j.rb.lt; have := C.hi; have := C.rb.lt; have := j.hi; have := C.hi; obtain ⟨Y,Z,ma,qa,a1,aa,ca,_,_,j⟩ := j.o; cases j.nb; obtain ⟨kb,xb,mb,qb,O,ab,cb,_,_,C⟩ := C.o; cases C.nb; obtain ⟨_,_,_,_,_,_,_,_,_,z⟩ := n.o; cases z.nb
          go_wp2_with (first
            | (at_builtin
               refine ry rfl _ _ rfl p z (FL.cons (KN.ft j) (FL.cons (KN.ft C) FL.nil)) (lT (lo := B.heap.size + 1) (t1 := .mk Y Z ma qa a1) (t2 := .mk kb xb mb qb O) j.in C.in) rfl rfl ?_; intro ad V cp n1 I p nb n n2 g f; have r := r.ap g f; have a := a.ap g f
               cases nb))
          go_at_call 28; refine (kc p.ev fun h => zN c _ _ _ h [69,78,68] (by simp)).mono ?_; rintro _ n3 ⟨_,n5,n7,rfl,-,p,g,n8⟩; have r := r.k g; have n := n.k g; have a := a.k g; have d2 := g.size
          try simp at d2
          have hc := id a
          unfold CE at hc
          go_wp2_with fail; go_at_call 28; refine (kc p.ev fun h => zN c _ _ _ h x (Classical.or_iff_not_imp_right.2 fun h0 => (l (by omega)).2)).mono ?_; rintro _ n9 ⟨_,o0,o1,rfl,-,p,g,o2⟩; have r := r.k g; have n := n.k g; have d3 := g.size
          try simp at d3
          go_wp2_with fail; go_at_call 28; refine (kc p.ev fun h => zN c _ _ _ h [46] (by simp)).mono ?_; rintro _ o3 ⟨_,o4,o5,rfl,-,p,g,o6⟩; have r := r.k g; have n := n.k g; have d4 := g.size
          try simp at d4
          cases n.cc; cases r.d; go_wp2
          exact xi Tryz.results9 p.ev n.ev r.ev
theorem kst (c : KC) : ∀ m,KOK c 33 0 m
 | 0 => fun _ _ _ p hm => absurd p.il (by omega)
 | m + 1 => fun w i E p hm => tD c (m + 1) w i E p hm (fun w i E p hm hE hne => rY c m w i E p hm hE hne (kst c m))
theorem bL (c : KC) (w : World) (i : Nat) (E : Int) (p : KS c w w i E) : Calls Tryz.prog 32 #[.pointer (some ⟨c.rb,0,none⟩)] w (Kr c w i E 0 (KT w.heap.size)) := pR c w i E p (kst c c.n)
theorem mO (c : KC) (w : World) (i : Nat) (E : Int) (p : KS c w w i E) : Calls Tryz.prog 9 #[.pointer (some ⟨c.rb,0,none⟩)] w (Kr c w i E 0 (KT w.heap.size)) := dx c w i E p (kst c c.n) (bL c)
end Go.Proofs.YtifapidjkelnfaaGreatDoor
