/- The document's reader,told loosely: types. -/
import Derived.Test.YtifapidjkelnfaaGreatDoorG10
import Derived.Deep.RegionHeld
namespace Go.Proofs.YtifapidjkelnfaaGreatDoor
open Go.RowKit
set_option maxRecDepth 100000 in
set_option maxHeartbeats 8000000 in
theorem pA (c : KC) (w : World) (i : Nat) (E : Int) (p : KS c w w i E) : Calls Tryz.prog 96 #[.pointer (some ⟨c.rb,0,none⟩)] w (Kr c w i E 1 (KT w.heap.size)) := by
  have hb := p.l1; have hn := p.il; have U := p.few.1
  go_enter Tryz.func96,Tryz.ntmps96
  go_wp2_with fail; go_at_call 27; refine (kn p.ev fun h => yN c _ _ _ h).mono ?_; rintro _ a ⟨rfl,p,g⟩; have r := (RB.new w _).call g; have s1 := g.size
  try simp at s1
  go_wp2_with fail; go_at_call 30; refine (ki p.ev fun h => zW c _ _ _ h [65,82,82,65,89] (by simp)).mono ?_; rintro _ w2 ⟨i2,p,g,⟨rfl,h2⟩ | ⟨rfl,h2⟩⟩
  all_goals
    have n := (KX.new (N := 0)).call g; have r := r.k g; have s2 := g.size
    try simp at s2
  · go_wp2_with fail
    go_at_call 30; refine (ki p.ev fun h => zW c _ _ _ h [80,79,73,78,84,69,82] (by simp)).mono ?_; rintro _ w3 ⟨i3,p,g,⟨rfl,V⟩ | ⟨rfl,V⟩⟩
    all_goals
      have r := r.k g; have n := n.k g; have J := g.size
      try simp at J
    · cases n.cc
      go_wp2_with fail; go_at_call 28; refine (kc p.ev fun h => zN c _ _ _ h [82,69,67,79,82,68] (by simp)).mono ?_; rintro _ X ⟨_,Y,Z,rfl,-,p,g,h4⟩; have r := r.k g; have n := n.k g; have q := g.size
      try simp at q
      go_wp2_with fail; go_at_call 27; refine (kn p.ev fun h => yN c _ _ _ h).mono ?_; rintro _ f ⟨rfl,p,g⟩; have r := r.k g; have n := n.k g; have s := g.size
      try simp at s
      go_upto_if 36 with (go_at_call 30; refine (kj p.ev fun h => zW c _ _ _ h [40] (by simp)).mono ?_; rintro _ A ⟨b6,i6,rfl,p,g,a3⟩)
      have d := (KX.new (N := 0)).call g; have r := r.k g; have n := n.k g; have K := g.size
      try simp at K
      go_cut [] from 37 (fun wx => ∃ (j : Nat) (l : Int) (m t N9 : Nat),Hid (KS c w wx j l) /\ RB wx w.heap.size /\ KX wx a.heap.size (a.heap.size + 1) (a.heap.size + 1) 0 /\ KX wx f.heap.size m t N9 /\ a.heap.size + 1 <= m /\ i <= j /\ (l = 0 -> E = 0 /\ i + 1 <= j))
      case first =>
        cases b6
        · go_wp2
          go_meet
          case rel => exact ⟨_,_,_,_,_,p.ev,r.ev,n.ev,d.ev,by omega,by omega,by omega⟩
        · go_wp2_with fail
          go_at_call 59; refine (kt p.ev fun h => yP c _ _ _ h).mono ?_; rintro _ w7 ⟨_,i7,E7,rfl,⟨ba,b,B,C,D,F,G,H,I,rfl,u,x⟩,p,g,h7⟩
          try simp at b
          have r := r.k g; have n := n.k g; have d := d.k g; have s7 := g.size
          try simp at s7
          cases d.cc; go_wp2_with fail; go_at_call 28; refine (kc p.ev fun h => zN c _ _ _ h [41] (by simp)).mono ?_; rintro _ w8 ⟨_,i8,E8,rfl,-,p,g,h8⟩; have d := (KX.set (lo := a.heap.size + 1) d.rb u x).call g; have r := r.k g; have n := n.k g; have s8 := g.size
          try simp at s8
          go_wp2; go_meet
          case rel => exact ⟨_,_,_,_,_,p.ev,r.ev,n.ev,d.ev,by omega,by omega,by omega⟩
      case rest =>
        clear p r n d g; obtain ⟨a4,a5,m,t,N9,p,r,n,d,a6,a7,y⟩ := hcut
        replace p := p.out
        have a2 := p.il; obtain ⟨_,_,_,_,_,_,_,_,a8,d⟩ := d.o; cases d.nb; cases n.cc; go_wp2_with fail
        go_loopw [] (fun wr => ∃ (j : Nat) (l : Int) (hi N : Nat),Hid (KS c w wr j l) /\ RB wr w.heap.size /\ KX wr a.heap.size (a.heap.size + 1) hi N /\ i <= j /\ N <= 5000 /\ (l = 0 -> E = 0 /\ i + 1 <= j /\ N <= j)) (fun wr => vH wr c.rb c.n)
        case atStart => exact ⟨_,_,_,_,p.ev,r.ev,n.one (lo := a.heap.size + 1) (N := 1) d.ft (d.in (g0 := a.heap.size + 1)),by omega,by omega,by omega⟩
        case round =>
          clear p r n d; obtain ⟨j,l,hi,N,p,r,n,h8,h9,a9⟩ := hrel
          replace p := p.out
          have b0 := p.il; have PL := zb p; go_wp2_with fail; go_at_call 10; refine (kn p.ev fun h => yX c _ _ _ h).mono ?_; rintro _ b1 ⟨rfl,p,g⟩; have r := r.k g; have n := n.k g; have L := g.size
          try simp at L
          cases hE : l == 0
          · have z : l ≠ 0 := by simpa using hE
            cases n.cc; cases r.d; go_wp2
            exact xi Tryz.results96 p.ev n.ev r.ev
          · have z : l = 0 := by simpa using hE
            go_wp2_with fail; go_at_call 30; refine (ki p.ev fun h => zW c _ _ _ h [69,78,68] (by simp)).mono ?_; rintro _ b2 ⟨b3,p,g,⟨rfl,y⟩ | ⟨rfl,y⟩⟩
            all_goals
              have r := r.k g; have n := n.k g; have M := g.size
              try simp at M
            · obtain ⟨_,_,_,_,a1,_,_,_,_,n⟩ := n.o
              cases n.nb; go_wp2_with fail
              go_region_law (first
                | (go_simp
                   go_at_call 58; refine (kt p.ev fun h => gu c 11 _ _ _ h (by decide) (fun h => absurd h (by decide))).mono ?_; rintro _ b4 ⟨_,b5,b7,rfl,⟨bb,O,kb,xb,mb,qb,lb,ab,cb,rfl,fb,tb⟩,p,g,b8⟩
                   try simp at O
                   have r := r.k g; have n := n.k g; have Q := g.size
                   try simp at Q
                   have := n.nb.lt
                   cases n.nb)
                | (refine pN rfl _ _ rfl p r n fb tb rfl rfl ?_
                   intro ad a1 cp b9 p r nb n c0 ⟨row,g,hrow⟩
                   cases nb))
              all_goals
                go_wp2_with fail; go_at_call 28; refine (kc p.ev fun h => zN c _ _ _ h [59] (by simp)).mono ?_; rintro _ c1 ⟨_,c2,c3,rfl,-,p,g,c4⟩; have r := r.k g; have n := n.k g; have R := g.size
                try simp at R
                go_wp2
                exact ⟨⟨_,_,_,_,p.ev,r.ev,n.ev,by omega,by omega,by omega⟩,PL.less z p.ev (by omega)⟩
            · cases n.cc
              cases r.d; go_wp2
              exact xi Tryz.results96 p.ev n.ev r.ev
    · cases n.cc
      go_wp2_with fail; go_at_call 28; refine (kc p.ev fun h => zN c _ _ _ h [84,79] (by simp)).mono ?_; rintro _ X ⟨_,Y,Z,rfl,-,p,g,h4⟩; have r := r.k g; have n := n.k g; have q := g.size
      try simp at q
      go_wp2_with fail; go_at_call 59; refine (kt p.ev fun h => yP c _ _ _ h).mono ?_; rintro _ f ⟨_,i5,E5,rfl,⟨ba,b,B,C,D,F,G,H,I,rfl,u,x⟩,p,g,h5⟩
      try simp at b
      have r := r.k g; have n := n.k g; have s := g.size
      try simp at s
      cases n.cc
      go_upto_region 21 with fail
      generalize e : (f.setCell ⟨a.heap.size,4,none⟩ (.slice (some ⟨f.heap.size,0,none⟩) 1 1)).alloc (.cells #[.int .i64 B,.string ⟨C.toArray⟩,.int .i64 D,.int .i64 F,.slice H G.length I] 24) = A
      have K : f.heap.size <= A.heap.size := by rw [<- e]; simp [World.setCell]
      have p := KS.sl e p.ev; have r := RB.sl e r.ev; have n := KX.sl e (n.one (lo := a.heap.size + 1) (N := 5) u x); clear e; cases n.cc; cases r.d; go_wp2
      exact xi Tryz.results96 p.ev n.ev r.ev
  · cases n.cc
    go_wp2_with fail; go_at_call 138; refine (kc p.ev fun h => qM c _ _ _ h).mono ?_; rintro _ w3 ⟨_,i3,E3,rfl,⟨v,rfl,hv⟩,p,g,V⟩; have r := r.k g; have n := n.k g; have J := g.size
    try simp at J
    cases n.cc; go_wp2_with fail; go_at_call 28; refine (kc p.ev fun h => zN c _ _ _ h [79,70] (by simp)).mono ?_; rintro _ X ⟨_,Y,Z,rfl,-,p,g,h4⟩; have r := r.k g; have n := n.k g; have q := g.size
    try simp at q
    go_wp2_with fail; go_at_call 59; refine (kt p.ev fun h => yP c _ _ _ h).mono ?_; rintro _ f ⟨_,i5,E5,rfl,⟨ba,b,B,C,D,F,G,H,I,rfl,u,x⟩,p,g,h5⟩
    try simp at b
    have r := r.k g; have n := n.k g; have s := g.size
    try simp at s
    cases n.cc
    go_upto_region 21 with fail
    generalize e : (f.setCell ⟨a.heap.size,4,none⟩ (.slice (some ⟨f.heap.size,0,none⟩) 1 1)).alloc (.cells #[.int .i64 B,.string ⟨C.toArray⟩,.int .i64 D,.int .i64 F,.slice H G.length I] 24) = A
    have K : f.heap.size <= A.heap.size := by rw [<- e]; simp [World.setCell]
    have p := KS.sl e p.ev; have r := RB.sl e r.ev; have n := KX.sl e (n.one (lo := a.heap.size + 1) (N := 5) u x); clear e; cases n.cc; cases r.d; go_wp2
    exact xi Tryz.results96 p.ev n.ev r.ev
theorem bg (c : KC) (kd : Int) (hk : i64 kd) (w : World) (i : Nat) (E : Int) (p : KS c w w i E) : Calls Tryz.prog 58 #[.pointer (some ⟨c.rb,0,none⟩),.int .i64 kd] w (Kr c w i E 1 (KT w.heap.size)) := gu c kd w i E p hk (fun _ w i E p => pA c w i E p)
theorem oH (c : KC) (kd : Int) (x : Bs) (hk : i64 kd) (hx : x ≠ []) (w : World) (i : Nat) (E : Int) (p : KS c w w i E) : Calls Tryz.prog 31 #[.pointer (some ⟨c.rb,0,none⟩),.string ⟨x.toArray⟩,.int .i64 kd] w (Kr c w i E 0 (KT w.heap.size)) := rZ c kd x w i E p hx (bg c kd hk)
section
variable {w : World} {lo g : Nat} {t1 t2 t3 t4 : T} {v1 v2 v3 v4 : Value} {cs : Array Value}
theorem lQ (e1 : LR w (In lo g) t1.subs v1) (e2 : LR w (In lo g) t2.subs v2) (e3 : LR w (In lo g) t3.subs v3) (e4 : LR w (In lo g) t4.subs v4) (hg : g = w.heap.size := by rfl) (hc : cs.toList = xg [t1,t2,t3,t4] [v1,v2,v3,v4] := by rfl) (hlo : lo <= g := by omega) : LR (w.alloc (.cells cs 24)) (In lo (g + 1)) [t1,t2,t3,t4] (.slice (some ⟨g,0,none⟩) 4 4) :=
 LR.build w (svs := [v1,v2,v3,v4]) hg rfl hc rfl (by simp) hlo (fun i t' sv' h3 h4 => by
  match i,h3,h4 with
  | 0,h3,h4 => cases h3; cases h4; exact e1
  | 1,h3,h4 => cases h3; cases h4; exact e2
  | 2,h3,h4 => cases h3; cases h4; exact e3
  | 3,h3,h4 => cases h3; cases h4; exact e4)
end
theorem NB.ev {w w' : World} {b : Nat} {v0 v1 v2 v3 v4 : Value} (h : NB w b v0 v1 v2 v3 v4) (e : NB w b v0 v1 v2 v3 v4 -> NB w' b v0 v1 v2 v3 v4 := by intro h; repeat' (first | with_reducible exact h | with_reducible refine NB.far ?_ (by omega) _ _ | with_reducible refine NB.alloc ?_ _ | with_reducible refine NB.drewN ?_ _ | with_reducible refine NB.drew ?_)) : NB w' b v0 v1 v2 v3 v4 := e h
theorem lg {w : World} {b1 b2 b3 : Nat} {u0 u1 u2 u3 u4 v0 v1 v2 v3 v4 x0 x1 x2 x3 x4 : Value} (h1 : NB w b1 u0 u1 u2 u3 u4) (h2 : NB w b2 v0 v1 v2 v3 v4) (h3 : NB w b3 x0 x1 x2 x3 x4) :
  w.cell? ⟨b1,0,none⟩ = some u0 /\ w.cell? ⟨b1,1,none⟩ = some u1 /\ w.cell? ⟨b1,2,none⟩ = some u2 /\ w.cell? ⟨b1,3,none⟩ = some u3 /\ w.cell? ⟨b1,4,none⟩ = some u4 /\
  w.cell? ⟨b2,0,none⟩ = some v0 /\ w.cell? ⟨b2,1,none⟩ = some v1 /\ w.cell? ⟨b2,2,none⟩ = some v2 /\ w.cell? ⟨b2,3,none⟩ = some v3 /\ w.cell? ⟨b2,4,none⟩ = some v4 /\
  w.cell? ⟨b3,0,none⟩ = some x0 /\ w.cell? ⟨b3,1,none⟩ = some x1 /\ w.cell? ⟨b3,2,none⟩ = some x2 /\ w.cell? ⟨b3,3,none⟩ = some x3 /\ w.cell? ⟨b3,4,none⟩ = some x4 :=
 ⟨h1.c0,h1.c1,h1.c2,h1.c3,h1.c4,h2.c0,h2.c1,h2.c2,h2.c3,h2.c4,h3.c0,h3.c1,h3.c2,h3.c3,h3.c4⟩
theorem KX.four {w : World} {b lo lo2 hi2 M g : Nat} {t1 t2 t3 t4 : T} {v1 v2 v3 v4 : Value} {cs : Array Value} (n : KX w b lo2 hi2 M) (f1 : FT t1) (e1 : LR w (In lo w.heap.size) t1.subs v1) (f2 : FT t2) (e2 : LR w (In lo w.heap.size) t2.subs v2) (f3 : FT t3) (e3 : LR w (In lo w.heap.size) t3.subs v3) (f4 : FT t4) (e4 : LR w (In lo w.heap.size) t4.subs v4) (hg : g = w.heap.size := by rfl) (hc : cs.toList = xg [t1,t2,t3,t4] [v1,v2,v3,v4] := by rfl) (hlo : lo <= w.heap.size := by omega) (hb : b < lo := by omega) :
  KX ((w.setCell ⟨b,4,none⟩ (.slice (some ⟨g,0,none⟩) 4 4)).alloc (.cells cs 24)) b lo (g + 1) 4 := by
 subst hg; obtain ⟨a,e,f,h,_,_,n⟩ := n
 exact ⟨a,e,f,h,_,_,(n.nb.s4 _).alloc _,(lQ (g := w.heap.size) (e1.put (.inl hb) _ _) (e2.put (.inl hb) _ _) (e3.put (.inl hb) _ _) (e4.put (.inl hb) _ _) (by simp [World.setCell]) hc hlo).mono (fun j hj => ⟨hj,by have : lo <= j := hj.1; omega⟩),FL.cons f1 (FL.cons f2 (FL.cons f3 (FL.cons f4 FL.nil))),by simp [World.setCell],n.hx,n.hk,n.hm,by simp⟩
set_option maxRecDepth 100000 in
set_option maxHeartbeats 20000000 in
theorem pR (c : KC) (w : World) (i : Nat) (E : Int) (p : KS c w w i E) (hS : KOK c 33 0 c.n) : Calls Tryz.prog 32 #[.pointer (some ⟨c.rb,0,none⟩)] w (Kr c w i E 0 (KT w.heap.size)) := by
  have hb := p.l1; have hn := p.il; have f6 := p.few.1
  go_enter Tryz.func32,Tryz.ntmps32
  go_wp2_with fail; go_at_call 27; refine (kn p.ev fun h => yN c _ _ _ h).mono ?_; rintro _ q ⟨rfl,p,g⟩; have r := (RB.new w _).call g; have s1 := g.size
  try simp at s1
  go_wp2_with fail; go_at_call 28; refine (kc p.ev fun h => zN c _ _ _ h [80,82,79,67,69,68,85,82,69] (by simp)).mono ?_; rintro _ w2 ⟨_,i2,E2,rfl,-,p,g,h2⟩; have n := (KX.new (N := 0)).call g; have r := r.k g; have s2 := g.size
  try simp at s2
  go_wp2_with fail; go_at_call 29; refine (kc p.ev fun h => xD c _ _ _ h).mono ?_; rintro _ w3 ⟨_,i3,E3,rfl,⟨x,rfl,hx,m⟩,p,g,h3⟩; have r := r.k g; have n := n.k g; have s3 := g.size
  try simp at s3
  cases n.cc
  go_upto_if 18 with (go_at_call 30; refine (kj p.ev fun h => zW c _ _ _ h [42] (by simp)).mono ?_; rintro _ w4 ⟨b4,i4,rfl,p,g,I⟩)
  have b := (show CE (w3.setCell ⟨q.heap.size,1,none⟩ (.string ⟨x.toArray⟩)) q.heap.size x from KS.cell (o := 1) (o' := 1) _ (by assumption)).call g; have r := r.k g; have n := n.k g; have s4 := g.size
  try simp at s4
  go_cut [] from 19 (fun wx => ∃ (u : Nat) (A : Int),Hid (KS c w wx u A) /\ RB wx w.heap.size /\ KX wx q.heap.size (q.heap.size + 1) (q.heap.size + 1) 0 /\ CE wx q.heap.size x /\ i <= u /\ (A = 0 -> E = 0 /\ x ≠ []))
  case first =>
    cases b4
    · cases n.cc
      go_wp2; go_meet
      case rel => exact ⟨_,_,p.ev,r.ev,n.ev,b.ev,by omega,fun h0 => ⟨by omega,m (by omega)⟩⟩
    · cases n.cc
      go_wp2; go_meet
      case rel => exact ⟨_,_,p.ev,r.ev,n.ev,b.ev,by omega,fun h0 => ⟨by omega,m (by omega)⟩⟩
  case rest =>
    clear p r n b g; obtain ⟨h4,h5,p,r,n,b,h8,m⟩ := hcut
    replace p := p.out
    obtain ⟨h6,Z⟩ : ∃ x,x = wc := ⟨_,rfl⟩; subst Z; have f7 := p.il; have f8 := r.lt; have := n.hi; have := n.rb.lt; go_wp2_with fail; go_at_call 27; refine (kn p.ev fun h => yN c _ _ _ h).mono ?_; rintro _ l ⟨rfl,p,g⟩; have r := r.k g; have n := n.k g; have b := b.k g; have a6 := g.size
    try simp at a6
    go_upto_region 7 with fail
    go_cut [29] from 23 (fun v29 wx => ∃ (g9 : Bool) (u : Nat) (A : Int),v29 = .bool g9 /\ KX wx l.heap.size (l.heap.size + 1) (l.heap.size + 1) 0 /\ Hid (KS c w wx u A) /\ RB wx w.heap.size /\ KX wx q.heap.size (q.heap.size + 1) (q.heap.size + 1) 0 /\ CE wx q.heap.size x /\ i <= u /\ (A = 0 -> E = 0 /\ x ≠ []))
    case first =>
      go_wp2_with fail; go_at_call 30; refine (ki p.ev fun h => zW c _ _ _ h [40] (by simp)).mono ?_; rintro _ h7 ⟨j0,p,g,⟨rfl,a7⟩ | ⟨rfl,a7⟩⟩
      all_goals
        have a := (KX.new (N := 0)).call g; have r := r.k g; have n := n.k g; have b := b.k g; have a8 := g.size
        try simp at a8
      · go_wp2
        go_meet
        case rel => exact ⟨false,_,_,rfl,a.ev,p.ev,r.ev,n.ev,b.ev,by omega,fun h0 => ⟨by omega,(m (by omega)).2⟩⟩
      · go_wp2_with fail
        go_at_call 30; refine (ki p.ev fun h => zW c _ _ _ h [41] (by simp)).mono ?_; rintro _ j1 ⟨j2,p,g,⟨rfl,a9⟩ | ⟨rfl,a9⟩⟩
        all_goals
          have r := r.k g; have n := n.k g; have b := b.k g; have a := a.k g; have b0 := g.size
          try simp at b0
        · go_wp2
          go_meet
          case rel => exact ⟨true,_,_,rfl,a.ev,p.ev,r.ev,n.ev,b.ev,by omega,fun h0 => ⟨by omega,(m (by omega)).2⟩⟩
        · go_wp2
          go_meet
          case rel => exact ⟨false,_,_,rfl,a.ev,p.ev,r.ev,n.ev,b.ev,by omega,fun h0 => ⟨by omega,(m (by omega)).2⟩⟩
    case rest =>
      clear p r n b g; obtain ⟨g9,j3,j4,rfl,a,p,r,n,b,h8,m⟩ := hcut
      replace p := p.out
      obtain ⟨j5,a2⟩ : ∃ x,x = wc := ⟨_,rfl⟩; subst a2; have f9 := p.il; have g1 := r.lt; have := n.hi; have := n.rb.lt; have := a.hi; have := a.rb.lt
      go_upto_if 29 with fail
      go_cut [] from 30 (fun wx => ∃ (u : Nat) (A : Int) (hi N : Nat),KX wx l.heap.size (l.heap.size + 1) hi N /\ Hid (KS c w wx u A) /\ RB wx w.heap.size /\ KX wx q.heap.size (q.heap.size + 1) (q.heap.size + 1) 0 /\ CE wx q.heap.size x /\ i <= u /\ (A = 0 -> E = 0 /\ x ≠ []))
      case first =>
        cases g9
        · go_wp2
          go_meet
          case rel => exact ⟨_,_,_,_,a.ev,p.ev,r.ev,n.ev,b.ev,by omega,fun h0 => ⟨by omega,(m (by omega)).2⟩⟩
        · go_wp2_with fail
          go_loopw [] (fun wx => ∃ (u : Nat) (A : Int) (hi N : Nat),KX wx l.heap.size (l.heap.size + 1) hi N /\ N <= 5000 /\ (A = 0 -> N <= u) /\ Hid (KS c w wx u A) /\ RB wx w.heap.size /\ KX wx q.heap.size (q.heap.size + 1) (q.heap.size + 1) 0 /\ CE wx q.heap.size x /\ i <= u /\ (A = 0 -> E = 0 /\ x ≠ [])) (fun wr => vH wr c.rb c.n)
          case atStart => exact ⟨_,_,_,_,a.ev,by omega,by omega,p.ev,r.ev,n.ev,b.ev,by omega,fun h0 => ⟨by omega,(m (by omega)).2⟩⟩
          case round =>
            clear p r n b a; obtain ⟨u,A,hi,N,a,hN,b1,p,r,n,b,h9,F⟩ := hrel
            replace p := p.out
            have b2 := p.il; have PL := zb p; have := a.hi; have b3 := r.lt; have := n.hi; have := a.rb.lt; go_wp2_with fail; go_at_call 27; refine (kn p.ev fun h => yN c _ _ _ h).mono ?_; rintro _ K ⟨rfl,p,g⟩; have r := r.k g; have n := n.k g; have b := b.k g; have a := a.k g; have b5 := g.size
            try simp at b5
            go_wp2_with fail; go_at_call 30; refine (ki p.ev fun h => zW c _ _ _ h [86,65,82] (by simp)).mono ?_; rintro _ j6 ⟨j7,p,g,⟨rfl,b6⟩ | ⟨rfl,b6⟩⟩
            all_goals
              have v := (KX.new (N := 0)).call g; have r := r.k g; have n := n.k g; have b := b.k g; have a := a.k g; have b7 := g.size
              try simp at b7
            all_goals
              cases v.cc; go_wp2_with fail; go_at_call 29; refine (kc p.ev fun h => xD c _ _ _ h).mono ?_; rintro _ j8 ⟨_,j9,k0,rfl,⟨y,rfl,hy,-⟩,p,g,k1⟩; have r := r.k g; have n := n.k g; have b := b.k g; have a := a.k g; have v := v.k g; have b8 := g.size
              try simp at b8
              cases v.cc; go_wp2_with fail; go_at_call 28; refine (kc p.ev fun h => zN c _ _ _ h [58] (by simp)).mono ?_; rintro _ k2 ⟨_,k3,k4,rfl,-,p,g,k5⟩; have r := r.k g; have n := n.k g; have b := b.k g; have a := a.k g; have v := v.k g; have b9 := g.size
              try simp at b9
              go_wp2_with fail; go_at_call 59; refine (kt p.ev fun h => yP c _ _ _ h).mono ?_; rintro _ L ⟨_,k6,k7,rfl,⟨ba,G,ka,Q,R,U,V,X,Y,rfl,fa,ta⟩,p,g,k8⟩
              try simp at G
              have r := r.k g; have n := n.k g; have b := b.k g; have a := a.k g; have v := v.k g; have c0 := g.size
              try simp at c0
              cases v.cc
              go_upto_region 14 with fail
              generalize B : (L.setCell ⟨K.heap.size,4,none⟩ (.slice (some ⟨L.heap.size,0,none⟩) 1 1)).alloc (.cells #[.int .i64 ka,.string ⟨Q.toArray⟩,.int .i64 R,.int .i64 U,.slice X V.length Y] 24) = w36
              have k9 : L.heap.size <= w36.heap.size := by rw [<- B]; simp [World.setCell]
              have p := KS.sl B p.ev; have r := RB.sl B r.ev; have n := KX.sl B n.ev; have b := CE.sl B b.ev; have a := KX.sl B a.ev; have v := KX.sl B (v.one (lo := K.heap.size + 1) (N := 5) fa ta); clear B; obtain ⟨kv,xv,mv,qv,lv,av,cv,_,_,v⟩ := v.o; cases v.nb; obtain ⟨_,_,_,_,_,_,_,_,_,z⟩ := a.o; cases z.nb
              go_wp2_with (first
                | (at_builtin
                   refine ry rfl _ _ rfl p z (FL.cons v.ft FL.nil) (LR.build1 _ (t := .mk kv xv mv qv lv) (sv := .slice av lv.length cv) (v.in (g0 := K.heap.size)) rfl rfl (by omega)) rfl rfl ?_; intro ad a1 cp l0 c1 p nb a l2 g s; have r := r.ap g s; have n := n.ap g s; have b := b.ap g s
                   cases nb))
              go_wp2_with fail; go_at_call 30; refine (ki p.ev fun h => zW c _ _ _ h [59] (by simp)).mono ?_; rintro _ l3 ⟨l4,p,g,⟨rfl,c2⟩ | ⟨rfl,c2⟩⟩
              all_goals
                have r := r.k g; have n := n.k g; have b := b.k g; have a := a.k g; have c3 := g.size
                try simp at c3
              · go_wp2_with fail
                go_at_call 28; refine (kc p.ev fun h => zN c _ _ _ h [41] (by simp)).mono ?_; rintro _ l5 ⟨_,l6,l7,rfl,-,p,g,l8⟩; have r := r.k g; have n := n.k g; have b := b.k g; have a := a.k g; have c4 := g.size
                try simp at c4
                go_wp2; go_meet
                case rel => exact ⟨_,_,_,_,a.ev,p.ev,r.ev,n.ev,b.ev,by omega,fun h0 => ⟨by omega,(F (by omega)).2⟩⟩
              · go_wp2
                exact ⟨⟨_,_,_,_,a.ev,by simp; omega,by simp; omega,p.ev,r.ev,n.ev,b.ev,by omega,fun h0 => ⟨by omega,(F (by omega)).2⟩⟩,PL.less (by omega) p.ev (by omega)⟩
      case rest =>
        clear p r n b a g; obtain ⟨l9,m0,I,N4,a,p,r,n,b,h8,m⟩ := hcut
        replace p := p.out
        obtain ⟨m1,a3⟩ : ∃ x,x = wc := ⟨_,rfl⟩; subst a3; have g2 := p.il; have g3 := r.lt; have := n.hi; have := n.rb.lt; have := a.hi; have := a.rb.lt; go_wp2_with fail; go_at_call 27; refine (kn p.ev fun h => yN c _ _ _ h).mono ?_; rintro _ D ⟨rfl,p,g⟩; have r := r.k g; have n := n.k g; have b := b.k g; have a := a.k g; have c5 := g.size
        try simp at c5
        go_upto_if 60 with (go_at_call 30; refine (kj p.ev fun h => zW c _ _ _ h [58] (by simp)).mono ?_; rintro _ m2 ⟨c6,m3,rfl,p,g,g4⟩)
        have e := (KX.new (N := 0)).call g; have r := r.k g; have n := n.k g; have b := b.k g; have a := a.k g; have c7 := g.size
        try simp at c7
        go_cut [] from 61 (fun wx => ∃ (u : Nat) (A : Int) (H J N6 : Nat),KX wx D.heap.size H J N6 /\ l.heap.size + 1 <= H /\ KX wx l.heap.size (l.heap.size + 1) I N4 /\ Hid (KS c w wx u A) /\ RB wx w.heap.size /\ KX wx q.heap.size (q.heap.size + 1) (q.heap.size + 1) 0 /\ CE wx q.heap.size x /\ i <= u /\ (A = 0 -> E = 0 /\ x ≠ []))
        case first =>
          cases c6
          · go_wp2
            go_meet
            case rel => exact ⟨_,_,_,_,_,e.ev,by omega,a.ev,p.ev,r.ev,n.ev,b.ev,by omega,fun h0 => ⟨by omega,(m (by omega)).2⟩⟩
          · go_wp2_with fail
            go_at_call 59; refine (kt p.ev fun h => yP c _ _ _ h).mono ?_; rintro _ m4 ⟨_,m5,m6,rfl,⟨ba,G,ka,Q,R,U,V,X,Y,rfl,fa,ta⟩,p,g,m7⟩
            try simp at G
            have r := r.k g; have n := n.k g; have b := b.k g; have a := a.k g; have e := e.k g; have c8 := g.size
            try simp at c8
            cases e.cc; go_wp2; go_meet
            case rel => exact ⟨_,_,_,_,_,KX.set (lo := l.heap.size + 1) e.rb fa ta,by omega,a.ev,p.ev,r.ev,n.ev,b.ev,by omega,fun h0 => ⟨by omega,(m (by omega)).2⟩⟩
        case rest =>
          clear p r n b a e g; obtain ⟨m8,m9,H,J,N6,e,n0,a,p,r,n,b,h8,m⟩ := hcut
          replace p := p.out
          obtain ⟨n1,a4⟩ : ∃ x,x = wc := ⟨_,rfl⟩; subst a4; have g5 := p.il; have g6 := r.lt; have := n.hi; have := n.rb.lt; have := a.hi; have := a.rb.lt; have := e.hi; have := e.rb.lt; have := a.hi; have := e.hi; go_wp2_with fail; go_at_call 28; refine (kc p.ev fun h => zN c _ _ _ h [59] (by simp)).mono ?_; rintro _ n2 ⟨_,n3,n4,rfl,-,p,g,n5⟩; have r := r.k g; have n := n.k g; have b := b.k g; have a := a.k g; have e := e.k g; have c9 := g.size
          try simp at c9
          go_wp2_with fail; go_at_call 27; refine (kn p.ev fun h => yN c _ _ _ h).mono ?_; rintro _ C ⟨rfl,p,g⟩; have r := r.k g; have n := n.k g; have b := b.k g; have a := a.k g; have e := e.k g; have d0 := g.size
          try simp at d0
          go_upto_if 69 with (go_at_call 30; refine (kj p.ev fun h => zW c _ _ _ h [86,65,82] (by simp)).mono ?_; rintro _ n6 ⟨d1,n7,rfl,p,g,g7⟩)
          have f := (KX.new (N := 0)).call g; have r := r.k g; have n := n.k g; have b := b.k g; have a := a.k g; have e := e.k g; have d2 := g.size
          try simp at d2
          go_cut [] from 70 (fun wx => ∃ (u : Nat) (A : Int) (hi N : Nat),KX wx C.heap.size (C.heap.size + 1) hi N /\ KX wx l.heap.size (l.heap.size + 1) I N4 /\ KX wx D.heap.size H J N6 /\ Hid (KS c w wx u A) /\ RB wx w.heap.size /\ KX wx q.heap.size (q.heap.size + 1) (q.heap.size + 1) 0 /\ CE wx q.heap.size x /\ i <= u /\ (A = 0 -> E = 0 /\ x ≠ []))
          case first =>
            cases d1
            · go_wp2
              go_meet
              case rel => exact ⟨_,_,_,_,f.ev,a.ev,e.ev,p.ev,r.ev,n.ev,b.ev,by omega,fun h0 => ⟨by omega,(m (by omega)).2⟩⟩
            · go_wp2_with fail
              go_loopw [] (fun wx => ∃ (u : Nat) (A : Int) (hi N : Nat),KX wx C.heap.size (C.heap.size + 1) hi N /\ N <= 5000 /\ (A = 0 -> N <= u) /\ KX wx l.heap.size (l.heap.size + 1) I N4 /\ KX wx D.heap.size H J N6 /\ Hid (KS c w wx u A) /\ RB wx w.heap.size /\ KX wx q.heap.size (q.heap.size + 1) (q.heap.size + 1) 0 /\ CE wx q.heap.size x /\ i <= u /\ (A = 0 -> E = 0 /\ x ≠ [])) (fun wr => vH wr c.rb c.n)
              case atStart => exact ⟨_,_,_,_,f.ev,by omega,by omega,a.ev,e.ev,p.ev,r.ev,n.ev,b.ev,by omega,fun h0 => ⟨by omega,(m (by omega)).2⟩⟩
              case round =>
                clear p r n b a e f; obtain ⟨u,A,hi,N,f,hN,b1,a,e,p,r,n,b,h9,F⟩ := hrel
                replace p := p.out
                have b2 := p.il; have PL := zb p; have := f.hi; have b3 := r.lt; have := f.rb.lt; go_wp2_with fail; go_at_call 10; refine (kn p.ev fun h => yX c _ _ _ h).mono ?_; rintro _ n8 ⟨rfl,p,g⟩; have r := r.k g; have n := n.k g; have b := b.k g; have a := a.k g; have e := e.k g; have f := f.k g; have d3 := g.size
                try simp at d3
                cases hE : A == 0
                · go_wp2
                  go_meet
                  case rel => exact ⟨_,_,_,_,f.ev,a.ev,e.ev,p.ev,r.ev,n.ev,b.ev,by omega,fun h0 => ⟨by omega,(F (by omega)).2⟩⟩
                · have d4 : A = 0 := by simpa using hE
                  go_wp2_with fail; go_at_call 11; refine (kn p.ev fun h => yv c _ _ _ h).mono ?_; rintro _ n9 ⟨rfl,p,g⟩; have r := r.k g; have n := n.k g; have b := b.k g; have a := a.k g; have e := e.k g; have f := f.k g; have d5 := g.size
                  try simp at d5
                  go_wp2_with fail; go_at_call 57; refine (vT ⟨(c.W u).toArray⟩ c.ka c.kc _ (by have := p.sh u; unfold maxLen; simp [ByteArray.size]; omega) p.kp).mono ?_; rintro _ _ ⟨rfl,rfl⟩; cases hq : yB (c.W u)
                  · go_wp2
                    go_meet
                    case rel => exact ⟨_,_,_,_,f.ev,a.ev,e.ev,p.ev,r.ev,n.ev,b.ev,by omega,fun h0 => ⟨by omega,(F (by omega)).2⟩⟩
                  · go_wp2_with fail
                    go_at_call 27; refine (kn p.ev fun h => yN c _ _ _ h).mono ?_; rintro _ M ⟨rfl,p,g⟩; have r := r.k g; have n := n.k g; have b := b.k g; have a := a.k g; have e := e.k g; have f := f.k g; have d6 := g.size
                    try simp at d6
                    go_wp2_with fail; go_at_call 29; refine (kc p.ev fun h => xD c _ _ _ h).mono ?_; rintro _ o0 ⟨_,i64,o1,rfl,⟨y,rfl,hy,-⟩,p,g,o2⟩; have v := (KX.new (N := 0)).call g; have r := r.k g; have n := n.k g; have b := b.k g; have a := a.k g; have e := e.k g; have f := f.k g; have d7 := g.size
                    try simp at d7
                    cases v.cc; go_wp2_with fail; go_at_call 28; refine (kc p.ev fun h => zN c _ _ _ h [58] (by simp)).mono ?_; rintro _ o3 ⟨_,o4,o5,rfl,-,p,g,o6⟩; have r := r.k g; have n := n.k g; have b := b.k g; have a := a.k g; have e := e.k g; have f := f.k g; have v := v.k g; have d8 := g.size
                    try simp at d8
                    go_wp2_with fail; go_at_call 59; refine (kt p.ev fun h => yP c _ _ _ h).mono ?_; rintro _ O ⟨_,o7,o8,rfl,⟨ba,G,ka,Q,R,U,V,X,Y,rfl,fa,ta⟩,p,g,o9⟩
                    try simp at G
                    have r := r.k g; have n := n.k g; have b := b.k g; have a := a.k g; have e := e.k g; have f := f.k g; have v := v.k g; have d9 := g.size
                    try simp at d9
                    cases v.cc
                    go_upto_region 28 with fail
                    generalize B : (O.setCell ⟨M.heap.size,4,none⟩ (.slice (some ⟨O.heap.size,0,none⟩) 1 1)).alloc (.cells #[.int .i64 ka,.string ⟨Q.toArray⟩,.int .i64 R,.int .i64 U,.slice X V.length Y] 24) = w67
                    have p0 : O.heap.size <= w67.heap.size := by rw [<- B]; simp [World.setCell]
                    have p := KS.sl B p.ev; have r := RB.sl B r.ev; have n := KX.sl B n.ev; have b := CE.sl B b.ev; have a := KX.sl B a.ev; have e := KX.sl B e.ev; have f := KX.sl B f.ev; have v := KX.sl B (v.one (lo := M.heap.size + 1) (N := 5) fa ta); clear B; obtain ⟨kv,xv,mv,qv,lv,av,cv,_,_,v⟩ := v.o; cases v.nb; obtain ⟨_,_,_,_,_,_,_,_,_,z⟩ := f.o; cases z.nb
                    go_wp2_with (first
                      | (at_builtin
                         refine ry rfl _ _ rfl p z (FL.cons v.ft FL.nil) (LR.build1 _ (t := .mk kv xv mv qv lv) (sv := .slice av lv.length cv) (v.in (g0 := M.heap.size)) rfl rfl (by omega)) rfl rfl ?_; intro ad a1 cp p1 c1 p nb f p2 g s; have r := r.ap g s; have n := n.ap g s; have b := b.ap g s; have a := a.ap g s; have e := e.ap g s
                         cases nb))
                    go_wp2_with fail; go_at_call 28; refine (kc p.ev fun h => zN c _ _ _ h [59] (by simp)).mono ?_; rintro _ p3 ⟨_,p4,p5,rfl,-,p,g,p6⟩; have r := r.k g; have n := n.k g; have b := b.k g; have a := a.k g; have e := e.k g; have f := f.k g; have f0 := g.size
                    try simp at f0
                    go_wp2
                    exact ⟨⟨_,_,_,_,f.ev,by simp; omega,by simp; omega,a.ev,e.ev,p.ev,r.ev,n.ev,b.ev,by omega,fun h0 => ⟨by omega,(F (by omega)).2⟩⟩,PL.less d4 p.ev (by omega)⟩
          case rest =>
            clear p r n b a e f g; obtain ⟨p7,p8,p9,N8,f,a,e,p,r,n,b,h8,m⟩ := hcut
            replace p := p.out
            obtain ⟨q0,a5⟩ : ∃ x,x = wc := ⟨_,rfl⟩; subst a5; have g8 := p.il; have h1 := r.lt; have := n.hi; have := n.rb.lt; have := a.hi; have := a.rb.lt; have := e.hi; have := e.rb.lt; have := f.hi; have := f.rb.lt; have := f.hi; go_wp2_with fail; go_at_call 28; refine (kc p.ev fun h => zN c _ _ _ h [66,69,71,73,78] (by simp)).mono ?_; rintro _ q1 ⟨_,q2,q3,rfl,-,p,g,q4⟩; have r := r.k g; have n := n.k g; have b := b.k g; have a := a.k g; have e := e.k g; have f := f.k g; have f1 := g.size
            try simp at f1
            obtain ⟨ka,Q,R,U,V,X,Y,_,_,a⟩ := a.o; cases a.nb; obtain ⟨kb,xb,mb,qb,lb,ab,cb,_,_,e⟩ := e.o; cases e.nb; obtain ⟨kd,xd,md,qd,ld,ad,cd,_,_,f⟩ := f.o; cases f.nb; cases n.cc; go_wp2_with fail
            go_region_held (fun w' => w'.cell? ⟨l.heap.size,0,none⟩ = some (.int .i64 ka) /\ w'.cell? ⟨l.heap.size,1,none⟩ = some (.string ⟨Q.toArray⟩) /\ w'.cell? ⟨l.heap.size,2,none⟩ = some (.int .i64 R) /\ w'.cell? ⟨l.heap.size,3,none⟩ = some (.int .i64 U) /\ w'.cell? ⟨l.heap.size,4,none⟩ = some (.slice X V.length Y) /\ w'.cell? ⟨D.heap.size,0,none⟩ = some (.int .i64 kb) /\ w'.cell? ⟨D.heap.size,1,none⟩ = some (.string ⟨xb.toArray⟩) /\ w'.cell? ⟨D.heap.size,2,none⟩ = some (.int .i64 mb) /\ w'.cell? ⟨D.heap.size,3,none⟩ = some (.int .i64 qb) /\ w'.cell? ⟨D.heap.size,4,none⟩ = some (.slice ab lb.length cb) /\ w'.cell? ⟨C.heap.size,0,none⟩ = some (.int .i64 kd) /\ w'.cell? ⟨C.heap.size,1,none⟩ = some (.string ⟨xd.toArray⟩) /\ w'.cell? ⟨C.heap.size,2,none⟩ = some (.int .i64 md) /\ w'.cell? ⟨C.heap.size,3,none⟩ = some (.int .i64 qd) /\ w'.cell? ⟨C.heap.size,4,none⟩ = some (.slice ad ld.length cd))
              (exact lg a.nb.ev e.nb.ev f.nb.ev)
              (first
              | (go_at_call 33
                 refine (kt p.ev fun h => hS _ _ _ h (by omega)).mono ?_; rintro _ q5 ⟨_,q6,q7,rfl,⟨bu,f2,ku,xu,mu,qu,lu,au,cu,rfl,fu,tu⟩,p,g,q8⟩
                 try simp at f2
                 have r := r.k g; have n := n.k g; have b := b.k g; have a := a.k g; have e := e.k g; have f := f.k g; have f3 := g.size
                 try simp at f3
                 cases n.cc; have := a.nb.lt; cases a.nb; have := e.nb.lt; cases e.nb; have := f.nb.lt
                 cases f.nb))
            all_goals
              go_wp2_with fail; go_at_call 28; refine (kc p.ev fun h => zN c _ _ _ h [69,78,68] (by simp)).mono ?_; rintro _ q9 ⟨_,r0,r1,rfl,-,p,g,r2⟩; have n := (KX.four (lo := q.heap.size + 1) n (KN.ft a) a.in (KN.ft e) e.in (KN.ft f) f.in fu (tu.mono fun j hj => ⟨by have := hj.1; omega,hj.2⟩)).call g; have r := r.k g; have b := b.k g; have f4 := g.size
              try simp at f4
              have hc := id b
              unfold CE at hc
              go_wp2_with fail; go_at_call 28; refine (kc p.ev fun h => zN c _ _ _ h x (Classical.or_iff_not_imp_right.2 fun h0 => (m (by omega)).2)).mono ?_; rintro _ r3 ⟨_,r4,r5,rfl,-,p,g,r6⟩; have r := r.k g; have n := n.k g; have f5 := g.size
              try simp at f5
              cases n.cc; cases r.d; go_wp2
              exact xi Tryz.results32 p.ev n.ev r.ev
end Go.Proofs.YtifapidjkelnfaaGreatDoor
