/- The document's reader,told loosely: acts. -/
import Derived.Test.YtifapidjkelnfaaGreatDoorG08
import Derived.Test.YtifapidjkelnfaaGreatDoorG10
import Derived.Maps.OwnOps
import Derived.Deep.CutBlock
namespace Go.Proofs.YtifapidjkelnfaaGreatDoor
open Go.RowKit Go.Maps Go.WideMaps
theorem lk (w : World) : (zeroValue 3).run Tryz.prog w = .ok (.int .i64 0) w := by kernel_rfl
theorem KX.pair {w : World} {b d lo hi N M lo2 hi2 g0 g cp cp0 : Nat} {k k0 m m0 p p0 : Int} {x x0 : Bs} {l l0 : List T} {ad ad0 : Option Addr} (n : KX w b lo2 hi2 M) (c : KN w d lo hi N k x m p l (.slice ad l.length cp)) (hf : FT (.mk k0 x0 m0 p0 l0)) (hl : LR w (In g0 w.heap.size) l0 (.slice ad0 l0.length cp0)) (h1 : hi <= g0 := by omega) (h2 : d < g0 := by omega) (h3 : g0 <= w.heap.size := by omega) (h4 : lo <= g0 := by omega) (hb : b < lo := by omega) (hg : g = w.heap.size := by rfl) :
  KX ((w.setCell ⟨b,4,none⟩ (.slice (some ⟨g,0,none⟩) 2 2)).alloc (.cells #[.int .i64 k,.string ⟨x.toArray⟩,.int .i64 m,.int .i64 p,.slice ad l.length cp,.int .i64 k0,.string ⟨x0.toArray⟩,.int .i64 m0,.int .i64 p0,.slice ad0 l0.length cp0] 24)) b lo (g + 1) 2 := by
 subst hg; obtain ⟨f,h,q,r,_,_,n⟩ := n
 have a : LR ((w.setCell ⟨b,4,none⟩ (.slice (some ⟨w.heap.size,0,none⟩) 2 2)).alloc (.cells #[.int .i64 k,.string ⟨x.toArray⟩,.int .i64 m,.int .i64 p,.slice ad l.length cp,.int .i64 k0,.string ⟨x0.toArray⟩,.int .i64 m0,.int .i64 p0,.slice ad0 l0.length cp0] 24)) (Ho lo (w.heap.size + 1) d) [.mk k x m p l,.mk k0 x0 m0 p0 l0] (.slice (some ⟨w.heap.size,0,none⟩) 2 2) := by
  refine LR.buildH _ (svs := [.slice ad l.length cp,.slice ad0 l0.length cp0]) (by simp [World.setCell]) rfl rfl rfl (by simp) (by omega) (by omega) (fun i t sv e1 e2 => ?_)
  match i,e1,e2 with
  | 0,e1,e2 =>
   cases e1; cases e2
   exact (c.lr.kept (z6 (zj w (some b)) 4 _) (fun g e hs => by cases e; have := hs.1.1; omega)).mono (fun j hj => ⟨⟨hj.1.1,by have := hj.1.2; omega⟩,hj.2⟩)
  | 1,e1,e2 =>
   cases e1; cases e2
   exact (hl.put (.inl (by omega)) _ _).ho (.inl h2) h4 (Nat.le_refl _)
 exact ⟨f,h,q,r,_,_,(n.nb.s4 _).alloc _,a.mono (fun j hj => ⟨hj.1,by have := hj.1.1; omega⟩),FL.cons (ft c.fl c.hx c.hk c.hm) (FL.cons hf FL.nil),by simp [World.setCell],n.hx,n.hk,n.hm,by simp⟩
set_option maxRecDepth 100000 in
set_option maxHeartbeats 20000000 in
theorem rY (c : KC) (m : Nat) (w : World) (i : Nat) (E : Int) (p : KS c w w i E) (hm : c.n <= i + (m + 1)) (hE : E = 0) (hne : c.W i ≠ []) (hS : KOK c 33 0 m) : Calls Tryz.prog 62 #[.pointer (some ⟨c.rb,0,none⟩)] w (Kr c w i E 1 (KT w.heap.size)) := by
  have hb := p.l1; have hn := p.il; have c4 := p.few.1
  go_enter Tryz.func62,Tryz.ntmps62
  go_wp2_with fail; go_at_call 27; refine (kn p.ev fun h => yN c _ _ _ h).mono ?_; rintro _ l ⟨rfl,p,g⟩; have r := (RB.new w _).call g; have s1 := g.size
  try simp at s1
  go_wp2_with fail; go_at_call 11; refine (kn p.ev fun h => yv c _ _ _ h).mono ?_; rintro _ y ⟨rfl,p,g⟩; have n := (KX.new (N := 0)).call g; have r := r.k g; have s2 := g.size
  try simp at s2
  have c1 := p.c1; have z := p.z; have c6 := p.here.l1; cases hI : c.W i == [73,70]
  · cases hW : c.W i == [87,72,73,76,69]
    · cases hP : c.W i == [82,69,80,69,65,84]
      · cases hT : c.W i == [82,69,84,85,82,78]
        · have hd : (c.W i == [78,69,87]) = true \/ ((c.W i == [78,69,87]) = false /\ (c.W i == [71,69,84]) = true) \/ ((c.W i == [78,69,87]) = false /\ (c.W i == [71,69,84]) = false /\ (c.W i == [79,85,84]) = true) \/ ((c.W i == [78,69,87]) = false /\ (c.W i == [71,69,84]) = false /\ (c.W i == [79,85,84]) = false /\ (c.W i == [65,83,83,69,82,84]) = true) \/ ((c.W i == [78,69,87]) = false /\ (c.W i == [71,69,84]) = false /\ (c.W i == [79,85,84]) = false /\ (c.W i == [65,83,83,69,82,84]) = false) := by cases (c.W i == [78,69,87]) <;> cases (c.W i == [71,69,84]) <;> cases (c.W i == [79,85,84]) <;> cases (c.W i == [65,83,83,69,82,84]) <;> simp
          rcases hd with hN | ⟨hN,hG⟩ | ⟨hN,hG,hO⟩ | ⟨hN,hG,hO,hA⟩ | ⟨hN,hG,hO,hA⟩
          all_goals cases n.cc
          all_goals go_wp2_with fail
          rotate_right
          · go_at_call 97
            refine (kt p.ev fun h => nV c _ _ _ h).mono ?_; rintro _ R ⟨_,i3,E3,rfl,⟨ba,u,ka,xa,ma,qa,a1,aa,ca,rfl,B,C⟩,p,g,h3⟩
            try simp at u
            have r := r.k g; have n := n.k g; have s3 := g.size
            try simp at s3
            go_wp2_with fail; go_at_call 30; refine (ki p.ev fun h => zW c _ _ _ h [58,61] (by simp)).mono ?_; rintro _ O ⟨i4,p,g,⟨rfl,h4⟩ | ⟨rfl,h4⟩⟩
            all_goals
              have d := (KX.of (t := 24) B C).call g; have r := r.k g; have n := n.k g; have I := g.size
              try simp at I
            · cases n.cc
              go_wp2_with fail
              generalize f : O.setCell ⟨l.heap.size,0,none⟩ (.int .i64 15) = D
              have J : O.heap.size <= D.heap.size := by rw [<- f]; simp [World.setCell]
              have p := KS.sl f p.ev; have r := RB.sl f r.ev; have n := KX.sl f n.ev; have d := KX.sl f d.ev; clear f; obtain ⟨_,_,_,_,U,_,_,_,_,d⟩ := d.o; cases d.nb; have d0 := d.drew; have := r.lt; cases n.cc
              go_region_law (first
                | (go_simp
                   go_at_call 98; refine (kc p.ev fun h => ch c _ _ _ h).mono ?_; rintro _ A ⟨_,i6,E6,rfl,⟨us,au,cu,rfl,fu,hu,lu⟩,p,g,h6⟩; obtain ⟨q,hq,lu⟩ : ∃ q,q = _ /\ LR _ (In q _) us (.slice au us.length cu) := ⟨_,rfl,lu⟩
                   try simp at hq
                   have r := r.k g; have n := n.k g; have d := d.k g; have K := g.size
                   try simp at K
                   cases n.cc; have := d.nb.lt
                   cases d.nb)
                | (refine lR rfl _ _ rfl p r n d0 g fu hu lu rfl rfl ?_
                   intro F U cp G p r nb n s7
                   cases nb.d)
                | (refine lO rfl _ _ rfl p r n d fu hu lu rfl rfl ?_
                   intro F U cp G p r nb n s7
                   cases nb.d))
              all_goals
                go_upto_region 50 with fail
                generalize f : G.setCell ⟨l.heap.size,4,none⟩ (.slice F U cp) = w8
                have s8 : G.heap.size <= w8.heap.size := by rw [<- f]; simp [World.setCell]
                have p := KS.sl f p.ev; have r := RB.sl f r.ev; have n := KX.sl f n; clear f; cases n.cc; cases r.d; go_wp2
                exact xi Tryz.results62 p.ev n.ev r.ev
            · cases n.cc
              go_wp2_with fail
              generalize f : O.setCell ⟨l.heap.size,0,none⟩ (.int .i64 14) = D
              have J : O.heap.size <= D.heap.size := by rw [<- f]; simp [World.setCell]
              have p := KS.sl f p.ev; have r := RB.sl f r.ev; have n := KX.sl f n.ev; have d := KX.sl f d.ev; clear f; obtain ⟨kd,xd,md,qd,ld,F,cd,_,_,d⟩ := d.o; cases d.nb; cases n.cc
              go_region_with (first
                | (go_at_call 95
                   refine (kt p.ev fun h => sC c _ _ _ h).mono ?_; rintro _ A ⟨_,i6,E6,rfl,⟨bb,v,V,X,Y,Z,lb,ab,cb,rfl,L,M⟩,p,g,h6⟩
                   try simp at v
                   have r := r.k g; have n := n.k g; have d := d.k g; have K := g.size
                   try simp at K
                   cases n.cc; have := d.nb.lt
                   cases d.nb))
              all_goals
                go_upto_region 50 with fail
                generalize f : (A.setCell ⟨l.heap.size,4,none⟩ (.slice (some ⟨A.heap.size,0,none⟩) 2 2)).alloc (.cells #[.int .i64 kd,.string ⟨xd.toArray⟩,.int .i64 md,.int .i64 qd,.slice F ld.length cd,.int .i64 V,.string ⟨X.toArray⟩,.int .i64 Y,.int .i64 Z,.slice ab lb.length cb] 24) = G
                have s7 : A.heap.size <= G.heap.size := by rw [<- f]; simp [World.setCell]
                have p := KS.sl f p.ev; have r := RB.sl f r.ev; have n := KX.sl f (KX.pair n d L M); clear f; cases n.cc; cases r.d; go_wp2
                exact xi Tryz.results62 p.ev n.ev r.ev
          all_goals
            go_at_call 28; refine (kc (p.inc hne) fun h => zN c _ _ _ h [40] (by simp)).mono ?_; rintro _ R ⟨_,i3,E3,rfl,-,p,g,h3⟩; have r := r.k g; have n := n.k g; have s3 := g.size
            try simp at s3
            go_wp2_with fail
            first
              | (go_at_call 97; refine (kt p.ev fun h => nV c _ _ _ h).mono ?_)
              | (go_at_call 95; refine (kt p.ev fun h => sC c _ _ _ h).mono ?_)
            rintro _ O ⟨_,i4,E4,rfl,⟨ba,u,ka,xa,ma,qa,a1,aa,ca,rfl,B,C⟩,p,g,h4⟩
            try simp at u
            have r := r.k g; have n := n.k g; have I := g.size
            try simp at I
            cases n.cc; go_wp2_with fail; go_at_call 28; refine (kc p.ev fun h => zN c _ _ _ h [41] (by simp)).mono ?_; rintro _ D ⟨_,i5,E5,rfl,-,p,g,h5⟩; have n := (n.one (lo := l.heap.size + 1) (N := 5) B C).call g; have r := r.k g; have J := g.size
            try simp at J
            have c7 := @run_makeMap Tryz.prog; have o := World.ownsMap_made (H := Unit) D Tryz.prog 9 (plainElem Tryz.prog 3); obtain ⟨v0,c8,o,g0⟩ := o.update tK Tryz.underlying120 (by unfold maxLen; omega) (keyOf_string_mk (P := Tryz.prog) Tryz.underlying9 (s := ⟨#[78,69,87]⟩) (by unfold maxLen; decide)) (plainElem_int (H := Unit) Tryz.underlying3 (a := 20) (by decide)); obtain ⟨v1,c9,o,g1⟩ := o.update tK Tryz.underlying120 (by unfold maxLen; omega) (keyOf_string_mk (P := Tryz.prog) Tryz.underlying9 (s := ⟨#[71,69,84]⟩) (by unfold maxLen; decide)) (plainElem_int (H := Unit) Tryz.underlying3 (a := 22) (by decide)); obtain ⟨v2,d1,o,g2⟩ := o.update tK Tryz.underlying120 (by unfold maxLen; omega) (keyOf_string_mk (P := Tryz.prog) Tryz.underlying9 (s := ⟨#[79,85,84]⟩) (by unfold maxLen; decide)) (plainElem_int (H := Unit) Tryz.underlying3 (a := 21) (by decide)); obtain ⟨v3,d2,o,g3⟩ := o.update tK Tryz.underlying120 (by unfold maxLen; omega) (keyOf_string_mk (P := Tryz.prog) Tryz.underlying9 (s := ⟨#[65,83,83,69,82,84]⟩) (by unfold maxLen; decide)) (plainElem_int (H := Unit) Tryz.underlying3 (a := 23) (by decide)); obtain ⟨cc,d3,-,a3⟩ := o.lookup_int tK Tryz.underlying120 Tryz.underlying3 (lk _) (keyOf_string_mk (P := Tryz.prog) Tryz.underlying9 (s := ⟨(c.W i).toArray⟩) (by have := p.sh i; unfold maxLen; simp [ByteArray.size]; omega))
            replace a3 := ig a3
            have gM : (D.alloc (.map #[] 0)).grownBy v3 (some D.heap.size) := za (za (za g0 g1) g2) g3; have p := (p.alloc (.map #[] 0)).far gM (fun b e => by cases e; omega) (jL (p.alloc _).g gM (fun b e => by cases e; omega)); have r := (r.alloc (.map #[] 0)).kept gM (by have := r.lt; simp; omega); obtain ⟨_,_,_,_,_,_,_,_,a8,nn⟩ := n.o; have n := (n.alloc (.map #[] 0)).kept gM (by have := nn.nb.lt; simp; omega) (fun b e => by cases e; exact .inr a8); clear o nn; cases n.cc; cases r.d; go_wp2
            exact xi Tryz.results62 p.ev n.ev r.ev
        · cases n.cc
          go_wp2_with fail; obtain ⟨R,j⟩ : ∃ x,x = (y.setCell ⟨l.heap.size,0,none⟩ (.int .i64 19)).setCell ⟨c.rb,1,none⟩ (.int .i64 ((i : Int) + 1)) := ⟨_,rfl⟩
          have s3 : y.heap.size <= R.heap.size := by rw [j]; simp [World.setCell]
          rw [<- j]; have p := KS.inc (w := y.setCell ⟨l.heap.size,0,none⟩ (.int .i64 19)) p.ev hne; rw [<- j] at p; have r := (r.ev : RB ((y.setCell ⟨l.heap.size,0,none⟩ (.int .i64 19)).setCell ⟨c.rb,1,none⟩ (.int .i64 ((i : Int) + 1))) _); rw [<- j] at r; have n := (n.ev : KX ((y.setCell ⟨l.heap.size,0,none⟩ (.int .i64 19)).setCell ⟨c.rb,1,none⟩ (.int .i64 ((i : Int) + 1))) _ _ _ _); rw [<- j] at n; clear j; go_at_call 11; refine (kn p.ev fun h => yv c _ _ _ h).mono ?_; rintro _ O ⟨rfl,p,g⟩; have r := r.k g; have n := n.k g; have I := g.size
          try simp at I
          cases hq : c.W (i + 1) == [59]
          · go_wp2_with fail
            go_at_call 11; refine (kn p.ev fun h => yv c _ _ _ h).mono ?_; rintro _ D ⟨rfl,p,g⟩; have r := r.k g; have n := n.k g; have J := g.size
            try simp at J
            go_wp2_with fail; go_at_call 61; refine (rF _ _).mono ?_; rintro _ _ ⟨⟨b,rfl,hb⟩,rfl⟩; cases b
            · go_wp2_with fail
              go_at_call 95; refine (kt p.ev fun h => sC c _ _ _ h).mono ?_; rintro _ A ⟨_,i6,E6,rfl,⟨ba,u,ka,xa,ma,qa,a1,aa,ca,rfl,B,C⟩,p,g,h6⟩
              try simp at u
              have r := r.k g; have n := n.k g; have K := g.size
              try simp at K
              cases n.cc
              go_upto_region 50 with fail
              generalize f : (A.setCell ⟨l.heap.size,4,none⟩ (.slice (some ⟨A.heap.size,0,none⟩) 1 1)).alloc (.cells #[.int .i64 ka,.string ⟨xa.toArray⟩,.int .i64 ma,.int .i64 qa,.slice aa a1.length ca] 24) = G
              have s7 : A.heap.size <= G.heap.size := by rw [<- f]; simp [World.setCell]
              have p := KS.sl f p.ev; have r := RB.sl f r.ev; have n := KX.sl f (n.one (lo := l.heap.size + 1) (N := 5) B C); clear f; cases n.cc; cases r.d; go_wp2
              exact xi Tryz.results62 p.ev n.ev r.ev
            · cases n.cc
              cases r.d; go_wp2
              exact xi Tryz.results62 p.ev n.ev r.ev
          · cases n.cc
            cases r.d; go_wp2
            exact xi Tryz.results62 p.ev n.ev r.ev
      · cases n.cc
        go_wp2_with fail; obtain ⟨R,j⟩ : ∃ x,x = (y.setCell ⟨l.heap.size,0,none⟩ (.int .i64 18)).setCell ⟨c.rb,1,none⟩ (.int .i64 ((i : Int) + 1)) := ⟨_,rfl⟩
        have s3 : y.heap.size <= R.heap.size := by rw [j]; simp [World.setCell]
        rw [<- j]; have p := KS.inc (w := y.setCell ⟨l.heap.size,0,none⟩ (.int .i64 18)) p.ev hne; rw [<- j] at p; have r := (r.ev : RB ((y.setCell ⟨l.heap.size,0,none⟩ (.int .i64 18)).setCell ⟨c.rb,1,none⟩ (.int .i64 ((i : Int) + 1))) _); rw [<- j] at r; have n := (n.ev : KX ((y.setCell ⟨l.heap.size,0,none⟩ (.int .i64 18)).setCell ⟨c.rb,1,none⟩ (.int .i64 ((i : Int) + 1))) _ _ _ _); rw [<- j] at n; clear j; go_at_call 33; refine (kt p.ev fun h => hS _ _ _ h (by omega)).mono ?_; rintro _ O ⟨_,i4,E4,rfl,⟨ba,u,ka,xa,ma,qa,a1,aa,ca,rfl,B,C⟩,p,g,h4⟩
        try simp at u
        have r := r.k g; have n := n.k g; have I := g.size
        try simp at I
        go_wp2_with fail; go_at_call 28; refine (kc p.ev fun h => zN c _ _ _ h [85,78,84,73,76] (by simp)).mono ?_; rintro _ D ⟨_,i5,E5,rfl,-,p,g,h5⟩; have d := (KX.of (t := 24) B C).call g; have r := r.k g; have n := n.k g; have J := g.size
        try simp at J
        go_wp2_with fail; obtain ⟨kd,xd,md,qd,ld,F,cd,_,_,d⟩ := d.o; cases d.nb; cases n.cc
        go_region_with (first
          | (go_at_call 95
             refine (kt p.ev fun h => sC c _ _ _ h).mono ?_; rintro _ A ⟨_,i6,E6,rfl,⟨bb,v,V,X,Y,Z,lb,ab,cb,rfl,L,M⟩,p,g,h6⟩
             try simp at v
             have r := r.k g; have n := n.k g; have d := d.k g; have K := g.size
             try simp at K
             cases n.cc; have := d.nb.lt
             cases d.nb))
        all_goals
          go_upto_region 50 with fail
          generalize f : (A.setCell ⟨l.heap.size,4,none⟩ (.slice (some ⟨A.heap.size,0,none⟩) 2 2)).alloc (.cells #[.int .i64 kd,.string ⟨xd.toArray⟩,.int .i64 md,.int .i64 qd,.slice F ld.length cd,.int .i64 V,.string ⟨X.toArray⟩,.int .i64 Y,.int .i64 Z,.slice ab lb.length cb] 24) = G
          have s7 : A.heap.size <= G.heap.size := by rw [<- f]; simp [World.setCell]
          have p := KS.sl f p.ev; have r := RB.sl f r.ev; have n := KX.sl f (KX.pair n d L M); clear f; cases n.cc; cases r.d; go_wp2
          exact xi Tryz.results62 p.ev n.ev r.ev
    · cases n.cc
      go_wp2_with fail; obtain ⟨R,j⟩ : ∃ x,x = (y.setCell ⟨l.heap.size,0,none⟩ (.int .i64 17)).setCell ⟨c.rb,1,none⟩ (.int .i64 ((i : Int) + 1)) := ⟨_,rfl⟩
      have s3 : y.heap.size <= R.heap.size := by rw [j]; simp [World.setCell]
      rw [<- j]; have p := KS.inc (w := y.setCell ⟨l.heap.size,0,none⟩ (.int .i64 17)) p.ev hne; rw [<- j] at p; have r := (r.ev : RB ((y.setCell ⟨l.heap.size,0,none⟩ (.int .i64 17)).setCell ⟨c.rb,1,none⟩ (.int .i64 ((i : Int) + 1))) _); rw [<- j] at r; have n := (n.ev : KX ((y.setCell ⟨l.heap.size,0,none⟩ (.int .i64 17)).setCell ⟨c.rb,1,none⟩ (.int .i64 ((i : Int) + 1))) _ _ _ _); rw [<- j] at n; clear j; go_at_call 95; refine (kt p.ev fun h => sC c _ _ _ h).mono ?_; rintro _ O ⟨_,i4,E4,rfl,⟨ba,u,ka,xa,ma,qa,a1,aa,ca,rfl,B,C⟩,p,g,h4⟩
      try simp at u
      have r := r.k g; have n := n.k g; have I := g.size
      try simp at I
      go_wp2_with fail; go_at_call 28; refine (kc p.ev fun h => zN c _ _ _ h [68,79] (by simp)).mono ?_; rintro _ D ⟨_,i5,E5,rfl,-,p,g,h5⟩; have d := (KX.of (t := 24) B C).call g; have r := r.k g; have n := n.k g; have J := g.size
      try simp at J
      go_wp2_with fail; obtain ⟨kd,xd,md,qd,ld,F,cd,_,_,d⟩ := d.o; cases d.nb; cases n.cc
      go_region_with (first
        | (go_at_call 33
           refine (kt p.ev fun h => hS _ _ _ h (by omega)).mono ?_; rintro _ A ⟨_,i6,E6,rfl,⟨bb,v,V,X,Y,Z,lb,ab,cb,rfl,L,M⟩,p,g,h6⟩
           try simp at v
           have r := r.k g; have n := n.k g; have d := d.k g; have K := g.size
           try simp at K
           cases n.cc; have := d.nb.lt
           cases d.nb))
      all_goals
        go_wp2_with fail; go_at_call 28; refine (kc p.ev fun h => zN c _ _ _ h [69,78,68] (by simp)).mono ?_; rintro _ G ⟨_,i7,E7,rfl,-,p,g,h7⟩; have n := (KX.pair n d L M).call g; have r := r.k g; have s7 := g.size
        try simp at s7
        cases n.cc; cases r.d; go_wp2
        exact xi Tryz.results62 p.ev n.ev r.ev
  · cases n.cc
    go_upto_block 1 with fail
    go_cut [] from 35 (fun wx => ∃ (i9 : Nat) (E9 : Int) (hi N : Nat),Hid (KS c w wx i9 E9) /\ RB wx w.heap.size /\ KX wx l.heap.size (l.heap.size + 1) hi N /\ i <= i9 /\ N <= 5000)
    case first =>
      go_wp2_with fail
      go_loopw [] (fun wr => ∃ (i9 : Nat) (E9 : Int) (hi N : Nat),Hid (KS c w wr i9 E9) /\ RB wr w.heap.size /\ KX wr l.heap.size (l.heap.size + 1) hi N /\ i <= i9 /\ N <= 5000 /\ (E9 = 0 -> N <= i9)) (fun wr => vH wr c.rb c.n)
      case atStart => exact ⟨_,_,_,_,p.ev,r.ev,n.ev,by omega,by omega,by omega⟩
      case round =>
        clear p r n g; obtain ⟨i9,E9,hi,N,p,r,n,h8,h9,d4⟩ := hrel
        replace p := p.out
        have d5 := p.il; have PL := zb p; cases n.cc
        go_wp2_with (go_at_call 30; refine (ki p.ev fun h => zW c _ _ _ h _ (by simp)).mono ?_; rintro _ d6 ⟨d7,p,g,⟨rfl,a9⟩ | ⟨rfl,a9⟩⟩ <;> (have r := r.k g; have n := n.k g; have b0 := g.size; (try simp at b0); cases n.cc))
        any_goals
          (go_at_call 95
           have hh := n.hi; refine (kt p.ev fun h => sC c _ _ _ h).mono ?_; rintro _ d8 ⟨_,d9,f0,rfl,⟨ba,u,ka,xa,ma,qa,a1,aa,ca,rfl,B,C⟩,p,g,f1⟩
           try simp at u
           have r := r.k g; have n := n.k g; have b1 := g.size
           try simp at b1
           go_wp2_with fail; go_at_call 28; refine (kc p.ev fun h => zN c _ _ _ h [84,72,69,78] (by simp)).mono ?_; rintro _ f2 ⟨_,f3,f4,rfl,-,p,g,f5⟩; have d := (KX.of (t := 24) B C).call g; have r := r.k g; have n := n.k g; have b2 := g.size
           try simp at b2
           obtain ⟨kd,xd,md,qd,ld,F,cd,_,_,d⟩ := d.o; cases d.nb; obtain ⟨_,_,_,_,U,_,_,_,_,n⟩ := n.o; cases n.nb; go_wp2_with fail
           go_region_law (first
             | (go_simp
                go_at_call 33; refine (kt p.ev fun h => hS _ _ _ h (by omega)).mono ?_; rintro _ f6 ⟨_,b3,a2,rfl,⟨bb,v,V,X,Y,Z,lb,ab,cb,rfl,L,M⟩,p,g,f7⟩
                try simp at v
                have r := r.k g; have n := n.k g; have d := d.k g; have b4 := g.size
                try simp at b4
                have := n.nb.lt; cases n.nb; have := d.nb.lt
                cases d.nb)
             | (refine nX rfl _ _ rfl p n (FL.cons (KN.ft d) (FL.cons L FL.nil)) (lT (lo := ba) (t1 := .mk kd xd md qd ld) (t2 := .mk V X Y Z lb) d.in (M.wide (by omega) (Nat.le_refl _))) rfl rfl ?_
                intro F U cp f8 b5 p nb n f9 g Q; have r := r.ap g Q
                cases nb))
           all_goals
             go_wp2_with fail; go_at_call 10; refine (kn p.ev fun h => yX c _ _ _ h).mono ?_; rintro _ g4 ⟨rfl,p,g⟩; have r := r.k g; have n := n.k g; have b6 := g.size
             try simp at b6
             cases hF : a2 == 0
             case' false =>
               have b7 : a2 ≠ 0 := by simpa using hF
               go_wp2
               exact ⟨⟨_,_,_,_,p.ev,r.ev,n,by omega,by simp; omega,by simp; omega⟩,PL.less (by omega) p.ev (by omega)⟩
             case' true => have b7 : a2 = 0 := by simpa using hF
             go_wp2_with fail; go_at_call 11; refine (kn p.ev fun h => yv c _ _ _ h).mono ?_; rintro _ g5 ⟨rfl,p,g⟩; have r := r.k g; have n := n.k g; have b8 := g.size
             try simp at b8
             cases hq : c.W b3 == [73,70]
             case' false =>
               go_wp2
               exact ⟨⟨_,_,_,_,p.ev,r.ev,n,by omega,by simp; omega,by simp; omega⟩,PL.less (by omega) p.ev (by omega)⟩
             go_wp2_with fail)
        all_goals
          go_meet
          case rel => exact ⟨_,_,_,_,p.ev,r.ev,n.ev,by omega,by first | omega | (simp; omega)⟩
    case rest =>
      clear p r n g; obtain ⟨g6,g7,hi,N,p,r,n,h8,h9⟩ := hcut
      replace p := p.out
      obtain ⟨g8,a4⟩ : ∃ x,x = wc := ⟨_,rfl⟩; subst a4; have c5 := p.il; have := n.hi; have := r.lt; have := n.rb.lt; go_wp2_with fail; go_at_call 30; refine (ki p.ev fun h => zW c _ _ _ h [69,76,83,69] (by simp)).mono ?_; rintro _ a5 ⟨g9,p,g,⟨rfl,b9⟩ | ⟨rfl,b9⟩⟩
      all_goals
        have r := r.k g; have n := n.k g; have c0 := g.size
        try simp at c0
      · go_wp2_with fail
        go_at_call 28; refine (kc p.ev fun h => zN c _ _ _ h [69,78,68] (by simp)).mono ?_; rintro _ a6 ⟨_,h0,h1,rfl,-,p,g,h2⟩; have r := r.k g; have n := n.k g; have a7 := g.size
        try simp at a7
        cases n.cc; cases r.d; go_wp2
        exact xi Tryz.results62 p.ev n.ev r.ev
      · cases n.cc
        go_wp2_with fail
        generalize f : a5.setCell ⟨l.heap.size,2,none⟩ (.int .i64 1) = a6
        have a7 : a5.heap.size <= a6.heap.size := by rw [<- f]; simp [World.setCell]
        have p := KS.sl f p.ev; have r := RB.sl f r.ev; have n := KX.sl f n.ev; clear f; obtain ⟨_,_,_,_,U,_,_,_,_,n⟩ := n.o; cases n.nb; go_wp2_with fail
        go_region_law (first
          | (go_simp
             go_at_call 33; refine (kt p.ev fun h => hS _ _ _ h (by omega)).mono ?_; rintro _ j0 ⟨_,j1,j2,rfl,⟨bb,v,V,X,Y,Z,lb,ab,cb,rfl,L,M⟩,p,g,j3⟩
             try simp at v
             have r := r.k g; have n := n.k g; have c2 := g.size
             try simp at c2
             have := n.nb.lt
             cases n.nb)
          | (refine pN rfl _ _ rfl p r n L M rfl rfl ?_
             intro F U cp j4 p r nb n j5 ⟨b5,g,Q⟩
             cases nb))
        all_goals
          go_wp2_with fail; go_at_call 28; refine (kc p.ev fun h => zN c _ _ _ h [69,78,68] (by simp)).mono ?_; rintro _ j6 ⟨_,j7,j8,rfl,-,p,g,j9⟩; have r := r.k g; have n := n.k g; have c3 := g.size
          try simp at c3
          cases n.cc; cases r.d; go_wp2
          exact xi Tryz.results62 p.ev n.ev r.ev
end Go.Proofs.YtifapidjkelnfaaGreatDoor
