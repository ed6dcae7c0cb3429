/- The document's reader,told loosely: designators. -/
import Derived.Test.YtifapidjkelnfaaGreatDoorG03
import Derived.Test.YtifapidjkelnfaaGreatDoorG01
namespace Go.Proofs.YtifapidjkelnfaaGreatDoor
open Go.RowKit
theorem KN.row {w : World} {b lo hi N g cp : Nat} {k m p : Int} {x : Bs} {l : List T} {ad : Option Addr} (n : KN w b lo hi N k x m p l (.slice ad l.length cp)) (hg : g = w.heap.size) (h1 : lo <= w.heap.size) :
  LR (w.alloc (.cells #[.int .i64 k,.string ⟨x.toArray⟩,.int .i64 m,.int .i64 p,.slice ad l.length cp] 24)) (Ho lo (g + 1) b) [.mk k x m p l] (.slice (some ⟨g,0,none⟩) 1 1) := by
 subst hg; have hw := n.hw; refine LR.buildH w (b := b) (lo := lo) (ts := [.mk k x m p l]) (svs := [.slice ad l.length cp]) rfl rfl rfl rfl (by simp) h1 n.nb.lt (fun i t sv e1 e2 => ?_)
 match i,e1,e2 with
 | 0,e1,e2 =>
  cases e1; cases e2
  exact n.lr.mono (fun j hj => ⟨⟨hj.1.1,by have := hj.1.2; omega⟩,hj.2⟩)
theorem KX.wrap {w : World} {b lo hi N g bn cp : Nat} {k m p q : Int} {x : Bs} {l : List T} {ad : Option Addr} {t : TypeId} (n : KN w b lo hi N k x m p l (.slice ad l.length cp)) (hg : g = w.heap.size := by rfl) (hb : bn = w.heap.size + 1 := by first | rfl | simp) (h1 : lo <= w.heap.size := by omega) :
  KX ((w.alloc (.cells #[.int .i64 k,.string ⟨x.toArray⟩,.int .i64 m,.int .i64 p,.slice ad l.length cp] 24)).alloc (.cells #[.int .i64 0,.string ⟨#[]⟩,.int .i64 0,.int .i64 q,.slice (some ⟨g,0,none⟩) 1 1] t)) bn lo (g + 1) 1 := by
 subst hg hb
 exact ⟨0,[],0,q,[.mk k x m p l],_,NB.new' (by simp),((n.row rfl h1).kept (World.grownBy_alloc _ _ none) (fun _ e => by cases e)).mono (fun j hj => ⟨hj.1,by have := hj.1.2; omega⟩),FL.cons (ft n.fl n.hx n.hk n.hm) FL.nil,by simp,by decide,by decide,by decide,by simp⟩
theorem KX.copy {w : World} {b d lo hi N : Nat} {k0 m0 p0 : Int} {x0 : Bs} {ad : Option Addr} {ln cp : Nat} (r : RB w d) (n : KX w b lo hi N) (hd : d < lo := by omega) (c0 : w.cell? ⟨b,0,none⟩ = some (.int .i64 k0) := by first | assumption | go_simp) (c1 : w.cell? ⟨b,1,none⟩ = some (.string ⟨x0.toArray⟩) := by first | assumption | go_simp) (c2 : w.cell? ⟨b,2,none⟩ = some (.int .i64 m0) := by first | assumption | go_simp) (_c3 : w.cell? ⟨b,3,none⟩ = some (.int .i64 p0) := by first | assumption | go_simp) (c4 : w.cell? ⟨b,4,none⟩ = some (.slice ad ln cp) := by first | assumption | go_simp) :
  KX (((((w.setCell ⟨d,0,none⟩ (.int .i64 k0)).setCell ⟨d,1,none⟩ (.string ⟨x0.toArray⟩)).setCell ⟨d,2,none⟩ (.int .i64 m0)).setCell ⟨d,3,none⟩ (.int .i64 p0)).setCell ⟨d,4,none⟩ (.slice ad ln cp)) d lo hi N := by
 obtain ⟨p,q,s,t,l,a,h⟩ := n; have f := h.nb.c0.symm.trans c0; have g := h.nb.c1.symm.trans c1; have i := h.nb.c2.symm.trans c2; have m := h.nb.c4.symm.trans c4; cases f; cases g; cases i; cases m; have e : LR w (Ho lo hi d) l (.slice ad ln cp) := h.lr.mono (fun j hj => ⟨hj.1,by have := hj.1.1; omega⟩)
 exact ⟨_,_,_,_,l,_,RB.five r,((((e.mine _ _).mine _ _).mine _ _).mine _ _).mine _ _,h.fl,by simpa [World.setCell] using h.hw,h.hx,h.hk,h.hm,h.len⟩
set_option maxRecDepth 100000 in
set_option maxHeartbeats 8000000 in
theorem qQ (c : KC) (m : Nat) (w : World) (i : Nat) (E : Int) (p : KS c w w i E) (hm : c.n <= i + (m + 1)) (hX : KOK c 95 1 m) : Calls Tryz.prog 97 #[.pointer (some ⟨c.rb,0,none⟩)] w (Kr c w i E 1 (KT w.heap.size)) := by
  have hb := p.l1; have hn := p.il; have a3 := p.few.1
  go_enter Tryz.func97,Tryz.ntmps97
  go_wp2_with fail; go_at_call 27; refine (kn p.ev fun h => yN c _ _ _ h).mono ?_; rintro _ w1 ⟨rfl,p,g⟩; have r := (RB.new w _).call g; have s1 := g.size
  try simp at s1
  go_wp2_with fail; go_at_call 29; refine (kc p.ev fun h => xD c _ _ _ h).mono ?_; rintro _ w2 ⟨_,i2,E2,rfl,⟨x,rfl,hx,-⟩,p,g,h2⟩; have d := (KX.new (N := 0)).call g; have r := r.k g; have s2 := g.size
  try simp at s2
  cases d.cc; go_wp2_with fail
  go_loopw [5] (fun mv wr => ∃ (mm : Int) (H : Nat) (v : Int) (hi N : Nat),mv = .int .i64 mm /\ Hid (KS c w wr H v) /\ RB wr w.heap.size /\ KX wr w1.heap.size (w1.heap.size + 1) hi N /\ i <= H /\ (v = 0 -> E = 0 /\ i + 1 <= H)) (fun _ wr => vH wr c.rb c.n)
  case atStart => exact ⟨0,_,_,_,_,rfl,p.ev,r.ev,d.ev,by omega,by omega⟩
  case round =>
    clear p r d g; obtain ⟨mm,H,v,hi,N,rfl,p,r,d,h8,h9⟩ := hrel
    replace p := p.out
    have a4 := p.il; have I := zb p; go_wp2_with fail; go_at_call 10; refine (kn p.ev fun h => yX c _ _ _ h).mono ?_; rintro _ z ⟨rfl,p,g⟩; have r := r.k g; have d := d.k g; have J := g.size
    try simp at J
    cases hE : v == 0
    · have b : v ≠ 0 := by simpa using hE
      cases d.cc; cases r.d; go_wp2
      exact xi Tryz.results97 p.ev d.ev r.ev
    · have b : v = 0 := by simpa using hE
      obtain ⟨_,_,_,_,_,_,_,_,_,n⟩ := d.o; cases n.nb; go_wp2_with fail
      · go_at_call 34
        refine (kx p.ev fun h => ud c _ _ _ h _ (by decide)).mono ?_; rintro _ K ⟨rfl,a5,A,p,g⟩; have r := r.k g; have d := d.k g; have f := g.size
        try simp at f
        cases d.cc; cases r.d; go_wp2
        exact xi Tryz.results97 p.ev d.ev r.ev
      · go_at_call 30
        refine (ki p.ev fun h => zW c _ _ _ h [46] (by simp)).mono ?_; rintro _ K ⟨a6,p,g,⟨rfl,A⟩ | ⟨rfl,A⟩⟩
        all_goals
          have n := (KX.wrap n).call g; have r := r.k g; have d := d.k g; have f := g.size
          try simp at f
        · go_wp2_with fail
          go_at_call 30; refine (ki p.ev fun h => zW c _ _ _ h [91] (by simp)).mono ?_; rintro _ j ⟨L,p,g,⟨rfl,B⟩ | ⟨rfl,B⟩⟩
          all_goals
            have r := r.k g; have d := d.k g; have n := n.k g; have l := g.size
            try simp at l
          · go_wp2_with fail
            go_at_call 30; refine (ki p.ev fun h => zW c _ _ _ h [94] (by simp)).mono ?_; rintro _ C ⟨a7,p,g,⟨rfl,M⟩ | ⟨rfl,M⟩⟩
            all_goals
              have r := r.k g; have d := d.k g; have n := n.k g; have D := g.size
              try simp at D
            · go_wp2_with fail
              go_at_call 30; refine (ki p.ev fun h => zW c _ _ _ h [123] (by simp)).mono ?_; rintro _ q ⟨O,p,g,⟨rfl,F⟩ | ⟨rfl,F⟩⟩
              all_goals
                have r := r.k g; have d := d.k g; have n := n.k g; have s := g.size
                try simp at s
              · cases d.cc
                cases r.d; go_wp2
                exact xi Tryz.results97 p.ev d.ev r.ev
              · cases n.cc
                go_wp2_with fail
                generalize a : q.setCell ⟨z.heap.size + 1,0,none⟩ (.int .i64 28) = G
                have Q : q.heap.size <= G.heap.size := by rw [<- a]; simp [World.setCell]
                have p := KS.sl a p.ev; have r := RB.sl a r.ev; have d := KX.sl a d.ev; have n := KX.sl a n.ev; clear a; obtain ⟨_,_,_,_,R,_,_,_,_,n⟩ := n.o; cases n.nb; go_wp2_with fail
                go_region_law (first
                  | (go_simp
                     go_at_call 59; refine (kt p.ev fun h => yP c _ _ _ h).mono ?_; rintro _ U ⟨_,V,X,rfl,⟨bb,t,kb,xb,mb,qb,lb,ab,cb,rfl,Y,Z⟩,p,g,a1⟩
                     try simp at t
                     have r := r.k g; have d := d.k g; have n := n.k g; have u := g.size
                     try simp at u
                     cases d.cc; have := n.nb.lt
                     cases n.nb)
                  | (refine pN rfl _ _ rfl p r n Y Z rfl rfl ?_
                     intro ad R cp a8 p r nb n a9 ⟨row,g,hrow⟩; have d := (d.rb.alloc _).kept g (fun e => by have := hrow _ e.symm; omega)
                     cases nb))
                all_goals
                  go_wp2_with fail; go_at_call 28; refine (kc p.ev fun h => zN c _ _ _ h [125] (by simp)).mono ?_; rintro _ b0 ⟨_,b1,b2,rfl,-,p,g,b3⟩; have r := r.k g; have d := d.k g; have n := n.k g; have a2 := g.size
                  try simp at a2
                  cases n.cc; cases d.d; go_wp2
                  exact ⟨⟨_,_,_,_,_,rfl,p.ev,r.ev,KX.copy d.ev n.ev,by omega,by omega⟩,I.less b p.ev (by omega)⟩
            · cases n.cc
              cases d.rb.d; go_wp2
              exact ⟨⟨_,_,_,_,_,rfl,p.ev,r.ev,KX.copy d.rb.ev n.ev,by omega,by omega⟩,I.less b p.ev (by omega)⟩
          · cases n.cc
            go_wp2_with fail
            generalize a : j.setCell ⟨z.heap.size + 1,0,none⟩ (.int .i64 26) = C
            have D : j.heap.size <= C.heap.size := by rw [<- a]; simp [World.setCell]
            have p := KS.sl a p.ev; have r := RB.sl a r.ev; have d := KX.sl a d.ev; have n := KX.sl a n.ev; clear a; obtain ⟨_,_,_,_,R,_,_,_,_,n⟩ := n.o; cases n.nb; go_wp2_with fail
            go_region_law (first
              | (go_simp
                 go_at_call 95; refine (kt p.ev fun h => hX _ _ _ h (by omega)).mono ?_; rintro _ q ⟨_,O,b4,rfl,⟨bb,t,kb,xb,mb,qb,lb,ab,cb,rfl,Y,Z⟩,p,g,F⟩
                 try simp at t
                 have r := r.k g; have d := d.k g; have n := n.k g; have s := g.size
                 try simp at s
                 cases d.cc; have := n.nb.lt
                 cases n.nb)
              | (refine pN rfl _ _ rfl p r n Y Z rfl rfl ?_
                 intro ad R cp G p r nb n Q ⟨row,g,hrow⟩; have d := (d.rb.alloc _).kept g (fun e => by have := hrow _ e.symm; omega)
                 cases nb))
            all_goals
              go_wp2_with fail; go_at_call 28; refine (kc p.ev fun h => zN c _ _ _ h [93] (by simp)).mono ?_; rintro _ U ⟨_,V,X,rfl,-,p,g,a1⟩; have r := r.k g; have d := d.k g; have n := n.k g; have u := g.size
              try simp at u
              cases n.cc; cases d.d; go_wp2
              exact ⟨⟨_,_,_,_,_,rfl,p.ev,r.ev,KX.copy d.ev n.ev,by omega,by omega⟩,I.less b p.ev (by omega)⟩
        · cases n.cc
          go_wp2_with fail; go_at_call 29; refine (kc p.ev fun h => xD c _ _ _ h).mono ?_; rintro _ j ⟨_,L,b5,rfl,⟨y,rfl,hy,-⟩,p,g,B⟩; have r := r.k g; have d := d.k g; have n := n.k g; have l := g.size
          try simp at l
          cases n.cc; cases d.rb.d; go_wp2
          exact ⟨⟨_,_,_,_,_,rfl,p.ev,r.ev,KX.copy d.rb.ev n.ev,by omega,by omega⟩,I.less b p.ev (by omega)⟩
section
variable {ops : Array Oper} {o : Oper} {act : Act} {K : Act -> World -> Prop} {Q : Exit -> Act -> World -> Prop} {E' : Prop} {c : KC} {a w w0 : World} {i r b b2 lo lo2 hi hi2 N M g q cp cu : Nat} {E k m p : Int} {x : Bs} {l us : List T} {ad au : Option Addr} {t : T}
theorem bK (hgd : o.guard = none) (s y : Operand) (ho : o.op = .call { callee := .builtin .append,args := #[s,y],argTypes := #[22,22] }) (h : KS c a w i E) (hr : RB w r) (n : KX w b lo2 hi2 M) (ht : FT t) (lb : LR w (Ho lo w.heap.size b2) [t] (.slice (some ⟨g,0,none⟩) 1 1)) (fu : FL us) (hu : us.length <= 4100) {qh : Nat} (lu : LR w (In q qh) us (.slice au us.length cu)) (hqh : qh <= w.heap.size)
  (hs : act.eval s = .slice (some ⟨g,0,none⟩) 1 1) (hy : act.eval y = .slice au us.length cu) (hd : ∀ j,q <= j -> j < qh -> j ≠ g) (h2 : lo <= q) (h3 : b < lo) (h4 : a.heap.size <= g) (h5 : r ≠ g) (h6 : lo <= g) (h7 : g < w.heap.size)
  (hq : ∀ ad' ln' cp' w',KS c a w' i E -> RB w' r -> RB w' b -> KX (w'.setCell ⟨b,4,none⟩ (.slice ad' ln' cp')) b lo w'.heap.size 5000 -> w.heap.size <= w'.heap.size -> K (act.put o.dst (.slice ad' ln' cp')) w') :
  if Region.wanted o (yielded ops act.tmps) = true then Oper.wp Tryz.prog o act w K Q else E' := by
 have f : ∀ j,Value.ownBlock (.slice (some ⟨g,0,none⟩) 1 1) = some j -> j = g := fun j e => by simp [Value.ownBlock] at e; omega
 refine te (v := .slice (some ⟨g,0,none⟩) 1 1) (u := .slice au us.length cu) hgd s y ho (Ho lo (w.heap.size + 1) b) hs hy lb lu (fun j hj e => hd j hj.1 hj.2 (f j e)) (fun j hj => ⟨⟨hj.1.1,Nat.lt_succ_of_lt hj.1.2⟩,by have := hj.1.1; omega⟩) (fun j hj => ⟨⟨Nat.le_trans h2 hj.1,Nat.lt_succ_of_lt (Nat.lt_of_lt_of_le hj.2 hqh)⟩,by have D : q <= j := hj.1; omega⟩) ⟨⟨by omega,Nat.lt_succ_self _⟩,by omega⟩ (by simp; omega) ?_; intro F w' C z; obtain ⟨ad',cp',rfl⟩ := C.form; obtain ⟨k,x,m,p,l,G,n⟩ := n; have A := n.nb.kept z (fun e => by have := f b e.symm; omega); have B : FL ([t] ++ us) := (FL.cons ht FL.nil).app fu
 exact hq ad' _ cp' w' (h.far z (fun j e => by have := f j e; omega) (jL h.g z (fun j e => by have := f j e; omega))) (hr.kept z (fun e => by have := f r e.symm; omega)) A.rb
  ⟨k,x,m,p,_,_,A.s4 _,(C.bounded.mono (fun j hj => ⟨⟨hj.1.1.1,hj.2⟩,hj.1.2⟩)).mine _ _,B,by simp [World.setCell],n.hx,n.hk,n.hm,by simp; omega⟩ z.size
theorem lO (hgd : o.guard = none) (s y : Operand) (ho : o.op = .call { callee := .builtin .append,args := #[s,y],argTypes := #[22,22] }) (h : KS c a w i E) (hr : RB w r) (n : KX w b lo2 hi2 M) (d : KN w b2 lo hi N k x m p l (.slice ad l.length cp)) (fu : FL us) (hu : us.length <= 4100) (lu : LR w (In q w.heap.size) us (.slice au us.length cu))
  (hs : act.eval s = .slice (some ⟨w.heap.size,0,none⟩) 1 1) (hy : act.eval y = .slice au us.length cu)
  (hq : ∀ ad' ln' cp' w',KS c a w' i E -> RB w' r -> RB w' b -> KX (w'.setCell ⟨b,4,none⟩ (.slice ad' ln' cp')) b lo w'.heap.size 5000 -> w.heap.size + 1 <= w'.heap.size -> K (act.put o.dst (.slice ad' ln' cp')) w')
  (h2 : lo <= q := by first | omega | (simp; omega)) (h3 : b < lo := by first | omega | (simp; omega)) (h4 : a.heap.size <= w.heap.size := by first | omega | (simp; omega)) (h5 : r < w.heap.size := by first | omega | (simp; omega)) (h6 : lo <= w.heap.size := by first | omega | (simp; omega)) :
  if Region.wanted o (yielded ops act.tmps) = true then Oper.wp Tryz.prog o act (w.alloc (.cells #[.int .i64 k,.string ⟨x.toArray⟩,.int .i64 m,.int .i64 p,.slice ad l.length cp] 24)) K Q else E' :=
 bK hgd s y ho (h.alloc _) (hr.alloc _) (n.alloc _) (t := .mk k x m p l) (ft d.fl d.hx d.hk d.hm) (by simpa using d.row rfl h6) fu hu (lu.alloc _) (by simp) hs hy (fun j _ h9 => Nat.ne_of_lt h9) h2 h3 h4 (Nat.ne_of_lt h5) h6 (by simp) (by simpa using hq)
theorem lR (hgd : o.guard = none) (s y : Operand) (ho : o.op = .call { callee := .builtin .append,args := #[s,y],argTypes := #[22,22] }) (h : KS c a w i E) (hr : RB w r) (n : KX w b lo2 hi2 M) (d : KN w0 b2 lo hi N k x m p l (.slice ad l.length cp)) (hg : (w0.alloc (.cells #[.int .i64 k,.string ⟨x.toArray⟩,.int .i64 m,.int .i64 p,.slice ad l.length cp] 24)).grownBy w (some c.rb)) (fu : FL us) (hu : us.length <= 4100) (lu : LR w (In q w.heap.size) us (.slice au us.length cu))
  (hs : act.eval s = .slice (some ⟨w0.heap.size,0,none⟩) 1 1) (hy : act.eval y = .slice au us.length cu)
  (hq : ∀ ad' ln' cp' w',KS c a w' i E -> RB w' r -> RB w' b -> KX (w'.setCell ⟨b,4,none⟩ (.slice ad' ln' cp')) b lo w'.heap.size 5000 -> w.heap.size <= w'.heap.size -> K (act.put o.dst (.slice ad' ln' cp')) w')
  (h1 : q = w0.heap.size + 1 := by first | omega | (simp; omega)) (h2 : c.rb < lo := by first | omega | (simp; omega)) (h3 : b < lo := by first | omega | (simp; omega)) (h4 : a.heap.size <= w0.heap.size := by first | omega | (simp; omega)) (h5 : r < w0.heap.size := by first | omega | (simp; omega)) (h6 : lo <= w0.heap.size := by first | omega | (simp; omega)) :
  if Region.wanted o (yielded ops act.tmps) = true then Oper.wp Tryz.prog o act w K Q else E' := by
 have f := hg.size; simp only [World.size_alloc] at f
 exact bK hgd s y ho h hr n (t := .mk k x m p l) (ft d.fl d.hx d.hk d.hm) (((d.row rfl h6).kept hg (fun g e hs => by cases e; have := hs.1.1; omega)).mono (fun j hj => ⟨⟨hj.1.1,by have := hj.1.2; omega⟩,hj.2⟩)) fu hu lu (Nat.le_refl _) hs hy (fun j h8 _ => by omega) (by omega) h3 h4 (by omega) h6 (by omega) hq
end
set_option maxHeartbeats 400000 in
theorem nE (c : KC) (w : World) (i : Nat) (E : Int) (h : KS c w w i E) (sb : ByteArray) (hs : sb = ⟨(c.W i).toArray⟩) : Calls Tryz.prog 11 #[.pointer (some ⟨c.rb,0,none⟩)] w fun e w' => e = .returned (.string sb) /\ w.grownBy w' none := by
 rw [hs]
 exact yv c w i E h
set_option maxRecDepth 100000 in
set_option maxHeartbeats 8000000 in
theorem dm (c : KC) (m : Nat) (w : World) (i : Nat) (E : Int) (p : KS c w w i E) (hm : c.n <= i + (m + 1)) (hX : KOK c 95 1 m) (hF : KOK c 176 1 m) : Calls Tryz.prog 176 #[.pointer (some ⟨c.rb,0,none⟩)] w (Kr c w i E 1 (KT w.heap.size)) := by
  have hb := p.l1; have hn := p.il; have a6 := p.few.1
  go_enter Tryz.func176,Tryz.ntmps176
  obtain ⟨j,u⟩ : ∃ j : ByteArray,j = ⟨(c.W i).toArray⟩ := ⟨_,rfl⟩
  have hz : j.size = (c.W i).length := by rw [u]; simp [ByteArray.size]
  have a8 := p.sh i; have J := zb (xX j); have L := zb u; clear u; go_wp2_with fail; go_at_call 27; refine (kn p.ev fun h => yN c _ _ _ h).mono ?_; rintro _ B ⟨rfl,p,g⟩; have r := (RB.new w _).call g; have s1 := g.size
  try simp at s1
  go_wp2_with fail; go_at_call 11; refine (kn p.ev fun h => nE c _ _ _ h j L).mono ?_; rintro _ w2 ⟨rfl,p,g⟩; have n := (KX.new (N := 5)).call g; have r := r.k g; have s2 := g.size
  try simp at s2
  go_wp2_with fail; go_at_call 10; refine (kn p.ev fun h => yX c _ _ _ h).mono ?_; rintro _ w3 ⟨rfl,p,g⟩; have r := r.k g; have n := n.k g; have s3 := g.size
  try simp at s3
  cases hE : E == 0
  · have O : E ≠ 0 := by simpa using hE
    cases n.cc; cases r.d; go_wp2
    exact xi Tryz.results176 p.ev n.ev r.ev
  · have O : E = 0 := by simpa using hE
    by_cases h0 : 0 < j.size
    case' pos =>
      have a7 : j.toList.isEmpty = false := by rw [J.out]; simp only [decide_eq_false_iff_not]; omega
      cases n.cc
      go_wp2_with (go_at_call 24; refine (jn _ _).mono ?_; rintro _ _ ⟨⟨b,rfl⟩,rfl⟩; cases b)
      rotate_left
      · go_at_call 138
        refine (kc p.ev fun h => qM c _ _ _ h).mono ?_; rintro _ w4 ⟨_,i4,E4,rfl,⟨v,rfl,hv⟩,p,g,h4⟩; have r := r.k g; have n := n.k g; have R := g.size
        try simp at R
        cases n.cc; cases r.d; go_wp2
        exact xi Tryz.results176 p.ev n.ev r.ev
    case' neg =>
      obtain rfl : j = ⟨#[]⟩ := by
        obtain ⟨d⟩ := j; have : d = #[] := Array.eq_empty_of_size_eq_zero (by simp only [ByteArray.size] at h0; omega); rw [this]
      cases n.cc; go_wp2_with fail
    all_goals
      go_at_call 30; refine (ki p.ev fun h => zW c _ _ _ h [84,82,85,69] (by simp)).mono ?_; rintro _ w4 ⟨i4,p,g,⟨rfl,h4⟩ | ⟨rfl,h4⟩⟩
      all_goals
        have r := r.k g; have n := n.k g; have R := g.size
        try simp at R
      · go_wp2_with fail
        go_at_call 30; refine (ki p.ev fun h => zW c _ _ _ h [70,65,76,83,69] (by simp)).mono ?_; rintro _ w5 ⟨i5,p,g,⟨rfl,h5⟩ | ⟨rfl,h5⟩⟩
        all_goals
          have r := r.k g; have n := n.k g; have s5 := g.size
          try simp at s5
        · go_wp2_with fail
          go_at_call 30; refine (ki p.ev fun h => zW c _ _ _ h [78,73,76] (by simp)).mono ?_; rintro _ w6 ⟨i6,p,g,⟨rfl,h6⟩ | ⟨rfl,h6⟩⟩
          all_goals
            have r := r.k g; have n := n.k g; have s6 := g.size
            try simp at s6
          · go_wp2_with fail
            go_at_call 30; refine (ki p.ev fun h => zW c _ _ _ h [126] (by simp)).mono ?_; rintro _ w7 ⟨i7,p,g,⟨rfl,h7⟩ | ⟨rfl,h7⟩⟩
            all_goals
              have r := r.k g; have n := n.k g; have s7 := g.size
              try simp at s7
            · go_wp2_with fail
              go_at_call 30; refine (ki p.ev fun h => zW c _ _ _ h [40] (by simp)).mono ?_; rintro _ w8 ⟨i8,p,g,⟨rfl,h8⟩ | ⟨rfl,h8⟩⟩
              all_goals
                have r := r.k g; have n := n.k g; have U := g.size
                try simp at U
              · go_wp2_with fail
                go_at_call 97; refine (kt p.ev fun h => qQ c m _ _ _ h (by omega) hX).mono ?_; rintro _ w9 ⟨_,V,C,rfl,⟨ba,f,X,Y,Z,qa,a0,aa,ca,rfl,D,F⟩,p,g,h9⟩
                try simp at f
                have r := r.k g; have n := n.k g; have G := g.size
                try simp at G
                go_wp2_with fail; go_at_call 10; refine (kn p.ev fun h => yX c _ _ _ h).mono ?_; rintro _ y ⟨rfl,p,g⟩; have d := (KX.of (t := 24) D F).call g; have r := r.k g; have n := n.k g; have s := g.size
                try simp at s
                cases hD : C == 0
                · have a2 : C ≠ 0 := by simpa using hD
                  cases d.cc; cases r.d; go_wp2
                  exact xi Tryz.results176 p.ev d.ev r.ev
                · have a2 : C = 0 := by simpa using hD
                  go_wp2_with fail; go_at_call 11; refine (kn p.ev fun h => yv c _ _ _ h).mono ?_; rintro _ H ⟨rfl,p,g⟩; have r := r.k g; have n := n.k g; have d := d.k g; have a3 := g.size
                  try simp at a3
                  cases hq : (c.W V == [40])
                  · cases d.cc
                    cases r.d; go_wp2
                    exact xi Tryz.results176 p.ev d.ev r.ev
                  · cases n.cc
                    go_wp2_with fail
                    generalize e : H.setCell ⟨B.heap.size,0,none⟩ (.int .i64 33) = w12
                    have a9 : H.heap.size <= w12.heap.size := by rw [<- e]; simp [World.setCell]
                    have p := KS.sl e p.ev; have r := RB.sl e r.ev; have n := KX.sl e n.ev; have d := KX.sl e d.ev; clear e; obtain ⟨_,_,_,_,a1,_,_,_,_,d⟩ := d.o; cases d.nb; have d0 := d.drew; have := r.lt; cases n.cc
                    go_region_law (first
                      | (go_simp
                         go_at_call 98; refine (kc p.ev fun h => qr c m _ _ _ h (by omega) hX).mono ?_; rintro _ b0 ⟨_,b1,b3,rfl,⟨us,au,cu,rfl,fu,hu,I⟩,p,g,b4⟩; obtain ⟨q,hq,I⟩ : ∃ q,q = _ /\ LR _ (In q _) us (.slice au us.length cu) := ⟨_,rfl,I⟩
                         try simp at hq
                         have r := r.k g; have n := n.k g; have d := d.k g; have a4 := g.size
                         try simp at a4
                         cases n.cc; have := d.nb.lt
                         cases d.nb)
                      | (refine lR rfl _ _ rfl p r n d0 g fu hu I rfl rfl ?_
                         intro ad a1 cp A p r nb n a5
                         cases nb.d)
                      | (refine lO rfl _ _ rfl p r n d fu hu I rfl rfl ?_
                         intro ad a1 cp A p r nb n a5
                         cases nb.d))
                    all_goals
                      go_upto_region 27 with fail
                      generalize e : A.setCell ⟨B.heap.size,4,none⟩ (.slice ad a1 cp) = w15
                      have b5 : A.heap.size <= w15.heap.size := by rw [<- e]; simp [World.setCell]
                      have p := KS.sl e p.ev; have r := RB.sl e r.ev; have n := KX.sl e n; clear e; cases n.cc; cases r.d; go_wp2
                      exact xi Tryz.results176 p.ev n.ev r.ev
              · go_wp2_with fail
                go_at_call 95; refine (kt p.ev fun h => hX _ _ _ h (by omega)).mono ?_; rintro _ w9 ⟨_,V,C,rfl,⟨ba,f,X,Y,Z,qa,a0,aa,ca,rfl,D,F⟩,p,g,h9⟩
                try simp at f
                have r := r.k g; have n := n.k g; have G := g.size
                try simp at G
                cases n.cc; go_wp2_with fail; go_at_call 28; refine (kc p.ev fun h => zN c _ _ _ h [41] (by simp)).mono ?_; rintro _ y ⟨_,b6,b7,rfl,-,p,g,b8⟩; have r := r.k g; have n := (KX.set (lo := B.heap.size + 1) n.rb D F).call g; have s := g.size
                try simp at s
                cases n.cc; cases r.d; go_wp2
                exact xi Tryz.results176 p.ev n.ev r.ev
            · go_wp2_with fail
              go_at_call 60; refine (kc p.ev fun h => uC c _ _ _ h).mono ?_; rintro _ w8 ⟨_,i8,E8,rfl,-,p,g,h8⟩; have r := r.k g; have n := n.k g; have U := g.size
              try simp at U
              cases n.cc; go_wp2_with fail; go_at_call 176; refine (kt p.ev fun h => hF _ _ _ h (by omega)).mono ?_; rintro _ w9 ⟨_,V,C,rfl,⟨ba,f,X,Y,Z,qa,a0,aa,ca,rfl,D,F⟩,p,g,h9⟩
              try simp at f
              have r := r.k g; have n := n.k g; have G := g.size
              try simp at G
              cases n.cc
              go_upto_region 23 with fail
              generalize e : (w9.setCell ⟨B.heap.size,4,none⟩ (.slice (some ⟨w9.heap.size,0,none⟩) 1 1)).alloc (.cells #[.int .i64 X,.string ⟨Y.toArray⟩,.int .i64 Z,.int .i64 qa,.slice aa a0.length ca] 24) = y
              have s : w9.heap.size <= y.heap.size := by rw [<- e]; simp [World.setCell]
              have p := KS.sl e p.ev; have r := RB.sl e r.ev; have n := KX.sl e (n.one (lo := B.heap.size + 1) (N := 5) D F); clear e; obtain ⟨_,_⟩ := p.c2; have := p.z; cases n.cc; cases r.d; go_wp2
              exact xi Tryz.results176 p.ev n.ev r.ev
          · cases n.cc
            cases r.d; go_wp2
            exact xi Tryz.results176 p.ev n.ev r.ev
        · cases n.cc
          cases r.d; go_wp2
          exact xi Tryz.results176 p.ev n.ev r.ev
      · cases n.cc
        cases r.d; go_wp2
        exact xi Tryz.results176 p.ev n.ev r.ev
end Go.Proofs.YtifapidjkelnfaaGreatDoor
