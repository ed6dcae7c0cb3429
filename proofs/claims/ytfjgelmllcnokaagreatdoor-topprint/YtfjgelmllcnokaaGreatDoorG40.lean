/- IF: branches one behind the other,and what else. -/
import Derived.Test.YtfjgelmllcnokaaGreatDoorG39
import Derived.Test.YtfjgelmllcnokaaGreatDoorG04
namespace Go.Proofs.YtfjgelmllcnokaaGreatDoor
open Go.RowKit
set_option maxHeartbeats 4000000
set_option maxRecDepth 100000
def rk (L : List Tok) (A : P T) (i : Nat) (l : List T) : P T := (yP L qM).bind fun b => if b = true then A.bind fun a => (zx L yD).bind fun _ => P.ret (.mk 16 [] 1 (pos L i) (l ++ [a])) else (zx L yD).bind fun _ => P.ret (.mk 16 [] 0 (pos L i) l)
theorem ap {L : List Tok} {E A : P T} {f j : Nat} {acc : List T} (h : yP L jf j = .ok (false,j)) (hf : 0 < f) : xh L E A f acc j = .ok (acc,j) := by
 obtain ⟨b,rfl⟩ : ∃ b,f = b + 1 := ⟨f - 1,by omega⟩
 exact P.bind_ok h
theorem cC {L : List Tok} {E A : P T} {f j j2 : Nat} {acc : List T} (h : yP L jf j = .ok (true,j2)) (hf : 0 < f) : xh L E A f acc j = ((jK L E A).bind fun l => xh L E A (f - 1) (acc ++ l)) j2 := by
 obtain ⟨b,rfl⟩ : ∃ b,f = b + 1 := ⟨f - 1,by omega⟩
 exact P.bind_ok h
structure CH (c : PC) (w : World) (i d : Nat) (r : Except (Int × Int) (List T × Nat)) (q : Nat -> List T -> P (List T)) (v : Value) (wr : World) (acc : List T) (j f lo : Nat) : Prop where
 lr : LR wr (In lo wr.heap.size) acc v
 ps : PS c wr j d
 gb : w.grownBy wr (some c.pb)
 same : r = q f acc j
 fuel : c.L.length <= f + j
 len : acc.length + 2 * f <= 2 * c.L.length + 2
 le : i <= j
 low2 : lo <= wr.heap.size
theorem lA (c : PC) (w : World) (i d : Nat) (E A : P T) (h : PS c w i d) (hE : ExprOK c d E) (hA : ActsOK c d A) :
    Calls Tryz.prog 179 #[.pointer (some ⟨c.pb,0,none⟩)] w (Steps c w i d (fun w' t v => TR w' w.heap.size w'.heap.size t v) (jk c.L E A i)) := by
  have HP := za h; have HL := za h.low; have hb := h.lt; have n8 := h.good.few; clear h
  go_enter Tryz.func179,Tryz.ntmps179
  go_wp2_with fail; go_at_call 59; refine (yA c _ i d 16 (PS.alloc HP.out _)).mono ?_; rintro e w1 ⟨rfl,d1⟩; have p1 : PS c w1 i d := PS.kept (PS.alloc HP.out _) d1; have G1 : w.grownBy w1 (some c.pb) := zb ga (zJ d1 (some c.pb)); have s1 := d1.size
  try simp at s1
  have f9 : RB w1 w.heap.size := RB.kept (RB.new' (by simp)) d1 (by simp); have l5 := f9.lt; obtain ⟨_,_,_,_,_,_,_,_,_,_,_⟩ := id f9; go_wp2_with fail; go_at_call 60; refine (zI c _ i d kIF _ rfl (by decide) (PS.alloc p1 _)).mono ?_; rintro e w2 (⟨x2,g0,h4,b5⟩ | ⟨a2,j2,v2,g0,rfl,-,b5,p2,o5⟩)
  · obtain ⟨q,rfl,-⟩ := id h4; exact ⟨rfl,Steps.err (P.bind_err g0) h4 (zf G1 _) b5⟩
  have h5 : jk c.L E A i = _ := P.bind_ok g0; have G2 : w.grownBy w2 (some c.pb) := zb (zf G1 _) b5; have s2 := b5.size
  try simp at s2
  have g1 : RB w2 w.heap.size := RB.k (RB.alloc f9 _) b5; have g2 : NB w2 w1.heap.size (.int .i64 16) (.string ⟨#[]⟩) (.int .i64 0) (.int .i64 (pos c.L i)) (.slice none 0 0) := NB.k (NB.new' (by simp)) b5; have l6 := g1.lt; have l7 := g2.lt; obtain ⟨_,_,_,_,_,_,_,_,_,_,_⟩ := id g1; obtain ⟨_,_,_,_,_,_⟩ := id g2; go_wp2_with fail; go_at_call 193; refine (dQ c _ j2 d E A p2 hE hA).mono ?_; rintro e w3 (⟨x3,g3,h6,b6⟩ | ⟨a3,j3,v3,g3,rfl,⟨d2,n9⟩,b6,p3,o6⟩)
  · obtain ⟨q,rfl,-⟩ := id h6; exact ⟨rfl,Steps.err (h5.trans (P.bind_err g3)) h6 G2 b6⟩
  have l8 := h5.trans (P.bind_ok g3); obtain ⟨l9,m0,rfl⟩ := d2.form; obtain ⟨b3,m1,d2⟩ := d2.nm
  try simp at m1
  have G3 := zb G2 b6; have s3 := b6.size
  try simp at s3
  have g4 := RB.k g1 b6; have g5 := NB.k g2 b6; have m2 := g4.lt; have m3 := g5.lt; obtain ⟨_,_,_,_,_,_,_,_,_,_,_⟩ := id g4; obtain ⟨_,_,_,_,_,_⟩ := id g5; have h7 : jk c.L E A i = ((xh c.L E A c.L.length a3).bind (rk c.L A i)) j3 := l8; go_wp2_with fail
  go_loopw [] (fun wr => ∃ (m : List T) (v : Value) (j f lo : Nat),NB wr w1.heap.size (.int .i64 16) (.string ⟨#[]⟩) (.int .i64 0) (.int .i64 (pos c.L i)) v /\ RB wr w.heap.size /\ w1.heap.size + 1 <= lo /\ Hid (CH c w i d (xh c.L E A c.L.length a3 j3) (xh c.L E A) v wr m j f lo)) (fun wr => c.L.length - atOf wr c.pb)
  case atStart =>
    refine ⟨a3,.slice l9 a3.length m0,j3,c.L.length,b3,by exact (NB.s4 g5 _),by exact (RB.put g4 _ _ _),by omega,CH.mk ?_ (PS.put p3 HL.out (by omega) _ _) (zC G3 (by omega) _ _) rfl (by omega) (by omega) (by omega) (by simp; omega)⟩; refine LR.wide (lo := b3) (hi := w3.heap.size) ?_ (Nat.le_refl _) (by simp)
    exact LR.put d2 (by omega) _ _
  case round =>
    obtain ⟨d3,h8⟩ : ∃ x,x = wr := ⟨_,rfl⟩; subst h8; obtain ⟨m,v,d4,f,lo,c3,c4,h9,HS⟩ := hrel; have f3 := HS.out.lr; have j0 := HS.out.ps; have m4 := HS.out.gb; have SM := HS.out.same; have o7 := HS.out.fuel; have o0 := HS.out.len; have o8 := HS.out.le; have o1 := HS.out.low2; have o9 := HS.out.ps.il; obtain ⟨ad,cp,rfl⟩ := f3.form; have m5 := za j0; clear HS; have k7 := c4.lt; have k8 := c3.lt; obtain ⟨_,_,_,_,_,_,_,_,_,_,_⟩ := id c4; obtain ⟨_,_,_,_,_,_⟩ := id c3; go_wp2_with fail; go_at_call 113; refine (xB c _ d4 d jf _ rfl (by decide) j0).mono ?_; rintro e p0 ⟨m6,p4,M,rfl,N,d5,o2⟩; have g6 := zb m4 N; have m7 := N.size
    try simp at m7
    have a5 := RB.k c4 N; have a6 := NB.k c3 N; have f4 := LR.c f3 N; have k9 := a5.lt; have l0 := a6.lt; obtain ⟨_,_,_,_,_,_,_,_,_,_,_⟩ := id a5; obtain ⟨_,_,_,_,_,_⟩ := id a6; cases m6
    · obtain ⟨j1,O⟩ := tQ M
      rw [O] at d5; rw [O] at M; have j4 : jk c.L E A i = _ := h7.trans (P.bind_ok (SM.trans (ap M (by omega)))); go_wp2_with fail; go_at_call 113; refine (xB c _ d4 d qM _ rfl (by decide) d5).mono ?_; rintro e Z ⟨d6,a0,K,rfl,n,d7,j5⟩; have R : jk c.L E A i = _ := j4.trans (P.bind_ok K); have b7 := zb g6 n; have g7 := n.size
      try simp at g7
      have B := RB.k a5 n; have C := NB.k a6 n; have U := LR.c f4 n; have d8 := B.lt; have d9 := C.lt; obtain ⟨_,_,_,_,_,_,_,_,_,_,_⟩ := id B; obtain ⟨_,_,_,_,_,_⟩ := id C; cases d6
      · go_wp2_with fail
        go_at_call 60; refine (zI c _ a0 d yD _ rfl (by decide) d7).mono ?_; rintro e o (⟨m8,F,V,g⟩ | ⟨p6,g8,g9,F,rfl,-,g,b8,j6⟩)
        · obtain ⟨q,rfl,-⟩ := id V; exact ⟨rfl,Steps.err (R.trans (P.bind_err F)) V b7 g⟩
        have a7 := R.trans (P.bind_ok F); have c5 := zb b7 g; have c6 := g.size
        try simp at c6
        have r := RB.k B g; have s := NB.k C g; have a8 := LR.c U g; have a9 := r.lt; have b0 := s.lt; obtain ⟨_,_,_,_,_,_,_,_,_,_,_⟩ := id r; obtain ⟨_,_,_,_,_,_⟩ := id s; go_wp2; refine zn Tryz.results179 rfl (RB.five ?_) rfl ?_
        · exact r
        refine Steps.ok (a := (T.mk 16 [] 0 (pos c.L i) m)) a7 ⟨_,rfl,?_⟩ ?_ ?_ (by omega)
        · exact (LR.p5 a8 (by omega)).wd
        · exact zS c5 (by omega)
        · exact PS.p5 b8 HL.out (by omega)
      · go_wp2_with fail
        go_region_law (first
          | (go_simp
             go_at_call 125; refine (hA _ a0 (PS.drew (PS.put d7 HL.out (by omega) _ _))).mono ?_; rintro e o (⟨m8,F,V,g⟩ | ⟨⟨b9,c0,c1,c2,a1⟩,g8,g9,F,rfl,⟨o3,rfl,D⟩,g,b8,j6⟩)
             focus
               have HT := V; obtain ⟨q,rfl,-⟩ := V
               exact ⟨rfl,Steps.err (R.trans (P.bind_err F)) HT (zj (zC b7 (by omega) _ _)) g⟩
             have a7 := R.trans (P.bind_ok F); simp only [T.kind,T.name,T.num,T.at',T.subs] at D ⊢; obtain ⟨H,I,rfl⟩ := D.form; obtain ⟨j7,j8,D⟩ := D.nm
             try simp at j8
             have c5 : w.grownBy o (some c.pb) := zb (zj (zC b7 (by omega) _ _)) g; have c6 := g.size
             try simp at c6
             have r : RB o w.heap.size := RB.k (RB.drew (RB.put B _ _ _)) g; have s : NB o w1.heap.size (.int .i64 16) (.string ⟨#[]⟩) (.int .i64 1) (.int .i64 (pos c.L i)) (.slice ad m.length cp) := NB.k (NB.drew (NB.s2 C _)) g; have a8 : LR o (In lo d3.heap.size) m (.slice ad m.length cp) := LR.c (LR.drew (LR.put U (by omega) _ _)) g; have a9 := r.lt; have b0 := s.lt; obtain ⟨_,_,_,_,_,_,_,_,_,_,_⟩ := id r
             obtain ⟨_,_,_,_,_,_⟩ := id s)
          | (have y := a8.rows
             refine jF (v := .slice ad m.length cp) rfl _ _ rfl (In lo (o.heap.size + 2)) rfl rfl (LR.alloc a8 _) (LR.build1 o (cs := #[.int .i64 b9,.string ⟨c0.toArray⟩,.int .i64 c1,.int .i64 c2,.slice H a1.length I]) (t := (T.mk b9 c0 c1 c2 a1)) (sv := .slice H a1.length I) D rfl rfl (by omega))
               (fun k hk e => by have h1 := y k e; have h2 : j7 <= k := hk.1; omega) (fun k hk => ⟨hk.1,by have h : k < d3.heap.size := hk.2; omega⟩) (fun k hk => ⟨by have h : j7 <= k := hk.1; omega,by have h : k < o.heap.size + 1 := hk.2; omega⟩) ⟨by simp; omega,by simp⟩ (by simp; try omega) ?_
             intro m9 X f5 Y; obtain ⟨b1,b2,f0⟩ := f5.form; rw [List.length_append,List.length_singleton] at f0; have f0 : m9 = .slice b1 (m.length + 1) b2 := f0; subst f0; have n0 := Y.size
             try simp at n0
             have c7 : RB X w.heap.size := RB.kept (RB.alloc r _) Y (fun e => by have := y _ e.symm; omega); have c8 : NB X w1.heap.size (.int .i64 16) (.string ⟨#[]⟩) (.int .i64 1) (.int .i64 (pos c.L i)) (.slice ad m.length cp) := NB.kept (NB.alloc s _) Y (fun e => by have := y _ e.symm; omega); have n1 : PS c X g8 d := PS.own (PS.alloc b8 _) HL.out Y (fun b hb => by have := y b hb; omega); have j9 : w.grownBy X (some c.pb) := vY (zf c5 _) Y (fun b hb => by have := y b hb; omega); have l1 := c7.lt; have l2 := c8.lt; obtain ⟨_,_,_,_,_,_,_,_,_,_,_⟩ := id c7
             obtain ⟨_,_,_,_,_,_⟩ := id c8))
        all_goals
          have k0 : LR X (In lo X.heap.size) (m ++ [(T.mk b9 c0 c1 c2 a1)]) (.slice b1 (m.length + 1) b2) := f5.bounded.mono (fun k hk => ⟨hk.1.1,hk.2⟩); go_wp2_with fail; go_at_call 60; refine (zI c _ g8 d yD _ rfl (by decide) (PS.put n1 HL.out (by omega) _ _)).mono ?_; rintro e f1 (⟨p7,c9,f6,J⟩ | ⟨p8,p9,q0,c9,rfl,-,J,n2,o4⟩)
          · obtain ⟨q,rfl,-⟩ := id f6; exact ⟨rfl,Steps.err (a7.trans (P.bind_err c9)) f6 (zC j9 (by omega) _ _) J⟩
          have k1 := a7.trans (P.bind_ok c9); have n3 : w.grownBy f1 (some c.pb) := zb (zC j9 (by omega) _ _) J; have n4 := J.size
          try simp at n4
          have d0 : RB f1 w.heap.size := RB.k (RB.put c7 _ _ _) J; have f7 : NB f1 w1.heap.size (.int .i64 16) (.string ⟨#[]⟩) (.int .i64 1) (.int .i64 (pos c.L i)) (.slice b1 (m.length + 1) b2) := NB.k (NB.s4 c8 _) J; have h0 : LR f1 (In lo X.heap.size) ((m ++ [(T.mk b9 c0 c1 c2 a1)])) (.slice b1 (m.length + 1) b2) := LR.c (LR.put k0 (by omega) _ _) J; have l3 := d0.lt; have l4 := f7.lt; obtain ⟨_,_,_,_,_,_,_,_,_,_,_⟩ := id d0; obtain ⟨_,_,_,_,_,_⟩ := id f7; go_wp2; refine zn Tryz.results179 rfl (RB.five ?_) rfl ?_
          · exact d0
          refine Steps.ok (a := (T.mk 16 [] 1 (pos c.L i) (m ++ [(T.mk b9 c0 c1 c2 a1)]))) k1 ⟨_,rfl,?_⟩ ?_ ?_ (by omega)
          · refine LR.wide (lo := lo) (hi := X.heap.size) (ts := (m ++ [(T.mk b9 c0 c1 c2 a1)])) ?_ (by omega) (by first | omega | (simp <;> omega))
            exact LR.p5 h0 (by omega)
          · exact zS n3 (by omega)
          · exact PS.p5 n2 HL.out (by omega)
    · obtain ⟨j1,O⟩ := od M
      rw [O] at d5; have h3 := SM.trans (cC M (by omega)); rw [O] at h3
      have k2 : jk c.L E A i = ((jK c.L E A).bind fun l => (xh c.L E A (f - 1) (m ++ l)).bind (rk c.L A i)) (d4 + 1) := by
        rw [h7,P.bind,h3,<- P.bind,kE]
      go_wp2_with fail
      go_region_law (first
        | (go_simp
           go_at_call 193; refine (dQ c _ (d4 + 1) d E A (PS.drew d5) hE hA).mono ?_; rintro e Z (⟨q1,K,f8,n⟩ | ⟨a4,a0,q2,K,rfl,⟨b4,n5⟩,n,d7,j5⟩)
           focus
             have HT := f8; obtain ⟨q,rfl,-⟩ := f8
             exact ⟨rfl,Steps.err (k2.trans (P.bind_err K)) HT (zj g6) n⟩
           have R : jk c.L E A i = _ := k2.trans (P.bind_ok K); obtain ⟨k3,k4,rfl⟩ := b4.form; obtain ⟨d6,k5,b4⟩ := b4.nm
           try simp at k5
           have b7 : w.grownBy Z (some c.pb) := zb (zj g6) n; have g7 := n.size
           try simp at g7
           have B : RB Z w.heap.size := RB.k (RB.drew a5) n; have C : NB Z w1.heap.size (.int .i64 16) (.string ⟨#[]⟩) (.int .i64 0) (.int .i64 (pos c.L i)) (.slice ad m.length cp) := NB.k (NB.drew a6) n; have U : LR Z (In lo d3.heap.size) m (.slice ad m.length cp) := LR.c (LR.drew f4) n; have d8 := B.lt; have d9 := C.lt; obtain ⟨_,_,_,_,_,_,_,_,_,_,_⟩ := id B
           obtain ⟨_,_,_,_,_,_⟩ := id C)
        | (have z := U.rows
           refine vR (v := .slice ad m.length cp) (u := .slice k3 a4.length k4) rfl _ _ rfl (In lo (Z.heap.size + 1)) rfl rfl U b4
             (fun k hk e => by have h1 := z k e; have h2 : d6 <= k := hk.1; omega) (fun k hk => ⟨hk.1,by have h : k < d3.heap.size := hk.2; omega⟩) (fun k hk => ⟨by have h : d6 <= k := hk.1; omega,by have h : k < Z.heap.size := hk.2; omega⟩) ⟨by first | omega | (simp <;> omega),by first | omega | (simp <;> omega)⟩ (by first | omega | (simp <;> omega)) ?_
           intro g9 o D g; obtain ⟨H,I,f2⟩ := D.form; rw [List.length_append] at f2; have f2 : g9 = .slice H (m.length + a4.length) I := f2; subst f2; have c6 := g.size
           try simp at c6
           have r : RB o w.heap.size := RB.kept B g (fun e => by have := z _ e.symm; omega); have s : NB o w1.heap.size (.int .i64 16) (.string ⟨#[]⟩) (.int .i64 0) (.int .i64 (pos c.L i)) (.slice ad m.length cp) := NB.kept C g (fun e => by have := z _ e.symm; omega); have b8 : PS c o a0 d := PS.own d7 HL.out g (fun b hb => by have := z b hb; omega); have c5 : w.grownBy o (some c.pb) := vY b7 g (fun b hb => by have := z b hb; omega); have a9 := r.lt; have b0 := s.lt; obtain ⟨_,_,_,_,_,_,_,_,_,_,_⟩ := id r
           obtain ⟨_,_,_,_,_,_⟩ := id s))
      all_goals
        have k6 : LR o (In lo o.heap.size) (m ++ a4) (.slice H (m.length + a4.length) I) := D.bounded.mono (fun k hk => ⟨hk.1.1,hk.2⟩); have n6 : xh c.L E A c.L.length a3 j3 = _ := h3.trans (P.bind_ok K); go_wp2; refine ⟨⟨(m ++ a4),.slice H (m.length + a4.length) I,a0,f - 1,lo,by exact (NB.s4 s _),by exact (RB.put r _ _ _),h9,CH.mk ?_ ((PS.put b8 HL.out (by omega) _ _)) ((zC c5 (by omega) _ _)) n6 (by omega) (by first | omega | (simp only [List.length_append]; omega)) (by omega) (by first | omega | (simp <;> omega))⟩,?_⟩
        · refine LR.wide (lo := lo) (hi := o.heap.size) ?_ (Nat.le_refl _) (by simp)
          exact LR.put k6 (by omega) _ _
        · have n7 : PS c _ a0 d := ((PS.put b8 HL.out (by omega) _ _) : PS c (o.setCell ⟨w1.heap.size,4,none⟩ (.slice H (m.length + a4.length) I)) a0 d)
          rw [n7.atOf,m5.out.atOf]
          omega
theorem iY (c : PC) : ∀ (n d : Nat),d + n = 20 -> ActsOK c d (vp c.L n)
 | 0,d,h => by
  have hd : ¬ d < 20 := by omega
  refine fun w i hp => pE c w i d (vM c.L) hp (fun w i hp => ?_)
  have hx := ja c w i d 157 (vM c.L) hp (by omega) (fun h => absurd h hd) (enters_of Tryz.func157 (by kernel_rfl) rfl); rw [if_neg hd] at hx
  exact hx
 | n + 1,d,h => by
  have hd : d < 20 := by omega
  have hE := (io c n (d + 1) (by omega)).1; have hA := iY c n (d + 1) (by omega)
  have hC : PartOK c (d + 1) 179 (jk c.L (yy c.L n) (vp c.L n)) := fun w i hp => lA c w i (d + 1) _ _ hp hE hA
  have hL : PartOK c (d + 1) 157 (vp c.L (n + 1)) := fun w i hp => nF c w i (d + 1) (yy c.L n) (vp c.L n) hp (fun w i hp _ => zao c w i (d + 1) _ _ hp hE hA hC)
  refine fun w i hp => pE c w i d (vp c.L (n + 1)) hp (fun w i hp => ?_)
  have hx := ja c w i d 157 (vp c.L (n + 1)) hp (by omega) (fun _ => hL) (enters_of Tryz.func157 (by kernel_rfl) rfl); rw [if_pos hd] at hx
  exact hx
end Go.Proofs.YtfjgelmllcnokaaGreatDoor
