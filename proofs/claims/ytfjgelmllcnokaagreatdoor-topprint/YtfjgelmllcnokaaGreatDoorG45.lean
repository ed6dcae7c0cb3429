/- Procedures,one behind the other. -/
import Derived.Test.YtfjgelmllcnokaaGreatDoorG10
import Derived.Test.YtfjgelmllcnokaaGreatDoorG04
namespace Go.Proofs.YtfjgelmllcnokaaGreatDoor
open Go.RowKit
set_option maxHeartbeats 4000000
set_option maxRecDepth 100000
theorem zds {α β : Type} {p q : P α} {k : α -> P β} {i j : Nat} (h : p i = q j) : p.bind k i = q.bind k j := by unfold P.bind; rw [h]
theorem nW {L : List Tok} {f j : Nat} {acc : List T} (h : wd L j ≠ yk) (hf : 0 < f) : xb L f acc j = .ok (acc,j) := by
 obtain ⟨b,rfl⟩ : ∃ b,f = b + 1 := ⟨f - 1,by omega⟩; rw [xb]
 exact if_neg h
theorem oM {L : List Tok} {f j : Nat} {acc : List T} (h : wd L j = yk) (hf : 0 < f) : xb L f acc j = ((xv L).bind fun t => (zx L zE).bind fun _ => xb L (f - 1) (acc ++ [t])) j := by
 obtain ⟨b,rfl⟩ : ∃ b,f = b + 1 := ⟨f - 1,by omega⟩; rw [xb]
 exact if_pos h
theorem tq (c : PC) (w : World) (i d : Nat) (h : PS c w i d) (hP : PartOK c d 124 (xv c.L)) :
    Calls Tryz.prog 67 #[.pointer (some ⟨c.pb,0,none⟩)] w (Steps c w i d (fun w' t v => TR w' w.heap.size w'.heap.size t v) (vQ c.L i)) := by
  have HP := za h; have HL := za h.low; have hb := h.lt; have g8 := h.good.few; clear h
  go_enter Tryz.func67,Tryz.ntmps67
  go_wp2_with fail; go_at_call 59; refine (yA c _ i d 1 (PS.alloc HP.out _)).mono ?_; rintro e w1 ⟨rfl,a3⟩; have p1 : PS c w1 i d := PS.kept (PS.alloc HP.out _) a3; have G1 : w.grownBy w1 (some c.pb) := zb ga (zJ a3 (some c.pb)); have s1 := a3.size
  try simp at s1
  have b5 : RB w1 w.heap.size := RB.kept (RB.new' (by simp)) a3 (by simp); have f1 := b5.lt; obtain ⟨_,_,_,_,_,_,_,_,_,_,_⟩ := id b5; go_wp2_with fail
  go_loopw [] (fun wr => ∃ (g : List T) (v : Value) (j f lo : Nat),NB wr w1.heap.size (.int .i64 1) (.string ⟨#[]⟩) (.int .i64 0) (.int .i64 (pos c.L i)) v /\ RB wr w.heap.size /\ w1.heap.size + 1 <= lo /\ Hid (SI c w i d (xb c.L (c.L.length + 1) [] i) (xb c.L) v wr g j f lo)) (fun wr => c.L.length - atOf wr c.pb)
  case atStart =>
    exact ⟨[],.slice none 0 0,i,c.L.length + 1,w1.heap.size + 1,NB.new' rfl,RB.alloc b5 _,Nat.le_refl _,SI.mk (LR.nil _ _) (PS.alloc p1 _) (zf G1 _) rfl (by omega) (by simp) (Nat.le_refl _) (by omega) (by simp)⟩
  case round =>
    obtain ⟨b6,c0⟩ : ∃ x,x = wr := ⟨_,rfl⟩; subst c0; obtain ⟨g,v,s,f,lo,I,J,c1,K⟩ := hrel; have a6 := K.out.lr; have b7 := K.out.ps; have f2 := K.out.gb; have SM := K.out.same; have h7 := K.out.fuel; have g9 := K.out.len; have h8 := K.out.le; have f3 := K.out.low; have h0 := K.out.low2; have j0 := K.out.ps.il; obtain ⟨ad,cp,rfl⟩ := a6.form; have f4 := za b7; clear K; have d1 := J.lt; have d2 := I.lt; obtain ⟨_,_,_,_,_,_,_,_,_,_,_⟩ := id J; obtain ⟨_,_,_,_,_,_⟩ := id I; go_wp2_with fail; go_at_call 29; refine (ud c _ s d b7).mono ?_; rintro e M ⟨rfl,r⟩; have c2 : PS c M s d := PS.kept b7 r; have b8 : w.grownBy M (some c.pb) := zb f2 (zJ r (some c.pb)); have f5 := r.size
    try simp at f5
    have E : RB M w.heap.size := RB.kept J r (by simp); have N : NB M w1.heap.size (.int .i64 1) (.string ⟨#[]⟩) (.int .i64 0) (.int .i64 (pos c.L i)) (.slice ad g.length cp) := NB.kept I r (by simp); have a7 : LR M (In lo b6.heap.size) g (.slice ad g.length cp) := LR.grown a6 r; have d3 := E.lt; have d4 := N.lt; obtain ⟨_,_,_,_,_,_,_,_,_,_,_⟩ := id E; obtain ⟨_,_,_,_,_,_⟩ := id N
    by_cases h1 : wd c.L s = yk
    · have f6 : (wd c.L s == [80,82,79,67,69,68,85,82,69]) = true := by rw [h1]; decide
      have c3 := SM.trans (oM h1 (by omega))
      have c4 : vQ c.L i = ((xv c.L).bind fun t => (zx c.L zE).bind fun _ => (xb c.L (f - 1) (g ++ [t])).bind fun l => P.ret (.mk 1 [] 0 (pos c.L i) l)) s := by
        have h9 : vQ c.L i = (P.bind _ (fun l => P.ret (T.mk 1 [] 0 (pos c.L i) l))) s := zds c3; rw [h9,kE]; simp only [kE]
      go_wp2_with fail
      go_region_law (first
        | (go_simp
           go_at_call 124; refine (hP _ s (PS.drew c2)).mono ?_; rintro e C (⟨j1,F,a8,n⟩ | ⟨⟨O,R,U,V,H⟩,c5,j2,F,rfl,⟨h3,rfl,u⟩,n,f7,h4⟩)
           focus
             have HT := a8; obtain ⟨q,rfl,-⟩ := a8
             exact ⟨rfl,Steps.err (c4.trans (P.bind_err F)) HT (zj b8) n⟩
           have a9 : vQ c.L i = _ := c4.trans (P.bind_ok F); simp only [T.kind,T.name,T.num,T.at',T.subs] at u ⊢; obtain ⟨b0,b1,rfl⟩ := u.form; obtain ⟨c6,c7,u⟩ := u.nm
           try simp at c7
           have f8 : w.grownBy C (some c.pb) := zb (zj b8) n; have f9 := n.size
           try simp at f9
           have X : RB C w.heap.size := RB.k (RB.drew E) n; have Y : NB C w1.heap.size (.int .i64 1) (.string ⟨#[]⟩) (.int .i64 0) (.int .i64 (pos c.L i)) (.slice ad g.length cp) := NB.k (NB.drew N) n; have b2 : LR C (In lo b6.heap.size) g (.slice ad g.length cp) := LR.c (LR.drew a7) n; have d5 := X.lt; have d6 := Y.lt; obtain ⟨_,_,_,_,_,_,_,_,_,_,_⟩ := id X
           obtain ⟨_,_,_,_,_,_⟩ := id Y)
        | (have m := b2.rows
           refine jF (v := .slice ad g.length cp) rfl _ _ rfl (In lo (C.heap.size + 2)) rfl rfl (LR.alloc b2 _) (LR.build1 C (cs := #[.int .i64 O,.string ⟨R.toArray⟩,.int .i64 U,.int .i64 V,.slice b0 H.length b1]) (t := (T.mk O R U V H)) (sv := .slice b0 H.length b1) u rfl rfl (by omega))
             (fun k hk e => by have h1 := m k e; have h2 : c6 <= k := hk.1; omega) (fun k hk => ⟨hk.1,by have h : k < b6.heap.size := hk.2; omega⟩) (fun k hk => ⟨by have h : c6 <= k := hk.1; omega,by have h : k < C.heap.size + 1 := hk.2; omega⟩) ⟨by simp; omega,by simp⟩ (by simp; try omega) ?_
           intro g0 D b3 y; obtain ⟨z,A,a4⟩ := b3.form; rw [List.length_append,List.length_singleton] at a4; have a4 : g0 = .slice z (g.length + 1) A := a4; subst a4; have g1 := y.size
           try simp at g1
           have Z : RB D w.heap.size := RB.kept (RB.alloc X _) y (fun e => by have := m _ e.symm; omega); have a0 : NB D w1.heap.size (.int .i64 1) (.string ⟨#[]⟩) (.int .i64 0) (.int .i64 (pos c.L i)) (.slice ad g.length cp) := NB.kept (NB.alloc Y _) y (fun e => by have := m _ e.symm; omega); have g2 : PS c D c5 d := PS.own (PS.alloc f7 _) HL.out y (fun b hb => by have := m b hb; omega); have c8 : w.grownBy D (some c.pb) := vY (zf f8 _) y (fun b hb => by have := m b hb; omega); have d7 := Z.lt; have d8 := a0.lt; obtain ⟨_,_,_,_,_,_,_,_,_,_,_⟩ := id Z
           obtain ⟨_,_,_,_,_,_⟩ := id a0))
      all_goals
        have c9 : LR D (In lo D.heap.size) (g ++ [(T.mk O R U V H)]) (.slice z (g.length + 1) A) := b3.bounded.mono (fun k hk => ⟨hk.1.1,hk.2⟩); go_wp2_with fail; go_at_call 60; refine (zI c _ c5 d zE _ rfl (by decide) (PS.put g2 HL.out (by omega) _ _)).mono ?_; rintro e a5 (⟨j3,B,b4,o⟩ | ⟨j4,g3,j5,B,rfl,-,o,d0,h5⟩)
        · obtain ⟨q,rfl,-⟩ := id b4; exact ⟨rfl,Steps.err (a9.trans (P.bind_err B)) b4 (zC c8 (by omega) _ _) o⟩
        have h6 := a9.trans (P.bind_ok B); have g4 : w.grownBy a5 (some c.pb) := zb (zC c8 (by omega) _ _) o; have g5 := o.size
        try simp at g5
        have a1 : RB a5 w.heap.size := RB.k (RB.put Z _ _ _) o; have a2 : NB a5 w1.heap.size (.int .i64 1) (.string ⟨#[]⟩) (.int .i64 0) (.int .i64 (pos c.L i)) (.slice z (g.length + 1) A) := NB.k (NB.s4 a0 _) o; have b9 : LR a5 (In lo D.heap.size) ((g ++ [(T.mk O R U V H)])) (.slice z (g.length + 1) A) := LR.c (LR.put c9 (by omega) _ _) o; have d9 := a1.lt; have f0 := a2.lt; obtain ⟨_,_,_,_,_,_,_,_,_,_,_⟩ := id a1; obtain ⟨_,_,_,_,_,_⟩ := id a2; have j6 := pX B; have g6 : xb c.L (c.L.length + 1) [] i = _ := (c3.trans (P.bind_ok F)).trans (P.bind_ok B); go_wp2; refine ⟨⟨(g ++ [(T.mk O R U V H)]),.slice z (g.length + 1) A,g3,f - 1,lo,a2,a1,c1,SI.mk (LR.wide b9 (Nat.le_refl _) (by omega)) d0 g4 g6 (by omega) (by simp only [List.length_append,List.length_singleton]; omega) (by omega) f3 (by omega)⟩,?_⟩; rw [d0.atOf,f4.out.atOf]
        omega
    have f6 : (wd c.L s == [80,82,79,67,69,68,85,82,69]) = false := by simpa [yk] using h1
    have g7 : vQ c.L i = _ := P.bind_ok (SM.trans (nW h1 (by omega))); go_wp2; refine zn Tryz.results67 rfl (RB.five ?_) rfl ?_
    · exact E
    refine Steps.ok (a := (T.mk 1 [] 0 (pos c.L i) g)) g7 ⟨_,rfl,?_⟩ ?_ ?_ (by omega)
    · exact (LR.p5 a7 (by omega)).wd
    · exact zS b8 (by omega)
    · exact PS.p5 c2 HL.out (by omega)
end Go.Proofs.YtfjgelmllcnokaaGreatDoor
