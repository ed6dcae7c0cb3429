/- Procedures,one behind the other. -/
import Derived.Test.YtnmkffjklpfflaaGreatDoorG11
namespace Go.Proofs.YtnmkffjklpfflaaGreatDoor
open Go.RowKit
set_option maxHeartbeats 4000000
set_option maxRecDepth 100000
theorem iP {α β : Type} {p q : P α} {k : α -> P β} {i j : Nat} (h : p i = q j) : p.bind k i = q.bind k j := by unfold P.bind; rw [h]
theorem rV {L : List Tok} {f j : Nat} {acc : List T} (h : wd L j ≠ yV) (hf : 0 < f) : yv L f acc j = .ok (acc,j) := by
 obtain ⟨b,rfl⟩ : ∃ b,f = b + 1 := ⟨f - 1,by omega⟩; rw [yv]
 exact if_neg h
theorem sB {L : List Tok} {f j : Nat} {acc : List T} (h : wd L j = yV) (hf : 0 < f) : yv L f acc j = ((yJ L).bind fun t => (zB L yl).bind fun _ => yv L (f - 1) (acc ++ [t])) j := by
 obtain ⟨b,rfl⟩ : ∃ b,f = b + 1 := ⟨f - 1,by omega⟩; rw [yv]
 exact if_pos h
theorem gk (c : PC) (w : World) (i d : Nat) (h : PS c w i d) (hP : PartOK c d 148 (yJ c.L)) :
    Calls Tryz.prog 95 #[pq c.pb] w (Steps c w i d (fun w' t v => TR w' w.heap.size w'.heap.size t v) (xv c.L i)) := by
  have HP := zc h; have HL := zc h.low; have hb := h.lt; have g7 := h.good.few; clear h
  go_enter Tryz.func95,Tryz.ntmps95
  go_wp2_with fail; go_at_call 87; refine (zL c _ i d 1 (PS.alloc HP.out _)).mono ?_; rintro e w1 ⟨rfl,a2⟩; have p1 : PS c w1 i d := PS.kept (PS.alloc HP.out _) a2; have G1 : w.grownBy w1 (some c.pb) := za ga (zv a2 (some c.pb)); have s1 := a2.size
  try simp at s1
  have b4 : RB w1 w.heap.size := RB.kept (RB.new' (by simp)) a2 (by simp); have f0 := b4.lt; obtain ⟨_,_,_,_,_,_,_,_,_,_,_⟩ := id b4; go_wp2_with fail
  go_loopw [] (fun wr => ∃ (g : List T) (v : Value) (j f lo : Nat),NB wr w1.heap.size (.int .i64 1) (.string ⟨#[]⟩) (.int .i64 0) (.int .i64 (pos c.L i)) v /\ RB wr w.heap.size /\ w1.heap.size + 1 <= lo /\ Hid (SI c w i d (yv c.L (c.L.length + 1) [] i) (yv c.L) v wr g j f lo)) (fun wr => c.L.length - atOf wr c.pb)
  case atStart =>
    exact ⟨[],.slice none 0 0,i,c.L.length + 1,w1.heap.size + 1,NB.new' rfl,RB.alloc b4 _,Nat.le_refl _,SI.mk (LR.nil _ _) (PS.alloc p1 _) (zh G1 _) rfl (by omega) (by simp) (Nat.le_refl _) (by omega) (by simp)⟩
  case round =>
    obtain ⟨b5,b9⟩ : ∃ x,x = wr := ⟨_,rfl⟩; subst b9; obtain ⟨g,v,s,f,lo,I,J,c0,K⟩ := hrel; have a5 := K.out.lr; have b6 := K.out.ps; have f1 := K.out.gb; have SM := K.out.same; have h6 := K.out.fuel; have g8 := K.out.len; have h7 := K.out.le; have f2 := K.out.low; have g9 := K.out.low2; have h8 := K.out.ps.il; obtain ⟨ad,cp,rfl⟩ := a5.form; have f3 := zc b6; clear K; have d0 := J.lt; have d1 := I.lt; obtain ⟨_,_,_,_,_,_,_,_,_,_,_⟩ := id J; obtain ⟨_,_,_,_,_,_⟩ := id I; go_wp2_with fail; go_at_call 68; refine (xh c _ s d b6).mono ?_; rintro e M ⟨rfl,r⟩; have c1 : PS c M s d := PS.kept b6 r; have b7 : w.grownBy M (some c.pb) := za f1 (zv r (some c.pb)); have f4 := r.size
    try simp at f4
    have F : RB M w.heap.size := RB.kept J r (by simp); have N : NB M w1.heap.size (.int .i64 1) (.string ⟨#[]⟩) (.int .i64 0) (.int .i64 (pos c.L i)) (.slice ad g.length cp) := NB.kept I r (by simp); have a6 : LR M (In lo b5.heap.size) g (.slice ad g.length cp) := LR.grown a5 r; have d2 := F.lt; have d3 := N.lt; obtain ⟨_,_,_,_,_,_,_,_,_,_,_⟩ := id F; obtain ⟨_,_,_,_,_,_⟩ := id N
    by_cases h1 : wd c.L s = yV
    · have f5 : (wd c.L s == [80,82,79,67,69,68,85,82,69]) = true := by rw [h1]; decide
      have c2 := SM.trans (sB h1 (by omega))
      have c3 : xv c.L i = ((yJ c.L).bind fun t => (zB c.L yl).bind fun _ => (yv c.L (f - 1) (g ++ [t])).bind fun l => P.ret (.mk 1 [] 0 (pos c.L i) l)) s := by
        have h9 : xv c.L i = (P.bind _ (fun l => P.ret (T.mk 1 [] 0 (pos c.L i) l))) s := iP c2; rw [h9,uo]; simp only [uo]
      go_wp2_with fail
      go_region_law (first
        | (go_simp
           go_at_call 148; refine (hP _ s (PS.drew c1)).mono ?_; rintro e D (⟨j0,G,a7,n⟩ | ⟨⟨O,Q,R,U,H⟩,c4,j1,G,rfl,⟨h0,rfl,u⟩,n,f6,h3⟩)
           focus
             have HT := a7; obtain ⟨q,rfl,-⟩ := a7
             exact ⟨rfl,Steps.err (c3.trans (P.bind_err G)) HT (zf b7) n⟩
           have a8 : xv c.L i = _ := c3.trans (P.bind_ok G); simp only [T.kind,T.name,T.num,T.at',T.subs] at u ⊢; obtain ⟨a9,b0,rfl⟩ := u.form; obtain ⟨c5,c6,u⟩ := u.nm
           try simp at c6
           have f7 : w.grownBy D (some c.pb) := za (zf b7) n; have f8 := n.size
           try simp at f8
           have V : RB D w.heap.size := RB.k (RB.drew F) n; have X : NB D w1.heap.size (.int .i64 1) (.string ⟨#[]⟩) (.int .i64 0) (.int .i64 (pos c.L i)) (.slice ad g.length cp) := NB.k (NB.drew N) n; have b1 : LR D (In lo b5.heap.size) g (.slice ad g.length cp) := LR.c (LR.drew a6) n; have d4 := V.lt; have d5 := X.lt; obtain ⟨_,_,_,_,_,_,_,_,_,_,_⟩ := id V
           obtain ⟨_,_,_,_,_,_⟩ := id X)
        | (have m := b1.rows
           refine vh (v := .slice ad g.length cp) rfl _ _ rfl (In lo (D.heap.size + 2)) rfl rfl (LR.alloc b1 _) (LR.build1 D (cs := #[.int .i64 O,.string ⟨Q.toArray⟩,.int .i64 R,.int .i64 U,.slice a9 H.length b0]) (t := (T.mk O Q R U H)) (sv := .slice a9 H.length b0) u rfl rfl (by omega))
             (fun k hk e => by have h1 := m k e; have h2 : c5 <= k := hk.1; omega) (fun k hk => ⟨hk.1,by have h : k < b5.heap.size := hk.2; omega⟩) (fun k hk => ⟨by have h : c5 <= k := hk.1; omega,by have h : k < D.heap.size + 1 := hk.2; omega⟩) ⟨by simp; omega,by simp⟩ (by simp; try omega) ?_
           intro f9 E b2 z; obtain ⟨A,B,a3⟩ := b2.form; rw [List.length_append,List.length_singleton] at a3; have a3 : f9 = .slice A (g.length + 1) B := a3; subst a3; have g0 := z.size
           try simp at g0
           have Y : RB E w.heap.size := RB.kept (RB.alloc V _) z (fun e => by have := m _ e.symm; omega); have Z : NB E w1.heap.size (.int .i64 1) (.string ⟨#[]⟩) (.int .i64 0) (.int .i64 (pos c.L i)) (.slice ad g.length cp) := NB.kept (NB.alloc X _) z (fun e => by have := m _ e.symm; omega); have g1 : PS c E c4 d := PS.own (PS.alloc f6 _) HL.out z (fun b hb => by have := m b hb; omega); have c7 : w.grownBy E (some c.pb) := xi (zh f7 _) z (fun b hb => by have := m b hb; omega); have d6 := Y.lt; have d7 := Z.lt; obtain ⟨_,_,_,_,_,_,_,_,_,_,_⟩ := id Y
           obtain ⟨_,_,_,_,_,_⟩ := id Z))
      all_goals
        have c8 : LR E (In lo E.heap.size) (g ++ [(T.mk O Q R U H)]) (.slice A (g.length + 1) B) := b2.bounded.mono (fun k hk => ⟨hk.1.1,hk.2⟩); go_wp2_with fail; go_at_call 88; refine (zy c _ c4 d yl _ rfl (by decide) (PS.put g1 HL.out (by omega) _ _)).mono ?_; rintro e a4 (⟨j2,C,b3,o⟩ | ⟨j3,g2,j4,C,rfl,-,o,c9,h4⟩)
        · obtain ⟨q,rfl,-⟩ := id b3; exact ⟨rfl,Steps.err (a8.trans (P.bind_err C)) b3 (zs c7 (by omega) _ _) o⟩
        have h5 := a8.trans (P.bind_ok C); have g3 : w.grownBy a4 (some c.pb) := za (zs c7 (by omega) _ _) o; have g4 := o.size
        try simp at g4
        have a0 : RB a4 w.heap.size := RB.k (RB.put Y _ _ _) o; have a1 : NB a4 w1.heap.size (.int .i64 1) (.string ⟨#[]⟩) (.int .i64 0) (.int .i64 (pos c.L i)) (.slice A (g.length + 1) B) := NB.k (NB.s4 Z _) o; have b8 : LR a4 (In lo E.heap.size) ((g ++ [(T.mk O Q R U H)])) (.slice A (g.length + 1) B) := LR.c (LR.put c8 (by omega) _ _) o; have d8 := a0.lt; have d9 := a1.lt; obtain ⟨_,_,_,_,_,_,_,_,_,_,_⟩ := id a0; obtain ⟨_,_,_,_,_,_⟩ := id a1; have j5 := dU C; have g5 : yv c.L (c.L.length + 1) [] i = _ := (c2.trans (P.bind_ok G)).trans (P.bind_ok C); go_wp2; refine ⟨⟨(g ++ [(T.mk O Q R U H)]),.slice A (g.length + 1) B,g2,f - 1,lo,a1,a0,c0,SI.mk (LR.wide b8 (Nat.le_refl _) (by omega)) c9 g3 g5 (by omega) (by simp only [List.length_append,List.length_singleton]; omega) (by omega) f2 (by omega)⟩,?_⟩; rw [c9.atOf,f3.out.atOf]
        omega
    have f5 : (wd c.L s == [80,82,79,67,69,68,85,82,69]) = false := by simpa [yV] using h1
    have g6 : xv c.L i = _ := P.bind_ok (SM.trans (rV h1 (by omega))); go_wp2; refine zn Tryz.results95 rfl (RB.five ?_) rfl ?_
    · exact F
    refine Steps.ok (a := (T.mk 1 [] 0 (pos c.L i) g)) g6 ⟨_,rfl,?_⟩ ?_ ?_ (by omega)
    · exact (LR.p5 a6 (by omega)).wd
    · exact zC b7 (by omega)
    · exact PS.p5 c1 HL.out (by omega)
end Go.Proofs.YtnmkffjklpfflaaGreatDoor
