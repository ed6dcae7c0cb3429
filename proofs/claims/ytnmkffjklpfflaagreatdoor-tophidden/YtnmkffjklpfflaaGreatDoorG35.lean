/- Procedures,one behind the other. -/
import Derived.Test.YtnmkffjklpfflaaGreatDoorG20
namespace Go.Proofs.YtnmkffjklpfflaaGreatDoor
open Go.RowKit
set_option maxHeartbeats 4000000
set_option maxRecDepth 100000
theorem na {α β : Type} {p q : P α} {k : α -> P β} {i j : Nat} (h : p i = q j) : p.bind k i = q.bind k j := by unfold P.bind; rw [h]
theorem tg {L : List Tok} {f j : Nat} {acc : List T} (h : wd L j ≠ xo) (hf : 0 < f) : xe L f acc j = .ok (acc,j) := by
 obtain ⟨b,rfl⟩ : ∃ b,f = b + 1 := ⟨f - 1,by omega⟩; rw [xe]
 exact if_neg h
theorem dG {L : List Tok} {f j : Nat} {acc : List T} (h : wd L j = xo) (hf : 0 < f) : xe L f acc j = ((zW L).bind fun t => (zD L yy).bind fun _ => xe L (f - 1) (acc ++ [t])) j := by
 obtain ⟨b,rfl⟩ : ∃ b,f = b + 1 := ⟨f - 1,by omega⟩; rw [xe]
 exact if_pos h
theorem qe (c : PC) (w : World) (i d : Nat) (h : PS c w i d) (hP : PartOK c d 148 (zW c.L)) :
    Calls Tryz.prog 95 #[.pointer (some ⟨c.pb,0,none⟩)] w (Steps c w i d (fun w' t v => TR w' w.heap.size w'.heap.size t v) (yO c.L i)) := by
  have HP := ze h; have HL := ze h.low; have hb := h.lt; have g7 := h.good.few; clear h
  go_enter Tryz.func95,Tryz.ntmps95
  go_wp2_with fail; go_at_call 87; refine (zI c _ i d 1 (PS.alloc HP.out _)).mono ?_; rintro e w1 ⟨rfl,a4⟩; have p1 : PS c w1 i d := PS.kept (PS.alloc HP.out _) a4; have G1 : w.grownBy w1 (some c.pb) := za (zf (zc w (some c.pb)) _) (zv a4 (some c.pb)); have s1 := a4.size
  try simp at s1
  have b5 : RB w1 w.heap.size := RB.kept (RB.new' (by simp)) a4 (by simp); have f0 := b5.lt; obtain ⟨_,_,_,_,_,_,_,_,_,_,_⟩ := id b5; go_wp2_with fail
  go_loopw [] (fun wr => ∃ (g : List T) (v : Value) (j f lo : Nat),NB wr w1.heap.size (.int .i64 1) (.string ⟨#[]⟩) (.int .i64 0) (.int .i64 (pos c.L i)) v /\ RB wr w.heap.size /\ w1.heap.size + 1 <= lo /\ Hid (SI c w i d (xe c.L (c.L.length + 1) [] i) (xe c.L) v wr g j f lo)) (fun wr => c.L.length - atOf wr c.pb)
  case atStart =>
    exact ⟨[],.slice none 0 0,i,c.L.length + 1,w1.heap.size + 1,NB.new' rfl,RB.alloc b5 _,Nat.le_refl _,SI.mk (LR.nil _ _) (PS.alloc p1 _) (zf G1 _) rfl (by omega) (by simp) (Nat.le_refl _) (by omega) (by simp)⟩
  case round =>
    obtain ⟨a5,b9⟩ : ∃ x,x = wr := ⟨_,rfl⟩; subst b9; obtain ⟨g,v,u,f,lo,I,J,c0,K⟩ := hrel; have a8 := K.out.lr; have b6 := K.out.ps; have f1 := K.out.gb; have SM := K.out.same; have h6 := K.out.fuel; have g8 := K.out.len; have h7 := K.out.le; have f2 := K.out.low; have g9 := K.out.low2; have h8 := K.out.ps.il; obtain ⟨ad,cp,rfl⟩ := a8.form; have f3 := ze b6; clear K; have d0 := J.lt; have d1 := I.lt; obtain ⟨_,_,_,_,_,_,_,_,_,_,_⟩ := id J; obtain ⟨_,_,_,_,_,_⟩ := id I; go_wp2_with fail; go_at_call 68; refine (yR c _ u d b6).mono ?_; rintro e M ⟨rfl,r⟩; have c1 : PS c M u d := PS.kept b6 r; have b7 : w.grownBy M (some c.pb) := za f1 (zv r (some c.pb)); have f4 := r.size
    try simp at f4
    have G : RB M w.heap.size := RB.kept J r (by simp); have N : NB M w1.heap.size (.int .i64 1) (.string ⟨#[]⟩) (.int .i64 0) (.int .i64 (pos c.L i)) (.slice ad g.length cp) := NB.kept I r (by simp); have a9 : LR M (In lo a5.heap.size) g (.slice ad g.length cp) := LR.grown a8 r; have d2 := G.lt; have d3 := N.lt; obtain ⟨_,_,_,_,_,_,_,_,_,_,_⟩ := id G; obtain ⟨_,_,_,_,_,_⟩ := id N
    by_cases h1 : wd c.L u = xo
    · have f5 : (wd c.L u == [80,82,79,67,69,68,85,82,69]) = true := by rw [h1]; decide
      have c2 := SM.trans (dG h1 (by omega))
      have c3 : yO c.L i = ((zW c.L).bind fun t => (zD c.L yy).bind fun _ => (xe c.L (f - 1) (g ++ [t])).bind fun l => P.ret (.mk 1 [] 0 (pos c.L i) l)) u := by
        have h9 : yO c.L i = (P.bind _ (fun l => P.ret (T.mk 1 [] 0 (pos c.L i) l))) u := na c2; rw [h9,vM]; simp only [vM]
      go_wp2_with fail
      go_region_law (first
        | (go_simp
           go_at_call 148; refine (hP _ u (PS.drew c1)).mono ?_; rintro e s (⟨j0,H,b0,n⟩ | ⟨⟨O,Q,R,U,z⟩,c4,j1,H,rfl,⟨h0,rfl,A⟩,n,f6,h3⟩)
           focus
             have HT := b0; obtain ⟨q,rfl,-⟩ := b0
             exact ⟨rfl,Steps.err (c3.trans (P.bind_err H)) HT (zh b7) n⟩
           have b1 : yO c.L i = _ := c3.trans (P.bind_ok H); simp only [T.kind,T.name,T.num,T.at',T.subs] at A ⊢; obtain ⟨V,X,rfl⟩ := A.form; obtain ⟨c5,c6,A⟩ : ∃ b,b = _ /\ LR s (In b s.heap.size) z (.slice V z.length X) := ⟨_,rfl,A⟩
           try simp at c6
           have f7 : w.grownBy s (some c.pb) := za (zh b7) n; have f8 := n.size
           try simp at f8
           have Y : RB s w.heap.size := RB.keep (RB.drew G) n (by omega); have Z : NB s w1.heap.size (.int .i64 1) (.string ⟨#[]⟩) (.int .i64 0) (.int .i64 (pos c.L i)) (.slice ad g.length cp) := NB.keep (NB.drew N) n (by omega); have b2 : LR s (In lo a5.heap.size) g (.slice ad g.length cp) := LR.call (LR.drew a9) n (by omega); have d4 := Y.lt; have d5 := Z.lt; obtain ⟨_,_,_,_,_,_,_,_,_,_,_⟩ := id Y
           obtain ⟨_,_,_,_,_,_⟩ := id Z)
        | (have m := b2.rows
           refine xL (v := .slice ad g.length cp) rfl _ _ rfl (In lo (s.heap.size + 2)) rfl rfl (LR.alloc b2 _) (LR.build1 s (cs := #[.int .i64 O,.string ⟨Q.toArray⟩,.int .i64 R,.int .i64 U,.slice V z.length X]) (t := (T.mk O Q R U z)) (sv := .slice V z.length X) A rfl rfl (by omega))
             (fun k hk e => by have h1 := m k e; have h2 : c5 <= k := hk.1; omega) (fun k hk => ⟨hk.1,by have h : k < a5.heap.size := hk.2; omega⟩) (fun k hk => ⟨by have h : c5 <= k := hk.1; omega,by have h : k < s.heap.size + 1 := hk.2; omega⟩) ⟨by simp; omega,by simp⟩ (by simp; try omega) ?_
           intro f9 F b3 B; obtain ⟨C,D,a6⟩ := b3.form; rw [List.length_append,List.length_singleton] at a6; have a6 : f9 = .slice C (g.length + 1) D := a6; subst a6; have g0 := B.size
           try simp at g0
           have a0 : RB F w.heap.size := RB.kept (RB.alloc Y _) B (fun e => by have := m _ e.symm; omega); have a1 : NB F w1.heap.size (.int .i64 1) (.string ⟨#[]⟩) (.int .i64 0) (.int .i64 (pos c.L i)) (.slice ad g.length cp) := NB.kept (NB.alloc Z _) B (fun e => by have := m _ e.symm; omega); have g1 : PS c F c4 d := PS.own (PS.alloc f6 _) HL.out B (fun b hb => by have := m b hb; omega); have c7 : w.grownBy F (some c.pb) := yX (zf f7 _) B (fun b hb => by have := m b hb; omega); have d6 := a0.lt; have d7 := a1.lt; obtain ⟨_,_,_,_,_,_,_,_,_,_,_⟩ := id a0
           obtain ⟨_,_,_,_,_,_⟩ := id a1))
      all_goals
        have c8 : LR F (In lo F.heap.size) (g ++ [(T.mk O Q R U z)]) (.slice C (g.length + 1) D) := b3.bounded.mono (fun k hk => ⟨hk.1.1,hk.2⟩); go_wp2_with fail; go_at_call 88; refine (zx c _ c4 d yy _ rfl (by decide) (PS.put g1 HL.out (by omega) _ _)).mono ?_; rintro e a7 (⟨j2,E,b4,o⟩ | ⟨j3,g2,j4,E,rfl,-,o,c9,h4⟩)
        · obtain ⟨q,rfl,-⟩ := id b4; exact ⟨rfl,Steps.err (b1.trans (P.bind_err E)) b4 (zq c7 (by omega) _ _) o⟩
        have h5 : yO c.L i = _ := b1.trans (P.bind_ok E); have g3 : w.grownBy a7 (some c.pb) := za (zq c7 (by omega) _ _) o; have g4 := o.size
        try simp at g4
        have a2 : RB a7 w.heap.size := RB.keep (RB.put a0 _ _ _) o (by omega); have a3 : NB a7 w1.heap.size (.int .i64 1) (.string ⟨#[]⟩) (.int .i64 0) (.int .i64 (pos c.L i)) (.slice C (g.length + 1) D) := NB.keep (NB.s4 a1 _) o (by omega); have b8 : LR a7 (In lo F.heap.size) ((g ++ [(T.mk O Q R U z)])) (.slice C (g.length + 1) D) := LR.call (LR.put c8 (by omega) _ _) o (by omega); have d8 := a2.lt; have d9 := a3.lt; obtain ⟨_,_,_,_,_,_,_,_,_,_,_⟩ := id a2; obtain ⟨_,_,_,_,_,_⟩ := id a3; have j5 := fO E; have g5 : xe c.L (c.L.length + 1) [] i = _ := (c2.trans (P.bind_ok H)).trans (P.bind_ok E); go_wp2; refine ⟨⟨(g ++ [(T.mk O Q R U z)]),.slice C (g.length + 1) D,g2,f - 1,lo,a3,a2,c0,SI.mk (LR.wide b8 (Nat.le_refl _) (by omega)) c9 g3 g5 (by omega) (by simp only [List.length_append,List.length_singleton]; omega) (by omega) f2 (by omega)⟩,?_⟩; rw [c9.atOf,f3.out.atOf]
        omega
    have f5 : (wd c.L u == [80,82,79,67,69,68,85,82,69]) = false := by simpa [xo] using h1
    have g6 : yO c.L i = _ := P.bind_ok (SM.trans (tg h1 (by omega))); go_wp2; refine zj Tryz.results95 rfl (RB.five ?_) rfl ?_
    · exact G
    refine Steps.ok (a := (T.mk 1 [] 0 (pos c.L i) g)) g6 ⟨_,rfl,?_⟩ ?_ ?_ (by omega)
    · refine LR.wide (lo := lo) (hi := a5.heap.size) (ts := g) ?_ (by omega) (by first | omega | (simp <;> omega))
      exact LR.p5 a9 (by omega)
    · exact zy b7 (by omega)
    · exact PS.p5 c1 HL.out (by omega)
end Go.Proofs.YtnmkffjklpfflaaGreatDoor
