/- The document's reader: expressions. -/
import Derived.Test.YtbphiiaoncakfaaGreatDoorG34
namespace Go.Proofs.YtbphiiaoncakfaaGreatDoor
open Go.RowKit

theorem RS.back {c : RC} {w : World} {s : QS} {e : Nat} (h : RS c w s (e + 1)) (he : e ≤ 20) (v : Int) (hv : v = e) : RS c (w.setCell ⟨c.rb, 2, none⟩ (.int .i64 v)) s e := ⟨h.set2 v e hv (by omega), fun h9 => by omega⟩
/-- The end: a level less, and the result's block is written. -/
theorem expr_end {c : RC} {w W : World} {st : QS} {e R lo hi : Nat} {l : List T} {sv v0 v1 v2 v3 v4 : Value} (he : e ≤ 20) (HL : LowR c w.heap.size) (hR : w.heap.size ≤ R) (hlo : R < lo) (p : RS c W st (e + 1)) (r : RB W R) (hl : LR W (In lo hi) l sv) (G : w.grownBy W (some c.rb)) :
    NB ((((((W.setCell ⟨c.rb, 2, none⟩ (.int .i64 (e : Int))).setCell ⟨R, 0, none⟩ v0).setCell ⟨R, 1, none⟩ v1).setCell ⟨R, 2, none⟩ v2).setCell ⟨R, 3, none⟩ v3).setCell ⟨R, 4, none⟩ v4) R v0 v1 v2 v3 v4 ∧
    LR ((((((W.setCell ⟨c.rb, 2, none⟩ (.int .i64 (e : Int))).setCell ⟨R, 0, none⟩ v0).setCell ⟨R, 1, none⟩ v1).setCell ⟨R, 2, none⟩ v2).setCell ⟨R, 3, none⟩ v3).setCell ⟨R, 4, none⟩ v4) (In lo hi) l sv ∧
    w.grownBy ((((((W.setCell ⟨c.rb, 2, none⟩ (.int .i64 (e : Int))).setCell ⟨R, 0, none⟩ v0).setCell ⟨R, 1, none⟩ v1).setCell ⟨R, 2, none⟩ v2).setCell ⟨R, 3, none⟩ v3).setCell ⟨R, 4, none⟩ v4) (some c.rb) ∧
    RS c ((((((W.setCell ⟨c.rb, 2, none⟩ (.int .i64 (e : Int))).setCell ⟨R, 0, none⟩ v0).setCell ⟨R, 1, none⟩ v1).setCell ⟨R, 2, none⟩ v2).setCell ⟨R, 3, none⟩ v3).setCell ⟨R, 4, none⟩ v4) st e ∧
    ((((((W.setCell ⟨c.rb, 2, none⟩ (.int .i64 (e : Int))).setCell ⟨R, 0, none⟩ v0).setCell ⟨R, 1, none⟩ v1).setCell ⟨R, 2, none⟩ v2).setCell ⟨R, 3, none⟩ v3).setCell ⟨R, 4, none⟩ v4).heap.size = W.heap.size := by
  have hrb := HL.rb; refine ⟨RB.five (RB.put r _ _ _), ?_, ?_, ?_, by simp [World.setCell]⟩
  · exact LR.p5 (LR.put hl (by omega) _ _) (by omega)
  · exact gb_put (gb_put (gb_put (gb_put (gb_put (gb_set G _ _) hR _ _) hR _ _) hR _ _) hR _ _) hR _ _
  · exact RS.put (RS.put (RS.put (RS.put (RS.put (RS.back p he _ rfl) HL hR _ _) HL hR _ _) HL hR _ _) HL hR _ _) HL hR _ _
theorem relationQ_eq {L : List Tok} {E F : Q T} {s s1 : QS} {a : T} (h : sumQ L E F s = (a, s1)) : relationQ L E F s = (if s1.2 = none then (if wd L s1.1 = kIS then (typeNameQ L).bind (fun y => Q.ret (.mk 37 [] 0 a.at' [a, y])) (s1.1 + 1, none) else if comparesB (wd L s1.1) = true then (sumQ L E F).bind (fun b => Q.ret (opT (wd L s1.1) a b)) (s1.1 + 1, none) else (a, s1)) else (a, s1)) := Q.bind_eq h

set_option maxRecDepth 100000 in
set_option maxHeartbeats 4000000 in
theorem rexpr_any (c : RC) (w : World) (s : QS) (e : Nat) (E F : Q T) (he : e ≤ 20) (h : RS c w s e) (hS : QOK c (e + 1) 102 (sumQ c.L E F)) :
    Calls Tryz.prog 68 #[.pointer (some ⟨c.rb, 0, none⟩)] w (QSt c w s e (fun w' t v => TR w' w.heap.size w'.heap.size t v) (relationQ c.L E F (if e < 20 then s else (stopQ c.L 3 s).2))) := by
  have HP := hide h; have HL := hide h.low; have hb := h.lt; have hfew := h.good.few; have HX := hide hS; clear h hS; obtain ⟨s1, hs1⟩ : ∃ x, x = (if e < 20 then s else (stopQ c.L 3 s).2) := ⟨_, rfl⟩; rw [← hs1]
  go_enter Tryz.func68, Tryz.ntmps68
  go_wp2_with fail; go_at_call 44; refine (rdeeper_any c _ s e he (by exact RS.alloc HP.out _)).mono ?_; rintro e' w1 ⟨rfl, hg1, p1⟩; rw [← hs1] at p1
  have hi1 : s1.1 = s.1 := by
    rw [hs1]
    split
    · rfl
    · exact (stopQ_some c.L 3 s).2
  clear hs1; have sz1 := hg1.size
  simp at sz1
  have r1 : RB w1 w.heap.size := RB.kept (RB.new' (by simp)) hg1 (by simp; omega); have G1 : w.grownBy w1 (some c.rb) := gb_trans (by exact gb_alloc (gb_refl w (some c.rb)) _) hg1; go_wp2_with fail; go_at_call 102; refine (HX.out _ s1 p1).mono ?_; rintro e' w2 ⟨⟨k, x, m, a, l⟩, s2, v2, hr2, rfl, ⟨sv2, rfl, lr2⟩, hg2, p2, hi2⟩; simp only [T.kind, T.name, T.num, T.at', T.subs] at lr2 ⊢; obtain ⟨ad, cp, rfl⟩ := lr2.form; have HR2 := relationQ_eq hr2; have sz2 := hg2.size; have r2 : RB w2 w.heap.size := r1.kept hg2 (by simp; omega); have G2 : w.grownBy w2 (some c.rb) := gb_trans G1 hg2; have nA := (NB.new (v0 := .int .i64 k) (v1 := .string ⟨x.toArray⟩) (v2 := .int .i64 m) (v3 := .int .i64 a) (v4 := .slice ad l.length cp) w2 25); go_wp2_with fail; go_at_call 13; refine (rword_any c _ s2 (e + 1) (RS.alloc p2 _)).mono ?_; rintro e' w3 ⟨rfl, hg3⟩; have sz3 := hg3.size
  simp at sz3
  have p3 : RS c w3 s2 (e + 1) := (RS.alloc p2 _).grown hg3; have n3 := nA.kept hg3 (by simp); have r3 : RB w3 w.heap.size := (r2.alloc _).kept hg3 (by simp); have l3 : LR w3 (In w1.heap.size w2.heap.size) l (.slice ad l.length cp) := (lr2.alloc _).grown hg3; have G3 : w.grownBy w3 (some c.rb) := gb_trans (gb_alloc G2 _) (gb_some hg3 _); have hX2 := HX.out; go_wp2_with fail; go_at_call 29; refine (ris_any c _ s2 (e + 1) kIS _ rfl (by decide) p3).mono ?_; rintro e' w4 ⟨a4, s4, v4, hr4, rfl, rfl, hg4, p4, hi4⟩; have sz4 := hg4.size; have n4 := n3.kept hg4 (by simp; omega); have r4 := r3.kept hg4 (by simp; omega); have l4 : LR w4 (In w1.heap.size w2.heap.size) l (.slice ad l.length cp) := l3.call hg4 (by omega); have G4 : w.grownBy w4 (some c.rb) := gb_trans G3 hg4; have nlt := n4.lt; have rlt := r4.lt
  have hns : ¬ In w1.heap.size w2.heap.size w2.heap.size := fun h => by have h1 : w2.heap.size < w2.heap.size := h.2; omega
  have hnr : ¬ In w1.heap.size w2.heap.size c.rb := fun h => by have h1 : w1.heap.size ≤ c.rb := h.1; omega
  cases a4
  · obtain ⟨hs4, hno⟩ := isQ_false hr4
    subst hs4; have hin := rin_any (wd c.L s4.1) [s_eq, s_hash, s_lt, s_le, s_gt, s_ge] w4.heap.size 6 (w4.alloc (.cells ([s_eq, s_hash, s_lt, s_le, s_gt, s_ge].map fun x => Value.string ⟨x.toArray⟩).toArray 9)) rfl (by decide) (fun k h => lits_cell [s_eq, s_hash, s_lt, s_le, s_gt, s_ge] w4 _ k h); rw [compares_in] at hin; cases hjo : comparesB (wd c.L s4.1)
    · rw [hjo] at hin
      have HRn : relationQ c.L E F s1 = (T.mk k x m a l, s4) := by
        rw [HR2]
        by_cases hok : s4.2 = none
        · rw [if_pos hok, if_neg (fun h => hno ⟨hok, h⟩), if_neg (by rw [hjo]; decide)]
        · rw [if_neg hok]
      have pc2 := (p4).c2; have pz := (p4).z; have pl := (p4).lt; have pil := (n4).lt; obtain ⟨x0, x1, x2, x3, x4, xz⟩ := id (n4); obtain ⟨_, _, _, _, _, y0, y1, y2, y3, y4, yz⟩ := id (r4)
      go_wp2_with (go_at_call 101; refine Calls.mono hin ?_; rintro e9 _ ⟨rfl, rfl⟩)
      obtain ⟨E1, E2, E3, E4, E5⟩ := expr_end (W := w4) (R := w.heap.size) (v0 := .int .i64 k) (v1 := .string ⟨x.toArray⟩) (v2 := .int .i64 m) (v3 := .int .i64 a) (v4 := .slice ad l.length cp) he HL.out (Nat.le_refl _) (by omega) p4 r4 l4 G4; refine node_ret Tryz.results68 rfl (NB.alloc E1 _) rfl ?_
      exact QSt.ok (a := T.mk k x m a l) (HRn) ⟨_, rfl, LR.wide (LR.alloc E2 _) (by omega) (by first | omega | (simp; omega))⟩ (gb_alloc E3 _) (RS.alloc E4 _) (by omega)
    · rw [hjo] at hin
      have hne : wd c.L s4.1 ≠ [] := by
        intro e; rw [e] at hjo
        revert hjo
        decide
      by_cases hok : s4.2 = none
      · have his : isQ c.L (wd c.L s4.1) s4 = (true, (s4.1 + 1, none)) := by unfold isQ; rw [if_pos ⟨hok, rfl⟩]
        have HRy := HR2; rw [if_pos hok, if_neg (fun h => hno ⟨hok, h⟩), if_pos hjo] at HRy
        go_wp2_with (first
          | (go_at_call 101; refine Calls.mono hin ?_; rintro e9 _ ⟨rfl, rfl⟩)
          | (go_at_call 29; refine (ris_any c _ s4 (e + 1) (wd c.L s4.1) _ (by simp) hne (RS.alloc p4 _)).mono ?_; rintro e9 w23 ⟨a23, s23, v23, hr23, rfl, rfl, hg23, p23, hi23⟩; rw [his] at hr23; cases hr23))
        have sz23 := hg23.size
        simp at sz23
        have nb23 := NB.kept (NB.alloc n4 _) hg23 (by simp; omega); have rb23 := RB.kept (RB.alloc r4 _) hg23 (by simp; omega); have lr23 := LR.call (LR.alloc l4 _) hg23 (by omega); have G23 : w.grownBy w23 (some c.rb) := gb_trans (gb_alloc G4 _) hg23; obtain ⟨x0, x1, x2, x3, x4, xz⟩ := id nb23; go_wp2_with fail
        go_region_with (first
          | (go_at_call 102
             refine (HX.out _ (s4.1 + 1, none) (p23.drewN _)).mono ?_; rintro e9 w25 ⟨⟨k5, n5, m5, q5, l5⟩, s25, v25, hr25, rfl, ⟨sv5, rfl, lr5⟩, hg25, p25, hi25⟩; simp only [T.kind, T.name, T.num, T.at', T.subs] at lr5 ⊢; obtain ⟨ad5, cp5, rfl⟩ := lr5.form; have sz25 := hg25.size
             simp at sz25
             have nb25 := NB.kept (nb23.drewN _) hg25 (by simp; omega); have zl := nb25.lt
             obtain ⟨z0, z1, z2, z3, z4, zz⟩ := id nb25))
        all_goals
          have rb25 := RB.kept (rb23.drewN _) hg25 (by simp; omega); have G25 : w.grownBy w25 (some c.rb) := gb_trans (gb_drewN G23 _) hg25; have H1 : LR w25 (Un (In w1.heap.size w2.heap.size) (w2.heap.size + 1) w25.heap.size) l (.slice ad l.length cp) := LR.un (LR.call (LR.drewN lr23 _) hg25 (by omega)); have H2 : LR w25 (Un (In w1.heap.size w2.heap.size) (w2.heap.size + 1) w25.heap.size) l5 (.slice ad5 l5.length cp5) := LR.inU (lr5.wide (by simp; omega) (Nat.le_refl _))
          have hS25 : ∀ k, Un (In w1.heap.size w2.heap.size) (w2.heap.size + 1) w25.heap.size k → k < w25.heap.size := fun k hk => hk.elim (fun h => by have h1 : k < w2.heap.size := h.2; omega) (fun h => h.2)
          obtain ⟨W5, hW5⟩ : ∃ W : World, W = ((((w25.setCell ⟨w2.heap.size, 0, none⟩ (.int .i64 36)).setCell ⟨w2.heap.size, 1, none⟩ (.string ⟨(wd c.L s4.1).toArray⟩)).setCell ⟨w2.heap.size, 2, none⟩ (.int .i64 0)).setCell ⟨w2.heap.size, 3, none⟩ (.int .i64 a)).setCell ⟨w2.heap.size, 4, none⟩ (.slice (some ⟨w25.heap.size, 0, none⟩) 2 2) := ⟨_, rfl⟩
          have hWs : W5.heap.size = w25.heap.size := by rw [hW5]; simp [World.setCell]
          have H1w : LR W5 (Un (In w1.heap.size w2.heap.size) (w2.heap.size + 1) w25.heap.size) l (.slice ad l.length cp) := by rw [hW5]; exact (((((H1.callU (gb_set (gb_refl _ _) _ _) hns (by omega)).callU (gb_set (gb_refl _ _) _ _) hns (by omega)).callU (gb_set (gb_refl _ _) _ _) hns (by omega)).callU (gb_set (gb_refl _ _) _ _) hns (by omega)).callU (gb_set (gb_refl _ _) _ _) hns (by omega))
          have H2w : LR W5 (Un (In w1.heap.size w2.heap.size) (w2.heap.size + 1) w25.heap.size) l5 (.slice ad5 l5.length cp5) := by rw [hW5]; exact (((((H2.callU (gb_set (gb_refl _ _) _ _) hns (by omega)).callU (gb_set (gb_refl _ _) _ _) hns (by omega)).callU (gb_set (gb_refl _ _) _ _) hns (by omega)).callU (gb_set (gb_refl _ _) _ _) hns (by omega)).callU (gb_set (gb_refl _ _) _ _) hns (by omega))
          have nbW : NB W5 w2.heap.size (.int .i64 36) (.string ⟨(wd c.L s4.1).toArray⟩) (.int .i64 0) (.int .i64 a) (.slice (some ⟨w25.heap.size, 0, none⟩) 2 2) := by rw [hW5]; exact NB.s4 (NB.s3 (NB.s2 (NB.s1 (NB.s0 nb25 _) _) _) _) _
          have rbW : RB W5 w.heap.size := by rw [hW5]; exact RB.p5 rb25
          have pW : RS c W5 s25 (e + 1) := by rw [hW5]; exact RS.p5 p25 HL.out (by omega)
          have GW : w.grownBy W5 (some c.rb) := by rw [hW5]; exact gb_p5 G25 (by omega)
          have HB := LR.build2S W5 (g := w25.heap.size) (t := T.mk k x m a l) (t2 := T.mk k5 n5 m5 q5 l5) (sv := .slice ad l.length cp) (sv2 := .slice ad5 l5.length cp5) (cs := #[.int .i64 k, .string ⟨x.toArray⟩, .int .i64 m, .int .i64 a, .slice ad l.length cp, .int .i64 k5, .string ⟨n5.toArray⟩, .int .i64 m5, .int .i64 q5, .slice ad5 l5.length cp5]) H1w H2w hS25 hWs.symm rfl
          have HB2 : LR (W5.alloc (.cells #[.int .i64 k, .string ⟨x.toArray⟩, .int .i64 m, .int .i64 a, .slice ad l.length cp, .int .i64 k5, .string ⟨n5.toArray⟩, .int .i64 m5, .int .i64 q5, .slice ad5 l5.length cp5] 25)) (In w1.heap.size (w25.heap.size + 1)) [T.mk k x m a l, T.mk k5 n5 m5 q5 l5] (.slice (some ⟨w25.heap.size, 0, none⟩) 2 2) := HB.mono (fun j9 hk => by
            rcases hk with (hk | hk) | hk
            · exact ⟨hk.1, Nat.lt_of_lt_of_le hk.2 (by omega)⟩
            · exact ⟨by omega, by omega⟩
            · exact ⟨by omega, by omega⟩)
          rw [← hW5]; obtain ⟨W6, hW6⟩ : ∃ W : World, W = W5.alloc (.cells #[.int .i64 k, .string ⟨x.toArray⟩, .int .i64 m, .int .i64 a, .slice ad l.length cp, .int .i64 k5, .string ⟨n5.toArray⟩, .int .i64 m5, .int .i64 q5, .slice ad5 l5.length cp5] 25) := ⟨_, rfl⟩
          have hWt : W6.heap.size = w25.heap.size + 1 := by rw [hW6]; simp [hWs]
          have nb6 : NB W6 w2.heap.size (.int .i64 36) (.string ⟨(wd c.L s4.1).toArray⟩) (.int .i64 0) (.int .i64 a) (.slice (some ⟨w25.heap.size, 0, none⟩) 2 2) := by rw [hW6]; exact NB.alloc nbW _
          have rb6 : RB W6 w.heap.size := by rw [hW6]; exact RB.alloc rbW _
          have p6 : RS c W6 s25 (e + 1) := by rw [hW6]; exact RS.alloc pW _
          have G6 : w.grownBy W6 (some c.rb) := by rw [hW6]; exact gb_alloc GW _
          rw [← hW6] at HB2 ⊢; clear hW5 hW6 HB H1w H2w nbW rbW pW GW; have pc2 := (p6).c2; have pz := (p6).z; have pl := (p6).lt; have pil := (nb6).lt; obtain ⟨x0, x1, x2, x3, x4, xz⟩ := id (nb6); obtain ⟨_, _, _, _, _, y0, y1, y2, y3, y4, yz⟩ := id (rb6); go_wp2; obtain ⟨E1, E2, E3, E4, E5⟩ := expr_end (W := W6) (R := w.heap.size) (v0 := .int .i64 36) (v1 := .string ⟨(wd c.L s4.1).toArray⟩) (v2 := .int .i64 0) (v3 := .int .i64 a) (v4 := .slice (some ⟨w25.heap.size, 0, none⟩) 2 2) he HL.out (Nat.le_refl _) (by omega) p6 rb6 HB2 G6; refine node_ret Tryz.results68 rfl E1 rfl ?_
          exact QSt.ok (a := T.mk 36 (wd c.L s4.1) 0 a [T.mk k x m a l, T.mk k5 n5 m5 q5 l5]) (HRy.trans (Q.bind_eq hr25)) ⟨_, rfl, LR.wide E2 (by omega) (by first | omega | (simp; omega))⟩ E3 E4 (by omega)
      · have his : isQ c.L (wd c.L s4.1) s4 = (false, s4) := by unfold isQ; rw [if_neg (fun h => hok h.1)]
        have HRn : relationQ c.L E F s1 = (T.mk k x m a l, s4) := by
          rw [HR2, if_neg hok]
        go_wp2_with (first
          | (go_at_call 101; refine Calls.mono hin ?_; rintro e9 _ ⟨rfl, rfl⟩)
          | (go_at_call 29; refine (ris_any c _ s4 (e + 1) (wd c.L s4.1) _ (by simp) hne (RS.alloc p4 _)).mono ?_; rintro e9 w23 ⟨a23, s23, v23, hr23, rfl, rfl, hg23, p23, hi23⟩; rw [his] at hr23; cases hr23
             have sz23 := hg23.size
             simp at sz23
             have nb23 := NB.kept (NB.alloc n4 _) hg23 (by simp; omega); have rb23 := RB.kept (RB.alloc r4 _) hg23 (by simp; omega); have lr23 := LR.call (LR.alloc l4 _) hg23 (by omega); have G23 : w.grownBy w23 (some c.rb) := gb_trans (gb_alloc G4 _) hg23; have pc2 := p23.c2; have pz := p23.z; have pl := p23.lt; have pil := nb23.lt; obtain ⟨x0, x1, x2, x3, x4, xz⟩ := id nb23
             obtain ⟨_, _, _, _, _, y0, y1, y2, y3, y4, yz⟩ := id rb23))
        obtain ⟨E1, E2, E3, E4, E5⟩ := expr_end (W := w23) (R := w.heap.size) (v0 := .int .i64 k) (v1 := .string ⟨x.toArray⟩) (v2 := .int .i64 m) (v3 := .int .i64 a) (v4 := .slice ad l.length cp) he HL.out (Nat.le_refl _) (by omega) p23 rb23 lr23 G23; refine node_ret Tryz.results68 rfl E1 rfl ?_
        exact QSt.ok (a := T.mk k x m a l) (HRn) ⟨_, rfl, LR.wide E2 (by omega) (by first | omega | (simp; omega))⟩ E3 E4 (by omega)
  · obtain ⟨hok, hkw, hs4⟩ := isQ_true hr4
    subst hs4; have HRy := HR2; rw [if_pos hok, if_pos hkw] at HRy; obtain ⟨x0, x1, x2, x3, x4, xz⟩ := id n4; go_wp2_with fail
    go_region_with (first
      | (go_at_call 43
         refine (rtypeName_any c _ (s2.1 + 1, none) (e + 1) (p4.drewN _)).mono ?_; rintro e9 w25 ⟨⟨k5, n5, m5, q5, l5⟩, s25, v25, hr25, rfl, ⟨sv5, rfl, lr5⟩, hg25, p25, hi25⟩; simp only [T.kind, T.name, T.num, T.at', T.subs] at lr5 ⊢; obtain ⟨ad5, cp5, rfl⟩ := lr5.form; have sz25 := hg25.size
         simp at sz25
         have nb25 := NB.kept (n4.drewN _) hg25 (by simp; omega); have zl := nb25.lt
         obtain ⟨z0, z1, z2, z3, z4, zz⟩ := id nb25))
    all_goals
      have rb25 := RB.kept (r4.drewN _) hg25 (by simp; omega); have G25 : w.grownBy w25 (some c.rb) := gb_trans (gb_drewN G4 _) hg25; have H1 : LR w25 (Un (In w1.heap.size w2.heap.size) (w2.heap.size + 1) w25.heap.size) l (.slice ad l.length cp) := LR.un (LR.call (LR.drewN l4 _) hg25 (by omega)); have H2 : LR w25 (Un (In w1.heap.size w2.heap.size) (w2.heap.size + 1) w25.heap.size) l5 (.slice ad5 l5.length cp5) := LR.inU (lr5.wide (by simp; omega) (Nat.le_refl _))
      have hS25 : ∀ k, Un (In w1.heap.size w2.heap.size) (w2.heap.size + 1) w25.heap.size k → k < w25.heap.size := fun k hk => hk.elim (fun h => by have h1 : k < w2.heap.size := h.2; omega) (fun h => h.2)
      obtain ⟨W5, hW5⟩ : ∃ W : World, W = ((((w25.setCell ⟨w2.heap.size, 0, none⟩ (.int .i64 37)).setCell ⟨w2.heap.size, 1, none⟩ (.string ⟨#[]⟩)).setCell ⟨w2.heap.size, 2, none⟩ (.int .i64 0)).setCell ⟨w2.heap.size, 3, none⟩ (.int .i64 a)).setCell ⟨w2.heap.size, 4, none⟩ (.slice (some ⟨w25.heap.size, 0, none⟩) 2 2) := ⟨_, rfl⟩
      have hWs : W5.heap.size = w25.heap.size := by rw [hW5]; simp [World.setCell]
      have H1w : LR W5 (Un (In w1.heap.size w2.heap.size) (w2.heap.size + 1) w25.heap.size) l (.slice ad l.length cp) := by rw [hW5]; exact (((((H1.callU (gb_set (gb_refl _ _) _ _) hns (by omega)).callU (gb_set (gb_refl _ _) _ _) hns (by omega)).callU (gb_set (gb_refl _ _) _ _) hns (by omega)).callU (gb_set (gb_refl _ _) _ _) hns (by omega)).callU (gb_set (gb_refl _ _) _ _) hns (by omega))
      have H2w : LR W5 (Un (In w1.heap.size w2.heap.size) (w2.heap.size + 1) w25.heap.size) l5 (.slice ad5 l5.length cp5) := by rw [hW5]; exact (((((H2.callU (gb_set (gb_refl _ _) _ _) hns (by omega)).callU (gb_set (gb_refl _ _) _ _) hns (by omega)).callU (gb_set (gb_refl _ _) _ _) hns (by omega)).callU (gb_set (gb_refl _ _) _ _) hns (by omega)).callU (gb_set (gb_refl _ _) _ _) hns (by omega))
      have nbW : NB W5 w2.heap.size (.int .i64 37) (.string ⟨#[]⟩) (.int .i64 0) (.int .i64 a) (.slice (some ⟨w25.heap.size, 0, none⟩) 2 2) := by rw [hW5]; exact NB.s4 (NB.s3 (NB.s2 (NB.s1 (NB.s0 nb25 _) _) _) _) _
      have rbW : RB W5 w.heap.size := by rw [hW5]; exact RB.p5 rb25
      have pW : RS c W5 s25 (e + 1) := by rw [hW5]; exact RS.p5 p25 HL.out (by omega)
      have GW : w.grownBy W5 (some c.rb) := by rw [hW5]; exact gb_p5 G25 (by omega)
      have HB := LR.build2S W5 (g := w25.heap.size) (t := T.mk k x m a l) (t2 := T.mk k5 n5 m5 q5 l5) (sv := .slice ad l.length cp) (sv2 := .slice ad5 l5.length cp5) (cs := #[.int .i64 k, .string ⟨x.toArray⟩, .int .i64 m, .int .i64 a, .slice ad l.length cp, .int .i64 k5, .string ⟨n5.toArray⟩, .int .i64 m5, .int .i64 q5, .slice ad5 l5.length cp5]) H1w H2w hS25 hWs.symm rfl
      have HB2 : LR (W5.alloc (.cells #[.int .i64 k, .string ⟨x.toArray⟩, .int .i64 m, .int .i64 a, .slice ad l.length cp, .int .i64 k5, .string ⟨n5.toArray⟩, .int .i64 m5, .int .i64 q5, .slice ad5 l5.length cp5] 25)) (In w1.heap.size (w25.heap.size + 1)) [T.mk k x m a l, T.mk k5 n5 m5 q5 l5] (.slice (some ⟨w25.heap.size, 0, none⟩) 2 2) := HB.mono (fun j9 hk => by
        rcases hk with (hk | hk) | hk
        · exact ⟨hk.1, Nat.lt_of_lt_of_le hk.2 (by omega)⟩
        · exact ⟨by omega, by omega⟩
        · exact ⟨by omega, by omega⟩)
      rw [← hW5]; obtain ⟨W6, hW6⟩ : ∃ W : World, W = W5.alloc (.cells #[.int .i64 k, .string ⟨x.toArray⟩, .int .i64 m, .int .i64 a, .slice ad l.length cp, .int .i64 k5, .string ⟨n5.toArray⟩, .int .i64 m5, .int .i64 q5, .slice ad5 l5.length cp5] 25) := ⟨_, rfl⟩
      have hWt : W6.heap.size = w25.heap.size + 1 := by rw [hW6]; simp [hWs]
      have nb6 : NB W6 w2.heap.size (.int .i64 37) (.string ⟨#[]⟩) (.int .i64 0) (.int .i64 a) (.slice (some ⟨w25.heap.size, 0, none⟩) 2 2) := by rw [hW6]; exact NB.alloc nbW _
      have rb6 : RB W6 w.heap.size := by rw [hW6]; exact RB.alloc rbW _
      have p6 : RS c W6 s25 (e + 1) := by rw [hW6]; exact RS.alloc pW _
      have G6 : w.grownBy W6 (some c.rb) := by rw [hW6]; exact gb_alloc GW _
      rw [← hW6] at HB2 ⊢; clear hW5 hW6 HB H1w H2w nbW rbW pW GW; have pc2 := (p6).c2; have pz := (p6).z; have pl := (p6).lt; have pil := (nb6).lt; obtain ⟨x0, x1, x2, x3, x4, xz⟩ := id (nb6); obtain ⟨_, _, _, _, _, y0, y1, y2, y3, y4, yz⟩ := id (rb6); go_wp2; obtain ⟨E1, E2, E3, E4, E5⟩ := expr_end (W := W6) (R := w.heap.size) (v0 := .int .i64 37) (v1 := .string ⟨#[]⟩) (v2 := .int .i64 0) (v3 := .int .i64 a) (v4 := .slice (some ⟨w25.heap.size, 0, none⟩) 2 2) he HL.out (Nat.le_refl _) (by omega) p6 rb6 HB2 G6; refine node_ret Tryz.results68 rfl E1 rfl ?_
      exact QSt.ok (a := T.mk 37 [] 0 a [T.mk k x m a l, T.mk k5 n5 m5 q5 l5]) (HRy.trans (Q.bind_eq hr25)) ⟨_, rfl, LR.wide E2 (by omega) (by first | omega | (simp; omega))⟩ E3 E4 (by omega)
end Go.Proofs.YtbphiiaoncakfaaGreatDoor
