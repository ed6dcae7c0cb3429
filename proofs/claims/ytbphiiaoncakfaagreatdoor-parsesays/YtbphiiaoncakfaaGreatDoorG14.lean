/- Assignments and calls. -/
import Derived.Test.YtbphiiaoncakfaaGreatDoorG13
namespace Go.Proofs.YtbphiiaoncakfaaGreatDoor
open Go.RowKit

set_option maxRecDepth 100000 in
set_option maxHeartbeats 4000000 in
theorem passignmentOrCall_any (c : PC) (w : World) (i d : Nat) (E : P T) (h : PS c w i d) (hE : ExprOK c d E) :
    Calls Tryz.prog 142 #[.pointer (some ⟨c.pb, 0, none⟩)] w (Steps c w i d (fun w' t v => TR w' w.heap.size w'.heap.size t v) (assignP c.L E i)) := by
  have HP := hide h; have HL := hide h.low; have hb := h.lt; have hfew := h.good.few; clear h
  go_enter Tryz.func142, Tryz.ntmps142
  go_wp2_with fail; go_at_call 51; refine (pnode_any c _ i d 15 (by exact PS.alloc HP.out _)).mono ?_; rintro e w1 ⟨rfl, hg1⟩; have p1 : PS c w1 i d := PS.kept (by exact PS.alloc HP.out _) hg1; have G1 : w.grownBy w1 (some c.pb) := gb_trans (by exact gb_alloc (gb_refl w (some c.pb)) _) (gb_some hg1 (some c.pb)); have s1 := hg1.size
  try simp at s1
  have r_1 : RB w1 (w.heap.size) := RB.kept (RB.new' (by simp)) hg1 (by simp); have r_lt1 := r_1.lt; obtain ⟨_,_,_,_,_,_,_,_,_,_,_⟩ := id r_1; go_wp2_with fail; go_at_call 141; refine (pdesignator_any c _ i d E (by exact PS.alloc p1 _) hE).mono ?_; rintro e w2 (⟨x2, hr2, ht2, hg2⟩ | ⟨⟨k2, n2, m2, q2, l2⟩, j2, v2, hr2, rfl, ⟨sv2, rfl, lr2⟩, hg2, p2, hi2⟩)
  · have HT := ht2
    obtain ⟨q, rfl, -⟩ := ht2
    exact ⟨rfl, Steps.err (P.bind_err hr2) HT (by exact gb_alloc G1 _) hg2⟩
  have HR2 : assignP c.L E i = _ := P.bind_ok hr2; simp only [T.kind, T.name, T.num, T.at', T.subs] at lr2 ⊢; obtain ⟨ad2, cp2, rfl⟩ := lr2.form; obtain ⟨b2, hb2, lr2⟩ : ∃ b, b = _ ∧ LR w2 (In b w2.heap.size) l2 (.slice ad2 l2.length cp2) := ⟨_, rfl, lr2⟩
  try simp at hb2
  have G2 : w.grownBy w2 (some c.pb) := gb_trans (by exact gb_alloc G1 _) hg2; have s2 := hg2.size
  try simp at s2
  have r_2 : RB w2 (w.heap.size) := RB.keep (by exact RB.alloc r_1 _) hg2 (by omega); have n_2 : NB w2 (w1.heap.size) (.int .i64 15) (.string ⟨#[]⟩) (.int .i64 0) (.int .i64 (pos c.L i)) (.slice none 0 0) := NB.keep (NB.new' (by simp)) hg2 (by omega); have r_lt2 := r_2.lt; have n_lt2 := n_2.lt; obtain ⟨_,_,_,_,_,_,_,_,_,_,_⟩ := id r_2; obtain ⟨_,_,_,_,_,_⟩ := id n_2; go_wp2_with fail; go_at_call 38; refine (pwordq_any c _ j2 d (by exact PS.alloc (PS.alloc (PS.put p2 HL.out (by omega) _ _) _) _)).mono ?_; rintro e w3 ⟨rfl, hg3⟩; have p3 : PS c w3 j2 d := PS.kept (by exact PS.alloc (PS.alloc (PS.put p2 HL.out (by omega) _ _) _) _) hg3; have G3 : w.grownBy w3 (some c.pb) := gb_trans (by exact gb_alloc (gb_alloc (gb_put G2 (by omega) _ _) _) _) (gb_some hg3 (some c.pb)); have s3 := hg3.size
  try simp at s3
  have r_3 : RB w3 (w.heap.size) := RB.kept (by exact RB.alloc (RB.alloc (RB.put r_2 _ _ _) _) _) hg3 (by simp); have n_3 : NB w3 (w1.heap.size) (.int .i64 15) (.string ⟨#[]⟩) (.int .i64 0) (.int .i64 (pos c.L i)) (.slice (some ⟨w2.heap.size + 1, 0, none⟩) 1 1) := NB.kept (by exact NB.alloc (NB.alloc (NB.s4 n_2 _) _) _) hg3 (by simp); have t_3 : LR w3 (In (b2) (w2.heap.size)) (l2) (.slice ad2 l2.length cp2) := LR.grown (by exact LR.alloc (LR.alloc (LR.put lr2 (by omega) _ _) _) _) hg3; have z_3 : LR w3 (In (b2) (w2.heap.size + 1 + 1)) ([(T.mk k2 n2 m2 q2 l2)]) (.slice (some ⟨w2.heap.size + 1, 0, none⟩) 1 1) := LR.grown (LR.build1 _ (t := (T.mk k2 n2 m2 q2 l2)) (sv := .slice ad2 l2.length cp2) (LR.wide (lo := b2) (hi := w2.heap.size) (ts := l2) (by exact LR.alloc (LR.put lr2 (by omega) _ _) _) (by omega) (by first | omega | (simp <;> omega))) (by simp) rfl (by omega)) hg3; have r_lt3 := r_3.lt; have n_lt3 := n_3.lt; obtain ⟨_,_,_,_,_,_,_,_,_,_,_⟩ := id r_3; obtain ⟨_,_,_,_,_,_⟩ := id n_3
  by_cases h1 : wd c.L j2 = s_becomes
  · have hw1 : (wd c.L j2 == [58, 61]) = true := by rw [h1]; decide
    have HRx1 : assignP c.L E i = _ := HR2.trans (if_pos h1); go_wp2_with fail; go_at_call 87; refine (ptake_any c _ j2 d p3 (by rw [h1]; decide)).mono ?_; rintro e w4 ⟨rfl, hg4, p4⟩; have G4 : w.grownBy w4 (some c.pb) := gb_trans G3 hg4; have s4 := hg4.size
    try simp at s4
    have r_4 : RB w4 (w.heap.size) := RB.keep r_3 hg4 (by omega); have n_4 : NB w4 (w1.heap.size) (.int .i64 15) (.string ⟨#[]⟩) (.int .i64 0) (.int .i64 (pos c.L i)) (.slice (some ⟨w2.heap.size + 1, 0, none⟩) 1 1) := NB.keep n_3 hg4 (by omega); have t_4 : LR w4 (In (b2) (w2.heap.size)) (l2) (.slice ad2 l2.length cp2) := LR.call t_3 hg4 (by omega); have z_4 : LR w4 (In (b2) (w2.heap.size + 1 + 1)) ([(T.mk k2 n2 m2 q2 l2)]) (.slice (some ⟨w2.heap.size + 1, 0, none⟩) 1 1) := LR.call z_3 hg4 (by omega); have r_lt4 := r_4.lt; have n_lt4 := n_4.lt; obtain ⟨_,_,_,_,_,_,_,_,_,_,_⟩ := id r_4; obtain ⟨_,_,_,_,_,_⟩ := id n_4; go_wp2_with fail
    go_region_law (first
      | (go_simp
         go_at_call 93; refine (hE.call _ (j2 + 1) (by exact PS.drew (PS.put p4 HL.out (by omega) _ _)) trivial).mono ?_; rintro e w5 (⟨x5, hr5, ht5, hg5⟩ | ⟨⟨k5, n5, m5, q5, l5⟩, j5, v5, hr5, rfl, ⟨sv5, rfl, lr5⟩, hg5, p5, hi5⟩)
         focus
           have HT := ht5; obtain ⟨q, rfl, -⟩ := ht5
           exact ⟨rfl, Steps.err (HRx1.trans (P.bind_err hr5)) HT (by exact gb_drew (gb_put G4 (by omega) _ _)) hg5⟩
         have HR5 : assignP c.L E i = _ := HRx1.trans (P.bind_ok hr5); simp only [T.kind, T.name, T.num, T.at', T.subs] at lr5 ⊢; obtain ⟨ad5, cp5, rfl⟩ := lr5.form; obtain ⟨b5, hb5, lr5⟩ : ∃ b, b = _ ∧ LR w5 (In b w5.heap.size) l5 (.slice ad5 l5.length cp5) := ⟨_, rfl, lr5⟩
         try simp at hb5
         have G5 : w.grownBy w5 (some c.pb) := gb_trans (by exact gb_drew (gb_put G4 (by omega) _ _)) hg5; have s5 := hg5.size
         try simp at s5
         have r_5 : RB w5 (w.heap.size) := RB.keep (by exact RB.drew (RB.put r_4 _ _ _)) hg5 (by omega); have n_5 : NB w5 (w1.heap.size) (.int .i64 14) (.string ⟨#[]⟩) (.int .i64 0) (.int .i64 (pos c.L i)) (.slice (some ⟨w2.heap.size + 1, 0, none⟩) 1 1) := NB.keep (by exact NB.drew (NB.s0 n_4 _)) hg5 (by omega); have t_5 : LR w5 (In (b2) (w2.heap.size)) (l2) (.slice ad2 l2.length cp2) := LR.call (by exact LR.drew (LR.put t_4 (by omega) _ _)) hg5 (by omega); have z_5 : LR w5 (In (b2) (w2.heap.size + 1 + 1)) ([(T.mk k2 n2 m2 q2 l2)]) (.slice (some ⟨w2.heap.size + 1, 0, none⟩) 1 1) := LR.call (by exact LR.drew (LR.put z_4 (by omega) _ _)) hg5 (by omega); have r_lt5 := r_5.lt; have n_lt5 := n_5.lt; obtain ⟨_,_,_,_,_,_,_,_,_,_,_⟩ := id r_5
         obtain ⟨_,_,_,_,_,_⟩ := id n_5)
      | (have hrow6 := z_5.rows
         refine step_appS (v := .slice (some ⟨w2.heap.size + 1, 0, none⟩) 1 1) rfl _ _ rfl (In (b2) (w5.heap.size + 2)) rfl rfl (LR.alloc z_5 _) (LR.build1 w5 (cs := #[.int .i64 k5, .string ⟨n5.toArray⟩, .int .i64 m5, .int .i64 q5, .slice ad5 l5.length cp5]) (t := (T.mk k5 n5 m5 q5 l5)) (sv := .slice ad5 l5.length cp5) lr5 rfl rfl (by omega))
           (fun k hk e => by have h1 := hrow6 k e; have h2 : b5 ≤ k := hk.1; omega) (fun k hk => ⟨hk.1, by have h : k < w2.heap.size + 1 + 1 := hk.2; omega⟩) (fun k hk => ⟨by have h : b5 ≤ k := hk.1; omega, by have h : k < w5.heap.size + 1 := hk.2; omega⟩) ⟨by simp; omega, by simp⟩ (by simp; try omega) ?_
         intro v6 w6 lr6 hg6; obtain ⟨ad6, cp6, e6⟩ := lr6.form; have e6 : v6 = .slice ad6 (2) cp6 := e6; subst e6; have s6 := hg6.size
         try simp at s6
         have r_6 : RB w6 (w.heap.size) := RB.kept (RB.alloc r_5 _) hg6 (fun e => by have := hrow6 _ e.symm; omega); have n_6 : NB w6 (w1.heap.size) (.int .i64 14) (.string ⟨#[]⟩) (.int .i64 0) (.int .i64 (pos c.L i)) (.slice (some ⟨w2.heap.size + 1, 0, none⟩) 1 1) := NB.kept (NB.alloc n_5 _) hg6 (fun e => by have := hrow6 _ e.symm; omega); have p6 : PS c w6 j5 d := PS.own (PS.alloc p5 _) HL.out hg6 (fun b hb => by have := hrow6 b hb; omega); have G6 : w.grownBy w6 (some c.pb) := gb_own (gb_alloc G5 _) hg6 (fun b hb => by have := hrow6 b hb; omega); have r_lt6 := r_6.lt; have n_lt6 := n_6.lt; obtain ⟨_,_,_,_,_,_,_,_,_,_,_⟩ := id r_6
         obtain ⟨_,_,_,_,_,_⟩ := id n_6))
    all_goals
      have lz6 : LR w6 (In (b2) w6.heap.size) ([(T.mk k2 n2 m2 q2 l2)] ++ [(T.mk k5 n5 m5 q5 l5)]) (.slice ad6 (2) cp6) := lr6.bounded.mono (fun k hk => ⟨hk.1.1, hk.2⟩); go_wp2; refine node_ret Tryz.results142 rfl (RB.five ?_) rfl ?_
      · exact RB.put r_6 _ _ _
      refine Steps.ok (a := (T.mk 14 [] 0 (pos c.L i) [(T.mk k2 n2 m2 q2 l2), (T.mk k5 n5 m5 q5 l5)])) (HR5) ⟨_, rfl, ?_⟩ ?_ ?_ (by omega)
      · refine LR.wide (lo := b2) (hi := w6.heap.size) (ts := ([(T.mk k2 n2 m2 q2 l2)] ++ [(T.mk k5 n5 m5 q5 l5)])) ?_ (by omega) (by first | omega | (simp <;> omega))
        exact LR.p5 (LR.put lz6 (by omega) _ _) (by omega)
      · exact gb_p5 (gb_put G6 (by omega) _ _) (by omega)
      · exact PS.p5 (PS.put p6 HL.out (by omega) _ _) HL.out (by omega)
  have hw1 : (wd c.L j2 == [58, 61]) = false := by simpa [s_becomes] using h1
  have HRx2 : assignP c.L E i = _ := HR2.trans (if_neg h1)
  by_cases h2 : wd c.L j2 = s_lp
  · have hw2 : (wd c.L j2 == [40]) = true := by rw [h2]; decide
    have HRx3 : assignP c.L E i = _ := HRx2.trans (if_pos h2); go_wp2_with fail
    go_region_law (first
      | (go_simp
         go_at_call 148; refine (parguments_any c _ j2 d E (by exact PS.drew p3) hE).mono ?_; rintro e w4 (⟨x4, hr4, ht4, hg4⟩ | ⟨a4, j4, v4, hr4, rfl, ⟨lr4, len4⟩, hg4, p4, hi4⟩)
         focus
           have HT := ht4; obtain ⟨q, rfl, -⟩ := ht4
           exact ⟨rfl, Steps.err (HRx3.trans (P.bind_err hr4)) HT (by exact gb_drew G3) hg4⟩
         have HR4 : assignP c.L E i = _ := HRx3.trans (P.bind_ok hr4); obtain ⟨ad4, cp4, rfl⟩ := lr4.form; obtain ⟨b4, hb4, lr4⟩ : ∃ b, b = _ ∧ LR w4 (In b w4.heap.size) a4 (.slice ad4 a4.length cp4) := ⟨_, rfl, lr4⟩
         try simp at hb4
         have G4 : w.grownBy w4 (some c.pb) := gb_trans (by exact gb_drew G3) hg4; have s4 := hg4.size
         try simp at s4
         have r_4 : RB w4 (w.heap.size) := RB.keep (by exact RB.drew r_3) hg4 (by omega); have n_4 : NB w4 (w1.heap.size) (.int .i64 15) (.string ⟨#[]⟩) (.int .i64 0) (.int .i64 (pos c.L i)) (.slice (some ⟨w2.heap.size + 1, 0, none⟩) 1 1) := NB.keep (by exact NB.drew n_3) hg4 (by omega); have t_4 : LR w4 (In (b2) (w2.heap.size)) (l2) (.slice ad2 l2.length cp2) := LR.call (by exact LR.drew t_3) hg4 (by omega); have z_4 : LR w4 (In (b2) (w2.heap.size + 1 + 1)) ([(T.mk k2 n2 m2 q2 l2)]) (.slice (some ⟨w2.heap.size + 1, 0, none⟩) 1 1) := LR.call (by exact LR.drew z_3) hg4 (by omega); have r_lt4 := r_4.lt; have n_lt4 := n_4.lt; obtain ⟨_,_,_,_,_,_,_,_,_,_,_⟩ := id r_4
         obtain ⟨_,_,_,_,_,_⟩ := id n_4)
      | (have hrow5 := z_4.rows
         refine step_appAny (v := .slice (some ⟨w2.heap.size + 1, 0, none⟩) 1 1) (u := .slice ad4 a4.length cp4) rfl _ _ rfl (In (b2) (w4.heap.size + 1)) rfl rfl z_4 lr4
           (fun k hk e => by have h1 := hrow5 k e; have h2 : b4 ≤ k := hk.1; omega) (fun k hk => ⟨hk.1, by have h : k < w2.heap.size + 1 + 1 := hk.2; omega⟩) (fun k hk => ⟨by have h : b4 ≤ k := hk.1; omega, by have h : k < w4.heap.size := hk.2; omega⟩) ⟨by first | omega | (simp <;> omega), by first | omega | (simp <;> omega)⟩ (by simp; omega) ?_
         intro v5 w5 lr5 hg5; obtain ⟨ad5, cp5, e5⟩ := lr5.form; rw [List.length_append, List.length_singleton] at e5; have e5 : v5 = .slice ad5 (1 + a4.length) cp5 := e5; subst e5; have s5 := hg5.size
         try simp at s5
         have r_5 : RB w5 (w.heap.size) := RB.kept r_4 hg5 (fun e => by have := hrow5 _ e.symm; omega); have n_5 : NB w5 (w1.heap.size) (.int .i64 15) (.string ⟨#[]⟩) (.int .i64 0) (.int .i64 (pos c.L i)) (.slice (some ⟨w2.heap.size + 1, 0, none⟩) 1 1) := NB.kept n_4 hg5 (fun e => by have := hrow5 _ e.symm; omega); have p5 : PS c w5 j4 d := PS.own p4 HL.out hg5 (fun b hb => by have := hrow5 b hb; omega); have G5 : w.grownBy w5 (some c.pb) := gb_own G4 hg5 (fun b hb => by have := hrow5 b hb; omega); have r_lt5 := r_5.lt; have n_lt5 := n_5.lt; obtain ⟨_,_,_,_,_,_,_,_,_,_,_⟩ := id r_5
         obtain ⟨_,_,_,_,_,_⟩ := id n_5))
    all_goals
      have lz5 : LR w5 (In (b2) w5.heap.size) ([(T.mk k2 n2 m2 q2 l2)] ++ a4) (.slice ad5 (1 + a4.length) cp5) := lr5.bounded.mono (fun k hk => ⟨hk.1.1, hk.2⟩); go_wp2; refine node_ret Tryz.results142 rfl (RB.five ?_) rfl ?_
      · exact RB.put r_5 _ _ _
      refine Steps.ok (a := (T.mk 15 [] 0 (pos c.L i) ((T.mk k2 n2 m2 q2 l2) :: a4))) (HR4) ⟨_, rfl, ?_⟩ ?_ ?_ (by omega)
      · refine LR.wide (lo := b2) (hi := w5.heap.size) (ts := ([(T.mk k2 n2 m2 q2 l2)] ++ a4)) ?_ (by omega) (by first | omega | (simp <;> omega))
        exact LR.p5 (LR.put lz5 (by omega) _ _) (by omega)
      · exact gb_p5 (gb_put G5 (by omega) _ _) (by omega)
      · exact PS.p5 (PS.put p5 HL.out (by omega) _ _) HL.out (by omega)
  have hw2 : (wd c.L j2 == [40]) = false := by simpa [s_lp] using h2
  have HRx4 : assignP c.L E i = _ := HRx2.trans (if_neg h2); go_wp2; refine node_ret Tryz.results142 rfl (RB.five ?_) rfl ?_
  · exact r_3
  refine Steps.ok (a := (T.mk 15 [] 0 (pos c.L i) [(T.mk k2 n2 m2 q2 l2)])) (HRx4) ⟨_, rfl, ?_⟩ ?_ ?_ (by omega)
  · refine LR.wide (lo := b2) (hi := w2.heap.size + 1 + 1) (ts := [(T.mk k2 n2 m2 q2 l2)]) ?_ (by omega) (by first | omega | (simp <;> omega))
    exact LR.p5 z_3 (by omega)
  · exact gb_p5 G3 (by omega)
  · exact PS.p5 p3 HL.out (by omega)
end Go.Proofs.YtbphiiaoncakfaaGreatDoor

/- Acts: while, repeat, return, and those of one word. -/
namespace Go.Proofs.YtbphiiaoncakfaaGreatDoor
open Go.RowKit

abbrev ActsOK (c : PC) (d : Nat) (A : P T) : Prop := PartOK c d 97 A

set_option maxRecDepth 100000 in
set_option maxHeartbeats 1000000 in
theorem pwhileLoop_any (c : PC) (w : World) (i d : Nat) (E A : P T) (h : PS c w i d) (hE : ExprOK c d E) (hA : ActsOK c d A) :
    Calls Tryz.prog 137 #[.pointer (some ⟨c.pb, 0, none⟩)] w (Steps c w i d (fun w' t v => TR w' w.heap.size w'.heap.size t v) (whileP c.L E A i)) := by
  have HP := hide h; have HL := hide h.low; have hb := h.lt; clear h
  go_enter Tryz.func137, Tryz.ntmps137
  go_wp2_with fail; go_at_call 51; refine (pnode_any c _ i d 17 (by exact PS.alloc HP.out _)).mono ?_; rintro e w1 ⟨rfl, hg1⟩; have p1 : PS c w1 i d := PS.kept (by exact PS.alloc HP.out _) hg1; have G1 : w.grownBy w1 (some c.pb) := gb_trans (by exact gb_alloc (gb_refl w (some c.pb)) _) (gb_some hg1 (some c.pb)); have s1 := hg1.size
  try simp at s1
  have r_1 : RB w1 (w.heap.size) := RB.kept (RB.new' (by simp)) hg1 (by simp); have r_lt1 := r_1.lt; obtain ⟨_,_,_,_,_,_,_,_,_,_,_⟩ := id r_1; go_wp2_with fail; go_at_call 52; refine (pwant_any c _ i d kWHILE _ rfl (by decide) (by exact PS.alloc p1 _)).mono ?_; rintro e w2 (⟨x2, hr2, ht2, hg2⟩ | ⟨a2, j2, v2, hr2, rfl, -, hg2, p2, hi2⟩)
  · have HT := ht2
    obtain ⟨q, rfl, -⟩ := ht2
    exact ⟨rfl, Steps.err (P.bind_err hr2) HT (by exact gb_alloc G1 _) hg2⟩
  have HR2 : whileP c.L E A i = _ := P.bind_ok hr2; have G2 : w.grownBy w2 (some c.pb) := gb_trans (by exact gb_alloc G1 _) hg2; have s2 := hg2.size
  try simp at s2
  have r_2 : RB w2 (w.heap.size) := RB.keep (by exact RB.alloc r_1 _) hg2 (by omega); have n_2 : NB w2 (w1.heap.size) (.int .i64 17) (.string ⟨#[]⟩) (.int .i64 0) (.int .i64 (pos c.L i)) (.slice none 0 0) := NB.keep (NB.new' (by simp)) hg2 (by omega); have r_lt2 := r_2.lt; have n_lt2 := n_2.lt; obtain ⟨_,_,_,_,_,_,_,_,_,_,_⟩ := id r_2; obtain ⟨_,_,_,_,_,_⟩ := id n_2; go_wp2_with fail; go_at_call 93; refine (hE.call _ j2 p2 trivial).mono ?_; rintro e w3 (⟨x3, hr3, ht3, hg3⟩ | ⟨⟨k3, n3, m3, q3, l3⟩, j3, v3, hr3, rfl, ⟨sv3, rfl, lr3⟩, hg3, p3, hi3⟩)
  · have HT := ht3
    obtain ⟨q, rfl, -⟩ := ht3
    exact ⟨rfl, Steps.err (HR2.trans (P.bind_err hr3)) HT G2 hg3⟩
  have HR3 : whileP c.L E A i = _ := HR2.trans (P.bind_ok hr3); simp only [T.kind, T.name, T.num, T.at', T.subs] at lr3 ⊢; obtain ⟨ad3, cp3, rfl⟩ := lr3.form; obtain ⟨b3, hb3, lr3⟩ : ∃ b, b = _ ∧ LR w3 (In b w3.heap.size) l3 (.slice ad3 l3.length cp3) := ⟨_, rfl, lr3⟩
  try simp at hb3
  have G3 : w.grownBy w3 (some c.pb) := gb_trans G2 hg3; have s3 := hg3.size
  try simp at s3
  have r_3 : RB w3 (w.heap.size) := RB.keep r_2 hg3 (by omega); have n_3 : NB w3 (w1.heap.size) (.int .i64 17) (.string ⟨#[]⟩) (.int .i64 0) (.int .i64 (pos c.L i)) (.slice none 0 0) := NB.keep n_2 hg3 (by omega); have r_lt3 := r_3.lt; have n_lt3 := n_3.lt; obtain ⟨_,_,_,_,_,_,_,_,_,_,_⟩ := id r_3; obtain ⟨_,_,_,_,_,_⟩ := id n_3; go_wp2_with fail; go_at_call 52; refine (pwant_any c _ j3 d kDO _ rfl (by decide) (by exact PS.alloc p3 _)).mono ?_; rintro e w4 (⟨x4, hr4, ht4, hg4⟩ | ⟨a4, j4, v4, hr4, rfl, -, hg4, p4, hi4⟩)
  · have HT := ht4
    obtain ⟨q, rfl, -⟩ := ht4
    exact ⟨rfl, Steps.err (HR3.trans (P.bind_err hr4)) HT (by exact gb_alloc G3 _) hg4⟩
  have HR4 : whileP c.L E A i = _ := HR3.trans (P.bind_ok hr4); have G4 : w.grownBy w4 (some c.pb) := gb_trans (by exact gb_alloc G3 _) hg4; have s4 := hg4.size
  try simp at s4
  have r_4 : RB w4 (w.heap.size) := RB.keep (by exact RB.alloc r_3 _) hg4 (by omega); have n_4 : NB w4 (w1.heap.size) (.int .i64 17) (.string ⟨#[]⟩) (.int .i64 0) (.int .i64 (pos c.L i)) (.slice none 0 0) := NB.keep (by exact NB.alloc n_3 _) hg4 (by omega); have m_4 : NB w4 (w3.heap.size) (.int .i64 k3) (.string ⟨n3.toArray⟩) (.int .i64 m3) (.int .i64 q3) (.slice ad3 l3.length cp3) := NB.keep (NB.new' (by simp)) hg4 (by omega); have t_4 : LR w4 (In (b3) (w3.heap.size)) (l3) (.slice ad3 l3.length cp3) := LR.call (by exact LR.alloc lr3 _) hg4 (by omega); have r_lt4 := r_4.lt; have n_lt4 := n_4.lt; have m_lt4 := m_4.lt; obtain ⟨_,_,_,_,_,_,_,_,_,_,_⟩ := id r_4; obtain ⟨_,_,_,_,_,_⟩ := id n_4; obtain ⟨_,_,_,_,_,_⟩ := id m_4; go_wp2_with fail
  go_region_with (first
    | (go_at_call 97
       refine (hA _ j4 (by exact PS.drew p4)).mono ?_; rintro e w5 (⟨x5, hr5, ht5, hg5⟩ | ⟨⟨k5, n5, m5, q5, l5⟩, j5, v5, hr5, rfl, ⟨sv5, rfl, lr5⟩, hg5, p5, hi5⟩)
       focus
         have HT := ht5; obtain ⟨q, rfl, -⟩ := ht5
         exact ⟨rfl, Steps.err (HR4.trans (P.bind_err hr5)) HT (by exact gb_drew G4) hg5⟩
       have HR5 : whileP c.L E A i = _ := HR4.trans (P.bind_ok hr5); simp only [T.kind, T.name, T.num, T.at', T.subs] at lr5 ⊢; obtain ⟨ad5, cp5, rfl⟩ := lr5.form; obtain ⟨b5, hb5, lr5⟩ : ∃ b, b = _ ∧ LR w5 (In b w5.heap.size) l5 (.slice ad5 l5.length cp5) := ⟨_, rfl, lr5⟩
       try simp at hb5
       have G5 : w.grownBy w5 (some c.pb) := gb_trans (by exact gb_drew G4) hg5; have s5 := hg5.size
       try simp at s5
       have r_5 : RB w5 (w.heap.size) := RB.keep (by exact RB.drew r_4) hg5 (by omega); have n_5 : NB w5 (w1.heap.size) (.int .i64 17) (.string ⟨#[]⟩) (.int .i64 0) (.int .i64 (pos c.L i)) (.slice none 0 0) := NB.keep (by exact NB.drew n_4) hg5 (by omega); have m_5 : NB w5 (w3.heap.size) (.int .i64 k3) (.string ⟨n3.toArray⟩) (.int .i64 m3) (.int .i64 q3) (.slice ad3 l3.length cp3) := NB.keep (by exact NB.drew m_4) hg5 (by omega); have t_5 : LR w5 (In (b3) (w3.heap.size)) (l3) (.slice ad3 l3.length cp3) := LR.call (by exact LR.drew t_4) hg5 (by omega); have r_lt5 := r_5.lt; have n_lt5 := n_5.lt; have m_lt5 := m_5.lt; obtain ⟨_,_,_,_,_,_,_,_,_,_,_⟩ := id r_5; obtain ⟨_,_,_,_,_,_⟩ := id n_5
       obtain ⟨_,_,_,_,_,_⟩ := id m_5))
  all_goals
    go_wp2_with fail; go_at_call 52; refine (pwant_any c _ j5 d kEND _ rfl (by decide) (by exact PS.alloc (PS.put p5 HL.out (by omega) _ _) _)).mono ?_; rintro e w6 (⟨x6, hr6, ht6, hg6⟩ | ⟨a6, j6, v6, hr6, rfl, -, hg6, p6, hi6⟩)
    · have HT := ht6
      obtain ⟨q, rfl, -⟩ := ht6
      exact ⟨rfl, Steps.err (HR5.trans (P.bind_err hr6)) HT (by exact gb_alloc (gb_put G5 (by omega) _ _) _) hg6⟩
    have HR6 : whileP c.L E A i = _ := HR5.trans (P.bind_ok hr6); have G6 : w.grownBy w6 (some c.pb) := gb_trans (by exact gb_alloc (gb_put G5 (by omega) _ _) _) hg6; have s6 := hg6.size
    try simp at s6
    have r_6 : RB w6 (w.heap.size) := RB.keep (by exact RB.alloc (RB.put r_5 _ _ _) _) hg6 (by omega); have n_6 : NB w6 (w1.heap.size) (.int .i64 17) (.string ⟨#[]⟩) (.int .i64 0) (.int .i64 (pos c.L i)) (.slice (some ⟨w5.heap.size, 0, none⟩) 2 2) := NB.keep (by exact NB.alloc (NB.s4 n_5 _) _) hg6 (by omega); have m_6 : NB w6 (w3.heap.size) (.int .i64 k3) (.string ⟨n3.toArray⟩) (.int .i64 m3) (.int .i64 q3) (.slice ad3 l3.length cp3) := NB.keep (by exact NB.alloc (NB.far m_5 (by omega) _ _) _) hg6 (by omega); have t_6 : LR w6 (In (b3) (w3.heap.size)) (l3) (.slice ad3 l3.length cp3) := LR.call (by exact LR.alloc (LR.put t_5 (by omega) _ _) _) hg6 (by omega); have a_6 : LR w6 (In (b5) (w5.heap.size)) (l5) (.slice ad5 l5.length cp5) := LR.call (by exact LR.alloc (LR.put lr5 (by omega) _ _) _) hg6 (by omega); have z_6 : LR w6 (In (b3) (w5.heap.size + 1)) ([(T.mk k3 n3 m3 q3 l3), (T.mk k5 n5 m5 q5 l5)]) (.slice (some ⟨w5.heap.size, 0, none⟩) 2 2) := LR.call (LR.build2 _ (t := (T.mk k3 n3 m3 q3 l3)) (t2 := (T.mk k5 n5 m5 q5 l5)) (sv := .slice ad3 l3.length cp3) (sv2 := .slice ad5 l5.length cp5) (LR.wide (lo := b3) (hi := w3.heap.size) (ts := l3) (by exact LR.put t_5 (by omega) _ _) (by omega) (by first | omega | (simp <;> omega))) (LR.wide (lo := b5) (hi := w5.heap.size) (ts := l5) (by exact LR.put lr5 (by omega) _ _) (by omega) (by first | omega | (simp <;> omega))) (by simp) rfl (by omega)) hg6 (by omega); have r_lt6 := r_6.lt; have n_lt6 := n_6.lt; have m_lt6 := m_6.lt; obtain ⟨_,_,_,_,_,_,_,_,_,_,_⟩ := id r_6; obtain ⟨_,_,_,_,_,_⟩ := id n_6; obtain ⟨_,_,_,_,_,_⟩ := id m_6; go_wp2; refine node_ret Tryz.results137 rfl (RB.five ?_) rfl ?_
    · exact r_6
    refine Steps.ok (a := (T.mk 17 [] 0 (pos c.L i) [(T.mk k3 n3 m3 q3 l3), (T.mk k5 n5 m5 q5 l5)])) (HR6) ⟨_, rfl, ?_⟩ ?_ ?_ (by omega)
    · refine LR.wide (lo := b3) (hi := w5.heap.size + 1) (ts := [(T.mk k3 n3 m3 q3 l3), (T.mk k5 n5 m5 q5 l5)]) ?_ (by omega) (by first | omega | (simp <;> omega))
      exact LR.p5 z_6 (by omega)
    · exact gb_p5 G6 (by omega)
    · exact PS.p5 p6 HL.out (by omega)

set_option maxRecDepth 100000 in
set_option maxHeartbeats 1000000 in
theorem prepeatLoop_any (c : PC) (w : World) (i d : Nat) (E A : P T) (h : PS c w i d) (hE : ExprOK c d E) (hA : ActsOK c d A) :
    Calls Tryz.prog 138 #[.pointer (some ⟨c.pb, 0, none⟩)] w (Steps c w i d (fun w' t v => TR w' w.heap.size w'.heap.size t v) (repeatP c.L E A i)) := by
  have HP := hide h; have HL := hide h.low; have hb := h.lt; clear h
  go_enter Tryz.func138, Tryz.ntmps138
  go_wp2_with fail; go_at_call 51; refine (pnode_any c _ i d 18 (by exact PS.alloc HP.out _)).mono ?_; rintro e w1 ⟨rfl, hg1⟩; have p1 : PS c w1 i d := PS.kept (by exact PS.alloc HP.out _) hg1; have G1 : w.grownBy w1 (some c.pb) := gb_trans (by exact gb_alloc (gb_refl w (some c.pb)) _) (gb_some hg1 (some c.pb)); have s1 := hg1.size
  try simp at s1
  have r_1 : RB w1 (w.heap.size) := RB.kept (RB.new' (by simp)) hg1 (by simp); have r_lt1 := r_1.lt; obtain ⟨_,_,_,_,_,_,_,_,_,_,_⟩ := id r_1; go_wp2_with fail; go_at_call 52; refine (pwant_any c _ i d kREPEAT _ rfl (by decide) (by exact PS.alloc p1 _)).mono ?_; rintro e w2 (⟨x2, hr2, ht2, hg2⟩ | ⟨a2, j2, v2, hr2, rfl, -, hg2, p2, hi2⟩)
  · have HT := ht2
    obtain ⟨q, rfl, -⟩ := ht2
    exact ⟨rfl, Steps.err (P.bind_err hr2) HT (by exact gb_alloc G1 _) hg2⟩
  have HR2 : repeatP c.L E A i = _ := P.bind_ok hr2; have G2 : w.grownBy w2 (some c.pb) := gb_trans (by exact gb_alloc G1 _) hg2; have s2 := hg2.size
  try simp at s2
  have r_2 : RB w2 (w.heap.size) := RB.keep (by exact RB.alloc r_1 _) hg2 (by omega); have n_2 : NB w2 (w1.heap.size) (.int .i64 18) (.string ⟨#[]⟩) (.int .i64 0) (.int .i64 (pos c.L i)) (.slice none 0 0) := NB.keep (NB.new' (by simp)) hg2 (by omega); have r_lt2 := r_2.lt; have n_lt2 := n_2.lt; obtain ⟨_,_,_,_,_,_,_,_,_,_,_⟩ := id r_2; obtain ⟨_,_,_,_,_,_⟩ := id n_2; go_wp2_with fail; go_at_call 97; refine (hA _ j2 p2).mono ?_; rintro e w3 (⟨x3, hr3, ht3, hg3⟩ | ⟨⟨k3, n3, m3, q3, l3⟩, j3, v3, hr3, rfl, ⟨sv3, rfl, lr3⟩, hg3, p3, hi3⟩)
  · have HT := ht3
    obtain ⟨q, rfl, -⟩ := ht3
    exact ⟨rfl, Steps.err (HR2.trans (P.bind_err hr3)) HT G2 hg3⟩
  have HR3 : repeatP c.L E A i = _ := HR2.trans (P.bind_ok hr3); simp only [T.kind, T.name, T.num, T.at', T.subs] at lr3 ⊢; obtain ⟨ad3, cp3, rfl⟩ := lr3.form; obtain ⟨b3, hb3, lr3⟩ : ∃ b, b = _ ∧ LR w3 (In b w3.heap.size) l3 (.slice ad3 l3.length cp3) := ⟨_, rfl, lr3⟩
  try simp at hb3
  have G3 : w.grownBy w3 (some c.pb) := gb_trans G2 hg3; have s3 := hg3.size
  try simp at s3
  have r_3 : RB w3 (w.heap.size) := RB.keep r_2 hg3 (by omega); have n_3 : NB w3 (w1.heap.size) (.int .i64 18) (.string ⟨#[]⟩) (.int .i64 0) (.int .i64 (pos c.L i)) (.slice none 0 0) := NB.keep n_2 hg3 (by omega); have r_lt3 := r_3.lt; have n_lt3 := n_3.lt; obtain ⟨_,_,_,_,_,_,_,_,_,_,_⟩ := id r_3; obtain ⟨_,_,_,_,_,_⟩ := id n_3; go_wp2_with fail; go_at_call 52; refine (pwant_any c _ j3 d kUNTIL _ rfl (by decide) (by exact PS.alloc p3 _)).mono ?_; rintro e w4 (⟨x4, hr4, ht4, hg4⟩ | ⟨a4, j4, v4, hr4, rfl, -, hg4, p4, hi4⟩)
  · have HT := ht4
    obtain ⟨q, rfl, -⟩ := ht4
    exact ⟨rfl, Steps.err (HR3.trans (P.bind_err hr4)) HT (by exact gb_alloc G3 _) hg4⟩
  have HR4 : repeatP c.L E A i = _ := HR3.trans (P.bind_ok hr4); have G4 : w.grownBy w4 (some c.pb) := gb_trans (by exact gb_alloc G3 _) hg4; have s4 := hg4.size
  try simp at s4
  have r_4 : RB w4 (w.heap.size) := RB.keep (by exact RB.alloc r_3 _) hg4 (by omega); have n_4 : NB w4 (w1.heap.size) (.int .i64 18) (.string ⟨#[]⟩) (.int .i64 0) (.int .i64 (pos c.L i)) (.slice none 0 0) := NB.keep (by exact NB.alloc n_3 _) hg4 (by omega); have m_4 : NB w4 (w3.heap.size) (.int .i64 k3) (.string ⟨n3.toArray⟩) (.int .i64 m3) (.int .i64 q3) (.slice ad3 l3.length cp3) := NB.keep (NB.new' (by simp)) hg4 (by omega); have t_4 : LR w4 (In (b3) (w3.heap.size)) (l3) (.slice ad3 l3.length cp3) := LR.call (by exact LR.alloc lr3 _) hg4 (by omega); have r_lt4 := r_4.lt; have n_lt4 := n_4.lt; have m_lt4 := m_4.lt; obtain ⟨_,_,_,_,_,_,_,_,_,_,_⟩ := id r_4; obtain ⟨_,_,_,_,_,_⟩ := id n_4; obtain ⟨_,_,_,_,_,_⟩ := id m_4; go_wp2_with fail
  go_region_with (first
    | (go_at_call 93
       refine (hE.call _ j4 (by exact PS.drew p4) trivial).mono ?_; rintro e w5 (⟨x5, hr5, ht5, hg5⟩ | ⟨⟨k5, n5, m5, q5, l5⟩, j5, v5, hr5, rfl, ⟨sv5, rfl, lr5⟩, hg5, p5, hi5⟩)
       focus
         have HT := ht5; obtain ⟨q, rfl, -⟩ := ht5
         exact ⟨rfl, Steps.err (HR4.trans (P.bind_err hr5)) HT (by exact gb_drew G4) hg5⟩
       have HR5 : repeatP c.L E A i = _ := HR4.trans (P.bind_ok hr5); simp only [T.kind, T.name, T.num, T.at', T.subs] at lr5 ⊢; obtain ⟨ad5, cp5, rfl⟩ := lr5.form; obtain ⟨b5, hb5, lr5⟩ : ∃ b, b = _ ∧ LR w5 (In b w5.heap.size) l5 (.slice ad5 l5.length cp5) := ⟨_, rfl, lr5⟩
       try simp at hb5
       have G5 : w.grownBy w5 (some c.pb) := gb_trans (by exact gb_drew G4) hg5; have s5 := hg5.size
       try simp at s5
       have r_5 : RB w5 (w.heap.size) := RB.keep (by exact RB.drew r_4) hg5 (by omega); have n_5 : NB w5 (w1.heap.size) (.int .i64 18) (.string ⟨#[]⟩) (.int .i64 0) (.int .i64 (pos c.L i)) (.slice none 0 0) := NB.keep (by exact NB.drew n_4) hg5 (by omega); have m_5 : NB w5 (w3.heap.size) (.int .i64 k3) (.string ⟨n3.toArray⟩) (.int .i64 m3) (.int .i64 q3) (.slice ad3 l3.length cp3) := NB.keep (by exact NB.drew m_4) hg5 (by omega); have t_5 : LR w5 (In (b3) (w3.heap.size)) (l3) (.slice ad3 l3.length cp3) := LR.call (by exact LR.drew t_4) hg5 (by omega); have r_lt5 := r_5.lt; have n_lt5 := n_5.lt; have m_lt5 := m_5.lt; obtain ⟨_,_,_,_,_,_,_,_,_,_,_⟩ := id r_5; obtain ⟨_,_,_,_,_,_⟩ := id n_5
       obtain ⟨_,_,_,_,_,_⟩ := id m_5))
  all_goals
    go_wp2; refine node_ret Tryz.results138 rfl (NB.alloc (RB.five ?_) _) rfl ?_
    · exact RB.put r_5 _ _ _
    refine Steps.ok (a := (T.mk 18 [] 0 (pos c.L i) [(T.mk k3 n3 m3 q3 l3), (T.mk k5 n5 m5 q5 l5)])) (HR5) ⟨_, rfl, ?_⟩ ?_ ?_ (by omega)
    · refine LR.wide (lo := b3) (hi := w5.heap.size + 1) (ts := [(T.mk k3 n3 m3 q3 l3), (T.mk k5 n5 m5 q5 l5)]) ?_ (by omega) (by first | omega | (simp <;> omega))
      exact (LR.build2 _ (t := (T.mk k3 n3 m3 q3 l3)) (t2 := (T.mk k5 n5 m5 q5 l5)) (sv := .slice ad3 l3.length cp3) (sv2 := .slice ad5 l5.length cp5) (LR.wide (lo := b3) (hi := w3.heap.size) (ts := l3) (by exact LR.p5 (LR.put t_5 (by omega) _ _) (by omega)) (by omega) (by first | omega | (simp <;> omega))) (LR.wide (lo := b5) (hi := w5.heap.size) (ts := l5) (by exact LR.p5 (LR.put lr5 (by omega) _ _) (by omega)) (by omega) (by first | omega | (simp <;> omega))) (by simp) rfl (by omega))
    · exact gb_alloc (gb_p5 (gb_put G5 (by omega) _ _) (by omega)) _
    · exact PS.alloc (PS.p5 (PS.put p5 HL.out (by omega) _ _) HL.out (by omega)) _

set_option maxRecDepth 100000 in
set_option maxHeartbeats 1000000 in
theorem preturning_any (c : PC) (w : World) (i d : Nat) (E : P T) (h : PS c w i d) (hE : ExprOK c d E) :
    Calls Tryz.prog 139 #[.pointer (some ⟨c.pb, 0, none⟩)] w (Steps c w i d (fun w' t v => TR w' w.heap.size w'.heap.size t v) (returnP c.L E i)) := by
  have HP := hide h; have HL := hide h.low; have hb := h.lt; clear h
  go_enter Tryz.func139, Tryz.ntmps139
  go_wp2_with fail; go_at_call 51; refine (pnode_any c _ i d 19 (by exact PS.alloc HP.out _)).mono ?_; rintro e w1 ⟨rfl, hg1⟩; have p1 : PS c w1 i d := PS.kept (by exact PS.alloc HP.out _) hg1; have G1 : w.grownBy w1 (some c.pb) := gb_trans (by exact gb_alloc (gb_refl w (some c.pb)) _) (gb_some hg1 (some c.pb)); have s1 := hg1.size
  try simp at s1
  have r_1 : RB w1 (w.heap.size) := RB.kept (RB.new' (by simp)) hg1 (by simp); have r_lt1 := r_1.lt; obtain ⟨_,_,_,_,_,_,_,_,_,_,_⟩ := id r_1; go_wp2_with fail; go_at_call 52; refine (pwant_any c _ i d kRETURN _ rfl (by decide) (by exact PS.alloc p1 _)).mono ?_; rintro e w2 (⟨x2, hr2, ht2, hg2⟩ | ⟨a2, j2, v2, hr2, rfl, -, hg2, p2, hi2⟩)
  · have HT := ht2
    obtain ⟨q, rfl, -⟩ := ht2
    exact ⟨rfl, Steps.err (P.bind_err hr2) HT (by exact gb_alloc G1 _) hg2⟩
  have HR2 : returnP c.L E i = _ := P.bind_ok hr2; have G2 : w.grownBy w2 (some c.pb) := gb_trans (by exact gb_alloc G1 _) hg2; have s2 := hg2.size
  try simp at s2
  have r_2 : RB w2 (w.heap.size) := RB.keep (by exact RB.alloc r_1 _) hg2 (by omega); have n_2 : NB w2 (w1.heap.size) (.int .i64 19) (.string ⟨#[]⟩) (.int .i64 0) (.int .i64 (pos c.L i)) (.slice none 0 0) := NB.keep (NB.new' (by simp)) hg2 (by omega); have r_lt2 := r_2.lt; have n_lt2 := n_2.lt; obtain ⟨_,_,_,_,_,_,_,_,_,_,_⟩ := id r_2; obtain ⟨_,_,_,_,_,_⟩ := id n_2; go_wp2_with fail; go_at_call 129; refine (pnothingIsNext_any c _ j2 d p2).mono ?_; rintro e w3 ⟨rfl, hg3⟩; have p3 : PS c w3 j2 d := PS.kept p2 hg3; have G3 : w.grownBy w3 (some c.pb) := gb_trans G2 (gb_some hg3 (some c.pb)); have s3 := hg3.size
  try simp at s3
  have r_3 : RB w3 (w.heap.size) := RB.kept r_2 hg3 (by simp); have n_3 : NB w3 (w1.heap.size) (.int .i64 19) (.string ⟨#[]⟩) (.int .i64 0) (.int .i64 (pos c.L i)) (.slice none 0 0) := NB.kept n_2 hg3 (by simp); have r_lt3 := r_3.lt; have n_lt3 := n_3.lt; obtain ⟨_,_,_,_,_,_,_,_,_,_,_⟩ := id r_3; obtain ⟨_,_,_,_,_,_⟩ := id n_3; cases hnt : nothingB (wd c.L j2)
  · have HRx1 : returnP c.L E i = _ := HR2.trans (if_neg (by rw [hnt]; decide))
    go_wp2_with fail; go_at_call 93; refine (hE.call _ j2 p3 trivial).mono ?_; rintro e w4 (⟨x4, hr4, ht4, hg4⟩ | ⟨⟨k4, n4, m4, q4, l4⟩, j4, v4, hr4, rfl, ⟨sv4, rfl, lr4⟩, hg4, p4, hi4⟩)
    · have HT := ht4
      obtain ⟨q, rfl, -⟩ := ht4
      exact ⟨rfl, Steps.err (HRx1.trans (P.bind_err hr4)) HT G3 hg4⟩
    have HR4 : returnP c.L E i = _ := HRx1.trans (P.bind_ok hr4); simp only [T.kind, T.name, T.num, T.at', T.subs] at lr4 ⊢; obtain ⟨ad4, cp4, rfl⟩ := lr4.form; obtain ⟨b4, hb4, lr4⟩ : ∃ b, b = _ ∧ LR w4 (In b w4.heap.size) l4 (.slice ad4 l4.length cp4) := ⟨_, rfl, lr4⟩
    try simp at hb4
    have G4 : w.grownBy w4 (some c.pb) := gb_trans G3 hg4; have s4 := hg4.size
    try simp at s4
    have r_4 : RB w4 (w.heap.size) := RB.keep r_3 hg4 (by omega); have n_4 : NB w4 (w1.heap.size) (.int .i64 19) (.string ⟨#[]⟩) (.int .i64 0) (.int .i64 (pos c.L i)) (.slice none 0 0) := NB.keep n_3 hg4 (by omega); have r_lt4 := r_4.lt; have n_lt4 := n_4.lt; obtain ⟨_,_,_,_,_,_,_,_,_,_,_⟩ := id r_4; obtain ⟨_,_,_,_,_,_⟩ := id n_4; go_wp2; refine node_ret Tryz.results139 rfl (NB.alloc (RB.five ?_) _) rfl ?_
    · exact RB.put r_4 _ _ _
    refine Steps.ok (a := (T.mk 19 [] 0 (pos c.L i) [(T.mk k4 n4 m4 q4 l4)])) (HR4) ⟨_, rfl, ?_⟩ ?_ ?_ (by omega)
    · refine LR.wide (lo := b4) (hi := w4.heap.size + 1) (ts := [(T.mk k4 n4 m4 q4 l4)]) ?_ (by omega) (by first | omega | (simp <;> omega))
      exact (LR.build1 _ (t := (T.mk k4 n4 m4 q4 l4)) (sv := .slice ad4 l4.length cp4) (LR.wide (lo := b4) (hi := w4.heap.size) (ts := l4) (by exact LR.p5 (LR.put lr4 (by omega) _ _) (by omega)) (by omega) (by first | omega | (simp <;> omega))) (by simp) rfl (by omega))
    · exact gb_alloc (gb_p5 (gb_put G4 (by omega) _ _) (by omega)) _
    · exact PS.alloc (PS.p5 (PS.put p4 HL.out (by omega) _ _) HL.out (by omega)) _
  · have HRx2 : returnP c.L E i = _ := HR2.trans (if_pos hnt)
    go_wp2; refine node_ret Tryz.results139 rfl (RB.five ?_) rfl ?_
    · exact r_3
    refine Steps.ok (a := (T.mk 19 [] 0 (pos c.L i) [])) (HRx2) ⟨_, rfl, ?_⟩ ?_ ?_ (by omega)
    · exact LR.nil _ _
    · exact gb_p5 G3 (by omega)
    · exact PS.p5 p3 HL.out (by omega)

set_option maxRecDepth 100000 in
set_option maxHeartbeats 1000000 in
theorem pbuiltIn_any (c : PC) (w : World) (i d : Nat) (kind : Int) (k : List UInt8) (g : Nat) (p : P T) (h : PS c w i d) (hk : wd c.L i = k) (hk0 : k ≠ []) (hp : Part c d (fun _ => True) g #[.pointer (some ⟨c.pb, 0, none⟩)] p) :
    Calls Tryz.prog 140 #[.pointer (some ⟨c.pb, 0, none⟩), .int .i64 kind, .func (.func g) #[.pointer (some ⟨c.pb, 0, none⟩)] #[]] w (Steps c w i d (fun w' t v => TR w' w.heap.size w'.heap.size t v) (builtInP c.L kind k p i)) := by
  have HP := hide h; have HL := hide h.low; have hb := h.lt; have hent := hp.ent; clear h
  go_enter Tryz.func140, Tryz.ntmps140
  go_wp2_with fail; go_at_call 51; refine (pnode_any c _ i d kind (by exact PS.alloc HP.out _)).mono ?_; rintro e w1 ⟨rfl, hg1⟩; have p1 : PS c w1 i d := PS.kept (by exact PS.alloc HP.out _) hg1; have G1 : w.grownBy w1 (some c.pb) := gb_trans (by exact gb_alloc (gb_refl w (some c.pb)) _) (gb_some hg1 (some c.pb)); have s1 := hg1.size
  try simp at s1
  have r_1 : RB w1 (w.heap.size) := RB.kept (RB.new' (by simp)) hg1 (by simp); have r_lt1 := r_1.lt; obtain ⟨_,_,_,_,_,_,_,_,_,_,_⟩ := id r_1; go_wp2_with fail; go_at_call 87; refine (ptake_any c _ i d (by exact PS.alloc p1 _) (by rw [hk]; exact hk0)).mono ?_; rintro e w2 ⟨rfl, hg2, p2⟩; have G2 : w.grownBy w2 (some c.pb) := gb_trans (by exact gb_alloc G1 _) hg2; have s2 := hg2.size
  try simp at s2
  have r_2 : RB w2 (w.heap.size) := RB.keep (by exact RB.alloc r_1 _) hg2 (by omega); have n_2 : NB w2 (w1.heap.size) (.int .i64 kind) (.string ⟨#[]⟩) (.int .i64 0) (.int .i64 (pos c.L i)) (.slice none 0 0) := NB.keep (NB.new' (by simp)) hg2 (by omega); have r_lt2 := r_2.lt; have n_lt2 := n_2.lt; obtain ⟨_,_,_,_,_,_,_,_,_,_,_⟩ := id r_2; obtain ⟨_,_,_,_,_,_⟩ := id n_2; have HRx1 : builtInP c.L kind k p i = _ := P.bind_ok (a := ()) (j := i + 1) (by unfold wantP; rw [if_pos hk]); go_wp2_with fail; go_at_call 52; refine (pwant_any c _ (i + 1) d s_lp _ rfl (by decide) p2).mono ?_; rintro e w3 (⟨x3, hr3, ht3, hg3⟩ | ⟨a3, j3, v3, hr3, rfl, -, hg3, p3, hi3⟩)
  · have HT := ht3
    obtain ⟨q, rfl, -⟩ := ht3
    exact ⟨rfl, Steps.err (HRx1.trans (P.bind_err hr3)) HT G2 hg3⟩
  have HR3 : builtInP c.L kind k p i = _ := HRx1.trans (P.bind_ok hr3); have G3 : w.grownBy w3 (some c.pb) := gb_trans G2 hg3; have s3 := hg3.size
  try simp at s3
  have r_3 : RB w3 (w.heap.size) := RB.keep r_2 hg3 (by omega); have n_3 : NB w3 (w1.heap.size) (.int .i64 kind) (.string ⟨#[]⟩) (.int .i64 0) (.int .i64 (pos c.L i)) (.slice none 0 0) := NB.keep n_2 hg3 (by omega); have r_lt3 := r_3.lt; have n_lt3 := n_3.lt; obtain ⟨_,_,_,_,_,_,_,_,_,_,_⟩ := id r_3; obtain ⟨_,_,_,_,_,_⟩ := id n_3; go_wp2_with fail; refine (hp.call _ j3 p3 trivial).mono ?_; rintro e w4 (⟨x4, hr4, ht4, hg4⟩ | ⟨⟨k4, n4, m4, q4, l4⟩, j4, v4, hr4, rfl, ⟨sv4, rfl, lr4⟩, hg4, p4, hi4⟩)
  · have HT := ht4
    obtain ⟨q, rfl, -⟩ := ht4
    exact ⟨rfl, Steps.err (HR3.trans (P.bind_err hr4)) HT G3 hg4⟩
  have HR4 : builtInP c.L kind k p i = _ := HR3.trans (P.bind_ok hr4); simp only [T.kind, T.name, T.num, T.at', T.subs] at lr4 ⊢; obtain ⟨ad4, cp4, rfl⟩ := lr4.form; obtain ⟨b4, hb4, lr4⟩ : ∃ b, b = _ ∧ LR w4 (In b w4.heap.size) l4 (.slice ad4 l4.length cp4) := ⟨_, rfl, lr4⟩
  try simp at hb4
  have G4 : w.grownBy w4 (some c.pb) := gb_trans G3 hg4; have s4 := hg4.size
  try simp at s4
  have r_4 : RB w4 (w.heap.size) := RB.keep r_3 hg4 (by omega); have n_4 : NB w4 (w1.heap.size) (.int .i64 kind) (.string ⟨#[]⟩) (.int .i64 0) (.int .i64 (pos c.L i)) (.slice none 0 0) := NB.keep n_3 hg4 (by omega); have r_lt4 := r_4.lt; have n_lt4 := n_4.lt; obtain ⟨_,_,_,_,_,_,_,_,_,_,_⟩ := id r_4; obtain ⟨_,_,_,_,_,_⟩ := id n_4; go_wp2_with fail; go_at_call 52; refine (pwant_any c _ j4 d s_rp _ rfl (by decide) (by exact PS.alloc (PS.put p4 HL.out (by omega) _ _) _)).mono ?_; rintro e w5 (⟨x5, hr5, ht5, hg5⟩ | ⟨a5, j5, v5, hr5, rfl, -, hg5, p5, hi5⟩)
  · have HT := ht5
    obtain ⟨q, rfl, -⟩ := ht5
    exact ⟨rfl, Steps.err (HR4.trans (P.bind_err hr5)) HT (by exact gb_alloc (gb_put G4 (by omega) _ _) _) hg5⟩
  have HR5 : builtInP c.L kind k p i = _ := HR4.trans (P.bind_ok hr5); have G5 : w.grownBy w5 (some c.pb) := gb_trans (by exact gb_alloc (gb_put G4 (by omega) _ _) _) hg5; have s5 := hg5.size
  try simp at s5
  have r_5 : RB w5 (w.heap.size) := RB.keep (by exact RB.alloc (RB.put r_4 _ _ _) _) hg5 (by omega); have n_5 : NB w5 (w1.heap.size) (.int .i64 kind) (.string ⟨#[]⟩) (.int .i64 0) (.int .i64 (pos c.L i)) (.slice (some ⟨w4.heap.size, 0, none⟩) 1 1) := NB.keep (by exact NB.alloc (NB.s4 n_4 _) _) hg5 (by omega); have t_5 : LR w5 (In (b4) (w4.heap.size)) (l4) (.slice ad4 l4.length cp4) := LR.call (by exact LR.alloc (LR.put lr4 (by omega) _ _) _) hg5 (by omega); have z_5 : LR w5 (In (b4) (w4.heap.size + 1)) ([(T.mk k4 n4 m4 q4 l4)]) (.slice (some ⟨w4.heap.size, 0, none⟩) 1 1) := LR.call (LR.build1 _ (t := (T.mk k4 n4 m4 q4 l4)) (sv := .slice ad4 l4.length cp4) (LR.wide (lo := b4) (hi := w4.heap.size) (ts := l4) (by exact LR.put lr4 (by omega) _ _) (by omega) (by first | omega | (simp <;> omega))) (by simp) rfl (by omega)) hg5 (by omega); have r_lt5 := r_5.lt; have n_lt5 := n_5.lt; obtain ⟨_,_,_,_,_,_,_,_,_,_,_⟩ := id r_5; obtain ⟨_,_,_,_,_,_⟩ := id n_5; go_wp2; refine node_ret Tryz.results140 rfl (RB.five ?_) rfl ?_
  · exact r_5
  refine Steps.ok (a := (T.mk kind [] 0 (pos c.L i) [(T.mk k4 n4 m4 q4 l4)])) (HR5) ⟨_, rfl, ?_⟩ ?_ ?_ (by omega)
  · refine LR.wide (lo := b4) (hi := w4.heap.size + 1) (ts := [(T.mk k4 n4 m4 q4 l4)]) ?_ (by omega) (by first | omega | (simp <;> omega))
    exact LR.p5 z_5 (by omega)
  · exact gb_p5 G5 (by omega)
  · exact PS.p5 p5 HL.out (by omega)

set_option maxRecDepth 100000 in
set_option maxHeartbeats 1000000 in
theorem pbranch_any (c : PC) (w : World) (i d : Nat) (E A : P T) (h : PS c w i d) (hE : ExprOK c d E) (hA : ActsOK c d A) :
    Calls Tryz.prog 145 #[.pointer (some ⟨c.pb, 0, none⟩)] w (Steps c w i d (fun w' ts v => LR w' (In w.heap.size w'.heap.size) ts v ∧ ts.length ≤ 2) (branchP c.L E A i)) := by
  have HP := hide h; have HL := hide h.low; have hb := h.lt; clear h
  go_enter Tryz.func145, Tryz.ntmps145
  go_wp2_with fail; go_at_call 93; refine (hE.call _ i HP.out trivial).mono ?_; rintro e w1 (⟨x1, hr1, ht1, hg1⟩ | ⟨⟨k1, n1, m1, q1, l1⟩, j1, v1, hr1, rfl, ⟨sv1, rfl, lr1⟩, hg1, p1, hi1⟩)
  · have HT := ht1
    obtain ⟨q, rfl, -⟩ := ht1
    exact ⟨rfl, Steps.err (P.bind_err hr1) HT (gb_refl w (some c.pb)) hg1⟩
  have HR1 : branchP c.L E A i = _ := P.bind_ok hr1; simp only [T.kind, T.name, T.num, T.at', T.subs] at lr1 ⊢; obtain ⟨ad1, cp1, rfl⟩ := lr1.form; obtain ⟨b1, hb1, lr1⟩ : ∃ b, b = _ ∧ LR w1 (In b w1.heap.size) l1 (.slice ad1 l1.length cp1) := ⟨_, rfl, lr1⟩
  try simp at hb1
  have G1 : w.grownBy w1 (some c.pb) := gb_trans (gb_refl w (some c.pb)) hg1; have s1 := hg1.size
  try simp at s1
  go_wp2_with fail; go_at_call 52; refine (pwant_any c _ j1 d kTHEN _ rfl (by decide) (by exact PS.alloc p1 _)).mono ?_; rintro e w2 (⟨x2, hr2, ht2, hg2⟩ | ⟨a2, j2, v2, hr2, rfl, -, hg2, p2, hi2⟩)
  · have HT := ht2
    obtain ⟨q, rfl, -⟩ := ht2
    exact ⟨rfl, Steps.err (HR1.trans (P.bind_err hr2)) HT (by exact gb_alloc G1 _) hg2⟩
  have HR2 : branchP c.L E A i = _ := HR1.trans (P.bind_ok hr2); have G2 : w.grownBy w2 (some c.pb) := gb_trans (by exact gb_alloc G1 _) hg2; have s2 := hg2.size
  try simp at s2
  have m_2 : NB w2 (w1.heap.size) (.int .i64 k1) (.string ⟨n1.toArray⟩) (.int .i64 m1) (.int .i64 q1) (.slice ad1 l1.length cp1) := NB.keep (NB.new' (by simp)) hg2 (by omega); have t_2 : LR w2 (In (b1) (w1.heap.size)) (l1) (.slice ad1 l1.length cp1) := LR.call (by exact LR.alloc lr1 _) hg2 (by omega); have m_lt2 := m_2.lt; obtain ⟨_,_,_,_,_,_⟩ := id m_2; go_wp2_with fail
  go_region_with (first
    | (go_at_call 97
       refine (hA _ j2 (by exact PS.drew p2)).mono ?_; rintro e w3 (⟨x3, hr3, ht3, hg3⟩ | ⟨⟨k3, n3, m3, q3, l3⟩, j3, v3, hr3, rfl, ⟨sv3, rfl, lr3⟩, hg3, p3, hi3⟩)
       focus
         have HT := ht3; obtain ⟨q, rfl, -⟩ := ht3
         exact ⟨rfl, Steps.err (HR2.trans (P.bind_err hr3)) HT (by exact gb_drew G2) hg3⟩
       have HR3 : branchP c.L E A i = _ := HR2.trans (P.bind_ok hr3); simp only [T.kind, T.name, T.num, T.at', T.subs] at lr3 ⊢; obtain ⟨ad3, cp3, rfl⟩ := lr3.form; obtain ⟨b3, hb3, lr3⟩ : ∃ b, b = _ ∧ LR w3 (In b w3.heap.size) l3 (.slice ad3 l3.length cp3) := ⟨_, rfl, lr3⟩
       try simp at hb3
       have G3 : w.grownBy w3 (some c.pb) := gb_trans (by exact gb_drew G2) hg3; have s3 := hg3.size
       try simp at s3
       have m_3 : NB w3 (w1.heap.size) (.int .i64 k1) (.string ⟨n1.toArray⟩) (.int .i64 m1) (.int .i64 q1) (.slice ad1 l1.length cp1) := NB.keep (by exact NB.drew m_2) hg3 (by omega); have t_3 : LR w3 (In (b1) (w1.heap.size)) (l1) (.slice ad1 l1.length cp1) := LR.call (by exact LR.drew t_2) hg3 (by omega); have m_lt3 := m_3.lt
       obtain ⟨_,_,_,_,_,_⟩ := id m_3))
  all_goals
    go_wp2
    go_ret
    refine Steps.ok (a := [(T.mk k1 n1 m1 q1 l1), (T.mk k3 n3 m3 q3 l3)]) (HR3) ⟨?_, by simp⟩ (by exact gb_alloc G3 _) (by exact PS.alloc p3 _) (by omega); refine LR.wide (lo := b1) (hi := w3.heap.size + 1) (ts := [(T.mk k1 n1 m1 q1 l1), (T.mk k3 n3 m3 q3 l3)]) ?_ (by omega) (by first | omega | (simp <;> omega))
    exact (LR.build2 _ (t := (T.mk k1 n1 m1 q1 l1)) (t2 := (T.mk k3 n3 m3 q3 l3)) (sv := .slice ad1 l1.length cp1) (sv2 := .slice ad3 l3.length cp3) (LR.wide (lo := b1) (hi := w1.heap.size) (ts := l1) t_3 (by omega) (by first | omega | (simp <;> omega))) (LR.wide (lo := b3) (hi := w3.heap.size) (ts := l3) lr3 (by omega) (by first | omega | (simp <;> omega))) (by simp) rfl (by omega))
end Go.Proofs.YtbphiiaoncakfaaGreatDoor

/- An act, by its first word; acts, level by level. -/
namespace Go.Proofs.YtbphiiaoncakfaaGreatDoor
open Go.RowKit

set_option maxRecDepth 100000 in
set_option maxHeartbeats 2000000 in
theorem pact_any (c : PC) (w : World) (i d : Nat) (E A : P T) (h : PS c w i d) (hE : ExprOK c d E) (hA : ActsOK c d A) (hC : PartOK c d 136 (choiceP c.L E A)) :
    Calls Tryz.prog 130 #[.pointer (some ⟨c.pb, 0, none⟩)] w (Steps c w i d (fun w' t v => TR w' w.heap.size w'.heap.size t v) (actP c.L E A i)) := by
  have HP := hide h; have HL := hide h.low; have hb := h.lt; clear h; have hD : Part c d (fun _ => True) 141 #[.pointer (some ⟨c.pb, 0, none⟩)] (designatorP c.L E) := ⟨fun w i h _ => pdesignator_any c w i d E h hE, fun _ _ _ _ => trivial, enters_of Tryz.func141 (by kernel_rfl) rfl⟩
  go_enter Tryz.func130, Tryz.ntmps130
  go_wp2_with fail; go_at_call 38; refine (pwordq_any c _ i d (by exact PS.alloc HP.out _)).mono ?_; rintro e w1 ⟨rfl, hg1⟩; have p1 : PS c w1 i d := PS.kept (by exact PS.alloc HP.out _) hg1; have G1 : w.grownBy w1 (some c.pb) := gb_trans (by exact gb_alloc (gb_refl w (some c.pb)) _) (gb_some hg1 (some c.pb)); have s1 := hg1.size
  try simp at s1
  have r_1 : RB w1 (w.heap.size) := RB.kept (RB.new' (by simp)) hg1 (by simp); have r_lt1 := r_1.lt; obtain ⟨_,_,_,_,_,_,_,_,_,_,_⟩ := id r_1
  by_cases h1 : wd c.L i = kIF
  · have hw1 : (wd c.L i == [73, 70]) = true := by rw [h1]; decide
    have HRx1 : actP c.L E A i = choiceP c.L E A i := by unfold actP; rw [if_pos h1]
    go_wp2_with fail; go_at_call 136; refine (hC _ i p1).mono ?_; rintro e w2 (⟨x2, hr2, ht2, hg2⟩ | ⟨⟨k2, n2, m2, q2, l2⟩, j2, v2, hr2, rfl, ⟨sv2, rfl, lr2⟩, hg2, p2, hi2⟩)
    · have HT := ht2
      obtain ⟨q, rfl, -⟩ := ht2
      exact ⟨rfl, Steps.err (HRx1.trans hr2) HT G1 hg2⟩
    have HR2 : actP c.L E A i = _ := HRx1.trans hr2; simp only [T.kind, T.name, T.num, T.at', T.subs] at lr2 ⊢; obtain ⟨ad2, cp2, rfl⟩ := lr2.form; obtain ⟨b2, hb2, lr2⟩ : ∃ b, b = _ ∧ LR w2 (In b w2.heap.size) l2 (.slice ad2 l2.length cp2) := ⟨_, rfl, lr2⟩
    try simp at hb2
    have G2 : w.grownBy w2 (some c.pb) := gb_trans G1 hg2; have s2 := hg2.size
    try simp at s2
    have r_2 : RB w2 (w.heap.size) := RB.keep r_1 hg2 (by omega); have r_lt2 := r_2.lt; obtain ⟨_,_,_,_,_,_,_,_,_,_,_⟩ := id r_2; go_wp2; refine node_ret Tryz.results130 rfl (RB.five ?_) rfl ?_
    · exact r_2
    refine Steps.ok (a := (T.mk k2 n2 m2 q2 l2)) (HR2) ⟨_, rfl, ?_⟩ ?_ ?_ (by omega)
    · refine LR.wide (lo := b2) (hi := w2.heap.size) (ts := l2) ?_ (by omega) (by first | omega | (simp <;> omega))
      exact LR.p5 lr2 (by omega)
    · exact gb_p5 G2 (by omega)
    · exact PS.p5 p2 HL.out (by omega)
  have hw1 : (wd c.L i == [73, 70]) = false := by simpa [kIF] using h1
  by_cases h2 : wd c.L i = kWHILE
  · have hw2 : (wd c.L i == [87, 72, 73, 76, 69]) = true := by rw [h2]; decide
    have HRx2 : actP c.L E A i = whileP c.L E A i := by unfold actP; rw [if_neg h1, if_pos h2]
    go_wp2_with fail; go_at_call 137; refine (pwhileLoop_any c _ i d E A p1 hE hA).mono ?_; rintro e w2 (⟨x2, hr2, ht2, hg2⟩ | ⟨⟨k2, n2, m2, q2, l2⟩, j2, v2, hr2, rfl, ⟨sv2, rfl, lr2⟩, hg2, p2, hi2⟩)
    · have HT := ht2
      obtain ⟨q, rfl, -⟩ := ht2
      exact ⟨rfl, Steps.err (HRx2.trans hr2) HT G1 hg2⟩
    have HR2 : actP c.L E A i = _ := HRx2.trans hr2; simp only [T.kind, T.name, T.num, T.at', T.subs] at lr2 ⊢; obtain ⟨ad2, cp2, rfl⟩ := lr2.form; obtain ⟨b2, hb2, lr2⟩ : ∃ b, b = _ ∧ LR w2 (In b w2.heap.size) l2 (.slice ad2 l2.length cp2) := ⟨_, rfl, lr2⟩
    try simp at hb2
    have G2 : w.grownBy w2 (some c.pb) := gb_trans G1 hg2; have s2 := hg2.size
    try simp at s2
    have r_2 : RB w2 (w.heap.size) := RB.keep r_1 hg2 (by omega); have r_lt2 := r_2.lt; obtain ⟨_,_,_,_,_,_,_,_,_,_,_⟩ := id r_2; go_wp2; refine node_ret Tryz.results130 rfl (RB.five ?_) rfl ?_
    · exact r_2
    refine Steps.ok (a := (T.mk k2 n2 m2 q2 l2)) (HR2) ⟨_, rfl, ?_⟩ ?_ ?_ (by omega)
    · refine LR.wide (lo := b2) (hi := w2.heap.size) (ts := l2) ?_ (by omega) (by first | omega | (simp <;> omega))
      exact LR.p5 lr2 (by omega)
    · exact gb_p5 G2 (by omega)
    · exact PS.p5 p2 HL.out (by omega)
  have hw2 : (wd c.L i == [87, 72, 73, 76, 69]) = false := by simpa [kWHILE] using h2
  by_cases h3 : wd c.L i = kREPEAT
  · have hw3 : (wd c.L i == [82, 69, 80, 69, 65, 84]) = true := by rw [h3]; decide
    have HRx3 : actP c.L E A i = repeatP c.L E A i := by unfold actP; rw [if_neg h1, if_neg h2, if_pos h3]
    go_wp2_with fail; go_at_call 138; refine (prepeatLoop_any c _ i d E A p1 hE hA).mono ?_; rintro e w2 (⟨x2, hr2, ht2, hg2⟩ | ⟨⟨k2, n2, m2, q2, l2⟩, j2, v2, hr2, rfl, ⟨sv2, rfl, lr2⟩, hg2, p2, hi2⟩)
    · have HT := ht2
      obtain ⟨q, rfl, -⟩ := ht2
      exact ⟨rfl, Steps.err (HRx3.trans hr2) HT G1 hg2⟩
    have HR2 : actP c.L E A i = _ := HRx3.trans hr2; simp only [T.kind, T.name, T.num, T.at', T.subs] at lr2 ⊢; obtain ⟨ad2, cp2, rfl⟩ := lr2.form; obtain ⟨b2, hb2, lr2⟩ : ∃ b, b = _ ∧ LR w2 (In b w2.heap.size) l2 (.slice ad2 l2.length cp2) := ⟨_, rfl, lr2⟩
    try simp at hb2
    have G2 : w.grownBy w2 (some c.pb) := gb_trans G1 hg2; have s2 := hg2.size
    try simp at s2
    have r_2 : RB w2 (w.heap.size) := RB.keep r_1 hg2 (by omega); have r_lt2 := r_2.lt; obtain ⟨_,_,_,_,_,_,_,_,_,_,_⟩ := id r_2; go_wp2; refine node_ret Tryz.results130 rfl (RB.five ?_) rfl ?_
    · exact r_2
    refine Steps.ok (a := (T.mk k2 n2 m2 q2 l2)) (HR2) ⟨_, rfl, ?_⟩ ?_ ?_ (by omega)
    · refine LR.wide (lo := b2) (hi := w2.heap.size) (ts := l2) ?_ (by omega) (by first | omega | (simp <;> omega))
      exact LR.p5 lr2 (by omega)
    · exact gb_p5 G2 (by omega)
    · exact PS.p5 p2 HL.out (by omega)
  have hw3 : (wd c.L i == [82, 69, 80, 69, 65, 84]) = false := by simpa [kREPEAT] using h3
  by_cases h4 : wd c.L i = kRETURN
  · have hw4 : (wd c.L i == [82, 69, 84, 85, 82, 78]) = true := by rw [h4]; decide
    have HRx4 : actP c.L E A i = returnP c.L E i := by unfold actP; rw [if_neg h1, if_neg h2, if_neg h3, if_pos h4]
    go_wp2_with fail; go_at_call 139; refine (preturning_any c _ i d E p1 hE).mono ?_; rintro e w2 (⟨x2, hr2, ht2, hg2⟩ | ⟨⟨k2, n2, m2, q2, l2⟩, j2, v2, hr2, rfl, ⟨sv2, rfl, lr2⟩, hg2, p2, hi2⟩)
    · have HT := ht2
      obtain ⟨q, rfl, -⟩ := ht2
      exact ⟨rfl, Steps.err (HRx4.trans hr2) HT G1 hg2⟩
    have HR2 : actP c.L E A i = _ := HRx4.trans hr2; simp only [T.kind, T.name, T.num, T.at', T.subs] at lr2 ⊢; obtain ⟨ad2, cp2, rfl⟩ := lr2.form; obtain ⟨b2, hb2, lr2⟩ : ∃ b, b = _ ∧ LR w2 (In b w2.heap.size) l2 (.slice ad2 l2.length cp2) := ⟨_, rfl, lr2⟩
    try simp at hb2
    have G2 : w.grownBy w2 (some c.pb) := gb_trans G1 hg2; have s2 := hg2.size
    try simp at s2
    have r_2 : RB w2 (w.heap.size) := RB.keep r_1 hg2 (by omega); have r_lt2 := r_2.lt; obtain ⟨_,_,_,_,_,_,_,_,_,_,_⟩ := id r_2; go_wp2; refine node_ret Tryz.results130 rfl (RB.five ?_) rfl ?_
    · exact r_2
    refine Steps.ok (a := (T.mk k2 n2 m2 q2 l2)) (HR2) ⟨_, rfl, ?_⟩ ?_ ?_ (by omega)
    · refine LR.wide (lo := b2) (hi := w2.heap.size) (ts := l2) ?_ (by omega) (by first | omega | (simp <;> omega))
      exact LR.p5 lr2 (by omega)
    · exact gb_p5 G2 (by omega)
    · exact PS.p5 p2 HL.out (by omega)
  have hw4 : (wd c.L i == [82, 69, 84, 85, 82, 78]) = false := by simpa [kRETURN] using h4
  by_cases h5 : wd c.L i = kNEW
  · have hw5 : (wd c.L i == [78, 69, 87]) = true := by rw [h5]; decide
    have HRx5 : actP c.L E A i = builtInP c.L 20 kNEW (designatorP c.L E) i := by unfold actP; rw [if_neg h1, if_neg h2, if_neg h3, if_neg h4, if_pos h5]
    go_wp2_with fail; go_at_call 140; refine (pbuiltIn_any c _ i d 20 kNEW 141 (designatorP c.L E) p1 h5 (by decide) hD).mono ?_; rintro e w2 (⟨x2, hr2, ht2, hg2⟩ | ⟨⟨k2, n2, m2, q2, l2⟩, j2, v2, hr2, rfl, ⟨sv2, rfl, lr2⟩, hg2, p2, hi2⟩)
    · have HT := ht2
      obtain ⟨q, rfl, -⟩ := ht2
      exact ⟨rfl, Steps.err (HRx5.trans hr2) HT G1 hg2⟩
    have HR2 : actP c.L E A i = _ := HRx5.trans hr2; simp only [T.kind, T.name, T.num, T.at', T.subs] at lr2 ⊢; obtain ⟨ad2, cp2, rfl⟩ := lr2.form; obtain ⟨b2, hb2, lr2⟩ : ∃ b, b = _ ∧ LR w2 (In b w2.heap.size) l2 (.slice ad2 l2.length cp2) := ⟨_, rfl, lr2⟩
    try simp at hb2
    have G2 : w.grownBy w2 (some c.pb) := gb_trans G1 hg2; have s2 := hg2.size
    try simp at s2
    have r_2 : RB w2 (w.heap.size) := RB.keep r_1 hg2 (by omega); have r_lt2 := r_2.lt; obtain ⟨_,_,_,_,_,_,_,_,_,_,_⟩ := id r_2; go_wp2; refine node_ret Tryz.results130 rfl (RB.five ?_) rfl ?_
    · exact r_2
    refine Steps.ok (a := (T.mk k2 n2 m2 q2 l2)) (HR2) ⟨_, rfl, ?_⟩ ?_ ?_ (by omega)
    · refine LR.wide (lo := b2) (hi := w2.heap.size) (ts := l2) ?_ (by omega) (by first | omega | (simp <;> omega))
      exact LR.p5 lr2 (by omega)
    · exact gb_p5 G2 (by omega)
    · exact PS.p5 p2 HL.out (by omega)
  have hw5 : (wd c.L i == [78, 69, 87]) = false := by simpa [kNEW] using h5
  by_cases h6 : wd c.L i = kOUT
  · have hw6 : (wd c.L i == [79, 85, 84]) = true := by rw [h6]; decide
    have HRx6 : actP c.L E A i = builtInP c.L 21 kOUT E i := by unfold actP; rw [if_neg h1, if_neg h2, if_neg h3, if_neg h4, if_neg h5, if_pos h6]
    go_wp2_with fail; go_at_call 140; refine (pbuiltIn_any c _ i d 21 kOUT 93 E p1 h6 (by decide) hE).mono ?_; rintro e w2 (⟨x2, hr2, ht2, hg2⟩ | ⟨⟨k2, n2, m2, q2, l2⟩, j2, v2, hr2, rfl, ⟨sv2, rfl, lr2⟩, hg2, p2, hi2⟩)
    · have HT := ht2
      obtain ⟨q, rfl, -⟩ := ht2
      exact ⟨rfl, Steps.err (HRx6.trans hr2) HT G1 hg2⟩
    have HR2 : actP c.L E A i = _ := HRx6.trans hr2; simp only [T.kind, T.name, T.num, T.at', T.subs] at lr2 ⊢; obtain ⟨ad2, cp2, rfl⟩ := lr2.form; obtain ⟨b2, hb2, lr2⟩ : ∃ b, b = _ ∧ LR w2 (In b w2.heap.size) l2 (.slice ad2 l2.length cp2) := ⟨_, rfl, lr2⟩
    try simp at hb2
    have G2 : w.grownBy w2 (some c.pb) := gb_trans G1 hg2; have s2 := hg2.size
    try simp at s2
    have r_2 : RB w2 (w.heap.size) := RB.keep r_1 hg2 (by omega); have r_lt2 := r_2.lt; obtain ⟨_,_,_,_,_,_,_,_,_,_,_⟩ := id r_2; go_wp2; refine node_ret Tryz.results130 rfl (RB.five ?_) rfl ?_
    · exact r_2
    refine Steps.ok (a := (T.mk k2 n2 m2 q2 l2)) (HR2) ⟨_, rfl, ?_⟩ ?_ ?_ (by omega)
    · refine LR.wide (lo := b2) (hi := w2.heap.size) (ts := l2) ?_ (by omega) (by first | omega | (simp <;> omega))
      exact LR.p5 lr2 (by omega)
    · exact gb_p5 G2 (by omega)
    · exact PS.p5 p2 HL.out (by omega)
  have hw6 : (wd c.L i == [79, 85, 84]) = false := by simpa [kOUT] using h6
  by_cases h7 : wd c.L i = kGET
  · have hw7 : (wd c.L i == [71, 69, 84]) = true := by rw [h7]; decide
    have HRx7 : actP c.L E A i = builtInP c.L 22 kGET (designatorP c.L E) i := by unfold actP; rw [if_neg h1, if_neg h2, if_neg h3, if_neg h4, if_neg h5, if_neg h6, if_pos h7]
    go_wp2_with fail; go_at_call 140; refine (pbuiltIn_any c _ i d 22 kGET 141 (designatorP c.L E) p1 h7 (by decide) hD).mono ?_; rintro e w2 (⟨x2, hr2, ht2, hg2⟩ | ⟨⟨k2, n2, m2, q2, l2⟩, j2, v2, hr2, rfl, ⟨sv2, rfl, lr2⟩, hg2, p2, hi2⟩)
    · have HT := ht2
      obtain ⟨q, rfl, -⟩ := ht2
      exact ⟨rfl, Steps.err (HRx7.trans hr2) HT G1 hg2⟩
    have HR2 : actP c.L E A i = _ := HRx7.trans hr2; simp only [T.kind, T.name, T.num, T.at', T.subs] at lr2 ⊢; obtain ⟨ad2, cp2, rfl⟩ := lr2.form; obtain ⟨b2, hb2, lr2⟩ : ∃ b, b = _ ∧ LR w2 (In b w2.heap.size) l2 (.slice ad2 l2.length cp2) := ⟨_, rfl, lr2⟩
    try simp at hb2
    have G2 : w.grownBy w2 (some c.pb) := gb_trans G1 hg2; have s2 := hg2.size
    try simp at s2
    have r_2 : RB w2 (w.heap.size) := RB.keep r_1 hg2 (by omega); have r_lt2 := r_2.lt; obtain ⟨_,_,_,_,_,_,_,_,_,_,_⟩ := id r_2; go_wp2; refine node_ret Tryz.results130 rfl (RB.five ?_) rfl ?_
    · exact r_2
    refine Steps.ok (a := (T.mk k2 n2 m2 q2 l2)) (HR2) ⟨_, rfl, ?_⟩ ?_ ?_ (by omega)
    · refine LR.wide (lo := b2) (hi := w2.heap.size) (ts := l2) ?_ (by omega) (by first | omega | (simp <;> omega))
      exact LR.p5 lr2 (by omega)
    · exact gb_p5 G2 (by omega)
    · exact PS.p5 p2 HL.out (by omega)
  have hw7 : (wd c.L i == [71, 69, 84]) = false := by simpa [kGET] using h7
  by_cases h8 : wd c.L i = kASSERT
  · have hw8 : (wd c.L i == [65, 83, 83, 69, 82, 84]) = true := by rw [h8]; decide
    have HRx8 : actP c.L E A i = builtInP c.L 23 kASSERT E i := by unfold actP; rw [if_neg h1, if_neg h2, if_neg h3, if_neg h4, if_neg h5, if_neg h6, if_neg h7, if_pos h8]
    go_wp2_with fail; go_at_call 140; refine (pbuiltIn_any c _ i d 23 kASSERT 93 E p1 h8 (by decide) hE).mono ?_; rintro e w2 (⟨x2, hr2, ht2, hg2⟩ | ⟨⟨k2, n2, m2, q2, l2⟩, j2, v2, hr2, rfl, ⟨sv2, rfl, lr2⟩, hg2, p2, hi2⟩)
    · have HT := ht2
      obtain ⟨q, rfl, -⟩ := ht2
      exact ⟨rfl, Steps.err (HRx8.trans hr2) HT G1 hg2⟩
    have HR2 : actP c.L E A i = _ := HRx8.trans hr2; simp only [T.kind, T.name, T.num, T.at', T.subs] at lr2 ⊢; obtain ⟨ad2, cp2, rfl⟩ := lr2.form; obtain ⟨b2, hb2, lr2⟩ : ∃ b, b = _ ∧ LR w2 (In b w2.heap.size) l2 (.slice ad2 l2.length cp2) := ⟨_, rfl, lr2⟩
    try simp at hb2
    have G2 : w.grownBy w2 (some c.pb) := gb_trans G1 hg2; have s2 := hg2.size
    try simp at s2
    have r_2 : RB w2 (w.heap.size) := RB.keep r_1 hg2 (by omega); have r_lt2 := r_2.lt; obtain ⟨_,_,_,_,_,_,_,_,_,_,_⟩ := id r_2; go_wp2; refine node_ret Tryz.results130 rfl (RB.five ?_) rfl ?_
    · exact r_2
    refine Steps.ok (a := (T.mk k2 n2 m2 q2 l2)) (HR2) ⟨_, rfl, ?_⟩ ?_ ?_ (by omega)
    · refine LR.wide (lo := b2) (hi := w2.heap.size) (ts := l2) ?_ (by omega) (by first | omega | (simp <;> omega))
      exact LR.p5 lr2 (by omega)
    · exact gb_p5 G2 (by omega)
    · exact PS.p5 p2 HL.out (by omega)
  have hw8 : (wd c.L i == [65, 83, 83, 69, 82, 84]) = false := by simpa [kASSERT] using h8
  have HRx9 : actP c.L E A i = assignP c.L E i := by unfold actP; rw [if_neg h1, if_neg h2, if_neg h3, if_neg h4, if_neg h5, if_neg h6, if_neg h7, if_neg h8]
  go_wp2_with fail; go_at_call 142; refine (passignmentOrCall_any c _ i d E p1 hE).mono ?_; rintro e w2 (⟨x2, hr2, ht2, hg2⟩ | ⟨⟨k2, n2, m2, q2, l2⟩, j2, v2, hr2, rfl, ⟨sv2, rfl, lr2⟩, hg2, p2, hi2⟩)
  · have HT := ht2
    obtain ⟨q, rfl, -⟩ := ht2
    exact ⟨rfl, Steps.err (HRx9.trans hr2) HT G1 hg2⟩
  have HR2 : actP c.L E A i = _ := HRx9.trans hr2; simp only [T.kind, T.name, T.num, T.at', T.subs] at lr2 ⊢; obtain ⟨ad2, cp2, rfl⟩ := lr2.form; obtain ⟨b2, hb2, lr2⟩ : ∃ b, b = _ ∧ LR w2 (In b w2.heap.size) l2 (.slice ad2 l2.length cp2) := ⟨_, rfl, lr2⟩
  try simp at hb2
  have G2 : w.grownBy w2 (some c.pb) := gb_trans G1 hg2; have s2 := hg2.size
  try simp at s2
  have r_2 : RB w2 (w.heap.size) := RB.keep r_1 hg2 (by omega); have r_lt2 := r_2.lt; obtain ⟨_,_,_,_,_,_,_,_,_,_,_⟩ := id r_2; go_wp2; refine node_ret Tryz.results130 rfl (RB.five ?_) rfl ?_
  · exact r_2
  refine Steps.ok (a := (T.mk k2 n2 m2 q2 l2)) (HR2) ⟨_, rfl, ?_⟩ ?_ ?_ (by omega)
  · refine LR.wide (lo := b2) (hi := w2.heap.size) (ts := l2) ?_ (by omega) (by first | omega | (simp <;> omega))
    exact LR.p5 lr2 (by omega)
  · exact gb_p5 G2 (by omega)
  · exact PS.p5 p2 HL.out (by omega)
end Go.Proofs.YtbphiiaoncakfaaGreatDoor
