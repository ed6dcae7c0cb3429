/- A procedure. -/
import Derived.Test.YtbphiiaoncakfaaGreatDoorG19
namespace Go.Proofs.YtbphiiaoncakfaaGreatDoor
open Go.RowKit

theorem nameB_ne {s : List UInt8} (h : nameB s = true) : s ≠ [] := by
  rintro rfl
  revert h
  decide
theorem marked_ne {L : List Tok} {k : Int} {i j : Nat} {t : T} (h : markedP L k i = .ok (t, j)) : t.name ≠ [] := by
  by_cases hn : nameB (wd L i) = true
  · have e1 : namedP L k i = .ok (T.mk k (wd L i) 0 (pos L i) [], i + 1) := P.bind_ok (by unfold nameP; rw [if_pos hn])
    rw [markedP, P.bind_ok e1] at h
    by_cases hs : wd L (i + 1) = s_star
    · rw [starP, P.bind_ok (a := true) (j := i + 1 + 1) (by unfold hasP; rw [if_pos hs])] at h
      cases h
      exact nameB_ne hn
    · rw [starP, P.bind_ok (a := false) (j := i + 1) (by unfold hasP; rw [if_neg hs])] at h
      cases h
      exact nameB_ne hn
  · have e1 : namedP L k i = .error (refuseAt L i) := P.bind_err (by unfold nameP; rw [if_neg hn])
    rw [markedP, P.bind_err e1] at h; cases h

set_option maxRecDepth 100000 in
set_option maxHeartbeats 8000000 in
theorem pprocedure_any (c : PC) (w : World) (i d : Nat) (h : PS c w i d) (hPar : PartOK c d 115 (parametersP c.L)) (hV : Part c d (fun _ => True) 117 #[.pointer (some ⟨c.pb, 0, none⟩)] (localP c.L)) (hA : ActsOK c d (actsP c.L 20)) :
    Calls Tryz.prog 96 #[.pointer (some ⟨c.pb, 0, none⟩)] w (Steps c w i d (fun w' t v => TR w' w.heap.size w'.heap.size t v) (procedureP c.L i)) := by
  have HP := hide h; have HL := hide h.low; have hb := h.lt; clear h
  go_enter Tryz.func96, Tryz.ntmps96
  go_wp2_with fail; go_at_call 51; refine (pnode_any c _ i d 7 (by exact PS.alloc HP.out _)).mono ?_; rintro e w1 ⟨rfl, hg1⟩; have p1 : PS c w1 i d := PS.kept (by exact PS.alloc HP.out _) hg1; have G1 : w.grownBy w1 (some c.pb) := gb_trans (by exact gb_alloc (gb_refl w (some c.pb)) _) (gb_some hg1 (some c.pb)); have s1 := hg1.size
  try simp at s1
  have r_1 : RB w1 (w.heap.size) := RB.kept (RB.new' (by simp)) hg1 (by simp); have r_lt1 := r_1.lt; obtain ⟨_,_,_,_,_,_,_,_,_,_,_⟩ := id r_1; go_wp2_with fail; go_at_call 52; refine (pwant_any c _ i d kPROCEDURE _ rfl (by decide) (by exact PS.alloc p1 _)).mono ?_; rintro e w2 (⟨x2, hr2, ht2, hg2⟩ | ⟨a2, j2, v2, hr2, rfl, -, hg2, p2, hi2⟩)
  · have HT := ht2
    obtain ⟨q, rfl, -⟩ := ht2
    exact ⟨rfl, Steps.err (P.bind_err hr2) HT (by exact gb_alloc G1 _) hg2⟩
  have HR2 : procedureP c.L i = _ := P.bind_ok hr2; have G2 : w.grownBy w2 (some c.pb) := gb_trans (by exact gb_alloc G1 _) hg2; have s2 := hg2.size
  try simp at s2
  have r_2 : RB w2 (w.heap.size) := RB.keep (by exact RB.alloc r_1 _) hg2 (by omega); have n_2 : NB w2 (w1.heap.size) (.int .i64 7) (.string ⟨#[]⟩) (.int .i64 0) (.int .i64 (pos c.L i)) (.slice none 0 0) := NB.keep (NB.new' (by simp)) hg2 (by omega); have r_lt2 := r_2.lt; have n_lt2 := n_2.lt; obtain ⟨_,_,_,_,_,_,_,_,_,_,_⟩ := id r_2; obtain ⟨_,_,_,_,_,_⟩ := id n_2; go_wp2_with fail; go_at_call 92; refine (pmarked_any c _ j2 d 7 p2).mono ?_; rintro e w3 (⟨x3, hr3, ht3, hg3⟩ | ⟨⟨k3, n3, m3, q3, l3⟩, j3, v3, hr3, rfl, ⟨sv3, rfl, lr3⟩, hg3, p3, hi3⟩)
  · have HT := ht3
    obtain ⟨q, rfl, -⟩ := ht3
    exact ⟨rfl, Steps.err (HR2.trans (P.bind_err hr3)) HT G2 hg3⟩
  have HR3 : procedureP c.L i = _ := HR2.trans (P.bind_ok hr3); simp only [T.kind, T.name, T.num, T.at', T.subs] at lr3 ⊢; obtain ⟨ad3, cp3, rfl⟩ := lr3.form; obtain ⟨b3, hb3, lr3⟩ : ∃ b, b = _ ∧ LR w3 (In b w3.heap.size) l3 (.slice ad3 l3.length cp3) := ⟨_, rfl, lr3⟩
  try simp at hb3
  have G3 : w.grownBy w3 (some c.pb) := gb_trans G2 hg3; have s3 := hg3.size
  try simp at s3
  have r_3 : RB w3 (w.heap.size) := RB.keep r_2 hg3 (by omega); have n_3 : NB w3 (w1.heap.size) (.int .i64 7) (.string ⟨#[]⟩) (.int .i64 0) (.int .i64 (pos c.L i)) (.slice none 0 0) := NB.keep n_2 hg3 (by omega); have r_lt3 := r_3.lt; have n_lt3 := n_3.lt; obtain ⟨_,_,_,_,_,_,_,_,_,_,_⟩ := id r_3; obtain ⟨_,_,_,_,_,_⟩ := id n_3; have hne3 := marked_ne hr3; simp only [T.name] at hne3; go_wp2_with fail
  go_region
  all_goals
    go_wp2_with fail; go_at_call 115; refine (hPar _ j3 (by exact PS.drew (PS.alloc (PS.put (PS.put p3 HL.out (by omega) _ _) HL.out (by omega) _ _) _))).mono ?_; rintro e w4 (⟨x4, hr4, ht4, hg4⟩ | ⟨⟨k4, n4, m4, q4, l4⟩, j4, v4, hr4, rfl, ⟨sv4, rfl, lr4⟩, hg4, p4, hi4⟩)
    · have HT := ht4
      obtain ⟨q, rfl, -⟩ := ht4
      exact ⟨rfl, Steps.err (HR3.trans (P.bind_err hr4)) HT (by exact gb_drew (gb_alloc (gb_put (gb_put G3 (by omega) _ _) (by omega) _ _) _)) hg4⟩
    have HR4 : procedureP c.L i = _ := HR3.trans (P.bind_ok hr4); simp only [T.kind, T.name, T.num, T.at', T.subs] at lr4 ⊢; obtain ⟨ad4, cp4, rfl⟩ := lr4.form; obtain ⟨b4, hb4, lr4⟩ : ∃ b, b = _ ∧ LR w4 (In b w4.heap.size) l4 (.slice ad4 l4.length cp4) := ⟨_, rfl, lr4⟩
    try simp at hb4
    have G4 : w.grownBy w4 (some c.pb) := gb_trans (by exact gb_drew (gb_alloc (gb_put (gb_put G3 (by omega) _ _) (by omega) _ _) _)) hg4; have s4 := hg4.size
    try simp at s4
    have r_4 : RB w4 (w.heap.size) := RB.keep (by exact RB.drew (RB.alloc (RB.put (RB.put r_3 _ _ _) _ _ _) _)) hg4 (by omega); have n_4 : NB w4 (w1.heap.size) (.int .i64 7) (.string ⟨n3.toArray⟩) (.int .i64 m3) (.int .i64 (pos c.L i)) (.slice none 0 0) := NB.keep (by exact NB.drew (NB.alloc (NB.s2 (NB.s1 n_3 _) _) _)) hg4 (by omega); have m_4 : NB w4 (w3.heap.size) (.int .i64 k3) (.string ⟨n3.toArray⟩) (.int .i64 m3) (.int .i64 q3) (.slice ad3 l3.length cp3) := NB.keep (by exact NB.drew (NB.new' (by simp))) hg4 (by omega); have t_4 : LR w4 (In (b3) (w3.heap.size)) (l3) (.slice ad3 l3.length cp3) := LR.call (by exact LR.drew (LR.alloc (LR.put (LR.put lr3 (by omega) _ _) (by omega) _ _) _)) hg4 (by omega); have r_lt4 := r_4.lt; have n_lt4 := n_4.lt; have m_lt4 := m_4.lt; obtain ⟨_,_,_,_,_,_,_,_,_,_,_⟩ := id r_4; obtain ⟨_,_,_,_,_,_⟩ := id n_4; obtain ⟨_,_,_,_,_,_⟩ := id m_4; go_wp2_with fail; go_at_call 116; refine (presult_any c _ j4 d (by exact PS.alloc p4 _)).mono ?_; rintro e w5 (⟨x5, hr5, ht5, hg5⟩ | ⟨⟨k5, n5, m5, q5, l5⟩, j5, v5, hr5, rfl, ⟨sv5, rfl, lr5⟩, hg5, p5, hi5⟩)
    · have HT := ht5
      obtain ⟨q, rfl, -⟩ := ht5
      exact ⟨rfl, Steps.err (HR4.trans (P.bind_err hr5)) HT (by exact gb_alloc G4 _) hg5⟩
    have HR5 : procedureP c.L i = _ := HR4.trans (P.bind_ok hr5); simp only [T.kind, T.name, T.num, T.at', T.subs] at lr5 ⊢; obtain ⟨ad5, cp5, rfl⟩ := lr5.form; obtain ⟨b5, hb5, lr5⟩ : ∃ b, b = _ ∧ LR w5 (In b w5.heap.size) l5 (.slice ad5 l5.length cp5) := ⟨_, rfl, lr5⟩
    try simp at hb5
    have G5 : w.grownBy w5 (some c.pb) := gb_trans (by exact gb_alloc G4 _) hg5; have s5 := hg5.size
    try simp at s5
    have r_5 : RB w5 (w.heap.size) := RB.keep (by exact RB.alloc r_4 _) hg5 (by omega); have n_5 : NB w5 (w1.heap.size) (.int .i64 7) (.string ⟨n3.toArray⟩) (.int .i64 m3) (.int .i64 (pos c.L i)) (.slice none 0 0) := NB.keep (by exact NB.alloc n_4 _) hg5 (by omega); have m_5 : NB w5 (w3.heap.size) (.int .i64 k3) (.string ⟨n3.toArray⟩) (.int .i64 m3) (.int .i64 q3) (.slice ad3 l3.length cp3) := NB.keep (by exact NB.alloc m_4 _) hg5 (by omega); have x_5 : NB w5 (w4.heap.size) (.int .i64 k4) (.string ⟨n4.toArray⟩) (.int .i64 m4) (.int .i64 q4) (.slice ad4 l4.length cp4) := NB.keep (NB.new' (by simp)) hg5 (by omega); have t_5 : LR w5 (In (b3) (w3.heap.size)) (l3) (.slice ad3 l3.length cp3) := LR.call (by exact LR.alloc t_4 _) hg5 (by omega); have a_5 : LR w5 (In (b4) (w4.heap.size)) (l4) (.slice ad4 l4.length cp4) := LR.call (by exact LR.alloc lr4 _) hg5 (by omega); have r_lt5 := r_5.lt; have n_lt5 := n_5.lt; have m_lt5 := m_5.lt; have x_lt5 := x_5.lt; obtain ⟨_,_,_,_,_,_,_,_,_,_,_⟩ := id r_5; obtain ⟨_,_,_,_,_,_⟩ := id n_5; obtain ⟨_,_,_,_,_,_⟩ := id m_5; obtain ⟨_,_,_,_,_,_⟩ := id x_5; go_wp2_with fail; go_at_call 52; refine (pwant_any c _ j5 d s_semi _ rfl (by decide) (by exact PS.alloc p5 _)).mono ?_; rintro e w6 (⟨x6, hr6, ht6, hg6⟩ | ⟨a6, j6, v6, hr6, rfl, -, hg6, p6, hi6⟩)
    · have HT := ht6
      obtain ⟨q, rfl, -⟩ := ht6
      exact ⟨rfl, Steps.err (HR5.trans (P.bind_err hr6)) HT (by exact gb_alloc G5 _) hg6⟩
    have HR6 : procedureP c.L i = _ := HR5.trans (P.bind_ok hr6); have G6 : w.grownBy w6 (some c.pb) := gb_trans (by exact gb_alloc G5 _) hg6; have s6 := hg6.size
    try simp at s6
    have r_6 : RB w6 (w.heap.size) := RB.keep (by exact RB.alloc r_5 _) hg6 (by omega); have n_6 : NB w6 (w1.heap.size) (.int .i64 7) (.string ⟨n3.toArray⟩) (.int .i64 m3) (.int .i64 (pos c.L i)) (.slice none 0 0) := NB.keep (by exact NB.alloc n_5 _) hg6 (by omega); have m_6 : NB w6 (w3.heap.size) (.int .i64 k3) (.string ⟨n3.toArray⟩) (.int .i64 m3) (.int .i64 q3) (.slice ad3 l3.length cp3) := NB.keep (by exact NB.alloc m_5 _) hg6 (by omega); have x_6 : NB w6 (w4.heap.size) (.int .i64 k4) (.string ⟨n4.toArray⟩) (.int .i64 m4) (.int .i64 q4) (.slice ad4 l4.length cp4) := NB.keep (by exact NB.alloc x_5 _) hg6 (by omega); have y_6 : NB w6 (w5.heap.size) (.int .i64 k5) (.string ⟨n5.toArray⟩) (.int .i64 m5) (.int .i64 q5) (.slice ad5 l5.length cp5) := NB.keep (NB.new' (by simp)) hg6 (by omega); have t_6 : LR w6 (In (b3) (w3.heap.size)) (l3) (.slice ad3 l3.length cp3) := LR.call (by exact LR.alloc t_5 _) hg6 (by omega); have a_6 : LR w6 (In (b4) (w4.heap.size)) (l4) (.slice ad4 l4.length cp4) := LR.call (by exact LR.alloc a_5 _) hg6 (by omega); have b_6 : LR w6 (In (b5) (w5.heap.size)) (l5) (.slice ad5 l5.length cp5) := LR.call (by exact LR.alloc lr5 _) hg6 (by omega); have r_lt6 := r_6.lt; have n_lt6 := n_6.lt; have m_lt6 := m_6.lt; have x_lt6 := x_6.lt; have y_lt6 := y_6.lt; obtain ⟨_,_,_,_,_,_,_,_,_,_,_⟩ := id r_6; obtain ⟨_,_,_,_,_,_⟩ := id n_6; obtain ⟨_,_,_,_,_,_⟩ := id m_6; obtain ⟨_,_,_,_,_,_⟩ := id x_6; obtain ⟨_,_,_,_,_,_⟩ := id y_6; go_wp2_with fail; go_at_call 55; refine (psection_any c _ j6 d kVAR _ rfl (by decide) 117 (localP c.L) p6 hV).mono ?_; rintro e w7 (⟨x7, hr7, ht7, hg7⟩ | ⟨⟨k7, n7, m7, q7, l7⟩, j7, v7, hr7, rfl, ⟨sv7, rfl, lr7⟩, hg7, p7, hi7⟩)
    · have HT := ht7
      obtain ⟨q, rfl, -⟩ := ht7
      exact ⟨rfl, Steps.err (HR6.trans (P.bind_err hr7)) HT G6 hg7⟩
    have HR7 : procedureP c.L i = _ := HR6.trans (P.bind_ok hr7); simp only [T.kind, T.name, T.num, T.at', T.subs] at lr7 ⊢; obtain ⟨ad7, cp7, rfl⟩ := lr7.form; obtain ⟨b7, hb7, lr7⟩ : ∃ b, b = _ ∧ LR w7 (In b w7.heap.size) l7 (.slice ad7 l7.length cp7) := ⟨_, rfl, lr7⟩
    try simp at hb7
    have G7 : w.grownBy w7 (some c.pb) := gb_trans G6 hg7; have s7 := hg7.size
    try simp at s7
    have r_7 : RB w7 (w.heap.size) := RB.keep r_6 hg7 (by omega); have n_7 : NB w7 (w1.heap.size) (.int .i64 7) (.string ⟨n3.toArray⟩) (.int .i64 m3) (.int .i64 (pos c.L i)) (.slice none 0 0) := NB.keep n_6 hg7 (by omega); have m_7 : NB w7 (w3.heap.size) (.int .i64 k3) (.string ⟨n3.toArray⟩) (.int .i64 m3) (.int .i64 q3) (.slice ad3 l3.length cp3) := NB.keep m_6 hg7 (by omega); have x_7 : NB w7 (w4.heap.size) (.int .i64 k4) (.string ⟨n4.toArray⟩) (.int .i64 m4) (.int .i64 q4) (.slice ad4 l4.length cp4) := NB.keep x_6 hg7 (by omega); have y_7 : NB w7 (w5.heap.size) (.int .i64 k5) (.string ⟨n5.toArray⟩) (.int .i64 m5) (.int .i64 q5) (.slice ad5 l5.length cp5) := NB.keep y_6 hg7 (by omega); have t_7 : LR w7 (In (b3) (w3.heap.size)) (l3) (.slice ad3 l3.length cp3) := LR.call t_6 hg7 (by omega); have a_7 : LR w7 (In (b4) (w4.heap.size)) (l4) (.slice ad4 l4.length cp4) := LR.call a_6 hg7 (by omega); have b_7 : LR w7 (In (b5) (w5.heap.size)) (l5) (.slice ad5 l5.length cp5) := LR.call b_6 hg7 (by omega); have r_lt7 := r_7.lt; have n_lt7 := n_7.lt; have m_lt7 := m_7.lt; have x_lt7 := x_7.lt; have y_lt7 := y_7.lt; obtain ⟨_,_,_,_,_,_,_,_,_,_,_⟩ := id r_7; obtain ⟨_,_,_,_,_,_⟩ := id n_7; obtain ⟨_,_,_,_,_,_⟩ := id m_7; obtain ⟨_,_,_,_,_,_⟩ := id x_7; obtain ⟨_,_,_,_,_,_⟩ := id y_7; go_wp2_with fail; go_at_call 52; refine (pwant_any c _ j7 d kBEGIN _ rfl (by decide) (by exact PS.alloc p7 _)).mono ?_; rintro e w8 (⟨x8, hr8, ht8, hg8⟩ | ⟨a8, j8, v8, hr8, rfl, -, hg8, p8, hi8⟩)
    · have HT := ht8
      obtain ⟨q, rfl, -⟩ := ht8
      exact ⟨rfl, Steps.err (HR7.trans (P.bind_err hr8)) HT (by exact gb_alloc G7 _) hg8⟩
    have HR8 : procedureP c.L i = _ := HR7.trans (P.bind_ok hr8); have G8 : w.grownBy w8 (some c.pb) := gb_trans (by exact gb_alloc G7 _) hg8; have s8 := hg8.size
    try simp at s8
    have r_8 : RB w8 (w.heap.size) := RB.keep (by exact RB.alloc r_7 _) hg8 (by omega); have n_8 : NB w8 (w1.heap.size) (.int .i64 7) (.string ⟨n3.toArray⟩) (.int .i64 m3) (.int .i64 (pos c.L i)) (.slice none 0 0) := NB.keep (by exact NB.alloc n_7 _) hg8 (by omega); have m_8 : NB w8 (w3.heap.size) (.int .i64 k3) (.string ⟨n3.toArray⟩) (.int .i64 m3) (.int .i64 q3) (.slice ad3 l3.length cp3) := NB.keep (by exact NB.alloc m_7 _) hg8 (by omega); have x_8 : NB w8 (w4.heap.size) (.int .i64 k4) (.string ⟨n4.toArray⟩) (.int .i64 m4) (.int .i64 q4) (.slice ad4 l4.length cp4) := NB.keep (by exact NB.alloc x_7 _) hg8 (by omega); have y_8 : NB w8 (w5.heap.size) (.int .i64 k5) (.string ⟨n5.toArray⟩) (.int .i64 m5) (.int .i64 q5) (.slice ad5 l5.length cp5) := NB.keep (by exact NB.alloc y_7 _) hg8 (by omega); have u_8 : NB w8 (w7.heap.size) (.int .i64 k7) (.string ⟨n7.toArray⟩) (.int .i64 m7) (.int .i64 q7) (.slice ad7 l7.length cp7) := NB.keep (NB.new' (by simp)) hg8 (by omega); have t_8 : LR w8 (In (b3) (w3.heap.size)) (l3) (.slice ad3 l3.length cp3) := LR.call (by exact LR.alloc t_7 _) hg8 (by omega); have a_8 : LR w8 (In (b4) (w4.heap.size)) (l4) (.slice ad4 l4.length cp4) := LR.call (by exact LR.alloc a_7 _) hg8 (by omega); have b_8 : LR w8 (In (b5) (w5.heap.size)) (l5) (.slice ad5 l5.length cp5) := LR.call (by exact LR.alloc b_7 _) hg8 (by omega); have s_8 : LR w8 (In (b7) (w7.heap.size)) (l7) (.slice ad7 l7.length cp7) := LR.call (by exact LR.alloc lr7 _) hg8 (by omega); have r_lt8 := r_8.lt; have n_lt8 := n_8.lt; have m_lt8 := m_8.lt; have x_lt8 := x_8.lt; have y_lt8 := y_8.lt; have u_lt8 := u_8.lt; obtain ⟨_,_,_,_,_,_,_,_,_,_,_⟩ := id r_8; obtain ⟨_,_,_,_,_,_⟩ := id n_8; obtain ⟨_,_,_,_,_,_⟩ := id m_8; obtain ⟨_,_,_,_,_,_⟩ := id x_8; obtain ⟨_,_,_,_,_,_⟩ := id y_8; obtain ⟨_,_,_,_,_,_⟩ := id u_8; go_wp2_with fail
    go_region_with (first
      | (go_at_call 97
         refine (hA _ j8 (by exact PS.drew p8)).mono ?_; rintro e w9 (⟨x9, hr9, ht9, hg9⟩ | ⟨⟨k9, n9, m9, q9, l9⟩, j9, v9, hr9, rfl, ⟨sv9, rfl, lr9⟩, hg9, p9, hi9⟩)
         focus
           have HT := ht9; obtain ⟨q, rfl, -⟩ := ht9
           exact ⟨rfl, Steps.err (HR8.trans (P.bind_err hr9)) HT (by exact gb_drew G8) hg9⟩
         have HR9 : procedureP c.L i = _ := HR8.trans (P.bind_ok hr9); simp only [T.kind, T.name, T.num, T.at', T.subs] at lr9 ⊢; obtain ⟨ad9, cp9, rfl⟩ := lr9.form; obtain ⟨b9, hb9, lr9⟩ : ∃ b, b = _ ∧ LR w9 (In b w9.heap.size) l9 (.slice ad9 l9.length cp9) := ⟨_, rfl, lr9⟩
         try simp at hb9
         have G9 : w.grownBy w9 (some c.pb) := gb_trans (by exact gb_drew G8) hg9; have s9 := hg9.size
         try simp at s9
         have r_9 : RB w9 (w.heap.size) := RB.keep (by exact RB.drew r_8) hg9 (by omega); have n_9 : NB w9 (w1.heap.size) (.int .i64 7) (.string ⟨n3.toArray⟩) (.int .i64 m3) (.int .i64 (pos c.L i)) (.slice none 0 0) := NB.keep (by exact NB.drew n_8) hg9 (by omega); have m_9 : NB w9 (w3.heap.size) (.int .i64 k3) (.string ⟨n3.toArray⟩) (.int .i64 m3) (.int .i64 q3) (.slice ad3 l3.length cp3) := NB.keep (by exact NB.drew m_8) hg9 (by omega); have x_9 : NB w9 (w4.heap.size) (.int .i64 k4) (.string ⟨n4.toArray⟩) (.int .i64 m4) (.int .i64 q4) (.slice ad4 l4.length cp4) := NB.keep (by exact NB.drew x_8) hg9 (by omega); have y_9 : NB w9 (w5.heap.size) (.int .i64 k5) (.string ⟨n5.toArray⟩) (.int .i64 m5) (.int .i64 q5) (.slice ad5 l5.length cp5) := NB.keep (by exact NB.drew y_8) hg9 (by omega); have u_9 : NB w9 (w7.heap.size) (.int .i64 k7) (.string ⟨n7.toArray⟩) (.int .i64 m7) (.int .i64 q7) (.slice ad7 l7.length cp7) := NB.keep (by exact NB.drew u_8) hg9 (by omega); have t_9 : LR w9 (In (b3) (w3.heap.size)) (l3) (.slice ad3 l3.length cp3) := LR.call (by exact LR.drew t_8) hg9 (by omega); have a_9 : LR w9 (In (b4) (w4.heap.size)) (l4) (.slice ad4 l4.length cp4) := LR.call (by exact LR.drew a_8) hg9 (by omega); have b_9 : LR w9 (In (b5) (w5.heap.size)) (l5) (.slice ad5 l5.length cp5) := LR.call (by exact LR.drew b_8) hg9 (by omega); have s_9 : LR w9 (In (b7) (w7.heap.size)) (l7) (.slice ad7 l7.length cp7) := LR.call (by exact LR.drew s_8) hg9 (by omega); have r_lt9 := r_9.lt; have n_lt9 := n_9.lt; have m_lt9 := m_9.lt; have x_lt9 := x_9.lt; have y_lt9 := y_9.lt; have u_lt9 := u_9.lt; obtain ⟨_,_,_,_,_,_,_,_,_,_,_⟩ := id r_9; obtain ⟨_,_,_,_,_,_⟩ := id n_9; obtain ⟨_,_,_,_,_,_⟩ := id m_9; obtain ⟨_,_,_,_,_,_⟩ := id x_9; obtain ⟨_,_,_,_,_,_⟩ := id y_9
         obtain ⟨_,_,_,_,_,_⟩ := id u_9))
    all_goals
      go_wp2_with fail; go_at_call 61; refine (pending_any c _ j9 d n3 _ (by simp) hne3 (by exact PS.alloc (PS.put p9 HL.out (by omega) _ _) _)).mono ?_; rintro e w10 (⟨x10, hr10, ht10, hg10⟩ | ⟨a10, j10, v10, hr10, rfl, -, hg10, p10, hi10⟩)
      · have HT := ht10
        obtain ⟨q, rfl, -⟩ := ht10
        exact ⟨rfl, Steps.err (HR9.trans (P.bind_err hr10)) HT (by exact gb_alloc (gb_put G9 (by omega) _ _) _) hg10⟩
      have HR10 : procedureP c.L i = _ := HR9.trans (P.bind_ok hr10); have G10 : w.grownBy w10 (some c.pb) := gb_trans (by exact gb_alloc (gb_put G9 (by omega) _ _) _) hg10; have s10 := hg10.size
      try simp at s10
      have r_10 : RB w10 (w.heap.size) := RB.keep (by exact RB.alloc (RB.put r_9 _ _ _) _) hg10 (by omega); have n_10 : NB w10 (w1.heap.size) (.int .i64 7) (.string ⟨n3.toArray⟩) (.int .i64 m3) (.int .i64 (pos c.L i)) (.slice (some ⟨w9.heap.size, 0, none⟩) 4 4) := NB.keep (by exact NB.alloc (NB.s4 n_9 _) _) hg10 (by omega); have z_10 : LR w10 (In (b4) (w9.heap.size + 1)) ([(T.mk k4 n4 m4 q4 l4), (T.mk k5 n5 m5 q5 l5), (T.mk k7 n7 m7 q7 l7), (T.mk k9 n9 m9 q9 l9)]) (.slice (some ⟨w9.heap.size, 0, none⟩) 4 4) := LR.call (LR.build4 _ (t1 := (T.mk k4 n4 m4 q4 l4)) (t2 := (T.mk k5 n5 m5 q5 l5)) (t3 := (T.mk k7 n7 m7 q7 l7)) (t4 := (T.mk k9 n9 m9 q9 l9)) (v1 := .slice ad4 l4.length cp4) (v2 := .slice ad5 l5.length cp5) (v3 := .slice ad7 l7.length cp7) (v4 := .slice ad9 l9.length cp9) (show LR _ (In (b4) (w9.heap.size)) (l4) (.slice ad4 l4.length cp4) from LR.wide (lo := b4) (hi := w4.heap.size) (by exact LR.put a_9 (by omega) _ _) (by omega) (by first | omega | (simp <;> omega))) (show LR _ (In (b4) (w9.heap.size)) (l5) (.slice ad5 l5.length cp5) from LR.wide (lo := b5) (hi := w5.heap.size) (by exact LR.put b_9 (by omega) _ _) (by omega) (by first | omega | (simp <;> omega))) (show LR _ (In (b4) (w9.heap.size)) (l7) (.slice ad7 l7.length cp7) from LR.wide (lo := b7) (hi := w7.heap.size) (by exact LR.put s_9 (by omega) _ _) (by omega) (by first | omega | (simp <;> omega))) (show LR _ (In (b4) (w9.heap.size)) (l9) (.slice ad9 l9.length cp9) from LR.wide (lo := b9) (hi := w9.heap.size) (by exact LR.put lr9 (by omega) _ _) (by omega) (by first | omega | (simp <;> omega))) (by simp) rfl (by omega)) hg10 (by omega); have r_lt10 := r_10.lt; have n_lt10 := n_10.lt; obtain ⟨_,_,_,_,_,_,_,_,_,_,_⟩ := id r_10; obtain ⟨_,_,_,_,_,_⟩ := id n_10; go_wp2; refine node_ret Tryz.results96 rfl (RB.five ?_) rfl ?_
      · exact r_10
      refine Steps.ok (a := (T.mk 7 n3 m3 (pos c.L i) [(T.mk k4 n4 m4 q4 l4), (T.mk k5 n5 m5 q5 l5), (T.mk k7 n7 m7 q7 l7), (T.mk k9 n9 m9 q9 l9)])) (HR10) ⟨_, rfl, ?_⟩ ?_ ?_ (by omega)
      · refine LR.wide (lo := b4) (hi := w9.heap.size + 1) (ts := [(T.mk k4 n4 m4 q4 l4), (T.mk k5 n5 m5 q5 l5), (T.mk k7 n7 m7 q7 l7), (T.mk k9 n9 m9 q9 l9)]) ?_ (by omega) (by first | omega | (simp <;> omega))
        exact LR.p5 z_10 (by omega)
      · exact gb_p5 G10 (by omega)
      · exact PS.p5 p10 HL.out (by omega)
end Go.Proofs.YtbphiiaoncakfaaGreatDoor
