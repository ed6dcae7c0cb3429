/- The document's reader: factors. -/
import Derived.Test.YtbphiiaoncakfaaGreatDoorG28
import Derived.Test.YtbphiiaoncakfaaGreatDoorG24
namespace Go.Proofs.YtbphiiaoncakfaaGreatDoor
open Go.RowKit

theorem desigStepQ_at {L : List Tok} {E : Q T} {K : T → Q T} {t : T} (hK : ∀ k x m l s, (K (.mk k x m t.at' l) s).1.at' = t.at') (s : QS) : (desigStepQ L E K t s).1.at' = t.at' := by
  unfold desigStepQ Q.bind
  dsimp only
  split
  · exact hK _ _ _ _ _
  · dsimp only
    split
    · exact hK _ _ _ _ _
    · dsimp only
      split
      · exact hK _ _ _ _ _
      · dsimp only
        split
        · exact hK _ _ _ _ _
        · rfl
theorem desigLoopQ_at {L : List Tok} {E : Q T} : ∀ (f : Nat) (t : T) (s : QS), (desigLoopQ L E f t s).1.at' = t.at'
  | 0, t, s => rfl
  | f + 1, t, s => by
    rw [desigLoopQ]
    dsimp only
    split
    · exact desigStepQ_at (fun k x m l s => desigLoopQ_at f _ s) s
    · rfl
theorem desigQ_at {L : List Tok} {E : Q T} {s s' : QS} {t : T} (h : desigQ L E s = (t, s')) : t.at' = pos L s.1 := by
  have h1 : (desigQ L E s).1.at' = pos L s.1 := desigLoopQ_at 21 _ _; rw [h] at h1
  exact h1
theorem callQ_eq {L : List Tok} {E : Q T} {s s1 : QS} {t : T} (h : desigQ L E s = (t, s1)) : callQ L E s = (if s1.2 = none ∧ wd L s1.1 = s_lp then (givenQ L E).bind (fun l => Q.ret (.mk 33 [] 0 t.at' (t :: l))) s1 else (t, s1)) := Q.bind_eq h
theorem RS.backF {c : RC} {w : World} {s : QS} {e : Nat} (h : RS c w s (e + 1)) (he : e ≤ 20) (v : Int) (hv : v = e) : RS c (w.setCell ⟨c.rb, 2, none⟩ (.int .i64 v)) s e := ⟨h.set2 v e hv (by omega), fun h9 => by omega⟩
theorem digit_kept {w k : List UInt8} (h : isDigit ((w.headD 0).toNat : Int) = true) (hk : isDigit ((k.headD 0).toNat : Int) = false) : w ≠ k := by
  intro e; rw [e, hk] at h; cases h

set_option maxRecDepth 100000 in
set_option maxHeartbeats 4000000 in
theorem rfactor_any (c : RC) (w : World) (s : QS) (d : Nat) (E F F' : Q T) (h : RS c w s d) (hE0 : d ≤ 20 → QOK c d 68 E) (hF : d ≤ 20 → QOK c (d + 1) 131 F') (hFF : d ≤ 20 → ∀ s, F s = F' (if d < 20 then s else (stopQ c.L 3 s).2)) :
    Calls Tryz.prog 131 #[.pointer (some ⟨c.rb, 0, none⟩)] w (QSt c w s d (fun w' t v => TR w' w.heap.size w'.heap.size t v) (factorQ c.L E F s)) := by
  have HP := hide h; have HL := hide h.low; have hb := h.lt; have hfew := h.good.few; have hdz := h.dz; have hdp := h.deep; have HGL := hide h.good; clear h
  go_enter Tryz.func131, Tryz.ntmps131
  go_wp2_with fail; go_at_call 26; refine (rat_any c _ s d (by exact RS.alloc HP.out _)).mono ?_; rintro e w1 ⟨rfl, hg1⟩; have p1 : RS c w1 s d := RS.grown (by exact RS.alloc HP.out _) hg1; have G1 : w.grownBy w1 (some c.rb) := gb_trans (by exact gb_alloc (gb_refl w (some c.rb)) _) (gb_some hg1 (some c.rb)); have sz1 := hg1.size
  try simp at sz1
  have r_1 : RB w1 (w.heap.size) := RB.kept (RB.new' (by simp)) hg1 (by simp); have r_lt1 := r_1.lt; obtain ⟨_,_,_,_,_,_,_,_,_,_,_⟩ := id r_1; go_wp2_with fail; go_at_call 13; refine (rword_any c _ s d (by exact RS.alloc p1 _)).mono ?_; rintro e w2 ⟨rfl, hg2⟩; have p2 : RS c w2 s d := RS.grown (by exact RS.alloc p1 _) hg2; have G2 : w.grownBy w2 (some c.rb) := gb_trans (by exact gb_alloc G1 _) (gb_some hg2 (some c.rb)); have sz2 := hg2.size
  try simp at sz2
  have r_2 : RB w2 (w.heap.size) := RB.kept (by exact RB.alloc r_1 _) hg2 (by simp); have n_2 : NB w2 (w1.heap.size) (.int .i64 0) (.string ⟨#[]⟩) (.int .i64 0) (.int .i64 (pos c.L s.1)) (.slice none 0 0) := NB.kept (NB.new' (by simp)) hg2 (by simp); have r_lt2 := r_2.lt; have n_lt2 := n_2.lt; obtain ⟨_,_,_,_,_,_,_,_,_,_,_⟩ := id r_2; obtain ⟨_,_,_,_,_,_⟩ := id n_2; go_wp2_with fail; go_at_call 12; refine (rok_any c _ s d p2).mono ?_; rintro e w3 ⟨rfl, hg3⟩; have p3 : RS c w3 s d := RS.grown p2 hg3; have G3 : w.grownBy w3 (some c.rb) := gb_trans G2 (gb_some hg3 (some c.rb)); have sz3 := hg3.size
  try simp at sz3
  have r_3 : RB w3 (w.heap.size) := RB.kept r_2 hg3 (by simp); have n_3 : NB w3 (w1.heap.size) (.int .i64 0) (.string ⟨#[]⟩) (.int .i64 0) (.int .i64 (pos c.L s.1)) (.slice none 0 0) := NB.kept n_2 hg3 (by simp); have r_lt3 := r_3.lt; have n_lt3 := n_3.lt; obtain ⟨_,_,_,_,_,_,_,_,_,_,_⟩ := id r_3; obtain ⟨_,_,_,_,_,_⟩ := id n_3
  by_cases hok : s.2 = none
  · have hokb : decide (s.2 = none) = true := decide_eq_true hok
    try simp only [hokb]
    have hd20 : d ≤ 20 := by
      rcases Nat.lt_or_ge d 21 with h9 | h9
      · omega
      · exact absurd hok (hdz (by omega))
    have hE := hE0 hd20
    by_cases hdg : wd c.L s.1 ≠ [] ∧ isDigit (((wd c.L s.1).headD 0).toNat : Int) = true
    · obtain ⟨nv, hnv⟩ := HGL.out.val s.1 hdg.1 hdg.2
      have hnum : numOf (wd c.L s.1) = some nv := by unfold numOf; rw [if_pos hdg, hnv]
      have HRd : factorQ c.L E F s = (T.mk 29 [] nv (pos c.L s.1) [], (s.1 + 1, none)) := by
        unfold factorQ
        rw [if_pos hok, if_neg (digit_kept hdg.2 (by decide)), if_neg (digit_kept hdg.2 (by decide)), if_neg (digit_kept hdg.2 (by decide)), if_neg (digit_kept hdg.2 (by decide)), if_neg (digit_kept hdg.2 (by decide)), hnum]
      have hvq : valueQ c.L s = (nv, (s.1 + 1, none)) := by obtain ⟨i, b⟩ := s; cases hok; unfold valueQ; simp only [hnum]
      obtain ⟨sb, hsb⟩ : ∃ sb : ByteArray, sb = ⟨(wd c.L s.1).toArray⟩ := ⟨_, rfl⟩
      have hl : sb.data.toList = wd c.L s.1 := by rw [hsb]
      have h0 : 0 < sb.size := by rw [bs_size, hl]; exact List.length_pos_iff.2 hdg.1
      have hd0 : isDigit ((sb[0]'h0).toNat : Int) = true := by rw [← headD_at sb h0, hl]; exact hdg.2
      have hemp : sb.toList.isEmpty = false := by rw [empty_form]; simp only [decide_eq_false_iff_not]; omega
      rw [← hsb]; clear hsb hl hdg; go_wp2_with fail; go_at_call 23; refine (rDigit_any _ _).mono ?_; rintro e _ ⟨rfl, rfl⟩; simp only [hd0]; go_wp2_with fail; go_at_call 103; refine (rvalue_any c _ s d (by exact RS.put p3 HL.out (by omega) _ _)).mono ?_; rintro e w4 ⟨a4, s4, v4, hr4, rfl, rfl, hg4, p4, hi4⟩; have G4 : w.grownBy w4 (some c.rb) := gb_trans (by exact gb_put G3 (by omega) _ _) hg4; have sz4 := hg4.size
      try simp at sz4
      have r_4 : RB w4 (w.heap.size) := RB.keep (by exact RB.put r_3 _ _ _) hg4 (by omega); have n_4 : NB w4 (w1.heap.size) (.int .i64 29) (.string ⟨#[]⟩) (.int .i64 0) (.int .i64 (pos c.L s.1)) (.slice none 0 0) := NB.keep (by exact NB.s0 n_3 _) hg4 (by omega); have r_lt4 := r_4.lt; have n_lt4 := n_4.lt; obtain ⟨_,_,_,_,_,_,_,_,_,_,_⟩ := id r_4; obtain ⟨_,_,_,_,_,_⟩ := id n_4; rw [hvq] at hr4; cases hr4; go_wp2; refine node_ret Tryz.results131 rfl (RB.five ?_) rfl ?_
      · exact RB.put r_4 _ _ _
      refine QSt.ok (a := (T.mk 29 [] nv (pos c.L s.1) [])) (HRd) ⟨_, rfl, ?_⟩ ?_ ?_ (by omega)
      · exact LR.nil _ _
      · exact gb_p5 (gb_put G4 (by omega) _ _) (by omega)
      · exact RS.p5 (RS.put p4 HL.out (by omega) _ _) HL.out (by omega)
    rcases (show wd c.L s.1 = [] ∨ (wd c.L s.1 ≠ [] ∧ isDigit (((wd c.L s.1).headD 0).toNat : Int) = false) by
      by_cases h9 : wd c.L s.1 = []
      · exact .inl h9
      · exact .inr ⟨h9, by cases h8 : isDigit (((wd c.L s.1).headD 0).toNat : Int) with | true => exact absurd ⟨h9, h8⟩ hdg | false => rfl⟩) with hemp9 | ⟨hne9, hnd9⟩
    · have hxe : (wd c.L s.1).isEmpty = true := by rw [hemp9]; rfl
      go_wp2_with fail; go_at_call 29; refine (ris_any c _ s d kTRUE _ rfl (by decide) p3).mono ?_; rintro e w4 ⟨a4, s4, v4, hr4, rfl, rfl, hg4, p4, hi4⟩; have G4 : w.grownBy w4 (some c.rb) := gb_trans G3 hg4; have sz4 := hg4.size
      try simp at sz4
      have r_4 : RB w4 (w.heap.size) := RB.keep r_3 hg4 (by omega); have n_4 : NB w4 (w1.heap.size) (.int .i64 0) (.string ⟨#[]⟩) (.int .i64 0) (.int .i64 (pos c.L s.1)) (.slice none 0 0) := NB.keep n_3 hg4 (by omega); have r_lt4 := r_4.lt; have n_lt4 := n_4.lt; obtain ⟨_,_,_,_,_,_,_,_,_,_,_⟩ := id r_4; obtain ⟨_,_,_,_,_,_⟩ := id n_4; cases a4
      · obtain ⟨hsx4, hno4⟩ := isQ_false hr4
        have hnn4 : wd c.L s.1 ≠ kTRUE := fun h => hno4 ⟨hok, h⟩
        have hsy4 := hsx4.symm; subst hsy4; go_wp2_with fail; go_at_call 29; refine (ris_any c _ s d kFALSE _ rfl (by decide) p4).mono ?_; rintro e w5 ⟨a5, s5, v5, hr5, rfl, rfl, hg5, p5, hi5⟩; have G5 : w.grownBy w5 (some c.rb) := gb_trans G4 hg5; have sz5 := hg5.size
        try simp at sz5
        have r_5 : RB w5 (w.heap.size) := RB.keep r_4 hg5 (by omega); have n_5 : NB w5 (w1.heap.size) (.int .i64 0) (.string ⟨#[]⟩) (.int .i64 0) (.int .i64 (pos c.L s.1)) (.slice none 0 0) := NB.keep n_4 hg5 (by omega); have r_lt5 := r_5.lt; have n_lt5 := n_5.lt; obtain ⟨_,_,_,_,_,_,_,_,_,_,_⟩ := id r_5; obtain ⟨_,_,_,_,_,_⟩ := id n_5; cases a5
        · obtain ⟨hsx5, hno5⟩ := isQ_false hr5
          have hnn5 : wd c.L s.1 ≠ kFALSE := fun h => hno5 ⟨hok, h⟩
          have hsy5 := hsx5.symm; subst hsy5; go_wp2_with fail; go_at_call 29; refine (ris_any c _ s d kNIL _ rfl (by decide) p5).mono ?_; rintro e w6 ⟨a6, s6, v6, hr6, rfl, rfl, hg6, p6, hi6⟩; have G6 : w.grownBy w6 (some c.rb) := gb_trans G5 hg6; have sz6 := hg6.size
          try simp at sz6
          have r_6 : RB w6 (w.heap.size) := RB.keep r_5 hg6 (by omega); have n_6 : NB w6 (w1.heap.size) (.int .i64 0) (.string ⟨#[]⟩) (.int .i64 0) (.int .i64 (pos c.L s.1)) (.slice none 0 0) := NB.keep n_5 hg6 (by omega); have r_lt6 := r_6.lt; have n_lt6 := n_6.lt; obtain ⟨_,_,_,_,_,_,_,_,_,_,_⟩ := id r_6; obtain ⟨_,_,_,_,_,_⟩ := id n_6; cases a6
          · obtain ⟨hsx6, hno6⟩ := isQ_false hr6
            have hnn6 : wd c.L s.1 ≠ kNIL := fun h => hno6 ⟨hok, h⟩
            have hsy6 := hsx6.symm; subst hsy6; go_wp2_with fail; go_at_call 29; refine (ris_any c _ s d s_tilde _ rfl (by decide) p6).mono ?_; rintro e w7 ⟨a7, s7, v7, hr7, rfl, rfl, hg7, p7, hi7⟩; have G7 : w.grownBy w7 (some c.rb) := gb_trans G6 hg7; have sz7 := hg7.size
            try simp at sz7
            have r_7 : RB w7 (w.heap.size) := RB.keep r_6 hg7 (by omega); have n_7 : NB w7 (w1.heap.size) (.int .i64 0) (.string ⟨#[]⟩) (.int .i64 0) (.int .i64 (pos c.L s.1)) (.slice none 0 0) := NB.keep n_6 hg7 (by omega); have r_lt7 := r_7.lt; have n_lt7 := n_7.lt; obtain ⟨_,_,_,_,_,_,_,_,_,_,_⟩ := id r_7; obtain ⟨_,_,_,_,_,_⟩ := id n_7; cases a7
            · obtain ⟨hsx7, hno7⟩ := isQ_false hr7
              have hnn7 : wd c.L s.1 ≠ s_tilde := fun h => hno7 ⟨hok, h⟩
              have hsy7 := hsx7.symm; subst hsy7; go_wp2_with fail; go_at_call 29; refine (ris_any c _ s d s_lp _ rfl (by decide) p7).mono ?_; rintro e w8 ⟨a8, s8, v8, hr8, rfl, rfl, hg8, p8, hi8⟩; have G8 : w.grownBy w8 (some c.rb) := gb_trans G7 hg8; have sz8 := hg8.size
              try simp at sz8
              have r_8 : RB w8 (w.heap.size) := RB.keep r_7 hg8 (by omega); have n_8 : NB w8 (w1.heap.size) (.int .i64 0) (.string ⟨#[]⟩) (.int .i64 0) (.int .i64 (pos c.L s.1)) (.slice none 0 0) := NB.keep n_7 hg8 (by omega); have r_lt8 := r_8.lt; have n_lt8 := n_8.lt; obtain ⟨_,_,_,_,_,_,_,_,_,_,_⟩ := id r_8; obtain ⟨_,_,_,_,_,_⟩ := id n_8; cases a8
              · obtain ⟨hsx8, hno8⟩ := isQ_false hr8
                have hnn8 : wd c.L s.1 ≠ s_lp := fun h => hno8 ⟨hok, h⟩
                have hsy8 := hsx8.symm; subst hsy8; go_wp2_with fail; go_at_call 70; refine (rdesig_any c _ s d E p8 hE).mono ?_; rintro e w9 ⟨⟨k9, n9, m9, q9, l9⟩, s9, v9, hr9, rfl, ⟨sv9, rfl, lr9⟩, hg9, p9, hi9⟩; simp only [T.kind, T.name, T.num, T.at', T.subs] at lr9 ⊢; obtain ⟨ad9, cp9, rfl⟩ := lr9.form; obtain ⟨b9, hb9, lr9⟩ : ∃ b, b = _ ∧ LR w9 (In b w9.heap.size) l9 (.slice ad9 l9.length cp9) := ⟨_, rfl, lr9⟩
                try simp at hb9
                have G9 : w.grownBy w9 (some c.rb) := gb_trans G8 hg9; have sz9 := hg9.size
                try simp at sz9
                have r_9 : RB w9 (w.heap.size) := RB.keep r_8 hg9 (by omega); have n_9 : NB w9 (w1.heap.size) (.int .i64 0) (.string ⟨#[]⟩) (.int .i64 0) (.int .i64 (pos c.L s.1)) (.slice none 0 0) := NB.keep n_8 hg9 (by omega); have r_lt9 := r_9.lt; have n_lt9 := n_9.lt; obtain ⟨_,_,_,_,_,_,_,_,_,_,_⟩ := id r_9; obtain ⟨_,_,_,_,_,_⟩ := id n_9; have hat := desigQ_at hr9; simp only [T.at'] at hat; subst hat
                have hnum : numOf (wd c.L s.1) = none := by unfold numOf; rw [if_neg hdg]
                have HRc : factorQ c.L E F s = (if s9.2 = none ∧ wd c.L s9.1 = s_lp then (givenQ c.L E).bind (fun l => Q.ret (.mk 33 [] 0 (pos c.L s.1) ((T.mk k9 n9 m9 (pos c.L s.1) l9) :: l))) s9 else ((T.mk k9 n9 m9 (pos c.L s.1) l9), s9)) := by
                  unfold factorQ
                  rw [if_pos hok, if_neg hnn4, if_neg hnn5, if_neg hnn6, if_neg hnn7, if_neg hnn8, hnum]
                  exact callQ_eq hr9
                go_wp2_with fail; go_at_call 12; refine (rok_any c _ s9 d (by exact RS.alloc p9 _)).mono ?_; rintro e w10 ⟨rfl, hg10⟩; have p10 : RS c w10 s9 d := RS.grown (by exact RS.alloc p9 _) hg10; have G10 : w.grownBy w10 (some c.rb) := gb_trans (by exact gb_alloc G9 _) (gb_some hg10 (some c.rb)); have sz10 := hg10.size
                try simp at sz10
                have r_10 : RB w10 (w.heap.size) := RB.kept (by exact RB.alloc r_9 _) hg10 (by simp); have n_10 : NB w10 (w1.heap.size) (.int .i64 0) (.string ⟨#[]⟩) (.int .i64 0) (.int .i64 (pos c.L s.1)) (.slice none 0 0) := NB.kept (by exact NB.alloc n_9 _) hg10 (by simp); have dd_10 : NB w10 (w9.heap.size) (.int .i64 k9) (.string ⟨n9.toArray⟩) (.int .i64 m9) (.int .i64 (pos c.L s.1)) (.slice ad9 l9.length cp9) := NB.kept (NB.new' (by simp)) hg10 (by simp); have y_10 : LR w10 (In (b9) (w9.heap.size)) (l9) (.slice ad9 l9.length cp9) := LR.grown (by exact LR.alloc lr9 _) hg10; have r_lt10 := r_10.lt; have n_lt10 := n_10.lt; have dd_lt10 := dd_10.lt; obtain ⟨_,_,_,_,_,_,_,_,_,_,_⟩ := id r_10; obtain ⟨_,_,_,_,_,_⟩ := id n_10; obtain ⟨_,_,_,_,_,_⟩ := id dd_10
                by_cases hok2 : s9.2 = none
                · have hokb2 : decide (s9.2 = none) = true := decide_eq_true hok2
                  try simp only [hokb2]
                  go_wp2_with fail; go_at_call 13; refine (rword_any c _ s9 d p10).mono ?_; rintro e w11 ⟨rfl, hg11⟩; have p11 : RS c w11 s9 d := RS.grown p10 hg11; have G11 : w.grownBy w11 (some c.rb) := gb_trans G10 (gb_some hg11 (some c.rb)); have sz11 := hg11.size
                  try simp at sz11
                  have r_11 : RB w11 (w.heap.size) := RB.kept r_10 hg11 (by simp); have n_11 : NB w11 (w1.heap.size) (.int .i64 0) (.string ⟨#[]⟩) (.int .i64 0) (.int .i64 (pos c.L s.1)) (.slice none 0 0) := NB.kept n_10 hg11 (by simp); have dd_11 : NB w11 (w9.heap.size) (.int .i64 k9) (.string ⟨n9.toArray⟩) (.int .i64 m9) (.int .i64 (pos c.L s.1)) (.slice ad9 l9.length cp9) := NB.kept dd_10 hg11 (by simp); have y_11 : LR w11 (In (b9) (w9.heap.size)) (l9) (.slice ad9 l9.length cp9) := LR.grown y_10 hg11; have r_lt11 := r_11.lt; have n_lt11 := n_11.lt; have dd_lt11 := dd_11.lt; obtain ⟨_,_,_,_,_,_,_,_,_,_,_⟩ := id r_11; obtain ⟨_,_,_,_,_,_⟩ := id n_11; obtain ⟨_,_,_,_,_,_⟩ := id dd_11
                  by_cases hlp : wd c.L s9.1 = s_lp
                  · have hwb : (wd c.L s9.1 == [40]) = true := by rw [hlp]; decide
                    rw [if_pos ⟨hok2, hlp⟩] at HRc; go_wp2_with fail; obtain ⟨w12, hw12⟩ : ∃ x : World, x = w11.setCell ⟨w1.heap.size, 0, none⟩ (.int .i64 33) := ⟨_, rfl⟩; rw [← hw12]
                    have p12 : RS c w12 s9 d := by rw [hw12]; exact RS.put p11 HL.out (by omega) _ _
                    have G12 : w.grownBy w12 (some c.rb) := by rw [hw12]; exact gb_put G11 (by omega) _ _
                    have sz12 : w11.heap.size ≤ w12.heap.size := by rw [hw12]; simp [World.setCell]
                    have sy12 : w12.heap.size ≤ w11.heap.size := by rw [hw12]; simp [World.setCell]
                    have r_12 : RB w12 (w.heap.size) := by rw [hw12]; exact RB.put r_11 _ _ _
                    have n_12 : NB w12 (w1.heap.size) (.int .i64 33) (.string ⟨#[]⟩) (.int .i64 0) (.int .i64 (pos c.L s.1)) (.slice none 0 0) := by rw [hw12]; exact NB.s0 n_11 _
                    have dd_12 : NB w12 (w9.heap.size) (.int .i64 k9) (.string ⟨n9.toArray⟩) (.int .i64 m9) (.int .i64 (pos c.L s.1)) (.slice ad9 l9.length cp9) := by rw [hw12]; exact NB.far dd_11 (by omega) _ _
                    have y_12 : LR w12 (In (b9) (w9.heap.size)) (l9) (.slice ad9 l9.length cp9) := by rw [hw12]; exact LR.put y_11 (by omega) _ _
                    clear hw12; have r_lt12 := r_12.lt; have n_lt12 := n_12.lt; have dd_lt12 := dd_12.lt; obtain ⟨_,_,_,_,_,_,_,_,_,_,_⟩ := id r_12; obtain ⟨_,_,_,_,_,_⟩ := id n_12; obtain ⟨_,_,_,_,_,_⟩ := id dd_12
                    go_region_law (first
                      | (go_simp
                         go_at_call 71; refine (rgiven_any c _ s9 d E (by first | with_reducible exact RS.drew p12 | with_reducible exact RS.drew (RS.alloc p12 _)) hE).mono ?_; rintro e w13 ⟨a13, s13, v13, hr13, rfl, ⟨lr13, ha13⟩, hg13, p13, hi13⟩; have HR13 : factorQ c.L E F s = _ := HRc.trans (Q.bind_eq hr13); have G13 : w.grownBy w13 (some c.rb) := gb_trans (by first | with_reducible exact gb_drew G12 | with_reducible exact gb_drew (gb_alloc G12 _)) hg13; have sz13 := hg13.size
                         try simp at sz13
                         have r_13 : RB w13 (w.heap.size) := RB.keep (by first | with_reducible exact RB.drew r_12 | with_reducible exact RB.drew (RB.alloc r_12 _)) hg13 (by omega); have n_13 : NB w13 (w1.heap.size) (.int .i64 33) (.string ⟨#[]⟩) (.int .i64 0) (.int .i64 (pos c.L s.1)) (.slice none 0 0) := NB.keep (by first | with_reducible exact NB.drew n_12 | with_reducible exact NB.drew (NB.alloc n_12 _)) hg13 (by omega); have dd_13 : NB w13 (w9.heap.size) (.int .i64 k9) (.string ⟨n9.toArray⟩) (.int .i64 m9) (.int .i64 (pos c.L s.1)) (.slice ad9 l9.length cp9) := NB.keep (by first | with_reducible exact NB.drew dd_12 | with_reducible exact NB.drew (NB.alloc dd_12 _)) hg13 (by omega); have y_13 : LR w13 (In (b9) (w9.heap.size)) (l9) (.slice ad9 l9.length cp9) := LR.call (by first | with_reducible exact LR.drew y_12 | with_reducible exact LR.drew (LR.alloc y_12 _)) hg13 (by omega); have r_lt13 := r_13.lt; have n_lt13 := n_13.lt; have dd_lt13 := dd_13.lt; obtain ⟨_,_,_,_,_,_,_,_,_,_,_⟩ := id r_13; obtain ⟨_,_,_,_,_,_⟩ := id n_13; obtain ⟨_,_,_,_,_,_⟩ := id dd_13; obtain ⟨ad13, cp13, rfl⟩ := lr13.form; obtain ⟨b13, hb13, lr13⟩ : ∃ b, b = _ ∧ LR w13 (In b w13.heap.size) a13 (.slice ad13 a13.length cp13) := ⟨_, rfl, lr13⟩
                         try simp at hb13)
                      | (have lb : LR w13 (fun k => In (b9) (w9.heap.size) k ∨ k = w12.heap.size) [(T.mk k9 n9 m9 (pos c.L s.1) l9)] (.slice (some ⟨w12.heap.size, 0, none⟩) 1 1) := (LR.build1S w12.drew (g := w12.heap.size) (S := In (b9) (w9.heap.size)) (t := (T.mk k9 n9 m9 (pos c.L s.1) l9)) (sv := .slice ad9 l9.length cp9) (cs := #[.int .i64 k9, .string ⟨n9.toArray⟩, .int .i64 m9, .int .i64 (pos c.L s.1), .slice ad9 l9.length cp9]) (LR.drew (y_12)) (fun k hk => Nat.lt_of_lt_of_le hk.2 (by omega)) rfl rfl).kept hg13 (fun b hb hs => by cases hb; rcases hs with hs | hs; (have h1 : b9 ≤ c.rb := hs.1; have h2 : c.rb < w9.heap.size := hs.2; omega); omega)
                         have hin : ∀ b, Value.ownBlock (.slice (some ⟨w12.heap.size, 0, none⟩) 1 1) = some b → b = w12.heap.size := fun b e => by simp [Value.ownBlock] at e; omega
                         refine step_appAny (v := .slice (some ⟨w12.heap.size, 0, none⟩) 1 1) (u := .slice ad13 a13.length cp13) rfl _ _ rfl (fun k => In (b9) (w9.heap.size) k ∨ (w12.heap.size ≤ k ∧ k ≤ w13.heap.size + 1)) rfl rfl lb lr13
                           (fun k hk e => by have h1 := hin k e; have h2 : b13 ≤ k := hk.1; have h3 : k < w13.heap.size := hk.2; omega) (fun k hk => hk.elim .inl (fun h => .inr ⟨by omega, by omega⟩)) (fun k hk => .inr ⟨by have h2 : b13 ≤ k := hk.1; omega, by have h3 : k < w13.heap.size := hk.2; omega⟩) (.inr ⟨by first | omega | (simp <;> omega), by first | omega | (simp <;> omega)⟩) (by simp; omega) ?_
                         intro v14 w14 lr14 hg14; obtain ⟨ad14, cp14, e14⟩ := lr14.form; rw [List.length_append, List.length_singleton] at e14; subst e14; have sz14 := hg14.size
                         try simp at sz14
                         have r_14 : RB w14 (w.heap.size) := RB.kept r_13 hg14 (fun e => by have := hin _ e.symm; omega); have n_14 : NB w14 (w1.heap.size) (.int .i64 33) (.string ⟨#[]⟩) (.int .i64 0) (.int .i64 (pos c.L s.1)) (.slice none 0 0) := NB.kept n_13 hg14 (fun e => by have := hin _ e.symm; omega); have dd_14 : NB w14 (w9.heap.size) (.int .i64 k9) (.string ⟨n9.toArray⟩) (.int .i64 m9) (.int .i64 (pos c.L s.1)) (.slice ad9 l9.length cp9) := NB.kept dd_13 hg14 (fun e => by have := hin _ e.symm; omega); have p14 : RS c w14 s13 d := RS.own p13 HL.out hg14 (fun b hb => by have := hin b hb; omega); have G14 : w.grownBy w14 (some c.rb) := gb_own G13 hg14 (fun b hb => by have := hin b hb; omega); have r_lt14 := r_14.lt; have n_lt14 := n_14.lt; have dd_lt14 := dd_14.lt; obtain ⟨_,_,_,_,_,_,_,_,_,_,_⟩ := id r_14; obtain ⟨_,_,_,_,_,_⟩ := id n_14
                         obtain ⟨_,_,_,_,_,_⟩ := id dd_14)
                      | (have lb : LR (w13.alloc (.cells #[.int .i64 k9, .string ⟨n9.toArray⟩, .int .i64 m9, .int .i64 (pos c.L s.1), .slice ad9 l9.length cp9] 25)) (fun k => In (b9) (w9.heap.size) k ∨ k = w13.heap.size) [(T.mk k9 n9 m9 (pos c.L s.1) l9)] (.slice (some ⟨w13.heap.size, 0, none⟩) 1 1) := LR.build1S w13 (S := In (b9) (w9.heap.size)) (t := (T.mk k9 n9 m9 (pos c.L s.1) l9)) (sv := .slice ad9 l9.length cp9) (cs := #[.int .i64 k9, .string ⟨n9.toArray⟩, .int .i64 m9, .int .i64 (pos c.L s.1), .slice ad9 l9.length cp9]) (y_13) (fun k hk => Nat.lt_of_lt_of_le hk.2 (by omega)) rfl rfl
                         have hin : ∀ b, Value.ownBlock (.slice (some ⟨w13.heap.size, 0, none⟩) 1 1) = some b → b = w13.heap.size := fun b e => by simp [Value.ownBlock] at e; omega
                         refine step_appAny (v := .slice (some ⟨w13.heap.size, 0, none⟩) 1 1) (u := .slice ad13 a13.length cp13) rfl _ _ rfl (fun k => In (b9) (w9.heap.size) k ∨ (w12.heap.size ≤ k ∧ k ≤ w13.heap.size + 1)) rfl rfl lb (lr13.alloc _)
                           (fun k hk e => by have h1 := hin k e; have h2 : b13 ≤ k := hk.1; have h3 : k < w13.heap.size := hk.2; omega) (fun k hk => hk.elim .inl (fun h => .inr ⟨by omega, by omega⟩)) (fun k hk => .inr ⟨by have h2 : b13 ≤ k := hk.1; omega, by have h3 : k < w13.heap.size := hk.2; omega⟩) (.inr ⟨by first | omega | (simp <;> omega), by first | omega | (simp <;> omega)⟩) (by simp; omega) ?_
                         intro v14 w14 lr14 hg14; obtain ⟨ad14, cp14, e14⟩ := lr14.form; rw [List.length_append, List.length_singleton] at e14; subst e14; have sz14 := hg14.size
                         try simp at sz14
                         have r_14 : RB w14 (w.heap.size) := RB.kept (RB.alloc r_13 _) hg14 (fun e => by have := hin _ e.symm; omega); have n_14 : NB w14 (w1.heap.size) (.int .i64 33) (.string ⟨#[]⟩) (.int .i64 0) (.int .i64 (pos c.L s.1)) (.slice none 0 0) := NB.kept (NB.alloc n_13 _) hg14 (fun e => by have := hin _ e.symm; omega); have dd_14 : NB w14 (w9.heap.size) (.int .i64 k9) (.string ⟨n9.toArray⟩) (.int .i64 m9) (.int .i64 (pos c.L s.1)) (.slice ad9 l9.length cp9) := NB.kept (NB.alloc dd_13 _) hg14 (fun e => by have := hin _ e.symm; omega); have p14 : RS c w14 s13 d := RS.own (RS.alloc p13 _) HL.out hg14 (fun b hb => by have := hin b hb; omega); have G14 : w.grownBy w14 (some c.rb) := gb_own (gb_alloc G13 _) hg14 (fun b hb => by have := hin b hb; omega); have r_lt14 := r_14.lt; have n_lt14 := n_14.lt; have dd_lt14 := dd_14.lt; obtain ⟨_,_,_,_,_,_,_,_,_,_,_⟩ := id r_14; obtain ⟨_,_,_,_,_,_⟩ := id n_14
                         obtain ⟨_,_,_,_,_,_⟩ := id dd_14))
                    all_goals
                      have lz14 : LR w14 (In (b9) w14.heap.size) ((T.mk k9 n9 m9 (pos c.L s.1) l9) :: a13) (.slice ad14 (1 + a13.length) cp14) := lr14.bounded.mono (fun k hk => ⟨hk.1.elim (fun h => by first | exact h.1 | (have h1 : 0 ≤ k := h.1; have h2 : k < 0 := h.2; omega)) (fun h => by omega), hk.2⟩); go_wp2; refine node_ret Tryz.results131 rfl (RB.five ?_) rfl ?_
                      · exact RB.put r_14 _ _ _
                      refine QSt.ok (a := (T.mk 33 [] 0 (pos c.L s.1) ((T.mk k9 n9 m9 (pos c.L s.1) l9) :: a13))) (HR13) ⟨_, rfl, ?_⟩ ?_ ?_ (by omega)
                      · refine LR.wide (lo := b9) (hi := w14.heap.size) (ts := ((T.mk k9 n9 m9 (pos c.L s.1) l9) :: a13)) ?_ (by omega) (by first | omega | (simp <;> omega))
                        exact LR.p5 (LR.put lz14 (by omega) _ _) (by omega)
                      · exact gb_p5 (gb_put G14 (by omega) _ _) (by omega)
                      · exact RS.p5 (RS.put p14 HL.out (by omega) _ _) HL.out (by omega)
                  have hwb : (wd c.L s9.1 == [40]) = false := by simpa [s_lp] using hlp
                  rw [if_neg (fun h => hlp h.2)] at HRc; go_wp2; refine node_ret Tryz.results131 rfl (RB.five ?_) rfl ?_
                  · exact r_11
                  refine QSt.ok (a := (T.mk k9 n9 m9 (pos c.L s.1) l9)) (HRc) ⟨_, rfl, ?_⟩ ?_ ?_ (by omega)
                  · refine LR.wide (lo := b9) (hi := w9.heap.size) (ts := l9) ?_ (by omega) (by first | omega | (simp <;> omega))
                    exact LR.p5 y_11 (by omega)
                  · exact gb_p5 G11 (by omega)
                  · exact RS.p5 p11 HL.out (by omega)
                have hokb2 : decide (s9.2 = none) = false := decide_eq_false hok2
                try simp only [hokb2]
                rw [if_neg (fun h => hok2 h.1)] at HRc; go_wp2; refine node_ret Tryz.results131 rfl (RB.five ?_) rfl ?_
                · exact r_10
                refine QSt.ok (a := (T.mk k9 n9 m9 (pos c.L s.1) l9)) (HRc) ⟨_, rfl, ?_⟩ ?_ ?_ (by omega)
                · refine LR.wide (lo := b9) (hi := w9.heap.size) (ts := l9) ?_ (by omega) (by first | omega | (simp <;> omega))
                  exact LR.p5 y_10 (by omega)
                · exact gb_p5 G10 (by omega)
                · exact RS.p5 p10 HL.out (by omega)
              · obtain ⟨-, hw8, hsx8⟩ := isQ_true hr8
                subst hsx8
                have HRk : factorQ c.L E F s = (E.bind (fun e => (needQ c.L s_rp).bind fun _ => Q.ret e) (s.1 + 1, none)) := by
                  unfold factorQ
                  rw [if_pos hok, if_neg hnn4, if_neg hnn5, if_neg hnn6, if_neg hnn7, if_pos hw8]
                go_wp2_with fail; go_at_call 68; refine (hE _ (s.1 + 1, none) p8).mono ?_; rintro e w9 ⟨⟨k9, n9, m9, q9, l9⟩, s9, v9, hr9, rfl, ⟨sv9, rfl, lr9⟩, hg9, p9, hi9⟩; have HR9 : factorQ c.L E F s = _ := HRk.trans (Q.bind_eq hr9); simp only [T.kind, T.name, T.num, T.at', T.subs] at lr9 ⊢; obtain ⟨ad9, cp9, rfl⟩ := lr9.form; obtain ⟨b9, hb9, lr9⟩ : ∃ b, b = _ ∧ LR w9 (In b w9.heap.size) l9 (.slice ad9 l9.length cp9) := ⟨_, rfl, lr9⟩
                try simp at hb9
                have G9 : w.grownBy w9 (some c.rb) := gb_trans G8 hg9; have sz9 := hg9.size
                try simp at sz9
                have r_9 : RB w9 (w.heap.size) := RB.keep r_8 hg9 (by omega); have n_9 : NB w9 (w1.heap.size) (.int .i64 0) (.string ⟨#[]⟩) (.int .i64 0) (.int .i64 (pos c.L s.1)) (.slice none 0 0) := NB.keep n_8 hg9 (by omega); have r_lt9 := r_9.lt; have n_lt9 := n_9.lt; obtain ⟨_,_,_,_,_,_,_,_,_,_,_⟩ := id r_9; obtain ⟨_,_,_,_,_,_⟩ := id n_9; go_wp2_with fail; go_at_call 27; refine (rneed_any c _ s9 d s_rp _ rfl (by decide) (by exact RS.p5 p9 HL.out (by omega))).mono ?_; rintro e w10 ⟨a10, s10, v10, hr10, rfl, -, hg10, p10, hi10⟩; have HR10 : factorQ c.L E F s = _ := HR9.trans (Q.bind_eq hr10); have G10 : w.grownBy w10 (some c.rb) := gb_trans (by exact gb_p5 G9 (by omega)) hg10; have sz10 := hg10.size
                try simp at sz10
                have r_10 : RB w10 (w.heap.size) := RB.keep (by exact RB.p5 r_9) hg10 (by omega); have n_10 : NB w10 (w1.heap.size) (.int .i64 k9) (.string ⟨n9.toArray⟩) (.int .i64 m9) (.int .i64 q9) (.slice ad9 l9.length cp9) := NB.keep (by exact NB.s4 (NB.s3 (NB.s2 (NB.s1 (NB.s0 n_9 _) _) _) _) _) hg10 (by omega); have y_10 : LR w10 (In (b9) (w9.heap.size)) (l9) (.slice ad9 l9.length cp9) := LR.call (by exact LR.p5 lr9 (by omega)) hg10 (by omega); have r_lt10 := r_10.lt; have n_lt10 := n_10.lt; obtain ⟨_,_,_,_,_,_,_,_,_,_,_⟩ := id r_10; obtain ⟨_,_,_,_,_,_⟩ := id n_10; go_wp2; refine node_ret Tryz.results131 rfl (RB.five ?_) rfl ?_
                · exact r_10
                refine QSt.ok (a := (T.mk k9 n9 m9 q9 l9)) (HR10) ⟨_, rfl, ?_⟩ ?_ ?_ (by omega)
                · refine LR.wide (lo := b9) (hi := w9.heap.size) (ts := l9) ?_ (by omega) (by first | omega | (simp <;> omega))
                  exact LR.p5 y_10 (by omega)
                · exact gb_p5 G10 (by omega)
                · exact RS.p5 p10 HL.out (by omega)
            · obtain ⟨-, hw7, hsx7⟩ := isQ_true hr7
              subst hsx7
              have HRk : factorQ c.L E F s = (F.bind (fun f => Q.ret (.mk 34 [] 0 (pos c.L s.1) [f])) (s.1 + 1, none)) := by
                unfold factorQ
                rw [if_pos hok, if_neg hnn4, if_neg hnn5, if_neg hnn6, if_pos hw7]
              go_wp2_with fail; go_at_call 44; refine (rdeeper_any c _ (s.1 + 1, none) d hd20 p7).mono ?_; rintro e w8 ⟨rfl, hg8, p8⟩; obtain ⟨s8, hs8⟩ : ∃ x, x = (if d < 20 then ((s.1 + 1, none) : QS) else (stopQ c.L 3 (s.1 + 1, none)).2) := ⟨_, rfl⟩; rw [← hs8] at p8
              have hFs : F (s.1 + 1, none) = F' s8 := by rw [hs8]; exact hFF hd20 _
              have hi8 : s8.1 = s.1 + 1 := by
                rw [hs8]
                split
                · rfl
                · exact (stopQ_some c.L 3 (s.1 + 1, none)).2
              clear hs8; have G8 : w.grownBy w8 (some c.rb) := gb_trans G7 hg8; have sz8 := hg8.size
              try simp at sz8
              have r_8 : RB w8 (w.heap.size) := RB.keep r_7 hg8 (by omega); have n_8 : NB w8 (w1.heap.size) (.int .i64 0) (.string ⟨#[]⟩) (.int .i64 0) (.int .i64 (pos c.L s.1)) (.slice none 0 0) := NB.keep n_7 hg8 (by omega); have r_lt8 := r_8.lt; have n_lt8 := n_8.lt; obtain ⟨_,_,_,_,_,_,_,_,_,_,_⟩ := id r_8; obtain ⟨_,_,_,_,_,_⟩ := id n_8; go_wp2_with fail; go_at_call 131; refine (hF hd20 _ s8 (by exact RS.put p8 HL.out (by omega) _ _)).mono ?_; rintro e w9 ⟨⟨k9, n9, m9, q9, l9⟩, s9, v9, hr9, rfl, ⟨sv9, rfl, lr9⟩, hg9, p9, hi9⟩; simp only [T.kind, T.name, T.num, T.at', T.subs] at lr9 ⊢; obtain ⟨ad9, cp9, rfl⟩ := lr9.form; obtain ⟨b9, hb9, lr9⟩ : ∃ b, b = _ ∧ LR w9 (In b w9.heap.size) l9 (.slice ad9 l9.length cp9) := ⟨_, rfl, lr9⟩
              try simp at hb9
              have G9 : w.grownBy w9 (some c.rb) := gb_trans (by exact gb_put G8 (by omega) _ _) hg9; have sz9 := hg9.size
              try simp at sz9
              have r_9 : RB w9 (w.heap.size) := RB.keep (by exact RB.put r_8 _ _ _) hg9 (by omega); have n_9 : NB w9 (w1.heap.size) (.int .i64 34) (.string ⟨#[]⟩) (.int .i64 0) (.int .i64 (pos c.L s.1)) (.slice none 0 0) := NB.keep (by exact NB.s0 n_8 _) hg9 (by omega); have r_lt9 := r_9.lt; have n_lt9 := n_9.lt; obtain ⟨_,_,_,_,_,_,_,_,_,_,_⟩ := id r_9; obtain ⟨_,_,_,_,_,_⟩ := id n_9; have HRf : factorQ c.L E F s = (T.mk 34 [] 0 (pos c.L s.1) [(T.mk k9 n9 m9 q9 l9)], s9) := HRk.trans (Q.bind_eq (hFs.trans hr9)); have pc2 := p9.c2; have pz := p9.z; have pl := p9.lt; go_wp2; refine node_ret Tryz.results131 rfl (NB.alloc (RB.five ?_) _) rfl ?_
              · exact RB.put (RB.put r_9 _ _ _) _ _ _
              refine QSt.ok (a := (T.mk 34 [] 0 (pos c.L s.1) [(T.mk k9 n9 m9 q9 l9)])) (HRf) ⟨_, rfl, ?_⟩ ?_ ?_ (by omega)
              · refine LR.wide (lo := b9) (hi := w9.heap.size + 1) (ts := [(T.mk k9 n9 m9 q9 l9)]) ?_ (by omega) (by first | omega | (simp <;> omega))
                exact (LR.build1 _ (t := (T.mk k9 n9 m9 q9 l9)) (sv := .slice ad9 l9.length cp9) (LR.wide (lo := b9) (hi := w9.heap.size) (ts := l9) (by exact LR.p5 (LR.put (LR.put lr9 (by omega) _ _) (by omega) _ _) (by omega)) (by omega) (by first | omega | (simp <;> omega))) (by simp) rfl (by omega))
              · exact gb_alloc (gb_p5 (gb_set (gb_put G9 (by omega) _ _) _ _) (by omega)) _
              · exact RS.alloc (RS.p5 (RS.backF (RS.put p9 HL.out (by omega) _ _) hd20 _ (by simp)) HL.out (by omega)) _
          · obtain ⟨-, hw6, hsx6⟩ := isQ_true hr6
            subst hsx6
            have HRk : factorQ c.L E F s = ((T.mk 32 [] 0 (pos c.L s.1) [], (s.1 + 1, none))) := by
              unfold factorQ
              rw [if_pos hok, if_neg hnn4, if_neg hnn5, if_pos hw6]
            go_wp2; refine node_ret Tryz.results131 rfl (RB.five ?_) rfl ?_
            · exact RB.put r_6 _ _ _
            refine QSt.ok (a := (T.mk 32 [] 0 (pos c.L s.1) [])) (HRk) ⟨_, rfl, ?_⟩ ?_ ?_ (by omega)
            · exact LR.nil _ _
            · exact gb_p5 (gb_put G6 (by omega) _ _) (by omega)
            · exact RS.p5 (RS.put p6 HL.out (by omega) _ _) HL.out (by omega)
        · obtain ⟨-, hw5, hsx5⟩ := isQ_true hr5
          subst hsx5
          have HRk : factorQ c.L E F s = ((T.mk 31 [] 0 (pos c.L s.1) [], (s.1 + 1, none))) := by
            unfold factorQ
            rw [if_pos hok, if_neg hnn4, if_pos hw5]
          go_wp2; refine node_ret Tryz.results131 rfl (RB.five ?_) rfl ?_
          · exact RB.put r_5 _ _ _
          refine QSt.ok (a := (T.mk 31 [] 0 (pos c.L s.1) [])) (HRk) ⟨_, rfl, ?_⟩ ?_ ?_ (by omega)
          · exact LR.nil _ _
          · exact gb_p5 (gb_put G5 (by omega) _ _) (by omega)
          · exact RS.p5 (RS.put p5 HL.out (by omega) _ _) HL.out (by omega)
      · obtain ⟨-, hw4, hsx4⟩ := isQ_true hr4
        subst hsx4
        have HRk : factorQ c.L E F s = ((T.mk 30 [] 0 (pos c.L s.1) [], (s.1 + 1, none))) := by
          unfold factorQ
          rw [if_pos hok, if_pos hw4]
        go_wp2; refine node_ret Tryz.results131 rfl (RB.five ?_) rfl ?_
        · exact RB.put r_4 _ _ _
        refine QSt.ok (a := (T.mk 30 [] 0 (pos c.L s.1) [])) (HRk) ⟨_, rfl, ?_⟩ ?_ ?_ (by omega)
        · exact LR.nil _ _
        · exact gb_p5 (gb_put G4 (by omega) _ _) (by omega)
        · exact RS.p5 (RS.put p4 HL.out (by omega) _ _) HL.out (by omega)
    · obtain ⟨sb, hsb⟩ : ∃ sb : ByteArray, sb = ⟨(wd c.L s.1).toArray⟩ := ⟨_, rfl⟩
      have hl : sb.data.toList = wd c.L s.1 := by rw [hsb]
      have h0 : 0 < sb.size := by rw [bs_size, hl]; exact List.length_pos_iff.2 hne9
      have hd0 : isDigit ((sb[0]'h0).toNat : Int) = false := by rw [← headD_at sb h0, hl]; exact hnd9
      have hemp : sb.toList.isEmpty = false := by rw [empty_form]; simp only [decide_eq_false_iff_not]; omega
      rw [← hsb]; clear hsb hl; go_wp2_with fail; go_at_call 23; refine (rDigit_any _ _).mono ?_; rintro e _ ⟨rfl, rfl⟩; simp only [hd0]; go_wp2_with fail; go_at_call 29; refine (ris_any c _ s d kTRUE _ rfl (by decide) p3).mono ?_; rintro e w4 ⟨a4, s4, v4, hr4, rfl, rfl, hg4, p4, hi4⟩; have G4 : w.grownBy w4 (some c.rb) := gb_trans G3 hg4; have sz4 := hg4.size
      try simp at sz4
      have r_4 : RB w4 (w.heap.size) := RB.keep r_3 hg4 (by omega); have n_4 : NB w4 (w1.heap.size) (.int .i64 0) (.string ⟨#[]⟩) (.int .i64 0) (.int .i64 (pos c.L s.1)) (.slice none 0 0) := NB.keep n_3 hg4 (by omega); have r_lt4 := r_4.lt; have n_lt4 := n_4.lt; obtain ⟨_,_,_,_,_,_,_,_,_,_,_⟩ := id r_4; obtain ⟨_,_,_,_,_,_⟩ := id n_4; cases a4
      · obtain ⟨hsx4, hno4⟩ := isQ_false hr4
        have hnn4 : wd c.L s.1 ≠ kTRUE := fun h => hno4 ⟨hok, h⟩
        have hsy4 := hsx4.symm; subst hsy4; go_wp2_with fail; go_at_call 29; refine (ris_any c _ s d kFALSE _ rfl (by decide) p4).mono ?_; rintro e w5 ⟨a5, s5, v5, hr5, rfl, rfl, hg5, p5, hi5⟩; have G5 : w.grownBy w5 (some c.rb) := gb_trans G4 hg5; have sz5 := hg5.size
        try simp at sz5
        have r_5 : RB w5 (w.heap.size) := RB.keep r_4 hg5 (by omega); have n_5 : NB w5 (w1.heap.size) (.int .i64 0) (.string ⟨#[]⟩) (.int .i64 0) (.int .i64 (pos c.L s.1)) (.slice none 0 0) := NB.keep n_4 hg5 (by omega); have r_lt5 := r_5.lt; have n_lt5 := n_5.lt; obtain ⟨_,_,_,_,_,_,_,_,_,_,_⟩ := id r_5; obtain ⟨_,_,_,_,_,_⟩ := id n_5; cases a5
        · obtain ⟨hsx5, hno5⟩ := isQ_false hr5
          have hnn5 : wd c.L s.1 ≠ kFALSE := fun h => hno5 ⟨hok, h⟩
          have hsy5 := hsx5.symm; subst hsy5; go_wp2_with fail; go_at_call 29; refine (ris_any c _ s d kNIL _ rfl (by decide) p5).mono ?_; rintro e w6 ⟨a6, s6, v6, hr6, rfl, rfl, hg6, p6, hi6⟩; have G6 : w.grownBy w6 (some c.rb) := gb_trans G5 hg6; have sz6 := hg6.size
          try simp at sz6
          have r_6 : RB w6 (w.heap.size) := RB.keep r_5 hg6 (by omega); have n_6 : NB w6 (w1.heap.size) (.int .i64 0) (.string ⟨#[]⟩) (.int .i64 0) (.int .i64 (pos c.L s.1)) (.slice none 0 0) := NB.keep n_5 hg6 (by omega); have r_lt6 := r_6.lt; have n_lt6 := n_6.lt; obtain ⟨_,_,_,_,_,_,_,_,_,_,_⟩ := id r_6; obtain ⟨_,_,_,_,_,_⟩ := id n_6; cases a6
          · obtain ⟨hsx6, hno6⟩ := isQ_false hr6
            have hnn6 : wd c.L s.1 ≠ kNIL := fun h => hno6 ⟨hok, h⟩
            have hsy6 := hsx6.symm; subst hsy6; go_wp2_with fail; go_at_call 29; refine (ris_any c _ s d s_tilde _ rfl (by decide) p6).mono ?_; rintro e w7 ⟨a7, s7, v7, hr7, rfl, rfl, hg7, p7, hi7⟩; have G7 : w.grownBy w7 (some c.rb) := gb_trans G6 hg7; have sz7 := hg7.size
            try simp at sz7
            have r_7 : RB w7 (w.heap.size) := RB.keep r_6 hg7 (by omega); have n_7 : NB w7 (w1.heap.size) (.int .i64 0) (.string ⟨#[]⟩) (.int .i64 0) (.int .i64 (pos c.L s.1)) (.slice none 0 0) := NB.keep n_6 hg7 (by omega); have r_lt7 := r_7.lt; have n_lt7 := n_7.lt; obtain ⟨_,_,_,_,_,_,_,_,_,_,_⟩ := id r_7; obtain ⟨_,_,_,_,_,_⟩ := id n_7; cases a7
            · obtain ⟨hsx7, hno7⟩ := isQ_false hr7
              have hnn7 : wd c.L s.1 ≠ s_tilde := fun h => hno7 ⟨hok, h⟩
              have hsy7 := hsx7.symm; subst hsy7; go_wp2_with fail; go_at_call 29; refine (ris_any c _ s d s_lp _ rfl (by decide) p7).mono ?_; rintro e w8 ⟨a8, s8, v8, hr8, rfl, rfl, hg8, p8, hi8⟩; have G8 : w.grownBy w8 (some c.rb) := gb_trans G7 hg8; have sz8 := hg8.size
              try simp at sz8
              have r_8 : RB w8 (w.heap.size) := RB.keep r_7 hg8 (by omega); have n_8 : NB w8 (w1.heap.size) (.int .i64 0) (.string ⟨#[]⟩) (.int .i64 0) (.int .i64 (pos c.L s.1)) (.slice none 0 0) := NB.keep n_7 hg8 (by omega); have r_lt8 := r_8.lt; have n_lt8 := n_8.lt; obtain ⟨_,_,_,_,_,_,_,_,_,_,_⟩ := id r_8; obtain ⟨_,_,_,_,_,_⟩ := id n_8; cases a8
              · obtain ⟨hsx8, hno8⟩ := isQ_false hr8
                have hnn8 : wd c.L s.1 ≠ s_lp := fun h => hno8 ⟨hok, h⟩
                have hsy8 := hsx8.symm; subst hsy8; go_wp2_with fail; go_at_call 70; refine (rdesig_any c _ s d E p8 hE).mono ?_; rintro e w9 ⟨⟨k9, n9, m9, q9, l9⟩, s9, v9, hr9, rfl, ⟨sv9, rfl, lr9⟩, hg9, p9, hi9⟩; simp only [T.kind, T.name, T.num, T.at', T.subs] at lr9 ⊢; obtain ⟨ad9, cp9, rfl⟩ := lr9.form; obtain ⟨b9, hb9, lr9⟩ : ∃ b, b = _ ∧ LR w9 (In b w9.heap.size) l9 (.slice ad9 l9.length cp9) := ⟨_, rfl, lr9⟩
                try simp at hb9
                have G9 : w.grownBy w9 (some c.rb) := gb_trans G8 hg9; have sz9 := hg9.size
                try simp at sz9
                have r_9 : RB w9 (w.heap.size) := RB.keep r_8 hg9 (by omega); have n_9 : NB w9 (w1.heap.size) (.int .i64 0) (.string ⟨#[]⟩) (.int .i64 0) (.int .i64 (pos c.L s.1)) (.slice none 0 0) := NB.keep n_8 hg9 (by omega); have r_lt9 := r_9.lt; have n_lt9 := n_9.lt; obtain ⟨_,_,_,_,_,_,_,_,_,_,_⟩ := id r_9; obtain ⟨_,_,_,_,_,_⟩ := id n_9; have hat := desigQ_at hr9; simp only [T.at'] at hat; subst hat
                have hnum : numOf (wd c.L s.1) = none := by unfold numOf; rw [if_neg hdg]
                have HRc : factorQ c.L E F s = (if s9.2 = none ∧ wd c.L s9.1 = s_lp then (givenQ c.L E).bind (fun l => Q.ret (.mk 33 [] 0 (pos c.L s.1) ((T.mk k9 n9 m9 (pos c.L s.1) l9) :: l))) s9 else ((T.mk k9 n9 m9 (pos c.L s.1) l9), s9)) := by
                  unfold factorQ
                  rw [if_pos hok, if_neg hnn4, if_neg hnn5, if_neg hnn6, if_neg hnn7, if_neg hnn8, hnum]
                  exact callQ_eq hr9
                go_wp2_with fail; go_at_call 12; refine (rok_any c _ s9 d (by exact RS.alloc p9 _)).mono ?_; rintro e w10 ⟨rfl, hg10⟩; have p10 : RS c w10 s9 d := RS.grown (by exact RS.alloc p9 _) hg10; have G10 : w.grownBy w10 (some c.rb) := gb_trans (by exact gb_alloc G9 _) (gb_some hg10 (some c.rb)); have sz10 := hg10.size
                try simp at sz10
                have r_10 : RB w10 (w.heap.size) := RB.kept (by exact RB.alloc r_9 _) hg10 (by simp); have n_10 : NB w10 (w1.heap.size) (.int .i64 0) (.string ⟨#[]⟩) (.int .i64 0) (.int .i64 (pos c.L s.1)) (.slice none 0 0) := NB.kept (by exact NB.alloc n_9 _) hg10 (by simp); have dd_10 : NB w10 (w9.heap.size) (.int .i64 k9) (.string ⟨n9.toArray⟩) (.int .i64 m9) (.int .i64 (pos c.L s.1)) (.slice ad9 l9.length cp9) := NB.kept (NB.new' (by simp)) hg10 (by simp); have y_10 : LR w10 (In (b9) (w9.heap.size)) (l9) (.slice ad9 l9.length cp9) := LR.grown (by exact LR.alloc lr9 _) hg10; have r_lt10 := r_10.lt; have n_lt10 := n_10.lt; have dd_lt10 := dd_10.lt; obtain ⟨_,_,_,_,_,_,_,_,_,_,_⟩ := id r_10; obtain ⟨_,_,_,_,_,_⟩ := id n_10; obtain ⟨_,_,_,_,_,_⟩ := id dd_10
                by_cases hok2 : s9.2 = none
                · have hokb2 : decide (s9.2 = none) = true := decide_eq_true hok2
                  try simp only [hokb2]
                  go_wp2_with fail; go_at_call 13; refine (rword_any c _ s9 d p10).mono ?_; rintro e w11 ⟨rfl, hg11⟩; have p11 : RS c w11 s9 d := RS.grown p10 hg11; have G11 : w.grownBy w11 (some c.rb) := gb_trans G10 (gb_some hg11 (some c.rb)); have sz11 := hg11.size
                  try simp at sz11
                  have r_11 : RB w11 (w.heap.size) := RB.kept r_10 hg11 (by simp); have n_11 : NB w11 (w1.heap.size) (.int .i64 0) (.string ⟨#[]⟩) (.int .i64 0) (.int .i64 (pos c.L s.1)) (.slice none 0 0) := NB.kept n_10 hg11 (by simp); have dd_11 : NB w11 (w9.heap.size) (.int .i64 k9) (.string ⟨n9.toArray⟩) (.int .i64 m9) (.int .i64 (pos c.L s.1)) (.slice ad9 l9.length cp9) := NB.kept dd_10 hg11 (by simp); have y_11 : LR w11 (In (b9) (w9.heap.size)) (l9) (.slice ad9 l9.length cp9) := LR.grown y_10 hg11; have r_lt11 := r_11.lt; have n_lt11 := n_11.lt; have dd_lt11 := dd_11.lt; obtain ⟨_,_,_,_,_,_,_,_,_,_,_⟩ := id r_11; obtain ⟨_,_,_,_,_,_⟩ := id n_11; obtain ⟨_,_,_,_,_,_⟩ := id dd_11
                  by_cases hlp : wd c.L s9.1 = s_lp
                  · have hwb : (wd c.L s9.1 == [40]) = true := by rw [hlp]; decide
                    rw [if_pos ⟨hok2, hlp⟩] at HRc; go_wp2_with fail; obtain ⟨w12, hw12⟩ : ∃ x : World, x = w11.setCell ⟨w1.heap.size, 0, none⟩ (.int .i64 33) := ⟨_, rfl⟩; rw [← hw12]
                    have p12 : RS c w12 s9 d := by rw [hw12]; exact RS.put p11 HL.out (by omega) _ _
                    have G12 : w.grownBy w12 (some c.rb) := by rw [hw12]; exact gb_put G11 (by omega) _ _
                    have sz12 : w11.heap.size ≤ w12.heap.size := by rw [hw12]; simp [World.setCell]
                    have sy12 : w12.heap.size ≤ w11.heap.size := by rw [hw12]; simp [World.setCell]
                    have r_12 : RB w12 (w.heap.size) := by rw [hw12]; exact RB.put r_11 _ _ _
                    have n_12 : NB w12 (w1.heap.size) (.int .i64 33) (.string ⟨#[]⟩) (.int .i64 0) (.int .i64 (pos c.L s.1)) (.slice none 0 0) := by rw [hw12]; exact NB.s0 n_11 _
                    have dd_12 : NB w12 (w9.heap.size) (.int .i64 k9) (.string ⟨n9.toArray⟩) (.int .i64 m9) (.int .i64 (pos c.L s.1)) (.slice ad9 l9.length cp9) := by rw [hw12]; exact NB.far dd_11 (by omega) _ _
                    have y_12 : LR w12 (In (b9) (w9.heap.size)) (l9) (.slice ad9 l9.length cp9) := by rw [hw12]; exact LR.put y_11 (by omega) _ _
                    clear hw12; have r_lt12 := r_12.lt; have n_lt12 := n_12.lt; have dd_lt12 := dd_12.lt; obtain ⟨_,_,_,_,_,_,_,_,_,_,_⟩ := id r_12; obtain ⟨_,_,_,_,_,_⟩ := id n_12; obtain ⟨_,_,_,_,_,_⟩ := id dd_12
                    go_region_law (first
                      | (go_simp
                         go_at_call 71; refine (rgiven_any c _ s9 d E (by first | with_reducible exact RS.drew p12 | with_reducible exact RS.drew (RS.alloc p12 _)) hE).mono ?_; rintro e w13 ⟨a13, s13, v13, hr13, rfl, ⟨lr13, ha13⟩, hg13, p13, hi13⟩; have HR13 : factorQ c.L E F s = _ := HRc.trans (Q.bind_eq hr13); have G13 : w.grownBy w13 (some c.rb) := gb_trans (by first | with_reducible exact gb_drew G12 | with_reducible exact gb_drew (gb_alloc G12 _)) hg13; have sz13 := hg13.size
                         try simp at sz13
                         have r_13 : RB w13 (w.heap.size) := RB.keep (by first | with_reducible exact RB.drew r_12 | with_reducible exact RB.drew (RB.alloc r_12 _)) hg13 (by omega); have n_13 : NB w13 (w1.heap.size) (.int .i64 33) (.string ⟨#[]⟩) (.int .i64 0) (.int .i64 (pos c.L s.1)) (.slice none 0 0) := NB.keep (by first | with_reducible exact NB.drew n_12 | with_reducible exact NB.drew (NB.alloc n_12 _)) hg13 (by omega); have dd_13 : NB w13 (w9.heap.size) (.int .i64 k9) (.string ⟨n9.toArray⟩) (.int .i64 m9) (.int .i64 (pos c.L s.1)) (.slice ad9 l9.length cp9) := NB.keep (by first | with_reducible exact NB.drew dd_12 | with_reducible exact NB.drew (NB.alloc dd_12 _)) hg13 (by omega); have y_13 : LR w13 (In (b9) (w9.heap.size)) (l9) (.slice ad9 l9.length cp9) := LR.call (by first | with_reducible exact LR.drew y_12 | with_reducible exact LR.drew (LR.alloc y_12 _)) hg13 (by omega); have r_lt13 := r_13.lt; have n_lt13 := n_13.lt; have dd_lt13 := dd_13.lt; obtain ⟨_,_,_,_,_,_,_,_,_,_,_⟩ := id r_13; obtain ⟨_,_,_,_,_,_⟩ := id n_13; obtain ⟨_,_,_,_,_,_⟩ := id dd_13; obtain ⟨ad13, cp13, rfl⟩ := lr13.form; obtain ⟨b13, hb13, lr13⟩ : ∃ b, b = _ ∧ LR w13 (In b w13.heap.size) a13 (.slice ad13 a13.length cp13) := ⟨_, rfl, lr13⟩
                         try simp at hb13)
                      | (have lb : LR w13 (fun k => In (b9) (w9.heap.size) k ∨ k = w12.heap.size) [(T.mk k9 n9 m9 (pos c.L s.1) l9)] (.slice (some ⟨w12.heap.size, 0, none⟩) 1 1) := (LR.build1S w12.drew (g := w12.heap.size) (S := In (b9) (w9.heap.size)) (t := (T.mk k9 n9 m9 (pos c.L s.1) l9)) (sv := .slice ad9 l9.length cp9) (cs := #[.int .i64 k9, .string ⟨n9.toArray⟩, .int .i64 m9, .int .i64 (pos c.L s.1), .slice ad9 l9.length cp9]) (LR.drew (y_12)) (fun k hk => Nat.lt_of_lt_of_le hk.2 (by omega)) rfl rfl).kept hg13 (fun b hb hs => by cases hb; rcases hs with hs | hs; (have h1 : b9 ≤ c.rb := hs.1; have h2 : c.rb < w9.heap.size := hs.2; omega); omega)
                         have hin : ∀ b, Value.ownBlock (.slice (some ⟨w12.heap.size, 0, none⟩) 1 1) = some b → b = w12.heap.size := fun b e => by simp [Value.ownBlock] at e; omega
                         refine step_appAny (v := .slice (some ⟨w12.heap.size, 0, none⟩) 1 1) (u := .slice ad13 a13.length cp13) rfl _ _ rfl (fun k => In (b9) (w9.heap.size) k ∨ (w12.heap.size ≤ k ∧ k ≤ w13.heap.size + 1)) rfl rfl lb lr13
                           (fun k hk e => by have h1 := hin k e; have h2 : b13 ≤ k := hk.1; have h3 : k < w13.heap.size := hk.2; omega) (fun k hk => hk.elim .inl (fun h => .inr ⟨by omega, by omega⟩)) (fun k hk => .inr ⟨by have h2 : b13 ≤ k := hk.1; omega, by have h3 : k < w13.heap.size := hk.2; omega⟩) (.inr ⟨by first | omega | (simp <;> omega), by first | omega | (simp <;> omega)⟩) (by simp; omega) ?_
                         intro v14 w14 lr14 hg14; obtain ⟨ad14, cp14, e14⟩ := lr14.form; rw [List.length_append, List.length_singleton] at e14; subst e14; have sz14 := hg14.size
                         try simp at sz14
                         have r_14 : RB w14 (w.heap.size) := RB.kept r_13 hg14 (fun e => by have := hin _ e.symm; omega); have n_14 : NB w14 (w1.heap.size) (.int .i64 33) (.string ⟨#[]⟩) (.int .i64 0) (.int .i64 (pos c.L s.1)) (.slice none 0 0) := NB.kept n_13 hg14 (fun e => by have := hin _ e.symm; omega); have dd_14 : NB w14 (w9.heap.size) (.int .i64 k9) (.string ⟨n9.toArray⟩) (.int .i64 m9) (.int .i64 (pos c.L s.1)) (.slice ad9 l9.length cp9) := NB.kept dd_13 hg14 (fun e => by have := hin _ e.symm; omega); have p14 : RS c w14 s13 d := RS.own p13 HL.out hg14 (fun b hb => by have := hin b hb; omega); have G14 : w.grownBy w14 (some c.rb) := gb_own G13 hg14 (fun b hb => by have := hin b hb; omega); have r_lt14 := r_14.lt; have n_lt14 := n_14.lt; have dd_lt14 := dd_14.lt; obtain ⟨_,_,_,_,_,_,_,_,_,_,_⟩ := id r_14; obtain ⟨_,_,_,_,_,_⟩ := id n_14
                         obtain ⟨_,_,_,_,_,_⟩ := id dd_14)
                      | (have lb : LR (w13.alloc (.cells #[.int .i64 k9, .string ⟨n9.toArray⟩, .int .i64 m9, .int .i64 (pos c.L s.1), .slice ad9 l9.length cp9] 25)) (fun k => In (b9) (w9.heap.size) k ∨ k = w13.heap.size) [(T.mk k9 n9 m9 (pos c.L s.1) l9)] (.slice (some ⟨w13.heap.size, 0, none⟩) 1 1) := LR.build1S w13 (S := In (b9) (w9.heap.size)) (t := (T.mk k9 n9 m9 (pos c.L s.1) l9)) (sv := .slice ad9 l9.length cp9) (cs := #[.int .i64 k9, .string ⟨n9.toArray⟩, .int .i64 m9, .int .i64 (pos c.L s.1), .slice ad9 l9.length cp9]) (y_13) (fun k hk => Nat.lt_of_lt_of_le hk.2 (by omega)) rfl rfl
                         have hin : ∀ b, Value.ownBlock (.slice (some ⟨w13.heap.size, 0, none⟩) 1 1) = some b → b = w13.heap.size := fun b e => by simp [Value.ownBlock] at e; omega
                         refine step_appAny (v := .slice (some ⟨w13.heap.size, 0, none⟩) 1 1) (u := .slice ad13 a13.length cp13) rfl _ _ rfl (fun k => In (b9) (w9.heap.size) k ∨ (w12.heap.size ≤ k ∧ k ≤ w13.heap.size + 1)) rfl rfl lb (lr13.alloc _)
                           (fun k hk e => by have h1 := hin k e; have h2 : b13 ≤ k := hk.1; have h3 : k < w13.heap.size := hk.2; omega) (fun k hk => hk.elim .inl (fun h => .inr ⟨by omega, by omega⟩)) (fun k hk => .inr ⟨by have h2 : b13 ≤ k := hk.1; omega, by have h3 : k < w13.heap.size := hk.2; omega⟩) (.inr ⟨by first | omega | (simp <;> omega), by first | omega | (simp <;> omega)⟩) (by simp; omega) ?_
                         intro v14 w14 lr14 hg14; obtain ⟨ad14, cp14, e14⟩ := lr14.form; rw [List.length_append, List.length_singleton] at e14; subst e14; have sz14 := hg14.size
                         try simp at sz14
                         have r_14 : RB w14 (w.heap.size) := RB.kept (RB.alloc r_13 _) hg14 (fun e => by have := hin _ e.symm; omega); have n_14 : NB w14 (w1.heap.size) (.int .i64 33) (.string ⟨#[]⟩) (.int .i64 0) (.int .i64 (pos c.L s.1)) (.slice none 0 0) := NB.kept (NB.alloc n_13 _) hg14 (fun e => by have := hin _ e.symm; omega); have dd_14 : NB w14 (w9.heap.size) (.int .i64 k9) (.string ⟨n9.toArray⟩) (.int .i64 m9) (.int .i64 (pos c.L s.1)) (.slice ad9 l9.length cp9) := NB.kept (NB.alloc dd_13 _) hg14 (fun e => by have := hin _ e.symm; omega); have p14 : RS c w14 s13 d := RS.own (RS.alloc p13 _) HL.out hg14 (fun b hb => by have := hin b hb; omega); have G14 : w.grownBy w14 (some c.rb) := gb_own (gb_alloc G13 _) hg14 (fun b hb => by have := hin b hb; omega); have r_lt14 := r_14.lt; have n_lt14 := n_14.lt; have dd_lt14 := dd_14.lt; obtain ⟨_,_,_,_,_,_,_,_,_,_,_⟩ := id r_14; obtain ⟨_,_,_,_,_,_⟩ := id n_14
                         obtain ⟨_,_,_,_,_,_⟩ := id dd_14))
                    all_goals
                      have lz14 : LR w14 (In (b9) w14.heap.size) ((T.mk k9 n9 m9 (pos c.L s.1) l9) :: a13) (.slice ad14 (1 + a13.length) cp14) := lr14.bounded.mono (fun k hk => ⟨hk.1.elim (fun h => by first | exact h.1 | (have h1 : 0 ≤ k := h.1; have h2 : k < 0 := h.2; omega)) (fun h => by omega), hk.2⟩); go_wp2; refine node_ret Tryz.results131 rfl (RB.five ?_) rfl ?_
                      · exact RB.put r_14 _ _ _
                      refine QSt.ok (a := (T.mk 33 [] 0 (pos c.L s.1) ((T.mk k9 n9 m9 (pos c.L s.1) l9) :: a13))) (HR13) ⟨_, rfl, ?_⟩ ?_ ?_ (by omega)
                      · refine LR.wide (lo := b9) (hi := w14.heap.size) (ts := ((T.mk k9 n9 m9 (pos c.L s.1) l9) :: a13)) ?_ (by omega) (by first | omega | (simp <;> omega))
                        exact LR.p5 (LR.put lz14 (by omega) _ _) (by omega)
                      · exact gb_p5 (gb_put G14 (by omega) _ _) (by omega)
                      · exact RS.p5 (RS.put p14 HL.out (by omega) _ _) HL.out (by omega)
                  have hwb : (wd c.L s9.1 == [40]) = false := by simpa [s_lp] using hlp
                  rw [if_neg (fun h => hlp h.2)] at HRc; go_wp2; refine node_ret Tryz.results131 rfl (RB.five ?_) rfl ?_
                  · exact r_11
                  refine QSt.ok (a := (T.mk k9 n9 m9 (pos c.L s.1) l9)) (HRc) ⟨_, rfl, ?_⟩ ?_ ?_ (by omega)
                  · refine LR.wide (lo := b9) (hi := w9.heap.size) (ts := l9) ?_ (by omega) (by first | omega | (simp <;> omega))
                    exact LR.p5 y_11 (by omega)
                  · exact gb_p5 G11 (by omega)
                  · exact RS.p5 p11 HL.out (by omega)
                have hokb2 : decide (s9.2 = none) = false := decide_eq_false hok2
                try simp only [hokb2]
                rw [if_neg (fun h => hok2 h.1)] at HRc; go_wp2; refine node_ret Tryz.results131 rfl (RB.five ?_) rfl ?_
                · exact r_10
                refine QSt.ok (a := (T.mk k9 n9 m9 (pos c.L s.1) l9)) (HRc) ⟨_, rfl, ?_⟩ ?_ ?_ (by omega)
                · refine LR.wide (lo := b9) (hi := w9.heap.size) (ts := l9) ?_ (by omega) (by first | omega | (simp <;> omega))
                  exact LR.p5 y_10 (by omega)
                · exact gb_p5 G10 (by omega)
                · exact RS.p5 p10 HL.out (by omega)
              · obtain ⟨-, hw8, hsx8⟩ := isQ_true hr8
                subst hsx8
                have HRk : factorQ c.L E F s = (E.bind (fun e => (needQ c.L s_rp).bind fun _ => Q.ret e) (s.1 + 1, none)) := by
                  unfold factorQ
                  rw [if_pos hok, if_neg hnn4, if_neg hnn5, if_neg hnn6, if_neg hnn7, if_pos hw8]
                go_wp2_with fail; go_at_call 68; refine (hE _ (s.1 + 1, none) p8).mono ?_; rintro e w9 ⟨⟨k9, n9, m9, q9, l9⟩, s9, v9, hr9, rfl, ⟨sv9, rfl, lr9⟩, hg9, p9, hi9⟩; have HR9 : factorQ c.L E F s = _ := HRk.trans (Q.bind_eq hr9); simp only [T.kind, T.name, T.num, T.at', T.subs] at lr9 ⊢; obtain ⟨ad9, cp9, rfl⟩ := lr9.form; obtain ⟨b9, hb9, lr9⟩ : ∃ b, b = _ ∧ LR w9 (In b w9.heap.size) l9 (.slice ad9 l9.length cp9) := ⟨_, rfl, lr9⟩
                try simp at hb9
                have G9 : w.grownBy w9 (some c.rb) := gb_trans G8 hg9; have sz9 := hg9.size
                try simp at sz9
                have r_9 : RB w9 (w.heap.size) := RB.keep r_8 hg9 (by omega); have n_9 : NB w9 (w1.heap.size) (.int .i64 0) (.string ⟨#[]⟩) (.int .i64 0) (.int .i64 (pos c.L s.1)) (.slice none 0 0) := NB.keep n_8 hg9 (by omega); have r_lt9 := r_9.lt; have n_lt9 := n_9.lt; obtain ⟨_,_,_,_,_,_,_,_,_,_,_⟩ := id r_9; obtain ⟨_,_,_,_,_,_⟩ := id n_9; go_wp2_with fail; go_at_call 27; refine (rneed_any c _ s9 d s_rp _ rfl (by decide) (by exact RS.p5 p9 HL.out (by omega))).mono ?_; rintro e w10 ⟨a10, s10, v10, hr10, rfl, -, hg10, p10, hi10⟩; have HR10 : factorQ c.L E F s = _ := HR9.trans (Q.bind_eq hr10); have G10 : w.grownBy w10 (some c.rb) := gb_trans (by exact gb_p5 G9 (by omega)) hg10; have sz10 := hg10.size
                try simp at sz10
                have r_10 : RB w10 (w.heap.size) := RB.keep (by exact RB.p5 r_9) hg10 (by omega); have n_10 : NB w10 (w1.heap.size) (.int .i64 k9) (.string ⟨n9.toArray⟩) (.int .i64 m9) (.int .i64 q9) (.slice ad9 l9.length cp9) := NB.keep (by exact NB.s4 (NB.s3 (NB.s2 (NB.s1 (NB.s0 n_9 _) _) _) _) _) hg10 (by omega); have y_10 : LR w10 (In (b9) (w9.heap.size)) (l9) (.slice ad9 l9.length cp9) := LR.call (by exact LR.p5 lr9 (by omega)) hg10 (by omega); have r_lt10 := r_10.lt; have n_lt10 := n_10.lt; obtain ⟨_,_,_,_,_,_,_,_,_,_,_⟩ := id r_10; obtain ⟨_,_,_,_,_,_⟩ := id n_10; go_wp2; refine node_ret Tryz.results131 rfl (RB.five ?_) rfl ?_
                · exact r_10
                refine QSt.ok (a := (T.mk k9 n9 m9 q9 l9)) (HR10) ⟨_, rfl, ?_⟩ ?_ ?_ (by omega)
                · refine LR.wide (lo := b9) (hi := w9.heap.size) (ts := l9) ?_ (by omega) (by first | omega | (simp <;> omega))
                  exact LR.p5 y_10 (by omega)
                · exact gb_p5 G10 (by omega)
                · exact RS.p5 p10 HL.out (by omega)
            · obtain ⟨-, hw7, hsx7⟩ := isQ_true hr7
              subst hsx7
              have HRk : factorQ c.L E F s = (F.bind (fun f => Q.ret (.mk 34 [] 0 (pos c.L s.1) [f])) (s.1 + 1, none)) := by
                unfold factorQ
                rw [if_pos hok, if_neg hnn4, if_neg hnn5, if_neg hnn6, if_pos hw7]
              go_wp2_with fail; go_at_call 44; refine (rdeeper_any c _ (s.1 + 1, none) d hd20 p7).mono ?_; rintro e w8 ⟨rfl, hg8, p8⟩; obtain ⟨s8, hs8⟩ : ∃ x, x = (if d < 20 then ((s.1 + 1, none) : QS) else (stopQ c.L 3 (s.1 + 1, none)).2) := ⟨_, rfl⟩; rw [← hs8] at p8
              have hFs : F (s.1 + 1, none) = F' s8 := by rw [hs8]; exact hFF hd20 _
              have hi8 : s8.1 = s.1 + 1 := by
                rw [hs8]
                split
                · rfl
                · exact (stopQ_some c.L 3 (s.1 + 1, none)).2
              clear hs8; have G8 : w.grownBy w8 (some c.rb) := gb_trans G7 hg8; have sz8 := hg8.size
              try simp at sz8
              have r_8 : RB w8 (w.heap.size) := RB.keep r_7 hg8 (by omega); have n_8 : NB w8 (w1.heap.size) (.int .i64 0) (.string ⟨#[]⟩) (.int .i64 0) (.int .i64 (pos c.L s.1)) (.slice none 0 0) := NB.keep n_7 hg8 (by omega); have r_lt8 := r_8.lt; have n_lt8 := n_8.lt; obtain ⟨_,_,_,_,_,_,_,_,_,_,_⟩ := id r_8; obtain ⟨_,_,_,_,_,_⟩ := id n_8; go_wp2_with fail; go_at_call 131; refine (hF hd20 _ s8 (by exact RS.put p8 HL.out (by omega) _ _)).mono ?_; rintro e w9 ⟨⟨k9, n9, m9, q9, l9⟩, s9, v9, hr9, rfl, ⟨sv9, rfl, lr9⟩, hg9, p9, hi9⟩; simp only [T.kind, T.name, T.num, T.at', T.subs] at lr9 ⊢; obtain ⟨ad9, cp9, rfl⟩ := lr9.form; obtain ⟨b9, hb9, lr9⟩ : ∃ b, b = _ ∧ LR w9 (In b w9.heap.size) l9 (.slice ad9 l9.length cp9) := ⟨_, rfl, lr9⟩
              try simp at hb9
              have G9 : w.grownBy w9 (some c.rb) := gb_trans (by exact gb_put G8 (by omega) _ _) hg9; have sz9 := hg9.size
              try simp at sz9
              have r_9 : RB w9 (w.heap.size) := RB.keep (by exact RB.put r_8 _ _ _) hg9 (by omega); have n_9 : NB w9 (w1.heap.size) (.int .i64 34) (.string ⟨#[]⟩) (.int .i64 0) (.int .i64 (pos c.L s.1)) (.slice none 0 0) := NB.keep (by exact NB.s0 n_8 _) hg9 (by omega); have r_lt9 := r_9.lt; have n_lt9 := n_9.lt; obtain ⟨_,_,_,_,_,_,_,_,_,_,_⟩ := id r_9; obtain ⟨_,_,_,_,_,_⟩ := id n_9; have HRf : factorQ c.L E F s = (T.mk 34 [] 0 (pos c.L s.1) [(T.mk k9 n9 m9 q9 l9)], s9) := HRk.trans (Q.bind_eq (hFs.trans hr9)); have pc2 := p9.c2; have pz := p9.z; have pl := p9.lt; go_wp2; refine node_ret Tryz.results131 rfl (NB.alloc (RB.five ?_) _) rfl ?_
              · exact RB.put (RB.put r_9 _ _ _) _ _ _
              refine QSt.ok (a := (T.mk 34 [] 0 (pos c.L s.1) [(T.mk k9 n9 m9 q9 l9)])) (HRf) ⟨_, rfl, ?_⟩ ?_ ?_ (by omega)
              · refine LR.wide (lo := b9) (hi := w9.heap.size + 1) (ts := [(T.mk k9 n9 m9 q9 l9)]) ?_ (by omega) (by first | omega | (simp <;> omega))
                exact (LR.build1 _ (t := (T.mk k9 n9 m9 q9 l9)) (sv := .slice ad9 l9.length cp9) (LR.wide (lo := b9) (hi := w9.heap.size) (ts := l9) (by exact LR.p5 (LR.put (LR.put lr9 (by omega) _ _) (by omega) _ _) (by omega)) (by omega) (by first | omega | (simp <;> omega))) (by simp) rfl (by omega))
              · exact gb_alloc (gb_p5 (gb_set (gb_put G9 (by omega) _ _) _ _) (by omega)) _
              · exact RS.alloc (RS.p5 (RS.backF (RS.put p9 HL.out (by omega) _ _) hd20 _ (by simp)) HL.out (by omega)) _
          · obtain ⟨-, hw6, hsx6⟩ := isQ_true hr6
            subst hsx6
            have HRk : factorQ c.L E F s = ((T.mk 32 [] 0 (pos c.L s.1) [], (s.1 + 1, none))) := by
              unfold factorQ
              rw [if_pos hok, if_neg hnn4, if_neg hnn5, if_pos hw6]
            go_wp2; refine node_ret Tryz.results131 rfl (RB.five ?_) rfl ?_
            · exact RB.put r_6 _ _ _
            refine QSt.ok (a := (T.mk 32 [] 0 (pos c.L s.1) [])) (HRk) ⟨_, rfl, ?_⟩ ?_ ?_ (by omega)
            · exact LR.nil _ _
            · exact gb_p5 (gb_put G6 (by omega) _ _) (by omega)
            · exact RS.p5 (RS.put p6 HL.out (by omega) _ _) HL.out (by omega)
        · obtain ⟨-, hw5, hsx5⟩ := isQ_true hr5
          subst hsx5
          have HRk : factorQ c.L E F s = ((T.mk 31 [] 0 (pos c.L s.1) [], (s.1 + 1, none))) := by
            unfold factorQ
            rw [if_pos hok, if_neg hnn4, if_pos hw5]
          go_wp2; refine node_ret Tryz.results131 rfl (RB.five ?_) rfl ?_
          · exact RB.put r_5 _ _ _
          refine QSt.ok (a := (T.mk 31 [] 0 (pos c.L s.1) [])) (HRk) ⟨_, rfl, ?_⟩ ?_ ?_ (by omega)
          · exact LR.nil _ _
          · exact gb_p5 (gb_put G5 (by omega) _ _) (by omega)
          · exact RS.p5 (RS.put p5 HL.out (by omega) _ _) HL.out (by omega)
      · obtain ⟨-, hw4, hsx4⟩ := isQ_true hr4
        subst hsx4
        have HRk : factorQ c.L E F s = ((T.mk 30 [] 0 (pos c.L s.1) [], (s.1 + 1, none))) := by
          unfold factorQ
          rw [if_pos hok, if_pos hw4]
        go_wp2; refine node_ret Tryz.results131 rfl (RB.five ?_) rfl ?_
        · exact RB.put r_4 _ _ _
        refine QSt.ok (a := (T.mk 30 [] 0 (pos c.L s.1) [])) (HRk) ⟨_, rfl, ?_⟩ ?_ ?_ (by omega)
        · exact LR.nil _ _
        · exact gb_p5 (gb_put G4 (by omega) _ _) (by omega)
        · exact RS.p5 (RS.put p4 HL.out (by omega) _ _) HL.out (by omega)
  have hokb : decide (s.2 = none) = false := decide_eq_false hok
  try simp only [hokb]
  have HRb : factorQ c.L E F s = (T.mk 0 [] 0 (pos c.L s.1) [], s) := by
    unfold factorQ
    rw [if_neg hok]
  go_wp2; refine node_ret Tryz.results131 rfl (RB.five ?_) rfl ?_
  · exact r_3
  refine QSt.ok (a := (T.mk 0 [] 0 (pos c.L s.1) [])) (HRb) ⟨_, rfl, ?_⟩ ?_ ?_ (by omega)
  · exact LR.nil _ _
  · exact gb_p5 G3 (by omega)
  · exact RS.p5 p3 HL.out (by omega)
end Go.Proofs.YtbphiiaoncakfaaGreatDoor
