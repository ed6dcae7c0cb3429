/- The document's reader: modules. -/
import Derived.Test.YtbphiiaoncakfaaGreatDoorG25
namespace Go.Proofs.YtbphiiaoncakfaaGreatDoor
open Go.RowKit

set_option maxRecDepth 100000 in
set_option maxHeartbeats 20000000 in
theorem rmodule_any (c : RC) (w : World) (s : QS) (d : Nat) (h : RS c w s d) (hC : ∀ (w : World) (s : QS), RS c w s d → Calls Tryz.prog 42 #[.pointer (some ⟨c.rb, 0, none⟩), .int .i64 4] w (QSt c w s d (fun w' t v => TR w' w.heap.size w'.heap.size t v) (constantQ c.L s))) (hT : ∀ (w : World) (s : QS), RS c w s d → Calls Tryz.prog 42 #[.pointer (some ⟨c.rb, 0, none⟩), .int .i64 5] w (QSt c w s d (fun w' t v => TR w' w.heap.size w'.heap.size t v) (typeDeclQ c.L s))) (hV : ∀ (w : World) (s : QS), RS c w s d → Calls Tryz.prog 42 #[.pointer (some ⟨c.rb, 0, none⟩), .int .i64 6] w (QSt c w s d (fun w' t v => TR w' w.heap.size w'.heap.size t v) (variableQ c.L s))) (hP : QOK c d 31 (procedureQ c.L)) (hB : QOK c d 32 (actsQ c.L 20)) :
    Calls Tryz.prog 11 #[.pointer (some ⟨c.rb, 0, none⟩)] w (QSt c w s d (fun w' t v => TR w' w.heap.size w'.heap.size t v) (moduleQ c.L s)) := by
  have HP := hide h; have HL := hide h.low; have hb := h.lt; have hfew := h.good.few; clear h
  go_enter Tryz.func11, Tryz.ntmps11
  go_wp2_with fail; go_at_call 26; refine (rat_any c _ s d (by exact RS.alloc HP.out _)).mono ?_; rintro e w1 ⟨rfl, hg1⟩; have p1 : RS c w1 s d := RS.grown (by exact RS.alloc HP.out _) hg1; have G1 : w.grownBy w1 (some c.rb) := gb_trans (by exact gb_alloc (gb_refl w (some c.rb)) _) (gb_some hg1 (some c.rb)); have sz1 := hg1.size
  try simp at sz1
  have r_1 : RB w1 (w.heap.size) := RB.kept (RB.new' (by simp)) hg1 (by simp); have r_lt1 := r_1.lt; obtain ⟨_, _, _, _, _, r0_1, r1_1, r2_1, r3_1, r4_1, r5_1⟩ := id r_1
  have HRx1 : moduleQ c.L s = (((needQ c.L kMODULE).bind fun _ => (nameQ c.L).bind fun x => (needQ c.L s_semi).bind fun _ => (importsQ c.L).bind fun m1 => (sectionQ c.L kCONST (constantQ c.L)).bind fun m2 => (sectionQ c.L kTYPE (typeDeclQ c.L)).bind fun m3 => (sectionQ c.L kVAR (variableQ c.L)).bind fun m4 => (proceduresQ c.L).bind fun m5 => (bodyQ c.L).bind fun m6 => (endingQ c.L x).bind fun _ => (needQ c.L s_dot).bind fun _ => Q.ret (.mk 2 x 0 (pos c.L s.1) [m1, m2, m3, m4, m5, m6])) s) := rfl
  go_wp2_with fail; go_at_call 27; refine (rneed_any c _ s d kMODULE _ rfl (by decide) (by exact RS.alloc p1 _)).mono ?_; rintro e w2 ⟨a2, s2, v2, hr2, rfl, -, hg2, p2, hi2⟩; have HR2 : moduleQ c.L s = _ := HRx1.trans (Q.bind_eq hr2); have G2 : w.grownBy w2 (some c.rb) := gb_trans (by exact gb_alloc G1 _) hg2; have sz2 := hg2.size
  try simp at sz2
  have r_2 : RB w2 (w.heap.size) := RB.keep (by exact RB.alloc r_1 _) hg2 (by omega); have n_2 : NB w2 (w1.heap.size) (.int .i64 2) (.string ⟨#[]⟩) (.int .i64 0) (.int .i64 (pos c.L s.1)) (.slice none 0 0) := NB.keep (NB.new' (by simp)) hg2 (by omega); have r_lt2 := r_2.lt; have n_lt2 := n_2.lt; obtain ⟨_, _, _, _, _, r0_2, r1_2, r2_2, r3_2, r4_2, r5_2⟩ := id r_2; obtain ⟨n0_2, n1_2, n2_2, n3_2, n4_2, n5_2⟩ := id n_2; go_wp2_with fail; go_at_call 28; refine (rname_any c _ s2 d p2).mono ?_; rintro e w3 ⟨a3, s3, v3, hr3, rfl, ⟨rfl, hl3⟩, hg3, p3, hi3⟩; have HR3 : moduleQ c.L s = _ := HR2.trans (Q.bind_eq hr3); have G3 : w.grownBy w3 (some c.rb) := gb_trans G2 hg3; have sz3 := hg3.size
  try simp at sz3
  have r_3 : RB w3 (w.heap.size) := RB.keep r_2 hg3 (by omega); have n_3 : NB w3 (w1.heap.size) (.int .i64 2) (.string ⟨#[]⟩) (.int .i64 0) (.int .i64 (pos c.L s.1)) (.slice none 0 0) := NB.keep n_2 hg3 (by omega); have r_lt3 := r_3.lt; have n_lt3 := n_3.lt; obtain ⟨_, _, _, _, _, r0_3, r1_3, r2_3, r3_3, r4_3, r5_3⟩ := id r_3; obtain ⟨n0_3, n1_3, n2_3, n3_3, n4_3, n5_3⟩ := id n_3; go_wp2_with fail; go_at_call 27; refine (rneed_any c _ s3 d s_semi _ rfl (by decide) (by exact RS.put p3 HL.out (by omega) _ _)).mono ?_; rintro e w4 ⟨a4, s4, v4, hr4, rfl, -, hg4, p4, hi4⟩; have HR4 : moduleQ c.L s = _ := HR3.trans (Q.bind_eq hr4); have G4 : w.grownBy w4 (some c.rb) := gb_trans (by exact gb_put G3 (by omega) _ _) hg4; have sz4 := hg4.size
  try simp at sz4
  have r_4 : RB w4 (w.heap.size) := RB.keep (by exact RB.put r_3 _ _ _) hg4 (by omega); have n_4 : NB w4 (w1.heap.size) (.int .i64 2) (.string ⟨a3.toArray⟩) (.int .i64 0) (.int .i64 (pos c.L s.1)) (.slice none 0 0) := NB.keep (by exact NB.s1 n_3 _) hg4 (by omega); have r_lt4 := r_4.lt; have n_lt4 := n_4.lt; obtain ⟨_, _, _, _, _, r0_4, r1_4, r2_4, r3_4, r4_4, r5_4⟩ := id r_4; obtain ⟨n0_4, n1_4, n2_4, n3_4, n4_4, n5_4⟩ := id n_4; go_wp2_with fail; go_at_call 26; refine (rat_any c _ s4 d p4).mono ?_; rintro e w5 ⟨rfl, hg5⟩; have p5 : RS c w5 s4 d := RS.grown p4 hg5; have G5 : w.grownBy w5 (some c.rb) := gb_trans G4 (gb_some hg5 (some c.rb)); have sz5 := hg5.size
  try simp at sz5
  have r_5 : RB w5 (w.heap.size) := RB.kept r_4 hg5 (by simp); have n_5 : NB w5 (w1.heap.size) (.int .i64 2) (.string ⟨a3.toArray⟩) (.int .i64 0) (.int .i64 (pos c.L s.1)) (.slice none 0 0) := NB.kept n_4 hg5 (by simp); have r_lt5 := r_5.lt; have n_lt5 := n_5.lt; obtain ⟨_, _, _, _, _, r0_5, r1_5, r2_5, r3_5, r4_5, r5_5⟩ := id r_5; obtain ⟨n0_5, n1_5, n2_5, n3_5, n4_5, n5_5⟩ := id n_5
  go_upto_if 22 with (go_at_call 29; refine (ris_any c _ s4 d kIMPORT _ rfl (by decide) (by exact RS.alloc p5 _)).mono ?_; rintro e w6 ⟨a6, s6, v6, hr6, rfl, rfl, hg6, p6, hi6⟩)
  have G6 : w.grownBy w6 (some c.rb) := gb_trans (by exact gb_alloc G5 _) hg6; have sz6 := hg6.size
  try simp at sz6
  have r_6 : RB w6 (w.heap.size) := RB.keep (by exact RB.alloc r_5 _) hg6 (by omega); have n_6 : NB w6 (w1.heap.size) (.int .i64 2) (.string ⟨a3.toArray⟩) (.int .i64 0) (.int .i64 (pos c.L s.1)) (.slice none 0 0) := NB.keep (by exact NB.alloc n_5 _) hg6 (by omega); have im_6 : NB w6 (w5.heap.size) (.int .i64 1) (.string ⟨#[]⟩) (.int .i64 0) (.int .i64 (pos c.L s4.1)) (.slice none 0 0) := NB.keep (NB.new' (by simp)) hg6 (by omega); have r_lt6 := r_6.lt; have n_lt6 := n_6.lt; have im_lt6 := im_6.lt; obtain ⟨_, _, _, _, _, r0_6, r1_6, r2_6, r3_6, r4_6, r5_6⟩ := id r_6; obtain ⟨n0_6, n1_6, n2_6, n3_6, n4_6, n5_6⟩ := id n_6; obtain ⟨im0_6, im1_6, im2_6, im3_6, im4_6, im5_6⟩ := id im_6
  go_cut [] from 23 (fun wx => ∃ (l : List T) (v : Value) (s9 : QS) (lo : Nat), NB wx (w5.heap.size) (.int .i64 1) (.string ⟨#[]⟩) (.int .i64 0) (.int .i64 (pos c.L s4.1)) v ∧ NB wx (w1.heap.size) (.int .i64 2) (.string ⟨a3.toArray⟩) (.int .i64 0) (.int .i64 (pos c.L s.1)) (.slice none 0 0) ∧ RB wx (w.heap.size) ∧ LR wx (In lo wx.heap.size) l v ∧ w6.heap.size ≤ lo ∧ lo ≤ wx.heap.size ∧ RS c wx s9 d ∧ w.grownBy wx (some c.rb) ∧ s4.1 ≤ s9.1 ∧ importsQ c.L s4 = (T.mk 1 [] 0 (pos c.L s4.1) l, s9) ∧ l.length ≤ 5003)
  case first =>
    have HRi0 : importsQ c.L s4 = ((isQ c.L kIMPORT).bind (fun b => if b = true then (severalQ c.L (namedQ c.L 3) s_comma c.L.length []).bind fun l => (needQ c.L s_semi).bind fun _ => Q.ret (.mk 1 [] 0 (pos c.L s4.1) l) else Q.ret (.mk 1 [] 0 (pos c.L s4.1) []))) s4 := rfl
    have HRi := HRi0.trans (Q.bind_eq hr6); cases a6
    · rw [if_neg (by decide)] at HRi
      go_wp2; go_meet
      case rel => exact ⟨[], .slice none 0 0, s6, w6.heap.size, im_6, n_6, r_6, LR.nil _ _, Nat.le_refl _, Nat.le_refl _, p6, G6, hi6, HRi, by simp⟩
    · rw [if_pos rfl] at HRi
      have hok5 : s6.2 = none := by rw [(isQ_true hr6).2.2]
      go_wp2_with fail
      go_loopw [] (fun wr => ∃ (acc : List T) (v : Value) (s9 : QS) (f lo : Nat), NB wr (w5.heap.size) (.int .i64 1) (.string ⟨#[]⟩) (.int .i64 0) (.int .i64 (pos c.L s4.1)) v ∧ NB wr (w1.heap.size) (.int .i64 2) (.string ⟨a3.toArray⟩) (.int .i64 0) (.int .i64 (pos c.L s.1)) (.slice none 0 0) ∧ RB wr (w.heap.size) ∧ s9.2 = none ∧ w6.heap.size + 0 ≤ lo ∧ Hid (SQ c w s6 d (severalQ c.L (namedQ c.L 3) s_comma c.L.length [] s6) (severalQ c.L (namedQ c.L 3) s_comma) v wr acc s9 f lo)) (fun wr => leftOf wr c.rb c.L.length)
      case atStart =>
        refine ⟨[], .slice none 0 0, s6, c.L.length, w6.heap.size + 0, im_6, n_6, r_6, hok5, Nat.le_refl _, SQ.mk ?_ p6 G6 rfl (fun _ => by omega) (by first | (simp; done) | omega | (simp; omega)) (by first | exact Nat.le_refl _ | omega) (by omega) (by first | (simp; done) | omega | (simp; omega))⟩
        exact LR.nil _ _
      case round =>
        obtain ⟨w20, hw20⟩ : ∃ x, x = wr := ⟨_, rfl⟩; subst hw20; obtain ⟨acc, v, s20, f, lo, im_20, n_20, r_20, hok, hlo3, HS⟩ := hrel; have z_20 := HS.out.lr; have p20 := HS.out.ps; have G20 := HS.out.gb; have SM := HS.out.same; have hfu := HS.out.fuel; have hlen := HS.out.len; have hij := HS.out.le; have hlo := HS.out.low; have hlo2 := HS.out.low2; have hjl := HS.out.ps.il; obtain ⟨ad, cp, rfl⟩ := z_20.form; have HPS := hide p20; clear HS; have r_lt20 := r_20.lt; have im_lt20 := im_20.lt; have n_lt20 := n_20.lt; obtain ⟨_, _, _, _, _, r0_20, r1_20, r2_20, r3_20, r4_20, r5_20⟩ := id r_20; obtain ⟨im0_20, im1_20, im2_20, im3_20, im4_20, im5_20⟩ := id im_20; obtain ⟨n0_20, n1_20, n2_20, n3_20, n4_20, n5_20⟩ := id n_20; go_wp2_with fail; go_at_call 26; refine (rat_any c _ s20 d p20).mono ?_; rintro e w21 ⟨rfl, hg21⟩; have p21 : RS c w21 s20 d := RS.grown p20 hg21; have G21 : w.grownBy w21 (some c.rb) := gb_trans G20 (gb_some hg21 (some c.rb)); have sz21 := hg21.size
        try simp at sz21
        have r_21 : RB w21 (w.heap.size) := RB.kept r_20 hg21 (by simp); have im_21 : NB w21 (w5.heap.size) (.int .i64 1) (.string ⟨#[]⟩) (.int .i64 0) (.int .i64 (pos c.L s4.1)) (.slice ad acc.length cp) := NB.kept im_20 hg21 (by simp); have n_21 : NB w21 (w1.heap.size) (.int .i64 2) (.string ⟨a3.toArray⟩) (.int .i64 0) (.int .i64 (pos c.L s.1)) (.slice none 0 0) := NB.kept n_20 hg21 (by simp); have z_21 : LR w21 (In (lo) (w20.heap.size)) (acc) (.slice ad acc.length cp) := LR.grown z_20 hg21; have r_lt21 := r_21.lt; have im_lt21 := im_21.lt; have n_lt21 := n_21.lt; obtain ⟨_, _, _, _, _, r0_21, r1_21, r2_21, r3_21, r4_21, r5_21⟩ := id r_21; obtain ⟨im0_21, im1_21, im2_21, im3_21, im4_21, im5_21⟩ := id im_21; obtain ⟨n0_21, n1_21, n2_21, n3_21, n4_21, n5_21⟩ := id n_21; go_wp2_with fail; go_at_call 28; refine (rname_any c _ s20 d (by exact RS.alloc p21 _)).mono ?_; rintro e w22 ⟨a22, s22, v22, hr22, rfl, ⟨rfl, hl22⟩, hg22, p22, hi22⟩; have G22 : w.grownBy w22 (some c.rb) := gb_trans (by exact gb_alloc G21 _) hg22; have sz22 := hg22.size
        try simp at sz22
        have r_22 : RB w22 (w.heap.size) := RB.keep (by exact RB.alloc r_21 _) hg22 (by omega); have im_22 : NB w22 (w5.heap.size) (.int .i64 1) (.string ⟨#[]⟩) (.int .i64 0) (.int .i64 (pos c.L s4.1)) (.slice ad acc.length cp) := NB.keep (by exact NB.alloc im_21 _) hg22 (by omega); have n_22 : NB w22 (w1.heap.size) (.int .i64 2) (.string ⟨a3.toArray⟩) (.int .i64 0) (.int .i64 (pos c.L s.1)) (.slice none 0 0) := NB.keep (by exact NB.alloc n_21 _) hg22 (by omega); have i_22 : NB w22 (w21.heap.size) (.int .i64 3) (.string ⟨#[]⟩) (.int .i64 0) (.int .i64 (pos c.L s20.1)) (.slice none 0 0) := NB.keep (NB.new' (by simp)) hg22 (by omega); have z_22 : LR w22 (In (lo) (w20.heap.size)) (acc) (.slice ad acc.length cp) := LR.call (by exact LR.alloc z_21 _) hg22 (by omega); have r_lt22 := r_22.lt; have im_lt22 := im_22.lt; have n_lt22 := n_22.lt; have i_lt22 := i_22.lt; obtain ⟨_, _, _, _, _, r0_22, r1_22, r2_22, r3_22, r4_22, r5_22⟩ := id r_22; obtain ⟨im0_22, im1_22, im2_22, im3_22, im4_22, im5_22⟩ := id im_22; obtain ⟨n0_22, n1_22, n2_22, n3_22, n4_22, n5_22⟩ := id n_22; obtain ⟨i0_22, i1_22, i2_22, i3_22, i4_22, i5_22⟩ := id i_22; have hfu1 := hfu hok
        have hWs : (w22.setCell ⟨w21.heap.size, 1, none⟩ (.string ⟨a22.toArray⟩)).heap.size = w22.heap.size := by simp [World.setCell]
        have hL2 : LR ((w22.setCell ⟨w21.heap.size, 1, none⟩ (.string ⟨a22.toArray⟩)).alloc (.cells #[.int .i64 3, .string ⟨a22.toArray⟩, .int .i64 0, .int .i64 (pos c.L s20.1), .slice none 0 0] 25)) (In (lo) (w20.heap.size)) (acc) (.slice ad acc.length cp) := LR.alloc (LR.put z_22 (by omega) _ _) _; have hL4 : LR ((w22.setCell ⟨w21.heap.size, 1, none⟩ (.string ⟨a22.toArray⟩)).alloc (.cells #[.int .i64 3, .string ⟨a22.toArray⟩, .int .i64 0, .int .i64 (pos c.L s20.1), .slice none 0 0] 25)) (In w22.heap.size (w22.heap.size + 1)) [(T.mk 3 a22 0 (pos c.L s20.1) [])] (.slice (some ⟨w22.heap.size, 0, none⟩) 1 1) := LR.build1 (w22.setCell ⟨w21.heap.size, 1, none⟩ (.string ⟨a22.toArray⟩)) (t := (T.mk 3 a22 0 (pos c.L s20.1) [])) (sv := .slice none 0 0) (LR.nil _ _) hWs.symm rfl (Nat.le_refl _); have hrow := hL2.rows; have HL2 := hide hL2; have HL4 := hide hL4; clear hL2 hL4 hWs
        go_wp2_with (first
          | (at_builtin
             refine wpList_appLR rfl _ _ rfl rfl rfl HL2.out HL4.out (by omega) (by omega) (by simp [World.setCell]) (by simp [World.setCell]) (by simp; omega) ?_; intro v23 w23 lr23 hg23; obtain ⟨ad23, cp23, e23⟩ := lr23.form; rw [List.length_append, List.length_singleton] at e23; have e23 : v23 = .slice ad23 (acc.length + 1) cp23 := e23; subst e23; have sz23 := hg23.size
             simp [World.setCell] at sz23
             have r_23 : RB w23 (w.heap.size) := RB.kept (RB.alloc (RB.put r_22 _ _ _) _) hg23 (fun e => by have := hrow _ e.symm; omega); have im_23 : NB w23 (w5.heap.size) (.int .i64 1) (.string ⟨#[]⟩) (.int .i64 0) (.int .i64 (pos c.L s4.1)) (.slice ad acc.length cp) := NB.kept (NB.alloc (NB.far im_22 (by omega) _ _) _) hg23 (fun e => by have := hrow _ e.symm; omega); have n_23 : NB w23 (w1.heap.size) (.int .i64 2) (.string ⟨a3.toArray⟩) (.int .i64 0) (.int .i64 (pos c.L s.1)) (.slice none 0 0) := NB.kept (NB.alloc (NB.far n_22 (by omega) _ _) _) hg23 (fun e => by have := hrow _ e.symm; omega); have p23 : RS c w23 s22 d := RS.own (RS.alloc (RS.put p22 HL.out (by omega) _ _) _) HL.out hg23 (fun b hb => by have := hrow b hb; omega); have G23 : w.grownBy w23 (some c.rb) := gb_own (gb_alloc (gb_put G22 (by omega) _ _) _) hg23 (fun b hb => by have := hrow b hb; omega); have r_lt23 := r_23.lt; have im_lt23 := im_23.lt; have n_lt23 := n_23.lt; obtain ⟨_, _, _, _, _, r0_23, r1_23, r2_23, r3_23, r4_23, r5_23⟩ := id r_23; obtain ⟨im0_23, im1_23, im2_23, im3_23, im4_23, im5_23⟩ := id im_23
             obtain ⟨n0_23, n1_23, n2_23, n3_23, n4_23, n5_23⟩ := id n_23))
        have SMx := (SM.trans (severalQ_on (by omega))).trans (Q.bind_eq (namedQ_eq hr22)); go_at_call 29; refine (ris_any c _ s22 d s_comma _ rfl (by decide) (by exact RS.put p23 HL.out (by omega) _ _)).mono ?_; rintro e w24 ⟨a24, s24, v24, hr24, rfl, rfl, hg24, p24, hi24⟩; have G24 : w.grownBy w24 (some c.rb) := gb_trans (by exact gb_put G23 (by omega) _ _) hg24; have sz24 := hg24.size
        try simp at sz24
        have r_24 : RB w24 (w.heap.size) := RB.keep (by exact RB.put r_23 _ _ _) hg24 (by omega); have im_24 : NB w24 (w5.heap.size) (.int .i64 1) (.string ⟨#[]⟩) (.int .i64 0) (.int .i64 (pos c.L s4.1)) (.slice ad23 (acc.length + 1) cp23) := NB.keep (by exact NB.s4 im_23 _) hg24 (by omega); have n_24 : NB w24 (w1.heap.size) (.int .i64 2) (.string ⟨a3.toArray⟩) (.int .i64 0) (.int .i64 (pos c.L s.1)) (.slice none 0 0) := NB.keep (by exact NB.far n_23 (by omega) _ _) hg24 (by omega); have z_24 : LR w24 (In (lo) (w23.heap.size)) ((acc ++ [(T.mk 3 a22 0 (pos c.L s20.1) [])])) (.slice ad23 (acc.length + 1) cp23) := LR.call (by exact LR.put lr23 (by omega) _ _) hg24 (by omega); have r_lt24 := r_24.lt; have im_lt24 := im_24.lt; have n_lt24 := n_24.lt; obtain ⟨_, _, _, _, _, r0_24, r1_24, r2_24, r3_24, r4_24, r5_24⟩ := id r_24; obtain ⟨im0_24, im1_24, im2_24, im3_24, im4_24, im5_24⟩ := id im_24; obtain ⟨n0_24, n1_24, n2_24, n3_24, n4_24, n5_24⟩ := id n_24; cases a24
        · have SMy := SMx.trans (Q.bind_eq hr24)
          rw [if_neg (by decide)] at SMy; have HRj := HRi.trans (Q.bind_eq SMy); go_wp2_with fail; go_at_call 27; refine (rneed_any c _ s24 d s_semi _ rfl (by decide) p24).mono ?_; rintro e w25 ⟨a25, s25, v25, hr25, rfl, -, hg25, p25, hi25⟩; have G25 : w.grownBy w25 (some c.rb) := gb_trans G24 hg25; have sz25 := hg25.size
          try simp at sz25
          have r_25 : RB w25 (w.heap.size) := RB.keep r_24 hg25 (by omega); have im_25 : NB w25 (w5.heap.size) (.int .i64 1) (.string ⟨#[]⟩) (.int .i64 0) (.int .i64 (pos c.L s4.1)) (.slice ad23 (acc.length + 1) cp23) := NB.keep im_24 hg25 (by omega); have n_25 : NB w25 (w1.heap.size) (.int .i64 2) (.string ⟨a3.toArray⟩) (.int .i64 0) (.int .i64 (pos c.L s.1)) (.slice none 0 0) := NB.keep n_24 hg25 (by omega); have z_25 : LR w25 (In (lo) (w23.heap.size)) ((acc ++ [(T.mk 3 a22 0 (pos c.L s20.1) [])])) (.slice ad23 (acc.length + 1) cp23) := LR.call z_24 hg25 (by omega); have r_lt25 := r_25.lt; have im_lt25 := im_25.lt; have n_lt25 := n_25.lt; obtain ⟨_, _, _, _, _, r0_25, r1_25, r2_25, r3_25, r4_25, r5_25⟩ := id r_25; obtain ⟨im0_25, im1_25, im2_25, im3_25, im4_25, im5_25⟩ := id im_25; obtain ⟨n0_25, n1_25, n2_25, n3_25, n4_25, n5_25⟩ := id n_25; go_wp2; go_meet
          case rel => exact ⟨(acc ++ [(T.mk 3 a22 0 (pos c.L s20.1) [])]), .slice ad23 (acc.length + 1) cp23, s25, lo, im_25, n_25, r_25, LR.wide z_25 (Nat.le_refl _) (by omega), by omega, by omega, p25, G25, by omega, HRj.trans (Q.bind_eq hr25), by simp only [List.length_append, List.length_singleton]; omega⟩
        · have SMy := SMx.trans (Q.bind_eq hr24)
          rw [if_pos rfl] at SMy; obtain ⟨-, -, hsx⟩ := isQ_true hr24
          have hkx : s24.2 = none := by rw [hsx]
          have hkp : s24.1 = s22.1 + 1 := by rw [hsx]
          go_wp2; refine ⟨⟨(acc ++ [(T.mk 3 a22 0 (pos c.L s20.1) [])]), .slice ad23 (acc.length + 1) cp23, s24, f - 1, lo, im_24, n_24, r_24, hkx, hlo3, SQ.mk (LR.wide z_24 (Nat.le_refl _) (by omega)) p24 G24 (SMy) (fun h9 => by have := hfu (by first | assumption | simp_all); have := hkp; omega) (by have := hfu hok; (try simp only [List.length_append, List.length_singleton]); omega) (by omega) hlo (by omega)⟩, ?_⟩
          exact HPS.out.left_less p24 hok (fun h9 => by have := hkp; omega) hjl
  case rest =>
    obtain ⟨w30, hw30⟩ : ∃ x, x = wc := ⟨_, rfl⟩; subst hw30; obtain ⟨l30, v30, s30, lo4, im_30, n_30, r_30, li_30, hlo1, hlo2, p30, G30, hi30, HRi, hl30⟩ := hcut; obtain ⟨ad30, cp30, rfl⟩ := li_30.form; have r_lt30 := r_30.lt; have im_lt30 := im_30.lt; have n_lt30 := n_30.lt; obtain ⟨_, _, _, _, _, r0_30, r1_30, r2_30, r3_30, r4_30, r5_30⟩ := id r_30; obtain ⟨im0_30, im1_30, im2_30, im3_30, im4_30, im5_30⟩ := id im_30; obtain ⟨n0_30, n1_30, n2_30, n3_30, n4_30, n5_30⟩ := id n_30; have HR30 : moduleQ c.L s = _ := HR4.trans (Q.bind_eq HRi); have HM30 := hide (show MQ c w d (w5.heap.size) (w1.heap.size) (w.heap.size) lo4 (.int .i64 1) (.string ⟨#[]⟩) (.int .i64 0) (.int .i64 (pos c.L s4.1)) (.slice ad30 l30.length cp30) (.int .i64 2) (.string ⟨a3.toArray⟩) (.int .i64 0) (.int .i64 (pos c.L s.1)) (.slice none 0 0) [(l30, .slice ad30 l30.length cp30)] w30 s30 from ⟨im_30, n_30, r_30, fun x hx => by cases List.mem_singleton.1 hx; exact li_30, p30, G30, by omega, ⟨by omega, by omega, by omega, by omega⟩, ⟨by omega, by omega, by omega, by omega⟩⟩); have hord : w.heap.size < w1.heap.size ∧ w1.heap.size < lo4 ∧ lo4 ≤ w30.heap.size := ⟨by omega, by omega, by omega⟩
    have hsle : s.1 ≤ s30.1 := by omega
    have im_30 := HM30.out.im; have n_30 := HM30.out.n
    try clear hg1
    try clear p1
    try clear G1
    try clear r_1
    try clear r_lt1
    try clear r0_1
    try clear r1_1
    try clear r2_1
    try clear r3_1
    try clear r4_1
    try clear r5_1
    try clear hg2
    try clear p2
    try clear G2
    try clear r_2
    try clear r_lt2
    try clear r0_2
    try clear r1_2
    try clear r2_2
    try clear r3_2
    try clear r4_2
    try clear r5_2
    try clear n_2
    try clear n_lt2
    try clear n0_2
    try clear n1_2
    try clear n2_2
    try clear n3_2
    try clear n4_2
    try clear n5_2
    try clear hg3
    try clear p3
    try clear G3
    try clear r_3
    try clear r_lt3
    try clear r0_3
    try clear r1_3
    try clear r2_3
    try clear r3_3
    try clear r4_3
    try clear r5_3
    try clear n_3
    try clear n_lt3
    try clear n0_3
    try clear n1_3
    try clear n2_3
    try clear n3_3
    try clear n4_3
    try clear n5_3
    try clear hg4
    try clear p4
    try clear G4
    try clear r_4
    try clear r_lt4
    try clear r0_4
    try clear r1_4
    try clear r2_4
    try clear r3_4
    try clear r4_4
    try clear r5_4
    try clear n_4
    try clear n_lt4
    try clear n0_4
    try clear n1_4
    try clear n2_4
    try clear n3_4
    try clear n4_4
    try clear n5_4
    try clear hg5
    try clear p5
    try clear G5
    try clear r_5
    try clear r_lt5
    try clear r0_5
    try clear r1_5
    try clear r2_5
    try clear r3_5
    try clear r4_5
    try clear r5_5
    try clear n_5
    try clear n_lt5
    try clear n0_5
    try clear n1_5
    try clear n2_5
    try clear n3_5
    try clear n4_5
    try clear n5_5
    try clear hg6
    try clear p6
    try clear G6
    try clear r_6
    try clear r_lt6
    try clear r0_6
    try clear r1_6
    try clear r2_6
    try clear r3_6
    try clear r4_6
    try clear r5_6
    try clear n_6
    try clear n_lt6
    try clear n0_6
    try clear n1_6
    try clear n2_6
    try clear n3_6
    try clear n4_6
    try clear n5_6
    try clear im_6
    try clear im_lt6
    try clear im0_6
    try clear im1_6
    try clear im2_6
    try clear im3_6
    try clear im4_6
    try clear im5_6
    try clear r_30
    try clear r_lt30
    try clear r0_30
    try clear r1_30
    try clear r2_30
    try clear r3_30
    try clear r4_30
    try clear r5_30
    try clear p30
    try clear G30
    try clear li_30
    try clear sz1
    try clear sz2
    try clear sz3
    try clear sz4
    try clear sz5
    try clear sz6
    try clear hi2
    try clear hi3
    try clear hi4
    try clear hi6
    try clear hi30
    try clear hlo1
    try clear hlo2
    try clear im_lt30
    try clear n_lt30
    try clear v2
    try clear v4
    go_upto_region 12 with fail
    go_cut [] from 40 (fun wx => ∃ (t2 t3 t4 : T) (ad : Option Addr) (cp : Nat) (sa sb s9 : QS), Hid (MR c w d (w1.heap.size) (w.heap.size) lo4 (.int .i64 2) (.string ⟨a3.toArray⟩) (.int .i64 0) (.int .i64 (pos c.L s.1)) [(T.mk 1 [] 0 (pos c.L s4.1) l30), t2, t3, t4] (.slice ad 4 cp) wx s9) ∧ sectionQ c.L kCONST (constantQ c.L) s30 = (t2, sa) ∧ sectionQ c.L kTYPE (typeDeclQ c.L) sa = (t3, sb) ∧ sectionQ c.L kVAR (variableQ c.L) sb = (t4, s9) ∧ s30.1 ≤ s9.1)
    case first =>
      go_region_law (first
        | (go_simp
           go_at_call 30
           with_reducible show Calls _ _ #[_, _, Value.int IntKind.i64 4] _ _
           refine Calls.mono (MQ.part HM30.out.drew kCONST _ rfl (by decide) 4 (constantQ c.L) hC) ?_; rintro e w31 ⟨k31, x31, m31, q31, l31, ad31, cp31, s31, rfl, hr31, hM31, hi31⟩; have im_31 := hM31.im; have n_31 := hM31.n; have HM31 := hide hM31; have nl31 := n_31.lt; have lol31 := hM31.lo1; clear hM31; obtain ⟨i0_31, i1_31, i2_31, i3_31, i4_31, i5_31⟩ := id im_31
           obtain ⟨n0_31, n1_31, n2_31, n3_31, n4_31, n5_31⟩ := id n_31)
        | (go_simp
           go_at_call 30
           with_reducible show Calls _ _ #[_, _, Value.int IntKind.i64 5] _ _
           refine Calls.mono (MQ.part HM31.out kTYPE _ rfl (by decide) 5 (typeDeclQ c.L) hT) ?_; rintro e w32 ⟨k32, x32, m32, q32, l32, ad32, cp32, s32, rfl, hr32, hM32, hi32⟩; have im_32 := hM32.im; have n_32 := hM32.n; have HM32 := hide hM32; have nl32 := n_32.lt; have lol32 := hM32.lo1; clear hM32; obtain ⟨i0_32, i1_32, i2_32, i3_32, i4_32, i5_32⟩ := id im_32
           obtain ⟨n0_32, n1_32, n2_32, n3_32, n4_32, n5_32⟩ := id n_32)
        | (go_simp
           go_at_call 30
           with_reducible show Calls _ _ #[_, _, Value.int IntKind.i64 6] _ _
           refine Calls.mono (MQ.part HM32.out kVAR _ rfl (by decide) 6 (variableQ c.L) hV) ?_; rintro e w33 ⟨k33, x33, m33, q33, l33, ad33, cp33, s33, rfl, hr33, hM33, hi33⟩; have im_33 := hM33.im; have n_33 := hM33.n; have HM33 := hide hM33; have nl33 := n_33.lt; have lol33 := hM33.lo1; clear hM33; obtain ⟨i0_33, i1_33, i2_33, i3_33, i4_33, i5_33⟩ := id im_33; obtain ⟨n0_33, n1_33, n2_33, n3_33, n4_33, n5_33⟩ := id n_33
           have HB := hide (LR.build4 w33 (lo := lo4) (g := w33.heap.size) (cs := #[.int .i64 1, .string ⟨#[]⟩, .int .i64 0, .int .i64 (pos c.L s4.1), .slice ad30 l30.length cp30, .int .i64 k31, .string ⟨x31.toArray⟩, .int .i64 m31, .int .i64 q31, .slice ad31 l31.length cp31, .int .i64 k32, .string ⟨x32.toArray⟩, .int .i64 m32, .int .i64 q32, .slice ad32 l32.length cp32, .int .i64 k33, .string ⟨x33.toArray⟩, .int .i64 m33, .int .i64 q33, .slice ad33 l33.length cp33]) (t1 := (T.mk 1 [] 0 (pos c.L s4.1) l30)) (t2 := (T.mk k31 x31 m31 q31 l31)) (t3 := (T.mk k32 x32 m32 q32 l32)) (t4 := (T.mk k33 x33 m33 q33 l33)) (v1 := .slice ad30 l30.length cp30) (v2 := .slice ad31 l31.length cp31) (v3 := .slice ad32 l32.length cp32) (v4 := .slice ad33 l33.length cp33) (HM33.out.lr (l30, .slice ad30 l30.length cp30) (by simp)) (HM33.out.lr (l31, .slice ad31 l31.length cp31) (by simp)) (HM33.out.lr (l32, .slice ad32 l32.length cp32) (by simp)) (HM33.out.lr (l33, .slice ad33 l33.length cp33) (by simp)) rfl rfl lol33))
        | (refine step_appS (v := .slice none 0 0) rfl _ _ rfl (In lo4 (w33.heap.size + 2)) rfl rfl (LR.nil _ (In 0 0)) HB.out (fun k hk e => by cases e) (fun k hk => by have h1 : k < 0 := hk.2; omega) (fun k hk => ⟨hk.1, by have h1 : k < w33.heap.size + 1 := hk.2; omega⟩) ⟨by simp; omega, by simp⟩ (by simp) ?_
           intro v34 w34 lr34 hg34; obtain ⟨ad34, cp34, e34⟩ := lr34.form; have e34 : v34 = .slice ad34 4 cp34 := e34; subst e34; have hgn : (w33.alloc (.cells #[.int .i64 1, .string ⟨#[]⟩, .int .i64 0, .int .i64 (pos c.L s4.1), .slice ad30 l30.length cp30, .int .i64 k31, .string ⟨x31.toArray⟩, .int .i64 m31, .int .i64 q31, .slice ad31 l31.length cp31, .int .i64 k32, .string ⟨x32.toArray⟩, .int .i64 m32, .int .i64 q32, .slice ad32 l32.length cp32, .int .i64 k33, .string ⟨x33.toArray⟩, .int .i64 m33, .int .i64 q33, .slice ad33 l33.length cp33] 25)).grownBy w34 none := hg34; have im_34 := NB.kept (NB.alloc im_33 _) hgn (by simp); have n_34 := NB.kept (NB.alloc n_33 _) hgn (by simp); have nl34 := n_34.lt; obtain ⟨i0_34, i1_34, i2_34, i3_34, i4_34, i5_34⟩ := id im_34; obtain ⟨n0_34, n1_34, n2_34, n3_34, n4_34, n5_34⟩ := id n_34
           have HF := hide (MQ.fin HM33.out HL.out hgn (fun k hk => hk.1) lr34)))
      all_goals
        go_wp2_with fail; go_meet
        case rel => exact ⟨_, _, _, _, _, _, _, _, HF, hr31, hr32, hr33, by omega⟩
    case rest =>
      obtain ⟨w40, hw40⟩ : ∃ x, x = wc := ⟨_, rfl⟩; subst hw40; obtain ⟨t2, t3, t4, ad40, cp40, sa, sb, s40, HF, hq2, hq3, hq4, hi40⟩ := hcut; have n_40 := HF.out.n; have r_40 := HF.out.r; have z4_40 := HF.out.lr; have p40 := HF.out.ps; have G40 := HF.out.gb; have lol40 := HF.out.lo1; clear HF; have HR40 : moduleQ c.L s = _ := ((HR30.trans (Q.bind_eq hq2)).trans (Q.bind_eq hq3)).trans (Q.bind_eq hq4); have r_lt40 := r_40.lt; have n_lt40 := n_40.lt; obtain ⟨_, _, _, _, _, r0_40, r1_40, r2_40, r3_40, r4_40, r5_40⟩ := id r_40; obtain ⟨n0_40, n1_40, n2_40, n3_40, n4_40, n5_40⟩ := id n_40; go_wp2_with fail; go_at_call 26; refine (rat_any c _ s40 d p40).mono ?_; rintro e w41 ⟨rfl, hg41⟩; have p41 : RS c w41 s40 d := RS.grown p40 hg41; have G41 : w.grownBy w41 (some c.rb) := gb_trans G40 (gb_some hg41 (some c.rb)); have sz41 := hg41.size
      try simp at sz41
      have r_41 : RB w41 (w.heap.size) := RB.kept r_40 hg41 (by simp); have n_41 : NB w41 (w1.heap.size) (.int .i64 2) (.string ⟨a3.toArray⟩) (.int .i64 0) (.int .i64 (pos c.L s.1)) (.slice ad40 4 cp40) := NB.kept n_40 hg41 (by simp); have z4_41 : LR w41 (In (lo4) (w40.heap.size)) ([(T.mk 1 [] 0 (pos c.L s4.1) l30), t2, t3, t4]) (.slice ad40 4 cp40) := LR.grown z4_40 hg41; have r_lt41 := r_41.lt; have n_lt41 := n_41.lt; obtain ⟨_, _, _, _, _, r0_41, r1_41, r2_41, r3_41, r4_41, r5_41⟩ := id r_41; obtain ⟨n0_41, n1_41, n2_41, n3_41, n4_41, n5_41⟩ := id n_41
      go_upto_block 2 with fail
      go_cut [] from 55 (fun wx => ∃ (l : List T) (v : Value) (s9 : QS) (lo5 : Nat), NB wx (w41.heap.size) (.int .i64 1) (.string ⟨#[]⟩) (.int .i64 0) (.int .i64 (pos c.L s40.1)) v ∧ NB wx (w1.heap.size) (.int .i64 2) (.string ⟨a3.toArray⟩) (.int .i64 0) (.int .i64 (pos c.L s.1)) (.slice ad40 4 cp40) ∧ RB wx (w.heap.size) ∧ LR wx (In (lo4) (w40.heap.size)) ([(T.mk 1 [] 0 (pos c.L s4.1) l30), t2, t3, t4]) (.slice ad40 4 cp40) ∧ LR wx (In lo5 wx.heap.size) l v ∧ w41.heap.size + 1 ≤ lo5 ∧ lo5 ≤ wx.heap.size ∧ RS c wx s9 d ∧ w.grownBy wx (some c.rb) ∧ s40.1 ≤ s9.1 ∧ procLoopQ c.L (c.L.length + 1) [] s40 = (l, s9) ∧ l.length ≤ 5003)
      case first =>
        go_wp2_with fail
        go_loopw [] (fun wr => ∃ (acc : List T) (v : Value) (s9 : QS) (f lo : Nat), NB wr (w41.heap.size) (.int .i64 1) (.string ⟨#[]⟩) (.int .i64 0) (.int .i64 (pos c.L s40.1)) v ∧ NB wr (w1.heap.size) (.int .i64 2) (.string ⟨a3.toArray⟩) (.int .i64 0) (.int .i64 (pos c.L s.1)) (.slice ad40 4 cp40) ∧ RB wr (w.heap.size) ∧ LR wr (In (lo4) (w40.heap.size)) ([(T.mk 1 [] 0 (pos c.L s4.1) l30), t2, t3, t4]) (.slice ad40 4 cp40) ∧ w41.heap.size + 1 ≤ lo ∧ Hid (SQ c w s40 d (procLoopQ c.L (c.L.length + 1) [] s40) (procLoopQ c.L) v wr acc s9 f lo)) (fun wr => leftOf wr c.rb c.L.length)
        case atStart =>
          refine ⟨[], .slice none 0 0, s40, c.L.length + 1, w41.heap.size + 1, (NB.new' (by simp)), (by exact NB.alloc n_41 _), (by exact RB.alloc r_41 _), (by exact LR.alloc z4_41 _), Nat.le_refl _, SQ.mk ?_ (by exact RS.alloc p41 _) (by exact gb_alloc G41 _) rfl (fun _ => by omega) (by first | (simp; done) | omega | (simp; omega)) (by first | exact Nat.le_refl _ | omega) (by omega) (by first | (simp; done) | omega | (simp; omega))⟩
          exact LR.nil _ _
        case round =>
          obtain ⟨w50, hw50⟩ : ∃ x, x = wr := ⟨_, rfl⟩; subst hw50; obtain ⟨acc, v, s50, f, lo, pr_50, n_50, r_50, z4_50, hlo3, HS⟩ := hrel; have z_50 := HS.out.lr; have p50 := HS.out.ps; have G50 := HS.out.gb; have SM := HS.out.same; have hfu := HS.out.fuel; have hlen := HS.out.len; have hij := HS.out.le; have hlo := HS.out.low; have hlo2 := HS.out.low2; have hjl := HS.out.ps.il; obtain ⟨ad, cp, rfl⟩ := z_50.form; have HPS := hide p50; clear HS; have r_lt50 := r_50.lt; have pr_lt50 := pr_50.lt; have n_lt50 := n_50.lt; obtain ⟨_, _, _, _, _, r0_50, r1_50, r2_50, r3_50, r4_50, r5_50⟩ := id r_50; obtain ⟨pr0_50, pr1_50, pr2_50, pr3_50, pr4_50, pr5_50⟩ := id pr_50; obtain ⟨n0_50, n1_50, n2_50, n3_50, n4_50, n5_50⟩ := id n_50; go_wp2_with fail; go_at_call 12; refine (rok_any c _ s50 d p50).mono ?_; rintro e w51 ⟨rfl, hg51⟩; have p51 : RS c w51 s50 d := RS.grown p50 hg51; have G51 : w.grownBy w51 (some c.rb) := gb_trans G50 (gb_some hg51 (some c.rb)); have sz51 := hg51.size
          try simp at sz51
          have r_51 : RB w51 (w.heap.size) := RB.kept r_50 hg51 (by simp); have pr_51 : NB w51 (w41.heap.size) (.int .i64 1) (.string ⟨#[]⟩) (.int .i64 0) (.int .i64 (pos c.L s40.1)) (.slice ad acc.length cp) := NB.kept pr_50 hg51 (by simp); have n_51 : NB w51 (w1.heap.size) (.int .i64 2) (.string ⟨a3.toArray⟩) (.int .i64 0) (.int .i64 (pos c.L s.1)) (.slice ad40 4 cp40) := NB.kept n_50 hg51 (by simp); have z_51 : LR w51 (In (lo) (w50.heap.size)) (acc) (.slice ad acc.length cp) := LR.grown z_50 hg51; have z4_51 : LR w51 (In (lo4) (w40.heap.size)) ([(T.mk 1 [] 0 (pos c.L s4.1) l30), t2, t3, t4]) (.slice ad40 4 cp40) := LR.grown z4_50 hg51; have r_lt51 := r_51.lt; have pr_lt51 := pr_51.lt; have n_lt51 := n_51.lt; obtain ⟨_, _, _, _, _, r0_51, r1_51, r2_51, r3_51, r4_51, r5_51⟩ := id r_51; obtain ⟨pr0_51, pr1_51, pr2_51, pr3_51, pr4_51, pr5_51⟩ := id pr_51; obtain ⟨n0_51, n1_51, n2_51, n3_51, n4_51, n5_51⟩ := id n_51
          by_cases hok : s50.2 = none
          · have hokb : decide (s50.2 = none) = true := decide_eq_true hok
            try simp only [hokb]
            go_wp2_with fail; go_at_call 13; refine (rword_any c _ s50 d p51).mono ?_; rintro e w52 ⟨rfl, hg52⟩; have p52 : RS c w52 s50 d := RS.grown p51 hg52; have G52 : w.grownBy w52 (some c.rb) := gb_trans G51 (gb_some hg52 (some c.rb)); have sz52 := hg52.size
            try simp at sz52
            have r_52 : RB w52 (w.heap.size) := RB.kept r_51 hg52 (by simp); have pr_52 : NB w52 (w41.heap.size) (.int .i64 1) (.string ⟨#[]⟩) (.int .i64 0) (.int .i64 (pos c.L s40.1)) (.slice ad acc.length cp) := NB.kept pr_51 hg52 (by simp); have n_52 : NB w52 (w1.heap.size) (.int .i64 2) (.string ⟨a3.toArray⟩) (.int .i64 0) (.int .i64 (pos c.L s.1)) (.slice ad40 4 cp40) := NB.kept n_51 hg52 (by simp); have z_52 : LR w52 (In (lo) (w50.heap.size)) (acc) (.slice ad acc.length cp) := LR.grown z_51 hg52; have z4_52 : LR w52 (In (lo4) (w40.heap.size)) ([(T.mk 1 [] 0 (pos c.L s4.1) l30), t2, t3, t4]) (.slice ad40 4 cp40) := LR.grown z4_51 hg52; have r_lt52 := r_52.lt; have pr_lt52 := pr_52.lt; have n_lt52 := n_52.lt; obtain ⟨_, _, _, _, _, r0_52, r1_52, r2_52, r3_52, r4_52, r5_52⟩ := id r_52; obtain ⟨pr0_52, pr1_52, pr2_52, pr3_52, pr4_52, pr5_52⟩ := id pr_52; obtain ⟨n0_52, n1_52, n2_52, n3_52, n4_52, n5_52⟩ := id n_52
            by_cases hpr : wd c.L s50.1 = kPROCEDURE
            · have hwb : (wd c.L s50.1 == [80, 82, 79, 67, 69, 68, 85, 82, 69]) = true := by rw [hpr]; decide
              have SMy := SM.trans (procLoopQ_yes hok hpr (by have := hfu hok; omega)); go_wp2_with fail
              go_region_law (first
                | (go_simp
                   go_at_call 31; refine (hP _ s50 (by exact RS.drew p52)).mono ?_; rintro e w53 ⟨⟨k53, n53, m53, q53, l53⟩, s53, v53, hr53, rfl, ⟨sv53, rfl, lr53⟩, hg53, p53, hi53⟩; simp only [T.kind, T.name, T.num, T.at', T.subs] at lr53 ⊢; obtain ⟨ad53, cp53, rfl⟩ := lr53.form; obtain ⟨b53, hb53, lr53⟩ : ∃ b, b = _ ∧ LR w53 (In b w53.heap.size) l53 (.slice ad53 l53.length cp53) := ⟨_, rfl, lr53⟩
                   try simp at hb53
                   have G53 : w.grownBy w53 (some c.rb) := gb_trans (by exact gb_drew G52) hg53; have sz53 := hg53.size
                   try simp at sz53
                   have r_53 : RB w53 (w.heap.size) := RB.keep (by exact RB.drew r_52) hg53 (by omega); have pr_53 : NB w53 (w41.heap.size) (.int .i64 1) (.string ⟨#[]⟩) (.int .i64 0) (.int .i64 (pos c.L s40.1)) (.slice ad acc.length cp) := NB.keep (by exact NB.drew pr_52) hg53 (by omega); have n_53 : NB w53 (w1.heap.size) (.int .i64 2) (.string ⟨a3.toArray⟩) (.int .i64 0) (.int .i64 (pos c.L s.1)) (.slice ad40 4 cp40) := NB.keep (by exact NB.drew n_52) hg53 (by omega); have z_53 : LR w53 (In (lo) (w50.heap.size)) (acc) (.slice ad acc.length cp) := LR.call (by exact LR.drew z_52) hg53 (by omega); have z4_53 : LR w53 (In (lo4) (w40.heap.size)) ([(T.mk 1 [] 0 (pos c.L s4.1) l30), t2, t3, t4]) (.slice ad40 4 cp40) := LR.call (by exact LR.drew z4_52) hg53 (by omega); have r_lt53 := r_53.lt; have pr_lt53 := pr_53.lt; have n_lt53 := n_53.lt; obtain ⟨_, _, _, _, _, r0_53, r1_53, r2_53, r3_53, r4_53, r5_53⟩ := id r_53; obtain ⟨pr0_53, pr1_53, pr2_53, pr3_53, pr4_53, pr5_53⟩ := id pr_53
                   obtain ⟨n0_53, n1_53, n2_53, n3_53, n4_53, n5_53⟩ := id n_53)
                | (have hrow54 := z_53.rows
                   refine step_appS (v := .slice ad acc.length cp) rfl _ _ rfl (In (lo) (w53.heap.size + 2)) rfl rfl (LR.alloc z_53 _) (LR.build1 w53 (cs := #[.int .i64 k53, .string ⟨n53.toArray⟩, .int .i64 m53, .int .i64 q53, .slice ad53 l53.length cp53]) (t := (T.mk k53 n53 m53 q53 l53)) (sv := .slice ad53 l53.length cp53) lr53 rfl rfl (by omega))
                     (fun k hk e => by have h1 := hrow54 k e; have h2 : b53 ≤ k := hk.1; omega) (fun k hk => ⟨hk.1, by have h : k < w50.heap.size := hk.2; omega⟩) (fun k hk => ⟨by have h : b53 ≤ k := hk.1; omega, by have h : k < w53.heap.size + 1 := hk.2; omega⟩) ⟨by simp; omega, by simp⟩ (by simp; try omega) ?_
                   intro v54 w54 lr54 hg54; obtain ⟨ad54, cp54, e54⟩ := lr54.form; rw [List.length_append, List.length_singleton] at e54; have e54 : v54 = .slice ad54 (acc.length + 1) cp54 := e54; subst e54; have sz54 := hg54.size
                   try simp at sz54
                   have r_54 : RB w54 (w.heap.size) := RB.kept (RB.alloc r_53 _) hg54 (fun e => by have := hrow54 _ e.symm; omega); have pr_54 : NB w54 (w41.heap.size) (.int .i64 1) (.string ⟨#[]⟩) (.int .i64 0) (.int .i64 (pos c.L s40.1)) (.slice ad acc.length cp) := NB.kept (NB.alloc pr_53 _) hg54 (fun e => by have := hrow54 _ e.symm; omega); have n_54 : NB w54 (w1.heap.size) (.int .i64 2) (.string ⟨a3.toArray⟩) (.int .i64 0) (.int .i64 (pos c.L s.1)) (.slice ad40 4 cp40) := NB.kept (NB.alloc n_53 _) hg54 (fun e => by have := hrow54 _ e.symm; omega); have z4_54 : LR w54 (In (lo4) (w40.heap.size)) ([(T.mk 1 [] 0 (pos c.L s4.1) l30), t2, t3, t4]) (.slice ad40 4 cp40) := LR.kept (LR.alloc z4_53 _) hg54 (fun b hb hs => by have h1 := hrow54 b hb; have h2 : lo4 ≤ b := hs.1; have h3 : b < w40.heap.size := hs.2; omega); have p54 : RS c w54 s53 d := RS.own (RS.alloc p53 _) HL.out hg54 (fun b hb => by have := hrow54 b hb; omega); have G54 : w.grownBy w54 (some c.rb) := gb_own (gb_alloc G53 _) hg54 (fun b hb => by have := hrow54 b hb; omega); have r_lt54 := r_54.lt; have pr_lt54 := pr_54.lt; have n_lt54 := n_54.lt; obtain ⟨_, _, _, _, _, r0_54, r1_54, r2_54, r3_54, r4_54, r5_54⟩ := id r_54; obtain ⟨pr0_54, pr1_54, pr2_54, pr3_54, pr4_54, pr5_54⟩ := id pr_54
                   obtain ⟨n0_54, n1_54, n2_54, n3_54, n4_54, n5_54⟩ := id n_54))
              all_goals
                have lz54 : LR w54 (In (lo) w54.heap.size) (acc ++ [(T.mk k53 n53 m53 q53 l53)]) (.slice ad54 (acc.length + 1) cp54) := lr54.bounded.mono (fun k hk => ⟨hk.1.1, hk.2⟩); go_wp2_with fail; go_at_call 27; refine (rneed_any c _ s53 d s_semi _ rfl (by decide) (by exact RS.put p54 HL.out (by omega) _ _)).mono ?_; rintro e w55 ⟨a55, s55, v55, hr55, rfl, -, hg55, p55, hi55⟩; have G55 : w.grownBy w55 (some c.rb) := gb_trans (by exact gb_put G54 (by omega) _ _) hg55; have sz55 := hg55.size
                try simp at sz55
                have r_55 : RB w55 (w.heap.size) := RB.keep (by exact RB.put r_54 _ _ _) hg55 (by omega); have pr_55 : NB w55 (w41.heap.size) (.int .i64 1) (.string ⟨#[]⟩) (.int .i64 0) (.int .i64 (pos c.L s40.1)) (.slice ad54 (acc.length + 1) cp54) := NB.keep (by exact NB.s4 pr_54 _) hg55 (by omega); have n_55 : NB w55 (w1.heap.size) (.int .i64 2) (.string ⟨a3.toArray⟩) (.int .i64 0) (.int .i64 (pos c.L s.1)) (.slice ad40 4 cp40) := NB.keep (by exact NB.far n_54 (by omega) _ _) hg55 (by omega); have z_55 : LR w55 (In (lo) (w54.heap.size)) ((acc ++ [(T.mk k53 n53 m53 q53 l53)])) (.slice ad54 (acc.length + 1) cp54) := LR.call (by exact LR.put lz54 (by omega) _ _) hg55 (by omega); have z4_55 : LR w55 (In (lo4) (w40.heap.size)) ([(T.mk 1 [] 0 (pos c.L s4.1) l30), t2, t3, t4]) (.slice ad40 4 cp40) := LR.call (by exact LR.put z4_54 (by omega) _ _) hg55 (by omega); have r_lt55 := r_55.lt; have pr_lt55 := pr_55.lt; have n_lt55 := n_55.lt; obtain ⟨_, _, _, _, _, r0_55, r1_55, r2_55, r3_55, r4_55, r5_55⟩ := id r_55; obtain ⟨pr0_55, pr1_55, pr2_55, pr3_55, pr4_55, pr5_55⟩ := id pr_55; obtain ⟨n0_55, n1_55, n2_55, n3_55, n4_55, n5_55⟩ := id n_55; go_wp2; refine ⟨⟨(acc ++ [(T.mk k53 n53 m53 q53 l53)]), .slice ad54 (acc.length + 1) cp54, s55, f - 1, lo, pr_55, n_55, r_55, z4_55, hlo3, SQ.mk (LR.wide z_55 (Nat.le_refl _) (by omega)) p55 G55 ((SMy.trans (Q.bind_eq hr53)).trans (Q.bind_eq hr55)) (fun h9 => by have := hfu (by first | assumption | simp_all); have := (needQ_ok hr55 h9).2.2; omega) (by have := hfu hok; (try simp only [List.length_append, List.length_singleton]); omega) (by omega) hlo (by omega)⟩, ?_⟩
                exact HPS.out.left_less p55 hok (fun h9 => by have := (needQ_ok hr55 h9).2.2; omega) hjl
            · have hwb : (wd c.L s50.1 == [80, 82, 79, 67, 69, 68, 85, 82, 69]) = false := by simpa [kPROCEDURE] using hpr
              go_wp2; go_meet
              case rel => exact ⟨acc, .slice ad acc.length cp, s50, lo, pr_52, n_52, r_52, z4_52, LR.wide z_52 (Nat.le_refl _) (by omega), by omega, by omega, p52, G52, by omega, SM.trans (procLoopQ_no (fun h => hpr h.2) (fun h => by have := hfu h; omega)), by omega⟩
          · have hokb : decide (s50.2 = none) = false := decide_eq_false hok
            try simp only [hokb]
            go_wp2; go_meet
            case rel => exact ⟨acc, .slice ad acc.length cp, s50, lo, pr_51, n_51, r_51, z4_51, LR.wide z_51 (Nat.le_refl _) (by omega), by omega, by omega, p51, G51, by omega, SM.trans (procLoopQ_no (fun h => hok h.1) (fun h => absurd h hok)), by omega⟩
      case rest =>
        obtain ⟨w60, hw60⟩ : ∃ x, x = wc := ⟨_, rfl⟩; subst hw60; obtain ⟨l60, v60, s60, lo5, pr_60, n_60, r_60, z4_60, m5_60, hlo5, hlo6, p60, G60, hi60, HRq, hl60⟩ := hcut; obtain ⟨ad60, cp60, rfl⟩ := m5_60.form; have r_lt60 := r_60.lt; have pr_lt60 := pr_60.lt; have n_lt60 := n_60.lt; obtain ⟨_, _, _, _, _, r0_60, r1_60, r2_60, r3_60, r4_60, r5_60⟩ := id r_60; obtain ⟨pr0_60, pr1_60, pr2_60, pr3_60, pr4_60, pr5_60⟩ := id pr_60; obtain ⟨n0_60, n1_60, n2_60, n3_60, n4_60, n5_60⟩ := id n_60
        have HRp : proceduresQ c.L s40 = ((T.mk 1 [] 0 (pos c.L s40.1) l60), s60) := by
          show ((procLoopQ c.L (c.L.length + 1) []).bind fun l => Q.ret (T.mk 1 [] 0 (pos c.L s40.1) l)) s40 = _
          rw [Q.bind_eq HRq]
          rfl
        have HR60 : moduleQ c.L s = _ := HR40.trans (Q.bind_eq HRp); go_wp2_with fail; go_at_call 26; refine (rat_any c _ s60 d p60).mono ?_; rintro e w61 ⟨rfl, hg61⟩; have p61 : RS c w61 s60 d := RS.grown p60 hg61; have G61 : w.grownBy w61 (some c.rb) := gb_trans G60 (gb_some hg61 (some c.rb)); have sz61 := hg61.size
        try simp at sz61
        have r_61 : RB w61 (w.heap.size) := RB.kept r_60 hg61 (by simp); have pr_61 : NB w61 (w41.heap.size) (.int .i64 1) (.string ⟨#[]⟩) (.int .i64 0) (.int .i64 (pos c.L s40.1)) (.slice ad60 l60.length cp60) := NB.kept pr_60 hg61 (by simp); have n_61 : NB w61 (w1.heap.size) (.int .i64 2) (.string ⟨a3.toArray⟩) (.int .i64 0) (.int .i64 (pos c.L s.1)) (.slice ad40 4 cp40) := NB.kept n_60 hg61 (by simp); have z4_61 : LR w61 (In (lo4) (w40.heap.size)) ([(T.mk 1 [] 0 (pos c.L s4.1) l30), t2, t3, t4]) (.slice ad40 4 cp40) := LR.grown z4_60 hg61; have m5_61 : LR w61 (In (lo5) (w60.heap.size)) (l60) (.slice ad60 l60.length cp60) := LR.grown m5_60 hg61; have r_lt61 := r_61.lt; have pr_lt61 := pr_61.lt; have n_lt61 := n_61.lt; obtain ⟨_, _, _, _, _, r0_61, r1_61, r2_61, r3_61, r4_61, r5_61⟩ := id r_61; obtain ⟨pr0_61, pr1_61, pr2_61, pr3_61, pr4_61, pr5_61⟩ := id pr_61; obtain ⟨n0_61, n1_61, n2_61, n3_61, n4_61, n5_61⟩ := id n_61
        go_upto_if 75 with (go_at_call 29; refine (ris_any c _ s60 d kBEGIN _ rfl (by decide) (by exact RS.alloc p61 _)).mono ?_; rintro e w62 ⟨a62, s62, v62, hr62, rfl, rfl, hg62, p62, hi62⟩)
        have G62 : w.grownBy w62 (some c.rb) := gb_trans (by exact gb_alloc G61 _) hg62; have sz62 := hg62.size
        try simp at sz62
        have r_62 : RB w62 (w.heap.size) := RB.keep (by exact RB.alloc r_61 _) hg62 (by omega); have pr_62 : NB w62 (w41.heap.size) (.int .i64 1) (.string ⟨#[]⟩) (.int .i64 0) (.int .i64 (pos c.L s40.1)) (.slice ad60 l60.length cp60) := NB.keep (by exact NB.alloc pr_61 _) hg62 (by omega); have n_62 : NB w62 (w1.heap.size) (.int .i64 2) (.string ⟨a3.toArray⟩) (.int .i64 0) (.int .i64 (pos c.L s.1)) (.slice ad40 4 cp40) := NB.keep (by exact NB.alloc n_61 _) hg62 (by omega); have bo_62 : NB w62 (w61.heap.size) (.int .i64 1) (.string ⟨#[]⟩) (.int .i64 0) (.int .i64 (pos c.L s60.1)) (.slice none 0 0) := NB.keep (NB.new' (by simp)) hg62 (by omega); have z4_62 : LR w62 (In (lo4) (w40.heap.size)) ([(T.mk 1 [] 0 (pos c.L s4.1) l30), t2, t3, t4]) (.slice ad40 4 cp40) := LR.call (by exact LR.alloc z4_61 _) hg62 (by omega); have m5_62 : LR w62 (In (lo5) (w60.heap.size)) (l60) (.slice ad60 l60.length cp60) := LR.call (by exact LR.alloc m5_61 _) hg62 (by omega); have r_lt62 := r_62.lt; have pr_lt62 := pr_62.lt; have n_lt62 := n_62.lt; have bo_lt62 := bo_62.lt; obtain ⟨_, _, _, _, _, r0_62, r1_62, r2_62, r3_62, r4_62, r5_62⟩ := id r_62; obtain ⟨pr0_62, pr1_62, pr2_62, pr3_62, pr4_62, pr5_62⟩ := id pr_62; obtain ⟨n0_62, n1_62, n2_62, n3_62, n4_62, n5_62⟩ := id n_62; obtain ⟨bo0_62, bo1_62, bo2_62, bo3_62, bo4_62, bo5_62⟩ := id bo_62
        go_cut [] from 76 (fun wx => ∃ (k6 : Int) (x6 : List UInt8) (m6 a6 : Int) (l6 : List T) (ad6 : Option Addr) (cp6 : Nat) (s9 : QS) (lo6 : Nat), NB wx (w61.heap.size) (.int .i64 k6) (.string ⟨x6.toArray⟩) (.int .i64 m6) (.int .i64 a6) (.slice ad6 l6.length cp6) ∧ NB wx (w41.heap.size) (.int .i64 1) (.string ⟨#[]⟩) (.int .i64 0) (.int .i64 (pos c.L s40.1)) (.slice ad60 l60.length cp60) ∧ NB wx (w1.heap.size) (.int .i64 2) (.string ⟨a3.toArray⟩) (.int .i64 0) (.int .i64 (pos c.L s.1)) (.slice ad40 4 cp40) ∧ RB wx (w.heap.size) ∧ LR wx (In (lo4) (w40.heap.size)) ([(T.mk 1 [] 0 (pos c.L s4.1) l30), t2, t3, t4]) (.slice ad40 4 cp40) ∧ LR wx (In lo5 w60.heap.size) l60 (.slice ad60 l60.length cp60) ∧ LR wx (In lo6 wx.heap.size) l6 (.slice ad6 l6.length cp6) ∧ w60.heap.size ≤ lo6 ∧ lo6 ≤ wx.heap.size ∧ RS c wx s9 d ∧ w.grownBy wx (some c.rb) ∧ s60.1 ≤ s9.1 ∧ bodyQ c.L s60 = (T.mk k6 x6 m6 a6 l6, s9))
        case first =>
          have HRb0 : bodyQ c.L s60 = ((isQ c.L kBEGIN).bind (fun b => if b = true then actsQ c.L 20 else Q.ret (.mk 1 [] 0 (pos c.L s60.1) []))) s60 := rfl
          have HRb := HRb0.trans (Q.bind_eq hr62); cases a62
          · rw [if_neg (by decide)] at HRb
            go_wp2; go_meet
            case rel => exact ⟨1, [], 0, pos c.L s60.1, [], none, 0, s62, w62.heap.size, bo_62, pr_62, n_62, r_62, z4_62, m5_62, LR.nil _ _, by omega, Nat.le_refl _, p62, G62, by omega, HRb⟩
          · rw [if_pos rfl] at HRb
            go_wp2_with fail; go_at_call 32; refine (hB _ s62 p62).mono ?_; rintro e w63 ⟨⟨k63, n63, m63, q63, l63⟩, s63, v63, hr63, rfl, ⟨sv63, rfl, lr63⟩, hg63, p63, hi63⟩; simp only [T.kind, T.name, T.num, T.at', T.subs] at lr63 ⊢; obtain ⟨ad63, cp63, rfl⟩ := lr63.form; obtain ⟨b63, hb63, lr63⟩ : ∃ b, b = _ ∧ LR w63 (In b w63.heap.size) l63 (.slice ad63 l63.length cp63) := ⟨_, rfl, lr63⟩
            try simp at hb63
            have G63 : w.grownBy w63 (some c.rb) := gb_trans G62 hg63; have sz63 := hg63.size
            try simp at sz63
            have r_63 : RB w63 (w.heap.size) := RB.keep r_62 hg63 (by omega); have pr_63 : NB w63 (w41.heap.size) (.int .i64 1) (.string ⟨#[]⟩) (.int .i64 0) (.int .i64 (pos c.L s40.1)) (.slice ad60 l60.length cp60) := NB.keep pr_62 hg63 (by omega); have n_63 : NB w63 (w1.heap.size) (.int .i64 2) (.string ⟨a3.toArray⟩) (.int .i64 0) (.int .i64 (pos c.L s.1)) (.slice ad40 4 cp40) := NB.keep n_62 hg63 (by omega); have bo_63 : NB w63 (w61.heap.size) (.int .i64 1) (.string ⟨#[]⟩) (.int .i64 0) (.int .i64 (pos c.L s60.1)) (.slice none 0 0) := NB.keep bo_62 hg63 (by omega); have z4_63 : LR w63 (In (lo4) (w40.heap.size)) ([(T.mk 1 [] 0 (pos c.L s4.1) l30), t2, t3, t4]) (.slice ad40 4 cp40) := LR.call z4_62 hg63 (by omega); have m5_63 : LR w63 (In (lo5) (w60.heap.size)) (l60) (.slice ad60 l60.length cp60) := LR.call m5_62 hg63 (by omega); have r_lt63 := r_63.lt; have pr_lt63 := pr_63.lt; have n_lt63 := n_63.lt; have bo_lt63 := bo_63.lt; obtain ⟨_, _, _, _, _, r0_63, r1_63, r2_63, r3_63, r4_63, r5_63⟩ := id r_63; obtain ⟨pr0_63, pr1_63, pr2_63, pr3_63, pr4_63, pr5_63⟩ := id pr_63; obtain ⟨n0_63, n1_63, n2_63, n3_63, n4_63, n5_63⟩ := id n_63; obtain ⟨bo0_63, bo1_63, bo2_63, bo3_63, bo4_63, bo5_63⟩ := id bo_63; go_wp2; go_meet
            case rel => refine ⟨k63, n63, m63, q63, l63, ad63, cp63, s63, b63, (by exact NB.s4 (NB.s3 (NB.s2 (NB.s1 (NB.s0 bo_63 _) _) _) _) _), (by exact NB.p5 pr_63 (by omega)), (by exact NB.p5 n_63 (by omega)), (by exact RB.p5 r_63), (by exact LR.p5 z4_63 (by omega)), (by exact LR.p5 m5_63 (by omega)), LR.wide (lo := b63) (hi := w63.heap.size) ((by exact LR.p5 lr63 (by omega))) (Nat.le_refl _) (by simp [World.setCell]), by omega, by simp [World.setCell]; omega, (by exact RS.p5 p63 HL.out (by omega)), (by exact gb_p5 G63 (by omega)), by omega, HRb.trans hr63⟩
        case rest =>
          obtain ⟨w70, hw70⟩ : ∃ x, x = wc := ⟨_, rfl⟩; subst hw70; obtain ⟨k6, x6, m6, a6, l6, ad6, cp6, s70, lo6, bo_70, pr_70, n_70, r_70, z4_70, m5_70, m6_70, hlo7, hlo8, p70, G70, hi70, HRb⟩ := hcut; have r_lt70 := r_70.lt; have bo_lt70 := bo_70.lt; have pr_lt70 := pr_70.lt; have n_lt70 := n_70.lt; obtain ⟨_, _, _, _, _, r0_70, r1_70, r2_70, r3_70, r4_70, r5_70⟩ := id r_70; obtain ⟨bo0_70, bo1_70, bo2_70, bo3_70, bo4_70, bo5_70⟩ := id bo_70; obtain ⟨pr0_70, pr1_70, pr2_70, pr3_70, pr4_70, pr5_70⟩ := id pr_70; obtain ⟨n0_70, n1_70, n2_70, n3_70, n4_70, n5_70⟩ := id n_70; have HR70 : moduleQ c.L s = _ := HR60.trans (Q.bind_eq HRb); have hL2 : LR (w70.alloc (.cells #[.int .i64 1, .string ⟨#[]⟩, .int .i64 0, .int .i64 (pos c.L s40.1), .slice ad60 l60.length cp60, .int .i64 k6, .string ⟨x6.toArray⟩, .int .i64 m6, .int .i64 a6, .slice ad6 l6.length cp6] 25)) (In (lo4) (w40.heap.size)) ([(T.mk 1 [] 0 (pos c.L s4.1) l30), t2, t3, t4]) (.slice ad40 4 cp40) := LR.alloc z4_70 _; have hL4 : LR (w70.alloc (.cells #[.int .i64 1, .string ⟨#[]⟩, .int .i64 0, .int .i64 (pos c.L s40.1), .slice ad60 l60.length cp60, .int .i64 k6, .string ⟨x6.toArray⟩, .int .i64 m6, .int .i64 a6, .slice ad6 l6.length cp6] 25)) (In lo5 (w70.heap.size + 1)) [(T.mk 1 [] 0 (pos c.L s40.1) l60), (T.mk k6 x6 m6 a6 l6)] (.slice (some ⟨w70.heap.size, 0, none⟩) 2 2) := LR.build2 w70 (t := (T.mk 1 [] 0 (pos c.L s40.1) l60)) (t2 := (T.mk k6 x6 m6 a6 l6)) (sv := .slice ad60 l60.length cp60) (sv2 := .slice ad6 l6.length cp6) (LR.wide m5_70 (by omega) (by omega)) (LR.wide m6_70 (by omega) (by omega)) rfl rfl (by omega); have hrow := hL2.rows; have HL2 := hide hL2; have HL4 := hide hL4; clear hL2 hL4
          go_wp2_with (first
            | (at_builtin
               refine wpList_appLR rfl _ _ rfl rfl rfl HL2.out HL4.out (by omega) (by omega) (by simp; omega) (by simp) (by simp) ?_; intro v71 w71 lr71 hg71; obtain ⟨ad71, cp71, e71⟩ := lr71.form; have e71 : v71 = .slice ad71 6 cp71 := e71; subst e71; have sz71 := hg71.size
               simp at sz71
               have r_71 : RB w71 (w.heap.size) := RB.kept (RB.alloc r_70 _) hg71 (fun e => by have := hrow _ e.symm; omega); have n_71 : NB w71 (w1.heap.size) (.int .i64 2) (.string ⟨a3.toArray⟩) (.int .i64 0) (.int .i64 (pos c.L s.1)) (.slice ad40 4 cp40) := NB.kept (NB.alloc n_70 _) hg71 (fun e => by have := hrow _ e.symm; omega); have p71 : RS c w71 s70 d := RS.own (RS.alloc p70 _) HL.out hg71 (fun b hb => by have := hrow b hb; omega); have G71 : w.grownBy w71 (some c.rb) := gb_own (gb_alloc G70 _) hg71 (fun b hb => by have := hrow b hb; omega); have r_lt71 := r_71.lt; have n_lt71 := n_71.lt; obtain ⟨_, _, _, _, _, r0_71, r1_71, r2_71, r3_71, r4_71, r5_71⟩ := id r_71
               obtain ⟨n0_71, n1_71, n2_71, n3_71, n4_71, n5_71⟩ := id n_71))
          have lz71 : LR w71 (In lo4 w71.heap.size) [(T.mk 1 [] 0 (pos c.L s4.1) l30), t2, t3, t4, (T.mk 1 [] 0 (pos c.L s40.1) l60), (T.mk k6 x6 m6 a6 l6)] (.slice ad71 6 cp71) := lr71; go_wp2_with fail; go_at_call 27; refine (rneed_any c _ s70 d kEND _ rfl (by decide) (by exact RS.put p71 HL.out (by omega) _ _)).mono ?_; rintro e w72 ⟨a72, s72, v72, hr72, rfl, -, hg72, p72, hi72⟩; have G72 : w.grownBy w72 (some c.rb) := gb_trans (by exact gb_put G71 (by omega) _ _) hg72; have sz72 := hg72.size
          try simp at sz72
          have r_72 : RB w72 (w.heap.size) := RB.keep (by exact RB.put r_71 _ _ _) hg72 (by omega); have n_72 : NB w72 (w1.heap.size) (.int .i64 2) (.string ⟨a3.toArray⟩) (.int .i64 0) (.int .i64 (pos c.L s.1)) (.slice ad71 6 cp71) := NB.keep (by exact NB.s4 n_71 _) hg72 (by omega); have zz_72 : LR w72 (In (lo4) (w71.heap.size)) ([(T.mk 1 [] 0 (pos c.L s4.1) l30), t2, t3, t4, (T.mk 1 [] 0 (pos c.L s40.1) l60), (T.mk k6 x6 m6 a6 l6)]) (.slice ad71 6 cp71) := LR.call (by exact LR.put lz71 (by omega) _ _) hg72 (by omega); have r_lt72 := r_72.lt; have n_lt72 := n_72.lt; obtain ⟨_, _, _, _, _, r0_72, r1_72, r2_72, r3_72, r4_72, r5_72⟩ := id r_72; obtain ⟨n0_72, n1_72, n2_72, n3_72, n4_72, n5_72⟩ := id n_72
          have hbad : a3 = [] → s72.2 ≠ none := fun h0 => (sim_need c.L _).2.keeps hr72 ((sim_body c.L (goodW _)).2.keeps HRb ((sim_procedures c.L (goodW _)).2.keeps HRp ((sim_section c.L (sim_variable c.L) _).2.keeps hq4 ((sim_section c.L (sim_typeDecl c.L (goodW _)) _).2.keeps hq3 ((sim_section c.L (sim_constant c.L (goodW _)) _).2.keeps hq2 ((sim_imports c.L).2.keeps HRi ((sim_need c.L _).2.keeps hr4 (nameQ_nil hr3 h0))))))))
          go_wp2_with fail; go_at_call 27; refine (rneed_name c _ s72 d a3 _ (by simp) hbad p72).mono ?_; rintro e w73 ⟨a73, s73, v73, hr73, rfl, -, hg73, p73, hi73⟩; have G73 : w.grownBy w73 (some c.rb) := gb_trans G72 hg73; have sz73 := hg73.size
          try simp at sz73
          have r_73 : RB w73 (w.heap.size) := RB.keep r_72 hg73 (by omega); have n_73 : NB w73 (w1.heap.size) (.int .i64 2) (.string ⟨a3.toArray⟩) (.int .i64 0) (.int .i64 (pos c.L s.1)) (.slice ad71 6 cp71) := NB.keep n_72 hg73 (by omega); have zz_73 : LR w73 (In (lo4) (w71.heap.size)) ([(T.mk 1 [] 0 (pos c.L s4.1) l30), t2, t3, t4, (T.mk 1 [] 0 (pos c.L s40.1) l60), (T.mk k6 x6 m6 a6 l6)]) (.slice ad71 6 cp71) := LR.call zz_72 hg73 (by omega); have r_lt73 := r_73.lt; have n_lt73 := n_73.lt; obtain ⟨_, _, _, _, _, r0_73, r1_73, r2_73, r3_73, r4_73, r5_73⟩ := id r_73; obtain ⟨n0_73, n1_73, n2_73, n3_73, n4_73, n5_73⟩ := id n_73; have hen : endingQ c.L a3 s70 = _ := (Q.bind_eq hr72).trans hr73; have HR72 : moduleQ c.L s = _ := HR70.trans (Q.bind_eq hen); go_wp2_with fail; go_at_call 27; refine (rneed_any c _ s73 d s_dot _ rfl (by decide) p73).mono ?_; rintro e w74 ⟨a74, s74, v74, hr74, rfl, -, hg74, p74, hi74⟩; have HR74 : moduleQ c.L s = _ := HR72.trans (Q.bind_eq hr74); have G74 : w.grownBy w74 (some c.rb) := gb_trans G73 hg74; have sz74 := hg74.size
          try simp at sz74
          have r_74 : RB w74 (w.heap.size) := RB.keep r_73 hg74 (by omega); have n_74 : NB w74 (w1.heap.size) (.int .i64 2) (.string ⟨a3.toArray⟩) (.int .i64 0) (.int .i64 (pos c.L s.1)) (.slice ad71 6 cp71) := NB.keep n_73 hg74 (by omega); have zz_74 : LR w74 (In (lo4) (w71.heap.size)) ([(T.mk 1 [] 0 (pos c.L s4.1) l30), t2, t3, t4, (T.mk 1 [] 0 (pos c.L s40.1) l60), (T.mk k6 x6 m6 a6 l6)]) (.slice ad71 6 cp71) := LR.call zz_73 hg74 (by omega); have r_lt74 := r_74.lt; have n_lt74 := n_74.lt; obtain ⟨_, _, _, _, _, r0_74, r1_74, r2_74, r3_74, r4_74, r5_74⟩ := id r_74; obtain ⟨n0_74, n1_74, n2_74, n3_74, n4_74, n5_74⟩ := id n_74; go_wp2; refine node_ret Tryz.results11 rfl (RB.five ?_) rfl ?_
          · exact r_74
          refine QSt.ok (a := (T.mk 2 a3 0 (pos c.L s.1) [(T.mk 1 [] 0 (pos c.L s4.1) l30), t2, t3, t4, (T.mk 1 [] 0 (pos c.L s40.1) l60), (T.mk k6 x6 m6 a6 l6)])) (HR74) ⟨_, rfl, ?_⟩ ?_ ?_ (by omega)
          · refine LR.wide (lo := lo4) (hi := w71.heap.size) (ts := [(T.mk 1 [] 0 (pos c.L s4.1) l30), t2, t3, t4, (T.mk 1 [] 0 (pos c.L s40.1) l60), (T.mk k6 x6 m6 a6 l6)]) ?_ (by omega) (by first | omega | (simp <;> omega))
            exact LR.p5 zz_74 (by omega)
          · exact gb_p5 G74 (by omega)
          · exact RS.p5 p74 HL.out (by omega)
end Go.Proofs.YtbphiiaoncakfaaGreatDoor
