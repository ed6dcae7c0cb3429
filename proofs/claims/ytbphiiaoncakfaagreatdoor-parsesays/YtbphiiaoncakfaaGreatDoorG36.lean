/- The document's reader: sums. -/
import Derived.Test.YtbphiiaoncakfaaGreatDoorG34
namespace Go.Proofs.YtbphiiaoncakfaaGreatDoor
open Go.RowKit

set_option maxRecDepth 100000 in
set_option maxHeartbeats 4000000 in
theorem rsum_any (c : RC) (w : World) (s : QS) (d : Nat) (E F : Q T) (h : RS c w s d) (hX : QOK c d 119 (productQ c.L E F)) (hst : Stays (productQ c.L E F)) :
    Calls Tryz.prog 102 #[.pointer (some ⟨c.rb, 0, none⟩)] w (QSt c w s d (fun w' t v => TR w' w.heap.size w'.heap.size t v) (sumQ c.L E F s)) := by
  have HP := hide h; have HL := hide h.low; have hb := h.lt; have hfew := h.good.few; have HX := hide hX; clear h
  go_enter Tryz.func102, Tryz.ntmps102
  go_wp2_with fail; go_at_call 26; refine (rat_any c _ s d (by exact RS.alloc HP.out _)).mono ?_; rintro e w1 ⟨rfl, hg1⟩; have p1 : RS c w1 s d := RS.grown (by exact RS.alloc HP.out _) hg1; have G1 : w.grownBy w1 (some c.rb) := gb_trans (by exact gb_alloc (gb_refl w (some c.rb)) _) (gb_some hg1 (some c.rb)); have sz1 := hg1.size
  try simp at sz1
  have r_1 : RB w1 (w.heap.size) := RB.kept (RB.new' (by simp)) hg1 (by simp); have r_lt1 := r_1.lt; obtain ⟨_,_,_,_,_,_,_,_,_,_,_⟩ := id r_1
  have HRx1 : sumQ c.L E F s = (((isQ c.L s_minus).bind (fun b => (productQ c.L E F).bind fun a => chainQ c.L addsB (productQ c.L E F) 20 (if b then .mk 35 [] 0 (pos c.L s.1) [a] else a))) s) := rfl
  go_wp2_with fail; go_at_call 29; refine (ris_any c _ s d s_minus _ rfl (by decide) (by exact RS.alloc p1 _)).mono ?_; rintro e w2 ⟨a2, s2, v2, hr2, rfl, rfl, hg2, p2, hi2⟩; have HR2 : sumQ c.L E F s = _ := HRx1.trans (Q.bind_eq hr2); have G2 : w.grownBy w2 (some c.rb) := gb_trans (by exact gb_alloc G1 _) hg2; have sz2 := hg2.size
  try simp at sz2
  have r_2 : RB w2 (w.heap.size) := RB.keep (by exact RB.alloc r_1 _) hg2 (by omega); have a_2 : NB w2 (w1.heap.size) (.int .i64 0) (.string ⟨#[]⟩) (.int .i64 0) (.int .i64 0) (.slice none 0 0) := NB.keep (NB.new' (by simp)) hg2 (by omega); have r_lt2 := r_2.lt; have a_lt2 := a_2.lt; obtain ⟨_,_,_,_,_,_,_,_,_,_,_⟩ := id r_2; obtain ⟨_,_,_,_,_,_⟩ := id a_2; cases a2
  · go_wp2_with fail
    go_at_call 119; refine (HX.out _ s2 p2).mono ?_; rintro e w3 ⟨⟨k3, n3, m3, q3, l3⟩, s3, v3, hr3, rfl, ⟨sv3, rfl, lr3⟩, hg3, p3, hi3⟩; have HR3 : sumQ c.L E F s = _ := HR2.trans (Q.bind_eq hr3); simp only [T.kind, T.name, T.num, T.at', T.subs] at lr3 ⊢; obtain ⟨ad3, cp3, rfl⟩ := lr3.form; obtain ⟨b3, hb3, lr3⟩ : ∃ b, b = _ ∧ LR w3 (In b w3.heap.size) l3 (.slice ad3 l3.length cp3) := ⟨_, rfl, lr3⟩
    try simp at hb3
    have G3 : w.grownBy w3 (some c.rb) := gb_trans G2 hg3; have sz3 := hg3.size
    try simp at sz3
    have r_3 : RB w3 (w.heap.size) := RB.keep r_2 hg3 (by omega); have a_3 : NB w3 (w1.heap.size) (.int .i64 0) (.string ⟨#[]⟩) (.int .i64 0) (.int .i64 0) (.slice none 0 0) := NB.keep a_2 hg3 (by omega); have r_lt3 := r_3.lt; have a_lt3 := a_3.lt; obtain ⟨_,_,_,_,_,_,_,_,_,_,_⟩ := id r_3; obtain ⟨_,_,_,_,_,_⟩ := id a_3; have HRc : sumQ c.L E F s = chainQ c.L addsB (productQ c.L E F) 20 (T.mk k3 n3 m3 q3 l3) s3 := HR3
    have hSlt : ∀ k, (fun _ : Nat => False) k → k < w.heap.size := fun _ h => h.elim
    have hnA : ¬ (fun _ : Nat => False) (w1.heap.size) := id; have hnR : ¬ (fun _ : Nat => False) (w.heap.size) := id; have hnr : ¬ (fun _ : Nat => False) c.rb := id; go_wp2_with fail
    go_loopw [5] (fun v wr => ∃ (t : T) (sv : Value) (s9 : QS) (f many : Nat), v = .int .i64 many ∧ 1 ≤ many ∧ many ≤ 22 ∧ (s9.2 = none → many + f = 21) ∧ Hid (CQ c w (w1.heap.size) (w.heap.size) s3 d (fun _ => False) (chainQ c.L addsB (productQ c.L E F) 20 (T.mk k3 n3 m3 q3 l3) s3) (chainQ c.L addsB (productQ c.L E F)) wr t sv s9 f)) (fun v _ => 23 - (intOf v).toNat)
    case atStart => exact ⟨(T.mk k3 n3 m3 q3 l3), (.slice ad3 l3.length cp3), s3, 20, 1, rfl, by omega, by omega, fun _ => by omega, CQ.mk (NB.s4 (NB.s3 (NB.s2 (NB.s1 (NB.s0 (show NB _ (w1.heap.size) (.int .i64 0) (.string ⟨#[]⟩) (.int .i64 0) (.int .i64 0) (.slice none 0 0) from a_3) _) _) _) _) _) (by exact RB.p5 r_3) (LR.inU (LR.wide (lo := b3) (hi := w3.heap.size) (ts := l3) (by exact LR.p5 lr3 (by omega)) (by omega) (by first | omega | (simp <;> omega)))) (by exact RS.p5 p3 HL.out (by omega)) (by exact gb_p5 G3 (by omega)) rfl (Nat.le_refl _)⟩
    case round =>
      obtain ⟨⟨k, x, m, a, l⟩, sv, s20, f, many, rfl, hm1, hm2, hmf, HC⟩ := hrel; have hC := HC.out; have hlr0 := hC.lr; simp only [T.subs] at hlr0; obtain ⟨ad, cp, rfl⟩ := hlr0.form; have HNB := hide hC.nb; have HRB := hide hC.rb; have HLR := hide hlr0; have HPS := hide hC.ps; have HG := hide hC.gb; have HSM := hide hC.same; have hij := hC.le; have hsA := hC.nb.lt; have hsR := hC.rb.lt; have hgs := hC.gb.size; have hil := hC.ps.il; clear hC HC hlr0; simp only [T.kind, T.name, T.num, T.at'] at HNB; go_wp2_with fail; go_at_call 12; refine (rok_any c _ s20 d HPS.out).mono ?_; rintro e w21 ⟨rfl, hg21⟩; have sz21 := hg21.size
      by_cases hok : s20.2 = none
      · have hokb : decide (s20.2 = none) = true := decide_eq_true hok
        try simp only [hokb]
        go_wp2_with fail; go_at_call 13; refine (rword_any c _ s20 d (HPS.out.grown hg21)).mono ?_; rintro e w22 ⟨rfl, hg22⟩; have hgg : wr.grownBy w22 none := gb_trans hg21 hg22; have sz22 := hgg.size; have hin := rin_any (wd c.L s20.1) [s_plus, s_minus, kOR] w22.heap.size 3 (w22.alloc (.cells ([s_plus, s_minus, kOR].map fun x => Value.string ⟨x.toArray⟩).toArray 9)) rfl (by decide) (fun k h => lits_cell [s_plus, s_minus, kOR] w22 _ k h); rw [adds_in] at hin; cases hjo : addsB (wd c.L s20.1)
        · rw [hjo] at hin
          have nbq := HNB.out.kept hgg (by simp); have rbq := HRB.out.kept hgg (by simp); have nbl := nbq.lt; have rbl := rbq.lt; obtain ⟨x0, x1, x2, x3, x4, xz⟩ := id nbq; obtain ⟨_, _, _, _, _, y0, y1, y2, y3, y4, yz⟩ := id rbq
          go_wp2_with (go_at_call 101; refine Calls.mono hin ?_; rintro e _ ⟨rfl, rfl⟩)
          refine node_ret Tryz.results102 rfl (NB.alloc (RB.five ?_) _) rfl ?_
          · exact rbq
          refine QSt.ok (a := T.mk k x m a l) (HRc.trans (HSM.out.trans (chainQ_no (fun h => by rw [hjo] at h; cases h.2)))) ⟨_, rfl, ?_⟩ ?_ ?_ (by omega)
          · have h5 : LR _ (Un (fun _ => False) (w1.heap.size + 1) wr.heap.size) l (.slice ad l.length cp) := HLR.out.grownU hgg
            refine LR.mono (S := Un (fun _ => False) (w1.heap.size + 1) wr.heap.size) ?_ (fun k hk => hk.elim (fun h => h.elim) (fun h => ⟨by omega, Nat.lt_of_lt_of_le h.2 (by simp [World.setCell]; omega)⟩)); refine LR.grownU ?_ (World.grownBy_alloc _ _ none)
            exact (((((h5.callU (gb_set (gb_refl _ _) _ _) hnR (by omega)).callU (gb_set (gb_refl _ _) _ _) hnR (by omega)).callU (gb_set (gb_refl _ _) _ _) hnR (by omega)).callU (gb_set (gb_refl _ _) _ _) hnR (by omega)).callU (gb_set (gb_refl _ _) _ _) hnR (by omega))
          · exact gb_alloc (gb_p5 (gb_trans HG.out (gb_some hgg _)) (by omega)) _
          · exact RS.alloc (RS.p5 (HPS.out.grown hgg) HL.out (by omega)) _
        · rw [hjo] at hin
          have hne : wd c.L s20.1 ≠ [] := by
            intro e; rw [e] at hjo
            revert hjo
            decide
          have his : isQ c.L (wd c.L s20.1) s20 = (true, (s20.1 + 1, none)) := by unfold isQ; rw [if_pos ⟨hok, rfl⟩]
          rcases Nat.lt_or_ge 20 many with hbig | hsmall
          · have hf0 : f = 0 := by have := hmf hok; omega
            subst hf0
            have hx : decide ((20 : Int) < (many : Int)) = true := by simp; omega
            go_wp2_with (first
              | (go_at_call 101; refine Calls.mono hin ?_; rintro e _ ⟨rfl, rfl⟩)
              | (go_at_call 29; refine (ris_any c _ s20 d (wd c.L s20.1) _ (by simp) hne (RS.alloc (HPS.out.grown hgg) _)).mono ?_; rintro e w23 ⟨a23, s23, v23, hr23, rfl, rfl, hg23, p23, hi23⟩; rw [his] at hr23; cases hr23))
            have sz23 := hg23.size
            simp at sz23
            have nb23 := NB.kept (NB.alloc (HNB.out.kept hgg (by simp)) _) hg23 (by simp; omega); have rb23 := RB.kept (RB.alloc (HRB.out.kept hgg (by simp)) _) hg23 (by simp; omega); have lr23 := LR.callU (LR.grownU (HLR.out.grownU hgg) (World.grownBy_alloc _ _ none)) hg23 hnr (by omega); have G23 : w.grownBy w23 (some c.rb) := gb_trans (gb_alloc (gb_trans HG.out (gb_some hgg _)) _) hg23; obtain ⟨x0, x1, x2, x3, x4, xz⟩ := id nb23; go_wp2_with fail; go_at_call 33; refine (rstop_any c _ (s20.1 + 1, none) d 3 (by decide) p23).mono ?_; rintro e w24 ⟨a24, s24, v24, hr24, rfl, -, hg24, p24, hi24⟩; have sz24 := hg24.size; have nb24 := nb23.kept hg24 (by simp; omega); have rb24 := rb23.kept hg24 (by simp; omega); have lr24 := lr23.callU hg24 hnr (by omega); have G24 : w.grownBy w24 (some c.rb) := gb_trans G23 hg24; have HR24 := HSM.out.trans ((chainQ_end ⟨hok, hjo⟩).trans (Q.bind_eq hr24))
            have hbad : s24.2 ≠ none := by have := (stopQ_some c.L 3 (s20.1 + 1, none)).1; rw [hr24] at this; exact this
            obtain ⟨x0, x1, x2, x3, x4, xz⟩ := id nb24; clear x0 x1 x2 x3 x4 xz; obtain ⟨x0, x1, x2, x3, x4, xz⟩ := id nb24; go_wp2_with fail
            go_region_with (first
              | (go_at_call 119
                 refine (HX.out _ s24 (p24.drewN _)).mono ?_; rintro e w25 ⟨⟨k5, n5, m5, q5, l5⟩, s25, v25, hr25, rfl, ⟨sv5, rfl, lr5⟩, hg25, p25, hi25⟩; simp only [T.kind, T.name, T.num, T.at', T.subs] at lr5 ⊢; obtain ⟨ad5, cp5, rfl⟩ := lr5.form; have sz25 := hg25.size
                 simp at sz25
                 have nb25 := NB.kept (nb24.drewN _) hg25 (by simp; omega); have zl := nb25.lt
                 obtain ⟨z0, z1, z2, z3, z4, zz⟩ := id nb25))
            all_goals
              have rb25 := RB.kept (rb24.drewN _) hg25 (by simp; omega); have G25 : w.grownBy w25 (some c.rb) := gb_trans (gb_drewN G24 _) hg25; have H1 : LR w25 (Un (fun _ => False) ((w1.heap.size) + 1) w25.heap.size) l (.slice ad l.length cp) := (LR.callU (lr24.grownU (gb_drewN (gb_refl _ none) _)) hg25 hnr (by omega)).wideU (Nat.le_refl _) (by omega); have H2 : LR w25 (Un (fun _ => False) ((w1.heap.size) + 1) w25.heap.size) l5 (.slice ad5 l5.length cp5) := LR.inU (lr5.wide (by simp; omega) (Nat.le_refl _))
              have hS25 : ∀ k, Un (fun _ => False) ((w1.heap.size) + 1) w25.heap.size k → k < w25.heap.size := fun k hk => hk.elim (fun h => by have := hSlt k h; omega) (fun h => h.2)
              obtain ⟨W5, hW5⟩ : ∃ W : World, W = ((((w25.setCell ⟨(w1.heap.size), 0, none⟩ (.int .i64 36)).setCell ⟨(w1.heap.size), 1, none⟩ (.string ⟨(wd c.L s20.1).toArray⟩)).setCell ⟨(w1.heap.size), 2, none⟩ (.int .i64 0)).setCell ⟨(w1.heap.size), 3, none⟩ (.int .i64 a)).setCell ⟨(w1.heap.size), 4, none⟩ (.slice (some ⟨w25.heap.size, 0, none⟩) 2 2) := ⟨_, rfl⟩
              have hWs : W5.heap.size = w25.heap.size := by rw [hW5]; simp [World.setCell]
              have H1w : LR W5 (Un (fun _ => False) ((w1.heap.size) + 1) w25.heap.size) l (.slice ad l.length cp) := by rw [hW5]; exact (((((H1.callU (gb_set (gb_refl _ _) _ _) hnA (by omega)).callU (gb_set (gb_refl _ _) _ _) hnA (by omega)).callU (gb_set (gb_refl _ _) _ _) hnA (by omega)).callU (gb_set (gb_refl _ _) _ _) hnA (by omega)).callU (gb_set (gb_refl _ _) _ _) hnA (by omega))
              have H2w : LR W5 (Un (fun _ => False) ((w1.heap.size) + 1) w25.heap.size) l5 (.slice ad5 l5.length cp5) := by rw [hW5]; exact (((((H2.callU (gb_set (gb_refl _ _) _ _) hnA (by omega)).callU (gb_set (gb_refl _ _) _ _) hnA (by omega)).callU (gb_set (gb_refl _ _) _ _) hnA (by omega)).callU (gb_set (gb_refl _ _) _ _) hnA (by omega)).callU (gb_set (gb_refl _ _) _ _) hnA (by omega))
              have nbW : NB W5 (w1.heap.size) (.int .i64 36) (.string ⟨(wd c.L s20.1).toArray⟩) (.int .i64 0) (.int .i64 a) (.slice (some ⟨w25.heap.size, 0, none⟩) 2 2) := by rw [hW5]; exact NB.s4 (NB.s3 (NB.s2 (NB.s1 (NB.s0 nb25 _) _) _) _) _
              have rbW : RB W5 (w.heap.size) := by rw [hW5]; exact RB.p5 rb25
              have pW : RS c W5 s25 d := by rw [hW5]; exact RS.p5 p25 HL.out (by omega)
              have GW : w.grownBy W5 (some c.rb) := by rw [hW5]; exact gb_p5 G25 (by omega)
              have HB := LR.build2S W5 (g := w25.heap.size) (t := T.mk k x m a l) (t2 := T.mk k5 n5 m5 q5 l5) (sv := .slice ad l.length cp) (sv2 := .slice ad5 l5.length cp5) (cs := #[.int .i64 k, .string ⟨x.toArray⟩, .int .i64 m, .int .i64 a, .slice ad l.length cp, .int .i64 k5, .string ⟨n5.toArray⟩, .int .i64 m5, .int .i64 q5, .slice ad5 l5.length cp5]) H1w H2w hS25 hWs.symm rfl; go_wp2; rw [← hW5]; clear hW5; refine ⟨⟨opT (wd c.L s20.1) (T.mk k x m a l) (T.mk k5 n5 m5 q5 l5), .slice (some ⟨w25.heap.size, 0, none⟩) 2 2, s25, 0, many + 1, by first | go_num | (simp; done) | (simp; omega), by omega, by have := hmf hok; omega, fun h => absurd h (hst.bad hbad hr25), CQ.mk (NB.alloc nbW _) (RB.alloc rbW _) (HB.mono (fun j9 hk => ?_)) (RS.alloc pW _) (gb_alloc GW _) ((HR24.trans (Q.bind_eq hr25)).trans (chainQ_no (fun h => (hst.bad hbad hr25) h.1)).symm) (by first | omega | (simp at hi25; omega))⟩, ?_⟩
              · have hz : (W5.alloc (.cells #[.int .i64 k, .string ⟨x.toArray⟩, .int .i64 m, .int .i64 a, .slice ad l.length cp, .int .i64 k5, .string ⟨n5.toArray⟩, .int .i64 m5, .int .i64 q5, .slice ad5 l5.length cp5] 25)).heap.size = w25.heap.size + 1 := by simp [hWs]
                rw [hz]
                rcases hk with (hk | hk) | hk
                · exact .inl hk
                · exact .inr ⟨hk.1, by omega⟩
                · exact .inr ⟨by omega, by omega⟩
              · simp [intOf]; omega
          · obtain ⟨f, rfl⟩ : ∃ g, f = g + 1 := ⟨f - 1, by have := hmf hok; omega⟩
            have hx : decide ((20 : Int) < (many : Int)) = false := by simp; omega
            go_wp2_with (first
              | (go_at_call 101; refine Calls.mono hin ?_; rintro e _ ⟨rfl, rfl⟩)
              | (go_at_call 29; refine (ris_any c _ s20 d (wd c.L s20.1) _ (by simp) hne (RS.alloc (HPS.out.grown hgg) _)).mono ?_; rintro e w23 ⟨a23, s23, v23, hr23, rfl, rfl, hg23, p23, hi23⟩; rw [his] at hr23; cases hr23))
            have sz23 := hg23.size
            simp at sz23
            have nb23 := NB.kept (NB.alloc (HNB.out.kept hgg (by simp)) _) hg23 (by simp; omega); have rb23 := RB.kept (RB.alloc (HRB.out.kept hgg (by simp)) _) hg23 (by simp; omega); have lr23 := LR.callU (LR.grownU (HLR.out.grownU hgg) (World.grownBy_alloc _ _ none)) hg23 hnr (by omega); have G23 : w.grownBy w23 (some c.rb) := gb_trans (gb_alloc (gb_trans HG.out (gb_some hgg _)) _) hg23; have HR24 := HSM.out.trans (chainQ_yes ⟨hok, hjo⟩); have nb24 := nb23; have rb24 := rb23; have lr24 := lr23; have G24 := G23; have p24 := p23; obtain ⟨x0, x1, x2, x3, x4, xz⟩ := id nb24; clear x0 x1 x2 x3 x4 xz; obtain ⟨x0, x1, x2, x3, x4, xz⟩ := id nb24; go_wp2_with fail
            go_region_with (first
              | (go_at_call 119
                 refine (HX.out _ (s20.1 + 1, none) (p24.drewN _)).mono ?_; rintro e w25 ⟨⟨k5, n5, m5, q5, l5⟩, s25, v25, hr25, rfl, ⟨sv5, rfl, lr5⟩, hg25, p25, hi25⟩; simp only [T.kind, T.name, T.num, T.at', T.subs] at lr5 ⊢; obtain ⟨ad5, cp5, rfl⟩ := lr5.form; have sz25 := hg25.size
                 simp at sz25
                 have nb25 := NB.kept (nb24.drewN _) hg25 (by simp; omega); have zl := nb25.lt
                 obtain ⟨z0, z1, z2, z3, z4, zz⟩ := id nb25))
            all_goals
              have rb25 := RB.kept (rb24.drewN _) hg25 (by simp; omega); have G25 : w.grownBy w25 (some c.rb) := gb_trans (gb_drewN G24 _) hg25; have H1 : LR w25 (Un (fun _ => False) ((w1.heap.size) + 1) w25.heap.size) l (.slice ad l.length cp) := (LR.callU (lr24.grownU (gb_drewN (gb_refl _ none) _)) hg25 hnr (by omega)).wideU (Nat.le_refl _) (by omega); have H2 : LR w25 (Un (fun _ => False) ((w1.heap.size) + 1) w25.heap.size) l5 (.slice ad5 l5.length cp5) := LR.inU (lr5.wide (by simp; omega) (Nat.le_refl _))
              have hS25 : ∀ k, Un (fun _ => False) ((w1.heap.size) + 1) w25.heap.size k → k < w25.heap.size := fun k hk => hk.elim (fun h => by have := hSlt k h; omega) (fun h => h.2)
              obtain ⟨W5, hW5⟩ : ∃ W : World, W = ((((w25.setCell ⟨(w1.heap.size), 0, none⟩ (.int .i64 36)).setCell ⟨(w1.heap.size), 1, none⟩ (.string ⟨(wd c.L s20.1).toArray⟩)).setCell ⟨(w1.heap.size), 2, none⟩ (.int .i64 0)).setCell ⟨(w1.heap.size), 3, none⟩ (.int .i64 a)).setCell ⟨(w1.heap.size), 4, none⟩ (.slice (some ⟨w25.heap.size, 0, none⟩) 2 2) := ⟨_, rfl⟩
              have hWs : W5.heap.size = w25.heap.size := by rw [hW5]; simp [World.setCell]
              have H1w : LR W5 (Un (fun _ => False) ((w1.heap.size) + 1) w25.heap.size) l (.slice ad l.length cp) := by rw [hW5]; exact (((((H1.callU (gb_set (gb_refl _ _) _ _) hnA (by omega)).callU (gb_set (gb_refl _ _) _ _) hnA (by omega)).callU (gb_set (gb_refl _ _) _ _) hnA (by omega)).callU (gb_set (gb_refl _ _) _ _) hnA (by omega)).callU (gb_set (gb_refl _ _) _ _) hnA (by omega))
              have H2w : LR W5 (Un (fun _ => False) ((w1.heap.size) + 1) w25.heap.size) l5 (.slice ad5 l5.length cp5) := by rw [hW5]; exact (((((H2.callU (gb_set (gb_refl _ _) _ _) hnA (by omega)).callU (gb_set (gb_refl _ _) _ _) hnA (by omega)).callU (gb_set (gb_refl _ _) _ _) hnA (by omega)).callU (gb_set (gb_refl _ _) _ _) hnA (by omega)).callU (gb_set (gb_refl _ _) _ _) hnA (by omega))
              have nbW : NB W5 (w1.heap.size) (.int .i64 36) (.string ⟨(wd c.L s20.1).toArray⟩) (.int .i64 0) (.int .i64 a) (.slice (some ⟨w25.heap.size, 0, none⟩) 2 2) := by rw [hW5]; exact NB.s4 (NB.s3 (NB.s2 (NB.s1 (NB.s0 nb25 _) _) _) _) _
              have rbW : RB W5 (w.heap.size) := by rw [hW5]; exact RB.p5 rb25
              have pW : RS c W5 s25 d := by rw [hW5]; exact RS.p5 p25 HL.out (by omega)
              have GW : w.grownBy W5 (some c.rb) := by rw [hW5]; exact gb_p5 G25 (by omega)
              have HB := LR.build2S W5 (g := w25.heap.size) (t := T.mk k x m a l) (t2 := T.mk k5 n5 m5 q5 l5) (sv := .slice ad l.length cp) (sv2 := .slice ad5 l5.length cp5) (cs := #[.int .i64 k, .string ⟨x.toArray⟩, .int .i64 m, .int .i64 a, .slice ad l.length cp, .int .i64 k5, .string ⟨n5.toArray⟩, .int .i64 m5, .int .i64 q5, .slice ad5 l5.length cp5]) H1w H2w hS25 hWs.symm rfl; go_wp2; rw [← hW5]; clear hW5; refine ⟨⟨opT (wd c.L s20.1) (T.mk k x m a l) (T.mk k5 n5 m5 q5 l5), .slice (some ⟨w25.heap.size, 0, none⟩) 2 2, s25, f, many + 1, by first | go_num | (simp; done) | (simp; omega), by omega, by have := hmf hok; omega, fun _ => by have := hmf hok; omega, CQ.mk (NB.alloc nbW _) (RB.alloc rbW _) (HB.mono (fun j9 hk => ?_)) (RS.alloc pW _) (gb_alloc GW _) (HR24.trans (Q.bind_eq hr25)) (by first | omega | (simp at hi25; omega))⟩, ?_⟩
              · have hz : (W5.alloc (.cells #[.int .i64 k, .string ⟨x.toArray⟩, .int .i64 m, .int .i64 a, .slice ad l.length cp, .int .i64 k5, .string ⟨n5.toArray⟩, .int .i64 m5, .int .i64 q5, .slice ad5 l5.length cp5] 25)).heap.size = w25.heap.size + 1 := by simp [hWs]
                rw [hz]
                rcases hk with (hk | hk) | hk
                · exact .inl hk
                · exact .inr ⟨hk.1, by omega⟩
                · exact .inr ⟨by omega, by omega⟩
              · simp [intOf]; omega
      · have hokb : decide (s20.2 = none) = false := decide_eq_false hok
        try simp only [hokb]
        obtain ⟨x0, x1, x2, x3, x4, xz⟩ := id (HNB.out.kept hg21 (by simp)); obtain ⟨_, _, _, _, _, y0, y1, y2, y3, y4, yz⟩ := id (HRB.out.kept hg21 (by simp)); go_wp2; refine node_ret Tryz.results102 rfl (RB.five ?_) rfl ?_
        · exact HRB.out.kept hg21 (by simp)
        refine QSt.ok (a := T.mk k x m a l) (HRc.trans (HSM.out.trans (chainQ_no (fun h => hok h.1)))) ⟨_, rfl, ?_⟩ ?_ ?_ (by omega)
        · have h5 : LR _ (Un (fun _ => False) (w1.heap.size + 1) wr.heap.size) l (.slice ad l.length cp) := HLR.out.grownU hg21
          refine LR.mono (S := Un (fun _ => False) (w1.heap.size + 1) wr.heap.size) ?_ (fun k hk => hk.elim (fun h => h.elim) (fun h => ⟨by omega, Nat.lt_of_lt_of_le h.2 (by simp [World.setCell]; omega)⟩))
          exact (((((h5.callU (gb_set (gb_refl _ _) _ _) hnR (by omega)).callU (gb_set (gb_refl _ _) _ _) hnR (by omega)).callU (gb_set (gb_refl _ _) _ _) hnR (by omega)).callU (gb_set (gb_refl _ _) _ _) hnR (by omega)).callU (gb_set (gb_refl _ _) _ _) hnR (by omega))
        · exact gb_p5 (gb_trans HG.out (gb_some hg21 _)) (by omega)
        · exact RS.p5 (HPS.out.grown hg21) HL.out (by omega)
  · go_wp2_with fail
    go_at_call 119; refine (HX.out _ s2 p2).mono ?_; rintro e w3 ⟨⟨k3, n3, m3, q3, l3⟩, s3, v3, hr3, rfl, ⟨sv3, rfl, lr3⟩, hg3, p3, hi3⟩; have HR3 : sumQ c.L E F s = _ := HR2.trans (Q.bind_eq hr3); simp only [T.kind, T.name, T.num, T.at', T.subs] at lr3 ⊢; obtain ⟨ad3, cp3, rfl⟩ := lr3.form; obtain ⟨b3, hb3, lr3⟩ : ∃ b, b = _ ∧ LR w3 (In b w3.heap.size) l3 (.slice ad3 l3.length cp3) := ⟨_, rfl, lr3⟩
    try simp at hb3
    have G3 : w.grownBy w3 (some c.rb) := gb_trans G2 hg3; have sz3 := hg3.size
    try simp at sz3
    have r_3 : RB w3 (w.heap.size) := RB.keep r_2 hg3 (by omega); have a_3 : NB w3 (w1.heap.size) (.int .i64 0) (.string ⟨#[]⟩) (.int .i64 0) (.int .i64 0) (.slice none 0 0) := NB.keep a_2 hg3 (by omega); have r_lt3 := r_3.lt; have a_lt3 := a_3.lt; obtain ⟨_,_,_,_,_,_,_,_,_,_,_⟩ := id r_3; obtain ⟨_,_,_,_,_,_⟩ := id a_3; have HRc : sumQ c.L E F s = chainQ c.L addsB (productQ c.L E F) 20 (T.mk 35 [] 0 (pos c.L s.1) [(T.mk k3 n3 m3 q3 l3)]) s3 := HR3
    have hSlt : ∀ k, (fun _ : Nat => False) k → k < w.heap.size := fun _ h => h.elim
    have hnA : ¬ (fun _ : Nat => False) (w1.heap.size) := id; have hnR : ¬ (fun _ : Nat => False) (w.heap.size) := id; have hnr : ¬ (fun _ : Nat => False) c.rb := id; go_wp2_with fail
    go_loopw [5] (fun v wr => ∃ (t : T) (sv : Value) (s9 : QS) (f many : Nat), v = .int .i64 many ∧ 1 ≤ many ∧ many ≤ 22 ∧ (s9.2 = none → many + f = 21) ∧ Hid (CQ c w (w1.heap.size) (w.heap.size) s3 d (fun _ => False) (chainQ c.L addsB (productQ c.L E F) 20 (T.mk 35 [] 0 (pos c.L s.1) [(T.mk k3 n3 m3 q3 l3)]) s3) (chainQ c.L addsB (productQ c.L E F)) wr t sv s9 f)) (fun v _ => 23 - (intOf v).toNat)
    case atStart => exact ⟨(T.mk 35 [] 0 (pos c.L s.1) [(T.mk k3 n3 m3 q3 l3)]), (.slice (some ⟨w3.heap.size, 0, none⟩) 1 1), s3, 20, 1, rfl, by omega, by omega, fun _ => by omega, CQ.mk (NB.alloc (NB.s4 (NB.s3 (NB.s2 (NB.s1 (NB.s0 (show NB _ (w1.heap.size) (.int .i64 0) (.string ⟨#[]⟩) (.int .i64 0) (.int .i64 0) (.slice none 0 0) from a_3) _) _) _) _) _) _) (by exact RB.alloc (RB.p5 r_3) _) (LR.inU (LR.wide (lo := b3) (hi := w3.heap.size + 1) (ts := [(T.mk k3 n3 m3 q3 l3)]) (LR.build1 _ (t := (T.mk k3 n3 m3 q3 l3)) (sv := .slice ad3 l3.length cp3) (LR.wide (lo := b3) (hi := w3.heap.size) (ts := l3) (by exact LR.p5 lr3 (by omega)) (by omega) (by first | omega | (simp <;> omega))) (by simp) rfl (by omega)) (by omega) (by first | omega | (simp <;> omega)))) (by exact RS.alloc (RS.p5 p3 HL.out (by omega)) _) (by exact gb_alloc (gb_p5 G3 (by omega)) _) rfl (Nat.le_refl _)⟩
    case round =>
      obtain ⟨⟨k, x, m, a, l⟩, sv, s20, f, many, rfl, hm1, hm2, hmf, HC⟩ := hrel; have hC := HC.out; have hlr0 := hC.lr; simp only [T.subs] at hlr0; obtain ⟨ad, cp, rfl⟩ := hlr0.form; have HNB := hide hC.nb; have HRB := hide hC.rb; have HLR := hide hlr0; have HPS := hide hC.ps; have HG := hide hC.gb; have HSM := hide hC.same; have hij := hC.le; have hsA := hC.nb.lt; have hsR := hC.rb.lt; have hgs := hC.gb.size; have hil := hC.ps.il; clear hC HC hlr0; simp only [T.kind, T.name, T.num, T.at'] at HNB; go_wp2_with fail; go_at_call 12; refine (rok_any c _ s20 d HPS.out).mono ?_; rintro e w21 ⟨rfl, hg21⟩; have sz21 := hg21.size
      by_cases hok : s20.2 = none
      · have hokb : decide (s20.2 = none) = true := decide_eq_true hok
        try simp only [hokb]
        go_wp2_with fail; go_at_call 13; refine (rword_any c _ s20 d (HPS.out.grown hg21)).mono ?_; rintro e w22 ⟨rfl, hg22⟩; have hgg : wr.grownBy w22 none := gb_trans hg21 hg22; have sz22 := hgg.size; have hin := rin_any (wd c.L s20.1) [s_plus, s_minus, kOR] w22.heap.size 3 (w22.alloc (.cells ([s_plus, s_minus, kOR].map fun x => Value.string ⟨x.toArray⟩).toArray 9)) rfl (by decide) (fun k h => lits_cell [s_plus, s_minus, kOR] w22 _ k h); rw [adds_in] at hin; cases hjo : addsB (wd c.L s20.1)
        · rw [hjo] at hin
          have nbq := HNB.out.kept hgg (by simp); have rbq := HRB.out.kept hgg (by simp); have nbl := nbq.lt; have rbl := rbq.lt; obtain ⟨x0, x1, x2, x3, x4, xz⟩ := id nbq; obtain ⟨_, _, _, _, _, y0, y1, y2, y3, y4, yz⟩ := id rbq
          go_wp2_with (go_at_call 101; refine Calls.mono hin ?_; rintro e _ ⟨rfl, rfl⟩)
          refine node_ret Tryz.results102 rfl (NB.alloc (RB.five ?_) _) rfl ?_
          · exact rbq
          refine QSt.ok (a := T.mk k x m a l) (HRc.trans (HSM.out.trans (chainQ_no (fun h => by rw [hjo] at h; cases h.2)))) ⟨_, rfl, ?_⟩ ?_ ?_ (by omega)
          · have h5 : LR _ (Un (fun _ => False) (w1.heap.size + 1) wr.heap.size) l (.slice ad l.length cp) := HLR.out.grownU hgg
            refine LR.mono (S := Un (fun _ => False) (w1.heap.size + 1) wr.heap.size) ?_ (fun k hk => hk.elim (fun h => h.elim) (fun h => ⟨by omega, Nat.lt_of_lt_of_le h.2 (by simp [World.setCell]; omega)⟩)); refine LR.grownU ?_ (World.grownBy_alloc _ _ none)
            exact (((((h5.callU (gb_set (gb_refl _ _) _ _) hnR (by omega)).callU (gb_set (gb_refl _ _) _ _) hnR (by omega)).callU (gb_set (gb_refl _ _) _ _) hnR (by omega)).callU (gb_set (gb_refl _ _) _ _) hnR (by omega)).callU (gb_set (gb_refl _ _) _ _) hnR (by omega))
          · exact gb_alloc (gb_p5 (gb_trans HG.out (gb_some hgg _)) (by omega)) _
          · exact RS.alloc (RS.p5 (HPS.out.grown hgg) HL.out (by omega)) _
        · rw [hjo] at hin
          have hne : wd c.L s20.1 ≠ [] := by
            intro e; rw [e] at hjo
            revert hjo
            decide
          have his : isQ c.L (wd c.L s20.1) s20 = (true, (s20.1 + 1, none)) := by unfold isQ; rw [if_pos ⟨hok, rfl⟩]
          rcases Nat.lt_or_ge 20 many with hbig | hsmall
          · have hf0 : f = 0 := by have := hmf hok; omega
            subst hf0
            have hx : decide ((20 : Int) < (many : Int)) = true := by simp; omega
            go_wp2_with (first
              | (go_at_call 101; refine Calls.mono hin ?_; rintro e _ ⟨rfl, rfl⟩)
              | (go_at_call 29; refine (ris_any c _ s20 d (wd c.L s20.1) _ (by simp) hne (RS.alloc (HPS.out.grown hgg) _)).mono ?_; rintro e w23 ⟨a23, s23, v23, hr23, rfl, rfl, hg23, p23, hi23⟩; rw [his] at hr23; cases hr23))
            have sz23 := hg23.size
            simp at sz23
            have nb23 := NB.kept (NB.alloc (HNB.out.kept hgg (by simp)) _) hg23 (by simp; omega); have rb23 := RB.kept (RB.alloc (HRB.out.kept hgg (by simp)) _) hg23 (by simp; omega); have lr23 := LR.callU (LR.grownU (HLR.out.grownU hgg) (World.grownBy_alloc _ _ none)) hg23 hnr (by omega); have G23 : w.grownBy w23 (some c.rb) := gb_trans (gb_alloc (gb_trans HG.out (gb_some hgg _)) _) hg23; obtain ⟨x0, x1, x2, x3, x4, xz⟩ := id nb23; go_wp2_with fail; go_at_call 33; refine (rstop_any c _ (s20.1 + 1, none) d 3 (by decide) p23).mono ?_; rintro e w24 ⟨a24, s24, v24, hr24, rfl, -, hg24, p24, hi24⟩; have sz24 := hg24.size; have nb24 := nb23.kept hg24 (by simp; omega); have rb24 := rb23.kept hg24 (by simp; omega); have lr24 := lr23.callU hg24 hnr (by omega); have G24 : w.grownBy w24 (some c.rb) := gb_trans G23 hg24; have HR24 := HSM.out.trans ((chainQ_end ⟨hok, hjo⟩).trans (Q.bind_eq hr24))
            have hbad : s24.2 ≠ none := by have := (stopQ_some c.L 3 (s20.1 + 1, none)).1; rw [hr24] at this; exact this
            obtain ⟨x0, x1, x2, x3, x4, xz⟩ := id nb24; clear x0 x1 x2 x3 x4 xz; obtain ⟨x0, x1, x2, x3, x4, xz⟩ := id nb24; go_wp2_with fail
            go_region_with (first
              | (go_at_call 119
                 refine (HX.out _ s24 (p24.drewN _)).mono ?_; rintro e w25 ⟨⟨k5, n5, m5, q5, l5⟩, s25, v25, hr25, rfl, ⟨sv5, rfl, lr5⟩, hg25, p25, hi25⟩; simp only [T.kind, T.name, T.num, T.at', T.subs] at lr5 ⊢; obtain ⟨ad5, cp5, rfl⟩ := lr5.form; have sz25 := hg25.size
                 simp at sz25
                 have nb25 := NB.kept (nb24.drewN _) hg25 (by simp; omega); have zl := nb25.lt
                 obtain ⟨z0, z1, z2, z3, z4, zz⟩ := id nb25))
            all_goals
              have rb25 := RB.kept (rb24.drewN _) hg25 (by simp; omega); have G25 : w.grownBy w25 (some c.rb) := gb_trans (gb_drewN G24 _) hg25; have H1 : LR w25 (Un (fun _ => False) ((w1.heap.size) + 1) w25.heap.size) l (.slice ad l.length cp) := (LR.callU (lr24.grownU (gb_drewN (gb_refl _ none) _)) hg25 hnr (by omega)).wideU (Nat.le_refl _) (by omega); have H2 : LR w25 (Un (fun _ => False) ((w1.heap.size) + 1) w25.heap.size) l5 (.slice ad5 l5.length cp5) := LR.inU (lr5.wide (by simp; omega) (Nat.le_refl _))
              have hS25 : ∀ k, Un (fun _ => False) ((w1.heap.size) + 1) w25.heap.size k → k < w25.heap.size := fun k hk => hk.elim (fun h => by have := hSlt k h; omega) (fun h => h.2)
              obtain ⟨W5, hW5⟩ : ∃ W : World, W = ((((w25.setCell ⟨(w1.heap.size), 0, none⟩ (.int .i64 36)).setCell ⟨(w1.heap.size), 1, none⟩ (.string ⟨(wd c.L s20.1).toArray⟩)).setCell ⟨(w1.heap.size), 2, none⟩ (.int .i64 0)).setCell ⟨(w1.heap.size), 3, none⟩ (.int .i64 a)).setCell ⟨(w1.heap.size), 4, none⟩ (.slice (some ⟨w25.heap.size, 0, none⟩) 2 2) := ⟨_, rfl⟩
              have hWs : W5.heap.size = w25.heap.size := by rw [hW5]; simp [World.setCell]
              have H1w : LR W5 (Un (fun _ => False) ((w1.heap.size) + 1) w25.heap.size) l (.slice ad l.length cp) := by rw [hW5]; exact (((((H1.callU (gb_set (gb_refl _ _) _ _) hnA (by omega)).callU (gb_set (gb_refl _ _) _ _) hnA (by omega)).callU (gb_set (gb_refl _ _) _ _) hnA (by omega)).callU (gb_set (gb_refl _ _) _ _) hnA (by omega)).callU (gb_set (gb_refl _ _) _ _) hnA (by omega))
              have H2w : LR W5 (Un (fun _ => False) ((w1.heap.size) + 1) w25.heap.size) l5 (.slice ad5 l5.length cp5) := by rw [hW5]; exact (((((H2.callU (gb_set (gb_refl _ _) _ _) hnA (by omega)).callU (gb_set (gb_refl _ _) _ _) hnA (by omega)).callU (gb_set (gb_refl _ _) _ _) hnA (by omega)).callU (gb_set (gb_refl _ _) _ _) hnA (by omega)).callU (gb_set (gb_refl _ _) _ _) hnA (by omega))
              have nbW : NB W5 (w1.heap.size) (.int .i64 36) (.string ⟨(wd c.L s20.1).toArray⟩) (.int .i64 0) (.int .i64 a) (.slice (some ⟨w25.heap.size, 0, none⟩) 2 2) := by rw [hW5]; exact NB.s4 (NB.s3 (NB.s2 (NB.s1 (NB.s0 nb25 _) _) _) _) _
              have rbW : RB W5 (w.heap.size) := by rw [hW5]; exact RB.p5 rb25
              have pW : RS c W5 s25 d := by rw [hW5]; exact RS.p5 p25 HL.out (by omega)
              have GW : w.grownBy W5 (some c.rb) := by rw [hW5]; exact gb_p5 G25 (by omega)
              have HB := LR.build2S W5 (g := w25.heap.size) (t := T.mk k x m a l) (t2 := T.mk k5 n5 m5 q5 l5) (sv := .slice ad l.length cp) (sv2 := .slice ad5 l5.length cp5) (cs := #[.int .i64 k, .string ⟨x.toArray⟩, .int .i64 m, .int .i64 a, .slice ad l.length cp, .int .i64 k5, .string ⟨n5.toArray⟩, .int .i64 m5, .int .i64 q5, .slice ad5 l5.length cp5]) H1w H2w hS25 hWs.symm rfl; go_wp2; rw [← hW5]; clear hW5; refine ⟨⟨opT (wd c.L s20.1) (T.mk k x m a l) (T.mk k5 n5 m5 q5 l5), .slice (some ⟨w25.heap.size, 0, none⟩) 2 2, s25, 0, many + 1, by first | go_num | (simp; done) | (simp; omega), by omega, by have := hmf hok; omega, fun h => absurd h (hst.bad hbad hr25), CQ.mk (NB.alloc nbW _) (RB.alloc rbW _) (HB.mono (fun j9 hk => ?_)) (RS.alloc pW _) (gb_alloc GW _) ((HR24.trans (Q.bind_eq hr25)).trans (chainQ_no (fun h => (hst.bad hbad hr25) h.1)).symm) (by first | omega | (simp at hi25; omega))⟩, ?_⟩
              · have hz : (W5.alloc (.cells #[.int .i64 k, .string ⟨x.toArray⟩, .int .i64 m, .int .i64 a, .slice ad l.length cp, .int .i64 k5, .string ⟨n5.toArray⟩, .int .i64 m5, .int .i64 q5, .slice ad5 l5.length cp5] 25)).heap.size = w25.heap.size + 1 := by simp [hWs]
                rw [hz]
                rcases hk with (hk | hk) | hk
                · exact .inl hk
                · exact .inr ⟨hk.1, by omega⟩
                · exact .inr ⟨by omega, by omega⟩
              · simp [intOf]; omega
          · obtain ⟨f, rfl⟩ : ∃ g, f = g + 1 := ⟨f - 1, by have := hmf hok; omega⟩
            have hx : decide ((20 : Int) < (many : Int)) = false := by simp; omega
            go_wp2_with (first
              | (go_at_call 101; refine Calls.mono hin ?_; rintro e _ ⟨rfl, rfl⟩)
              | (go_at_call 29; refine (ris_any c _ s20 d (wd c.L s20.1) _ (by simp) hne (RS.alloc (HPS.out.grown hgg) _)).mono ?_; rintro e w23 ⟨a23, s23, v23, hr23, rfl, rfl, hg23, p23, hi23⟩; rw [his] at hr23; cases hr23))
            have sz23 := hg23.size
            simp at sz23
            have nb23 := NB.kept (NB.alloc (HNB.out.kept hgg (by simp)) _) hg23 (by simp; omega); have rb23 := RB.kept (RB.alloc (HRB.out.kept hgg (by simp)) _) hg23 (by simp; omega); have lr23 := LR.callU (LR.grownU (HLR.out.grownU hgg) (World.grownBy_alloc _ _ none)) hg23 hnr (by omega); have G23 : w.grownBy w23 (some c.rb) := gb_trans (gb_alloc (gb_trans HG.out (gb_some hgg _)) _) hg23; have HR24 := HSM.out.trans (chainQ_yes ⟨hok, hjo⟩); have nb24 := nb23; have rb24 := rb23; have lr24 := lr23; have G24 := G23; have p24 := p23; obtain ⟨x0, x1, x2, x3, x4, xz⟩ := id nb24; clear x0 x1 x2 x3 x4 xz; obtain ⟨x0, x1, x2, x3, x4, xz⟩ := id nb24; go_wp2_with fail
            go_region_with (first
              | (go_at_call 119
                 refine (HX.out _ (s20.1 + 1, none) (p24.drewN _)).mono ?_; rintro e w25 ⟨⟨k5, n5, m5, q5, l5⟩, s25, v25, hr25, rfl, ⟨sv5, rfl, lr5⟩, hg25, p25, hi25⟩; simp only [T.kind, T.name, T.num, T.at', T.subs] at lr5 ⊢; obtain ⟨ad5, cp5, rfl⟩ := lr5.form; have sz25 := hg25.size
                 simp at sz25
                 have nb25 := NB.kept (nb24.drewN _) hg25 (by simp; omega); have zl := nb25.lt
                 obtain ⟨z0, z1, z2, z3, z4, zz⟩ := id nb25))
            all_goals
              have rb25 := RB.kept (rb24.drewN _) hg25 (by simp; omega); have G25 : w.grownBy w25 (some c.rb) := gb_trans (gb_drewN G24 _) hg25; have H1 : LR w25 (Un (fun _ => False) ((w1.heap.size) + 1) w25.heap.size) l (.slice ad l.length cp) := (LR.callU (lr24.grownU (gb_drewN (gb_refl _ none) _)) hg25 hnr (by omega)).wideU (Nat.le_refl _) (by omega); have H2 : LR w25 (Un (fun _ => False) ((w1.heap.size) + 1) w25.heap.size) l5 (.slice ad5 l5.length cp5) := LR.inU (lr5.wide (by simp; omega) (Nat.le_refl _))
              have hS25 : ∀ k, Un (fun _ => False) ((w1.heap.size) + 1) w25.heap.size k → k < w25.heap.size := fun k hk => hk.elim (fun h => by have := hSlt k h; omega) (fun h => h.2)
              obtain ⟨W5, hW5⟩ : ∃ W : World, W = ((((w25.setCell ⟨(w1.heap.size), 0, none⟩ (.int .i64 36)).setCell ⟨(w1.heap.size), 1, none⟩ (.string ⟨(wd c.L s20.1).toArray⟩)).setCell ⟨(w1.heap.size), 2, none⟩ (.int .i64 0)).setCell ⟨(w1.heap.size), 3, none⟩ (.int .i64 a)).setCell ⟨(w1.heap.size), 4, none⟩ (.slice (some ⟨w25.heap.size, 0, none⟩) 2 2) := ⟨_, rfl⟩
              have hWs : W5.heap.size = w25.heap.size := by rw [hW5]; simp [World.setCell]
              have H1w : LR W5 (Un (fun _ => False) ((w1.heap.size) + 1) w25.heap.size) l (.slice ad l.length cp) := by rw [hW5]; exact (((((H1.callU (gb_set (gb_refl _ _) _ _) hnA (by omega)).callU (gb_set (gb_refl _ _) _ _) hnA (by omega)).callU (gb_set (gb_refl _ _) _ _) hnA (by omega)).callU (gb_set (gb_refl _ _) _ _) hnA (by omega)).callU (gb_set (gb_refl _ _) _ _) hnA (by omega))
              have H2w : LR W5 (Un (fun _ => False) ((w1.heap.size) + 1) w25.heap.size) l5 (.slice ad5 l5.length cp5) := by rw [hW5]; exact (((((H2.callU (gb_set (gb_refl _ _) _ _) hnA (by omega)).callU (gb_set (gb_refl _ _) _ _) hnA (by omega)).callU (gb_set (gb_refl _ _) _ _) hnA (by omega)).callU (gb_set (gb_refl _ _) _ _) hnA (by omega)).callU (gb_set (gb_refl _ _) _ _) hnA (by omega))
              have nbW : NB W5 (w1.heap.size) (.int .i64 36) (.string ⟨(wd c.L s20.1).toArray⟩) (.int .i64 0) (.int .i64 a) (.slice (some ⟨w25.heap.size, 0, none⟩) 2 2) := by rw [hW5]; exact NB.s4 (NB.s3 (NB.s2 (NB.s1 (NB.s0 nb25 _) _) _) _) _
              have rbW : RB W5 (w.heap.size) := by rw [hW5]; exact RB.p5 rb25
              have pW : RS c W5 s25 d := by rw [hW5]; exact RS.p5 p25 HL.out (by omega)
              have GW : w.grownBy W5 (some c.rb) := by rw [hW5]; exact gb_p5 G25 (by omega)
              have HB := LR.build2S W5 (g := w25.heap.size) (t := T.mk k x m a l) (t2 := T.mk k5 n5 m5 q5 l5) (sv := .slice ad l.length cp) (sv2 := .slice ad5 l5.length cp5) (cs := #[.int .i64 k, .string ⟨x.toArray⟩, .int .i64 m, .int .i64 a, .slice ad l.length cp, .int .i64 k5, .string ⟨n5.toArray⟩, .int .i64 m5, .int .i64 q5, .slice ad5 l5.length cp5]) H1w H2w hS25 hWs.symm rfl; go_wp2; rw [← hW5]; clear hW5; refine ⟨⟨opT (wd c.L s20.1) (T.mk k x m a l) (T.mk k5 n5 m5 q5 l5), .slice (some ⟨w25.heap.size, 0, none⟩) 2 2, s25, f, many + 1, by first | go_num | (simp; done) | (simp; omega), by omega, by have := hmf hok; omega, fun _ => by have := hmf hok; omega, CQ.mk (NB.alloc nbW _) (RB.alloc rbW _) (HB.mono (fun j9 hk => ?_)) (RS.alloc pW _) (gb_alloc GW _) (HR24.trans (Q.bind_eq hr25)) (by first | omega | (simp at hi25; omega))⟩, ?_⟩
              · have hz : (W5.alloc (.cells #[.int .i64 k, .string ⟨x.toArray⟩, .int .i64 m, .int .i64 a, .slice ad l.length cp, .int .i64 k5, .string ⟨n5.toArray⟩, .int .i64 m5, .int .i64 q5, .slice ad5 l5.length cp5] 25)).heap.size = w25.heap.size + 1 := by simp [hWs]
                rw [hz]
                rcases hk with (hk | hk) | hk
                · exact .inl hk
                · exact .inr ⟨hk.1, by omega⟩
                · exact .inr ⟨by omega, by omega⟩
              · simp [intOf]; omega
      · have hokb : decide (s20.2 = none) = false := decide_eq_false hok
        try simp only [hokb]
        obtain ⟨x0, x1, x2, x3, x4, xz⟩ := id (HNB.out.kept hg21 (by simp)); obtain ⟨_, _, _, _, _, y0, y1, y2, y3, y4, yz⟩ := id (HRB.out.kept hg21 (by simp)); go_wp2; refine node_ret Tryz.results102 rfl (RB.five ?_) rfl ?_
        · exact HRB.out.kept hg21 (by simp)
        refine QSt.ok (a := T.mk k x m a l) (HRc.trans (HSM.out.trans (chainQ_no (fun h => hok h.1)))) ⟨_, rfl, ?_⟩ ?_ ?_ (by omega)
        · have h5 : LR _ (Un (fun _ => False) (w1.heap.size + 1) wr.heap.size) l (.slice ad l.length cp) := HLR.out.grownU hg21
          refine LR.mono (S := Un (fun _ => False) (w1.heap.size + 1) wr.heap.size) ?_ (fun k hk => hk.elim (fun h => h.elim) (fun h => ⟨by omega, Nat.lt_of_lt_of_le h.2 (by simp [World.setCell]; omega)⟩))
          exact (((((h5.callU (gb_set (gb_refl _ _) _ _) hnR (by omega)).callU (gb_set (gb_refl _ _) _ _) hnR (by omega)).callU (gb_set (gb_refl _ _) _ _) hnR (by omega)).callU (gb_set (gb_refl _ _) _ _) hnR (by omega)).callU (gb_set (gb_refl _ _) _ _) hnR (by omega))
        · exact gb_p5 (gb_trans HG.out (gb_some hg21 _)) (by omega)
        · exact RS.p5 (HPS.out.grown hg21) HL.out (by omega)
end Go.Proofs.YtbphiiaoncakfaaGreatDoor
