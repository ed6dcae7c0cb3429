/- IF: branches one behind the other, and what else. -/
import Derived.Test.YtbphiiaoncakfaaGreatDoorG14
namespace Go.Proofs.YtbphiiaoncakfaaGreatDoor
open Go.RowKit

def choiceTail (L : List Tok) (A : P T) (i : Nat) (l : List T) : P T := (hasP L kELSE).bind fun b => if b = true then A.bind fun a => (wantP L kEND).bind fun _ => P.ret (.mk 16 [] 1 (pos L i) (l ++ [a])) else (wantP L kEND).bind fun _ => P.ret (.mk 16 [] 0 (pos L i) l)
theorem choice_no {L : List Tok} {E A : P T} {f j : Nat} {acc : List T} (h : hasP L kELSIF j = .ok (false, j)) (hf : 0 < f) : choiceLoop L E A f acc j = .ok (acc, j) := by
  obtain ⟨f', rfl⟩ : ∃ f', f = f' + 1 := ⟨f - 1, by omega⟩
  exact P.bind_ok h
theorem choice_yes {L : List Tok} {E A : P T} {f j j2 : Nat} {acc : List T} (h : hasP L kELSIF j = .ok (true, j2)) (hf : 0 < f) : choiceLoop L E A f acc j = ((branchP L E A).bind fun l => choiceLoop L E A (f - 1) (acc ++ l)) j2 := by
  obtain ⟨f', rfl⟩ : ∃ f', f = f' + 1 := ⟨f - 1, by omega⟩
  exact P.bind_ok h

/-- What holds at the head of the loop. -/
structure CH (c : PC) (w : World) (i d : Nat) (r : Except (Int × Int) (List T × Nat)) (q : Nat → List T → P (List T)) (v : Value) (wr : World) (acc : List T) (j f lo : Nat) : Prop where
  lr : LR wr (In lo wr.heap.size) acc v
  ps : PS c wr j d
  gb : w.grownBy wr (some c.pb)
  same : r = q f acc j
  fuel : c.L.length ≤ f + j
  len : acc.length + 2 * f ≤ 2 * c.L.length + 2
  le : i ≤ j
  low2 : lo ≤ wr.heap.size

set_option maxRecDepth 100000 in
set_option maxHeartbeats 4000000 in
theorem pchoice_any (c : PC) (w : World) (i d : Nat) (E A : P T) (h : PS c w i d) (hE : ExprOK c d E) (hA : ActsOK c d A) :
    Calls Tryz.prog 136 #[.pointer (some ⟨c.pb, 0, none⟩)] w (Steps c w i d (fun w' t v => TR w' w.heap.size w'.heap.size t v) (choiceP c.L E A i)) := by
  have HP := hide h; have HL := hide h.low; have hb := h.lt; have hfew := h.good.few; clear h
  go_enter Tryz.func136, Tryz.ntmps136
  go_wp2_with fail; go_at_call 51; refine (pnode_any c _ i d 16 (by exact PS.alloc HP.out _)).mono ?_; rintro e w1 ⟨rfl, hg1⟩; have p1 : PS c w1 i d := PS.kept (by exact PS.alloc HP.out _) hg1; have G1 : w.grownBy w1 (some c.pb) := gb_trans (by exact gb_alloc (gb_refl w (some c.pb)) _) (gb_some hg1 (some c.pb)); have s1 := hg1.size
  try simp at s1
  have r_1 : RB w1 (w.heap.size) := RB.kept (RB.new' (by simp)) hg1 (by simp); have r_lt1 := r_1.lt; obtain ⟨_,_,_,_,_,_,_,_,_,_,_⟩ := id r_1; go_wp2_with fail; go_at_call 52; refine (pwant_any c _ i d kIF _ rfl (by decide) (by exact PS.alloc p1 _)).mono ?_; rintro e w2 (⟨x2, hr2, ht2, hg2⟩ | ⟨a2, j2, v2, hr2, rfl, -, hg2, p2, hi2⟩)
  · have HT := ht2
    obtain ⟨q, rfl, -⟩ := ht2
    exact ⟨rfl, Steps.err (P.bind_err hr2) HT (by exact gb_alloc G1 _) hg2⟩
  have HR2 : choiceP c.L E A i = _ := P.bind_ok hr2; have G2 : w.grownBy w2 (some c.pb) := gb_trans (by exact gb_alloc G1 _) hg2; have s2 := hg2.size
  try simp at s2
  have r_2 : RB w2 (w.heap.size) := RB.keep (by exact RB.alloc r_1 _) hg2 (by omega); have n_2 : NB w2 (w1.heap.size) (.int .i64 16) (.string ⟨#[]⟩) (.int .i64 0) (.int .i64 (pos c.L i)) (.slice none 0 0) := NB.keep (NB.new' (by simp)) hg2 (by omega); have r_lt2 := r_2.lt; have n_lt2 := n_2.lt; obtain ⟨_,_,_,_,_,_,_,_,_,_,_⟩ := id r_2; obtain ⟨_,_,_,_,_,_⟩ := id n_2; go_wp2_with fail; go_at_call 145; refine (pbranch_any c _ j2 d E A p2 hE hA).mono ?_; rintro e w3 (⟨x3, hr3, ht3, hg3⟩ | ⟨a3, j3, v3, hr3, rfl, ⟨lr3, len3⟩, hg3, p3, hi3⟩)
  · have HT := ht3
    obtain ⟨q, rfl, -⟩ := ht3
    exact ⟨rfl, Steps.err (HR2.trans (P.bind_err hr3)) HT G2 hg3⟩
  have HR3 : choiceP c.L E A i = _ := HR2.trans (P.bind_ok hr3); obtain ⟨ad3, cp3, rfl⟩ := lr3.form; obtain ⟨b3, hb3, lr3⟩ : ∃ b, b = _ ∧ LR w3 (In b w3.heap.size) a3 (.slice ad3 a3.length cp3) := ⟨_, rfl, lr3⟩
  try simp at hb3
  have G3 : w.grownBy w3 (some c.pb) := gb_trans G2 hg3; have s3 := hg3.size
  try simp at s3
  have r_3 : RB w3 (w.heap.size) := RB.keep r_2 hg3 (by omega); have n_3 : NB w3 (w1.heap.size) (.int .i64 16) (.string ⟨#[]⟩) (.int .i64 0) (.int .i64 (pos c.L i)) (.slice none 0 0) := NB.keep n_2 hg3 (by omega); have r_lt3 := r_3.lt; have n_lt3 := n_3.lt; obtain ⟨_,_,_,_,_,_,_,_,_,_,_⟩ := id r_3; obtain ⟨_,_,_,_,_,_⟩ := id n_3; have HRC : choiceP c.L E A i = ((choiceLoop c.L E A c.L.length a3).bind (choiceTail c.L A i)) j3 := HR3; go_wp2_with fail
  go_loopw [] (fun wr => ∃ (acc : List T) (v : Value) (j f lo : Nat), NB wr w1.heap.size (.int .i64 16) (.string ⟨#[]⟩) (.int .i64 0) (.int .i64 (pos c.L i)) v ∧ RB wr w.heap.size ∧ w1.heap.size + 1 ≤ lo ∧ Hid (CH c w i d (choiceLoop c.L E A c.L.length a3 j3) (choiceLoop c.L E A) v wr acc j f lo)) (fun wr => c.L.length - atOf wr c.pb)
  case atStart =>
    refine ⟨a3, .slice ad3 a3.length cp3, j3, c.L.length, b3, by exact (by exact NB.s4 n_3 _), by exact (by exact RB.put r_3 _ _ _), by omega, CH.mk ?_ (by exact PS.put p3 HL.out (by omega) _ _) (by exact gb_put G3 (by omega) _ _) rfl (by omega) (by omega) (by omega) (by simp; omega)⟩; refine LR.wide (lo := b3) (hi := w3.heap.size) ?_ (Nat.le_refl _) (by simp)
    exact LR.put lr3 (by omega) _ _
  case round =>
    obtain ⟨w10, hw10⟩ : ∃ x, x = wr := ⟨_, rfl⟩; subst hw10; obtain ⟨acc, v, j10, f, lo, n_10, r_10, hlo3, HS⟩ := hrel; have z_10 := HS.out.lr; have p10 := HS.out.ps; have G10 := HS.out.gb; have SM := HS.out.same; have hfu := HS.out.fuel; have hlen := HS.out.len; have hij := HS.out.le; have hlo2 := HS.out.low2; have hjl := HS.out.ps.il; obtain ⟨ad, cp, rfl⟩ := z_10.form; have HPS := hide p10; clear HS; have r_lt10 := r_10.lt; have n_lt10 := n_10.lt; obtain ⟨_,_,_,_,_,_,_,_,_,_,_⟩ := id r_10; obtain ⟨_,_,_,_,_,_⟩ := id n_10; go_wp2_with fail; go_at_call 85; refine (phas_any c _ j10 d kELSIF _ rfl (by decide) p10).mono ?_; rintro e w11 ⟨b11, j11, hr11, rfl, hg11, p11, hi11⟩; have G11 : w.grownBy w11 (some c.pb) := gb_trans G10 hg11; have s11 := hg11.size
    try simp at s11
    have r_11 : RB w11 (w.heap.size) := RB.keep r_10 hg11 (by omega); have n_11 : NB w11 (w1.heap.size) (.int .i64 16) (.string ⟨#[]⟩) (.int .i64 0) (.int .i64 (pos c.L i)) (.slice ad acc.length cp) := NB.keep n_10 hg11 (by omega); have z_11 : LR w11 (In (lo) (w10.heap.size)) (acc) (.slice ad acc.length cp) := LR.call z_10 hg11 (by omega); have r_lt11 := r_11.lt; have n_lt11 := n_11.lt; obtain ⟨_,_,_,_,_,_,_,_,_,_,_⟩ := id r_11; obtain ⟨_,_,_,_,_,_⟩ := id n_11; cases b11
    · obtain ⟨hw11, hj11⟩ := hasP_false hr11
      rw [hj11] at p11; rw [hj11] at hr11; have HRx1 : choiceP c.L E A i = _ := HRC.trans (P.bind_ok (SM.trans (choice_no hr11 (by omega)))); go_wp2_with fail; go_at_call 85; refine (phas_any c _ j10 d kELSE _ rfl (by decide) p11).mono ?_; rintro e w12 ⟨b12, j12, hr12, rfl, hg12, p12, hi12⟩; have HR12 : choiceP c.L E A i = _ := HRx1.trans (P.bind_ok hr12); have G12 : w.grownBy w12 (some c.pb) := gb_trans G11 hg12; have s12 := hg12.size
      try simp at s12
      have r_12 : RB w12 (w.heap.size) := RB.keep r_11 hg12 (by omega); have n_12 : NB w12 (w1.heap.size) (.int .i64 16) (.string ⟨#[]⟩) (.int .i64 0) (.int .i64 (pos c.L i)) (.slice ad acc.length cp) := NB.keep n_11 hg12 (by omega); have z_12 : LR w12 (In (lo) (w10.heap.size)) (acc) (.slice ad acc.length cp) := LR.call z_11 hg12 (by omega); have r_lt12 := r_12.lt; have n_lt12 := n_12.lt; obtain ⟨_,_,_,_,_,_,_,_,_,_,_⟩ := id r_12; obtain ⟨_,_,_,_,_,_⟩ := id n_12; cases b12
      · go_wp2_with fail
        go_at_call 52; refine (pwant_any c _ j12 d kEND _ rfl (by decide) p12).mono ?_; rintro e w13 (⟨x13, hr13, ht13, hg13⟩ | ⟨a13, j13, v13, hr13, rfl, -, hg13, p13, hi13⟩)
        · have HT := ht13
          obtain ⟨q, rfl, -⟩ := ht13
          exact ⟨rfl, Steps.err (HR12.trans (P.bind_err hr13)) HT G12 hg13⟩
        have HR13 : choiceP c.L E A i = _ := HR12.trans (P.bind_ok hr13); have G13 : w.grownBy w13 (some c.pb) := gb_trans G12 hg13; have s13 := hg13.size
        try simp at s13
        have r_13 : RB w13 (w.heap.size) := RB.keep r_12 hg13 (by omega); have n_13 : NB w13 (w1.heap.size) (.int .i64 16) (.string ⟨#[]⟩) (.int .i64 0) (.int .i64 (pos c.L i)) (.slice ad acc.length cp) := NB.keep n_12 hg13 (by omega); have z_13 : LR w13 (In (lo) (w10.heap.size)) (acc) (.slice ad acc.length cp) := LR.call z_12 hg13 (by omega); have r_lt13 := r_13.lt; have n_lt13 := n_13.lt; obtain ⟨_,_,_,_,_,_,_,_,_,_,_⟩ := id r_13; obtain ⟨_,_,_,_,_,_⟩ := id n_13; go_wp2; refine node_ret Tryz.results136 rfl (RB.five ?_) rfl ?_
        · exact r_13
        refine Steps.ok (a := (T.mk 16 [] 0 (pos c.L i) acc)) (HR13) ⟨_, rfl, ?_⟩ ?_ ?_ (by omega)
        · refine LR.wide (lo := lo) (hi := w10.heap.size) (ts := acc) ?_ (by omega) (by first | omega | (simp <;> omega))
          exact LR.p5 z_13 (by omega)
        · exact gb_p5 G13 (by omega)
        · exact PS.p5 p13 HL.out (by omega)
      · go_wp2_with fail
        go_region_law (first
          | (go_simp
             go_at_call 97; refine (hA _ j12 (by exact PS.drew (PS.put p12 HL.out (by omega) _ _))).mono ?_; rintro e w13 (⟨x13, hr13, ht13, hg13⟩ | ⟨⟨k13, n13, m13, q13, l13⟩, j13, v13, hr13, rfl, ⟨sv13, rfl, lr13⟩, hg13, p13, hi13⟩)
             focus
               have HT := ht13; obtain ⟨q, rfl, -⟩ := ht13
               exact ⟨rfl, Steps.err (HR12.trans (P.bind_err hr13)) HT (by exact gb_drew (gb_put G12 (by omega) _ _)) hg13⟩
             have HR13 : choiceP c.L E A i = _ := HR12.trans (P.bind_ok hr13); simp only [T.kind, T.name, T.num, T.at', T.subs] at lr13 ⊢; obtain ⟨ad13, cp13, rfl⟩ := lr13.form; obtain ⟨b13, hb13, lr13⟩ : ∃ b, b = _ ∧ LR w13 (In b w13.heap.size) l13 (.slice ad13 l13.length cp13) := ⟨_, rfl, lr13⟩
             try simp at hb13
             have G13 : w.grownBy w13 (some c.pb) := gb_trans (by exact gb_drew (gb_put G12 (by omega) _ _)) hg13; have s13 := hg13.size
             try simp at s13
             have r_13 : RB w13 (w.heap.size) := RB.keep (by exact RB.drew (RB.put r_12 _ _ _)) hg13 (by omega); have n_13 : NB w13 (w1.heap.size) (.int .i64 16) (.string ⟨#[]⟩) (.int .i64 1) (.int .i64 (pos c.L i)) (.slice ad acc.length cp) := NB.keep (by exact NB.drew (NB.s2 n_12 _)) hg13 (by omega); have z_13 : LR w13 (In (lo) (w10.heap.size)) (acc) (.slice ad acc.length cp) := LR.call (by exact LR.drew (LR.put z_12 (by omega) _ _)) hg13 (by omega); have r_lt13 := r_13.lt; have n_lt13 := n_13.lt; obtain ⟨_,_,_,_,_,_,_,_,_,_,_⟩ := id r_13
             obtain ⟨_,_,_,_,_,_⟩ := id n_13)
          | (have hrow14 := z_13.rows
             refine step_appS (v := .slice ad acc.length cp) rfl _ _ rfl (In (lo) (w13.heap.size + 2)) rfl rfl (LR.alloc z_13 _) (LR.build1 w13 (cs := #[.int .i64 k13, .string ⟨n13.toArray⟩, .int .i64 m13, .int .i64 q13, .slice ad13 l13.length cp13]) (t := (T.mk k13 n13 m13 q13 l13)) (sv := .slice ad13 l13.length cp13) lr13 rfl rfl (by omega))
               (fun k hk e => by have h1 := hrow14 k e; have h2 : b13 ≤ k := hk.1; omega) (fun k hk => ⟨hk.1, by have h : k < w10.heap.size := hk.2; omega⟩) (fun k hk => ⟨by have h : b13 ≤ k := hk.1; omega, by have h : k < w13.heap.size + 1 := hk.2; omega⟩) ⟨by simp; omega, by simp⟩ (by simp; try omega) ?_
             intro v14 w14 lr14 hg14; obtain ⟨ad14, cp14, e14⟩ := lr14.form; rw [List.length_append, List.length_singleton] at e14; have e14 : v14 = .slice ad14 (acc.length + 1) cp14 := e14; subst e14; have s14 := hg14.size
             try simp at s14
             have r_14 : RB w14 (w.heap.size) := RB.kept (RB.alloc r_13 _) hg14 (fun e => by have := hrow14 _ e.symm; omega); have n_14 : NB w14 (w1.heap.size) (.int .i64 16) (.string ⟨#[]⟩) (.int .i64 1) (.int .i64 (pos c.L i)) (.slice ad acc.length cp) := NB.kept (NB.alloc n_13 _) hg14 (fun e => by have := hrow14 _ e.symm; omega); have p14 : PS c w14 j13 d := PS.own (PS.alloc p13 _) HL.out hg14 (fun b hb => by have := hrow14 b hb; omega); have G14 : w.grownBy w14 (some c.pb) := gb_own (gb_alloc G13 _) hg14 (fun b hb => by have := hrow14 b hb; omega); have r_lt14 := r_14.lt; have n_lt14 := n_14.lt; obtain ⟨_,_,_,_,_,_,_,_,_,_,_⟩ := id r_14
             obtain ⟨_,_,_,_,_,_⟩ := id n_14))
        all_goals
          have lz14 : LR w14 (In (lo) w14.heap.size) (acc ++ [(T.mk k13 n13 m13 q13 l13)]) (.slice ad14 (acc.length + 1) cp14) := lr14.bounded.mono (fun k hk => ⟨hk.1.1, hk.2⟩); go_wp2_with fail; go_at_call 52; refine (pwant_any c _ j13 d kEND _ rfl (by decide) (by exact PS.put p14 HL.out (by omega) _ _)).mono ?_; rintro e w15 (⟨x15, hr15, ht15, hg15⟩ | ⟨a15, j15, v15, hr15, rfl, -, hg15, p15, hi15⟩)
          · have HT := ht15
            obtain ⟨q, rfl, -⟩ := ht15
            exact ⟨rfl, Steps.err (HR13.trans (P.bind_err hr15)) HT (by exact gb_put G14 (by omega) _ _) hg15⟩
          have HR15 : choiceP c.L E A i = _ := HR13.trans (P.bind_ok hr15); have G15 : w.grownBy w15 (some c.pb) := gb_trans (by exact gb_put G14 (by omega) _ _) hg15; have s15 := hg15.size
          try simp at s15
          have r_15 : RB w15 (w.heap.size) := RB.keep (by exact RB.put r_14 _ _ _) hg15 (by omega); have n_15 : NB w15 (w1.heap.size) (.int .i64 16) (.string ⟨#[]⟩) (.int .i64 1) (.int .i64 (pos c.L i)) (.slice ad14 (acc.length + 1) cp14) := NB.keep (by exact NB.s4 n_14 _) hg15 (by omega); have zz_15 : LR w15 (In (lo) (w14.heap.size)) ((acc ++ [(T.mk k13 n13 m13 q13 l13)])) (.slice ad14 (acc.length + 1) cp14) := LR.call (by exact LR.put lz14 (by omega) _ _) hg15 (by omega); have r_lt15 := r_15.lt; have n_lt15 := n_15.lt; obtain ⟨_,_,_,_,_,_,_,_,_,_,_⟩ := id r_15; obtain ⟨_,_,_,_,_,_⟩ := id n_15; go_wp2; refine node_ret Tryz.results136 rfl (RB.five ?_) rfl ?_
          · exact r_15
          refine Steps.ok (a := (T.mk 16 [] 1 (pos c.L i) (acc ++ [(T.mk k13 n13 m13 q13 l13)]))) (HR15) ⟨_, rfl, ?_⟩ ?_ ?_ (by omega)
          · refine LR.wide (lo := lo) (hi := w14.heap.size) (ts := (acc ++ [(T.mk k13 n13 m13 q13 l13)])) ?_ (by omega) (by first | omega | (simp <;> omega))
            exact LR.p5 zz_15 (by omega)
          · exact gb_p5 G15 (by omega)
          · exact PS.p5 p15 HL.out (by omega)
    · obtain ⟨hw11, hj11⟩ := hasP_true hr11
      rw [hj11] at p11; have SMy := SM.trans (choice_yes hr11 (by omega)); rw [hj11] at SMy
      have HRz : choiceP c.L E A i = ((branchP c.L E A).bind fun l => (choiceLoop c.L E A (f - 1) (acc ++ l)).bind (choiceTail c.L A i)) (j10 + 1) := by
        rw [HRC, P.bind, SMy, ← P.bind, bind_assocP]
      go_wp2_with fail
      go_region_law (first
        | (go_simp
           go_at_call 145; refine (pbranch_any c _ (j10 + 1) d E A (by exact PS.drew p11) hE hA).mono ?_; rintro e w12 (⟨x12, hr12, ht12, hg12⟩ | ⟨a12, j12, v12, hr12, rfl, ⟨lr12, len12⟩, hg12, p12, hi12⟩)
           focus
             have HT := ht12; obtain ⟨q, rfl, -⟩ := ht12
             exact ⟨rfl, Steps.err (HRz.trans (P.bind_err hr12)) HT (by exact gb_drew G11) hg12⟩
           have HR12 : choiceP c.L E A i = _ := HRz.trans (P.bind_ok hr12); obtain ⟨ad12, cp12, rfl⟩ := lr12.form; obtain ⟨b12, hb12, lr12⟩ : ∃ b, b = _ ∧ LR w12 (In b w12.heap.size) a12 (.slice ad12 a12.length cp12) := ⟨_, rfl, lr12⟩
           try simp at hb12
           have G12 : w.grownBy w12 (some c.pb) := gb_trans (by exact gb_drew G11) hg12; have s12 := hg12.size
           try simp at s12
           have r_12 : RB w12 (w.heap.size) := RB.keep (by exact RB.drew r_11) hg12 (by omega); have n_12 : NB w12 (w1.heap.size) (.int .i64 16) (.string ⟨#[]⟩) (.int .i64 0) (.int .i64 (pos c.L i)) (.slice ad acc.length cp) := NB.keep (by exact NB.drew n_11) hg12 (by omega); have z_12 : LR w12 (In (lo) (w10.heap.size)) (acc) (.slice ad acc.length cp) := LR.call (by exact LR.drew z_11) hg12 (by omega); have r_lt12 := r_12.lt; have n_lt12 := n_12.lt; obtain ⟨_,_,_,_,_,_,_,_,_,_,_⟩ := id r_12
           obtain ⟨_,_,_,_,_,_⟩ := id n_12)
        | (have hrow13 := z_12.rows
           refine step_appAny (v := .slice ad acc.length cp) (u := .slice ad12 a12.length cp12) rfl _ _ rfl (In (lo) (w12.heap.size + 1)) rfl rfl z_12 lr12
             (fun k hk e => by have h1 := hrow13 k e; have h2 : b12 ≤ k := hk.1; omega) (fun k hk => ⟨hk.1, by have h : k < w10.heap.size := hk.2; omega⟩) (fun k hk => ⟨by have h : b12 ≤ k := hk.1; omega, by have h : k < w12.heap.size := hk.2; omega⟩) ⟨by first | omega | (simp <;> omega), by first | omega | (simp <;> omega)⟩ (by first | omega | (simp <;> omega)) ?_
           intro v13 w13 lr13 hg13; obtain ⟨ad13, cp13, e13⟩ := lr13.form; rw [List.length_append] at e13; have e13 : v13 = .slice ad13 (acc.length + a12.length) cp13 := e13; subst e13; have s13 := hg13.size
           try simp at s13
           have r_13 : RB w13 (w.heap.size) := RB.kept r_12 hg13 (fun e => by have := hrow13 _ e.symm; omega); have n_13 : NB w13 (w1.heap.size) (.int .i64 16) (.string ⟨#[]⟩) (.int .i64 0) (.int .i64 (pos c.L i)) (.slice ad acc.length cp) := NB.kept n_12 hg13 (fun e => by have := hrow13 _ e.symm; omega); have p13 : PS c w13 j12 d := PS.own p12 HL.out hg13 (fun b hb => by have := hrow13 b hb; omega); have G13 : w.grownBy w13 (some c.pb) := gb_own G12 hg13 (fun b hb => by have := hrow13 b hb; omega); have r_lt13 := r_13.lt; have n_lt13 := n_13.lt; obtain ⟨_,_,_,_,_,_,_,_,_,_,_⟩ := id r_13
           obtain ⟨_,_,_,_,_,_⟩ := id n_13))
      all_goals
        have lz13 : LR w13 (In (lo) w13.heap.size) (acc ++ a12) (.slice ad13 (acc.length + a12.length) cp13) := lr13.bounded.mono (fun k hk => ⟨hk.1.1, hk.2⟩); have SMz : choiceLoop c.L E A c.L.length a3 j3 = _ := SMy.trans (P.bind_ok hr12); go_wp2; refine ⟨⟨(acc ++ a12), .slice ad13 (acc.length + a12.length) cp13, j12, f - 1, lo, by exact (by exact NB.s4 n_13 _), by exact (by exact RB.put r_13 _ _ _), hlo3, CH.mk ?_ (by exact (by exact PS.put p13 HL.out (by omega) _ _)) (by exact (by exact gb_put G13 (by omega) _ _)) SMz (by omega) (by first | omega | (simp only [List.length_append]; omega)) (by omega) (by first | omega | (simp <;> omega))⟩, ?_⟩
        · refine LR.wide (lo := lo) (hi := w13.heap.size) ?_ (Nat.le_refl _) (by simp)
          exact LR.put lz13 (by omega) _ _
        · have hp9 : PS c _ j12 d := (by exact (by exact PS.put p13 HL.out (by omega) _ _) : PS c (w13.setCell ⟨w1.heap.size, 4, none⟩ (.slice ad13 (acc.length + a12.length) cp13)) j12 d)
          rw [hp9.atOf, HPS.out.atOf]
          omega


/-- Acts, at every level. -/
theorem actsOK (c : PC) : ∀ (n d : Nat), d + n = 20 → ActsOK c d (actsP c.L n)
  | 0, d, h => by
    have hd : ¬ d < 20 := by omega
    refine fun w i hp => pacts_any c w i d (limitP c.L) hp (fun w i hp => ?_)
    have hx := pwithin_any c w i d 118 (limitP c.L) hp (by omega) (fun h => absurd h hd) (enters_of Tryz.func118 (by kernel_rfl) rfl); rw [if_neg hd] at hx
    exact hx
  | n + 1, d, h => by
    have hd : d < 20 := by omega
    have hE := (exprOK c n (d + 1) (by omega)).1; have hA := actsOK c n (d + 1) (by omega)
    have hC : PartOK c (d + 1) 136 (choiceP c.L (exprP c.L n) (actsP c.L n)) := fun w i hp => pchoice_any c w i (d + 1) _ _ hp hE hA
    have hL : PartOK c (d + 1) 118 (actsP c.L (n + 1)) := fun w i hp => pactList_any c w i (d + 1) (exprP c.L n) (actsP c.L n) hp (fun w i hp _ => pact_any c w i (d + 1) _ _ hp hE hA hC)
    refine fun w i hp => pacts_any c w i d (actsP c.L (n + 1)) hp (fun w i hp => ?_)
    have hx := pwithin_any c w i d 118 (actsP c.L (n + 1)) hp (by omega) (fun _ => hL) (enters_of Tryz.func118 (by kernel_rfl) rfl); rw [if_pos hd] at hx
    exact hx
end Go.Proofs.YtbphiiaoncakfaaGreatDoor
