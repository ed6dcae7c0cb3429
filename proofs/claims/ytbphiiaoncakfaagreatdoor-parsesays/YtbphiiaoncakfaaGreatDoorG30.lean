/- The document's reader: lists of acts. -/
import Derived.Test.YtbphiiaoncakfaaGreatDoorG29
namespace Go.Proofs.YtbphiiaoncakfaaGreatDoor
open Go.RowKit

section
variable {L : List Tok} {E A : Q T} {f : Nat} {acc : List T} {s s1 s2 : QS} {b : Bool} {t : T}
theorem actLoopQ_bad (h : ¬ s.2 = none) : actLoopQ L E A f acc s = (acc, s) := by
  cases f with
  | zero =>
    rw [actLoopQ]; obtain ⟨i, b⟩ := s; cases b with
    | none => exact absurd rfl h
    | some x => rfl
  | succ f => rw [actLoopQ]; exact if_neg h
theorem actLoopQ_skip (hok : s.2 = none) (hn : nothingB (wd L s.1) = true) (hf : 0 < f) (hr : isQ L s_semi s = (b, s1)) : actLoopQ L E A f acc s = (if b = true then actLoopQ L E A (f - 1) acc else Q.ret acc) s1 := by
  obtain ⟨f', rfl⟩ : ∃ f', f = f' + 1 := ⟨f - 1, by omega⟩; rw [actLoopQ]
  dsimp only
  rw [if_pos hok, if_pos hn]
  show ((isQ L s_semi).bind fun b => if b = true then actLoopQ L E A f' acc else Q.ret acc) s = _
  rw [Q.bind_eq hr]
  rfl
theorem actLoopQ_do (hok : s.2 = none) (hn : nothingB (wd L s.1) = false) (hf : 0 < f) (ht : actQ L E A s = (t, s1)) (hr : isQ L s_semi s1 = (b, s2)) : actLoopQ L E A f acc s = (if b = true then actLoopQ L E A (f - 1) (acc ++ [t]) else Q.ret (acc ++ [t])) s2 := by
  obtain ⟨f', rfl⟩ : ∃ f', f = f' + 1 := ⟨f - 1, by omega⟩; rw [actLoopQ]
  dsimp only
  rw [if_pos hok, if_neg (by rw [hn]; decide), Q.bind_bind, Q.bind_eq ht]
  show ((isQ L s_semi).bind fun b => if b = true then actLoopQ L E A f' (acc ++ [t]) else Q.ret (acc ++ [t])) s1 = _
  rw [Q.bind_eq hr]
  rfl
end

set_option maxRecDepth 100000 in
set_option maxHeartbeats 4000000 in
theorem rstmts_any (c : RC) (w : World) (s s1 : QS) (e : Nat) (E A : Q T) (hd20 : e ≤ 20) (hs1 : s1 = (if e < 20 then s else (stopQ c.L 3 s).2)) (h : RS c w s e) (hA : ∀ (w : World) (s : QS), RS c w s (e + 1) → s.2 = none → Calls Tryz.prog 46 #[.pointer (some ⟨c.rb, 0, none⟩)] w (QSt c w s (e + 1) (fun w' t v => TR w' w.heap.size w'.heap.size t v) (actQ c.L E A s))) :
    Calls Tryz.prog 32 #[.pointer (some ⟨c.rb, 0, none⟩)] w (QSt c w s e (fun w' t v => TR w' w.heap.size w'.heap.size t v) (actListQ c.L E A s1)) := by
  have hi1 : s1.1 = s.1 := by
    rw [hs1]
    split
    · rfl
    · exact (stopQ_some c.L 3 s).2
  have hfew := h.good.few; have HP := hide h; have HL := hide h.low; have hb := h.lt; clear h
  go_enter Tryz.func32, Tryz.ntmps32
  go_wp2_with fail; go_at_call 26; refine (rat_any c _ s e (by exact RS.alloc HP.out _)).mono ?_; rintro e9 w1 ⟨rfl, hg1⟩; have p1 : RS c w1 s e := RS.grown (by exact RS.alloc HP.out _) hg1; have G1 : w.grownBy w1 (some c.rb) := gb_trans (by exact gb_alloc (gb_refl w (some c.rb)) _) (gb_some hg1 (some c.rb)); have sz1 := hg1.size
  try simp at sz1
  have r_1 : RB w1 (w.heap.size) := RB.kept (RB.new' (by simp)) hg1 (by simp); have r_lt1 := r_1.lt; obtain ⟨_,_,_,_,_,_,_,_,_,_,_⟩ := id r_1; go_wp2_with fail; go_at_call 44; refine (rdeeper_any c _ s e hd20 (by exact RS.alloc p1 _)).mono ?_; rintro e9 w2 ⟨rfl, hg2, p2⟩; rw [← hs1] at p2; have G2 : w.grownBy w2 (some c.rb) := gb_trans (by exact gb_alloc G1 _) hg2; have sz2 := hg2.size
  try simp at sz2
  have r_2 : RB w2 (w.heap.size) := RB.keep (by exact RB.alloc r_1 _) hg2 (by omega); have n_2 : NB w2 (w1.heap.size) (.int .i64 1) (.string ⟨#[]⟩) (.int .i64 0) (.int .i64 (pos c.L s.1)) (.slice none 0 0) := NB.keep (NB.new' (by simp)) hg2 (by omega); have r_lt2 := r_2.lt; have n_lt2 := n_2.lt; obtain ⟨_,_,_,_,_,_,_,_,_,_,_⟩ := id r_2; obtain ⟨_,_,_,_,_,_⟩ := id n_2
  have HRl : actListQ c.L E A s1 = ((actLoopQ c.L E A (c.L.length + 1) []).bind fun l => Q.ret (.mk 1 [] 0 (pos c.L s.1) l)) s1 := by rw [← hi1]; rfl
  go_wp2_with fail
  go_loopw [] (fun wr => ∃ (acc : List T) (v : Value) (s9 : QS) (f lo : Nat), NB wr (w1.heap.size) (.int .i64 1) (.string ⟨#[]⟩) (.int .i64 0) (.int .i64 (pos c.L s.1)) v ∧ RB wr (w.heap.size) ∧ w2.heap.size + 0 ≤ lo ∧ Hid (SQ c w s1 (e + 1) (actLoopQ c.L E A (c.L.length + 1) [] s1) (actLoopQ c.L E A) v wr acc s9 f lo)) (fun wr => leftOf wr c.rb c.L.length)
  case atStart =>
    refine ⟨[], .slice none 0 0, s1, c.L.length + 1, w2.heap.size + 0, n_2, r_2, Nat.le_refl _, SQ.mk ?_ p2 G2 rfl (fun _ => by omega) (by first | (simp; done) | omega | (simp; omega)) (by first | exact Nat.le_refl _ | omega) (by omega) (by first | (simp; done) | omega | (simp; omega))⟩
    exact LR.nil _ _
  case round =>
    obtain ⟨w10, hw10⟩ : ∃ x, x = wr := ⟨_, rfl⟩; subst hw10; obtain ⟨acc, v, s10, f, lo, n_10, r_10, hlo3, HS⟩ := hrel; have z_10 := HS.out.lr; have p10 := HS.out.ps; have G10 := HS.out.gb; have SM := HS.out.same; have hfu := HS.out.fuel; have hlen := HS.out.len; have hij := HS.out.le; have hlo := HS.out.low; have hlo2 := HS.out.low2; have hjl := HS.out.ps.il; obtain ⟨ad, cp, rfl⟩ := z_10.form; have HPS := hide p10; clear HS; have r_lt10 := r_10.lt; have n_lt10 := n_10.lt; obtain ⟨_,_,_,_,_,_,_,_,_,_,_⟩ := id r_10; obtain ⟨_,_,_,_,_,_⟩ := id n_10; go_wp2_with fail; go_at_call 12; refine (rok_any c _ s10 (e + 1) p10).mono ?_; rintro e w11 ⟨rfl, hg11⟩; have p11 : RS c w11 s10 (e + 1) := RS.grown p10 hg11; have G11 : w.grownBy w11 (some c.rb) := gb_trans G10 (gb_some hg11 (some c.rb)); have sz11 := hg11.size
    try simp at sz11
    have r_11 : RB w11 (w.heap.size) := RB.kept r_10 hg11 (by simp); have n_11 : NB w11 (w1.heap.size) (.int .i64 1) (.string ⟨#[]⟩) (.int .i64 0) (.int .i64 (pos c.L s.1)) (.slice ad acc.length cp) := NB.kept n_10 hg11 (by simp); have z_11 : LR w11 (In (lo) (w10.heap.size)) (acc) (.slice ad acc.length cp) := LR.grown z_10 hg11; have r_lt11 := r_11.lt; have n_lt11 := n_11.lt; obtain ⟨_,_,_,_,_,_,_,_,_,_,_⟩ := id r_11; obtain ⟨_,_,_,_,_,_⟩ := id n_11
    by_cases hok : s10.2 = none
    · have hokb : decide (s10.2 = none) = true := decide_eq_true hok
      try simp only [hokb]
      go_wp2_with fail; go_at_call 13; refine (rword_any c _ s10 (e + 1) p11).mono ?_; rintro e w12 ⟨rfl, hg12⟩; have p12 : RS c w12 s10 (e + 1) := RS.grown p11 hg12; have G12 : w.grownBy w12 (some c.rb) := gb_trans G11 (gb_some hg12 (some c.rb)); have sz12 := hg12.size
      try simp at sz12
      have r_12 : RB w12 (w.heap.size) := RB.kept r_11 hg12 (by simp); have n_12 : NB w12 (w1.heap.size) (.int .i64 1) (.string ⟨#[]⟩) (.int .i64 0) (.int .i64 (pos c.L s.1)) (.slice ad acc.length cp) := NB.kept n_11 hg12 (by simp); have z_12 : LR w12 (In (lo) (w10.heap.size)) (acc) (.slice ad acc.length cp) := LR.grown z_11 hg12; have r_lt12 := r_12.lt; have n_lt12 := n_12.lt; obtain ⟨_,_,_,_,_,_,_,_,_,_,_⟩ := id r_12; obtain ⟨_,_,_,_,_,_⟩ := id n_12
      by_cases hse : wd c.L s10.1 = s_semi
      · have hwb : (wd c.L s10.1 == [59]) = true := by rw [hse]; decide
        have hnt : nothingB (wd c.L s10.1) = true := by rw [hse]; decide
        go_wp2_with fail; go_at_call 29; refine (ris_any c _ s10 (e + 1) s_semi _ rfl (by decide) p12).mono ?_; rintro e w13 ⟨a13, s13, v13, hr13, rfl, rfl, hg13, p13, hi13⟩; have G13 : w.grownBy w13 (some c.rb) := gb_trans G12 hg13; have sz13 := hg13.size
        try simp at sz13
        have r_13 : RB w13 (w.heap.size) := RB.keep r_12 hg13 (by omega); have n_13 : NB w13 (w1.heap.size) (.int .i64 1) (.string ⟨#[]⟩) (.int .i64 0) (.int .i64 (pos c.L s.1)) (.slice ad acc.length cp) := NB.keep n_12 hg13 (by omega); have z_13 : LR w13 (In (lo) (w10.heap.size)) (acc) (.slice ad acc.length cp) := LR.call z_12 hg13 (by omega); have r_lt13 := r_13.lt; have n_lt13 := n_13.lt; obtain ⟨_,_,_,_,_,_,_,_,_,_,_⟩ := id r_13; obtain ⟨_,_,_,_,_,_⟩ := id n_13; cases a13
        · have HRn : actListQ c.L E A s1 = (T.mk 1 [] 0 (pos c.L s.1) acc, s13) := HRl.trans (Q.bind_eq (SM.trans (actLoopQ_skip hok hnt (by have := hfu hok; omega) hr13)))
          have pc2 := p13.c2; have pz := p13.z; have pl := p13.lt; go_wp2; refine node_ret Tryz.results32 rfl (RB.five ?_) rfl ?_
          · exact RB.put r_13 _ _ _
          refine QSt.ok (a := (T.mk 1 [] 0 (pos c.L s.1) acc)) (HRn) ⟨_, rfl, ?_⟩ ?_ ?_ (by omega)
          · refine LR.wide (lo := lo) (hi := w10.heap.size) (ts := acc) ?_ (by omega) (by first | omega | (simp <;> omega))
            exact LR.p5 (LR.put z_13 (by omega) _ _) (by omega)
          · exact gb_p5 (gb_set G13 _ _) (by omega)
          · exact RS.p5 (RS.backF p13 hd20 _ (by simp)) HL.out (by omega)
        · go_wp2
          refine ⟨⟨acc, .slice ad acc.length cp, s13, f - 1, lo, n_13, r_13, hlo3, SQ.mk (LR.wide z_13 (Nat.le_refl _) (by omega)) p13 G13 (SM.trans (actLoopQ_skip hok hnt (by have := hfu hok; omega) hr13)) (fun h9 => by have := hfu (by first | assumption | simp_all); have := (show s13.1 = s10.1 + 1 from congrArg Prod.fst (isQ_true hr13).2.2); omega) (by have := hfu hok; (try simp only [List.length_append, List.length_singleton]); omega) (by omega) hlo (by omega)⟩, ?_⟩
          exact HPS.out.left_less p13 hok (fun h9 => by have := (show s13.1 = s10.1 + 1 from congrArg Prod.fst (isQ_true hr13).2.2); omega) hjl
      have hwb : (wd c.L s10.1 == [59]) = false := by simpa [s_semi] using hse
      go_wp2_with fail; go_at_call 13; refine (rword_any c _ s10 (e + 1) p12).mono ?_; rintro e w13 ⟨rfl, hg13⟩; have p13 : RS c w13 s10 (e + 1) := RS.grown p12 hg13; have G13 : w.grownBy w13 (some c.rb) := gb_trans G12 (gb_some hg13 (some c.rb)); have sz13 := hg13.size
      try simp at sz13
      have r_13 : RB w13 (w.heap.size) := RB.kept r_12 hg13 (by simp); have n_13 : NB w13 (w1.heap.size) (.int .i64 1) (.string ⟨#[]⟩) (.int .i64 0) (.int .i64 (pos c.L s.1)) (.slice ad acc.length cp) := NB.kept n_12 hg13 (by simp); have z_13 : LR w13 (In (lo) (w10.heap.size)) (acc) (.slice ad acc.length cp) := LR.grown z_12 hg13; have r_lt13 := r_13.lt; have n_lt13 := n_13.lt; obtain ⟨_,_,_,_,_,_,_,_,_,_,_⟩ := id r_13; obtain ⟨_,_,_,_,_,_⟩ := id n_13; go_wp2_with fail; go_at_call 45; refine (rbehind_any (wd c.L s10.1) _).mono ?_; rintro e9 _ ⟨rfl, rfl⟩; cases hbh : behindB (wd c.L s10.1)
      · have hnt : nothingB (wd c.L s10.1) = false := by rw [nothingB_eq, hbh]; simpa using hse
        go_wp2_with fail
        go_region_law (first
          | (go_simp
             go_at_call 46; refine (hA _ s10 (by exact RS.drew p13) hok).mono ?_; rintro e w14 ⟨⟨k14, n14, m14, q14, l14⟩, s14, v14, hr14, rfl, ⟨sv14, rfl, lr14⟩, hg14, p14, hi14⟩; simp only [T.kind, T.name, T.num, T.at', T.subs] at lr14 ⊢; obtain ⟨ad14, cp14, rfl⟩ := lr14.form; obtain ⟨b14, hb14, lr14⟩ : ∃ b, b = _ ∧ LR w14 (In b w14.heap.size) l14 (.slice ad14 l14.length cp14) := ⟨_, rfl, lr14⟩
             try simp at hb14
             have G14 : w.grownBy w14 (some c.rb) := gb_trans (by exact gb_drew G13) hg14; have sz14 := hg14.size
             try simp at sz14
             have r_14 : RB w14 (w.heap.size) := RB.keep (by exact RB.drew r_13) hg14 (by omega); have n_14 : NB w14 (w1.heap.size) (.int .i64 1) (.string ⟨#[]⟩) (.int .i64 0) (.int .i64 (pos c.L s.1)) (.slice ad acc.length cp) := NB.keep (by exact NB.drew n_13) hg14 (by omega); have z_14 : LR w14 (In (lo) (w10.heap.size)) (acc) (.slice ad acc.length cp) := LR.call (by exact LR.drew z_13) hg14 (by omega); have r_lt14 := r_14.lt; have n_lt14 := n_14.lt; obtain ⟨_,_,_,_,_,_,_,_,_,_,_⟩ := id r_14
             obtain ⟨_,_,_,_,_,_⟩ := id n_14)
          | (have hrow15 := z_14.rows
             refine step_appS (v := .slice ad acc.length cp) rfl _ _ rfl (In (lo) (w14.heap.size + 2)) rfl rfl (LR.alloc z_14 _) (LR.build1 w14 (cs := #[.int .i64 k14, .string ⟨n14.toArray⟩, .int .i64 m14, .int .i64 q14, .slice ad14 l14.length cp14]) (t := (T.mk k14 n14 m14 q14 l14)) (sv := .slice ad14 l14.length cp14) lr14 rfl rfl (by omega))
               (fun k hk e => by have h1 := hrow15 k e; have h2 : b14 ≤ k := hk.1; omega) (fun k hk => ⟨hk.1, by have h : k < w10.heap.size := hk.2; omega⟩) (fun k hk => ⟨by have h : b14 ≤ k := hk.1; omega, by have h : k < w14.heap.size + 1 := hk.2; omega⟩) ⟨by simp; omega, by simp⟩ (by simp; try omega) ?_
             intro v15 w15 lr15 hg15; obtain ⟨ad15, cp15, e15⟩ := lr15.form; rw [List.length_append, List.length_singleton] at e15; have e15 : v15 = .slice ad15 (acc.length + 1) cp15 := e15; subst e15; have sz15 := hg15.size
             try simp at sz15
             have r_15 : RB w15 (w.heap.size) := RB.kept (RB.alloc r_14 _) hg15 (fun e => by have := hrow15 _ e.symm; omega); have n_15 : NB w15 (w1.heap.size) (.int .i64 1) (.string ⟨#[]⟩) (.int .i64 0) (.int .i64 (pos c.L s.1)) (.slice ad acc.length cp) := NB.kept (NB.alloc n_14 _) hg15 (fun e => by have := hrow15 _ e.symm; omega); have p15 : RS c w15 s14 (e + 1) := RS.own (RS.alloc p14 _) HL.out hg15 (fun b hb => by have := hrow15 b hb; omega); have G15 : w.grownBy w15 (some c.rb) := gb_own (gb_alloc G14 _) hg15 (fun b hb => by have := hrow15 b hb; omega); have r_lt15 := r_15.lt; have n_lt15 := n_15.lt; obtain ⟨_,_,_,_,_,_,_,_,_,_,_⟩ := id r_15
             obtain ⟨_,_,_,_,_,_⟩ := id n_15))
        all_goals
          have lz15 : LR w15 (In (lo) w15.heap.size) (acc ++ [(T.mk k14 n14 m14 q14 l14)]) (.slice ad15 (acc.length + 1) cp15) := lr15.bounded.mono (fun k hk => ⟨hk.1.1, hk.2⟩); go_wp2_with fail; go_at_call 29; refine (ris_any c _ s14 (e + 1) s_semi _ rfl (by decide) (by exact RS.put p15 HL.out (by omega) _ _)).mono ?_; rintro e w16 ⟨a16, s16, v16, hr16, rfl, rfl, hg16, p16, hi16⟩; have G16 : w.grownBy w16 (some c.rb) := gb_trans (by exact gb_put G15 (by omega) _ _) hg16; have sz16 := hg16.size
          try simp at sz16
          have r_16 : RB w16 (w.heap.size) := RB.keep (by exact RB.put r_15 _ _ _) hg16 (by omega); have n_16 : NB w16 (w1.heap.size) (.int .i64 1) (.string ⟨#[]⟩) (.int .i64 0) (.int .i64 (pos c.L s.1)) (.slice ad15 (acc.length + 1) cp15) := NB.keep (by exact NB.s4 n_15 _) hg16 (by omega); have z_16 : LR w16 (In (lo) (w15.heap.size)) ((acc ++ [(T.mk k14 n14 m14 q14 l14)])) (.slice ad15 (acc.length + 1) cp15) := LR.call (by exact LR.put lz15 (by omega) _ _) hg16 (by omega); have r_lt16 := r_16.lt; have n_lt16 := n_16.lt; obtain ⟨_,_,_,_,_,_,_,_,_,_,_⟩ := id r_16; obtain ⟨_,_,_,_,_,_⟩ := id n_16; cases a16
          · have HRn : actListQ c.L E A s1 = (T.mk 1 [] 0 (pos c.L s.1) (acc ++ [(T.mk k14 n14 m14 q14 l14)]), s16) := HRl.trans (Q.bind_eq (SM.trans (actLoopQ_do hok hnt (by have := hfu hok; omega) hr14 hr16)))
            have pc2 := p16.c2; have pz := p16.z; have pl := p16.lt; go_wp2; refine node_ret Tryz.results32 rfl (RB.five ?_) rfl ?_
            · exact RB.put r_16 _ _ _
            refine QSt.ok (a := (T.mk 1 [] 0 (pos c.L s.1) (acc ++ [(T.mk k14 n14 m14 q14 l14)]))) (HRn) ⟨_, rfl, ?_⟩ ?_ ?_ (by omega)
            · refine LR.wide (lo := lo) (hi := w15.heap.size) (ts := (acc ++ [(T.mk k14 n14 m14 q14 l14)])) ?_ (by omega) (by first | omega | (simp <;> omega))
              exact LR.p5 (LR.put z_16 (by omega) _ _) (by omega)
            · exact gb_p5 (gb_set G16 _ _) (by omega)
            · exact RS.p5 (RS.backF p16 hd20 _ (by simp)) HL.out (by omega)
          · go_wp2
            refine ⟨⟨(acc ++ [(T.mk k14 n14 m14 q14 l14)]), .slice ad15 (acc.length + 1) cp15, s16, f - 1, lo, n_16, r_16, hlo3, SQ.mk (LR.wide z_16 (Nat.le_refl _) (by omega)) p16 G16 (SM.trans (actLoopQ_do hok hnt (by have := hfu hok; omega) hr14 hr16)) (fun h9 => by have := hfu (by first | assumption | simp_all); have := (show s16.1 = s14.1 + 1 from congrArg Prod.fst (isQ_true hr16).2.2); omega) (by have := hfu hok; (try simp only [List.length_append, List.length_singleton]); omega) (by omega) hlo (by omega)⟩, ?_⟩
            exact HPS.out.left_less p16 hok (fun h9 => by have := (show s16.1 = s14.1 + 1 from congrArg Prod.fst (isQ_true hr16).2.2); omega) hjl
      · have hnt : nothingB (wd c.L s10.1) = true := by rw [nothingB_eq, hbh]; simp
        go_wp2_with fail; go_at_call 29; refine (ris_any c _ s10 (e + 1) s_semi _ rfl (by decide) p13).mono ?_; rintro e w14 ⟨a14, s14, v14, hr14, rfl, rfl, hg14, p14, hi14⟩; have G14 : w.grownBy w14 (some c.rb) := gb_trans G13 hg14; have sz14 := hg14.size
        try simp at sz14
        have r_14 : RB w14 (w.heap.size) := RB.keep r_13 hg14 (by omega); have n_14 : NB w14 (w1.heap.size) (.int .i64 1) (.string ⟨#[]⟩) (.int .i64 0) (.int .i64 (pos c.L s.1)) (.slice ad acc.length cp) := NB.keep n_13 hg14 (by omega); have z_14 : LR w14 (In (lo) (w10.heap.size)) (acc) (.slice ad acc.length cp) := LR.call z_13 hg14 (by omega); have r_lt14 := r_14.lt; have n_lt14 := n_14.lt; obtain ⟨_,_,_,_,_,_,_,_,_,_,_⟩ := id r_14; obtain ⟨_,_,_,_,_,_⟩ := id n_14; cases a14
        · have HRn : actListQ c.L E A s1 = (T.mk 1 [] 0 (pos c.L s.1) acc, s14) := HRl.trans (Q.bind_eq (SM.trans (actLoopQ_skip hok hnt (by have := hfu hok; omega) hr14)))
          have pc2 := p14.c2; have pz := p14.z; have pl := p14.lt; go_wp2; refine node_ret Tryz.results32 rfl (RB.five ?_) rfl ?_
          · exact RB.put r_14 _ _ _
          refine QSt.ok (a := (T.mk 1 [] 0 (pos c.L s.1) acc)) (HRn) ⟨_, rfl, ?_⟩ ?_ ?_ (by omega)
          · refine LR.wide (lo := lo) (hi := w10.heap.size) (ts := acc) ?_ (by omega) (by first | omega | (simp <;> omega))
            exact LR.p5 (LR.put z_14 (by omega) _ _) (by omega)
          · exact gb_p5 (gb_set G14 _ _) (by omega)
          · exact RS.p5 (RS.backF p14 hd20 _ (by simp)) HL.out (by omega)
        · go_wp2
          refine ⟨⟨acc, .slice ad acc.length cp, s14, f - 1, lo, n_14, r_14, hlo3, SQ.mk (LR.wide z_14 (Nat.le_refl _) (by omega)) p14 G14 (SM.trans (actLoopQ_skip hok hnt (by have := hfu hok; omega) hr14)) (fun h9 => by have := hfu (by first | assumption | simp_all); have := (show s14.1 = s10.1 + 1 from congrArg Prod.fst (isQ_true hr14).2.2); omega) (by have := hfu hok; (try simp only [List.length_append, List.length_singleton]); omega) (by omega) hlo (by omega)⟩, ?_⟩
          exact HPS.out.left_less p14 hok (fun h9 => by have := (show s14.1 = s10.1 + 1 from congrArg Prod.fst (isQ_true hr14).2.2); omega) hjl
    have hokb : decide (s10.2 = none) = false := decide_eq_false hok
    try simp only [hokb]
    have HRn : actListQ c.L E A s1 = (T.mk 1 [] 0 (pos c.L s.1) acc, s10) := HRl.trans (Q.bind_eq (SM.trans (actLoopQ_bad hok))); have pc2 := p11.c2; have pz := p11.z; have pl := p11.lt; go_wp2; refine node_ret Tryz.results32 rfl (RB.five ?_) rfl ?_
    · exact RB.put r_11 _ _ _
    refine QSt.ok (a := (T.mk 1 [] 0 (pos c.L s.1) acc)) (HRn) ⟨_, rfl, ?_⟩ ?_ ?_ (by omega)
    · refine LR.wide (lo := lo) (hi := w10.heap.size) (ts := acc) ?_ (by omega) (by first | omega | (simp <;> omega))
      exact LR.p5 (LR.put z_11 (by omega) _ _) (by omega)
    · exact gb_p5 (gb_set G11 _ _) (by omega)
    · exact RS.p5 (RS.backF p11 hd20 _ (by simp)) HL.out (by omega)
end Go.Proofs.YtbphiiaoncakfaaGreatDoor

/- The document's reader: acts, but for IF and those of one word. -/
namespace Go.Proofs.YtbphiiaoncakfaaGreatDoor
open Go.RowKit

theorem RS.next {c : RC} {w : World} {s : QS} {d : Nat} (h : RS c w s d) (hok : s.2 = none) (hne : wd c.L s.1 ≠ []) (v : Int) (hv : v = (s.1 : Int) + 1) : RS c (w.setCell ⟨c.rb, 1, none⟩ (.int .i64 v)) (s.1 + 1, none) d := by
  have h1 := h.set1 v (s.1 + 1) (by rw [hv]; simp) (h.good.next h.il hne); rw [hok] at h1
  exact h1
theorem needQ_yes {L : List Tok} {x : List UInt8} {s : QS} (hok : s.2 = none) (hw : wd L s.1 = x) : needQ L x s = ((), (s.1 + 1, none)) := by
  have h1 : isQ L x s = (true, (s.1 + 1, none)) := by unfold isQ; rw [if_pos ⟨hok, hw⟩]
  show Q.bind (isQ L x) _ s = _
  rw [Q.bind_eq h1]
  rfl

set_option maxRecDepth 100000 in
set_option maxHeartbeats 2000000 in
theorem rstmt_while (c : RC) (w : World) (s : QS) (d : Nat) (E A : Q T) (h : RS c w s d) (hok : s.2 = none) (hE : QOK c d 68 E) (hA : QOK c d 32 A) (hw : wd c.L s.1 = kWHILE) :
    Calls Tryz.prog 46 #[.pointer (some ⟨c.rb, 0, none⟩)] w (QSt c w s d (fun w' t v => TR w' w.heap.size w'.heap.size t v) (whileQ c.L E A s)) := by
  have HP := hide h; have HL := hide h.low; have hb := h.lt; have hfew := h.good.few; clear h
  have hcIF : (wd c.L s.1 == [73, 70]) = false := by rw [hw]; decide
  have hcWHILE : (wd c.L s.1 == [87, 72, 73, 76, 69]) = true := by rw [hw]; decide
  have hne : wd c.L s.1 ≠ [] := by rw [hw]; decide
  go_enter Tryz.func46, Tryz.ntmps46
  go_wp2_with fail; go_at_call 26; refine (rat_any c _ s d (by exact RS.alloc HP.out _)).mono ?_; rintro e w1 ⟨rfl, hg1⟩; have p1 : RS c w1 s d := RS.grown (by exact RS.alloc HP.out _) hg1; have G1 : w.grownBy w1 (some c.rb) := gb_trans (by exact gb_alloc (gb_refl w (some c.rb)) _) (gb_some hg1 (some c.rb)); have sz1 := hg1.size
  try simp at sz1
  have r_1 : RB w1 (w.heap.size) := RB.kept (RB.new' (by simp)) hg1 (by simp); have r_lt1 := r_1.lt; obtain ⟨_,_,_,_,_,_,_,_,_,_,_⟩ := id r_1; go_wp2_with fail; go_at_call 13; refine (rword_any c _ s d (by exact RS.alloc p1 _)).mono ?_; rintro e w2 ⟨rfl, hg2⟩; have p2 : RS c w2 s d := RS.grown (by exact RS.alloc p1 _) hg2; have G2 : w.grownBy w2 (some c.rb) := gb_trans (by exact gb_alloc G1 _) (gb_some hg2 (some c.rb)); have sz2 := hg2.size
  try simp at sz2
  have r_2 : RB w2 (w.heap.size) := RB.kept (by exact RB.alloc r_1 _) hg2 (by simp); have n_2 : NB w2 (w1.heap.size) (.int .i64 0) (.string ⟨#[]⟩) (.int .i64 0) (.int .i64 (pos c.L s.1)) (.slice none 0 0) := NB.kept (NB.new' (by simp)) hg2 (by simp); have r_lt2 := r_2.lt; have n_lt2 := n_2.lt; obtain ⟨_,_,_,_,_,_,_,_,_,_,_⟩ := id r_2; obtain ⟨_,_,_,_,_,_⟩ := id n_2
  have HRx1 : whileQ c.L E A s = (((needQ c.L kWHILE).bind fun _ => E.bind fun c' => (needQ c.L kDO).bind fun _ => A.bind fun a => (needQ c.L kEND).bind fun _ => Q.ret (.mk 17 [] 0 (pos c.L s.1) [c', a])) s) := rfl
  have pc1 := p2.c1; have pz := p2.z; have pl := p2.lt; have pil := p2.il; go_wp2_with fail; obtain ⟨w3, hw3⟩ : ∃ x : World, x = (w2.setCell ⟨w1.heap.size, 0, none⟩ (.int .i64 17)).setCell ⟨c.rb, 1, none⟩ (.int .i64 ((s.1 : Int) + 1)) := ⟨_, rfl⟩; rw [← hw3]
  have p3 : RS c w3 (s.1 + 1, none) d := by rw [hw3]; exact RS.next (by exact RS.put p2 HL.out (by omega) _ _) hok hne _ rfl
  have G3 : w.grownBy w3 (some c.rb) := by rw [hw3]; exact gb_set (gb_put G2 (by omega) _ _) _ _
  have sz3 : w2.heap.size ≤ w3.heap.size := by rw [hw3]; simp [World.setCell]
  have sy3 : w3.heap.size ≤ w2.heap.size := by rw [hw3]; simp [World.setCell]
  have r_3 : RB w3 (w.heap.size) := by rw [hw3]; exact RB.put (RB.put r_2 _ _ _) _ _ _
  have n_3 : NB w3 (w1.heap.size) (.int .i64 17) (.string ⟨#[]⟩) (.int .i64 0) (.int .i64 (pos c.L s.1)) (.slice none 0 0) := by rw [hw3]; exact NB.far (NB.s0 n_2 _) (by omega) _ _
  clear hw3; have r_lt3 := r_3.lt; have n_lt3 := n_3.lt; obtain ⟨_,_,_,_,_,_,_,_,_,_,_⟩ := id r_3; obtain ⟨_,_,_,_,_,_⟩ := id n_3; have HRx2 : whileQ c.L E A s = _ := HRx1.trans (Q.bind_eq (needQ_yes hok hw)); go_at_call 68; refine (hE _ (s.1 + 1, none) p3).mono ?_; rintro e w4 ⟨⟨k4, n4, m4, q4, l4⟩, s4, v4, hr4, rfl, ⟨sv4, rfl, lr4⟩, hg4, p4, hi4⟩; have HR4 : whileQ c.L E A s = _ := HRx2.trans (Q.bind_eq hr4); simp only [T.kind, T.name, T.num, T.at', T.subs] at lr4 ⊢; obtain ⟨ad4, cp4, rfl⟩ := lr4.form; obtain ⟨b4, hb4, lr4⟩ : ∃ b, b = _ ∧ LR w4 (In b w4.heap.size) l4 (.slice ad4 l4.length cp4) := ⟨_, rfl, lr4⟩
  try simp at hb4
  have G4 : w.grownBy w4 (some c.rb) := gb_trans G3 hg4; have sz4 := hg4.size
  try simp at sz4
  have r_4 : RB w4 (w.heap.size) := RB.keep r_3 hg4 (by omega); have n_4 : NB w4 (w1.heap.size) (.int .i64 17) (.string ⟨#[]⟩) (.int .i64 0) (.int .i64 (pos c.L s.1)) (.slice none 0 0) := NB.keep n_3 hg4 (by omega); have r_lt4 := r_4.lt; have n_lt4 := n_4.lt; obtain ⟨_,_,_,_,_,_,_,_,_,_,_⟩ := id r_4; obtain ⟨_,_,_,_,_,_⟩ := id n_4; go_wp2_with fail; go_at_call 27; refine (rneed_any c _ s4 d kDO _ rfl (by decide) (by exact RS.alloc p4 _)).mono ?_; rintro e w5 ⟨a5, s5, v5, hr5, rfl, -, hg5, p5, hi5⟩; have HR5 : whileQ c.L E A s = _ := HR4.trans (Q.bind_eq hr5); have G5 : w.grownBy w5 (some c.rb) := gb_trans (by exact gb_alloc G4 _) hg5; have sz5 := hg5.size
  try simp at sz5
  have r_5 : RB w5 (w.heap.size) := RB.keep (by exact RB.alloc r_4 _) hg5 (by omega); have n_5 : NB w5 (w1.heap.size) (.int .i64 17) (.string ⟨#[]⟩) (.int .i64 0) (.int .i64 (pos c.L s.1)) (.slice none 0 0) := NB.keep (by exact NB.alloc n_4 _) hg5 (by omega); have cc_5 : NB w5 (w4.heap.size) (.int .i64 k4) (.string ⟨n4.toArray⟩) (.int .i64 m4) (.int .i64 q4) (.slice ad4 l4.length cp4) := NB.keep (NB.new' (by simp)) hg5 (by omega); have x_5 : LR w5 (In (b4) (w4.heap.size)) (l4) (.slice ad4 l4.length cp4) := LR.call (by exact LR.alloc lr4 _) hg5 (by omega); have r_lt5 := r_5.lt; have n_lt5 := n_5.lt; have cc_lt5 := cc_5.lt; obtain ⟨_,_,_,_,_,_,_,_,_,_,_⟩ := id r_5; obtain ⟨_,_,_,_,_,_⟩ := id n_5; obtain ⟨_,_,_,_,_,_⟩ := id cc_5; go_wp2_with fail
  go_region_with (first
    | (go_at_call 32
       refine (hA _ s5 (by exact RS.drew p5)).mono ?_; rintro e w6 ⟨⟨k6, n6, m6, q6, l6⟩, s6, v6, hr6, rfl, ⟨sv6, rfl, lr6⟩, hg6, p6, hi6⟩; have HR6 : whileQ c.L E A s = _ := HR5.trans (Q.bind_eq hr6); simp only [T.kind, T.name, T.num, T.at', T.subs] at lr6 ⊢; obtain ⟨ad6, cp6, rfl⟩ := lr6.form; obtain ⟨b6, hb6, lr6⟩ : ∃ b, b = _ ∧ LR w6 (In b w6.heap.size) l6 (.slice ad6 l6.length cp6) := ⟨_, rfl, lr6⟩
       try simp at hb6
       have G6 : w.grownBy w6 (some c.rb) := gb_trans (by exact gb_drew G5) hg6; have sz6 := hg6.size
       try simp at sz6
       have r_6 : RB w6 (w.heap.size) := RB.keep (by exact RB.drew r_5) hg6 (by omega); have n_6 : NB w6 (w1.heap.size) (.int .i64 17) (.string ⟨#[]⟩) (.int .i64 0) (.int .i64 (pos c.L s.1)) (.slice none 0 0) := NB.keep (by exact NB.drew n_5) hg6 (by omega); have cc_6 : NB w6 (w4.heap.size) (.int .i64 k4) (.string ⟨n4.toArray⟩) (.int .i64 m4) (.int .i64 q4) (.slice ad4 l4.length cp4) := NB.keep (by exact NB.drew cc_5) hg6 (by omega); have x_6 : LR w6 (In (b4) (w4.heap.size)) (l4) (.slice ad4 l4.length cp4) := LR.call (by exact LR.drew x_5) hg6 (by omega); have r_lt6 := r_6.lt; have n_lt6 := n_6.lt; have cc_lt6 := cc_6.lt; obtain ⟨_,_,_,_,_,_,_,_,_,_,_⟩ := id r_6; obtain ⟨_,_,_,_,_,_⟩ := id n_6
       obtain ⟨_,_,_,_,_,_⟩ := id cc_6))
  all_goals
    go_wp2_with fail; go_at_call 27; refine (rneed_any c _ s6 d kEND _ rfl (by decide) (by exact RS.alloc (RS.put p6 HL.out (by omega) _ _) _)).mono ?_; rintro e w7 ⟨a7, s7, v7, hr7, rfl, -, hg7, p7, hi7⟩; have HR7 : whileQ c.L E A s = _ := HR6.trans (Q.bind_eq hr7); have G7 : w.grownBy w7 (some c.rb) := gb_trans (by exact gb_alloc (gb_put G6 (by omega) _ _) _) hg7; have sz7 := hg7.size
    try simp at sz7
    have r_7 : RB w7 (w.heap.size) := RB.keep (by exact RB.alloc (RB.put r_6 _ _ _) _) hg7 (by omega); have n_7 : NB w7 (w1.heap.size) (.int .i64 17) (.string ⟨#[]⟩) (.int .i64 0) (.int .i64 (pos c.L s.1)) (.slice (some ⟨w6.heap.size, 0, none⟩) 2 2) := NB.keep (by exact NB.alloc (NB.s4 n_6 _) _) hg7 (by omega); have cc_7 : NB w7 (w4.heap.size) (.int .i64 k4) (.string ⟨n4.toArray⟩) (.int .i64 m4) (.int .i64 q4) (.slice ad4 l4.length cp4) := NB.keep (by exact NB.alloc (NB.far cc_6 (by omega) _ _) _) hg7 (by omega); have x_7 : LR w7 (In (b4) (w4.heap.size)) (l4) (.slice ad4 l4.length cp4) := LR.call (by exact LR.alloc (LR.put x_6 (by omega) _ _) _) hg7 (by omega); have y_7 : LR w7 (In (b6) (w6.heap.size)) (l6) (.slice ad6 l6.length cp6) := LR.call (by exact LR.alloc (LR.put lr6 (by omega) _ _) _) hg7 (by omega); have z_7 : LR w7 (In (b4) (w6.heap.size + 1)) ([(T.mk k4 n4 m4 q4 l4), (T.mk k6 n6 m6 q6 l6)]) (.slice (some ⟨w6.heap.size, 0, none⟩) 2 2) := LR.call (LR.build2 _ (t := (T.mk k4 n4 m4 q4 l4)) (t2 := (T.mk k6 n6 m6 q6 l6)) (sv := .slice ad4 l4.length cp4) (sv2 := .slice ad6 l6.length cp6) (LR.wide (lo := b4) (hi := w4.heap.size) (ts := l4) (by exact LR.put x_6 (by omega) _ _) (by omega) (by first | omega | (simp <;> omega))) (LR.wide (lo := b6) (hi := w6.heap.size) (ts := l6) (by exact LR.put lr6 (by omega) _ _) (by omega) (by first | omega | (simp <;> omega))) (by simp) rfl (by omega)) hg7 (by omega); have r_lt7 := r_7.lt; have n_lt7 := n_7.lt; have cc_lt7 := cc_7.lt; obtain ⟨_,_,_,_,_,_,_,_,_,_,_⟩ := id r_7; obtain ⟨_,_,_,_,_,_⟩ := id n_7; obtain ⟨_,_,_,_,_,_⟩ := id cc_7; go_wp2; refine node_ret Tryz.results46 rfl (RB.five ?_) rfl ?_
    · exact r_7
    refine QSt.ok (a := (T.mk 17 [] 0 (pos c.L s.1) [(T.mk k4 n4 m4 q4 l4), (T.mk k6 n6 m6 q6 l6)])) (HR7) ⟨_, rfl, ?_⟩ ?_ ?_ (by omega)
    · refine LR.wide (lo := b4) (hi := w6.heap.size + 1) (ts := [(T.mk k4 n4 m4 q4 l4), (T.mk k6 n6 m6 q6 l6)]) ?_ (by omega) (by first | omega | (simp <;> omega))
      exact LR.p5 z_7 (by omega)
    · exact gb_p5 G7 (by omega)
    · exact RS.p5 p7 HL.out (by omega)

set_option maxRecDepth 100000 in
set_option maxHeartbeats 2000000 in
theorem rstmt_repeat (c : RC) (w : World) (s : QS) (d : Nat) (E A : Q T) (h : RS c w s d) (hok : s.2 = none) (hE : QOK c d 68 E) (hA : QOK c d 32 A) (hw : wd c.L s.1 = kREPEAT) :
    Calls Tryz.prog 46 #[.pointer (some ⟨c.rb, 0, none⟩)] w (QSt c w s d (fun w' t v => TR w' w.heap.size w'.heap.size t v) (repeatQ c.L E A s)) := by
  have HP := hide h; have HL := hide h.low; have hb := h.lt; have hfew := h.good.few; clear h
  have hcIF : (wd c.L s.1 == [73, 70]) = false := by rw [hw]; decide
  have hcWHILE : (wd c.L s.1 == [87, 72, 73, 76, 69]) = false := by rw [hw]; decide
  have hcREPEAT : (wd c.L s.1 == [82, 69, 80, 69, 65, 84]) = true := by rw [hw]; decide
  have hne : wd c.L s.1 ≠ [] := by rw [hw]; decide
  go_enter Tryz.func46, Tryz.ntmps46
  go_wp2_with fail; go_at_call 26; refine (rat_any c _ s d (by exact RS.alloc HP.out _)).mono ?_; rintro e w1 ⟨rfl, hg1⟩; have p1 : RS c w1 s d := RS.grown (by exact RS.alloc HP.out _) hg1; have G1 : w.grownBy w1 (some c.rb) := gb_trans (by exact gb_alloc (gb_refl w (some c.rb)) _) (gb_some hg1 (some c.rb)); have sz1 := hg1.size
  try simp at sz1
  have r_1 : RB w1 (w.heap.size) := RB.kept (RB.new' (by simp)) hg1 (by simp); have r_lt1 := r_1.lt; obtain ⟨_,_,_,_,_,_,_,_,_,_,_⟩ := id r_1; go_wp2_with fail; go_at_call 13; refine (rword_any c _ s d (by exact RS.alloc p1 _)).mono ?_; rintro e w2 ⟨rfl, hg2⟩; have p2 : RS c w2 s d := RS.grown (by exact RS.alloc p1 _) hg2; have G2 : w.grownBy w2 (some c.rb) := gb_trans (by exact gb_alloc G1 _) (gb_some hg2 (some c.rb)); have sz2 := hg2.size
  try simp at sz2
  have r_2 : RB w2 (w.heap.size) := RB.kept (by exact RB.alloc r_1 _) hg2 (by simp); have n_2 : NB w2 (w1.heap.size) (.int .i64 0) (.string ⟨#[]⟩) (.int .i64 0) (.int .i64 (pos c.L s.1)) (.slice none 0 0) := NB.kept (NB.new' (by simp)) hg2 (by simp); have r_lt2 := r_2.lt; have n_lt2 := n_2.lt; obtain ⟨_,_,_,_,_,_,_,_,_,_,_⟩ := id r_2; obtain ⟨_,_,_,_,_,_⟩ := id n_2
  have HRx1 : repeatQ c.L E A s = (((needQ c.L kREPEAT).bind fun _ => A.bind fun a => (needQ c.L kUNTIL).bind fun _ => E.bind fun c' => Q.ret (.mk 18 [] 0 (pos c.L s.1) [a, c'])) s) := rfl
  have pc1 := p2.c1; have pz := p2.z; have pl := p2.lt; have pil := p2.il; go_wp2_with fail; obtain ⟨w3, hw3⟩ : ∃ x : World, x = (w2.setCell ⟨w1.heap.size, 0, none⟩ (.int .i64 18)).setCell ⟨c.rb, 1, none⟩ (.int .i64 ((s.1 : Int) + 1)) := ⟨_, rfl⟩; rw [← hw3]
  have p3 : RS c w3 (s.1 + 1, none) d := by rw [hw3]; exact RS.next (by exact RS.put p2 HL.out (by omega) _ _) hok hne _ rfl
  have G3 : w.grownBy w3 (some c.rb) := by rw [hw3]; exact gb_set (gb_put G2 (by omega) _ _) _ _
  have sz3 : w2.heap.size ≤ w3.heap.size := by rw [hw3]; simp [World.setCell]
  have sy3 : w3.heap.size ≤ w2.heap.size := by rw [hw3]; simp [World.setCell]
  have r_3 : RB w3 (w.heap.size) := by rw [hw3]; exact RB.put (RB.put r_2 _ _ _) _ _ _
  have n_3 : NB w3 (w1.heap.size) (.int .i64 18) (.string ⟨#[]⟩) (.int .i64 0) (.int .i64 (pos c.L s.1)) (.slice none 0 0) := by rw [hw3]; exact NB.far (NB.s0 n_2 _) (by omega) _ _
  clear hw3; have r_lt3 := r_3.lt; have n_lt3 := n_3.lt; obtain ⟨_,_,_,_,_,_,_,_,_,_,_⟩ := id r_3; obtain ⟨_,_,_,_,_,_⟩ := id n_3; have HRx2 : repeatQ c.L E A s = _ := HRx1.trans (Q.bind_eq (needQ_yes hok hw)); go_at_call 32; refine (hA _ (s.1 + 1, none) p3).mono ?_; rintro e w4 ⟨⟨k4, n4, m4, q4, l4⟩, s4, v4, hr4, rfl, ⟨sv4, rfl, lr4⟩, hg4, p4, hi4⟩; have HR4 : repeatQ c.L E A s = _ := HRx2.trans (Q.bind_eq hr4); simp only [T.kind, T.name, T.num, T.at', T.subs] at lr4 ⊢; obtain ⟨ad4, cp4, rfl⟩ := lr4.form; obtain ⟨b4, hb4, lr4⟩ : ∃ b, b = _ ∧ LR w4 (In b w4.heap.size) l4 (.slice ad4 l4.length cp4) := ⟨_, rfl, lr4⟩
  try simp at hb4
  have G4 : w.grownBy w4 (some c.rb) := gb_trans G3 hg4; have sz4 := hg4.size
  try simp at sz4
  have r_4 : RB w4 (w.heap.size) := RB.keep r_3 hg4 (by omega); have n_4 : NB w4 (w1.heap.size) (.int .i64 18) (.string ⟨#[]⟩) (.int .i64 0) (.int .i64 (pos c.L s.1)) (.slice none 0 0) := NB.keep n_3 hg4 (by omega); have r_lt4 := r_4.lt; have n_lt4 := n_4.lt; obtain ⟨_,_,_,_,_,_,_,_,_,_,_⟩ := id r_4; obtain ⟨_,_,_,_,_,_⟩ := id n_4; go_wp2_with fail; go_at_call 27; refine (rneed_any c _ s4 d kUNTIL _ rfl (by decide) (by exact RS.alloc p4 _)).mono ?_; rintro e w5 ⟨a5, s5, v5, hr5, rfl, -, hg5, p5, hi5⟩; have HR5 : repeatQ c.L E A s = _ := HR4.trans (Q.bind_eq hr5); have G5 : w.grownBy w5 (some c.rb) := gb_trans (by exact gb_alloc G4 _) hg5; have sz5 := hg5.size
  try simp at sz5
  have r_5 : RB w5 (w.heap.size) := RB.keep (by exact RB.alloc r_4 _) hg5 (by omega); have n_5 : NB w5 (w1.heap.size) (.int .i64 18) (.string ⟨#[]⟩) (.int .i64 0) (.int .i64 (pos c.L s.1)) (.slice none 0 0) := NB.keep (by exact NB.alloc n_4 _) hg5 (by omega); have cc_5 : NB w5 (w4.heap.size) (.int .i64 k4) (.string ⟨n4.toArray⟩) (.int .i64 m4) (.int .i64 q4) (.slice ad4 l4.length cp4) := NB.keep (NB.new' (by simp)) hg5 (by omega); have x_5 : LR w5 (In (b4) (w4.heap.size)) (l4) (.slice ad4 l4.length cp4) := LR.call (by exact LR.alloc lr4 _) hg5 (by omega); have r_lt5 := r_5.lt; have n_lt5 := n_5.lt; have cc_lt5 := cc_5.lt; obtain ⟨_,_,_,_,_,_,_,_,_,_,_⟩ := id r_5; obtain ⟨_,_,_,_,_,_⟩ := id n_5; obtain ⟨_,_,_,_,_,_⟩ := id cc_5; go_wp2_with fail
  go_region_with (first
    | (go_at_call 68
       refine (hE _ s5 (by exact RS.drew p5)).mono ?_; rintro e w6 ⟨⟨k6, n6, m6, q6, l6⟩, s6, v6, hr6, rfl, ⟨sv6, rfl, lr6⟩, hg6, p6, hi6⟩; have HR6 : repeatQ c.L E A s = _ := HR5.trans (Q.bind_eq hr6); simp only [T.kind, T.name, T.num, T.at', T.subs] at lr6 ⊢; obtain ⟨ad6, cp6, rfl⟩ := lr6.form; obtain ⟨b6, hb6, lr6⟩ : ∃ b, b = _ ∧ LR w6 (In b w6.heap.size) l6 (.slice ad6 l6.length cp6) := ⟨_, rfl, lr6⟩
       try simp at hb6
       have G6 : w.grownBy w6 (some c.rb) := gb_trans (by exact gb_drew G5) hg6; have sz6 := hg6.size
       try simp at sz6
       have r_6 : RB w6 (w.heap.size) := RB.keep (by exact RB.drew r_5) hg6 (by omega); have n_6 : NB w6 (w1.heap.size) (.int .i64 18) (.string ⟨#[]⟩) (.int .i64 0) (.int .i64 (pos c.L s.1)) (.slice none 0 0) := NB.keep (by exact NB.drew n_5) hg6 (by omega); have cc_6 : NB w6 (w4.heap.size) (.int .i64 k4) (.string ⟨n4.toArray⟩) (.int .i64 m4) (.int .i64 q4) (.slice ad4 l4.length cp4) := NB.keep (by exact NB.drew cc_5) hg6 (by omega); have x_6 : LR w6 (In (b4) (w4.heap.size)) (l4) (.slice ad4 l4.length cp4) := LR.call (by exact LR.drew x_5) hg6 (by omega); have r_lt6 := r_6.lt; have n_lt6 := n_6.lt; have cc_lt6 := cc_6.lt; obtain ⟨_,_,_,_,_,_,_,_,_,_,_⟩ := id r_6; obtain ⟨_,_,_,_,_,_⟩ := id n_6
       obtain ⟨_,_,_,_,_,_⟩ := id cc_6))
  all_goals
    go_wp2; refine node_ret Tryz.results46 rfl (NB.alloc (RB.five ?_) _) rfl ?_
    · exact RB.put r_6 _ _ _
    refine QSt.ok (a := (T.mk 18 [] 0 (pos c.L s.1) [(T.mk k4 n4 m4 q4 l4), (T.mk k6 n6 m6 q6 l6)])) (HR6) ⟨_, rfl, ?_⟩ ?_ ?_ (by omega)
    · refine LR.wide (lo := b4) (hi := w6.heap.size + 1) (ts := [(T.mk k4 n4 m4 q4 l4), (T.mk k6 n6 m6 q6 l6)]) ?_ (by omega) (by first | omega | (simp <;> omega))
      exact (LR.build2 _ (t := (T.mk k4 n4 m4 q4 l4)) (t2 := (T.mk k6 n6 m6 q6 l6)) (sv := .slice ad4 l4.length cp4) (sv2 := .slice ad6 l6.length cp6) (LR.wide (lo := b4) (hi := w4.heap.size) (ts := l4) (by exact LR.p5 (LR.put x_6 (by omega) _ _) (by omega)) (by omega) (by first | omega | (simp <;> omega))) (LR.wide (lo := b6) (hi := w6.heap.size) (ts := l6) (by exact LR.p5 (LR.put lr6 (by omega) _ _) (by omega)) (by omega) (by first | omega | (simp <;> omega))) (by simp) rfl (by omega))
    · exact gb_alloc (gb_p5 (gb_put G6 (by omega) _ _) (by omega)) _
    · exact RS.alloc (RS.p5 (RS.put p6 HL.out (by omega) _ _) HL.out (by omega)) _

set_option maxRecDepth 100000 in
set_option maxHeartbeats 2000000 in
theorem rstmt_return (c : RC) (w : World) (s : QS) (d : Nat) (E A : Q T) (h : RS c w s d) (hok : s.2 = none) (hE : QOK c d 68 E) (_hA : QOK c d 32 A) (hw : wd c.L s.1 = kRETURN) :
    Calls Tryz.prog 46 #[.pointer (some ⟨c.rb, 0, none⟩)] w (QSt c w s d (fun w' t v => TR w' w.heap.size w'.heap.size t v) (returnQ c.L E s)) := by
  have HP := hide h; have HL := hide h.low; have hb := h.lt; have hfew := h.good.few; clear h
  have hcIF : (wd c.L s.1 == [73, 70]) = false := by rw [hw]; decide
  have hcWHILE : (wd c.L s.1 == [87, 72, 73, 76, 69]) = false := by rw [hw]; decide
  have hcREPEAT : (wd c.L s.1 == [82, 69, 80, 69, 65, 84]) = false := by rw [hw]; decide
  have hcRETURN : (wd c.L s.1 == [82, 69, 84, 85, 82, 78]) = true := by rw [hw]; decide
  have hne : wd c.L s.1 ≠ [] := by rw [hw]; decide
  go_enter Tryz.func46, Tryz.ntmps46
  go_wp2_with fail; go_at_call 26; refine (rat_any c _ s d (by exact RS.alloc HP.out _)).mono ?_; rintro e w1 ⟨rfl, hg1⟩; have p1 : RS c w1 s d := RS.grown (by exact RS.alloc HP.out _) hg1; have G1 : w.grownBy w1 (some c.rb) := gb_trans (by exact gb_alloc (gb_refl w (some c.rb)) _) (gb_some hg1 (some c.rb)); have sz1 := hg1.size
  try simp at sz1
  have r_1 : RB w1 (w.heap.size) := RB.kept (RB.new' (by simp)) hg1 (by simp); have r_lt1 := r_1.lt; obtain ⟨_,_,_,_,_,_,_,_,_,_,_⟩ := id r_1; go_wp2_with fail; go_at_call 13; refine (rword_any c _ s d (by exact RS.alloc p1 _)).mono ?_; rintro e w2 ⟨rfl, hg2⟩; have p2 : RS c w2 s d := RS.grown (by exact RS.alloc p1 _) hg2; have G2 : w.grownBy w2 (some c.rb) := gb_trans (by exact gb_alloc G1 _) (gb_some hg2 (some c.rb)); have sz2 := hg2.size
  try simp at sz2
  have r_2 : RB w2 (w.heap.size) := RB.kept (by exact RB.alloc r_1 _) hg2 (by simp); have n_2 : NB w2 (w1.heap.size) (.int .i64 0) (.string ⟨#[]⟩) (.int .i64 0) (.int .i64 (pos c.L s.1)) (.slice none 0 0) := NB.kept (NB.new' (by simp)) hg2 (by simp); have r_lt2 := r_2.lt; have n_lt2 := n_2.lt; obtain ⟨_,_,_,_,_,_,_,_,_,_,_⟩ := id r_2; obtain ⟨_,_,_,_,_,_⟩ := id n_2
  have HRx1 : returnQ c.L E s = (((needQ c.L kRETURN).bind fun _ s9 => if nothingB (wd c.L s9.1) = true then (T.mk 19 [] 0 (pos c.L s.1) [], s9) else E.bind (fun e => Q.ret (.mk 19 [] 0 (pos c.L s.1) [e])) s9) s) := rfl
  have pc1 := p2.c1; have pz := p2.z; have pl := p2.lt; have pil := p2.il; go_wp2_with fail; obtain ⟨w3, hw3⟩ : ∃ x : World, x = (w2.setCell ⟨w1.heap.size, 0, none⟩ (.int .i64 19)).setCell ⟨c.rb, 1, none⟩ (.int .i64 ((s.1 : Int) + 1)) := ⟨_, rfl⟩; rw [← hw3]
  have p3 : RS c w3 (s.1 + 1, none) d := by rw [hw3]; exact RS.next (by exact RS.put p2 HL.out (by omega) _ _) hok hne _ rfl
  have G3 : w.grownBy w3 (some c.rb) := by rw [hw3]; exact gb_set (gb_put G2 (by omega) _ _) _ _
  have sz3 : w2.heap.size ≤ w3.heap.size := by rw [hw3]; simp [World.setCell]
  have sy3 : w3.heap.size ≤ w2.heap.size := by rw [hw3]; simp [World.setCell]
  have r_3 : RB w3 (w.heap.size) := by rw [hw3]; exact RB.put (RB.put r_2 _ _ _) _ _ _
  have n_3 : NB w3 (w1.heap.size) (.int .i64 19) (.string ⟨#[]⟩) (.int .i64 0) (.int .i64 (pos c.L s.1)) (.slice none 0 0) := by rw [hw3]; exact NB.far (NB.s0 n_2 _) (by omega) _ _
  clear hw3; have r_lt3 := r_3.lt; have n_lt3 := n_3.lt; obtain ⟨_,_,_,_,_,_,_,_,_,_,_⟩ := id r_3; obtain ⟨_,_,_,_,_,_⟩ := id n_3; have HRx2 : returnQ c.L E s = _ := HRx1.trans (Q.bind_eq (needQ_yes hok hw)); go_at_call 13; refine (rword_any c _ (s.1 + 1, none) d p3).mono ?_; rintro e w4 ⟨rfl, hg4⟩; have p4 : RS c w4 (s.1 + 1, none) d := RS.grown p3 hg4; have G4 : w.grownBy w4 (some c.rb) := gb_trans G3 (gb_some hg4 (some c.rb)); have sz4 := hg4.size
  try simp at sz4
  have r_4 : RB w4 (w.heap.size) := RB.kept r_3 hg4 (by simp); have n_4 : NB w4 (w1.heap.size) (.int .i64 19) (.string ⟨#[]⟩) (.int .i64 0) (.int .i64 (pos c.L s.1)) (.slice none 0 0) := NB.kept n_3 hg4 (by simp); have r_lt4 := r_4.lt; have n_lt4 := n_4.lt; obtain ⟨_,_,_,_,_,_,_,_,_,_,_⟩ := id r_4; obtain ⟨_,_,_,_,_,_⟩ := id n_4
  by_cases hse : wd c.L (s.1 + 1) = s_semi
  · have hwb : (wd c.L (s.1 + 1) == [59]) = true := by rw [hse]; decide
    have hnt : nothingB (wd c.L (s.1 + 1)) = true := by rw [hse]; decide
    have HRx3 : returnQ c.L E s = _ := HRx2.trans (if_pos hnt); go_wp2; refine node_ret Tryz.results46 rfl (RB.five ?_) rfl ?_
    · exact r_4
    refine QSt.ok (a := (T.mk 19 [] 0 (pos c.L s.1) [])) (HRx3) ⟨_, rfl, ?_⟩ ?_ ?_ (by omega)
    · exact LR.nil _ _
    · exact gb_p5 G4 (by omega)
    · exact RS.p5 p4 HL.out (by omega)
  have hwb : (wd c.L (s.1 + 1) == [59]) = false := by simpa [s_semi] using hse
  go_wp2_with fail; go_at_call 13; refine (rword_any c _ (s.1 + 1, none) d p4).mono ?_; rintro e w5 ⟨rfl, hg5⟩; have p5 : RS c w5 (s.1 + 1, none) d := RS.grown p4 hg5; have G5 : w.grownBy w5 (some c.rb) := gb_trans G4 (gb_some hg5 (some c.rb)); have sz5 := hg5.size
  try simp at sz5
  have r_5 : RB w5 (w.heap.size) := RB.kept r_4 hg5 (by simp); have n_5 : NB w5 (w1.heap.size) (.int .i64 19) (.string ⟨#[]⟩) (.int .i64 0) (.int .i64 (pos c.L s.1)) (.slice none 0 0) := NB.kept n_4 hg5 (by simp); have r_lt5 := r_5.lt; have n_lt5 := n_5.lt; obtain ⟨_,_,_,_,_,_,_,_,_,_,_⟩ := id r_5; obtain ⟨_,_,_,_,_,_⟩ := id n_5; go_wp2_with fail; go_at_call 45; refine (rbehind_any (wd c.L (s.1 + 1)) _).mono ?_; rintro e9 _ ⟨rfl, rfl⟩; cases hbh : behindB (wd c.L (s.1 + 1))
  · have hnt : nothingB (wd c.L (s.1 + 1)) = false := by rw [nothingB_eq, hbh]; simpa using hse
    have HRx4 : returnQ c.L E s = _ := HRx2.trans (if_neg (by rw [hnt]; decide)); go_wp2_with fail; go_at_call 68; refine (hE _ (s.1 + 1, none) p5).mono ?_; rintro e w6 ⟨⟨k6, n6, m6, q6, l6⟩, s6, v6, hr6, rfl, ⟨sv6, rfl, lr6⟩, hg6, p6, hi6⟩; have HR6 : returnQ c.L E s = _ := HRx4.trans (Q.bind_eq hr6); simp only [T.kind, T.name, T.num, T.at', T.subs] at lr6 ⊢; obtain ⟨ad6, cp6, rfl⟩ := lr6.form; obtain ⟨b6, hb6, lr6⟩ : ∃ b, b = _ ∧ LR w6 (In b w6.heap.size) l6 (.slice ad6 l6.length cp6) := ⟨_, rfl, lr6⟩
    try simp at hb6
    have G6 : w.grownBy w6 (some c.rb) := gb_trans G5 hg6; have sz6 := hg6.size
    try simp at sz6
    have r_6 : RB w6 (w.heap.size) := RB.keep r_5 hg6 (by omega); have n_6 : NB w6 (w1.heap.size) (.int .i64 19) (.string ⟨#[]⟩) (.int .i64 0) (.int .i64 (pos c.L s.1)) (.slice none 0 0) := NB.keep n_5 hg6 (by omega); have r_lt6 := r_6.lt; have n_lt6 := n_6.lt; obtain ⟨_,_,_,_,_,_,_,_,_,_,_⟩ := id r_6; obtain ⟨_,_,_,_,_,_⟩ := id n_6; go_wp2; refine node_ret Tryz.results46 rfl (NB.alloc (RB.five ?_) _) rfl ?_
    · exact RB.put r_6 _ _ _
    refine QSt.ok (a := (T.mk 19 [] 0 (pos c.L s.1) [(T.mk k6 n6 m6 q6 l6)])) (HR6) ⟨_, rfl, ?_⟩ ?_ ?_ (by omega)
    · refine LR.wide (lo := b6) (hi := w6.heap.size + 1) (ts := [(T.mk k6 n6 m6 q6 l6)]) ?_ (by omega) (by first | omega | (simp <;> omega))
      exact (LR.build1 _ (t := (T.mk k6 n6 m6 q6 l6)) (sv := .slice ad6 l6.length cp6) (LR.wide (lo := b6) (hi := w6.heap.size) (ts := l6) (by exact LR.p5 (LR.put lr6 (by omega) _ _) (by omega)) (by omega) (by first | omega | (simp <;> omega))) (by simp) rfl (by omega))
    · exact gb_alloc (gb_p5 (gb_put G6 (by omega) _ _) (by omega)) _
    · exact RS.alloc (RS.p5 (RS.put p6 HL.out (by omega) _ _) HL.out (by omega)) _
  · have hnt : nothingB (wd c.L (s.1 + 1)) = true := by rw [nothingB_eq, hbh]; simp
    have HRx5 : returnQ c.L E s = _ := HRx2.trans (if_pos hnt); go_wp2; refine node_ret Tryz.results46 rfl (RB.five ?_) rfl ?_
    · exact r_5
    refine QSt.ok (a := (T.mk 19 [] 0 (pos c.L s.1) [])) (HRx5) ⟨_, rfl, ?_⟩ ?_ ?_ (by omega)
    · exact LR.nil _ _
    · exact gb_p5 G5 (by omega)
    · exact RS.p5 p5 HL.out (by omega)
end Go.Proofs.YtbphiiaoncakfaaGreatDoor
