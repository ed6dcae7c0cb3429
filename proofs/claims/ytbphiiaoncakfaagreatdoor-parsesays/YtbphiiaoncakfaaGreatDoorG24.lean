/- The document's reader: sections of declarations. -/
import Derived.Test.YtbphiiaoncakfaaGreatDoorG11
namespace Go.Proofs.YtbphiiaoncakfaaGreatDoor
open Go.RowKit

theorem declLoopQ_no {L : List Tok} {p : Q T} {f : Nat} {acc : List T} {s : QS} (h : ¬ (s.2 = none ∧ nameB (wd L s.1) = true)) (hf : s.2 = none → 0 < f) : declLoopQ L p f acc s = (acc, s) := by
  cases f with
  | zero =>
    rw [declLoopQ]; obtain ⟨i, b⟩ := s; cases b with
    | none => exact absurd (hf rfl) (by omega)
    | some x => rfl
  | succ f => rw [declLoopQ]; exact if_neg h
theorem declLoopQ_yes {L : List Tok} {p : Q T} {f : Nat} {acc : List T} {s : QS} (h : s.2 = none) (h2 : nameB (wd L s.1) = true) (hf : 0 < f) : declLoopQ L p f acc s = (p.bind fun t => (needQ L s_semi).bind fun _ => declLoopQ L p (f - 1) (acc ++ [t])) s := by
  obtain ⟨f', rfl⟩ : ∃ f', f = f' + 1 := ⟨f - 1, by omega⟩; rw [declLoopQ]
  exact if_pos ⟨h, h2⟩

set_option maxRecDepth 100000 in
set_option maxHeartbeats 4000000 in
theorem rpart_any (c : RC) (w : World) (s : QS) (d : Nat) (k : List UInt8) (sb : ByteArray) (hsb : sb.data.toList = k) (hk : k ≠ []) (kd : Int) (q : Q T) (h : RS c w s d) (hq : ∀ (w : World) (s : QS), RS c w s d → Calls Tryz.prog 42 #[.pointer (some ⟨c.rb, 0, none⟩), .int .i64 kd] w (QSt c w s d (fun w' t v => TR w' w.heap.size w'.heap.size t v) (q s))) :
    Calls Tryz.prog 30 #[.pointer (some ⟨c.rb, 0, none⟩), .string sb, .int .i64 kd] w (QSt c w s d (fun w' t v => TR w' w.heap.size w'.heap.size t v) (sectionQ c.L k q s)) := by
  have HP := hide h; have HL := hide h.low; have hb := h.lt; have hfew := h.good.few; have HSH := hide h.good.short; clear h
  go_enter Tryz.func30, Tryz.ntmps30
  go_wp2_with fail; go_at_call 26; refine (rat_any c _ s d (by exact RS.alloc HP.out _)).mono ?_; rintro e w1 ⟨rfl, hg1⟩; have p1 : RS c w1 s d := RS.grown (by exact RS.alloc HP.out _) hg1; have G1 : w.grownBy w1 (some c.rb) := gb_trans (by exact gb_alloc (gb_refl w (some c.rb)) _) (gb_some hg1 (some c.rb)); have sz1 := hg1.size
  try simp at sz1
  have r_1 : RB w1 (w.heap.size) := RB.kept (RB.new' (by simp)) hg1 (by simp); have r_lt1 := r_1.lt; obtain ⟨_,_,_,_,_,_,_,_,_,_,_⟩ := id r_1
  have HRx1 : sectionQ c.L k q s = (((isQ c.L k).bind (fun b => if b = true then (declLoopQ c.L q (c.L.length + 1) []).bind fun l => Q.ret (.mk 1 [] 0 (pos c.L s.1) l) else Q.ret (.mk 1 [] 0 (pos c.L s.1) []))) s) := rfl
  go_wp2_with fail; go_at_call 29; refine (ris_any c _ s d k _ hsb hk (by exact RS.alloc p1 _)).mono ?_; rintro e w2 ⟨a2, s2, v2, hr2, rfl, rfl, hg2, p2, hi2⟩; have HR2 : sectionQ c.L k q s = _ := HRx1.trans (Q.bind_eq hr2); have G2 : w.grownBy w2 (some c.rb) := gb_trans (by exact gb_alloc G1 _) hg2; have sz2 := hg2.size
  try simp at sz2
  have r_2 : RB w2 (w.heap.size) := RB.keep (by exact RB.alloc r_1 _) hg2 (by omega); have n_2 : NB w2 (w1.heap.size) (.int .i64 1) (.string ⟨#[]⟩) (.int .i64 0) (.int .i64 (pos c.L s.1)) (.slice none 0 0) := NB.keep (NB.new' (by simp)) hg2 (by omega); have r_lt2 := r_2.lt; have n_lt2 := n_2.lt; obtain ⟨_,_,_,_,_,_,_,_,_,_,_⟩ := id r_2; obtain ⟨_,_,_,_,_,_⟩ := id n_2; cases a2
  · rw [if_neg (by decide)] at HR2
    go_wp2; refine node_ret Tryz.results30 rfl (RB.five ?_) rfl ?_
    · exact r_2
    refine QSt.ok (a := (T.mk 1 [] 0 (pos c.L s.1) [])) (HR2) ⟨_, rfl, ?_⟩ ?_ ?_ (by omega)
    · exact LR.nil _ _
    · exact gb_p5 G2 (by omega)
    · exact RS.p5 p2 HL.out (by omega)
  · rw [if_pos rfl] at HR2
    go_wp2_with fail
    go_loopw [] (fun wr => ∃ (acc : List T) (v : Value) (s9 : QS) (f lo : Nat), NB wr (w1.heap.size) (.int .i64 1) (.string ⟨#[]⟩) (.int .i64 0) (.int .i64 (pos c.L s.1)) v ∧ RB wr (w.heap.size) ∧ w2.heap.size + 0 ≤ lo ∧ Hid (SQ c w s2 d (declLoopQ c.L q (c.L.length + 1) [] s2) (declLoopQ c.L q) v wr acc s9 f lo)) (fun wr => leftOf wr c.rb c.L.length)
    case atStart =>
      refine ⟨[], .slice none 0 0, s2, c.L.length + 1, w2.heap.size + 0, n_2, r_2, Nat.le_refl _, SQ.mk ?_ p2 G2 rfl (fun _ => by omega) (by simp) (by first | exact Nat.le_refl _ | omega) (by omega) (by simp)⟩
      exact LR.nil _ _
    case round =>
      obtain ⟨w10, hw10⟩ : ∃ x, x = wr := ⟨_, rfl⟩; subst hw10; obtain ⟨acc, v, s10, f, lo, n_10, r_10, hlo3, HS⟩ := hrel; have z_10 := HS.out.lr; have p10 := HS.out.ps; have G10 := HS.out.gb; have SM := HS.out.same; have hfu := HS.out.fuel; have hlen := HS.out.len; have hij := HS.out.le; have hlo := HS.out.low; have hlo2 := HS.out.low2; have hjl := HS.out.ps.il; obtain ⟨ad, cp, rfl⟩ := z_10.form; have HPS := hide p10; clear HS; have r_lt10 := r_10.lt; have n_lt10 := n_10.lt; obtain ⟨_,_,_,_,_,_,_,_,_,_,_⟩ := id r_10; obtain ⟨_,_,_,_,_,_⟩ := id n_10; go_wp2_with fail; go_at_call 12; refine (rok_any c _ s10 d p10).mono ?_; rintro e w11 ⟨rfl, hg11⟩; have p11 : RS c w11 s10 d := RS.grown p10 hg11; have G11 : w.grownBy w11 (some c.rb) := gb_trans G10 (gb_some hg11 (some c.rb)); have sz11 := hg11.size
      try simp at sz11
      have r_11 : RB w11 (w.heap.size) := RB.kept r_10 hg11 (by simp); have n_11 : NB w11 (w1.heap.size) (.int .i64 1) (.string ⟨#[]⟩) (.int .i64 0) (.int .i64 (pos c.L s.1)) (.slice ad acc.length cp) := NB.kept n_10 hg11 (by simp); have z_11 : LR w11 (In (lo) (w10.heap.size)) (acc) (.slice ad acc.length cp) := LR.grown z_10 hg11; have r_lt11 := r_11.lt; have n_lt11 := n_11.lt; obtain ⟨_,_,_,_,_,_,_,_,_,_,_⟩ := id r_11; obtain ⟨_,_,_,_,_,_⟩ := id n_11
      by_cases hok : s10.2 = none
      · have hokb : decide (s10.2 = none) = true := decide_eq_true hok
        try simp only [hokb]
        go_wp2_with fail; go_at_call 13; refine (rword_any c _ s10 d p11).mono ?_; rintro e w12 ⟨rfl, hg12⟩; have p12 : RS c w12 s10 d := RS.grown p11 hg12; have G12 : w.grownBy w12 (some c.rb) := gb_trans G11 (gb_some hg12 (some c.rb)); have sz12 := hg12.size
        try simp at sz12
        have r_12 : RB w12 (w.heap.size) := RB.kept r_11 hg12 (by simp); have n_12 : NB w12 (w1.heap.size) (.int .i64 1) (.string ⟨#[]⟩) (.int .i64 0) (.int .i64 (pos c.L s.1)) (.slice ad acc.length cp) := NB.kept n_11 hg12 (by simp); have z_12 : LR w12 (In (lo) (w10.heap.size)) (acc) (.slice ad acc.length cp) := LR.grown z_11 hg12; have r_lt12 := r_12.lt; have n_lt12 := n_12.lt; obtain ⟨_,_,_,_,_,_,_,_,_,_,_⟩ := id r_12; obtain ⟨_,_,_,_,_,_⟩ := id n_12; go_wp2_with fail; go_at_call 41; refine (nameRef_any ⟨(wd c.L s10.1).toArray⟩ c.ka c.kc _ (by have := HSH.out s10.1; unfold maxLen; simp [ByteArray.size]; omega) (show RS c _ s10 d from p12).kp).mono ?_; rintro e _ ⟨rfl, rfl⟩; cases hnm : nameB (wd c.L s10.1)
        · have HRn : sectionQ c.L k q s = _ := HR2.trans (Q.bind_eq (SM.trans (declLoopQ_no (fun h => by rw [hnm] at h; cases h.2) (fun h => by have := hfu h; omega))))
          go_wp2; refine node_ret Tryz.results30 rfl (RB.five ?_) rfl ?_
          · exact r_12
          refine QSt.ok (a := (T.mk 1 [] 0 (pos c.L s.1) acc)) (HRn) ⟨_, rfl, ?_⟩ ?_ ?_ (by omega)
          · refine LR.wide (lo := lo) (hi := w10.heap.size) (ts := acc) ?_ (by omega) (by first | omega | (simp <;> omega))
            exact LR.p5 z_12 (by omega)
          · exact gb_p5 G12 (by omega)
          · exact RS.p5 p12 HL.out (by omega)
        · have SMy := SM.trans (declLoopQ_yes hok hnm (by have := hfu hok; omega))
          go_wp2_with fail
          go_region_law (first
            | (go_simp
               go_at_call 42; refine (hq _ s10 (by exact RS.drew p12)).mono ?_; rintro e w13 ⟨⟨k13, n13, m13, q13, l13⟩, s13, v13, hr13, rfl, ⟨sv13, rfl, lr13⟩, hg13, p13, hi13⟩; simp only [T.kind, T.name, T.num, T.at', T.subs] at lr13 ⊢; obtain ⟨ad13, cp13, rfl⟩ := lr13.form; obtain ⟨b13, hb13, lr13⟩ : ∃ b, b = _ ∧ LR w13 (In b w13.heap.size) l13 (.slice ad13 l13.length cp13) := ⟨_, rfl, lr13⟩
               try simp at hb13
               have G13 : w.grownBy w13 (some c.rb) := gb_trans (by exact gb_drew G12) hg13; have sz13 := hg13.size
               try simp at sz13
               have r_13 : RB w13 (w.heap.size) := RB.keep (by exact RB.drew r_12) hg13 (by omega); have n_13 : NB w13 (w1.heap.size) (.int .i64 1) (.string ⟨#[]⟩) (.int .i64 0) (.int .i64 (pos c.L s.1)) (.slice ad acc.length cp) := NB.keep (by exact NB.drew n_12) hg13 (by omega); have z_13 : LR w13 (In (lo) (w10.heap.size)) (acc) (.slice ad acc.length cp) := LR.call (by exact LR.drew z_12) hg13 (by omega); have r_lt13 := r_13.lt; have n_lt13 := n_13.lt; obtain ⟨_,_,_,_,_,_,_,_,_,_,_⟩ := id r_13
               obtain ⟨_,_,_,_,_,_⟩ := id n_13)
            | (have hrow14 := z_13.rows
               refine step_appS (v := .slice ad acc.length cp) rfl _ _ rfl (In (lo) (w13.heap.size + 2)) rfl rfl (LR.alloc z_13 _) (LR.build1 w13 (cs := #[.int .i64 k13, .string ⟨n13.toArray⟩, .int .i64 m13, .int .i64 q13, .slice ad13 l13.length cp13]) (t := (T.mk k13 n13 m13 q13 l13)) (sv := .slice ad13 l13.length cp13) lr13 rfl rfl (by omega))
                 (fun k hk e => by have h1 := hrow14 k e; have h2 : b13 ≤ k := hk.1; omega) (fun k hk => ⟨hk.1, by have h : k < w10.heap.size := hk.2; omega⟩) (fun k hk => ⟨by have h : b13 ≤ k := hk.1; omega, by have h : k < w13.heap.size + 1 := hk.2; omega⟩) ⟨by simp; omega, by simp⟩ (by simp; try omega) ?_
               intro v14 w14 lr14 hg14; obtain ⟨ad14, cp14, e14⟩ := lr14.form; rw [List.length_append, List.length_singleton] at e14; have e14 : v14 = .slice ad14 (acc.length + 1) cp14 := e14; subst e14; have sz14 := hg14.size
               try simp at sz14
               have r_14 : RB w14 (w.heap.size) := RB.kept (RB.alloc r_13 _) hg14 (fun e => by have := hrow14 _ e.symm; omega); have n_14 : NB w14 (w1.heap.size) (.int .i64 1) (.string ⟨#[]⟩) (.int .i64 0) (.int .i64 (pos c.L s.1)) (.slice ad acc.length cp) := NB.kept (NB.alloc n_13 _) hg14 (fun e => by have := hrow14 _ e.symm; omega); have p14 : RS c w14 s13 d := RS.own (RS.alloc p13 _) HL.out hg14 (fun b hb => by have := hrow14 b hb; omega); have G14 : w.grownBy w14 (some c.rb) := gb_own (gb_alloc G13 _) hg14 (fun b hb => by have := hrow14 b hb; omega); have r_lt14 := r_14.lt; have n_lt14 := n_14.lt; obtain ⟨_,_,_,_,_,_,_,_,_,_,_⟩ := id r_14
               obtain ⟨_,_,_,_,_,_⟩ := id n_14))
          all_goals
            have lz14 : LR w14 (In (lo) w14.heap.size) (acc ++ [(T.mk k13 n13 m13 q13 l13)]) (.slice ad14 (acc.length + 1) cp14) := lr14.bounded.mono (fun k hk => ⟨hk.1.1, hk.2⟩); go_wp2_with fail; go_at_call 27; refine (rneed_any c _ s13 d s_semi _ rfl (by decide) (by exact RS.put p14 HL.out (by omega) _ _)).mono ?_; rintro e w15 ⟨a15, s15, v15, hr15, rfl, -, hg15, p15, hi15⟩; have G15 : w.grownBy w15 (some c.rb) := gb_trans (by exact gb_put G14 (by omega) _ _) hg15; have sz15 := hg15.size
            try simp at sz15
            have r_15 : RB w15 (w.heap.size) := RB.keep (by exact RB.put r_14 _ _ _) hg15 (by omega); have n_15 : NB w15 (w1.heap.size) (.int .i64 1) (.string ⟨#[]⟩) (.int .i64 0) (.int .i64 (pos c.L s.1)) (.slice ad14 (acc.length + 1) cp14) := NB.keep (by exact NB.s4 n_14 _) hg15 (by omega); have z_15 : LR w15 (In (lo) (w14.heap.size)) ((acc ++ [(T.mk k13 n13 m13 q13 l13)])) (.slice ad14 (acc.length + 1) cp14) := LR.call (by exact LR.put lz14 (by omega) _ _) hg15 (by omega); have r_lt15 := r_15.lt; have n_lt15 := n_15.lt; obtain ⟨_,_,_,_,_,_,_,_,_,_,_⟩ := id r_15; obtain ⟨_,_,_,_,_,_⟩ := id n_15; go_wp2; refine ⟨⟨(acc ++ [(T.mk k13 n13 m13 q13 l13)]), .slice ad14 (acc.length + 1) cp14, s15, f - 1, lo, n_15, r_15, hlo3, SQ.mk (LR.wide z_15 (Nat.le_refl _) (by omega)) p15 G15 ((SMy.trans (Q.bind_eq hr13)).trans (Q.bind_eq hr15)) (fun h9 => by have := hfu (by first | assumption | simp_all); have := (needQ_ok hr15 h9).2.2; omega) (by have := hfu hok; simp only [List.length_append, List.length_singleton]; omega) (by omega) hlo (by omega)⟩, ?_⟩
            exact HPS.out.left_less p15 hok (fun h9 => by have := (needQ_ok hr15 h9).2.2; omega) hjl
      have hokb : decide (s10.2 = none) = false := decide_eq_false hok
      try simp only [hokb]
      have HRn : sectionQ c.L k q s = _ := HR2.trans (Q.bind_eq (SM.trans (declLoopQ_no (fun h => hok h.1) (fun h => absurd h hok)))); go_wp2; refine node_ret Tryz.results30 rfl (RB.five ?_) rfl ?_
      · exact r_11
      refine QSt.ok (a := (T.mk 1 [] 0 (pos c.L s.1) acc)) (HRn) ⟨_, rfl, ?_⟩ ?_ ?_ (by omega)
      · refine LR.wide (lo := lo) (hi := w10.heap.size) (ts := acc) ?_ (by omega) (by first | omega | (simp <;> omega))
        exact LR.p5 z_11 (by omega)
      · exact gb_p5 G11 (by omega)
      · exact RS.p5 p11 HL.out (by omega)
end Go.Proofs.YtbphiiaoncakfaaGreatDoor

/- The document's reader: types. -/
namespace Go.Proofs.YtbphiiaoncakfaaGreatDoor
open Go.RowKit

theorem baseQ_bind {α : Type} (L : List Tok) (k : T → Q α) (s : QS) : (baseQ L).bind k s = ((isQ L s_lp).bind fun b => if b = true then (typeNameQ L).bind fun y => (needQ L s_rp).bind fun _ => k y else k (.mk 0 [] 0 (pos L s.1) [])) s := by
  show Q.bind (Q.bind (isQ L s_lp) (fun b => if b = true then (typeNameQ L).bind fun y => (needQ L s_rp).bind fun _ => Q.ret y else Q.ret (T.mk 0 [] 0 (pos L s.1) []))) k s = _
  rw [Q.bind_bind]; cases hb : isQ L s_lp s with
  | mk b s1 =>
    rw [Q.bind_eq hb, Q.bind_eq hb]
    cases b <;> rfl
theorem recLoopQ_bad {L : List Tok} {f : Nat} {acc : List T} {s : QS} (h : ¬ s.2 = none) : recLoopQ L f acc s = (acc, s) := by
  cases f with
  | zero =>
    rw [recLoopQ]; obtain ⟨i, b⟩ := s; cases b with
    | none => exact absurd rfl h
    | some x => rfl
  | succ f => rw [recLoopQ]; exact if_neg h
theorem recLoopQ_on {L : List Tok} {f : Nat} {acc : List T} {s : QS} (h : s.2 = none) (hf : 0 < f) : recLoopQ L f acc s = ((isQ L kEND).bind fun b => if b = true then Q.ret acc else (fieldQ L).bind fun t => (needQ L s_semi).bind fun _ => recLoopQ L (f - 1) (acc ++ [t])) s := by
  obtain ⟨f', rfl⟩ : ∃ f', f = f' + 1 := ⟨f - 1, by omega⟩; rw [recLoopQ]
  exact if_pos h

set_option maxRecDepth 100000 in
set_option maxHeartbeats 4000000 in
theorem rkind_any (c : RC) (w : World) (s : QS) (d : Nat) (h : RS c w s d) :
    Calls Tryz.prog 69 #[.pointer (some ⟨c.rb, 0, none⟩)] w (QSt c w s d (fun w' t v => TR w' w.heap.size w'.heap.size t v) (kindQ c.L s)) := by
  have HP := hide h; have HL := hide h.low; have hb := h.lt; have hfew := h.good.few; clear h
  go_enter Tryz.func69, Tryz.ntmps69
  go_wp2_with fail; go_at_call 26; refine (rat_any c _ s d (by exact RS.alloc HP.out _)).mono ?_; rintro e w1 ⟨rfl, hg1⟩; have p1 : RS c w1 s d := RS.grown (by exact RS.alloc HP.out _) hg1; have G1 : w.grownBy w1 (some c.rb) := gb_trans (by exact gb_alloc (gb_refl w (some c.rb)) _) (gb_some hg1 (some c.rb)); have sz1 := hg1.size
  try simp at sz1
  have r_1 : RB w1 (w.heap.size) := RB.kept (RB.new' (by simp)) hg1 (by simp); have r_lt1 := r_1.lt; obtain ⟨_,_,_,_,_,_,_,_,_,_,_⟩ := id r_1
  have HRx1 : kindQ c.L s = (((isQ c.L kARRAY).bind fun b => if b = true then (valueQ c.L).bind fun n => (needQ c.L kOF).bind fun _ => (typeNameQ c.L).bind fun y => Q.ret (.mk 9 [] n (pos c.L s.1) [y]) else (isQ c.L kPOINTER).bind fun b => if b = true then (needQ c.L kTO).bind fun _ => (typeNameQ c.L).bind fun y => Q.ret (.mk 12 [] 0 (pos c.L s.1) [y]) else (needQ c.L kRECORD).bind fun _ => (baseQ c.L).bind fun y => (recLoopQ c.L (c.L.length + 1) [y]).bind fun l => Q.ret (.mk 10 [] 0 (pos c.L s.1) l)) s) := rfl
  go_wp2_with fail; go_at_call 29; refine (ris_any c _ s d kARRAY _ rfl (by decide) (by exact RS.alloc p1 _)).mono ?_; rintro e w2 ⟨a2, s2, v2, hr2, rfl, rfl, hg2, p2, hi2⟩; have HR2 : kindQ c.L s = _ := HRx1.trans (Q.bind_eq hr2); have G2 : w.grownBy w2 (some c.rb) := gb_trans (by exact gb_alloc G1 _) hg2; have sz2 := hg2.size
  try simp at sz2
  have r_2 : RB w2 (w.heap.size) := RB.keep (by exact RB.alloc r_1 _) hg2 (by omega); have n_2 : NB w2 (w1.heap.size) (.int .i64 0) (.string ⟨#[]⟩) (.int .i64 0) (.int .i64 (pos c.L s.1)) (.slice none 0 0) := NB.keep (NB.new' (by simp)) hg2 (by omega); have r_lt2 := r_2.lt; have n_lt2 := n_2.lt; obtain ⟨_,_,_,_,_,_,_,_,_,_,_⟩ := id r_2; obtain ⟨_,_,_,_,_,_⟩ := id n_2; cases a2
  · rw [if_neg (by decide)] at HR2
    go_wp2_with fail; go_at_call 29; refine (ris_any c _ s2 d kPOINTER _ rfl (by decide) p2).mono ?_; rintro e w3 ⟨a3, s3, v3, hr3, rfl, rfl, hg3, p3, hi3⟩; have HR3 : kindQ c.L s = _ := HR2.trans (Q.bind_eq hr3); have G3 : w.grownBy w3 (some c.rb) := gb_trans G2 hg3; have sz3 := hg3.size
    try simp at sz3
    have r_3 : RB w3 (w.heap.size) := RB.keep r_2 hg3 (by omega); have n_3 : NB w3 (w1.heap.size) (.int .i64 0) (.string ⟨#[]⟩) (.int .i64 0) (.int .i64 (pos c.L s.1)) (.slice none 0 0) := NB.keep n_2 hg3 (by omega); have r_lt3 := r_3.lt; have n_lt3 := n_3.lt; obtain ⟨_,_,_,_,_,_,_,_,_,_,_⟩ := id r_3; obtain ⟨_,_,_,_,_,_⟩ := id n_3; cases a3
    · rw [if_neg (by decide)] at HR3
      go_wp2_with fail; go_at_call 27; refine (rneed_any c _ s3 d kRECORD _ rfl (by decide) (by exact RS.put p3 HL.out (by omega) _ _)).mono ?_; rintro e w4 ⟨a4, s4, v4, hr4, rfl, -, hg4, p4, hi4⟩; have HR4 : kindQ c.L s = _ := HR3.trans (Q.bind_eq hr4); have G4 : w.grownBy w4 (some c.rb) := gb_trans (by exact gb_put G3 (by omega) _ _) hg4; have sz4 := hg4.size
      try simp at sz4
      have r_4 : RB w4 (w.heap.size) := RB.keep (by exact RB.put r_3 _ _ _) hg4 (by omega); have n_4 : NB w4 (w1.heap.size) (.int .i64 10) (.string ⟨#[]⟩) (.int .i64 0) (.int .i64 (pos c.L s.1)) (.slice none 0 0) := NB.keep (by exact NB.s0 n_3 _) hg4 (by omega); have r_lt4 := r_4.lt; have n_lt4 := n_4.lt; obtain ⟨_,_,_,_,_,_,_,_,_,_,_⟩ := id r_4; obtain ⟨_,_,_,_,_,_⟩ := id n_4; have HRx2 : kindQ c.L s = _ := HR4.trans (baseQ_bind _ _ _); go_wp2_with fail; go_at_call 26; refine (rat_any c _ s4 d p4).mono ?_; rintro e w5 ⟨rfl, hg5⟩; have p5 : RS c w5 s4 d := RS.grown p4 hg5; have G5 : w.grownBy w5 (some c.rb) := gb_trans G4 (gb_some hg5 (some c.rb)); have sz5 := hg5.size
      try simp at sz5
      have r_5 : RB w5 (w.heap.size) := RB.kept r_4 hg5 (by simp); have n_5 : NB w5 (w1.heap.size) (.int .i64 10) (.string ⟨#[]⟩) (.int .i64 0) (.int .i64 (pos c.L s.1)) (.slice none 0 0) := NB.kept n_4 hg5 (by simp); have r_lt5 := r_5.lt; have n_lt5 := n_5.lt; obtain ⟨_,_,_,_,_,_,_,_,_,_,_⟩ := id r_5; obtain ⟨_,_,_,_,_,_⟩ := id n_5; go_wp2_with fail; go_at_call 29; refine (ris_any c _ s4 d s_lp _ rfl (by decide) (by exact RS.alloc p5 _)).mono ?_; rintro e w6 ⟨a6, s6, v6, hr6, rfl, rfl, hg6, p6, hi6⟩; have HR6 : kindQ c.L s = _ := HRx2.trans (Q.bind_eq hr6); have G6 : w.grownBy w6 (some c.rb) := gb_trans (by exact gb_alloc G5 _) hg6; have sz6 := hg6.size
      try simp at sz6
      have r_6 : RB w6 (w.heap.size) := RB.keep (by exact RB.alloc r_5 _) hg6 (by omega); have n_6 : NB w6 (w1.heap.size) (.int .i64 10) (.string ⟨#[]⟩) (.int .i64 0) (.int .i64 (pos c.L s.1)) (.slice none 0 0) := NB.keep (by exact NB.alloc n_5 _) hg6 (by omega); have base_6 : NB w6 (w5.heap.size) (.int .i64 0) (.string ⟨#[]⟩) (.int .i64 0) (.int .i64 (pos c.L s4.1)) (.slice none 0 0) := NB.keep (NB.new' (by simp)) hg6 (by omega); have r_lt6 := r_6.lt; have n_lt6 := n_6.lt; have base_lt6 := base_6.lt; obtain ⟨_,_,_,_,_,_,_,_,_,_,_⟩ := id r_6; obtain ⟨_,_,_,_,_,_⟩ := id n_6; obtain ⟨_,_,_,_,_,_⟩ := id base_6; cases a6
      · rw [if_neg (by decide)] at HR6
        go_wp2_with fail
        go_loopw [] (fun wr => ∃ (acc : List T) (v : Value) (s9 : QS) (f lo : Nat), NB wr (w1.heap.size) (.int .i64 10) (.string ⟨#[]⟩) (.int .i64 0) (.int .i64 (pos c.L s.1)) v ∧ RB wr (w.heap.size) ∧ w6.heap.size ≤ lo ∧ Hid (SQ c w s6 d (recLoopQ c.L (c.L.length + 1) [(T.mk 0 [] 0 (pos c.L s4.1) [])] s6) (recLoopQ c.L) v wr acc s9 f lo)) (fun wr => leftOf wr c.rb c.L.length)
        case atStart =>
          refine ⟨[(T.mk 0 [] 0 (pos c.L s4.1) [])], .slice (some ⟨w6.heap.size, 0, none⟩) 1 1, s6, c.L.length + 1, w6.heap.size, (by exact NB.alloc (NB.s4 n_6 _) _), (by exact RB.alloc (RB.put r_6 _ _ _) _), Nat.le_refl _, SQ.mk ?_ (by exact RS.alloc (RS.put p6 HL.out (by omega) _ _) _) (by exact gb_alloc (gb_put G6 (by omega) _ _) _) rfl (fun _ => by omega) (by first | (simp; done) | omega | (simp; omega)) (by first | exact Nat.le_refl _ | omega) (by omega) (by first | (simp; done) | omega | (simp; omega))⟩
          exact LR.wide (lo := w6.heap.size) (hi := w6.heap.size + 1) (ts := [(T.mk 0 [] 0 (pos c.L s4.1) [])]) (LR.build1 _ (t := (T.mk 0 [] 0 (pos c.L s4.1) [])) (sv := .slice none 0 0) (LR.nil _ _) (by simp) rfl (by omega)) (Nat.le_refl _) (by first | omega | (simp <;> omega))
        case round =>
          obtain ⟨w20, hw20⟩ : ∃ x, x = wr := ⟨_, rfl⟩; subst hw20; obtain ⟨acc, v, s20, f, lo, n_20, r_20, hlo3, HS⟩ := hrel; have z_20 := HS.out.lr; have p20 := HS.out.ps; have G20 := HS.out.gb; have SM := HS.out.same; have hfu := HS.out.fuel; have hlen := HS.out.len; have hij := HS.out.le; have hlo := HS.out.low; have hlo2 := HS.out.low2; have hjl := HS.out.ps.il; obtain ⟨ad, cp, rfl⟩ := z_20.form; have HPS := hide p20; clear HS; have r_lt20 := r_20.lt; have n_lt20 := n_20.lt; obtain ⟨_,_,_,_,_,_,_,_,_,_,_⟩ := id r_20; obtain ⟨_,_,_,_,_,_⟩ := id n_20; go_wp2_with fail; go_at_call 12; refine (rok_any c _ s20 d p20).mono ?_; rintro e w21 ⟨rfl, hg21⟩; have p21 : RS c w21 s20 d := RS.grown p20 hg21; have G21 : w.grownBy w21 (some c.rb) := gb_trans G20 (gb_some hg21 (some c.rb)); have sz21 := hg21.size
          try simp at sz21
          have r_21 : RB w21 (w.heap.size) := RB.kept r_20 hg21 (by simp); have n_21 : NB w21 (w1.heap.size) (.int .i64 10) (.string ⟨#[]⟩) (.int .i64 0) (.int .i64 (pos c.L s.1)) (.slice ad acc.length cp) := NB.kept n_20 hg21 (by simp); have z_21 : LR w21 (In (lo) (w20.heap.size)) (acc) (.slice ad acc.length cp) := LR.grown z_20 hg21; have r_lt21 := r_21.lt; have n_lt21 := n_21.lt; obtain ⟨_,_,_,_,_,_,_,_,_,_,_⟩ := id r_21; obtain ⟨_,_,_,_,_,_⟩ := id n_21
          by_cases hok : s20.2 = none
          · have hokb : decide (s20.2 = none) = true := decide_eq_true hok
            try simp only [hokb]
            have SMo := SM.trans (recLoopQ_on hok (by have := hfu hok; omega)); go_wp2_with fail; go_at_call 29; refine (ris_any c _ s20 d kEND _ rfl (by decide) p21).mono ?_; rintro e w22 ⟨a22, s22, v22, hr22, rfl, rfl, hg22, p22, hi22⟩; have G22 : w.grownBy w22 (some c.rb) := gb_trans G21 hg22; have sz22 := hg22.size
            try simp at sz22
            have r_22 : RB w22 (w.heap.size) := RB.keep r_21 hg22 (by omega); have n_22 : NB w22 (w1.heap.size) (.int .i64 10) (.string ⟨#[]⟩) (.int .i64 0) (.int .i64 (pos c.L s.1)) (.slice ad acc.length cp) := NB.keep n_21 hg22 (by omega); have z_22 : LR w22 (In (lo) (w20.heap.size)) (acc) (.slice ad acc.length cp) := LR.call z_21 hg22 (by omega); have r_lt22 := r_22.lt; have n_lt22 := n_22.lt; obtain ⟨_,_,_,_,_,_,_,_,_,_,_⟩ := id r_22; obtain ⟨_,_,_,_,_,_⟩ := id n_22; cases a22
            · obtain ⟨hsx, -⟩ := isQ_false hr22
              have SMy := SMo.trans (Q.bind_eq hr22); rw [if_neg (by decide)] at SMy; go_wp2_with fail
              go_region_law (first
                | (go_simp
                   go_at_call 42; refine (rdecl_typed c _ s22 d 11 (by exact RS.drew p22) rfl rfl).mono ?_; rintro e w23 ⟨⟨k23, n23, m23, q23, l23⟩, s23, v23, hr23, rfl, ⟨sv23, rfl, lr23⟩, hg23, p23, hi23⟩; simp only [T.kind, T.name, T.num, T.at', T.subs] at lr23 ⊢; obtain ⟨ad23, cp23, rfl⟩ := lr23.form; obtain ⟨b23, hb23, lr23⟩ : ∃ b, b = _ ∧ LR w23 (In b w23.heap.size) l23 (.slice ad23 l23.length cp23) := ⟨_, rfl, lr23⟩
                   try simp at hb23
                   have G23 : w.grownBy w23 (some c.rb) := gb_trans (by exact gb_drew G22) hg23; have sz23 := hg23.size
                   try simp at sz23
                   have r_23 : RB w23 (w.heap.size) := RB.keep (by exact RB.drew r_22) hg23 (by omega); have n_23 : NB w23 (w1.heap.size) (.int .i64 10) (.string ⟨#[]⟩) (.int .i64 0) (.int .i64 (pos c.L s.1)) (.slice ad acc.length cp) := NB.keep (by exact NB.drew n_22) hg23 (by omega); have z_23 : LR w23 (In (lo) (w20.heap.size)) (acc) (.slice ad acc.length cp) := LR.call (by exact LR.drew z_22) hg23 (by omega); have r_lt23 := r_23.lt; have n_lt23 := n_23.lt; obtain ⟨_,_,_,_,_,_,_,_,_,_,_⟩ := id r_23
                   obtain ⟨_,_,_,_,_,_⟩ := id n_23)
                | (have hrow24 := z_23.rows
                   refine step_appS (v := .slice ad acc.length cp) rfl _ _ rfl (In (lo) (w23.heap.size + 2)) rfl rfl (LR.alloc z_23 _) (LR.build1 w23 (cs := #[.int .i64 k23, .string ⟨n23.toArray⟩, .int .i64 m23, .int .i64 q23, .slice ad23 l23.length cp23]) (t := (T.mk k23 n23 m23 q23 l23)) (sv := .slice ad23 l23.length cp23) lr23 rfl rfl (by omega))
                     (fun k hk e => by have h1 := hrow24 k e; have h2 : b23 ≤ k := hk.1; omega) (fun k hk => ⟨hk.1, by have h : k < w20.heap.size := hk.2; omega⟩) (fun k hk => ⟨by have h : b23 ≤ k := hk.1; omega, by have h : k < w23.heap.size + 1 := hk.2; omega⟩) ⟨by simp; omega, by simp⟩ (by simp; try omega) ?_
                   intro v24 w24 lr24 hg24; obtain ⟨ad24, cp24, e24⟩ := lr24.form; rw [List.length_append, List.length_singleton] at e24; have e24 : v24 = .slice ad24 (acc.length + 1) cp24 := e24; subst e24; have sz24 := hg24.size
                   try simp at sz24
                   have r_24 : RB w24 (w.heap.size) := RB.kept (RB.alloc r_23 _) hg24 (fun e => by have := hrow24 _ e.symm; omega); have n_24 : NB w24 (w1.heap.size) (.int .i64 10) (.string ⟨#[]⟩) (.int .i64 0) (.int .i64 (pos c.L s.1)) (.slice ad acc.length cp) := NB.kept (NB.alloc n_23 _) hg24 (fun e => by have := hrow24 _ e.symm; omega); have p24 : RS c w24 s23 d := RS.own (RS.alloc p23 _) HL.out hg24 (fun b hb => by have := hrow24 b hb; omega); have G24 : w.grownBy w24 (some c.rb) := gb_own (gb_alloc G23 _) hg24 (fun b hb => by have := hrow24 b hb; omega); have r_lt24 := r_24.lt; have n_lt24 := n_24.lt; obtain ⟨_,_,_,_,_,_,_,_,_,_,_⟩ := id r_24
                   obtain ⟨_,_,_,_,_,_⟩ := id n_24))
              all_goals
                have lz24 : LR w24 (In (lo) w24.heap.size) (acc ++ [(T.mk k23 n23 m23 q23 l23)]) (.slice ad24 (acc.length + 1) cp24) := lr24.bounded.mono (fun k hk => ⟨hk.1.1, hk.2⟩); go_wp2_with fail; go_at_call 27; refine (rneed_any c _ s23 d s_semi _ rfl (by decide) (by exact RS.put p24 HL.out (by omega) _ _)).mono ?_; rintro e w25 ⟨a25, s25, v25, hr25, rfl, -, hg25, p25, hi25⟩; have G25 : w.grownBy w25 (some c.rb) := gb_trans (by exact gb_put G24 (by omega) _ _) hg25; have sz25 := hg25.size
                try simp at sz25
                have r_25 : RB w25 (w.heap.size) := RB.keep (by exact RB.put r_24 _ _ _) hg25 (by omega); have n_25 : NB w25 (w1.heap.size) (.int .i64 10) (.string ⟨#[]⟩) (.int .i64 0) (.int .i64 (pos c.L s.1)) (.slice ad24 (acc.length + 1) cp24) := NB.keep (by exact NB.s4 n_24 _) hg25 (by omega); have z_25 : LR w25 (In (lo) (w24.heap.size)) ((acc ++ [(T.mk k23 n23 m23 q23 l23)])) (.slice ad24 (acc.length + 1) cp24) := LR.call (by exact LR.put lz24 (by omega) _ _) hg25 (by omega); have r_lt25 := r_25.lt; have n_lt25 := n_25.lt; obtain ⟨_,_,_,_,_,_,_,_,_,_,_⟩ := id r_25; obtain ⟨_,_,_,_,_,_⟩ := id n_25; go_wp2; refine ⟨⟨(acc ++ [(T.mk k23 n23 m23 q23 l23)]), .slice ad24 (acc.length + 1) cp24, s25, f - 1, lo, n_25, r_25, hlo3, SQ.mk (LR.wide z_25 (Nat.le_refl _) (by omega)) p25 G25 ((SMy.trans (Q.bind_eq hr23)).trans (Q.bind_eq hr25)) (fun h9 => by have := hfu (by first | assumption | simp_all); have := (needQ_ok hr25 h9).2.2; omega) (by have := hfu hok; simp only [List.length_append, List.length_singleton]; omega) (by omega) hlo (by omega)⟩, ?_⟩
                exact HPS.out.left_less p25 hok (fun h9 => by have := (needQ_ok hr25 h9).2.2; omega) hjl
            · have SMy := SMo.trans (Q.bind_eq hr22)
              rw [if_pos rfl] at SMy; have HRn : kindQ c.L s = _ := HR6.trans (Q.bind_eq SMy); go_wp2; refine node_ret Tryz.results69 rfl (RB.five ?_) rfl ?_
              · exact r_22
              refine QSt.ok (a := (T.mk 10 [] 0 (pos c.L s.1) acc)) (HRn) ⟨_, rfl, ?_⟩ ?_ ?_ (by omega)
              · refine LR.wide (lo := lo) (hi := w20.heap.size) (ts := acc) ?_ (by omega) (by first | omega | (simp <;> omega))
                exact LR.p5 z_22 (by omega)
              · exact gb_p5 G22 (by omega)
              · exact RS.p5 p22 HL.out (by omega)
          have hokb : decide (s20.2 = none) = false := decide_eq_false hok
          try simp only [hokb]
          have HRn : kindQ c.L s = _ := HR6.trans (Q.bind_eq (SM.trans (recLoopQ_bad hok))); go_wp2; refine node_ret Tryz.results69 rfl (RB.five ?_) rfl ?_
          · exact r_21
          refine QSt.ok (a := (T.mk 10 [] 0 (pos c.L s.1) acc)) (HRn) ⟨_, rfl, ?_⟩ ?_ ?_ (by omega)
          · refine LR.wide (lo := lo) (hi := w20.heap.size) (ts := acc) ?_ (by omega) (by first | omega | (simp <;> omega))
            exact LR.p5 z_21 (by omega)
          · exact gb_p5 G21 (by omega)
          · exact RS.p5 p21 HL.out (by omega)
      · rw [if_pos rfl] at HR6
        go_wp2_with fail; go_at_call 43; refine (rtypeName_any c _ s6 d p6).mono ?_; rintro e w7 ⟨⟨k7, n7, m7, q7, l7⟩, s7, v7, hr7, rfl, ⟨sv7, rfl, lr7⟩, hg7, p7, hi7⟩; have HR7 : kindQ c.L s = _ := HR6.trans (Q.bind_eq hr7); simp only [T.kind, T.name, T.num, T.at', T.subs] at lr7 ⊢; obtain ⟨ad7, cp7, rfl⟩ := lr7.form; obtain ⟨b7, hb7, lr7⟩ : ∃ b, b = _ ∧ LR w7 (In b w7.heap.size) l7 (.slice ad7 l7.length cp7) := ⟨_, rfl, lr7⟩
        try simp at hb7
        have G7 : w.grownBy w7 (some c.rb) := gb_trans G6 hg7; have sz7 := hg7.size
        try simp at sz7
        have r_7 : RB w7 (w.heap.size) := RB.keep r_6 hg7 (by omega); have n_7 : NB w7 (w1.heap.size) (.int .i64 10) (.string ⟨#[]⟩) (.int .i64 0) (.int .i64 (pos c.L s.1)) (.slice none 0 0) := NB.keep n_6 hg7 (by omega); have base_7 : NB w7 (w5.heap.size) (.int .i64 0) (.string ⟨#[]⟩) (.int .i64 0) (.int .i64 (pos c.L s4.1)) (.slice none 0 0) := NB.keep base_6 hg7 (by omega); have r_lt7 := r_7.lt; have n_lt7 := n_7.lt; have base_lt7 := base_7.lt; obtain ⟨_,_,_,_,_,_,_,_,_,_,_⟩ := id r_7; obtain ⟨_,_,_,_,_,_⟩ := id n_7; obtain ⟨_,_,_,_,_,_⟩ := id base_7; go_wp2_with fail; go_at_call 27; refine (rneed_any c _ s7 d s_rp _ rfl (by decide) (by exact RS.p5 p7 HL.out (by omega))).mono ?_; rintro e w8 ⟨a8, s8, v8, hr8, rfl, -, hg8, p8, hi8⟩; have HR8 : kindQ c.L s = _ := HR7.trans (Q.bind_eq hr8); have G8 : w.grownBy w8 (some c.rb) := gb_trans (by exact gb_p5 G7 (by omega)) hg8; have sz8 := hg8.size
        try simp at sz8
        have r_8 : RB w8 (w.heap.size) := RB.keep (by exact RB.p5 r_7) hg8 (by omega); have n_8 : NB w8 (w1.heap.size) (.int .i64 10) (.string ⟨#[]⟩) (.int .i64 0) (.int .i64 (pos c.L s.1)) (.slice none 0 0) := NB.keep (by exact NB.p5 n_7 (by omega)) hg8 (by omega); have base_8 : NB w8 (w5.heap.size) (.int .i64 k7) (.string ⟨n7.toArray⟩) (.int .i64 m7) (.int .i64 q7) (.slice ad7 l7.length cp7) := NB.keep (by exact NB.s4 (NB.s3 (NB.s2 (NB.s1 (NB.s0 base_7 _) _) _) _) _) hg8 (by omega); have y_8 : LR w8 (In (b7) (w7.heap.size)) (l7) (.slice ad7 l7.length cp7) := LR.call (by exact LR.p5 lr7 (by omega)) hg8 (by omega); have r_lt8 := r_8.lt; have n_lt8 := n_8.lt; have base_lt8 := base_8.lt; obtain ⟨_,_,_,_,_,_,_,_,_,_,_⟩ := id r_8; obtain ⟨_,_,_,_,_,_⟩ := id n_8; obtain ⟨_,_,_,_,_,_⟩ := id base_8; go_wp2_with fail
        go_loopw [] (fun wr => ∃ (acc : List T) (v : Value) (s9 : QS) (f lo : Nat), NB wr (w1.heap.size) (.int .i64 10) (.string ⟨#[]⟩) (.int .i64 0) (.int .i64 (pos c.L s.1)) v ∧ RB wr (w.heap.size) ∧ b7 ≤ lo ∧ Hid (SQ c w s8 d (recLoopQ c.L (c.L.length + 1) [(T.mk k7 n7 m7 q7 l7)] s8) (recLoopQ c.L) v wr acc s9 f lo)) (fun wr => leftOf wr c.rb c.L.length)
        case atStart =>
          refine ⟨[(T.mk k7 n7 m7 q7 l7)], .slice (some ⟨w8.heap.size, 0, none⟩) 1 1, s8, c.L.length + 1, b7, (by exact NB.alloc (NB.s4 n_8 _) _), (by exact RB.alloc (RB.put r_8 _ _ _) _), Nat.le_refl _, SQ.mk ?_ (by exact RS.alloc (RS.put p8 HL.out (by omega) _ _) _) (by exact gb_alloc (gb_put G8 (by omega) _ _) _) rfl (fun _ => by omega) (by first | (simp; done) | omega | (simp; omega)) (by first | exact Nat.le_refl _ | omega) (by omega) (by first | (simp; done) | omega | (simp; omega))⟩
          exact LR.wide (lo := b7) (hi := w8.heap.size + 1) (ts := [(T.mk k7 n7 m7 q7 l7)]) (LR.build1 _ (t := (T.mk k7 n7 m7 q7 l7)) (sv := .slice ad7 l7.length cp7) (LR.wide (lo := b7) (hi := w7.heap.size) (ts := l7) (by exact LR.put y_8 (by omega) _ _) (by omega) (by first | omega | (simp <;> omega))) (by simp) rfl (by omega)) (Nat.le_refl _) (by first | omega | (simp <;> omega))
        case round =>
          obtain ⟨w20, hw20⟩ : ∃ x, x = wr := ⟨_, rfl⟩; subst hw20; obtain ⟨acc, v, s20, f, lo, n_20, r_20, hlo3, HS⟩ := hrel; have z_20 := HS.out.lr; have p20 := HS.out.ps; have G20 := HS.out.gb; have SM := HS.out.same; have hfu := HS.out.fuel; have hlen := HS.out.len; have hij := HS.out.le; have hlo := HS.out.low; have hlo2 := HS.out.low2; have hjl := HS.out.ps.il; obtain ⟨ad, cp, rfl⟩ := z_20.form; have HPS := hide p20; clear HS; have r_lt20 := r_20.lt; have n_lt20 := n_20.lt; obtain ⟨_,_,_,_,_,_,_,_,_,_,_⟩ := id r_20; obtain ⟨_,_,_,_,_,_⟩ := id n_20; go_wp2_with fail; go_at_call 12; refine (rok_any c _ s20 d p20).mono ?_; rintro e w21 ⟨rfl, hg21⟩; have p21 : RS c w21 s20 d := RS.grown p20 hg21; have G21 : w.grownBy w21 (some c.rb) := gb_trans G20 (gb_some hg21 (some c.rb)); have sz21 := hg21.size
          try simp at sz21
          have r_21 : RB w21 (w.heap.size) := RB.kept r_20 hg21 (by simp); have n_21 : NB w21 (w1.heap.size) (.int .i64 10) (.string ⟨#[]⟩) (.int .i64 0) (.int .i64 (pos c.L s.1)) (.slice ad acc.length cp) := NB.kept n_20 hg21 (by simp); have z_21 : LR w21 (In (lo) (w20.heap.size)) (acc) (.slice ad acc.length cp) := LR.grown z_20 hg21; have r_lt21 := r_21.lt; have n_lt21 := n_21.lt; obtain ⟨_,_,_,_,_,_,_,_,_,_,_⟩ := id r_21; obtain ⟨_,_,_,_,_,_⟩ := id n_21
          by_cases hok : s20.2 = none
          · have hokb : decide (s20.2 = none) = true := decide_eq_true hok
            try simp only [hokb]
            have SMo := SM.trans (recLoopQ_on hok (by have := hfu hok; omega)); go_wp2_with fail; go_at_call 29; refine (ris_any c _ s20 d kEND _ rfl (by decide) p21).mono ?_; rintro e w22 ⟨a22, s22, v22, hr22, rfl, rfl, hg22, p22, hi22⟩; have G22 : w.grownBy w22 (some c.rb) := gb_trans G21 hg22; have sz22 := hg22.size
            try simp at sz22
            have r_22 : RB w22 (w.heap.size) := RB.keep r_21 hg22 (by omega); have n_22 : NB w22 (w1.heap.size) (.int .i64 10) (.string ⟨#[]⟩) (.int .i64 0) (.int .i64 (pos c.L s.1)) (.slice ad acc.length cp) := NB.keep n_21 hg22 (by omega); have z_22 : LR w22 (In (lo) (w20.heap.size)) (acc) (.slice ad acc.length cp) := LR.call z_21 hg22 (by omega); have r_lt22 := r_22.lt; have n_lt22 := n_22.lt; obtain ⟨_,_,_,_,_,_,_,_,_,_,_⟩ := id r_22; obtain ⟨_,_,_,_,_,_⟩ := id n_22; cases a22
            · obtain ⟨hsx, -⟩ := isQ_false hr22
              have SMy := SMo.trans (Q.bind_eq hr22); rw [if_neg (by decide)] at SMy; go_wp2_with fail
              go_region_law (first
                | (go_simp
                   go_at_call 42; refine (rdecl_typed c _ s22 d 11 (by exact RS.drew p22) rfl rfl).mono ?_; rintro e w23 ⟨⟨k23, n23, m23, q23, l23⟩, s23, v23, hr23, rfl, ⟨sv23, rfl, lr23⟩, hg23, p23, hi23⟩; simp only [T.kind, T.name, T.num, T.at', T.subs] at lr23 ⊢; obtain ⟨ad23, cp23, rfl⟩ := lr23.form; obtain ⟨b23, hb23, lr23⟩ : ∃ b, b = _ ∧ LR w23 (In b w23.heap.size) l23 (.slice ad23 l23.length cp23) := ⟨_, rfl, lr23⟩
                   try simp at hb23
                   have G23 : w.grownBy w23 (some c.rb) := gb_trans (by exact gb_drew G22) hg23; have sz23 := hg23.size
                   try simp at sz23
                   have r_23 : RB w23 (w.heap.size) := RB.keep (by exact RB.drew r_22) hg23 (by omega); have n_23 : NB w23 (w1.heap.size) (.int .i64 10) (.string ⟨#[]⟩) (.int .i64 0) (.int .i64 (pos c.L s.1)) (.slice ad acc.length cp) := NB.keep (by exact NB.drew n_22) hg23 (by omega); have z_23 : LR w23 (In (lo) (w20.heap.size)) (acc) (.slice ad acc.length cp) := LR.call (by exact LR.drew z_22) hg23 (by omega); have r_lt23 := r_23.lt; have n_lt23 := n_23.lt; obtain ⟨_,_,_,_,_,_,_,_,_,_,_⟩ := id r_23
                   obtain ⟨_,_,_,_,_,_⟩ := id n_23)
                | (have hrow24 := z_23.rows
                   refine step_appS (v := .slice ad acc.length cp) rfl _ _ rfl (In (lo) (w23.heap.size + 2)) rfl rfl (LR.alloc z_23 _) (LR.build1 w23 (cs := #[.int .i64 k23, .string ⟨n23.toArray⟩, .int .i64 m23, .int .i64 q23, .slice ad23 l23.length cp23]) (t := (T.mk k23 n23 m23 q23 l23)) (sv := .slice ad23 l23.length cp23) lr23 rfl rfl (by omega))
                     (fun k hk e => by have h1 := hrow24 k e; have h2 : b23 ≤ k := hk.1; omega) (fun k hk => ⟨hk.1, by have h : k < w20.heap.size := hk.2; omega⟩) (fun k hk => ⟨by have h : b23 ≤ k := hk.1; omega, by have h : k < w23.heap.size + 1 := hk.2; omega⟩) ⟨by simp; omega, by simp⟩ (by simp; try omega) ?_
                   intro v24 w24 lr24 hg24; obtain ⟨ad24, cp24, e24⟩ := lr24.form; rw [List.length_append, List.length_singleton] at e24; have e24 : v24 = .slice ad24 (acc.length + 1) cp24 := e24; subst e24; have sz24 := hg24.size
                   try simp at sz24
                   have r_24 : RB w24 (w.heap.size) := RB.kept (RB.alloc r_23 _) hg24 (fun e => by have := hrow24 _ e.symm; omega); have n_24 : NB w24 (w1.heap.size) (.int .i64 10) (.string ⟨#[]⟩) (.int .i64 0) (.int .i64 (pos c.L s.1)) (.slice ad acc.length cp) := NB.kept (NB.alloc n_23 _) hg24 (fun e => by have := hrow24 _ e.symm; omega); have p24 : RS c w24 s23 d := RS.own (RS.alloc p23 _) HL.out hg24 (fun b hb => by have := hrow24 b hb; omega); have G24 : w.grownBy w24 (some c.rb) := gb_own (gb_alloc G23 _) hg24 (fun b hb => by have := hrow24 b hb; omega); have r_lt24 := r_24.lt; have n_lt24 := n_24.lt; obtain ⟨_,_,_,_,_,_,_,_,_,_,_⟩ := id r_24
                   obtain ⟨_,_,_,_,_,_⟩ := id n_24))
              all_goals
                have lz24 : LR w24 (In (lo) w24.heap.size) (acc ++ [(T.mk k23 n23 m23 q23 l23)]) (.slice ad24 (acc.length + 1) cp24) := lr24.bounded.mono (fun k hk => ⟨hk.1.1, hk.2⟩); go_wp2_with fail; go_at_call 27; refine (rneed_any c _ s23 d s_semi _ rfl (by decide) (by exact RS.put p24 HL.out (by omega) _ _)).mono ?_; rintro e w25 ⟨a25, s25, v25, hr25, rfl, -, hg25, p25, hi25⟩; have G25 : w.grownBy w25 (some c.rb) := gb_trans (by exact gb_put G24 (by omega) _ _) hg25; have sz25 := hg25.size
                try simp at sz25
                have r_25 : RB w25 (w.heap.size) := RB.keep (by exact RB.put r_24 _ _ _) hg25 (by omega); have n_25 : NB w25 (w1.heap.size) (.int .i64 10) (.string ⟨#[]⟩) (.int .i64 0) (.int .i64 (pos c.L s.1)) (.slice ad24 (acc.length + 1) cp24) := NB.keep (by exact NB.s4 n_24 _) hg25 (by omega); have z_25 : LR w25 (In (lo) (w24.heap.size)) ((acc ++ [(T.mk k23 n23 m23 q23 l23)])) (.slice ad24 (acc.length + 1) cp24) := LR.call (by exact LR.put lz24 (by omega) _ _) hg25 (by omega); have r_lt25 := r_25.lt; have n_lt25 := n_25.lt; obtain ⟨_,_,_,_,_,_,_,_,_,_,_⟩ := id r_25; obtain ⟨_,_,_,_,_,_⟩ := id n_25; go_wp2; refine ⟨⟨(acc ++ [(T.mk k23 n23 m23 q23 l23)]), .slice ad24 (acc.length + 1) cp24, s25, f - 1, lo, n_25, r_25, hlo3, SQ.mk (LR.wide z_25 (Nat.le_refl _) (by omega)) p25 G25 ((SMy.trans (Q.bind_eq hr23)).trans (Q.bind_eq hr25)) (fun h9 => by have := hfu (by first | assumption | simp_all); have := (needQ_ok hr25 h9).2.2; omega) (by have := hfu hok; simp only [List.length_append, List.length_singleton]; omega) (by omega) hlo (by omega)⟩, ?_⟩
                exact HPS.out.left_less p25 hok (fun h9 => by have := (needQ_ok hr25 h9).2.2; omega) hjl
            · have SMy := SMo.trans (Q.bind_eq hr22)
              rw [if_pos rfl] at SMy; have HRn : kindQ c.L s = _ := HR8.trans (Q.bind_eq SMy); go_wp2; refine node_ret Tryz.results69 rfl (RB.five ?_) rfl ?_
              · exact r_22
              refine QSt.ok (a := (T.mk 10 [] 0 (pos c.L s.1) acc)) (HRn) ⟨_, rfl, ?_⟩ ?_ ?_ (by omega)
              · refine LR.wide (lo := lo) (hi := w20.heap.size) (ts := acc) ?_ (by omega) (by first | omega | (simp <;> omega))
                exact LR.p5 z_22 (by omega)
              · exact gb_p5 G22 (by omega)
              · exact RS.p5 p22 HL.out (by omega)
          have hokb : decide (s20.2 = none) = false := decide_eq_false hok
          try simp only [hokb]
          have HRn : kindQ c.L s = _ := HR8.trans (Q.bind_eq (SM.trans (recLoopQ_bad hok))); go_wp2; refine node_ret Tryz.results69 rfl (RB.five ?_) rfl ?_
          · exact r_21
          refine QSt.ok (a := (T.mk 10 [] 0 (pos c.L s.1) acc)) (HRn) ⟨_, rfl, ?_⟩ ?_ ?_ (by omega)
          · refine LR.wide (lo := lo) (hi := w20.heap.size) (ts := acc) ?_ (by omega) (by first | omega | (simp <;> omega))
            exact LR.p5 z_21 (by omega)
          · exact gb_p5 G21 (by omega)
          · exact RS.p5 p21 HL.out (by omega)
    · rw [if_pos rfl] at HR3
      go_wp2_with fail; go_at_call 27; refine (rneed_any c _ s3 d kTO _ rfl (by decide) (by exact RS.put p3 HL.out (by omega) _ _)).mono ?_; rintro e w4 ⟨a4, s4, v4, hr4, rfl, -, hg4, p4, hi4⟩; have HR4 : kindQ c.L s = _ := HR3.trans (Q.bind_eq hr4); have G4 : w.grownBy w4 (some c.rb) := gb_trans (by exact gb_put G3 (by omega) _ _) hg4; have sz4 := hg4.size
      try simp at sz4
      have r_4 : RB w4 (w.heap.size) := RB.keep (by exact RB.put r_3 _ _ _) hg4 (by omega); have n_4 : NB w4 (w1.heap.size) (.int .i64 12) (.string ⟨#[]⟩) (.int .i64 0) (.int .i64 (pos c.L s.1)) (.slice none 0 0) := NB.keep (by exact NB.s0 n_3 _) hg4 (by omega); have r_lt4 := r_4.lt; have n_lt4 := n_4.lt; obtain ⟨_,_,_,_,_,_,_,_,_,_,_⟩ := id r_4; obtain ⟨_,_,_,_,_,_⟩ := id n_4; go_wp2_with fail; go_at_call 43; refine (rtypeName_any c _ s4 d p4).mono ?_; rintro e w5 ⟨⟨k5, n5, m5, q5, l5⟩, s5, v5, hr5, rfl, ⟨sv5, rfl, lr5⟩, hg5, p5, hi5⟩; have HR5 : kindQ c.L s = _ := HR4.trans (Q.bind_eq hr5); simp only [T.kind, T.name, T.num, T.at', T.subs] at lr5 ⊢; obtain ⟨ad5, cp5, rfl⟩ := lr5.form; obtain ⟨b5, hb5, lr5⟩ : ∃ b, b = _ ∧ LR w5 (In b w5.heap.size) l5 (.slice ad5 l5.length cp5) := ⟨_, rfl, lr5⟩
      try simp at hb5
      have G5 : w.grownBy w5 (some c.rb) := gb_trans G4 hg5; have sz5 := hg5.size
      try simp at sz5
      have r_5 : RB w5 (w.heap.size) := RB.keep r_4 hg5 (by omega); have n_5 : NB w5 (w1.heap.size) (.int .i64 12) (.string ⟨#[]⟩) (.int .i64 0) (.int .i64 (pos c.L s.1)) (.slice none 0 0) := NB.keep n_4 hg5 (by omega); have r_lt5 := r_5.lt; have n_lt5 := n_5.lt; obtain ⟨_,_,_,_,_,_,_,_,_,_,_⟩ := id r_5; obtain ⟨_,_,_,_,_,_⟩ := id n_5; go_wp2; refine node_ret Tryz.results69 rfl (NB.alloc (RB.five ?_) _) rfl ?_
      · exact RB.put r_5 _ _ _
      refine QSt.ok (a := (T.mk 12 [] 0 (pos c.L s.1) [(T.mk k5 n5 m5 q5 l5)])) (HR5) ⟨_, rfl, ?_⟩ ?_ ?_ (by omega)
      · refine LR.wide (lo := b5) (hi := w5.heap.size + 1) (ts := [(T.mk k5 n5 m5 q5 l5)]) ?_ (by omega) (by first | omega | (simp <;> omega))
        exact (LR.build1 _ (t := (T.mk k5 n5 m5 q5 l5)) (sv := .slice ad5 l5.length cp5) (LR.wide (lo := b5) (hi := w5.heap.size) (ts := l5) (by exact LR.p5 (LR.put lr5 (by omega) _ _) (by omega)) (by omega) (by first | omega | (simp <;> omega))) (by simp) rfl (by omega))
      · exact gb_alloc (gb_p5 (gb_put G5 (by omega) _ _) (by omega)) _
      · exact RS.alloc (RS.p5 (RS.put p5 HL.out (by omega) _ _) HL.out (by omega)) _
  · rw [if_pos rfl] at HR2
    go_wp2_with fail; go_at_call 103; refine (rvalue_any c _ s2 d (by exact RS.put p2 HL.out (by omega) _ _)).mono ?_; rintro e w3 ⟨a3, s3, v3, hr3, rfl, rfl, hg3, p3, hi3⟩; have HR3 : kindQ c.L s = _ := HR2.trans (Q.bind_eq hr3); have G3 : w.grownBy w3 (some c.rb) := gb_trans (by exact gb_put G2 (by omega) _ _) hg3; have sz3 := hg3.size
    try simp at sz3
    have r_3 : RB w3 (w.heap.size) := RB.keep (by exact RB.put r_2 _ _ _) hg3 (by omega); have n_3 : NB w3 (w1.heap.size) (.int .i64 9) (.string ⟨#[]⟩) (.int .i64 0) (.int .i64 (pos c.L s.1)) (.slice none 0 0) := NB.keep (by exact NB.s0 n_2 _) hg3 (by omega); have r_lt3 := r_3.lt; have n_lt3 := n_3.lt; obtain ⟨_,_,_,_,_,_,_,_,_,_,_⟩ := id r_3; obtain ⟨_,_,_,_,_,_⟩ := id n_3; go_wp2_with fail; go_at_call 27; refine (rneed_any c _ s3 d kOF _ rfl (by decide) (by exact RS.put p3 HL.out (by omega) _ _)).mono ?_; rintro e w4 ⟨a4, s4, v4, hr4, rfl, -, hg4, p4, hi4⟩; have HR4 : kindQ c.L s = _ := HR3.trans (Q.bind_eq hr4); have G4 : w.grownBy w4 (some c.rb) := gb_trans (by exact gb_put G3 (by omega) _ _) hg4; have sz4 := hg4.size
    try simp at sz4
    have r_4 : RB w4 (w.heap.size) := RB.keep (by exact RB.put r_3 _ _ _) hg4 (by omega); have n_4 : NB w4 (w1.heap.size) (.int .i64 9) (.string ⟨#[]⟩) (.int .i64 a3) (.int .i64 (pos c.L s.1)) (.slice none 0 0) := NB.keep (by exact NB.s2 n_3 _) hg4 (by omega); have r_lt4 := r_4.lt; have n_lt4 := n_4.lt; obtain ⟨_,_,_,_,_,_,_,_,_,_,_⟩ := id r_4; obtain ⟨_,_,_,_,_,_⟩ := id n_4; go_wp2_with fail; go_at_call 43; refine (rtypeName_any c _ s4 d p4).mono ?_; rintro e w5 ⟨⟨k5, n5, m5, q5, l5⟩, s5, v5, hr5, rfl, ⟨sv5, rfl, lr5⟩, hg5, p5, hi5⟩; have HR5 : kindQ c.L s = _ := HR4.trans (Q.bind_eq hr5); simp only [T.kind, T.name, T.num, T.at', T.subs] at lr5 ⊢; obtain ⟨ad5, cp5, rfl⟩ := lr5.form; obtain ⟨b5, hb5, lr5⟩ : ∃ b, b = _ ∧ LR w5 (In b w5.heap.size) l5 (.slice ad5 l5.length cp5) := ⟨_, rfl, lr5⟩
    try simp at hb5
    have G5 : w.grownBy w5 (some c.rb) := gb_trans G4 hg5; have sz5 := hg5.size
    try simp at sz5
    have r_5 : RB w5 (w.heap.size) := RB.keep r_4 hg5 (by omega); have n_5 : NB w5 (w1.heap.size) (.int .i64 9) (.string ⟨#[]⟩) (.int .i64 a3) (.int .i64 (pos c.L s.1)) (.slice none 0 0) := NB.keep n_4 hg5 (by omega); have r_lt5 := r_5.lt; have n_lt5 := n_5.lt; obtain ⟨_,_,_,_,_,_,_,_,_,_,_⟩ := id r_5; obtain ⟨_,_,_,_,_,_⟩ := id n_5; go_wp2; refine node_ret Tryz.results69 rfl (NB.alloc (RB.five ?_) _) rfl ?_
    · exact RB.put r_5 _ _ _
    refine QSt.ok (a := (T.mk 9 [] a3 (pos c.L s.1) [(T.mk k5 n5 m5 q5 l5)])) (HR5) ⟨_, rfl, ?_⟩ ?_ ?_ (by omega)
    · refine LR.wide (lo := b5) (hi := w5.heap.size + 1) (ts := [(T.mk k5 n5 m5 q5 l5)]) ?_ (by omega) (by first | omega | (simp <;> omega))
      exact (LR.build1 _ (t := (T.mk k5 n5 m5 q5 l5)) (sv := .slice ad5 l5.length cp5) (LR.wide (lo := b5) (hi := w5.heap.size) (ts := l5) (by exact LR.p5 (LR.put lr5 (by omega) _ _) (by omega)) (by omega) (by first | omega | (simp <;> omega))) (by simp) rfl (by omega))
    · exact gb_alloc (gb_p5 (gb_put G5 (by omega) _ _) (by omega)) _
    · exact RS.alloc (RS.p5 (RS.put p5 HL.out (by omega) _ _) HL.out (by omega)) _
end Go.Proofs.YtbphiiaoncakfaaGreatDoor

/- The document's reader: arguments. -/
namespace Go.Proofs.YtbphiiaoncakfaaGreatDoor
open Go.RowKit

theorem severalQ_on {L : List Tok} {p : Q T} {sep : List UInt8} {f : Nat} {acc : List T} {s : QS} (hf : 0 < f) : severalQ L p sep f acc s = (p.bind fun t => (isQ L sep).bind fun b => if b = true then severalQ L p sep (f - 1) (acc ++ [t]) else Q.ret (acc ++ [t])) s := by
  obtain ⟨f', rfl⟩ : ∃ f', f = f' + 1 := ⟨f - 1, by omega⟩; rw [severalQ]
  rfl

set_option maxRecDepth 100000 in
set_option maxHeartbeats 1000000 in
theorem rgiven_any (c : RC) (w : World) (s : QS) (d : Nat) (E : Q T) (h : RS c w s d) (hE : QOK c d 68 E) :
    Calls Tryz.prog 71 #[.pointer (some ⟨c.rb, 0, none⟩)] w (QSt c w s d (fun w' ts v => LR w' (In w.heap.size w'.heap.size) ts v ∧ ts.length ≤ 5003) (givenQ c.L E s)) := by
  have HP := hide h; have HL := hide h.low; have hb := h.lt; have hfew := h.good.few; have HE := hide hE; clear h hE
  go_enter Tryz.func71, Tryz.ntmps71
  go_wp2_with fail; go_at_call 29; refine (ris_any c _ s d s_lp _ rfl (by decide) HP.out).mono ?_; rintro e w1 ⟨a1, s1, v1, hr1, rfl, rfl, hg1, p1, hi1⟩; have HR1 : givenQ c.L E s = _ := Q.bind_eq hr1; cases a1
  · rw [if_neg (by decide)] at HR1
    go_wp2
    go_ret
    exact QSt.ok HR1 ⟨LR.nil _ _, by simp⟩ hg1 p1 hi1
  · rw [if_pos rfl] at HR1
    go_wp2_with fail; go_at_call 29; refine (ris_any c _ s1 d s_rp _ rfl (by decide) p1).mono ?_; rintro e w2 ⟨a2, s2, v2, hr2, rfl, rfl, hg2, p2, hi2⟩; have HR2 := HR1.trans (Q.bind_eq hr2); have G2 : w.grownBy w2 (some c.rb) := gb_trans hg1 hg2; cases a2
    · rw [if_neg (by decide)] at HR2
      have hx1 := (isQ_true hr1).2.2; have hx2 := (isQ_false hr2).1
      have hok2 : s2.2 = none := by rw [hx2, hx1]
      have hg2s := G2.size; have S0 := hide (SQ.mk (c := c) (w := w) (s0 := s2) (d := d) (r := severalQ c.L E s_comma c.L.length [] s2) (q := severalQ c.L E s_comma) (f := c.L.length) (s := s2) (acc := []) (lo := w2.heap.size) (wr := w2) (v := .slice none 0 0) (LR.nil _ _) p2 G2 rfl (fun _ => by omega) (by simp) (Nat.le_refl _) hg2s (Nat.le_refl _)); go_wp2_with fail
      go_loopw [3] (fun v wr => ∃ acc s9 f lo, s9.2 = none ∧ w2.heap.size ≤ lo ∧ Hid (SQ c w s2 d (severalQ c.L E s_comma c.L.length [] s2) (severalQ c.L E s_comma) v wr acc s9 f lo)) (fun _ wr => leftOf wr c.rb c.L.length)
      case atStart => exact ⟨_, _, _, _, hok2, Nat.le_refl _, S0⟩
      case round =>
        obtain ⟨acc, s10, f, lo, hok, hlo3, HS⟩ := hrel; clear S0; have hI := HS.out; have p10 := hI.ps; have hlo := hI.low; have hlo2 := hI.low2; have hlen := hI.len; have hfu := hI.fuel hok; have hij := hI.le; have hjl := hI.ps.il; obtain ⟨ad, cp, rfl⟩ := hI.lr.form; have HLR := hide hI.lr; have HG := hide hI.gb; have HSM := hide hI.same; have HPS := hide p10; have hokb : decide (s10.2 = none) = true := decide_eq_true hok; clear hI HS p10; go_wp2_with fail; go_at_call 12; refine (rok_any c _ s10 d HPS.out).mono ?_; rintro e w11 ⟨rfl, hg11⟩
        try simp only [hokb]
        have p11 := HPS.out.grown hg11; have sz11 := hg11.size; have G11 : w.grownBy w11 (some c.rb) := gb_trans HG.out (gb_some hg11 _); have lr11 : LR w11 (In lo wr.heap.size) acc (.slice ad acc.length cp) := HLR.out.grown hg11; go_wp2_with fail; go_at_call 68; refine (HE.out _ s10 p11).mono ?_; rintro e w12 ⟨⟨k3, n3, m3, q3, l3⟩, s12, v12, hr12, rfl, ⟨sv3, rfl, lr3⟩, hg12, p12, hi12⟩; simp only [T.kind, T.name, T.num, T.at', T.subs] at lr3 ⊢; obtain ⟨ad3, cp3, rfl⟩ := lr3.form; have sz12 := hg12.size; have G12 : w.grownBy w12 (some c.rb) := gb_trans G11 hg12; have hwb := HL.out.rb; have hgw := G2.size; have lr12 : LR w12 (In lo wr.heap.size) acc (.slice ad acc.length cp) := lr11.call hg12 (by omega); have lr4 := LR.build1 w12 (cs := #[.int .i64 k3, .string ⟨n3.toArray⟩, .int .i64 m3, .int .i64 q3, .slice ad3 l3.length cp3]) (t := T.mk k3 n3 m3 q3 l3) (sv := .slice ad3 l3.length cp3) lr3 rfl rfl sz12; have HSM12 : severalQ c.L E s_comma c.L.length [] s2 = _ := (HSM.out.trans (severalQ_on (by omega))).trans (Q.bind_eq hr12); have hL2 := hide (lr12.alloc (.cells #[.int .i64 k3, .string ⟨n3.toArray⟩, .int .i64 m3, .int .i64 q3, .slice ad3 l3.length cp3] 25)); have hL4 := hide lr4; clear lr11 lr12 lr3 lr4
        go_wp2_with (at_builtin; refine wpList_appLR rfl _ _ rfl rfl rfl hL2.out hL4.out (by omega) (by omega) (by simp; omega) (by simp) (by simp; omega) ?_; intro v5 w13 lr13 hg13)
        have hrow := hL2.out.rows; have p13 : RS c w13 s12 d := RS.own (p12.alloc _) HL.out hg13 (fun b hb => by have := hrow b hb; omega); have G13 : w.grownBy w13 (some c.rb) := gb_own (gb_alloc G12 _) hg13 (fun b hb => by have := hrow b hb; omega); have sz13 := hg13.size
        simp at sz13
        obtain ⟨ad5, cp5, e5⟩ := lr13.form; rw [List.length_append, List.length_singleton] at e5; subst e5; go_at_call 29; refine (ris_any c _ s12 d s_comma _ rfl (by decide) p13).mono ?_; rintro e w14 ⟨a14, s14, v14, hr14, rfl, rfl, hg14, p14, hi14⟩; have HSM14 := HSM12.trans (Q.bind_eq hr14); have G14 : w.grownBy w14 (some c.rb) := gb_trans G13 hg14; have sz14 := hg14.size; have lr14 := lr13.call hg14 (by omega); cases a14
        · rw [if_neg (by decide)] at HSM14
          have HR3 := HR2.trans (Q.bind_eq HSM14); go_wp2_with fail; go_at_call 27; refine (rneed_any c _ s14 d s_rp _ rfl (by decide) p14).mono ?_; rintro e w15 ⟨a15, s15, v15, hr15, rfl, -, hg15, p15, hi15⟩; have HR4 := HR3.trans (Q.bind_eq hr15); have sz15 := hg15.size; have lr15 := lr14.call hg15 (by omega); go_wp2
          go_ret
          exact QSt.ok HR4 ⟨lr15.wide (lo' := w.heap.size) (hi' := w15.heap.size) (by omega) (by omega), by simp only [List.length_append, List.length_singleton]; omega⟩ (gb_trans G14 hg15) p15 (by omega)
        · rw [if_pos rfl] at HSM14
          obtain ⟨hx, -, hy⟩ := isQ_true hr14
          have hok14 : s14.2 = none := by rw [hy]
          have hp14 : s14.1 = s12.1 + 1 := by rw [hy]
          go_wp2; refine ⟨⟨_, s14, f - 1, lo, hok14, hlo3, SQ.mk (lr14.wide (Nat.le_refl _) (by omega)) p14 G14 HSM14 (fun _ => by omega) (by simp only [List.length_append, List.length_singleton]; omega) (by omega) hlo (by omega)⟩, ?_⟩
          exact HPS.out.left_less p14 hok (fun _ => by omega) hjl
    · rw [if_pos rfl] at HR2
      go_wp2
      go_ret
      exact QSt.ok HR2 ⟨LR.nil _ _, by simp⟩ G2 p2 (by omega)
end Go.Proofs.YtbphiiaoncakfaaGreatDoor
