/- The document's reader: IF. -/
import Derived.Test.YtbphiiaoncakfaaGreatDoorG30
namespace Go.Proofs.YtbphiiaoncakfaaGreatDoor
open Go.RowKit

section
variable {L : List Tok} {E A : Q T} {f : Nat} {acc : List T} {s s1 : QS}
theorem choiceLoopQ_no (hf : s.2 = none → 0 < f) (hr : isQ L kELSIF s = (false, s1)) : choiceLoopQ L E A f acc s = (acc, s1) := by
  cases f with
  | zero =>
    rw [choiceLoopQ]; obtain ⟨rfl, -⟩ := isQ_false hr; obtain ⟨i, b⟩ := s1; cases b with
    | none => exact absurd (hf rfl) (by omega)
    | some x => rfl
  | succ f =>
    rw [choiceLoopQ, Q.bind_eq hr]
    rfl
theorem choiceLoopQ_yes (hf : 0 < f) (hr : isQ L kELSIF s = (true, s1)) : choiceLoopQ L E A f acc s = ((branchQ L E A).bind fun l => choiceLoopQ L E A (f - 1) (acc ++ l)) s1 := by
  obtain ⟨f', rfl⟩ : ∃ f', f = f' + 1 := ⟨f - 1, by omega⟩; rw [choiceLoopQ, Q.bind_eq hr]
  rfl
theorem branchQ_eq {α : Type} {k : List T → Q α} {s s1 s2 s3 : QS} {c a : T} {u : Unit} (h1 : E s = (c, s1)) (h2 : needQ L kTHEN s1 = (u, s2)) (h3 : A s2 = (a, s3)) : (branchQ L E A).bind k s = k [c, a] s3 := by
  have h : branchQ L E A s = ([c, a], s3) := by
    show Q.bind E _ s = _
    rw [Q.bind_eq h1, Q.bind_eq h2, Q.bind_eq h3]
    rfl
  exact Q.bind_eq h
end
/-- What holds at the loop's head: at first nothing was read; later some branches were. -/
structure IQ (c : RC) (w : World) (s : QS) (d : Nat) (E A : Q T) (r : List T × QS) (v : Value) (wr : World) (acc : List T) (s9 : QS) (f lo : Nat) : Prop where
  lr : LR wr (In lo wr.heap.size) acc v
  ps : RS c wr s9 d
  gb : w.grownBy wr (some c.rb)
  le : s.1 ≤ s9.1
  low2 : lo ≤ wr.heap.size
  len : acc.length ≤ 2 * s9.1
  head : (acc = [] ∧ s9 = s) ∨ (acc ≠ [] ∧ (s9.2 = none → wd c.L s9.1 ≠ kIF) ∧ (s9.2 = none → c.L.length ≤ f + s9.1) ∧ r = choiceLoopQ c.L E A f acc s9)

set_option maxRecDepth 100000 in
set_option maxHeartbeats 40000000 in
theorem rstmt_if (c : RC) (w : World) (s : QS) (d : Nat) (E A : Q T) (h : RS c w s d) (hok : s.2 = none) (hE : QOK c d 68 E) (hA : QOK c d 32 A) (hw : wd c.L s.1 = kIF) :
    Calls Tryz.prog 46 #[.pointer (some ⟨c.rb, 0, none⟩)] w (QSt c w s d (fun w' t v => TR w' w.heap.size w'.heap.size t v) (choiceQ c.L E A s)) := by
  have HP := hide h; have HL := hide h.low; have hb := h.lt; have hfew := h.good.few; clear h
  have hcIF : (wd c.L s.1 == [73, 70]) = true := by rw [hw]; decide
  have hne : wd c.L s.1 ≠ [] := by rw [hw]; decide
  go_enter Tryz.func46, Tryz.ntmps46
  go_wp2_with fail; go_at_call 26; refine (rat_any c _ s d (by exact RS.alloc HP.out _)).mono ?_; rintro e w1 ⟨rfl, hg1⟩; have p1 : RS c w1 s d := RS.grown (by exact RS.alloc HP.out _) hg1; have G1 : w.grownBy w1 (some c.rb) := gb_trans (by exact gb_alloc (gb_refl w (some c.rb)) _) (gb_some hg1 (some c.rb)); have sz1 := hg1.size
  try simp at sz1
  have r_1 : RB w1 (w.heap.size) := RB.kept (RB.new' (by simp)) hg1 (by simp); have r_lt1 := r_1.lt; obtain ⟨_,_,_,_,_,_,_,_,_,_,_⟩ := id r_1; go_wp2_with fail; go_at_call 13; refine (rword_any c _ s d (by exact RS.alloc p1 _)).mono ?_; rintro e w2 ⟨rfl, hg2⟩; have p2 : RS c w2 s d := RS.grown (by exact RS.alloc p1 _) hg2; have G2 : w.grownBy w2 (some c.rb) := gb_trans (by exact gb_alloc G1 _) (gb_some hg2 (some c.rb)); have sz2 := hg2.size
  try simp at sz2
  have r_2 : RB w2 (w.heap.size) := RB.kept (by exact RB.alloc r_1 _) hg2 (by simp); have n_2 : NB w2 (w1.heap.size) (.int .i64 0) (.string ⟨#[]⟩) (.int .i64 0) (.int .i64 (pos c.L s.1)) (.slice none 0 0) := NB.kept (NB.new' (by simp)) hg2 (by simp); have r_lt2 := r_2.lt; have n_lt2 := n_2.lt; obtain ⟨_,_,_,_,_,_,_,_,_,_,_⟩ := id r_2; obtain ⟨_,_,_,_,_,_⟩ := id n_2; obtain ⟨r9, hr9⟩ : ∃ r, r = ((branchQ c.L E A).bind fun l => choiceLoopQ c.L E A c.L.length l) (s.1 + 1, none) := ⟨_, rfl⟩
  have HR0 : choiceQ c.L E A s = (fun l9 => ((isQ c.L kELSE).bind fun b => if b = true then A.bind fun a => (needQ c.L kEND).bind fun _ => Q.ret (T.mk 16 [] 1 (pos c.L s.1) (l9 ++ [a])) else (needQ c.L kEND).bind fun _ => Q.ret (T.mk 16 [] 0 (pos c.L s.1) l9))) r9.1 r9.2 := by
    show ((needQ c.L kIF).bind fun _ => (branchQ c.L E A).bind fun l => (choiceLoopQ c.L E A c.L.length l).bind fun l9 => ((isQ c.L kELSE).bind fun b => if b = true then A.bind fun a => (needQ c.L kEND).bind fun _ => Q.ret (T.mk 16 [] 1 (pos c.L s.1) (l9 ++ [a])) else (needQ c.L kEND).bind fun _ => Q.ret (T.mk 16 [] 0 (pos c.L s.1) l9))) s = _
    rw [Q.bind_eq (needQ_yes hok hw), hr9]
    rfl
  go_wp2_with fail
  go_loopw [] (fun wr => ∃ (acc : List T) (v : Value) (s9 : QS) (f lo : Nat), NB wr (w1.heap.size) (.int .i64 16) (.string ⟨#[]⟩) (.int .i64 0) (.int .i64 (pos c.L s.1)) v ∧ RB wr (w.heap.size) ∧ w2.heap.size ≤ lo ∧ Hid (IQ c w s d E A r9 v wr acc s9 f lo)) (fun wr => leftOf wr c.rb c.L.length)
  case atStart => exact ⟨[], .slice none 0 0, s, 0, w2.heap.size, (by exact NB.s0 n_2 _), (by exact RB.put r_2 _ _ _), Nat.le_refl _, IQ.mk (LR.nil _ _) (by exact RS.put p2 HL.out (by omega) _ _) (by exact gb_put G2 (by omega) _ _) (Nat.le_refl _) (by first | (simp; done) | omega | (simp; omega)) (by simp) (.inl ⟨rfl, rfl⟩)⟩
  case round =>
    obtain ⟨w20, hw20⟩ : ∃ x, x = wr := ⟨_, rfl⟩; subst hw20; obtain ⟨acc, v, s20, f, lo, n_20, r_20, hlo3, HS⟩ := hrel; have z_20 := HS.out.lr; have p20 := HS.out.ps; have G20 := HS.out.gb; have IH := HS.out.head; have hij := HS.out.le; have hlen := HS.out.len; have hlo2 := HS.out.low2; have hjl := HS.out.ps.il; obtain ⟨ad, cp, rfl⟩ := z_20.form; have HPS := hide p20; clear HS; have r_lt20 := r_20.lt; have n_lt20 := n_20.lt; obtain ⟨_,_,_,_,_,_,_,_,_,_,_⟩ := id r_20; obtain ⟨_,_,_,_,_,_⟩ := id n_20; go_wp2_with fail; go_at_call 29; refine (ris_any c _ s20 d kIF _ rfl (by decide) p20).mono ?_; rintro e w21 ⟨a21, s21, v21, hr21, rfl, rfl, hg21, p21, hi21⟩; have G21 : w.grownBy w21 (some c.rb) := gb_trans G20 hg21; have sz21 := hg21.size
    try simp at sz21
    have r_21 : RB w21 (w.heap.size) := RB.keep r_20 hg21 (by omega); have n_21 : NB w21 (w1.heap.size) (.int .i64 16) (.string ⟨#[]⟩) (.int .i64 0) (.int .i64 (pos c.L s.1)) (.slice ad acc.length cp) := NB.keep n_20 hg21 (by omega); have z_21 : LR w21 (In (lo) (w20.heap.size)) (acc) (.slice ad acc.length cp) := LR.call z_20 hg21 (by omega); have r_lt21 := r_21.lt; have n_lt21 := n_21.lt; obtain ⟨_,_,_,_,_,_,_,_,_,_,_⟩ := id r_21; obtain ⟨_,_,_,_,_,_⟩ := id n_21; cases a21
    · obtain ⟨hx, hno⟩ := isQ_false hr21
      have hy := hx.symm; subst hy
      rcases IH with ⟨-, hs9⟩ | ⟨hne9, hnif, hfu, SM⟩
      · rw [hs9] at hno
        exact absurd ⟨hok, hw⟩ hno
      have hl0 : 0 < acc.length := List.length_pos_iff.2 hne9
      have hlb : decide ((0 : Int) < (acc.length : Int)) = true := by simp; omega
      go_wp2_with fail; go_at_call 29; refine (ris_any c _ s20 d kELSIF _ rfl (by decide) p21).mono ?_; rintro e w22 ⟨a22, s22, v22, hr22, rfl, rfl, hg22, p22, hi22⟩; have G22 : w.grownBy w22 (some c.rb) := gb_trans G21 hg22; have sz22 := hg22.size
      try simp at sz22
      have r_22 : RB w22 (w.heap.size) := RB.keep r_21 hg22 (by omega); have n_22 : NB w22 (w1.heap.size) (.int .i64 16) (.string ⟨#[]⟩) (.int .i64 0) (.int .i64 (pos c.L s.1)) (.slice ad acc.length cp) := NB.keep n_21 hg22 (by omega); have z_22 : LR w22 (In (lo) (w20.heap.size)) (acc) (.slice ad acc.length cp) := LR.call z_21 hg22 (by omega); have r_lt22 := r_22.lt; have n_lt22 := n_22.lt; obtain ⟨_,_,_,_,_,_,_,_,_,_,_⟩ := id r_22; obtain ⟨_,_,_,_,_,_⟩ := id n_22; cases a22
      · have SMx := SM.trans (choiceLoopQ_no (fun h9 => by have := hfu h9; omega) hr22)
        have HRx : choiceQ c.L E A s = (((isQ c.L kELSE).bind fun b => if b = true then A.bind fun a => (needQ c.L kEND).bind fun _ => Q.ret (T.mk 16 [] 1 (pos c.L s.1) (acc ++ [a])) else (needQ c.L kEND).bind fun _ => Q.ret (T.mk 16 [] 0 (pos c.L s.1) acc))) s22 := by rw [HR0, SMx]
        go_wp2_with fail; go_at_call 29; refine (ris_any c _ s22 d kELSE _ rfl (by decide) p22).mono ?_; rintro e w23 ⟨a23, s23, v23, hr23, rfl, rfl, hg23, p23, hi23⟩; have HR23 : choiceQ c.L E A s = _ := HRx.trans (Q.bind_eq hr23); have G23 : w.grownBy w23 (some c.rb) := gb_trans G22 hg23; have sz23 := hg23.size
        try simp at sz23
        have r_23 : RB w23 (w.heap.size) := RB.keep r_22 hg23 (by omega); have n_23 : NB w23 (w1.heap.size) (.int .i64 16) (.string ⟨#[]⟩) (.int .i64 0) (.int .i64 (pos c.L s.1)) (.slice ad acc.length cp) := NB.keep n_22 hg23 (by omega); have z_23 : LR w23 (In (lo) (w20.heap.size)) (acc) (.slice ad acc.length cp) := LR.call z_22 hg23 (by omega); have r_lt23 := r_23.lt; have n_lt23 := n_23.lt; obtain ⟨_,_,_,_,_,_,_,_,_,_,_⟩ := id r_23; obtain ⟨_,_,_,_,_,_⟩ := id n_23; cases a23
        · rw [if_neg (by decide)] at HR23
          go_wp2_with fail; go_at_call 27; refine (rneed_any c _ s23 d kEND _ rfl (by decide) p23).mono ?_; rintro e w24 ⟨a24, s24, v24, hr24, rfl, -, hg24, p24, hi24⟩; have HR24 : choiceQ c.L E A s = _ := HR23.trans (Q.bind_eq hr24); have G24 : w.grownBy w24 (some c.rb) := gb_trans G23 hg24; have sz24 := hg24.size
          try simp at sz24
          have r_24 : RB w24 (w.heap.size) := RB.keep r_23 hg24 (by omega); have n_24 : NB w24 (w1.heap.size) (.int .i64 16) (.string ⟨#[]⟩) (.int .i64 0) (.int .i64 (pos c.L s.1)) (.slice ad acc.length cp) := NB.keep n_23 hg24 (by omega); have z_24 : LR w24 (In (lo) (w20.heap.size)) (acc) (.slice ad acc.length cp) := LR.call z_23 hg24 (by omega); have r_lt24 := r_24.lt; have n_lt24 := n_24.lt; obtain ⟨_,_,_,_,_,_,_,_,_,_,_⟩ := id r_24; obtain ⟨_,_,_,_,_,_⟩ := id n_24; go_wp2; refine node_ret Tryz.results46 rfl (RB.five ?_) rfl ?_
          · exact r_24
          refine QSt.ok (a := (T.mk 16 [] 0 (pos c.L s.1) acc)) (HR24) ⟨_, rfl, ?_⟩ ?_ ?_ (by omega)
          · refine LR.wide (lo := lo) (hi := w20.heap.size) (ts := acc) ?_ (by omega) (by first | omega | (simp <;> omega))
            exact LR.p5 z_24 (by omega)
          · exact gb_p5 G24 (by omega)
          · exact RS.p5 p24 HL.out (by omega)
        · rw [if_pos rfl] at HR23
          go_wp2_with fail
          go_region_law (first
            | (go_simp
               go_at_call 32; refine (hA _ s23 (by exact RS.drew (RS.put p23 HL.out (by omega) _ _))).mono ?_; rintro e w24 ⟨⟨k24, n24, m24, q24, l24⟩, s24, v24, hr24, rfl, ⟨sv24, rfl, lr24⟩, hg24, p24, hi24⟩; have HR24 : choiceQ c.L E A s = _ := HR23.trans (Q.bind_eq hr24); simp only [T.kind, T.name, T.num, T.at', T.subs] at lr24 ⊢; obtain ⟨ad24, cp24, rfl⟩ := lr24.form; obtain ⟨b24, hb24, lr24⟩ : ∃ b, b = _ ∧ LR w24 (In b w24.heap.size) l24 (.slice ad24 l24.length cp24) := ⟨_, rfl, lr24⟩
               try simp at hb24
               have G24 : w.grownBy w24 (some c.rb) := gb_trans (by exact gb_drew (gb_put G23 (by omega) _ _)) hg24; have sz24 := hg24.size
               try simp at sz24
               have r_24 : RB w24 (w.heap.size) := RB.keep (by exact RB.drew (RB.put r_23 _ _ _)) hg24 (by omega); have n_24 : NB w24 (w1.heap.size) (.int .i64 16) (.string ⟨#[]⟩) (.int .i64 1) (.int .i64 (pos c.L s.1)) (.slice ad acc.length cp) := NB.keep (by exact NB.drew (NB.s2 n_23 _)) hg24 (by omega); have z_24 : LR w24 (In (lo) (w20.heap.size)) (acc) (.slice ad acc.length cp) := LR.call (by exact LR.drew (LR.put z_23 (by omega) _ _)) hg24 (by omega); have r_lt24 := r_24.lt; have n_lt24 := n_24.lt; obtain ⟨_,_,_,_,_,_,_,_,_,_,_⟩ := id r_24
               obtain ⟨_,_,_,_,_,_⟩ := id n_24)
            | (have hrow25 := z_24.rows
               refine step_appS (v := .slice ad acc.length cp) rfl _ _ rfl (In (lo) (w24.heap.size + 2)) rfl rfl (LR.alloc z_24 _) (LR.build1 w24 (cs := #[.int .i64 k24, .string ⟨n24.toArray⟩, .int .i64 m24, .int .i64 q24, .slice ad24 l24.length cp24]) (t := (T.mk k24 n24 m24 q24 l24)) (sv := .slice ad24 l24.length cp24) lr24 rfl rfl (by omega))
                 (fun k hk e => by have h1 := hrow25 k e; have h2 : b24 ≤ k := hk.1; omega) (fun k hk => ⟨hk.1, by have h : k < w20.heap.size := hk.2; omega⟩) (fun k hk => ⟨by have h : b24 ≤ k := hk.1; omega, by have h : k < w24.heap.size + 1 := hk.2; omega⟩) ⟨by simp; omega, by simp⟩ (by simp; try omega) ?_
               intro v25 w25 lr25 hg25; obtain ⟨ad25, cp25, e25⟩ := lr25.form; simp only [List.length_append, List.length_cons, List.length_nil] at e25; have e25 : v25 = .slice ad25 (acc.length + 1) cp25 := e25; subst e25; have sz25 := hg25.size
               try simp at sz25
               have r_25 : RB w25 (w.heap.size) := RB.kept (RB.alloc r_24 _) hg25 (fun e => by have := hrow25 _ e.symm; omega); have n_25 : NB w25 (w1.heap.size) (.int .i64 16) (.string ⟨#[]⟩) (.int .i64 1) (.int .i64 (pos c.L s.1)) (.slice ad acc.length cp) := NB.kept (NB.alloc n_24 _) hg25 (fun e => by have := hrow25 _ e.symm; omega); have p25 : RS c w25 s24 d := RS.own (RS.alloc p24 _) HL.out hg25 (fun b hb => by have := hrow25 b hb; omega); have G25 : w.grownBy w25 (some c.rb) := gb_own (gb_alloc G24 _) hg25 (fun b hb => by have := hrow25 b hb; omega); have r_lt25 := r_25.lt; have n_lt25 := n_25.lt; obtain ⟨_,_,_,_,_,_,_,_,_,_,_⟩ := id r_25
               obtain ⟨_,_,_,_,_,_⟩ := id n_25))
          all_goals
            have lz25 : LR w25 (In (lo) w25.heap.size) (acc ++ [(T.mk k24 n24 m24 q24 l24)]) (.slice ad25 (acc.length + 1) cp25) := lr25.bounded.mono (fun k hk => ⟨hk.1.1, hk.2⟩); go_wp2_with fail; go_at_call 27; refine (rneed_any c _ s24 d kEND _ rfl (by decide) (by exact RS.put p25 HL.out (by omega) _ _)).mono ?_; rintro e w26 ⟨a26, s26, v26, hr26, rfl, -, hg26, p26, hi26⟩; have HR26 : choiceQ c.L E A s = _ := HR24.trans (Q.bind_eq hr26); have G26 : w.grownBy w26 (some c.rb) := gb_trans (by exact gb_put G25 (by omega) _ _) hg26; have sz26 := hg26.size
            try simp at sz26
            have r_26 : RB w26 (w.heap.size) := RB.keep (by exact RB.put r_25 _ _ _) hg26 (by omega); have n_26 : NB w26 (w1.heap.size) (.int .i64 16) (.string ⟨#[]⟩) (.int .i64 1) (.int .i64 (pos c.L s.1)) (.slice ad25 (acc.length + 1) cp25) := NB.keep (by exact NB.s4 n_25 _) hg26 (by omega); have z_26 : LR w26 (In (lo) (w25.heap.size)) ((acc ++ [(T.mk k24 n24 m24 q24 l24)])) (.slice ad25 (acc.length + 1) cp25) := LR.call (by exact LR.put lz25 (by omega) _ _) hg26 (by omega); have r_lt26 := r_26.lt; have n_lt26 := n_26.lt; obtain ⟨_,_,_,_,_,_,_,_,_,_,_⟩ := id r_26; obtain ⟨_,_,_,_,_,_⟩ := id n_26; go_wp2; refine node_ret Tryz.results46 rfl (RB.five ?_) rfl ?_
            · exact r_26
            refine QSt.ok (a := (T.mk 16 [] 1 (pos c.L s.1) (acc ++ [(T.mk k24 n24 m24 q24 l24)]))) (HR26) ⟨_, rfl, ?_⟩ ?_ ?_ (by omega)
            · refine LR.wide (lo := lo) (hi := w25.heap.size) (ts := (acc ++ [(T.mk k24 n24 m24 q24 l24)])) ?_ (by omega) (by first | omega | (simp <;> omega))
              exact LR.p5 z_26 (by omega)
            · exact gb_p5 G26 (by omega)
            · exact RS.p5 p26 HL.out (by omega)
      · obtain ⟨hok20, -, hsx⟩ := isQ_true hr22
        have hf20 := hfu hok20; have SMx := SM.trans (choiceLoopQ_yes (by omega) hr22)
        have hp20 : s22.1 = s20.1 + 1 := by rw [hsx]
        go_wp2_with fail; go_at_call 68; refine (hE _ s22 p22).mono ?_; rintro e w23 ⟨⟨k23, n23, m23, q23, l23⟩, s23, v23, hr23, rfl, ⟨sv23, rfl, lr23⟩, hg23, p23, hi23⟩; simp only [T.kind, T.name, T.num, T.at', T.subs] at lr23 ⊢; obtain ⟨ad23, cp23, rfl⟩ := lr23.form; obtain ⟨b23, hb23, lr23⟩ : ∃ b, b = _ ∧ LR w23 (In b w23.heap.size) l23 (.slice ad23 l23.length cp23) := ⟨_, rfl, lr23⟩
        try simp at hb23
        have G23 : w.grownBy w23 (some c.rb) := gb_trans G22 hg23; have sz23 := hg23.size
        try simp at sz23
        have r_23 : RB w23 (w.heap.size) := RB.keep r_22 hg23 (by omega); have n_23 : NB w23 (w1.heap.size) (.int .i64 16) (.string ⟨#[]⟩) (.int .i64 0) (.int .i64 (pos c.L s.1)) (.slice ad acc.length cp) := NB.keep n_22 hg23 (by omega); have z_23 : LR w23 (In (lo) (w20.heap.size)) (acc) (.slice ad acc.length cp) := LR.call z_22 hg23 (by omega); have r_lt23 := r_23.lt; have n_lt23 := n_23.lt; obtain ⟨_,_,_,_,_,_,_,_,_,_,_⟩ := id r_23; obtain ⟨_,_,_,_,_,_⟩ := id n_23; go_wp2_with fail; go_at_call 27; refine (rneed_any c _ s23 d kTHEN _ rfl (by decide) (by exact RS.alloc p23 _)).mono ?_; rintro e w24 ⟨a24, s24, v24, hr24, rfl, -, hg24, p24, hi24⟩; have G24 : w.grownBy w24 (some c.rb) := gb_trans (by exact gb_alloc G23 _) hg24; have sz24 := hg24.size
        try simp at sz24
        have r_24 : RB w24 (w.heap.size) := RB.keep (by exact RB.alloc r_23 _) hg24 (by omega); have n_24 : NB w24 (w1.heap.size) (.int .i64 16) (.string ⟨#[]⟩) (.int .i64 0) (.int .i64 (pos c.L s.1)) (.slice ad acc.length cp) := NB.keep (by exact NB.alloc n_23 _) hg24 (by omega); have cc_24 : NB w24 (w23.heap.size) (.int .i64 k23) (.string ⟨n23.toArray⟩) (.int .i64 m23) (.int .i64 q23) (.slice ad23 l23.length cp23) := NB.keep (NB.new' (by simp)) hg24 (by omega); have z_24 : LR w24 (In (lo) (w20.heap.size)) (acc) (.slice ad acc.length cp) := LR.call (by exact LR.alloc z_23 _) hg24 (by omega); have x_24 : LR w24 (In (b23) (w23.heap.size)) (l23) (.slice ad23 l23.length cp23) := LR.call (by exact LR.alloc lr23 _) hg24 (by omega); have r_lt24 := r_24.lt; have n_lt24 := n_24.lt; have cc_lt24 := cc_24.lt; obtain ⟨_,_,_,_,_,_,_,_,_,_,_⟩ := id r_24; obtain ⟨_,_,_,_,_,_⟩ := id n_24; obtain ⟨_,_,_,_,_,_⟩ := id cc_24; go_wp2_with fail
        go_region_law (first
          | (go_simp
             go_at_call 32; refine (hA _ s24 (by exact RS.drew p24)).mono ?_; rintro e w25 ⟨⟨k25, n25, m25, q25, l25⟩, s25, v25, hr25, rfl, ⟨sv25, rfl, lr25⟩, hg25, p25, hi25⟩; simp only [T.kind, T.name, T.num, T.at', T.subs] at lr25 ⊢; obtain ⟨ad25, cp25, rfl⟩ := lr25.form; obtain ⟨b25, hb25, lr25⟩ : ∃ b, b = _ ∧ LR w25 (In b w25.heap.size) l25 (.slice ad25 l25.length cp25) := ⟨_, rfl, lr25⟩
             try simp at hb25
             have G25 : w.grownBy w25 (some c.rb) := gb_trans (by exact gb_drew G24) hg25; have sz25 := hg25.size
             try simp at sz25
             have r_25 : RB w25 (w.heap.size) := RB.keep (by exact RB.drew r_24) hg25 (by omega); have n_25 : NB w25 (w1.heap.size) (.int .i64 16) (.string ⟨#[]⟩) (.int .i64 0) (.int .i64 (pos c.L s.1)) (.slice ad acc.length cp) := NB.keep (by exact NB.drew n_24) hg25 (by omega); have cc_25 : NB w25 (w23.heap.size) (.int .i64 k23) (.string ⟨n23.toArray⟩) (.int .i64 m23) (.int .i64 q23) (.slice ad23 l23.length cp23) := NB.keep (by exact NB.drew cc_24) hg25 (by omega); have z_25 : LR w25 (In (lo) (w20.heap.size)) (acc) (.slice ad acc.length cp) := LR.call (by exact LR.drew z_24) hg25 (by omega); have x_25 : LR w25 (In (b23) (w23.heap.size)) (l23) (.slice ad23 l23.length cp23) := LR.call (by exact LR.drew x_24) hg25 (by omega); have r_lt25 := r_25.lt; have n_lt25 := n_25.lt; have cc_lt25 := cc_25.lt; obtain ⟨_,_,_,_,_,_,_,_,_,_,_⟩ := id r_25; obtain ⟨_,_,_,_,_,_⟩ := id n_25
             obtain ⟨_,_,_,_,_,_⟩ := id cc_25)
          | (have hrow26 := z_25.rows
             refine step_appS (v := .slice ad acc.length cp) rfl _ _ rfl (In (lo) (w25.heap.size + 2)) rfl rfl (LR.alloc z_25 _) (LR.build2 w25 (lo := b23) (g := w25.heap.size) (cs := #[.int .i64 k23, .string ⟨n23.toArray⟩, .int .i64 m23, .int .i64 q23, .slice ad23 l23.length cp23, .int .i64 k25, .string ⟨n25.toArray⟩, .int .i64 m25, .int .i64 q25, .slice ad25 l25.length cp25]) (t := (T.mk k23 n23 m23 q23 l23)) (t2 := (T.mk k25 n25 m25 q25 l25)) (sv := .slice ad23 l23.length cp23) (sv2 := .slice ad25 l25.length cp25) (LR.wide x_25 (by omega) (by omega)) (LR.wide lr25 (by omega) (by omega)) rfl rfl (by omega))
               (fun k hk e => by have h1 := hrow26 k e; have h2 : b23 ≤ k := hk.1; omega) (fun k hk => ⟨hk.1, by have h : k < w20.heap.size := hk.2; omega⟩) (fun k hk => ⟨by have h : b23 ≤ k := hk.1; omega, by have h : k < w25.heap.size + 1 := hk.2; omega⟩) ⟨by simp; omega, by simp⟩ (by simp; try omega) ?_
             intro v26 w26 lr26 hg26; obtain ⟨ad26, cp26, e26⟩ := lr26.form; rw [List.length_append] at e26; have e26 : v26 = .slice ad26 (acc.length + 2) cp26 := e26; subst e26; have sz26 := hg26.size
             try simp at sz26
             have r_26 : RB w26 (w.heap.size) := RB.kept (RB.alloc r_25 _) hg26 (fun e => by have := hrow26 _ e.symm; omega); have n_26 : NB w26 (w1.heap.size) (.int .i64 16) (.string ⟨#[]⟩) (.int .i64 0) (.int .i64 (pos c.L s.1)) (.slice ad acc.length cp) := NB.kept (NB.alloc n_25 _) hg26 (fun e => by have := hrow26 _ e.symm; omega); have cc_26 : NB w26 (w23.heap.size) (.int .i64 k23) (.string ⟨n23.toArray⟩) (.int .i64 m23) (.int .i64 q23) (.slice ad23 l23.length cp23) := NB.kept (NB.alloc cc_25 _) hg26 (fun e => by have := hrow26 _ e.symm; omega); have p26 : RS c w26 s25 d := RS.own (RS.alloc p25 _) HL.out hg26 (fun b hb => by have := hrow26 b hb; omega); have G26 : w.grownBy w26 (some c.rb) := gb_own (gb_alloc G25 _) hg26 (fun b hb => by have := hrow26 b hb; omega); have r_lt26 := r_26.lt; have n_lt26 := n_26.lt; have cc_lt26 := cc_26.lt; obtain ⟨_,_,_,_,_,_,_,_,_,_,_⟩ := id r_26; obtain ⟨_,_,_,_,_,_⟩ := id n_26
             obtain ⟨_,_,_,_,_,_⟩ := id cc_26))
        all_goals
          have lz26 : LR w26 (In (lo) w26.heap.size) (acc ++ [(T.mk k23 n23 m23 q23 l23), (T.mk k25 n25 m25 q25 l25)]) (.slice ad26 (acc.length + 2) cp26) := lr26.bounded.mono (fun k hk => ⟨hk.1.1, hk.2⟩); have SMn : r9 = choiceLoopQ c.L E A (f - 1) (acc ++ [(T.mk k23 n23 m23 q23 l23), (T.mk k25 n25 m25 q25 l25)]) s25 := SMx.trans (branchQ_eq hr23 hr24 hr25); go_wp2_with fail; go_at_call 12; refine (rok_any c _ s25 d (by exact RS.put p26 HL.out (by omega) _ _)).mono ?_; rintro e w27 ⟨rfl, hg27⟩; have p27 : RS c w27 s25 d := RS.grown (by exact RS.put p26 HL.out (by omega) _ _) hg27; have G27 : w.grownBy w27 (some c.rb) := gb_trans (by exact gb_put G26 (by omega) _ _) (gb_some hg27 (some c.rb)); have sz27 := hg27.size
          try simp at sz27
          have r_27 : RB w27 (w.heap.size) := RB.kept (by exact RB.put r_26 _ _ _) hg27 (by simp); have n_27 : NB w27 (w1.heap.size) (.int .i64 16) (.string ⟨#[]⟩) (.int .i64 0) (.int .i64 (pos c.L s.1)) (.slice ad26 (acc.length + 2) cp26) := NB.kept (by exact NB.s4 n_26 _) hg27 (by simp); have z_27 : LR w27 (In (lo) (w26.heap.size)) ((acc ++ [(T.mk k23 n23 m23 q23 l23), (T.mk k25 n25 m25 q25 l25)])) (.slice ad26 (acc.length + 2) cp26) := LR.grown (by exact LR.put lz26 (by omega) _ _) hg27; have r_lt27 := r_27.lt; have n_lt27 := n_27.lt; obtain ⟨_,_,_,_,_,_,_,_,_,_,_⟩ := id r_27; obtain ⟨_,_,_,_,_,_⟩ := id n_27
          by_cases hok3 : s25.2 = none
          · have hokb3 : decide (s25.2 = none) = true := decide_eq_true hok3
            try simp only [hokb3]
            go_wp2_with fail; go_at_call 13; refine (rword_any c _ s25 d p27).mono ?_; rintro e w28 ⟨rfl, hg28⟩; have p28 : RS c w28 s25 d := RS.grown p27 hg28; have G28 : w.grownBy w28 (some c.rb) := gb_trans G27 (gb_some hg28 (some c.rb)); have sz28 := hg28.size
            try simp at sz28
            have r_28 : RB w28 (w.heap.size) := RB.kept r_27 hg28 (by simp); have n_28 : NB w28 (w1.heap.size) (.int .i64 16) (.string ⟨#[]⟩) (.int .i64 0) (.int .i64 (pos c.L s.1)) (.slice ad26 (acc.length + 2) cp26) := NB.kept n_27 hg28 (by simp); have z_28 : LR w28 (In (lo) (w26.heap.size)) ((acc ++ [(T.mk k23 n23 m23 q23 l23), (T.mk k25 n25 m25 q25 l25)])) (.slice ad26 (acc.length + 2) cp26) := LR.grown z_27 hg28; have r_lt28 := r_28.lt; have n_lt28 := n_28.lt; obtain ⟨_,_,_,_,_,_,_,_,_,_,_⟩ := id r_28; obtain ⟨_,_,_,_,_,_⟩ := id n_28
            by_cases hif : wd c.L s25.1 = kIF
            · have hwi : (wd c.L s25.1 == [73, 70]) = true := by rw [hif]; decide
              have hni : isQ c.L kELSIF s25 = (false, s25) := by unfold isQ; rw [if_neg (fun h => by rw [hif] at h; exact absurd h.2 (by decide))]
              have HRx : choiceQ c.L E A s = (((isQ c.L kELSE).bind fun b => if b = true then A.bind fun a => (needQ c.L kEND).bind fun _ => Q.ret (T.mk 16 [] 1 (pos c.L s.1) ((acc ++ [(T.mk k23 n23 m23 q23 l23), (T.mk k25 n25 m25 q25 l25)]) ++ [a])) else (needQ c.L kEND).bind fun _ => Q.ret (T.mk 16 [] 0 (pos c.L s.1) (acc ++ [(T.mk k23 n23 m23 q23 l23), (T.mk k25 n25 m25 q25 l25)])))) s25 := by rw [HR0, SMn.trans (choiceLoopQ_no (fun h9 => by have := p28.il; omega) hni)]
              go_wp2_with fail; go_at_call 29; refine (ris_any c _ s25 d kELSE _ rfl (by decide) p28).mono ?_; rintro e w29 ⟨a29, s29, v29, hr29, rfl, rfl, hg29, p29, hi29⟩; have HR29 : choiceQ c.L E A s = _ := HRx.trans (Q.bind_eq hr29); have G29 : w.grownBy w29 (some c.rb) := gb_trans G28 hg29; have sz29 := hg29.size
              try simp at sz29
              have r_29 : RB w29 (w.heap.size) := RB.keep r_28 hg29 (by omega); have n_29 : NB w29 (w1.heap.size) (.int .i64 16) (.string ⟨#[]⟩) (.int .i64 0) (.int .i64 (pos c.L s.1)) (.slice ad26 (acc.length + 2) cp26) := NB.keep n_28 hg29 (by omega); have z_29 : LR w29 (In (lo) (w26.heap.size)) ((acc ++ [(T.mk k23 n23 m23 q23 l23), (T.mk k25 n25 m25 q25 l25)])) (.slice ad26 (acc.length + 2) cp26) := LR.call z_28 hg29 (by omega); have r_lt29 := r_29.lt; have n_lt29 := n_29.lt; obtain ⟨_,_,_,_,_,_,_,_,_,_,_⟩ := id r_29; obtain ⟨_,_,_,_,_,_⟩ := id n_29; cases a29
              · rw [if_neg (by decide)] at HR29
                go_wp2_with fail; go_at_call 27; refine (rneed_any c _ s29 d kEND _ rfl (by decide) p29).mono ?_; rintro e w30 ⟨a30, s30, v30, hr30, rfl, -, hg30, p30, hi30⟩; have HR30 : choiceQ c.L E A s = _ := HR29.trans (Q.bind_eq hr30); have G30 : w.grownBy w30 (some c.rb) := gb_trans G29 hg30; have sz30 := hg30.size
                try simp at sz30
                have r_30 : RB w30 (w.heap.size) := RB.keep r_29 hg30 (by omega); have n_30 : NB w30 (w1.heap.size) (.int .i64 16) (.string ⟨#[]⟩) (.int .i64 0) (.int .i64 (pos c.L s.1)) (.slice ad26 (acc.length + 2) cp26) := NB.keep n_29 hg30 (by omega); have z_30 : LR w30 (In (lo) (w26.heap.size)) ((acc ++ [(T.mk k23 n23 m23 q23 l23), (T.mk k25 n25 m25 q25 l25)])) (.slice ad26 (acc.length + 2) cp26) := LR.call z_29 hg30 (by omega); have r_lt30 := r_30.lt; have n_lt30 := n_30.lt; obtain ⟨_,_,_,_,_,_,_,_,_,_,_⟩ := id r_30; obtain ⟨_,_,_,_,_,_⟩ := id n_30; go_wp2; refine node_ret Tryz.results46 rfl (RB.five ?_) rfl ?_
                · exact r_30
                refine QSt.ok (a := (T.mk 16 [] 0 (pos c.L s.1) (acc ++ [(T.mk k23 n23 m23 q23 l23), (T.mk k25 n25 m25 q25 l25)]))) (HR30) ⟨_, rfl, ?_⟩ ?_ ?_ (by omega)
                · refine LR.wide (lo := lo) (hi := w26.heap.size) (ts := (acc ++ [(T.mk k23 n23 m23 q23 l23), (T.mk k25 n25 m25 q25 l25)])) ?_ (by omega) (by first | omega | (simp <;> omega))
                  exact LR.p5 z_30 (by omega)
                · exact gb_p5 G30 (by omega)
                · exact RS.p5 p30 HL.out (by omega)
              · rw [if_pos rfl] at HR29
                go_wp2_with fail
                go_region_law (first
                  | (go_simp
                     go_at_call 32; refine (hA _ s29 (by exact RS.drew (RS.put p29 HL.out (by omega) _ _))).mono ?_; rintro e w30 ⟨⟨k30, n30, m30, q30, l30⟩, s30, v30, hr30, rfl, ⟨sv30, rfl, lr30⟩, hg30, p30, hi30⟩; have HR30 : choiceQ c.L E A s = _ := HR29.trans (Q.bind_eq hr30); simp only [T.kind, T.name, T.num, T.at', T.subs] at lr30 ⊢; obtain ⟨ad30, cp30, rfl⟩ := lr30.form; obtain ⟨b30, hb30, lr30⟩ : ∃ b, b = _ ∧ LR w30 (In b w30.heap.size) l30 (.slice ad30 l30.length cp30) := ⟨_, rfl, lr30⟩
                     try simp at hb30
                     have G30 : w.grownBy w30 (some c.rb) := gb_trans (by exact gb_drew (gb_put G29 (by omega) _ _)) hg30; have sz30 := hg30.size
                     try simp at sz30
                     have r_30 : RB w30 (w.heap.size) := RB.keep (by exact RB.drew (RB.put r_29 _ _ _)) hg30 (by omega); have n_30 : NB w30 (w1.heap.size) (.int .i64 16) (.string ⟨#[]⟩) (.int .i64 1) (.int .i64 (pos c.L s.1)) (.slice ad26 (acc.length + 2) cp26) := NB.keep (by exact NB.drew (NB.s2 n_29 _)) hg30 (by omega); have z_30 : LR w30 (In (lo) (w26.heap.size)) ((acc ++ [(T.mk k23 n23 m23 q23 l23), (T.mk k25 n25 m25 q25 l25)])) (.slice ad26 (acc.length + 2) cp26) := LR.call (by exact LR.drew (LR.put z_29 (by omega) _ _)) hg30 (by omega); have r_lt30 := r_30.lt; have n_lt30 := n_30.lt; obtain ⟨_,_,_,_,_,_,_,_,_,_,_⟩ := id r_30
                     obtain ⟨_,_,_,_,_,_⟩ := id n_30)
                  | (have hrow31 := z_30.rows
                     refine step_appS (v := .slice ad26 (acc.length + 2) cp26) rfl _ _ rfl (In (lo) (w30.heap.size + 2)) rfl rfl (LR.alloc z_30 _) (LR.build1 w30 (cs := #[.int .i64 k30, .string ⟨n30.toArray⟩, .int .i64 m30, .int .i64 q30, .slice ad30 l30.length cp30]) (t := (T.mk k30 n30 m30 q30 l30)) (sv := .slice ad30 l30.length cp30) lr30 rfl rfl (by omega))
                       (fun k hk e => by have h1 := hrow31 k e; have h2 : b30 ≤ k := hk.1; omega) (fun k hk => ⟨hk.1, by have h : k < w26.heap.size := hk.2; omega⟩) (fun k hk => ⟨by have h : b30 ≤ k := hk.1; omega, by have h : k < w30.heap.size + 1 := hk.2; omega⟩) ⟨by simp; omega, by simp⟩ (by simp; try omega) ?_
                     intro v31 w31 lr31 hg31; obtain ⟨ad31, cp31, e31⟩ := lr31.form; simp only [List.length_append, List.length_cons, List.length_nil] at e31; have e31 : v31 = .slice ad31 (acc.length + 2 + 1) cp31 := e31; subst e31; have sz31 := hg31.size
                     try simp at sz31
                     have r_31 : RB w31 (w.heap.size) := RB.kept (RB.alloc r_30 _) hg31 (fun e => by have := hrow31 _ e.symm; omega); have n_31 : NB w31 (w1.heap.size) (.int .i64 16) (.string ⟨#[]⟩) (.int .i64 1) (.int .i64 (pos c.L s.1)) (.slice ad26 (acc.length + 2) cp26) := NB.kept (NB.alloc n_30 _) hg31 (fun e => by have := hrow31 _ e.symm; omega); have p31 : RS c w31 s30 d := RS.own (RS.alloc p30 _) HL.out hg31 (fun b hb => by have := hrow31 b hb; omega); have G31 : w.grownBy w31 (some c.rb) := gb_own (gb_alloc G30 _) hg31 (fun b hb => by have := hrow31 b hb; omega); have r_lt31 := r_31.lt; have n_lt31 := n_31.lt; obtain ⟨_,_,_,_,_,_,_,_,_,_,_⟩ := id r_31
                     obtain ⟨_,_,_,_,_,_⟩ := id n_31))
                all_goals
                  have lz31 : LR w31 (In (lo) w31.heap.size) ((acc ++ [(T.mk k23 n23 m23 q23 l23), (T.mk k25 n25 m25 q25 l25)]) ++ [(T.mk k30 n30 m30 q30 l30)]) (.slice ad31 (acc.length + 2 + 1) cp31) := lr31.bounded.mono (fun k hk => ⟨hk.1.1, hk.2⟩); go_wp2_with fail; go_at_call 27; refine (rneed_any c _ s30 d kEND _ rfl (by decide) (by exact RS.put p31 HL.out (by omega) _ _)).mono ?_; rintro e w32 ⟨a32, s32, v32, hr32, rfl, -, hg32, p32, hi32⟩; have HR32 : choiceQ c.L E A s = _ := HR30.trans (Q.bind_eq hr32); have G32 : w.grownBy w32 (some c.rb) := gb_trans (by exact gb_put G31 (by omega) _ _) hg32; have sz32 := hg32.size
                  try simp at sz32
                  have r_32 : RB w32 (w.heap.size) := RB.keep (by exact RB.put r_31 _ _ _) hg32 (by omega); have n_32 : NB w32 (w1.heap.size) (.int .i64 16) (.string ⟨#[]⟩) (.int .i64 1) (.int .i64 (pos c.L s.1)) (.slice ad31 (acc.length + 2 + 1) cp31) := NB.keep (by exact NB.s4 n_31 _) hg32 (by omega); have z_32 : LR w32 (In (lo) (w31.heap.size)) (((acc ++ [(T.mk k23 n23 m23 q23 l23), (T.mk k25 n25 m25 q25 l25)]) ++ [(T.mk k30 n30 m30 q30 l30)])) (.slice ad31 (acc.length + 2 + 1) cp31) := LR.call (by exact LR.put lz31 (by omega) _ _) hg32 (by omega); have r_lt32 := r_32.lt; have n_lt32 := n_32.lt; obtain ⟨_,_,_,_,_,_,_,_,_,_,_⟩ := id r_32; obtain ⟨_,_,_,_,_,_⟩ := id n_32; go_wp2; refine node_ret Tryz.results46 rfl (RB.five ?_) rfl ?_
                  · exact r_32
                  refine QSt.ok (a := (T.mk 16 [] 1 (pos c.L s.1) ((acc ++ [(T.mk k23 n23 m23 q23 l23), (T.mk k25 n25 m25 q25 l25)]) ++ [(T.mk k30 n30 m30 q30 l30)]))) (HR32) ⟨_, rfl, ?_⟩ ?_ ?_ (by omega)
                  · refine LR.wide (lo := lo) (hi := w31.heap.size) (ts := ((acc ++ [(T.mk k23 n23 m23 q23 l23), (T.mk k25 n25 m25 q25 l25)]) ++ [(T.mk k30 n30 m30 q30 l30)])) ?_ (by omega) (by first | omega | (simp <;> omega))
                    exact LR.p5 z_32 (by omega)
                  · exact gb_p5 G32 (by omega)
                  · exact RS.p5 p32 HL.out (by omega)
            · have hwi : (wd c.L s25.1 == [73, 70]) = false := by simpa [kIF] using hif
              go_wp2
              go_roundw
              case rel => (repeat apply Exists.intro); exact ⟨⟨(acc ++ [(T.mk k23 n23 m23 q23 l23), (T.mk k25 n25 m25 q25 l25)]), .slice ad26 (acc.length + 2) cp26, s25, f - 1, lo, n_28, r_28, hlo3, IQ.mk (LR.wide z_28 (Nat.le_refl _) (by omega)) p28 G28 (by omega) (by omega) (by simp; omega) (.inr ⟨by simp, fun _ => hif, fun h9 => by omega, SMn⟩)⟩, rfl⟩
              case measure => exact HPS.out.left_less p28 hok20 (fun h9 => by omega) hjl
          · have hokb3 : decide (s25.2 = none) = false := decide_eq_false hok3
            try simp only [hokb3]
            go_wp2
            go_roundw
            case rel => (repeat apply Exists.intro); exact ⟨⟨(acc ++ [(T.mk k23 n23 m23 q23 l23), (T.mk k25 n25 m25 q25 l25)]), .slice ad26 (acc.length + 2) cp26, s25, f - 1, lo, n_27, r_27, hlo3, IQ.mk (LR.wide z_27 (Nat.le_refl _) (by omega)) p27 G27 (by omega) (by omega) (by simp; omega) (.inr ⟨by simp, fun h9 => absurd h9 hok3, fun h9 => by omega, SMn⟩)⟩, rfl⟩
            case measure => exact HPS.out.left_less p27 hok20 (fun h9 => by omega) hjl
    · obtain ⟨hok20, hwi20, hsx⟩ := isQ_true hr21
      rcases IH.symm with ⟨-, hnif, -, -⟩ | ⟨ha9, hs9⟩
      · exact absurd hwi20 (hnif hok20)
      subst ha9
      have hp20 : s21.1 = s20.1 + 1 := by rw [hsx]
      have SMx : r9 = ((branchQ c.L E A).bind fun l => choiceLoopQ c.L E A c.L.length l) s21 := by rw [hr9, hsx, hs9]
      have zz9 : LR w21 (In (lo) (w20.heap.size)) [] (.slice ad 0 cp) := z_21; have nn9 : NB w21 (w1.heap.size) (.int .i64 16) (.string ⟨#[]⟩) (.int .i64 0) (.int .i64 (pos c.L s.1)) (.slice ad 0 cp) := n_21; have nnl := nn9.lt; obtain ⟨q0, q1, q2, q3, q4, q5⟩ := id nn9; go_wp2_with fail; go_at_call 68; refine (hE _ s21 p21).mono ?_; rintro e w22 ⟨⟨k22, n22, m22, q22, l22⟩, s22, v22, hr22, rfl, ⟨sv22, rfl, lr22⟩, hg22, p22, hi22⟩; simp only [T.kind, T.name, T.num, T.at', T.subs] at lr22 ⊢; obtain ⟨ad22, cp22, rfl⟩ := lr22.form; obtain ⟨b22, hb22, lr22⟩ : ∃ b, b = _ ∧ LR w22 (In b w22.heap.size) l22 (.slice ad22 l22.length cp22) := ⟨_, rfl, lr22⟩
      try simp at hb22
      have G22 : w.grownBy w22 (some c.rb) := gb_trans G21 hg22; have sz22 := hg22.size
      try simp at sz22
      have r_22 : RB w22 (w.heap.size) := RB.keep r_21 hg22 (by omega); have n_22 : NB w22 (w1.heap.size) (.int .i64 16) (.string ⟨#[]⟩) (.int .i64 0) (.int .i64 (pos c.L s.1)) (.slice ad 0 cp) := NB.keep nn9 hg22 (by omega); have z_22 : LR w22 (In (lo) (w20.heap.size)) ([]) (.slice ad 0 cp) := LR.call zz9 hg22 (by omega); have r_lt22 := r_22.lt; have n_lt22 := n_22.lt; obtain ⟨_,_,_,_,_,_,_,_,_,_,_⟩ := id r_22; obtain ⟨_,_,_,_,_,_⟩ := id n_22; go_wp2_with fail; go_at_call 27; refine (rneed_any c _ s22 d kTHEN _ rfl (by decide) (by exact RS.alloc p22 _)).mono ?_; rintro e w23 ⟨a23, s23, v23, hr23, rfl, -, hg23, p23, hi23⟩; have G23 : w.grownBy w23 (some c.rb) := gb_trans (by exact gb_alloc G22 _) hg23; have sz23 := hg23.size
      try simp at sz23
      have r_23 : RB w23 (w.heap.size) := RB.keep (by exact RB.alloc r_22 _) hg23 (by omega); have n_23 : NB w23 (w1.heap.size) (.int .i64 16) (.string ⟨#[]⟩) (.int .i64 0) (.int .i64 (pos c.L s.1)) (.slice ad 0 cp) := NB.keep (by exact NB.alloc n_22 _) hg23 (by omega); have cc_23 : NB w23 (w22.heap.size) (.int .i64 k22) (.string ⟨n22.toArray⟩) (.int .i64 m22) (.int .i64 q22) (.slice ad22 l22.length cp22) := NB.keep (NB.new' (by simp)) hg23 (by omega); have z_23 : LR w23 (In (lo) (w20.heap.size)) ([]) (.slice ad 0 cp) := LR.call (by exact LR.alloc z_22 _) hg23 (by omega); have x_23 : LR w23 (In (b22) (w22.heap.size)) (l22) (.slice ad22 l22.length cp22) := LR.call (by exact LR.alloc lr22 _) hg23 (by omega); have r_lt23 := r_23.lt; have n_lt23 := n_23.lt; have cc_lt23 := cc_23.lt; obtain ⟨_,_,_,_,_,_,_,_,_,_,_⟩ := id r_23; obtain ⟨_,_,_,_,_,_⟩ := id n_23; obtain ⟨_,_,_,_,_,_⟩ := id cc_23; go_wp2_with fail
      go_region_law (first
        | (go_simp
           go_at_call 32; refine (hA _ s23 (by exact RS.drew p23)).mono ?_; rintro e w24 ⟨⟨k24, n24, m24, q24, l24⟩, s24, v24, hr24, rfl, ⟨sv24, rfl, lr24⟩, hg24, p24, hi24⟩; simp only [T.kind, T.name, T.num, T.at', T.subs] at lr24 ⊢; obtain ⟨ad24, cp24, rfl⟩ := lr24.form; obtain ⟨b24, hb24, lr24⟩ : ∃ b, b = _ ∧ LR w24 (In b w24.heap.size) l24 (.slice ad24 l24.length cp24) := ⟨_, rfl, lr24⟩
           try simp at hb24
           have G24 : w.grownBy w24 (some c.rb) := gb_trans (by exact gb_drew G23) hg24; have sz24 := hg24.size
           try simp at sz24
           have r_24 : RB w24 (w.heap.size) := RB.keep (by exact RB.drew r_23) hg24 (by omega); have n_24 : NB w24 (w1.heap.size) (.int .i64 16) (.string ⟨#[]⟩) (.int .i64 0) (.int .i64 (pos c.L s.1)) (.slice ad 0 cp) := NB.keep (by exact NB.drew n_23) hg24 (by omega); have cc_24 : NB w24 (w22.heap.size) (.int .i64 k22) (.string ⟨n22.toArray⟩) (.int .i64 m22) (.int .i64 q22) (.slice ad22 l22.length cp22) := NB.keep (by exact NB.drew cc_23) hg24 (by omega); have z_24 : LR w24 (In (lo) (w20.heap.size)) ([]) (.slice ad 0 cp) := LR.call (by exact LR.drew z_23) hg24 (by omega); have x_24 : LR w24 (In (b22) (w22.heap.size)) (l22) (.slice ad22 l22.length cp22) := LR.call (by exact LR.drew x_23) hg24 (by omega); have r_lt24 := r_24.lt; have n_lt24 := n_24.lt; have cc_lt24 := cc_24.lt; obtain ⟨_,_,_,_,_,_,_,_,_,_,_⟩ := id r_24; obtain ⟨_,_,_,_,_,_⟩ := id n_24
           obtain ⟨_,_,_,_,_,_⟩ := id cc_24)
        | (have hrow25 := z_24.rows
           refine step_appS (v := .slice ad 0 cp) rfl _ _ rfl (In (lo) (w24.heap.size + 2)) rfl rfl (LR.alloc z_24 _) (LR.build2 w24 (lo := b22) (g := w24.heap.size) (cs := #[.int .i64 k22, .string ⟨n22.toArray⟩, .int .i64 m22, .int .i64 q22, .slice ad22 l22.length cp22, .int .i64 k24, .string ⟨n24.toArray⟩, .int .i64 m24, .int .i64 q24, .slice ad24 l24.length cp24]) (t := (T.mk k22 n22 m22 q22 l22)) (t2 := (T.mk k24 n24 m24 q24 l24)) (sv := .slice ad22 l22.length cp22) (sv2 := .slice ad24 l24.length cp24) (LR.wide x_24 (by omega) (by omega)) (LR.wide lr24 (by omega) (by omega)) rfl rfl (by omega))
             (fun k hk e => by have h1 := hrow25 k e; have h2 : b22 ≤ k := hk.1; omega) (fun k hk => ⟨hk.1, by have h : k < w20.heap.size := hk.2; omega⟩) (fun k hk => ⟨by have h : b22 ≤ k := hk.1; omega, by have h : k < w24.heap.size + 1 := hk.2; omega⟩) ⟨by simp; omega, by simp⟩ (by simp; try omega) ?_
           intro v25 w25 lr25 hg25; obtain ⟨ad25, cp25, e25⟩ := lr25.form; have e25 : v25 = .slice ad25 (2) cp25 := e25; subst e25; have sz25 := hg25.size
           try simp at sz25
           have r_25 : RB w25 (w.heap.size) := RB.kept (RB.alloc r_24 _) hg25 (fun e => by have := hrow25 _ e.symm; omega); have n_25 : NB w25 (w1.heap.size) (.int .i64 16) (.string ⟨#[]⟩) (.int .i64 0) (.int .i64 (pos c.L s.1)) (.slice ad 0 cp) := NB.kept (NB.alloc n_24 _) hg25 (fun e => by have := hrow25 _ e.symm; omega); have cc_25 : NB w25 (w22.heap.size) (.int .i64 k22) (.string ⟨n22.toArray⟩) (.int .i64 m22) (.int .i64 q22) (.slice ad22 l22.length cp22) := NB.kept (NB.alloc cc_24 _) hg25 (fun e => by have := hrow25 _ e.symm; omega); have p25 : RS c w25 s24 d := RS.own (RS.alloc p24 _) HL.out hg25 (fun b hb => by have := hrow25 b hb; omega); have G25 : w.grownBy w25 (some c.rb) := gb_own (gb_alloc G24 _) hg25 (fun b hb => by have := hrow25 b hb; omega); have r_lt25 := r_25.lt; have n_lt25 := n_25.lt; have cc_lt25 := cc_25.lt; obtain ⟨_,_,_,_,_,_,_,_,_,_,_⟩ := id r_25; obtain ⟨_,_,_,_,_,_⟩ := id n_25
           obtain ⟨_,_,_,_,_,_⟩ := id cc_25))
      all_goals
        have lz25 : LR w25 (In (lo) w25.heap.size) ([] ++ [(T.mk k22 n22 m22 q22 l22), (T.mk k24 n24 m24 q24 l24)]) (.slice ad25 (2) cp25) := lr25.bounded.mono (fun k hk => ⟨hk.1.1, hk.2⟩); have SMn : r9 = choiceLoopQ c.L E A (c.L.length) ([] ++ [(T.mk k22 n22 m22 q22 l22), (T.mk k24 n24 m24 q24 l24)]) s24 := SMx.trans (branchQ_eq hr22 hr23 hr24); go_wp2_with fail; go_at_call 12; refine (rok_any c _ s24 d (by exact RS.put p25 HL.out (by omega) _ _)).mono ?_; rintro e w26 ⟨rfl, hg26⟩; have p26 : RS c w26 s24 d := RS.grown (by exact RS.put p25 HL.out (by omega) _ _) hg26; have G26 : w.grownBy w26 (some c.rb) := gb_trans (by exact gb_put G25 (by omega) _ _) (gb_some hg26 (some c.rb)); have sz26 := hg26.size
        try simp at sz26
        have r_26 : RB w26 (w.heap.size) := RB.kept (by exact RB.put r_25 _ _ _) hg26 (by simp); have n_26 : NB w26 (w1.heap.size) (.int .i64 16) (.string ⟨#[]⟩) (.int .i64 0) (.int .i64 (pos c.L s.1)) (.slice ad25 (2) cp25) := NB.kept (by exact NB.s4 n_25 _) hg26 (by simp); have z_26 : LR w26 (In (lo) (w25.heap.size)) (([] ++ [(T.mk k22 n22 m22 q22 l22), (T.mk k24 n24 m24 q24 l24)])) (.slice ad25 (2) cp25) := LR.grown (by exact LR.put lz25 (by omega) _ _) hg26; have r_lt26 := r_26.lt; have n_lt26 := n_26.lt; obtain ⟨_,_,_,_,_,_,_,_,_,_,_⟩ := id r_26; obtain ⟨_,_,_,_,_,_⟩ := id n_26
        by_cases hok3 : s24.2 = none
        · have hokb3 : decide (s24.2 = none) = true := decide_eq_true hok3
          try simp only [hokb3]
          go_wp2_with fail; go_at_call 13; refine (rword_any c _ s24 d p26).mono ?_; rintro e w27 ⟨rfl, hg27⟩; have p27 : RS c w27 s24 d := RS.grown p26 hg27; have G27 : w.grownBy w27 (some c.rb) := gb_trans G26 (gb_some hg27 (some c.rb)); have sz27 := hg27.size
          try simp at sz27
          have r_27 : RB w27 (w.heap.size) := RB.kept r_26 hg27 (by simp); have n_27 : NB w27 (w1.heap.size) (.int .i64 16) (.string ⟨#[]⟩) (.int .i64 0) (.int .i64 (pos c.L s.1)) (.slice ad25 (2) cp25) := NB.kept n_26 hg27 (by simp); have z_27 : LR w27 (In (lo) (w25.heap.size)) (([] ++ [(T.mk k22 n22 m22 q22 l22), (T.mk k24 n24 m24 q24 l24)])) (.slice ad25 (2) cp25) := LR.grown z_26 hg27; have r_lt27 := r_27.lt; have n_lt27 := n_27.lt; obtain ⟨_,_,_,_,_,_,_,_,_,_,_⟩ := id r_27; obtain ⟨_,_,_,_,_,_⟩ := id n_27
          by_cases hif : wd c.L s24.1 = kIF
          · have hwi : (wd c.L s24.1 == [73, 70]) = true := by rw [hif]; decide
            have hni : isQ c.L kELSIF s24 = (false, s24) := by unfold isQ; rw [if_neg (fun h => by rw [hif] at h; exact absurd h.2 (by decide))]
            have HRx : choiceQ c.L E A s = (((isQ c.L kELSE).bind fun b => if b = true then A.bind fun a => (needQ c.L kEND).bind fun _ => Q.ret (T.mk 16 [] 1 (pos c.L s.1) (([] ++ [(T.mk k22 n22 m22 q22 l22), (T.mk k24 n24 m24 q24 l24)]) ++ [a])) else (needQ c.L kEND).bind fun _ => Q.ret (T.mk 16 [] 0 (pos c.L s.1) ([] ++ [(T.mk k22 n22 m22 q22 l22), (T.mk k24 n24 m24 q24 l24)])))) s24 := by rw [HR0, SMn.trans (choiceLoopQ_no (fun h9 => by have := p27.il; omega) hni)]
            go_wp2_with fail; go_at_call 29; refine (ris_any c _ s24 d kELSE _ rfl (by decide) p27).mono ?_; rintro e w28 ⟨a28, s28, v28, hr28, rfl, rfl, hg28, p28, hi28⟩; have HR28 : choiceQ c.L E A s = _ := HRx.trans (Q.bind_eq hr28); have G28 : w.grownBy w28 (some c.rb) := gb_trans G27 hg28; have sz28 := hg28.size
            try simp at sz28
            have r_28 : RB w28 (w.heap.size) := RB.keep r_27 hg28 (by omega); have n_28 : NB w28 (w1.heap.size) (.int .i64 16) (.string ⟨#[]⟩) (.int .i64 0) (.int .i64 (pos c.L s.1)) (.slice ad25 (2) cp25) := NB.keep n_27 hg28 (by omega); have z_28 : LR w28 (In (lo) (w25.heap.size)) (([] ++ [(T.mk k22 n22 m22 q22 l22), (T.mk k24 n24 m24 q24 l24)])) (.slice ad25 (2) cp25) := LR.call z_27 hg28 (by omega); have r_lt28 := r_28.lt; have n_lt28 := n_28.lt; obtain ⟨_,_,_,_,_,_,_,_,_,_,_⟩ := id r_28; obtain ⟨_,_,_,_,_,_⟩ := id n_28; cases a28
            · rw [if_neg (by decide)] at HR28
              go_wp2_with fail; go_at_call 27; refine (rneed_any c _ s28 d kEND _ rfl (by decide) p28).mono ?_; rintro e w29 ⟨a29, s29, v29, hr29, rfl, -, hg29, p29, hi29⟩; have HR29 : choiceQ c.L E A s = _ := HR28.trans (Q.bind_eq hr29); have G29 : w.grownBy w29 (some c.rb) := gb_trans G28 hg29; have sz29 := hg29.size
              try simp at sz29
              have r_29 : RB w29 (w.heap.size) := RB.keep r_28 hg29 (by omega); have n_29 : NB w29 (w1.heap.size) (.int .i64 16) (.string ⟨#[]⟩) (.int .i64 0) (.int .i64 (pos c.L s.1)) (.slice ad25 (2) cp25) := NB.keep n_28 hg29 (by omega); have z_29 : LR w29 (In (lo) (w25.heap.size)) (([] ++ [(T.mk k22 n22 m22 q22 l22), (T.mk k24 n24 m24 q24 l24)])) (.slice ad25 (2) cp25) := LR.call z_28 hg29 (by omega); have r_lt29 := r_29.lt; have n_lt29 := n_29.lt; obtain ⟨_,_,_,_,_,_,_,_,_,_,_⟩ := id r_29; obtain ⟨_,_,_,_,_,_⟩ := id n_29; go_wp2; refine node_ret Tryz.results46 rfl (RB.five ?_) rfl ?_
              · exact r_29
              refine QSt.ok (a := (T.mk 16 [] 0 (pos c.L s.1) ([] ++ [(T.mk k22 n22 m22 q22 l22), (T.mk k24 n24 m24 q24 l24)]))) (HR29) ⟨_, rfl, ?_⟩ ?_ ?_ (by omega)
              · refine LR.wide (lo := lo) (hi := w25.heap.size) (ts := ([] ++ [(T.mk k22 n22 m22 q22 l22), (T.mk k24 n24 m24 q24 l24)])) ?_ (by omega) (by first | omega | (simp <;> omega))
                exact LR.p5 z_29 (by omega)
              · exact gb_p5 G29 (by omega)
              · exact RS.p5 p29 HL.out (by omega)
            · rw [if_pos rfl] at HR28
              go_wp2_with fail
              go_region_law (first
                | (go_simp
                   go_at_call 32; refine (hA _ s28 (by exact RS.drew (RS.put p28 HL.out (by omega) _ _))).mono ?_; rintro e w29 ⟨⟨k29, n29, m29, q29, l29⟩, s29, v29, hr29, rfl, ⟨sv29, rfl, lr29⟩, hg29, p29, hi29⟩; have HR29 : choiceQ c.L E A s = _ := HR28.trans (Q.bind_eq hr29); simp only [T.kind, T.name, T.num, T.at', T.subs] at lr29 ⊢; obtain ⟨ad29, cp29, rfl⟩ := lr29.form; obtain ⟨b29, hb29, lr29⟩ : ∃ b, b = _ ∧ LR w29 (In b w29.heap.size) l29 (.slice ad29 l29.length cp29) := ⟨_, rfl, lr29⟩
                   try simp at hb29
                   have G29 : w.grownBy w29 (some c.rb) := gb_trans (by exact gb_drew (gb_put G28 (by omega) _ _)) hg29; have sz29 := hg29.size
                   try simp at sz29
                   have r_29 : RB w29 (w.heap.size) := RB.keep (by exact RB.drew (RB.put r_28 _ _ _)) hg29 (by omega); have n_29 : NB w29 (w1.heap.size) (.int .i64 16) (.string ⟨#[]⟩) (.int .i64 1) (.int .i64 (pos c.L s.1)) (.slice ad25 (2) cp25) := NB.keep (by exact NB.drew (NB.s2 n_28 _)) hg29 (by omega); have z_29 : LR w29 (In (lo) (w25.heap.size)) (([] ++ [(T.mk k22 n22 m22 q22 l22), (T.mk k24 n24 m24 q24 l24)])) (.slice ad25 (2) cp25) := LR.call (by exact LR.drew (LR.put z_28 (by omega) _ _)) hg29 (by omega); have r_lt29 := r_29.lt; have n_lt29 := n_29.lt; obtain ⟨_,_,_,_,_,_,_,_,_,_,_⟩ := id r_29
                   obtain ⟨_,_,_,_,_,_⟩ := id n_29)
                | (have hrow30 := z_29.rows
                   refine step_appS (v := .slice ad25 (2) cp25) rfl _ _ rfl (In (lo) (w29.heap.size + 2)) rfl rfl (LR.alloc z_29 _) (LR.build1 w29 (cs := #[.int .i64 k29, .string ⟨n29.toArray⟩, .int .i64 m29, .int .i64 q29, .slice ad29 l29.length cp29]) (t := (T.mk k29 n29 m29 q29 l29)) (sv := .slice ad29 l29.length cp29) lr29 rfl rfl (by omega))
                     (fun k hk e => by have h1 := hrow30 k e; have h2 : b29 ≤ k := hk.1; omega) (fun k hk => ⟨hk.1, by have h : k < w25.heap.size := hk.2; omega⟩) (fun k hk => ⟨by have h : b29 ≤ k := hk.1; omega, by have h : k < w29.heap.size + 1 := hk.2; omega⟩) ⟨by simp; omega, by simp⟩ (by simp; try omega) ?_
                   intro v30 w30 lr30 hg30; obtain ⟨ad30, cp30, e30⟩ := lr30.form; simp only [List.length_append, List.length_cons, List.length_nil] at e30; have e30 : v30 = .slice ad30 (3) cp30 := e30; subst e30; have sz30 := hg30.size
                   try simp at sz30
                   have r_30 : RB w30 (w.heap.size) := RB.kept (RB.alloc r_29 _) hg30 (fun e => by have := hrow30 _ e.symm; omega); have n_30 : NB w30 (w1.heap.size) (.int .i64 16) (.string ⟨#[]⟩) (.int .i64 1) (.int .i64 (pos c.L s.1)) (.slice ad25 (2) cp25) := NB.kept (NB.alloc n_29 _) hg30 (fun e => by have := hrow30 _ e.symm; omega); have p30 : RS c w30 s29 d := RS.own (RS.alloc p29 _) HL.out hg30 (fun b hb => by have := hrow30 b hb; omega); have G30 : w.grownBy w30 (some c.rb) := gb_own (gb_alloc G29 _) hg30 (fun b hb => by have := hrow30 b hb; omega); have r_lt30 := r_30.lt; have n_lt30 := n_30.lt; obtain ⟨_,_,_,_,_,_,_,_,_,_,_⟩ := id r_30
                   obtain ⟨_,_,_,_,_,_⟩ := id n_30))
              all_goals
                have lz30 : LR w30 (In (lo) w30.heap.size) (([] ++ [(T.mk k22 n22 m22 q22 l22), (T.mk k24 n24 m24 q24 l24)]) ++ [(T.mk k29 n29 m29 q29 l29)]) (.slice ad30 (3) cp30) := lr30.bounded.mono (fun k hk => ⟨hk.1.1, hk.2⟩); go_wp2_with fail; go_at_call 27; refine (rneed_any c _ s29 d kEND _ rfl (by decide) (by exact RS.put p30 HL.out (by omega) _ _)).mono ?_; rintro e w31 ⟨a31, s31, v31, hr31, rfl, -, hg31, p31, hi31⟩; have HR31 : choiceQ c.L E A s = _ := HR29.trans (Q.bind_eq hr31); have G31 : w.grownBy w31 (some c.rb) := gb_trans (by exact gb_put G30 (by omega) _ _) hg31; have sz31 := hg31.size
                try simp at sz31
                have r_31 : RB w31 (w.heap.size) := RB.keep (by exact RB.put r_30 _ _ _) hg31 (by omega); have n_31 : NB w31 (w1.heap.size) (.int .i64 16) (.string ⟨#[]⟩) (.int .i64 1) (.int .i64 (pos c.L s.1)) (.slice ad30 (3) cp30) := NB.keep (by exact NB.s4 n_30 _) hg31 (by omega); have z_31 : LR w31 (In (lo) (w30.heap.size)) ((([] ++ [(T.mk k22 n22 m22 q22 l22), (T.mk k24 n24 m24 q24 l24)]) ++ [(T.mk k29 n29 m29 q29 l29)])) (.slice ad30 (3) cp30) := LR.call (by exact LR.put lz30 (by omega) _ _) hg31 (by omega); have r_lt31 := r_31.lt; have n_lt31 := n_31.lt; obtain ⟨_,_,_,_,_,_,_,_,_,_,_⟩ := id r_31; obtain ⟨_,_,_,_,_,_⟩ := id n_31; go_wp2; refine node_ret Tryz.results46 rfl (RB.five ?_) rfl ?_
                · exact r_31
                refine QSt.ok (a := (T.mk 16 [] 1 (pos c.L s.1) (([] ++ [(T.mk k22 n22 m22 q22 l22), (T.mk k24 n24 m24 q24 l24)]) ++ [(T.mk k29 n29 m29 q29 l29)]))) (HR31) ⟨_, rfl, ?_⟩ ?_ ?_ (by omega)
                · refine LR.wide (lo := lo) (hi := w30.heap.size) (ts := (([] ++ [(T.mk k22 n22 m22 q22 l22), (T.mk k24 n24 m24 q24 l24)]) ++ [(T.mk k29 n29 m29 q29 l29)])) ?_ (by omega) (by first | omega | (simp <;> omega))
                  exact LR.p5 z_31 (by omega)
                · exact gb_p5 G31 (by omega)
                · exact RS.p5 p31 HL.out (by omega)
          · have hwi : (wd c.L s24.1 == [73, 70]) = false := by simpa [kIF] using hif
            go_wp2
            go_roundw
            case rel => (repeat apply Exists.intro); exact ⟨⟨([] ++ [(T.mk k22 n22 m22 q22 l22), (T.mk k24 n24 m24 q24 l24)]), .slice ad25 (2) cp25, s24, c.L.length, lo, n_27, r_27, hlo3, IQ.mk (LR.wide z_27 (Nat.le_refl _) (by omega)) p27 G27 (by omega) (by omega) (by simp; omega) (.inr ⟨by simp, fun _ => hif, fun h9 => by omega, SMn⟩)⟩, rfl⟩
            case measure => exact HPS.out.left_less p27 hok20 (fun h9 => by omega) hjl
        · have hokb3 : decide (s24.2 = none) = false := decide_eq_false hok3
          try simp only [hokb3]
          go_wp2
          go_roundw
          case rel => (repeat apply Exists.intro); exact ⟨⟨([] ++ [(T.mk k22 n22 m22 q22 l22), (T.mk k24 n24 m24 q24 l24)]), .slice ad25 (2) cp25, s24, c.L.length, lo, n_26, r_26, hlo3, IQ.mk (LR.wide z_26 (Nat.le_refl _) (by omega)) p26 G26 (by omega) (by omega) (by simp; omega) (.inr ⟨by simp, fun h9 => absurd h9 hok3, fun h9 => by omega, SMn⟩)⟩, rfl⟩
          case measure => exact HPS.out.left_less p26 hok20 (fun h9 => by omega) hjl
end Go.Proofs.YtbphiiaoncakfaaGreatDoor
