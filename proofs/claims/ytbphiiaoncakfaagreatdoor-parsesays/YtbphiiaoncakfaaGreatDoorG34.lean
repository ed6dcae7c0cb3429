/- The document's reader: products and sums. -/
import Derived.Test.YtbphiiaoncakfaaGreatDoorG24
namespace Go.Proofs.YtbphiiaoncakfaaGreatDoor
open Go.RowKit

theorem chainQ_no {L : List Tok} {joins : List UInt8 → Bool} {q : Q T} {f : Nat} {t : T} {s : QS} (h : ¬ (s.2 = none ∧ joins (wd L s.1) = true)) : chainQ L joins q f t s = (t, s) := by
  cases f <;> (rw [chainQ]; exact if_neg h)
theorem chainQ_yes {L : List Tok} {joins : List UInt8 → Bool} {q : Q T} {f : Nat} {t : T} {s : QS} (h : s.2 = none ∧ joins (wd L s.1) = true) : chainQ L joins q (f + 1) t s = (q.bind fun r => chainQ L joins q f (opT (wd L s.1) t r)) (s.1 + 1, none) := by
  rw [chainQ]
  exact if_pos h
theorem chainQ_end {L : List Tok} {joins : List UInt8 → Bool} {q : Q T} {t : T} {s : QS} (h : s.2 = none ∧ joins (wd L s.1) = true) : chainQ L joins q 0 t s = ((stopQ L 3).bind fun _ => q.bind fun r => Q.ret (opT (wd L s.1) t r)) (s.1 + 1, none) := by
  rw [chainQ]
  exact if_pos h
theorem Stays.bad {α : Type} {q : Q α} (h : Stays q) {s s' : QS} {a : α} (hs : s.2 ≠ none) (hr : q s = (a, s')) : s'.2 ≠ none := by
  obtain ⟨i, b⟩ := s; cases b with
  | none => exact absurd rfl hs
  | some e =>
    obtain ⟨x, hx⟩ := h i e; rw [hx] at hr; cases hr
    exact hs
theorem lits_cell (xs : List (List UInt8)) (w : World) (t : TypeId) (k : Nat) (h : k < xs.length) : (w.alloc (.cells (xs.map fun x => Value.string ⟨x.toArray⟩).toArray t)).cell? ⟨w.heap.size, k, none⟩ = some (.string ⟨(xs[k]'h).toArray⟩) := by
  rw [World.cell?_alloc_at _ _ _ _ rfl]
  simp [h]
theorem adds_in (x : List UInt8) : inB [s_plus, s_minus, kOR] x = addsB x := by simp only [inB, addsB, List.contains_cons, List.contains_nil, Bool.or_false, Bool.or_assoc]
theorem multiplies_in (x : List UInt8) : inB [s_star, kDIV, kMOD, s_amp] x = multipliesB x := by simp only [inB, multipliesB, List.contains_cons, List.contains_nil, Bool.or_false, Bool.or_assoc]
theorem compares_in (x : List UInt8) : inB [s_eq, s_hash, s_lt, s_le, s_gt, s_ge] x = comparesB x := by simp only [inB, comparesB, List.contains_cons, List.contains_nil, Bool.or_false, Bool.or_assoc]

/-- What holds at the head of a chain's loop; its variable lies in the block A. -/
structure CQ (c : RC) (w : World) (A R : Nat) (s0 : QS) (d : Nat) (S0 : Nat → Prop) (r : T × QS) (q : Nat → T → Q T) (wr : World) (t : T) (sv : Value) (s : QS) (f : Nat) : Prop where
  nb : NB wr A (.int .i64 t.kind) (.string ⟨t.name.toArray⟩) (.int .i64 t.num) (.int .i64 t.at') sv
  rb : RB wr R
  lr : LR wr (Un S0 (A + 1) wr.heap.size) t.subs sv
  ps : RS c wr s d
  gb : w.grownBy wr (some c.rb)
  same : r = q f t s
  le : s0.1 ≤ s.1

set_option maxRecDepth 100000 in
set_option maxHeartbeats 4000000 in
theorem rproduct_any (c : RC) (w : World) (s : QS) (d : Nat) (E F : Q T) (h : RS c w s d) (hX : QOK c d 131 (factorQ c.L E F)) (hst : Stays (factorQ c.L E F)) :
    Calls Tryz.prog 119 #[.pointer (some ⟨c.rb, 0, none⟩)] w (QSt c w s d (fun w' t v => TR w' w.heap.size w'.heap.size t v) (productQ c.L E F s)) := by
  have HP := hide h; have HL := hide h.low; have hb := h.lt; have hfew := h.good.few; have HX := hide hX; clear h hX
  go_enter Tryz.func119, Tryz.ntmps119
  go_wp2_with fail; go_at_call 131; refine (HX.out _ s (by exact RS.alloc HP.out _)).mono ?_; rintro e w1 ⟨⟨k1, n1, m1, q1, l1⟩, s1, v1, hr1, rfl, ⟨sv1, rfl, lr1⟩, hg1, p1, hi1⟩; have HR1 : productQ c.L E F s = _ := Q.bind_eq hr1; simp only [T.kind, T.name, T.num, T.at', T.subs] at lr1 ⊢; obtain ⟨ad1, cp1, rfl⟩ := lr1.form
  have lr1 : LR w1 (In (w.heap.size + 1) w1.heap.size) l1 (.slice ad1 l1.length cp1) := by simpa using lr1
  have sz1 := hg1.size
  simp at sz1
  have r1 : RB w1 w.heap.size := RB.kept (RB.new' (by simp)) hg1 (by simp; omega); have G1 : w.grownBy w1 (some c.rb) := gb_trans (by exact gb_alloc (gb_refl w (some c.rb)) _) hg1
  have hSlt : ∀ k, In (w.heap.size + 1) w1.heap.size k → k < w1.heap.size := fun k hk => hk.2
  have hnA : ¬ In (w.heap.size + 1) w1.heap.size w1.heap.size := fun h => by have h1 : w1.heap.size < w1.heap.size := h.2; omega
  have hnR : ¬ In (w.heap.size + 1) w1.heap.size w.heap.size := fun h => by have h1 : w.heap.size + 1 ≤ w.heap.size := h.1; omega
  have hnr : ¬ In (w.heap.size + 1) w1.heap.size c.rb := fun h => by have h1 : w.heap.size + 1 ≤ c.rb := h.1; omega
  go_wp2_with fail
  go_loopw [4] (fun v wr => ∃ (t : T) (sv : Value) (s9 : QS) (f many : Nat), v = .int .i64 many ∧ 1 ≤ many ∧ many ≤ 22 ∧ (s9.2 = none → many + f = 21) ∧ Hid (CQ c w (w1.heap.size) (w.heap.size) s1 d (In (w.heap.size + 1) w1.heap.size) (chainQ c.L multipliesB (factorQ c.L E F) 20 (T.mk k1 n1 m1 q1 l1) s1) (chainQ c.L multipliesB (factorQ c.L E F)) wr t sv s9 f)) (fun v _ => 23 - (intOf v).toNat)
  case atStart => exact ⟨(T.mk k1 n1 m1 q1 l1), (.slice ad1 l1.length cp1), s1, 20, 1, rfl, by omega, by omega, fun _ => by omega, CQ.mk (show NB (w1.alloc (.cells #[.int .i64 k1, .string ⟨n1.toArray⟩, .int .i64 m1, .int .i64 q1, .slice ad1 l1.length cp1] 25)) w1.heap.size _ _ _ _ _ from NB.new w1 _) (RB.alloc r1 (.cells #[.int .i64 k1, .string ⟨n1.toArray⟩, .int .i64 m1, .int .i64 q1, .slice ad1 l1.length cp1] 25)) ((LR.un lr1).grownU (World.grownBy_alloc _ _ none)) (by exact RS.alloc p1 _) (by exact gb_alloc G1 _) rfl (Nat.le_refl _)⟩
  case round =>
    obtain ⟨⟨k, x, m, a, l⟩, sv, s20, f, many, rfl, hm1, hm2, hmf, HC⟩ := hrel; have hC := HC.out; have hlr0 := hC.lr; simp only [T.subs] at hlr0; obtain ⟨ad, cp, rfl⟩ := hlr0.form; have HNB := hide hC.nb; have HRB := hide hC.rb; have HLR := hide hlr0; have HPS := hide hC.ps; have HG := hide hC.gb; have HSM := hide hC.same; have hij := hC.le; have hsA := hC.nb.lt; have hsR := hC.rb.lt; have hgs := hC.gb.size; have hil := hC.ps.il; clear hC HC hlr0; simp only [T.kind, T.name, T.num, T.at'] at HNB; go_wp2_with fail; go_at_call 12; refine (rok_any c _ s20 d HPS.out).mono ?_; rintro e w21 ⟨rfl, hg21⟩; have sz21 := hg21.size
    by_cases hok : s20.2 = none
    · have hokb : decide (s20.2 = none) = true := decide_eq_true hok
      try simp only [hokb]
      go_wp2_with fail; go_at_call 13; refine (rword_any c _ s20 d (HPS.out.grown hg21)).mono ?_; rintro e w22 ⟨rfl, hg22⟩; have hgg : wr.grownBy w22 none := gb_trans hg21 hg22; have sz22 := hgg.size; have hin := rin_any (wd c.L s20.1) [s_star, kDIV, kMOD, s_amp] w22.heap.size 4 (w22.alloc (.cells ([s_star, kDIV, kMOD, s_amp].map fun x => Value.string ⟨x.toArray⟩).toArray 9)) rfl (by decide) (fun k h => lits_cell [s_star, kDIV, kMOD, s_amp] w22 _ k h); rw [multiplies_in] at hin; cases hjo : multipliesB (wd c.L s20.1)
      · rw [hjo] at hin
        have nbq := HNB.out.kept hgg (by simp); have rbq := HRB.out.kept hgg (by simp); have nbl := nbq.lt; have rbl := rbq.lt; obtain ⟨x0, x1, x2, x3, x4, xz⟩ := id nbq; obtain ⟨_, _, _, _, _, y0, y1, y2, y3, y4, yz⟩ := id rbq
        go_wp2_with (go_at_call 101; refine Calls.mono hin ?_; rintro e _ ⟨rfl, rfl⟩)
        refine node_ret Tryz.results119 rfl (NB.alloc (RB.five ?_) _) rfl ?_
        · exact rbq
        refine QSt.ok (a := T.mk k x m a l) (HR1.trans (HSM.out.trans (chainQ_no (fun h => by rw [hjo] at h; cases h.2)))) ⟨_, rfl, ?_⟩ ?_ ?_ (by omega)
        · have h5 : LR _ (Un (In (w.heap.size + 1) w1.heap.size) (w1.heap.size + 1) wr.heap.size) l (.slice ad l.length cp) := HLR.out.grownU hgg
          refine LR.mono (S := Un (In (w.heap.size + 1) w1.heap.size) (w1.heap.size + 1) wr.heap.size) ?_ (fun k hk => hk.elim (fun h => ⟨by have h1 : w.heap.size + 1 ≤ k := h.1; omega, by have h1 : k < w1.heap.size := h.2; exact Nat.lt_of_lt_of_le h1 (by simp [World.setCell]; omega)⟩) (fun h => ⟨by omega, Nat.lt_of_lt_of_le h.2 (by simp [World.setCell]; omega)⟩)); refine LR.grownU ?_ (World.grownBy_alloc _ _ none)
          exact (((((h5.callU (gb_set (gb_refl _ _) _ _) hnR (by omega)).callU (gb_set (gb_refl _ _) _ _) hnR (by omega)).callU (gb_set (gb_refl _ _) _ _) hnR (by omega)).callU (gb_set (gb_refl _ _) _ _) hnR (by omega)).callU (gb_set (gb_refl _ _) _ _) hnR (by omega))
        · exact gb_alloc (gb_p5 (gb_trans HG.out (gb_some hgg _)) (by omega)) _
        · exact RS.alloc (RS.p5 (HPS.out.grown hgg) HL.out (by omega)) _
      · rw [hjo] at hin
        have hne : wd c.L s20.1 ≠ [] := by
          intro e; rw [e] at hjo
          revert hjo
          decide
        have his : isQ c.L (wd c.L s20.1) s20 = (true, (s20.1 + 1, none)) := by unfold isQ; rw [if_pos ⟨hok, rfl⟩]
        rcases Nat.lt_or_ge 20 many with hbig | hsmall
        · have hf0 : f = 0 := by have := hmf hok; omega
          subst hf0
          have hx : decide ((20 : Int) < (many : Int)) = true := by simp; omega
          go_wp2_with (first
            | (go_at_call 101; refine Calls.mono hin ?_; rintro e _ ⟨rfl, rfl⟩)
            | (go_at_call 29; refine (ris_any c _ s20 d (wd c.L s20.1) _ (by simp) hne (RS.alloc (HPS.out.grown hgg) _)).mono ?_; rintro e w23 ⟨a23, s23, v23, hr23, rfl, rfl, hg23, p23, hi23⟩; rw [his] at hr23; cases hr23))
          have sz23 := hg23.size
          simp at sz23
          have nb23 := NB.kept (NB.alloc (HNB.out.kept hgg (by simp)) _) hg23 (by simp; omega); have rb23 := RB.kept (RB.alloc (HRB.out.kept hgg (by simp)) _) hg23 (by simp; omega); have lr23 := LR.callU (LR.grownU (HLR.out.grownU hgg) (World.grownBy_alloc _ _ none)) hg23 hnr (by omega); have G23 : w.grownBy w23 (some c.rb) := gb_trans (gb_alloc (gb_trans HG.out (gb_some hgg _)) _) hg23; obtain ⟨x0, x1, x2, x3, x4, xz⟩ := id nb23; go_wp2_with fail; go_at_call 33; refine (rstop_any c _ (s20.1 + 1, none) d 3 (by decide) p23).mono ?_; rintro e w24 ⟨a24, s24, v24, hr24, rfl, -, hg24, p24, hi24⟩; have sz24 := hg24.size; have nb24 := nb23.kept hg24 (by simp; omega); have rb24 := rb23.kept hg24 (by simp; omega); have lr24 := lr23.callU hg24 hnr (by omega); have G24 : w.grownBy w24 (some c.rb) := gb_trans G23 hg24; have HR24 := HSM.out.trans ((chainQ_end ⟨hok, hjo⟩).trans (Q.bind_eq hr24))
          have hbad : s24.2 ≠ none := by have := (stopQ_some c.L 3 (s20.1 + 1, none)).1; rw [hr24] at this; exact this
          obtain ⟨x0, x1, x2, x3, x4, xz⟩ := id nb24; clear x0 x1 x2 x3 x4 xz; obtain ⟨x0, x1, x2, x3, x4, xz⟩ := id nb24; go_wp2_with fail
          go_region_with (first
            | (go_at_call 131
               refine (HX.out _ s24 (p24.drewN _)).mono ?_; rintro e w25 ⟨⟨k5, n5, m5, q5, l5⟩, s25, v25, hr25, rfl, ⟨sv5, rfl, lr5⟩, hg25, p25, hi25⟩; simp only [T.kind, T.name, T.num, T.at', T.subs] at lr5 ⊢; obtain ⟨ad5, cp5, rfl⟩ := lr5.form; have sz25 := hg25.size
               simp at sz25
               have nb25 := NB.kept (nb24.drewN _) hg25 (by simp; omega); have zl := nb25.lt
               obtain ⟨z0, z1, z2, z3, z4, zz⟩ := id nb25))
          all_goals
            have rb25 := RB.kept (rb24.drewN _) hg25 (by simp; omega); have G25 : w.grownBy w25 (some c.rb) := gb_trans (gb_drewN G24 _) hg25; have H1 : LR w25 (Un (In (w.heap.size + 1) w1.heap.size) ((w1.heap.size) + 1) w25.heap.size) l (.slice ad l.length cp) := (LR.callU (lr24.grownU (gb_drewN (gb_refl _ none) _)) hg25 hnr (by omega)).wideU (Nat.le_refl _) (by omega); have H2 : LR w25 (Un (In (w.heap.size + 1) w1.heap.size) ((w1.heap.size) + 1) w25.heap.size) l5 (.slice ad5 l5.length cp5) := LR.inU (lr5.wide (by simp; omega) (Nat.le_refl _))
            have hS25 : ∀ k, Un (In (w.heap.size + 1) w1.heap.size) ((w1.heap.size) + 1) w25.heap.size k → k < w25.heap.size := fun k hk => hk.elim (fun h => by have := hSlt k h; omega) (fun h => h.2)
            obtain ⟨W5, hW5⟩ : ∃ W : World, W = ((((w25.setCell ⟨(w1.heap.size), 0, none⟩ (.int .i64 36)).setCell ⟨(w1.heap.size), 1, none⟩ (.string ⟨(wd c.L s20.1).toArray⟩)).setCell ⟨(w1.heap.size), 2, none⟩ (.int .i64 0)).setCell ⟨(w1.heap.size), 3, none⟩ (.int .i64 a)).setCell ⟨(w1.heap.size), 4, none⟩ (.slice (some ⟨w25.heap.size, 0, none⟩) 2 2) := ⟨_, rfl⟩
            have hWs : W5.heap.size = w25.heap.size := by rw [hW5]; simp [World.setCell]
            have H1w : LR W5 (Un (In (w.heap.size + 1) w1.heap.size) ((w1.heap.size) + 1) w25.heap.size) l (.slice ad l.length cp) := by rw [hW5]; exact (((((H1.callU (gb_set (gb_refl _ _) _ _) hnA (by omega)).callU (gb_set (gb_refl _ _) _ _) hnA (by omega)).callU (gb_set (gb_refl _ _) _ _) hnA (by omega)).callU (gb_set (gb_refl _ _) _ _) hnA (by omega)).callU (gb_set (gb_refl _ _) _ _) hnA (by omega))
            have H2w : LR W5 (Un (In (w.heap.size + 1) w1.heap.size) ((w1.heap.size) + 1) w25.heap.size) l5 (.slice ad5 l5.length cp5) := by rw [hW5]; exact (((((H2.callU (gb_set (gb_refl _ _) _ _) hnA (by omega)).callU (gb_set (gb_refl _ _) _ _) hnA (by omega)).callU (gb_set (gb_refl _ _) _ _) hnA (by omega)).callU (gb_set (gb_refl _ _) _ _) hnA (by omega)).callU (gb_set (gb_refl _ _) _ _) hnA (by omega))
            have nbW : NB W5 (w1.heap.size) (.int .i64 36) (.string ⟨(wd c.L s20.1).toArray⟩) (.int .i64 0) (.int .i64 a) (.slice (some ⟨w25.heap.size, 0, none⟩) 2 2) := by rw [hW5]; exact NB.s4 (NB.s3 (NB.s2 (NB.s1 (NB.s0 nb25 _) _) _) _) _
            have rbW : RB W5 (w.heap.size) := by rw [hW5]; exact RB.p5 rb25
            have pW : RS c W5 s25 d := by rw [hW5]; exact RS.p5 p25 HL.out (by omega)
            have GW : w.grownBy W5 (some c.rb) := by rw [hW5]; exact gb_p5 G25 (by omega)
            have HB := LR.build2S W5 (g := w25.heap.size) (t := T.mk k x m a l) (t2 := T.mk k5 n5 m5 q5 l5) (sv := .slice ad l.length cp) (sv2 := .slice ad5 l5.length cp5) (cs := #[.int .i64 k, .string ⟨x.toArray⟩, .int .i64 m, .int .i64 a, .slice ad l.length cp, .int .i64 k5, .string ⟨n5.toArray⟩, .int .i64 m5, .int .i64 q5, .slice ad5 l5.length cp5]) H1w H2w hS25 hWs.symm rfl; go_wp2; rw [← hW5]; clear hW5; refine ⟨⟨opT (wd c.L s20.1) (T.mk k x m a l) (T.mk k5 n5 m5 q5 l5), .slice (some ⟨w25.heap.size, 0, none⟩) 2 2, s25, 0, many + 1, by first | go_num | (simp; done) | (simp; omega), by omega, by have := hmf hok; omega, fun h => absurd h (hst.bad hbad hr25), CQ.mk (NB.alloc nbW _) (RB.alloc rbW _) (HB.mono (fun j9 hk => ?_)) (RS.alloc pW _) (gb_alloc GW _) ((HR24.trans (Q.bind_eq hr25)).trans (chainQ_no (fun h => (hst.bad hbad hr25) h.1)).symm) (by first | omega | (simp at hi25; omega))⟩, ?_⟩
            · have hz : (W5.alloc (.cells #[.int .i64 k, .string ⟨x.toArray⟩, .int .i64 m, .int .i64 a, .slice ad l.length cp, .int .i64 k5, .string ⟨n5.toArray⟩, .int .i64 m5, .int .i64 q5, .slice ad5 l5.length cp5] 25)).heap.size = w25.heap.size + 1 := by simp [hWs]
              rw [hz]
              rcases hk with (hk | hk) | hk
              · exact .inl hk
              · exact .inr ⟨hk.1, by omega⟩
              · exact .inr ⟨by omega, by omega⟩
            · simp [intOf]; omega
        · obtain ⟨f, rfl⟩ : ∃ g, f = g + 1 := ⟨f - 1, by have := hmf hok; omega⟩
          have hx : decide ((20 : Int) < (many : Int)) = false := by simp; omega
          go_wp2_with (first
            | (go_at_call 101; refine Calls.mono hin ?_; rintro e _ ⟨rfl, rfl⟩)
            | (go_at_call 29; refine (ris_any c _ s20 d (wd c.L s20.1) _ (by simp) hne (RS.alloc (HPS.out.grown hgg) _)).mono ?_; rintro e w23 ⟨a23, s23, v23, hr23, rfl, rfl, hg23, p23, hi23⟩; rw [his] at hr23; cases hr23))
          have sz23 := hg23.size
          simp at sz23
          have nb23 := NB.kept (NB.alloc (HNB.out.kept hgg (by simp)) _) hg23 (by simp; omega); have rb23 := RB.kept (RB.alloc (HRB.out.kept hgg (by simp)) _) hg23 (by simp; omega); have lr23 := LR.callU (LR.grownU (HLR.out.grownU hgg) (World.grownBy_alloc _ _ none)) hg23 hnr (by omega); have G23 : w.grownBy w23 (some c.rb) := gb_trans (gb_alloc (gb_trans HG.out (gb_some hgg _)) _) hg23; have HR24 := HSM.out.trans (chainQ_yes ⟨hok, hjo⟩); have nb24 := nb23; have rb24 := rb23; have lr24 := lr23; have G24 := G23; have p24 := p23; obtain ⟨x0, x1, x2, x3, x4, xz⟩ := id nb24; clear x0 x1 x2 x3 x4 xz; obtain ⟨x0, x1, x2, x3, x4, xz⟩ := id nb24; go_wp2_with fail
          go_region_with (first
            | (go_at_call 131
               refine (HX.out _ (s20.1 + 1, none) (p24.drewN _)).mono ?_; rintro e w25 ⟨⟨k5, n5, m5, q5, l5⟩, s25, v25, hr25, rfl, ⟨sv5, rfl, lr5⟩, hg25, p25, hi25⟩; simp only [T.kind, T.name, T.num, T.at', T.subs] at lr5 ⊢; obtain ⟨ad5, cp5, rfl⟩ := lr5.form; have sz25 := hg25.size
               simp at sz25
               have nb25 := NB.kept (nb24.drewN _) hg25 (by simp; omega); have zl := nb25.lt
               obtain ⟨z0, z1, z2, z3, z4, zz⟩ := id nb25))
          all_goals
            have rb25 := RB.kept (rb24.drewN _) hg25 (by simp; omega); have G25 : w.grownBy w25 (some c.rb) := gb_trans (gb_drewN G24 _) hg25; have H1 : LR w25 (Un (In (w.heap.size + 1) w1.heap.size) ((w1.heap.size) + 1) w25.heap.size) l (.slice ad l.length cp) := (LR.callU (lr24.grownU (gb_drewN (gb_refl _ none) _)) hg25 hnr (by omega)).wideU (Nat.le_refl _) (by omega); have H2 : LR w25 (Un (In (w.heap.size + 1) w1.heap.size) ((w1.heap.size) + 1) w25.heap.size) l5 (.slice ad5 l5.length cp5) := LR.inU (lr5.wide (by simp; omega) (Nat.le_refl _))
            have hS25 : ∀ k, Un (In (w.heap.size + 1) w1.heap.size) ((w1.heap.size) + 1) w25.heap.size k → k < w25.heap.size := fun k hk => hk.elim (fun h => by have := hSlt k h; omega) (fun h => h.2)
            obtain ⟨W5, hW5⟩ : ∃ W : World, W = ((((w25.setCell ⟨(w1.heap.size), 0, none⟩ (.int .i64 36)).setCell ⟨(w1.heap.size), 1, none⟩ (.string ⟨(wd c.L s20.1).toArray⟩)).setCell ⟨(w1.heap.size), 2, none⟩ (.int .i64 0)).setCell ⟨(w1.heap.size), 3, none⟩ (.int .i64 a)).setCell ⟨(w1.heap.size), 4, none⟩ (.slice (some ⟨w25.heap.size, 0, none⟩) 2 2) := ⟨_, rfl⟩
            have hWs : W5.heap.size = w25.heap.size := by rw [hW5]; simp [World.setCell]
            have H1w : LR W5 (Un (In (w.heap.size + 1) w1.heap.size) ((w1.heap.size) + 1) w25.heap.size) l (.slice ad l.length cp) := by rw [hW5]; exact (((((H1.callU (gb_set (gb_refl _ _) _ _) hnA (by omega)).callU (gb_set (gb_refl _ _) _ _) hnA (by omega)).callU (gb_set (gb_refl _ _) _ _) hnA (by omega)).callU (gb_set (gb_refl _ _) _ _) hnA (by omega)).callU (gb_set (gb_refl _ _) _ _) hnA (by omega))
            have H2w : LR W5 (Un (In (w.heap.size + 1) w1.heap.size) ((w1.heap.size) + 1) w25.heap.size) l5 (.slice ad5 l5.length cp5) := by rw [hW5]; exact (((((H2.callU (gb_set (gb_refl _ _) _ _) hnA (by omega)).callU (gb_set (gb_refl _ _) _ _) hnA (by omega)).callU (gb_set (gb_refl _ _) _ _) hnA (by omega)).callU (gb_set (gb_refl _ _) _ _) hnA (by omega)).callU (gb_set (gb_refl _ _) _ _) hnA (by omega))
            have nbW : NB W5 (w1.heap.size) (.int .i64 36) (.string ⟨(wd c.L s20.1).toArray⟩) (.int .i64 0) (.int .i64 a) (.slice (some ⟨w25.heap.size, 0, none⟩) 2 2) := by rw [hW5]; exact NB.s4 (NB.s3 (NB.s2 (NB.s1 (NB.s0 nb25 _) _) _) _) _
            have rbW : RB W5 (w.heap.size) := by rw [hW5]; exact RB.p5 rb25
            have pW : RS c W5 s25 d := by rw [hW5]; exact RS.p5 p25 HL.out (by omega)
            have GW : w.grownBy W5 (some c.rb) := by rw [hW5]; exact gb_p5 G25 (by omega)
            have HB := LR.build2S W5 (g := w25.heap.size) (t := T.mk k x m a l) (t2 := T.mk k5 n5 m5 q5 l5) (sv := .slice ad l.length cp) (sv2 := .slice ad5 l5.length cp5) (cs := #[.int .i64 k, .string ⟨x.toArray⟩, .int .i64 m, .int .i64 a, .slice ad l.length cp, .int .i64 k5, .string ⟨n5.toArray⟩, .int .i64 m5, .int .i64 q5, .slice ad5 l5.length cp5]) H1w H2w hS25 hWs.symm rfl; go_wp2; rw [← hW5]; clear hW5; refine ⟨⟨opT (wd c.L s20.1) (T.mk k x m a l) (T.mk k5 n5 m5 q5 l5), .slice (some ⟨w25.heap.size, 0, none⟩) 2 2, s25, f, many + 1, by first | go_num | (simp; done) | (simp; omega), by omega, by have := hmf hok; omega, fun _ => by have := hmf hok; omega, CQ.mk (NB.alloc nbW _) (RB.alloc rbW _) (HB.mono (fun j9 hk => ?_)) (RS.alloc pW _) (gb_alloc GW _) (HR24.trans (Q.bind_eq hr25)) (by first | omega | (simp at hi25; omega))⟩, ?_⟩
            · have hz : (W5.alloc (.cells #[.int .i64 k, .string ⟨x.toArray⟩, .int .i64 m, .int .i64 a, .slice ad l.length cp, .int .i64 k5, .string ⟨n5.toArray⟩, .int .i64 m5, .int .i64 q5, .slice ad5 l5.length cp5] 25)).heap.size = w25.heap.size + 1 := by simp [hWs]
              rw [hz]
              rcases hk with (hk | hk) | hk
              · exact .inl hk
              · exact .inr ⟨hk.1, by omega⟩
              · exact .inr ⟨by omega, by omega⟩
            · simp [intOf]; omega
    · have hokb : decide (s20.2 = none) = false := decide_eq_false hok
      try simp only [hokb]
      obtain ⟨x0, x1, x2, x3, x4, xz⟩ := id (HNB.out.kept hg21 (by simp)); obtain ⟨_, _, _, _, _, y0, y1, y2, y3, y4, yz⟩ := id (HRB.out.kept hg21 (by simp)); go_wp2; refine node_ret Tryz.results119 rfl (RB.five ?_) rfl ?_
      · exact HRB.out.kept hg21 (by simp)
      refine QSt.ok (a := T.mk k x m a l) (HR1.trans (HSM.out.trans (chainQ_no (fun h => hok h.1)))) ⟨_, rfl, ?_⟩ ?_ ?_ (by omega)
      · have h5 : LR _ (Un (In (w.heap.size + 1) w1.heap.size) (w1.heap.size + 1) wr.heap.size) l (.slice ad l.length cp) := HLR.out.grownU hg21
        refine LR.mono (S := Un (In (w.heap.size + 1) w1.heap.size) (w1.heap.size + 1) wr.heap.size) ?_ (fun k hk => hk.elim (fun h => ⟨by have h1 : w.heap.size + 1 ≤ k := h.1; omega, by have h1 : k < w1.heap.size := h.2; exact Nat.lt_of_lt_of_le h1 (by simp [World.setCell]; omega)⟩) (fun h => ⟨by omega, Nat.lt_of_lt_of_le h.2 (by simp [World.setCell]; omega)⟩))
        exact (((((h5.callU (gb_set (gb_refl _ _) _ _) hnR (by omega)).callU (gb_set (gb_refl _ _) _ _) hnR (by omega)).callU (gb_set (gb_refl _ _) _ _) hnR (by omega)).callU (gb_set (gb_refl _ _) _ _) hnR (by omega)).callU (gb_set (gb_refl _ _) _ _) hnR (by omega))
      · exact gb_p5 (gb_trans HG.out (gb_some hg21 _)) (by omega)
      · exact RS.p5 (HPS.out.grown hg21) HL.out (by omega)
end Go.Proofs.YtbphiiaoncakfaaGreatDoor
