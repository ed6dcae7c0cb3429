/- One part more of a designator. -/
import Derived.Test.YtbphiiaoncakfaaGreatDoorG09
import Derived.Test.YtbphiiaoncakfaaGreatDoorG10
namespace Go.Proofs.YtbphiiaoncakfaaGreatDoor
open Go.RowKit

theorem LR.putS {w : World} {S : Nat → Prop} {ts : List T} {v : Value} {b : Nat} (h : LR w S ts v) (hb : ¬ S b) (o : Nat) (u : Value) : LR (w.setCell ⟨b, o, none⟩ u) S ts v :=
  h.kept (gb_set (gb_refl w (some b)) o u) (fun k hk hs => by cases hk; exact hb hs)
theorem partP_dot {L : List Tok} {E : P T} {of' : T} {i : Nat} (h : wd L i = s_dot) : partP L E of' i = (nameP L).bind (fun s => P.ret (.mk 25 s 0 of'.at' [of'])) (i + 1) := by
  unfold partP; rw [if_pos h]
theorem partP_lb {L : List Tok} {E : P T} {of' : T} {i : Nat} (h : wd L i = s_lb) : partP L E of' i = E.bind (fun e => (wantP L s_rb).bind fun _ => P.ret (.mk 26 [] 0 of'.at' [of', e])) (i + 1) := by
  unfold partP; rw [if_neg (by rw [h]; decide), if_pos h]
theorem partP_hat {L : List Tok} {E : P T} {of' : T} {i : Nat} (h : wd L i = s_hat) : partP L E of' i = .ok (.mk 27 [] 0 of'.at' [of'], i + 1) := by
  unfold partP; rw [if_neg (by rw [h]; decide), if_neg (by rw [h]; decide), if_pos h]
theorem partP_lc {L : List Tok} {E : P T} {of' : T} {i : Nat} (h : wd L i = s_lc) : partP L E of' i = (typeNameP L).bind (fun y => (wantP L s_rc).bind fun _ => P.ret (.mk 28 [] 0 of'.at' [of', y])) (i + 1) := by
  unfold partP; rw [if_neg (by rw [h]; decide), if_neg (by rw [h]; decide), if_neg (by rw [h]; decide)]

set_option maxRecDepth 100000 in
set_option maxHeartbeats 4000000 in
theorem ppart_any (c : PC) (w : World) (i d : Nat) (E : P T) (of' : T) (S0 : Nat → Prop) (svo : Value) (h : PS c w i d) (hl : LR w S0 of'.subs svo) (hS : ∀ k, S0 k → k < w.heap.size ∧ k ≠ c.pb) (hE : ExprOK c d E) (hp : partIsNext (wd c.L i) = true) :
    Calls Tryz.prog 147 #[.pointer (some ⟨c.pb, 0, none⟩), .agg #[.int .i64 of'.kind, .string ⟨of'.name.toArray⟩, .int .i64 of'.num, .int .i64 of'.at', svo]] w
      (Steps c w i d (fun w' t v => ∃ sv, v = .agg #[.int .i64 t.kind, .string ⟨t.name.toArray⟩, .int .i64 t.num, .int .i64 t.at', sv] ∧ LR w' (Un S0 w.heap.size w'.heap.size) t.subs sv) (partP c.L E of' i)) := by
  obtain ⟨k0, n0, m0, q0, l0⟩ := of'; simp only [T.kind, T.name, T.num, T.at', T.subs] at hl ⊢; obtain ⟨ad0, cp0, rfl⟩ := hl.form; have HP := hide h; have HL := hide h.low; have hb := h.lt; have HE := hide hE; have HS := hide hS
  have hsp : ¬ S0 c.pb := fun e => (hS _ e).2 rfl
  have HLL := hide hl
  have hne : wd c.L i ≠ [] := by
    intro e; rw [e] at hp
    revert hp
    decide
  have HPN := hide hp; clear h hE hS hl hp
  go_enter Tryz.func147, Tryz.ntmps147
  go_wp2_with fail; go_at_call 87; refine (ptake_any c _ i d (by exact PS.alloc (PS.alloc (PS.alloc (PS.alloc HP.out _) _) _) _) hne).mono ?_; rintro e w1 ⟨rfl, hg1, p1⟩; have G1 : w.grownBy w1 (some c.pb) := gb_trans (by exact gb_alloc (gb_alloc (gb_alloc (gb_alloc (gb_refl w (some c.pb)) _) _) _) _) hg1; have s1 := hg1.size
  try simp at s1
  have r1 : RB w1 (w.heap.size + 1) := RB.kept (RB.alloc (RB.alloc (RB.new' (by simp)) _) _) hg1 (by simp; omega)
  have l1 : LR w1 (fun k => S0 k ∨ k = w.heap.size + 1 + 1) [T.mk k0 n0 m0 q0 l0] (.slice (some ⟨w.heap.size + 1 + 1, 0, none⟩) 1 1) := by
    refine LR.kept (row := some c.pb) ?_ hg1 (fun b hb hs => by cases hb; exact hs.elim (fun h => hsp h) (fun h => by omega)); refine LR.grownU ?_ (World.grownBy_alloc _ _ none)
    exact LR.build1S _ (t := T.mk k0 n0 m0 q0 l0) (S := S0) ((HLL.out.grownU (World.grownBy_alloc _ _ none)).grownU (World.grownBy_alloc _ _ none)) (fun k hk => Nat.lt_of_lt_of_le (HS.out k hk).1 (by omega)) (by simp) rfl
  have n1 : NB w1 (w.heap.size + 1 + 1 + 1) (.int .i64 0) (.string ⟨#[]⟩) (.int .i64 0) (.int .i64 q0) (.slice (some ⟨w.heap.size + 1 + 1, 0, none⟩) 1 1) := NB.kept (NB.new' (by simp)) hg1 (by simp; omega); have r_lt1 := r1.lt; have n_lt1 := n1.lt; obtain ⟨_, _, _, _, _, y0, y1, y2, y3, y4, yz⟩ := id r1; obtain ⟨x0, x1, x2, x3, x4, xz⟩ := id n1
  have hnr : ¬ S0 (w.heap.size + 1) := fun e => by have := (HS.out _ e).1; omega
  have hnn : ¬ S0 (w.heap.size + 1 + 1 + 1) := fun e => by have := (HS.out _ e).1; omega
  by_cases h1 : wd c.L i = s_dot
  · have hw1 : (wd c.L i == [46]) = true := by rw [h1]; decide
    go_wp2_with fail; go_at_call 53; refine (pname_any c _ (i + 1) d (by exact PS.put p1 HL.out (by omega) _ _)).mono ?_; rintro e w2 (⟨x2, hr2, ht2, hg2⟩ | ⟨a2, j2, v2, hr2, rfl, ⟨rfl, hn2, hl2⟩, hg2, p2, hi2⟩)
    · have HT := ht2
      obtain ⟨q, rfl, -⟩ := ht2
      exact ⟨rfl, Steps.err ((partP_dot h1).trans (P.bind_err hr2)) HT (by exact gb_put G1 (by omega) _ _) hg2⟩
    have G2 : w.grownBy w2 (some c.pb) := gb_trans (by exact gb_put G1 (by omega) _ _) hg2; have s2 := hg2.size
    try simp at s2
    have r2 : RB w2 (w.heap.size + 1) := RB.kept (by exact RB.put r1 _ _ _) hg2 (by simp; omega); have n2 : NB w2 (w.heap.size + 1 + 1 + 1) (.int .i64 25) (.string ⟨#[]⟩) (.int .i64 0) (.int .i64 q0) (.slice (some ⟨w.heap.size + 1 + 1, 0, none⟩) 1 1) := NB.kept (by exact NB.s0 n1 _) hg2 (by simp; omega)
    have l2 : LR w2 (fun k => S0 k ∨ k = w.heap.size + 1 + 1) [T.mk k0 n0 m0 q0 l0] (.slice (some ⟨w.heap.size + 1 + 1, 0, none⟩) 1 1) := by
      refine LR.kept (row := some c.pb) ?_ hg2 (fun b hb hs => by cases hb; exact hs.elim (fun h => hsp h) (fun h => by omega)); refine LR.kept (row := some (w.heap.size + 1 + 1 + 1)) l1 (gb_set (gb_refl _ _) _ _) (fun b hb hs => by cases hb; exact hs.elim (fun h => hnn h) (fun h => by omega))
    have r_lt2 := r2.lt; have n_lt2 := n2.lt; obtain ⟨_, _, _, _, _, u0, u1, u2, u3, u4, uz⟩ := id r2; obtain ⟨z0, z1, z2, z3, z4, zz⟩ := id n2; go_wp2; refine node_ret Tryz.results147 rfl (RB.five ?_) rfl ?_
    · exact RB.put r2 _ _ _
    refine Steps.ok (a := T.mk 25 a2 0 q0 [T.mk k0 n0 m0 q0 l0]) ((partP_dot h1).trans (P.bind_ok hr2)) ⟨_, rfl, ?_⟩ ?_ ?_ (by omega)
    · have hq := l2
      refine LR.mono (S := fun k => S0 k ∨ k = w.heap.size + 1 + 1) (ts := [T.mk k0 n0 m0 q0 l0]) ?_ (fun k hk => ?_)
      · have hr' : ¬ (S0 (w.heap.size + 1) ∨ w.heap.size + 1 = w.heap.size + 1 + 1) := fun h => h.elim hnr (fun h => by omega)
        have hn' : ¬ (S0 (w.heap.size + 1 + 1 + 1) ∨ w.heap.size + 1 + 1 + 1 = w.heap.size + 1 + 1) := fun h => h.elim hnn (fun h => by omega)
        exact (((((hq.putS hn' _ _).putS hr' _ _).putS hr' _ _).putS hr' _ _).putS hr' _ _).putS hr' _ _
      · rcases hk with hk | hk
        · exact .inl hk
        · exact .inr ⟨by omega, by first | omega | (simp <;> omega)⟩
    · exact gb_p5 (gb_put G2 (by omega) _ _) (by omega)
    · exact PS.p5 (PS.put p2 HL.out (by omega) _ _) HL.out (by omega)
  have hw1 : (wd c.L i == [46]) = false := by simpa [s_dot] using h1
  by_cases h3 : wd c.L i = s_hat
  · have hw2 : (wd c.L i == [91]) = false := by rw [h3]; decide
    have hw3 : (wd c.L i == [94]) = true := by rw [h3]; decide
    go_wp2; refine node_ret Tryz.results147 rfl (RB.five ?_) rfl ?_
    · exact RB.put r1 _ _ _
    refine Steps.ok (a := T.mk 27 [] 0 q0 [T.mk k0 n0 m0 q0 l0]) (partP_hat h3) ⟨_, rfl, ?_⟩ ?_ ?_ (by omega)
    · have hq := l1
      refine LR.mono (S := fun k => S0 k ∨ k = w.heap.size + 1 + 1) (ts := [T.mk k0 n0 m0 q0 l0]) ?_ (fun k hk => ?_)
      · have hr' : ¬ (S0 (w.heap.size + 1) ∨ w.heap.size + 1 = w.heap.size + 1 + 1) := fun h => h.elim hnr (fun h => by omega)
        have hn' : ¬ (S0 (w.heap.size + 1 + 1 + 1) ∨ w.heap.size + 1 + 1 + 1 = w.heap.size + 1 + 1) := fun h => h.elim hnn (fun h => by omega)
        exact (((((hq.putS hn' _ _).putS hr' _ _).putS hr' _ _).putS hr' _ _).putS hr' _ _).putS hr' _ _
      · rcases hk with hk | hk
        · exact .inl hk
        · exact .inr ⟨by omega, by first | omega | (simp <;> omega)⟩
    · exact gb_p5 (gb_put G1 (by omega) _ _) (by omega)
    · exact PS.p5 (PS.put p1 HL.out (by omega) _ _) HL.out (by omega)
  by_cases h2 : wd c.L i = s_lb
  · have hw2 : (wd c.L i == [91]) = true := by rw [h2]; decide
    go_wp2_with fail
    go_region_law (first
      | (go_simp
         go_at_call 93; refine (HE.out.call _ (i + 1) (by exact PS.drew (PS.put p1 HL.out (by omega) _ _)) trivial).mono ?_; rintro e w4 (⟨x4, hr4, ht4, hg4⟩ | ⟨⟨k4, n4, m4, q4, l4⟩, j4, v4, hr4, rfl, ⟨sv4, rfl, lr4⟩, hg4, p4, hi4⟩)
         focus
           have HT := ht4; obtain ⟨q, rfl, -⟩ := ht4
           exact ⟨rfl, Steps.err ((partP_lb h2).trans (P.bind_err hr4)) HT (by exact gb_drew (gb_put G1 (by omega) _ _)) hg4⟩
         simp only [T.kind, T.name, T.num, T.at', T.subs] at lr4 ⊢; obtain ⟨ad4, cp4, rfl⟩ := lr4.form; have s4 := hg4.size
         try simp at s4
         have n4' : NB w4 (w.heap.size + 1 + 1 + 1) (.int .i64 26) (.string ⟨#[]⟩) (.int .i64 0) (.int .i64 q0) (.slice (some ⟨w.heap.size + 1 + 1, 0, none⟩) 1 1) := NB.kept (by exact NB.drew (NB.s0 n1 _)) hg4 (by simp; omega); have r4 : RB w4 (w.heap.size + 1) := RB.kept (by exact RB.drew (RB.put r1 _ _ _)) hg4 (by simp; omega); have G4 : w.grownBy w4 (some c.pb) := gb_trans (by exact gb_drew (gb_put G1 (by omega) _ _)) hg4
         have lq4 : LR w4 (fun k => S0 k ∨ k = w.heap.size + 1 + 1) [T.mk k0 n0 m0 q0 l0] (.slice (some ⟨w.heap.size + 1 + 1, 0, none⟩) 1 1) := by
           refine LR.kept (row := some c.pb) ?_ hg4 (fun b hb hs => by cases hb; exact hs.elim (fun h => hsp h) (fun h => by omega)); refine LR.kept (row := none) ?_ (gb_drewN (gb_refl _ none) 1) (fun b hb => by cases hb)
           exact LR.kept (row := some (w.heap.size + 1 + 1 + 1)) l1 (gb_set (gb_refl _ _) _ _) (fun b hb hs => by cases hb; exact hs.elim (fun h => hnn h) (fun h => by omega))
         have lr4 := LR.wide lr4 (lo' := w1.heap.size) (by simp) (Nat.le_refl _); have n_lt4 := n4'.lt; have r_lt4 := r4.lt
         obtain ⟨z0, z1, z2, z3, z4, zz⟩ := id n4')
      | (have hin : ∀ b, Value.ownBlock (.slice (some ⟨w.heap.size + 1 + 1, 0, none⟩) 1 1) = some b → b = w.heap.size + 1 + 1 := fun b e => by simp [Value.ownBlock] at e; omega
         refine step_appS (v := .slice (some ⟨w.heap.size + 1 + 1, 0, none⟩) 1 1) rfl _ _ rfl (fun k => S0 k ∨ (k = w.heap.size + 1 + 1 ∨ (w1.heap.size ≤ k ∧ k < w4.heap.size + 2))) rfl rfl (lq4.grownU (World.grownBy_alloc _ _ none)) (LR.build1 w4 (cs := #[.int .i64 k4, .string ⟨n4.toArray⟩, .int .i64 m4, .int .i64 q4, .slice ad4 l4.length cp4]) (t := T.mk k4 n4 m4 q4 l4) (sv := .slice ad4 l4.length cp4) lr4 rfl rfl (by omega))
           (fun k hk e => by have h1 := hin k e; have h2 : w1.heap.size ≤ k := hk.1; omega) (fun k hk => hk.elim .inl (fun h => .inr (.inl h))) (fun k hk => .inr (.inr ⟨hk.1, by have h : k < w4.heap.size + 1 := hk.2; omega⟩)) (.inr (.inr ⟨by simp; omega, by simp⟩)) (by simp) ?_
         intro v5 w5 lr5 hg5; obtain ⟨ad5, cp5, e5⟩ := lr5.form; rw [List.length_append, List.length_singleton] at e5; subst e5; have s5 := hg5.size
         try simp at s5
         have n5 : NB w5 (w.heap.size + 1 + 1 + 1) (.int .i64 26) (.string ⟨#[]⟩) (.int .i64 0) (.int .i64 q0) (.slice (some ⟨w.heap.size + 1 + 1, 0, none⟩) 1 1) := NB.kept (n4'.alloc _) hg5 (fun e => by have := hin _ e.symm; omega); have r5 : RB w5 (w.heap.size + 1) := RB.kept (r4.alloc _) hg5 (fun e => by have := hin _ e.symm; omega); have p5 : PS c w5 j4 d := PS.own (p4.alloc _) HL.out hg5 (fun b hb => by have := hin b hb; omega); have G5 : w.grownBy w5 (some c.pb) := gb_own (gb_alloc G4 _) hg5 (fun b hb => by have := hin b hb; omega); have n_lt5 := n5.lt; have r_lt5 := r5.lt
         obtain ⟨z0, z1, z2, z3, z4, zz⟩ := id n5))
    all_goals
      have lr6 : LR w5 (fun k => S0 k ∨ (k = w.heap.size + 1 + 1 ∨ (w1.heap.size ≤ k ∧ k < w5.heap.size))) [T.mk k0 n0 m0 q0 l0, T.mk k4 n4 m4 q4 l4] (.slice ad5 2 cp5) := lr5.bounded.mono (fun k hk => hk.1.elim .inl (fun h => .inr (h.elim .inl (fun h => .inr ⟨h.1, hk.2⟩)))); go_wp2_with fail; go_at_call 52; refine (pwant_any c _ j4 d s_rb _ rfl (by decide) (by exact PS.put p5 HL.out (by omega) _ _)).mono ?_; rintro e w6 (⟨x6, hr6, ht6, hg6⟩ | ⟨a6, j6, v6, hr6, rfl, -, hg6, p6, hi6⟩)
      · have HT := ht6
        obtain ⟨q, rfl, -⟩ := ht6
        exact ⟨rfl, Steps.err (((partP_lb h2).trans (P.bind_ok hr4)).trans (P.bind_err hr6)) HT (by exact gb_put G5 (by omega) _ _) hg6⟩
      have HR6 : partP c.L E (T.mk k0 n0 m0 q0 l0) i = _ := ((partP_lb h2).trans (P.bind_ok hr4)).trans (P.bind_ok hr6); have G6 : w.grownBy w6 (some c.pb) := gb_trans (by exact gb_put G5 (by omega) _ _) hg6; have s6 := hg6.size
      try simp at s6
      have r6 : RB w6 (w.heap.size + 1) := RB.kept (by exact RB.put r5 _ _ _) hg6 (by simp; omega); have n6 : NB w6 (w.heap.size + 1 + 1 + 1) (.int .i64 26) (.string ⟨#[]⟩) (.int .i64 0) (.int .i64 q0) (.slice ad5 2 cp5) := NB.kept (by exact NB.s4 n5 _) hg6 (by simp; omega)
      have l6 : LR w6 (fun k => S0 k ∨ (k = w.heap.size + 1 + 1 ∨ (w1.heap.size ≤ k ∧ k < w5.heap.size))) [T.mk k0 n0 m0 q0 l0, T.mk k4 n4 m4 q4 l4] (.slice ad5 2 cp5) := by
        refine LR.kept (row := some c.pb) ?_ hg6 (fun b hb hs => by cases hb; exact hs.elim (fun h => hsp h) (fun h => by omega))
        exact LR.kept (row := some (w.heap.size + 1 + 1 + 1)) lr6 (gb_set (gb_refl _ _) _ _) (fun b hb hs => by cases hb; exact hs.elim (fun h => hnn h) (fun h => by omega))
      have r_lt6 := r6.lt; have n_lt6 := n6.lt; obtain ⟨_, _, _, _, _, u0, u1, u2, u3, u4, uz⟩ := id r6; obtain ⟨t0, t1, t2, t3, t4, tz⟩ := id n6; go_wp2; refine node_ret Tryz.results147 rfl (RB.five ?_) rfl ?_
      · exact r6
      refine Steps.ok (a := T.mk 26 [] 0 q0 [T.mk k0 n0 m0 q0 l0, T.mk k4 n4 m4 q4 l4]) HR6 ⟨_, rfl, ?_⟩ ?_ ?_ (by omega)
      · refine LR.mono (S := fun k => S0 k ∨ (k = w.heap.size + 1 + 1 ∨ (w1.heap.size ≤ k ∧ k < w5.heap.size))) (ts := [T.mk k0 n0 m0 q0 l0, T.mk k4 n4 m4 q4 l4]) ?_ (fun k hk => ?_)
        · have hr' : ¬ (S0 (w.heap.size + 1) ∨ (w.heap.size + 1 = w.heap.size + 1 + 1 ∨ (w1.heap.size ≤ w.heap.size + 1 ∧ w.heap.size + 1 < w5.heap.size))) := fun h => h.elim hnr (fun h => by omega)
          exact ((((l6.putS hr' _ _).putS hr' _ _).putS hr' _ _).putS hr' _ _).putS hr' _ _
        · rcases hk with hk | hk
          · exact .inl hk
          · exact .inr ⟨by omega, by first | omega | (simp <;> omega)⟩
      · exact gb_p5 G6 (by omega)
      · exact PS.p5 p6 HL.out (by omega)
  · have hw2 : (wd c.L i == [91]) = false := by simpa [s_lb] using h2
    have hw3 : (wd c.L i == [94]) = false := by simpa [s_hat] using h3
    have h4 : wd c.L i = s_lc := by
      have h := HPN.out
      unfold partIsNext at h
      simp only [Bool.or_eq_true, beq_iff_eq] at h
      rcases h with ((h | h) | h) | h
      · exact absurd h h1
      · exact absurd h h2
      · exact absurd h h3
      · exact h
    have hw4 : (wd c.L i == [123]) = true := by rw [h4]; decide
    go_wp2_with fail
    go_region_law (first
      | (go_simp
         go_at_call 114; refine (ptypeName_any c _ (i + 1) d (by exact PS.drew (PS.put p1 HL.out (by omega) _ _))).mono ?_; rintro e w4 (⟨x4, hr4, ht4, hg4⟩ | ⟨⟨k4, n4, m4, q4, l4⟩, j4, v4, hr4, rfl, ⟨sv4, rfl, lr4⟩, hg4, p4, hi4⟩)
         focus
           have HT := ht4; obtain ⟨q, rfl, -⟩ := ht4
           exact ⟨rfl, Steps.err ((partP_lc h4).trans (P.bind_err hr4)) HT (by exact gb_drew (gb_put G1 (by omega) _ _)) hg4⟩
         simp only [T.kind, T.name, T.num, T.at', T.subs] at lr4 ⊢; obtain ⟨ad4, cp4, rfl⟩ := lr4.form; have s4 := hg4.size
         try simp at s4
         have n4' : NB w4 (w.heap.size + 1 + 1 + 1) (.int .i64 28) (.string ⟨#[]⟩) (.int .i64 0) (.int .i64 q0) (.slice (some ⟨w.heap.size + 1 + 1, 0, none⟩) 1 1) := NB.kept (by exact NB.drew (NB.s0 n1 _)) hg4 (by simp; omega); have r4 : RB w4 (w.heap.size + 1) := RB.kept (by exact RB.drew (RB.put r1 _ _ _)) hg4 (by simp; omega); have G4 : w.grownBy w4 (some c.pb) := gb_trans (by exact gb_drew (gb_put G1 (by omega) _ _)) hg4
         have lq4 : LR w4 (fun k => S0 k ∨ k = w.heap.size + 1 + 1) [T.mk k0 n0 m0 q0 l0] (.slice (some ⟨w.heap.size + 1 + 1, 0, none⟩) 1 1) := by
           refine LR.kept (row := some c.pb) ?_ hg4 (fun b hb hs => by cases hb; exact hs.elim (fun h => hsp h) (fun h => by omega)); refine LR.kept (row := none) ?_ (gb_drewN (gb_refl _ none) 1) (fun b hb => by cases hb)
           exact LR.kept (row := some (w.heap.size + 1 + 1 + 1)) l1 (gb_set (gb_refl _ _) _ _) (fun b hb hs => by cases hb; exact hs.elim (fun h => hnn h) (fun h => by omega))
         have lr4 := LR.wide lr4 (lo' := w1.heap.size) (by simp) (Nat.le_refl _); have n_lt4 := n4'.lt; have r_lt4 := r4.lt
         obtain ⟨z0, z1, z2, z3, z4, zz⟩ := id n4')
      | (have hin : ∀ b, Value.ownBlock (.slice (some ⟨w.heap.size + 1 + 1, 0, none⟩) 1 1) = some b → b = w.heap.size + 1 + 1 := fun b e => by simp [Value.ownBlock] at e; omega
         refine step_appS (v := .slice (some ⟨w.heap.size + 1 + 1, 0, none⟩) 1 1) rfl _ _ rfl (fun k => S0 k ∨ (k = w.heap.size + 1 + 1 ∨ (w1.heap.size ≤ k ∧ k < w4.heap.size + 2))) rfl rfl (lq4.grownU (World.grownBy_alloc _ _ none)) (LR.build1 w4 (cs := #[.int .i64 k4, .string ⟨n4.toArray⟩, .int .i64 m4, .int .i64 q4, .slice ad4 l4.length cp4]) (t := T.mk k4 n4 m4 q4 l4) (sv := .slice ad4 l4.length cp4) lr4 rfl rfl (by omega))
           (fun k hk e => by have h1 := hin k e; have h2 : w1.heap.size ≤ k := hk.1; omega) (fun k hk => hk.elim .inl (fun h => .inr (.inl h))) (fun k hk => .inr (.inr ⟨hk.1, by have h : k < w4.heap.size + 1 := hk.2; omega⟩)) (.inr (.inr ⟨by simp; omega, by simp⟩)) (by simp) ?_
         intro v5 w5 lr5 hg5; obtain ⟨ad5, cp5, e5⟩ := lr5.form; rw [List.length_append, List.length_singleton] at e5; subst e5; have s5 := hg5.size
         try simp at s5
         have n5 : NB w5 (w.heap.size + 1 + 1 + 1) (.int .i64 28) (.string ⟨#[]⟩) (.int .i64 0) (.int .i64 q0) (.slice (some ⟨w.heap.size + 1 + 1, 0, none⟩) 1 1) := NB.kept (n4'.alloc _) hg5 (fun e => by have := hin _ e.symm; omega); have r5 : RB w5 (w.heap.size + 1) := RB.kept (r4.alloc _) hg5 (fun e => by have := hin _ e.symm; omega); have p5 : PS c w5 j4 d := PS.own (p4.alloc _) HL.out hg5 (fun b hb => by have := hin b hb; omega); have G5 : w.grownBy w5 (some c.pb) := gb_own (gb_alloc G4 _) hg5 (fun b hb => by have := hin b hb; omega); have n_lt5 := n5.lt; have r_lt5 := r5.lt
         obtain ⟨z0, z1, z2, z3, z4, zz⟩ := id n5))
    all_goals
      have lr6 : LR w5 (fun k => S0 k ∨ (k = w.heap.size + 1 + 1 ∨ (w1.heap.size ≤ k ∧ k < w5.heap.size))) [T.mk k0 n0 m0 q0 l0, T.mk k4 n4 m4 q4 l4] (.slice ad5 2 cp5) := lr5.bounded.mono (fun k hk => hk.1.elim .inl (fun h => .inr (h.elim .inl (fun h => .inr ⟨h.1, hk.2⟩)))); go_wp2_with fail; go_at_call 52; refine (pwant_any c _ j4 d s_rc _ rfl (by decide) (by exact PS.put p5 HL.out (by omega) _ _)).mono ?_; rintro e w6 (⟨x6, hr6, ht6, hg6⟩ | ⟨a6, j6, v6, hr6, rfl, -, hg6, p6, hi6⟩)
      · have HT := ht6
        obtain ⟨q, rfl, -⟩ := ht6
        exact ⟨rfl, Steps.err (((partP_lc h4).trans (P.bind_ok hr4)).trans (P.bind_err hr6)) HT (by exact gb_put G5 (by omega) _ _) hg6⟩
      have HR6 : partP c.L E (T.mk k0 n0 m0 q0 l0) i = _ := ((partP_lc h4).trans (P.bind_ok hr4)).trans (P.bind_ok hr6); have G6 : w.grownBy w6 (some c.pb) := gb_trans (by exact gb_put G5 (by omega) _ _) hg6; have s6 := hg6.size
      try simp at s6
      have r6 : RB w6 (w.heap.size + 1) := RB.kept (by exact RB.put r5 _ _ _) hg6 (by simp; omega); have n6 : NB w6 (w.heap.size + 1 + 1 + 1) (.int .i64 28) (.string ⟨#[]⟩) (.int .i64 0) (.int .i64 q0) (.slice ad5 2 cp5) := NB.kept (by exact NB.s4 n5 _) hg6 (by simp; omega)
      have l6 : LR w6 (fun k => S0 k ∨ (k = w.heap.size + 1 + 1 ∨ (w1.heap.size ≤ k ∧ k < w5.heap.size))) [T.mk k0 n0 m0 q0 l0, T.mk k4 n4 m4 q4 l4] (.slice ad5 2 cp5) := by
        refine LR.kept (row := some c.pb) ?_ hg6 (fun b hb hs => by cases hb; exact hs.elim (fun h => hsp h) (fun h => by omega))
        exact LR.kept (row := some (w.heap.size + 1 + 1 + 1)) lr6 (gb_set (gb_refl _ _) _ _) (fun b hb hs => by cases hb; exact hs.elim (fun h => hnn h) (fun h => by omega))
      have r_lt6 := r6.lt; have n_lt6 := n6.lt; obtain ⟨_, _, _, _, _, u0, u1, u2, u3, u4, uz⟩ := id r6; obtain ⟨t0, t1, t2, t3, t4, tz⟩ := id n6; go_wp2; refine node_ret Tryz.results147 rfl (RB.five ?_) rfl ?_
      · exact r6
      refine Steps.ok (a := T.mk 28 [] 0 q0 [T.mk k0 n0 m0 q0 l0, T.mk k4 n4 m4 q4 l4]) HR6 ⟨_, rfl, ?_⟩ ?_ ?_ (by omega)
      · refine LR.mono (S := fun k => S0 k ∨ (k = w.heap.size + 1 + 1 ∨ (w1.heap.size ≤ k ∧ k < w5.heap.size))) (ts := [T.mk k0 n0 m0 q0 l0, T.mk k4 n4 m4 q4 l4]) ?_ (fun k hk => ?_)
        · have hr' : ¬ (S0 (w.heap.size + 1) ∨ (w.heap.size + 1 = w.heap.size + 1 + 1 ∨ (w1.heap.size ≤ w.heap.size + 1 ∧ w.heap.size + 1 < w5.heap.size))) := fun h => h.elim hnr (fun h => by omega)
          exact ((((l6.putS hr' _ _).putS hr' _ _).putS hr' _ _).putS hr' _ _).putS hr' _ _
        · rcases hk with hk | hk
          · exact .inl hk
          · exact .inr ⟨by omega, by first | omega | (simp <;> omega)⟩
      · exact gb_p5 G6 (by omega)
      · exact PS.p5 p6 HL.out (by omega)
end Go.Proofs.YtbphiiaoncakfaaGreatDoor

/- Designators. -/
namespace Go.Proofs.YtbphiiaoncakfaaGreatDoor
open Go.RowKit

theorem desig_no {L : List Tok} {E : P T} {f j : Nat} {t : T} (h : partIsNext (wd L j) = false) : designatorLoop L E f t j = .ok (t, j) := by
  cases f <;> (rw [designatorLoop]; exact if_neg (by rw [h]; decide))
theorem desig_yes {L : List Tok} {E : P T} {f j : Nat} {t : T} (h : partIsNext (wd L j) = true) : designatorLoop L E (f + 1) t j = ((partP L E t).bind fun n' => designatorLoop L E f n') j := by
  rw [designatorLoop]
  exact if_pos h
theorem desig_stop {L : List Tok} {E : P T} {j : Nat} {t : T} (h : partIsNext (wd L j) = true) : designatorLoop L E 0 t j = ((partP L E t).bind fun _ => limitP L) j := by
  rw [designatorLoop]
  exact if_pos h

/-- What holds at the head of the loop: the designator so far lies in the block N, its parts elsewhere. -/
structure DI (c : PC) (w : World) (i d N : Nat) (S0 : Nat → Prop) (r : Except (Int × Int) (T × Nat)) (q : Nat → T → P T) (wr : World) (k : Int) (s : List UInt8) (n a : Int) (l : List T) (sv : Value) (j f : Nat) : Prop where
  nb : NB wr N (.int .i64 k) (.string ⟨s.toArray⟩) (.int .i64 n) (.int .i64 a) sv
  rb : RB wr w.heap.size
  lr : LR wr (Un S0 (N + 1) wr.heap.size) l sv
  ps : PS c wr j d
  gb : w.grownBy wr (some c.pb)
  same : r = q f (.mk k s n a l) j
  le : i ≤ j

set_option maxRecDepth 100000 in
set_option maxHeartbeats 2000000 in
theorem pdesignator_any (c : PC) (w : World) (i d : Nat) (E : P T) (h : PS c w i d) (hE : ExprOK c d E) :
    Calls Tryz.prog 141 #[.pointer (some ⟨c.pb, 0, none⟩)] w (Steps c w i d (fun w' t v => TR w' w.heap.size w'.heap.size t v) (designatorP c.L E i)) := by
  have HP := hide h; have HL := hide h.low; have hb := h.lt; have HE := hide hE; clear h hE
  go_enter Tryz.func141, Tryz.ntmps141
  go_wp2_with fail; go_at_call 90; refine (pnamed_any c _ i d 24 (by exact PS.alloc HP.out _)).mono ?_; rintro e w1 (⟨x1, hr1, ht1, hg1⟩ | ⟨⟨k1, n1, m1, q1, l1⟩, j1, v1, hr1, rfl, ⟨sv1, rfl, lr1⟩, hg1, p1, hi1⟩)
  · have HT := ht1
    obtain ⟨q, rfl, -⟩ := ht1
    exact ⟨rfl, Steps.err (P.bind_err hr1) HT (by exact gb_alloc (gb_refl w (some c.pb)) _) hg1⟩
  have HR1 : designatorP c.L E i = _ := P.bind_ok hr1; simp only [T.kind, T.name, T.num, T.at', T.subs] at lr1 ⊢; obtain ⟨ad1, cp1, rfl⟩ := lr1.form; obtain ⟨b1, hb1, lr1⟩ : ∃ b, b = _ ∧ LR w1 (In b w1.heap.size) l1 (.slice ad1 l1.length cp1) := ⟨_, rfl, lr1⟩
  try simp at hb1
  have G1 : w.grownBy w1 (some c.pb) := gb_trans (by exact gb_alloc (gb_refl w (some c.pb)) _) hg1; have s1 := hg1.size
  try simp at s1
  have r1 : RB w1 w.heap.size := RB.kept (RB.new' (by simp)) hg1 (by simp; omega)
  have D0 : Hid (DI c w i d w1.heap.size (In b1 w1.heap.size) (designatorP c.L E i) (designatorLoop c.L E) (w1.alloc (.cells #[.int .i64 k1, .string ⟨n1.toArray⟩, .int .i64 m1, .int .i64 q1, .slice ad1 l1.length cp1] 25)) k1 n1 m1 q1 l1 (.slice ad1 l1.length cp1) j1 20) :=
    DI.mk (NB.new' rfl) (r1.alloc _) ((lr1.un).grownU (World.grownBy_alloc _ _ none)) (p1.alloc _) (gb_alloc G1 _) HR1 hi1
  have hsp : ¬ In b1 w1.heap.size c.pb := fun e => by have h1 : b1 ≤ c.pb := e.1; omega
  have hsr : ¬ In b1 w1.heap.size w.heap.size := fun e => by have h1 : b1 ≤ w.heap.size := e.1; omega
  have hsn : ¬ In b1 w1.heap.size w1.heap.size := fun e => by have h1 : w1.heap.size < w1.heap.size := e.2; omega
  clear lr1 p1 hg1 HR1 hr1 G1 r1; go_wp2_with fail
  go_loopw [4] (fun v wr => ∃ (k : Int) (s : List UInt8) (n a : Int) (l : List T) (sv : Value) (j f : Nat), f ≤ 20 ∧ v = .int .i64 (21 - (f : Int)) ∧ Hid (DI c w i d w1.heap.size (In b1 w1.heap.size) (designatorP c.L E i) (designatorLoop c.L E) wr k s n a l sv j f)) (fun v _ => 22 - (intOf v).toNat)
  case atStart => exact ⟨k1, n1, m1, q1, l1, _, j1, 20, by omega, rfl, D0⟩
  case round =>
    obtain ⟨k, s, n, a, l, sv, j, f, hf, rfl, HC⟩ := hrel; clear D0; have hC := HC.out; obtain ⟨ad, cp, rfl⟩ := hC.lr.form; have HNB := hide hC.nb; have HRB := hide hC.rb; have HLR := hide hC.lr; have HPS := hide hC.ps; have HG := hide hC.gb; have HSM := hide hC.same; have hij := hC.le; have hsz := hC.nb.lt; clear hC HC; go_wp2_with fail; go_at_call 146; refine (ppartIsNext_any c _ j d HPS.out).mono ?_; rintro e w2 ⟨rfl, hg2⟩; have s2 := hg2.size; have p2 : PS c w2 j d := HPS.out.kept hg2; have G2 : w.grownBy w2 (some c.pb) := gb_trans HG.out (gb_some hg2 _); have nb2 := HNB.out.kept hg2 (by simp); have rb2 := HRB.out.kept hg2 (by simp); have lr2 := HLR.out.grownU hg2; have n_lt2 := nb2.lt; have r_lt2 := rb2.lt; obtain ⟨x0, x1, x2, x3, x4, xz⟩ := id nb2; obtain ⟨_, _, _, _, _, y0, y1, y2, y3, y4, yz⟩ := id rb2; cases hpn : partIsNext (wd c.L j)
    · go_wp2
      refine node_ret Tryz.results141 rfl (RB.five ?_) rfl ?_
      · exact rb2
      refine Steps.ok (a := T.mk k s n a l) (HSM.out.trans (desig_no hpn)) ⟨_, rfl, ?_⟩ ?_ ?_ (by omega)
      · have hr' : ¬ Un (In b1 w1.heap.size) (w1.heap.size + 1) wr.heap.size w.heap.size := fun h => h.elim hsr (fun h => by omega)
        refine LR.mono (S := Un (In b1 w1.heap.size) (w1.heap.size + 1) wr.heap.size) (ts := l) ((((((lr2.putS hr' _ _).putS hr' _ _).putS hr' _ _).putS hr' _ _).putS hr' _ _)) (fun k hk => ?_)
        rcases hk with hk | hk
        · have h1 : b1 ≤ k := hk.1
          have h2 : k < w1.heap.size := hk.2
          exact ⟨by omega, by first | omega | (simp <;> omega)⟩
        · exact ⟨by omega, by first | omega | (simp <;> omega)⟩
      · exact gb_p5 G2 (by omega)
      · exact PS.p5 p2 HL.out (by omega)
    · go_wp2_with fail
      go_at_call 147; refine (ppart_any c _ j d E (T.mk k s n a l) (Un (In b1 w1.heap.size) (w1.heap.size + 1) wr.heap.size) (.slice ad l.length cp) p2 lr2 (fun k hk => ?_) HE.out hpn).mono ?_
      · rcases hk with hk | hk
        · have h1 : b1 ≤ k := hk.1
          have h2 : k < w1.heap.size := hk.2
          exact ⟨by omega, by omega⟩
        · exact ⟨by omega, by omega⟩
      rintro e w4 (⟨x4, hr4, ht4, hg4⟩ | ⟨⟨k4, n4, m4, q4, l4⟩, j4, v4, hr4, rfl, ⟨sv4, rfl, lr4⟩, hg4, p4, hi4⟩)
      · have HT := ht4
        obtain ⟨q, rfl, -⟩ := ht4; refine ⟨rfl, Steps.err (x := x4) ?_ HT G2 hg4⟩; cases f with
        | zero => exact HSM.out.trans ((desig_stop hpn).trans (P.bind_err hr4))
        | succ f => exact HSM.out.trans ((desig_yes hpn).trans (P.bind_err hr4))
      simp only [T.kind, T.name, T.num, T.at', T.subs] at lr4 ⊢; obtain ⟨ad4, cp4, rfl⟩ := lr4.form; have s4 := hg4.size; have G4 : w.grownBy w4 (some c.pb) := gb_trans G2 hg4; have nb4 := nb2.kept hg4 (by simp; omega); have rb4 := rb2.kept hg4 (by simp; omega); have n_lt4 := nb4.lt; have r_lt4 := rb4.lt
      have lr5 : LR w4 (Un (In b1 w1.heap.size) (w1.heap.size + 1) w4.heap.size) l4 (.slice ad4 l4.length cp4) := lr4.mono (fun k hk => by
        rcases hk with (hk | hk) | hk
        · exact .inl hk
        · exact .inr ⟨hk.1, by omega⟩
        · exact .inr ⟨by omega, hk.2⟩)
      have hn' : ¬ Un (In b1 w1.heap.size) (w1.heap.size + 1) w4.heap.size w1.heap.size := fun h => h.elim hsn (fun h => by omega)
      have lr6 : LR (put5 w4 w1.heap.size (.int .i64 k4) (.string ⟨n4.toArray⟩) (.int .i64 m4) (.int .i64 q4) (.slice ad4 l4.length cp4)) (Un (In b1 w1.heap.size) (w1.heap.size + 1) w4.heap.size) l4 (.slice ad4 l4.length cp4) :=
        ((((lr5.putS hn' _ _).putS hn' _ _).putS hn' _ _).putS hn' _ _).putS hn' _ _
      have LR6 := hide lr6; obtain ⟨z0, z1, z2, z3, z4, zz⟩ := id nb4; cases f with
      | zero =>
        have hx : decide ((20 : Int) < 21 - ((0 : Nat) : Int)) = true := by decide
        go_wp2_with fail; go_at_call 62; refine (pthrow_any c _ j4 d 3 (by exact PS.p5 p4 HL.out (by omega))).mono ?_; rintro e w5 ⟨ht5, hg5⟩; have HT := ht5; obtain ⟨q, rfl, -⟩ := ht5
        exact ⟨rfl, Steps.err (x := (3, pos c.L j4)) ((HSM.out.trans (desig_stop hpn)).trans (P.bind_ok hr4)) HT (by exact gb_p5 G4 (by omega)) (gb_some hg5 _)⟩
      | succ f =>
        have hx : decide ((20 : Int) < 21 - ((f + 1 : Nat) : Int)) = false := by simp; omega
        go_wp2; refine ⟨⟨k4, n4, m4, q4, l4, .slice ad4 l4.length cp4, j4, f, by omega, by simp; omega, DI.mk (by exact (by exact NB.s4 (NB.s3 (NB.s2 (NB.s1 (NB.s0 nb4 _) _) _) _) _)) (by exact (by exact RB.p5 rb4)) ?_ (by exact (by exact PS.p5 p4 HL.out (by omega))) (by exact (by exact gb_p5 G4 (by omega))) (HSM.out.trans ((desig_yes hpn).trans (P.bind_ok hr4))) (by omega)⟩, ?_⟩
        · exact LR6.out.wideU (Nat.le_refl _) (by simp)
        · simp [intOf]
          omega
end Go.Proofs.YtbphiiaoncakfaaGreatDoor

/- Factors and expressions, level by level. -/
namespace Go.Proofs.YtbphiiaoncakfaaGreatDoor
open Go.RowKit

section
variable {L : List Tok} {E F : P T} {i : Nat}
theorem factorP_true (h : wd L i = kTRUE) : factorP L E F i = (P.ret (T.mk 30 [] 0 (pos L i) [])) (i + 1) := by unfold factorP; rw [if_pos h]; rfl
theorem factorP_false (h : wd L i = kFALSE) : factorP L E F i = (P.ret (T.mk 31 [] 0 (pos L i) [])) (i + 1) := by unfold factorP; rw [if_neg (by rw [h]; decide), if_pos h]; rfl
theorem factorP_nil (h : wd L i = kNIL) : factorP L E F i = (P.ret (T.mk 32 [] 0 (pos L i) [])) (i + 1) := by unfold factorP; rw [if_neg (by rw [h]; decide), if_neg (by rw [h]; decide), if_pos h]; rfl
theorem factorP_tilde (h : wd L i = s_tilde) : factorP L E F i = ((wantP L s_tilde).bind fun _ => F.bind fun t => P.ret (T.mk 34 [] 0 (pos L i) [t])) i := by
  rw [P.bind_ok (a := ()) (j := i + 1) (by unfold wantP; rw [if_pos h])]
  unfold factorP; rw [if_neg (by rw [h]; decide), if_neg (by rw [h]; decide), if_neg (by rw [h]; decide), if_pos h]
theorem factorP_lp (h : wd L i = s_lp) : factorP L E F i = ((wantP L s_lp).bind fun _ => E.bind fun e => (wantP L s_rp).bind fun _ => P.ret e) i := by
  rw [P.bind_ok (a := ()) (j := i + 1) (by unfold wantP; rw [if_pos h])]
  unfold factorP; rw [if_neg (by rw [h]; decide), if_neg (by rw [h]; decide), if_neg (by rw [h]; decide), if_neg (by rw [h]; decide), if_pos h]
theorem factorP_rest (h1 : wd L i ≠ kTRUE) (h2 : wd L i ≠ kFALSE) (h3 : wd L i ≠ kNIL) (h4 : wd L i ≠ s_tilde) (h5 : wd L i ≠ s_lp) : factorP L E F i = if nameB (wd L i) = true then designatorOrCallP L E i else (numP L).bind (fun n => P.ret (.mk 29 [] n (pos L i) [])) i := by
  unfold factorP; rw [if_neg h1, if_neg h2, if_neg h3, if_neg h4, if_neg h5]
end

set_option maxRecDepth 100000 in
set_option maxHeartbeats 2000000 in
theorem pfactor_any (c : PC) (w : World) (i d : Nat) (E F : P T) (h : PS c w i d) (hE : ExprOK c d E) (hF : NegOK c d F) :
    Calls Tryz.prog 143 #[.pointer (some ⟨c.pb, 0, none⟩)] w (Steps c w i d (fun w' t v => TR w' w.heap.size w'.heap.size t v) (factorP c.L E F i)) := by
  have HP := hide h; have HL := hide h.low; have hb := h.lt; clear h
  go_enter Tryz.func143, Tryz.ntmps143
  go_wp2_with fail; go_at_call 38; refine (pwordq_any c _ i d (by exact PS.alloc HP.out _)).mono ?_; rintro e w1 ⟨rfl, hg1⟩; have p1 : PS c w1 i d := PS.kept (by exact PS.alloc HP.out _) hg1; have G1 : w.grownBy w1 (some c.pb) := gb_trans (by exact gb_alloc (gb_refl w (some c.pb)) _) (gb_some hg1 (some c.pb)); have s1 := hg1.size
  try simp at s1
  have r_1 : RB w1 (w.heap.size) := RB.kept (RB.new' (by simp)) hg1 (by simp); have r_lt1 := r_1.lt; obtain ⟨_,_,_,_,_,_,_,_,_,_,_⟩ := id r_1
  by_cases h1 : wd c.L i = kTRUE
  · have hw1 : (wd c.L i == [84, 82, 85, 69]) = true := by rw [h1]; decide
    have HRx1 : factorP c.L E F i = _ := factorP_true h1; go_wp2_with fail; go_at_call 149; refine (pliteral_any c _ i d 30 p1 (by rw [h1]; decide)).mono ?_; rintro e w2 (⟨x2, hr2, ht2, hg2⟩ | ⟨⟨k2, n2, m2, q2, l2⟩, j2, v2, hr2, rfl, ⟨sv2, rfl, lr2⟩, hg2, p2, hi2⟩)
    · have HT := ht2
      obtain ⟨q, rfl, -⟩ := ht2
      exact ⟨rfl, Steps.err (HRx1.trans hr2) HT G1 hg2⟩
    have HR2 : factorP c.L E F i = _ := HRx1.trans hr2; simp only [T.kind, T.name, T.num, T.at', T.subs] at lr2 ⊢; obtain ⟨ad2, cp2, rfl⟩ := lr2.form; obtain ⟨b2, hb2, lr2⟩ : ∃ b, b = _ ∧ LR w2 (In b w2.heap.size) l2 (.slice ad2 l2.length cp2) := ⟨_, rfl, lr2⟩
    try simp at hb2
    have G2 : w.grownBy w2 (some c.pb) := gb_trans G1 hg2; have s2 := hg2.size
    try simp at s2
    have r_2 : RB w2 (w.heap.size) := RB.keep r_1 hg2 (by omega); have r_lt2 := r_2.lt; obtain ⟨_,_,_,_,_,_,_,_,_,_,_⟩ := id r_2; go_wp2; refine node_ret Tryz.results143 rfl (RB.five ?_) rfl ?_
    · exact r_2
    refine Steps.ok (a := (T.mk k2 n2 m2 q2 l2)) (HR2) ⟨_, rfl, ?_⟩ ?_ ?_ (by omega)
    · refine LR.wide (lo := b2) (hi := w2.heap.size) (ts := l2) ?_ (by omega) (by first | omega | (simp <;> omega))
      exact LR.p5 lr2 (by omega)
    · exact gb_p5 G2 (by omega)
    · exact PS.p5 p2 HL.out (by omega)
  have hw1 : (wd c.L i == [84, 82, 85, 69]) = false := by simpa [kTRUE] using h1
  by_cases h2 : wd c.L i = kFALSE
  · have hw2 : (wd c.L i == [70, 65, 76, 83, 69]) = true := by rw [h2]; decide
    have HRx2 : factorP c.L E F i = _ := factorP_false h2; go_wp2_with fail; go_at_call 149; refine (pliteral_any c _ i d 31 p1 (by rw [h2]; decide)).mono ?_; rintro e w2 (⟨x2, hr2, ht2, hg2⟩ | ⟨⟨k2, n2, m2, q2, l2⟩, j2, v2, hr2, rfl, ⟨sv2, rfl, lr2⟩, hg2, p2, hi2⟩)
    · have HT := ht2
      obtain ⟨q, rfl, -⟩ := ht2
      exact ⟨rfl, Steps.err (HRx2.trans hr2) HT G1 hg2⟩
    have HR2 : factorP c.L E F i = _ := HRx2.trans hr2; simp only [T.kind, T.name, T.num, T.at', T.subs] at lr2 ⊢; obtain ⟨ad2, cp2, rfl⟩ := lr2.form; obtain ⟨b2, hb2, lr2⟩ : ∃ b, b = _ ∧ LR w2 (In b w2.heap.size) l2 (.slice ad2 l2.length cp2) := ⟨_, rfl, lr2⟩
    try simp at hb2
    have G2 : w.grownBy w2 (some c.pb) := gb_trans G1 hg2; have s2 := hg2.size
    try simp at s2
    have r_2 : RB w2 (w.heap.size) := RB.keep r_1 hg2 (by omega); have r_lt2 := r_2.lt; obtain ⟨_,_,_,_,_,_,_,_,_,_,_⟩ := id r_2; go_wp2; refine node_ret Tryz.results143 rfl (RB.five ?_) rfl ?_
    · exact r_2
    refine Steps.ok (a := (T.mk k2 n2 m2 q2 l2)) (HR2) ⟨_, rfl, ?_⟩ ?_ ?_ (by omega)
    · refine LR.wide (lo := b2) (hi := w2.heap.size) (ts := l2) ?_ (by omega) (by first | omega | (simp <;> omega))
      exact LR.p5 lr2 (by omega)
    · exact gb_p5 G2 (by omega)
    · exact PS.p5 p2 HL.out (by omega)
  have hw2 : (wd c.L i == [70, 65, 76, 83, 69]) = false := by simpa [kFALSE] using h2
  by_cases h3 : wd c.L i = kNIL
  · have hw3 : (wd c.L i == [78, 73, 76]) = true := by rw [h3]; decide
    have HRx3 : factorP c.L E F i = _ := factorP_nil h3; go_wp2_with fail; go_at_call 149; refine (pliteral_any c _ i d 32 p1 (by rw [h3]; decide)).mono ?_; rintro e w2 (⟨x2, hr2, ht2, hg2⟩ | ⟨⟨k2, n2, m2, q2, l2⟩, j2, v2, hr2, rfl, ⟨sv2, rfl, lr2⟩, hg2, p2, hi2⟩)
    · have HT := ht2
      obtain ⟨q, rfl, -⟩ := ht2
      exact ⟨rfl, Steps.err (HRx3.trans hr2) HT G1 hg2⟩
    have HR2 : factorP c.L E F i = _ := HRx3.trans hr2; simp only [T.kind, T.name, T.num, T.at', T.subs] at lr2 ⊢; obtain ⟨ad2, cp2, rfl⟩ := lr2.form; obtain ⟨b2, hb2, lr2⟩ : ∃ b, b = _ ∧ LR w2 (In b w2.heap.size) l2 (.slice ad2 l2.length cp2) := ⟨_, rfl, lr2⟩
    try simp at hb2
    have G2 : w.grownBy w2 (some c.pb) := gb_trans G1 hg2; have s2 := hg2.size
    try simp at s2
    have r_2 : RB w2 (w.heap.size) := RB.keep r_1 hg2 (by omega); have r_lt2 := r_2.lt; obtain ⟨_,_,_,_,_,_,_,_,_,_,_⟩ := id r_2; go_wp2; refine node_ret Tryz.results143 rfl (RB.five ?_) rfl ?_
    · exact r_2
    refine Steps.ok (a := (T.mk k2 n2 m2 q2 l2)) (HR2) ⟨_, rfl, ?_⟩ ?_ ?_ (by omega)
    · refine LR.wide (lo := b2) (hi := w2.heap.size) (ts := l2) ?_ (by omega) (by first | omega | (simp <;> omega))
      exact LR.p5 lr2 (by omega)
    · exact gb_p5 G2 (by omega)
    · exact PS.p5 p2 HL.out (by omega)
  have hw3 : (wd c.L i == [78, 73, 76]) = false := by simpa [kNIL] using h3
  by_cases h4 : wd c.L i = s_tilde
  · have hw4 : (wd c.L i == [126]) = true := by rw [h4]; decide
    have HRx4 : factorP c.L E F i = _ := factorP_tilde h4; go_wp2_with fail; go_at_call 150; refine (pnegation_any c _ i d F p1 hF).mono ?_; rintro e w2 (⟨x2, hr2, ht2, hg2⟩ | ⟨⟨k2, n2, m2, q2, l2⟩, j2, v2, hr2, rfl, ⟨sv2, rfl, lr2⟩, hg2, p2, hi2⟩)
    · have HT := ht2
      obtain ⟨q, rfl, -⟩ := ht2
      exact ⟨rfl, Steps.err (HRx4.trans hr2) HT G1 hg2⟩
    have HR2 : factorP c.L E F i = _ := HRx4.trans hr2; simp only [T.kind, T.name, T.num, T.at', T.subs] at lr2 ⊢; obtain ⟨ad2, cp2, rfl⟩ := lr2.form; obtain ⟨b2, hb2, lr2⟩ : ∃ b, b = _ ∧ LR w2 (In b w2.heap.size) l2 (.slice ad2 l2.length cp2) := ⟨_, rfl, lr2⟩
    try simp at hb2
    have G2 : w.grownBy w2 (some c.pb) := gb_trans G1 hg2; have s2 := hg2.size
    try simp at s2
    have r_2 : RB w2 (w.heap.size) := RB.keep r_1 hg2 (by omega); have r_lt2 := r_2.lt; obtain ⟨_,_,_,_,_,_,_,_,_,_,_⟩ := id r_2; go_wp2; refine node_ret Tryz.results143 rfl (RB.five ?_) rfl ?_
    · exact r_2
    refine Steps.ok (a := (T.mk k2 n2 m2 q2 l2)) (HR2) ⟨_, rfl, ?_⟩ ?_ ?_ (by omega)
    · refine LR.wide (lo := b2) (hi := w2.heap.size) (ts := l2) ?_ (by omega) (by first | omega | (simp <;> omega))
      exact LR.p5 lr2 (by omega)
    · exact gb_p5 G2 (by omega)
    · exact PS.p5 p2 HL.out (by omega)
  have hw4 : (wd c.L i == [126]) = false := by simpa [s_tilde] using h4
  by_cases h5 : wd c.L i = s_lp
  · have hw5 : (wd c.L i == [40]) = true := by rw [h5]; decide
    have HRx5 : factorP c.L E F i = _ := factorP_lp h5; go_wp2_with fail; go_at_call 151; refine (pinBrackets_any c _ i d E p1 hE).mono ?_; rintro e w2 (⟨x2, hr2, ht2, hg2⟩ | ⟨⟨k2, n2, m2, q2, l2⟩, j2, v2, hr2, rfl, ⟨sv2, rfl, lr2⟩, hg2, p2, hi2⟩)
    · have HT := ht2
      obtain ⟨q, rfl, -⟩ := ht2
      exact ⟨rfl, Steps.err (HRx5.trans hr2) HT G1 hg2⟩
    have HR2 : factorP c.L E F i = _ := HRx5.trans hr2; simp only [T.kind, T.name, T.num, T.at', T.subs] at lr2 ⊢; obtain ⟨ad2, cp2, rfl⟩ := lr2.form; obtain ⟨b2, hb2, lr2⟩ : ∃ b, b = _ ∧ LR w2 (In b w2.heap.size) l2 (.slice ad2 l2.length cp2) := ⟨_, rfl, lr2⟩
    try simp at hb2
    have G2 : w.grownBy w2 (some c.pb) := gb_trans G1 hg2; have s2 := hg2.size
    try simp at s2
    have r_2 : RB w2 (w.heap.size) := RB.keep r_1 hg2 (by omega); have r_lt2 := r_2.lt; obtain ⟨_,_,_,_,_,_,_,_,_,_,_⟩ := id r_2; go_wp2; refine node_ret Tryz.results143 rfl (RB.five ?_) rfl ?_
    · exact r_2
    refine Steps.ok (a := (T.mk k2 n2 m2 q2 l2)) (HR2) ⟨_, rfl, ?_⟩ ?_ ?_ (by omega)
    · refine LR.wide (lo := b2) (hi := w2.heap.size) (ts := l2) ?_ (by omega) (by first | omega | (simp <;> omega))
      exact LR.p5 lr2 (by omega)
    · exact gb_p5 G2 (by omega)
    · exact PS.p5 p2 HL.out (by omega)
  have hw5 : (wd c.L i == [40]) = false := by simpa [s_lp] using h5
  go_wp2_with fail; go_at_call 86; refine (pnameIsNext_any c _ i d p1).mono ?_; rintro e w2 ⟨rfl, hg2⟩; have p2 : PS c w2 i d := PS.kept p1 hg2; have G2 : w.grownBy w2 (some c.pb) := gb_trans G1 (gb_some hg2 (some c.pb)); have s2 := hg2.size
  try simp at s2
  have r_2 : RB w2 (w.heap.size) := RB.kept r_1 hg2 (by simp); have r_lt2 := r_2.lt; obtain ⟨_,_,_,_,_,_,_,_,_,_,_⟩ := id r_2; cases hnb : nameB (wd c.L i)
  · have HRx6 : factorP c.L E F i = _ := (factorP_rest h1 h2 h3 h4 h5).trans (if_neg (by rw [hnb]; decide))
    go_wp2_with fail; go_at_call 51; refine (pnode_any c _ i d 29 p2).mono ?_; rintro e w3 ⟨rfl, hg3⟩; have p3 : PS c w3 i d := PS.kept p2 hg3; have G3 : w.grownBy w3 (some c.pb) := gb_trans G2 (gb_some hg3 (some c.pb)); have s3 := hg3.size
    try simp at s3
    have r_3 : RB w3 (w.heap.size) := RB.kept r_2 hg3 (by simp); have r_lt3 := r_3.lt; obtain ⟨_,_,_,_,_,_,_,_,_,_,_⟩ := id r_3; go_wp2_with fail; go_at_call 125; refine (pnumber_any c _ i d (by exact PS.alloc p3 _)).mono ?_; rintro e w4 (⟨x4, hr4, ht4, hg4⟩ | ⟨a4, j4, v4, hr4, rfl, rfl, hg4, p4, hi4⟩)
    · have HT := ht4
      obtain ⟨q, rfl, -⟩ := ht4
      exact ⟨rfl, Steps.err (HRx6.trans (P.bind_err hr4)) HT (by exact gb_alloc G3 _) hg4⟩
    have HR4 : factorP c.L E F i = _ := HRx6.trans (P.bind_ok hr4); have G4 : w.grownBy w4 (some c.pb) := gb_trans (by exact gb_alloc G3 _) hg4; have s4 := hg4.size
    try simp at s4
    have r_4 : RB w4 (w.heap.size) := RB.keep (by exact RB.alloc r_3 _) hg4 (by omega); have n_4 : NB w4 (w3.heap.size) (.int .i64 29) (.string ⟨#[]⟩) (.int .i64 0) (.int .i64 (pos c.L i)) (.slice none 0 0) := NB.keep (NB.new' (by simp)) hg4 (by omega); have r_lt4 := r_4.lt; have n_lt4 := n_4.lt; obtain ⟨_,_,_,_,_,_,_,_,_,_,_⟩ := id r_4; obtain ⟨_,_,_,_,_,_⟩ := id n_4; go_wp2; refine node_ret Tryz.results143 rfl (RB.five ?_) rfl ?_
    · exact RB.put r_4 _ _ _
    refine Steps.ok (a := (T.mk 29 [] a4 (pos c.L i) [])) (HR4) ⟨_, rfl, ?_⟩ ?_ ?_ (by omega)
    · exact LR.nil _ _
    · exact gb_p5 (gb_put G4 (by omega) _ _) (by omega)
    · exact PS.p5 (PS.put p4 HL.out (by omega) _ _) HL.out (by omega)
  · have HRx7 : factorP c.L E F i = _ := (factorP_rest h1 h2 h3 h4 h5).trans (if_pos hnb)
    go_wp2_with fail; go_at_call 152; refine (pdesignatorOrCall_any c _ i d E p2 hE (fun w i h => pdesignator_any c w i d E h hE)).mono ?_; rintro e w3 (⟨x3, hr3, ht3, hg3⟩ | ⟨⟨k3, n3, m3, q3, l3⟩, j3, v3, hr3, rfl, ⟨sv3, rfl, lr3⟩, hg3, p3, hi3⟩)
    · have HT := ht3
      obtain ⟨q, rfl, -⟩ := ht3
      exact ⟨rfl, Steps.err (HRx7.trans hr3) HT G2 hg3⟩
    have HR3 : factorP c.L E F i = _ := HRx7.trans hr3; simp only [T.kind, T.name, T.num, T.at', T.subs] at lr3 ⊢; obtain ⟨ad3, cp3, rfl⟩ := lr3.form; obtain ⟨b3, hb3, lr3⟩ : ∃ b, b = _ ∧ LR w3 (In b w3.heap.size) l3 (.slice ad3 l3.length cp3) := ⟨_, rfl, lr3⟩
    try simp at hb3
    have G3 : w.grownBy w3 (some c.pb) := gb_trans G2 hg3; have s3 := hg3.size
    try simp at s3
    have r_3 : RB w3 (w.heap.size) := RB.keep r_2 hg3 (by omega); have r_lt3 := r_3.lt; obtain ⟨_,_,_,_,_,_,_,_,_,_,_⟩ := id r_3; go_wp2; refine node_ret Tryz.results143 rfl (RB.five ?_) rfl ?_
    · exact r_3
    refine Steps.ok (a := (T.mk k3 n3 m3 q3 l3)) (HR3) ⟨_, rfl, ?_⟩ ?_ ?_ (by omega)
    · refine LR.wide (lo := b3) (hi := w3.heap.size) (ts := l3) ?_ (by omega) (by first | omega | (simp <;> omega))
      exact LR.p5 lr3 (by omega)
    · exact gb_p5 G3 (by omega)
    · exact PS.p5 p3 HL.out (by omega)

/-- What stands one level deeper, by the rule g. -/
def WithinOK (c : PC) (d g : Nat) (q : P T) : Prop := ∀ (w : World) (i : Nat), PS c w i d → Calls Tryz.prog 109 #[.pointer (some ⟨c.pb, 0, none⟩), .func (.func g) #[.pointer (some ⟨c.pb, 0, none⟩)] #[]] w (Steps c w i d (fun w' t v => TR w' w.heap.size w'.heap.size t v) (q i))

set_option maxRecDepth 100000 in
set_option maxHeartbeats 400000 in
theorem pexpression_any (c : PC) (w : World) (i d : Nat) (q : P T) (h : PS c w i d) (hW : WithinOK c d 110 q) :
    Calls Tryz.prog 93 #[.pointer (some ⟨c.pb, 0, none⟩)] w (Steps c w i d (fun w' t v => TR w' w.heap.size w'.heap.size t v) (q i)) := by
  have HP := hide h; have HL := hide h.low; have hb := h.lt; clear h
  go_enter Tryz.func93, Tryz.ntmps93
  go_wp2_with fail; go_at_call 109; refine (hW _ i (by exact PS.alloc HP.out _)).mono ?_; rintro e w1 (⟨x1, hr1, ht1, hg1⟩ | ⟨⟨k1, n1, m1, q1, l1⟩, j1, v1, hr1, rfl, ⟨sv1, rfl, lr1⟩, hg1, p1, hi1⟩)
  · have HT := ht1
    obtain ⟨q, rfl, -⟩ := ht1
    exact ⟨rfl, Steps.err (hr1) HT (by exact gb_alloc (gb_refl w (some c.pb)) _) hg1⟩
  have HR1 : q i = _ := hr1; simp only [T.kind, T.name, T.num, T.at', T.subs] at lr1 ⊢; obtain ⟨ad1, cp1, rfl⟩ := lr1.form; obtain ⟨b1, hb1, lr1⟩ : ∃ b, b = _ ∧ LR w1 (In b w1.heap.size) l1 (.slice ad1 l1.length cp1) := ⟨_, rfl, lr1⟩
  try simp at hb1
  have G1 : w.grownBy w1 (some c.pb) := gb_trans (by exact gb_alloc (gb_refl w (some c.pb)) _) hg1; have s1 := hg1.size
  try simp at s1
  have r_1 : RB w1 (w.heap.size) := RB.keep (RB.new' (by simp)) hg1 (by omega); have r_lt1 := r_1.lt; obtain ⟨_,_,_,_,_,_,_,_,_,_,_⟩ := id r_1; go_wp2; refine node_ret Tryz.results93 rfl (RB.five ?_) rfl ?_
  · exact r_1
  refine Steps.ok (a := (T.mk k1 n1 m1 q1 l1)) (HR1) ⟨_, rfl, ?_⟩ ?_ ?_ (by omega)
  · refine LR.wide (lo := b1) (hi := w1.heap.size) (ts := l1) ?_ (by omega) (by first | omega | (simp <;> omega))
    exact LR.p5 lr1 (by omega)
  · exact gb_p5 G1 (by omega)
  · exact PS.p5 p1 HL.out (by omega)

set_option maxRecDepth 100000 in
set_option maxHeartbeats 400000 in
theorem pacts_any (c : PC) (w : World) (i d : Nat) (q : P T) (h : PS c w i d) (hW : WithinOK c d 118 q) :
    Calls Tryz.prog 97 #[.pointer (some ⟨c.pb, 0, none⟩)] w (Steps c w i d (fun w' t v => TR w' w.heap.size w'.heap.size t v) (q i)) := by
  have HP := hide h; have HL := hide h.low; have hb := h.lt; clear h
  go_enter Tryz.func97, Tryz.ntmps97
  go_wp2_with fail; go_at_call 109; refine (hW _ i (by exact PS.alloc HP.out _)).mono ?_; rintro e w1 (⟨x1, hr1, ht1, hg1⟩ | ⟨⟨k1, n1, m1, q1, l1⟩, j1, v1, hr1, rfl, ⟨sv1, rfl, lr1⟩, hg1, p1, hi1⟩)
  · have HT := ht1
    obtain ⟨q, rfl, -⟩ := ht1
    exact ⟨rfl, Steps.err (hr1) HT (by exact gb_alloc (gb_refl w (some c.pb)) _) hg1⟩
  have HR1 : q i = _ := hr1; simp only [T.kind, T.name, T.num, T.at', T.subs] at lr1 ⊢; obtain ⟨ad1, cp1, rfl⟩ := lr1.form; obtain ⟨b1, hb1, lr1⟩ : ∃ b, b = _ ∧ LR w1 (In b w1.heap.size) l1 (.slice ad1 l1.length cp1) := ⟨_, rfl, lr1⟩
  try simp at hb1
  have G1 : w.grownBy w1 (some c.pb) := gb_trans (by exact gb_alloc (gb_refl w (some c.pb)) _) hg1; have s1 := hg1.size
  try simp at s1
  have r_1 : RB w1 (w.heap.size) := RB.keep (RB.new' (by simp)) hg1 (by omega); have r_lt1 := r_1.lt; obtain ⟨_,_,_,_,_,_,_,_,_,_,_⟩ := id r_1; go_wp2; refine node_ret Tryz.results97 rfl (RB.five ?_) rfl ?_
  · exact r_1
  refine Steps.ok (a := (T.mk k1 n1 m1 q1 l1)) (HR1) ⟨_, rfl, ?_⟩ ?_ ?_ (by omega)
  · refine LR.wide (lo := b1) (hi := w1.heap.size) (ts := l1) ?_ (by omega) (by first | omega | (simp <;> omega))
    exact LR.p5 lr1 (by omega)
  · exact gb_p5 G1 (by omega)
  · exact PS.p5 p1 HL.out (by omega)


/-- Expressions, at every level. -/
theorem exprOK (c : PC) : ∀ (n d : Nat), d + n = 20 → ExprOK c d (exprP c.L n) ∧ NegOK c d (deepFactorP c.L n)
  | 0, d, h => by
    have hd : ¬ d < 20 := by omega
    refine ⟨⟨fun w i hp _ => ?_, fun _ _ _ _ => trivial, enters_of Tryz.func93 (by kernel_rfl) rfl⟩, fun w i hp => ?_⟩
    · refine pexpression_any c w i d (limitP c.L) hp (fun w i hp => ?_)
      have hx := pwithin_any c w i d 110 (limitP c.L) hp (by omega) (fun h => absurd h hd) (enters_of Tryz.func110 (by kernel_rfl) rfl); rw [if_neg hd] at hx
      exact hx
    · have hx := pwithin_any c w i d 143 (limitP c.L) hp (by omega) (fun h => absurd h hd) (enters_of Tryz.func143 (by kernel_rfl) rfl)
      rw [if_neg hd] at hx
      exact hx
  | n + 1, d, h => by
    have hd : d < 20 := by omega
    obtain ⟨hE, hF⟩ := exprOK c n (d + 1) (by omega)
    have hfac : PartOK c (d + 1) 143 (factorP c.L (exprP c.L n) (deepFactorP c.L n)) := fun w i hp => pfactor_any c w i (d + 1) _ _ hp hE hF
    have hfac' : Part c (d + 1) (fun _ => True) 143 #[.pointer (some ⟨c.pb, 0, none⟩)] (factorP c.L (exprP c.L n) (deepFactorP c.L n)) := ⟨fun w i hp _ => hfac w i hp, fun _ _ _ _ => trivial, enters_of Tryz.func143 (by kernel_rfl) rfl⟩; have hprod : Part c (d + 1) (fun _ => True) 134 #[.pointer (some ⟨c.pb, 0, none⟩)] (productP c.L (exprP c.L n) (deepFactorP c.L n)) := ⟨fun w i hp _ => pproduct_any c w i (d + 1) _ _ hp hfac', fun _ _ _ _ => trivial, enters_of Tryz.func134 (by kernel_rfl) rfl⟩; have hsum : Part c (d + 1) (fun _ => True) 122 #[.pointer (some ⟨c.pb, 0, none⟩)] (sumP c.L (exprP c.L n) (deepFactorP c.L n)) := ⟨fun w i hp _ => psum_any c w i (d + 1) _ _ hp hprod, fun _ _ _ _ => trivial, enters_of Tryz.func122 (by kernel_rfl) rfl⟩
    have hrel : PartOK c (d + 1) 110 (exprP c.L (n + 1)) := fun w i hp => prelation_any c w i (d + 1) _ _ hp hsum
    refine ⟨⟨fun w i hp _ => ?_, fun _ _ _ _ => trivial, enters_of Tryz.func93 (by kernel_rfl) rfl⟩, fun w i hp => ?_⟩
    · refine pexpression_any c w i d (exprP c.L (n + 1)) hp (fun w i hp => ?_)
      have hx := pwithin_any c w i d 110 (exprP c.L (n + 1)) hp (by omega) (fun _ => hrel) (enters_of Tryz.func110 (by kernel_rfl) rfl); rw [if_pos hd] at hx
      exact hx
    · have hx := pwithin_any c w i d 143 (deepFactorP c.L (n + 1)) hp (by omega) (fun _ => hfac) (enters_of Tryz.func143 (by kernel_rfl) rfl)
      rw [if_pos hd] at hx
      exact hx
end Go.Proofs.YtbphiiaoncakfaaGreatDoor
