/- Operators: what stands left, and the parts behind it. -/
import Derived.Test.YtbphiiaoncakfaaGreatDoorG07
namespace Go.Proofs.YtbphiiaoncakfaaGreatDoor
open Go.RowKit

/-- Rows of S, and rows from lo on and below hi. -/
def Un (S : Nat → Prop) (lo hi : Nat) : Nat → Prop := fun k => S k ∨ (lo ≤ k ∧ k < hi)

section
variable {w w' : World} {S : Nat → Prop} {lo hi lo' hi' b : Nat} {ts : List T} {v : Value}
theorem LR.callU (h : LR w (Un S lo hi) ts v) (hg : w.grownBy w' (some b)) (hb : ¬ S b) (hb2 : b < lo ∨ hi ≤ b) : LR w' (Un S lo hi) ts v :=
  h.kept hg (fun k hk hs => by
    cases hk
    rcases hs with hs | hs
    · exact hb hs
    · omega)
theorem LR.wideU (h : LR w (Un S lo hi) ts v) (h1 : lo' ≤ lo) (h2 : hi ≤ hi') : LR w (Un S lo' hi') ts v := h.mono (fun k hk => hk.elim .inl (fun h => .inr ⟨by omega, by omega⟩))
theorem LR.inU (h : LR w (In lo hi) ts v) : LR w (Un S lo hi) ts v := h.mono (fun _ hk => .inr hk)
theorem LR.un (h : LR w S ts v) : LR w (Un S lo hi) ts v := h.mono (fun _ hk => .inl hk)
theorem LR.grownU (h : LR w S ts v) (hg : w.grownBy w' none) : LR w' S ts v := h.kept hg (fun _ hk => by cases hk)

theorem LR.buildS (w : World) {cs : Array Value} {svs : List Value} {g n : Nat} (hg : g = w.heap.size) (hn : n = ts.length) (hc : cs.toList = flatN ts svs) (hl : svs.length = ts.length) (hlen : ts.length ≤ 5000) (hS : ∀ k, S k → k < g)
    (hs : ∀ (i : Nat) (t : T) (sv : Value), ts[i]? = some t → svs[i]? = some sv → LR w S t.subs sv) : LR (w.alloc (.cells cs 25)) (fun k => S k ∨ k = g) ts (.slice (some ⟨g, 0, none⟩) n n) := by
  subst hg hn
  have hsz : cs.size = ts.length * 5 := by rw [← Array.length_toList, hc, flatN_length _ _ hl]
  refine .mk _ _ _ svs hl ⟨flatN_length _ _ hl, .inr ⟨w.heap.size, ts.length, cs, rfl, Nat.zero_le _, heap_alloc_new w _, Nat.le_refl _, by unfold maxLen; omega, hsz, ?_⟩⟩ (fun b hb => ?_) (fun i t sv h1 h2 => ?_)
  · rw [hc, ← flatN_length _ _ hl, List.take_length]
  · cases hb
    exact .inr rfl
  · refine ((hs i t sv h1 h2).grownU (World.grownBy_alloc w _ none)).mono (fun k hk => ⟨.inl hk, fun e => ?_⟩)
    have h3 := hS k hk
    simp [Value.ownBlock] at e
    omega
theorem LR.build1S (w : World) {t : T} {sv : Value} {g : Nat} {cs : Array Value} (h : LR w S t.subs sv) (hS : ∀ k, S k → k < g) (hg : g = w.heap.size) (hc : cs.toList = headC t sv) :
    LR (w.alloc (.cells cs 25)) (fun k => S k ∨ k = g) [t] (.slice (some ⟨g, 0, none⟩) 1 1) :=
  LR.buildS w (svs := [sv]) hg rfl hc rfl (by simp) hS (fun i t' sv' h1 h2 => by
    match i, h1, h2 with
    | 0, h1, h2 => cases h1; cases h2; exact h)
theorem LR.build2S (w : World) {t t2 : T} {sv sv2 : Value} {g : Nat} {cs : Array Value} (h : LR w S t.subs sv) (h2 : LR w S t2.subs sv2) (hS : ∀ k, S k → k < g) (hg : g = w.heap.size) (hc : cs.toList = headC t sv ++ headC t2 sv2) :
    LR (w.alloc (.cells cs 25)) (fun k => S k ∨ k = g) [t, t2] (.slice (some ⟨g, 0, none⟩) 2 2) :=
  LR.buildS w (svs := [sv, sv2]) hg rfl hc rfl (by simp) hS (fun i t' sv' h3 h4 => by
    match i, h3, h4 with
    | 0, h3, h4 => cases h3; cases h4; exact h
    | 1, h3, h4 => cases h3; cases h4; exact h2)
end

set_option maxRecDepth 100000 in
set_option maxHeartbeats 400000 in
theorem poperation_any (w : World) (sign : List UInt8) (left right : T) (S : Nat → Prop) (svl svr : Value) (hl : LR w S left.subs svl) (hr : LR w S right.subs svr) (hS : ∀ k, S k → k < w.heap.size) :
    Calls Tryz.prog 124 #[.string ⟨sign.toArray⟩, .agg #[.int .i64 left.kind, .string ⟨left.name.toArray⟩, .int .i64 left.num, .int .i64 left.at', svl], .agg #[.int .i64 right.kind, .string ⟨right.name.toArray⟩, .int .i64 right.num, .int .i64 right.at', svr]] w
      fun e w' => ∃ sv, e = .returned (.agg #[.int .i64 36, .string ⟨sign.toArray⟩, .int .i64 0, .int .i64 left.at', sv]) ∧ LR w' (Un S w.heap.size w'.heap.size) [left, right] sv ∧ w.grownBy w' none := by
  obtain ⟨k1, n1, m1, q1, l1⟩ := left; obtain ⟨k2, n2, m2, q2, l2⟩ := right; simp only [T.kind, T.name, T.num, T.at', T.subs] at hl hr ⊢; obtain ⟨ad1, cp1, rfl⟩ := hl.form; obtain ⟨ad2, cp2, rfl⟩ := hr.form; have HLL := hide hl; have HRR := hide hr; clear hl hr
  go_enter Tryz.func124, Tryz.ntmps124
  go_wp2; refine node_ret Tryz.results124 rfl (NB.alloc (NB.new' (by simp)) _) rfl ⟨_, rfl, ?_, ?_⟩
  · refine LR.mono (LR.build2S _ (t := T.mk k1 n1 m1 q1 l1) (t2 := T.mk k2 n2 m2 q2 l2) (S := S) (((HLL.out.grownU (World.grownBy_alloc _ _ none)).grownU (World.grownBy_alloc _ _ none)).grownU (World.grownBy_alloc _ _ none))
      (((HRR.out.grownU (World.grownBy_alloc _ _ none)).grownU (World.grownBy_alloc _ _ none)).grownU (World.grownBy_alloc _ _ none)) (fun k hk => Nat.lt_of_lt_of_le (hS k hk) (by omega)) (by simp) rfl) ?_
    intro k hk
    rcases hk with hk | rfl
    · exact .inl hk
    · exact .inr ⟨by omega, by simp⟩
  · exact gb_alloc (gb_alloc (gb_alloc (gb_alloc (gb_refl _ _) _) _) _) _

set_option maxRecDepth 100000 in
set_option maxHeartbeats 400000 in
theorem padds_any (x : List UInt8) (w : World) : Calls Tryz.prog 135 #[.string ⟨x.toArray⟩] w fun e w' => e = .returned (.bool (addsB x)) ∧ w' = w := by
  unfold addsB
  go_enter Tryz.func135, Tryz.ntmps135
  go_wp2
  all_goals go_ret
  all_goals
    refine ⟨?_, rfl⟩
    simp_all [s_plus, s_minus, kOR]

set_option maxRecDepth 100000 in
set_option maxHeartbeats 400000 in
theorem pmultiplies_any (x : List UInt8) (w : World) : Calls Tryz.prog 144 #[.string ⟨x.toArray⟩] w fun e w' => e = .returned (.bool (multipliesB x)) ∧ w' = w := by
  unfold multipliesB
  go_enter Tryz.func144, Tryz.ntmps144
  go_wp2
  all_goals go_ret
  all_goals
    refine ⟨?_, rfl⟩
    simp_all [s_star, kDIV, kMOD, s_amp]

set_option maxRecDepth 100000 in
set_option maxHeartbeats 400000 in
theorem pcompares_any (x : List UInt8) (w : World) : Calls Tryz.prog 123 #[.string ⟨x.toArray⟩] w fun e w' => e = .returned (.bool (comparesB x)) ∧ w' = w := by
  unfold comparesB
  go_enter Tryz.func123, Tryz.ntmps123
  go_wp2
  all_goals go_ret
  all_goals
    refine ⟨?_, rfl⟩
    simp_all [s_eq, s_hash, s_lt, s_le, s_gt, s_ge]

set_option maxRecDepth 100000 in
set_option maxHeartbeats 400000 in
theorem ppartIsNext_any (c : PC) (w : World) (i d : Nat) (h : PS c w i d) : Calls Tryz.prog 146 #[.pointer (some ⟨c.pb, 0, none⟩)] w fun e w' => e = .returned (.bool (partIsNext (wd c.L i))) ∧ w.grownBy w' none := by
  have HP := hide h; clear h
  unfold partIsNext
  go_enter Tryz.func146, Tryz.ntmps146
  go_wp2_with fail; go_at_call 38; refine (pword_any c _ i d HP.out).mono ?_; rintro e w1 ⟨rfl, n, rfl⟩; go_wp2
  all_goals go_ret
  all_goals
    refine ⟨?_, gb_drewN (gb_refl _ _) _⟩
    simp_all [s_dot, s_lb, s_hat, s_lc]

set_option maxRecDepth 100000 in
set_option maxHeartbeats 400000 in
theorem pnothingIsNext_any (c : PC) (w : World) (i d : Nat) (h : PS c w i d) : Calls Tryz.prog 129 #[.pointer (some ⟨c.pb, 0, none⟩)] w fun e w' => e = .returned (.bool (nothingB (wd c.L i))) ∧ w.grownBy w' none := by
  have HP := hide h; clear h
  unfold nothingB
  go_enter Tryz.func129, Tryz.ntmps129
  go_wp2_with fail; go_at_call 38; refine (pword_any c _ i d HP.out).mono ?_; rintro e w1 ⟨rfl, n, rfl⟩; go_wp2
  all_goals go_ret
  all_goals
    refine ⟨?_, gb_drewN (gb_refl _ _) _⟩
    simp_all [s_semi, kEND, kELSIF, kELSE, kUNTIL]

end Go.Proofs.YtbphiiaoncakfaaGreatDoor

/- A chain of operators, from the left. -/
namespace Go.Proofs.YtbphiiaoncakfaaGreatDoor
open Go.RowKit

/-- What holds at the head of the loop. -/
structure CI (c : PC) (w : World) (i d : Nat) (S0 : Nat → Prop) (r : Except (Int × Int) (T × Nat)) (q : Nat → T → P T) (wr : World) (k : Int) (s : List UInt8) (n a : Int) (l : List T) (sv : Value) (j f : Nat) : Prop where
  nb : NB wr w.heap.size (.int .i64 k) (.string ⟨s.toArray⟩) (.int .i64 n) (.int .i64 a) sv
  rb : RB wr (w.heap.size + 1)
  lr : LR wr (Un S0 (w.heap.size + 2) wr.heap.size) l sv
  ps : PS c wr j d
  gb : w.grownBy wr (some c.pb)
  same : r = q f (.mk k s n a l) j
  le : i ≤ j

theorem chain_no {L : List Tok} {joins : List UInt8 → Bool} {p : P T} {f j : Nat} {t : T} (h : joins (wd L j) = false) : chainP L joins p f t j = .ok (t, j) := by
  cases f <;> (rw [chainP]; exact if_neg (by rw [h]; decide))
theorem chain_yes {L : List Tok} {joins : List UInt8 → Bool} {p : P T} {f j : Nat} {t : T} (h : joins (wd L j) = true) : chainP L joins p (f + 1) t j = (p.bind fun r => chainP L joins p f (opT (wd L j) t r)) (j + 1) := by
  rw [chainP]
  exact if_pos h
theorem chain_stop {L : List Tok} {joins : List UInt8 → Bool} {p : P T} {j : Nat} {t : T} (h : joins (wd L j) = true) : chainP L joins p 0 t j = .error (3, pos L (j + 1)) := by
  rw [chainP]
  exact if_pos h

set_option maxRecDepth 100000 in
set_option maxHeartbeats 1000000 in
theorem pchain_any (c : PC) (w : World) (i d : Nat) (joins : List UInt8 → Bool) (jg : Nat) (g : Nat) (p : P T) (S0 : Nat → Prop) (left : T) (svl : Value) (h : PS c w i d) (hl : LR w S0 left.subs svl) (hS : ∀ k, S0 k → k < w.heap.size ∧ k ≠ c.pb)
    (hp : Part c d (fun _ => True) g #[.pointer (some ⟨c.pb, 0, none⟩)] p) (hj : ∀ (x : List UInt8) (w : World), Calls Tryz.prog jg #[.string ⟨x.toArray⟩] w fun e w' => e = .returned (.bool (joins x)) ∧ w' = w)
    (hje : ∀ (args : Array Value) (w : World), (callFunc jg args).run Tryz.prog w = .ok (.enter jg args) w) (hjn : joins [] = false) :
    Calls Tryz.prog 133 #[.pointer (some ⟨c.pb, 0, none⟩), .agg #[.int .i64 left.kind, .string ⟨left.name.toArray⟩, .int .i64 left.num, .int .i64 left.at', svl], .func (.func jg) #[] #[], .func (.func g) #[.pointer (some ⟨c.pb, 0, none⟩)] #[]] w
      (Steps c w i d (fun w' t v => ∃ sv, v = .agg #[.int .i64 t.kind, .string ⟨t.name.toArray⟩, .int .i64 t.num, .int .i64 t.at', sv] ∧ LR w' (Un S0 w.heap.size w'.heap.size) t.subs sv) (chainP c.L joins p 20 left i)) := by
  obtain ⟨k0, n0, m0, q0, l0⟩ := left; simp only [T.kind, T.name, T.num, T.at', T.subs] at hl ⊢; obtain ⟨ad0, cp0, rfl⟩ := hl.form; have HP := hide h; have HL := hide h.low; have hb := h.lt; have hfew := h.good.few; have hent := hp.ent; have HPT := hide hp; have HJ := hide hj; have HS := hide hS; have S0' := hide hl
  have hsp : ¬ S0 c.pb := fun e => (hS _ e).2 rfl
  have hs0 : ¬ S0 w.heap.size := fun e => by have := (hS _ e).1; omega
  have hs1 : ¬ S0 (w.heap.size + 1) := fun e => by have := (hS _ e).1; omega
  clear h hp hj hS hl
  go_enter Tryz.func133, Tryz.ntmps133
  go_wp2_with fail
  go_loopw [9] (fun v wr => ∃ (k : Int) (s : List UInt8) (n a : Int) (l : List T) (sv : Value) (j f : Nat), f ≤ 20 ∧ v = .int .i64 (21 - (f : Int)) ∧ Hid (CI c w i d S0 (chainP c.L joins p 20 (.mk k0 n0 m0 q0 l0) i) (chainP c.L joins p) wr k s n a l sv j f)) (fun v _ => 22 - (intOf v).toNat)
  case atStart =>
    refine ⟨k0, n0, m0, q0, l0, .slice ad0 l0.length cp0, i, 20, by omega, rfl, CI.mk (by exact (by exact NB.alloc (NB.new' (by simp)) _)) (by exact (RB.new' (by simp))) ?_ (by exact PS.alloc (PS.alloc HP.out _) _) (by exact gb_alloc (gb_alloc (gb_refl w (some c.pb)) _) _) rfl (Nat.le_refl _)⟩
    exact ((S0'.out.un).grownU (World.grownBy_alloc _ _ none)).grownU (World.grownBy_alloc _ _ none)
  case round =>
    obtain ⟨k, s, n, a, l, sv, j, f, hf, rfl, HC⟩ := hrel; clear S0'; have hC := HC.out; obtain ⟨ad, cp, rfl⟩ := hC.lr.form; have HNB := hide hC.nb; have HRB := hide hC.rb; have HLR := hide hC.lr; have HPS := hide hC.ps; have HG := hide hC.gb; have HSM := hide hC.same; have hij := hC.le; have hsz := hC.rb.lt; clear hC HC; go_wp2_with fail; go_at_call 38; refine (pword_any c _ j d HPS.out).mono ?_; rintro e w1 ⟨rfl, m, rfl⟩; go_wp2_with fail; refine (HJ.out (wd c.L j) _).mono ?_; rintro e w2 ⟨rfl, rfl⟩; cases hjo : joins (wd c.L j)
    · obtain ⟨x0, x1, x2, x3, x4, xz⟩ := HNB.out.drewN m
      obtain ⟨_, _, _, _, _, y0, y1, y2, y3, y4, yz⟩ := HRB.out.drewN m; go_wp2; refine node_ret Tryz.results133 rfl (RB.five ?_) rfl ?_
      · exact HRB.out.drewN m
      refine Steps.ok (a := T.mk k s n a l) (HSM.out.trans (chain_no hjo)) ⟨_, rfl, ?_⟩ ?_ ?_ hij
      · refine LR.wideU (lo := w.heap.size + 2) (hi := wr.heap.size) ?_ (by omega) (by simp)
        have h5 := (HLR.out.grownU (gb_drewN (gb_refl wr none) m))
        exact ((((h5.callU (gb_set (gb_refl _ _) _ _) hs1 (by omega)).callU (gb_set (gb_refl _ _) _ _) hs1 (by omega)).callU (gb_set (gb_refl _ _) _ _) hs1 (by omega)).callU (gb_set (gb_refl _ _) _ _) hs1 (by omega)).callU (gb_set (gb_refl _ _) _ _) hs1 (by omega)
      · exact gb_p5 (gb_drewN HG.out _) (by omega)
      · exact PS.p5 (PS.drewN HPS.out _) HL.out (by omega)
    · have hne : wd c.L j ≠ [] := by
        intro e; rw [e, hjn] at hjo; cases hjo
      go_wp2_with fail; go_at_call 87; refine (ptake_any c _ j d (HPS.out.drewN m) hne).mono ?_; rintro e w3 ⟨rfl, hg3, p3⟩; have s3 := hg3.size; have G3 : w.grownBy w3 (some c.pb) := gb_trans (gb_drewN HG.out m) hg3; have nb3 := (HNB.out.drewN m).kept hg3 (by simp; omega); have rb3 := (HRB.out.drewN m).kept hg3 (by simp; omega); have lr3 := (HLR.out.grownU (gb_drewN (gb_refl wr none) m)).callU hg3 hsp (by omega)
      simp at s3
      have r_lt3 := rb3.lt; have HNB3 := hide nb3; have HRB3 := hide rb3; have HLR3 := hide lr3; have HP3 := hide p3; have HG3 := hide G3; obtain ⟨x0, x1, x2, x3, x4, xz⟩ := id nb3; clear nb3 rb3 lr3 p3 G3 HNB HRB HLR HG hg3; cases f with
      | zero =>
        have hx : decide ((20 : Int) < 21 - ((0 : Nat) : Int)) = true := by decide
        go_wp2_with fail; go_at_call 62; refine (pthrow_any c _ (j + 1) d 3 HP3.out).mono ?_; rintro e w4 ⟨ht4, hg4⟩; have HT := ht4; obtain ⟨q, rfl, -⟩ := ht4
        exact ⟨rfl, Steps.err (HSM.out.trans (chain_stop hjo)) HT HG3.out (gb_some hg4 _)⟩
      | succ f =>
        have hx : decide ((20 : Int) < 21 - ((f + 1 : Nat) : Int)) = false := by simp; omega
        have HR : Hid (chainP c.L joins p 20 (T.mk k0 n0 m0 q0 l0) i = (p.bind fun r => chainP c.L joins p f (opT (wd c.L j) (T.mk k s n a l) r)) (j + 1)) := HSM.out.trans (chain_yes hjo); go_wp2_with fail
        go_region_with (first
          | (refine (HPT.out.call _ (j + 1) (HP3.out.drewN _) trivial).mono ?_
             rintro e w4 (⟨x4, hr4, ht4, hg4⟩ | ⟨⟨k4, n4, m4, q4, l4⟩, j4, v4, hr4, rfl, ⟨sv4, rfl, lr4⟩, hg4, p4, hi4⟩)
             focus
               have HT := ht4; obtain ⟨q, rfl, -⟩ := ht4
               exact ⟨rfl, Steps.err (HR.out.trans (P.bind_err hr4)) HT (gb_drewN HG3.out _) hg4⟩
             simp only [T.kind, T.name, T.num, T.at', T.subs] at lr4 ⊢; obtain ⟨ad4, cp4, rfl⟩ := lr4.form; have nb4 := NB.kept (HNB3.out.drewN _) hg4 (by simp; omega); have rb4 := RB.kept (HRB3.out.drewN _) hg4 (by simp; omega); have s4 := hg4.size
             simp at s4
             have H1 : LR w4 (Un S0 (w.heap.size + 2) w4.heap.size) l (.slice ad l.length cp) := ((HLR3.out.grownU (gb_drewN (gb_refl w3 none) _)).callU hg4 hsp (by omega)).wideU (Nat.le_refl _) (by omega); have H2 : LR w4 (Un S0 (w.heap.size + 2) w4.heap.size) l4 (.slice ad4 l4.length cp4) := LR.inU (lr4.wide (by simp; omega) (Nat.le_refl _))
             have H3 : ∀ k, Un S0 (w.heap.size + 2) w4.heap.size k → k < w4.heap.size := fun k hk => hk.elim (fun h => by have := (HS.out k h).1; omega) (fun h => h.2)
             have G4 : w.grownBy w4 (some c.pb) := gb_trans (gb_drewN HG3.out _) hg4; obtain ⟨z0, z1, z2, z3, z4, zz⟩ := id nb4; have HH := hide (And.intro H1 (And.intro H2 (And.intro H3 (And.intro G4 (And.intro nb4 (And.intro rb4 (And.intro p4 (And.intro hr4 hi4))))))))
             clear H1 H2 H3 G4 nb4 rb4 p4 hr4 hi4 lr4 hg4)
          | (go_at_call 124
             refine (poperation_any _ (wd c.L j) (T.mk k s n a l) (T.mk k4 n4 m4 q4 l4) (Un S0 (w.heap.size + 2) w4.heap.size) (.slice ad l.length cp) (.slice ad4 l4.length cp4) HH.out.1 HH.out.2.1 HH.out.2.2.1).mono ?_; simp only [T.at']; rintro e w5 ⟨sv5, rfl, lr5, hg5⟩; obtain ⟨ad5, cp5, rfl⟩ := lr5.form; have nb5 := HH.out.2.2.2.2.1.kept hg5 (by simp)
             obtain ⟨y0, y1, y2, y3, y4, yz⟩ := id nb5))
        all_goals
          go_wp2; have rb5 := HH.out.2.2.2.2.2.1.kept hg5 (by simp); have p5 := HH.out.2.2.2.2.2.2.1.kept hg5; have G5 : w.grownBy w5 (some c.pb) := gb_trans HH.out.2.2.2.1 (gb_some hg5 _); have hr4 := HH.out.2.2.2.2.2.2.2.1; have hi4 := HH.out.2.2.2.2.2.2.2.2; have s5 := hg5.size; refine ⟨⟨36, wd c.L j, 0, a, [T.mk k s n a l, T.mk k4 n4 m4 q4 l4], .slice ad5 2 cp5, j4, f, by omega, by simp; omega, CI.mk (by exact (by exact NB.s4 (NB.s3 (NB.s2 (NB.s1 (NB.s0 nb5 _) _) _) _) _)) (by exact (by exact RB.p5 rb5)) ?_ (by exact (by exact PS.p5 p5 HL.out (by omega))) (by exact (by exact gb_p5 G5 (by omega))) (HR.out.trans (P.bind_ok hr4)) (by omega)⟩, ?_⟩
          · have h5 : LR w5 (Un S0 (w.heap.size + 2) w5.heap.size) [T.mk k s n a l, T.mk k4 n4 m4 q4 l4] (.slice ad5 2 cp5) := lr5.mono (fun k hk => by
              rcases hk with (hk | hk) | hk
              · exact .inl hk
              · exact .inr ⟨hk.1, by omega⟩
              · exact .inr ⟨by omega, hk.2⟩)
            refine LR.wideU (lo := w.heap.size + 2) (hi := w5.heap.size) ?_ (by omega) (by simp)
            exact ((((h5.callU (gb_set (gb_refl _ _) _ _) hs0 (by omega)).callU (gb_set (gb_refl _ _) _ _) hs0 (by omega)).callU (gb_set (gb_refl _ _) _ _) hs0 (by omega)).callU (gb_set (gb_refl _ _) _ _) hs0 (by omega)).callU (gb_set (gb_refl _ _) _ _) hs0 (by omega)
          · simp [intOf]
            omega
end Go.Proofs.YtbphiiaoncakfaaGreatDoor

/- Factors that are told by one word, and what stands in brackets or behind a sign. -/
namespace Go.Proofs.YtbphiiaoncakfaaGreatDoor
open Go.RowKit

/-- What an expression comes to at this level; and what stands behind '~'. -/
abbrev ExprOK (c : PC) (d : Nat) (E : P T) : Prop := Part c d (fun _ => True) 93 #[.pointer (some ⟨c.pb, 0, none⟩)] E
def NegOK (c : PC) (d : Nat) (F : P T) : Prop := ∀ (w : World) (i : Nat), PS c w i d → Calls Tryz.prog 109 #[.pointer (some ⟨c.pb, 0, none⟩), .func (.func 143) #[.pointer (some ⟨c.pb, 0, none⟩)] #[]] w (Steps c w i d (fun w' t v => TR w' w.heap.size w'.heap.size t v) (F i))

set_option maxRecDepth 100000 in
set_option maxHeartbeats 400000 in
theorem pliteral_any (c : PC) (w : World) (i d : Nat) (k : Int) (h : PS c w i d) (hne : wd c.L i ≠ []) :
    Calls Tryz.prog 149 #[.pointer (some ⟨c.pb, 0, none⟩), .int .i64 k] w (Steps c w i d (fun w' t v => TR w' w.heap.size w'.heap.size t v) ((P.ret (T.mk k [] 0 (pos c.L i) [])) (i + 1))) := by
  have HP := hide h; have HL := hide h.low; have hb := h.lt; clear h
  go_enter Tryz.func149, Tryz.ntmps149
  go_wp2_with fail; go_at_call 51; refine (pnode_any c _ i d k (by exact PS.alloc HP.out _)).mono ?_; rintro e w1 ⟨rfl, hg1⟩; have p1 : PS c w1 i d := PS.kept (by exact PS.alloc HP.out _) hg1; have G1 : w.grownBy w1 (some c.pb) := gb_trans (by exact gb_alloc (gb_refl w (some c.pb)) _) (gb_some hg1 (some c.pb)); have s1 := hg1.size
  try simp at s1
  have r_1 : RB w1 (w.heap.size) := RB.kept (RB.new' (by simp)) hg1 (by simp); have r_lt1 := r_1.lt; obtain ⟨_,_,_,_,_,_,_,_,_,_,_⟩ := id r_1; go_wp2_with fail; go_at_call 87; refine (ptake_any c _ i d (by exact PS.alloc p1 _) hne).mono ?_; rintro e w2 ⟨rfl, hg2, p2⟩; have G2 : w.grownBy w2 (some c.pb) := gb_trans (by exact gb_alloc G1 _) hg2; have s2 := hg2.size
  try simp at s2
  have r_2 : RB w2 (w.heap.size) := RB.keep (by exact RB.alloc r_1 _) hg2 (by omega); have n_2 : NB w2 (w1.heap.size) (.int .i64 k) (.string ⟨#[]⟩) (.int .i64 0) (.int .i64 (pos c.L i)) (.slice none 0 0) := NB.keep (NB.new' (by simp)) hg2 (by omega); have r_lt2 := r_2.lt; have n_lt2 := n_2.lt; obtain ⟨_,_,_,_,_,_,_,_,_,_,_⟩ := id r_2; obtain ⟨_,_,_,_,_,_⟩ := id n_2; go_wp2; refine node_ret Tryz.results149 rfl (RB.five ?_) rfl ?_
  · exact r_2
  refine Steps.ok (a := (T.mk k [] 0 (pos c.L i) [])) (rfl) ⟨_, rfl, ?_⟩ ?_ ?_ (by omega)
  · exact LR.nil _ _
  · exact gb_p5 G2 (by omega)
  · exact PS.p5 p2 HL.out (by omega)

set_option maxRecDepth 100000 in
set_option maxHeartbeats 400000 in
theorem pinBrackets_any (c : PC) (w : World) (i d : Nat) (E : P T) (h : PS c w i d) (hE : ExprOK c d E) :
    Calls Tryz.prog 151 #[.pointer (some ⟨c.pb, 0, none⟩)] w (Steps c w i d (fun w' t v => TR w' w.heap.size w'.heap.size t v) (((wantP c.L s_lp).bind fun _ => E.bind fun e => (wantP c.L s_rp).bind fun _ => P.ret e) i)) := by
  have HP := hide h; have HL := hide h.low; have hb := h.lt; clear h
  go_enter Tryz.func151, Tryz.ntmps151
  go_wp2_with fail; go_at_call 52; refine (pwant_any c _ i d s_lp _ rfl (by decide) (by exact PS.alloc HP.out _)).mono ?_; rintro e w1 (⟨x1, hr1, ht1, hg1⟩ | ⟨a1, j1, v1, hr1, rfl, -, hg1, p1, hi1⟩)
  · have HT := ht1
    obtain ⟨q, rfl, -⟩ := ht1
    exact ⟨rfl, Steps.err (P.bind_err hr1) HT (by exact gb_alloc (gb_refl w (some c.pb)) _) hg1⟩
  have HR1 : ((wantP c.L s_lp).bind fun _ => E.bind fun e => (wantP c.L s_rp).bind fun _ => P.ret e) i = _ := P.bind_ok hr1; have G1 : w.grownBy w1 (some c.pb) := gb_trans (by exact gb_alloc (gb_refl w (some c.pb)) _) hg1; have s1 := hg1.size
  try simp at s1
  have r_1 : RB w1 (w.heap.size) := RB.keep (RB.new' (by simp)) hg1 (by omega); have r_lt1 := r_1.lt; obtain ⟨_,_,_,_,_,_,_,_,_,_,_⟩ := id r_1; go_wp2_with fail; go_at_call 93; refine (hE.call _ j1 p1 trivial).mono ?_; rintro e w2 (⟨x2, hr2, ht2, hg2⟩ | ⟨⟨k2, n2, m2, q2, l2⟩, j2, v2, hr2, rfl, ⟨sv2, rfl, lr2⟩, hg2, p2, hi2⟩)
  · have HT := ht2
    obtain ⟨q, rfl, -⟩ := ht2
    exact ⟨rfl, Steps.err (HR1.trans (P.bind_err hr2)) HT G1 hg2⟩
  have HR2 : ((wantP c.L s_lp).bind fun _ => E.bind fun e => (wantP c.L s_rp).bind fun _ => P.ret e) i = _ := HR1.trans (P.bind_ok hr2); simp only [T.kind, T.name, T.num, T.at', T.subs] at lr2 ⊢; obtain ⟨ad2, cp2, rfl⟩ := lr2.form; obtain ⟨b2, hb2, lr2⟩ : ∃ b, b = _ ∧ LR w2 (In b w2.heap.size) l2 (.slice ad2 l2.length cp2) := ⟨_, rfl, lr2⟩
  try simp at hb2
  have G2 : w.grownBy w2 (some c.pb) := gb_trans G1 hg2; have s2 := hg2.size
  try simp at s2
  have r_2 : RB w2 (w.heap.size) := RB.keep r_1 hg2 (by omega); have r_lt2 := r_2.lt; obtain ⟨_,_,_,_,_,_,_,_,_,_,_⟩ := id r_2; go_wp2_with fail; go_at_call 52; refine (pwant_any c _ j2 d s_rp _ rfl (by decide) (by exact PS.alloc p2 _)).mono ?_; rintro e w3 (⟨x3, hr3, ht3, hg3⟩ | ⟨a3, j3, v3, hr3, rfl, -, hg3, p3, hi3⟩)
  · have HT := ht3
    obtain ⟨q, rfl, -⟩ := ht3
    exact ⟨rfl, Steps.err (HR2.trans (P.bind_err hr3)) HT (by exact gb_alloc G2 _) hg3⟩
  have HR3 : ((wantP c.L s_lp).bind fun _ => E.bind fun e => (wantP c.L s_rp).bind fun _ => P.ret e) i = _ := HR2.trans (P.bind_ok hr3); have G3 : w.grownBy w3 (some c.pb) := gb_trans (by exact gb_alloc G2 _) hg3; have s3 := hg3.size
  try simp at s3
  have r_3 : RB w3 (w.heap.size) := RB.keep (by exact RB.alloc r_2 _) hg3 (by omega); have n_3 : NB w3 (w2.heap.size) (.int .i64 k2) (.string ⟨n2.toArray⟩) (.int .i64 m2) (.int .i64 q2) (.slice ad2 l2.length cp2) := NB.keep (NB.new' (by simp)) hg3 (by omega); have t_3 : LR w3 (In (b2) (w2.heap.size)) (l2) (.slice ad2 l2.length cp2) := LR.call (by exact LR.alloc lr2 _) hg3 (by omega); have r_lt3 := r_3.lt; have n_lt3 := n_3.lt; obtain ⟨_,_,_,_,_,_,_,_,_,_,_⟩ := id r_3; obtain ⟨_,_,_,_,_,_⟩ := id n_3; go_wp2; refine node_ret Tryz.results151 rfl (RB.five ?_) rfl ?_
  · exact r_3
  refine Steps.ok (a := (T.mk k2 n2 m2 q2 l2)) (HR3) ⟨_, rfl, ?_⟩ ?_ ?_ (by omega)
  · refine LR.wide (lo := b2) (hi := w2.heap.size) (ts := l2) ?_ (by omega) (by first | omega | (simp <;> omega))
    exact LR.p5 t_3 (by omega)
  · exact gb_p5 G3 (by omega)
  · exact PS.p5 p3 HL.out (by omega)

set_option maxRecDepth 100000 in
set_option maxHeartbeats 400000 in
theorem pnegation_any (c : PC) (w : World) (i d : Nat) (F : P T) (h : PS c w i d) (hF : NegOK c d F) :
    Calls Tryz.prog 150 #[.pointer (some ⟨c.pb, 0, none⟩)] w (Steps c w i d (fun w' t v => TR w' w.heap.size w'.heap.size t v) (((wantP c.L s_tilde).bind fun _ => F.bind fun t => P.ret (T.mk 34 [] 0 (pos c.L i) [t])) i)) := by
  have HP := hide h; have HL := hide h.low; have hb := h.lt; clear h
  go_enter Tryz.func150, Tryz.ntmps150
  go_wp2_with fail; go_at_call 51; refine (pnode_any c _ i d 34 (by exact PS.alloc HP.out _)).mono ?_; rintro e w1 ⟨rfl, hg1⟩; have p1 : PS c w1 i d := PS.kept (by exact PS.alloc HP.out _) hg1; have G1 : w.grownBy w1 (some c.pb) := gb_trans (by exact gb_alloc (gb_refl w (some c.pb)) _) (gb_some hg1 (some c.pb)); have s1 := hg1.size
  try simp at s1
  have r_1 : RB w1 (w.heap.size) := RB.kept (RB.new' (by simp)) hg1 (by simp); have r_lt1 := r_1.lt; obtain ⟨_,_,_,_,_,_,_,_,_,_,_⟩ := id r_1; go_wp2_with fail; go_at_call 52; refine (pwant_any c _ i d s_tilde _ rfl (by decide) (by exact PS.alloc p1 _)).mono ?_; rintro e w2 (⟨x2, hr2, ht2, hg2⟩ | ⟨a2, j2, v2, hr2, rfl, -, hg2, p2, hi2⟩)
  · have HT := ht2
    obtain ⟨q, rfl, -⟩ := ht2
    exact ⟨rfl, Steps.err (P.bind_err hr2) HT (by exact gb_alloc G1 _) hg2⟩
  have HR2 : ((wantP c.L s_tilde).bind fun _ => F.bind fun t => P.ret (T.mk 34 [] 0 (pos c.L i) [t])) i = _ := P.bind_ok hr2; have G2 : w.grownBy w2 (some c.pb) := gb_trans (by exact gb_alloc G1 _) hg2; have s2 := hg2.size
  try simp at s2
  have r_2 : RB w2 (w.heap.size) := RB.keep (by exact RB.alloc r_1 _) hg2 (by omega); have n_2 : NB w2 (w1.heap.size) (.int .i64 34) (.string ⟨#[]⟩) (.int .i64 0) (.int .i64 (pos c.L i)) (.slice none 0 0) := NB.keep (NB.new' (by simp)) hg2 (by omega); have r_lt2 := r_2.lt; have n_lt2 := n_2.lt; obtain ⟨_,_,_,_,_,_,_,_,_,_,_⟩ := id r_2; obtain ⟨_,_,_,_,_,_⟩ := id n_2; go_wp2_with fail; go_at_call 109; refine (hF _ j2 p2).mono ?_; rintro e w3 (⟨x3, hr3, ht3, hg3⟩ | ⟨⟨k3, n3, m3, q3, l3⟩, j3, v3, hr3, rfl, ⟨sv3, rfl, lr3⟩, hg3, p3, hi3⟩)
  · have HT := ht3
    obtain ⟨q, rfl, -⟩ := ht3
    exact ⟨rfl, Steps.err (HR2.trans (P.bind_err hr3)) HT G2 hg3⟩
  have HR3 : ((wantP c.L s_tilde).bind fun _ => F.bind fun t => P.ret (T.mk 34 [] 0 (pos c.L i) [t])) i = _ := HR2.trans (P.bind_ok hr3); simp only [T.kind, T.name, T.num, T.at', T.subs] at lr3 ⊢; obtain ⟨ad3, cp3, rfl⟩ := lr3.form; obtain ⟨b3, hb3, lr3⟩ : ∃ b, b = _ ∧ LR w3 (In b w3.heap.size) l3 (.slice ad3 l3.length cp3) := ⟨_, rfl, lr3⟩
  try simp at hb3
  have G3 : w.grownBy w3 (some c.pb) := gb_trans G2 hg3; have s3 := hg3.size
  try simp at s3
  have r_3 : RB w3 (w.heap.size) := RB.keep r_2 hg3 (by omega); have n_3 : NB w3 (w1.heap.size) (.int .i64 34) (.string ⟨#[]⟩) (.int .i64 0) (.int .i64 (pos c.L i)) (.slice none 0 0) := NB.keep n_2 hg3 (by omega); have r_lt3 := r_3.lt; have n_lt3 := n_3.lt; obtain ⟨_,_,_,_,_,_,_,_,_,_,_⟩ := id r_3; obtain ⟨_,_,_,_,_,_⟩ := id n_3; go_wp2; refine node_ret Tryz.results150 rfl (NB.alloc (RB.five ?_) _) rfl ?_
  · exact RB.put r_3 _ _ _
  refine Steps.ok (a := (T.mk 34 [] 0 (pos c.L i) [(T.mk k3 n3 m3 q3 l3)])) (HR3) ⟨_, rfl, ?_⟩ ?_ ?_ (by omega)
  · refine LR.wide (lo := b3) (hi := w3.heap.size + 1) (ts := [(T.mk k3 n3 m3 q3 l3)]) ?_ (by omega) (by first | omega | (simp <;> omega))
    exact (LR.build1 _ (t := (T.mk k3 n3 m3 q3 l3)) (sv := .slice ad3 l3.length cp3) (LR.wide (lo := b3) (hi := w3.heap.size) (ts := l3) (by exact LR.p5 (LR.put lr3 (by omega) _ _) (by omega)) (by omega) (by first | omega | (simp <;> omega))) (by simp) rfl (by omega))
  · exact gb_alloc (gb_p5 (gb_put G3 (by omega) _ _) (by omega)) _
  · exact PS.alloc (PS.p5 (PS.put p3 HL.out (by omega) _ _) HL.out (by omega)) _
end Go.Proofs.YtbphiiaoncakfaaGreatDoor

/- Products, sums, relations. -/
namespace Go.Proofs.YtbphiiaoncakfaaGreatDoor
open Go.RowKit

set_option maxRecDepth 100000 in
set_option maxHeartbeats 400000 in
theorem pproduct_any (c : PC) (w : World) (i d : Nat) (E F : P T) (h : PS c w i d) (hX : Part c d (fun _ => True) 143 #[.pointer (some ⟨c.pb, 0, none⟩)] (factorP c.L E F)) :
    Calls Tryz.prog 134 #[.pointer (some ⟨c.pb, 0, none⟩)] w (Steps c w i d (fun w' t v => TR w' w.heap.size w'.heap.size t v) (productP c.L E F i)) := by
  have HP := hide h; have HL := hide h.low; have hb := h.lt; clear h
  go_enter Tryz.func134, Tryz.ntmps134
  go_wp2_with fail; go_at_call 143; refine (hX.call _ i (by exact PS.alloc HP.out _) trivial).mono ?_; rintro e w1 (⟨x1, hr1, ht1, hg1⟩ | ⟨⟨k1, n1, m1, q1, l1⟩, j1, v1, hr1, rfl, ⟨sv1, rfl, lr1⟩, hg1, p1, hi1⟩)
  · have HT := ht1
    obtain ⟨q, rfl, -⟩ := ht1
    exact ⟨rfl, Steps.err (P.bind_err hr1) HT (by exact gb_alloc (gb_refl w (some c.pb)) _) hg1⟩
  have HR1 : productP c.L E F i = _ := P.bind_ok hr1; simp only [T.kind, T.name, T.num, T.at', T.subs] at lr1 ⊢; obtain ⟨ad1, cp1, rfl⟩ := lr1.form; obtain ⟨b1, hb1, lr1⟩ : ∃ b, b = _ ∧ LR w1 (In b w1.heap.size) l1 (.slice ad1 l1.length cp1) := ⟨_, rfl, lr1⟩
  try simp at hb1
  have G1 : w.grownBy w1 (some c.pb) := gb_trans (by exact gb_alloc (gb_refl w (some c.pb)) _) hg1; have s1 := hg1.size
  try simp at s1
  have r_1 : RB w1 (w.heap.size) := RB.keep (RB.new' (by simp)) hg1 (by omega); have r_lt1 := r_1.lt; obtain ⟨_,_,_,_,_,_,_,_,_,_,_⟩ := id r_1; go_wp2_with fail; go_at_call 133; refine (pchain_any c _ j1 d multipliesB 144 143 (factorP c.L E F) (In (b1) (w1.heap.size)) (T.mk k1 n1 m1 q1 l1) (.slice ad1 l1.length cp1) p1 (show LR _ (In (b1) (w1.heap.size)) (l1) (.slice ad1 l1.length cp1) from lr1) (fun k hk => ⟨by have h1 : k < w1.heap.size := hk.2; first | omega | (simp <;> omega), by have h1 : b1 ≤ k := hk.1; omega⟩) hX pmultiplies_any (enters_of Tryz.func144 (by kernel_rfl) rfl) rfl).mono ?_; rintro e w2 (⟨x2, hr2, ht2, hg2⟩ | ⟨⟨k2, n2, m2, q2, l2⟩, j2, v2, hr2, rfl, ⟨sv2, rfl, lr2⟩, hg2, p2, hi2⟩)
  · have HT := ht2
    obtain ⟨q, rfl, -⟩ := ht2
    exact ⟨rfl, Steps.err (HR1.trans hr2) HT G1 hg2⟩
  have HR2 : productP c.L E F i = _ := HR1.trans hr2; simp only [T.kind, T.name, T.num, T.at', T.subs] at lr2 ⊢; obtain ⟨ad2, cp2, rfl⟩ := lr2.form
  have lr2 : LR w2 (In (b1) w2.heap.size) l2 (.slice ad2 l2.length cp2) := lr2.mono (fun k hk => by
    have h9 := hg2.size
    try simp at h9
    rcases hk with hk | hk
    · have h1 : k < w1.heap.size := hk.2
      exact ⟨hk.1, by omega⟩
    · have h1 := hk.1
      try simp at h1
      exact ⟨by omega, hk.2⟩)
  have G2 : w.grownBy w2 (some c.pb) := gb_trans G1 hg2; have s2 := hg2.size
  try simp at s2
  have r_2 : RB w2 (w.heap.size) := RB.keep r_1 hg2 (by omega); have t_2 : LR w2 (In (b1) (w1.heap.size)) (l1) (.slice ad1 l1.length cp1) := LR.call lr1 hg2 (by omega); have r_lt2 := r_2.lt; obtain ⟨_,_,_,_,_,_,_,_,_,_,_⟩ := id r_2; go_wp2; refine node_ret Tryz.results134 rfl (RB.five ?_) rfl ?_
  · exact r_2
  refine Steps.ok (a := (T.mk k2 n2 m2 q2 l2)) (HR2) ⟨_, rfl, ?_⟩ ?_ ?_ (by omega)
  · refine LR.wide (lo := b1) (hi := w2.heap.size) (ts := l2) ?_ (by omega) (by first | omega | (simp <;> omega))
    exact LR.p5 lr2 (by omega)
  · exact gb_p5 G2 (by omega)
  · exact PS.p5 p2 HL.out (by omega)

set_option maxRecDepth 100000 in
set_option maxHeartbeats 400000 in
theorem psum_any (c : PC) (w : World) (i d : Nat) (E F : P T) (h : PS c w i d) (hX : Part c d (fun _ => True) 134 #[.pointer (some ⟨c.pb, 0, none⟩)] (productP c.L E F)) :
    Calls Tryz.prog 122 #[.pointer (some ⟨c.pb, 0, none⟩)] w (Steps c w i d (fun w' t v => TR w' w.heap.size w'.heap.size t v) (sumP c.L E F i)) := by
  have HP := hide h; have HL := hide h.low; have hb := h.lt; clear h
  go_enter Tryz.func122, Tryz.ntmps122
  go_wp2_with fail; go_at_call 51; refine (pnode_any c _ i d 35 (by exact PS.alloc HP.out _)).mono ?_; rintro e w1 ⟨rfl, hg1⟩; have p1 : PS c w1 i d := PS.kept (by exact PS.alloc HP.out _) hg1; have G1 : w.grownBy w1 (some c.pb) := gb_trans (by exact gb_alloc (gb_refl w (some c.pb)) _) (gb_some hg1 (some c.pb)); have s1 := hg1.size
  try simp at s1
  have r_1 : RB w1 (w.heap.size) := RB.kept (RB.new' (by simp)) hg1 (by simp); have r_lt1 := r_1.lt; obtain ⟨_,_,_,_,_,_,_,_,_,_,_⟩ := id r_1; go_wp2_with fail; go_at_call 85; refine (phas_any c _ i d s_minus _ rfl (by decide) (by exact PS.alloc p1 _)).mono ?_; rintro e w2 ⟨b2, j2, hr2, rfl, hg2, p2, hi2⟩; have HR2 : sumP c.L E F i = _ := P.bind_ok hr2; have G2 : w.grownBy w2 (some c.pb) := gb_trans (by exact gb_alloc G1 _) hg2; have s2 := hg2.size
  try simp at s2
  have r_2 : RB w2 (w.heap.size) := RB.keep (by exact RB.alloc r_1 _) hg2 (by omega); have n_2 : NB w2 (w1.heap.size) (.int .i64 35) (.string ⟨#[]⟩) (.int .i64 0) (.int .i64 (pos c.L i)) (.slice none 0 0) := NB.keep (NB.new' (by simp)) hg2 (by omega); have r_lt2 := r_2.lt; have n_lt2 := n_2.lt; obtain ⟨_,_,_,_,_,_,_,_,_,_,_⟩ := id r_2; obtain ⟨_,_,_,_,_,_⟩ := id n_2; cases b2
  · go_wp2_with fail
    go_at_call 134; refine (hX.call _ j2 p2 trivial).mono ?_; rintro e w3 (⟨x3, hr3, ht3, hg3⟩ | ⟨⟨k3, n3, m3, q3, l3⟩, j3, v3, hr3, rfl, ⟨sv3, rfl, lr3⟩, hg3, p3, hi3⟩)
    · have HT := ht3
      obtain ⟨q, rfl, -⟩ := ht3
      exact ⟨rfl, Steps.err (HR2.trans (P.bind_err hr3)) HT G2 hg3⟩
    have HR3 : sumP c.L E F i = _ := HR2.trans (P.bind_ok hr3); simp only [T.kind, T.name, T.num, T.at', T.subs] at lr3 ⊢; obtain ⟨ad3, cp3, rfl⟩ := lr3.form; obtain ⟨b3, hb3, lr3⟩ : ∃ b, b = _ ∧ LR w3 (In b w3.heap.size) l3 (.slice ad3 l3.length cp3) := ⟨_, rfl, lr3⟩
    try simp at hb3
    have G3 : w.grownBy w3 (some c.pb) := gb_trans G2 hg3; have s3 := hg3.size
    try simp at s3
    have r_3 : RB w3 (w.heap.size) := RB.keep r_2 hg3 (by omega); have n_3 : NB w3 (w1.heap.size) (.int .i64 35) (.string ⟨#[]⟩) (.int .i64 0) (.int .i64 (pos c.L i)) (.slice none 0 0) := NB.keep n_2 hg3 (by omega); have r_lt3 := r_3.lt; have n_lt3 := n_3.lt; obtain ⟨_,_,_,_,_,_,_,_,_,_,_⟩ := id r_3; obtain ⟨_,_,_,_,_,_⟩ := id n_3; go_wp2_with fail; go_at_call 133; refine (pchain_any c _ j3 d addsB 135 134 (productP c.L E F) (In (b3) (w3.heap.size)) (T.mk k3 n3 m3 q3 l3) (.slice ad3 l3.length cp3) p3 (show LR _ (In (b3) (w3.heap.size)) (l3) (.slice ad3 l3.length cp3) from lr3) (fun k hk => ⟨by have h1 : k < w3.heap.size := hk.2; first | omega | (simp <;> omega), by have h1 : b3 ≤ k := hk.1; omega⟩) hX padds_any (enters_of Tryz.func135 (by kernel_rfl) rfl) rfl).mono ?_; rintro e w4 (⟨x4, hr4, ht4, hg4⟩ | ⟨⟨k4, n4, m4, q4, l4⟩, j4, v4, hr4, rfl, ⟨sv4, rfl, lr4⟩, hg4, p4, hi4⟩)
    · have HT := ht4
      obtain ⟨q, rfl, -⟩ := ht4
      exact ⟨rfl, Steps.err (HR3.trans hr4) HT G3 hg4⟩
    have HR4 : sumP c.L E F i = _ := HR3.trans hr4; simp only [T.kind, T.name, T.num, T.at', T.subs] at lr4 ⊢; obtain ⟨ad4, cp4, rfl⟩ := lr4.form
    have lr4 : LR w4 (In (b3) w4.heap.size) l4 (.slice ad4 l4.length cp4) := lr4.mono (fun k hk => by
      have h9 := hg4.size
      try simp at h9
      rcases hk with hk | hk
      · have h1 : k < w3.heap.size := hk.2
        exact ⟨hk.1, by omega⟩
      · have h1 := hk.1
        try simp at h1
        exact ⟨by omega, hk.2⟩)
    have G4 : w.grownBy w4 (some c.pb) := gb_trans G3 hg4; have s4 := hg4.size
    try simp at s4
    have r_4 : RB w4 (w.heap.size) := RB.keep r_3 hg4 (by omega); have n_4 : NB w4 (w1.heap.size) (.int .i64 35) (.string ⟨#[]⟩) (.int .i64 0) (.int .i64 (pos c.L i)) (.slice none 0 0) := NB.keep n_3 hg4 (by omega); have t_4 : LR w4 (In (b3) (w3.heap.size)) (l3) (.slice ad3 l3.length cp3) := LR.call lr3 hg4 (by omega); have r_lt4 := r_4.lt; have n_lt4 := n_4.lt; obtain ⟨_,_,_,_,_,_,_,_,_,_,_⟩ := id r_4; obtain ⟨_,_,_,_,_,_⟩ := id n_4; go_wp2; refine node_ret Tryz.results122 rfl (RB.five ?_) rfl ?_
    · exact r_4
    refine Steps.ok (a := (T.mk k4 n4 m4 q4 l4)) (HR4) ⟨_, rfl, ?_⟩ ?_ ?_ (by omega)
    · refine LR.wide (lo := b3) (hi := w4.heap.size) (ts := l4) ?_ (by omega) (by first | omega | (simp <;> omega))
      exact LR.p5 lr4 (by omega)
    · exact gb_p5 G4 (by omega)
    · exact PS.p5 p4 HL.out (by omega)
  · go_wp2_with fail
    go_at_call 134; refine (hX.call _ j2 p2 trivial).mono ?_; rintro e w3 (⟨x3, hr3, ht3, hg3⟩ | ⟨⟨k3, n3, m3, q3, l3⟩, j3, v3, hr3, rfl, ⟨sv3, rfl, lr3⟩, hg3, p3, hi3⟩)
    · have HT := ht3
      obtain ⟨q, rfl, -⟩ := ht3
      exact ⟨rfl, Steps.err (HR2.trans (P.bind_err hr3)) HT G2 hg3⟩
    have HR3 : sumP c.L E F i = _ := HR2.trans (P.bind_ok hr3); simp only [T.kind, T.name, T.num, T.at', T.subs] at lr3 ⊢; obtain ⟨ad3, cp3, rfl⟩ := lr3.form; obtain ⟨b3, hb3, lr3⟩ : ∃ b, b = _ ∧ LR w3 (In b w3.heap.size) l3 (.slice ad3 l3.length cp3) := ⟨_, rfl, lr3⟩
    try simp at hb3
    have G3 : w.grownBy w3 (some c.pb) := gb_trans G2 hg3; have s3 := hg3.size
    try simp at s3
    have r_3 : RB w3 (w.heap.size) := RB.keep r_2 hg3 (by omega); have n_3 : NB w3 (w1.heap.size) (.int .i64 35) (.string ⟨#[]⟩) (.int .i64 0) (.int .i64 (pos c.L i)) (.slice none 0 0) := NB.keep n_2 hg3 (by omega); have r_lt3 := r_3.lt; have n_lt3 := n_3.lt; obtain ⟨_,_,_,_,_,_,_,_,_,_,_⟩ := id r_3; obtain ⟨_,_,_,_,_,_⟩ := id n_3; go_wp2_with fail; go_at_call 133; refine (pchain_any c _ j3 d addsB 135 134 (productP c.L E F) (In (b3) (w3.heap.size + 1)) (T.mk 35 [] 0 (pos c.L i) [(T.mk k3 n3 m3 q3 l3)]) (.slice (some ⟨w3.heap.size, 0, none⟩) 1 1) (by exact PS.alloc (PS.put p3 HL.out (by omega) _ _) _) (show LR _ (In (b3) (w3.heap.size + 1)) ([(T.mk k3 n3 m3 q3 l3)]) (.slice (some ⟨w3.heap.size, 0, none⟩) 1 1) from (LR.build1 _ (t := (T.mk k3 n3 m3 q3 l3)) (sv := .slice ad3 l3.length cp3) (LR.wide (lo := b3) (hi := w3.heap.size) (ts := l3) (by exact LR.put lr3 (by omega) _ _) (by omega) (by first | omega | (simp <;> omega))) (by simp) rfl (by omega))) (fun k hk => ⟨by have h1 : k < w3.heap.size + 1 := hk.2; first | omega | (simp <;> omega), by have h1 : b3 ≤ k := hk.1; omega⟩) hX padds_any (enters_of Tryz.func135 (by kernel_rfl) rfl) rfl).mono ?_; rintro e w4 (⟨x4, hr4, ht4, hg4⟩ | ⟨⟨k4, n4, m4, q4, l4⟩, j4, v4, hr4, rfl, ⟨sv4, rfl, lr4⟩, hg4, p4, hi4⟩)
    · have HT := ht4
      obtain ⟨q, rfl, -⟩ := ht4
      exact ⟨rfl, Steps.err (HR3.trans hr4) HT (by exact gb_alloc (gb_put G3 (by omega) _ _) _) hg4⟩
    have HR4 : sumP c.L E F i = _ := HR3.trans hr4; simp only [T.kind, T.name, T.num, T.at', T.subs] at lr4 ⊢; obtain ⟨ad4, cp4, rfl⟩ := lr4.form
    have lr4 : LR w4 (In (b3) w4.heap.size) l4 (.slice ad4 l4.length cp4) := lr4.mono (fun k hk => by
      have h9 := hg4.size
      try simp at h9
      rcases hk with hk | hk
      · have h1 : k < w3.heap.size + 1 := hk.2
        exact ⟨hk.1, by omega⟩
      · have h1 := hk.1
        try simp at h1
        exact ⟨by omega, hk.2⟩)
    have G4 : w.grownBy w4 (some c.pb) := gb_trans (by exact gb_alloc (gb_put G3 (by omega) _ _) _) hg4; have s4 := hg4.size
    try simp at s4
    have r_4 : RB w4 (w.heap.size) := RB.keep (by exact RB.alloc (RB.put r_3 _ _ _) _) hg4 (by omega); have n_4 : NB w4 (w1.heap.size) (.int .i64 35) (.string ⟨#[]⟩) (.int .i64 0) (.int .i64 (pos c.L i)) (.slice (some ⟨w3.heap.size, 0, none⟩) 1 1) := NB.keep (by exact NB.alloc (NB.s4 n_3 _) _) hg4 (by omega); have t_4 : LR w4 (In (b3) (w3.heap.size)) (l3) (.slice ad3 l3.length cp3) := LR.call (by exact LR.alloc (LR.put lr3 (by omega) _ _) _) hg4 (by omega); have z_4 : LR w4 (In (b3) (w3.heap.size + 1)) ([(T.mk k3 n3 m3 q3 l3)]) (.slice (some ⟨w3.heap.size, 0, none⟩) 1 1) := LR.call (LR.build1 _ (t := (T.mk k3 n3 m3 q3 l3)) (sv := .slice ad3 l3.length cp3) (LR.wide (lo := b3) (hi := w3.heap.size) (ts := l3) (by exact LR.put lr3 (by omega) _ _) (by omega) (by first | omega | (simp <;> omega))) (by simp) rfl (by omega)) hg4 (by omega); have r_lt4 := r_4.lt; have n_lt4 := n_4.lt; obtain ⟨_,_,_,_,_,_,_,_,_,_,_⟩ := id r_4; obtain ⟨_,_,_,_,_,_⟩ := id n_4; go_wp2; refine node_ret Tryz.results122 rfl (RB.five ?_) rfl ?_
    · exact r_4
    refine Steps.ok (a := (T.mk k4 n4 m4 q4 l4)) (HR4) ⟨_, rfl, ?_⟩ ?_ ?_ (by omega)
    · refine LR.wide (lo := b3) (hi := w4.heap.size) (ts := l4) ?_ (by omega) (by first | omega | (simp <;> omega))
      exact LR.p5 lr4 (by omega)
    · exact gb_p5 G4 (by omega)
    · exact PS.p5 p4 HL.out (by omega)
end Go.Proofs.YtbphiiaoncakfaaGreatDoor

/- Relations. -/
namespace Go.Proofs.YtbphiiaoncakfaaGreatDoor
open Go.RowKit

theorem hasP_false {L : List Tok} {x : List UInt8} {i j : Nat} (h : hasP L x i = .ok (false, j)) : wd L i ≠ x ∧ j = i := by
  unfold hasP at h
  split at h
  · cases h
  · rename_i hw
    cases h
    exact ⟨hw, rfl⟩
theorem hasP_true {L : List Tok} {x : List UInt8} {i j : Nat} (h : hasP L x i = .ok (true, j)) : wd L i = x ∧ j = i + 1 := by
  unfold hasP at h
  split at h
  · rename_i hw
    cases h
    exact ⟨hw, rfl⟩
  · cases h
theorem pwordq_any (c : PC) (w : World) (i d : Nat) (h : PS c w i d) :
    Calls Tryz.prog 38 #[.pointer (some ⟨c.pb, 0, none⟩)] w fun e w' => e = .returned (.string ⟨(wd c.L i).toArray⟩) ∧ w.grownBy w' none :=
  (pword_any c w i d h).mono (by rintro e w' ⟨rfl, n, rfl⟩; exact ⟨rfl, gb_drewN (gb_refl _ _) _⟩)
theorem compares_ne {x : List UInt8} (h : comparesB x = true) : x ≠ [] := by
  rintro rfl
  revert h
  decide

set_option maxRecDepth 100000 in
set_option maxHeartbeats 1000000 in
theorem prelation_any (c : PC) (w : World) (i d : Nat) (E F : P T) (h : PS c w i d) (hX : Part c d (fun _ => True) 122 #[.pointer (some ⟨c.pb, 0, none⟩)] (sumP c.L E F)) :
    Calls Tryz.prog 110 #[.pointer (some ⟨c.pb, 0, none⟩)] w (Steps c w i d (fun w' t v => TR w' w.heap.size w'.heap.size t v) (relationP c.L E F i)) := by
  have HP := hide h; have HL := hide h.low; have hb := h.lt; clear h
  go_enter Tryz.func110, Tryz.ntmps110
  go_wp2_with fail; go_at_call 122; refine (hX.call _ i (by exact PS.alloc HP.out _) trivial).mono ?_; rintro e w1 (⟨x1, hr1, ht1, hg1⟩ | ⟨⟨k1, n1, m1, q1, l1⟩, j1, v1, hr1, rfl, ⟨sv1, rfl, lr1⟩, hg1, p1, hi1⟩)
  · have HT := ht1
    obtain ⟨q, rfl, -⟩ := ht1
    exact ⟨rfl, Steps.err (P.bind_err hr1) HT (by exact gb_alloc (gb_refl w (some c.pb)) _) hg1⟩
  have HR1 : relationP c.L E F i = _ := P.bind_ok hr1; simp only [T.kind, T.name, T.num, T.at', T.subs] at lr1 ⊢; obtain ⟨ad1, cp1, rfl⟩ := lr1.form; obtain ⟨b1, hb1, lr1⟩ : ∃ b, b = _ ∧ LR w1 (In b w1.heap.size) l1 (.slice ad1 l1.length cp1) := ⟨_, rfl, lr1⟩
  try simp at hb1
  have G1 : w.grownBy w1 (some c.pb) := gb_trans (by exact gb_alloc (gb_refl w (some c.pb)) _) hg1; have s1 := hg1.size
  try simp at s1
  have r_1 : RB w1 (w.heap.size) := RB.keep (RB.new' (by simp)) hg1 (by omega); have r_lt1 := r_1.lt; obtain ⟨_,_,_,_,_,_,_,_,_,_,_⟩ := id r_1; go_wp2_with fail; go_at_call 85; refine (phas_any c _ j1 d kIS _ rfl (by decide) (by exact PS.alloc p1 _)).mono ?_; rintro e w2 ⟨b2, j2, hr2, rfl, hg2, p2, hi2⟩; have G2 : w.grownBy w2 (some c.pb) := gb_trans (by exact gb_alloc G1 _) hg2; have s2 := hg2.size
  try simp at s2
  have r_2 : RB w2 (w.heap.size) := RB.keep (by exact RB.alloc r_1 _) hg2 (by omega); have n_2 : NB w2 (w1.heap.size) (.int .i64 k1) (.string ⟨n1.toArray⟩) (.int .i64 m1) (.int .i64 q1) (.slice ad1 l1.length cp1) := NB.keep (NB.new' (by simp)) hg2 (by omega); have t_2 : LR w2 (In (b1) (w1.heap.size)) (l1) (.slice ad1 l1.length cp1) := LR.call (by exact LR.alloc lr1 _) hg2 (by omega); have r_lt2 := r_2.lt; have n_lt2 := n_2.lt; obtain ⟨_,_,_,_,_,_,_,_,_,_,_⟩ := id r_2; obtain ⟨_,_,_,_,_,_⟩ := id n_2; cases b2
  · obtain ⟨hw2, hj2⟩ := hasP_false hr2
    rw [hj2] at p2; have HRx1 : relationP c.L E F i = _ := HR1.trans (if_neg hw2); go_wp2_with fail; go_at_call 38; refine (pwordq_any c _ j1 d p2).mono ?_; rintro e w3 ⟨rfl, hg3⟩; have p3 : PS c w3 j1 d := PS.kept p2 hg3; have G3 : w.grownBy w3 (some c.pb) := gb_trans G2 (gb_some hg3 (some c.pb)); have s3 := hg3.size
    try simp at s3
    have r_3 : RB w3 (w.heap.size) := RB.kept r_2 hg3 (by simp); have n_3 : NB w3 (w1.heap.size) (.int .i64 k1) (.string ⟨n1.toArray⟩) (.int .i64 m1) (.int .i64 q1) (.slice ad1 l1.length cp1) := NB.kept n_2 hg3 (by simp); have t_3 : LR w3 (In (b1) (w1.heap.size)) (l1) (.slice ad1 l1.length cp1) := LR.grown t_2 hg3; have r_lt3 := r_3.lt; have n_lt3 := n_3.lt; obtain ⟨_,_,_,_,_,_,_,_,_,_,_⟩ := id r_3; obtain ⟨_,_,_,_,_,_⟩ := id n_3; go_wp2_with fail; go_at_call 123; refine (pcompares_any (wd c.L j1) _).mono ?_; rintro e w_ ⟨rfl, rfl⟩; cases hcm : comparesB (wd c.L j1)
    · have HRx2 : relationP c.L E F i = _ := HRx1.trans (if_neg (by rw [hcm]; decide))
      go_wp2; refine node_ret Tryz.results110 rfl (RB.five ?_) rfl ?_
      · exact r_3
      refine Steps.ok (a := (T.mk k1 n1 m1 q1 l1)) (HRx2) ⟨_, rfl, ?_⟩ ?_ ?_ (by omega)
      · refine LR.wide (lo := b1) (hi := w1.heap.size) (ts := l1) ?_ (by omega) (by first | omega | (simp <;> omega))
        exact LR.p5 t_3 (by omega)
      · exact gb_p5 G3 (by omega)
      · exact PS.p5 p3 HL.out (by omega)
    · have HRx3 : relationP c.L E F i = _ := HRx1.trans (if_pos hcm)
      go_wp2_with fail; go_at_call 87; refine (ptake_any c _ j1 d p3 (compares_ne hcm)).mono ?_; rintro e w4 ⟨rfl, hg4, p4⟩; have G4 : w.grownBy w4 (some c.pb) := gb_trans G3 hg4; have s4 := hg4.size
      try simp at s4
      have r_4 : RB w4 (w.heap.size) := RB.keep r_3 hg4 (by omega); have n_4 : NB w4 (w1.heap.size) (.int .i64 k1) (.string ⟨n1.toArray⟩) (.int .i64 m1) (.int .i64 q1) (.slice ad1 l1.length cp1) := NB.keep n_3 hg4 (by omega); have t_4 : LR w4 (In (b1) (w1.heap.size)) (l1) (.slice ad1 l1.length cp1) := LR.call t_3 hg4 (by omega); have r_lt4 := r_4.lt; have n_lt4 := n_4.lt; obtain ⟨_,_,_,_,_,_,_,_,_,_,_⟩ := id r_4; obtain ⟨_,_,_,_,_,_⟩ := id n_4; go_wp2_with fail
      go_region_with (first
        | (go_at_call 122
           refine (hX.call _ (j1 + 1) (by exact PS.drew p4) trivial).mono ?_; rintro e w5 (⟨x5, hr5, ht5, hg5⟩ | ⟨⟨k5, n5, m5, q5, l5⟩, j5, v5, hr5, rfl, ⟨sv5, rfl, lr5⟩, hg5, p5, hi5⟩)
           focus
             have HT := ht5; obtain ⟨q, rfl, -⟩ := ht5
             exact ⟨rfl, Steps.err (HRx3.trans (P.bind_err hr5)) HT (by exact gb_drew G4) hg5⟩
           have HR5 : relationP c.L E F i = _ := HRx3.trans (P.bind_ok hr5); simp only [T.kind, T.name, T.num, T.at', T.subs] at lr5 ⊢; obtain ⟨ad5, cp5, rfl⟩ := lr5.form; obtain ⟨b5, hb5, lr5⟩ : ∃ b, b = _ ∧ LR w5 (In b w5.heap.size) l5 (.slice ad5 l5.length cp5) := ⟨_, rfl, lr5⟩
           try simp at hb5
           have G5 : w.grownBy w5 (some c.pb) := gb_trans (by exact gb_drew G4) hg5; have s5 := hg5.size
           try simp at s5
           have r_5 : RB w5 (w.heap.size) := RB.keep (by exact RB.drew r_4) hg5 (by omega); have n_5 : NB w5 (w1.heap.size) (.int .i64 k1) (.string ⟨n1.toArray⟩) (.int .i64 m1) (.int .i64 q1) (.slice ad1 l1.length cp1) := NB.keep (by exact NB.drew n_4) hg5 (by omega); have t_5 : LR w5 (In (b1) (w1.heap.size)) (l1) (.slice ad1 l1.length cp1) := LR.call (by exact LR.drew t_4) hg5 (by omega); have r_lt5 := r_5.lt; have n_lt5 := n_5.lt; obtain ⟨_,_,_,_,_,_,_,_,_,_,_⟩ := id r_5
           obtain ⟨_,_,_,_,_,_⟩ := id n_5)
        | (go_at_call 124
           refine (poperation_any _ (wd c.L j1) (T.mk k1 n1 m1 q1 l1) (T.mk k5 n5 m5 q5 l5) (In (b1) w5.heap.size) (.slice ad1 l1.length cp1) (.slice ad5 l5.length cp5) (show LR _ (In (b1) w5.heap.size) (l1) (.slice ad1 l1.length cp1) from LR.wide (lo := b1) (hi := w1.heap.size) t_5 (by omega) (by omega)) (show LR _ (In (b1) w5.heap.size) (l5) (.slice ad5 l5.length cp5) from LR.wide (lo := b5) (hi := w5.heap.size) lr5 (by omega) (by omega)) (fun k hk => hk.2)).mono ?_; simp only [T.at']; rintro e w6 ⟨sv6, rfl, lr6, hg6⟩; obtain ⟨ad6, cp6, rfl⟩ := lr6.form; have p6 : PS c w6 j5 d := PS.kept p5 hg6; have G6 : w.grownBy w6 (some c.pb) := gb_trans G5 (gb_some hg6 (some c.pb)); have s6 := hg6.size
           try simp at s6
           have r_6 : RB w6 (w.heap.size) := RB.kept r_5 hg6 (by simp); have n_6 : NB w6 (w1.heap.size) (.int .i64 k1) (.string ⟨n1.toArray⟩) (.int .i64 m1) (.int .i64 q1) (.slice ad1 l1.length cp1) := NB.kept n_5 hg6 (by simp); have t_6 : LR w6 (In (b1) (w1.heap.size)) (l1) (.slice ad1 l1.length cp1) := LR.grown t_5 hg6; have u_6 : LR w6 (In (b5) (w5.heap.size)) (l5) (.slice ad5 l5.length cp5) := LR.grown lr5 hg6; have r_lt6 := r_6.lt; have n_lt6 := n_6.lt; obtain ⟨_,_,_,_,_,_,_,_,_,_,_⟩ := id r_6; obtain ⟨_,_,_,_,_,_⟩ := id n_6
           have lq6 : LR w6 (In (b1) w6.heap.size) [(T.mk k1 n1 m1 q1 l1), (T.mk k5 n5 m5 q5 l5)] (.slice ad6 2 cp6) := lr6.mono (fun k hk => by
             rcases hk with hk | hk
             · have h1 : k < w5.heap.size := hk.2
               exact ⟨hk.1, by omega⟩
             · exact ⟨by omega, hk.2⟩)))
      all_goals
        go_wp2; refine node_ret Tryz.results110 rfl (RB.five ?_) rfl ?_
        · exact r_6
        refine Steps.ok (a := (T.mk 36 (wd c.L j1) 0 q1 [(T.mk k1 n1 m1 q1 l1), (T.mk k5 n5 m5 q5 l5)])) (HR5) ⟨_, rfl, ?_⟩ ?_ ?_ (by omega)
        · refine LR.wide (lo := b1) (hi := w6.heap.size) (ts := [(T.mk k1 n1 m1 q1 l1), (T.mk k5 n5 m5 q5 l5)]) ?_ (by omega) (by first | omega | (simp <;> omega))
          exact LR.p5 lq6 (by omega)
        · exact gb_p5 G6 (by omega)
        · exact PS.p5 p6 HL.out (by omega)
  · obtain ⟨hw2, hj2⟩ := hasP_true hr2
    rw [hj2] at p2; have HRx4 : relationP c.L E F i = _ := HR1.trans (if_pos hw2); go_wp2_with fail
    go_region_with (first
      | (go_at_call 114
         refine (ptypeName_any c _ (j1 + 1) d (by exact PS.drew p2)).mono ?_; rintro e w3 (⟨x3, hr3, ht3, hg3⟩ | ⟨⟨k3, n3, m3, q3, l3⟩, j3, v3, hr3, rfl, ⟨sv3, rfl, lr3⟩, hg3, p3, hi3⟩)
         focus
           have HT := ht3; obtain ⟨q, rfl, -⟩ := ht3
           exact ⟨rfl, Steps.err (HRx4.trans (P.bind_err hr3)) HT (by exact gb_drew G2) hg3⟩
         have HR3 : relationP c.L E F i = _ := HRx4.trans (P.bind_ok hr3); simp only [T.kind, T.name, T.num, T.at', T.subs] at lr3 ⊢; obtain ⟨ad3, cp3, rfl⟩ := lr3.form; obtain ⟨b3, hb3, lr3⟩ : ∃ b, b = _ ∧ LR w3 (In b w3.heap.size) l3 (.slice ad3 l3.length cp3) := ⟨_, rfl, lr3⟩
         try simp at hb3
         have G3 : w.grownBy w3 (some c.pb) := gb_trans (by exact gb_drew G2) hg3; have s3 := hg3.size
         try simp at s3
         have r_3 : RB w3 (w.heap.size) := RB.keep (by exact RB.drew r_2) hg3 (by omega); have n_3 : NB w3 (w1.heap.size) (.int .i64 k1) (.string ⟨n1.toArray⟩) (.int .i64 m1) (.int .i64 q1) (.slice ad1 l1.length cp1) := NB.keep (by exact NB.drew n_2) hg3 (by omega); have t_3 : LR w3 (In (b1) (w1.heap.size)) (l1) (.slice ad1 l1.length cp1) := LR.call (by exact LR.drew t_2) hg3 (by omega); have r_lt3 := r_3.lt; have n_lt3 := n_3.lt; obtain ⟨_,_,_,_,_,_,_,_,_,_,_⟩ := id r_3
         obtain ⟨_,_,_,_,_,_⟩ := id n_3))
    all_goals
      go_wp2; refine node_ret Tryz.results110 rfl (NB.alloc (RB.five ?_) _) rfl ?_
      · exact r_3
      refine Steps.ok (a := (T.mk 37 [] 0 q1 [(T.mk k1 n1 m1 q1 l1), (T.mk k3 n3 m3 q3 l3)])) (HR3) ⟨_, rfl, ?_⟩ ?_ ?_ (by omega)
      · refine LR.wide (lo := b1) (hi := w3.heap.size + 1) (ts := [(T.mk k1 n1 m1 q1 l1), (T.mk k3 n3 m3 q3 l3)]) ?_ (by omega) (by first | omega | (simp <;> omega))
        exact (LR.build2 _ (t := (T.mk k1 n1 m1 q1 l1)) (t2 := (T.mk k3 n3 m3 q3 l3)) (sv := .slice ad1 l1.length cp1) (sv2 := .slice ad3 l3.length cp3) (LR.wide (lo := b1) (hi := w1.heap.size) (ts := l1) (by exact LR.p5 t_3 (by omega)) (by omega) (by first | omega | (simp <;> omega))) (LR.wide (lo := b3) (hi := w3.heap.size) (ts := l3) (by exact LR.p5 lr3 (by omega)) (by omega) (by first | omega | (simp <;> omega))) (by simp) rfl (by omega))
      · exact gb_alloc (gb_p5 G3 (by omega)) _
      · exact PS.alloc (PS.p5 p3 HL.out (by omega)) _
end Go.Proofs.YtbphiiaoncakfaaGreatDoor
