/- The program's small functions of tidy: a number's node, what is idle, which part is put. -/
import Derived.Test.YtlkokcnbbihljaaGreatDoorG06
import Derived.Test.YtlkokcnbbihljaaGreatDoorG08
namespace Go.Proofs.YtlkokcnbbihljaaGreatDoor
open Go.RowKit

/-- A node comes out, what is below it in rows of S; what was there stays. -/
def NL (w : World) (S : Nat → Prop) (t : T) : Ending → World → Prop := fun e w' => ∃ sv, e = .returned (nodeV t sv) ∧ LR w' S t.subs sv ∧ w.grownBy w' none
theorem nl_kept {w w' : World} {S : Nat → Prop} {k : Int} {x : List UInt8} {m p : Int} {l : List T} {sv : Value} (h : LR w S (T.mk k x m p l).subs sv) (hg : w.grownBy w' none) : NL w S (.mk k x m p l) (.returned (.agg #[.int .i64 k, .string ⟨x.toArray⟩, .int .i64 m, .int .i64 p, sv])) w' := ⟨sv, rfl, h.kept hg (fun _ hk => by cases hk), hg⟩
set_option maxRecDepth 100000 in
set_option maxHeartbeats 400000 in
theorem numberNode_any (v p : Int) (h0 : -2147483647 ≤ v) (h1 : v ≤ 2147483647) (w : World) : Calls Tryz.prog 144 #[.int .i32 v, .int .i64 p] w (NL w (fun k => w.heap.size ≤ k) (numT v p)) := by
  by_cases hv : v < 0
  · have hw : wrap32 (-v) = -v := w32_in (by omega) (by omega)
    have HE : Hid (numT v p = .mk 35 [] 0 p [.mk 29 [] (-v) p []]) := by show _ = _; unfold numT; rw [if_pos hv]
    go_enter Tryz.func144, Tryz.ntmps144
    go_wp2_with fail
    go_at_call 144
    refine (numberNode_pos (-v) p (by omega) (by omega) _).mono ?_
    rintro e w1 ⟨rfl, hg1⟩
    have G1 : Hid (w.grownBy w1 none) := gb_trans (by repeat (first | with_reducible exact gb_refl w none | with_reducible refine gb_put ?_ (by omega) _ _ | with_reducible refine gb_alloc ?_ _ | with_reducible refine gb_drewN ?_ _ | with_reducible refine gb_drew ?_)) hg1
    have nb := (NB.new w 24).kept hg1 (by simp)
    have N1 := hide nb
    have nl := nb.lt
    obtain ⟨n0, n1, n2, n3, n4, nz⟩ := nb
    clear hg1
    go_wp2_with fail
    refine node_ret Tryz.results144 rfl (NB.alloc (RB.five N1.out.rb) _) rfl ?_
    unfold NL
    rw [HE.out]
    refine ⟨.slice (some ⟨w1.heap.size, 0, none⟩) 1 1, rfl, ?_, (by repeat (first | with_reducible exact G1.out | with_reducible refine gb_put ?_ (by omega) _ _ | with_reducible refine gb_alloc ?_ _ | with_reducible refine gb_drewN ?_ _ | with_reducible refine gb_drew ?_))⟩
    exact (LR.build1 _ (t := .mk 29 [] (-v) p []) (lo := w.heap.size) (LR.nil _ _) (by simp) rfl (by omega)).mono (fun k hk => hk.1)
  · have HE : Hid (numT v p = .mk 29 [] v p []) := by show _ = _; unfold numT; rw [if_neg hv]
    refine (numberNode_pos v p (by omega) h1 w).mono ?_
    rintro e w1 ⟨rfl, hg⟩
    unfold NL
    rw [HE.out]
    exact ⟨_, rfl, LR.nil _ _, hg⟩
theorem two_of {l : List T} (h : l.length = 2) : ∃ a b, l = [a, b] := by
  match l, h with
  | [a, b], _ => exact ⟨a, b, rfl⟩
theorem one_of {l : List T} (h : l.length = 1) : ∃ a, l = [a] := by
  match l, h with
  | [a], _ => exact ⟨a, rfl⟩
set_option maxRecDepth 100000 in
set_option maxHeartbeats 400000 in
theorem idle_any (t : T) (sv : Value) (S : Nat → Prop) (w : World) (ha : LR w S t.subs sv) (hg : GT t) : Calls Tryz.prog 65 #[nodeV t sv] w (Sy w (.bool (idleB t))) := by
  cases hg with
  | mk k x m p l hl h1 h2 h3 h4 h5 =>
    by_cases h17 : k = 17
    · subst h17
      obtain ⟨a, b, rfl⟩ := two_of (h3 rfl)
      obtain ⟨g, c, sa, sb, rfl, hc1, hc2, na, nb, la, lb⟩ := LR.two (show LR w S [a, b] sv from ha)
      unfold maxLen at hc2
      have hgl := block_lt na.c0
      obtain ⟨c0, c1, c2, c3, c4⟩ := na
      clear ha hl h1 h2 h3 h4 h5 nb la lb
      have HE : Hid (idleB (T.mk 17 x m p [a, b]) = (a.kind == 31)) := by
        show _ = _
        have e : subT (T.mk 17 x m p [a, b]) 0 = a := rfl
        unfold idleB
        rw [e, show decide ((T.mk 17 x m p [a, b]).kind = 17) = true from rfl, Bool.true_and]
        rfl
      change Calls Tryz.prog 65 #[.agg #[.int .i64 17, .string ⟨x.toArray⟩, .int .i64 m, .int .i64 p, .slice (some ⟨g, 0, none⟩) 2 c]] w _
      rw [HE.out]
      go_enter Tryz.func65, Tryz.ntmps65
      go_wp2_with fail
      go_ret
      exact ⟨rfl, (by repeat (first | with_reducible exact gb_refl w none | with_reducible refine gb_put ?_ (by omega) _ _ | with_reducible refine gb_alloc ?_ _ | with_reducible refine gb_drewN ?_ _ | with_reducible refine gb_drew ?_))⟩
    · have hk : (k == 17) = false := by rw [beq_eq_false_iff_ne]; exact h17
      obtain ⟨sa, sc, rfl⟩ := ha.form
      have HE : Hid (idleB (T.mk k x m p l) = false) := not_idle (show (T.mk k x m p l).kind ≠ 17 from h17)
      clear ha hl h1 h2 h3 h4 h5
      change Calls Tryz.prog 65 #[.agg #[.int .i64 k, .string ⟨x.toArray⟩, .int .i64 m, .int .i64 p, .slice sa l.length sc]] w _
      rw [HE.out]
      go_enter Tryz.func65, Tryz.ntmps65
      go_wp2_with fail
      go_ret
      exact ⟨rfl, (by repeat (first | with_reducible exact gb_refl w none | with_reducible refine gb_put ?_ (by omega) _ _ | with_reducible refine gb_alloc ?_ _ | with_reducible refine gb_drewN ?_ _ | with_reducible refine gb_drew ?_))⟩
set_option maxRecDepth 100000 in
set_option maxHeartbeats 400000 in
theorem decided_any (x : List UInt8) (m p : Int) (a b : T) (sv : Value) (S : Nat → Prop) (v : Bool) (w : World) (ha : LR w S [a, b] sv) (hx : x = [38] ∨ x = [79, 82]) : Calls Tryz.prog 133 #[nodeV (.mk 36 x m p [a, b]) sv, .bool v] w (NL w S (if v = decide (x = [38]) then b else a)) := by
  obtain ⟨g, c, sa, sb, rfl, hc1, hc2, na, nb, la, lb⟩ := LR.two ha
  unfold maxLen at hc2
  have hgl := block_lt na.c0
  have LA := hide la
  have LB := hide lb
  obtain ⟨ka, xa, ma, pa, las⟩ := a
  obtain ⟨kb, xb, mb, pb, lbs⟩ := b
  obtain ⟨aa, ac, rfl⟩ := la.form
  obtain ⟨ba, bc, rfl⟩ := lb.form
  obtain ⟨c0, c1, c2, c3, c4⟩ := na
  obtain ⟨d0, d1, d2, d3, d4⟩ := nb
  clear ha la lb
  change Calls Tryz.prog 133 #[.agg #[.int .i64 36, .string ⟨x.toArray⟩, .int .i64 m, .int .i64 p, .slice (some ⟨g, 0, none⟩) 2 c], .bool v] w _
  rcases hx with rfl | rfl <;> cases v
  · rw [if_neg (by decide)]
    go_enter Tryz.func133, Tryz.ntmps133
    go_wp2_with fail
    refine node_ret Tryz.results133 rfl (NB.new' (by simp)) rfl (nl_kept LA.out ?_)
    exact (by repeat (first | with_reducible exact gb_refl w none | with_reducible refine gb_put ?_ (by omega) _ _ | with_reducible refine gb_alloc ?_ _ | with_reducible refine gb_drewN ?_ _ | with_reducible refine gb_drew ?_))
  · rw [if_pos (by decide)]
    go_enter Tryz.func133, Tryz.ntmps133
    go_wp2_with fail
    refine node_ret Tryz.results133 rfl (NB.new' (by simp)) rfl (nl_kept LB.out ?_)
    exact (by repeat (first | with_reducible exact gb_refl w none | with_reducible refine gb_put ?_ (by omega) _ _ | with_reducible refine gb_alloc ?_ _ | with_reducible refine gb_drewN ?_ _ | with_reducible refine gb_drew ?_))
  · rw [if_pos (by decide)]
    go_enter Tryz.func133, Tryz.ntmps133
    go_wp2_with fail
    refine node_ret Tryz.results133 rfl (NB.new' (by simp)) rfl (nl_kept LB.out ?_)
    exact (by repeat (first | with_reducible exact gb_refl w none | with_reducible refine gb_put ?_ (by omega) _ _ | with_reducible refine gb_alloc ?_ _ | with_reducible refine gb_drewN ?_ _ | with_reducible refine gb_drew ?_))
  · rw [if_neg (by decide)]
    go_enter Tryz.func133, Tryz.ntmps133
    go_wp2_with fail
    refine node_ret Tryz.results133 rfl (NB.new' (by simp)) rfl (nl_kept LA.out ?_)
    exact (by repeat (first | with_reducible exact gb_refl w none | with_reducible refine gb_put ?_ (by omega) _ _ | with_reducible refine gb_alloc ?_ _ | with_reducible refine gb_drewN ?_ _ | with_reducible refine gb_drew ?_))
end Go.Proofs.YtlkokcnbbihljaaGreatDoor

/- What operators make of numbers: check.Operate. -/
namespace Go.Proofs.YtlkokcnbbihljaaGreatDoor
open Go.RowKit

theorem arZ_eq (n : Int) : arZ n = wrap32 n := by unfold arZ wrap32; rfl
theorem tdiv_rng {a b : Int} (ha : -2147483647 ≤ a ∧ a ≤ 2147483647) (hb : 0 < b) : -2147483647 ≤ a.tdiv b ∧ a.tdiv b ≤ 2147483647 := by
  have h1 := Int.mul_tdiv_add_tmod a b
  have h2 := Int.tmod_lt_of_pos a hb
  have h3 := Int.lt_tmod_of_pos a hb
  constructor
  · by_cases h9 : a.tdiv b < -2147483647
    · have : b * a.tdiv b ≤ b * (-2147483648) := Int.mul_le_mul_of_nonneg_left (by omega) (by omega)
      omega
    · omega
  · by_cases h9 : 2147483647 < a.tdiv b
    · have : b * 2147483648 ≤ b * a.tdiv b := Int.mul_le_mul_of_nonneg_left (by omega) (by omega)
      omega
    · omega
set_option maxRecDepth 100000 in
theorem quotient_any (a b : Int) (w : World) (ha : -2147483647 ≤ a ∧ a ≤ 2147483647) (hb : 0 < b) (hb2 : b ≤ 2147483647) : Calls Tryz.prog 151 #[.int .i32 a, .int .i32 b] w (Sy w (.int .i32 (a / b))) := by
  have hb0 : b ≠ 0 := by omega
  have hbb : (b == 0) = false := by rw [beq_eq_false_iff_ne]; exact hb0
  go_enter Tryz.func151, Tryz.ntmps151
  have h1 := Int.mul_tdiv_add_tmod a b
  have h2 := Int.tmod_lt_of_pos a hb
  have h3 := Int.lt_tmod_of_pos a hb
  have hq := tdiv_rng ha hb
  go_wp2_with fail
  · go_ret
    refine ⟨?_, gb_refl w none⟩
    rename_i hneg
    have hr : (a / b = a.tdiv b - 1 ∧ a % b = a.tmod b + b) := (Int.ediv_emod_unique hb).2 ⟨by rw [Int.mul_sub, Int.mul_one]; omega, by omega, by omega⟩
    rw [hr.1]
    rfl
  · go_ret
    refine ⟨?_, gb_refl w none⟩
    rename_i hneg
    have hr : (a / b = a.tdiv b ∧ a % b = a.tmod b) := (Int.ediv_emod_unique hb).2 ⟨by omega, by omega, by omega⟩
    rw [hr.1]
    rfl
set_option maxRecDepth 100000 in
theorem ctruth_any (v : Bool) (w : World) : Calls Tryz.prog 152 #[.bool v] w (Sy w (.int .i32 (if v then 1 else 0))) := by
  cases v
  · go_enter Tryz.func152, Tryz.ntmps152
    go_wp2
    go_ret
    exact ⟨rfl, gb_refl w none⟩
  · go_enter Tryz.func152, Tryz.ntmps152
    go_wp2
    go_ret
    exact ⟨rfl, gb_refl w none⟩
set_option maxRecDepth 100000 in
theorem related_0 (a b : Int) (w : World) : Calls Tryz.prog 153 #[.string ⟨List.toArray [61]⟩, .int .i32 a, .int .i32 b] w (Sy w (.bool (relZ [61] a b))) := by
  go_enter Tryz.func153, Tryz.ntmps153
  go_wp2
  go_ret
  exact ⟨by simp [relZ]; rfl, gb_refl w none⟩
set_option maxRecDepth 100000 in
theorem related_1 (a b : Int) (w : World) : Calls Tryz.prog 153 #[.string ⟨List.toArray [35]⟩, .int .i32 a, .int .i32 b] w (Sy w (.bool (relZ [35] a b))) := by
  go_enter Tryz.func153, Tryz.ntmps153
  go_wp2
  go_ret
  exact ⟨by simp [relZ]; rfl, gb_refl w none⟩
set_option maxRecDepth 100000 in
theorem related_2 (a b : Int) (w : World) : Calls Tryz.prog 153 #[.string ⟨List.toArray [60]⟩, .int .i32 a, .int .i32 b] w (Sy w (.bool (relZ [60] a b))) := by
  go_enter Tryz.func153, Tryz.ntmps153
  go_wp2
  go_ret
  exact ⟨by simp [relZ], gb_refl w none⟩
set_option maxRecDepth 100000 in
theorem related_3 (a b : Int) (w : World) : Calls Tryz.prog 153 #[.string ⟨List.toArray [60, 61]⟩, .int .i32 a, .int .i32 b] w (Sy w (.bool (relZ [60, 61] a b))) := by
  go_enter Tryz.func153, Tryz.ntmps153
  go_wp2
  go_ret
  exact ⟨by simp [relZ], gb_refl w none⟩
set_option maxRecDepth 100000 in
theorem related_4 (a b : Int) (w : World) : Calls Tryz.prog 153 #[.string ⟨List.toArray [62]⟩, .int .i32 a, .int .i32 b] w (Sy w (.bool (relZ [62] a b))) := by
  go_enter Tryz.func153, Tryz.ntmps153
  go_wp2
  go_ret
  exact ⟨by simp [relZ], gb_refl w none⟩
set_option maxRecDepth 100000 in
theorem related_5 (a b : Int) (w : World) : Calls Tryz.prog 153 #[.string ⟨List.toArray [62, 61]⟩, .int .i32 a, .int .i32 b] w (Sy w (.bool (relZ [62, 61] a b))) := by
  go_enter Tryz.func153, Tryz.ntmps153
  go_wp2
  go_ret
  exact ⟨by simp [relZ], gb_refl w none⟩
set_option maxRecDepth 100000 in
theorem operate_add (a b : Int) (w : World) : Calls Tryz.prog 143 #[.string ⟨List.toArray [43]⟩, .int .i32 a, .int .i32 b] w (Sy w (.int .i32 (arZ (a + b)))) := by
  rw [arZ_eq]
  go_enter Tryz.func143, Tryz.ntmps143
  go_wp2
  go_ret
  exact ⟨rfl, gb_refl w none⟩
set_option maxRecDepth 100000 in
theorem operate_sub (a b : Int) (w : World) : Calls Tryz.prog 143 #[.string ⟨List.toArray [45]⟩, .int .i32 a, .int .i32 b] w (Sy w (.int .i32 (arZ (a - b)))) := by
  rw [arZ_eq]
  go_enter Tryz.func143, Tryz.ntmps143
  go_wp2
  go_ret
  exact ⟨rfl, gb_refl w none⟩
set_option maxRecDepth 100000 in
theorem operate_mul (a b : Int) (w : World) : Calls Tryz.prog 143 #[.string ⟨List.toArray [42]⟩, .int .i32 a, .int .i32 b] w (Sy w (.int .i32 (arZ (a * b)))) := by
  rw [arZ_eq]
  go_enter Tryz.func143, Tryz.ntmps143
  go_wp2
  go_ret
  exact ⟨rfl, gb_refl w none⟩
set_option maxRecDepth 100000 in
theorem operate_div (a b : Int) (w : World) (ha : -2147483647 ≤ a ∧ a ≤ 2147483647) (hb : 0 < b) (hb2 : b ≤ 2147483647) : Calls Tryz.prog 143 #[.string ⟨List.toArray [68, 73, 86]⟩, .int .i32 a, .int .i32 b] w (Sy w (.int .i32 (a / b))) := by
  go_enter Tryz.func143, Tryz.ntmps143
  go_wp2_with fail
  go_at_call 151
  refine (quotient_any a b _ ha hb hb2).mono ?_
  rintro e w1 ⟨rfl, hg1⟩
  go_wp2_with fail
  go_ret
  exact ⟨rfl, hg1⟩
set_option maxRecDepth 100000 in
theorem operate_mod (a b : Int) (w : World) (ha : -2147483647 ≤ a ∧ a ≤ 2147483647) (hb : 0 < b) (hb2 : b ≤ 2147483647) : Calls Tryz.prog 143 #[.string ⟨List.toArray [77, 79, 68]⟩, .int .i32 a, .int .i32 b] w (Sy w (.int .i32 (a % b))) := by
  have h1 := Int.mul_ediv_add_emod a b
  have h2 := Int.emod_nonneg a (show b ≠ 0 by omega)
  have h3 := Int.emod_lt_of_pos a hb
  have hc := Int.mul_comm b (a / b)
  go_enter Tryz.func143, Tryz.ntmps143
  go_wp2_with fail
  go_at_call 151
  refine (quotient_any a b _ ha hb hb2).mono ?_
  rintro e w1 ⟨rfl, hg1⟩
  go_wp2_with fail
  go_ret
  refine ⟨?_, hg1⟩
  have e1 : wrap32 (a / b * b) = wrap32 (a - a % b) := by congr 1; omega
  have e2 : wrap32 (a - wrap32 (a - a % b)) = a % b := by unfold wrap32; omega
  first
  | (show Ending.returned (.int .i32 (wrap32 (a - wrap32 (a / b * b)))) = _; rw [e1, e2])
  | (show Ending.returned (.int .i32 (a - a / b * b)) = _; congr 2; omega)
  | (show Ending.returned (.int .i32 (a - wrap32 (a / b * b))) = _; rw [e1]; congr 2; unfold wrap32; omega)
set_option maxRecDepth 100000 in
theorem operate_r0 (a b : Int) (w : World) : Calls Tryz.prog 143 #[.string ⟨List.toArray [61]⟩, .int .i32 a, .int .i32 b] w (Sy w (.int .i32 (if relZ [61] a b then 1 else 0))) := by
  have HR := fun w' => hide (related_0 a b w')
  have HT := fun w' => hide (ctruth_any (relZ [61] a b) w')
  generalize (if relZ [61] a b = true then (1 : Int) else 0) = z at *
  generalize relZ [61] a b = r at *
  go_enter Tryz.func143, Tryz.ntmps143
  go_wp2_with fail
  go_at_call 153
  refine ((HR _).out).mono ?_
  rintro e w1 ⟨rfl, hg1⟩
  have G1 : Hid (w.grownBy w1 none) := hg1
  clear hg1
  go_wp2_with fail
  go_at_call 152
  refine ((HT _).out).mono ?_
  rintro e w2 ⟨rfl, hg2⟩
  have G2 : Hid (w.grownBy w2 none) := gb_trans G1.out hg2
  clear hg2
  go_wp2_with fail
  go_ret
  exact ⟨rfl, G2.out⟩
set_option maxRecDepth 100000 in
theorem operate_r1 (a b : Int) (w : World) : Calls Tryz.prog 143 #[.string ⟨List.toArray [35]⟩, .int .i32 a, .int .i32 b] w (Sy w (.int .i32 (if relZ [35] a b then 1 else 0))) := by
  have HR := fun w' => hide (related_1 a b w')
  have HT := fun w' => hide (ctruth_any (relZ [35] a b) w')
  generalize (if relZ [35] a b = true then (1 : Int) else 0) = z at *
  generalize relZ [35] a b = r at *
  go_enter Tryz.func143, Tryz.ntmps143
  go_wp2_with fail
  go_at_call 153
  refine ((HR _).out).mono ?_
  rintro e w1 ⟨rfl, hg1⟩
  have G1 : Hid (w.grownBy w1 none) := hg1
  clear hg1
  go_wp2_with fail
  go_at_call 152
  refine ((HT _).out).mono ?_
  rintro e w2 ⟨rfl, hg2⟩
  have G2 : Hid (w.grownBy w2 none) := gb_trans G1.out hg2
  clear hg2
  go_wp2_with fail
  go_ret
  exact ⟨rfl, G2.out⟩
set_option maxRecDepth 100000 in
theorem operate_r2 (a b : Int) (w : World) : Calls Tryz.prog 143 #[.string ⟨List.toArray [60]⟩, .int .i32 a, .int .i32 b] w (Sy w (.int .i32 (if relZ [60] a b then 1 else 0))) := by
  have HR := fun w' => hide (related_2 a b w')
  have HT := fun w' => hide (ctruth_any (relZ [60] a b) w')
  generalize (if relZ [60] a b = true then (1 : Int) else 0) = z at *
  generalize relZ [60] a b = r at *
  go_enter Tryz.func143, Tryz.ntmps143
  go_wp2_with fail
  go_at_call 153
  refine ((HR _).out).mono ?_
  rintro e w1 ⟨rfl, hg1⟩
  have G1 : Hid (w.grownBy w1 none) := hg1
  clear hg1
  go_wp2_with fail
  go_at_call 152
  refine ((HT _).out).mono ?_
  rintro e w2 ⟨rfl, hg2⟩
  have G2 : Hid (w.grownBy w2 none) := gb_trans G1.out hg2
  clear hg2
  go_wp2_with fail
  go_ret
  exact ⟨rfl, G2.out⟩
set_option maxRecDepth 100000 in
theorem operate_r3 (a b : Int) (w : World) : Calls Tryz.prog 143 #[.string ⟨List.toArray [60, 61]⟩, .int .i32 a, .int .i32 b] w (Sy w (.int .i32 (if relZ [60, 61] a b then 1 else 0))) := by
  have HR := fun w' => hide (related_3 a b w')
  have HT := fun w' => hide (ctruth_any (relZ [60, 61] a b) w')
  generalize (if relZ [60, 61] a b = true then (1 : Int) else 0) = z at *
  generalize relZ [60, 61] a b = r at *
  go_enter Tryz.func143, Tryz.ntmps143
  go_wp2_with fail
  go_at_call 153
  refine ((HR _).out).mono ?_
  rintro e w1 ⟨rfl, hg1⟩
  have G1 : Hid (w.grownBy w1 none) := hg1
  clear hg1
  go_wp2_with fail
  go_at_call 152
  refine ((HT _).out).mono ?_
  rintro e w2 ⟨rfl, hg2⟩
  have G2 : Hid (w.grownBy w2 none) := gb_trans G1.out hg2
  clear hg2
  go_wp2_with fail
  go_ret
  exact ⟨rfl, G2.out⟩
set_option maxRecDepth 100000 in
theorem operate_r4 (a b : Int) (w : World) : Calls Tryz.prog 143 #[.string ⟨List.toArray [62]⟩, .int .i32 a, .int .i32 b] w (Sy w (.int .i32 (if relZ [62] a b then 1 else 0))) := by
  have HR := fun w' => hide (related_4 a b w')
  have HT := fun w' => hide (ctruth_any (relZ [62] a b) w')
  generalize (if relZ [62] a b = true then (1 : Int) else 0) = z at *
  generalize relZ [62] a b = r at *
  go_enter Tryz.func143, Tryz.ntmps143
  go_wp2_with fail
  go_at_call 153
  refine ((HR _).out).mono ?_
  rintro e w1 ⟨rfl, hg1⟩
  have G1 : Hid (w.grownBy w1 none) := hg1
  clear hg1
  go_wp2_with fail
  go_at_call 152
  refine ((HT _).out).mono ?_
  rintro e w2 ⟨rfl, hg2⟩
  have G2 : Hid (w.grownBy w2 none) := gb_trans G1.out hg2
  clear hg2
  go_wp2_with fail
  go_ret
  exact ⟨rfl, G2.out⟩
set_option maxRecDepth 100000 in
theorem operate_r5 (a b : Int) (w : World) : Calls Tryz.prog 143 #[.string ⟨List.toArray [62, 61]⟩, .int .i32 a, .int .i32 b] w (Sy w (.int .i32 (if relZ [62, 61] a b then 1 else 0))) := by
  have HR := fun w' => hide (related_5 a b w')
  have HT := fun w' => hide (ctruth_any (relZ [62, 61] a b) w')
  generalize (if relZ [62, 61] a b = true then (1 : Int) else 0) = z at *
  generalize relZ [62, 61] a b = r at *
  go_enter Tryz.func143, Tryz.ntmps143
  go_wp2_with fail
  go_at_call 153
  refine ((HR _).out).mono ?_
  rintro e w1 ⟨rfl, hg1⟩
  have G1 : Hid (w.grownBy w1 none) := hg1
  clear hg1
  go_wp2_with fail
  go_at_call 152
  refine ((HT _).out).mono ?_
  rintro e w2 ⟨rfl, hg2⟩
  have G2 : Hid (w.grownBy w2 none) := gb_trans G1.out hg2
  clear hg2
  go_wp2_with fail
  go_ret
  exact ⟨rfl, G2.out⟩
end Go.Proofs.YtlkokcnbbihljaaGreatDoor
