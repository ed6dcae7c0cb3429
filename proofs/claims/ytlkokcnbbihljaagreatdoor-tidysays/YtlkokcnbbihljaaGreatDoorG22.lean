/- The program's judge of shapes: records, operators. -/
import Derived.Test.YtlkokcnbbihljaaGreatDoorG21
namespace Go.Proofs.YtlkokcnbbihljaaGreatDoor
open Go.RowKit Go.Maps Go.WideMaps Go.WideElems

set_option maxRecDepth 1000000 in
set_option maxHeartbeats 2000000 in
theorem jty10 (w0 : World) (jb lb ob : Nat) (w : World) (l : List (T × Rule)) (v : Value) (x : List UInt8) (m p : Int) (ts : List T) (sv : Value) (h : JS w0 jb lb ob w l v) (hlen : l.length + ts.length ≤ 20000) (hf : Fits (.mk 10 x m p ts)) (ha : AT w0 (T.mk 10 x m p ts).subs sv) :
    Calls Tryz.prog 83 #[ptr jb, .agg #[.int .i64 10, .string ⟨x.toArray⟩, .int .i64 m, .int .i64 p, sv]] w (JR w0 jb lb ob l v w .typeItself (.mk 10 x m p ts)) := by
  have HJ := hide h
  have HF := hide hf
  have HA := hide ha
  have hjl := h.lt
  have HV : Hid (∀ b, v.ownBlock = some b → b < w.heap.size) := fun b hb => (h.room hb).2
  obtain ⟨a, n, c, rfl, hn, hc, hl⟩ := ha.any
  change ts.length = n at hl
  subst hl
  have HS : Hid (stepR .typeItself (.mk 10 x m p ts) = onlyIf (headB (.mk 10 x m p ts) 10 false 0 (-1) && decide (0 < ts.length)) (firstR (.mk 10 x m p ts) .typeNameOrNone (.declared 11 1 .typeName))) := rfl
  cases h0 : ((T.mk 10 x m p ts).name.isEmpty && withinB (.mk 10 x m p ts) 0)
  · have HN : Hid (stepR .typeItself (.mk 10 x m p ts) = none) := HS.out.trans (onlyIf_no (by rw [head_unnamed (t := (.mk 10 x m p ts)) (k := 10) rfl, h0]; rfl))
    clear h hf ha
    go_enter Tryz.func83, Tryz.ntmps83
    go_wp2_with fail
    have B0 : Hid (Box (w.alloc (.cells #[.int .i64 10, .string ⟨x.toArray⟩, .int .i64 m, .int .i64 p, .slice a ts.length c] 24)) w.heap.size (.mk 10 x m p ts) (.slice a ts.length c)) := Box.new w (.mk 10 x m p ts) (.slice a ts.length c) 24
    refine wp_region_any (by kernel_rfl) ?_
    change wpAny _ _ _ _ _ _ _ (World.drew _)
    refine wpAny_ready (rs := [0]) (by kernel_rfl) (by simp) ?_
    refine AllReady.cons rfl (fun K hK => ?_) AllReady.nil
    go_simp
    refine hK _ _ ?_
    clear hK K
    refine wpAny_ready (rs := [1]) (by kernel_rfl) (by simp) ?_
    refine AllReady.cons rfl (fun K hK => ?_) AllReady.nil
    go_simp
    go_at_call 115
    refine (unnamed_any (.mk 10 x m p ts) _ 0 _ ⟨_, _, _, rfl⟩).mono ?_
    rintro e w1 ⟨rfl, hg1⟩
    rw [h0]
    have GW1 : Hid (w.grownBy w1 none) := gb_trans (by repeat (first | with_reducible exact gb_refl w none | with_reducible refine gb_put ?_ (by omega) _ _ | with_reducible refine gb_alloc ?_ _ | with_reducible refine gb_drewN ?_ _ | with_reducible refine gb_drew ?_)) hg1
    have B1 := hide (B0.out.kept (gb_trans (by repeat (first | with_reducible exact gb_refl (w.alloc _) none | with_reducible refine gb_put ?_ (by omega) _ _ | with_reducible refine gb_alloc ?_ _ | with_reducible refine gb_drewN ?_ _ | with_reducible refine gb_drew ?_)) hg1))
    obtain ⟨b0_1, b1_1, b2_1, b3_1, b4_1⟩ := B1.out
    change _ = some (Value.int .i64 m) at b2_1
    have hsz1 := GW1.out.size
    clear hg1
    refine hK _ _ ?_
    clear hK K
    refine wpAny_ready (rs := [2]) (by kernel_rfl) (by simp) ?_
    refine AllReady.cons rfl (fun K hK => ?_) AllReady.nil
    go_simp
    refine hK _ _ ?_
    clear hK K
    refine wpAny_take (i := 3) (v := undef) rfl (by kernel_rfl) (by kernel_rfl) (by kernel_rfl) (fun _ _ _ h => h) (Or.inr ⟨by kernel_rfl, rfl⟩) ?_
    simp only [Act.put, List.setIfInBounds_toArray]
    refine wpAny_take (i := 4) (v := undef) rfl (by kernel_rfl) (by kernel_rfl) (by kernel_rfl) (fun _ _ _ h => h) (Or.inr ⟨by kernel_rfl, rfl⟩) ?_
    simp only [Act.put]
    refine wpAny_take (i := 5) (v := undef) rfl (by kernel_rfl) (by kernel_rfl) (by kernel_rfl) (fun _ _ _ h => h) (Or.inr ⟨by kernel_rfl, rfl⟩) ?_
    simp only [Act.put]
    refine wpAny_take (i := 6) (v := undef) rfl (by kernel_rfl) (by kernel_rfl) (by kernel_rfl) (fun _ _ _ h => h) (Or.inr ⟨by kernel_rfl, rfl⟩) ?_
    simp only [Act.put]
    refine wpAny_take (i := 7) (v := undef) rfl (by kernel_rfl) (by kernel_rfl) (by kernel_rfl) (fun _ _ _ h => h) (Or.inr ⟨by kernel_rfl, rfl⟩) ?_
    simp only [Act.put]
    refine wpAny_take (i := 8) (v := undef) rfl (by kernel_rfl) (by kernel_rfl) (by kernel_rfl) (fun _ _ _ h => h) (Or.inr ⟨by kernel_rfl, rfl⟩) ?_
    simp only [Act.put]
    refine wpAny_take (i := 9) (v := undef) rfl (by kernel_rfl) (by kernel_rfl) (by kernel_rfl) (fun _ _ _ h => h) (Or.inr ⟨by kernel_rfl, rfl⟩) ?_
    simp only [Act.put]
    refine wpAny_take (i := 10) (v := undef) rfl (by kernel_rfl) (by kernel_rfl) (by kernel_rfl) (fun _ _ _ h => h) (Or.inr ⟨by kernel_rfl, rfl⟩) ?_
    simp only [Act.put]
    refine wpAny_take (i := 11) (v := undef) rfl (by kernel_rfl) (by kernel_rfl) (by kernel_rfl) (fun _ _ _ h => h) (Or.inr ⟨by kernel_rfl, rfl⟩) ?_
    simp only [Act.put]
    refine wpAny_ready (rs := [12]) (by kernel_rfl) (by simp) ?_
    refine AllReady.cons rfl (fun K hK => ?_) AllReady.nil
    go_simp
    refine hK _ _ ?_
    clear hK K
    refine wpAny_ready (rs := [13]) (by kernel_rfl) (by simp) ?_
    refine AllReady.cons rfl (fun K hK => ?_) AllReady.nil
    go_simp
    refine hK _ _ ?_
    clear hK K
    refine wpAny_done (by kernel_rfl) ?_ _
    go_wp2_with fail
    go_ret
    exact .inl ⟨HN.out, rfl, gb_trans HJ.out.gb (by repeat (first | with_reducible exact GW1.out | with_reducible refine gb_put ?_ (by omega) _ _ | with_reducible refine gb_alloc ?_ _ | with_reducible refine gb_drewN ?_ _ | with_reducible refine gb_drew ?_))⟩
  · clear h hf ha
    go_enter Tryz.func83, Tryz.ntmps83
    go_wp2_with fail
    have B0 : Hid (Box (w.alloc (.cells #[.int .i64 10, .string ⟨x.toArray⟩, .int .i64 m, .int .i64 p, .slice a ts.length c] 24)) w.heap.size (.mk 10 x m p ts) (.slice a ts.length c)) := Box.new w (.mk 10 x m p ts) (.slice a ts.length c) 24
    go_region_held (fun w' => w'.cell? ⟨w.heap.size, 0, none⟩ = some (.int .i64 10) ∧ w'.cell? ⟨w.heap.size, 1, none⟩ = some (.string ⟨x.toArray⟩) ∧ w'.cell? ⟨w.heap.size, 2, none⟩ = some (.int .i64 m) ∧ w'.cell? ⟨w.heap.size, 3, none⟩ = some (.int .i64 p) ∧ w'.cell? ⟨w.heap.size, 4, none⟩ = some (.slice a ts.length c)) (first | exact B9.out.all5 | exact (B2.out.kept (by repeat (first | with_reducible exact gb_refl w2 none | with_reducible refine gb_put ?_ (by omega) _ _ | with_reducible refine gb_alloc ?_ _ | with_reducible refine gb_drewN ?_ _ | with_reducible refine gb_drew ?_))).all5 | exact (B1.out.kept (by repeat (first | with_reducible exact gb_refl w1 none | with_reducible refine gb_put ?_ (by omega) _ _ | with_reducible refine gb_alloc ?_ _ | with_reducible refine gb_drewN ?_ _ | with_reducible refine gb_drew ?_))).all5 | exact (B0.out.kept (by repeat (first | with_reducible exact gb_refl (w.alloc _) none | with_reducible refine gb_put ?_ (by omega) _ _ | with_reducible refine gb_alloc ?_ _ | with_reducible refine gb_drewN ?_ _ | with_reducible refine gb_drew ?_))).all5) (first
      | (go_at_call 115
         refine (unnamed_any (.mk 10 x m p ts) _ 0 _ ⟨_, _, _, rfl⟩).mono ?_
         rintro e w1 ⟨rfl, hg1⟩
         rw [h0]
         have GW1 : Hid (w.grownBy w1 none) := gb_trans (by repeat (first | with_reducible exact gb_refl w none | with_reducible refine gb_put ?_ (by omega) _ _ | with_reducible refine gb_alloc ?_ _ | with_reducible refine gb_drewN ?_ _ | with_reducible refine gb_drew ?_)) hg1
         have B1 := hide (B0.out.kept (gb_trans (by repeat (first | with_reducible exact gb_refl (w.alloc _) none | with_reducible refine gb_put ?_ (by omega) _ _ | with_reducible refine gb_alloc ?_ _ | with_reducible refine gb_drewN ?_ _ | with_reducible refine gb_drew ?_)) hg1))
         obtain ⟨b0_1, b1_1, b2_1, b3_1, b4_1⟩ := B1.out
         change _ = some (Value.int .i64 m) at b2_1
         have hsz1 := GW1.out.size
         clear hg1)
      | (go_at_call 81
         refine (declared_any jb _ v 11 1 .typeName _ (by first | omega | (simp; omega)) (fun b hb => by have := HV.out b hb; first | omega | (simp; omega)) (.meth .typeName _ rfl)).mono ?_
         rintro e w2 ⟨g2, fa2, ca2, rfl, r2, hg2⟩
         have GW2 : Hid (w.grownBy w2 none) := gb_trans (by repeat (first | with_reducible exact GW1.out | with_reducible refine gb_put ?_ (by omega) _ _ | with_reducible refine gb_alloc ?_ _ | with_reducible refine gb_drewN ?_ _ | with_reducible refine gb_drew ?_)) hg2
         have R2 := hide r2
         have B2 := hide (B1.out.kept (gb_trans (by repeat (first | with_reducible exact gb_refl w1 none | with_reducible refine gb_put ?_ (by omega) _ _ | with_reducible refine gb_alloc ?_ _ | with_reducible refine gb_drewN ?_ _ | with_reducible refine gb_drew ?_)) hg2))
         obtain ⟨b0_2, b1_2, b2_2, b3_2, b4_2⟩ := B2.out
         have hsz2 := GW2.out.size
         have hbl2 := block_lt b0_2
         clear hg2 r2)
      | (go_at_call 118
         refine (first_one w0 jb lb ob _ l v (.mk 10 x m p ts) _ .typeNameOrNone (.declared 11 1 .typeName) _ _ (HJ.out.grown (by repeat (first | with_reducible exact GW2.out | with_reducible refine gb_put ?_ (by omega) _ _ | with_reducible refine gb_alloc ?_ _ | with_reducible refine gb_drewN ?_ _ | with_reducible refine gb_drew ?_))) hlen HA.out (.meth .typeNameOrNone _ rfl) (R2.out.grown (by repeat (first | with_reducible exact gb_refl w2 none | with_reducible refine gb_put ?_ (by omega) _ _ | with_reducible refine gb_alloc ?_ _ | with_reducible refine gb_drewN ?_ _ | with_reducible refine gb_drew ?_)))).mono ?_
         rintro e w9 ⟨b9, rfl, h9⟩
         have B9 := hide (Box.past (B2.out.kept (by repeat (first | with_reducible exact gb_refl w2 none | with_reducible refine gb_put ?_ (by omega) _ _ | with_reducible refine gb_alloc ?_ _ | with_reducible refine gb_drewN ?_ _ | with_reducible refine gb_drew ?_))) ⟨by omega, fun e => by have := HV.out _ e; omega⟩ h9)))
    all_goals
      have H9 := hide h9
      clear h9
      rcases H9.out with ⟨rfl, hno, hg⟩ | ⟨rfl, hyes, v9, j9, k9⟩
      · go_wp2_with fail
        go_ret
        exact .inl ⟨HS.out.trans (onlyIf_no (by change ts = [] at hno; subst hno; simp)), rfl, gb_trans HJ.out.gb (gb_trans (by repeat (first | with_reducible exact GW2.out | with_reducible refine gb_put ?_ (by omega) _ _ | with_reducible refine gb_alloc ?_ _ | with_reducible refine gb_drewN ?_ _ | with_reducible refine gb_drew ?_)) hg)⟩
      · have J9 := hide j9
        have K9 : Hid (JK jb v w w9 v9) := (JK.grown (by repeat (first | with_reducible exact GW2.out | with_reducible refine gb_put ?_ (by omega) _ _ | with_reducible refine gb_alloc ?_ _ | with_reducible refine gb_drewN ?_ _ | with_reducible refine gb_drew ?_))).trans k9
        clear j9 k9 H9
        go_wp2_with fail
        go_ret
        exact .inr ⟨_, v9, HS.out.trans (onlyIf_yes (by rw [head_unnamed (t := (.mk 10 x m p ts)) (k := 10) rfl, h0]; simpa [T.subs] using hyes)), rfl, J9.out, K9.out⟩
theorem has_ops (x : List UInt8) : has (mapOf opsL) (.string x) = decide (0 ≤ levelOf x) := by
  unfold mapOf
  rw [has_mapFrom x opsL (.map []) ⟨_, rfl⟩, found_ops]
  by_cases h : 0 ≤ levelOf x
  · simp [h]
  · simp [h]; rfl
theorem ops_look (w : World) (ob : Nat) (x : List UInt8) (h : IsOps w ob) (hx : x.length ≤ maxLen) : ∃ c : Int, (Instr.lookup 56 (.map (some ob)) (.string ⟨x.toArray⟩) true).run Tryz.prog w = .ok (.tuple #[.int .i64 c, .bool (decide (0 ≤ levelOf x))]) w := by
  obtain ⟨v, ps, hrun, hv⟩ := World.ownsMap.look_ok h lawStr Tryz.underlying56 (zeroRank w) (plainElem_int (H := Unit) Tryz.underlying109 (a := 0) (by decide)) (keyOf_string_mk (P := Tryz.prog) Tryz.underlying9 (s := ⟨x.toArray⟩) (name_size hx))
  obtain ⟨c, rfl, _, _⟩ := plainElem_int_inv Tryz.underlying109 hv
  refine ⟨c, ?_⟩
  rw [← has_ops x]
  exact hrun

set_option maxRecDepth 1000000 in
set_option maxHeartbeats 2000000 in
theorem jexp36 (w0 : World) (jb lb ob : Nat) (w : World) (l : List (T × Rule)) (v : Value) (x : List UInt8) (m p : Int) (ts : List T) (sv : Value) (h : JS w0 jb lb ob w l v) (hlen : l.length + ts.length ≤ 20000) (hf : Fits (.mk 36 x m p ts)) (ha : AT w0 (T.mk 36 x m p ts).subs sv) :
    Calls Tryz.prog 82 #[ptr jb, .agg #[.int .i64 36, .string ⟨x.toArray⟩, .int .i64 m, .int .i64 p, sv]] w (JR w0 jb lb ob l v w .expression (.mk 36 x m p ts)) := by
  have HJ := hide h
  have HF := hide hf
  have HA := hide ha
  have hjl := h.lt
  have HV : Hid (∀ b, v.ownBlock = some b → b < w.heap.size) := fun b hb => (h.room hb).2
  obtain ⟨a, n, c, rfl, hn, hc, hl⟩ := ha.any
  change ts.length = n at hl
  subst hl
  have HS : Hid (stepR .expression (.mk 36 x m p ts) = onlyIf (decide (0 ≤ levelOf x) && m == 0 && ts.length == 2) (zipR ts [.expression, .expression])) := rfl
  have c1 := h.c1
  obtain ⟨cl, hlk⟩ := ops_look ((w.alloc (.cells #[.int .i64 36, .string ⟨x.toArray⟩, .int .i64 m, .int .i64 p, .slice a ts.length c] 24)).drew) ob x (h.grown (gb_drew (gb_alloc (gb_refl w none) _))).ops hf.name
  cases h0 : decide (0 ≤ levelOf x)
  · have HN : Hid (stepR .expression (.mk 36 x m p ts) = none) := HS.out.trans (onlyIf_no (by rw [h0]; rfl))
    rw [h0] at hlk
    clear h hf ha
    go_enter Tryz.func82, Tryz.ntmps82
    go_wp2_with fail
    go_region
    all_goals
      go_wp2_with fail
      go_ret
      exact .inl ⟨HN.out, rfl, gb_trans HJ.out.gb (by repeat (first | with_reducible exact gb_refl w none | with_reducible refine gb_put ?_ (by omega) _ _ | with_reducible refine gb_alloc ?_ _ | with_reducible refine gb_drewN ?_ _ | with_reducible refine gb_drew ?_))⟩
  · cases h1 : withinB (.mk 36 x m p ts) 0
    · have HN : Hid (stepR .expression (.mk 36 x m p ts) = none) := HS.out.trans (onlyIf_no (by
        have h2 : ¬ m = 0 := by intro e; subst e; simp [withinB, T.num] at h1
        simp [h2]))
      rw [h0] at hlk
      clear h hf ha
      go_enter Tryz.func82, Tryz.ntmps82
      go_wp2_with fail
      go_region
      all_goals
        go_wp2_with fail
        go_at_call 113
        refine (within_any (.mk 36 x m p ts) _ 0 _ ⟨_, _, _, rfl⟩).mono ?_
        rintro e w1 ⟨rfl, hg1⟩
        rw [h1]
        have GW1 : Hid (w.grownBy w1 none) := gb_trans (by repeat (first | with_reducible exact gb_refl w none | with_reducible refine gb_put ?_ (by omega) _ _ | with_reducible refine gb_alloc ?_ _ | with_reducible refine gb_drewN ?_ _ | with_reducible refine gb_drew ?_)) hg1
        go_wp2_with fail
        go_ret
        exact .inl ⟨HN.out, rfl, gb_trans HJ.out.gb GW1.out⟩
    · have hm : m = 0 := by unfold withinB at h1; have h2 := of_decide_eq_true h1; simp only [T.num] at h2; omega
      have HC : Hid (∀ n : Nat, ts.length = n → (decide (0 ≤ levelOf x) && m == 0 && ts.length == 2) = decide (n = 2)) := fun n hn => by subst hm hn; have h0p := of_decide_eq_true h0; rw [Bool.eq_iff_iff]; simp [h0p]
      clear hm
      rw [h0] at hlk
      clear h hf ha
      go_enter Tryz.func82, Tryz.ntmps82
      go_wp2_with fail
      go_region
      all_goals
        go_wp2_with fail
        go_at_call 113
        refine (within_any (.mk 36 x m p ts) _ 0 _ ⟨_, _, _, rfl⟩).mono ?_
        rintro e w1 ⟨rfl, hg1⟩
        rw [h1]
        have GW1 : Hid (w.grownBy w1 none) := gb_trans (by repeat (first | with_reducible exact gb_refl w none | with_reducible refine gb_put ?_ (by omega) _ _ | with_reducible refine gb_alloc ?_ _ | with_reducible refine gb_drewN ?_ _ | with_reducible refine gb_drew ?_)) hg1
        have B1 := hide ((Box.new w (.mk 36 x m p ts) (.slice a ts.length c) 24).kept (gb_trans (gb_drew (gb_refl _ none)) hg1))
        obtain ⟨b0_1, b1_1, b2_1, b3_1, b4_1⟩ := B1.out
        change _ = some (Value.int .i64 m) at b2_1
        have hsz := GW1.out.size
        have hjw : jb < w1.heap.size := by omega
        clear hg1
        go_wp2_with fail
        go_at_call 78
        refine (below_any w0 jb lb ob _ l v (.mk 36 x m p ts) _ [.expression, .expression] _ (HJ.out.grown (by repeat (first | with_reducible exact GW1.out | with_reducible refine gb_put ?_ (by omega) _ _ | with_reducible refine gb_alloc ?_ _ | with_reducible refine gb_drewN ?_ _ | with_reducible refine gb_drew ?_))) hlen (by decide) HA.out (RL.new2 _ _ (.meth .expression _ rfl) (.meth .expression _ rfl) (by simpa using hjw) (fun b hb => by have := HV.out b hb; omega))).mono ?_
        rintro e w2 (⟨hno, rfl, hg2⟩ | ⟨hyes, v2, rfl, j2, k2⟩)
        · go_wp2_with fail
          go_ret
          exact .inl ⟨HS.out.trans (onlyIf_no ((HC.out _ rfl).trans (by simpa [T.subs] using hno))), rfl, gb_trans HJ.out.gb (gb_trans (by repeat (first | with_reducible exact GW1.out | with_reducible refine gb_put ?_ (by omega) _ _ | with_reducible refine gb_alloc ?_ _ | with_reducible refine gb_drewN ?_ _ | with_reducible refine gb_drew ?_)) hg2)⟩
        have J2 := hide j2
        have K2 : Hid (JK jb v w w2 v2) := (JK.grown (by repeat (first | with_reducible exact GW1.out | with_reducible refine gb_put ?_ (by omega) _ _ | with_reducible refine gb_alloc ?_ _ | with_reducible refine gb_drewN ?_ _ | with_reducible refine gb_drew ?_))).trans k2
        clear j2 k2
        go_wp2_with fail
        go_ret
        exact .inr ⟨_, v2, HS.out.trans (onlyIf_yes ((HC.out _ rfl).trans (by simpa [T.subs] using hyes))), rfl, J2.out, K2.out⟩
end Go.Proofs.YtlkokcnbbihljaaGreatDoor
