/- The document's shapes: operators; every expression. -/
import Derived.Test.YtlkokcnbbihljaaGreatDoorG43
import Derived.Test.YtlkokcnbbihljaaGreatDoorG45
namespace Go.Proofs.YtlkokcnbbihljaaGreatDoor
open Go.RowKit

set_option maxRecDepth 1000000 in
set_option maxHeartbeats 1000000 in
theorem expr36 (x : List UInt8) (m p : Int) (l : List T) (sv : Value) (w : World) (hk : KW w) (ha : AT w (T.mk 36 x m p l).subs sv) (IH : ∀ u, u ∈ l → ShOK u) :
    Calls Tryz.prog 37 #[.agg #[.int .i64 36, .string ⟨x.toArray⟩, .int .i64 m, .int .i64 p, sv]] w (Sy w (.bool (wellB .expression (.mk 36 x m p l)))) := by
  have HE := wellB_only (r := .expression) (t := (.mk 36 x m p l)) (c := decide (0 ≤ levelOf x) && m == 0 && l.length == 2) (l := zipR l [.expression, .expression]) rfl
  have HK := hide hk
  have HA := hide ha
  obtain ⟨a, n, c, rfl, hn, hc, hl⟩ := ha.any
  change l.length = n at hl
  subst hl
  have IR := hide IH
  clear hk ha IH
  have HL : Hid ((⟨x.toArray⟩ : ByteArray).data.toList = x) := rfl
  by_cases h0 : 0 ≤ levelOf x
  · by_cases h1 : m = 0
    · subst h1
      by_cases h2 : l.length = 2
      · obtain ⟨u, v, rfl⟩ : ∃ u v, l = [u, v] := by
          match l, h2 with
          | [u, v], _ => exact ⟨u, v, rfl⟩
        have hall : wellB .expression (.mk 36 x 0 p [u, v]) = [u, v].all (wellB .expression) := by
          rw [HE]
          simp [zipR, h0]
        clear h2
        cases h3 : [u, v].all (wellB .expression)
        · rw [hall, h3]
          clear HE hall
          go_enter Tryz.func37, Tryz.ntmps37
          go_wp2_with fail
          go_at_call 33
          refine (rlevel_any ⟨x.toArray⟩ _).mono ?_
          rintro e w1 ⟨rfl, hg1⟩
          have G1 : Hid (w.grownBy w1 none) := gb_trans (gb_alloc (gb_refl w none) _) hg1
          have B1 := hide ((Box.new w (.mk 36 x 0 p [u, v]) (.slice a 2 c) 24).kept hg1)
          obtain ⟨b0_1, b1_1, b2_1, b3_1, b4_1⟩ := B1.out
          go_wp2_with fail
          go_at_call 72
          refine (exprsShaped_any [u, v] _ _ (HK.out.kept G1.out) IR.out (HA.out.kept G1.out)).mono ?_
          rintro e w2 ⟨rfl, hg2⟩
          rw [h3]
          have G2 : Hid (w.grownBy w2 none) := gb_trans G1.out hg2
          have B2 := hide (B1.out.kept hg2)
          obtain ⟨b0_2, b1_2, b2_2, b3_2, b4_2⟩ := B2.out
          go_wp2_with fail
          go_ret
          exact ⟨rfl, G2.out⟩
        · rw [hall, h3]
          clear HE hall
          go_enter Tryz.func37, Tryz.ntmps37
          go_wp2_with fail
          go_at_call 33
          refine (rlevel_any ⟨x.toArray⟩ _).mono ?_
          rintro e w1 ⟨rfl, hg1⟩
          have G1 : Hid (w.grownBy w1 none) := gb_trans (gb_alloc (gb_refl w none) _) hg1
          have B1 := hide ((Box.new w (.mk 36 x 0 p [u, v]) (.slice a 2 c) 24).kept hg1)
          obtain ⟨b0_1, b1_1, b2_1, b3_1, b4_1⟩ := B1.out
          go_wp2_with fail
          go_at_call 72
          refine (exprsShaped_any [u, v] _ _ (HK.out.kept G1.out) IR.out (HA.out.kept G1.out)).mono ?_
          rintro e w2 ⟨rfl, hg2⟩
          rw [h3]
          have G2 : Hid (w.grownBy w2 none) := gb_trans G1.out hg2
          have B2 := hide (B1.out.kept hg2)
          obtain ⟨b0_2, b1_2, b2_2, b3_2, b4_2⟩ := B2.out
          go_wp2_with fail
          go_ret
          exact ⟨rfl, G2.out⟩
      · skip
        rw [show wellB .expression (.mk 36 x 0 p l) = false by rw [HE]; simp [h2]]
        clear HE
        go_enter Tryz.func37, Tryz.ntmps37
        go_wp2_with fail
        go_at_call 33
        refine (rlevel_any ⟨x.toArray⟩ _).mono ?_
        rintro e w1 ⟨rfl, hg1⟩
        have G1 : Hid (w.grownBy w1 none) := gb_trans (gb_alloc (gb_refl w none) _) hg1
        have B1 := hide ((Box.new w (.mk 36 x 0 p l) (.slice a l.length c) 24).kept hg1)
        obtain ⟨b0_1, b1_1, b2_1, b3_1, b4_1⟩ := B1.out
        go_wp2_with fail
        go_ret
        exact ⟨rfl, G1.out⟩
    · skip
      rw [show wellB .expression (.mk 36 x m p l) = false by rw [HE]; simp [h1]]
      clear HE
      go_enter Tryz.func37, Tryz.ntmps37
      go_wp2_with fail
      go_at_call 33
      refine (rlevel_any ⟨x.toArray⟩ _).mono ?_
      rintro e w1 ⟨rfl, hg1⟩
      have G1 : Hid (w.grownBy w1 none) := gb_trans (gb_alloc (gb_refl w none) _) hg1
      have B1 := hide ((Box.new w (.mk 36 x m p l) (.slice a l.length c) 24).kept hg1)
      obtain ⟨b0_1, b1_1, b2_1, b3_1, b4_1⟩ := B1.out
      go_wp2_with fail
      go_ret
      exact ⟨rfl, G1.out⟩
  · skip
    rw [show wellB .expression (.mk 36 x m p l) = false by rw [HE]; simp [h0]]
    clear HE
    go_enter Tryz.func37, Tryz.ntmps37
    go_wp2_with fail
    go_at_call 33
    refine (rlevel_any ⟨x.toArray⟩ _).mono ?_
    rintro e w1 ⟨rfl, hg1⟩
    have G1 : Hid (w.grownBy w1 none) := gb_trans (gb_alloc (gb_refl w none) _) hg1
    have B1 := hide ((Box.new w (.mk 36 x m p l) (.slice a l.length c) 24).kept hg1)
    obtain ⟨b0_1, b1_1, b2_1, b3_1, b4_1⟩ := B1.out
    go_wp2_with fail
    go_ret
    exact ⟨rfl, G1.out⟩
theorem wellB_congr {r q : Rule} {t : T} (h : stepR r t = stepR q t) : wellB r t = wellB q t := by
  unfold wellB
  congr 1
  rw [eq_iff_iff, Well.iff, Well.iff, h]
set_option maxRecDepth 1000000 in
set_option maxHeartbeats 1000000 in
theorem desigElse (kd : Int) (x : List UInt8) (m p : Int) (l : List T) (sv : Value) (w : World) (ha : AT w (T.mk kd x m p l).subs sv) (h24 : ¬ kd = 24) (h25 : ¬ kd = 25) (h26 : ¬ kd = 26) (h27 : ¬ kd = 27) (h28 : ¬ kd = 28) :
    Calls Tryz.prog 71 #[.agg #[.int .i64 kd, .string ⟨x.toArray⟩, .int .i64 m, .int .i64 p, sv]] w (Sy w (.bool (wellB .designator (.mk kd x m p l)))) := by
  rw [wellB_none (show stepR .designator (.mk kd x m p l) = none by simp [stepR, designatorR, T.kind, h24, h25, h26, h27, h28])]
  obtain ⟨a, n, c, rfl, hn, hc, hl⟩ := ha.any
  clear ha
  go_enter Tryz.func71, Tryz.ntmps71
  go_wp2_with fail
  go_ret
  exact ⟨rfl, gb_alloc (gb_refl w none) _⟩
set_option maxRecDepth 1000000 in
set_option maxHeartbeats 1000000 in
theorem exprElse (kd : Int) (x : List UInt8) (m p : Int) (l : List T) (sv : Value) (w : World) (hk : KW w) (hf : Fits (.mk kd x m p l)) (ha : AT w (T.mk kd x m p l).subs sv) (h29 : ¬ kd = 29) (h30 : ¬ kd = 30) (h31 : ¬ kd = 31) (h32 : ¬ kd = 32) (h33 : ¬ kd = 33) (h34 : ¬ kd = 34) (h35 : ¬ kd = 35) (h36 : ¬ kd = 36) (h37 : ¬ kd = 37)
    (hd : ∀ (sv : Value) (w : World), KW w → Fits (.mk kd x m p l) → AT w (T.mk kd x m p l).subs sv → Calls Tryz.prog 71 #[nodeV (.mk kd x m p l) sv] w (Sy w (.bool (wellB .designator (.mk kd x m p l))))) :
    Calls Tryz.prog 37 #[.agg #[.int .i64 kd, .string ⟨x.toArray⟩, .int .i64 m, .int .i64 p, sv]] w (Sy w (.bool (wellB .expression (.mk kd x m p l)))) := by
  rw [wellB_congr (show stepR .expression (.mk kd x m p l) = stepR .designator (.mk kd x m p l) by simp [stepR, expressionR, T.kind, h29, h30, h31, h32, h33, h34, h35, h36, h37])]
  have HK := hide hk
  have HF := hide hf
  have HA := hide ha
  have HD := hide hd
  obtain ⟨a, n, c, rfl, hn, hc, hl⟩ := ha.any
  clear ha hk hf hd
  go_enter Tryz.func37, Tryz.ntmps37
  go_wp2_with fail
  go_at_call 71
  refine (HD.out _ _ (HK.out.kept (by repeat (first | with_reducible exact gb_refl w none | with_reducible refine gb_put ?_ (by omega) _ _ | with_reducible refine gb_alloc ?_ _ | with_reducible refine gb_drewN ?_ _ | with_reducible refine gb_drew ?_))) HF.out (HA.out.kept (by repeat (first | with_reducible exact gb_refl w none | with_reducible refine gb_put ?_ (by omega) _ _ | with_reducible refine gb_alloc ?_ _ | with_reducible refine gb_drewN ?_ _ | with_reducible refine gb_drew ?_)))).mono ?_
  rintro e w1 ⟨rfl, hg1⟩
  have G1 : Hid (w.grownBy w1 none) := gb_trans (gb_alloc (gb_refl w none) _) hg1
  have B1 := hide ((Box.new w (.mk kd x m p l) (.slice a n c) 24).kept hg1)
  obtain ⟨b0_1, b1_1, b2_1, b3_1, b4_1⟩ := B1.out
  go_wp2_with fail
  go_ret
  exact ⟨rfl, G1.out⟩
theorem sh_step (t : T) (IH : ∀ u, u ∈ t.subs → ShOK u) : ShOK t := by
  obtain ⟨kd, x, m, p, l⟩ := t
  change ∀ u, u ∈ l → ShOK u at IH
  have hd : ∀ (sv : Value) (w : World), KW w → Fits (.mk kd x m p l) → AT w (T.mk kd x m p l).subs sv → Calls Tryz.prog 71 #[nodeV (.mk kd x m p l) sv] w (Sy w (.bool (wellB .designator (.mk kd x m p l)))) := by
    intro sv w hk hf ha
    by_cases h24 : kd = 24
    · subst h24; exact desig24 x m p l sv w hk hf ha
    by_cases h25 : kd = 25
    · subst h25; exact desig25 x m p l sv w hk hf ha IH
    by_cases h26 : kd = 26
    · subst h26; exact desig26 x m p l sv w hk hf ha IH
    by_cases h27 : kd = 27
    · subst h27; exact desig27 x m p l sv w hk hf ha IH
    by_cases h28 : kd = 28
    · subst h28; exact desig28 x m p l sv w hk hf ha IH
    exact desigElse kd x m p l sv w ha h24 h25 h26 h27 h28
  refine ⟨hd, fun sv w hk hf ha => ?_⟩
  by_cases h29 : kd = 29
  · subst h29; exact expr29 x m p l sv w hk hf ha
  by_cases h30 : kd = 30
  · subst h30; exact expr30 x m p l sv w hk hf ha
  by_cases h31 : kd = 31
  · subst h31; exact expr31 x m p l sv w hk hf ha
  by_cases h32 : kd = 32
  · subst h32; exact expr32 x m p l sv w hk hf ha
  by_cases h33 : kd = 33
  · subst h33; exact expr33 x m p l sv w hk hf ha IH
  by_cases h34 : kd = 34
  · subst h34; exact expr34 x m p l sv w hk hf ha IH
  by_cases h35 : kd = 35
  · subst h35; exact expr35 x m p l sv w hk hf ha IH
  by_cases h36 : kd = 36
  · subst h36; exact expr36 x m p l sv w hk ha IH
  by_cases h37 : kd = 37
  · subst h37; exact expr37 x m p l sv w hk hf ha IH
  exact exprElse kd x m p l sv w hk hf ha h29 h30 h31 h32 h33 h34 h35 h36 h37 hd
theorem sh_all (t : T) : ShOK t := sh_step t (fun u _hu => sh_all u)
  termination_by SizeOf.sizeOf t
  decreasing_by
    obtain ⟨k, x, m, a, l⟩ := t
    have h9 := List.sizeOf_lt_of_mem (show u ∈ l from _hu)
    simp only [T.mk.sizeOf_spec]
    omega
end Go.Proofs.YtlkokcnbbihljaaGreatDoor
