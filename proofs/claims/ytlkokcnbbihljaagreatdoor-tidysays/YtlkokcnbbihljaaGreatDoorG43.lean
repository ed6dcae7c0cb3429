/- The document's shapes: designators, expressions, kind by kind. -/
import Derived.Test.YtlkokcnbbihljaaGreatDoorG05
namespace Go.Proofs.YtlkokcnbbihljaaGreatDoor
open Go.RowKit

set_option maxRecDepth 1000000 in
set_option maxHeartbeats 1000000 in
theorem desig24 (x : List UInt8) (m p : Int) (l : List T) (sv : Value) (w : World) (hk : KW w) (hf : Fits (.mk 24 x m p l)) (ha : AT w (T.mk 24 x m p l).subs sv) :
    Calls Tryz.prog 71 #[.agg #[.int .i64 24, .string ⟨x.toArray⟩, .int .i64 m, .int .i64 p, sv]] w (Sy w (.bool (wellB .designator (.mk 24 x m p l)))) := by
  have HE := wellB_only (r := .designator) (t := (.mk 24 x m p l)) (c := headB (.mk 24 x m p l) 24 true 0 0) (l := []) rfl
  have HK := hide hk
  have HF := hide hf
  have HA := hide ha
  cases h0 : headB (.mk 24 x m p l) 24 true 0 0
  · rw [show wellB .designator (.mk 24 x m p l) = false by rw [HE, h0]; rfl]
    clear HE
    obtain ⟨a, n, c, rfl, hn, hc, hl⟩ := ha.any
    clear hk hf ha
    go_enter Tryz.func71, Tryz.ntmps71
    go_wp2_with fail
    go_at_call 16
    refine (head_any (.mk 24 x m p l) _ 24 0 0 true _ (HK.out.kept (by repeat (first | with_reducible exact gb_refl w none | with_reducible refine gb_put ?_ (by omega) _ _ | with_reducible refine gb_alloc ?_ _ | with_reducible refine gb_drewN ?_ _ | with_reducible refine gb_drew ?_))) HF.out (HA.out.kept (by repeat (first | with_reducible exact gb_refl w none | with_reducible refine gb_put ?_ (by omega) _ _ | with_reducible refine gb_alloc ?_ _ | with_reducible refine gb_drewN ?_ _ | with_reducible refine gb_drew ?_)))).mono ?_
    rintro e w1 ⟨rfl, hg1⟩
    rw [h0]
    have G1 : Hid (w.grownBy w1 none) := gb_trans (gb_alloc (gb_refl w none) _) hg1
    have B1 := hide ((Box.new w (.mk 24 x m p l) (.slice a n c) 24).kept hg1)
    obtain ⟨b0_1, b1_1, b2_1, b3_1, b4_1⟩ := B1.out
    go_wp2_with fail
    go_ret
    exact ⟨rfl, G1.out⟩
  · obtain ⟨a, c, rfl, hc, hl⟩ := ha.zero (head_len (n := 0) h0)
    change l = [] at hl
    subst hl
    clear hk hf ha
    rw [show wellB .designator (.mk 24 x m p []) = true by rw [HE, h0]; simp []]
    clear HE
    go_enter Tryz.func71, Tryz.ntmps71
    go_wp2_with fail
    go_at_call 16
    refine (head_any (.mk 24 x m p []) _ 24 0 0 true _ (HK.out.kept (by repeat (first | with_reducible exact gb_refl w none | with_reducible refine gb_put ?_ (by omega) _ _ | with_reducible refine gb_alloc ?_ _ | with_reducible refine gb_drewN ?_ _ | with_reducible refine gb_drew ?_))) HF.out (HA.out.kept (by repeat (first | with_reducible exact gb_refl w none | with_reducible refine gb_put ?_ (by omega) _ _ | with_reducible refine gb_alloc ?_ _ | with_reducible refine gb_drewN ?_ _ | with_reducible refine gb_drew ?_)))).mono ?_
    rintro e w1 ⟨rfl, hg1⟩
    rw [h0]
    have G1 : Hid (w.grownBy w1 none) := gb_trans (gb_alloc (gb_refl w none) _) hg1
    have B1 := hide ((Box.new w (.mk 24 x m p []) (.slice a 0 c) 24).kept hg1)
    obtain ⟨b0_1, b1_1, b2_1, b3_1, b4_1⟩ := B1.out
    go_wp2_with fail
    go_ret
    exact ⟨rfl, G1.out⟩
set_option maxRecDepth 1000000 in
set_option maxHeartbeats 1000000 in
theorem desig25 (x : List UInt8) (m p : Int) (l : List T) (sv : Value) (w : World) (hk : KW w) (hf : Fits (.mk 25 x m p l)) (ha : AT w (T.mk 25 x m p l).subs sv) (IH : ∀ u, u ∈ l → ShOK u) :
    Calls Tryz.prog 71 #[.agg #[.int .i64 25, .string ⟨x.toArray⟩, .int .i64 m, .int .i64 p, sv]] w (Sy w (.bool (wellB .designator (.mk 25 x m p l)))) := by
  have HE := wellB_only (r := .designator) (t := (.mk 25 x m p l)) (c := headB (.mk 25 x m p l) 25 true 0 1) (l := zipR l [.designator]) rfl
  have HK := hide hk
  have HF := hide hf
  have HA := hide ha
  cases h0 : headB (.mk 25 x m p l) 25 true 0 1
  · rw [show wellB .designator (.mk 25 x m p l) = false by rw [HE, h0]; rfl]
    clear HE
    obtain ⟨a, n, c, rfl, hn, hc, hl⟩ := ha.any
    clear hk hf ha IH
    go_enter Tryz.func71, Tryz.ntmps71
    go_wp2_with fail
    go_at_call 16
    refine (head_any (.mk 25 x m p l) _ 25 0 1 true _ (HK.out.kept (by repeat (first | with_reducible exact gb_refl w none | with_reducible refine gb_put ?_ (by omega) _ _ | with_reducible refine gb_alloc ?_ _ | with_reducible refine gb_drewN ?_ _ | with_reducible refine gb_drew ?_))) HF.out (HA.out.kept (by repeat (first | with_reducible exact gb_refl w none | with_reducible refine gb_put ?_ (by omega) _ _ | with_reducible refine gb_alloc ?_ _ | with_reducible refine gb_drewN ?_ _ | with_reducible refine gb_drew ?_)))).mono ?_
    rintro e w1 ⟨rfl, hg1⟩
    rw [h0]
    have G1 : Hid (w.grownBy w1 none) := gb_trans (gb_alloc (gb_refl w none) _) hg1
    have B1 := hide ((Box.new w (.mk 25 x m p l) (.slice a n c) 24).kept hg1)
    obtain ⟨b0_1, b1_1, b2_1, b3_1, b4_1⟩ := B1.out
    go_wp2_with fail
    go_ret
    exact ⟨rfl, G1.out⟩
  · obtain ⟨g, o, c, u, su, rfl, hn, hc, hl, n5, fu, au⟩ := ha.one (head_len (n := 1) h0)
    change l = [u] at hl
    subst hl
    have N0 := hide n5
    have HU := hide fu
    have AU := hide au
    have IU := hide (IH u (by simp))
    clear IH
    clear hk hf ha fu au n5
    cases h1 : wellB .designator u
    · skip
      rw [show wellB .designator (.mk 25 x m p [u]) = false by rw [HE, h0]; simp [zipR, h1]]
      clear HE
      go_enter Tryz.func71, Tryz.ntmps71
      go_wp2_with fail
      go_at_call 16
      refine (head_any (.mk 25 x m p [u]) _ 25 0 1 true _ (HK.out.kept (by repeat (first | with_reducible exact gb_refl w none | with_reducible refine gb_put ?_ (by omega) _ _ | with_reducible refine gb_alloc ?_ _ | with_reducible refine gb_drewN ?_ _ | with_reducible refine gb_drew ?_))) HF.out (HA.out.kept (by repeat (first | with_reducible exact gb_refl w none | with_reducible refine gb_put ?_ (by omega) _ _ | with_reducible refine gb_alloc ?_ _ | with_reducible refine gb_drewN ?_ _ | with_reducible refine gb_drew ?_)))).mono ?_
      rintro e w1 ⟨rfl, hg1⟩
      rw [h0]
      have G1 : Hid (w.grownBy w1 none) := gb_trans (gb_alloc (gb_refl w none) _) hg1
      have B1 := hide ((Box.new w (.mk 25 x m p [u]) (.slice (some ⟨g, o, none⟩) 1 c) 24).kept hg1)
      obtain ⟨b0_1, b1_1, b2_1, b3_1, b4_1⟩ := B1.out
      obtain ⟨c0_1_0, c1_1_0, c2_1_0, c3_1_0, c4_1_0⟩ := N0.out.kept G1.out
      go_wp2_with fail
      go_at_call 71
      refine (IU.out.desig _ _ (HK.out.kept G1.out) HU.out (AU.out.kept G1.out)).mono ?_
      rintro e w2 ⟨rfl, hg2⟩
      rw [h1]
      have G2 : Hid (w.grownBy w2 none) := gb_trans G1.out hg2
      have B2 := hide (B1.out.kept hg2)
      obtain ⟨b0_2, b1_2, b2_2, b3_2, b4_2⟩ := B2.out
      obtain ⟨c0_2_0, c1_2_0, c2_2_0, c3_2_0, c4_2_0⟩ := N0.out.kept G2.out
      go_wp2_with fail
      go_ret
      exact ⟨rfl, G2.out⟩
    · skip
      rw [show wellB .designator (.mk 25 x m p [u]) = true by rw [HE, h0]; simp [zipR, h1]]
      clear HE
      go_enter Tryz.func71, Tryz.ntmps71
      go_wp2_with fail
      go_at_call 16
      refine (head_any (.mk 25 x m p [u]) _ 25 0 1 true _ (HK.out.kept (by repeat (first | with_reducible exact gb_refl w none | with_reducible refine gb_put ?_ (by omega) _ _ | with_reducible refine gb_alloc ?_ _ | with_reducible refine gb_drewN ?_ _ | with_reducible refine gb_drew ?_))) HF.out (HA.out.kept (by repeat (first | with_reducible exact gb_refl w none | with_reducible refine gb_put ?_ (by omega) _ _ | with_reducible refine gb_alloc ?_ _ | with_reducible refine gb_drewN ?_ _ | with_reducible refine gb_drew ?_)))).mono ?_
      rintro e w1 ⟨rfl, hg1⟩
      rw [h0]
      have G1 : Hid (w.grownBy w1 none) := gb_trans (gb_alloc (gb_refl w none) _) hg1
      have B1 := hide ((Box.new w (.mk 25 x m p [u]) (.slice (some ⟨g, o, none⟩) 1 c) 24).kept hg1)
      obtain ⟨b0_1, b1_1, b2_1, b3_1, b4_1⟩ := B1.out
      obtain ⟨c0_1_0, c1_1_0, c2_1_0, c3_1_0, c4_1_0⟩ := N0.out.kept G1.out
      go_wp2_with fail
      go_at_call 71
      refine (IU.out.desig _ _ (HK.out.kept G1.out) HU.out (AU.out.kept G1.out)).mono ?_
      rintro e w2 ⟨rfl, hg2⟩
      rw [h1]
      have G2 : Hid (w.grownBy w2 none) := gb_trans G1.out hg2
      have B2 := hide (B1.out.kept hg2)
      obtain ⟨b0_2, b1_2, b2_2, b3_2, b4_2⟩ := B2.out
      obtain ⟨c0_2_0, c1_2_0, c2_2_0, c3_2_0, c4_2_0⟩ := N0.out.kept G2.out
      go_wp2_with fail
      go_ret
      exact ⟨rfl, G2.out⟩
set_option maxRecDepth 1000000 in
set_option maxHeartbeats 1000000 in
theorem desig27 (x : List UInt8) (m p : Int) (l : List T) (sv : Value) (w : World) (hk : KW w) (hf : Fits (.mk 27 x m p l)) (ha : AT w (T.mk 27 x m p l).subs sv) (IH : ∀ u, u ∈ l → ShOK u) :
    Calls Tryz.prog 71 #[.agg #[.int .i64 27, .string ⟨x.toArray⟩, .int .i64 m, .int .i64 p, sv]] w (Sy w (.bool (wellB .designator (.mk 27 x m p l)))) := by
  have HE := wellB_only (r := .designator) (t := (.mk 27 x m p l)) (c := headB (.mk 27 x m p l) 27 false 0 1) (l := zipR l [.designator]) rfl
  have HK := hide hk
  have HF := hide hf
  have HA := hide ha
  cases h0 : headB (.mk 27 x m p l) 27 false 0 1
  · rw [show wellB .designator (.mk 27 x m p l) = false by rw [HE, h0]; rfl]
    clear HE
    obtain ⟨a, n, c, rfl, hn, hc, hl⟩ := ha.any
    clear hk hf ha IH
    go_enter Tryz.func71, Tryz.ntmps71
    go_wp2_with fail
    go_at_call 16
    refine (head_any (.mk 27 x m p l) _ 27 0 1 false _ (HK.out.kept (by repeat (first | with_reducible exact gb_refl w none | with_reducible refine gb_put ?_ (by omega) _ _ | with_reducible refine gb_alloc ?_ _ | with_reducible refine gb_drewN ?_ _ | with_reducible refine gb_drew ?_))) HF.out (HA.out.kept (by repeat (first | with_reducible exact gb_refl w none | with_reducible refine gb_put ?_ (by omega) _ _ | with_reducible refine gb_alloc ?_ _ | with_reducible refine gb_drewN ?_ _ | with_reducible refine gb_drew ?_)))).mono ?_
    rintro e w1 ⟨rfl, hg1⟩
    rw [h0]
    have G1 : Hid (w.grownBy w1 none) := gb_trans (gb_alloc (gb_refl w none) _) hg1
    have B1 := hide ((Box.new w (.mk 27 x m p l) (.slice a n c) 24).kept hg1)
    obtain ⟨b0_1, b1_1, b2_1, b3_1, b4_1⟩ := B1.out
    go_wp2_with fail
    go_ret
    exact ⟨rfl, G1.out⟩
  · obtain ⟨g, o, c, u, su, rfl, hn, hc, hl, n5, fu, au⟩ := ha.one (head_len (n := 1) h0)
    change l = [u] at hl
    subst hl
    have N0 := hide n5
    have HU := hide fu
    have AU := hide au
    have IU := hide (IH u (by simp))
    clear IH
    clear hk hf ha fu au n5
    cases h1 : wellB .designator u
    · skip
      rw [show wellB .designator (.mk 27 x m p [u]) = false by rw [HE, h0]; simp [zipR, h1]]
      clear HE
      go_enter Tryz.func71, Tryz.ntmps71
      go_wp2_with fail
      go_at_call 16
      refine (head_any (.mk 27 x m p [u]) _ 27 0 1 false _ (HK.out.kept (by repeat (first | with_reducible exact gb_refl w none | with_reducible refine gb_put ?_ (by omega) _ _ | with_reducible refine gb_alloc ?_ _ | with_reducible refine gb_drewN ?_ _ | with_reducible refine gb_drew ?_))) HF.out (HA.out.kept (by repeat (first | with_reducible exact gb_refl w none | with_reducible refine gb_put ?_ (by omega) _ _ | with_reducible refine gb_alloc ?_ _ | with_reducible refine gb_drewN ?_ _ | with_reducible refine gb_drew ?_)))).mono ?_
      rintro e w1 ⟨rfl, hg1⟩
      rw [h0]
      have G1 : Hid (w.grownBy w1 none) := gb_trans (gb_alloc (gb_refl w none) _) hg1
      have B1 := hide ((Box.new w (.mk 27 x m p [u]) (.slice (some ⟨g, o, none⟩) 1 c) 24).kept hg1)
      obtain ⟨b0_1, b1_1, b2_1, b3_1, b4_1⟩ := B1.out
      obtain ⟨c0_1_0, c1_1_0, c2_1_0, c3_1_0, c4_1_0⟩ := N0.out.kept G1.out
      go_wp2_with fail
      go_at_call 71
      refine (IU.out.desig _ _ (HK.out.kept G1.out) HU.out (AU.out.kept G1.out)).mono ?_
      rintro e w2 ⟨rfl, hg2⟩
      rw [h1]
      have G2 : Hid (w.grownBy w2 none) := gb_trans G1.out hg2
      have B2 := hide (B1.out.kept hg2)
      obtain ⟨b0_2, b1_2, b2_2, b3_2, b4_2⟩ := B2.out
      obtain ⟨c0_2_0, c1_2_0, c2_2_0, c3_2_0, c4_2_0⟩ := N0.out.kept G2.out
      go_wp2_with fail
      go_ret
      exact ⟨rfl, G2.out⟩
    · skip
      rw [show wellB .designator (.mk 27 x m p [u]) = true by rw [HE, h0]; simp [zipR, h1]]
      clear HE
      go_enter Tryz.func71, Tryz.ntmps71
      go_wp2_with fail
      go_at_call 16
      refine (head_any (.mk 27 x m p [u]) _ 27 0 1 false _ (HK.out.kept (by repeat (first | with_reducible exact gb_refl w none | with_reducible refine gb_put ?_ (by omega) _ _ | with_reducible refine gb_alloc ?_ _ | with_reducible refine gb_drewN ?_ _ | with_reducible refine gb_drew ?_))) HF.out (HA.out.kept (by repeat (first | with_reducible exact gb_refl w none | with_reducible refine gb_put ?_ (by omega) _ _ | with_reducible refine gb_alloc ?_ _ | with_reducible refine gb_drewN ?_ _ | with_reducible refine gb_drew ?_)))).mono ?_
      rintro e w1 ⟨rfl, hg1⟩
      rw [h0]
      have G1 : Hid (w.grownBy w1 none) := gb_trans (gb_alloc (gb_refl w none) _) hg1
      have B1 := hide ((Box.new w (.mk 27 x m p [u]) (.slice (some ⟨g, o, none⟩) 1 c) 24).kept hg1)
      obtain ⟨b0_1, b1_1, b2_1, b3_1, b4_1⟩ := B1.out
      obtain ⟨c0_1_0, c1_1_0, c2_1_0, c3_1_0, c4_1_0⟩ := N0.out.kept G1.out
      go_wp2_with fail
      go_at_call 71
      refine (IU.out.desig _ _ (HK.out.kept G1.out) HU.out (AU.out.kept G1.out)).mono ?_
      rintro e w2 ⟨rfl, hg2⟩
      rw [h1]
      have G2 : Hid (w.grownBy w2 none) := gb_trans G1.out hg2
      have B2 := hide (B1.out.kept hg2)
      obtain ⟨b0_2, b1_2, b2_2, b3_2, b4_2⟩ := B2.out
      obtain ⟨c0_2_0, c1_2_0, c2_2_0, c3_2_0, c4_2_0⟩ := N0.out.kept G2.out
      go_wp2_with fail
      go_ret
      exact ⟨rfl, G2.out⟩
set_option maxRecDepth 1000000 in
set_option maxHeartbeats 1000000 in
theorem desig26 (x : List UInt8) (m p : Int) (l : List T) (sv : Value) (w : World) (hk : KW w) (hf : Fits (.mk 26 x m p l)) (ha : AT w (T.mk 26 x m p l).subs sv) (IH : ∀ u, u ∈ l → ShOK u) :
    Calls Tryz.prog 71 #[.agg #[.int .i64 26, .string ⟨x.toArray⟩, .int .i64 m, .int .i64 p, sv]] w (Sy w (.bool (wellB .designator (.mk 26 x m p l)))) := by
  have HE := wellB_only (r := .designator) (t := (.mk 26 x m p l)) (c := headB (.mk 26 x m p l) 26 false 0 2) (l := zipR l [.designator, .expression]) rfl
  have HK := hide hk
  have HF := hide hf
  have HA := hide ha
  cases h0 : headB (.mk 26 x m p l) 26 false 0 2
  · rw [show wellB .designator (.mk 26 x m p l) = false by rw [HE, h0]; rfl]
    clear HE
    obtain ⟨a, n, c, rfl, hn, hc, hl⟩ := ha.any
    clear hk hf ha IH
    go_enter Tryz.func71, Tryz.ntmps71
    go_wp2_with fail
    go_at_call 16
    refine (head_any (.mk 26 x m p l) _ 26 0 2 false _ (HK.out.kept (by repeat (first | with_reducible exact gb_refl w none | with_reducible refine gb_put ?_ (by omega) _ _ | with_reducible refine gb_alloc ?_ _ | with_reducible refine gb_drewN ?_ _ | with_reducible refine gb_drew ?_))) HF.out (HA.out.kept (by repeat (first | with_reducible exact gb_refl w none | with_reducible refine gb_put ?_ (by omega) _ _ | with_reducible refine gb_alloc ?_ _ | with_reducible refine gb_drewN ?_ _ | with_reducible refine gb_drew ?_)))).mono ?_
    rintro e w1 ⟨rfl, hg1⟩
    rw [h0]
    have G1 : Hid (w.grownBy w1 none) := gb_trans (gb_alloc (gb_refl w none) _) hg1
    have B1 := hide ((Box.new w (.mk 26 x m p l) (.slice a n c) 24).kept hg1)
    obtain ⟨b0_1, b1_1, b2_1, b3_1, b4_1⟩ := B1.out
    go_wp2_with fail
    go_ret
    exact ⟨rfl, G1.out⟩
  · obtain ⟨g, o, c, u, su, v, sw, rfl, hn, hc, hl, n5, fu, au, n6, fv, av⟩ := ha.two (head_len (n := 2) h0)
    change l = [u, v] at hl
    subst hl
    have N0 := hide n5
    have HU := hide fu
    have AU := hide au
    have N1 := hide n6
    have HV := hide fv
    have AV := hide av
    have IU := hide (IH u (by simp))
    have IV := hide (IH v (by simp))
    clear IH
    clear hk hf ha fu au n5 fv av n6
    cases h1 : wellB .designator u
    · skip
      rw [show wellB .designator (.mk 26 x m p [u, v]) = false by rw [HE, h0]; simp [zipR, h1]]
      clear HE
      go_enter Tryz.func71, Tryz.ntmps71
      go_wp2_with fail
      go_at_call 16
      refine (head_any (.mk 26 x m p [u, v]) _ 26 0 2 false _ (HK.out.kept (by repeat (first | with_reducible exact gb_refl w none | with_reducible refine gb_put ?_ (by omega) _ _ | with_reducible refine gb_alloc ?_ _ | with_reducible refine gb_drewN ?_ _ | with_reducible refine gb_drew ?_))) HF.out (HA.out.kept (by repeat (first | with_reducible exact gb_refl w none | with_reducible refine gb_put ?_ (by omega) _ _ | with_reducible refine gb_alloc ?_ _ | with_reducible refine gb_drewN ?_ _ | with_reducible refine gb_drew ?_)))).mono ?_
      rintro e w1 ⟨rfl, hg1⟩
      rw [h0]
      have G1 : Hid (w.grownBy w1 none) := gb_trans (gb_alloc (gb_refl w none) _) hg1
      have B1 := hide ((Box.new w (.mk 26 x m p [u, v]) (.slice (some ⟨g, o, none⟩) 2 c) 24).kept hg1)
      obtain ⟨b0_1, b1_1, b2_1, b3_1, b4_1⟩ := B1.out
      obtain ⟨c0_1_0, c1_1_0, c2_1_0, c3_1_0, c4_1_0⟩ := N0.out.kept G1.out
      obtain ⟨c0_1_1, c1_1_1, c2_1_1, c3_1_1, c4_1_1⟩ := N1.out.kept G1.out
      go_wp2_with fail
      go_at_call 71
      refine (IU.out.desig _ _ (HK.out.kept G1.out) HU.out (AU.out.kept G1.out)).mono ?_
      rintro e w2 ⟨rfl, hg2⟩
      rw [h1]
      have G2 : Hid (w.grownBy w2 none) := gb_trans G1.out hg2
      have B2 := hide (B1.out.kept hg2)
      obtain ⟨b0_2, b1_2, b2_2, b3_2, b4_2⟩ := B2.out
      obtain ⟨c0_2_0, c1_2_0, c2_2_0, c3_2_0, c4_2_0⟩ := N0.out.kept G2.out
      obtain ⟨c0_2_1, c1_2_1, c2_2_1, c3_2_1, c4_2_1⟩ := N1.out.kept G2.out
      go_wp2_with fail
      go_ret
      exact ⟨rfl, G2.out⟩
    · skip
      cases h2 : wellB .expression v
      · skip
        rw [show wellB .designator (.mk 26 x m p [u, v]) = false by rw [HE, h0]; simp [zipR, h1, h2]]
        clear HE
        go_enter Tryz.func71, Tryz.ntmps71
        go_wp2_with fail
        go_at_call 16
        refine (head_any (.mk 26 x m p [u, v]) _ 26 0 2 false _ (HK.out.kept (by repeat (first | with_reducible exact gb_refl w none | with_reducible refine gb_put ?_ (by omega) _ _ | with_reducible refine gb_alloc ?_ _ | with_reducible refine gb_drewN ?_ _ | with_reducible refine gb_drew ?_))) HF.out (HA.out.kept (by repeat (first | with_reducible exact gb_refl w none | with_reducible refine gb_put ?_ (by omega) _ _ | with_reducible refine gb_alloc ?_ _ | with_reducible refine gb_drewN ?_ _ | with_reducible refine gb_drew ?_)))).mono ?_
        rintro e w1 ⟨rfl, hg1⟩
        rw [h0]
        have G1 : Hid (w.grownBy w1 none) := gb_trans (gb_alloc (gb_refl w none) _) hg1
        have B1 := hide ((Box.new w (.mk 26 x m p [u, v]) (.slice (some ⟨g, o, none⟩) 2 c) 24).kept hg1)
        obtain ⟨b0_1, b1_1, b2_1, b3_1, b4_1⟩ := B1.out
        obtain ⟨c0_1_0, c1_1_0, c2_1_0, c3_1_0, c4_1_0⟩ := N0.out.kept G1.out
        obtain ⟨c0_1_1, c1_1_1, c2_1_1, c3_1_1, c4_1_1⟩ := N1.out.kept G1.out
        go_wp2_with fail
        go_at_call 71
        refine (IU.out.desig _ _ (HK.out.kept G1.out) HU.out (AU.out.kept G1.out)).mono ?_
        rintro e w2 ⟨rfl, hg2⟩
        rw [h1]
        have G2 : Hid (w.grownBy w2 none) := gb_trans G1.out hg2
        have B2 := hide (B1.out.kept hg2)
        obtain ⟨b0_2, b1_2, b2_2, b3_2, b4_2⟩ := B2.out
        obtain ⟨c0_2_0, c1_2_0, c2_2_0, c3_2_0, c4_2_0⟩ := N0.out.kept G2.out
        obtain ⟨c0_2_1, c1_2_1, c2_2_1, c3_2_1, c4_2_1⟩ := N1.out.kept G2.out
        go_wp2_with fail
        go_at_call 37
        refine (IV.out.expr _ _ (HK.out.kept G2.out) HV.out (AV.out.kept G2.out)).mono ?_
        rintro e w3 ⟨rfl, hg3⟩
        rw [h2]
        have G3 : Hid (w.grownBy w3 none) := gb_trans G2.out hg3
        have B3 := hide (B2.out.kept hg3)
        obtain ⟨b0_3, b1_3, b2_3, b3_3, b4_3⟩ := B3.out
        obtain ⟨c0_3_0, c1_3_0, c2_3_0, c3_3_0, c4_3_0⟩ := N0.out.kept G3.out
        obtain ⟨c0_3_1, c1_3_1, c2_3_1, c3_3_1, c4_3_1⟩ := N1.out.kept G3.out
        go_wp2_with fail
        go_ret
        exact ⟨rfl, G3.out⟩
      · skip
        rw [show wellB .designator (.mk 26 x m p [u, v]) = true by rw [HE, h0]; simp [zipR, h1, h2]]
        clear HE
        go_enter Tryz.func71, Tryz.ntmps71
        go_wp2_with fail
        go_at_call 16
        refine (head_any (.mk 26 x m p [u, v]) _ 26 0 2 false _ (HK.out.kept (by repeat (first | with_reducible exact gb_refl w none | with_reducible refine gb_put ?_ (by omega) _ _ | with_reducible refine gb_alloc ?_ _ | with_reducible refine gb_drewN ?_ _ | with_reducible refine gb_drew ?_))) HF.out (HA.out.kept (by repeat (first | with_reducible exact gb_refl w none | with_reducible refine gb_put ?_ (by omega) _ _ | with_reducible refine gb_alloc ?_ _ | with_reducible refine gb_drewN ?_ _ | with_reducible refine gb_drew ?_)))).mono ?_
        rintro e w1 ⟨rfl, hg1⟩
        rw [h0]
        have G1 : Hid (w.grownBy w1 none) := gb_trans (gb_alloc (gb_refl w none) _) hg1
        have B1 := hide ((Box.new w (.mk 26 x m p [u, v]) (.slice (some ⟨g, o, none⟩) 2 c) 24).kept hg1)
        obtain ⟨b0_1, b1_1, b2_1, b3_1, b4_1⟩ := B1.out
        obtain ⟨c0_1_0, c1_1_0, c2_1_0, c3_1_0, c4_1_0⟩ := N0.out.kept G1.out
        obtain ⟨c0_1_1, c1_1_1, c2_1_1, c3_1_1, c4_1_1⟩ := N1.out.kept G1.out
        go_wp2_with fail
        go_at_call 71
        refine (IU.out.desig _ _ (HK.out.kept G1.out) HU.out (AU.out.kept G1.out)).mono ?_
        rintro e w2 ⟨rfl, hg2⟩
        rw [h1]
        have G2 : Hid (w.grownBy w2 none) := gb_trans G1.out hg2
        have B2 := hide (B1.out.kept hg2)
        obtain ⟨b0_2, b1_2, b2_2, b3_2, b4_2⟩ := B2.out
        obtain ⟨c0_2_0, c1_2_0, c2_2_0, c3_2_0, c4_2_0⟩ := N0.out.kept G2.out
        obtain ⟨c0_2_1, c1_2_1, c2_2_1, c3_2_1, c4_2_1⟩ := N1.out.kept G2.out
        go_wp2_with fail
        go_at_call 37
        refine (IV.out.expr _ _ (HK.out.kept G2.out) HV.out (AV.out.kept G2.out)).mono ?_
        rintro e w3 ⟨rfl, hg3⟩
        rw [h2]
        have G3 : Hid (w.grownBy w3 none) := gb_trans G2.out hg3
        have B3 := hide (B2.out.kept hg3)
        obtain ⟨b0_3, b1_3, b2_3, b3_3, b4_3⟩ := B3.out
        obtain ⟨c0_3_0, c1_3_0, c2_3_0, c3_3_0, c4_3_0⟩ := N0.out.kept G3.out
        obtain ⟨c0_3_1, c1_3_1, c2_3_1, c3_3_1, c4_3_1⟩ := N1.out.kept G3.out
        go_wp2_with fail
        go_ret
        exact ⟨rfl, G3.out⟩
set_option maxRecDepth 1000000 in
set_option maxHeartbeats 1000000 in
theorem desig28 (x : List UInt8) (m p : Int) (l : List T) (sv : Value) (w : World) (hk : KW w) (hf : Fits (.mk 28 x m p l)) (ha : AT w (T.mk 28 x m p l).subs sv) (IH : ∀ u, u ∈ l → ShOK u) :
    Calls Tryz.prog 71 #[.agg #[.int .i64 28, .string ⟨x.toArray⟩, .int .i64 m, .int .i64 p, sv]] w (Sy w (.bool (wellB .designator (.mk 28 x m p l)))) := by
  have HE := wellB_only (r := .designator) (t := (.mk 28 x m p l)) (c := headB (.mk 28 x m p l) 28 false 0 2) (l := zipR l [.designator, .typeName]) rfl
  have HK := hide hk
  have HF := hide hf
  have HA := hide ha
  cases h0 : headB (.mk 28 x m p l) 28 false 0 2
  · rw [show wellB .designator (.mk 28 x m p l) = false by rw [HE, h0]; rfl]
    clear HE
    obtain ⟨a, n, c, rfl, hn, hc, hl⟩ := ha.any
    clear hk hf ha IH
    go_enter Tryz.func71, Tryz.ntmps71
    go_wp2_with fail
    go_at_call 16
    refine (head_any (.mk 28 x m p l) _ 28 0 2 false _ (HK.out.kept (by repeat (first | with_reducible exact gb_refl w none | with_reducible refine gb_put ?_ (by omega) _ _ | with_reducible refine gb_alloc ?_ _ | with_reducible refine gb_drewN ?_ _ | with_reducible refine gb_drew ?_))) HF.out (HA.out.kept (by repeat (first | with_reducible exact gb_refl w none | with_reducible refine gb_put ?_ (by omega) _ _ | with_reducible refine gb_alloc ?_ _ | with_reducible refine gb_drewN ?_ _ | with_reducible refine gb_drew ?_)))).mono ?_
    rintro e w1 ⟨rfl, hg1⟩
    rw [h0]
    have G1 : Hid (w.grownBy w1 none) := gb_trans (gb_alloc (gb_refl w none) _) hg1
    have B1 := hide ((Box.new w (.mk 28 x m p l) (.slice a n c) 24).kept hg1)
    obtain ⟨b0_1, b1_1, b2_1, b3_1, b4_1⟩ := B1.out
    go_wp2_with fail
    go_ret
    exact ⟨rfl, G1.out⟩
  · obtain ⟨g, o, c, u, su, v, sw, rfl, hn, hc, hl, n5, fu, au, n6, fv, av⟩ := ha.two (head_len (n := 2) h0)
    change l = [u, v] at hl
    subst hl
    have N0 := hide n5
    have HU := hide fu
    have AU := hide au
    have N1 := hide n6
    have HV := hide fv
    have AV := hide av
    have IU := hide (IH u (by simp))
    have IV := hide (IH v (by simp))
    clear IH
    clear hk hf ha fu au n5 fv av n6
    cases h1 : wellB .designator u
    · skip
      rw [show wellB .designator (.mk 28 x m p [u, v]) = false by rw [HE, h0]; simp [zipR, h1]]
      clear HE
      go_enter Tryz.func71, Tryz.ntmps71
      go_wp2_with fail
      go_at_call 16
      refine (head_any (.mk 28 x m p [u, v]) _ 28 0 2 false _ (HK.out.kept (by repeat (first | with_reducible exact gb_refl w none | with_reducible refine gb_put ?_ (by omega) _ _ | with_reducible refine gb_alloc ?_ _ | with_reducible refine gb_drewN ?_ _ | with_reducible refine gb_drew ?_))) HF.out (HA.out.kept (by repeat (first | with_reducible exact gb_refl w none | with_reducible refine gb_put ?_ (by omega) _ _ | with_reducible refine gb_alloc ?_ _ | with_reducible refine gb_drewN ?_ _ | with_reducible refine gb_drew ?_)))).mono ?_
      rintro e w1 ⟨rfl, hg1⟩
      rw [h0]
      have G1 : Hid (w.grownBy w1 none) := gb_trans (gb_alloc (gb_refl w none) _) hg1
      have B1 := hide ((Box.new w (.mk 28 x m p [u, v]) (.slice (some ⟨g, o, none⟩) 2 c) 24).kept hg1)
      obtain ⟨b0_1, b1_1, b2_1, b3_1, b4_1⟩ := B1.out
      obtain ⟨c0_1_0, c1_1_0, c2_1_0, c3_1_0, c4_1_0⟩ := N0.out.kept G1.out
      obtain ⟨c0_1_1, c1_1_1, c2_1_1, c3_1_1, c4_1_1⟩ := N1.out.kept G1.out
      go_wp2_with fail
      go_at_call 71
      refine (IU.out.desig _ _ (HK.out.kept G1.out) HU.out (AU.out.kept G1.out)).mono ?_
      rintro e w2 ⟨rfl, hg2⟩
      rw [h1]
      have G2 : Hid (w.grownBy w2 none) := gb_trans G1.out hg2
      have B2 := hide (B1.out.kept hg2)
      obtain ⟨b0_2, b1_2, b2_2, b3_2, b4_2⟩ := B2.out
      obtain ⟨c0_2_0, c1_2_0, c2_2_0, c3_2_0, c4_2_0⟩ := N0.out.kept G2.out
      obtain ⟨c0_2_1, c1_2_1, c2_2_1, c3_2_1, c4_2_1⟩ := N1.out.kept G2.out
      go_wp2_with fail
      go_ret
      exact ⟨rfl, G2.out⟩
    · skip
      cases h2 : wellB .typeName v
      · skip
        rw [show wellB .designator (.mk 28 x m p [u, v]) = false by rw [HE, h0]; simp [zipR, h1, h2]]
        clear HE
        go_enter Tryz.func71, Tryz.ntmps71
        go_wp2_with fail
        go_at_call 16
        refine (head_any (.mk 28 x m p [u, v]) _ 28 0 2 false _ (HK.out.kept (by repeat (first | with_reducible exact gb_refl w none | with_reducible refine gb_put ?_ (by omega) _ _ | with_reducible refine gb_alloc ?_ _ | with_reducible refine gb_drewN ?_ _ | with_reducible refine gb_drew ?_))) HF.out (HA.out.kept (by repeat (first | with_reducible exact gb_refl w none | with_reducible refine gb_put ?_ (by omega) _ _ | with_reducible refine gb_alloc ?_ _ | with_reducible refine gb_drewN ?_ _ | with_reducible refine gb_drew ?_)))).mono ?_
        rintro e w1 ⟨rfl, hg1⟩
        rw [h0]
        have G1 : Hid (w.grownBy w1 none) := gb_trans (gb_alloc (gb_refl w none) _) hg1
        have B1 := hide ((Box.new w (.mk 28 x m p [u, v]) (.slice (some ⟨g, o, none⟩) 2 c) 24).kept hg1)
        obtain ⟨b0_1, b1_1, b2_1, b3_1, b4_1⟩ := B1.out
        obtain ⟨c0_1_0, c1_1_0, c2_1_0, c3_1_0, c4_1_0⟩ := N0.out.kept G1.out
        obtain ⟨c0_1_1, c1_1_1, c2_1_1, c3_1_1, c4_1_1⟩ := N1.out.kept G1.out
        go_wp2_with fail
        go_at_call 71
        refine (IU.out.desig _ _ (HK.out.kept G1.out) HU.out (AU.out.kept G1.out)).mono ?_
        rintro e w2 ⟨rfl, hg2⟩
        rw [h1]
        have G2 : Hid (w.grownBy w2 none) := gb_trans G1.out hg2
        have B2 := hide (B1.out.kept hg2)
        obtain ⟨b0_2, b1_2, b2_2, b3_2, b4_2⟩ := B2.out
        obtain ⟨c0_2_0, c1_2_0, c2_2_0, c3_2_0, c4_2_0⟩ := N0.out.kept G2.out
        obtain ⟨c0_2_1, c1_2_1, c2_2_1, c3_2_1, c4_2_1⟩ := N1.out.kept G2.out
        go_wp2_with fail
        go_at_call 39
        refine (nameShaped_any _ _ _ (HK.out.kept G2.out) HV.out (AV.out.kept G2.out)).mono ?_
        rintro e w3 ⟨rfl, hg3⟩
        rw [h2]
        have G3 : Hid (w.grownBy w3 none) := gb_trans G2.out hg3
        have B3 := hide (B2.out.kept hg3)
        obtain ⟨b0_3, b1_3, b2_3, b3_3, b4_3⟩ := B3.out
        obtain ⟨c0_3_0, c1_3_0, c2_3_0, c3_3_0, c4_3_0⟩ := N0.out.kept G3.out
        obtain ⟨c0_3_1, c1_3_1, c2_3_1, c3_3_1, c4_3_1⟩ := N1.out.kept G3.out
        go_wp2_with fail
        go_ret
        exact ⟨rfl, G3.out⟩
      · skip
        rw [show wellB .designator (.mk 28 x m p [u, v]) = true by rw [HE, h0]; simp [zipR, h1, h2]]
        clear HE
        go_enter Tryz.func71, Tryz.ntmps71
        go_wp2_with fail
        go_at_call 16
        refine (head_any (.mk 28 x m p [u, v]) _ 28 0 2 false _ (HK.out.kept (by repeat (first | with_reducible exact gb_refl w none | with_reducible refine gb_put ?_ (by omega) _ _ | with_reducible refine gb_alloc ?_ _ | with_reducible refine gb_drewN ?_ _ | with_reducible refine gb_drew ?_))) HF.out (HA.out.kept (by repeat (first | with_reducible exact gb_refl w none | with_reducible refine gb_put ?_ (by omega) _ _ | with_reducible refine gb_alloc ?_ _ | with_reducible refine gb_drewN ?_ _ | with_reducible refine gb_drew ?_)))).mono ?_
        rintro e w1 ⟨rfl, hg1⟩
        rw [h0]
        have G1 : Hid (w.grownBy w1 none) := gb_trans (gb_alloc (gb_refl w none) _) hg1
        have B1 := hide ((Box.new w (.mk 28 x m p [u, v]) (.slice (some ⟨g, o, none⟩) 2 c) 24).kept hg1)
        obtain ⟨b0_1, b1_1, b2_1, b3_1, b4_1⟩ := B1.out
        obtain ⟨c0_1_0, c1_1_0, c2_1_0, c3_1_0, c4_1_0⟩ := N0.out.kept G1.out
        obtain ⟨c0_1_1, c1_1_1, c2_1_1, c3_1_1, c4_1_1⟩ := N1.out.kept G1.out
        go_wp2_with fail
        go_at_call 71
        refine (IU.out.desig _ _ (HK.out.kept G1.out) HU.out (AU.out.kept G1.out)).mono ?_
        rintro e w2 ⟨rfl, hg2⟩
        rw [h1]
        have G2 : Hid (w.grownBy w2 none) := gb_trans G1.out hg2
        have B2 := hide (B1.out.kept hg2)
        obtain ⟨b0_2, b1_2, b2_2, b3_2, b4_2⟩ := B2.out
        obtain ⟨c0_2_0, c1_2_0, c2_2_0, c3_2_0, c4_2_0⟩ := N0.out.kept G2.out
        obtain ⟨c0_2_1, c1_2_1, c2_2_1, c3_2_1, c4_2_1⟩ := N1.out.kept G2.out
        go_wp2_with fail
        go_at_call 39
        refine (nameShaped_any _ _ _ (HK.out.kept G2.out) HV.out (AV.out.kept G2.out)).mono ?_
        rintro e w3 ⟨rfl, hg3⟩
        rw [h2]
        have G3 : Hid (w.grownBy w3 none) := gb_trans G2.out hg3
        have B3 := hide (B2.out.kept hg3)
        obtain ⟨b0_3, b1_3, b2_3, b3_3, b4_3⟩ := B3.out
        obtain ⟨c0_3_0, c1_3_0, c2_3_0, c3_3_0, c4_3_0⟩ := N0.out.kept G3.out
        obtain ⟨c0_3_1, c1_3_1, c2_3_1, c3_3_1, c4_3_1⟩ := N1.out.kept G3.out
        go_wp2_with fail
        go_ret
        exact ⟨rfl, G3.out⟩
end Go.Proofs.YtlkokcnbbihljaaGreatDoor
