/- The document's shapes: declarations without types, types. -/
import Derived.Test.YtlkokcnbbihljaaGreatDoorG48
namespace Go.Proofs.YtlkokcnbbihljaaGreatDoor
open Go.RowKit

set_option maxRecDepth 1000000 in
set_option maxHeartbeats 1000000 in
theorem decl3 (x : List UInt8) (m p : Int) (l : List T) (sv : Value) (w : World) (hk : KW w) (hf : Fits (.mk 3 x m p l)) (ha : AT w (T.mk 3 x m p l).subs sv) :
    Calls Tryz.prog 17 #[.agg #[.int .i64 3, .string ⟨x.toArray⟩, .int .i64 m, .int .i64 p, sv]] w (Sy w (.bool (wellB .imported (.mk 3 x m p l)))) := by
  have HE := wellB_only (r := .imported) (t := (.mk 3 x m p l)) (c := headB (.mk 3 x m p l) 3 true 0 0) (l := []) rfl
  have HK := hide hk
  have HF := hide hf
  have HA := hide ha
  cases h0 : headB (.mk 3 x m p l) 3 true 0 0
  · rw [show wellB .imported (.mk 3 x m p l) = false by rw [HE, h0]; rfl]
    clear HE
    obtain ⟨a, n, c, rfl, hn, hc, hl⟩ := ha.any
    clear hk hf ha
    go_enter Tryz.func17, Tryz.ntmps17
    go_wp2_with fail
    go_at_call 16
    refine (head_any (.mk 3 x m p l) _ 3 0 0 true _ (HK.out.kept (by repeat (first | with_reducible exact gb_refl w none | with_reducible refine gb_put ?_ (by omega) _ _ | with_reducible refine gb_alloc ?_ _ | with_reducible refine gb_drewN ?_ _ | with_reducible refine gb_drew ?_))) HF.out (HA.out.kept (by repeat (first | with_reducible exact gb_refl w none | with_reducible refine gb_put ?_ (by omega) _ _ | with_reducible refine gb_alloc ?_ _ | with_reducible refine gb_drewN ?_ _ | with_reducible refine gb_drew ?_)))).mono ?_
    rintro e w1 ⟨rfl, hg1⟩
    rw [h0]
    have G1 : Hid (w.grownBy w1 none) := gb_trans (gb_alloc (gb_refl w none) _) hg1
    have B1 := hide ((Box.new w (.mk 3 x m p l) (.slice a n c) 24).kept hg1)
    obtain ⟨b0_1, b1_1, b2_1, b3_1, b4_1⟩ := B1.out
    go_wp2_with fail
    go_ret
    exact ⟨rfl, G1.out⟩
  · obtain ⟨a, c, rfl, hc, hl⟩ := ha.zero (head_len (n := 0) h0)
    change l = [] at hl
    subst hl
    clear hk hf ha
    rw [show wellB .imported (.mk 3 x m p []) = true by rw [HE, h0]; simp []]
    clear HE
    go_enter Tryz.func17, Tryz.ntmps17
    go_wp2_with fail
    go_at_call 16
    refine (head_any (.mk 3 x m p []) _ 3 0 0 true _ (HK.out.kept (by repeat (first | with_reducible exact gb_refl w none | with_reducible refine gb_put ?_ (by omega) _ _ | with_reducible refine gb_alloc ?_ _ | with_reducible refine gb_drewN ?_ _ | with_reducible refine gb_drew ?_))) HF.out (HA.out.kept (by repeat (first | with_reducible exact gb_refl w none | with_reducible refine gb_put ?_ (by omega) _ _ | with_reducible refine gb_alloc ?_ _ | with_reducible refine gb_drewN ?_ _ | with_reducible refine gb_drew ?_)))).mono ?_
    rintro e w1 ⟨rfl, hg1⟩
    rw [h0]
    have G1 : Hid (w.grownBy w1 none) := gb_trans (gb_alloc (gb_refl w none) _) hg1
    have B1 := hide ((Box.new w (.mk 3 x m p []) (.slice a 0 c) 24).kept hg1)
    obtain ⟨b0_1, b1_1, b2_1, b3_1, b4_1⟩ := B1.out
    go_wp2_with fail
    go_ret
    exact ⟨rfl, G1.out⟩
set_option maxRecDepth 1000000 in
set_option maxHeartbeats 1000000 in
theorem decl4 (x : List UInt8) (m p : Int) (l : List T) (sv : Value) (w : World) (hk : KW w) (hf : Fits (.mk 4 x m p l)) (ha : AT w (T.mk 4 x m p l).subs sv) (IH : ∀ u, u ∈ l → ShOK u) :
    Calls Tryz.prog 17 #[.agg #[.int .i64 4, .string ⟨x.toArray⟩, .int .i64 m, .int .i64 p, sv]] w (Sy w (.bool (wellB (.declared 4 1 .expression) (.mk 4 x m p l)))) := by
  have HE := wellB_only (r := (.declared 4 1 .expression)) (t := (.mk 4 x m p l)) (c := headB (.mk 4 x m p l) 4 true 1 1) (l := zipR l [.expression]) rfl
  have HK := hide hk
  have HF := hide hf
  have HA := hide ha
  cases h0 : headB (.mk 4 x m p l) 4 true 1 1
  · rw [show wellB (.declared 4 1 .expression) (.mk 4 x m p l) = false by rw [HE, h0]; rfl]
    clear HE
    obtain ⟨a, n, c, rfl, hn, hc, hl⟩ := ha.any
    clear hk hf ha IH
    go_enter Tryz.func17, Tryz.ntmps17
    go_wp2_with fail
    go_at_call 16
    refine (head_any (.mk 4 x m p l) _ 4 1 1 true _ (HK.out.kept (by repeat (first | with_reducible exact gb_refl w none | with_reducible refine gb_put ?_ (by omega) _ _ | with_reducible refine gb_alloc ?_ _ | with_reducible refine gb_drewN ?_ _ | with_reducible refine gb_drew ?_))) HF.out (HA.out.kept (by repeat (first | with_reducible exact gb_refl w none | with_reducible refine gb_put ?_ (by omega) _ _ | with_reducible refine gb_alloc ?_ _ | with_reducible refine gb_drewN ?_ _ | with_reducible refine gb_drew ?_)))).mono ?_
    rintro e w1 ⟨rfl, hg1⟩
    rw [h0]
    have G1 : Hid (w.grownBy w1 none) := gb_trans (gb_alloc (gb_refl w none) _) hg1
    have B1 := hide ((Box.new w (.mk 4 x m p l) (.slice a n c) 24).kept hg1)
    obtain ⟨b0_1, b1_1, b2_1, b3_1, b4_1⟩ := B1.out
    go_wp2_with fail
    go_ret
    exact ⟨rfl, G1.out⟩
  · obtain ⟨g, o, c, u, su, rfl, hn, hc, hl, n5, fu, au⟩ := ha.one (head_len (n := 1) h0)
    change l = [u] at hl
    subst hl
    have N0 := hide n5
    have HU := hide fu
    have AU := hide au
    clear IH
    clear hk hf ha fu au n5
    cases h1 : wellB .expression u
    · skip
      rw [show wellB (.declared 4 1 .expression) (.mk 4 x m p [u]) = false by rw [HE, h0]; simp [zipR, h1]]
      clear HE
      go_enter Tryz.func17, Tryz.ntmps17
      go_wp2_with fail
      go_at_call 16
      refine (head_any (.mk 4 x m p [u]) _ 4 1 1 true _ (HK.out.kept (by repeat (first | with_reducible exact gb_refl w none | with_reducible refine gb_put ?_ (by omega) _ _ | with_reducible refine gb_alloc ?_ _ | with_reducible refine gb_drewN ?_ _ | with_reducible refine gb_drew ?_))) HF.out (HA.out.kept (by repeat (first | with_reducible exact gb_refl w none | with_reducible refine gb_put ?_ (by omega) _ _ | with_reducible refine gb_alloc ?_ _ | with_reducible refine gb_drewN ?_ _ | with_reducible refine gb_drew ?_)))).mono ?_
      rintro e w1 ⟨rfl, hg1⟩
      rw [h0]
      have G1 : Hid (w.grownBy w1 none) := gb_trans (gb_alloc (gb_refl w none) _) hg1
      have B1 := hide ((Box.new w (.mk 4 x m p [u]) (.slice (some ⟨g, o, none⟩) 1 c) 24).kept hg1)
      obtain ⟨b0_1, b1_1, b2_1, b3_1, b4_1⟩ := B1.out
      obtain ⟨c0_1_0, c1_1_0, c2_1_0, c3_1_0, c4_1_0⟩ := N0.out.kept G1.out
      go_wp2_with fail
      go_at_call 37
      refine ((sh_all _).expr _ _ (HK.out.kept G1.out) HU.out (AU.out.kept G1.out)).mono ?_
      rintro e w2 ⟨rfl, hg2⟩
      rw [h1]
      have G2 : Hid (w.grownBy w2 none) := gb_trans G1.out hg2
      have B2 := hide (B1.out.kept hg2)
      obtain ⟨b0_2, b1_2, b2_2, b3_2, b4_2⟩ := B2.out
      obtain ⟨c0_2_0, c1_2_0, c2_2_0, c3_2_0, c4_2_0⟩ := N0.out.kept G2.out
      go_wp2_with fail
      go_ret
      exact ⟨rfl, G2.out⟩
    · skip
      rw [show wellB (.declared 4 1 .expression) (.mk 4 x m p [u]) = true by rw [HE, h0]; simp [zipR, h1]]
      clear HE
      go_enter Tryz.func17, Tryz.ntmps17
      go_wp2_with fail
      go_at_call 16
      refine (head_any (.mk 4 x m p [u]) _ 4 1 1 true _ (HK.out.kept (by repeat (first | with_reducible exact gb_refl w none | with_reducible refine gb_put ?_ (by omega) _ _ | with_reducible refine gb_alloc ?_ _ | with_reducible refine gb_drewN ?_ _ | with_reducible refine gb_drew ?_))) HF.out (HA.out.kept (by repeat (first | with_reducible exact gb_refl w none | with_reducible refine gb_put ?_ (by omega) _ _ | with_reducible refine gb_alloc ?_ _ | with_reducible refine gb_drewN ?_ _ | with_reducible refine gb_drew ?_)))).mono ?_
      rintro e w1 ⟨rfl, hg1⟩
      rw [h0]
      have G1 : Hid (w.grownBy w1 none) := gb_trans (gb_alloc (gb_refl w none) _) hg1
      have B1 := hide ((Box.new w (.mk 4 x m p [u]) (.slice (some ⟨g, o, none⟩) 1 c) 24).kept hg1)
      obtain ⟨b0_1, b1_1, b2_1, b3_1, b4_1⟩ := B1.out
      obtain ⟨c0_1_0, c1_1_0, c2_1_0, c3_1_0, c4_1_0⟩ := N0.out.kept G1.out
      go_wp2_with fail
      go_at_call 37
      refine ((sh_all _).expr _ _ (HK.out.kept G1.out) HU.out (AU.out.kept G1.out)).mono ?_
      rintro e w2 ⟨rfl, hg2⟩
      rw [h1]
      have G2 : Hid (w.grownBy w2 none) := gb_trans G1.out hg2
      have B2 := hide (B1.out.kept hg2)
      obtain ⟨b0_2, b1_2, b2_2, b3_2, b4_2⟩ := B2.out
      obtain ⟨c0_2_0, c1_2_0, c2_2_0, c3_2_0, c4_2_0⟩ := N0.out.kept G2.out
      go_wp2_with fail
      go_ret
      exact ⟨rfl, G2.out⟩
set_option maxRecDepth 1000000 in
set_option maxHeartbeats 1000000 in
theorem decl6 (x : List UInt8) (m p : Int) (l : List T) (sv : Value) (w : World) (hk : KW w) (hf : Fits (.mk 6 x m p l)) (ha : AT w (T.mk 6 x m p l).subs sv) (IH : ∀ u, u ∈ l → ShOK u) :
    Calls Tryz.prog 17 #[.agg #[.int .i64 6, .string ⟨x.toArray⟩, .int .i64 m, .int .i64 p, sv]] w (Sy w (.bool (wellB (.declared 6 1 .typeName) (.mk 6 x m p l)))) := by
  have HE := wellB_only (r := (.declared 6 1 .typeName)) (t := (.mk 6 x m p l)) (c := headB (.mk 6 x m p l) 6 true 1 1) (l := zipR l [.typeName]) rfl
  have HK := hide hk
  have HF := hide hf
  have HA := hide ha
  cases h0 : headB (.mk 6 x m p l) 6 true 1 1
  · rw [show wellB (.declared 6 1 .typeName) (.mk 6 x m p l) = false by rw [HE, h0]; rfl]
    clear HE
    obtain ⟨a, n, c, rfl, hn, hc, hl⟩ := ha.any
    clear hk hf ha IH
    go_enter Tryz.func17, Tryz.ntmps17
    go_wp2_with fail
    go_at_call 16
    refine (head_any (.mk 6 x m p l) _ 6 1 1 true _ (HK.out.kept (by repeat (first | with_reducible exact gb_refl w none | with_reducible refine gb_put ?_ (by omega) _ _ | with_reducible refine gb_alloc ?_ _ | with_reducible refine gb_drewN ?_ _ | with_reducible refine gb_drew ?_))) HF.out (HA.out.kept (by repeat (first | with_reducible exact gb_refl w none | with_reducible refine gb_put ?_ (by omega) _ _ | with_reducible refine gb_alloc ?_ _ | with_reducible refine gb_drewN ?_ _ | with_reducible refine gb_drew ?_)))).mono ?_
    rintro e w1 ⟨rfl, hg1⟩
    rw [h0]
    have G1 : Hid (w.grownBy w1 none) := gb_trans (gb_alloc (gb_refl w none) _) hg1
    have B1 := hide ((Box.new w (.mk 6 x m p l) (.slice a n c) 24).kept hg1)
    obtain ⟨b0_1, b1_1, b2_1, b3_1, b4_1⟩ := B1.out
    go_wp2_with fail
    go_ret
    exact ⟨rfl, G1.out⟩
  · obtain ⟨g, o, c, u, su, rfl, hn, hc, hl, n5, fu, au⟩ := ha.one (head_len (n := 1) h0)
    change l = [u] at hl
    subst hl
    have N0 := hide n5
    have HU := hide fu
    have AU := hide au
    clear IH
    clear hk hf ha fu au n5
    cases h1 : wellB .typeName u
    · skip
      rw [show wellB (.declared 6 1 .typeName) (.mk 6 x m p [u]) = false by rw [HE, h0]; simp [zipR, h1]]
      clear HE
      go_enter Tryz.func17, Tryz.ntmps17
      go_wp2_with fail
      go_at_call 16
      refine (head_any (.mk 6 x m p [u]) _ 6 1 1 true _ (HK.out.kept (by repeat (first | with_reducible exact gb_refl w none | with_reducible refine gb_put ?_ (by omega) _ _ | with_reducible refine gb_alloc ?_ _ | with_reducible refine gb_drewN ?_ _ | with_reducible refine gb_drew ?_))) HF.out (HA.out.kept (by repeat (first | with_reducible exact gb_refl w none | with_reducible refine gb_put ?_ (by omega) _ _ | with_reducible refine gb_alloc ?_ _ | with_reducible refine gb_drewN ?_ _ | with_reducible refine gb_drew ?_)))).mono ?_
      rintro e w1 ⟨rfl, hg1⟩
      rw [h0]
      have G1 : Hid (w.grownBy w1 none) := gb_trans (gb_alloc (gb_refl w none) _) hg1
      have B1 := hide ((Box.new w (.mk 6 x m p [u]) (.slice (some ⟨g, o, none⟩) 1 c) 24).kept hg1)
      obtain ⟨b0_1, b1_1, b2_1, b3_1, b4_1⟩ := B1.out
      obtain ⟨c0_1_0, c1_1_0, c2_1_0, c3_1_0, c4_1_0⟩ := N0.out.kept G1.out
      go_wp2_with fail
      go_at_call 39
      refine (nameShaped_any _ _ _ (HK.out.kept G1.out) HU.out (AU.out.kept G1.out)).mono ?_
      rintro e w2 ⟨rfl, hg2⟩
      rw [h1]
      have G2 : Hid (w.grownBy w2 none) := gb_trans G1.out hg2
      have B2 := hide (B1.out.kept hg2)
      obtain ⟨b0_2, b1_2, b2_2, b3_2, b4_2⟩ := B2.out
      obtain ⟨c0_2_0, c1_2_0, c2_2_0, c3_2_0, c4_2_0⟩ := N0.out.kept G2.out
      go_wp2_with fail
      go_ret
      exact ⟨rfl, G2.out⟩
    · skip
      rw [show wellB (.declared 6 1 .typeName) (.mk 6 x m p [u]) = true by rw [HE, h0]; simp [zipR, h1]]
      clear HE
      go_enter Tryz.func17, Tryz.ntmps17
      go_wp2_with fail
      go_at_call 16
      refine (head_any (.mk 6 x m p [u]) _ 6 1 1 true _ (HK.out.kept (by repeat (first | with_reducible exact gb_refl w none | with_reducible refine gb_put ?_ (by omega) _ _ | with_reducible refine gb_alloc ?_ _ | with_reducible refine gb_drewN ?_ _ | with_reducible refine gb_drew ?_))) HF.out (HA.out.kept (by repeat (first | with_reducible exact gb_refl w none | with_reducible refine gb_put ?_ (by omega) _ _ | with_reducible refine gb_alloc ?_ _ | with_reducible refine gb_drewN ?_ _ | with_reducible refine gb_drew ?_)))).mono ?_
      rintro e w1 ⟨rfl, hg1⟩
      rw [h0]
      have G1 : Hid (w.grownBy w1 none) := gb_trans (gb_alloc (gb_refl w none) _) hg1
      have B1 := hide ((Box.new w (.mk 6 x m p [u]) (.slice (some ⟨g, o, none⟩) 1 c) 24).kept hg1)
      obtain ⟨b0_1, b1_1, b2_1, b3_1, b4_1⟩ := B1.out
      obtain ⟨c0_1_0, c1_1_0, c2_1_0, c3_1_0, c4_1_0⟩ := N0.out.kept G1.out
      go_wp2_with fail
      go_at_call 39
      refine (nameShaped_any _ _ _ (HK.out.kept G1.out) HU.out (AU.out.kept G1.out)).mono ?_
      rintro e w2 ⟨rfl, hg2⟩
      rw [h1]
      have G2 : Hid (w.grownBy w2 none) := gb_trans G1.out hg2
      have B2 := hide (B1.out.kept hg2)
      obtain ⟨b0_2, b1_2, b2_2, b3_2, b4_2⟩ := B2.out
      obtain ⟨c0_2_0, c1_2_0, c2_2_0, c3_2_0, c4_2_0⟩ := N0.out.kept G2.out
      go_wp2_with fail
      go_ret
      exact ⟨rfl, G2.out⟩
set_option maxRecDepth 1000000 in
set_option maxHeartbeats 1000000 in
theorem decl8 (x : List UInt8) (m p : Int) (l : List T) (sv : Value) (w : World) (hk : KW w) (hf : Fits (.mk 8 x m p l)) (ha : AT w (T.mk 8 x m p l).subs sv) (IH : ∀ u, u ∈ l → ShOK u) :
    Calls Tryz.prog 17 #[.agg #[.int .i64 8, .string ⟨x.toArray⟩, .int .i64 m, .int .i64 p, sv]] w (Sy w (.bool (wellB (.declared 8 1 .typeName) (.mk 8 x m p l)))) := by
  have HE := wellB_only (r := (.declared 8 1 .typeName)) (t := (.mk 8 x m p l)) (c := headB (.mk 8 x m p l) 8 true 1 1) (l := zipR l [.typeName]) rfl
  have HK := hide hk
  have HF := hide hf
  have HA := hide ha
  cases h0 : headB (.mk 8 x m p l) 8 true 1 1
  · rw [show wellB (.declared 8 1 .typeName) (.mk 8 x m p l) = false by rw [HE, h0]; rfl]
    clear HE
    obtain ⟨a, n, c, rfl, hn, hc, hl⟩ := ha.any
    clear hk hf ha IH
    go_enter Tryz.func17, Tryz.ntmps17
    go_wp2_with fail
    go_at_call 16
    refine (head_any (.mk 8 x m p l) _ 8 1 1 true _ (HK.out.kept (by repeat (first | with_reducible exact gb_refl w none | with_reducible refine gb_put ?_ (by omega) _ _ | with_reducible refine gb_alloc ?_ _ | with_reducible refine gb_drewN ?_ _ | with_reducible refine gb_drew ?_))) HF.out (HA.out.kept (by repeat (first | with_reducible exact gb_refl w none | with_reducible refine gb_put ?_ (by omega) _ _ | with_reducible refine gb_alloc ?_ _ | with_reducible refine gb_drewN ?_ _ | with_reducible refine gb_drew ?_)))).mono ?_
    rintro e w1 ⟨rfl, hg1⟩
    rw [h0]
    have G1 : Hid (w.grownBy w1 none) := gb_trans (gb_alloc (gb_refl w none) _) hg1
    have B1 := hide ((Box.new w (.mk 8 x m p l) (.slice a n c) 24).kept hg1)
    obtain ⟨b0_1, b1_1, b2_1, b3_1, b4_1⟩ := B1.out
    go_wp2_with fail
    go_ret
    exact ⟨rfl, G1.out⟩
  · obtain ⟨g, o, c, u, su, rfl, hn, hc, hl, n5, fu, au⟩ := ha.one (head_len (n := 1) h0)
    change l = [u] at hl
    subst hl
    have N0 := hide n5
    have HU := hide fu
    have AU := hide au
    clear IH
    clear hk hf ha fu au n5
    cases h1 : wellB .typeName u
    · skip
      rw [show wellB (.declared 8 1 .typeName) (.mk 8 x m p [u]) = false by rw [HE, h0]; simp [zipR, h1]]
      clear HE
      go_enter Tryz.func17, Tryz.ntmps17
      go_wp2_with fail
      go_at_call 16
      refine (head_any (.mk 8 x m p [u]) _ 8 1 1 true _ (HK.out.kept (by repeat (first | with_reducible exact gb_refl w none | with_reducible refine gb_put ?_ (by omega) _ _ | with_reducible refine gb_alloc ?_ _ | with_reducible refine gb_drewN ?_ _ | with_reducible refine gb_drew ?_))) HF.out (HA.out.kept (by repeat (first | with_reducible exact gb_refl w none | with_reducible refine gb_put ?_ (by omega) _ _ | with_reducible refine gb_alloc ?_ _ | with_reducible refine gb_drewN ?_ _ | with_reducible refine gb_drew ?_)))).mono ?_
      rintro e w1 ⟨rfl, hg1⟩
      rw [h0]
      have G1 : Hid (w.grownBy w1 none) := gb_trans (gb_alloc (gb_refl w none) _) hg1
      have B1 := hide ((Box.new w (.mk 8 x m p [u]) (.slice (some ⟨g, o, none⟩) 1 c) 24).kept hg1)
      obtain ⟨b0_1, b1_1, b2_1, b3_1, b4_1⟩ := B1.out
      obtain ⟨c0_1_0, c1_1_0, c2_1_0, c3_1_0, c4_1_0⟩ := N0.out.kept G1.out
      go_wp2_with fail
      go_at_call 39
      refine (nameShaped_any _ _ _ (HK.out.kept G1.out) HU.out (AU.out.kept G1.out)).mono ?_
      rintro e w2 ⟨rfl, hg2⟩
      rw [h1]
      have G2 : Hid (w.grownBy w2 none) := gb_trans G1.out hg2
      have B2 := hide (B1.out.kept hg2)
      obtain ⟨b0_2, b1_2, b2_2, b3_2, b4_2⟩ := B2.out
      obtain ⟨c0_2_0, c1_2_0, c2_2_0, c3_2_0, c4_2_0⟩ := N0.out.kept G2.out
      go_wp2_with fail
      go_ret
      exact ⟨rfl, G2.out⟩
    · skip
      rw [show wellB (.declared 8 1 .typeName) (.mk 8 x m p [u]) = true by rw [HE, h0]; simp [zipR, h1]]
      clear HE
      go_enter Tryz.func17, Tryz.ntmps17
      go_wp2_with fail
      go_at_call 16
      refine (head_any (.mk 8 x m p [u]) _ 8 1 1 true _ (HK.out.kept (by repeat (first | with_reducible exact gb_refl w none | with_reducible refine gb_put ?_ (by omega) _ _ | with_reducible refine gb_alloc ?_ _ | with_reducible refine gb_drewN ?_ _ | with_reducible refine gb_drew ?_))) HF.out (HA.out.kept (by repeat (first | with_reducible exact gb_refl w none | with_reducible refine gb_put ?_ (by omega) _ _ | with_reducible refine gb_alloc ?_ _ | with_reducible refine gb_drewN ?_ _ | with_reducible refine gb_drew ?_)))).mono ?_
      rintro e w1 ⟨rfl, hg1⟩
      rw [h0]
      have G1 : Hid (w.grownBy w1 none) := gb_trans (gb_alloc (gb_refl w none) _) hg1
      have B1 := hide ((Box.new w (.mk 8 x m p [u]) (.slice (some ⟨g, o, none⟩) 1 c) 24).kept hg1)
      obtain ⟨b0_1, b1_1, b2_1, b3_1, b4_1⟩ := B1.out
      obtain ⟨c0_1_0, c1_1_0, c2_1_0, c3_1_0, c4_1_0⟩ := N0.out.kept G1.out
      go_wp2_with fail
      go_at_call 39
      refine (nameShaped_any _ _ _ (HK.out.kept G1.out) HU.out (AU.out.kept G1.out)).mono ?_
      rintro e w2 ⟨rfl, hg2⟩
      rw [h1]
      have G2 : Hid (w.grownBy w2 none) := gb_trans G1.out hg2
      have B2 := hide (B1.out.kept hg2)
      obtain ⟨b0_2, b1_2, b2_2, b3_2, b4_2⟩ := B2.out
      obtain ⟨c0_2_0, c1_2_0, c2_2_0, c3_2_0, c4_2_0⟩ := N0.out.kept G2.out
      go_wp2_with fail
      go_ret
      exact ⟨rfl, G2.out⟩
set_option maxRecDepth 1000000 in
set_option maxHeartbeats 1000000 in
theorem decl11 (x : List UInt8) (m p : Int) (l : List T) (sv : Value) (w : World) (hk : KW w) (hf : Fits (.mk 11 x m p l)) (ha : AT w (T.mk 11 x m p l).subs sv) (IH : ∀ u, u ∈ l → ShOK u) :
    Calls Tryz.prog 17 #[.agg #[.int .i64 11, .string ⟨x.toArray⟩, .int .i64 m, .int .i64 p, sv]] w (Sy w (.bool (wellB (.declared 11 1 .typeName) (.mk 11 x m p l)))) := by
  have HE := wellB_only (r := (.declared 11 1 .typeName)) (t := (.mk 11 x m p l)) (c := headB (.mk 11 x m p l) 11 true 1 1) (l := zipR l [.typeName]) rfl
  have HK := hide hk
  have HF := hide hf
  have HA := hide ha
  cases h0 : headB (.mk 11 x m p l) 11 true 1 1
  · rw [show wellB (.declared 11 1 .typeName) (.mk 11 x m p l) = false by rw [HE, h0]; rfl]
    clear HE
    obtain ⟨a, n, c, rfl, hn, hc, hl⟩ := ha.any
    clear hk hf ha IH
    go_enter Tryz.func17, Tryz.ntmps17
    go_wp2_with fail
    go_at_call 16
    refine (head_any (.mk 11 x m p l) _ 11 1 1 true _ (HK.out.kept (by repeat (first | with_reducible exact gb_refl w none | with_reducible refine gb_put ?_ (by omega) _ _ | with_reducible refine gb_alloc ?_ _ | with_reducible refine gb_drewN ?_ _ | with_reducible refine gb_drew ?_))) HF.out (HA.out.kept (by repeat (first | with_reducible exact gb_refl w none | with_reducible refine gb_put ?_ (by omega) _ _ | with_reducible refine gb_alloc ?_ _ | with_reducible refine gb_drewN ?_ _ | with_reducible refine gb_drew ?_)))).mono ?_
    rintro e w1 ⟨rfl, hg1⟩
    rw [h0]
    have G1 : Hid (w.grownBy w1 none) := gb_trans (gb_alloc (gb_refl w none) _) hg1
    have B1 := hide ((Box.new w (.mk 11 x m p l) (.slice a n c) 24).kept hg1)
    obtain ⟨b0_1, b1_1, b2_1, b3_1, b4_1⟩ := B1.out
    go_wp2_with fail
    go_ret
    exact ⟨rfl, G1.out⟩
  · obtain ⟨g, o, c, u, su, rfl, hn, hc, hl, n5, fu, au⟩ := ha.one (head_len (n := 1) h0)
    change l = [u] at hl
    subst hl
    have N0 := hide n5
    have HU := hide fu
    have AU := hide au
    clear IH
    clear hk hf ha fu au n5
    cases h1 : wellB .typeName u
    · skip
      rw [show wellB (.declared 11 1 .typeName) (.mk 11 x m p [u]) = false by rw [HE, h0]; simp [zipR, h1]]
      clear HE
      go_enter Tryz.func17, Tryz.ntmps17
      go_wp2_with fail
      go_at_call 16
      refine (head_any (.mk 11 x m p [u]) _ 11 1 1 true _ (HK.out.kept (by repeat (first | with_reducible exact gb_refl w none | with_reducible refine gb_put ?_ (by omega) _ _ | with_reducible refine gb_alloc ?_ _ | with_reducible refine gb_drewN ?_ _ | with_reducible refine gb_drew ?_))) HF.out (HA.out.kept (by repeat (first | with_reducible exact gb_refl w none | with_reducible refine gb_put ?_ (by omega) _ _ | with_reducible refine gb_alloc ?_ _ | with_reducible refine gb_drewN ?_ _ | with_reducible refine gb_drew ?_)))).mono ?_
      rintro e w1 ⟨rfl, hg1⟩
      rw [h0]
      have G1 : Hid (w.grownBy w1 none) := gb_trans (gb_alloc (gb_refl w none) _) hg1
      have B1 := hide ((Box.new w (.mk 11 x m p [u]) (.slice (some ⟨g, o, none⟩) 1 c) 24).kept hg1)
      obtain ⟨b0_1, b1_1, b2_1, b3_1, b4_1⟩ := B1.out
      obtain ⟨c0_1_0, c1_1_0, c2_1_0, c3_1_0, c4_1_0⟩ := N0.out.kept G1.out
      go_wp2_with fail
      go_at_call 39
      refine (nameShaped_any _ _ _ (HK.out.kept G1.out) HU.out (AU.out.kept G1.out)).mono ?_
      rintro e w2 ⟨rfl, hg2⟩
      rw [h1]
      have G2 : Hid (w.grownBy w2 none) := gb_trans G1.out hg2
      have B2 := hide (B1.out.kept hg2)
      obtain ⟨b0_2, b1_2, b2_2, b3_2, b4_2⟩ := B2.out
      obtain ⟨c0_2_0, c1_2_0, c2_2_0, c3_2_0, c4_2_0⟩ := N0.out.kept G2.out
      go_wp2_with fail
      go_ret
      exact ⟨rfl, G2.out⟩
    · skip
      rw [show wellB (.declared 11 1 .typeName) (.mk 11 x m p [u]) = true by rw [HE, h0]; simp [zipR, h1]]
      clear HE
      go_enter Tryz.func17, Tryz.ntmps17
      go_wp2_with fail
      go_at_call 16
      refine (head_any (.mk 11 x m p [u]) _ 11 1 1 true _ (HK.out.kept (by repeat (first | with_reducible exact gb_refl w none | with_reducible refine gb_put ?_ (by omega) _ _ | with_reducible refine gb_alloc ?_ _ | with_reducible refine gb_drewN ?_ _ | with_reducible refine gb_drew ?_))) HF.out (HA.out.kept (by repeat (first | with_reducible exact gb_refl w none | with_reducible refine gb_put ?_ (by omega) _ _ | with_reducible refine gb_alloc ?_ _ | with_reducible refine gb_drewN ?_ _ | with_reducible refine gb_drew ?_)))).mono ?_
      rintro e w1 ⟨rfl, hg1⟩
      rw [h0]
      have G1 : Hid (w.grownBy w1 none) := gb_trans (gb_alloc (gb_refl w none) _) hg1
      have B1 := hide ((Box.new w (.mk 11 x m p [u]) (.slice (some ⟨g, o, none⟩) 1 c) 24).kept hg1)
      obtain ⟨b0_1, b1_1, b2_1, b3_1, b4_1⟩ := B1.out
      obtain ⟨c0_1_0, c1_1_0, c2_1_0, c3_1_0, c4_1_0⟩ := N0.out.kept G1.out
      go_wp2_with fail
      go_at_call 39
      refine (nameShaped_any _ _ _ (HK.out.kept G1.out) HU.out (AU.out.kept G1.out)).mono ?_
      rintro e w2 ⟨rfl, hg2⟩
      rw [h1]
      have G2 : Hid (w.grownBy w2 none) := gb_trans G1.out hg2
      have B2 := hide (B1.out.kept hg2)
      obtain ⟨b0_2, b1_2, b2_2, b3_2, b4_2⟩ := B2.out
      obtain ⟨c0_2_0, c1_2_0, c2_2_0, c3_2_0, c4_2_0⟩ := N0.out.kept G2.out
      go_wp2_with fail
      go_ret
      exact ⟨rfl, G2.out⟩
set_option maxRecDepth 1000000 in
set_option maxHeartbeats 1000000 in
theorem type9 (x : List UInt8) (m p : Int) (l : List T) (sv : Value) (w : World) (hk : KW w) (hf : Fits (.mk 9 x m p l)) (ha : AT w (T.mk 9 x m p l).subs sv) (IH : ∀ u, u ∈ l → ShOK u) :
    Calls Tryz.prog 38 #[.agg #[.int .i64 9, .string ⟨x.toArray⟩, .int .i64 m, .int .i64 p, sv]] w (Sy w (.bool (wellB .typeItself (.mk 9 x m p l)))) := by
  have HE := wellB_only (r := .typeItself) (t := (.mk 9 x m p l)) (c := headB (.mk 9 x m p l) 9 false maxNum 1) (l := zipR l [.typeName]) rfl
  have HK := hide hk
  have HF := hide hf
  have HA := hide ha
  cases h0 : headB (.mk 9 x m p l) 9 false maxNum 1
  · rw [show wellB .typeItself (.mk 9 x m p l) = false by rw [HE, h0]; rfl]
    clear HE
    obtain ⟨a, n, c, rfl, hn, hc, hl⟩ := ha.any
    clear hk hf ha IH
    go_enter Tryz.func38, Tryz.ntmps38
    go_wp2_with fail
    go_at_call 16
    refine (head_any (.mk 9 x m p l) _ 9 maxNum 1 false _ (HK.out.kept (by repeat (first | with_reducible exact gb_refl w none | with_reducible refine gb_put ?_ (by omega) _ _ | with_reducible refine gb_alloc ?_ _ | with_reducible refine gb_drewN ?_ _ | with_reducible refine gb_drew ?_))) HF.out (HA.out.kept (by repeat (first | with_reducible exact gb_refl w none | with_reducible refine gb_put ?_ (by omega) _ _ | with_reducible refine gb_alloc ?_ _ | with_reducible refine gb_drewN ?_ _ | with_reducible refine gb_drew ?_)))).mono ?_
    rintro e w1 ⟨rfl, hg1⟩
    rw [h0]
    have G1 : Hid (w.grownBy w1 none) := gb_trans (gb_alloc (gb_refl w none) _) hg1
    have B1 := hide ((Box.new w (.mk 9 x m p l) (.slice a n c) 24).kept hg1)
    obtain ⟨b0_1, b1_1, b2_1, b3_1, b4_1⟩ := B1.out
    go_wp2_with fail
    go_ret
    exact ⟨rfl, G1.out⟩
  · obtain ⟨g, o, c, u, su, rfl, hn, hc, hl, n5, fu, au⟩ := ha.one (head_len (n := 1) h0)
    change l = [u] at hl
    subst hl
    have N0 := hide n5
    have HU := hide fu
    have AU := hide au
    clear IH
    clear hk hf ha fu au n5
    cases h1 : wellB .typeName u
    · skip
      rw [show wellB .typeItself (.mk 9 x m p [u]) = false by rw [HE, h0]; simp [zipR, h1]]
      clear HE
      go_enter Tryz.func38, Tryz.ntmps38
      go_wp2_with fail
      go_at_call 16
      refine (head_any (.mk 9 x m p [u]) _ 9 maxNum 1 false _ (HK.out.kept (by repeat (first | with_reducible exact gb_refl w none | with_reducible refine gb_put ?_ (by omega) _ _ | with_reducible refine gb_alloc ?_ _ | with_reducible refine gb_drewN ?_ _ | with_reducible refine gb_drew ?_))) HF.out (HA.out.kept (by repeat (first | with_reducible exact gb_refl w none | with_reducible refine gb_put ?_ (by omega) _ _ | with_reducible refine gb_alloc ?_ _ | with_reducible refine gb_drewN ?_ _ | with_reducible refine gb_drew ?_)))).mono ?_
      rintro e w1 ⟨rfl, hg1⟩
      rw [h0]
      have G1 : Hid (w.grownBy w1 none) := gb_trans (gb_alloc (gb_refl w none) _) hg1
      have B1 := hide ((Box.new w (.mk 9 x m p [u]) (.slice (some ⟨g, o, none⟩) 1 c) 24).kept hg1)
      obtain ⟨b0_1, b1_1, b2_1, b3_1, b4_1⟩ := B1.out
      obtain ⟨c0_1_0, c1_1_0, c2_1_0, c3_1_0, c4_1_0⟩ := N0.out.kept G1.out
      go_wp2_with fail
      go_at_call 39
      refine (nameShaped_any _ _ _ (HK.out.kept G1.out) HU.out (AU.out.kept G1.out)).mono ?_
      rintro e w2 ⟨rfl, hg2⟩
      rw [h1]
      have G2 : Hid (w.grownBy w2 none) := gb_trans G1.out hg2
      have B2 := hide (B1.out.kept hg2)
      obtain ⟨b0_2, b1_2, b2_2, b3_2, b4_2⟩ := B2.out
      obtain ⟨c0_2_0, c1_2_0, c2_2_0, c3_2_0, c4_2_0⟩ := N0.out.kept G2.out
      go_wp2_with fail
      go_ret
      exact ⟨rfl, G2.out⟩
    · skip
      rw [show wellB .typeItself (.mk 9 x m p [u]) = true by rw [HE, h0]; simp [zipR, h1]]
      clear HE
      go_enter Tryz.func38, Tryz.ntmps38
      go_wp2_with fail
      go_at_call 16
      refine (head_any (.mk 9 x m p [u]) _ 9 maxNum 1 false _ (HK.out.kept (by repeat (first | with_reducible exact gb_refl w none | with_reducible refine gb_put ?_ (by omega) _ _ | with_reducible refine gb_alloc ?_ _ | with_reducible refine gb_drewN ?_ _ | with_reducible refine gb_drew ?_))) HF.out (HA.out.kept (by repeat (first | with_reducible exact gb_refl w none | with_reducible refine gb_put ?_ (by omega) _ _ | with_reducible refine gb_alloc ?_ _ | with_reducible refine gb_drewN ?_ _ | with_reducible refine gb_drew ?_)))).mono ?_
      rintro e w1 ⟨rfl, hg1⟩
      rw [h0]
      have G1 : Hid (w.grownBy w1 none) := gb_trans (gb_alloc (gb_refl w none) _) hg1
      have B1 := hide ((Box.new w (.mk 9 x m p [u]) (.slice (some ⟨g, o, none⟩) 1 c) 24).kept hg1)
      obtain ⟨b0_1, b1_1, b2_1, b3_1, b4_1⟩ := B1.out
      obtain ⟨c0_1_0, c1_1_0, c2_1_0, c3_1_0, c4_1_0⟩ := N0.out.kept G1.out
      go_wp2_with fail
      go_at_call 39
      refine (nameShaped_any _ _ _ (HK.out.kept G1.out) HU.out (AU.out.kept G1.out)).mono ?_
      rintro e w2 ⟨rfl, hg2⟩
      rw [h1]
      have G2 : Hid (w.grownBy w2 none) := gb_trans G1.out hg2
      have B2 := hide (B1.out.kept hg2)
      obtain ⟨b0_2, b1_2, b2_2, b3_2, b4_2⟩ := B2.out
      obtain ⟨c0_2_0, c1_2_0, c2_2_0, c3_2_0, c4_2_0⟩ := N0.out.kept G2.out
      go_wp2_with fail
      go_ret
      exact ⟨rfl, G2.out⟩
set_option maxRecDepth 1000000 in
set_option maxHeartbeats 1000000 in
theorem type12 (x : List UInt8) (m p : Int) (l : List T) (sv : Value) (w : World) (hk : KW w) (hf : Fits (.mk 12 x m p l)) (ha : AT w (T.mk 12 x m p l).subs sv) (IH : ∀ u, u ∈ l → ShOK u) :
    Calls Tryz.prog 38 #[.agg #[.int .i64 12, .string ⟨x.toArray⟩, .int .i64 m, .int .i64 p, sv]] w (Sy w (.bool (wellB .typeItself (.mk 12 x m p l)))) := by
  have HE := wellB_only (r := .typeItself) (t := (.mk 12 x m p l)) (c := headB (.mk 12 x m p l) 12 false 0 1) (l := zipR l [.typeName]) rfl
  have HK := hide hk
  have HF := hide hf
  have HA := hide ha
  cases h0 : headB (.mk 12 x m p l) 12 false 0 1
  · rw [show wellB .typeItself (.mk 12 x m p l) = false by rw [HE, h0]; rfl]
    clear HE
    obtain ⟨a, n, c, rfl, hn, hc, hl⟩ := ha.any
    clear hk hf ha IH
    go_enter Tryz.func38, Tryz.ntmps38
    go_wp2_with fail
    go_at_call 16
    refine (head_any (.mk 12 x m p l) _ 12 0 1 false _ (HK.out.kept (by repeat (first | with_reducible exact gb_refl w none | with_reducible refine gb_put ?_ (by omega) _ _ | with_reducible refine gb_alloc ?_ _ | with_reducible refine gb_drewN ?_ _ | with_reducible refine gb_drew ?_))) HF.out (HA.out.kept (by repeat (first | with_reducible exact gb_refl w none | with_reducible refine gb_put ?_ (by omega) _ _ | with_reducible refine gb_alloc ?_ _ | with_reducible refine gb_drewN ?_ _ | with_reducible refine gb_drew ?_)))).mono ?_
    rintro e w1 ⟨rfl, hg1⟩
    rw [h0]
    have G1 : Hid (w.grownBy w1 none) := gb_trans (gb_alloc (gb_refl w none) _) hg1
    have B1 := hide ((Box.new w (.mk 12 x m p l) (.slice a n c) 24).kept hg1)
    obtain ⟨b0_1, b1_1, b2_1, b3_1, b4_1⟩ := B1.out
    go_wp2_with fail
    go_ret
    exact ⟨rfl, G1.out⟩
  · obtain ⟨g, o, c, u, su, rfl, hn, hc, hl, n5, fu, au⟩ := ha.one (head_len (n := 1) h0)
    change l = [u] at hl
    subst hl
    have N0 := hide n5
    have HU := hide fu
    have AU := hide au
    clear IH
    clear hk hf ha fu au n5
    cases h1 : wellB .typeName u
    · skip
      rw [show wellB .typeItself (.mk 12 x m p [u]) = false by rw [HE, h0]; simp [zipR, h1]]
      clear HE
      go_enter Tryz.func38, Tryz.ntmps38
      go_wp2_with fail
      go_at_call 16
      refine (head_any (.mk 12 x m p [u]) _ 12 0 1 false _ (HK.out.kept (by repeat (first | with_reducible exact gb_refl w none | with_reducible refine gb_put ?_ (by omega) _ _ | with_reducible refine gb_alloc ?_ _ | with_reducible refine gb_drewN ?_ _ | with_reducible refine gb_drew ?_))) HF.out (HA.out.kept (by repeat (first | with_reducible exact gb_refl w none | with_reducible refine gb_put ?_ (by omega) _ _ | with_reducible refine gb_alloc ?_ _ | with_reducible refine gb_drewN ?_ _ | with_reducible refine gb_drew ?_)))).mono ?_
      rintro e w1 ⟨rfl, hg1⟩
      rw [h0]
      have G1 : Hid (w.grownBy w1 none) := gb_trans (gb_alloc (gb_refl w none) _) hg1
      have B1 := hide ((Box.new w (.mk 12 x m p [u]) (.slice (some ⟨g, o, none⟩) 1 c) 24).kept hg1)
      obtain ⟨b0_1, b1_1, b2_1, b3_1, b4_1⟩ := B1.out
      obtain ⟨c0_1_0, c1_1_0, c2_1_0, c3_1_0, c4_1_0⟩ := N0.out.kept G1.out
      go_wp2_with fail
      go_at_call 39
      refine (nameShaped_any _ _ _ (HK.out.kept G1.out) HU.out (AU.out.kept G1.out)).mono ?_
      rintro e w2 ⟨rfl, hg2⟩
      rw [h1]
      have G2 : Hid (w.grownBy w2 none) := gb_trans G1.out hg2
      have B2 := hide (B1.out.kept hg2)
      obtain ⟨b0_2, b1_2, b2_2, b3_2, b4_2⟩ := B2.out
      obtain ⟨c0_2_0, c1_2_0, c2_2_0, c3_2_0, c4_2_0⟩ := N0.out.kept G2.out
      go_wp2_with fail
      go_ret
      exact ⟨rfl, G2.out⟩
    · skip
      rw [show wellB .typeItself (.mk 12 x m p [u]) = true by rw [HE, h0]; simp [zipR, h1]]
      clear HE
      go_enter Tryz.func38, Tryz.ntmps38
      go_wp2_with fail
      go_at_call 16
      refine (head_any (.mk 12 x m p [u]) _ 12 0 1 false _ (HK.out.kept (by repeat (first | with_reducible exact gb_refl w none | with_reducible refine gb_put ?_ (by omega) _ _ | with_reducible refine gb_alloc ?_ _ | with_reducible refine gb_drewN ?_ _ | with_reducible refine gb_drew ?_))) HF.out (HA.out.kept (by repeat (first | with_reducible exact gb_refl w none | with_reducible refine gb_put ?_ (by omega) _ _ | with_reducible refine gb_alloc ?_ _ | with_reducible refine gb_drewN ?_ _ | with_reducible refine gb_drew ?_)))).mono ?_
      rintro e w1 ⟨rfl, hg1⟩
      rw [h0]
      have G1 : Hid (w.grownBy w1 none) := gb_trans (gb_alloc (gb_refl w none) _) hg1
      have B1 := hide ((Box.new w (.mk 12 x m p [u]) (.slice (some ⟨g, o, none⟩) 1 c) 24).kept hg1)
      obtain ⟨b0_1, b1_1, b2_1, b3_1, b4_1⟩ := B1.out
      obtain ⟨c0_1_0, c1_1_0, c2_1_0, c3_1_0, c4_1_0⟩ := N0.out.kept G1.out
      go_wp2_with fail
      go_at_call 39
      refine (nameShaped_any _ _ _ (HK.out.kept G1.out) HU.out (AU.out.kept G1.out)).mono ?_
      rintro e w2 ⟨rfl, hg2⟩
      rw [h1]
      have G2 : Hid (w.grownBy w2 none) := gb_trans G1.out hg2
      have B2 := hide (B1.out.kept hg2)
      obtain ⟨b0_2, b1_2, b2_2, b3_2, b4_2⟩ := B2.out
      obtain ⟨c0_2_0, c1_2_0, c2_2_0, c3_2_0, c4_2_0⟩ := N0.out.kept G2.out
      go_wp2_with fail
      go_ret
      exact ⟨rfl, G2.out⟩
end Go.Proofs.YtlkokcnbbihljaaGreatDoor
