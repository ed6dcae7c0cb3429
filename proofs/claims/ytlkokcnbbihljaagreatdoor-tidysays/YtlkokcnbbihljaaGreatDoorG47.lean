/- The document's shapes: acts, kind by kind. -/
import Derived.Test.YtlkokcnbbihljaaGreatDoorG46
namespace Go.Proofs.YtlkokcnbbihljaaGreatDoor
open Go.RowKit

/-- What the document says of an act's shape, and of a list of acts, of a node. -/
structure AcOK (u : T) : Prop where
  stmt : ∀ (sv : Value) (w : World), KW w → Fits u → AT w u.subs sv → Calls Tryz.prog 40 #[nodeV u sv] w (Sy w (.bool (wellB .act u)))
  stmts : ∀ (sv : Value) (w : World), KW w → Fits u → AT w u.subs sv → Calls Tryz.prog 18 #[nodeV u sv] w (Sy w (.bool (wellB (.list .act) u)))

set_option maxRecDepth 1000000 in
set_option maxHeartbeats 1000000 in
theorem stmt14 (x : List UInt8) (m p : Int) (l : List T) (sv : Value) (w : World) (hk : KW w) (hf : Fits (.mk 14 x m p l)) (ha : AT w (T.mk 14 x m p l).subs sv) (IH : ∀ u, u ∈ l → AcOK u) :
    Calls Tryz.prog 40 #[.agg #[.int .i64 14, .string ⟨x.toArray⟩, .int .i64 m, .int .i64 p, sv]] w (Sy w (.bool (wellB .act (.mk 14 x m p l)))) := by
  have HE := wellB_only (r := .act) (t := (.mk 14 x m p l)) (c := headB (.mk 14 x m p l) 14 false 0 2) (l := zipR l [.designator, .expression]) rfl
  have HK := hide hk
  have HF := hide hf
  have HA := hide ha
  cases h0 : headB (.mk 14 x m p l) 14 false 0 2
  · rw [show wellB .act (.mk 14 x m p l) = false by rw [HE, h0]; rfl]
    clear HE
    obtain ⟨a, n, c, rfl, hn, hc, hl⟩ := ha.any
    clear hk hf ha IH
    go_enter Tryz.func40, Tryz.ntmps40
    go_wp2_with fail
    go_at_call 16
    refine (head_any (.mk 14 x m p l) _ 14 0 2 false _ (HK.out.kept (by repeat (first | with_reducible exact gb_refl w none | with_reducible refine gb_put ?_ (by omega) _ _ | with_reducible refine gb_alloc ?_ _ | with_reducible refine gb_drewN ?_ _ | with_reducible refine gb_drew ?_))) HF.out (HA.out.kept (by repeat (first | with_reducible exact gb_refl w none | with_reducible refine gb_put ?_ (by omega) _ _ | with_reducible refine gb_alloc ?_ _ | with_reducible refine gb_drewN ?_ _ | with_reducible refine gb_drew ?_)))).mono ?_
    rintro e w1 ⟨rfl, hg1⟩
    rw [h0]
    have G1 : Hid (w.grownBy w1 none) := gb_trans (gb_alloc (gb_refl w none) _) hg1
    have B1 := hide ((Box.new w (.mk 14 x m p l) (.slice a n c) 24).kept hg1)
    obtain ⟨b0_1, b1_1, b2_1, b3_1, b4_1⟩ := B1.out
    go_wp2_with fail
    go_ret
    exact ⟨rfl, G1.out⟩
  · obtain ⟨g, o, c, u, su, v, sw, rfl, hn, hc, hl, n5, fu, au, n6, fv, av⟩ := ha.two (head_len (n := 2) h0)
    change l = [u, v] at hl
    subst hl
    have N0 := hide n5
    have HU := hide fu
    have AU := hide au
    have N1 := hide n6
    have HV := hide fv
    have AV := hide av
    clear IH
    clear hk hf ha fu au n5 fv av n6
    cases h1 : wellB .designator u
    · skip
      rw [show wellB .act (.mk 14 x m p [u, v]) = false by rw [HE, h0]; simp [zipR, h1]]
      clear HE
      go_enter Tryz.func40, Tryz.ntmps40
      go_wp2_with fail
      go_at_call 16
      refine (head_any (.mk 14 x m p [u, v]) _ 14 0 2 false _ (HK.out.kept (by repeat (first | with_reducible exact gb_refl w none | with_reducible refine gb_put ?_ (by omega) _ _ | with_reducible refine gb_alloc ?_ _ | with_reducible refine gb_drewN ?_ _ | with_reducible refine gb_drew ?_))) HF.out (HA.out.kept (by repeat (first | with_reducible exact gb_refl w none | with_reducible refine gb_put ?_ (by omega) _ _ | with_reducible refine gb_alloc ?_ _ | with_reducible refine gb_drewN ?_ _ | with_reducible refine gb_drew ?_)))).mono ?_
      rintro e w1 ⟨rfl, hg1⟩
      rw [h0]
      have G1 : Hid (w.grownBy w1 none) := gb_trans (gb_alloc (gb_refl w none) _) hg1
      have B1 := hide ((Box.new w (.mk 14 x m p [u, v]) (.slice (some ⟨g, o, none⟩) 2 c) 24).kept hg1)
      obtain ⟨b0_1, b1_1, b2_1, b3_1, b4_1⟩ := B1.out
      obtain ⟨c0_1_0, c1_1_0, c2_1_0, c3_1_0, c4_1_0⟩ := N0.out.kept G1.out
      obtain ⟨c0_1_1, c1_1_1, c2_1_1, c3_1_1, c4_1_1⟩ := N1.out.kept G1.out
      go_wp2_with fail
      go_at_call 71
      refine ((sh_all _).desig _ _ (HK.out.kept G1.out) HU.out (AU.out.kept G1.out)).mono ?_
      rintro e w2 ⟨rfl, hg2⟩
      rw [h1]
      have G2 : Hid (w.grownBy w2 none) := gb_trans G1.out hg2
      have B2 := hide (B1.out.kept hg2)
      obtain ⟨b0_2, b1_2, b2_2, b3_2, b4_2⟩ := B2.out
      obtain ⟨c0_2_0, c1_2_0, c2_2_0, c3_2_0, c4_2_0⟩ := N0.out.kept G2.out
      obtain ⟨c0_2_1, c1_2_1, c2_2_1, c3_2_1, c4_2_1⟩ := N1.out.kept G2.out
      go_wp2_with fail
      go_ret
      exact ⟨rfl, G2.out⟩
    · skip
      cases h2 : wellB .expression v
      · skip
        rw [show wellB .act (.mk 14 x m p [u, v]) = false by rw [HE, h0]; simp [zipR, h1, h2]]
        clear HE
        go_enter Tryz.func40, Tryz.ntmps40
        go_wp2_with fail
        go_at_call 16
        refine (head_any (.mk 14 x m p [u, v]) _ 14 0 2 false _ (HK.out.kept (by repeat (first | with_reducible exact gb_refl w none | with_reducible refine gb_put ?_ (by omega) _ _ | with_reducible refine gb_alloc ?_ _ | with_reducible refine gb_drewN ?_ _ | with_reducible refine gb_drew ?_))) HF.out (HA.out.kept (by repeat (first | with_reducible exact gb_refl w none | with_reducible refine gb_put ?_ (by omega) _ _ | with_reducible refine gb_alloc ?_ _ | with_reducible refine gb_drewN ?_ _ | with_reducible refine gb_drew ?_)))).mono ?_
        rintro e w1 ⟨rfl, hg1⟩
        rw [h0]
        have G1 : Hid (w.grownBy w1 none) := gb_trans (gb_alloc (gb_refl w none) _) hg1
        have B1 := hide ((Box.new w (.mk 14 x m p [u, v]) (.slice (some ⟨g, o, none⟩) 2 c) 24).kept hg1)
        obtain ⟨b0_1, b1_1, b2_1, b3_1, b4_1⟩ := B1.out
        obtain ⟨c0_1_0, c1_1_0, c2_1_0, c3_1_0, c4_1_0⟩ := N0.out.kept G1.out
        obtain ⟨c0_1_1, c1_1_1, c2_1_1, c3_1_1, c4_1_1⟩ := N1.out.kept G1.out
        go_wp2_with fail
        go_at_call 71
        refine ((sh_all _).desig _ _ (HK.out.kept G1.out) HU.out (AU.out.kept G1.out)).mono ?_
        rintro e w2 ⟨rfl, hg2⟩
        rw [h1]
        have G2 : Hid (w.grownBy w2 none) := gb_trans G1.out hg2
        have B2 := hide (B1.out.kept hg2)
        obtain ⟨b0_2, b1_2, b2_2, b3_2, b4_2⟩ := B2.out
        obtain ⟨c0_2_0, c1_2_0, c2_2_0, c3_2_0, c4_2_0⟩ := N0.out.kept G2.out
        obtain ⟨c0_2_1, c1_2_1, c2_2_1, c3_2_1, c4_2_1⟩ := N1.out.kept G2.out
        go_wp2_with fail
        go_at_call 37
        refine ((sh_all _).expr _ _ (HK.out.kept G2.out) HV.out (AV.out.kept G2.out)).mono ?_
        rintro e w3 ⟨rfl, hg3⟩
        rw [h2]
        have G3 : Hid (w.grownBy w3 none) := gb_trans G2.out hg3
        have B3 := hide (B2.out.kept hg3)
        obtain ⟨b0_3, b1_3, b2_3, b3_3, b4_3⟩ := B3.out
        obtain ⟨c0_3_0, c1_3_0, c2_3_0, c3_3_0, c4_3_0⟩ := N0.out.kept G3.out
        obtain ⟨c0_3_1, c1_3_1, c2_3_1, c3_3_1, c4_3_1⟩ := N1.out.kept G3.out
        go_wp2_with fail
        go_ret
        exact ⟨rfl, G3.out⟩
      · skip
        rw [show wellB .act (.mk 14 x m p [u, v]) = true by rw [HE, h0]; simp [zipR, h1, h2]]
        clear HE
        go_enter Tryz.func40, Tryz.ntmps40
        go_wp2_with fail
        go_at_call 16
        refine (head_any (.mk 14 x m p [u, v]) _ 14 0 2 false _ (HK.out.kept (by repeat (first | with_reducible exact gb_refl w none | with_reducible refine gb_put ?_ (by omega) _ _ | with_reducible refine gb_alloc ?_ _ | with_reducible refine gb_drewN ?_ _ | with_reducible refine gb_drew ?_))) HF.out (HA.out.kept (by repeat (first | with_reducible exact gb_refl w none | with_reducible refine gb_put ?_ (by omega) _ _ | with_reducible refine gb_alloc ?_ _ | with_reducible refine gb_drewN ?_ _ | with_reducible refine gb_drew ?_)))).mono ?_
        rintro e w1 ⟨rfl, hg1⟩
        rw [h0]
        have G1 : Hid (w.grownBy w1 none) := gb_trans (gb_alloc (gb_refl w none) _) hg1
        have B1 := hide ((Box.new w (.mk 14 x m p [u, v]) (.slice (some ⟨g, o, none⟩) 2 c) 24).kept hg1)
        obtain ⟨b0_1, b1_1, b2_1, b3_1, b4_1⟩ := B1.out
        obtain ⟨c0_1_0, c1_1_0, c2_1_0, c3_1_0, c4_1_0⟩ := N0.out.kept G1.out
        obtain ⟨c0_1_1, c1_1_1, c2_1_1, c3_1_1, c4_1_1⟩ := N1.out.kept G1.out
        go_wp2_with fail
        go_at_call 71
        refine ((sh_all _).desig _ _ (HK.out.kept G1.out) HU.out (AU.out.kept G1.out)).mono ?_
        rintro e w2 ⟨rfl, hg2⟩
        rw [h1]
        have G2 : Hid (w.grownBy w2 none) := gb_trans G1.out hg2
        have B2 := hide (B1.out.kept hg2)
        obtain ⟨b0_2, b1_2, b2_2, b3_2, b4_2⟩ := B2.out
        obtain ⟨c0_2_0, c1_2_0, c2_2_0, c3_2_0, c4_2_0⟩ := N0.out.kept G2.out
        obtain ⟨c0_2_1, c1_2_1, c2_2_1, c3_2_1, c4_2_1⟩ := N1.out.kept G2.out
        go_wp2_with fail
        go_at_call 37
        refine ((sh_all _).expr _ _ (HK.out.kept G2.out) HV.out (AV.out.kept G2.out)).mono ?_
        rintro e w3 ⟨rfl, hg3⟩
        rw [h2]
        have G3 : Hid (w.grownBy w3 none) := gb_trans G2.out hg3
        have B3 := hide (B2.out.kept hg3)
        obtain ⟨b0_3, b1_3, b2_3, b3_3, b4_3⟩ := B3.out
        obtain ⟨c0_3_0, c1_3_0, c2_3_0, c3_3_0, c4_3_0⟩ := N0.out.kept G3.out
        obtain ⟨c0_3_1, c1_3_1, c2_3_1, c3_3_1, c4_3_1⟩ := N1.out.kept G3.out
        go_wp2_with fail
        go_ret
        exact ⟨rfl, G3.out⟩
set_option maxRecDepth 1000000 in
set_option maxHeartbeats 1000000 in
theorem stmt17 (x : List UInt8) (m p : Int) (l : List T) (sv : Value) (w : World) (hk : KW w) (hf : Fits (.mk 17 x m p l)) (ha : AT w (T.mk 17 x m p l).subs sv) (IH : ∀ u, u ∈ l → AcOK u) :
    Calls Tryz.prog 40 #[.agg #[.int .i64 17, .string ⟨x.toArray⟩, .int .i64 m, .int .i64 p, sv]] w (Sy w (.bool (wellB .act (.mk 17 x m p l)))) := by
  have HE := wellB_only (r := .act) (t := (.mk 17 x m p l)) (c := headB (.mk 17 x m p l) 17 false 0 2) (l := zipR l [.expression, (.list .act)]) rfl
  have HK := hide hk
  have HF := hide hf
  have HA := hide ha
  cases h0 : headB (.mk 17 x m p l) 17 false 0 2
  · rw [show wellB .act (.mk 17 x m p l) = false by rw [HE, h0]; rfl]
    clear HE
    obtain ⟨a, n, c, rfl, hn, hc, hl⟩ := ha.any
    clear hk hf ha IH
    go_enter Tryz.func40, Tryz.ntmps40
    go_wp2_with fail
    go_at_call 16
    refine (head_any (.mk 17 x m p l) _ 17 0 2 false _ (HK.out.kept (by repeat (first | with_reducible exact gb_refl w none | with_reducible refine gb_put ?_ (by omega) _ _ | with_reducible refine gb_alloc ?_ _ | with_reducible refine gb_drewN ?_ _ | with_reducible refine gb_drew ?_))) HF.out (HA.out.kept (by repeat (first | with_reducible exact gb_refl w none | with_reducible refine gb_put ?_ (by omega) _ _ | with_reducible refine gb_alloc ?_ _ | with_reducible refine gb_drewN ?_ _ | with_reducible refine gb_drew ?_)))).mono ?_
    rintro e w1 ⟨rfl, hg1⟩
    rw [h0]
    have G1 : Hid (w.grownBy w1 none) := gb_trans (gb_alloc (gb_refl w none) _) hg1
    have B1 := hide ((Box.new w (.mk 17 x m p l) (.slice a n c) 24).kept hg1)
    obtain ⟨b0_1, b1_1, b2_1, b3_1, b4_1⟩ := B1.out
    go_wp2_with fail
    go_ret
    exact ⟨rfl, G1.out⟩
  · obtain ⟨g, o, c, u, su, v, sw, rfl, hn, hc, hl, n5, fu, au, n6, fv, av⟩ := ha.two (head_len (n := 2) h0)
    change l = [u, v] at hl
    subst hl
    have N0 := hide n5
    have HU := hide fu
    have AU := hide au
    have N1 := hide n6
    have HV := hide fv
    have AV := hide av
    have IU := hide (IH u (by simp))
    have IV := hide (IH v (by simp))
    clear IH
    clear hk hf ha fu au n5 fv av n6
    cases h1 : wellB .expression u
    · skip
      rw [show wellB .act (.mk 17 x m p [u, v]) = false by rw [HE, h0]; simp [zipR, h1]]
      clear HE
      go_enter Tryz.func40, Tryz.ntmps40
      go_wp2_with fail
      go_at_call 16
      refine (head_any (.mk 17 x m p [u, v]) _ 17 0 2 false _ (HK.out.kept (by repeat (first | with_reducible exact gb_refl w none | with_reducible refine gb_put ?_ (by omega) _ _ | with_reducible refine gb_alloc ?_ _ | with_reducible refine gb_drewN ?_ _ | with_reducible refine gb_drew ?_))) HF.out (HA.out.kept (by repeat (first | with_reducible exact gb_refl w none | with_reducible refine gb_put ?_ (by omega) _ _ | with_reducible refine gb_alloc ?_ _ | with_reducible refine gb_drewN ?_ _ | with_reducible refine gb_drew ?_)))).mono ?_
      rintro e w1 ⟨rfl, hg1⟩
      rw [h0]
      have G1 : Hid (w.grownBy w1 none) := gb_trans (gb_alloc (gb_refl w none) _) hg1
      have B1 := hide ((Box.new w (.mk 17 x m p [u, v]) (.slice (some ⟨g, o, none⟩) 2 c) 24).kept hg1)
      obtain ⟨b0_1, b1_1, b2_1, b3_1, b4_1⟩ := B1.out
      obtain ⟨c0_1_0, c1_1_0, c2_1_0, c3_1_0, c4_1_0⟩ := N0.out.kept G1.out
      obtain ⟨c0_1_1, c1_1_1, c2_1_1, c3_1_1, c4_1_1⟩ := N1.out.kept G1.out
      go_wp2_with fail
      go_at_call 37
      refine ((sh_all _).expr _ _ (HK.out.kept G1.out) HU.out (AU.out.kept G1.out)).mono ?_
      rintro e w2 ⟨rfl, hg2⟩
      rw [h1]
      have G2 : Hid (w.grownBy w2 none) := gb_trans G1.out hg2
      have B2 := hide (B1.out.kept hg2)
      obtain ⟨b0_2, b1_2, b2_2, b3_2, b4_2⟩ := B2.out
      obtain ⟨c0_2_0, c1_2_0, c2_2_0, c3_2_0, c4_2_0⟩ := N0.out.kept G2.out
      obtain ⟨c0_2_1, c1_2_1, c2_2_1, c3_2_1, c4_2_1⟩ := N1.out.kept G2.out
      go_wp2_with fail
      go_ret
      exact ⟨rfl, G2.out⟩
    · skip
      cases h2 : wellB (.list .act) v
      · skip
        rw [show wellB .act (.mk 17 x m p [u, v]) = false by rw [HE, h0]; simp [zipR, h1, h2]]
        clear HE
        go_enter Tryz.func40, Tryz.ntmps40
        go_wp2_with fail
        go_at_call 16
        refine (head_any (.mk 17 x m p [u, v]) _ 17 0 2 false _ (HK.out.kept (by repeat (first | with_reducible exact gb_refl w none | with_reducible refine gb_put ?_ (by omega) _ _ | with_reducible refine gb_alloc ?_ _ | with_reducible refine gb_drewN ?_ _ | with_reducible refine gb_drew ?_))) HF.out (HA.out.kept (by repeat (first | with_reducible exact gb_refl w none | with_reducible refine gb_put ?_ (by omega) _ _ | with_reducible refine gb_alloc ?_ _ | with_reducible refine gb_drewN ?_ _ | with_reducible refine gb_drew ?_)))).mono ?_
        rintro e w1 ⟨rfl, hg1⟩
        rw [h0]
        have G1 : Hid (w.grownBy w1 none) := gb_trans (gb_alloc (gb_refl w none) _) hg1
        have B1 := hide ((Box.new w (.mk 17 x m p [u, v]) (.slice (some ⟨g, o, none⟩) 2 c) 24).kept hg1)
        obtain ⟨b0_1, b1_1, b2_1, b3_1, b4_1⟩ := B1.out
        obtain ⟨c0_1_0, c1_1_0, c2_1_0, c3_1_0, c4_1_0⟩ := N0.out.kept G1.out
        obtain ⟨c0_1_1, c1_1_1, c2_1_1, c3_1_1, c4_1_1⟩ := N1.out.kept G1.out
        go_wp2_with fail
        go_at_call 37
        refine ((sh_all _).expr _ _ (HK.out.kept G1.out) HU.out (AU.out.kept G1.out)).mono ?_
        rintro e w2 ⟨rfl, hg2⟩
        rw [h1]
        have G2 : Hid (w.grownBy w2 none) := gb_trans G1.out hg2
        have B2 := hide (B1.out.kept hg2)
        obtain ⟨b0_2, b1_2, b2_2, b3_2, b4_2⟩ := B2.out
        obtain ⟨c0_2_0, c1_2_0, c2_2_0, c3_2_0, c4_2_0⟩ := N0.out.kept G2.out
        obtain ⟨c0_2_1, c1_2_1, c2_2_1, c3_2_1, c4_2_1⟩ := N1.out.kept G2.out
        go_wp2_with fail
        go_at_call 18
        refine (IV.out.stmts _ _ (HK.out.kept G2.out) HV.out (AV.out.kept G2.out)).mono ?_
        rintro e w3 ⟨rfl, hg3⟩
        rw [h2]
        have G3 : Hid (w.grownBy w3 none) := gb_trans G2.out hg3
        have B3 := hide (B2.out.kept hg3)
        obtain ⟨b0_3, b1_3, b2_3, b3_3, b4_3⟩ := B3.out
        obtain ⟨c0_3_0, c1_3_0, c2_3_0, c3_3_0, c4_3_0⟩ := N0.out.kept G3.out
        obtain ⟨c0_3_1, c1_3_1, c2_3_1, c3_3_1, c4_3_1⟩ := N1.out.kept G3.out
        go_wp2_with fail
        go_ret
        exact ⟨rfl, G3.out⟩
      · skip
        rw [show wellB .act (.mk 17 x m p [u, v]) = true by rw [HE, h0]; simp [zipR, h1, h2]]
        clear HE
        go_enter Tryz.func40, Tryz.ntmps40
        go_wp2_with fail
        go_at_call 16
        refine (head_any (.mk 17 x m p [u, v]) _ 17 0 2 false _ (HK.out.kept (by repeat (first | with_reducible exact gb_refl w none | with_reducible refine gb_put ?_ (by omega) _ _ | with_reducible refine gb_alloc ?_ _ | with_reducible refine gb_drewN ?_ _ | with_reducible refine gb_drew ?_))) HF.out (HA.out.kept (by repeat (first | with_reducible exact gb_refl w none | with_reducible refine gb_put ?_ (by omega) _ _ | with_reducible refine gb_alloc ?_ _ | with_reducible refine gb_drewN ?_ _ | with_reducible refine gb_drew ?_)))).mono ?_
        rintro e w1 ⟨rfl, hg1⟩
        rw [h0]
        have G1 : Hid (w.grownBy w1 none) := gb_trans (gb_alloc (gb_refl w none) _) hg1
        have B1 := hide ((Box.new w (.mk 17 x m p [u, v]) (.slice (some ⟨g, o, none⟩) 2 c) 24).kept hg1)
        obtain ⟨b0_1, b1_1, b2_1, b3_1, b4_1⟩ := B1.out
        obtain ⟨c0_1_0, c1_1_0, c2_1_0, c3_1_0, c4_1_0⟩ := N0.out.kept G1.out
        obtain ⟨c0_1_1, c1_1_1, c2_1_1, c3_1_1, c4_1_1⟩ := N1.out.kept G1.out
        go_wp2_with fail
        go_at_call 37
        refine ((sh_all _).expr _ _ (HK.out.kept G1.out) HU.out (AU.out.kept G1.out)).mono ?_
        rintro e w2 ⟨rfl, hg2⟩
        rw [h1]
        have G2 : Hid (w.grownBy w2 none) := gb_trans G1.out hg2
        have B2 := hide (B1.out.kept hg2)
        obtain ⟨b0_2, b1_2, b2_2, b3_2, b4_2⟩ := B2.out
        obtain ⟨c0_2_0, c1_2_0, c2_2_0, c3_2_0, c4_2_0⟩ := N0.out.kept G2.out
        obtain ⟨c0_2_1, c1_2_1, c2_2_1, c3_2_1, c4_2_1⟩ := N1.out.kept G2.out
        go_wp2_with fail
        go_at_call 18
        refine (IV.out.stmts _ _ (HK.out.kept G2.out) HV.out (AV.out.kept G2.out)).mono ?_
        rintro e w3 ⟨rfl, hg3⟩
        rw [h2]
        have G3 : Hid (w.grownBy w3 none) := gb_trans G2.out hg3
        have B3 := hide (B2.out.kept hg3)
        obtain ⟨b0_3, b1_3, b2_3, b3_3, b4_3⟩ := B3.out
        obtain ⟨c0_3_0, c1_3_0, c2_3_0, c3_3_0, c4_3_0⟩ := N0.out.kept G3.out
        obtain ⟨c0_3_1, c1_3_1, c2_3_1, c3_3_1, c4_3_1⟩ := N1.out.kept G3.out
        go_wp2_with fail
        go_ret
        exact ⟨rfl, G3.out⟩
set_option maxRecDepth 1000000 in
set_option maxHeartbeats 1000000 in
theorem stmt18 (x : List UInt8) (m p : Int) (l : List T) (sv : Value) (w : World) (hk : KW w) (hf : Fits (.mk 18 x m p l)) (ha : AT w (T.mk 18 x m p l).subs sv) (IH : ∀ u, u ∈ l → AcOK u) :
    Calls Tryz.prog 40 #[.agg #[.int .i64 18, .string ⟨x.toArray⟩, .int .i64 m, .int .i64 p, sv]] w (Sy w (.bool (wellB .act (.mk 18 x m p l)))) := by
  have HE := wellB_only (r := .act) (t := (.mk 18 x m p l)) (c := headB (.mk 18 x m p l) 18 false 0 2) (l := zipR l [(.list .act), .expression]) rfl
  have HK := hide hk
  have HF := hide hf
  have HA := hide ha
  cases h0 : headB (.mk 18 x m p l) 18 false 0 2
  · rw [show wellB .act (.mk 18 x m p l) = false by rw [HE, h0]; rfl]
    clear HE
    obtain ⟨a, n, c, rfl, hn, hc, hl⟩ := ha.any
    clear hk hf ha IH
    go_enter Tryz.func40, Tryz.ntmps40
    go_wp2_with fail
    go_at_call 16
    refine (head_any (.mk 18 x m p l) _ 18 0 2 false _ (HK.out.kept (by repeat (first | with_reducible exact gb_refl w none | with_reducible refine gb_put ?_ (by omega) _ _ | with_reducible refine gb_alloc ?_ _ | with_reducible refine gb_drewN ?_ _ | with_reducible refine gb_drew ?_))) HF.out (HA.out.kept (by repeat (first | with_reducible exact gb_refl w none | with_reducible refine gb_put ?_ (by omega) _ _ | with_reducible refine gb_alloc ?_ _ | with_reducible refine gb_drewN ?_ _ | with_reducible refine gb_drew ?_)))).mono ?_
    rintro e w1 ⟨rfl, hg1⟩
    rw [h0]
    have G1 : Hid (w.grownBy w1 none) := gb_trans (gb_alloc (gb_refl w none) _) hg1
    have B1 := hide ((Box.new w (.mk 18 x m p l) (.slice a n c) 24).kept hg1)
    obtain ⟨b0_1, b1_1, b2_1, b3_1, b4_1⟩ := B1.out
    go_wp2_with fail
    go_ret
    exact ⟨rfl, G1.out⟩
  · obtain ⟨g, o, c, u, su, v, sw, rfl, hn, hc, hl, n5, fu, au, n6, fv, av⟩ := ha.two (head_len (n := 2) h0)
    change l = [u, v] at hl
    subst hl
    have N0 := hide n5
    have HU := hide fu
    have AU := hide au
    have N1 := hide n6
    have HV := hide fv
    have AV := hide av
    have IU := hide (IH u (by simp))
    have IV := hide (IH v (by simp))
    clear IH
    clear hk hf ha fu au n5 fv av n6
    cases h1 : wellB (.list .act) u
    · skip
      rw [show wellB .act (.mk 18 x m p [u, v]) = false by rw [HE, h0]; simp [zipR, h1]]
      clear HE
      go_enter Tryz.func40, Tryz.ntmps40
      go_wp2_with fail
      go_at_call 16
      refine (head_any (.mk 18 x m p [u, v]) _ 18 0 2 false _ (HK.out.kept (by repeat (first | with_reducible exact gb_refl w none | with_reducible refine gb_put ?_ (by omega) _ _ | with_reducible refine gb_alloc ?_ _ | with_reducible refine gb_drewN ?_ _ | with_reducible refine gb_drew ?_))) HF.out (HA.out.kept (by repeat (first | with_reducible exact gb_refl w none | with_reducible refine gb_put ?_ (by omega) _ _ | with_reducible refine gb_alloc ?_ _ | with_reducible refine gb_drewN ?_ _ | with_reducible refine gb_drew ?_)))).mono ?_
      rintro e w1 ⟨rfl, hg1⟩
      rw [h0]
      have G1 : Hid (w.grownBy w1 none) := gb_trans (gb_alloc (gb_refl w none) _) hg1
      have B1 := hide ((Box.new w (.mk 18 x m p [u, v]) (.slice (some ⟨g, o, none⟩) 2 c) 24).kept hg1)
      obtain ⟨b0_1, b1_1, b2_1, b3_1, b4_1⟩ := B1.out
      obtain ⟨c0_1_0, c1_1_0, c2_1_0, c3_1_0, c4_1_0⟩ := N0.out.kept G1.out
      obtain ⟨c0_1_1, c1_1_1, c2_1_1, c3_1_1, c4_1_1⟩ := N1.out.kept G1.out
      go_wp2_with fail
      go_at_call 18
      refine (IU.out.stmts _ _ (HK.out.kept G1.out) HU.out (AU.out.kept G1.out)).mono ?_
      rintro e w2 ⟨rfl, hg2⟩
      rw [h1]
      have G2 : Hid (w.grownBy w2 none) := gb_trans G1.out hg2
      have B2 := hide (B1.out.kept hg2)
      obtain ⟨b0_2, b1_2, b2_2, b3_2, b4_2⟩ := B2.out
      obtain ⟨c0_2_0, c1_2_0, c2_2_0, c3_2_0, c4_2_0⟩ := N0.out.kept G2.out
      obtain ⟨c0_2_1, c1_2_1, c2_2_1, c3_2_1, c4_2_1⟩ := N1.out.kept G2.out
      go_wp2_with fail
      go_ret
      exact ⟨rfl, G2.out⟩
    · skip
      cases h2 : wellB .expression v
      · skip
        rw [show wellB .act (.mk 18 x m p [u, v]) = false by rw [HE, h0]; simp [zipR, h1, h2]]
        clear HE
        go_enter Tryz.func40, Tryz.ntmps40
        go_wp2_with fail
        go_at_call 16
        refine (head_any (.mk 18 x m p [u, v]) _ 18 0 2 false _ (HK.out.kept (by repeat (first | with_reducible exact gb_refl w none | with_reducible refine gb_put ?_ (by omega) _ _ | with_reducible refine gb_alloc ?_ _ | with_reducible refine gb_drewN ?_ _ | with_reducible refine gb_drew ?_))) HF.out (HA.out.kept (by repeat (first | with_reducible exact gb_refl w none | with_reducible refine gb_put ?_ (by omega) _ _ | with_reducible refine gb_alloc ?_ _ | with_reducible refine gb_drewN ?_ _ | with_reducible refine gb_drew ?_)))).mono ?_
        rintro e w1 ⟨rfl, hg1⟩
        rw [h0]
        have G1 : Hid (w.grownBy w1 none) := gb_trans (gb_alloc (gb_refl w none) _) hg1
        have B1 := hide ((Box.new w (.mk 18 x m p [u, v]) (.slice (some ⟨g, o, none⟩) 2 c) 24).kept hg1)
        obtain ⟨b0_1, b1_1, b2_1, b3_1, b4_1⟩ := B1.out
        obtain ⟨c0_1_0, c1_1_0, c2_1_0, c3_1_0, c4_1_0⟩ := N0.out.kept G1.out
        obtain ⟨c0_1_1, c1_1_1, c2_1_1, c3_1_1, c4_1_1⟩ := N1.out.kept G1.out
        go_wp2_with fail
        go_at_call 18
        refine (IU.out.stmts _ _ (HK.out.kept G1.out) HU.out (AU.out.kept G1.out)).mono ?_
        rintro e w2 ⟨rfl, hg2⟩
        rw [h1]
        have G2 : Hid (w.grownBy w2 none) := gb_trans G1.out hg2
        have B2 := hide (B1.out.kept hg2)
        obtain ⟨b0_2, b1_2, b2_2, b3_2, b4_2⟩ := B2.out
        obtain ⟨c0_2_0, c1_2_0, c2_2_0, c3_2_0, c4_2_0⟩ := N0.out.kept G2.out
        obtain ⟨c0_2_1, c1_2_1, c2_2_1, c3_2_1, c4_2_1⟩ := N1.out.kept G2.out
        go_wp2_with fail
        go_at_call 37
        refine ((sh_all _).expr _ _ (HK.out.kept G2.out) HV.out (AV.out.kept G2.out)).mono ?_
        rintro e w3 ⟨rfl, hg3⟩
        rw [h2]
        have G3 : Hid (w.grownBy w3 none) := gb_trans G2.out hg3
        have B3 := hide (B2.out.kept hg3)
        obtain ⟨b0_3, b1_3, b2_3, b3_3, b4_3⟩ := B3.out
        obtain ⟨c0_3_0, c1_3_0, c2_3_0, c3_3_0, c4_3_0⟩ := N0.out.kept G3.out
        obtain ⟨c0_3_1, c1_3_1, c2_3_1, c3_3_1, c4_3_1⟩ := N1.out.kept G3.out
        go_wp2_with fail
        go_ret
        exact ⟨rfl, G3.out⟩
      · skip
        rw [show wellB .act (.mk 18 x m p [u, v]) = true by rw [HE, h0]; simp [zipR, h1, h2]]
        clear HE
        go_enter Tryz.func40, Tryz.ntmps40
        go_wp2_with fail
        go_at_call 16
        refine (head_any (.mk 18 x m p [u, v]) _ 18 0 2 false _ (HK.out.kept (by repeat (first | with_reducible exact gb_refl w none | with_reducible refine gb_put ?_ (by omega) _ _ | with_reducible refine gb_alloc ?_ _ | with_reducible refine gb_drewN ?_ _ | with_reducible refine gb_drew ?_))) HF.out (HA.out.kept (by repeat (first | with_reducible exact gb_refl w none | with_reducible refine gb_put ?_ (by omega) _ _ | with_reducible refine gb_alloc ?_ _ | with_reducible refine gb_drewN ?_ _ | with_reducible refine gb_drew ?_)))).mono ?_
        rintro e w1 ⟨rfl, hg1⟩
        rw [h0]
        have G1 : Hid (w.grownBy w1 none) := gb_trans (gb_alloc (gb_refl w none) _) hg1
        have B1 := hide ((Box.new w (.mk 18 x m p [u, v]) (.slice (some ⟨g, o, none⟩) 2 c) 24).kept hg1)
        obtain ⟨b0_1, b1_1, b2_1, b3_1, b4_1⟩ := B1.out
        obtain ⟨c0_1_0, c1_1_0, c2_1_0, c3_1_0, c4_1_0⟩ := N0.out.kept G1.out
        obtain ⟨c0_1_1, c1_1_1, c2_1_1, c3_1_1, c4_1_1⟩ := N1.out.kept G1.out
        go_wp2_with fail
        go_at_call 18
        refine (IU.out.stmts _ _ (HK.out.kept G1.out) HU.out (AU.out.kept G1.out)).mono ?_
        rintro e w2 ⟨rfl, hg2⟩
        rw [h1]
        have G2 : Hid (w.grownBy w2 none) := gb_trans G1.out hg2
        have B2 := hide (B1.out.kept hg2)
        obtain ⟨b0_2, b1_2, b2_2, b3_2, b4_2⟩ := B2.out
        obtain ⟨c0_2_0, c1_2_0, c2_2_0, c3_2_0, c4_2_0⟩ := N0.out.kept G2.out
        obtain ⟨c0_2_1, c1_2_1, c2_2_1, c3_2_1, c4_2_1⟩ := N1.out.kept G2.out
        go_wp2_with fail
        go_at_call 37
        refine ((sh_all _).expr _ _ (HK.out.kept G2.out) HV.out (AV.out.kept G2.out)).mono ?_
        rintro e w3 ⟨rfl, hg3⟩
        rw [h2]
        have G3 : Hid (w.grownBy w3 none) := gb_trans G2.out hg3
        have B3 := hide (B2.out.kept hg3)
        obtain ⟨b0_3, b1_3, b2_3, b3_3, b4_3⟩ := B3.out
        obtain ⟨c0_3_0, c1_3_0, c2_3_0, c3_3_0, c4_3_0⟩ := N0.out.kept G3.out
        obtain ⟨c0_3_1, c1_3_1, c2_3_1, c3_3_1, c4_3_1⟩ := N1.out.kept G3.out
        go_wp2_with fail
        go_ret
        exact ⟨rfl, G3.out⟩
set_option maxRecDepth 1000000 in
set_option maxHeartbeats 1000000 in
theorem stmt20 (x : List UInt8) (m p : Int) (l : List T) (sv : Value) (w : World) (hk : KW w) (hf : Fits (.mk 20 x m p l)) (ha : AT w (T.mk 20 x m p l).subs sv) (IH : ∀ u, u ∈ l → AcOK u) :
    Calls Tryz.prog 40 #[.agg #[.int .i64 20, .string ⟨x.toArray⟩, .int .i64 m, .int .i64 p, sv]] w (Sy w (.bool (wellB .act (.mk 20 x m p l)))) := by
  have HE := wellB_only (r := .act) (t := (.mk 20 x m p l)) (c := headB (.mk 20 x m p l) 20 false 0 1) (l := zipR l [.designator]) rfl
  have HK := hide hk
  have HF := hide hf
  have HA := hide ha
  cases h0 : headB (.mk 20 x m p l) 20 false 0 1
  · rw [show wellB .act (.mk 20 x m p l) = false by rw [HE, h0]; rfl]
    clear HE
    obtain ⟨a, n, c, rfl, hn, hc, hl⟩ := ha.any
    clear hk hf ha IH
    go_enter Tryz.func40, Tryz.ntmps40
    go_wp2_with fail
    go_at_call 16
    refine (head_any (.mk 20 x m p l) _ 20 0 1 false _ (HK.out.kept (by repeat (first | with_reducible exact gb_refl w none | with_reducible refine gb_put ?_ (by omega) _ _ | with_reducible refine gb_alloc ?_ _ | with_reducible refine gb_drewN ?_ _ | with_reducible refine gb_drew ?_))) HF.out (HA.out.kept (by repeat (first | with_reducible exact gb_refl w none | with_reducible refine gb_put ?_ (by omega) _ _ | with_reducible refine gb_alloc ?_ _ | with_reducible refine gb_drewN ?_ _ | with_reducible refine gb_drew ?_)))).mono ?_
    rintro e w1 ⟨rfl, hg1⟩
    rw [h0]
    have G1 : Hid (w.grownBy w1 none) := gb_trans (gb_alloc (gb_refl w none) _) hg1
    have B1 := hide ((Box.new w (.mk 20 x m p l) (.slice a n c) 24).kept hg1)
    obtain ⟨b0_1, b1_1, b2_1, b3_1, b4_1⟩ := B1.out
    go_wp2_with fail
    go_ret
    exact ⟨rfl, G1.out⟩
  · obtain ⟨g, o, c, u, su, rfl, hn, hc, hl, n5, fu, au⟩ := ha.one (head_len (n := 1) h0)
    change l = [u] at hl
    subst hl
    have N0 := hide n5
    have HU := hide fu
    have AU := hide au
    clear IH
    clear hk hf ha fu au n5
    cases h1 : wellB .designator u
    · skip
      rw [show wellB .act (.mk 20 x m p [u]) = false by rw [HE, h0]; simp [zipR, h1]]
      clear HE
      go_enter Tryz.func40, Tryz.ntmps40
      go_wp2_with fail
      go_at_call 16
      refine (head_any (.mk 20 x m p [u]) _ 20 0 1 false _ (HK.out.kept (by repeat (first | with_reducible exact gb_refl w none | with_reducible refine gb_put ?_ (by omega) _ _ | with_reducible refine gb_alloc ?_ _ | with_reducible refine gb_drewN ?_ _ | with_reducible refine gb_drew ?_))) HF.out (HA.out.kept (by repeat (first | with_reducible exact gb_refl w none | with_reducible refine gb_put ?_ (by omega) _ _ | with_reducible refine gb_alloc ?_ _ | with_reducible refine gb_drewN ?_ _ | with_reducible refine gb_drew ?_)))).mono ?_
      rintro e w1 ⟨rfl, hg1⟩
      rw [h0]
      have G1 : Hid (w.grownBy w1 none) := gb_trans (gb_alloc (gb_refl w none) _) hg1
      have B1 := hide ((Box.new w (.mk 20 x m p [u]) (.slice (some ⟨g, o, none⟩) 1 c) 24).kept hg1)
      obtain ⟨b0_1, b1_1, b2_1, b3_1, b4_1⟩ := B1.out
      obtain ⟨c0_1_0, c1_1_0, c2_1_0, c3_1_0, c4_1_0⟩ := N0.out.kept G1.out
      go_wp2_with fail
      go_at_call 71
      refine ((sh_all _).desig _ _ (HK.out.kept G1.out) HU.out (AU.out.kept G1.out)).mono ?_
      rintro e w2 ⟨rfl, hg2⟩
      rw [h1]
      have G2 : Hid (w.grownBy w2 none) := gb_trans G1.out hg2
      have B2 := hide (B1.out.kept hg2)
      obtain ⟨b0_2, b1_2, b2_2, b3_2, b4_2⟩ := B2.out
      obtain ⟨c0_2_0, c1_2_0, c2_2_0, c3_2_0, c4_2_0⟩ := N0.out.kept G2.out
      go_wp2_with fail
      go_ret
      exact ⟨rfl, G2.out⟩
    · skip
      rw [show wellB .act (.mk 20 x m p [u]) = true by rw [HE, h0]; simp [zipR, h1]]
      clear HE
      go_enter Tryz.func40, Tryz.ntmps40
      go_wp2_with fail
      go_at_call 16
      refine (head_any (.mk 20 x m p [u]) _ 20 0 1 false _ (HK.out.kept (by repeat (first | with_reducible exact gb_refl w none | with_reducible refine gb_put ?_ (by omega) _ _ | with_reducible refine gb_alloc ?_ _ | with_reducible refine gb_drewN ?_ _ | with_reducible refine gb_drew ?_))) HF.out (HA.out.kept (by repeat (first | with_reducible exact gb_refl w none | with_reducible refine gb_put ?_ (by omega) _ _ | with_reducible refine gb_alloc ?_ _ | with_reducible refine gb_drewN ?_ _ | with_reducible refine gb_drew ?_)))).mono ?_
      rintro e w1 ⟨rfl, hg1⟩
      rw [h0]
      have G1 : Hid (w.grownBy w1 none) := gb_trans (gb_alloc (gb_refl w none) _) hg1
      have B1 := hide ((Box.new w (.mk 20 x m p [u]) (.slice (some ⟨g, o, none⟩) 1 c) 24).kept hg1)
      obtain ⟨b0_1, b1_1, b2_1, b3_1, b4_1⟩ := B1.out
      obtain ⟨c0_1_0, c1_1_0, c2_1_0, c3_1_0, c4_1_0⟩ := N0.out.kept G1.out
      go_wp2_with fail
      go_at_call 71
      refine ((sh_all _).desig _ _ (HK.out.kept G1.out) HU.out (AU.out.kept G1.out)).mono ?_
      rintro e w2 ⟨rfl, hg2⟩
      rw [h1]
      have G2 : Hid (w.grownBy w2 none) := gb_trans G1.out hg2
      have B2 := hide (B1.out.kept hg2)
      obtain ⟨b0_2, b1_2, b2_2, b3_2, b4_2⟩ := B2.out
      obtain ⟨c0_2_0, c1_2_0, c2_2_0, c3_2_0, c4_2_0⟩ := N0.out.kept G2.out
      go_wp2_with fail
      go_ret
      exact ⟨rfl, G2.out⟩
set_option maxRecDepth 1000000 in
set_option maxHeartbeats 1000000 in
theorem stmt22 (x : List UInt8) (m p : Int) (l : List T) (sv : Value) (w : World) (hk : KW w) (hf : Fits (.mk 22 x m p l)) (ha : AT w (T.mk 22 x m p l).subs sv) (IH : ∀ u, u ∈ l → AcOK u) :
    Calls Tryz.prog 40 #[.agg #[.int .i64 22, .string ⟨x.toArray⟩, .int .i64 m, .int .i64 p, sv]] w (Sy w (.bool (wellB .act (.mk 22 x m p l)))) := by
  have HE := wellB_only (r := .act) (t := (.mk 22 x m p l)) (c := headB (.mk 22 x m p l) 22 false 0 1) (l := zipR l [.designator]) rfl
  have HK := hide hk
  have HF := hide hf
  have HA := hide ha
  cases h0 : headB (.mk 22 x m p l) 22 false 0 1
  · rw [show wellB .act (.mk 22 x m p l) = false by rw [HE, h0]; rfl]
    clear HE
    obtain ⟨a, n, c, rfl, hn, hc, hl⟩ := ha.any
    clear hk hf ha IH
    go_enter Tryz.func40, Tryz.ntmps40
    go_wp2_with fail
    go_at_call 16
    refine (head_any (.mk 22 x m p l) _ 22 0 1 false _ (HK.out.kept (by repeat (first | with_reducible exact gb_refl w none | with_reducible refine gb_put ?_ (by omega) _ _ | with_reducible refine gb_alloc ?_ _ | with_reducible refine gb_drewN ?_ _ | with_reducible refine gb_drew ?_))) HF.out (HA.out.kept (by repeat (first | with_reducible exact gb_refl w none | with_reducible refine gb_put ?_ (by omega) _ _ | with_reducible refine gb_alloc ?_ _ | with_reducible refine gb_drewN ?_ _ | with_reducible refine gb_drew ?_)))).mono ?_
    rintro e w1 ⟨rfl, hg1⟩
    rw [h0]
    have G1 : Hid (w.grownBy w1 none) := gb_trans (gb_alloc (gb_refl w none) _) hg1
    have B1 := hide ((Box.new w (.mk 22 x m p l) (.slice a n c) 24).kept hg1)
    obtain ⟨b0_1, b1_1, b2_1, b3_1, b4_1⟩ := B1.out
    go_wp2_with fail
    go_ret
    exact ⟨rfl, G1.out⟩
  · obtain ⟨g, o, c, u, su, rfl, hn, hc, hl, n5, fu, au⟩ := ha.one (head_len (n := 1) h0)
    change l = [u] at hl
    subst hl
    have N0 := hide n5
    have HU := hide fu
    have AU := hide au
    clear IH
    clear hk hf ha fu au n5
    cases h1 : wellB .designator u
    · skip
      rw [show wellB .act (.mk 22 x m p [u]) = false by rw [HE, h0]; simp [zipR, h1]]
      clear HE
      go_enter Tryz.func40, Tryz.ntmps40
      go_wp2_with fail
      go_at_call 16
      refine (head_any (.mk 22 x m p [u]) _ 22 0 1 false _ (HK.out.kept (by repeat (first | with_reducible exact gb_refl w none | with_reducible refine gb_put ?_ (by omega) _ _ | with_reducible refine gb_alloc ?_ _ | with_reducible refine gb_drewN ?_ _ | with_reducible refine gb_drew ?_))) HF.out (HA.out.kept (by repeat (first | with_reducible exact gb_refl w none | with_reducible refine gb_put ?_ (by omega) _ _ | with_reducible refine gb_alloc ?_ _ | with_reducible refine gb_drewN ?_ _ | with_reducible refine gb_drew ?_)))).mono ?_
      rintro e w1 ⟨rfl, hg1⟩
      rw [h0]
      have G1 : Hid (w.grownBy w1 none) := gb_trans (gb_alloc (gb_refl w none) _) hg1
      have B1 := hide ((Box.new w (.mk 22 x m p [u]) (.slice (some ⟨g, o, none⟩) 1 c) 24).kept hg1)
      obtain ⟨b0_1, b1_1, b2_1, b3_1, b4_1⟩ := B1.out
      obtain ⟨c0_1_0, c1_1_0, c2_1_0, c3_1_0, c4_1_0⟩ := N0.out.kept G1.out
      go_wp2_with fail
      go_at_call 71
      refine ((sh_all _).desig _ _ (HK.out.kept G1.out) HU.out (AU.out.kept G1.out)).mono ?_
      rintro e w2 ⟨rfl, hg2⟩
      rw [h1]
      have G2 : Hid (w.grownBy w2 none) := gb_trans G1.out hg2
      have B2 := hide (B1.out.kept hg2)
      obtain ⟨b0_2, b1_2, b2_2, b3_2, b4_2⟩ := B2.out
      obtain ⟨c0_2_0, c1_2_0, c2_2_0, c3_2_0, c4_2_0⟩ := N0.out.kept G2.out
      go_wp2_with fail
      go_ret
      exact ⟨rfl, G2.out⟩
    · skip
      rw [show wellB .act (.mk 22 x m p [u]) = true by rw [HE, h0]; simp [zipR, h1]]
      clear HE
      go_enter Tryz.func40, Tryz.ntmps40
      go_wp2_with fail
      go_at_call 16
      refine (head_any (.mk 22 x m p [u]) _ 22 0 1 false _ (HK.out.kept (by repeat (first | with_reducible exact gb_refl w none | with_reducible refine gb_put ?_ (by omega) _ _ | with_reducible refine gb_alloc ?_ _ | with_reducible refine gb_drewN ?_ _ | with_reducible refine gb_drew ?_))) HF.out (HA.out.kept (by repeat (first | with_reducible exact gb_refl w none | with_reducible refine gb_put ?_ (by omega) _ _ | with_reducible refine gb_alloc ?_ _ | with_reducible refine gb_drewN ?_ _ | with_reducible refine gb_drew ?_)))).mono ?_
      rintro e w1 ⟨rfl, hg1⟩
      rw [h0]
      have G1 : Hid (w.grownBy w1 none) := gb_trans (gb_alloc (gb_refl w none) _) hg1
      have B1 := hide ((Box.new w (.mk 22 x m p [u]) (.slice (some ⟨g, o, none⟩) 1 c) 24).kept hg1)
      obtain ⟨b0_1, b1_1, b2_1, b3_1, b4_1⟩ := B1.out
      obtain ⟨c0_1_0, c1_1_0, c2_1_0, c3_1_0, c4_1_0⟩ := N0.out.kept G1.out
      go_wp2_with fail
      go_at_call 71
      refine ((sh_all _).desig _ _ (HK.out.kept G1.out) HU.out (AU.out.kept G1.out)).mono ?_
      rintro e w2 ⟨rfl, hg2⟩
      rw [h1]
      have G2 : Hid (w.grownBy w2 none) := gb_trans G1.out hg2
      have B2 := hide (B1.out.kept hg2)
      obtain ⟨b0_2, b1_2, b2_2, b3_2, b4_2⟩ := B2.out
      obtain ⟨c0_2_0, c1_2_0, c2_2_0, c3_2_0, c4_2_0⟩ := N0.out.kept G2.out
      go_wp2_with fail
      go_ret
      exact ⟨rfl, G2.out⟩
set_option maxRecDepth 1000000 in
set_option maxHeartbeats 1000000 in
theorem stmt21 (x : List UInt8) (m p : Int) (l : List T) (sv : Value) (w : World) (hk : KW w) (hf : Fits (.mk 21 x m p l)) (ha : AT w (T.mk 21 x m p l).subs sv) (IH : ∀ u, u ∈ l → AcOK u) :
    Calls Tryz.prog 40 #[.agg #[.int .i64 21, .string ⟨x.toArray⟩, .int .i64 m, .int .i64 p, sv]] w (Sy w (.bool (wellB .act (.mk 21 x m p l)))) := by
  have HE := wellB_only (r := .act) (t := (.mk 21 x m p l)) (c := headB (.mk 21 x m p l) 21 false 0 1) (l := zipR l [.expression]) rfl
  have HK := hide hk
  have HF := hide hf
  have HA := hide ha
  cases h0 : headB (.mk 21 x m p l) 21 false 0 1
  · rw [show wellB .act (.mk 21 x m p l) = false by rw [HE, h0]; rfl]
    clear HE
    obtain ⟨a, n, c, rfl, hn, hc, hl⟩ := ha.any
    clear hk hf ha IH
    go_enter Tryz.func40, Tryz.ntmps40
    go_wp2_with fail
    go_at_call 16
    refine (head_any (.mk 21 x m p l) _ 21 0 1 false _ (HK.out.kept (by repeat (first | with_reducible exact gb_refl w none | with_reducible refine gb_put ?_ (by omega) _ _ | with_reducible refine gb_alloc ?_ _ | with_reducible refine gb_drewN ?_ _ | with_reducible refine gb_drew ?_))) HF.out (HA.out.kept (by repeat (first | with_reducible exact gb_refl w none | with_reducible refine gb_put ?_ (by omega) _ _ | with_reducible refine gb_alloc ?_ _ | with_reducible refine gb_drewN ?_ _ | with_reducible refine gb_drew ?_)))).mono ?_
    rintro e w1 ⟨rfl, hg1⟩
    rw [h0]
    have G1 : Hid (w.grownBy w1 none) := gb_trans (gb_alloc (gb_refl w none) _) hg1
    have B1 := hide ((Box.new w (.mk 21 x m p l) (.slice a n c) 24).kept hg1)
    obtain ⟨b0_1, b1_1, b2_1, b3_1, b4_1⟩ := B1.out
    go_wp2_with fail
    go_ret
    exact ⟨rfl, G1.out⟩
  · obtain ⟨g, o, c, u, su, rfl, hn, hc, hl, n5, fu, au⟩ := ha.one (head_len (n := 1) h0)
    change l = [u] at hl
    subst hl
    have N0 := hide n5
    have HU := hide fu
    have AU := hide au
    clear IH
    clear hk hf ha fu au n5
    cases h1 : wellB .expression u
    · skip
      rw [show wellB .act (.mk 21 x m p [u]) = false by rw [HE, h0]; simp [zipR, h1]]
      clear HE
      go_enter Tryz.func40, Tryz.ntmps40
      go_wp2_with fail
      go_at_call 16
      refine (head_any (.mk 21 x m p [u]) _ 21 0 1 false _ (HK.out.kept (by repeat (first | with_reducible exact gb_refl w none | with_reducible refine gb_put ?_ (by omega) _ _ | with_reducible refine gb_alloc ?_ _ | with_reducible refine gb_drewN ?_ _ | with_reducible refine gb_drew ?_))) HF.out (HA.out.kept (by repeat (first | with_reducible exact gb_refl w none | with_reducible refine gb_put ?_ (by omega) _ _ | with_reducible refine gb_alloc ?_ _ | with_reducible refine gb_drewN ?_ _ | with_reducible refine gb_drew ?_)))).mono ?_
      rintro e w1 ⟨rfl, hg1⟩
      rw [h0]
      have G1 : Hid (w.grownBy w1 none) := gb_trans (gb_alloc (gb_refl w none) _) hg1
      have B1 := hide ((Box.new w (.mk 21 x m p [u]) (.slice (some ⟨g, o, none⟩) 1 c) 24).kept hg1)
      obtain ⟨b0_1, b1_1, b2_1, b3_1, b4_1⟩ := B1.out
      obtain ⟨c0_1_0, c1_1_0, c2_1_0, c3_1_0, c4_1_0⟩ := N0.out.kept G1.out
      go_wp2_with fail
      go_at_call 37
      refine ((sh_all _).expr _ _ (HK.out.kept G1.out) HU.out (AU.out.kept G1.out)).mono ?_
      rintro e w2 ⟨rfl, hg2⟩
      rw [h1]
      have G2 : Hid (w.grownBy w2 none) := gb_trans G1.out hg2
      have B2 := hide (B1.out.kept hg2)
      obtain ⟨b0_2, b1_2, b2_2, b3_2, b4_2⟩ := B2.out
      obtain ⟨c0_2_0, c1_2_0, c2_2_0, c3_2_0, c4_2_0⟩ := N0.out.kept G2.out
      go_wp2_with fail
      go_ret
      exact ⟨rfl, G2.out⟩
    · skip
      rw [show wellB .act (.mk 21 x m p [u]) = true by rw [HE, h0]; simp [zipR, h1]]
      clear HE
      go_enter Tryz.func40, Tryz.ntmps40
      go_wp2_with fail
      go_at_call 16
      refine (head_any (.mk 21 x m p [u]) _ 21 0 1 false _ (HK.out.kept (by repeat (first | with_reducible exact gb_refl w none | with_reducible refine gb_put ?_ (by omega) _ _ | with_reducible refine gb_alloc ?_ _ | with_reducible refine gb_drewN ?_ _ | with_reducible refine gb_drew ?_))) HF.out (HA.out.kept (by repeat (first | with_reducible exact gb_refl w none | with_reducible refine gb_put ?_ (by omega) _ _ | with_reducible refine gb_alloc ?_ _ | with_reducible refine gb_drewN ?_ _ | with_reducible refine gb_drew ?_)))).mono ?_
      rintro e w1 ⟨rfl, hg1⟩
      rw [h0]
      have G1 : Hid (w.grownBy w1 none) := gb_trans (gb_alloc (gb_refl w none) _) hg1
      have B1 := hide ((Box.new w (.mk 21 x m p [u]) (.slice (some ⟨g, o, none⟩) 1 c) 24).kept hg1)
      obtain ⟨b0_1, b1_1, b2_1, b3_1, b4_1⟩ := B1.out
      obtain ⟨c0_1_0, c1_1_0, c2_1_0, c3_1_0, c4_1_0⟩ := N0.out.kept G1.out
      go_wp2_with fail
      go_at_call 37
      refine ((sh_all _).expr _ _ (HK.out.kept G1.out) HU.out (AU.out.kept G1.out)).mono ?_
      rintro e w2 ⟨rfl, hg2⟩
      rw [h1]
      have G2 : Hid (w.grownBy w2 none) := gb_trans G1.out hg2
      have B2 := hide (B1.out.kept hg2)
      obtain ⟨b0_2, b1_2, b2_2, b3_2, b4_2⟩ := B2.out
      obtain ⟨c0_2_0, c1_2_0, c2_2_0, c3_2_0, c4_2_0⟩ := N0.out.kept G2.out
      go_wp2_with fail
      go_ret
      exact ⟨rfl, G2.out⟩
set_option maxRecDepth 1000000 in
set_option maxHeartbeats 1000000 in
theorem stmt23 (x : List UInt8) (m p : Int) (l : List T) (sv : Value) (w : World) (hk : KW w) (hf : Fits (.mk 23 x m p l)) (ha : AT w (T.mk 23 x m p l).subs sv) (IH : ∀ u, u ∈ l → AcOK u) :
    Calls Tryz.prog 40 #[.agg #[.int .i64 23, .string ⟨x.toArray⟩, .int .i64 m, .int .i64 p, sv]] w (Sy w (.bool (wellB .act (.mk 23 x m p l)))) := by
  have HE := wellB_only (r := .act) (t := (.mk 23 x m p l)) (c := headB (.mk 23 x m p l) 23 false 0 1) (l := zipR l [.expression]) rfl
  have HK := hide hk
  have HF := hide hf
  have HA := hide ha
  cases h0 : headB (.mk 23 x m p l) 23 false 0 1
  · rw [show wellB .act (.mk 23 x m p l) = false by rw [HE, h0]; rfl]
    clear HE
    obtain ⟨a, n, c, rfl, hn, hc, hl⟩ := ha.any
    clear hk hf ha IH
    go_enter Tryz.func40, Tryz.ntmps40
    go_wp2_with fail
    go_at_call 16
    refine (head_any (.mk 23 x m p l) _ 23 0 1 false _ (HK.out.kept (by repeat (first | with_reducible exact gb_refl w none | with_reducible refine gb_put ?_ (by omega) _ _ | with_reducible refine gb_alloc ?_ _ | with_reducible refine gb_drewN ?_ _ | with_reducible refine gb_drew ?_))) HF.out (HA.out.kept (by repeat (first | with_reducible exact gb_refl w none | with_reducible refine gb_put ?_ (by omega) _ _ | with_reducible refine gb_alloc ?_ _ | with_reducible refine gb_drewN ?_ _ | with_reducible refine gb_drew ?_)))).mono ?_
    rintro e w1 ⟨rfl, hg1⟩
    rw [h0]
    have G1 : Hid (w.grownBy w1 none) := gb_trans (gb_alloc (gb_refl w none) _) hg1
    have B1 := hide ((Box.new w (.mk 23 x m p l) (.slice a n c) 24).kept hg1)
    obtain ⟨b0_1, b1_1, b2_1, b3_1, b4_1⟩ := B1.out
    go_wp2_with fail
    go_ret
    exact ⟨rfl, G1.out⟩
  · obtain ⟨g, o, c, u, su, rfl, hn, hc, hl, n5, fu, au⟩ := ha.one (head_len (n := 1) h0)
    change l = [u] at hl
    subst hl
    have N0 := hide n5
    have HU := hide fu
    have AU := hide au
    clear IH
    clear hk hf ha fu au n5
    cases h1 : wellB .expression u
    · skip
      rw [show wellB .act (.mk 23 x m p [u]) = false by rw [HE, h0]; simp [zipR, h1]]
      clear HE
      go_enter Tryz.func40, Tryz.ntmps40
      go_wp2_with fail
      go_at_call 16
      refine (head_any (.mk 23 x m p [u]) _ 23 0 1 false _ (HK.out.kept (by repeat (first | with_reducible exact gb_refl w none | with_reducible refine gb_put ?_ (by omega) _ _ | with_reducible refine gb_alloc ?_ _ | with_reducible refine gb_drewN ?_ _ | with_reducible refine gb_drew ?_))) HF.out (HA.out.kept (by repeat (first | with_reducible exact gb_refl w none | with_reducible refine gb_put ?_ (by omega) _ _ | with_reducible refine gb_alloc ?_ _ | with_reducible refine gb_drewN ?_ _ | with_reducible refine gb_drew ?_)))).mono ?_
      rintro e w1 ⟨rfl, hg1⟩
      rw [h0]
      have G1 : Hid (w.grownBy w1 none) := gb_trans (gb_alloc (gb_refl w none) _) hg1
      have B1 := hide ((Box.new w (.mk 23 x m p [u]) (.slice (some ⟨g, o, none⟩) 1 c) 24).kept hg1)
      obtain ⟨b0_1, b1_1, b2_1, b3_1, b4_1⟩ := B1.out
      obtain ⟨c0_1_0, c1_1_0, c2_1_0, c3_1_0, c4_1_0⟩ := N0.out.kept G1.out
      go_wp2_with fail
      go_at_call 37
      refine ((sh_all _).expr _ _ (HK.out.kept G1.out) HU.out (AU.out.kept G1.out)).mono ?_
      rintro e w2 ⟨rfl, hg2⟩
      rw [h1]
      have G2 : Hid (w.grownBy w2 none) := gb_trans G1.out hg2
      have B2 := hide (B1.out.kept hg2)
      obtain ⟨b0_2, b1_2, b2_2, b3_2, b4_2⟩ := B2.out
      obtain ⟨c0_2_0, c1_2_0, c2_2_0, c3_2_0, c4_2_0⟩ := N0.out.kept G2.out
      go_wp2_with fail
      go_ret
      exact ⟨rfl, G2.out⟩
    · skip
      rw [show wellB .act (.mk 23 x m p [u]) = true by rw [HE, h0]; simp [zipR, h1]]
      clear HE
      go_enter Tryz.func40, Tryz.ntmps40
      go_wp2_with fail
      go_at_call 16
      refine (head_any (.mk 23 x m p [u]) _ 23 0 1 false _ (HK.out.kept (by repeat (first | with_reducible exact gb_refl w none | with_reducible refine gb_put ?_ (by omega) _ _ | with_reducible refine gb_alloc ?_ _ | with_reducible refine gb_drewN ?_ _ | with_reducible refine gb_drew ?_))) HF.out (HA.out.kept (by repeat (first | with_reducible exact gb_refl w none | with_reducible refine gb_put ?_ (by omega) _ _ | with_reducible refine gb_alloc ?_ _ | with_reducible refine gb_drewN ?_ _ | with_reducible refine gb_drew ?_)))).mono ?_
      rintro e w1 ⟨rfl, hg1⟩
      rw [h0]
      have G1 : Hid (w.grownBy w1 none) := gb_trans (gb_alloc (gb_refl w none) _) hg1
      have B1 := hide ((Box.new w (.mk 23 x m p [u]) (.slice (some ⟨g, o, none⟩) 1 c) 24).kept hg1)
      obtain ⟨b0_1, b1_1, b2_1, b3_1, b4_1⟩ := B1.out
      obtain ⟨c0_1_0, c1_1_0, c2_1_0, c3_1_0, c4_1_0⟩ := N0.out.kept G1.out
      go_wp2_with fail
      go_at_call 37
      refine ((sh_all _).expr _ _ (HK.out.kept G1.out) HU.out (AU.out.kept G1.out)).mono ?_
      rintro e w2 ⟨rfl, hg2⟩
      rw [h1]
      have G2 : Hid (w.grownBy w2 none) := gb_trans G1.out hg2
      have B2 := hide (B1.out.kept hg2)
      obtain ⟨b0_2, b1_2, b2_2, b3_2, b4_2⟩ := B2.out
      obtain ⟨c0_2_0, c1_2_0, c2_2_0, c3_2_0, c4_2_0⟩ := N0.out.kept G2.out
      go_wp2_with fail
      go_ret
      exact ⟨rfl, G2.out⟩
set_option maxRecDepth 1000000 in
set_option maxHeartbeats 1000000 in
theorem stmt15 (x : List UInt8) (m p : Int) (l : List T) (sv : Value) (w : World) (hk : KW w) (hf : Fits (.mk 15 x m p l)) (ha : AT w (T.mk 15 x m p l).subs sv) (IH : ∀ u, u ∈ l → AcOK u) :
    Calls Tryz.prog 40 #[.agg #[.int .i64 15, .string ⟨x.toArray⟩, .int .i64 m, .int .i64 p, sv]] w (Sy w (.bool (wellB .act (.mk 15 x m p l)))) := by
  have HE := wellB_only (r := .act) (t := (.mk 15 x m p l)) (c := headB (.mk 15 x m p l) 15 false 0 (-1) && decide (0 < l.length)) (l := firstR (.mk 15 x m p l) .designator .expression) rfl
  have HK := hide hk
  have HF := hide hf
  have HA := hide ha
  cases h0 : headB (.mk 15 x m p l) 15 false 0 (-1)
  · rw [show wellB .act (.mk 15 x m p l) = false by rw [HE, h0]; rfl]
    clear HE
    obtain ⟨a, n, c, rfl, hn, hc, hl⟩ := ha.any
    clear hk hf ha IH
    go_enter Tryz.func40, Tryz.ntmps40
    go_wp2_with fail
    go_at_call 16
    refine (head_any (.mk 15 x m p l) _ 15 0 (-1) false _ (HK.out.kept (by repeat (first | with_reducible exact gb_refl w none | with_reducible refine gb_put ?_ (by omega) _ _ | with_reducible refine gb_alloc ?_ _ | with_reducible refine gb_drewN ?_ _ | with_reducible refine gb_drew ?_))) HF.out (HA.out.kept (by repeat (first | with_reducible exact gb_refl w none | with_reducible refine gb_put ?_ (by omega) _ _ | with_reducible refine gb_alloc ?_ _ | with_reducible refine gb_drewN ?_ _ | with_reducible refine gb_drew ?_)))).mono ?_
    rintro e w1 ⟨rfl, hg1⟩
    rw [h0]
    have G1 : Hid (w.grownBy w1 none) := gb_trans (gb_alloc (gb_refl w none) _) hg1
    have B1 := hide ((Box.new w (.mk 15 x m p l) (.slice a n c) 24).kept hg1)
    obtain ⟨b0_1, b1_1, b2_1, b3_1, b4_1⟩ := B1.out
    go_wp2_with fail
    go_ret
    exact ⟨rfl, G1.out⟩
  · match l, ha, HE, h0, HF, HA, IH with
    | [], ha, HE, h0, HF, HA, IH =>
      rw [show wellB .act (.mk 15 x m p []) = false by rw [HE, h0]; rfl]
      clear HE
      obtain ⟨a, c, rfl, hc, _⟩ := ha.zero rfl
      clear hk hf ha IH
      go_enter Tryz.func40, Tryz.ntmps40
      go_wp2_with fail
      go_at_call 16
      refine (head_any (.mk 15 x m p []) _ 15 0 (-1) false _ (HK.out.kept (by repeat (first | with_reducible exact gb_refl w none | with_reducible refine gb_put ?_ (by omega) _ _ | with_reducible refine gb_alloc ?_ _ | with_reducible refine gb_drewN ?_ _ | with_reducible refine gb_drew ?_))) HF.out (HA.out.kept (by repeat (first | with_reducible exact gb_refl w none | with_reducible refine gb_put ?_ (by omega) _ _ | with_reducible refine gb_alloc ?_ _ | with_reducible refine gb_drewN ?_ _ | with_reducible refine gb_drew ?_)))).mono ?_
      rintro e w1 ⟨rfl, hg1⟩
      rw [h0]
      have G1 : Hid (w.grownBy w1 none) := gb_trans (gb_alloc (gb_refl w none) _) hg1
      have B1 := hide ((Box.new w (.mk 15 x m p []) (.slice a 0 c) 24).kept hg1)
      obtain ⟨b0_1, b1_1, b2_1, b3_1, b4_1⟩ := B1.out
      go_wp2_with fail
      go_ret
      exact ⟨rfl, G1.out⟩
    | u :: r, ha, HE, h0, HF, HA, IH =>
      obtain ⟨g, o, c, su, rfl, hn, hc, n5, fu, au, ar⟩ := AT.cons ha
      have N0 := hide n5
      have HU := hide fu
      have AU := hide au
      have IU := hide (IH u (by simp))
      have IR := hide (fun v (hv : v ∈ r) => IH v (List.mem_cons_of_mem _ hv))
      clear hk hf ha IH fu au n5
      rcases Nat.lt_or_ge 1 c with hc1 | hc1
      · have AR := hide ar
        clear ar
        cases h1 : wellB .designator u
        · skip
          rw [show wellB .act (.mk 15 x m p (u :: r)) = false by rw [HE, h0]; simp [firstR, eachR, T.subs, List.all_map, Function.comp_def, h1]]
          clear HE
          go_enter Tryz.func40, Tryz.ntmps40
          go_wp2_with fail
          go_at_call 16
          refine (head_any (.mk 15 x m p (u :: r)) _ 15 0 (-1) false _ (HK.out.kept (by repeat (first | with_reducible exact gb_refl w none | with_reducible refine gb_put ?_ (by omega) _ _ | with_reducible refine gb_alloc ?_ _ | with_reducible refine gb_drewN ?_ _ | with_reducible refine gb_drew ?_))) HF.out (HA.out.kept (by repeat (first | with_reducible exact gb_refl w none | with_reducible refine gb_put ?_ (by omega) _ _ | with_reducible refine gb_alloc ?_ _ | with_reducible refine gb_drewN ?_ _ | with_reducible refine gb_drew ?_)))).mono ?_
          rintro e w1 ⟨rfl, hg1⟩
          rw [h0]
          have G1 : Hid (w.grownBy w1 none) := gb_trans (gb_alloc (gb_refl w none) _) hg1
          have B1 := hide ((Box.new w (.mk 15 x m p (u :: r)) (.slice (some ⟨g, o, none⟩) (r.length + 1) c) 24).kept hg1)
          obtain ⟨b0_1, b1_1, b2_1, b3_1, b4_1⟩ := B1.out
          obtain ⟨c0_1_0, c1_1_0, c2_1_0, c3_1_0, c4_1_0⟩ := N0.out.kept G1.out
          go_wp2_with fail
          go_at_call 71
          refine ((sh_all _).desig _ _ (HK.out.kept G1.out) HU.out (AU.out.kept G1.out)).mono ?_
          rintro e w2 ⟨rfl, hg2⟩
          rw [h1]
          have G2 : Hid (w.grownBy w2 none) := gb_trans G1.out hg2
          have B2 := hide (B1.out.kept hg2)
          obtain ⟨b0_2, b1_2, b2_2, b3_2, b4_2⟩ := B2.out
          obtain ⟨c0_2_0, c1_2_0, c2_2_0, c3_2_0, c4_2_0⟩ := N0.out.kept G2.out
          go_wp2_with fail
          go_ret
          exact ⟨rfl, G2.out⟩
        · skip
          cases h2 : r.all (wellB .expression)
          · skip
            rw [show wellB .act (.mk 15 x m p (u :: r)) = false by rw [HE, h0]; simp [firstR, eachR, T.subs, List.all_map, Function.comp_def, h1, h2]]
            clear HE
            go_enter Tryz.func40, Tryz.ntmps40
            go_wp2_with fail
            go_at_call 16
            refine (head_any (.mk 15 x m p (u :: r)) _ 15 0 (-1) false _ (HK.out.kept (by repeat (first | with_reducible exact gb_refl w none | with_reducible refine gb_put ?_ (by omega) _ _ | with_reducible refine gb_alloc ?_ _ | with_reducible refine gb_drewN ?_ _ | with_reducible refine gb_drew ?_))) HF.out (HA.out.kept (by repeat (first | with_reducible exact gb_refl w none | with_reducible refine gb_put ?_ (by omega) _ _ | with_reducible refine gb_alloc ?_ _ | with_reducible refine gb_drewN ?_ _ | with_reducible refine gb_drew ?_)))).mono ?_
            rintro e w1 ⟨rfl, hg1⟩
            rw [h0]
            have G1 : Hid (w.grownBy w1 none) := gb_trans (gb_alloc (gb_refl w none) _) hg1
            have B1 := hide ((Box.new w (.mk 15 x m p (u :: r)) (.slice (some ⟨g, o, none⟩) (r.length + 1) c) 24).kept hg1)
            obtain ⟨b0_1, b1_1, b2_1, b3_1, b4_1⟩ := B1.out
            obtain ⟨c0_1_0, c1_1_0, c2_1_0, c3_1_0, c4_1_0⟩ := N0.out.kept G1.out
            go_wp2_with fail
            go_at_call 71
            refine ((sh_all _).desig _ _ (HK.out.kept G1.out) HU.out (AU.out.kept G1.out)).mono ?_
            rintro e w2 ⟨rfl, hg2⟩
            rw [h1]
            have G2 : Hid (w.grownBy w2 none) := gb_trans G1.out hg2
            have B2 := hide (B1.out.kept hg2)
            obtain ⟨b0_2, b1_2, b2_2, b3_2, b4_2⟩ := B2.out
            obtain ⟨c0_2_0, c1_2_0, c2_2_0, c3_2_0, c4_2_0⟩ := N0.out.kept G2.out
            go_wp2_with fail
            go_at_call 72
            refine (exprsShaped_any _ _ _ (HK.out.kept G2.out) (fun v _ => sh_all v) (AR.out.kept G2.out)).mono ?_
            rintro e w3 ⟨rfl, hg3⟩
            rw [h2]
            have G3 : Hid (w.grownBy w3 none) := gb_trans G2.out hg3
            have B3 := hide (B2.out.kept hg3)
            obtain ⟨b0_3, b1_3, b2_3, b3_3, b4_3⟩ := B3.out
            obtain ⟨c0_3_0, c1_3_0, c2_3_0, c3_3_0, c4_3_0⟩ := N0.out.kept G3.out
            go_wp2_with fail
            go_ret
            exact ⟨rfl, G3.out⟩
          · skip
            rw [show wellB .act (.mk 15 x m p (u :: r)) = true by rw [HE, h0]; simp [firstR, eachR, T.subs, List.all_map, Function.comp_def, h1, h2]]
            clear HE
            go_enter Tryz.func40, Tryz.ntmps40
            go_wp2_with fail
            go_at_call 16
            refine (head_any (.mk 15 x m p (u :: r)) _ 15 0 (-1) false _ (HK.out.kept (by repeat (first | with_reducible exact gb_refl w none | with_reducible refine gb_put ?_ (by omega) _ _ | with_reducible refine gb_alloc ?_ _ | with_reducible refine gb_drewN ?_ _ | with_reducible refine gb_drew ?_))) HF.out (HA.out.kept (by repeat (first | with_reducible exact gb_refl w none | with_reducible refine gb_put ?_ (by omega) _ _ | with_reducible refine gb_alloc ?_ _ | with_reducible refine gb_drewN ?_ _ | with_reducible refine gb_drew ?_)))).mono ?_
            rintro e w1 ⟨rfl, hg1⟩
            rw [h0]
            have G1 : Hid (w.grownBy w1 none) := gb_trans (gb_alloc (gb_refl w none) _) hg1
            have B1 := hide ((Box.new w (.mk 15 x m p (u :: r)) (.slice (some ⟨g, o, none⟩) (r.length + 1) c) 24).kept hg1)
            obtain ⟨b0_1, b1_1, b2_1, b3_1, b4_1⟩ := B1.out
            obtain ⟨c0_1_0, c1_1_0, c2_1_0, c3_1_0, c4_1_0⟩ := N0.out.kept G1.out
            go_wp2_with fail
            go_at_call 71
            refine ((sh_all _).desig _ _ (HK.out.kept G1.out) HU.out (AU.out.kept G1.out)).mono ?_
            rintro e w2 ⟨rfl, hg2⟩
            rw [h1]
            have G2 : Hid (w.grownBy w2 none) := gb_trans G1.out hg2
            have B2 := hide (B1.out.kept hg2)
            obtain ⟨b0_2, b1_2, b2_2, b3_2, b4_2⟩ := B2.out
            obtain ⟨c0_2_0, c1_2_0, c2_2_0, c3_2_0, c4_2_0⟩ := N0.out.kept G2.out
            go_wp2_with fail
            go_at_call 72
            refine (exprsShaped_any _ _ _ (HK.out.kept G2.out) (fun v _ => sh_all v) (AR.out.kept G2.out)).mono ?_
            rintro e w3 ⟨rfl, hg3⟩
            rw [h2]
            have G3 : Hid (w.grownBy w3 none) := gb_trans G2.out hg3
            have B3 := hide (B2.out.kept hg3)
            obtain ⟨b0_3, b1_3, b2_3, b3_3, b4_3⟩ := B3.out
            obtain ⟨c0_3_0, c1_3_0, c2_3_0, c3_3_0, c4_3_0⟩ := N0.out.kept G3.out
            go_wp2_with fail
            go_ret
            exact ⟨rfl, G3.out⟩
      · obtain rfl : c = 1 := by omega
        obtain rfl : r = [] := List.eq_nil_of_length_eq_zero (by omega)
        have AR : Hid (AT w [] (.slice (some ⟨g, o, none⟩) 0 0)) := AT.nil _ _ (Nat.zero_le _)
        clear ar
        cases h1 : wellB .designator u
        · skip
          rw [show wellB .act (.mk 15 x m p (u :: [])) = false by rw [HE, h0]; simp [firstR, eachR, T.subs, h1]]
          clear HE
          go_enter Tryz.func40, Tryz.ntmps40
          go_wp2_with fail
          go_at_call 16
          refine (head_any (.mk 15 x m p (u :: [])) _ 15 0 (-1) false _ (HK.out.kept (by repeat (first | with_reducible exact gb_refl w none | with_reducible refine gb_put ?_ (by omega) _ _ | with_reducible refine gb_alloc ?_ _ | with_reducible refine gb_drewN ?_ _ | with_reducible refine gb_drew ?_))) HF.out (HA.out.kept (by repeat (first | with_reducible exact gb_refl w none | with_reducible refine gb_put ?_ (by omega) _ _ | with_reducible refine gb_alloc ?_ _ | with_reducible refine gb_drewN ?_ _ | with_reducible refine gb_drew ?_)))).mono ?_
          rintro e w1 ⟨rfl, hg1⟩
          rw [h0]
          have G1 : Hid (w.grownBy w1 none) := gb_trans (gb_alloc (gb_refl w none) _) hg1
          have B1 := hide ((Box.new w (.mk 15 x m p (u :: [])) (.slice (some ⟨g, o, none⟩) 1 1) 24).kept hg1)
          obtain ⟨b0_1, b1_1, b2_1, b3_1, b4_1⟩ := B1.out
          obtain ⟨c0_1_0, c1_1_0, c2_1_0, c3_1_0, c4_1_0⟩ := N0.out.kept G1.out
          go_wp2_with fail
          go_at_call 71
          refine ((sh_all _).desig _ _ (HK.out.kept G1.out) HU.out (AU.out.kept G1.out)).mono ?_
          rintro e w2 ⟨rfl, hg2⟩
          rw [h1]
          have G2 : Hid (w.grownBy w2 none) := gb_trans G1.out hg2
          have B2 := hide (B1.out.kept hg2)
          obtain ⟨b0_2, b1_2, b2_2, b3_2, b4_2⟩ := B2.out
          obtain ⟨c0_2_0, c1_2_0, c2_2_0, c3_2_0, c4_2_0⟩ := N0.out.kept G2.out
          go_wp2_with fail
          go_ret
          exact ⟨rfl, G2.out⟩
        · skip
          have h2 : ([] : List T).all (wellB .expression) = true := rfl
          rw [show wellB .act (.mk 15 x m p (u :: [])) = true by rw [HE, h0]; simp [firstR, eachR, T.subs, h1]]
          clear HE
          go_enter Tryz.func40, Tryz.ntmps40
          go_wp2_with fail
          go_at_call 16
          refine (head_any (.mk 15 x m p (u :: [])) _ 15 0 (-1) false _ (HK.out.kept (by repeat (first | with_reducible exact gb_refl w none | with_reducible refine gb_put ?_ (by omega) _ _ | with_reducible refine gb_alloc ?_ _ | with_reducible refine gb_drewN ?_ _ | with_reducible refine gb_drew ?_))) HF.out (HA.out.kept (by repeat (first | with_reducible exact gb_refl w none | with_reducible refine gb_put ?_ (by omega) _ _ | with_reducible refine gb_alloc ?_ _ | with_reducible refine gb_drewN ?_ _ | with_reducible refine gb_drew ?_)))).mono ?_
          rintro e w1 ⟨rfl, hg1⟩
          rw [h0]
          have G1 : Hid (w.grownBy w1 none) := gb_trans (gb_alloc (gb_refl w none) _) hg1
          have B1 := hide ((Box.new w (.mk 15 x m p (u :: [])) (.slice (some ⟨g, o, none⟩) 1 1) 24).kept hg1)
          obtain ⟨b0_1, b1_1, b2_1, b3_1, b4_1⟩ := B1.out
          obtain ⟨c0_1_0, c1_1_0, c2_1_0, c3_1_0, c4_1_0⟩ := N0.out.kept G1.out
          go_wp2_with fail
          go_at_call 71
          refine ((sh_all _).desig _ _ (HK.out.kept G1.out) HU.out (AU.out.kept G1.out)).mono ?_
          rintro e w2 ⟨rfl, hg2⟩
          rw [h1]
          have G2 : Hid (w.grownBy w2 none) := gb_trans G1.out hg2
          have B2 := hide (B1.out.kept hg2)
          obtain ⟨b0_2, b1_2, b2_2, b3_2, b4_2⟩ := B2.out
          obtain ⟨c0_2_0, c1_2_0, c2_2_0, c3_2_0, c4_2_0⟩ := N0.out.kept G2.out
          go_wp2_with fail
          go_at_call 72
          refine (exprsShaped_any _ _ _ (HK.out.kept G2.out) (fun v _ => sh_all v) (AR.out.kept G2.out)).mono ?_
          rintro e w3 ⟨rfl, hg3⟩
          rw [h2]
          have G3 : Hid (w.grownBy w3 none) := gb_trans G2.out hg3
          have B3 := hide (B2.out.kept hg3)
          obtain ⟨b0_3, b1_3, b2_3, b3_3, b4_3⟩ := B3.out
          obtain ⟨c0_3_0, c1_3_0, c2_3_0, c3_3_0, c4_3_0⟩ := N0.out.kept G3.out
          go_wp2_with fail
          go_ret
          exact ⟨rfl, G3.out⟩
set_option maxRecDepth 1000000 in
set_option maxHeartbeats 1000000 in
theorem stmt19 (x : List UInt8) (m p : Int) (l : List T) (sv : Value) (w : World) (hk : KW w) (hf : Fits (.mk 19 x m p l)) (ha : AT w (T.mk 19 x m p l).subs sv) :
    Calls Tryz.prog 40 #[.agg #[.int .i64 19, .string ⟨x.toArray⟩, .int .i64 m, .int .i64 p, sv]] w (Sy w (.bool (wellB .act (.mk 19 x m p l)))) := by
  have HE := wellB_only (r := .act) (t := (.mk 19 x m p l)) (c := headB (.mk 19 x m p l) 19 false 0 (-1) && decide (l.length ≤ 1)) (l := eachR l .expression) rfl
  have HK := hide hk
  have HF := hide hf
  have HA := hide ha
  obtain ⟨a, n, c, rfl, hn, hc, hl⟩ := ha.any
  change l.length = n at hl
  subst hl
  clear hk ha hf
  cases h0 : headB (.mk 19 x m p l) 19 false 0 (-1)
  · rw [show wellB .act (.mk 19 x m p l) = false by rw [HE, h0]; rfl]
    clear HE
    go_enter Tryz.func40, Tryz.ntmps40
    go_wp2_with fail
    go_at_call 16
    refine (head_any (.mk 19 x m p l) _ 19 0 (-1) false _ (HK.out.kept (by repeat (first | with_reducible exact gb_refl w none | with_reducible refine gb_put ?_ (by omega) _ _ | with_reducible refine gb_alloc ?_ _ | with_reducible refine gb_drewN ?_ _ | with_reducible refine gb_drew ?_))) HF.out (HA.out.kept (by repeat (first | with_reducible exact gb_refl w none | with_reducible refine gb_put ?_ (by omega) _ _ | with_reducible refine gb_alloc ?_ _ | with_reducible refine gb_drewN ?_ _ | with_reducible refine gb_drew ?_)))).mono ?_
    rintro e w1 ⟨rfl, hg1⟩
    rw [h0]
    have G1 : Hid (w.grownBy w1 none) := gb_trans (gb_alloc (gb_refl w none) _) hg1
    have B1 := hide ((Box.new w (.mk 19 x m p l) (.slice a l.length c) 24).kept hg1)
    obtain ⟨b0_1, b1_1, b2_1, b3_1, b4_1⟩ := B1.out
    go_wp2_with fail
    go_ret
    exact ⟨rfl, G1.out⟩
  · by_cases h1 : l.length ≤ 1
    · have hall : wellB .act (.mk 19 x m p l) = l.all (wellB .expression) := by rw [HE, h0]; simp [h1, eachR, List.all_map, Function.comp_def]
      have h1 : l.length < 2 := by omega
      cases h2 : l.all (wellB .expression)
      · rw [hall, h2]
        clear HE hall
        go_enter Tryz.func40, Tryz.ntmps40
        go_wp2_with fail
        go_at_call 16
        refine (head_any (.mk 19 x m p l) _ 19 0 (-1) false _ (HK.out.kept (by repeat (first | with_reducible exact gb_refl w none | with_reducible refine gb_put ?_ (by omega) _ _ | with_reducible refine gb_alloc ?_ _ | with_reducible refine gb_drewN ?_ _ | with_reducible refine gb_drew ?_))) HF.out (HA.out.kept (by repeat (first | with_reducible exact gb_refl w none | with_reducible refine gb_put ?_ (by omega) _ _ | with_reducible refine gb_alloc ?_ _ | with_reducible refine gb_drewN ?_ _ | with_reducible refine gb_drew ?_)))).mono ?_
        rintro e w1 ⟨rfl, hg1⟩
        rw [h0]
        have G1 : Hid (w.grownBy w1 none) := gb_trans (gb_alloc (gb_refl w none) _) hg1
        have B1 := hide ((Box.new w (.mk 19 x m p l) (.slice a l.length c) 24).kept hg1)
        obtain ⟨b0_1, b1_1, b2_1, b3_1, b4_1⟩ := B1.out
        go_wp2_with fail
        go_at_call 72
        refine (exprsShaped_any l _ _ (HK.out.kept G1.out) (fun v _ => sh_all v) (HA.out.kept G1.out)).mono ?_
        rintro e w2 ⟨rfl, hg2⟩
        rw [h2]
        have G2 : Hid (w.grownBy w2 none) := gb_trans G1.out hg2
        have B2 := hide (B1.out.kept hg2)
        obtain ⟨b0_2, b1_2, b2_2, b3_2, b4_2⟩ := B2.out
        go_wp2_with fail
        go_ret
        exact ⟨rfl, G2.out⟩
      · rw [hall, h2]
        clear HE hall
        go_enter Tryz.func40, Tryz.ntmps40
        go_wp2_with fail
        go_at_call 16
        refine (head_any (.mk 19 x m p l) _ 19 0 (-1) false _ (HK.out.kept (by repeat (first | with_reducible exact gb_refl w none | with_reducible refine gb_put ?_ (by omega) _ _ | with_reducible refine gb_alloc ?_ _ | with_reducible refine gb_drewN ?_ _ | with_reducible refine gb_drew ?_))) HF.out (HA.out.kept (by repeat (first | with_reducible exact gb_refl w none | with_reducible refine gb_put ?_ (by omega) _ _ | with_reducible refine gb_alloc ?_ _ | with_reducible refine gb_drewN ?_ _ | with_reducible refine gb_drew ?_)))).mono ?_
        rintro e w1 ⟨rfl, hg1⟩
        rw [h0]
        have G1 : Hid (w.grownBy w1 none) := gb_trans (gb_alloc (gb_refl w none) _) hg1
        have B1 := hide ((Box.new w (.mk 19 x m p l) (.slice a l.length c) 24).kept hg1)
        obtain ⟨b0_1, b1_1, b2_1, b3_1, b4_1⟩ := B1.out
        go_wp2_with fail
        go_at_call 72
        refine (exprsShaped_any l _ _ (HK.out.kept G1.out) (fun v _ => sh_all v) (HA.out.kept G1.out)).mono ?_
        rintro e w2 ⟨rfl, hg2⟩
        rw [h2]
        have G2 : Hid (w.grownBy w2 none) := gb_trans G1.out hg2
        have B2 := hide (B1.out.kept hg2)
        obtain ⟨b0_2, b1_2, b2_2, b3_2, b4_2⟩ := B2.out
        go_wp2_with fail
        go_ret
        exact ⟨rfl, G2.out⟩
    · rw [show wellB .act (.mk 19 x m p l) = false by rw [HE]; simp [h1]]
      clear HE
      have h1 : 2 ≤ l.length := by omega
      go_enter Tryz.func40, Tryz.ntmps40
      go_wp2_with fail
      go_at_call 16
      refine (head_any (.mk 19 x m p l) _ 19 0 (-1) false _ (HK.out.kept (by repeat (first | with_reducible exact gb_refl w none | with_reducible refine gb_put ?_ (by omega) _ _ | with_reducible refine gb_alloc ?_ _ | with_reducible refine gb_drewN ?_ _ | with_reducible refine gb_drew ?_))) HF.out (HA.out.kept (by repeat (first | with_reducible exact gb_refl w none | with_reducible refine gb_put ?_ (by omega) _ _ | with_reducible refine gb_alloc ?_ _ | with_reducible refine gb_drewN ?_ _ | with_reducible refine gb_drew ?_)))).mono ?_
      rintro e w1 ⟨rfl, hg1⟩
      rw [h0]
      have G1 : Hid (w.grownBy w1 none) := gb_trans (gb_alloc (gb_refl w none) _) hg1
      have B1 := hide ((Box.new w (.mk 19 x m p l) (.slice a l.length c) 24).kept hg1)
      obtain ⟨b0_1, b1_1, b2_1, b3_1, b4_1⟩ := B1.out
      go_wp2_with fail
      go_ret
      exact ⟨rfl, G1.out⟩
set_option maxRecDepth 1000000 in
set_option maxHeartbeats 1000000 in
theorem stmtElse (kd : Int) (x : List UInt8) (m p : Int) (l : List T) (sv : Value) (w : World) (ha : AT w (T.mk kd x m p l).subs sv) (h14 : ¬ kd = 14) (h15 : ¬ kd = 15) (h16 : ¬ kd = 16) (h17 : ¬ kd = 17) (h18 : ¬ kd = 18) (h19 : ¬ kd = 19) (h20 : ¬ kd = 20) (h21 : ¬ kd = 21) (h22 : ¬ kd = 22) (h23 : ¬ kd = 23) :
    Calls Tryz.prog 40 #[.agg #[.int .i64 kd, .string ⟨x.toArray⟩, .int .i64 m, .int .i64 p, sv]] w (Sy w (.bool (wellB .act (.mk kd x m p l)))) := by
  rw [wellB_none (show stepR .act (.mk kd x m p l) = none by simp [stepR, actR, T.kind, h14, h15, h16, h17, h18, h19, h20, h21, h22, h23])]
  obtain ⟨a, n, c, rfl, hn, hc, hl⟩ := ha.any
  clear ha
  go_enter Tryz.func40, Tryz.ntmps40
  go_wp2_with fail
  go_ret
  exact ⟨rfl, gb_alloc (gb_refl w none) _⟩
end Go.Proofs.YtlkokcnbbihljaaGreatDoor

/- The document's shapes: lists of acts; IF; every act. -/
namespace Go.Proofs.YtlkokcnbbihljaaGreatDoor
open Go.RowKit

theorem all_step {l : List T} {j : Nat} {u : T} {f : T → Bool} (hu : l[j]? = some u) (hb : (l.take j).all f = true) : (l.take (j + 1)).all f = f u := by
  have e9 : l.take (j + 1) = l.take j ++ [u] := by rw [List.take_add_one, hu]; rfl
  rw [e9, List.all_append, hb]; simp
theorem all_false {l : List T} {j : Nat} {f : T → Bool} (h : (l.take (j + 1)).all f = false) : l.all f = false := by
  rw [← List.take_append_drop (j + 1) l, List.all_append, h]; rfl
theorem all_done {l : List T} {j : Nat} {f : T → Bool} (hj : ¬ j < l.length) (h : (l.take j).all f = true) : l.all f = true := by
  rwa [List.take_of_length_le (by omega)] at h

set_option maxRecDepth 1000000 in
set_option maxHeartbeats 1000000 in
theorem stmts_step (t : T) (sv : Value) (w : World) (hk : KW w) (hf : Fits t) (ha : AT w t.subs sv) (IH : ∀ u, u ∈ t.subs → AcOK u) :
    Calls Tryz.prog 18 #[nodeV t sv] w (Sy w (.bool (wellB (.list .act) t))) := by
  have HE := wellB_only (r := .list .act) (t := t) (c := headB t 1 false 0 (-1)) (l := eachR t.subs .act) rfl
  have HK := hide hk
  have HF := hide hf
  have HA := hide ha
  have HI := hide IH
  obtain ⟨kd, x, m, p, l⟩ := t
  obtain ⟨a, n, c, rfl, hn, hc, hl⟩ := ha.any
  change l.length = n at hl
  subst hl
  clear hk ha hf IH
  change Calls Tryz.prog 18 #[.agg #[.int .i64 kd, .string ⟨x.toArray⟩, .int .i64 m, .int .i64 p, .slice a l.length c]] w _
  cases h0 : headB (.mk kd x m p l) 1 false 0 (-1)
  · rw [show wellB (.list .act) (.mk kd x m p l) = false by rw [HE, h0]; rfl]
    clear HE
    go_enter Tryz.func18, Tryz.ntmps18
    go_wp2_with fail
    go_at_call 16
    refine (head_any (.mk kd x m p l) _ 1 0 (-1) false _ (HK.out.kept (gb_alloc (gb_refl w none) _)) HF.out (HA.out.kept (gb_alloc (gb_refl w none) _))).mono ?_
    rintro e w1 ⟨rfl, hg1⟩
    rw [h0]
    have G1 : Hid (w.grownBy w1 none) := gb_trans (gb_alloc (gb_refl w none) _) hg1
    go_wp2_with fail
    go_ret
    exact ⟨rfl, G1.out⟩
  · have HV : Hid (wellB (.list .act) (.mk kd x m p l) = l.all (wellB .act)) := by show _ = _; rw [HE, h0]; simp [eachR, T.subs, List.all_map, Function.comp_def]
    clear HE
    rw [HV.out]
    go_enter Tryz.func18, Tryz.ntmps18
    go_wp2_with fail
    go_at_call 16
    refine (head_any (.mk kd x m p l) _ 1 0 (-1) false _ (HK.out.kept (gb_alloc (gb_refl w none) _)) HF.out (HA.out.kept (gb_alloc (gb_refl w none) _))).mono ?_
    rintro e w1 ⟨rfl, hg1⟩
    rw [h0]
    have G1 : Hid (w.grownBy w1 none) := gb_trans (gb_alloc (gb_refl w none) _) hg1
    have B1 := hide ((Box.new w (.mk kd x m p l) (.slice a l.length c) 24).kept hg1)
    clear hg1
    go_wp2_with fail
    go_loopw [3] (fun iv wr => ∃ j : Nat, j ≤ l.length ∧ iv = .int .i64 j ∧ Hid ((l.take j).all (wellB .act) = true) ∧ Hid (w.grownBy wr none) ∧ Hid (Box wr w.heap.size (.mk kd x m p l) (.slice a l.length c))) (fun iv _ => l.length - (intOf iv).toNat)
    case atStart => exact ⟨0, Nat.zero_le _, rfl, by show _ = _; simp, G1, B1⟩
    case round =>
      obtain ⟨j, hj, rfl, HB, HG, HX⟩ := hrel
      obtain ⟨b0, b1, b2, b3, b4⟩ := HX.out
      by_cases hlt : j < l.length
      · obtain ⟨u, hu⟩ : ∃ u, l[j]? = some u := ⟨_, List.getElem?_eq_getElem hlt⟩
        have hmem : u ∈ l := List.mem_of_getElem? hu
        obtain ⟨g, o, su, e1, n5, fu, au⟩ := (HA.out.kept HG.out).node j u hu
        subst e1
        have HT := hide (all_step hu HB.out)
        have IU := hide (HI.out u hmem)
        have HU := hide fu
        have AU := hide au
        obtain ⟨c0, c1, c2, c3, c4⟩ := n5
        clear hu hmem fu au
        cases hv : wellB .act u
        · have HQ : Hid (l.all (wellB .act) = false) := all_false (HT.out.trans hv)
          go_wp2_with fail
          go_at_call 40
          refine (IU.out.stmt su _ (HK.out.kept HG.out) HU.out AU.out).mono ?_
          rintro e w2 ⟨rfl, hg2⟩
          rw [hv]
          have G2 := hide (gb_trans HG.out hg2)
          go_wp2_with fail
          go_ret
          exact ⟨by rw [HQ.out]; rfl, G2.out⟩
        · go_wp2_with fail
          go_at_call 40
          refine (IU.out.stmt su _ (HK.out.kept HG.out) HU.out AU.out).mono ?_
          rintro e w2 ⟨rfl, hg2⟩
          rw [hv]
          have G2 := hide (gb_trans HG.out hg2)
          have B2 := hide (HX.out.kept hg2)
          have HB' : Hid ((l.take (j + 1)).all (wellB .act) = true) := HT.out.trans hv
          go_wp2_with fail
          exact ⟨⟨j + 1, by omega, by go_num, HB', G2, B2⟩, by simp [intOf]; omega⟩
      · have HQ := hide (all_done hlt HB.out)
        go_wp2_with fail
        go_ret
        exact ⟨by rw [HQ.out]; rfl, HG.out⟩
end Go.Proofs.YtlkokcnbbihljaaGreatDoor
