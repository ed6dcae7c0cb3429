/- The document's shapes: designators, expressions, kind by kind. -/
import Derived.Test.YtlkokcnbbihljaaGreatDoorG44
namespace Go.Proofs.YtlkokcnbbihljaaGreatDoor
open Go.RowKit

set_option maxRecDepth 1000000 in
set_option maxHeartbeats 1000000 in
theorem expr29 (x : List UInt8) (m p : Int) (l : List T) (sv : Value) (w : World) (hk : KW w) (hf : Fits (.mk 29 x m p l)) (ha : AT w (T.mk 29 x m p l).subs sv) :
    Calls Tryz.prog 37 #[.agg #[.int .i64 29, .string ⟨x.toArray⟩, .int .i64 m, .int .i64 p, sv]] w (Sy w (.bool (wellB .expression (.mk 29 x m p l)))) := by
  have HE := wellB_only (r := .expression) (t := (.mk 29 x m p l)) (c := headB (.mk 29 x m p l) 29 false maxNum 0) (l := []) rfl
  have HK := hide hk
  have HF := hide hf
  have HA := hide ha
  cases h0 : headB (.mk 29 x m p l) 29 false maxNum 0
  · rw [show wellB .expression (.mk 29 x m p l) = false by rw [HE, h0]; rfl]
    clear HE
    obtain ⟨a, n, c, rfl, hn, hc, hl⟩ := ha.any
    clear hk hf ha
    go_enter Tryz.func37, Tryz.ntmps37
    go_wp2_with fail
    go_at_call 16
    refine (head_any (.mk 29 x m p l) _ 29 maxNum 0 false _ (HK.out.kept (by repeat (first | with_reducible exact gb_refl w none | with_reducible refine gb_put ?_ (by omega) _ _ | with_reducible refine gb_alloc ?_ _ | with_reducible refine gb_drewN ?_ _ | with_reducible refine gb_drew ?_))) HF.out (HA.out.kept (by repeat (first | with_reducible exact gb_refl w none | with_reducible refine gb_put ?_ (by omega) _ _ | with_reducible refine gb_alloc ?_ _ | with_reducible refine gb_drewN ?_ _ | with_reducible refine gb_drew ?_)))).mono ?_
    rintro e w1 ⟨rfl, hg1⟩
    rw [h0]
    have G1 : Hid (w.grownBy w1 none) := gb_trans (gb_alloc (gb_refl w none) _) hg1
    have B1 := hide ((Box.new w (.mk 29 x m p l) (.slice a n c) 24).kept hg1)
    obtain ⟨b0_1, b1_1, b2_1, b3_1, b4_1⟩ := B1.out
    go_wp2_with fail
    go_ret
    exact ⟨rfl, G1.out⟩
  · obtain ⟨a, c, rfl, hc, hl⟩ := ha.zero (head_len (n := 0) h0)
    change l = [] at hl
    subst hl
    clear hk hf ha
    rw [show wellB .expression (.mk 29 x m p []) = true by rw [HE, h0]; simp []]
    clear HE
    go_enter Tryz.func37, Tryz.ntmps37
    go_wp2_with fail
    go_at_call 16
    refine (head_any (.mk 29 x m p []) _ 29 maxNum 0 false _ (HK.out.kept (by repeat (first | with_reducible exact gb_refl w none | with_reducible refine gb_put ?_ (by omega) _ _ | with_reducible refine gb_alloc ?_ _ | with_reducible refine gb_drewN ?_ _ | with_reducible refine gb_drew ?_))) HF.out (HA.out.kept (by repeat (first | with_reducible exact gb_refl w none | with_reducible refine gb_put ?_ (by omega) _ _ | with_reducible refine gb_alloc ?_ _ | with_reducible refine gb_drewN ?_ _ | with_reducible refine gb_drew ?_)))).mono ?_
    rintro e w1 ⟨rfl, hg1⟩
    rw [h0]
    have G1 : Hid (w.grownBy w1 none) := gb_trans (gb_alloc (gb_refl w none) _) hg1
    have B1 := hide ((Box.new w (.mk 29 x m p []) (.slice a 0 c) 24).kept hg1)
    obtain ⟨b0_1, b1_1, b2_1, b3_1, b4_1⟩ := B1.out
    go_wp2_with fail
    go_ret
    exact ⟨rfl, G1.out⟩
set_option maxRecDepth 1000000 in
set_option maxHeartbeats 1000000 in
theorem expr30 (x : List UInt8) (m p : Int) (l : List T) (sv : Value) (w : World) (hk : KW w) (hf : Fits (.mk 30 x m p l)) (ha : AT w (T.mk 30 x m p l).subs sv) :
    Calls Tryz.prog 37 #[.agg #[.int .i64 30, .string ⟨x.toArray⟩, .int .i64 m, .int .i64 p, sv]] w (Sy w (.bool (wellB .expression (.mk 30 x m p l)))) := by
  have HE := wellB_only (r := .expression) (t := (.mk 30 x m p l)) (c := headB (.mk 30 x m p l) 30 false 0 0) (l := []) rfl
  have HK := hide hk
  have HF := hide hf
  have HA := hide ha
  cases h0 : headB (.mk 30 x m p l) 30 false 0 0
  · rw [show wellB .expression (.mk 30 x m p l) = false by rw [HE, h0]; rfl]
    clear HE
    obtain ⟨a, n, c, rfl, hn, hc, hl⟩ := ha.any
    clear hk hf ha
    go_enter Tryz.func37, Tryz.ntmps37
    go_wp2_with fail
    go_at_call 16
    refine (head_any (.mk 30 x m p l) _ 30 0 0 false _ (HK.out.kept (by repeat (first | with_reducible exact gb_refl w none | with_reducible refine gb_put ?_ (by omega) _ _ | with_reducible refine gb_alloc ?_ _ | with_reducible refine gb_drewN ?_ _ | with_reducible refine gb_drew ?_))) HF.out (HA.out.kept (by repeat (first | with_reducible exact gb_refl w none | with_reducible refine gb_put ?_ (by omega) _ _ | with_reducible refine gb_alloc ?_ _ | with_reducible refine gb_drewN ?_ _ | with_reducible refine gb_drew ?_)))).mono ?_
    rintro e w1 ⟨rfl, hg1⟩
    rw [h0]
    have G1 : Hid (w.grownBy w1 none) := gb_trans (gb_alloc (gb_refl w none) _) hg1
    have B1 := hide ((Box.new w (.mk 30 x m p l) (.slice a n c) 24).kept hg1)
    obtain ⟨b0_1, b1_1, b2_1, b3_1, b4_1⟩ := B1.out
    go_wp2_with fail
    go_ret
    exact ⟨rfl, G1.out⟩
  · obtain ⟨a, c, rfl, hc, hl⟩ := ha.zero (head_len (n := 0) h0)
    change l = [] at hl
    subst hl
    clear hk hf ha
    rw [show wellB .expression (.mk 30 x m p []) = true by rw [HE, h0]; simp []]
    clear HE
    go_enter Tryz.func37, Tryz.ntmps37
    go_wp2_with fail
    go_at_call 16
    refine (head_any (.mk 30 x m p []) _ 30 0 0 false _ (HK.out.kept (by repeat (first | with_reducible exact gb_refl w none | with_reducible refine gb_put ?_ (by omega) _ _ | with_reducible refine gb_alloc ?_ _ | with_reducible refine gb_drewN ?_ _ | with_reducible refine gb_drew ?_))) HF.out (HA.out.kept (by repeat (first | with_reducible exact gb_refl w none | with_reducible refine gb_put ?_ (by omega) _ _ | with_reducible refine gb_alloc ?_ _ | with_reducible refine gb_drewN ?_ _ | with_reducible refine gb_drew ?_)))).mono ?_
    rintro e w1 ⟨rfl, hg1⟩
    rw [h0]
    have G1 : Hid (w.grownBy w1 none) := gb_trans (gb_alloc (gb_refl w none) _) hg1
    have B1 := hide ((Box.new w (.mk 30 x m p []) (.slice a 0 c) 24).kept hg1)
    obtain ⟨b0_1, b1_1, b2_1, b3_1, b4_1⟩ := B1.out
    go_wp2_with fail
    go_ret
    exact ⟨rfl, G1.out⟩
set_option maxRecDepth 1000000 in
set_option maxHeartbeats 1000000 in
theorem expr31 (x : List UInt8) (m p : Int) (l : List T) (sv : Value) (w : World) (hk : KW w) (hf : Fits (.mk 31 x m p l)) (ha : AT w (T.mk 31 x m p l).subs sv) :
    Calls Tryz.prog 37 #[.agg #[.int .i64 31, .string ⟨x.toArray⟩, .int .i64 m, .int .i64 p, sv]] w (Sy w (.bool (wellB .expression (.mk 31 x m p l)))) := by
  have HE := wellB_only (r := .expression) (t := (.mk 31 x m p l)) (c := headB (.mk 31 x m p l) 31 false 0 0) (l := []) rfl
  have HK := hide hk
  have HF := hide hf
  have HA := hide ha
  cases h0 : headB (.mk 31 x m p l) 31 false 0 0
  · rw [show wellB .expression (.mk 31 x m p l) = false by rw [HE, h0]; rfl]
    clear HE
    obtain ⟨a, n, c, rfl, hn, hc, hl⟩ := ha.any
    clear hk hf ha
    go_enter Tryz.func37, Tryz.ntmps37
    go_wp2_with fail
    go_at_call 16
    refine (head_any (.mk 31 x m p l) _ 31 0 0 false _ (HK.out.kept (by repeat (first | with_reducible exact gb_refl w none | with_reducible refine gb_put ?_ (by omega) _ _ | with_reducible refine gb_alloc ?_ _ | with_reducible refine gb_drewN ?_ _ | with_reducible refine gb_drew ?_))) HF.out (HA.out.kept (by repeat (first | with_reducible exact gb_refl w none | with_reducible refine gb_put ?_ (by omega) _ _ | with_reducible refine gb_alloc ?_ _ | with_reducible refine gb_drewN ?_ _ | with_reducible refine gb_drew ?_)))).mono ?_
    rintro e w1 ⟨rfl, hg1⟩
    rw [h0]
    have G1 : Hid (w.grownBy w1 none) := gb_trans (gb_alloc (gb_refl w none) _) hg1
    have B1 := hide ((Box.new w (.mk 31 x m p l) (.slice a n c) 24).kept hg1)
    obtain ⟨b0_1, b1_1, b2_1, b3_1, b4_1⟩ := B1.out
    go_wp2_with fail
    go_ret
    exact ⟨rfl, G1.out⟩
  · obtain ⟨a, c, rfl, hc, hl⟩ := ha.zero (head_len (n := 0) h0)
    change l = [] at hl
    subst hl
    clear hk hf ha
    rw [show wellB .expression (.mk 31 x m p []) = true by rw [HE, h0]; simp []]
    clear HE
    go_enter Tryz.func37, Tryz.ntmps37
    go_wp2_with fail
    go_at_call 16
    refine (head_any (.mk 31 x m p []) _ 31 0 0 false _ (HK.out.kept (by repeat (first | with_reducible exact gb_refl w none | with_reducible refine gb_put ?_ (by omega) _ _ | with_reducible refine gb_alloc ?_ _ | with_reducible refine gb_drewN ?_ _ | with_reducible refine gb_drew ?_))) HF.out (HA.out.kept (by repeat (first | with_reducible exact gb_refl w none | with_reducible refine gb_put ?_ (by omega) _ _ | with_reducible refine gb_alloc ?_ _ | with_reducible refine gb_drewN ?_ _ | with_reducible refine gb_drew ?_)))).mono ?_
    rintro e w1 ⟨rfl, hg1⟩
    rw [h0]
    have G1 : Hid (w.grownBy w1 none) := gb_trans (gb_alloc (gb_refl w none) _) hg1
    have B1 := hide ((Box.new w (.mk 31 x m p []) (.slice a 0 c) 24).kept hg1)
    obtain ⟨b0_1, b1_1, b2_1, b3_1, b4_1⟩ := B1.out
    go_wp2_with fail
    go_ret
    exact ⟨rfl, G1.out⟩
set_option maxRecDepth 1000000 in
set_option maxHeartbeats 1000000 in
theorem expr32 (x : List UInt8) (m p : Int) (l : List T) (sv : Value) (w : World) (hk : KW w) (hf : Fits (.mk 32 x m p l)) (ha : AT w (T.mk 32 x m p l).subs sv) :
    Calls Tryz.prog 37 #[.agg #[.int .i64 32, .string ⟨x.toArray⟩, .int .i64 m, .int .i64 p, sv]] w (Sy w (.bool (wellB .expression (.mk 32 x m p l)))) := by
  have HE := wellB_only (r := .expression) (t := (.mk 32 x m p l)) (c := headB (.mk 32 x m p l) 32 false 0 0) (l := []) rfl
  have HK := hide hk
  have HF := hide hf
  have HA := hide ha
  cases h0 : headB (.mk 32 x m p l) 32 false 0 0
  · rw [show wellB .expression (.mk 32 x m p l) = false by rw [HE, h0]; rfl]
    clear HE
    obtain ⟨a, n, c, rfl, hn, hc, hl⟩ := ha.any
    clear hk hf ha
    go_enter Tryz.func37, Tryz.ntmps37
    go_wp2_with fail
    go_at_call 16
    refine (head_any (.mk 32 x m p l) _ 32 0 0 false _ (HK.out.kept (by repeat (first | with_reducible exact gb_refl w none | with_reducible refine gb_put ?_ (by omega) _ _ | with_reducible refine gb_alloc ?_ _ | with_reducible refine gb_drewN ?_ _ | with_reducible refine gb_drew ?_))) HF.out (HA.out.kept (by repeat (first | with_reducible exact gb_refl w none | with_reducible refine gb_put ?_ (by omega) _ _ | with_reducible refine gb_alloc ?_ _ | with_reducible refine gb_drewN ?_ _ | with_reducible refine gb_drew ?_)))).mono ?_
    rintro e w1 ⟨rfl, hg1⟩
    rw [h0]
    have G1 : Hid (w.grownBy w1 none) := gb_trans (gb_alloc (gb_refl w none) _) hg1
    have B1 := hide ((Box.new w (.mk 32 x m p l) (.slice a n c) 24).kept hg1)
    obtain ⟨b0_1, b1_1, b2_1, b3_1, b4_1⟩ := B1.out
    go_wp2_with fail
    go_ret
    exact ⟨rfl, G1.out⟩
  · obtain ⟨a, c, rfl, hc, hl⟩ := ha.zero (head_len (n := 0) h0)
    change l = [] at hl
    subst hl
    clear hk hf ha
    rw [show wellB .expression (.mk 32 x m p []) = true by rw [HE, h0]; simp []]
    clear HE
    go_enter Tryz.func37, Tryz.ntmps37
    go_wp2_with fail
    go_at_call 16
    refine (head_any (.mk 32 x m p []) _ 32 0 0 false _ (HK.out.kept (by repeat (first | with_reducible exact gb_refl w none | with_reducible refine gb_put ?_ (by omega) _ _ | with_reducible refine gb_alloc ?_ _ | with_reducible refine gb_drewN ?_ _ | with_reducible refine gb_drew ?_))) HF.out (HA.out.kept (by repeat (first | with_reducible exact gb_refl w none | with_reducible refine gb_put ?_ (by omega) _ _ | with_reducible refine gb_alloc ?_ _ | with_reducible refine gb_drewN ?_ _ | with_reducible refine gb_drew ?_)))).mono ?_
    rintro e w1 ⟨rfl, hg1⟩
    rw [h0]
    have G1 : Hid (w.grownBy w1 none) := gb_trans (gb_alloc (gb_refl w none) _) hg1
    have B1 := hide ((Box.new w (.mk 32 x m p []) (.slice a 0 c) 24).kept hg1)
    obtain ⟨b0_1, b1_1, b2_1, b3_1, b4_1⟩ := B1.out
    go_wp2_with fail
    go_ret
    exact ⟨rfl, G1.out⟩
set_option maxRecDepth 1000000 in
set_option maxHeartbeats 1000000 in
theorem expr34 (x : List UInt8) (m p : Int) (l : List T) (sv : Value) (w : World) (hk : KW w) (hf : Fits (.mk 34 x m p l)) (ha : AT w (T.mk 34 x m p l).subs sv) (IH : ∀ u, u ∈ l → ShOK u) :
    Calls Tryz.prog 37 #[.agg #[.int .i64 34, .string ⟨x.toArray⟩, .int .i64 m, .int .i64 p, sv]] w (Sy w (.bool (wellB .expression (.mk 34 x m p l)))) := by
  have HE := wellB_only (r := .expression) (t := (.mk 34 x m p l)) (c := headB (.mk 34 x m p l) 34 false 0 1) (l := zipR l [.expression]) rfl
  have HK := hide hk
  have HF := hide hf
  have HA := hide ha
  cases h0 : headB (.mk 34 x m p l) 34 false 0 1
  · rw [show wellB .expression (.mk 34 x m p l) = false by rw [HE, h0]; rfl]
    clear HE
    obtain ⟨a, n, c, rfl, hn, hc, hl⟩ := ha.any
    clear hk hf ha IH
    go_enter Tryz.func37, Tryz.ntmps37
    go_wp2_with fail
    go_at_call 16
    refine (head_any (.mk 34 x m p l) _ 34 0 1 false _ (HK.out.kept (by repeat (first | with_reducible exact gb_refl w none | with_reducible refine gb_put ?_ (by omega) _ _ | with_reducible refine gb_alloc ?_ _ | with_reducible refine gb_drewN ?_ _ | with_reducible refine gb_drew ?_))) HF.out (HA.out.kept (by repeat (first | with_reducible exact gb_refl w none | with_reducible refine gb_put ?_ (by omega) _ _ | with_reducible refine gb_alloc ?_ _ | with_reducible refine gb_drewN ?_ _ | with_reducible refine gb_drew ?_)))).mono ?_
    rintro e w1 ⟨rfl, hg1⟩
    rw [h0]
    have G1 : Hid (w.grownBy w1 none) := gb_trans (gb_alloc (gb_refl w none) _) hg1
    have B1 := hide ((Box.new w (.mk 34 x m p l) (.slice a n c) 24).kept hg1)
    obtain ⟨b0_1, b1_1, b2_1, b3_1, b4_1⟩ := B1.out
    go_wp2_with fail
    go_ret
    exact ⟨rfl, G1.out⟩
  · obtain ⟨g, o, c, u, su, rfl, hn, hc, hl, n5, fu, au⟩ := ha.one (head_len (n := 1) h0)
    change l = [u] at hl
    subst hl
    have N0 := hide n5
    have HU := hide fu
    have AU := hide au
    have IU := hide (IH u (by simp))
    clear IH
    clear hk hf ha fu au n5
    cases h1 : wellB .expression u
    · skip
      rw [show wellB .expression (.mk 34 x m p [u]) = false by rw [HE, h0]; simp [zipR, h1]]
      clear HE
      go_enter Tryz.func37, Tryz.ntmps37
      go_wp2_with fail
      go_at_call 16
      refine (head_any (.mk 34 x m p [u]) _ 34 0 1 false _ (HK.out.kept (by repeat (first | with_reducible exact gb_refl w none | with_reducible refine gb_put ?_ (by omega) _ _ | with_reducible refine gb_alloc ?_ _ | with_reducible refine gb_drewN ?_ _ | with_reducible refine gb_drew ?_))) HF.out (HA.out.kept (by repeat (first | with_reducible exact gb_refl w none | with_reducible refine gb_put ?_ (by omega) _ _ | with_reducible refine gb_alloc ?_ _ | with_reducible refine gb_drewN ?_ _ | with_reducible refine gb_drew ?_)))).mono ?_
      rintro e w1 ⟨rfl, hg1⟩
      rw [h0]
      have G1 : Hid (w.grownBy w1 none) := gb_trans (gb_alloc (gb_refl w none) _) hg1
      have B1 := hide ((Box.new w (.mk 34 x m p [u]) (.slice (some ⟨g, o, none⟩) 1 c) 24).kept hg1)
      obtain ⟨b0_1, b1_1, b2_1, b3_1, b4_1⟩ := B1.out
      obtain ⟨c0_1_0, c1_1_0, c2_1_0, c3_1_0, c4_1_0⟩ := N0.out.kept G1.out
      go_wp2_with fail
      go_at_call 37
      refine (IU.out.expr _ _ (HK.out.kept G1.out) HU.out (AU.out.kept G1.out)).mono ?_
      rintro e w2 ⟨rfl, hg2⟩
      rw [h1]
      have G2 : Hid (w.grownBy w2 none) := gb_trans G1.out hg2
      have B2 := hide (B1.out.kept hg2)
      obtain ⟨b0_2, b1_2, b2_2, b3_2, b4_2⟩ := B2.out
      obtain ⟨c0_2_0, c1_2_0, c2_2_0, c3_2_0, c4_2_0⟩ := N0.out.kept G2.out
      go_wp2_with fail
      go_ret
      exact ⟨rfl, G2.out⟩
    · skip
      rw [show wellB .expression (.mk 34 x m p [u]) = true by rw [HE, h0]; simp [zipR, h1]]
      clear HE
      go_enter Tryz.func37, Tryz.ntmps37
      go_wp2_with fail
      go_at_call 16
      refine (head_any (.mk 34 x m p [u]) _ 34 0 1 false _ (HK.out.kept (by repeat (first | with_reducible exact gb_refl w none | with_reducible refine gb_put ?_ (by omega) _ _ | with_reducible refine gb_alloc ?_ _ | with_reducible refine gb_drewN ?_ _ | with_reducible refine gb_drew ?_))) HF.out (HA.out.kept (by repeat (first | with_reducible exact gb_refl w none | with_reducible refine gb_put ?_ (by omega) _ _ | with_reducible refine gb_alloc ?_ _ | with_reducible refine gb_drewN ?_ _ | with_reducible refine gb_drew ?_)))).mono ?_
      rintro e w1 ⟨rfl, hg1⟩
      rw [h0]
      have G1 : Hid (w.grownBy w1 none) := gb_trans (gb_alloc (gb_refl w none) _) hg1
      have B1 := hide ((Box.new w (.mk 34 x m p [u]) (.slice (some ⟨g, o, none⟩) 1 c) 24).kept hg1)
      obtain ⟨b0_1, b1_1, b2_1, b3_1, b4_1⟩ := B1.out
      obtain ⟨c0_1_0, c1_1_0, c2_1_0, c3_1_0, c4_1_0⟩ := N0.out.kept G1.out
      go_wp2_with fail
      go_at_call 37
      refine (IU.out.expr _ _ (HK.out.kept G1.out) HU.out (AU.out.kept G1.out)).mono ?_
      rintro e w2 ⟨rfl, hg2⟩
      rw [h1]
      have G2 : Hid (w.grownBy w2 none) := gb_trans G1.out hg2
      have B2 := hide (B1.out.kept hg2)
      obtain ⟨b0_2, b1_2, b2_2, b3_2, b4_2⟩ := B2.out
      obtain ⟨c0_2_0, c1_2_0, c2_2_0, c3_2_0, c4_2_0⟩ := N0.out.kept G2.out
      go_wp2_with fail
      go_ret
      exact ⟨rfl, G2.out⟩
set_option maxRecDepth 1000000 in
set_option maxHeartbeats 1000000 in
theorem expr35 (x : List UInt8) (m p : Int) (l : List T) (sv : Value) (w : World) (hk : KW w) (hf : Fits (.mk 35 x m p l)) (ha : AT w (T.mk 35 x m p l).subs sv) (IH : ∀ u, u ∈ l → ShOK u) :
    Calls Tryz.prog 37 #[.agg #[.int .i64 35, .string ⟨x.toArray⟩, .int .i64 m, .int .i64 p, sv]] w (Sy w (.bool (wellB .expression (.mk 35 x m p l)))) := by
  have HE := wellB_only (r := .expression) (t := (.mk 35 x m p l)) (c := headB (.mk 35 x m p l) 35 false 0 1) (l := zipR l [.expression]) rfl
  have HK := hide hk
  have HF := hide hf
  have HA := hide ha
  cases h0 : headB (.mk 35 x m p l) 35 false 0 1
  · rw [show wellB .expression (.mk 35 x m p l) = false by rw [HE, h0]; rfl]
    clear HE
    obtain ⟨a, n, c, rfl, hn, hc, hl⟩ := ha.any
    clear hk hf ha IH
    go_enter Tryz.func37, Tryz.ntmps37
    go_wp2_with fail
    go_at_call 16
    refine (head_any (.mk 35 x m p l) _ 35 0 1 false _ (HK.out.kept (by repeat (first | with_reducible exact gb_refl w none | with_reducible refine gb_put ?_ (by omega) _ _ | with_reducible refine gb_alloc ?_ _ | with_reducible refine gb_drewN ?_ _ | with_reducible refine gb_drew ?_))) HF.out (HA.out.kept (by repeat (first | with_reducible exact gb_refl w none | with_reducible refine gb_put ?_ (by omega) _ _ | with_reducible refine gb_alloc ?_ _ | with_reducible refine gb_drewN ?_ _ | with_reducible refine gb_drew ?_)))).mono ?_
    rintro e w1 ⟨rfl, hg1⟩
    rw [h0]
    have G1 : Hid (w.grownBy w1 none) := gb_trans (gb_alloc (gb_refl w none) _) hg1
    have B1 := hide ((Box.new w (.mk 35 x m p l) (.slice a n c) 24).kept hg1)
    obtain ⟨b0_1, b1_1, b2_1, b3_1, b4_1⟩ := B1.out
    go_wp2_with fail
    go_ret
    exact ⟨rfl, G1.out⟩
  · obtain ⟨g, o, c, u, su, rfl, hn, hc, hl, n5, fu, au⟩ := ha.one (head_len (n := 1) h0)
    change l = [u] at hl
    subst hl
    have N0 := hide n5
    have HU := hide fu
    have AU := hide au
    have IU := hide (IH u (by simp))
    clear IH
    clear hk hf ha fu au n5
    cases h1 : wellB .expression u
    · skip
      rw [show wellB .expression (.mk 35 x m p [u]) = false by rw [HE, h0]; simp [zipR, h1]]
      clear HE
      go_enter Tryz.func37, Tryz.ntmps37
      go_wp2_with fail
      go_at_call 16
      refine (head_any (.mk 35 x m p [u]) _ 35 0 1 false _ (HK.out.kept (by repeat (first | with_reducible exact gb_refl w none | with_reducible refine gb_put ?_ (by omega) _ _ | with_reducible refine gb_alloc ?_ _ | with_reducible refine gb_drewN ?_ _ | with_reducible refine gb_drew ?_))) HF.out (HA.out.kept (by repeat (first | with_reducible exact gb_refl w none | with_reducible refine gb_put ?_ (by omega) _ _ | with_reducible refine gb_alloc ?_ _ | with_reducible refine gb_drewN ?_ _ | with_reducible refine gb_drew ?_)))).mono ?_
      rintro e w1 ⟨rfl, hg1⟩
      rw [h0]
      have G1 : Hid (w.grownBy w1 none) := gb_trans (gb_alloc (gb_refl w none) _) hg1
      have B1 := hide ((Box.new w (.mk 35 x m p [u]) (.slice (some ⟨g, o, none⟩) 1 c) 24).kept hg1)
      obtain ⟨b0_1, b1_1, b2_1, b3_1, b4_1⟩ := B1.out
      obtain ⟨c0_1_0, c1_1_0, c2_1_0, c3_1_0, c4_1_0⟩ := N0.out.kept G1.out
      go_wp2_with fail
      go_at_call 37
      refine (IU.out.expr _ _ (HK.out.kept G1.out) HU.out (AU.out.kept G1.out)).mono ?_
      rintro e w2 ⟨rfl, hg2⟩
      rw [h1]
      have G2 : Hid (w.grownBy w2 none) := gb_trans G1.out hg2
      have B2 := hide (B1.out.kept hg2)
      obtain ⟨b0_2, b1_2, b2_2, b3_2, b4_2⟩ := B2.out
      obtain ⟨c0_2_0, c1_2_0, c2_2_0, c3_2_0, c4_2_0⟩ := N0.out.kept G2.out
      go_wp2_with fail
      go_ret
      exact ⟨rfl, G2.out⟩
    · skip
      rw [show wellB .expression (.mk 35 x m p [u]) = true by rw [HE, h0]; simp [zipR, h1]]
      clear HE
      go_enter Tryz.func37, Tryz.ntmps37
      go_wp2_with fail
      go_at_call 16
      refine (head_any (.mk 35 x m p [u]) _ 35 0 1 false _ (HK.out.kept (by repeat (first | with_reducible exact gb_refl w none | with_reducible refine gb_put ?_ (by omega) _ _ | with_reducible refine gb_alloc ?_ _ | with_reducible refine gb_drewN ?_ _ | with_reducible refine gb_drew ?_))) HF.out (HA.out.kept (by repeat (first | with_reducible exact gb_refl w none | with_reducible refine gb_put ?_ (by omega) _ _ | with_reducible refine gb_alloc ?_ _ | with_reducible refine gb_drewN ?_ _ | with_reducible refine gb_drew ?_)))).mono ?_
      rintro e w1 ⟨rfl, hg1⟩
      rw [h0]
      have G1 : Hid (w.grownBy w1 none) := gb_trans (gb_alloc (gb_refl w none) _) hg1
      have B1 := hide ((Box.new w (.mk 35 x m p [u]) (.slice (some ⟨g, o, none⟩) 1 c) 24).kept hg1)
      obtain ⟨b0_1, b1_1, b2_1, b3_1, b4_1⟩ := B1.out
      obtain ⟨c0_1_0, c1_1_0, c2_1_0, c3_1_0, c4_1_0⟩ := N0.out.kept G1.out
      go_wp2_with fail
      go_at_call 37
      refine (IU.out.expr _ _ (HK.out.kept G1.out) HU.out (AU.out.kept G1.out)).mono ?_
      rintro e w2 ⟨rfl, hg2⟩
      rw [h1]
      have G2 : Hid (w.grownBy w2 none) := gb_trans G1.out hg2
      have B2 := hide (B1.out.kept hg2)
      obtain ⟨b0_2, b1_2, b2_2, b3_2, b4_2⟩ := B2.out
      obtain ⟨c0_2_0, c1_2_0, c2_2_0, c3_2_0, c4_2_0⟩ := N0.out.kept G2.out
      go_wp2_with fail
      go_ret
      exact ⟨rfl, G2.out⟩
set_option maxRecDepth 1000000 in
set_option maxHeartbeats 1000000 in
theorem expr37 (x : List UInt8) (m p : Int) (l : List T) (sv : Value) (w : World) (hk : KW w) (hf : Fits (.mk 37 x m p l)) (ha : AT w (T.mk 37 x m p l).subs sv) (IH : ∀ u, u ∈ l → ShOK u) :
    Calls Tryz.prog 37 #[.agg #[.int .i64 37, .string ⟨x.toArray⟩, .int .i64 m, .int .i64 p, sv]] w (Sy w (.bool (wellB .expression (.mk 37 x m p l)))) := by
  have HE := wellB_only (r := .expression) (t := (.mk 37 x m p l)) (c := headB (.mk 37 x m p l) 37 false 0 2) (l := zipR l [.expression, .typeName]) rfl
  have HK := hide hk
  have HF := hide hf
  have HA := hide ha
  cases h0 : headB (.mk 37 x m p l) 37 false 0 2
  · rw [show wellB .expression (.mk 37 x m p l) = false by rw [HE, h0]; rfl]
    clear HE
    obtain ⟨a, n, c, rfl, hn, hc, hl⟩ := ha.any
    clear hk hf ha IH
    go_enter Tryz.func37, Tryz.ntmps37
    go_wp2_with fail
    go_at_call 16
    refine (head_any (.mk 37 x m p l) _ 37 0 2 false _ (HK.out.kept (by repeat (first | with_reducible exact gb_refl w none | with_reducible refine gb_put ?_ (by omega) _ _ | with_reducible refine gb_alloc ?_ _ | with_reducible refine gb_drewN ?_ _ | with_reducible refine gb_drew ?_))) HF.out (HA.out.kept (by repeat (first | with_reducible exact gb_refl w none | with_reducible refine gb_put ?_ (by omega) _ _ | with_reducible refine gb_alloc ?_ _ | with_reducible refine gb_drewN ?_ _ | with_reducible refine gb_drew ?_)))).mono ?_
    rintro e w1 ⟨rfl, hg1⟩
    rw [h0]
    have G1 : Hid (w.grownBy w1 none) := gb_trans (gb_alloc (gb_refl w none) _) hg1
    have B1 := hide ((Box.new w (.mk 37 x m p l) (.slice a n c) 24).kept hg1)
    obtain ⟨b0_1, b1_1, b2_1, b3_1, b4_1⟩ := B1.out
    go_wp2_with fail
    go_ret
    exact ⟨rfl, G1.out⟩
  · obtain ⟨g, o, c, u, su, v, sw, rfl, hn, hc, hl, n5, fu, au, n6, fv, av⟩ := ha.two (head_len (n := 2) h0)
    change l = [u, v] at hl
    subst hl
    have N0 := hide n5
    have HU := hide fu
    have AU := hide au
    have N1 := hide n6
    have HV := hide fv
    have AV := hide av
    have IU := hide (IH u (by simp))
    have IV := hide (IH v (by simp))
    clear IH
    clear hk hf ha fu au n5 fv av n6
    cases h1 : wellB .expression u
    · skip
      rw [show wellB .expression (.mk 37 x m p [u, v]) = false by rw [HE, h0]; simp [zipR, h1]]
      clear HE
      go_enter Tryz.func37, Tryz.ntmps37
      go_wp2_with fail
      go_at_call 16
      refine (head_any (.mk 37 x m p [u, v]) _ 37 0 2 false _ (HK.out.kept (by repeat (first | with_reducible exact gb_refl w none | with_reducible refine gb_put ?_ (by omega) _ _ | with_reducible refine gb_alloc ?_ _ | with_reducible refine gb_drewN ?_ _ | with_reducible refine gb_drew ?_))) HF.out (HA.out.kept (by repeat (first | with_reducible exact gb_refl w none | with_reducible refine gb_put ?_ (by omega) _ _ | with_reducible refine gb_alloc ?_ _ | with_reducible refine gb_drewN ?_ _ | with_reducible refine gb_drew ?_)))).mono ?_
      rintro e w1 ⟨rfl, hg1⟩
      rw [h0]
      have G1 : Hid (w.grownBy w1 none) := gb_trans (gb_alloc (gb_refl w none) _) hg1
      have B1 := hide ((Box.new w (.mk 37 x m p [u, v]) (.slice (some ⟨g, o, none⟩) 2 c) 24).kept hg1)
      obtain ⟨b0_1, b1_1, b2_1, b3_1, b4_1⟩ := B1.out
      obtain ⟨c0_1_0, c1_1_0, c2_1_0, c3_1_0, c4_1_0⟩ := N0.out.kept G1.out
      obtain ⟨c0_1_1, c1_1_1, c2_1_1, c3_1_1, c4_1_1⟩ := N1.out.kept G1.out
      go_wp2_with fail
      go_at_call 37
      refine (IU.out.expr _ _ (HK.out.kept G1.out) HU.out (AU.out.kept G1.out)).mono ?_
      rintro e w2 ⟨rfl, hg2⟩
      rw [h1]
      have G2 : Hid (w.grownBy w2 none) := gb_trans G1.out hg2
      have B2 := hide (B1.out.kept hg2)
      obtain ⟨b0_2, b1_2, b2_2, b3_2, b4_2⟩ := B2.out
      obtain ⟨c0_2_0, c1_2_0, c2_2_0, c3_2_0, c4_2_0⟩ := N0.out.kept G2.out
      obtain ⟨c0_2_1, c1_2_1, c2_2_1, c3_2_1, c4_2_1⟩ := N1.out.kept G2.out
      go_wp2_with fail
      go_ret
      exact ⟨rfl, G2.out⟩
    · skip
      cases h2 : wellB .typeName v
      · skip
        rw [show wellB .expression (.mk 37 x m p [u, v]) = false by rw [HE, h0]; simp [zipR, h1, h2]]
        clear HE
        go_enter Tryz.func37, Tryz.ntmps37
        go_wp2_with fail
        go_at_call 16
        refine (head_any (.mk 37 x m p [u, v]) _ 37 0 2 false _ (HK.out.kept (by repeat (first | with_reducible exact gb_refl w none | with_reducible refine gb_put ?_ (by omega) _ _ | with_reducible refine gb_alloc ?_ _ | with_reducible refine gb_drewN ?_ _ | with_reducible refine gb_drew ?_))) HF.out (HA.out.kept (by repeat (first | with_reducible exact gb_refl w none | with_reducible refine gb_put ?_ (by omega) _ _ | with_reducible refine gb_alloc ?_ _ | with_reducible refine gb_drewN ?_ _ | with_reducible refine gb_drew ?_)))).mono ?_
        rintro e w1 ⟨rfl, hg1⟩
        rw [h0]
        have G1 : Hid (w.grownBy w1 none) := gb_trans (gb_alloc (gb_refl w none) _) hg1
        have B1 := hide ((Box.new w (.mk 37 x m p [u, v]) (.slice (some ⟨g, o, none⟩) 2 c) 24).kept hg1)
        obtain ⟨b0_1, b1_1, b2_1, b3_1, b4_1⟩ := B1.out
        obtain ⟨c0_1_0, c1_1_0, c2_1_0, c3_1_0, c4_1_0⟩ := N0.out.kept G1.out
        obtain ⟨c0_1_1, c1_1_1, c2_1_1, c3_1_1, c4_1_1⟩ := N1.out.kept G1.out
        go_wp2_with fail
        go_at_call 37
        refine (IU.out.expr _ _ (HK.out.kept G1.out) HU.out (AU.out.kept G1.out)).mono ?_
        rintro e w2 ⟨rfl, hg2⟩
        rw [h1]
        have G2 : Hid (w.grownBy w2 none) := gb_trans G1.out hg2
        have B2 := hide (B1.out.kept hg2)
        obtain ⟨b0_2, b1_2, b2_2, b3_2, b4_2⟩ := B2.out
        obtain ⟨c0_2_0, c1_2_0, c2_2_0, c3_2_0, c4_2_0⟩ := N0.out.kept G2.out
        obtain ⟨c0_2_1, c1_2_1, c2_2_1, c3_2_1, c4_2_1⟩ := N1.out.kept G2.out
        go_wp2_with fail
        go_at_call 39
        refine (nameShaped_any _ _ _ (HK.out.kept G2.out) HV.out (AV.out.kept G2.out)).mono ?_
        rintro e w3 ⟨rfl, hg3⟩
        rw [h2]
        have G3 : Hid (w.grownBy w3 none) := gb_trans G2.out hg3
        have B3 := hide (B2.out.kept hg3)
        obtain ⟨b0_3, b1_3, b2_3, b3_3, b4_3⟩ := B3.out
        obtain ⟨c0_3_0, c1_3_0, c2_3_0, c3_3_0, c4_3_0⟩ := N0.out.kept G3.out
        obtain ⟨c0_3_1, c1_3_1, c2_3_1, c3_3_1, c4_3_1⟩ := N1.out.kept G3.out
        go_wp2_with fail
        go_ret
        exact ⟨rfl, G3.out⟩
      · skip
        rw [show wellB .expression (.mk 37 x m p [u, v]) = true by rw [HE, h0]; simp [zipR, h1, h2]]
        clear HE
        go_enter Tryz.func37, Tryz.ntmps37
        go_wp2_with fail
        go_at_call 16
        refine (head_any (.mk 37 x m p [u, v]) _ 37 0 2 false _ (HK.out.kept (by repeat (first | with_reducible exact gb_refl w none | with_reducible refine gb_put ?_ (by omega) _ _ | with_reducible refine gb_alloc ?_ _ | with_reducible refine gb_drewN ?_ _ | with_reducible refine gb_drew ?_))) HF.out (HA.out.kept (by repeat (first | with_reducible exact gb_refl w none | with_reducible refine gb_put ?_ (by omega) _ _ | with_reducible refine gb_alloc ?_ _ | with_reducible refine gb_drewN ?_ _ | with_reducible refine gb_drew ?_)))).mono ?_
        rintro e w1 ⟨rfl, hg1⟩
        rw [h0]
        have G1 : Hid (w.grownBy w1 none) := gb_trans (gb_alloc (gb_refl w none) _) hg1
        have B1 := hide ((Box.new w (.mk 37 x m p [u, v]) (.slice (some ⟨g, o, none⟩) 2 c) 24).kept hg1)
        obtain ⟨b0_1, b1_1, b2_1, b3_1, b4_1⟩ := B1.out
        obtain ⟨c0_1_0, c1_1_0, c2_1_0, c3_1_0, c4_1_0⟩ := N0.out.kept G1.out
        obtain ⟨c0_1_1, c1_1_1, c2_1_1, c3_1_1, c4_1_1⟩ := N1.out.kept G1.out
        go_wp2_with fail
        go_at_call 37
        refine (IU.out.expr _ _ (HK.out.kept G1.out) HU.out (AU.out.kept G1.out)).mono ?_
        rintro e w2 ⟨rfl, hg2⟩
        rw [h1]
        have G2 : Hid (w.grownBy w2 none) := gb_trans G1.out hg2
        have B2 := hide (B1.out.kept hg2)
        obtain ⟨b0_2, b1_2, b2_2, b3_2, b4_2⟩ := B2.out
        obtain ⟨c0_2_0, c1_2_0, c2_2_0, c3_2_0, c4_2_0⟩ := N0.out.kept G2.out
        obtain ⟨c0_2_1, c1_2_1, c2_2_1, c3_2_1, c4_2_1⟩ := N1.out.kept G2.out
        go_wp2_with fail
        go_at_call 39
        refine (nameShaped_any _ _ _ (HK.out.kept G2.out) HV.out (AV.out.kept G2.out)).mono ?_
        rintro e w3 ⟨rfl, hg3⟩
        rw [h2]
        have G3 : Hid (w.grownBy w3 none) := gb_trans G2.out hg3
        have B3 := hide (B2.out.kept hg3)
        obtain ⟨b0_3, b1_3, b2_3, b3_3, b4_3⟩ := B3.out
        obtain ⟨c0_3_0, c1_3_0, c2_3_0, c3_3_0, c4_3_0⟩ := N0.out.kept G3.out
        obtain ⟨c0_3_1, c1_3_1, c2_3_1, c3_3_1, c4_3_1⟩ := N1.out.kept G3.out
        go_wp2_with fail
        go_ret
        exact ⟨rfl, G3.out⟩
set_option maxRecDepth 1000000 in
set_option maxHeartbeats 1000000 in
theorem expr33 (x : List UInt8) (m p : Int) (l : List T) (sv : Value) (w : World) (hk : KW w) (hf : Fits (.mk 33 x m p l)) (ha : AT w (T.mk 33 x m p l).subs sv) (IH : ∀ u, u ∈ l → ShOK u) :
    Calls Tryz.prog 37 #[.agg #[.int .i64 33, .string ⟨x.toArray⟩, .int .i64 m, .int .i64 p, sv]] w (Sy w (.bool (wellB .expression (.mk 33 x m p l)))) := by
  have HE := wellB_only (r := .expression) (t := (.mk 33 x m p l)) (c := headB (.mk 33 x m p l) 33 false 0 (-1) && decide (0 < l.length)) (l := firstR (.mk 33 x m p l) .designator .expression) rfl
  have HK := hide hk
  have HF := hide hf
  have HA := hide ha
  cases h0 : headB (.mk 33 x m p l) 33 false 0 (-1)
  · rw [show wellB .expression (.mk 33 x m p l) = false by rw [HE, h0]; rfl]
    clear HE
    obtain ⟨a, n, c, rfl, hn, hc, hl⟩ := ha.any
    clear hk hf ha IH
    go_enter Tryz.func37, Tryz.ntmps37
    go_wp2_with fail
    go_at_call 16
    refine (head_any (.mk 33 x m p l) _ 33 0 (-1) false _ (HK.out.kept (by repeat (first | with_reducible exact gb_refl w none | with_reducible refine gb_put ?_ (by omega) _ _ | with_reducible refine gb_alloc ?_ _ | with_reducible refine gb_drewN ?_ _ | with_reducible refine gb_drew ?_))) HF.out (HA.out.kept (by repeat (first | with_reducible exact gb_refl w none | with_reducible refine gb_put ?_ (by omega) _ _ | with_reducible refine gb_alloc ?_ _ | with_reducible refine gb_drewN ?_ _ | with_reducible refine gb_drew ?_)))).mono ?_
    rintro e w1 ⟨rfl, hg1⟩
    rw [h0]
    have G1 : Hid (w.grownBy w1 none) := gb_trans (gb_alloc (gb_refl w none) _) hg1
    have B1 := hide ((Box.new w (.mk 33 x m p l) (.slice a n c) 24).kept hg1)
    obtain ⟨b0_1, b1_1, b2_1, b3_1, b4_1⟩ := B1.out
    go_wp2_with fail
    go_ret
    exact ⟨rfl, G1.out⟩
  · match l, ha, HE, h0, HF, HA, IH with
    | [], ha, HE, h0, HF, HA, IH =>
      rw [show wellB .expression (.mk 33 x m p []) = false by rw [HE, h0]; rfl]
      clear HE
      obtain ⟨a, c, rfl, hc, _⟩ := ha.zero rfl
      clear hk hf ha IH
      go_enter Tryz.func37, Tryz.ntmps37
      go_wp2_with fail
      go_at_call 16
      refine (head_any (.mk 33 x m p []) _ 33 0 (-1) false _ (HK.out.kept (by repeat (first | with_reducible exact gb_refl w none | with_reducible refine gb_put ?_ (by omega) _ _ | with_reducible refine gb_alloc ?_ _ | with_reducible refine gb_drewN ?_ _ | with_reducible refine gb_drew ?_))) HF.out (HA.out.kept (by repeat (first | with_reducible exact gb_refl w none | with_reducible refine gb_put ?_ (by omega) _ _ | with_reducible refine gb_alloc ?_ _ | with_reducible refine gb_drewN ?_ _ | with_reducible refine gb_drew ?_)))).mono ?_
      rintro e w1 ⟨rfl, hg1⟩
      rw [h0]
      have G1 : Hid (w.grownBy w1 none) := gb_trans (gb_alloc (gb_refl w none) _) hg1
      have B1 := hide ((Box.new w (.mk 33 x m p []) (.slice a 0 c) 24).kept hg1)
      obtain ⟨b0_1, b1_1, b2_1, b3_1, b4_1⟩ := B1.out
      go_wp2_with fail
      go_ret
      exact ⟨rfl, G1.out⟩
    | u :: r, ha, HE, h0, HF, HA, IH =>
      obtain ⟨g, o, c, su, rfl, hn, hc, n5, fu, au, ar⟩ := AT.cons ha
      have N0 := hide n5
      have HU := hide fu
      have AU := hide au
      have IU := hide (IH u (by simp))
      have IR := hide (fun v (hv : v ∈ r) => IH v (List.mem_cons_of_mem _ hv))
      clear hk hf ha IH fu au n5
      rcases Nat.lt_or_ge 1 c with hc1 | hc1
      · have AR := hide ar
        clear ar
        cases h1 : wellB .designator u
        · skip
          rw [show wellB .expression (.mk 33 x m p (u :: r)) = false by rw [HE, h0]; simp [firstR, eachR, T.subs, List.all_map, Function.comp_def, h1]]
          clear HE
          go_enter Tryz.func37, Tryz.ntmps37
          go_wp2_with fail
          go_at_call 16
          refine (head_any (.mk 33 x m p (u :: r)) _ 33 0 (-1) false _ (HK.out.kept (by repeat (first | with_reducible exact gb_refl w none | with_reducible refine gb_put ?_ (by omega) _ _ | with_reducible refine gb_alloc ?_ _ | with_reducible refine gb_drewN ?_ _ | with_reducible refine gb_drew ?_))) HF.out (HA.out.kept (by repeat (first | with_reducible exact gb_refl w none | with_reducible refine gb_put ?_ (by omega) _ _ | with_reducible refine gb_alloc ?_ _ | with_reducible refine gb_drewN ?_ _ | with_reducible refine gb_drew ?_)))).mono ?_
          rintro e w1 ⟨rfl, hg1⟩
          rw [h0]
          have G1 : Hid (w.grownBy w1 none) := gb_trans (gb_alloc (gb_refl w none) _) hg1
          have B1 := hide ((Box.new w (.mk 33 x m p (u :: r)) (.slice (some ⟨g, o, none⟩) (r.length + 1) c) 24).kept hg1)
          obtain ⟨b0_1, b1_1, b2_1, b3_1, b4_1⟩ := B1.out
          obtain ⟨c0_1_0, c1_1_0, c2_1_0, c3_1_0, c4_1_0⟩ := N0.out.kept G1.out
          go_wp2_with fail
          go_at_call 71
          refine (IU.out.desig _ _ (HK.out.kept G1.out) HU.out (AU.out.kept G1.out)).mono ?_
          rintro e w2 ⟨rfl, hg2⟩
          rw [h1]
          have G2 : Hid (w.grownBy w2 none) := gb_trans G1.out hg2
          have B2 := hide (B1.out.kept hg2)
          obtain ⟨b0_2, b1_2, b2_2, b3_2, b4_2⟩ := B2.out
          obtain ⟨c0_2_0, c1_2_0, c2_2_0, c3_2_0, c4_2_0⟩ := N0.out.kept G2.out
          go_wp2_with fail
          go_ret
          exact ⟨rfl, G2.out⟩
        · skip
          cases h2 : r.all (wellB .expression)
          · skip
            rw [show wellB .expression (.mk 33 x m p (u :: r)) = false by rw [HE, h0]; simp [firstR, eachR, T.subs, List.all_map, Function.comp_def, h1, h2]]
            clear HE
            go_enter Tryz.func37, Tryz.ntmps37
            go_wp2_with fail
            go_at_call 16
            refine (head_any (.mk 33 x m p (u :: r)) _ 33 0 (-1) false _ (HK.out.kept (by repeat (first | with_reducible exact gb_refl w none | with_reducible refine gb_put ?_ (by omega) _ _ | with_reducible refine gb_alloc ?_ _ | with_reducible refine gb_drewN ?_ _ | with_reducible refine gb_drew ?_))) HF.out (HA.out.kept (by repeat (first | with_reducible exact gb_refl w none | with_reducible refine gb_put ?_ (by omega) _ _ | with_reducible refine gb_alloc ?_ _ | with_reducible refine gb_drewN ?_ _ | with_reducible refine gb_drew ?_)))).mono ?_
            rintro e w1 ⟨rfl, hg1⟩
            rw [h0]
            have G1 : Hid (w.grownBy w1 none) := gb_trans (gb_alloc (gb_refl w none) _) hg1
            have B1 := hide ((Box.new w (.mk 33 x m p (u :: r)) (.slice (some ⟨g, o, none⟩) (r.length + 1) c) 24).kept hg1)
            obtain ⟨b0_1, b1_1, b2_1, b3_1, b4_1⟩ := B1.out
            obtain ⟨c0_1_0, c1_1_0, c2_1_0, c3_1_0, c4_1_0⟩ := N0.out.kept G1.out
            go_wp2_with fail
            go_at_call 71
            refine (IU.out.desig _ _ (HK.out.kept G1.out) HU.out (AU.out.kept G1.out)).mono ?_
            rintro e w2 ⟨rfl, hg2⟩
            rw [h1]
            have G2 : Hid (w.grownBy w2 none) := gb_trans G1.out hg2
            have B2 := hide (B1.out.kept hg2)
            obtain ⟨b0_2, b1_2, b2_2, b3_2, b4_2⟩ := B2.out
            obtain ⟨c0_2_0, c1_2_0, c2_2_0, c3_2_0, c4_2_0⟩ := N0.out.kept G2.out
            go_wp2_with fail
            go_at_call 72
            refine (exprsShaped_any _ _ _ (HK.out.kept G2.out) IR.out (AR.out.kept G2.out)).mono ?_
            rintro e w3 ⟨rfl, hg3⟩
            rw [h2]
            have G3 : Hid (w.grownBy w3 none) := gb_trans G2.out hg3
            have B3 := hide (B2.out.kept hg3)
            obtain ⟨b0_3, b1_3, b2_3, b3_3, b4_3⟩ := B3.out
            obtain ⟨c0_3_0, c1_3_0, c2_3_0, c3_3_0, c4_3_0⟩ := N0.out.kept G3.out
            go_wp2_with fail
            go_ret
            exact ⟨rfl, G3.out⟩
          · skip
            rw [show wellB .expression (.mk 33 x m p (u :: r)) = true by rw [HE, h0]; simp [firstR, eachR, T.subs, List.all_map, Function.comp_def, h1, h2]]
            clear HE
            go_enter Tryz.func37, Tryz.ntmps37
            go_wp2_with fail
            go_at_call 16
            refine (head_any (.mk 33 x m p (u :: r)) _ 33 0 (-1) false _ (HK.out.kept (by repeat (first | with_reducible exact gb_refl w none | with_reducible refine gb_put ?_ (by omega) _ _ | with_reducible refine gb_alloc ?_ _ | with_reducible refine gb_drewN ?_ _ | with_reducible refine gb_drew ?_))) HF.out (HA.out.kept (by repeat (first | with_reducible exact gb_refl w none | with_reducible refine gb_put ?_ (by omega) _ _ | with_reducible refine gb_alloc ?_ _ | with_reducible refine gb_drewN ?_ _ | with_reducible refine gb_drew ?_)))).mono ?_
            rintro e w1 ⟨rfl, hg1⟩
            rw [h0]
            have G1 : Hid (w.grownBy w1 none) := gb_trans (gb_alloc (gb_refl w none) _) hg1
            have B1 := hide ((Box.new w (.mk 33 x m p (u :: r)) (.slice (some ⟨g, o, none⟩) (r.length + 1) c) 24).kept hg1)
            obtain ⟨b0_1, b1_1, b2_1, b3_1, b4_1⟩ := B1.out
            obtain ⟨c0_1_0, c1_1_0, c2_1_0, c3_1_0, c4_1_0⟩ := N0.out.kept G1.out
            go_wp2_with fail
            go_at_call 71
            refine (IU.out.desig _ _ (HK.out.kept G1.out) HU.out (AU.out.kept G1.out)).mono ?_
            rintro e w2 ⟨rfl, hg2⟩
            rw [h1]
            have G2 : Hid (w.grownBy w2 none) := gb_trans G1.out hg2
            have B2 := hide (B1.out.kept hg2)
            obtain ⟨b0_2, b1_2, b2_2, b3_2, b4_2⟩ := B2.out
            obtain ⟨c0_2_0, c1_2_0, c2_2_0, c3_2_0, c4_2_0⟩ := N0.out.kept G2.out
            go_wp2_with fail
            go_at_call 72
            refine (exprsShaped_any _ _ _ (HK.out.kept G2.out) IR.out (AR.out.kept G2.out)).mono ?_
            rintro e w3 ⟨rfl, hg3⟩
            rw [h2]
            have G3 : Hid (w.grownBy w3 none) := gb_trans G2.out hg3
            have B3 := hide (B2.out.kept hg3)
            obtain ⟨b0_3, b1_3, b2_3, b3_3, b4_3⟩ := B3.out
            obtain ⟨c0_3_0, c1_3_0, c2_3_0, c3_3_0, c4_3_0⟩ := N0.out.kept G3.out
            go_wp2_with fail
            go_ret
            exact ⟨rfl, G3.out⟩
      · obtain rfl : c = 1 := by omega
        obtain rfl : r = [] := List.eq_nil_of_length_eq_zero (by omega)
        have AR : Hid (AT w [] (.slice (some ⟨g, o, none⟩) 0 0)) := AT.nil _ _ (Nat.zero_le _)
        clear ar
        cases h1 : wellB .designator u
        · skip
          rw [show wellB .expression (.mk 33 x m p (u :: [])) = false by rw [HE, h0]; simp [firstR, eachR, T.subs, h1]]
          clear HE
          go_enter Tryz.func37, Tryz.ntmps37
          go_wp2_with fail
          go_at_call 16
          refine (head_any (.mk 33 x m p (u :: [])) _ 33 0 (-1) false _ (HK.out.kept (by repeat (first | with_reducible exact gb_refl w none | with_reducible refine gb_put ?_ (by omega) _ _ | with_reducible refine gb_alloc ?_ _ | with_reducible refine gb_drewN ?_ _ | with_reducible refine gb_drew ?_))) HF.out (HA.out.kept (by repeat (first | with_reducible exact gb_refl w none | with_reducible refine gb_put ?_ (by omega) _ _ | with_reducible refine gb_alloc ?_ _ | with_reducible refine gb_drewN ?_ _ | with_reducible refine gb_drew ?_)))).mono ?_
          rintro e w1 ⟨rfl, hg1⟩
          rw [h0]
          have G1 : Hid (w.grownBy w1 none) := gb_trans (gb_alloc (gb_refl w none) _) hg1
          have B1 := hide ((Box.new w (.mk 33 x m p (u :: [])) (.slice (some ⟨g, o, none⟩) 1 1) 24).kept hg1)
          obtain ⟨b0_1, b1_1, b2_1, b3_1, b4_1⟩ := B1.out
          obtain ⟨c0_1_0, c1_1_0, c2_1_0, c3_1_0, c4_1_0⟩ := N0.out.kept G1.out
          go_wp2_with fail
          go_at_call 71
          refine (IU.out.desig _ _ (HK.out.kept G1.out) HU.out (AU.out.kept G1.out)).mono ?_
          rintro e w2 ⟨rfl, hg2⟩
          rw [h1]
          have G2 : Hid (w.grownBy w2 none) := gb_trans G1.out hg2
          have B2 := hide (B1.out.kept hg2)
          obtain ⟨b0_2, b1_2, b2_2, b3_2, b4_2⟩ := B2.out
          obtain ⟨c0_2_0, c1_2_0, c2_2_0, c3_2_0, c4_2_0⟩ := N0.out.kept G2.out
          go_wp2_with fail
          go_ret
          exact ⟨rfl, G2.out⟩
        · skip
          have h2 : ([] : List T).all (wellB .expression) = true := rfl
          rw [show wellB .expression (.mk 33 x m p (u :: [])) = true by rw [HE, h0]; simp [firstR, eachR, T.subs, h1]]
          clear HE
          go_enter Tryz.func37, Tryz.ntmps37
          go_wp2_with fail
          go_at_call 16
          refine (head_any (.mk 33 x m p (u :: [])) _ 33 0 (-1) false _ (HK.out.kept (by repeat (first | with_reducible exact gb_refl w none | with_reducible refine gb_put ?_ (by omega) _ _ | with_reducible refine gb_alloc ?_ _ | with_reducible refine gb_drewN ?_ _ | with_reducible refine gb_drew ?_))) HF.out (HA.out.kept (by repeat (first | with_reducible exact gb_refl w none | with_reducible refine gb_put ?_ (by omega) _ _ | with_reducible refine gb_alloc ?_ _ | with_reducible refine gb_drewN ?_ _ | with_reducible refine gb_drew ?_)))).mono ?_
          rintro e w1 ⟨rfl, hg1⟩
          rw [h0]
          have G1 : Hid (w.grownBy w1 none) := gb_trans (gb_alloc (gb_refl w none) _) hg1
          have B1 := hide ((Box.new w (.mk 33 x m p (u :: [])) (.slice (some ⟨g, o, none⟩) 1 1) 24).kept hg1)
          obtain ⟨b0_1, b1_1, b2_1, b3_1, b4_1⟩ := B1.out
          obtain ⟨c0_1_0, c1_1_0, c2_1_0, c3_1_0, c4_1_0⟩ := N0.out.kept G1.out
          go_wp2_with fail
          go_at_call 71
          refine (IU.out.desig _ _ (HK.out.kept G1.out) HU.out (AU.out.kept G1.out)).mono ?_
          rintro e w2 ⟨rfl, hg2⟩
          rw [h1]
          have G2 : Hid (w.grownBy w2 none) := gb_trans G1.out hg2
          have B2 := hide (B1.out.kept hg2)
          obtain ⟨b0_2, b1_2, b2_2, b3_2, b4_2⟩ := B2.out
          obtain ⟨c0_2_0, c1_2_0, c2_2_0, c3_2_0, c4_2_0⟩ := N0.out.kept G2.out
          go_wp2_with fail
          go_at_call 72
          refine (exprsShaped_any _ _ _ (HK.out.kept G2.out) IR.out (AR.out.kept G2.out)).mono ?_
          rintro e w3 ⟨rfl, hg3⟩
          rw [h2]
          have G3 : Hid (w.grownBy w3 none) := gb_trans G2.out hg3
          have B3 := hide (B2.out.kept hg3)
          obtain ⟨b0_3, b1_3, b2_3, b3_3, b4_3⟩ := B3.out
          obtain ⟨c0_3_0, c1_3_0, c2_3_0, c3_3_0, c4_3_0⟩ := N0.out.kept G3.out
          go_wp2_with fail
          go_ret
          exact ⟨rfl, G3.out⟩
end Go.Proofs.YtlkokcnbbihljaaGreatDoor
