/- The document's shapes: procedures. -/
import Derived.Test.YtlkokcnbbihljaaGreatDoorG50
namespace Go.Proofs.YtlkokcnbbihljaaGreatDoor
open Go.RowKit

theorem AT.n4 {w : World} {t : T} {sv : Value} (h : AT w t.subs sv) (e : t.subs.length = 4) : ∃ g o c y0 s0 y1 s1 y2 s2 y3 s3, sv = .slice (some ⟨g, o, none⟩) 4 c ∧ 4 ≤ c ∧ c ≤ 9223372036854775807 ∧ t.subs = [y0, y1, y2, y3] ∧ (Node5 w g o y0 s0 ∧ Fits y0 ∧ AT w y0.subs s0) ∧ (Node5 w g (o + 5) y1 s1 ∧ Fits y1 ∧ AT w y1.subs s1) ∧ (Node5 w g (o + 10) y2 s2 ∧ Fits y2 ∧ AT w y2.subs s2) ∧ (Node5 w g (o + 15) y3 s3 ∧ Fits y3 ∧ AT w y3.subs s3) := by
  obtain ⟨a, c, rfl, h2, h3⟩ := h.form
  unfold maxLen at h3
  obtain ⟨y0, y1, y2, y3, hu⟩ : ∃ y0 y1 y2 y3, t.subs = [y0, y1, y2, y3] := by
    match hs : t.subs, e with
    | [y0, y1, y2, y3], _ => exact ⟨y0, y1, y2, y3, rfl⟩
  obtain ⟨g, o, s0, rfl, n0, f0, a0⟩ := h.node 0 y0 (by rw [hu]; rfl)
  obtain ⟨g1, o1, s1, e1, n1, f1, a1⟩ := h.node 1 y1 (by rw [hu]; rfl)
  cases e1
  obtain ⟨g2, o2, s2, e2, n2, f2, a2⟩ := h.node 2 y2 (by rw [hu]; rfl)
  cases e2
  obtain ⟨g3, o3, s3, e3, n3, f3, a3⟩ := h.node 3 y3 (by rw [hu]; rfl)
  cases e3
  rw [e] at h2 ⊢
  exact ⟨g, o, c, y0, s0, y1, s1, y2, s2, y3, s3, rfl, h2, by omega, hu, ⟨by simpa using n0, f0, a0⟩, ⟨by simpa using n1, f1, a1⟩, ⟨by simpa using n2, f2, a2⟩, ⟨by simpa using n3, f3, a3⟩⟩
theorem AT.n6 {w : World} {t : T} {sv : Value} (h : AT w t.subs sv) (e : t.subs.length = 6) : ∃ g o c y0 s0 y1 s1 y2 s2 y3 s3 y4 s4 y5 s5, sv = .slice (some ⟨g, o, none⟩) 6 c ∧ 6 ≤ c ∧ c ≤ 9223372036854775807 ∧ t.subs = [y0, y1, y2, y3, y4, y5] ∧ (Node5 w g o y0 s0 ∧ Fits y0 ∧ AT w y0.subs s0) ∧ (Node5 w g (o + 5) y1 s1 ∧ Fits y1 ∧ AT w y1.subs s1) ∧ (Node5 w g (o + 10) y2 s2 ∧ Fits y2 ∧ AT w y2.subs s2) ∧ (Node5 w g (o + 15) y3 s3 ∧ Fits y3 ∧ AT w y3.subs s3) ∧ (Node5 w g (o + 20) y4 s4 ∧ Fits y4 ∧ AT w y4.subs s4) ∧ (Node5 w g (o + 25) y5 s5 ∧ Fits y5 ∧ AT w y5.subs s5) := by
  obtain ⟨a, c, rfl, h2, h3⟩ := h.form
  unfold maxLen at h3
  obtain ⟨y0, y1, y2, y3, y4, y5, hu⟩ : ∃ y0 y1 y2 y3 y4 y5, t.subs = [y0, y1, y2, y3, y4, y5] := by
    match hs : t.subs, e with
    | [y0, y1, y2, y3, y4, y5], _ => exact ⟨y0, y1, y2, y3, y4, y5, rfl⟩
  obtain ⟨g, o, s0, rfl, n0, f0, a0⟩ := h.node 0 y0 (by rw [hu]; rfl)
  obtain ⟨g1, o1, s1, e1, n1, f1, a1⟩ := h.node 1 y1 (by rw [hu]; rfl)
  cases e1
  obtain ⟨g2, o2, s2, e2, n2, f2, a2⟩ := h.node 2 y2 (by rw [hu]; rfl)
  cases e2
  obtain ⟨g3, o3, s3, e3, n3, f3, a3⟩ := h.node 3 y3 (by rw [hu]; rfl)
  cases e3
  obtain ⟨g4, o4, s4, e4, n4, f4, a4⟩ := h.node 4 y4 (by rw [hu]; rfl)
  cases e4
  obtain ⟨g5, o5, s5, e5, n5, f5, a5⟩ := h.node 5 y5 (by rw [hu]; rfl)
  cases e5
  rw [e] at h2 ⊢
  exact ⟨g, o, c, y0, s0, y1, s1, y2, s2, y3, s3, y4, s4, y5, s5, rfl, h2, by omega, hu, ⟨by simpa using n0, f0, a0⟩, ⟨by simpa using n1, f1, a1⟩, ⟨by simpa using n2, f2, a2⟩, ⟨by simpa using n3, f3, a3⟩, ⟨by simpa using n4, f4, a4⟩, ⟨by simpa using n5, f5, a5⟩⟩

set_option maxRecDepth 1000000 in
set_option maxHeartbeats 1000000 in
theorem decl5 (x : List UInt8) (m p : Int) (l : List T) (sv : Value) (w : World) (hk : KW w) (hf : Fits (.mk 5 x m p l)) (ha : AT w (T.mk 5 x m p l).subs sv) (IH : ∀ u, u ∈ l → ShOK u) :
    Calls Tryz.prog 17 #[.agg #[.int .i64 5, .string ⟨x.toArray⟩, .int .i64 m, .int .i64 p, sv]] w (Sy w (.bool (wellB (.declared 5 1 .typeItself) (.mk 5 x m p l)))) := by
  have HE := wellB_only (r := (.declared 5 1 .typeItself)) (t := (.mk 5 x m p l)) (c := headB (.mk 5 x m p l) 5 true 1 1) (l := zipR l [.typeItself]) rfl
  have HK := hide hk
  have HF := hide hf
  have HA := hide ha
  cases h0 : headB (.mk 5 x m p l) 5 true 1 1
  · rw [show wellB (.declared 5 1 .typeItself) (.mk 5 x m p l) = false by rw [HE, h0]; rfl]
    clear HE
    obtain ⟨a, n, c, rfl, hn, hc, hl⟩ := ha.any
    clear hk hf ha IH
    go_enter Tryz.func17, Tryz.ntmps17
    go_wp2_with fail
    go_at_call 16
    refine (head_any (.mk 5 x m p l) _ 5 1 1 true _ (HK.out.kept (by repeat (first | with_reducible exact gb_refl w none | with_reducible refine gb_put ?_ (by omega) _ _ | with_reducible refine gb_alloc ?_ _ | with_reducible refine gb_drewN ?_ _ | with_reducible refine gb_drew ?_))) HF.out (HA.out.kept (by repeat (first | with_reducible exact gb_refl w none | with_reducible refine gb_put ?_ (by omega) _ _ | with_reducible refine gb_alloc ?_ _ | with_reducible refine gb_drewN ?_ _ | with_reducible refine gb_drew ?_)))).mono ?_
    rintro e w1 ⟨rfl, hg1⟩
    rw [h0]
    have G1 : Hid (w.grownBy w1 none) := gb_trans (gb_alloc (gb_refl w none) _) hg1
    have B1 := hide ((Box.new w (.mk 5 x m p l) (.slice a n c) 24).kept hg1)
    obtain ⟨b0_1, b1_1, b2_1, b3_1, b4_1⟩ := B1.out
    go_wp2_with fail
    go_ret
    exact ⟨rfl, G1.out⟩
  · obtain ⟨g, o, c, u, su, rfl, hn, hc, hl, n5, fu, au⟩ := ha.one (head_len (n := 1) h0)
    change l = [u] at hl
    subst hl
    have N0 := hide n5
    have HU := hide fu
    have AU := hide au
    clear IH
    clear hk hf ha fu au n5
    cases h1 : wellB .typeItself u
    · skip
      rw [show wellB (.declared 5 1 .typeItself) (.mk 5 x m p [u]) = false by rw [HE, h0]; simp [zipR, h1]]
      clear HE
      go_enter Tryz.func17, Tryz.ntmps17
      go_wp2_with fail
      go_at_call 16
      refine (head_any (.mk 5 x m p [u]) _ 5 1 1 true _ (HK.out.kept (by repeat (first | with_reducible exact gb_refl w none | with_reducible refine gb_put ?_ (by omega) _ _ | with_reducible refine gb_alloc ?_ _ | with_reducible refine gb_drewN ?_ _ | with_reducible refine gb_drew ?_))) HF.out (HA.out.kept (by repeat (first | with_reducible exact gb_refl w none | with_reducible refine gb_put ?_ (by omega) _ _ | with_reducible refine gb_alloc ?_ _ | with_reducible refine gb_drewN ?_ _ | with_reducible refine gb_drew ?_)))).mono ?_
      rintro e w1 ⟨rfl, hg1⟩
      rw [h0]
      have G1 : Hid (w.grownBy w1 none) := gb_trans (gb_alloc (gb_refl w none) _) hg1
      have B1 := hide ((Box.new w (.mk 5 x m p [u]) (.slice (some ⟨g, o, none⟩) 1 c) 24).kept hg1)
      obtain ⟨b0_1, b1_1, b2_1, b3_1, b4_1⟩ := B1.out
      obtain ⟨c0_1_0, c1_1_0, c2_1_0, c3_1_0, c4_1_0⟩ := N0.out.kept G1.out
      go_wp2_with fail
      go_at_call 38
      refine (typeShaped_any _ _ _ (HK.out.kept G1.out) HU.out (AU.out.kept G1.out)).mono ?_
      rintro e w2 ⟨rfl, hg2⟩
      rw [h1]
      have G2 : Hid (w.grownBy w2 none) := gb_trans G1.out hg2
      have B2 := hide (B1.out.kept hg2)
      obtain ⟨b0_2, b1_2, b2_2, b3_2, b4_2⟩ := B2.out
      obtain ⟨c0_2_0, c1_2_0, c2_2_0, c3_2_0, c4_2_0⟩ := N0.out.kept G2.out
      go_wp2_with fail
      go_ret
      exact ⟨rfl, G2.out⟩
    · skip
      rw [show wellB (.declared 5 1 .typeItself) (.mk 5 x m p [u]) = true by rw [HE, h0]; simp [zipR, h1]]
      clear HE
      go_enter Tryz.func17, Tryz.ntmps17
      go_wp2_with fail
      go_at_call 16
      refine (head_any (.mk 5 x m p [u]) _ 5 1 1 true _ (HK.out.kept (by repeat (first | with_reducible exact gb_refl w none | with_reducible refine gb_put ?_ (by omega) _ _ | with_reducible refine gb_alloc ?_ _ | with_reducible refine gb_drewN ?_ _ | with_reducible refine gb_drew ?_))) HF.out (HA.out.kept (by repeat (first | with_reducible exact gb_refl w none | with_reducible refine gb_put ?_ (by omega) _ _ | with_reducible refine gb_alloc ?_ _ | with_reducible refine gb_drewN ?_ _ | with_reducible refine gb_drew ?_)))).mono ?_
      rintro e w1 ⟨rfl, hg1⟩
      rw [h0]
      have G1 : Hid (w.grownBy w1 none) := gb_trans (gb_alloc (gb_refl w none) _) hg1
      have B1 := hide ((Box.new w (.mk 5 x m p [u]) (.slice (some ⟨g, o, none⟩) 1 c) 24).kept hg1)
      obtain ⟨b0_1, b1_1, b2_1, b3_1, b4_1⟩ := B1.out
      obtain ⟨c0_1_0, c1_1_0, c2_1_0, c3_1_0, c4_1_0⟩ := N0.out.kept G1.out
      go_wp2_with fail
      go_at_call 38
      refine (typeShaped_any _ _ _ (HK.out.kept G1.out) HU.out (AU.out.kept G1.out)).mono ?_
      rintro e w2 ⟨rfl, hg2⟩
      rw [h1]
      have G2 : Hid (w.grownBy w2 none) := gb_trans G1.out hg2
      have B2 := hide (B1.out.kept hg2)
      obtain ⟨b0_2, b1_2, b2_2, b3_2, b4_2⟩ := B2.out
      obtain ⟨c0_2_0, c1_2_0, c2_2_0, c3_2_0, c4_2_0⟩ := N0.out.kept G2.out
      go_wp2_with fail
      go_ret
      exact ⟨rfl, G2.out⟩
theorem well_list (r : Rule) (t : T) : wellB (.list r) t = (headB t 1 false 0 (-1) && t.subs.all (wellB r)) := by
  rw [wellB_only (show stepR (.list r) t = onlyIf (headB t 1 false 0 (-1)) (eachR t.subs r) from rfl)]
  simp [eachR, List.all_map, Function.comp_def]
theorem well_var0 (xu : List UInt8) (pu : Int) (lu : List T) : wellB (.declared 6 0 .typeName) (.mk 6 xu 0 pu lu) = wellB (.declared 6 1 .typeName) (.mk 6 xu 0 pu lu) := by
  rw [wellB_only (show stepR (.declared 6 0 .typeName) (.mk 6 xu 0 pu lu) = onlyIf _ _ from rfl), wellB_only (show stepR (.declared 6 1 .typeName) (.mk 6 xu 0 pu lu) = onlyIf _ _ from rfl)]
  simp [headB, T.num]
set_option maxRecDepth 1000000 in
set_option maxHeartbeats 2000000 in
theorem decl7 (x : List UInt8) (m p : Int) (l : List T) (sv : Value) (w : World) (hk : KW w) (hf : Fits (.mk 7 x m p l)) (ha : AT w (T.mk 7 x m p l).subs sv) :
    Calls Tryz.prog 17 #[.agg #[.int .i64 7, .string ⟨x.toArray⟩, .int .i64 m, .int .i64 p, sv]] w (Sy w (.bool (wellB .procedure (.mk 7 x m p l)))) := by
  have HE := wellB_only (r := .procedure) (t := (.mk 7 x m p l)) (c := headB (.mk 7 x m p l) 7 true 1 4) (l := zipR l [.list (.declared 8 1 .typeName), .typeNameOrNone, .list (.declared 6 0 .typeName), .list .act]) rfl
  have HK := hide hk
  have HF := hide hf
  have HA := hide ha
  cases h0 : headB (.mk 7 x m p l) 7 true 1 4
  · rw [show wellB .procedure (.mk 7 x m p l) = false by rw [HE, h0]; rfl]
    obtain ⟨a, n, c, rfl, hn, hc, hl⟩ := ha.any
    clear HE hk hf ha
    go_enter Tryz.func17, Tryz.ntmps17
    go_wp2_with fail
    go_at_call 16
    refine (head_any (.mk 7 x m p l) _ 7 1 4 true _ (HK.out.kept (gb_alloc (gb_refl w none) _)) HF.out (HA.out.kept (gb_alloc (gb_refl w none) _))).mono ?_
    rintro e w1 ⟨rfl, hg1⟩
    rw [h0]
    have G1 : Hid (w.grownBy w1 none) := gb_trans (gb_alloc (gb_refl w none) _) hg1
    have B1 := hide ((Box.new w (.mk 7 x m p l) (.slice a n c) 24).kept hg1)
    obtain ⟨b0_1, b1_1, b2_1, b3_1, b4_1⟩ := B1.out
    go_wp2_with fail
    go_ret
    exact ⟨rfl, (G1.out)⟩
  · obtain ⟨g, o, c, y0, s0, y1, s1, y2, s2, y3, s3, rfl, hn, hc, hl, ⟨n0, f0, a0⟩, ⟨n1, f1, a1⟩, ⟨n2, f2, a2⟩, ⟨n3, f3, a3⟩⟩ := ha.n4 (head_len (n := 4) h0)
    change l = [y0, y1, y2, y3] at hl
    subst hl
    have HV : Hid (wellB .procedure (.mk 7 x m p [y0, y1, y2, y3]) = ((headB y0 1 false 0 (-1) && y0.subs.all (wellB (.declared 8 1 .typeName))) && (headB y1 0 false 0 0 || wellB .typeName y1) && (headB y2 1 false 0 (-1) && y2.subs.all (wellB (.declared 6 0 .typeName))) && wellB (.list .act) y3)) := by
      show _ = _
      rw [HE, h0, ← well_nameOrNone, ← well_list, ← well_list]; simp [zipR, Bool.and_assoc]
    obtain ⟨aa, na, ca, rfl, hna, hca, hla⟩ := a0.any
    obtain ⟨ab, nb, cb, rfl, hnb, hcb, hlb⟩ := a2.any
    have N0 := hide n0
    have N1 := hide n1
    have N2 := hide n2
    have N3 := hide n3
    have A0 := hide a0
    have A1 := hide a1
    have A2 := hide a2
    have A3 := hide a3
    have F0 := hide f0
    have F1 := hide f1
    have F2 := hide f2
    have F3 := hide f3
    generalize hL0 : y0.subs = L0 at *
    generalize hL2 : y2.subs = L2 at *
    subst hla hlb
    clear hk hf ha HE n0 n1 n2 n3 a0 a1 a2 a3 f0 f1 f2 f3
    cases h1 : headB y0 1 false 0 (-1)
    · rw [show wellB .procedure (.mk 7 x m p [y0, y1, y2, y3]) = false by rw [HV.out, h1]; rfl]
      go_enter Tryz.func17, Tryz.ntmps17
      go_wp2_with fail
      go_at_call 16
      refine (head_any (.mk 7 x m p [y0, y1, y2, y3]) _ 7 1 4 true _ (HK.out.kept (gb_alloc (gb_refl w none) _)) HF.out (HA.out.kept (gb_alloc (gb_refl w none) _))).mono ?_
      rintro e w1 ⟨rfl, hg1⟩
      rw [h0]
      have G1 : Hid (w.grownBy w1 none) := gb_trans (gb_alloc (gb_refl w none) _) hg1
      have B1 := hide ((Box.new w (.mk 7 x m p [y0, y1, y2, y3]) (.slice (some ⟨g, o, none⟩) 4 c) 24).kept hg1)
      obtain ⟨b0_1, b1_1, b2_1, b3_1, b4_1⟩ := B1.out
      obtain ⟨c0_1_0, c1_1_0, c2_1_0, c3_1_0, c4_1_0⟩ := N0.out.kept G1.out
      obtain ⟨c0_1_1, c1_1_1, c2_1_1, c3_1_1, c4_1_1⟩ := N1.out.kept G1.out
      obtain ⟨c0_1_2, c1_1_2, c2_1_2, c3_1_2, c4_1_2⟩ := N2.out.kept G1.out
      obtain ⟨c0_1_3, c1_1_3, c2_1_3, c3_1_3, c4_1_3⟩ := N3.out.kept G1.out
      go_wp2_with fail
      go_at_call 16
      refine (head_any y0 _ 1 0 (-1) false _ (HK.out.kept (G1.out)) F0.out (hL0 ▸ (A0.out.kept (G1.out)))).mono ?_
      rintro e w2 ⟨rfl, hg2⟩
      rw [h1]
      have G2 : Hid (w.grownBy w2 none) := gb_trans (G1.out) hg2
      have B2 := hide (B1.out.kept hg2)
      obtain ⟨b0_2, b1_2, b2_2, b3_2, b4_2⟩ := B2.out
      obtain ⟨c0_2_0, c1_2_0, c2_2_0, c3_2_0, c4_2_0⟩ := N0.out.kept G2.out
      obtain ⟨c0_2_1, c1_2_1, c2_2_1, c3_2_1, c4_2_1⟩ := N1.out.kept G2.out
      obtain ⟨c0_2_2, c1_2_2, c2_2_2, c3_2_2, c4_2_2⟩ := N2.out.kept G2.out
      obtain ⟨c0_2_3, c1_2_3, c2_2_3, c3_2_3, c4_2_3⟩ := N3.out.kept G2.out
      go_wp2_with fail
      go_ret
      exact ⟨rfl, (G2.out)⟩
    · cases h2 : headB y2 1 false 0 (-1)
      · rw [show wellB .procedure (.mk 7 x m p [y0, y1, y2, y3]) = false by rw [HV.out, h1, h2]; simp]
        go_enter Tryz.func17, Tryz.ntmps17
        go_wp2_with fail
        go_at_call 16
        refine (head_any (.mk 7 x m p [y0, y1, y2, y3]) _ 7 1 4 true _ (HK.out.kept (gb_alloc (gb_refl w none) _)) HF.out (HA.out.kept (gb_alloc (gb_refl w none) _))).mono ?_
        rintro e w1 ⟨rfl, hg1⟩
        rw [h0]
        have G1 : Hid (w.grownBy w1 none) := gb_trans (gb_alloc (gb_refl w none) _) hg1
        have B1 := hide ((Box.new w (.mk 7 x m p [y0, y1, y2, y3]) (.slice (some ⟨g, o, none⟩) 4 c) 24).kept hg1)
        obtain ⟨b0_1, b1_1, b2_1, b3_1, b4_1⟩ := B1.out
        obtain ⟨c0_1_0, c1_1_0, c2_1_0, c3_1_0, c4_1_0⟩ := N0.out.kept G1.out
        obtain ⟨c0_1_1, c1_1_1, c2_1_1, c3_1_1, c4_1_1⟩ := N1.out.kept G1.out
        obtain ⟨c0_1_2, c1_1_2, c2_1_2, c3_1_2, c4_1_2⟩ := N2.out.kept G1.out
        obtain ⟨c0_1_3, c1_1_3, c2_1_3, c3_1_3, c4_1_3⟩ := N3.out.kept G1.out
        go_wp2_with fail
        go_at_call 16
        refine (head_any y0 _ 1 0 (-1) false _ (HK.out.kept (G1.out)) F0.out (hL0 ▸ (A0.out.kept (G1.out)))).mono ?_
        rintro e w2 ⟨rfl, hg2⟩
        rw [h1]
        have G2 : Hid (w.grownBy w2 none) := gb_trans (G1.out) hg2
        have B2 := hide (B1.out.kept hg2)
        obtain ⟨b0_2, b1_2, b2_2, b3_2, b4_2⟩ := B2.out
        obtain ⟨c0_2_0, c1_2_0, c2_2_0, c3_2_0, c4_2_0⟩ := N0.out.kept G2.out
        obtain ⟨c0_2_1, c1_2_1, c2_2_1, c3_2_1, c4_2_1⟩ := N1.out.kept G2.out
        obtain ⟨c0_2_2, c1_2_2, c2_2_2, c3_2_2, c4_2_2⟩ := N2.out.kept G2.out
        obtain ⟨c0_2_3, c1_2_3, c2_2_3, c3_2_3, c4_2_3⟩ := N3.out.kept G2.out
        go_wp2_with fail
        go_at_call 16
        refine (head_any y2 _ 1 0 (-1) false _ (HK.out.kept (G2.out)) F2.out (hL2 ▸ (A2.out.kept (G2.out)))).mono ?_
        rintro e w3 ⟨rfl, hg3⟩
        rw [h2]
        have G3 : Hid (w.grownBy w3 none) := gb_trans (G2.out) hg3
        have B3 := hide (B2.out.kept hg3)
        obtain ⟨b0_3, b1_3, b2_3, b3_3, b4_3⟩ := B3.out
        obtain ⟨c0_3_0, c1_3_0, c2_3_0, c3_3_0, c4_3_0⟩ := N0.out.kept G3.out
        obtain ⟨c0_3_1, c1_3_1, c2_3_1, c3_3_1, c4_3_1⟩ := N1.out.kept G3.out
        obtain ⟨c0_3_2, c1_3_2, c2_3_2, c3_3_2, c4_3_2⟩ := N2.out.kept G3.out
        obtain ⟨c0_3_3, c1_3_3, c2_3_3, c3_3_3, c4_3_3⟩ := N3.out.kept G3.out
        go_wp2_with fail
        go_ret
        exact ⟨rfl, (G3.out)⟩
      · have HW : Hid (wellB .procedure (.mk 7 x m p [y0, y1, y2, y3]) = (L0.all (wellB (.declared 8 1 .typeName)) && (headB y1 0 false 0 0 || wellB .typeName y1) && L2.all (wellB (.declared 6 0 .typeName)) && wellB (.list .act) y3)) := by show _ = _; rw [HV.out, h1, h2]; simp
        go_enter Tryz.func17, Tryz.ntmps17
        go_wp2_with fail
        go_at_call 16
        refine (head_any (.mk 7 x m p [y0, y1, y2, y3]) _ 7 1 4 true _ (HK.out.kept (gb_alloc (gb_refl w none) _)) HF.out (HA.out.kept (gb_alloc (gb_refl w none) _))).mono ?_
        rintro e w1 ⟨rfl, hg1⟩
        rw [h0]
        have G1 : Hid (w.grownBy w1 none) := gb_trans (gb_alloc (gb_refl w none) _) hg1
        have B1 := hide ((Box.new w (.mk 7 x m p [y0, y1, y2, y3]) (.slice (some ⟨g, o, none⟩) 4 c) 24).kept hg1)
        obtain ⟨b0_1, b1_1, b2_1, b3_1, b4_1⟩ := B1.out
        obtain ⟨c0_1_0, c1_1_0, c2_1_0, c3_1_0, c4_1_0⟩ := N0.out.kept G1.out
        obtain ⟨c0_1_1, c1_1_1, c2_1_1, c3_1_1, c4_1_1⟩ := N1.out.kept G1.out
        obtain ⟨c0_1_2, c1_1_2, c2_1_2, c3_1_2, c4_1_2⟩ := N2.out.kept G1.out
        obtain ⟨c0_1_3, c1_1_3, c2_1_3, c3_1_3, c4_1_3⟩ := N3.out.kept G1.out
        go_wp2_with fail
        go_at_call 16
        refine (head_any y0 _ 1 0 (-1) false _ (HK.out.kept (G1.out)) F0.out (hL0 ▸ (A0.out.kept (G1.out)))).mono ?_
        rintro e w2 ⟨rfl, hg2⟩
        rw [h1]
        have G2 : Hid (w.grownBy w2 none) := gb_trans (G1.out) hg2
        have B2 := hide (B1.out.kept hg2)
        obtain ⟨b0_2, b1_2, b2_2, b3_2, b4_2⟩ := B2.out
        obtain ⟨c0_2_0, c1_2_0, c2_2_0, c3_2_0, c4_2_0⟩ := N0.out.kept G2.out
        obtain ⟨c0_2_1, c1_2_1, c2_2_1, c3_2_1, c4_2_1⟩ := N1.out.kept G2.out
        obtain ⟨c0_2_2, c1_2_2, c2_2_2, c3_2_2, c4_2_2⟩ := N2.out.kept G2.out
        obtain ⟨c0_2_3, c1_2_3, c2_2_3, c3_2_3, c4_2_3⟩ := N3.out.kept G2.out
        go_wp2_with fail
        go_at_call 16
        refine (head_any y2 _ 1 0 (-1) false _ (HK.out.kept (G2.out)) F2.out (hL2 ▸ (A2.out.kept (G2.out)))).mono ?_
        rintro e w3 ⟨rfl, hg3⟩
        rw [h2]
        have G3 : Hid (w.grownBy w3 none) := gb_trans (G2.out) hg3
        have B3 := hide (B2.out.kept hg3)
        obtain ⟨b0_3, b1_3, b2_3, b3_3, b4_3⟩ := B3.out
        obtain ⟨c0_3_0, c1_3_0, c2_3_0, c3_3_0, c4_3_0⟩ := N0.out.kept G3.out
        obtain ⟨c0_3_1, c1_3_1, c2_3_1, c3_3_1, c4_3_1⟩ := N1.out.kept G3.out
        obtain ⟨c0_3_2, c1_3_2, c2_3_2, c3_3_2, c4_3_2⟩ := N2.out.kept G3.out
        obtain ⟨c0_3_3, c1_3_3, c2_3_3, c3_3_3, c4_3_3⟩ := N3.out.kept G3.out
        clear h0 h1 h2
        go_wp2_with fail
        go_loopw [3] (fun iv wr => ∃ i : Nat, i ≤ L0.length ∧ iv = .int .i64 ↑i ∧ Hid ((L0.take i).all (wellB (.declared 8 1 .typeName)) = true) ∧ Hid (w.grownBy wr none) ∧ Hid (Box wr w.heap.size (.mk 7 x m p [y0, y1, y2, y3]) (.slice (some ⟨g, o, none⟩) 4 c))) (fun iv _ => L0.length + 0 - (intOf iv).toNat)
        case atStart => exact ⟨0, Nat.zero_le _, rfl, by show _ = _; simp, G3, B3⟩
        case round =>
          obtain ⟨i4, hi4, rfl, HB4, HG4, HX4⟩ := hrel
          obtain ⟨b0_4, b1_4, b2_4, b3_4, b4_4⟩ := HX4.out
          obtain ⟨c0_4_0, c1_4_0, c2_4_0, c3_4_0, c4_4_0⟩ := N0.out.kept HG4.out
          obtain ⟨c0_4_1, c1_4_1, c2_4_1, c3_4_1, c4_4_1⟩ := N1.out.kept HG4.out
          obtain ⟨c0_4_2, c1_4_2, c2_4_2, c3_4_2, c4_4_2⟩ := N2.out.kept HG4.out
          obtain ⟨c0_4_3, c1_4_3, c2_4_3, c3_4_3, c4_4_3⟩ := N3.out.kept HG4.out
          by_cases hlt4 : i4 < L0.length
          · obtain ⟨u, hu⟩ : ∃ u, L0[i4]? = some u := ⟨_, List.getElem?_eq_getElem hlt4⟩
            obtain ⟨gg, oo, su, e1, n5, fu, au⟩ := (A0.out.kept HG4.out).node i4 u (by first | exact hu | simpa [T.subs] using hu)
            cases e1
            have HT := hide (all_step hu HB4.out)
            have HU := hide fu
            have AU := hide au
            clear hu
            obtain ⟨ku, xu, mu, pu, lu⟩ := u
            obtain ⟨d0, d1, d2, d3, d4⟩ := n5
            change _ = some (Value.int .i64 ku) at d0
            change _ = some (Value.int .i64 mu) at d2
            change _ = some (Value.string ⟨xu.toArray⟩) at d1
            change _ = some (Value.int .i64 pu) at d3
            clear fu au
            by_cases hk : ku = 8
            · subst hk
              cases hv : (wellB (.declared 8 1 .typeName)) (.mk 8 xu mu pu lu)
              · skip
                have HQF : Hid (L0.all (wellB (.declared 8 1 .typeName)) = false) := all_false (HT.out.trans (hv))
                go_wp2_with fail
                go_at_call 17
                refine (decl8 xu mu pu lu _ _ (HK.out.kept HG4.out) HU.out AU.out (fun v _ => sh_all v)).mono ?_
                rintro e w9 ⟨rfl, hg9⟩
                rw [hv]
                have G9 : Hid (w.grownBy w9 none) := gb_trans HG4.out hg9
                go_wp2_with fail
                go_ret
                exact ⟨by rw [HW.out, HQF.out]; rfl, G9.out⟩
              · skip
                go_wp2_with fail
                go_at_call 17
                refine (decl8 xu mu pu lu _ _ (HK.out.kept HG4.out) HU.out AU.out (fun v _ => sh_all v)).mono ?_
                rintro e w9 ⟨rfl, hg9⟩
                rw [hv]
                have G9 : Hid (w.grownBy w9 none) := gb_trans HG4.out hg9
                have B9 := hide (HX4.out.kept hg9)
                have HB9 : Hid ((L0.take (i4 + 1)).all (wellB (.declared 8 1 .typeName)) = true) := HT.out.trans hv
                go_wp2_with fail
                exact ⟨⟨i4 + 1, by omega, by go_num, HB9, G9, B9⟩, by simp [intOf]; omega⟩
            · have hkb : (ku != 8) = true := by simpa using hk
              have HQF : Hid (L0.all (wellB (.declared 8 1 .typeName)) = false) := all_false (HT.out.trans (by rw [wellB_only (show stepR (.declared 8 1 .typeName) (.mk ku xu mu pu lu) = onlyIf _ _ from rfl)]; simp [headB, T.kind, hk]))
              go_wp2_with fail
              go_ret
              exact ⟨by rw [HW.out, HQF.out]; rfl, HG4.out⟩
          · have HQ0 := hide (all_done hlt4 HB4.out)
            go_wp2_with fail
            go_loopw [4] (fun iv wr => ∃ i : Nat, i ≤ L2.length ∧ iv = .int .i64 ↑i ∧ Hid ((L2.take i).all (wellB (.declared 6 0 .typeName)) = true) ∧ Hid (w.grownBy wr none) ∧ Hid (Box wr w.heap.size (.mk 7 x m p [y0, y1, y2, y3]) (.slice (some ⟨g, o, none⟩) 4 c))) (fun iv _ => L2.length + 0 - (intOf iv).toNat)
            case atStart => exact ⟨0, Nat.zero_le _, rfl, by show _ = _; simp, HG4, HX4⟩
            case round =>
              obtain ⟨i5, hi5, rfl, HB5, HG5, HX5⟩ := hrel
              obtain ⟨b0_5, b1_5, b2_5, b3_5, b4_5⟩ := HX5.out
              obtain ⟨c0_5_0, c1_5_0, c2_5_0, c3_5_0, c4_5_0⟩ := N0.out.kept HG5.out
              obtain ⟨c0_5_1, c1_5_1, c2_5_1, c3_5_1, c4_5_1⟩ := N1.out.kept HG5.out
              obtain ⟨c0_5_2, c1_5_2, c2_5_2, c3_5_2, c4_5_2⟩ := N2.out.kept HG5.out
              obtain ⟨c0_5_3, c1_5_3, c2_5_3, c3_5_3, c4_5_3⟩ := N3.out.kept HG5.out
              have hsz5 := HG5.out.size
              by_cases hlt5 : i5 < L2.length
              · obtain ⟨u, hu⟩ : ∃ u, L2[i5]? = some u := ⟨_, List.getElem?_eq_getElem hlt5⟩
                obtain ⟨gg, oo, su, e1, n5, fu, au⟩ := (A2.out.kept HG5.out).node i5 u (by first | exact hu | simpa [T.subs] using hu)
                cases e1
                obtain ⟨sa, sc, rfl, _, _⟩ := au.form
                have HT := hide (all_step hu HB5.out)
                have HU := hide fu
                have AU := hide au
                clear hu
                obtain ⟨ku, xu, mu, pu, lu⟩ := u
                obtain ⟨d0, d1, d2, d3, d4⟩ := n5
                change _ = some (Value.int .i64 ku) at d0
                change _ = some (Value.int .i64 mu) at d2
                change _ = some (Value.string ⟨xu.toArray⟩) at d1
                change _ = some (Value.int .i64 pu) at d3
                clear fu au
                by_cases hk : ku = 6
                · subst hk
                  by_cases hz : mu = 0
                  · subst hz
                    cases hv : (wellB (.declared 6 0 .typeName)) (.mk 6 xu 0 pu lu)
                    · skip
                      have HQF : Hid (L2.all (wellB (.declared 6 0 .typeName)) = false) := all_false (HT.out.trans (hv))
                      go_wp2_with fail
                      go_at_call 17
                      refine (decl6 xu 0 pu lu _ _ (HK.out.kept (by repeat (first | with_reducible exact HG5.out | with_reducible refine gb_put ?_ (by omega) _ _ | with_reducible refine gb_alloc ?_ _ | with_reducible refine gb_drewN ?_ _ | with_reducible refine gb_drew ?_))) HU.out (AU.out.kept (by repeat (first | with_reducible exact gb_refl wr none | with_reducible refine gb_put ?_ (by omega) _ _ | with_reducible refine gb_alloc ?_ _ | with_reducible refine gb_drewN ?_ _ | with_reducible refine gb_drew ?_))) (fun v _ => sh_all v)).mono ?_
                      rintro e w9 ⟨rfl, hg9⟩
                      rw [← well_var0, hv]
                      have G9 : Hid (w.grownBy w9 none) := gb_trans (by repeat (first | with_reducible exact HG5.out | with_reducible refine gb_put ?_ (by omega) _ _ | with_reducible refine gb_alloc ?_ _ | with_reducible refine gb_drewN ?_ _ | with_reducible refine gb_drew ?_)) hg9
                      go_wp2_with fail
                      go_ret
                      exact ⟨by rw [HW.out, HQF.out]; simp, G9.out⟩
                    · skip
                      go_wp2_with fail
                      go_at_call 17
                      refine (decl6 xu 0 pu lu _ _ (HK.out.kept (by repeat (first | with_reducible exact HG5.out | with_reducible refine gb_put ?_ (by omega) _ _ | with_reducible refine gb_alloc ?_ _ | with_reducible refine gb_drewN ?_ _ | with_reducible refine gb_drew ?_))) HU.out (AU.out.kept (by repeat (first | with_reducible exact gb_refl wr none | with_reducible refine gb_put ?_ (by omega) _ _ | with_reducible refine gb_alloc ?_ _ | with_reducible refine gb_drewN ?_ _ | with_reducible refine gb_drew ?_))) (fun v _ => sh_all v)).mono ?_
                      rintro e w9 ⟨rfl, hg9⟩
                      rw [← well_var0, hv]
                      have G9 : Hid (w.grownBy w9 none) := gb_trans (by repeat (first | with_reducible exact HG5.out | with_reducible refine gb_put ?_ (by omega) _ _ | with_reducible refine gb_alloc ?_ _ | with_reducible refine gb_drewN ?_ _ | with_reducible refine gb_drew ?_)) hg9
                      have B9 := hide (HX5.out.kept (gb_trans (by repeat (first | with_reducible exact gb_refl wr none | with_reducible refine gb_put ?_ (by omega) _ _ | with_reducible refine gb_alloc ?_ _ | with_reducible refine gb_drewN ?_ _ | with_reducible refine gb_drew ?_)) hg9))
                      have HB9 : Hid ((L2.take (i5 + 1)).all (wellB (.declared 6 0 .typeName)) = true) := HT.out.trans hv
                      go_wp2_with fail
                      exact ⟨⟨i5 + 1, by omega, by go_num, HB9, G9, B9⟩, by simp [intOf]; omega⟩
                  · have hzb : (mu != 0) = true := by simpa using hz
                    have HQF : Hid (L2.all (wellB (.declared 6 0 .typeName)) = false) := all_false (HT.out.trans (by rw [wellB_only (show stepR (.declared 6 0 .typeName) (.mk 6 xu mu pu lu) = onlyIf _ _ from rfl)]; simp [headB, T.num, T.kind]; intro h1 h2; omega))
                    go_wp2_with fail
                    go_ret
                    exact ⟨by rw [HW.out, HQF.out]; simp, (by repeat (first | with_reducible exact HG5.out | with_reducible refine gb_put ?_ (by omega) _ _ | with_reducible refine gb_alloc ?_ _ | with_reducible refine gb_drewN ?_ _ | with_reducible refine gb_drew ?_))⟩
                · have hkb : (ku != 6) = true := by simpa using hk
                  have HQF : Hid (L2.all (wellB (.declared 6 0 .typeName)) = false) := all_false (HT.out.trans (by rw [wellB_only (show stepR (.declared 6 0 .typeName) (.mk ku xu mu pu lu) = onlyIf _ _ from rfl)]; simp [headB, T.kind, hk]))
                  go_wp2_with fail
                  go_ret
                  exact ⟨by rw [HW.out, HQF.out]; simp, (by repeat (first | with_reducible exact HG5.out | with_reducible refine gb_put ?_ (by omega) _ _ | with_reducible refine gb_alloc ?_ _ | with_reducible refine gb_drewN ?_ _ | with_reducible refine gb_drew ?_))⟩
              · have HQ2 := hide (all_done hlt5 HB5.out)
                cases h3 : headB y1 0 false 0 0
                · cases h4 : wellB .typeName y1
                  · skip
                    go_wp2_with fail
                    go_at_call 16
                    refine (head_any y1 _ 0 0 0 false _ (HK.out.kept (HG5.out)) F1.out (A1.out.kept (HG5.out))).mono ?_
                    rintro e w6 ⟨rfl, hg6⟩
                    rw [h3]
                    have G6 : Hid (w.grownBy w6 none) := gb_trans (HG5.out) hg6
                    have B6 := hide (HX5.out.kept hg6)
                    obtain ⟨b0_6, b1_6, b2_6, b3_6, b4_6⟩ := B6.out
                    obtain ⟨c0_6_0, c1_6_0, c2_6_0, c3_6_0, c4_6_0⟩ := N0.out.kept G6.out
                    obtain ⟨c0_6_1, c1_6_1, c2_6_1, c3_6_1, c4_6_1⟩ := N1.out.kept G6.out
                    obtain ⟨c0_6_2, c1_6_2, c2_6_2, c3_6_2, c4_6_2⟩ := N2.out.kept G6.out
                    obtain ⟨c0_6_3, c1_6_3, c2_6_3, c3_6_3, c4_6_3⟩ := N3.out.kept G6.out
                    go_wp2_with fail
                    go_at_call 39
                    refine (nameShaped_any y1 _ _ (HK.out.kept (G6.out)) F1.out (A1.out.kept (G6.out))).mono ?_
                    rintro e w7 ⟨rfl, hg7⟩
                    rw [h4]
                    have G7 : Hid (w.grownBy w7 none) := gb_trans (G6.out) hg7
                    have B7 := hide (B6.out.kept hg7)
                    obtain ⟨b0_7, b1_7, b2_7, b3_7, b4_7⟩ := B7.out
                    obtain ⟨c0_7_0, c1_7_0, c2_7_0, c3_7_0, c4_7_0⟩ := N0.out.kept G7.out
                    obtain ⟨c0_7_1, c1_7_1, c2_7_1, c3_7_1, c4_7_1⟩ := N1.out.kept G7.out
                    obtain ⟨c0_7_2, c1_7_2, c2_7_2, c3_7_2, c4_7_2⟩ := N2.out.kept G7.out
                    obtain ⟨c0_7_3, c1_7_3, c2_7_3, c3_7_3, c4_7_3⟩ := N3.out.kept G7.out
                    go_wp2_with fail
                    go_ret
                    exact ⟨by rw [HW.out, h3, h4]; simp, (G7.out)⟩
                  · skip
                    go_wp2_with fail
                    go_at_call 16
                    refine (head_any y1 _ 0 0 0 false _ (HK.out.kept (HG5.out)) F1.out (A1.out.kept (HG5.out))).mono ?_
                    rintro e w6 ⟨rfl, hg6⟩
                    rw [h3]
                    have G6 : Hid (w.grownBy w6 none) := gb_trans (HG5.out) hg6
                    have B6 := hide (HX5.out.kept hg6)
                    obtain ⟨b0_6, b1_6, b2_6, b3_6, b4_6⟩ := B6.out
                    obtain ⟨c0_6_0, c1_6_0, c2_6_0, c3_6_0, c4_6_0⟩ := N0.out.kept G6.out
                    obtain ⟨c0_6_1, c1_6_1, c2_6_1, c3_6_1, c4_6_1⟩ := N1.out.kept G6.out
                    obtain ⟨c0_6_2, c1_6_2, c2_6_2, c3_6_2, c4_6_2⟩ := N2.out.kept G6.out
                    obtain ⟨c0_6_3, c1_6_3, c2_6_3, c3_6_3, c4_6_3⟩ := N3.out.kept G6.out
                    go_wp2_with fail
                    go_at_call 39
                    refine (nameShaped_any y1 _ _ (HK.out.kept (G6.out)) F1.out (A1.out.kept (G6.out))).mono ?_
                    rintro e w7 ⟨rfl, hg7⟩
                    rw [h4]
                    have G7 : Hid (w.grownBy w7 none) := gb_trans (G6.out) hg7
                    have B7 := hide (B6.out.kept hg7)
                    obtain ⟨b0_7, b1_7, b2_7, b3_7, b4_7⟩ := B7.out
                    obtain ⟨c0_7_0, c1_7_0, c2_7_0, c3_7_0, c4_7_0⟩ := N0.out.kept G7.out
                    obtain ⟨c0_7_1, c1_7_1, c2_7_1, c3_7_1, c4_7_1⟩ := N1.out.kept G7.out
                    obtain ⟨c0_7_2, c1_7_2, c2_7_2, c3_7_2, c4_7_2⟩ := N2.out.kept G7.out
                    obtain ⟨c0_7_3, c1_7_3, c2_7_3, c3_7_3, c4_7_3⟩ := N3.out.kept G7.out
                    go_wp2_with fail
                    go_at_call 18
                    refine ((ac_all y3).stmts _ _ (HK.out.kept (G7.out)) F3.out (A3.out.kept (G7.out))).mono ?_
                    rintro e w8 ⟨rfl, hg8⟩
                    have G8 : Hid (w.grownBy w8 none) := gb_trans (G7.out) hg8
                    have B8 := hide (B7.out.kept hg8)
                    obtain ⟨b0_8, b1_8, b2_8, b3_8, b4_8⟩ := B8.out
                    obtain ⟨c0_8_0, c1_8_0, c2_8_0, c3_8_0, c4_8_0⟩ := N0.out.kept G8.out
                    obtain ⟨c0_8_1, c1_8_1, c2_8_1, c3_8_1, c4_8_1⟩ := N1.out.kept G8.out
                    obtain ⟨c0_8_2, c1_8_2, c2_8_2, c3_8_2, c4_8_2⟩ := N2.out.kept G8.out
                    obtain ⟨c0_8_3, c1_8_3, c2_8_3, c3_8_3, c4_8_3⟩ := N3.out.kept G8.out
                    go_wp2_with fail
                    go_ret
                    exact ⟨by rw [HW.out, h3, h4, HQ0.out, HQ2.out]; rfl, (G8.out)⟩
                · skip
                  go_wp2_with fail
                  go_at_call 16
                  refine (head_any y1 _ 0 0 0 false _ (HK.out.kept (HG5.out)) F1.out (A1.out.kept (HG5.out))).mono ?_
                  rintro e w6 ⟨rfl, hg6⟩
                  rw [h3]
                  have G6 : Hid (w.grownBy w6 none) := gb_trans (HG5.out) hg6
                  have B6 := hide (HX5.out.kept hg6)
                  obtain ⟨b0_6, b1_6, b2_6, b3_6, b4_6⟩ := B6.out
                  obtain ⟨c0_6_0, c1_6_0, c2_6_0, c3_6_0, c4_6_0⟩ := N0.out.kept G6.out
                  obtain ⟨c0_6_1, c1_6_1, c2_6_1, c3_6_1, c4_6_1⟩ := N1.out.kept G6.out
                  obtain ⟨c0_6_2, c1_6_2, c2_6_2, c3_6_2, c4_6_2⟩ := N2.out.kept G6.out
                  obtain ⟨c0_6_3, c1_6_3, c2_6_3, c3_6_3, c4_6_3⟩ := N3.out.kept G6.out
                  go_wp2_with fail
                  go_at_call 18
                  refine ((ac_all y3).stmts _ _ (HK.out.kept (G6.out)) F3.out (A3.out.kept (G6.out))).mono ?_
                  rintro e w7 ⟨rfl, hg7⟩
                  have G7 : Hid (w.grownBy w7 none) := gb_trans (G6.out) hg7
                  have B7 := hide (B6.out.kept hg7)
                  obtain ⟨b0_7, b1_7, b2_7, b3_7, b4_7⟩ := B7.out
                  obtain ⟨c0_7_0, c1_7_0, c2_7_0, c3_7_0, c4_7_0⟩ := N0.out.kept G7.out
                  obtain ⟨c0_7_1, c1_7_1, c2_7_1, c3_7_1, c4_7_1⟩ := N1.out.kept G7.out
                  obtain ⟨c0_7_2, c1_7_2, c2_7_2, c3_7_2, c4_7_2⟩ := N2.out.kept G7.out
                  obtain ⟨c0_7_3, c1_7_3, c2_7_3, c3_7_3, c4_7_3⟩ := N3.out.kept G7.out
                  go_wp2_with fail
                  go_ret
                  exact ⟨by rw [HW.out, h3, HQ0.out, HQ2.out]; rfl, (G7.out)⟩
end Go.Proofs.YtlkokcnbbihljaaGreatDoor
