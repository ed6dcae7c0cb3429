/- The document's shapes: records, every type. -/
import Derived.Test.YtlkokcnbbihljaaGreatDoorG49
namespace Go.Proofs.YtlkokcnbbihljaaGreatDoor
open Go.RowKit

theorem well_nameOrNone (u : T) : wellB .typeNameOrNone u = (headB u 0 false 0 0 || wellB .typeName u) := by
  by_cases h : u.kind = 0
  · have e : wellB .typeName u = false := by rw [well_typeName]; simp [headB, h]
    rw [e, wellB_only (show stepR .typeNameOrNone u = onlyIf (headB u 0 false 0 0) [] by simp [stepR, h])]
    simp
  · have e : headB u 0 false 0 0 = false := by simp [headB, h]
    rw [e, wellB_congr (show stepR .typeNameOrNone u = stepR .typeName u by simp [stepR, h])]
    simp

set_option maxRecDepth 1000000 in
set_option maxHeartbeats 1000000 in
theorem type10 (x : List UInt8) (m p : Int) (l : List T) (sv : Value) (w : World) (hk : KW w) (hf : Fits (.mk 10 x m p l)) (ha : AT w (T.mk 10 x m p l).subs sv) :
    Calls Tryz.prog 38 #[.agg #[.int .i64 10, .string ⟨x.toArray⟩, .int .i64 m, .int .i64 p, sv]] w (Sy w (.bool (wellB .typeItself (.mk 10 x m p l)))) := by
  have HE := wellB_only (r := .typeItself) (t := (.mk 10 x m p l)) (c := headB (.mk 10 x m p l) 10 false 0 (-1) && decide (0 < l.length)) (l := firstR (.mk 10 x m p l) .typeNameOrNone (.declared 11 1 .typeName)) rfl
  have HK := hide hk
  have HF := hide hf
  have HA := hide ha
  cases h0 : headB (.mk 10 x m p l) 10 false 0 (-1)
  · rw [show wellB .typeItself (.mk 10 x m p l) = false by rw [HE, h0]; rfl]
    obtain ⟨a, n, c, rfl, hn, hc, hl⟩ := ha.any
    clear HE hk hf ha
    go_enter Tryz.func38, Tryz.ntmps38
    go_wp2_with fail
    go_at_call 16
    refine (head_any (.mk 10 x m p l) _ 10 0 (-1) false _ (HK.out.kept (gb_alloc (gb_refl w none) _)) HF.out (HA.out.kept (gb_alloc (gb_refl w none) _))).mono ?_
    rintro e w1 ⟨rfl, hg1⟩
    rw [h0]
    have G1 : Hid (w.grownBy w1 none) := gb_trans (gb_alloc (gb_refl w none) _) hg1
    have B1 := hide ((Box.new w (.mk 10 x m p l) (.slice a n c) 24).kept hg1)
    obtain ⟨b0_1, b1_1, b2_1, b3_1, b4_1⟩ := B1.out
    go_wp2_with fail
    go_ret
    exact ⟨rfl, (G1.out)⟩
  · match l, ha, HE, h0, HF, HA with
    | [], ha, HE, h0, HF, HA =>
      rw [show wellB .typeItself (.mk 10 x m p []) = false by rw [HE, h0]; rfl]
      obtain ⟨a, c, rfl, hc, _⟩ := ha.zero rfl
      clear HE hk hf ha
      go_enter Tryz.func38, Tryz.ntmps38
      go_wp2_with fail
      go_at_call 16
      refine (head_any (.mk 10 x m p []) _ 10 0 (-1) false _ (HK.out.kept (gb_alloc (gb_refl w none) _)) HF.out (HA.out.kept (gb_alloc (gb_refl w none) _))).mono ?_
      rintro e w1 ⟨rfl, hg1⟩
      rw [h0]
      have G1 : Hid (w.grownBy w1 none) := gb_trans (gb_alloc (gb_refl w none) _) hg1
      have B1 := hide ((Box.new w (.mk 10 x m p []) (.slice a 0 c) 24).kept hg1)
      obtain ⟨b0_1, b1_1, b2_1, b3_1, b4_1⟩ := B1.out
      go_wp2_with fail
      go_ret
      exact ⟨rfl, (G1.out)⟩
    | u :: r, ha, HE, h0, HF, HA =>
      obtain ⟨g, o, c, su, rfl, hn, hc, n5, fu, au, ar⟩ := AT.cons ha
      have N0 := hide n5
      have HU := hide fu
      have AU := hide au
      have hne : ((r.length : Int) + 1 == 0) = false := by rw [beq_eq_false_iff_ne]; omega
      have HV : Hid (wellB .typeItself (.mk 10 x m p (u :: r)) = ((headB u 0 false 0 0 || wellB .typeName u) && r.all (wellB (.declared 11 1 .typeName)))) := by
        show _ = _
        rw [HE, h0, ← well_nameOrNone]; simp [firstR, T.subs, eachR, List.all_map, Function.comp_def]
      clear hk hf ha fu au ar n5 HE
      cases h1 : headB u 0 false 0 0
      · cases h2 : wellB .typeName u
        · rw [show wellB .typeItself (.mk 10 x m p (u :: r)) = false by rw [HV.out, h1, h2]; rfl]
          go_enter Tryz.func38, Tryz.ntmps38
          go_wp2_with fail
          go_at_call 16
          refine (head_any (.mk 10 x m p (u :: r)) _ 10 0 (-1) false _ (HK.out.kept (gb_alloc (gb_refl w none) _)) HF.out (HA.out.kept (gb_alloc (gb_refl w none) _))).mono ?_
          rintro e w1 ⟨rfl, hg1⟩
          rw [h0]
          have G1 : Hid (w.grownBy w1 none) := gb_trans (gb_alloc (gb_refl w none) _) hg1
          have B1 := hide ((Box.new w (.mk 10 x m p (u :: r)) (.slice (some ⟨g, o, none⟩) (r.length + 1) c) 24).kept hg1)
          obtain ⟨b0_1, b1_1, b2_1, b3_1, b4_1⟩ := B1.out
          obtain ⟨c0_1_0, c1_1_0, c2_1_0, c3_1_0, c4_1_0⟩ := N0.out.kept G1.out
          go_wp2_with fail
          go_at_call 16
          refine (head_any u _ 0 0 0 false _ (HK.out.kept (G1.out)) HU.out (AU.out.kept (G1.out))).mono ?_
          rintro e w2 ⟨rfl, hg2⟩
          rw [h1]
          have G2 : Hid (w.grownBy w2 none) := gb_trans (G1.out) hg2
          have B2 := hide (B1.out.kept hg2)
          obtain ⟨b0_2, b1_2, b2_2, b3_2, b4_2⟩ := B2.out
          obtain ⟨c0_2_0, c1_2_0, c2_2_0, c3_2_0, c4_2_0⟩ := N0.out.kept G2.out
          go_wp2_with fail
          go_at_call 39
          refine (nameShaped_any u _ _ (HK.out.kept (G2.out)) HU.out (AU.out.kept (G2.out))).mono ?_
          rintro e w3 ⟨rfl, hg3⟩
          rw [h2]
          have G3 : Hid (w.grownBy w3 none) := gb_trans (G2.out) hg3
          have B3 := hide (B2.out.kept hg3)
          obtain ⟨b0_3, b1_3, b2_3, b3_3, b4_3⟩ := B3.out
          obtain ⟨c0_3_0, c1_3_0, c2_3_0, c3_3_0, c4_3_0⟩ := N0.out.kept G3.out
          go_wp2_with fail
          go_ret
          exact ⟨rfl, (G3.out)⟩
        · have HW : Hid (wellB .typeItself (.mk 10 x m p (u :: r)) = r.all (wellB (.declared 11 1 .typeName))) := by show _ = _; rw [HV.out, h1, h2]; rfl
          go_enter Tryz.func38, Tryz.ntmps38
          go_wp2_with fail
          go_at_call 16
          refine (head_any (.mk 10 x m p (u :: r)) _ 10 0 (-1) false _ (HK.out.kept (gb_alloc (gb_refl w none) _)) HF.out (HA.out.kept (gb_alloc (gb_refl w none) _))).mono ?_
          rintro e w1 ⟨rfl, hg1⟩
          rw [h0]
          have G1 : Hid (w.grownBy w1 none) := gb_trans (gb_alloc (gb_refl w none) _) hg1
          have B1 := hide ((Box.new w (.mk 10 x m p (u :: r)) (.slice (some ⟨g, o, none⟩) (r.length + 1) c) 24).kept hg1)
          obtain ⟨b0_1, b1_1, b2_1, b3_1, b4_1⟩ := B1.out
          obtain ⟨c0_1_0, c1_1_0, c2_1_0, c3_1_0, c4_1_0⟩ := N0.out.kept G1.out
          go_wp2_with fail
          go_at_call 16
          refine (head_any u _ 0 0 0 false _ (HK.out.kept (G1.out)) HU.out (AU.out.kept (G1.out))).mono ?_
          rintro e w2 ⟨rfl, hg2⟩
          rw [h1]
          have G2 : Hid (w.grownBy w2 none) := gb_trans (G1.out) hg2
          have B2 := hide (B1.out.kept hg2)
          obtain ⟨b0_2, b1_2, b2_2, b3_2, b4_2⟩ := B2.out
          obtain ⟨c0_2_0, c1_2_0, c2_2_0, c3_2_0, c4_2_0⟩ := N0.out.kept G2.out
          go_wp2_with fail
          go_at_call 39
          refine (nameShaped_any u _ _ (HK.out.kept (G2.out)) HU.out (AU.out.kept (G2.out))).mono ?_
          rintro e w3 ⟨rfl, hg3⟩
          rw [h2]
          have G3 : Hid (w.grownBy w3 none) := gb_trans (G2.out) hg3
          have B3 := hide (B2.out.kept hg3)
          obtain ⟨b0_3, b1_3, b2_3, b3_3, b4_3⟩ := B3.out
          obtain ⟨c0_3_0, c1_3_0, c2_3_0, c3_3_0, c4_3_0⟩ := N0.out.kept G3.out
          go_wp2_with fail
          go_loopw [3] (fun iv wr => ∃ i : Nat, i ≤ r.length ∧ iv = .int .i64 ↑(i + 1 : Nat) ∧ Hid ((r.take i).all (wellB (.declared 11 1 .typeName)) = true) ∧ Hid (w.grownBy wr none) ∧ Hid (Box wr w.heap.size (.mk 10 x m p (u :: r)) (.slice (some ⟨g, o, none⟩) (r.length + 1) c))) (fun iv _ => r.length + 1 - (intOf iv).toNat)
          case atStart => exact ⟨0, Nat.zero_le _, rfl, by show _ = _; simp, G3, B3⟩
          case round =>
            obtain ⟨i4, hi4, rfl, HB4, HG4, HX4⟩ := hrel
            obtain ⟨b0_4, b1_4, b2_4, b3_4, b4_4⟩ := HX4.out
            obtain ⟨c0_4_0, c1_4_0, c2_4_0, c3_4_0, c4_4_0⟩ := N0.out.kept HG4.out
            by_cases hlt4 : i4 < r.length
            · obtain ⟨u, hu⟩ : ∃ u, r[i4]? = some u := ⟨_, List.getElem?_eq_getElem hlt4⟩
              obtain ⟨gg, oo, su, e1, n5, fu, au⟩ := (HA.out.kept HG4.out).node (i4 + 1) u (by first | exact hu | simpa [T.subs] using hu)
              cases e1
              have HT := hide (all_step hu HB4.out)
              have HU := hide fu
              have AU := hide au
              clear hu
              obtain ⟨ku, xu, mu, pu, lu⟩ := u
              obtain ⟨d0, d1, d2, d3, d4⟩ := n5
              change _ = some (Value.int .i64 ku) at d0
              change _ = some (Value.int .i64 mu) at d2
              change _ = some (Value.string ⟨xu.toArray⟩) at d1
              change _ = some (Value.int .i64 pu) at d3
              clear fu au
              by_cases hk : ku = 11
              · subst hk
                cases hv : (wellB (.declared 11 1 .typeName)) (.mk 11 xu mu pu lu)
                · skip
                  have HQF : Hid (r.all (wellB (.declared 11 1 .typeName)) = false) := all_false (HT.out.trans (hv))
                  go_wp2_with fail
                  go_at_call 17
                  refine (decl11 xu mu pu lu _ _ (HK.out.kept HG4.out) HU.out AU.out (fun v _ => sh_all v)).mono ?_
                  rintro e w9 ⟨rfl, hg9⟩
                  rw [hv]
                  have G9 : Hid (w.grownBy w9 none) := gb_trans HG4.out hg9
                  go_wp2_with fail
                  go_ret
                  exact ⟨by rw [HW.out, HQF.out]; rfl, G9.out⟩
                · skip
                  go_wp2_with fail
                  go_at_call 17
                  refine (decl11 xu mu pu lu _ _ (HK.out.kept HG4.out) HU.out AU.out (fun v _ => sh_all v)).mono ?_
                  rintro e w9 ⟨rfl, hg9⟩
                  rw [hv]
                  have G9 : Hid (w.grownBy w9 none) := gb_trans HG4.out hg9
                  have B9 := hide (HX4.out.kept hg9)
                  have HB9 : Hid ((r.take (i4 + 1)).all (wellB (.declared 11 1 .typeName)) = true) := HT.out.trans hv
                  go_wp2_with fail
                  exact ⟨⟨i4 + 1, by omega, by go_num, HB9, G9, B9⟩, by simp [intOf]; omega⟩
              · have hkb : (ku != 11) = true := by simpa using hk
                have HQF : Hid (r.all (wellB (.declared 11 1 .typeName)) = false) := all_false (HT.out.trans (by rw [wellB_only (show stepR (.declared 11 1 .typeName) (.mk ku xu mu pu lu) = onlyIf _ _ from rfl)]; simp [headB, T.kind, hk]))
                go_wp2_with fail
                go_ret
                exact ⟨by rw [HW.out, HQF.out]; rfl, HG4.out⟩
            · have HQ := hide (all_done hlt4 HB4.out)
              go_wp2_with fail
              go_ret
              exact ⟨by rw [HW.out, HQ.out]; rfl, (HG4.out)⟩
      · have HW : Hid (wellB .typeItself (.mk 10 x m p (u :: r)) = r.all (wellB (.declared 11 1 .typeName))) := by show _ = _; rw [HV.out, h1]; rfl
        go_enter Tryz.func38, Tryz.ntmps38
        go_wp2_with fail
        go_at_call 16
        refine (head_any (.mk 10 x m p (u :: r)) _ 10 0 (-1) false _ (HK.out.kept (gb_alloc (gb_refl w none) _)) HF.out (HA.out.kept (gb_alloc (gb_refl w none) _))).mono ?_
        rintro e w1 ⟨rfl, hg1⟩
        rw [h0]
        have G1 : Hid (w.grownBy w1 none) := gb_trans (gb_alloc (gb_refl w none) _) hg1
        have B1 := hide ((Box.new w (.mk 10 x m p (u :: r)) (.slice (some ⟨g, o, none⟩) (r.length + 1) c) 24).kept hg1)
        obtain ⟨b0_1, b1_1, b2_1, b3_1, b4_1⟩ := B1.out
        obtain ⟨c0_1_0, c1_1_0, c2_1_0, c3_1_0, c4_1_0⟩ := N0.out.kept G1.out
        go_wp2_with fail
        go_at_call 16
        refine (head_any u _ 0 0 0 false _ (HK.out.kept (G1.out)) HU.out (AU.out.kept (G1.out))).mono ?_
        rintro e w2 ⟨rfl, hg2⟩
        rw [h1]
        have G2 : Hid (w.grownBy w2 none) := gb_trans (G1.out) hg2
        have B2 := hide (B1.out.kept hg2)
        obtain ⟨b0_2, b1_2, b2_2, b3_2, b4_2⟩ := B2.out
        obtain ⟨c0_2_0, c1_2_0, c2_2_0, c3_2_0, c4_2_0⟩ := N0.out.kept G2.out
        go_wp2_with fail
        go_loopw [3] (fun iv wr => ∃ i : Nat, i ≤ r.length ∧ iv = .int .i64 ↑(i + 1 : Nat) ∧ Hid ((r.take i).all (wellB (.declared 11 1 .typeName)) = true) ∧ Hid (w.grownBy wr none) ∧ Hid (Box wr w.heap.size (.mk 10 x m p (u :: r)) (.slice (some ⟨g, o, none⟩) (r.length + 1) c))) (fun iv _ => r.length + 1 - (intOf iv).toNat)
        case atStart => exact ⟨0, Nat.zero_le _, rfl, by show _ = _; simp, G2, B2⟩
        case round =>
          obtain ⟨i3, hi3, rfl, HB3, HG3, HX3⟩ := hrel
          obtain ⟨b0_3, b1_3, b2_3, b3_3, b4_3⟩ := HX3.out
          obtain ⟨c0_3_0, c1_3_0, c2_3_0, c3_3_0, c4_3_0⟩ := N0.out.kept HG3.out
          by_cases hlt3 : i3 < r.length
          · obtain ⟨u, hu⟩ : ∃ u, r[i3]? = some u := ⟨_, List.getElem?_eq_getElem hlt3⟩
            obtain ⟨gg, oo, su, e1, n5, fu, au⟩ := (HA.out.kept HG3.out).node (i3 + 1) u (by first | exact hu | simpa [T.subs] using hu)
            cases e1
            have HT := hide (all_step hu HB3.out)
            have HU := hide fu
            have AU := hide au
            clear hu
            obtain ⟨ku, xu, mu, pu, lu⟩ := u
            obtain ⟨d0, d1, d2, d3, d4⟩ := n5
            change _ = some (Value.int .i64 ku) at d0
            change _ = some (Value.int .i64 mu) at d2
            change _ = some (Value.string ⟨xu.toArray⟩) at d1
            change _ = some (Value.int .i64 pu) at d3
            clear fu au
            by_cases hk : ku = 11
            · subst hk
              cases hv : (wellB (.declared 11 1 .typeName)) (.mk 11 xu mu pu lu)
              · skip
                have HQF : Hid (r.all (wellB (.declared 11 1 .typeName)) = false) := all_false (HT.out.trans (hv))
                go_wp2_with fail
                go_at_call 17
                refine (decl11 xu mu pu lu _ _ (HK.out.kept HG3.out) HU.out AU.out (fun v _ => sh_all v)).mono ?_
                rintro e w9 ⟨rfl, hg9⟩
                rw [hv]
                have G9 : Hid (w.grownBy w9 none) := gb_trans HG3.out hg9
                go_wp2_with fail
                go_ret
                exact ⟨by rw [HW.out, HQF.out]; rfl, G9.out⟩
              · skip
                go_wp2_with fail
                go_at_call 17
                refine (decl11 xu mu pu lu _ _ (HK.out.kept HG3.out) HU.out AU.out (fun v _ => sh_all v)).mono ?_
                rintro e w9 ⟨rfl, hg9⟩
                rw [hv]
                have G9 : Hid (w.grownBy w9 none) := gb_trans HG3.out hg9
                have B9 := hide (HX3.out.kept hg9)
                have HB9 : Hid ((r.take (i3 + 1)).all (wellB (.declared 11 1 .typeName)) = true) := HT.out.trans hv
                go_wp2_with fail
                exact ⟨⟨i3 + 1, by omega, by go_num, HB9, G9, B9⟩, by simp [intOf]; omega⟩
            · have hkb : (ku != 11) = true := by simpa using hk
              have HQF : Hid (r.all (wellB (.declared 11 1 .typeName)) = false) := all_false (HT.out.trans (by rw [wellB_only (show stepR (.declared 11 1 .typeName) (.mk ku xu mu pu lu) = onlyIf _ _ from rfl)]; simp [headB, T.kind, hk]))
              go_wp2_with fail
              go_ret
              exact ⟨by rw [HW.out, HQF.out]; rfl, HG3.out⟩
          · have HQ := hide (all_done hlt3 HB3.out)
            go_wp2_with fail
            go_ret
            exact ⟨by rw [HW.out, HQ.out]; rfl, (HG3.out)⟩
set_option maxRecDepth 1000000 in
set_option maxHeartbeats 1000000 in
theorem typeElse (kd : Int) (x : List UInt8) (m p : Int) (l : List T) (sv : Value) (w : World) (hk : KW w) (hf : Fits (.mk kd x m p l)) (ha : AT w (T.mk kd x m p l).subs sv) (h9 : ¬ kd = 9) (h10 : ¬ kd = 10) (h12 : ¬ kd = 12) :
    Calls Tryz.prog 38 #[.agg #[.int .i64 kd, .string ⟨x.toArray⟩, .int .i64 m, .int .i64 p, sv]] w (Sy w (.bool (wellB .typeItself (.mk kd x m p l)))) := by
  rw [wellB_none (show stepR .typeItself (.mk kd x m p l) = none by simp [stepR, T.kind, h9, h10, h12])]
  have h0 : headB (.mk kd x m p l) 10 false 0 (-1) = false := by simp [headB, T.kind, h10]
  have HK := hide hk
  have HF := hide hf
  have HA := hide ha
  obtain ⟨a, n, c, rfl, hn, hc, hl⟩ := ha.any
  clear hk hf ha
  go_enter Tryz.func38, Tryz.ntmps38
  go_wp2_with fail
  go_at_call 16
  refine (head_any (.mk kd x m p l) _ 10 0 (-1) false _ (HK.out.kept (gb_alloc (gb_refl w none) _)) HF.out (HA.out.kept (gb_alloc (gb_refl w none) _))).mono ?_
  rintro e w1 ⟨rfl, hg1⟩
  rw [h0]
  have G1 : Hid (w.grownBy w1 none) := gb_trans (gb_alloc (gb_refl w none) _) hg1
  have B1 := hide ((Box.new w (.mk kd x m p l) (.slice a n c) 24).kept hg1)
  obtain ⟨b0_1, b1_1, b2_1, b3_1, b4_1⟩ := B1.out
  go_wp2_with fail
  go_ret
  exact ⟨rfl, (G1.out)⟩
theorem typeShaped_any (t : T) (sv : Value) (w : World) (hk : KW w) (hf : Fits t) (ha : AT w t.subs sv) :
    Calls Tryz.prog 38 #[nodeV t sv] w (Sy w (.bool (wellB .typeItself t))) := by
  obtain ⟨kd, x, m, p, l⟩ := t
  by_cases h9 : kd = 9
  · subst h9; exact type9 x m p l sv w hk hf ha (fun v _ => sh_all v)
  by_cases h10 : kd = 10
  · subst h10; exact type10 x m p l sv w hk hf ha
  by_cases h12 : kd = 12
  · subst h12; exact type12 x m p l sv w hk hf ha (fun v _ => sh_all v)
  exact typeElse kd x m p l sv w hk hf ha h9 h10 h12
end Go.Proofs.YtlkokcnbbihljaaGreatDoor
