/- The document's shapes: modules. -/
import Derived.Test.YtlkokcnbbihljaaGreatDoorG51
namespace Go.Proofs.YtlkokcnbbihljaaGreatDoor
open Go.RowKit

/-- The rules of a module's five lists of declarations. -/
def declR : Nat → Rule
  | 0 => .imported
  | 1 => .declared 4 1 .expression
  | 2 => .declared 5 1 .typeItself
  | 3 => .declared 6 1 .typeName
  | _ => .procedure
def kindR : Nat → Int
  | 0 => 3
  | 1 => 4
  | 2 => 5
  | 3 => 6
  | _ => 7
theorem decl_any (j : Nat) (hj : j < 5) (x : List UInt8) (m p : Int) (l : List T) (sv : Value) (w : World) (hk : KW w) (hf : Fits (.mk (kindR j) x m p l)) (ha : AT w (T.mk (kindR j) x m p l).subs sv) :
    Calls Tryz.prog 17 #[.agg #[.int .i64 (kindR j), .string ⟨x.toArray⟩, .int .i64 m, .int .i64 p, sv]] w (Sy w (.bool (wellB (declR j) (.mk (kindR j) x m p l)))) := by
  match j, hj, hf, ha with
  | 0, _, hf, ha => exact decl3 x m p l sv w hk hf ha
  | 1, _, hf, ha => exact decl4 x m p l sv w hk hf ha (fun v _ => sh_all v)
  | 2, _, hf, ha => exact decl5 x m p l sv w hk hf ha (fun v _ => sh_all v)
  | 3, _, hf, ha => exact decl6 x m p l sv w hk hf ha (fun v _ => sh_all v)
  | 4, _, hf, ha => exact decl7 x m p l sv w hk hf ha
theorem decl_kind (j : Nat) (hj : j < 5) (k : Int) (x : List UInt8) (m p : Int) (l : List T) (h : ¬ k = kindR j) : wellB (declR j) (.mk k x m p l) = false := by
  match j, hj, h with
  | 0, _, h =>
    show wellB .imported _ = false
    rw [wellB_only (show stepR .imported (.mk k x m p l) = onlyIf _ _ from rfl)]
    have h9 : ¬ k = 3 := h
    simp [headB, T.kind, h9]
  | 1, _, h =>
    show wellB (.declared 4 1 .expression) _ = false
    rw [wellB_only (show stepR (.declared 4 1 .expression) (.mk k x m p l) = onlyIf _ _ from rfl)]
    have h9 : ¬ k = 4 := h
    simp [headB, T.kind, h9]
  | 2, _, h =>
    show wellB (.declared 5 1 .typeItself) _ = false
    rw [wellB_only (show stepR (.declared 5 1 .typeItself) (.mk k x m p l) = onlyIf _ _ from rfl)]
    have h9 : ¬ k = 5 := h
    simp [headB, T.kind, h9]
  | 3, _, h =>
    show wellB (.declared 6 1 .typeName) _ = false
    rw [wellB_only (show stepR (.declared 6 1 .typeName) (.mk k x m p l) = onlyIf _ _ from rfl)]
    have h9 : ¬ k = 6 := h
    simp [headB, T.kind, h9]
  | 4, _, h =>
    show wellB .procedure _ = false
    rw [wellB_only (show stepR .procedure (.mk k x m p l) = onlyIf _ _ from rfl)]
    have h9 : ¬ k = 7 := h
    simp [headB, T.kind, h9]
/-- The first lists of a module go by their rules. -/
def upTo (ys : List T) (j : Nat) : Prop := ∀ k y, k < j → ys[k]? = some y → wellB (.list (declR k)) y = true
theorem upTo.step {ys : List T} {j : Nat} {y : T} (h : upTo ys j) (hy : ys[j]? = some y) (h2 : wellB (.list (declR j)) y = true) : upTo ys (j + 1) := by
  intro k z hk hz
  rcases Nat.lt_or_ge k j with h3 | h3
  · exact h k z h3 hz
  · obtain rfl : k = j := by omega
    rw [hy] at hz; cases hz
    exact h2
theorem well_module (k m p : Int) (x : List UInt8) (y0 y1 y2 y3 y4 y5 : T) (h0 : headB (.mk k x m p [y0, y1, y2, y3, y4, y5]) 2 true 0 6 = true) :
    wellB .module (.mk k x m p [y0, y1, y2, y3, y4, y5]) = (wellB (.list (declR 0)) y0 && wellB (.list (declR 1)) y1 && wellB (.list (declR 2)) y2 && wellB (.list (declR 3)) y3 && wellB (.list (declR 4)) y4 && wellB (.list .act) y5) := by
  rw [wellB_only (r := .module) (t := .mk k x m p [y0, y1, y2, y3, y4, y5]) (c := headB (.mk k x m p [y0, y1, y2, y3, y4, y5]) 2 true 0 6) (l := zipR [y0, y1, y2, y3, y4, y5] [.list .imported, .list (.declared 4 1 .expression), .list (.declared 5 1 .typeItself), .list (.declared 6 1 .typeName), .list .procedure, .list .act]) rfl, h0]
  simp [zipR, declR, Bool.and_assoc]
theorem module_no {k m p : Int} {x : List UInt8} {y0 y1 y2 y3 y4 y5 : T} (h0 : headB (.mk k x m p [y0, y1, y2, y3, y4, y5]) 2 true 0 6 = true) {j : Nat} {y : T} (hj : j < 5) (hy : [y0, y1, y2, y3, y4, y5][j]? = some y) (h : wellB (.list (declR j)) y = false) : wellB .module (.mk k x m p [y0, y1, y2, y3, y4, y5]) = false := by
  rw [well_module k m p x y0 y1 y2 y3 y4 y5 h0]
  match j, hj, hy, h with
  | 0, _, hy, h => simp at hy; subst hy; rw [h]; simp
  | 1, _, hy, h => simp at hy; subst hy; rw [h]; simp
  | 2, _, hy, h => simp at hy; subst hy; rw [h]; simp
  | 3, _, hy, h => simp at hy; subst hy; rw [h]; simp
  | 4, _, hy, h => simp at hy; subst hy; rw [h]; simp
theorem module_yes {k m p : Int} {x : List UInt8} {y0 y1 y2 y3 y4 y5 : T} (h0 : headB (.mk k x m p [y0, y1, y2, y3, y4, y5]) 2 true 0 6 = true) (h : upTo [y0, y1, y2, y3, y4, y5] 5) : wellB .module (.mk k x m p [y0, y1, y2, y3, y4, y5]) = wellB (.list .act) y5 := by
  rw [well_module k m p x y0 y1 y2 y3 y4 y5 h0, h 0 y0 (by omega) rfl, h 1 y1 (by omega) rfl, h 2 y2 (by omega) rfl, h 3 y3 (by omega) rfl, h 4 y4 (by omega) rfl]
  rfl
/-- The kinds of the declarations, in a row. -/
def Kinds (w : World) (b : Nat) : Prop := ∀ k : Nat, k < 5 → w.cell? ⟨b, k, none⟩ = some (.int .i64 (kindR k))
theorem Kinds.new (w : World) (t : TypeId) : Kinds (w.alloc (.cells #[.int .i64 3, .int .i64 4, .int .i64 5, .int .i64 6, .int .i64 7] t)) w.heap.size := by
  intro k hk
  rw [World.cell?_alloc_at _ _ _ _ rfl]
  match k, hk with
  | 0, _ => rfl
  | 1, _ => rfl
  | 2, _ => rfl
  | 3, _ => rfl
  | 4, _ => rfl
theorem Kinds.kept {w w' : World} {b : Nat} (h : Kinds w b) (hg : w.grownBy w' none) : Kinds w' b := fun k hk => gb_cell hg (h k hk)

set_option maxRecDepth 1000000 in
set_option maxHeartbeats 4000000 in
theorem shaped_any (t : T) (sv : Value) (w : World) (hk : KW w) (hf : Fits t) (ha : AT w t.subs sv) :
    Calls Tryz.prog 6 #[nodeV t sv] w (Sy w (.bool (wellB .module t))) := by
  have HK := hide hk
  have HF := hide hf
  have HA := hide ha
  obtain ⟨kd, x, m, p, l⟩ := t
  cases h0 : headB (.mk kd x m p l) 2 true 0 6
  · rw [show wellB .module (.mk kd x m p l) = false by rw [wellB_only (r := .module) (t := .mk kd x m p l) (c := headB (.mk kd x m p l) 2 true 0 6) rfl, h0]; rfl]
    obtain ⟨a, n, c, rfl, hn, hc, hl⟩ := ha.any
    clear hk hf ha
    change Calls Tryz.prog 6 #[.agg #[.int .i64 kd, .string ⟨x.toArray⟩, .int .i64 m, .int .i64 p, .slice a n c]] w _
    go_enter Tryz.func6, Tryz.ntmps6
    go_wp2_with fail
    go_at_call 16
    refine (head_any (.mk kd x m p l) _ 2 0 6 true _ (HK.out.kept (gb_alloc (gb_refl w none) _)) HF.out (HA.out.kept (gb_alloc (gb_refl w none) _))).mono ?_
    rintro e w1 ⟨rfl, hg1⟩
    rw [h0]
    have G1 : Hid (w.grownBy w1 none) := gb_trans (gb_alloc (gb_refl w none) _) hg1
    go_wp2_with fail
    go_ret
    exact ⟨rfl, G1.out⟩
  · obtain ⟨g, o, c, y0, s0, y1, s1, y2, s2, y3, s3, y4, s4, y5, s5, rfl, hn, hc, hl, -, -, -, -, -, ⟨n5, f5, a5⟩⟩ := ha.n6 (head_len (n := 6) h0)
    change l = [y0, y1, y2, y3, y4, y5] at hl
    subst hl
    have H0 := hide h0
    have N5 := hide n5
    have F5 := hide f5
    have A5 := hide a5
    clear hk hf ha n5 f5 a5
    change Calls Tryz.prog 6 #[.agg #[.int .i64 kd, .string ⟨x.toArray⟩, .int .i64 m, .int .i64 p, .slice (some ⟨g, o, none⟩) 6 c]] w _
    go_enter Tryz.func6, Tryz.ntmps6
    go_wp2_with fail
    go_at_call 16
    refine (head_any (.mk kd x m p [y0, y1, y2, y3, y4, y5]) _ 2 0 6 true _ (HK.out.kept (gb_alloc (gb_refl w none) _)) HF.out (HA.out.kept (gb_alloc (gb_refl w none) _))).mono ?_
    rintro e w1 ⟨rfl, hg1⟩
    rw [h0]
    have G1 : Hid (w.grownBy w1 none) := gb_trans (gb_alloc (gb_refl w none) _) hg1
    have B1 := hide ((Box.new w (.mk kd x m p [y0, y1, y2, y3, y4, y5]) (.slice (some ⟨g, o, none⟩) 6 c) 24).kept hg1)
    clear h0 hg1
    go_wp2_with fail
    go_loopw [4] (fun iv wr => ∃ j : Nat, j ≤ 5 ∧ iv = .int .i64 ↑j ∧ Hid (upTo [y0, y1, y2, y3, y4, y5] j) ∧ Hid (w.grownBy wr none) ∧ Hid (Box wr w.heap.size (.mk kd x m p [y0, y1, y2, y3, y4, y5]) (.slice (some ⟨g, o, none⟩) 6 c)) ∧ Hid (Kinds wr w1.heap.size)) (fun iv _ => 5 - (intOf iv).toNat)
    case atStart => exact ⟨0, by omega, rfl, fun k y h _ => by omega, gb_alloc G1.out _, B1.out.kept (gb_alloc (gb_refl _ _) _), Kinds.new _ _⟩
    case round =>
      obtain ⟨j, hj, rfl, HU, HG, HX, HD⟩ := hrel
      obtain ⟨b0, b1, b2, b3, b4⟩ := HX.out
      by_cases hlt : j < 5
      · obtain ⟨y, hy⟩ : ∃ y, [y0, y1, y2, y3, y4, y5][j]? = some y := ⟨_, List.getElem?_eq_getElem (by simp; omega)⟩
        obtain ⟨gg, oo, sy, e1, n, fy, ay⟩ := (HA.out.kept HG.out).node j y hy
        cases e1
        obtain ⟨aa, cc, rfl, hn2, hc2⟩ := ay.form
        unfold maxLen at hc2
        have HY := hide hy
        have FY := hide fy
        have AY := hide ay
        obtain ⟨d0, d1, d2, d3, d4⟩ := n
        clear hy fy ay
        cases hh : headB y 1 false 0 (-1)
        · have HQ : Hid (wellB .module (.mk kd x m p [y0, y1, y2, y3, y4, y5]) = false) := module_no H0.out hlt HY.out (by rw [well_list, hh]; rfl)
          go_wp2_with fail
          go_at_call 16
          refine (head_any y _ 1 0 (-1) false _ (HK.out.kept (by repeat (first | with_reducible exact HG.out | with_reducible refine gb_put ?_ (by omega) _ _ | with_reducible refine gb_alloc ?_ _ | with_reducible refine gb_drewN ?_ _ | with_reducible refine gb_drew ?_))) FY.out (AY.out.kept (by repeat (first | with_reducible exact gb_refl wr none | with_reducible refine gb_put ?_ (by omega) _ _ | with_reducible refine gb_alloc ?_ _ | with_reducible refine gb_drewN ?_ _ | with_reducible refine gb_drew ?_)))).mono ?_
          rintro e w2 ⟨rfl, hg2⟩
          rw [hh]
          have G2 : Hid (w.grownBy w2 none) := gb_trans (by repeat (first | with_reducible exact HG.out | with_reducible refine gb_put ?_ (by omega) _ _ | with_reducible refine gb_alloc ?_ _ | with_reducible refine gb_drewN ?_ _ | with_reducible refine gb_drew ?_)) hg2
          go_wp2_with fail
          go_ret
          exact ⟨by rw [HQ.out]; rfl, G2.out⟩
        · go_wp2_with fail
          go_at_call 16
          refine (head_any y _ 1 0 (-1) false _ (HK.out.kept (by repeat (first | with_reducible exact HG.out | with_reducible refine gb_put ?_ (by omega) _ _ | with_reducible refine gb_alloc ?_ _ | with_reducible refine gb_drewN ?_ _ | with_reducible refine gb_drew ?_))) FY.out (AY.out.kept (by repeat (first | with_reducible exact gb_refl wr none | with_reducible refine gb_put ?_ (by omega) _ _ | with_reducible refine gb_alloc ?_ _ | with_reducible refine gb_drewN ?_ _ | with_reducible refine gb_drew ?_)))).mono ?_
          rintro e w2 ⟨rfl, hg2⟩
          rw [hh]
          have G2 : Hid (w.grownBy w2 none) := gb_trans (by repeat (first | with_reducible exact HG.out | with_reducible refine gb_put ?_ (by omega) _ _ | with_reducible refine gb_alloc ?_ _ | with_reducible refine gb_drewN ?_ _ | with_reducible refine gb_drew ?_)) hg2
          have GR : Hid (wr.grownBy w2 none) := gb_trans (by repeat (first | with_reducible exact gb_refl wr none | with_reducible refine gb_put ?_ (by omega) _ _ | with_reducible refine gb_alloc ?_ _ | with_reducible refine gb_drewN ?_ _ | with_reducible refine gb_drew ?_)) hg2
          have BX2 := hide (HX.out.kept GR.out)
          have BY2 := hide ((Box.new wr y (.slice aa y.subs.length cc) 24).kept hg2)
          have KD2 := hide (HD.out.kept GR.out)
          clear hg2
          go_wp2_with fail
          obtain ⟨wo, hwo⟩ : ∃ z, z = wr := ⟨_, rfl⟩
          subst hwo
          go_loopw [6] (fun kv wq => ∃ i : Nat, i ≤ y.subs.length ∧ kv = .int .i64 ↑i ∧ Hid ((y.subs.take i).all (wellB (declR j)) = true) ∧ Hid (wo.grownBy wq none) ∧ Hid (Box wq w.heap.size (.mk kd x m p [y0, y1, y2, y3, y4, y5]) (.slice (some ⟨g, o, none⟩) 6 c)) ∧ Hid (Box wq wo.heap.size y (.slice aa y.subs.length cc)) ∧ Hid (Kinds wq w1.heap.size)) (fun kv _ => y.subs.length - (intOf kv).toNat)
          case atStart => exact ⟨0, Nat.zero_le _, rfl, by show _ = _; simp, GR, BX2, BY2, KD2⟩
          case round =>
            obtain ⟨i, hi, rfl, HB, HQ, HX3, HY3, HD3⟩ := hrel
            obtain ⟨x0, x1, x2, x3, x4⟩ := HX3.out
            obtain ⟨z0, z1, z2, z3, z4⟩ := HY3.out
            have kc := HD3.out j hlt
            have GW : Hid (w.grownBy wr none) := gb_trans HG.out HQ.out
            by_cases hlt2 : i < y.subs.length
            · obtain ⟨u, hu⟩ : ∃ u, y.subs[i]? = some u := ⟨_, List.getElem?_eq_getElem hlt2⟩
              obtain ⟨gg, oo, su, e1, n5, fu, au⟩ := (AY.out.kept HQ.out).node i u hu
              cases e1
              have HT := hide (all_step hu HB.out)
              have FU := hide fu
              have AU := hide au
              clear hu
              obtain ⟨ku, xu, mu, pu, lu⟩ := u
              obtain ⟨e0, e1, e2, e3, e4⟩ := n5
              change _ = some (Value.int .i64 ku) at e0
              change _ = some (Value.int .i64 mu) at e2
              change _ = some (Value.string ⟨xu.toArray⟩) at e1
              change _ = some (Value.int .i64 pu) at e3
              clear fu au
              by_cases hk : ku = kindR j
              · subst hk
                cases hv : wellB (declR j) (.mk (kindR j) xu mu pu lu)
                · have HF9 : Hid (wellB .module (.mk kd x m p [y0, y1, y2, y3, y4, y5]) = false) := module_no H0.out hlt HY.out (by rw [well_list, hh, all_false (HT.out.trans hv)]; rfl)
                  go_wp2_with fail
                  go_region_with (go_at_call 17
                                  refine (decl_any j hlt xu mu pu lu _ _ (HK.out.kept (by repeat (first | with_reducible exact GW.out | with_reducible refine gb_put ?_ (by omega) _ _ | with_reducible refine gb_alloc ?_ _ | with_reducible refine gb_drewN ?_ _ | with_reducible refine gb_drew ?_))) FU.out (AU.out.kept (by repeat (first | with_reducible exact gb_refl wr none | with_reducible refine gb_put ?_ (by omega) _ _ | with_reducible refine gb_alloc ?_ _ | with_reducible refine gb_drewN ?_ _ | with_reducible refine gb_drew ?_)))).mono ?_
                                  rintro e w9 ⟨rfl, hg9⟩
                                  rw [hv])
                  all_goals
                    have G9 : Hid (w.grownBy w9 none) := gb_trans (by repeat (first | with_reducible exact GW.out | with_reducible refine gb_put ?_ (by omega) _ _ | with_reducible refine gb_alloc ?_ _ | with_reducible refine gb_drewN ?_ _ | with_reducible refine gb_drew ?_)) hg9
                    go_wp2_with fail
                    go_ret
                    exact ⟨by rw [HF9.out]; rfl, G9.out⟩
                · have HB9 : Hid ((y.subs.take (i + 1)).all (wellB (declR j)) = true) := HT.out.trans hv
                  go_wp2_with fail
                  go_region_with (go_at_call 17
                                  refine (decl_any j hlt xu mu pu lu _ _ (HK.out.kept (by repeat (first | with_reducible exact GW.out | with_reducible refine gb_put ?_ (by omega) _ _ | with_reducible refine gb_alloc ?_ _ | with_reducible refine gb_drewN ?_ _ | with_reducible refine gb_drew ?_))) FU.out (AU.out.kept (by repeat (first | with_reducible exact gb_refl wr none | with_reducible refine gb_put ?_ (by omega) _ _ | with_reducible refine gb_alloc ?_ _ | with_reducible refine gb_drewN ?_ _ | with_reducible refine gb_drew ?_)))).mono ?_
                                  rintro e w9 ⟨rfl, hg9⟩
                                  rw [hv])
                  all_goals
                    have GQ : Hid (wr.grownBy w9 none) := gb_trans (by repeat (first | with_reducible exact gb_refl wr none | with_reducible refine gb_put ?_ (by omega) _ _ | with_reducible refine gb_alloc ?_ _ | with_reducible refine gb_drewN ?_ _ | with_reducible refine gb_drew ?_)) hg9
                    have G9 : Hid (wo.grownBy w9 none) := gb_trans HQ.out GQ.out
                    have X9 := hide (HX3.out.kept GQ.out)
                    have Y9 := hide (HY3.out.kept GQ.out)
                    have D9 := hide (HD3.out.kept GQ.out)
                    go_wp2_with fail
                    exact ⟨⟨i + 1, by omega, by go_num, HB9, G9, X9, Y9, D9⟩, by simp [intOf]; omega⟩
              · have hkb : (ku != kindR j) = true := by simpa using hk
                have HF9 : Hid (wellB .module (.mk kd x m p [y0, y1, y2, y3, y4, y5]) = false) := module_no H0.out hlt HY.out (by rw [well_list, hh, all_false (HT.out.trans (decl_kind j hlt ku xu mu pu lu hk))]; rfl)
                go_wp2_with fail
                go_quiet (fail)
                go_wp2_with fail
                go_ret
                exact ⟨by rw [HF9.out]; rfl, (by repeat (first | with_reducible exact GW.out | with_reducible refine gb_put ?_ (by omega) _ _ | with_reducible refine gb_alloc ?_ _ | with_reducible refine gb_drewN ?_ _ | with_reducible refine gb_drew ?_))⟩
            · have HU9 : Hid (upTo [y0, y1, y2, y3, y4, y5] (j + 1)) := HU.out.step HY.out (by rw [well_list, hh, all_done hlt2 HB.out]; rfl)
              go_wp2_with fail
              exact ⟨⟨j + 1, by omega, by go_num, HU9, GW, HX3, HD3⟩, by simp [intOf]; omega⟩
      · obtain rfl : j = 5 := by omega
        have HV := hide (module_yes H0.out HU.out)
        obtain ⟨f0, f1, f2, f3, f4⟩ := N5.out.kept HG.out
        go_wp2_with fail
        go_at_call 18
        refine ((ac_all y5).stmts _ _ (HK.out.kept HG.out) F5.out (A5.out.kept HG.out)).mono ?_
        rintro e w2 ⟨rfl, hg2⟩
        have G2 : Hid (w.grownBy w2 none) := gb_trans HG.out hg2
        go_wp2_with fail
        go_ret
        exact ⟨by rw [HV.out]; rfl, G2.out⟩
end Go.Proofs.YtlkokcnbbihljaaGreatDoor
