/- The document's shapes: IF; every act. -/
import Derived.Test.YtlkokcnbbihljaaGreatDoorG47
namespace Go.Proofs.YtlkokcnbbihljaaGreatDoor
open Go.RowKit

/-- Conditions and lists of acts in turn, from one of them on. -/
noncomputable def altFrom : Bool → List T → Bool
  | _, [] => true
  | false, [x] => wellB (.list .act) x
  | false, x :: y :: r => wellB .expression x && altFrom true (y :: r)
  | true, x :: r => wellB (.list .act) x && altFrom false r
theorem drop_get {l : List T} {j : Nat} {u : T} (hu : l[j]? = some u) : l.drop j = u :: l.drop (j + 1) := by
  obtain ⟨h, rfl⟩ := List.getElem?_eq_some_iff.1 hu
  exact List.drop_eq_getElem_cons h
theorem turn_alt : ∀ l : List T, ((turnR l).all fun p => wellB p.2 p.1) = altFrom false l
  | [] => by simp [turnR, altFrom]
  | [x] => by simp [turnR, altFrom]
  | x :: y :: l => by
    have ih := turn_alt l
    simp only [turnR, List.all_cons, ih, altFrom]
theorem alt_odd {l : List T} {j : Nat} {u : T} (hu : l[j]? = some u) : altFrom true (l.drop j) = (wellB (.list .act) u && altFrom false (l.drop (j + 1))) := by
  rw [drop_get hu, altFrom]
theorem alt_last {l : List T} {j : Nat} {u : T} (hu : l[j]? = some u) (h : j + 1 = l.length) : altFrom false (l.drop j) = wellB (.list .act) u := by
  rw [drop_get hu, List.drop_eq_nil_of_le (by omega), altFrom]
theorem alt_even {l : List T} {j : Nat} {u : T} (hu : l[j]? = some u) (h : j + 1 < l.length) : altFrom false (l.drop j) = (wellB .expression u && altFrom true (l.drop (j + 1))) := by
  rw [drop_get hu, drop_get (List.getElem?_eq_getElem h), altFrom]

set_option maxRecDepth 1000000 in
set_option maxHeartbeats 1000000 in
theorem stmt16 (x : List UInt8) (m p : Int) (l : List T) (sv : Value) (w : World) (hk : KW w) (hf : Fits (.mk 16 x m p l)) (ha : AT w (T.mk 16 x m p l).subs sv) (IH : ∀ u, u ∈ l → AcOK u) :
    Calls Tryz.prog 40 #[.agg #[.int .i64 16, .string ⟨x.toArray⟩, .int .i64 m, .int .i64 p, sv]] w (Sy w (.bool (wellB .act (.mk 16 x m p l)))) := by
  have HE := wellB_only (r := .act) (t := (.mk 16 x m p l)) (c := x.isEmpty && decide (2 ≤ l.length) && decide ((l.length : Int) % 2 = m)) (l := turnR l) rfl
  have HK := hide hk
  have HF := hide hf
  have HA := hide ha
  have HI := hide IH
  obtain ⟨a, n, c, rfl, hn, hc, hl⟩ := ha.any
  change l.length = n at hl
  subst hl
  clear hk ha hf IH
  cases h0 : headB (.mk 16 x m p l) 16 false 1 (-1)
  · have hno : (x.isEmpty && decide (2 ≤ l.length) && decide ((l.length : Int) % 2 = m)) = false := by
      cases h1 : (x.isEmpty && decide (2 ≤ l.length) && decide ((l.length : Int) % 2 = m))
      · rfl
      · exfalso
        simp only [Bool.and_eq_true, decide_eq_true_eq] at h1
        unfold headB at h0
        simp only [T.kind, T.num, T.name, h1.1.1] at h0
        simp at h0
        omega
    rw [show wellB .act (.mk 16 x m p l) = false by rw [HE, hno]; rfl]
    clear HE hno
    go_enter Tryz.func40, Tryz.ntmps40
    go_wp2_with fail
    go_at_call 16
    refine (head_any (.mk 16 x m p l) _ 16 1 (-1) false _ (HK.out.kept (by repeat (first | with_reducible exact gb_refl w none | with_reducible refine gb_put ?_ (by omega) _ _ | with_reducible refine gb_alloc ?_ _ | with_reducible refine gb_drewN ?_ _ | with_reducible refine gb_drew ?_))) HF.out (HA.out.kept (by repeat (first | with_reducible exact gb_refl w none | with_reducible refine gb_put ?_ (by omega) _ _ | with_reducible refine gb_alloc ?_ _ | with_reducible refine gb_drewN ?_ _ | with_reducible refine gb_drew ?_)))).mono ?_
    rintro e w1 ⟨rfl, hg1⟩
    rw [h0]
    have G1 : Hid (w.grownBy w1 none) := gb_trans (gb_alloc (gb_refl w none) _) hg1
    have B1 := hide ((Box.new w (.mk 16 x m p l) (.slice a l.length c) 24).kept hg1)
    obtain ⟨b0_1, b1_1, b2_1, b3_1, b4_1⟩ := B1.out
    go_wp2_with fail
    go_ret
    exact ⟨rfl, G1.out⟩
  · have hx : x.isEmpty = true := by
      unfold headB at h0
      simp [T.name] at h0
      simp [h0]
    by_cases h1 : 2 ≤ l.length
    · by_cases h2 : (l.length : Int) % 2 = m
      · have HV : Hid (wellB .act (.mk 16 x m p l) = altFrom false l) := by show _ = _; rw [HE, ← turn_alt]; simp [hx, h1, h2]
        rw [HV.out]
        clear HE hx
        go_enter Tryz.func40, Tryz.ntmps40
        go_wp2_with fail
        go_at_call 16
        refine (head_any (.mk 16 x m p l) _ 16 1 (-1) false _ (HK.out.kept (by repeat (first | with_reducible exact gb_refl w none | with_reducible refine gb_put ?_ (by omega) _ _ | with_reducible refine gb_alloc ?_ _ | with_reducible refine gb_drewN ?_ _ | with_reducible refine gb_drew ?_))) HF.out (HA.out.kept (by repeat (first | with_reducible exact gb_refl w none | with_reducible refine gb_put ?_ (by omega) _ _ | with_reducible refine gb_alloc ?_ _ | with_reducible refine gb_drewN ?_ _ | with_reducible refine gb_drew ?_)))).mono ?_
        rintro e w1 ⟨rfl, hg1⟩
        rw [h0]
        have G1 : Hid (w.grownBy w1 none) := gb_trans (gb_alloc (gb_refl w none) _) hg1
        have B1 := hide ((Box.new w (.mk 16 x m p l) (.slice a l.length c) 24).kept hg1)
        obtain ⟨b0_1, b1_1, b2_1, b3_1, b4_1⟩ := B1.out
        clear hg1
        change _ = some (Value.int .i64 m) at b2_1
        go_wp2_with fail
        go_loopw [4] (fun iv wr => ∃ j : Nat, j ≤ l.length ∧ iv = .int .i64 j ∧ Hid (altFrom false l = altFrom (decide (j % 2 = 1)) (l.drop j)) ∧ Hid (w.grownBy wr none) ∧ Hid (Box wr w.heap.size (.mk 16 x m p l) (.slice a l.length c))) (fun iv _ => l.length - (intOf iv).toNat)
        case atStart => exact ⟨0, Nat.zero_le _, rfl, by show _ = _; simp, G1, B1⟩
        case round =>
          obtain ⟨j, hj, rfl, HB, HG, HX⟩ := hrel
          clear b0_1 b1_1 b2_1 b3_1 b4_1
          obtain ⟨b0, b1, b2, b3, b4⟩ := HX.out
          change _ = some (Value.int .i64 m) at b2
          by_cases hlt : j < l.length
          · obtain ⟨u, hu⟩ : ∃ u, l[j]? = some u := ⟨_, List.getElem?_eq_getElem hlt⟩
            have hmem : u ∈ l := List.mem_of_getElem? hu
            obtain ⟨g, o, su, e1, n5, fu, au⟩ := (HA.out.kept HG.out).node j u hu
            subst e1
            have IU := hide (HI.out u hmem)
            have HU := hide fu
            have AU := hide au
            have HUU := hide hu
            obtain ⟨c0, c1, c2, c3, c4⟩ := n5
            clear hu hmem fu au
            by_cases hp : (j : Int) % 2 = 1
            · have hpb : ((j : Int) % 2 == 1) = true := by simp [hp]
              have HS : Hid (altFrom (decide (j % 2 = 1)) (l.drop j) = (wellB (.list .act) u && altFrom false (l.drop (j + 1)))) := by show _ = _; rw [show decide (j % 2 = 1) = true by simp; omega]; exact alt_odd HUU.out
              have HO : Hid (decide ((j + 1) % 2 = 1) = false) := by show _ = _; simp; omega
              clear hp
              cases hv : wellB (.list .act) u
              · have HQ : Hid (altFrom false l = false) := by show _ = _; rw [HB.out, HS.out, hv]; rfl
                go_wp2_with fail
                go_at_call 18
                refine (IU.out.stmts su _ (HK.out.kept HG.out) HU.out AU.out).mono ?_
                rintro e w2 ⟨rfl, hg2⟩
                rw [hv]
                have G2 := hide (gb_trans HG.out hg2)
                go_wp2_with fail
                go_ret
                exact ⟨by rw [HQ.out]; rfl, G2.out⟩
              · have HB2 : Hid (altFrom false l = altFrom (decide ((j + 1) % 2 = 1)) (l.drop (j + 1))) := by
                  show _ = _
                  rw [HB.out, HS.out, hv, show decide ((j + 1) % 2 = 1) = false from HO.out]
                  rfl
                go_wp2_with fail
                go_at_call 18
                refine (IU.out.stmts su _ (HK.out.kept HG.out) HU.out AU.out).mono ?_
                rintro e w2 ⟨rfl, hg2⟩
                rw [hv]
                have G2 := hide (gb_trans HG.out hg2)
                have B2 := hide (HX.out.kept hg2)
                go_wp2_with fail
                exact ⟨⟨j + 1, by omega, by go_num, HB2, G2, B2⟩, by simp [intOf]; omega⟩
            · have hpb : ((j : Int) % 2 == 1) = false := by simp [hp]
              by_cases hq : (j : Int) = (l.length : Int) - 1
              · have hqb : ((j : Int) == (l.length : Int) - 1) = true := by simp [hq]
                have HS : Hid (altFrom (decide (j % 2 = 1)) (l.drop j) = wellB (.list .act) u) := by show _ = _; rw [show decide (j % 2 = 1) = false by simp; omega]; exact alt_last HUU.out (by omega)
                obtain rfl : m = 1 := by omega
                have HO : Hid (decide ((j + 1) % 2 = 1) = true) := by show _ = _; simp; omega
                have HJ : Hid (l.length ≤ j + 1) := by show _ ≤ _; omega
                clear hq hp
                cases hv : wellB (.list .act) u
                · have HQ : Hid (altFrom false l = false) := by show _ = _; rw [HB.out, HS.out, hv]
                  go_wp2_with fail
                  go_at_call 18
                  refine (IU.out.stmts su _ (HK.out.kept HG.out) HU.out AU.out).mono ?_
                  rintro e w2 ⟨rfl, hg2⟩
                  rw [hv]
                  have G2 := hide (gb_trans HG.out hg2)
                  go_wp2_with fail
                  go_ret
                  exact ⟨by rw [HQ.out]; rfl, G2.out⟩
                · have HB2 : Hid (altFrom false l = altFrom (decide ((j + 1) % 2 = 1)) (l.drop (j + 1))) := by
                    show _ = _
                    rw [HB.out, HS.out, hv, show decide ((j + 1) % 2 = 1) = true from HO.out]
                    rw [List.drop_eq_nil_of_le HJ.out]; simp [altFrom]
                  go_wp2_with fail
                  go_at_call 18
                  refine (IU.out.stmts su _ (HK.out.kept HG.out) HU.out AU.out).mono ?_
                  rintro e w2 ⟨rfl, hg2⟩
                  rw [hv]
                  have G2 := hide (gb_trans HG.out hg2)
                  have B2 := hide (HX.out.kept hg2)
                  go_wp2_with fail
                  exact ⟨⟨j + 1, by omega, by go_num, HB2, G2, B2⟩, by simp [intOf]; omega⟩
              · have hqb : ((j : Int) == (l.length : Int) - 1) = false := by simp [hq]
                have HS : Hid (altFrom (decide (j % 2 = 1)) (l.drop j) = (wellB .expression u && altFrom true (l.drop (j + 1)))) := by show _ = _; rw [show decide (j % 2 = 1) = false by simp; omega]; exact alt_even HUU.out (by omega)
                have HO : Hid (decide ((j + 1) % 2 = 1) = true) := by show _ = _; simp; omega
                clear hp hq
                cases hv : wellB .expression u
                · have HQ : Hid (altFrom false l = false) := by show _ = _; rw [HB.out, HS.out, hv]; rfl
                  go_wp2_with fail
                  go_at_call 37
                  refine ((sh_all u).expr su _ (HK.out.kept HG.out) HU.out AU.out).mono ?_
                  rintro e w2 ⟨rfl, hg2⟩
                  rw [hv]
                  have G2 := hide (gb_trans HG.out hg2)
                  go_wp2_with fail
                  go_ret
                  exact ⟨by rw [HQ.out]; rfl, G2.out⟩
                · have HB2 : Hid (altFrom false l = altFrom (decide ((j + 1) % 2 = 1)) (l.drop (j + 1))) := by
                    show _ = _
                    rw [HB.out, HS.out, hv, show decide ((j + 1) % 2 = 1) = true from HO.out]
                    rfl
                  go_wp2_with fail
                  go_at_call 37
                  refine ((sh_all u).expr su _ (HK.out.kept HG.out) HU.out AU.out).mono ?_
                  rintro e w2 ⟨rfl, hg2⟩
                  rw [hv]
                  have G2 := hide (gb_trans HG.out hg2)
                  have B2 := hide (HX.out.kept hg2)
                  go_wp2_with fail
                  exact ⟨⟨j + 1, by omega, by go_num, HB2, G2, B2⟩, by simp [intOf]; omega⟩
          · have HQ : Hid (altFrom false l = true) := by show _ = _; rw [HB.out, List.drop_eq_nil_of_le (by omega)]; simp [altFrom]
            go_wp2_with fail
            go_ret
            exact ⟨by rw [HQ.out]; rfl, HG.out⟩
      · rw [show wellB .act (.mk 16 x m p l) = false by rw [HE]; simp [h2]]
        have h2b : ((l.length : Int) % 2 != m) = true := by simpa using h2
        clear HE h2
        go_enter Tryz.func40, Tryz.ntmps40
        go_wp2_with fail
        go_at_call 16
        refine (head_any (.mk 16 x m p l) _ 16 1 (-1) false _ (HK.out.kept (by repeat (first | with_reducible exact gb_refl w none | with_reducible refine gb_put ?_ (by omega) _ _ | with_reducible refine gb_alloc ?_ _ | with_reducible refine gb_drewN ?_ _ | with_reducible refine gb_drew ?_))) HF.out (HA.out.kept (by repeat (first | with_reducible exact gb_refl w none | with_reducible refine gb_put ?_ (by omega) _ _ | with_reducible refine gb_alloc ?_ _ | with_reducible refine gb_drewN ?_ _ | with_reducible refine gb_drew ?_)))).mono ?_
        rintro e w1 ⟨rfl, hg1⟩
        rw [h0]
        have G1 : Hid (w.grownBy w1 none) := gb_trans (gb_alloc (gb_refl w none) _) hg1
        have B1 := hide ((Box.new w (.mk 16 x m p l) (.slice a l.length c) 24).kept hg1)
        obtain ⟨b0_1, b1_1, b2_1, b3_1, b4_1⟩ := B1.out
        change _ = some (Value.int .i64 m) at b2_1
        go_wp2_with fail
        go_ret
        exact ⟨rfl, G1.out⟩
    · rw [show wellB .act (.mk 16 x m p l) = false by rw [HE]; simp [h1]]
      clear HE
      go_enter Tryz.func40, Tryz.ntmps40
      go_wp2_with fail
      go_at_call 16
      refine (head_any (.mk 16 x m p l) _ 16 1 (-1) false _ (HK.out.kept (by repeat (first | with_reducible exact gb_refl w none | with_reducible refine gb_put ?_ (by omega) _ _ | with_reducible refine gb_alloc ?_ _ | with_reducible refine gb_drewN ?_ _ | with_reducible refine gb_drew ?_))) HF.out (HA.out.kept (by repeat (first | with_reducible exact gb_refl w none | with_reducible refine gb_put ?_ (by omega) _ _ | with_reducible refine gb_alloc ?_ _ | with_reducible refine gb_drewN ?_ _ | with_reducible refine gb_drew ?_)))).mono ?_
      rintro e w1 ⟨rfl, hg1⟩
      rw [h0]
      have G1 : Hid (w.grownBy w1 none) := gb_trans (gb_alloc (gb_refl w none) _) hg1
      have B1 := hide ((Box.new w (.mk 16 x m p l) (.slice a l.length c) 24).kept hg1)
      obtain ⟨b0_1, b1_1, b2_1, b3_1, b4_1⟩ := B1.out
      go_wp2_with fail
      go_ret
      exact ⟨rfl, G1.out⟩
theorem ac_step (t : T) (IH : ∀ u, u ∈ t.subs → AcOK u) : AcOK t := by
  refine ⟨?_, fun sv w hk hf ha => stmts_step t sv w hk hf ha IH⟩
  intro sv w hk hf ha
  obtain ⟨kd, x, m, p, l⟩ := t
  change ∀ u, u ∈ l → AcOK u at IH
  by_cases h14 : kd = 14
  · subst h14; exact stmt14 x m p l sv w hk hf ha IH
  by_cases h15 : kd = 15
  · subst h15; exact stmt15 x m p l sv w hk hf ha IH
  by_cases h16 : kd = 16
  · subst h16; exact stmt16 x m p l sv w hk hf ha IH
  by_cases h17 : kd = 17
  · subst h17; exact stmt17 x m p l sv w hk hf ha IH
  by_cases h18 : kd = 18
  · subst h18; exact stmt18 x m p l sv w hk hf ha IH
  by_cases h19 : kd = 19
  · subst h19; exact stmt19 x m p l sv w hk hf ha
  by_cases h20 : kd = 20
  · subst h20; exact stmt20 x m p l sv w hk hf ha IH
  by_cases h21 : kd = 21
  · subst h21; exact stmt21 x m p l sv w hk hf ha IH
  by_cases h22 : kd = 22
  · subst h22; exact stmt22 x m p l sv w hk hf ha IH
  by_cases h23 : kd = 23
  · subst h23; exact stmt23 x m p l sv w hk hf ha IH
  exact stmtElse kd x m p l sv w ha h14 h15 h16 h17 h18 h19 h20 h21 h22 h23
theorem ac_all (t : T) : AcOK t := ac_step t (fun u _hu => ac_all u)
  termination_by SizeOf.sizeOf t
  decreasing_by
    obtain ⟨k, x, m, a, l⟩ := t
    have h9 := List.sizeOf_lt_of_mem (show u ∈ l from _hu)
    simp only [T.mk.sizeOf_spec]
    omega
end Go.Proofs.YtlkokcnbbihljaaGreatDoor
