/- The program's judge of shapes: IF; every act. -/
import Derived.Test.YtlkokcnbbihljaaGreatDoorG19
import Derived.Test.YtlkokcnbbihljaaGreatDoorG23
namespace Go.Proofs.YtlkokcnbbihljaaGreatDoor
open Go.RowKit Go.Maps Go.WideMaps Go.WideElems

theorem turn_len : ∀ ts : List T, (turnR ts).length = ts.length
  | [] => rfl
  | [_] => rfl
  | _ :: _ :: ts => by simp only [turnR, List.length_cons, turn_len ts]
theorem turn_get : ∀ (ts : List T) (i : Nat) (u : T), ts[i]? = some u → (turnR ts)[i]? = some (u, if i % 2 = 0 ∧ i + 1 < ts.length then .expression else .list .act)
  | [], i, u, h => by simp at h
  | [y], 0, u, h => by simp at h; subst h; rfl
  | [y], i + 1, u, h => by simp at h
  | y :: z :: ts, 0, u, h => by simp at h; subst h; simp [turnR]
  | y :: z :: ts, 1, u, h => by simp at h; subst h; simp [turnR]
  | y :: z :: ts, i + 2, u, h => by
    have ih := turn_get ts i u (by simpa using h)
    simp only [turnR, List.getElem?_cons_succ, ih, List.length_cons]
    by_cases h1 : i % 2 = 0 ∧ i + 1 < ts.length
    · rw [if_pos h1, if_pos ⟨by omega, by omega⟩]
    · rw [if_neg h1, if_neg (by omega)]

set_option maxRecDepth 1000000 in
set_option maxHeartbeats 2000000 in
theorem jchoice16 (w0 : World) (jb lb ob : Nat) (w : World) (l : List (T × Rule)) (v : Value) (x : List UInt8) (m p : Int) (ts : List T) (sv : Value) (h : JS w0 jb lb ob w l v) (hlen : l.length + ts.length ≤ 20000) (hf : Fits (.mk 16 x m p ts)) (ha : AT w0 (T.mk 16 x m p ts).subs sv) :
    Calls Tryz.prog 122 #[ptr jb, .agg #[.int .i64 16, .string ⟨x.toArray⟩, .int .i64 m, .int .i64 p, sv]] w (JR w0 jb lb ob l v w .act (.mk 16 x m p ts)) := by
  have HJ := hide h
  have HF := hide hf
  have HA := hide ha
  have hjl := h.lt
  have HV : Hid (∀ b, v.ownBlock = some b → b < w.heap.size) := fun b hb => (h.room hb).2
  obtain ⟨a, n, c, rfl, hn, hc, hl⟩ := ha.any
  change ts.length = n at hl
  subst hl
  have HS : Hid (stepR .act (.mk 16 x m p ts) = onlyIf (x.isEmpty && decide (2 ≤ ts.length) && decide ((ts.length : Int) % 2 = m)) (turnR ts)) := rfl
  cases hx : x.isEmpty
  · skip
    have HN : Hid (stepR .act (.mk 16 x m p ts) = none) := HS.out.trans (onlyIf_no (by rw [hx]; rfl))
    clear h hf ha
    go_enter Tryz.func122, Tryz.ntmps122
    go_wp2_with fail
    go_ret
    exact .inl ⟨HN.out, rfl, gb_trans HJ.out.gb (gb_alloc (gb_refl w none) _)⟩
  · by_cases h1 : 2 ≤ ts.length
    · by_cases h2 : (ts.length : Int) % 2 = m
      · have HY : Hid (stepR .act (.mk 16 x m p ts) = some (turnR ts)) := HS.out.trans (onlyIf_yes (by rw [hx]; simp [h1, h2]))
        have h2b : ((ts.length : Int) % 2 != m) = false := by simp [h2]
        clear h2
        clear h hf ha
        go_enter Tryz.func122, Tryz.ntmps122
        go_wp2_with fail
        go_at_call 79
        refine (list_any jb _ v .act _ (by simp; omega) (fun b hb => by have := HV.out b hb; simp; omega) (.meth .act _ rfl)).mono ?_
        rintro e w1 ⟨g1, fa1, ca1, rfl, r1, hg1⟩
        have GW1 : Hid (w.grownBy w1 none) := gb_trans (gb_alloc (gb_refl w none) _) hg1
        have R1 := hide r1
        have B1 := hide ((Box.new w (.mk 16 x m p ts) (.slice a ts.length c) 24).kept hg1)
        obtain ⟨b0, b1, b2, b3, b4⟩ := B1.out
        have hbl1 := block_lt b0
        clear hg1 r1
        go_wp2_with fail
        go_loopw [33] (fun iv wr => ∃ (i : Nat) (v1 : Value), i ≤ ts.length ∧ iv = .int .i64 ↑i ∧ Hid (JS w0 jb lb ob wr (l ++ (turnR ts).take i) v1) ∧ Hid (JK jb v w1 wr v1)) (fun iv _ => ts.length - (intOf iv).toNat)
        case atStart => exact ⟨0, v, Nat.zero_le _, rfl, by show JS _ _ _ _ _ _ _; simpa using HJ.out.grown GW1.out, JK.refl _ _ _⟩
        case round =>
          obtain ⟨i, v1, hi, rfl, J1, K1⟩ := hrel
          have hfree : free jb v w.heap.size := ⟨by omega, fun e => by have := HV.out _ e; omega⟩
          have X1 : Box wr w.heap.size (.mk 16 x m p ts) (.slice a ts.length c) := ⟨K1.out.kb.cell B1.out.c0 hfree, K1.out.kb.cell B1.out.c1 hfree, K1.out.kb.cell B1.out.c2 hfree, K1.out.kb.cell B1.out.c3 hfree, K1.out.kb.cell B1.out.c4 hfree⟩
          obtain ⟨d0, d1, d2, d3, d4⟩ := X1
          have hbl := block_lt d0
          by_cases hlt : i < ts.length
          · obtain ⟨u, hu⟩ : ∃ u, ts[i]? = some u := ⟨_, List.getElem?_eq_getElem hlt⟩
            have htg := turn_get ts i u hu
            obtain ⟨g, o, su, e1, n5, fu, au⟩ := HA.out.node i u hu
            cases e1
            obtain ⟨ua, uc, rfl, _, _⟩ := au.form
            obtain ⟨c0, c1, c2, c3, c4⟩ := n5.kept J1.out.gb
            have HU := hide fu
            have AU := hide au
            have hl9 : (l ++ (turnR ts).take i).length ≤ 20000 := by simp [turn_len]; omega
            clear hu fu au n5
            by_cases hp : (i : Int) % 2 = 0
            · have hpb : ((i : Int) % 2 == 0) = true := by simp [hp]
              by_cases hq : i + 1 < ts.length
              · have HP : Hid (i % 2 = 0 ∧ i + 1 < ts.length) := ⟨by omega, hq⟩
                clear hp
                have HE : Hid (l ++ (turnR ts).take i ++ [(u, .expression)] = l ++ (turnR ts).take (i + 1)) := by
                  show _ = _
                  rw [List.take_add_one, htg, if_pos HP.out]
                  simp
                clear htg
                go_wp2_with fail
                go_at_call 48
                refine (put_any w0 jb lb ob _ _ v1 u .expression _ _ (J1.out.grown (by repeat (first | with_reducible exact gb_refl wr none | with_reducible refine gb_put ?_ (by omega) _ _ | with_reducible refine gb_alloc ?_ _ | with_reducible refine gb_drewN ?_ _ | with_reducible refine gb_drew ?_))) hl9 HU.out AU.out (.meth .expression _ rfl)).mono ?_
                rintro e w2 ⟨v2, rfl, j2, k2⟩
                have J2 : Hid (JS w0 jb lb ob w2 (l ++ (turnR ts).take (i + 1)) v2) := HE.out ▸ j2
                have K2 : Hid (JK jb v w1 w2 v2) := K1.out.trans ((JK.grown (by repeat (first | with_reducible exact gb_refl wr none | with_reducible refine gb_put ?_ (by omega) _ _ | with_reducible refine gb_alloc ?_ _ | with_reducible refine gb_drewN ?_ _ | with_reducible refine gb_drew ?_))).trans k2)
                clear j2 k2
                go_wp2_with fail
                exact ⟨⟨i + 1, v2, by omega, by go_num, J2, K2⟩, by simp [intOf]; omega⟩
              · have HP : Hid (¬ (i % 2 = 0 ∧ i + 1 < ts.length)) := fun h => hq h.2
                have hqb : decide ((i : Int) + 1 < (ts.length : Int)) = false := by simp; omega
                clear hp
                have HE : Hid (l ++ (turnR ts).take i ++ [(u, (.list .act))] = l ++ (turnR ts).take (i + 1)) := by
                  show _ = _
                  rw [List.take_add_one, htg, if_neg HP.out]
                  simp
                clear htg
                go_wp2_with fail
                go_at_call 48
                refine (put_any w0 jb lb ob _ _ v1 u (.list .act) _ _ (J1.out.grown (by repeat (first | with_reducible exact gb_refl wr none | with_reducible refine gb_put ?_ (by omega) _ _ | with_reducible refine gb_alloc ?_ _ | with_reducible refine gb_drewN ?_ _ | with_reducible refine gb_drew ?_))) hl9 HU.out AU.out ((R1.out.step K1.out).grown (by repeat (first | with_reducible exact gb_refl wr none | with_reducible refine gb_put ?_ (by omega) _ _ | with_reducible refine gb_alloc ?_ _ | with_reducible refine gb_drewN ?_ _ | with_reducible refine gb_drew ?_)))).mono ?_
                rintro e w2 ⟨v2, rfl, j2, k2⟩
                have J2 : Hid (JS w0 jb lb ob w2 (l ++ (turnR ts).take (i + 1)) v2) := HE.out ▸ j2
                have K2 : Hid (JK jb v w1 w2 v2) := K1.out.trans ((JK.grown (by repeat (first | with_reducible exact gb_refl wr none | with_reducible refine gb_put ?_ (by omega) _ _ | with_reducible refine gb_alloc ?_ _ | with_reducible refine gb_drewN ?_ _ | with_reducible refine gb_drew ?_))).trans k2)
                clear j2 k2
                go_wp2_with fail
                exact ⟨⟨i + 1, v2, by omega, by go_num, J2, K2⟩, by simp [intOf]; omega⟩
            · have hpb : ((i : Int) % 2 == 0) = false := by simp [hp]
              have HP : Hid (¬ (i % 2 = 0 ∧ i + 1 < ts.length)) := fun h => by have := h.1; omega
              clear hp
              have HE : Hid (l ++ (turnR ts).take i ++ [(u, (.list .act))] = l ++ (turnR ts).take (i + 1)) := by
                show _ = _
                rw [List.take_add_one, htg, if_neg HP.out]
                simp
              clear htg
              go_wp2_with fail
              go_at_call 48
              refine (put_any w0 jb lb ob _ _ v1 u (.list .act) _ _ (J1.out.grown (by repeat (first | with_reducible exact gb_refl wr none | with_reducible refine gb_put ?_ (by omega) _ _ | with_reducible refine gb_alloc ?_ _ | with_reducible refine gb_drewN ?_ _ | with_reducible refine gb_drew ?_))) hl9 HU.out AU.out ((R1.out.step K1.out).grown (by repeat (first | with_reducible exact gb_refl wr none | with_reducible refine gb_put ?_ (by omega) _ _ | with_reducible refine gb_alloc ?_ _ | with_reducible refine gb_drewN ?_ _ | with_reducible refine gb_drew ?_)))).mono ?_
              rintro e w2 ⟨v2, rfl, j2, k2⟩
              have J2 : Hid (JS w0 jb lb ob w2 (l ++ (turnR ts).take (i + 1)) v2) := HE.out ▸ j2
              have K2 : Hid (JK jb v w1 w2 v2) := K1.out.trans ((JK.grown (by repeat (first | with_reducible exact gb_refl wr none | with_reducible refine gb_put ?_ (by omega) _ _ | with_reducible refine gb_alloc ?_ _ | with_reducible refine gb_drewN ?_ _ | with_reducible refine gb_drew ?_))).trans k2)
              clear j2 k2
              go_wp2_with fail
              exact ⟨⟨i + 1, v2, by omega, by go_num, J2, K2⟩, by simp [intOf]; omega⟩
          · have J2 : Hid (JS w0 jb lb ob wr (l ++ turnR ts) v1) := by
              have := J1.out
              rw [List.take_of_length_le (by rw [turn_len]; omega)] at this
              exact this
            go_wp2_with fail
            go_ret
            exact .inr ⟨_, v1, HY.out, rfl, J2.out, (JK.grown GW1.out).trans K1.out⟩
      · skip
        have HN : Hid (stepR .act (.mk 16 x m p ts) = none) := HS.out.trans (onlyIf_no (by simp [h2]))
        have h2b : ((ts.length : Int) % 2 != m) = true := by simpa using h2
        clear h hf ha
        go_enter Tryz.func122, Tryz.ntmps122
        go_wp2_with fail
        go_ret
        exact .inl ⟨HN.out, rfl, gb_trans HJ.out.gb (gb_alloc (gb_refl w none) _)⟩
    · skip
      have HN : Hid (stepR .act (.mk 16 x m p ts) = none) := HS.out.trans (onlyIf_no (by simp [h1]))
      clear h hf ha
      go_enter Tryz.func122, Tryz.ntmps122
      go_wp2_with fail
      go_ret
      exact .inl ⟨HN.out, rfl, gb_trans HJ.out.gb (gb_alloc (gb_refl w none) _)⟩
set_option maxRecDepth 1000000 in
set_option maxHeartbeats 2000000 in
theorem jact16 (w0 : World) (jb lb ob : Nat) (w : World) (l : List (T × Rule)) (v : Value) (x : List UInt8) (m p : Int) (ts : List T) (sv : Value) (h : JS w0 jb lb ob w l v) (hlen : l.length + ts.length ≤ 20000) (hf : Fits (.mk 16 x m p ts)) (ha : AT w0 (T.mk 16 x m p ts).subs sv) :
    Calls Tryz.prog 86 #[ptr jb, .agg #[.int .i64 16, .string ⟨x.toArray⟩, .int .i64 m, .int .i64 p, sv]] w (JR w0 jb lb ob l v w .act (.mk 16 x m p ts)) := by
  have HJ := hide h
  have HF := hide hf
  have HA := hide ha
  have hjl := h.lt
  have HV : Hid (∀ b, v.ownBlock = some b → b < w.heap.size) := fun b hb => (h.room hb).2
  obtain ⟨a, n, c, rfl, hn, hc, hl⟩ := ha.any
  change ts.length = n at hl
  subst hl
  clear h hf ha
  go_enter Tryz.func86, Tryz.ntmps86
  go_wp2_with fail
  go_at_call 122
  refine (jchoice16 w0 jb lb ob _ l v x m p ts _ (HJ.out.grown (by repeat (first | with_reducible exact gb_refl w none | with_reducible refine gb_put ?_ (by omega) _ _ | with_reducible refine gb_alloc ?_ _ | with_reducible refine gb_drewN ?_ _ | with_reducible refine gb_drew ?_))) hlen HF.out HA.out).mono ?_
  intro e w1 hr
  obtain ⟨b, rfl, hr⟩ := hr.ret
  have H1 : Hid (JR w0 jb lb ob l v w .act (.mk 16 x m p ts) (.returned (.bool b)) w1) := hr.up (gb_alloc (gb_refl w none) _) rfl
  clear hr
  go_wp2_with fail
  go_ret
  exact H1.out
theorem act_says : RuleSays 86 .act := by
  intro w0 jb lb ob w l v t sv h hlen hf ha
  obtain ⟨kd, x, m, p, ts⟩ := t
  change l.length + ts.length ≤ 20000 at hlen
  by_cases h14 : kd = 14
  · subst h14; exact jact14 w0 jb lb ob w l v x m p ts sv h hlen hf ha
  by_cases h15 : kd = 15
  · subst h15; exact jact15 w0 jb lb ob w l v x m p ts sv h hlen hf ha
  by_cases h16 : kd = 16
  · subst h16; exact jact16 w0 jb lb ob w l v x m p ts sv h hlen hf ha
  by_cases h17 : kd = 17
  · subst h17; exact jact17 w0 jb lb ob w l v x m p ts sv h hlen hf ha
  by_cases h18 : kd = 18
  · subst h18; exact jact18 w0 jb lb ob w l v x m p ts sv h hlen hf ha
  by_cases h19 : kd = 19
  · subst h19; exact jact19 w0 jb lb ob w l v x m p ts sv h hlen hf ha
  by_cases h20 : kd = 20
  · subst h20; exact jact20 w0 jb lb ob w l v x m p ts sv h hlen hf ha
  by_cases h21 : kd = 21
  · subst h21; exact jact21 w0 jb lb ob w l v x m p ts sv h hlen hf ha
  by_cases h22 : kd = 22
  · subst h22; exact jact22 w0 jb lb ob w l v x m p ts sv h hlen hf ha
  by_cases h23 : kd = 23
  · subst h23; exact jact23 w0 jb lb ob w l v x m p ts sv h hlen hf ha
  exact jactElse w0 jb lb ob w l v kd x m p ts sv h hlen hf ha h14 h15 h16 h17 h18 h19 h20 h21 h22 h23
end Go.Proofs.YtlkokcnbbihljaaGreatDoor
