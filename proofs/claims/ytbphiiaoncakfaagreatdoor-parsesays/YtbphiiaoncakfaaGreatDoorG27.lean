/- The document's reader: procedures. -/
import Derived.Test.YtbphiiaoncakfaaGreatDoorG25
namespace Go.Proofs.YtbphiiaoncakfaaGreatDoor
open Go.RowKit

theorem NB.cells3 {w : World} {b1 b2 b3 : Nat} {u0 u1 u2 u3 u4 v0 v1 v2 v3 v4 x0 x1 x2 x3 x4 : Value} (h1 : NB w b1 u0 u1 u2 u3 u4) (h2 : NB w b2 v0 v1 v2 v3 v4) (h3 : NB w b3 x0 x1 x2 x3 x4) :
    w.cell? ⟨b1, 0, none⟩ = some u0 ∧ w.cell? ⟨b1, 1, none⟩ = some u1 ∧ w.cell? ⟨b1, 2, none⟩ = some u2 ∧ w.cell? ⟨b1, 3, none⟩ = some u3 ∧ w.cell? ⟨b1, 4, none⟩ = some u4 ∧
    w.cell? ⟨b2, 0, none⟩ = some v0 ∧ w.cell? ⟨b2, 1, none⟩ = some v1 ∧ w.cell? ⟨b2, 2, none⟩ = some v2 ∧ w.cell? ⟨b2, 3, none⟩ = some v3 ∧ w.cell? ⟨b2, 4, none⟩ = some v4 ∧
    w.cell? ⟨b3, 0, none⟩ = some x0 ∧ w.cell? ⟨b3, 1, none⟩ = some x1 ∧ w.cell? ⟨b3, 2, none⟩ = some x2 ∧ w.cell? ⟨b3, 3, none⟩ = some x3 ∧ w.cell? ⟨b3, 4, none⟩ = some x4 :=
  ⟨h1.c0, h1.c1, h1.c2, h1.c3, h1.c4, h2.c0, h2.c1, h2.c2, h2.c3, h2.c4, h3.c0, h3.c1, h3.c2, h3.c3, h3.c4⟩
section
variable {L : List Tok} {s s1 s2 s3 s4 : QS} {b : Bool} {x : List UInt8} {u : Unit} {y : T}
theorem parameterQ_eq (h : isQ L kVAR s = (b, s1)) (h2 : nameQ L s1 = (x, s2)) (h3 : needQ L s_colon s2 = (u, s3)) (h4 : typeNameQ L s3 = (y, s4)) : parameterQ L s = (T.mk 8 x (if b then 1 else 0) (pos L s.1) [y], s4) := by
  show ((isQ L kVAR).bind (fun b => (nameQ L).bind fun x => typedQ L (T.mk 8 x (if b then 1 else 0) (pos L s.1) []))) s = _
  rw [Q.bind_eq h, Q.bind_eq h2]
  show ((needQ L s_colon).bind fun _ => (typeNameQ L).bind fun y => Q.ret (T.mk 8 x (if b then 1 else 0) (pos L s.1) [y])) s2 = _
  rw [Q.bind_eq h3, Q.bind_eq h4]
  rfl
theorem localQ_eq (h2 : nameQ L s1 = (x, s2)) (h3 : needQ L s_colon s2 = (u, s3)) (h4 : typeNameQ L s3 = (y, s4)) : localQ L s1 = (T.mk 6 x 0 (pos L s1.1) [y], s4) := by
  have h0 : namedQ L 6 s1 = (T.mk 6 x 0 (pos L s1.1) [], s2) := by
    show ((nameQ L).bind (fun x => Q.ret (T.mk 6 x 0 (pos L s1.1) []))) s1 = _
    rw [Q.bind_eq h2]
    rfl
  show ((namedQ L 6).bind (typedQ L)) s1 = _
  rw [Q.bind_eq h0]
  show ((needQ L s_colon).bind fun _ => (typeNameQ L).bind fun y => Q.ret (T.mk 6 x 0 (pos L s1.1) [y])) s2 = _
  rw [Q.bind_eq h3, Q.bind_eq h4]
  rfl
end

set_option maxRecDepth 100000 in
set_option maxHeartbeats 20000000 in
theorem rproc_any (c : RC) (w : World) (s : QS) (d : Nat) (h : RS c w s d) (hB : QOK c d 32 (actsQ c.L 20)) :
    Calls Tryz.prog 31 #[.pointer (some ⟨c.rb, 0, none⟩)] w (QSt c w s d (fun w' t v => TR w' w.heap.size w'.heap.size t v) (procedureQ c.L s)) := by
  have HP := hide h; have HL := hide h.low; have hb := h.lt; have hfew := h.good.few; have HSH := hide h.good.short; clear h
  go_enter Tryz.func31, Tryz.ntmps31
  go_wp2_with fail; go_at_call 26; refine (rat_any c _ s d (by exact RS.alloc HP.out _)).mono ?_; rintro e w1 ⟨rfl, hg1⟩; have p1 : RS c w1 s d := RS.grown (by exact RS.alloc HP.out _) hg1; have G1 : w.grownBy w1 (some c.rb) := gb_trans (by exact gb_alloc (gb_refl w (some c.rb)) _) (gb_some hg1 (some c.rb)); have sz1 := hg1.size
  try simp at sz1
  have r_1 : RB w1 (w.heap.size) := RB.kept (RB.new' (by simp)) hg1 (by simp); have r_lt1 := r_1.lt; obtain ⟨_, _, _, _, _, r0_1, r1_1, r2_1, r3_1, r4_1, r5_1⟩ := id r_1
  have HRx1 : procedureQ c.L s = (((needQ c.L kPROCEDURE).bind fun _ => (markedQ c.L 7).bind fun h => (parametersQ c.L).bind fun ps => (resultQ c.L).bind fun r => (needQ c.L s_semi).bind fun _ => (sectionQ c.L kVAR (localQ c.L)).bind fun vs => (needQ c.L kBEGIN).bind fun _ => (actsQ c.L 20).bind fun b => match h with | .mk _ x n _ _ => (endingQ c.L x).bind fun _ => Q.ret (.mk 7 x n (pos c.L s.1) [ps, r, vs, b])) s) := rfl
  go_wp2_with fail; go_at_call 27; refine (rneed_any c _ s d kPROCEDURE _ rfl (by decide) (by exact RS.alloc p1 _)).mono ?_; rintro e w2 ⟨a2, s2, v2, hr2, rfl, -, hg2, p2, hi2⟩; have HR2 : procedureQ c.L s = _ := HRx1.trans (Q.bind_eq hr2); have G2 : w.grownBy w2 (some c.rb) := gb_trans (by exact gb_alloc G1 _) hg2; have sz2 := hg2.size
  try simp at sz2
  have r_2 : RB w2 (w.heap.size) := RB.keep (by exact RB.alloc r_1 _) hg2 (by omega); have n_2 : NB w2 (w1.heap.size) (.int .i64 7) (.string ⟨#[]⟩) (.int .i64 0) (.int .i64 (pos c.L s.1)) (.slice none 0 0) := NB.keep (NB.new' (by simp)) hg2 (by omega); have r_lt2 := r_2.lt; have n_lt2 := n_2.lt; obtain ⟨_, _, _, _, _, r0_2, r1_2, r2_2, r3_2, r4_2, r5_2⟩ := id r_2; obtain ⟨n0_2, n1_2, n2_2, n3_2, n4_2, n5_2⟩ := id n_2; go_wp2_with fail; go_at_call 28; refine (rname_any c _ s2 d p2).mono ?_; rintro e w3 ⟨a3, s3, v3, hr3, rfl, ⟨rfl, hl3⟩, hg3, p3, hi3⟩; have G3 : w.grownBy w3 (some c.rb) := gb_trans G2 hg3; have sz3 := hg3.size
  try simp at sz3
  have r_3 : RB w3 (w.heap.size) := RB.keep r_2 hg3 (by omega); have n_3 : NB w3 (w1.heap.size) (.int .i64 7) (.string ⟨#[]⟩) (.int .i64 0) (.int .i64 (pos c.L s.1)) (.slice none 0 0) := NB.keep n_2 hg3 (by omega); have r_lt3 := r_3.lt; have n_lt3 := n_3.lt; obtain ⟨_, _, _, _, _, r0_3, r1_3, r2_3, r3_3, r4_3, r5_3⟩ := id r_3; obtain ⟨n0_3, n1_3, n2_3, n3_3, n4_3, n5_3⟩ := id n_3
  go_upto_if 18 with (go_at_call 29; refine (ris_any c _ s3 d s_star _ rfl (by decide) (by exact RS.put p3 HL.out (by omega) _ _)).mono ?_; rintro e w4 ⟨a4, s4, v4, hr4, rfl, rfl, hg4, p4, hi4⟩)
  have G4 : w.grownBy w4 (some c.rb) := gb_trans (by exact gb_put G3 (by omega) _ _) hg4; have sz4 := hg4.size
  try simp at sz4
  have r_4 : RB w4 (w.heap.size) := RB.keep (by exact RB.put r_3 _ _ _) hg4 (by omega); have n_4 : NB w4 (w1.heap.size) (.int .i64 7) (.string ⟨a3.toArray⟩) (.int .i64 0) (.int .i64 (pos c.L s.1)) (.slice none 0 0) := NB.keep (by exact NB.s1 n_3 _) hg4 (by omega); have r_lt4 := r_4.lt; have n_lt4 := n_4.lt; obtain ⟨_, _, _, _, _, r0_4, r1_4, r2_4, r3_4, r4_4, r5_4⟩ := id r_4; obtain ⟨n0_4, n1_4, n2_4, n3_4, n4_4, n5_4⟩ := id n_4
  go_cut [] from 19 (fun wx => ∃ (m : Int) (b : Bool) (s9 : QS), NB wx (w1.heap.size) (.int .i64 7) (.string ⟨a3.toArray⟩) (.int .i64 m) (.int .i64 (pos c.L s.1)) (.slice none 0 0) ∧ RB wx (w.heap.size) ∧ RS c wx s9 d ∧ w.grownBy wx (some c.rb) ∧ s.1 ≤ s9.1 ∧ m = (if b = true then 1 else 0) ∧ isQ c.L s_star s3 = (b, s9))
  case first =>
    cases a4
    · go_wp2
      go_meet
      case rel => exact ⟨0, false, s4, n_4, r_4, p4, G4, by omega, rfl, hr4⟩
    · go_wp2
      go_meet
      case rel => exact ⟨1, true, s4, (by exact NB.s2 n_4 _), (by exact RB.put r_4 _ _ _), (by exact RS.put p4 HL.out (by omega) _ _), (by exact gb_put G4 (by omega) _ _), by omega, rfl, hr4⟩
  case rest =>
    obtain ⟨w10, hw10⟩ : ∃ x, x = wc := ⟨_, rfl⟩; subst hw10; obtain ⟨m, b, s10, n_10, r_10, p10, G10, hi10, hm, hstar⟩ := hcut
    try clear hg1
    try clear p1
    try clear G1
    try clear r_1
    try clear r0_1
    try clear r1_1
    try clear r2_1
    try clear r3_1
    try clear r4_1
    try clear r5_1
    try clear hg2
    try clear p2
    try clear G2
    try clear r_2
    try clear r0_2
    try clear r1_2
    try clear r2_2
    try clear r3_2
    try clear r4_2
    try clear r5_2
    try clear n_2
    try clear n0_2
    try clear n1_2
    try clear n2_2
    try clear n3_2
    try clear n4_2
    try clear n5_2
    try clear hg3
    try clear p3
    try clear G3
    try clear r_3
    try clear r0_3
    try clear r1_3
    try clear r2_3
    try clear r3_3
    try clear r4_3
    try clear r5_3
    try clear n_3
    try clear n0_3
    try clear n1_3
    try clear n2_3
    try clear n3_3
    try clear n4_3
    try clear n5_3
    try clear hg4
    try clear p4
    try clear G4
    try clear r_4
    try clear r0_4
    try clear r1_4
    try clear r2_4
    try clear r3_4
    try clear r4_4
    try clear r5_4
    try clear n_4
    try clear n0_4
    try clear n1_4
    try clear n2_4
    try clear n3_4
    try clear n4_4
    try clear n5_4
    have HR10 : procedureQ c.L s = _ := HR2.trans (Q.bind_eq (markedQ_eq hr3 hstar)); rw [← hm] at HR10; clear hm; have r_lt10 := r_10.lt; have n_lt10 := n_10.lt; obtain ⟨_, _, _, _, _, r0_10, r1_10, r2_10, r3_10, r4_10, r5_10⟩ := id r_10; obtain ⟨n0_10, n1_10, n2_10, n3_10, n4_10, n5_10⟩ := id n_10; go_wp2_with fail; go_at_call 26; refine (rat_any c _ s10 d p10).mono ?_; rintro e w11 ⟨rfl, hg11⟩; have p11 : RS c w11 s10 d := RS.grown p10 hg11; have G11 : w.grownBy w11 (some c.rb) := gb_trans G10 (gb_some hg11 (some c.rb)); have sz11 := hg11.size
    try simp at sz11
    have r_11 : RB w11 (w.heap.size) := RB.kept r_10 hg11 (by simp); have n_11 : NB w11 (w1.heap.size) (.int .i64 7) (.string ⟨a3.toArray⟩) (.int .i64 m) (.int .i64 (pos c.L s.1)) (.slice none 0 0) := NB.kept n_10 hg11 (by simp); have r_lt11 := r_11.lt; have n_lt11 := n_11.lt; obtain ⟨_, _, _, _, _, r0_11, r1_11, r2_11, r3_11, r4_11, r5_11⟩ := id r_11; obtain ⟨n0_11, n1_11, n2_11, n3_11, n4_11, n5_11⟩ := id n_11
    go_upto_region 7 with fail
    go_cut [29] from 23 (fun v29 wx => ∃ (g : Bool) (s9 : QS), v29 = .bool g ∧ NB wx (w11.heap.size) (.int .i64 1) (.string ⟨#[]⟩) (.int .i64 0) (.int .i64 (pos c.L s10.1)) (.slice none 0 0) ∧ NB wx (w1.heap.size) (.int .i64 7) (.string ⟨a3.toArray⟩) (.int .i64 m) (.int .i64 (pos c.L s.1)) (.slice none 0 0) ∧ RB wx (w.heap.size) ∧ RS c wx s9 d ∧ w.grownBy wx (some c.rb) ∧ s10.1 ≤ s9.1 ∧ parametersQ c.L s10 = (if g = true then (severalQ c.L (parameterQ c.L) s_semi c.L.length []).bind (fun l => (needQ c.L s_rp).bind fun _ => Q.ret (T.mk 1 [] 0 (pos c.L s10.1) l)) s9 else (T.mk 1 [] 0 (pos c.L s10.1) [], s9)) ∧ (g = true → s9.2 = none))
    case first =>
      have HRp0 : parametersQ c.L s10 = ((isQ c.L s_lp).bind (fun b => if b = true then (isQ c.L s_rp).bind fun b2 => if b2 = true then Q.ret (.mk 1 [] 0 (pos c.L s10.1) []) else (severalQ c.L (parameterQ c.L) s_semi c.L.length []).bind (fun l => (needQ c.L s_rp).bind fun _ => Q.ret (T.mk 1 [] 0 (pos c.L s10.1) l)) else Q.ret (.mk 1 [] 0 (pos c.L s10.1) []))) s10 := rfl
      go_wp2_with fail; go_at_call 29; refine (ris_any c _ s10 d s_lp _ rfl (by decide) (by exact RS.alloc p11 _)).mono ?_; rintro e w12 ⟨a12, s12, v12, hr12, rfl, rfl, hg12, p12, hi12⟩; have G12 : w.grownBy w12 (some c.rb) := gb_trans (by exact gb_alloc G11 _) hg12; have sz12 := hg12.size
      try simp at sz12
      have r_12 : RB w12 (w.heap.size) := RB.keep (by exact RB.alloc r_11 _) hg12 (by omega); have n_12 : NB w12 (w1.heap.size) (.int .i64 7) (.string ⟨a3.toArray⟩) (.int .i64 m) (.int .i64 (pos c.L s.1)) (.slice none 0 0) := NB.keep (by exact NB.alloc n_11 _) hg12 (by omega); have pa_12 : NB w12 (w11.heap.size) (.int .i64 1) (.string ⟨#[]⟩) (.int .i64 0) (.int .i64 (pos c.L s10.1)) (.slice none 0 0) := NB.keep (NB.new' (by simp)) hg12 (by omega); have r_lt12 := r_12.lt; have n_lt12 := n_12.lt; have pa_lt12 := pa_12.lt; obtain ⟨_, _, _, _, _, r0_12, r1_12, r2_12, r3_12, r4_12, r5_12⟩ := id r_12; obtain ⟨n0_12, n1_12, n2_12, n3_12, n4_12, n5_12⟩ := id n_12; obtain ⟨pa0_12, pa1_12, pa2_12, pa3_12, pa4_12, pa5_12⟩ := id pa_12; cases a12
      · have HRp := HRp0.trans (Q.bind_eq hr12)
        rw [if_neg (by decide)] at HRp; go_wp2; go_meet
        case rel => exact ⟨false, s12, rfl, pa_12, n_12, r_12, p12, G12, by omega, HRp, fun h => by cases h⟩
      · have HRp := HRp0.trans (Q.bind_eq hr12)
        rw [if_pos rfl] at HRp
        have hok2 : s12.2 = none := by rw [(isQ_true hr12).2.2]
        go_wp2_with fail; go_at_call 29; refine (ris_any c _ s12 d s_rp _ rfl (by decide) p12).mono ?_; rintro e w13 ⟨a13, s13, v13, hr13, rfl, rfl, hg13, p13, hi13⟩; have G13 : w.grownBy w13 (some c.rb) := gb_trans G12 hg13; have sz13 := hg13.size
        try simp at sz13
        have r_13 : RB w13 (w.heap.size) := RB.keep r_12 hg13 (by omega); have n_13 : NB w13 (w1.heap.size) (.int .i64 7) (.string ⟨a3.toArray⟩) (.int .i64 m) (.int .i64 (pos c.L s.1)) (.slice none 0 0) := NB.keep n_12 hg13 (by omega); have pa_13 : NB w13 (w11.heap.size) (.int .i64 1) (.string ⟨#[]⟩) (.int .i64 0) (.int .i64 (pos c.L s10.1)) (.slice none 0 0) := NB.keep pa_12 hg13 (by omega); have r_lt13 := r_13.lt; have n_lt13 := n_13.lt; have pa_lt13 := pa_13.lt; obtain ⟨_, _, _, _, _, r0_13, r1_13, r2_13, r3_13, r4_13, r5_13⟩ := id r_13; obtain ⟨n0_13, n1_13, n2_13, n3_13, n4_13, n5_13⟩ := id n_13; obtain ⟨pa0_13, pa1_13, pa2_13, pa3_13, pa4_13, pa5_13⟩ := id pa_13; cases a13
        · have HRq := HRp.trans (Q.bind_eq hr13)
          rw [if_neg (by decide)] at HRq; go_wp2; go_meet
          case rel => exact ⟨true, s13, rfl, pa_13, n_13, r_13, p13, G13, by omega, HRq, fun _ => by rw [(isQ_false hr13).1]; exact hok2⟩
        · have HRq := HRp.trans (Q.bind_eq hr13)
          rw [if_pos rfl] at HRq; go_wp2; go_meet
          case rel => exact ⟨false, s13, rfl, pa_13, n_13, r_13, p13, G13, by omega, HRq, fun h => by cases h⟩
    case rest =>
      obtain ⟨w20, hw20⟩ : ∃ x, x = wc := ⟨_, rfl⟩; subst hw20; obtain ⟨g, s20, rfl, pa_20, n_20, r_20, p20, G20, hi20, HRp, hgk⟩ := hcut
      try clear p10
      try clear G10
      try clear r_10
      try clear r0_10
      try clear r1_10
      try clear r2_10
      try clear r3_10
      try clear r4_10
      try clear r5_10
      try clear n_10
      try clear n0_10
      try clear n1_10
      try clear n2_10
      try clear n3_10
      try clear n4_10
      try clear n5_10
      try clear hg11
      try clear p11
      try clear G11
      try clear r_11
      try clear r0_11
      try clear r1_11
      try clear r2_11
      try clear r3_11
      try clear r4_11
      try clear r5_11
      try clear n_11
      try clear n0_11
      try clear n1_11
      try clear n2_11
      try clear n3_11
      try clear n4_11
      try clear n5_11
      try clear hg12
      try clear p12
      try clear G12
      try clear r_12
      try clear r0_12
      try clear r1_12
      try clear r2_12
      try clear r3_12
      try clear r4_12
      try clear r5_12
      try clear n_12
      try clear n0_12
      try clear n1_12
      try clear n2_12
      try clear n3_12
      try clear n4_12
      try clear n5_12
      try clear pa_12
      try clear pa0_12
      try clear pa1_12
      try clear pa2_12
      try clear pa3_12
      try clear pa4_12
      try clear pa5_12
      try clear hg13
      try clear p13
      try clear G13
      try clear r_13
      try clear r0_13
      try clear r1_13
      try clear r2_13
      try clear r3_13
      try clear r4_13
      try clear r5_13
      try clear n_13
      try clear n0_13
      try clear n1_13
      try clear n2_13
      try clear n3_13
      try clear n4_13
      try clear n5_13
      try clear pa_13
      try clear pa0_13
      try clear pa1_13
      try clear pa2_13
      try clear pa3_13
      try clear pa4_13
      try clear pa5_13
      have r_lt20 := r_20.lt; have pa_lt20 := pa_20.lt; have n_lt20 := n_20.lt; obtain ⟨_, _, _, _, _, r0_20, r1_20, r2_20, r3_20, r4_20, r5_20⟩ := id r_20; obtain ⟨pa0_20, pa1_20, pa2_20, pa3_20, pa4_20, pa5_20⟩ := id pa_20; obtain ⟨n0_20, n1_20, n2_20, n3_20, n4_20, n5_20⟩ := id n_20
      go_upto_if 29 with fail
      go_cut [] from 30 (fun wx => ∃ (l : List T) (v : Value) (s9 : QS) (lo : Nat), NB wx (w11.heap.size) (.int .i64 1) (.string ⟨#[]⟩) (.int .i64 0) (.int .i64 (pos c.L s10.1)) v ∧ NB wx (w1.heap.size) (.int .i64 7) (.string ⟨a3.toArray⟩) (.int .i64 m) (.int .i64 (pos c.L s.1)) (.slice none 0 0) ∧ RB wx (w.heap.size) ∧ LR wx (In lo wx.heap.size) l v ∧ w20.heap.size ≤ lo ∧ lo ≤ wx.heap.size ∧ RS c wx s9 d ∧ w.grownBy wx (some c.rb) ∧ s20.1 ≤ s9.1 ∧ parametersQ c.L s10 = (T.mk 1 [] 0 (pos c.L s10.1) l, s9) ∧ l.length ≤ 5003)
      case first =>
        cases g
        · rw [if_neg (by decide)] at HRp
          go_wp2; go_meet
          case rel => exact ⟨[], .slice none 0 0, s20, w20.heap.size, pa_20, n_20, r_20, LR.nil _ _, Nat.le_refl _, Nat.le_refl _, p20, G20, Nat.le_refl _, HRp, by simp⟩
        · rw [if_pos rfl] at HRp
          have hok20 := hgk rfl; go_wp2_with fail
          go_loopw [] (fun wr => ∃ (acc : List T) (v : Value) (s9 : QS) (f lo : Nat), NB wr (w11.heap.size) (.int .i64 1) (.string ⟨#[]⟩) (.int .i64 0) (.int .i64 (pos c.L s10.1)) v ∧ NB wr (w1.heap.size) (.int .i64 7) (.string ⟨a3.toArray⟩) (.int .i64 m) (.int .i64 (pos c.L s.1)) (.slice none 0 0) ∧ RB wr (w.heap.size) ∧ s9.2 = none ∧ w20.heap.size + 0 ≤ lo ∧ Hid (SQ c w s20 d (severalQ c.L (parameterQ c.L) s_semi c.L.length [] s20) (severalQ c.L (parameterQ c.L) s_semi) v wr acc s9 f lo)) (fun wr => leftOf wr c.rb c.L.length)
          case atStart =>
            refine ⟨[], .slice none 0 0, s20, c.L.length, w20.heap.size + 0, pa_20, n_20, r_20, hok20, Nat.le_refl _, SQ.mk ?_ p20 G20 rfl (fun _ => by omega) (by first | (simp; done) | omega | (simp; omega)) (by first | exact Nat.le_refl _ | omega) (by omega) (by first | (simp; done) | omega | (simp; omega))⟩
            exact LR.nil _ _
          case round =>
            obtain ⟨w30, hw30⟩ : ∃ x, x = wr := ⟨_, rfl⟩; subst hw30; obtain ⟨acc, v, s30, f, lo, pa_30, n_30, r_30, hok, hlo3, HS⟩ := hrel; have z_30 := HS.out.lr; have p30 := HS.out.ps; have G30 := HS.out.gb; have SM := HS.out.same; have hfu := HS.out.fuel; have hlen := HS.out.len; have hij := HS.out.le; have hlo := HS.out.low; have hlo2 := HS.out.low2; have hjl := HS.out.ps.il; obtain ⟨ad, cp, rfl⟩ := z_30.form; have HPS := hide p30; clear HS; have r_lt30 := r_30.lt; have pa_lt30 := pa_30.lt; have n_lt30 := n_30.lt; obtain ⟨_, _, _, _, _, r0_30, r1_30, r2_30, r3_30, r4_30, r5_30⟩ := id r_30; obtain ⟨pa0_30, pa1_30, pa2_30, pa3_30, pa4_30, pa5_30⟩ := id pa_30; obtain ⟨n0_30, n1_30, n2_30, n3_30, n4_30, n5_30⟩ := id n_30; have hfu1 := hfu hok; go_wp2_with fail; go_at_call 26; refine (rat_any c _ s30 d p30).mono ?_; rintro e w31 ⟨rfl, hg31⟩; have p31 : RS c w31 s30 d := RS.grown p30 hg31; have G31 : w.grownBy w31 (some c.rb) := gb_trans G30 (gb_some hg31 (some c.rb)); have sz31 := hg31.size
            try simp at sz31
            have r_31 : RB w31 (w.heap.size) := RB.kept r_30 hg31 (by simp); have pa_31 : NB w31 (w11.heap.size) (.int .i64 1) (.string ⟨#[]⟩) (.int .i64 0) (.int .i64 (pos c.L s10.1)) (.slice ad acc.length cp) := NB.kept pa_30 hg31 (by simp); have n_31 : NB w31 (w1.heap.size) (.int .i64 7) (.string ⟨a3.toArray⟩) (.int .i64 m) (.int .i64 (pos c.L s.1)) (.slice none 0 0) := NB.kept n_30 hg31 (by simp); have z_31 : LR w31 (In (lo) (w30.heap.size)) (acc) (.slice ad acc.length cp) := LR.grown z_30 hg31; have r_lt31 := r_31.lt; have pa_lt31 := pa_31.lt; have n_lt31 := n_31.lt; obtain ⟨_, _, _, _, _, r0_31, r1_31, r2_31, r3_31, r4_31, r5_31⟩ := id r_31; obtain ⟨pa0_31, pa1_31, pa2_31, pa3_31, pa4_31, pa5_31⟩ := id pa_31; obtain ⟨n0_31, n1_31, n2_31, n3_31, n4_31, n5_31⟩ := id n_31; go_wp2_with fail; go_at_call 29; refine (ris_any c _ s30 d kVAR _ rfl (by decide) (by exact RS.alloc p31 _)).mono ?_; rintro e w32 ⟨a32, s32, v32, hr32, rfl, rfl, hg32, p32, hi32⟩; have G32 : w.grownBy w32 (some c.rb) := gb_trans (by exact gb_alloc G31 _) hg32; have sz32 := hg32.size
            try simp at sz32
            have r_32 : RB w32 (w.heap.size) := RB.keep (by exact RB.alloc r_31 _) hg32 (by omega); have pa_32 : NB w32 (w11.heap.size) (.int .i64 1) (.string ⟨#[]⟩) (.int .i64 0) (.int .i64 (pos c.L s10.1)) (.slice ad acc.length cp) := NB.keep (by exact NB.alloc pa_31 _) hg32 (by omega); have n_32 : NB w32 (w1.heap.size) (.int .i64 7) (.string ⟨a3.toArray⟩) (.int .i64 m) (.int .i64 (pos c.L s.1)) (.slice none 0 0) := NB.keep (by exact NB.alloc n_31 _) hg32 (by omega); have p_32 : NB w32 (w31.heap.size) (.int .i64 8) (.string ⟨#[]⟩) (.int .i64 0) (.int .i64 (pos c.L s30.1)) (.slice none 0 0) := NB.keep (NB.new' (by simp)) hg32 (by omega); have z_32 : LR w32 (In (lo) (w30.heap.size)) (acc) (.slice ad acc.length cp) := LR.call (by exact LR.alloc z_31 _) hg32 (by omega); have r_lt32 := r_32.lt; have pa_lt32 := pa_32.lt; have n_lt32 := n_32.lt; have p_lt32 := p_32.lt; obtain ⟨_, _, _, _, _, r0_32, r1_32, r2_32, r3_32, r4_32, r5_32⟩ := id r_32; obtain ⟨pa0_32, pa1_32, pa2_32, pa3_32, pa4_32, pa5_32⟩ := id pa_32; obtain ⟨n0_32, n1_32, n2_32, n3_32, n4_32, n5_32⟩ := id n_32; obtain ⟨p0_32, p1_32, p2_32, p3_32, p4_32, p5_32⟩ := id p_32; cases a32
            · go_wp2_with fail
              go_at_call 28; refine (rname_any c _ s32 d p32).mono ?_; rintro e w33 ⟨a33, s33, v33, hr33, rfl, ⟨rfl, hl33⟩, hg33, p33, hi33⟩; have G33 : w.grownBy w33 (some c.rb) := gb_trans G32 hg33; have sz33 := hg33.size
              try simp at sz33
              have r_33 : RB w33 (w.heap.size) := RB.keep r_32 hg33 (by omega); have pa_33 : NB w33 (w11.heap.size) (.int .i64 1) (.string ⟨#[]⟩) (.int .i64 0) (.int .i64 (pos c.L s10.1)) (.slice ad acc.length cp) := NB.keep pa_32 hg33 (by omega); have n_33 : NB w33 (w1.heap.size) (.int .i64 7) (.string ⟨a3.toArray⟩) (.int .i64 m) (.int .i64 (pos c.L s.1)) (.slice none 0 0) := NB.keep n_32 hg33 (by omega); have p_33 : NB w33 (w31.heap.size) (.int .i64 8) (.string ⟨#[]⟩) (.int .i64 0) (.int .i64 (pos c.L s30.1)) (.slice none 0 0) := NB.keep p_32 hg33 (by omega); have z_33 : LR w33 (In (lo) (w30.heap.size)) (acc) (.slice ad acc.length cp) := LR.call z_32 hg33 (by omega); have r_lt33 := r_33.lt; have pa_lt33 := pa_33.lt; have n_lt33 := n_33.lt; have p_lt33 := p_33.lt; obtain ⟨_, _, _, _, _, r0_33, r1_33, r2_33, r3_33, r4_33, r5_33⟩ := id r_33; obtain ⟨pa0_33, pa1_33, pa2_33, pa3_33, pa4_33, pa5_33⟩ := id pa_33; obtain ⟨n0_33, n1_33, n2_33, n3_33, n4_33, n5_33⟩ := id n_33; obtain ⟨p0_33, p1_33, p2_33, p3_33, p4_33, p5_33⟩ := id p_33; go_wp2_with fail; go_at_call 27; refine (rneed_any c _ s33 d s_colon _ rfl (by decide) (by exact RS.put p33 HL.out (by omega) _ _)).mono ?_; rintro e w34 ⟨a34, s34, v34, hr34, rfl, -, hg34, p34, hi34⟩; have G34 : w.grownBy w34 (some c.rb) := gb_trans (by exact gb_put G33 (by omega) _ _) hg34; have sz34 := hg34.size
              try simp at sz34
              have r_34 : RB w34 (w.heap.size) := RB.keep (by exact RB.put r_33 _ _ _) hg34 (by omega); have pa_34 : NB w34 (w11.heap.size) (.int .i64 1) (.string ⟨#[]⟩) (.int .i64 0) (.int .i64 (pos c.L s10.1)) (.slice ad acc.length cp) := NB.keep (by exact NB.far pa_33 (by omega) _ _) hg34 (by omega); have n_34 : NB w34 (w1.heap.size) (.int .i64 7) (.string ⟨a3.toArray⟩) (.int .i64 m) (.int .i64 (pos c.L s.1)) (.slice none 0 0) := NB.keep (by exact NB.far n_33 (by omega) _ _) hg34 (by omega); have p_34 : NB w34 (w31.heap.size) (.int .i64 8) (.string ⟨a33.toArray⟩) (.int .i64 0) (.int .i64 (pos c.L s30.1)) (.slice none 0 0) := NB.keep (by exact NB.s1 p_33 _) hg34 (by omega); have z_34 : LR w34 (In (lo) (w30.heap.size)) (acc) (.slice ad acc.length cp) := LR.call (by exact LR.put z_33 (by omega) _ _) hg34 (by omega); have r_lt34 := r_34.lt; have pa_lt34 := pa_34.lt; have n_lt34 := n_34.lt; have p_lt34 := p_34.lt; obtain ⟨_, _, _, _, _, r0_34, r1_34, r2_34, r3_34, r4_34, r5_34⟩ := id r_34; obtain ⟨pa0_34, pa1_34, pa2_34, pa3_34, pa4_34, pa5_34⟩ := id pa_34; obtain ⟨n0_34, n1_34, n2_34, n3_34, n4_34, n5_34⟩ := id n_34; obtain ⟨p0_34, p1_34, p2_34, p3_34, p4_34, p5_34⟩ := id p_34; go_wp2_with fail; go_at_call 43; refine (rtypeName_any c _ s34 d p34).mono ?_; rintro e w35 ⟨⟨k35, n35, m35, q35, l35⟩, s35, v35, hr35, rfl, ⟨sv35, rfl, lr35⟩, hg35, p35, hi35⟩; simp only [T.kind, T.name, T.num, T.at', T.subs] at lr35 ⊢; obtain ⟨ad35, cp35, rfl⟩ := lr35.form; obtain ⟨b35, hb35, lr35⟩ : ∃ b, b = _ ∧ LR w35 (In b w35.heap.size) l35 (.slice ad35 l35.length cp35) := ⟨_, rfl, lr35⟩
              try simp at hb35
              have G35 : w.grownBy w35 (some c.rb) := gb_trans G34 hg35; have sz35 := hg35.size
              try simp at sz35
              have r_35 : RB w35 (w.heap.size) := RB.keep r_34 hg35 (by omega); have pa_35 : NB w35 (w11.heap.size) (.int .i64 1) (.string ⟨#[]⟩) (.int .i64 0) (.int .i64 (pos c.L s10.1)) (.slice ad acc.length cp) := NB.keep pa_34 hg35 (by omega); have n_35 : NB w35 (w1.heap.size) (.int .i64 7) (.string ⟨a3.toArray⟩) (.int .i64 m) (.int .i64 (pos c.L s.1)) (.slice none 0 0) := NB.keep n_34 hg35 (by omega); have p_35 : NB w35 (w31.heap.size) (.int .i64 8) (.string ⟨a33.toArray⟩) (.int .i64 0) (.int .i64 (pos c.L s30.1)) (.slice none 0 0) := NB.keep p_34 hg35 (by omega); have z_35 : LR w35 (In (lo) (w30.heap.size)) (acc) (.slice ad acc.length cp) := LR.call z_34 hg35 (by omega); have r_lt35 := r_35.lt; have pa_lt35 := pa_35.lt; have n_lt35 := n_35.lt; have p_lt35 := p_35.lt; obtain ⟨_, _, _, _, _, r0_35, r1_35, r2_35, r3_35, r4_35, r5_35⟩ := id r_35; obtain ⟨pa0_35, pa1_35, pa2_35, pa3_35, pa4_35, pa5_35⟩ := id pa_35; obtain ⟨n0_35, n1_35, n2_35, n3_35, n4_35, n5_35⟩ := id n_35; obtain ⟨p0_35, p1_35, p2_35, p3_35, p4_35, p5_35⟩ := id p_35
              go_upto_region 14 with fail
              obtain ⟨w36, hw36⟩ : ∃ x : World, x = (w35.setCell ⟨w31.heap.size, 4, none⟩ (.slice (some ⟨w35.heap.size, 0, none⟩) 1 1)).alloc (.cells #[.int .i64 k35, .string ⟨n35.toArray⟩, .int .i64 m35, .int .i64 q35, .slice ad35 l35.length cp35] 25) := ⟨_, rfl⟩; rw [← hw36]
              have p36 : RS c w36 s35 d := by rw [hw36]; exact RS.alloc (RS.put p35 HL.out (by omega) _ _) _
              have G36 : w.grownBy w36 (some c.rb) := by rw [hw36]; exact gb_alloc (gb_put G35 (by omega) _ _) _
              have sz36 : w35.heap.size + 1 ≤ w36.heap.size := by rw [hw36]; simp [World.setCell]
              have sy36 : w36.heap.size ≤ w35.heap.size + 1 := by rw [hw36]; simp [World.setCell]
              have r_36 : RB w36 (w.heap.size) := by rw [hw36]; exact RB.alloc (RB.put r_35 _ _ _) _
              have pa_36 : NB w36 (w11.heap.size) (.int .i64 1) (.string ⟨#[]⟩) (.int .i64 0) (.int .i64 (pos c.L s10.1)) (.slice ad acc.length cp) := by rw [hw36]; exact NB.alloc (NB.far pa_35 (by omega) _ _) _
              have n_36 : NB w36 (w1.heap.size) (.int .i64 7) (.string ⟨a3.toArray⟩) (.int .i64 m) (.int .i64 (pos c.L s.1)) (.slice none 0 0) := by rw [hw36]; exact NB.alloc (NB.far n_35 (by omega) _ _) _
              have p_36 : NB w36 (w31.heap.size) (.int .i64 8) (.string ⟨a33.toArray⟩) (.int .i64 0) (.int .i64 (pos c.L s30.1)) (.slice (some ⟨w35.heap.size, 0, none⟩) 1 1) := by rw [hw36]; exact NB.alloc (NB.s4 p_35 _) _
              have z_36 : LR w36 (In (lo) (w30.heap.size)) (acc) (.slice ad acc.length cp) := by rw [hw36]; exact LR.alloc (LR.put z_35 (by omega) _ _) _
              have q_36 : LR w36 (In (b35) (w35.heap.size + 1)) ([(T.mk k35 n35 m35 q35 l35)]) (.slice (some ⟨w35.heap.size, 0, none⟩) 1 1) := by rw [hw36]; exact (LR.build1 _ (t := (T.mk k35 n35 m35 q35 l35)) (sv := .slice ad35 l35.length cp35) (LR.wide (lo := b35) (hi := w35.heap.size) (ts := l35) (by exact LR.put lr35 (by omega) _ _) (by omega) (by first | omega | (simp <;> omega))) (by simp) rfl (by omega))
              clear hw36; have r_lt36 := r_36.lt; have pa_lt36 := pa_36.lt; have n_lt36 := n_36.lt; have p_lt36 := p_36.lt; obtain ⟨_, _, _, _, _, r0_36, r1_36, r2_36, r3_36, r4_36, r5_36⟩ := id r_36; obtain ⟨pa0_36, pa1_36, pa2_36, pa3_36, pa4_36, pa5_36⟩ := id pa_36; obtain ⟨n0_36, n1_36, n2_36, n3_36, n4_36, n5_36⟩ := id n_36; obtain ⟨p0_36, p1_36, p2_36, p3_36, p4_36, p5_36⟩ := id p_36; have hL2 : LR (w36.alloc (.cells #[.int .i64 8, .string ⟨a33.toArray⟩, .int .i64 0, .int .i64 (pos c.L s30.1), .slice (some ⟨w35.heap.size, 0, none⟩) 1 1] 25)) (In (lo) (w30.heap.size)) (acc) (.slice ad acc.length cp) := LR.alloc z_36 _; have hL4 : LR (w36.alloc (.cells #[.int .i64 8, .string ⟨a33.toArray⟩, .int .i64 0, .int .i64 (pos c.L s30.1), .slice (some ⟨w35.heap.size, 0, none⟩) 1 1] 25)) (In (b35) (w36.heap.size + 1)) [(T.mk 8 a33 0 (pos c.L s30.1) [(T.mk k35 n35 m35 q35 l35)])] (.slice (some ⟨w36.heap.size, 0, none⟩) 1 1) := LR.build1 w36 (t := (T.mk 8 a33 0 (pos c.L s30.1) [(T.mk k35 n35 m35 q35 l35)])) (sv := .slice (some ⟨w35.heap.size, 0, none⟩) 1 1) (LR.wide q_36 (Nat.le_refl _) (by omega)) rfl rfl (by omega); have hrow := hL2.rows; have HL2 := hide hL2; have HL4 := hide hL4; clear hL2 hL4
              go_wp2_with (first
                | (at_builtin
                   refine wpList_appLR rfl _ _ rfl rfl rfl HL2.out HL4.out (by omega) (by omega) (by simp; omega) (by simp) (by simp; omega) ?_; intro v37 w37 lr37 hg37; obtain ⟨ad37, cp37, e37⟩ := lr37.form; rw [List.length_append, List.length_singleton] at e37; have e37 : v37 = .slice ad37 (acc.length + 1) cp37 := e37; subst e37; have sz37 := hg37.size
                   simp at sz37
                   have r_37 : RB w37 (w.heap.size) := RB.kept (RB.alloc r_36 _) hg37 (fun e => by have := hrow _ e.symm; omega); have pa_37 : NB w37 (w11.heap.size) (.int .i64 1) (.string ⟨#[]⟩) (.int .i64 0) (.int .i64 (pos c.L s10.1)) (.slice ad acc.length cp) := NB.kept (NB.alloc pa_36 _) hg37 (fun e => by have := hrow _ e.symm; omega); have n_37 : NB w37 (w1.heap.size) (.int .i64 7) (.string ⟨a3.toArray⟩) (.int .i64 m) (.int .i64 (pos c.L s.1)) (.slice none 0 0) := NB.kept (NB.alloc n_36 _) hg37 (fun e => by have := hrow _ e.symm; omega); have p37 : RS c w37 s35 d := RS.own (RS.alloc p36 _) HL.out hg37 (fun b hb => by have := hrow b hb; omega); have G37 : w.grownBy w37 (some c.rb) := gb_own (gb_alloc G36 _) hg37 (fun b hb => by have := hrow b hb; omega); have r_lt37 := r_37.lt; have pa_lt37 := pa_37.lt; have n_lt37 := n_37.lt; obtain ⟨_, _, _, _, _, r0_37, r1_37, r2_37, r3_37, r4_37, r5_37⟩ := id r_37; obtain ⟨pa0_37, pa1_37, pa2_37, pa3_37, pa4_37, pa5_37⟩ := id pa_37
                   obtain ⟨n0_37, n1_37, n2_37, n3_37, n4_37, n5_37⟩ := id n_37))
              have SMx := (SM.trans (severalQ_on (by omega))).trans (Q.bind_eq (parameterQ_eq hr32 hr33 hr34 hr35)); go_at_call 29; refine (ris_any c _ s35 d s_semi _ rfl (by decide) (by exact RS.put p37 HL.out (by omega) _ _)).mono ?_; rintro e w38 ⟨a38, s38, v38, hr38, rfl, rfl, hg38, p38, hi38⟩; have G38 : w.grownBy w38 (some c.rb) := gb_trans (by exact gb_put G37 (by omega) _ _) hg38; have sz38 := hg38.size
              try simp at sz38
              have r_38 : RB w38 (w.heap.size) := RB.keep (by exact RB.put r_37 _ _ _) hg38 (by omega); have pa_38 : NB w38 (w11.heap.size) (.int .i64 1) (.string ⟨#[]⟩) (.int .i64 0) (.int .i64 (pos c.L s10.1)) (.slice ad37 (acc.length + 1) cp37) := NB.keep (by exact NB.s4 pa_37 _) hg38 (by omega); have n_38 : NB w38 (w1.heap.size) (.int .i64 7) (.string ⟨a3.toArray⟩) (.int .i64 m) (.int .i64 (pos c.L s.1)) (.slice none 0 0) := NB.keep (by exact NB.far n_37 (by omega) _ _) hg38 (by omega); have z_38 : LR w38 (In (lo) (w37.heap.size)) ((acc ++ [(T.mk 8 a33 0 (pos c.L s30.1) [(T.mk k35 n35 m35 q35 l35)])])) (.slice ad37 (acc.length + 1) cp37) := LR.call (by exact LR.put lr37 (by omega) _ _) hg38 (by omega); have r_lt38 := r_38.lt; have pa_lt38 := pa_38.lt; have n_lt38 := n_38.lt; obtain ⟨_, _, _, _, _, r0_38, r1_38, r2_38, r3_38, r4_38, r5_38⟩ := id r_38; obtain ⟨pa0_38, pa1_38, pa2_38, pa3_38, pa4_38, pa5_38⟩ := id pa_38; obtain ⟨n0_38, n1_38, n2_38, n3_38, n4_38, n5_38⟩ := id n_38; cases a38
              · have SMy := SMx.trans (Q.bind_eq hr38)
                rw [if_neg (by decide)] at SMy; have HRj := HRp.trans (Q.bind_eq SMy); go_wp2_with fail; go_at_call 27; refine (rneed_any c _ s38 d s_rp _ rfl (by decide) p38).mono ?_; rintro e w39 ⟨a39, s39, v39, hr39, rfl, -, hg39, p39, hi39⟩; have G39 : w.grownBy w39 (some c.rb) := gb_trans G38 hg39; have sz39 := hg39.size
                try simp at sz39
                have r_39 : RB w39 (w.heap.size) := RB.keep r_38 hg39 (by omega); have pa_39 : NB w39 (w11.heap.size) (.int .i64 1) (.string ⟨#[]⟩) (.int .i64 0) (.int .i64 (pos c.L s10.1)) (.slice ad37 (acc.length + 1) cp37) := NB.keep pa_38 hg39 (by omega); have n_39 : NB w39 (w1.heap.size) (.int .i64 7) (.string ⟨a3.toArray⟩) (.int .i64 m) (.int .i64 (pos c.L s.1)) (.slice none 0 0) := NB.keep n_38 hg39 (by omega); have z_39 : LR w39 (In (lo) (w37.heap.size)) ((acc ++ [(T.mk 8 a33 0 (pos c.L s30.1) [(T.mk k35 n35 m35 q35 l35)])])) (.slice ad37 (acc.length + 1) cp37) := LR.call z_38 hg39 (by omega); have r_lt39 := r_39.lt; have pa_lt39 := pa_39.lt; have n_lt39 := n_39.lt; obtain ⟨_, _, _, _, _, r0_39, r1_39, r2_39, r3_39, r4_39, r5_39⟩ := id r_39; obtain ⟨pa0_39, pa1_39, pa2_39, pa3_39, pa4_39, pa5_39⟩ := id pa_39; obtain ⟨n0_39, n1_39, n2_39, n3_39, n4_39, n5_39⟩ := id n_39; go_wp2; go_meet
                case rel => exact ⟨(acc ++ [(T.mk 8 a33 0 (pos c.L s30.1) [(T.mk k35 n35 m35 q35 l35)])]), .slice ad37 (acc.length + 1) cp37, s39, lo, pa_39, n_39, r_39, LR.wide z_39 (Nat.le_refl _) (by omega), by omega, by omega, p39, G39, by omega, HRj.trans (Q.bind_eq hr39), by simp only [List.length_append, List.length_singleton]; omega⟩
              · have SMy := SMx.trans (Q.bind_eq hr38)
                rw [if_pos rfl] at SMy; obtain ⟨-, -, hsx⟩ := isQ_true hr38
                have hkx : s38.2 = none := by rw [hsx]
                have hkp : s38.1 = s35.1 + 1 := by rw [hsx]
                go_wp2; refine ⟨⟨(acc ++ [(T.mk 8 a33 0 (pos c.L s30.1) [(T.mk k35 n35 m35 q35 l35)])]), .slice ad37 (acc.length + 1) cp37, s38, f - 1, lo, pa_38, n_38, r_38, hkx, hlo3, SQ.mk (LR.wide z_38 (Nat.le_refl _) (by omega)) p38 G38 (SMy) (fun h9 => by have := hfu (by first | assumption | simp_all); have := hkp; omega) (by have := hfu hok; (try simp only [List.length_append, List.length_singleton]); omega) (by omega) hlo (by omega)⟩, ?_⟩
                exact HPS.out.left_less p38 hok (fun h9 => by have := hkp; omega) hjl
            · go_wp2_with fail
              go_at_call 28; refine (rname_any c _ s32 d (by exact RS.put p32 HL.out (by omega) _ _)).mono ?_; rintro e w33 ⟨a33, s33, v33, hr33, rfl, ⟨rfl, hl33⟩, hg33, p33, hi33⟩; have G33 : w.grownBy w33 (some c.rb) := gb_trans (by exact gb_put G32 (by omega) _ _) hg33; have sz33 := hg33.size
              try simp at sz33
              have r_33 : RB w33 (w.heap.size) := RB.keep (by exact RB.put r_32 _ _ _) hg33 (by omega); have pa_33 : NB w33 (w11.heap.size) (.int .i64 1) (.string ⟨#[]⟩) (.int .i64 0) (.int .i64 (pos c.L s10.1)) (.slice ad acc.length cp) := NB.keep (by exact NB.far pa_32 (by omega) _ _) hg33 (by omega); have n_33 : NB w33 (w1.heap.size) (.int .i64 7) (.string ⟨a3.toArray⟩) (.int .i64 m) (.int .i64 (pos c.L s.1)) (.slice none 0 0) := NB.keep (by exact NB.far n_32 (by omega) _ _) hg33 (by omega); have p_33 : NB w33 (w31.heap.size) (.int .i64 8) (.string ⟨#[]⟩) (.int .i64 1) (.int .i64 (pos c.L s30.1)) (.slice none 0 0) := NB.keep (by exact NB.s2 p_32 _) hg33 (by omega); have z_33 : LR w33 (In (lo) (w30.heap.size)) (acc) (.slice ad acc.length cp) := LR.call (by exact LR.put z_32 (by omega) _ _) hg33 (by omega); have r_lt33 := r_33.lt; have pa_lt33 := pa_33.lt; have n_lt33 := n_33.lt; have p_lt33 := p_33.lt; obtain ⟨_, _, _, _, _, r0_33, r1_33, r2_33, r3_33, r4_33, r5_33⟩ := id r_33; obtain ⟨pa0_33, pa1_33, pa2_33, pa3_33, pa4_33, pa5_33⟩ := id pa_33; obtain ⟨n0_33, n1_33, n2_33, n3_33, n4_33, n5_33⟩ := id n_33; obtain ⟨p0_33, p1_33, p2_33, p3_33, p4_33, p5_33⟩ := id p_33; go_wp2_with fail; go_at_call 27; refine (rneed_any c _ s33 d s_colon _ rfl (by decide) (by exact RS.put p33 HL.out (by omega) _ _)).mono ?_; rintro e w34 ⟨a34, s34, v34, hr34, rfl, -, hg34, p34, hi34⟩; have G34 : w.grownBy w34 (some c.rb) := gb_trans (by exact gb_put G33 (by omega) _ _) hg34; have sz34 := hg34.size
              try simp at sz34
              have r_34 : RB w34 (w.heap.size) := RB.keep (by exact RB.put r_33 _ _ _) hg34 (by omega); have pa_34 : NB w34 (w11.heap.size) (.int .i64 1) (.string ⟨#[]⟩) (.int .i64 0) (.int .i64 (pos c.L s10.1)) (.slice ad acc.length cp) := NB.keep (by exact NB.far pa_33 (by omega) _ _) hg34 (by omega); have n_34 : NB w34 (w1.heap.size) (.int .i64 7) (.string ⟨a3.toArray⟩) (.int .i64 m) (.int .i64 (pos c.L s.1)) (.slice none 0 0) := NB.keep (by exact NB.far n_33 (by omega) _ _) hg34 (by omega); have p_34 : NB w34 (w31.heap.size) (.int .i64 8) (.string ⟨a33.toArray⟩) (.int .i64 1) (.int .i64 (pos c.L s30.1)) (.slice none 0 0) := NB.keep (by exact NB.s1 p_33 _) hg34 (by omega); have z_34 : LR w34 (In (lo) (w30.heap.size)) (acc) (.slice ad acc.length cp) := LR.call (by exact LR.put z_33 (by omega) _ _) hg34 (by omega); have r_lt34 := r_34.lt; have pa_lt34 := pa_34.lt; have n_lt34 := n_34.lt; have p_lt34 := p_34.lt; obtain ⟨_, _, _, _, _, r0_34, r1_34, r2_34, r3_34, r4_34, r5_34⟩ := id r_34; obtain ⟨pa0_34, pa1_34, pa2_34, pa3_34, pa4_34, pa5_34⟩ := id pa_34; obtain ⟨n0_34, n1_34, n2_34, n3_34, n4_34, n5_34⟩ := id n_34; obtain ⟨p0_34, p1_34, p2_34, p3_34, p4_34, p5_34⟩ := id p_34; go_wp2_with fail; go_at_call 43; refine (rtypeName_any c _ s34 d p34).mono ?_; rintro e w35 ⟨⟨k35, n35, m35, q35, l35⟩, s35, v35, hr35, rfl, ⟨sv35, rfl, lr35⟩, hg35, p35, hi35⟩; simp only [T.kind, T.name, T.num, T.at', T.subs] at lr35 ⊢; obtain ⟨ad35, cp35, rfl⟩ := lr35.form; obtain ⟨b35, hb35, lr35⟩ : ∃ b, b = _ ∧ LR w35 (In b w35.heap.size) l35 (.slice ad35 l35.length cp35) := ⟨_, rfl, lr35⟩
              try simp at hb35
              have G35 : w.grownBy w35 (some c.rb) := gb_trans G34 hg35; have sz35 := hg35.size
              try simp at sz35
              have r_35 : RB w35 (w.heap.size) := RB.keep r_34 hg35 (by omega); have pa_35 : NB w35 (w11.heap.size) (.int .i64 1) (.string ⟨#[]⟩) (.int .i64 0) (.int .i64 (pos c.L s10.1)) (.slice ad acc.length cp) := NB.keep pa_34 hg35 (by omega); have n_35 : NB w35 (w1.heap.size) (.int .i64 7) (.string ⟨a3.toArray⟩) (.int .i64 m) (.int .i64 (pos c.L s.1)) (.slice none 0 0) := NB.keep n_34 hg35 (by omega); have p_35 : NB w35 (w31.heap.size) (.int .i64 8) (.string ⟨a33.toArray⟩) (.int .i64 1) (.int .i64 (pos c.L s30.1)) (.slice none 0 0) := NB.keep p_34 hg35 (by omega); have z_35 : LR w35 (In (lo) (w30.heap.size)) (acc) (.slice ad acc.length cp) := LR.call z_34 hg35 (by omega); have r_lt35 := r_35.lt; have pa_lt35 := pa_35.lt; have n_lt35 := n_35.lt; have p_lt35 := p_35.lt; obtain ⟨_, _, _, _, _, r0_35, r1_35, r2_35, r3_35, r4_35, r5_35⟩ := id r_35; obtain ⟨pa0_35, pa1_35, pa2_35, pa3_35, pa4_35, pa5_35⟩ := id pa_35; obtain ⟨n0_35, n1_35, n2_35, n3_35, n4_35, n5_35⟩ := id n_35; obtain ⟨p0_35, p1_35, p2_35, p3_35, p4_35, p5_35⟩ := id p_35
              go_upto_region 14 with fail
              obtain ⟨w36, hw36⟩ : ∃ x : World, x = (w35.setCell ⟨w31.heap.size, 4, none⟩ (.slice (some ⟨w35.heap.size, 0, none⟩) 1 1)).alloc (.cells #[.int .i64 k35, .string ⟨n35.toArray⟩, .int .i64 m35, .int .i64 q35, .slice ad35 l35.length cp35] 25) := ⟨_, rfl⟩; rw [← hw36]
              have p36 : RS c w36 s35 d := by rw [hw36]; exact RS.alloc (RS.put p35 HL.out (by omega) _ _) _
              have G36 : w.grownBy w36 (some c.rb) := by rw [hw36]; exact gb_alloc (gb_put G35 (by omega) _ _) _
              have sz36 : w35.heap.size + 1 ≤ w36.heap.size := by rw [hw36]; simp [World.setCell]
              have sy36 : w36.heap.size ≤ w35.heap.size + 1 := by rw [hw36]; simp [World.setCell]
              have r_36 : RB w36 (w.heap.size) := by rw [hw36]; exact RB.alloc (RB.put r_35 _ _ _) _
              have pa_36 : NB w36 (w11.heap.size) (.int .i64 1) (.string ⟨#[]⟩) (.int .i64 0) (.int .i64 (pos c.L s10.1)) (.slice ad acc.length cp) := by rw [hw36]; exact NB.alloc (NB.far pa_35 (by omega) _ _) _
              have n_36 : NB w36 (w1.heap.size) (.int .i64 7) (.string ⟨a3.toArray⟩) (.int .i64 m) (.int .i64 (pos c.L s.1)) (.slice none 0 0) := by rw [hw36]; exact NB.alloc (NB.far n_35 (by omega) _ _) _
              have p_36 : NB w36 (w31.heap.size) (.int .i64 8) (.string ⟨a33.toArray⟩) (.int .i64 1) (.int .i64 (pos c.L s30.1)) (.slice (some ⟨w35.heap.size, 0, none⟩) 1 1) := by rw [hw36]; exact NB.alloc (NB.s4 p_35 _) _
              have z_36 : LR w36 (In (lo) (w30.heap.size)) (acc) (.slice ad acc.length cp) := by rw [hw36]; exact LR.alloc (LR.put z_35 (by omega) _ _) _
              have q_36 : LR w36 (In (b35) (w35.heap.size + 1)) ([(T.mk k35 n35 m35 q35 l35)]) (.slice (some ⟨w35.heap.size, 0, none⟩) 1 1) := by rw [hw36]; exact (LR.build1 _ (t := (T.mk k35 n35 m35 q35 l35)) (sv := .slice ad35 l35.length cp35) (LR.wide (lo := b35) (hi := w35.heap.size) (ts := l35) (by exact LR.put lr35 (by omega) _ _) (by omega) (by first | omega | (simp <;> omega))) (by simp) rfl (by omega))
              clear hw36; have r_lt36 := r_36.lt; have pa_lt36 := pa_36.lt; have n_lt36 := n_36.lt; have p_lt36 := p_36.lt; obtain ⟨_, _, _, _, _, r0_36, r1_36, r2_36, r3_36, r4_36, r5_36⟩ := id r_36; obtain ⟨pa0_36, pa1_36, pa2_36, pa3_36, pa4_36, pa5_36⟩ := id pa_36; obtain ⟨n0_36, n1_36, n2_36, n3_36, n4_36, n5_36⟩ := id n_36; obtain ⟨p0_36, p1_36, p2_36, p3_36, p4_36, p5_36⟩ := id p_36; have hL2 : LR (w36.alloc (.cells #[.int .i64 8, .string ⟨a33.toArray⟩, .int .i64 1, .int .i64 (pos c.L s30.1), .slice (some ⟨w35.heap.size, 0, none⟩) 1 1] 25)) (In (lo) (w30.heap.size)) (acc) (.slice ad acc.length cp) := LR.alloc z_36 _; have hL4 : LR (w36.alloc (.cells #[.int .i64 8, .string ⟨a33.toArray⟩, .int .i64 1, .int .i64 (pos c.L s30.1), .slice (some ⟨w35.heap.size, 0, none⟩) 1 1] 25)) (In (b35) (w36.heap.size + 1)) [(T.mk 8 a33 1 (pos c.L s30.1) [(T.mk k35 n35 m35 q35 l35)])] (.slice (some ⟨w36.heap.size, 0, none⟩) 1 1) := LR.build1 w36 (t := (T.mk 8 a33 1 (pos c.L s30.1) [(T.mk k35 n35 m35 q35 l35)])) (sv := .slice (some ⟨w35.heap.size, 0, none⟩) 1 1) (LR.wide q_36 (Nat.le_refl _) (by omega)) rfl rfl (by omega); have hrow := hL2.rows; have HL2 := hide hL2; have HL4 := hide hL4; clear hL2 hL4
              go_wp2_with (first
                | (at_builtin
                   refine wpList_appLR rfl _ _ rfl rfl rfl HL2.out HL4.out (by omega) (by omega) (by simp; omega) (by simp) (by simp; omega) ?_; intro v37 w37 lr37 hg37; obtain ⟨ad37, cp37, e37⟩ := lr37.form; rw [List.length_append, List.length_singleton] at e37; have e37 : v37 = .slice ad37 (acc.length + 1) cp37 := e37; subst e37; have sz37 := hg37.size
                   simp at sz37
                   have r_37 : RB w37 (w.heap.size) := RB.kept (RB.alloc r_36 _) hg37 (fun e => by have := hrow _ e.symm; omega); have pa_37 : NB w37 (w11.heap.size) (.int .i64 1) (.string ⟨#[]⟩) (.int .i64 0) (.int .i64 (pos c.L s10.1)) (.slice ad acc.length cp) := NB.kept (NB.alloc pa_36 _) hg37 (fun e => by have := hrow _ e.symm; omega); have n_37 : NB w37 (w1.heap.size) (.int .i64 7) (.string ⟨a3.toArray⟩) (.int .i64 m) (.int .i64 (pos c.L s.1)) (.slice none 0 0) := NB.kept (NB.alloc n_36 _) hg37 (fun e => by have := hrow _ e.symm; omega); have p37 : RS c w37 s35 d := RS.own (RS.alloc p36 _) HL.out hg37 (fun b hb => by have := hrow b hb; omega); have G37 : w.grownBy w37 (some c.rb) := gb_own (gb_alloc G36 _) hg37 (fun b hb => by have := hrow b hb; omega); have r_lt37 := r_37.lt; have pa_lt37 := pa_37.lt; have n_lt37 := n_37.lt; obtain ⟨_, _, _, _, _, r0_37, r1_37, r2_37, r3_37, r4_37, r5_37⟩ := id r_37; obtain ⟨pa0_37, pa1_37, pa2_37, pa3_37, pa4_37, pa5_37⟩ := id pa_37
                   obtain ⟨n0_37, n1_37, n2_37, n3_37, n4_37, n5_37⟩ := id n_37))
              have SMx := (SM.trans (severalQ_on (by omega))).trans (Q.bind_eq (parameterQ_eq hr32 hr33 hr34 hr35)); go_at_call 29; refine (ris_any c _ s35 d s_semi _ rfl (by decide) (by exact RS.put p37 HL.out (by omega) _ _)).mono ?_; rintro e w38 ⟨a38, s38, v38, hr38, rfl, rfl, hg38, p38, hi38⟩; have G38 : w.grownBy w38 (some c.rb) := gb_trans (by exact gb_put G37 (by omega) _ _) hg38; have sz38 := hg38.size
              try simp at sz38
              have r_38 : RB w38 (w.heap.size) := RB.keep (by exact RB.put r_37 _ _ _) hg38 (by omega); have pa_38 : NB w38 (w11.heap.size) (.int .i64 1) (.string ⟨#[]⟩) (.int .i64 0) (.int .i64 (pos c.L s10.1)) (.slice ad37 (acc.length + 1) cp37) := NB.keep (by exact NB.s4 pa_37 _) hg38 (by omega); have n_38 : NB w38 (w1.heap.size) (.int .i64 7) (.string ⟨a3.toArray⟩) (.int .i64 m) (.int .i64 (pos c.L s.1)) (.slice none 0 0) := NB.keep (by exact NB.far n_37 (by omega) _ _) hg38 (by omega); have z_38 : LR w38 (In (lo) (w37.heap.size)) ((acc ++ [(T.mk 8 a33 1 (pos c.L s30.1) [(T.mk k35 n35 m35 q35 l35)])])) (.slice ad37 (acc.length + 1) cp37) := LR.call (by exact LR.put lr37 (by omega) _ _) hg38 (by omega); have r_lt38 := r_38.lt; have pa_lt38 := pa_38.lt; have n_lt38 := n_38.lt; obtain ⟨_, _, _, _, _, r0_38, r1_38, r2_38, r3_38, r4_38, r5_38⟩ := id r_38; obtain ⟨pa0_38, pa1_38, pa2_38, pa3_38, pa4_38, pa5_38⟩ := id pa_38; obtain ⟨n0_38, n1_38, n2_38, n3_38, n4_38, n5_38⟩ := id n_38; cases a38
              · have SMy := SMx.trans (Q.bind_eq hr38)
                rw [if_neg (by decide)] at SMy; have HRj := HRp.trans (Q.bind_eq SMy); go_wp2_with fail; go_at_call 27; refine (rneed_any c _ s38 d s_rp _ rfl (by decide) p38).mono ?_; rintro e w39 ⟨a39, s39, v39, hr39, rfl, -, hg39, p39, hi39⟩; have G39 : w.grownBy w39 (some c.rb) := gb_trans G38 hg39; have sz39 := hg39.size
                try simp at sz39
                have r_39 : RB w39 (w.heap.size) := RB.keep r_38 hg39 (by omega); have pa_39 : NB w39 (w11.heap.size) (.int .i64 1) (.string ⟨#[]⟩) (.int .i64 0) (.int .i64 (pos c.L s10.1)) (.slice ad37 (acc.length + 1) cp37) := NB.keep pa_38 hg39 (by omega); have n_39 : NB w39 (w1.heap.size) (.int .i64 7) (.string ⟨a3.toArray⟩) (.int .i64 m) (.int .i64 (pos c.L s.1)) (.slice none 0 0) := NB.keep n_38 hg39 (by omega); have z_39 : LR w39 (In (lo) (w37.heap.size)) ((acc ++ [(T.mk 8 a33 1 (pos c.L s30.1) [(T.mk k35 n35 m35 q35 l35)])])) (.slice ad37 (acc.length + 1) cp37) := LR.call z_38 hg39 (by omega); have r_lt39 := r_39.lt; have pa_lt39 := pa_39.lt; have n_lt39 := n_39.lt; obtain ⟨_, _, _, _, _, r0_39, r1_39, r2_39, r3_39, r4_39, r5_39⟩ := id r_39; obtain ⟨pa0_39, pa1_39, pa2_39, pa3_39, pa4_39, pa5_39⟩ := id pa_39; obtain ⟨n0_39, n1_39, n2_39, n3_39, n4_39, n5_39⟩ := id n_39; go_wp2; go_meet
                case rel => exact ⟨(acc ++ [(T.mk 8 a33 1 (pos c.L s30.1) [(T.mk k35 n35 m35 q35 l35)])]), .slice ad37 (acc.length + 1) cp37, s39, lo, pa_39, n_39, r_39, LR.wide z_39 (Nat.le_refl _) (by omega), by omega, by omega, p39, G39, by omega, HRj.trans (Q.bind_eq hr39), by simp only [List.length_append, List.length_singleton]; omega⟩
              · have SMy := SMx.trans (Q.bind_eq hr38)
                rw [if_pos rfl] at SMy; obtain ⟨-, -, hsx⟩ := isQ_true hr38
                have hkx : s38.2 = none := by rw [hsx]
                have hkp : s38.1 = s35.1 + 1 := by rw [hsx]
                go_wp2; refine ⟨⟨(acc ++ [(T.mk 8 a33 1 (pos c.L s30.1) [(T.mk k35 n35 m35 q35 l35)])]), .slice ad37 (acc.length + 1) cp37, s38, f - 1, lo, pa_38, n_38, r_38, hkx, hlo3, SQ.mk (LR.wide z_38 (Nat.le_refl _) (by omega)) p38 G38 (SMy) (fun h9 => by have := hfu (by first | assumption | simp_all); have := hkp; omega) (by have := hfu hok; (try simp only [List.length_append, List.length_singleton]); omega) (by omega) hlo (by omega)⟩, ?_⟩
                exact HPS.out.left_less p38 hok (fun h9 => by have := hkp; omega) hjl
      case rest =>
        obtain ⟨w40, hw40⟩ : ∃ x, x = wc := ⟨_, rfl⟩; subst hw40; obtain ⟨l40, v40, s40, lo4, pa_40, n_40, r_40, la_40, hlo1, hlo2, p40, G40, hi40, HRpp, hl40⟩ := hcut; obtain ⟨ad40, cp40, rfl⟩ := la_40.form
        try clear p20
        try clear G20
        try clear r_20
        try clear r0_20
        try clear r1_20
        try clear r2_20
        try clear r3_20
        try clear r4_20
        try clear r5_20
        try clear n_20
        try clear n0_20
        try clear n1_20
        try clear n2_20
        try clear n3_20
        try clear n4_20
        try clear n5_20
        try clear pa_20
        try clear pa0_20
        try clear pa1_20
        try clear pa2_20
        try clear pa3_20
        try clear pa4_20
        try clear pa5_20
        have r_lt40 := r_40.lt; have pa_lt40 := pa_40.lt; have n_lt40 := n_40.lt; obtain ⟨_, _, _, _, _, r0_40, r1_40, r2_40, r3_40, r4_40, r5_40⟩ := id r_40; obtain ⟨pa0_40, pa1_40, pa2_40, pa3_40, pa4_40, pa5_40⟩ := id pa_40; obtain ⟨n0_40, n1_40, n2_40, n3_40, n4_40, n5_40⟩ := id n_40; have HR40 : procedureQ c.L s = _ := HR10.trans (Q.bind_eq HRpp); go_wp2_with fail; go_at_call 26; refine (rat_any c _ s40 d p40).mono ?_; rintro e w41 ⟨rfl, hg41⟩; have p41 : RS c w41 s40 d := RS.grown p40 hg41; have G41 : w.grownBy w41 (some c.rb) := gb_trans G40 (gb_some hg41 (some c.rb)); have sz41 := hg41.size
        try simp at sz41
        have r_41 : RB w41 (w.heap.size) := RB.kept r_40 hg41 (by simp); have pa_41 : NB w41 (w11.heap.size) (.int .i64 1) (.string ⟨#[]⟩) (.int .i64 0) (.int .i64 (pos c.L s10.1)) (.slice ad40 l40.length cp40) := NB.kept pa_40 hg41 (by simp); have n_41 : NB w41 (w1.heap.size) (.int .i64 7) (.string ⟨a3.toArray⟩) (.int .i64 m) (.int .i64 (pos c.L s.1)) (.slice none 0 0) := NB.kept n_40 hg41 (by simp); have la_41 : LR w41 (In (lo4) (w40.heap.size)) (l40) (.slice ad40 l40.length cp40) := LR.grown la_40 hg41; have r_lt41 := r_41.lt; have pa_lt41 := pa_41.lt; have n_lt41 := n_41.lt; obtain ⟨_, _, _, _, _, r0_41, r1_41, r2_41, r3_41, r4_41, r5_41⟩ := id r_41; obtain ⟨pa0_41, pa1_41, pa2_41, pa3_41, pa4_41, pa5_41⟩ := id pa_41; obtain ⟨n0_41, n1_41, n2_41, n3_41, n4_41, n5_41⟩ := id n_41
        go_upto_if 60 with (go_at_call 29; refine (ris_any c _ s40 d s_colon _ rfl (by decide) (by exact RS.alloc p41 _)).mono ?_; rintro e w42 ⟨a42, s42, v42, hr42, rfl, rfl, hg42, p42, hi42⟩)
        have G42 : w.grownBy w42 (some c.rb) := gb_trans (by exact gb_alloc G41 _) hg42; have sz42 := hg42.size
        try simp at sz42
        have r_42 : RB w42 (w.heap.size) := RB.keep (by exact RB.alloc r_41 _) hg42 (by omega); have pa_42 : NB w42 (w11.heap.size) (.int .i64 1) (.string ⟨#[]⟩) (.int .i64 0) (.int .i64 (pos c.L s10.1)) (.slice ad40 l40.length cp40) := NB.keep (by exact NB.alloc pa_41 _) hg42 (by omega); have n_42 : NB w42 (w1.heap.size) (.int .i64 7) (.string ⟨a3.toArray⟩) (.int .i64 m) (.int .i64 (pos c.L s.1)) (.slice none 0 0) := NB.keep (by exact NB.alloc n_41 _) hg42 (by omega); have re_42 : NB w42 (w41.heap.size) (.int .i64 0) (.string ⟨#[]⟩) (.int .i64 0) (.int .i64 (pos c.L s40.1)) (.slice none 0 0) := NB.keep (NB.new' (by simp)) hg42 (by omega); have la_42 : LR w42 (In (lo4) (w40.heap.size)) (l40) (.slice ad40 l40.length cp40) := LR.call (by exact LR.alloc la_41 _) hg42 (by omega); have r_lt42 := r_42.lt; have pa_lt42 := pa_42.lt; have n_lt42 := n_42.lt; have re_lt42 := re_42.lt; obtain ⟨_, _, _, _, _, r0_42, r1_42, r2_42, r3_42, r4_42, r5_42⟩ := id r_42; obtain ⟨pa0_42, pa1_42, pa2_42, pa3_42, pa4_42, pa5_42⟩ := id pa_42; obtain ⟨n0_42, n1_42, n2_42, n3_42, n4_42, n5_42⟩ := id n_42; obtain ⟨re0_42, re1_42, re2_42, re3_42, re4_42, re5_42⟩ := id re_42
        go_cut [] from 61 (fun wx => ∃ (k6 : Int) (x6 : List UInt8) (m6 a6 : Int) (l6 : List T) (ad6 : Option Addr) (cp6 : Nat) (s9 : QS) (lo6 : Nat), NB wx (w41.heap.size) (.int .i64 k6) (.string ⟨x6.toArray⟩) (.int .i64 m6) (.int .i64 a6) (.slice ad6 l6.length cp6) ∧ NB wx (w11.heap.size) (.int .i64 1) (.string ⟨#[]⟩) (.int .i64 0) (.int .i64 (pos c.L s10.1)) (.slice ad40 l40.length cp40) ∧ NB wx (w1.heap.size) (.int .i64 7) (.string ⟨a3.toArray⟩) (.int .i64 m) (.int .i64 (pos c.L s.1)) (.slice none 0 0) ∧ RB wx (w.heap.size) ∧ LR wx (In (lo4) (w40.heap.size)) (l40) (.slice ad40 l40.length cp40) ∧ LR wx (In lo6 wx.heap.size) l6 (.slice ad6 l6.length cp6) ∧ w41.heap.size + 1 ≤ lo6 ∧ lo6 ≤ wx.heap.size ∧ RS c wx s9 d ∧ w.grownBy wx (some c.rb) ∧ s40.1 ≤ s9.1 ∧ resultQ c.L s40 = (T.mk k6 x6 m6 a6 l6, s9))
        case first =>
          have HRb0 : resultQ c.L s40 = ((isQ c.L s_colon).bind (fun b => if b = true then typeNameQ c.L else Q.ret (.mk 0 [] 0 (pos c.L s40.1) []))) s40 := rfl
          have HRb := HRb0.trans (Q.bind_eq hr42); cases a42
          · rw [if_neg (by decide)] at HRb
            go_wp2; go_meet
            case rel => exact ⟨0, [], 0, pos c.L s40.1, [], none, 0, s42, w42.heap.size, re_42, pa_42, n_42, r_42, la_42, LR.nil _ _, by omega, Nat.le_refl _, p42, G42, by omega, HRb⟩
          · rw [if_pos rfl] at HRb
            go_wp2_with fail; go_at_call 43; refine (rtypeName_any c _ s42 d p42).mono ?_; rintro e w43 ⟨⟨k43, n43, m43, q43, l43⟩, s43, v43, hr43, rfl, ⟨sv43, rfl, lr43⟩, hg43, p43, hi43⟩; simp only [T.kind, T.name, T.num, T.at', T.subs] at lr43 ⊢; obtain ⟨ad43, cp43, rfl⟩ := lr43.form; obtain ⟨b43, hb43, lr43⟩ : ∃ b, b = _ ∧ LR w43 (In b w43.heap.size) l43 (.slice ad43 l43.length cp43) := ⟨_, rfl, lr43⟩
            try simp at hb43
            have G43 : w.grownBy w43 (some c.rb) := gb_trans G42 hg43; have sz43 := hg43.size
            try simp at sz43
            have r_43 : RB w43 (w.heap.size) := RB.keep r_42 hg43 (by omega); have pa_43 : NB w43 (w11.heap.size) (.int .i64 1) (.string ⟨#[]⟩) (.int .i64 0) (.int .i64 (pos c.L s10.1)) (.slice ad40 l40.length cp40) := NB.keep pa_42 hg43 (by omega); have n_43 : NB w43 (w1.heap.size) (.int .i64 7) (.string ⟨a3.toArray⟩) (.int .i64 m) (.int .i64 (pos c.L s.1)) (.slice none 0 0) := NB.keep n_42 hg43 (by omega); have re_43 : NB w43 (w41.heap.size) (.int .i64 0) (.string ⟨#[]⟩) (.int .i64 0) (.int .i64 (pos c.L s40.1)) (.slice none 0 0) := NB.keep re_42 hg43 (by omega); have la_43 : LR w43 (In (lo4) (w40.heap.size)) (l40) (.slice ad40 l40.length cp40) := LR.call la_42 hg43 (by omega); have r_lt43 := r_43.lt; have pa_lt43 := pa_43.lt; have n_lt43 := n_43.lt; have re_lt43 := re_43.lt; obtain ⟨_, _, _, _, _, r0_43, r1_43, r2_43, r3_43, r4_43, r5_43⟩ := id r_43; obtain ⟨pa0_43, pa1_43, pa2_43, pa3_43, pa4_43, pa5_43⟩ := id pa_43; obtain ⟨n0_43, n1_43, n2_43, n3_43, n4_43, n5_43⟩ := id n_43; obtain ⟨re0_43, re1_43, re2_43, re3_43, re4_43, re5_43⟩ := id re_43; go_wp2; go_meet
            case rel => refine ⟨k43, n43, m43, q43, l43, ad43, cp43, s43, b43, (by exact NB.s4 (NB.s3 (NB.s2 (NB.s1 (NB.s0 re_43 _) _) _) _) _), (by exact NB.p5 pa_43 (by omega)), (by exact NB.p5 n_43 (by omega)), (by exact RB.p5 r_43), (by exact LR.p5 la_43 (by omega)), LR.wide (lo := b43) (hi := w43.heap.size) ((by exact LR.p5 lr43 (by omega))) (Nat.le_refl _) (by simp [World.setCell]), by omega, by simp [World.setCell]; omega, (by exact RS.p5 p43 HL.out (by omega)), (by exact gb_p5 G43 (by omega)), by omega, HRb.trans hr43⟩
        case rest =>
          obtain ⟨w50, hw50⟩ : ∃ x, x = wc := ⟨_, rfl⟩; subst hw50; obtain ⟨k6, x6, m6, a6, l6, ad6, cp6, s50, lo6, re_50, pa_50, n_50, r_50, la_50, lb_50, hlo7, hlo8, p50, G50, hi50, HRb⟩ := hcut
          try clear p40
          try clear G40
          try clear r_40
          try clear r0_40
          try clear r1_40
          try clear r2_40
          try clear r3_40
          try clear r4_40
          try clear r5_40
          try clear n_40
          try clear n0_40
          try clear n1_40
          try clear n2_40
          try clear n3_40
          try clear n4_40
          try clear n5_40
          try clear pa_40
          try clear pa0_40
          try clear pa1_40
          try clear pa2_40
          try clear pa3_40
          try clear pa4_40
          try clear pa5_40
          try clear la_40
          try clear hg41
          try clear p41
          try clear G41
          try clear r_41
          try clear r0_41
          try clear r1_41
          try clear r2_41
          try clear r3_41
          try clear r4_41
          try clear r5_41
          try clear n_41
          try clear n0_41
          try clear n1_41
          try clear n2_41
          try clear n3_41
          try clear n4_41
          try clear n5_41
          try clear pa_41
          try clear pa0_41
          try clear pa1_41
          try clear pa2_41
          try clear pa3_41
          try clear pa4_41
          try clear pa5_41
          try clear la_41
          try clear hg42
          try clear p42
          try clear G42
          try clear r_42
          try clear r0_42
          try clear r1_42
          try clear r2_42
          try clear r3_42
          try clear r4_42
          try clear r5_42
          try clear n_42
          try clear n0_42
          try clear n1_42
          try clear n2_42
          try clear n3_42
          try clear n4_42
          try clear n5_42
          try clear pa_42
          try clear pa0_42
          try clear pa1_42
          try clear pa2_42
          try clear pa3_42
          try clear pa4_42
          try clear pa5_42
          try clear re_42
          try clear re0_42
          try clear re1_42
          try clear re2_42
          try clear re3_42
          try clear re4_42
          try clear re5_42
          try clear la_42
          try clear hg43
          try clear p43
          try clear G43
          try clear r_43
          try clear r0_43
          try clear r1_43
          try clear r2_43
          try clear r3_43
          try clear r4_43
          try clear r5_43
          try clear n_43
          try clear n0_43
          try clear n1_43
          try clear n2_43
          try clear n3_43
          try clear n4_43
          try clear n5_43
          try clear pa_43
          try clear pa0_43
          try clear pa1_43
          try clear pa2_43
          try clear pa3_43
          try clear pa4_43
          try clear pa5_43
          try clear re_43
          try clear re0_43
          try clear re1_43
          try clear re2_43
          try clear re3_43
          try clear re4_43
          try clear re5_43
          try clear la_43
          have r_lt50 := r_50.lt; have re_lt50 := re_50.lt; have pa_lt50 := pa_50.lt; have n_lt50 := n_50.lt; obtain ⟨_, _, _, _, _, r0_50, r1_50, r2_50, r3_50, r4_50, r5_50⟩ := id r_50; obtain ⟨re0_50, re1_50, re2_50, re3_50, re4_50, re5_50⟩ := id re_50; obtain ⟨pa0_50, pa1_50, pa2_50, pa3_50, pa4_50, pa5_50⟩ := id pa_50; obtain ⟨n0_50, n1_50, n2_50, n3_50, n4_50, n5_50⟩ := id n_50; have HR50 : procedureQ c.L s = _ := HR40.trans (Q.bind_eq HRb); go_wp2_with fail; go_at_call 27; refine (rneed_any c _ s50 d s_semi _ rfl (by decide) p50).mono ?_; rintro e w51 ⟨a51, s51, v51, hr51, rfl, -, hg51, p51, hi51⟩; have HR51 : procedureQ c.L s = _ := HR50.trans (Q.bind_eq hr51); have G51 : w.grownBy w51 (some c.rb) := gb_trans G50 hg51; have sz51 := hg51.size
          try simp at sz51
          have r_51 : RB w51 (w.heap.size) := RB.keep r_50 hg51 (by omega); have re_51 : NB w51 (w41.heap.size) (.int .i64 k6) (.string ⟨x6.toArray⟩) (.int .i64 m6) (.int .i64 a6) (.slice ad6 l6.length cp6) := NB.keep re_50 hg51 (by omega); have pa_51 : NB w51 (w11.heap.size) (.int .i64 1) (.string ⟨#[]⟩) (.int .i64 0) (.int .i64 (pos c.L s10.1)) (.slice ad40 l40.length cp40) := NB.keep pa_50 hg51 (by omega); have n_51 : NB w51 (w1.heap.size) (.int .i64 7) (.string ⟨a3.toArray⟩) (.int .i64 m) (.int .i64 (pos c.L s.1)) (.slice none 0 0) := NB.keep n_50 hg51 (by omega); have la_51 : LR w51 (In (lo4) (w40.heap.size)) (l40) (.slice ad40 l40.length cp40) := LR.call la_50 hg51 (by omega); have lb_51 : LR w51 (In (lo6) (w50.heap.size)) (l6) (.slice ad6 l6.length cp6) := LR.call lb_50 hg51 (by omega); have r_lt51 := r_51.lt; have re_lt51 := re_51.lt; have pa_lt51 := pa_51.lt; have n_lt51 := n_51.lt; obtain ⟨_, _, _, _, _, r0_51, r1_51, r2_51, r3_51, r4_51, r5_51⟩ := id r_51; obtain ⟨re0_51, re1_51, re2_51, re3_51, re4_51, re5_51⟩ := id re_51; obtain ⟨pa0_51, pa1_51, pa2_51, pa3_51, pa4_51, pa5_51⟩ := id pa_51; obtain ⟨n0_51, n1_51, n2_51, n3_51, n4_51, n5_51⟩ := id n_51; go_wp2_with fail; go_at_call 26; refine (rat_any c _ s51 d p51).mono ?_; rintro e w52 ⟨rfl, hg52⟩; have p52 : RS c w52 s51 d := RS.grown p51 hg52; have G52 : w.grownBy w52 (some c.rb) := gb_trans G51 (gb_some hg52 (some c.rb)); have sz52 := hg52.size
          try simp at sz52
          have r_52 : RB w52 (w.heap.size) := RB.kept r_51 hg52 (by simp); have re_52 : NB w52 (w41.heap.size) (.int .i64 k6) (.string ⟨x6.toArray⟩) (.int .i64 m6) (.int .i64 a6) (.slice ad6 l6.length cp6) := NB.kept re_51 hg52 (by simp); have pa_52 : NB w52 (w11.heap.size) (.int .i64 1) (.string ⟨#[]⟩) (.int .i64 0) (.int .i64 (pos c.L s10.1)) (.slice ad40 l40.length cp40) := NB.kept pa_51 hg52 (by simp); have n_52 : NB w52 (w1.heap.size) (.int .i64 7) (.string ⟨a3.toArray⟩) (.int .i64 m) (.int .i64 (pos c.L s.1)) (.slice none 0 0) := NB.kept n_51 hg52 (by simp); have la_52 : LR w52 (In (lo4) (w40.heap.size)) (l40) (.slice ad40 l40.length cp40) := LR.grown la_51 hg52; have lb_52 : LR w52 (In (lo6) (w50.heap.size)) (l6) (.slice ad6 l6.length cp6) := LR.grown lb_51 hg52; have r_lt52 := r_52.lt; have re_lt52 := re_52.lt; have pa_lt52 := pa_52.lt; have n_lt52 := n_52.lt; obtain ⟨_, _, _, _, _, r0_52, r1_52, r2_52, r3_52, r4_52, r5_52⟩ := id r_52; obtain ⟨re0_52, re1_52, re2_52, re3_52, re4_52, re5_52⟩ := id re_52; obtain ⟨pa0_52, pa1_52, pa2_52, pa3_52, pa4_52, pa5_52⟩ := id pa_52; obtain ⟨n0_52, n1_52, n2_52, n3_52, n4_52, n5_52⟩ := id n_52
          go_upto_if 69 with (go_at_call 29; refine (ris_any c _ s51 d kVAR _ rfl (by decide) (by exact RS.alloc p52 _)).mono ?_; rintro e w53 ⟨a53, s53, v53, hr53, rfl, rfl, hg53, p53, hi53⟩)
          have G53 : w.grownBy w53 (some c.rb) := gb_trans (by exact gb_alloc G52 _) hg53; have sz53 := hg53.size
          try simp at sz53
          have r_53 : RB w53 (w.heap.size) := RB.keep (by exact RB.alloc r_52 _) hg53 (by omega); have re_53 : NB w53 (w41.heap.size) (.int .i64 k6) (.string ⟨x6.toArray⟩) (.int .i64 m6) (.int .i64 a6) (.slice ad6 l6.length cp6) := NB.keep (by exact NB.alloc re_52 _) hg53 (by omega); have pa_53 : NB w53 (w11.heap.size) (.int .i64 1) (.string ⟨#[]⟩) (.int .i64 0) (.int .i64 (pos c.L s10.1)) (.slice ad40 l40.length cp40) := NB.keep (by exact NB.alloc pa_52 _) hg53 (by omega); have n_53 : NB w53 (w1.heap.size) (.int .i64 7) (.string ⟨a3.toArray⟩) (.int .i64 m) (.int .i64 (pos c.L s.1)) (.slice none 0 0) := NB.keep (by exact NB.alloc n_52 _) hg53 (by omega); have va_53 : NB w53 (w52.heap.size) (.int .i64 1) (.string ⟨#[]⟩) (.int .i64 0) (.int .i64 (pos c.L s51.1)) (.slice none 0 0) := NB.keep (NB.new' (by simp)) hg53 (by omega); have la_53 : LR w53 (In (lo4) (w40.heap.size)) (l40) (.slice ad40 l40.length cp40) := LR.call (by exact LR.alloc la_52 _) hg53 (by omega); have lb_53 : LR w53 (In (lo6) (w50.heap.size)) (l6) (.slice ad6 l6.length cp6) := LR.call (by exact LR.alloc lb_52 _) hg53 (by omega); have r_lt53 := r_53.lt; have re_lt53 := re_53.lt; have pa_lt53 := pa_53.lt; have n_lt53 := n_53.lt; have va_lt53 := va_53.lt; obtain ⟨_, _, _, _, _, r0_53, r1_53, r2_53, r3_53, r4_53, r5_53⟩ := id r_53; obtain ⟨re0_53, re1_53, re2_53, re3_53, re4_53, re5_53⟩ := id re_53; obtain ⟨pa0_53, pa1_53, pa2_53, pa3_53, pa4_53, pa5_53⟩ := id pa_53; obtain ⟨n0_53, n1_53, n2_53, n3_53, n4_53, n5_53⟩ := id n_53; obtain ⟨va0_53, va1_53, va2_53, va3_53, va4_53, va5_53⟩ := id va_53
          go_cut [] from 70 (fun wx => ∃ (l : List T) (v : Value) (s9 : QS) (lo : Nat), NB wx (w52.heap.size) (.int .i64 1) (.string ⟨#[]⟩) (.int .i64 0) (.int .i64 (pos c.L s51.1)) v ∧ NB wx (w41.heap.size) (.int .i64 k6) (.string ⟨x6.toArray⟩) (.int .i64 m6) (.int .i64 a6) (.slice ad6 l6.length cp6) ∧ NB wx (w11.heap.size) (.int .i64 1) (.string ⟨#[]⟩) (.int .i64 0) (.int .i64 (pos c.L s10.1)) (.slice ad40 l40.length cp40) ∧ NB wx (w1.heap.size) (.int .i64 7) (.string ⟨a3.toArray⟩) (.int .i64 m) (.int .i64 (pos c.L s.1)) (.slice none 0 0) ∧ RB wx (w.heap.size) ∧ LR wx (In (lo4) (w40.heap.size)) (l40) (.slice ad40 l40.length cp40) ∧ LR wx (In (lo6) (w50.heap.size)) (l6) (.slice ad6 l6.length cp6) ∧ LR wx (In lo wx.heap.size) l v ∧ w52.heap.size + 1 ≤ lo ∧ lo ≤ wx.heap.size ∧ RS c wx s9 d ∧ w.grownBy wx (some c.rb) ∧ s51.1 ≤ s9.1 ∧ sectionQ c.L kVAR (localQ c.L) s51 = (T.mk 1 [] 0 (pos c.L s51.1) l, s9))
          case first =>
            have HRv0 : sectionQ c.L kVAR (localQ c.L) s51 = ((isQ c.L kVAR).bind (fun b => if b = true then (declLoopQ c.L (localQ c.L) (c.L.length + 1) []).bind fun l => Q.ret (.mk 1 [] 0 (pos c.L s51.1) l) else Q.ret (.mk 1 [] 0 (pos c.L s51.1) []))) s51 := rfl
            have HRv := HRv0.trans (Q.bind_eq hr53); cases a53
            · rw [if_neg (by decide)] at HRv
              go_wp2; go_meet
              case rel => exact ⟨[], .slice none 0 0, s53, w53.heap.size, va_53, re_53, pa_53, n_53, r_53, la_53, lb_53, LR.nil _ _, by omega, Nat.le_refl _, p53, G53, by omega, HRv⟩
            · rw [if_pos rfl] at HRv
              go_wp2_with fail
              go_loopw [] (fun wr => ∃ (acc : List T) (v : Value) (s9 : QS) (f lo : Nat), NB wr (w52.heap.size) (.int .i64 1) (.string ⟨#[]⟩) (.int .i64 0) (.int .i64 (pos c.L s51.1)) v ∧ NB wr (w41.heap.size) (.int .i64 k6) (.string ⟨x6.toArray⟩) (.int .i64 m6) (.int .i64 a6) (.slice ad6 l6.length cp6) ∧ NB wr (w11.heap.size) (.int .i64 1) (.string ⟨#[]⟩) (.int .i64 0) (.int .i64 (pos c.L s10.1)) (.slice ad40 l40.length cp40) ∧ NB wr (w1.heap.size) (.int .i64 7) (.string ⟨a3.toArray⟩) (.int .i64 m) (.int .i64 (pos c.L s.1)) (.slice none 0 0) ∧ RB wr (w.heap.size) ∧ LR wr (In (lo4) (w40.heap.size)) (l40) (.slice ad40 l40.length cp40) ∧ LR wr (In (lo6) (w50.heap.size)) (l6) (.slice ad6 l6.length cp6) ∧ w53.heap.size + 0 ≤ lo ∧ Hid (SQ c w s53 d (declLoopQ c.L (localQ c.L) (c.L.length + 1) [] s53) (declLoopQ c.L (localQ c.L)) v wr acc s9 f lo)) (fun wr => leftOf wr c.rb c.L.length)
              case atStart =>
                refine ⟨[], .slice none 0 0, s53, c.L.length + 1, w53.heap.size + 0, va_53, re_53, pa_53, n_53, r_53, la_53, lb_53, Nat.le_refl _, SQ.mk ?_ p53 G53 rfl (fun _ => by omega) (by first | (simp; done) | omega | (simp; omega)) (by first | exact Nat.le_refl _ | omega) (by omega) (by first | (simp; done) | omega | (simp; omega))⟩
                exact LR.nil _ _
              case round =>
                obtain ⟨w60, hw60⟩ : ∃ x, x = wr := ⟨_, rfl⟩; subst hw60; obtain ⟨acc, v, s60, f, lo, va_60, re_60, pa_60, n_60, r_60, la_60, lb_60, hlo3, HS⟩ := hrel; have z_60 := HS.out.lr; have p60 := HS.out.ps; have G60 := HS.out.gb; have SM := HS.out.same; have hfu := HS.out.fuel; have hlen := HS.out.len; have hij := HS.out.le; have hlo := HS.out.low; have hlo2 := HS.out.low2; have hjl := HS.out.ps.il; obtain ⟨ad, cp, rfl⟩ := z_60.form; have HPS := hide p60; clear HS; have r_lt60 := r_60.lt; have va_lt60 := va_60.lt; have re_lt60 := re_60.lt; have pa_lt60 := pa_60.lt; have n_lt60 := n_60.lt; obtain ⟨_, _, _, _, _, r0_60, r1_60, r2_60, r3_60, r4_60, r5_60⟩ := id r_60; obtain ⟨va0_60, va1_60, va2_60, va3_60, va4_60, va5_60⟩ := id va_60; obtain ⟨re0_60, re1_60, re2_60, re3_60, re4_60, re5_60⟩ := id re_60; obtain ⟨pa0_60, pa1_60, pa2_60, pa3_60, pa4_60, pa5_60⟩ := id pa_60; obtain ⟨n0_60, n1_60, n2_60, n3_60, n4_60, n5_60⟩ := id n_60; go_wp2_with fail; go_at_call 12; refine (rok_any c _ s60 d p60).mono ?_; rintro e w61 ⟨rfl, hg61⟩; have p61 : RS c w61 s60 d := RS.grown p60 hg61; have G61 : w.grownBy w61 (some c.rb) := gb_trans G60 (gb_some hg61 (some c.rb)); have sz61 := hg61.size
                try simp at sz61
                have r_61 : RB w61 (w.heap.size) := RB.kept r_60 hg61 (by simp); have va_61 : NB w61 (w52.heap.size) (.int .i64 1) (.string ⟨#[]⟩) (.int .i64 0) (.int .i64 (pos c.L s51.1)) (.slice ad acc.length cp) := NB.kept va_60 hg61 (by simp); have re_61 : NB w61 (w41.heap.size) (.int .i64 k6) (.string ⟨x6.toArray⟩) (.int .i64 m6) (.int .i64 a6) (.slice ad6 l6.length cp6) := NB.kept re_60 hg61 (by simp); have pa_61 : NB w61 (w11.heap.size) (.int .i64 1) (.string ⟨#[]⟩) (.int .i64 0) (.int .i64 (pos c.L s10.1)) (.slice ad40 l40.length cp40) := NB.kept pa_60 hg61 (by simp); have n_61 : NB w61 (w1.heap.size) (.int .i64 7) (.string ⟨a3.toArray⟩) (.int .i64 m) (.int .i64 (pos c.L s.1)) (.slice none 0 0) := NB.kept n_60 hg61 (by simp); have z_61 : LR w61 (In (lo) (w60.heap.size)) (acc) (.slice ad acc.length cp) := LR.grown z_60 hg61; have la_61 : LR w61 (In (lo4) (w40.heap.size)) (l40) (.slice ad40 l40.length cp40) := LR.grown la_60 hg61; have lb_61 : LR w61 (In (lo6) (w50.heap.size)) (l6) (.slice ad6 l6.length cp6) := LR.grown lb_60 hg61; have r_lt61 := r_61.lt; have va_lt61 := va_61.lt; have re_lt61 := re_61.lt; have pa_lt61 := pa_61.lt; have n_lt61 := n_61.lt; obtain ⟨_, _, _, _, _, r0_61, r1_61, r2_61, r3_61, r4_61, r5_61⟩ := id r_61; obtain ⟨va0_61, va1_61, va2_61, va3_61, va4_61, va5_61⟩ := id va_61; obtain ⟨re0_61, re1_61, re2_61, re3_61, re4_61, re5_61⟩ := id re_61; obtain ⟨pa0_61, pa1_61, pa2_61, pa3_61, pa4_61, pa5_61⟩ := id pa_61; obtain ⟨n0_61, n1_61, n2_61, n3_61, n4_61, n5_61⟩ := id n_61
                by_cases hok : s60.2 = none
                · have hokb : decide (s60.2 = none) = true := decide_eq_true hok
                  try simp only [hokb]
                  go_wp2_with fail; go_at_call 13; refine (rword_any c _ s60 d p61).mono ?_; rintro e w62 ⟨rfl, hg62⟩; have p62 : RS c w62 s60 d := RS.grown p61 hg62; have G62 : w.grownBy w62 (some c.rb) := gb_trans G61 (gb_some hg62 (some c.rb)); have sz62 := hg62.size
                  try simp at sz62
                  have r_62 : RB w62 (w.heap.size) := RB.kept r_61 hg62 (by simp); have va_62 : NB w62 (w52.heap.size) (.int .i64 1) (.string ⟨#[]⟩) (.int .i64 0) (.int .i64 (pos c.L s51.1)) (.slice ad acc.length cp) := NB.kept va_61 hg62 (by simp); have re_62 : NB w62 (w41.heap.size) (.int .i64 k6) (.string ⟨x6.toArray⟩) (.int .i64 m6) (.int .i64 a6) (.slice ad6 l6.length cp6) := NB.kept re_61 hg62 (by simp); have pa_62 : NB w62 (w11.heap.size) (.int .i64 1) (.string ⟨#[]⟩) (.int .i64 0) (.int .i64 (pos c.L s10.1)) (.slice ad40 l40.length cp40) := NB.kept pa_61 hg62 (by simp); have n_62 : NB w62 (w1.heap.size) (.int .i64 7) (.string ⟨a3.toArray⟩) (.int .i64 m) (.int .i64 (pos c.L s.1)) (.slice none 0 0) := NB.kept n_61 hg62 (by simp); have z_62 : LR w62 (In (lo) (w60.heap.size)) (acc) (.slice ad acc.length cp) := LR.grown z_61 hg62; have la_62 : LR w62 (In (lo4) (w40.heap.size)) (l40) (.slice ad40 l40.length cp40) := LR.grown la_61 hg62; have lb_62 : LR w62 (In (lo6) (w50.heap.size)) (l6) (.slice ad6 l6.length cp6) := LR.grown lb_61 hg62; have r_lt62 := r_62.lt; have va_lt62 := va_62.lt; have re_lt62 := re_62.lt; have pa_lt62 := pa_62.lt; have n_lt62 := n_62.lt; obtain ⟨_, _, _, _, _, r0_62, r1_62, r2_62, r3_62, r4_62, r5_62⟩ := id r_62; obtain ⟨va0_62, va1_62, va2_62, va3_62, va4_62, va5_62⟩ := id va_62; obtain ⟨re0_62, re1_62, re2_62, re3_62, re4_62, re5_62⟩ := id re_62; obtain ⟨pa0_62, pa1_62, pa2_62, pa3_62, pa4_62, pa5_62⟩ := id pa_62; obtain ⟨n0_62, n1_62, n2_62, n3_62, n4_62, n5_62⟩ := id n_62; go_wp2_with fail; go_at_call 41; refine (nameRef_any ⟨(wd c.L s60.1).toArray⟩ c.ka c.kc _ (by have := HSH.out s60.1; unfold maxLen; simp [ByteArray.size]; omega) (show RS c _ s60 d from p62).kp).mono ?_; rintro e _ ⟨rfl, rfl⟩; cases hnm : nameB (wd c.L s60.1)
                  · go_wp2
                    go_meet
                    case rel => exact ⟨acc, .slice ad acc.length cp, s60, lo, va_62, re_62, pa_62, n_62, r_62, la_62, lb_62, LR.wide z_62 (Nat.le_refl _) (by omega), by omega, by omega, p62, G62, by omega, HRv.trans (Q.bind_eq (SM.trans (declLoopQ_no (fun h => by rw [hnm] at h; cases h.2) (fun h => by have := hfu h; omega))))⟩
                  · have SMy := SM.trans (declLoopQ_yes hok hnm (by have := hfu hok; omega))
                    have hfu1 := hfu hok; go_wp2_with fail; go_at_call 26; refine (rat_any c _ s60 d p62).mono ?_; rintro e w63 ⟨rfl, hg63⟩; have p63 : RS c w63 s60 d := RS.grown p62 hg63; have G63 : w.grownBy w63 (some c.rb) := gb_trans G62 (gb_some hg63 (some c.rb)); have sz63 := hg63.size
                    try simp at sz63
                    have r_63 : RB w63 (w.heap.size) := RB.kept r_62 hg63 (by simp); have va_63 : NB w63 (w52.heap.size) (.int .i64 1) (.string ⟨#[]⟩) (.int .i64 0) (.int .i64 (pos c.L s51.1)) (.slice ad acc.length cp) := NB.kept va_62 hg63 (by simp); have re_63 : NB w63 (w41.heap.size) (.int .i64 k6) (.string ⟨x6.toArray⟩) (.int .i64 m6) (.int .i64 a6) (.slice ad6 l6.length cp6) := NB.kept re_62 hg63 (by simp); have pa_63 : NB w63 (w11.heap.size) (.int .i64 1) (.string ⟨#[]⟩) (.int .i64 0) (.int .i64 (pos c.L s10.1)) (.slice ad40 l40.length cp40) := NB.kept pa_62 hg63 (by simp); have n_63 : NB w63 (w1.heap.size) (.int .i64 7) (.string ⟨a3.toArray⟩) (.int .i64 m) (.int .i64 (pos c.L s.1)) (.slice none 0 0) := NB.kept n_62 hg63 (by simp); have z_63 : LR w63 (In (lo) (w60.heap.size)) (acc) (.slice ad acc.length cp) := LR.grown z_62 hg63; have la_63 : LR w63 (In (lo4) (w40.heap.size)) (l40) (.slice ad40 l40.length cp40) := LR.grown la_62 hg63; have lb_63 : LR w63 (In (lo6) (w50.heap.size)) (l6) (.slice ad6 l6.length cp6) := LR.grown lb_62 hg63; have r_lt63 := r_63.lt; have va_lt63 := va_63.lt; have re_lt63 := re_63.lt; have pa_lt63 := pa_63.lt; have n_lt63 := n_63.lt; obtain ⟨_, _, _, _, _, r0_63, r1_63, r2_63, r3_63, r4_63, r5_63⟩ := id r_63; obtain ⟨va0_63, va1_63, va2_63, va3_63, va4_63, va5_63⟩ := id va_63; obtain ⟨re0_63, re1_63, re2_63, re3_63, re4_63, re5_63⟩ := id re_63; obtain ⟨pa0_63, pa1_63, pa2_63, pa3_63, pa4_63, pa5_63⟩ := id pa_63; obtain ⟨n0_63, n1_63, n2_63, n3_63, n4_63, n5_63⟩ := id n_63; go_wp2_with fail; go_at_call 28; refine (rname_any c _ s60 d (by exact RS.alloc p63 _)).mono ?_; rintro e w64 ⟨a64, s64, v64, hr64, rfl, ⟨rfl, hl64⟩, hg64, p64, hi64⟩; have G64 : w.grownBy w64 (some c.rb) := gb_trans (by exact gb_alloc G63 _) hg64; have sz64 := hg64.size
                    try simp at sz64
                    have r_64 : RB w64 (w.heap.size) := RB.keep (by exact RB.alloc r_63 _) hg64 (by omega); have va_64 : NB w64 (w52.heap.size) (.int .i64 1) (.string ⟨#[]⟩) (.int .i64 0) (.int .i64 (pos c.L s51.1)) (.slice ad acc.length cp) := NB.keep (by exact NB.alloc va_63 _) hg64 (by omega); have re_64 : NB w64 (w41.heap.size) (.int .i64 k6) (.string ⟨x6.toArray⟩) (.int .i64 m6) (.int .i64 a6) (.slice ad6 l6.length cp6) := NB.keep (by exact NB.alloc re_63 _) hg64 (by omega); have pa_64 : NB w64 (w11.heap.size) (.int .i64 1) (.string ⟨#[]⟩) (.int .i64 0) (.int .i64 (pos c.L s10.1)) (.slice ad40 l40.length cp40) := NB.keep (by exact NB.alloc pa_63 _) hg64 (by omega); have n_64 : NB w64 (w1.heap.size) (.int .i64 7) (.string ⟨a3.toArray⟩) (.int .i64 m) (.int .i64 (pos c.L s.1)) (.slice none 0 0) := NB.keep (by exact NB.alloc n_63 _) hg64 (by omega); have v_64 : NB w64 (w63.heap.size) (.int .i64 6) (.string ⟨#[]⟩) (.int .i64 0) (.int .i64 (pos c.L s60.1)) (.slice none 0 0) := NB.keep (NB.new' (by simp)) hg64 (by omega); have z_64 : LR w64 (In (lo) (w60.heap.size)) (acc) (.slice ad acc.length cp) := LR.call (by exact LR.alloc z_63 _) hg64 (by omega); have la_64 : LR w64 (In (lo4) (w40.heap.size)) (l40) (.slice ad40 l40.length cp40) := LR.call (by exact LR.alloc la_63 _) hg64 (by omega); have lb_64 : LR w64 (In (lo6) (w50.heap.size)) (l6) (.slice ad6 l6.length cp6) := LR.call (by exact LR.alloc lb_63 _) hg64 (by omega); have r_lt64 := r_64.lt; have va_lt64 := va_64.lt; have re_lt64 := re_64.lt; have pa_lt64 := pa_64.lt; have n_lt64 := n_64.lt; have v_lt64 := v_64.lt; obtain ⟨_, _, _, _, _, r0_64, r1_64, r2_64, r3_64, r4_64, r5_64⟩ := id r_64; obtain ⟨va0_64, va1_64, va2_64, va3_64, va4_64, va5_64⟩ := id va_64; obtain ⟨re0_64, re1_64, re2_64, re3_64, re4_64, re5_64⟩ := id re_64; obtain ⟨pa0_64, pa1_64, pa2_64, pa3_64, pa4_64, pa5_64⟩ := id pa_64; obtain ⟨n0_64, n1_64, n2_64, n3_64, n4_64, n5_64⟩ := id n_64; obtain ⟨v0_64, v1_64, v2_64, v3_64, v4_64, v5_64⟩ := id v_64; go_wp2_with fail; go_at_call 27; refine (rneed_any c _ s64 d s_colon _ rfl (by decide) (by exact RS.put p64 HL.out (by omega) _ _)).mono ?_; rintro e w65 ⟨a65, s65, v65, hr65, rfl, -, hg65, p65, hi65⟩; have G65 : w.grownBy w65 (some c.rb) := gb_trans (by exact gb_put G64 (by omega) _ _) hg65; have sz65 := hg65.size
                    try simp at sz65
                    have r_65 : RB w65 (w.heap.size) := RB.keep (by exact RB.put r_64 _ _ _) hg65 (by omega); have va_65 : NB w65 (w52.heap.size) (.int .i64 1) (.string ⟨#[]⟩) (.int .i64 0) (.int .i64 (pos c.L s51.1)) (.slice ad acc.length cp) := NB.keep (by exact NB.far va_64 (by omega) _ _) hg65 (by omega); have re_65 : NB w65 (w41.heap.size) (.int .i64 k6) (.string ⟨x6.toArray⟩) (.int .i64 m6) (.int .i64 a6) (.slice ad6 l6.length cp6) := NB.keep (by exact NB.far re_64 (by omega) _ _) hg65 (by omega); have pa_65 : NB w65 (w11.heap.size) (.int .i64 1) (.string ⟨#[]⟩) (.int .i64 0) (.int .i64 (pos c.L s10.1)) (.slice ad40 l40.length cp40) := NB.keep (by exact NB.far pa_64 (by omega) _ _) hg65 (by omega); have n_65 : NB w65 (w1.heap.size) (.int .i64 7) (.string ⟨a3.toArray⟩) (.int .i64 m) (.int .i64 (pos c.L s.1)) (.slice none 0 0) := NB.keep (by exact NB.far n_64 (by omega) _ _) hg65 (by omega); have v_65 : NB w65 (w63.heap.size) (.int .i64 6) (.string ⟨a64.toArray⟩) (.int .i64 0) (.int .i64 (pos c.L s60.1)) (.slice none 0 0) := NB.keep (by exact NB.s1 v_64 _) hg65 (by omega); have z_65 : LR w65 (In (lo) (w60.heap.size)) (acc) (.slice ad acc.length cp) := LR.call (by exact LR.put z_64 (by omega) _ _) hg65 (by omega); have la_65 : LR w65 (In (lo4) (w40.heap.size)) (l40) (.slice ad40 l40.length cp40) := LR.call (by exact LR.put la_64 (by omega) _ _) hg65 (by omega); have lb_65 : LR w65 (In (lo6) (w50.heap.size)) (l6) (.slice ad6 l6.length cp6) := LR.call (by exact LR.put lb_64 (by omega) _ _) hg65 (by omega); have r_lt65 := r_65.lt; have va_lt65 := va_65.lt; have re_lt65 := re_65.lt; have pa_lt65 := pa_65.lt; have n_lt65 := n_65.lt; have v_lt65 := v_65.lt; obtain ⟨_, _, _, _, _, r0_65, r1_65, r2_65, r3_65, r4_65, r5_65⟩ := id r_65; obtain ⟨va0_65, va1_65, va2_65, va3_65, va4_65, va5_65⟩ := id va_65; obtain ⟨re0_65, re1_65, re2_65, re3_65, re4_65, re5_65⟩ := id re_65; obtain ⟨pa0_65, pa1_65, pa2_65, pa3_65, pa4_65, pa5_65⟩ := id pa_65; obtain ⟨n0_65, n1_65, n2_65, n3_65, n4_65, n5_65⟩ := id n_65; obtain ⟨v0_65, v1_65, v2_65, v3_65, v4_65, v5_65⟩ := id v_65; go_wp2_with fail; go_at_call 43; refine (rtypeName_any c _ s65 d p65).mono ?_; rintro e w66 ⟨⟨k66, n66, m66, q66, l66⟩, s66, v66, hr66, rfl, ⟨sv66, rfl, lr66⟩, hg66, p66, hi66⟩; simp only [T.kind, T.name, T.num, T.at', T.subs] at lr66 ⊢; obtain ⟨ad66, cp66, rfl⟩ := lr66.form; obtain ⟨b66, hb66, lr66⟩ : ∃ b, b = _ ∧ LR w66 (In b w66.heap.size) l66 (.slice ad66 l66.length cp66) := ⟨_, rfl, lr66⟩
                    try simp at hb66
                    have G66 : w.grownBy w66 (some c.rb) := gb_trans G65 hg66; have sz66 := hg66.size
                    try simp at sz66
                    have r_66 : RB w66 (w.heap.size) := RB.keep r_65 hg66 (by omega); have va_66 : NB w66 (w52.heap.size) (.int .i64 1) (.string ⟨#[]⟩) (.int .i64 0) (.int .i64 (pos c.L s51.1)) (.slice ad acc.length cp) := NB.keep va_65 hg66 (by omega); have re_66 : NB w66 (w41.heap.size) (.int .i64 k6) (.string ⟨x6.toArray⟩) (.int .i64 m6) (.int .i64 a6) (.slice ad6 l6.length cp6) := NB.keep re_65 hg66 (by omega); have pa_66 : NB w66 (w11.heap.size) (.int .i64 1) (.string ⟨#[]⟩) (.int .i64 0) (.int .i64 (pos c.L s10.1)) (.slice ad40 l40.length cp40) := NB.keep pa_65 hg66 (by omega); have n_66 : NB w66 (w1.heap.size) (.int .i64 7) (.string ⟨a3.toArray⟩) (.int .i64 m) (.int .i64 (pos c.L s.1)) (.slice none 0 0) := NB.keep n_65 hg66 (by omega); have v_66 : NB w66 (w63.heap.size) (.int .i64 6) (.string ⟨a64.toArray⟩) (.int .i64 0) (.int .i64 (pos c.L s60.1)) (.slice none 0 0) := NB.keep v_65 hg66 (by omega); have z_66 : LR w66 (In (lo) (w60.heap.size)) (acc) (.slice ad acc.length cp) := LR.call z_65 hg66 (by omega); have la_66 : LR w66 (In (lo4) (w40.heap.size)) (l40) (.slice ad40 l40.length cp40) := LR.call la_65 hg66 (by omega); have lb_66 : LR w66 (In (lo6) (w50.heap.size)) (l6) (.slice ad6 l6.length cp6) := LR.call lb_65 hg66 (by omega); have r_lt66 := r_66.lt; have va_lt66 := va_66.lt; have re_lt66 := re_66.lt; have pa_lt66 := pa_66.lt; have n_lt66 := n_66.lt; have v_lt66 := v_66.lt; obtain ⟨_, _, _, _, _, r0_66, r1_66, r2_66, r3_66, r4_66, r5_66⟩ := id r_66; obtain ⟨va0_66, va1_66, va2_66, va3_66, va4_66, va5_66⟩ := id va_66; obtain ⟨re0_66, re1_66, re2_66, re3_66, re4_66, re5_66⟩ := id re_66; obtain ⟨pa0_66, pa1_66, pa2_66, pa3_66, pa4_66, pa5_66⟩ := id pa_66; obtain ⟨n0_66, n1_66, n2_66, n3_66, n4_66, n5_66⟩ := id n_66; obtain ⟨v0_66, v1_66, v2_66, v3_66, v4_66, v5_66⟩ := id v_66
                    go_upto_region 28 with fail
                    obtain ⟨w67, hw67⟩ : ∃ x : World, x = (w66.setCell ⟨w63.heap.size, 4, none⟩ (.slice (some ⟨w66.heap.size, 0, none⟩) 1 1)).alloc (.cells #[.int .i64 k66, .string ⟨n66.toArray⟩, .int .i64 m66, .int .i64 q66, .slice ad66 l66.length cp66] 25) := ⟨_, rfl⟩; rw [← hw67]
                    have p67 : RS c w67 s66 d := by rw [hw67]; exact RS.alloc (RS.put p66 HL.out (by omega) _ _) _
                    have G67 : w.grownBy w67 (some c.rb) := by rw [hw67]; exact gb_alloc (gb_put G66 (by omega) _ _) _
                    have sz67 : w66.heap.size + 1 ≤ w67.heap.size := by rw [hw67]; simp [World.setCell]
                    have sy67 : w67.heap.size ≤ w66.heap.size + 1 := by rw [hw67]; simp [World.setCell]
                    have r_67 : RB w67 (w.heap.size) := by rw [hw67]; exact RB.alloc (RB.put r_66 _ _ _) _
                    have va_67 : NB w67 (w52.heap.size) (.int .i64 1) (.string ⟨#[]⟩) (.int .i64 0) (.int .i64 (pos c.L s51.1)) (.slice ad acc.length cp) := by rw [hw67]; exact NB.alloc (NB.far va_66 (by omega) _ _) _
                    have re_67 : NB w67 (w41.heap.size) (.int .i64 k6) (.string ⟨x6.toArray⟩) (.int .i64 m6) (.int .i64 a6) (.slice ad6 l6.length cp6) := by rw [hw67]; exact NB.alloc (NB.far re_66 (by omega) _ _) _
                    have pa_67 : NB w67 (w11.heap.size) (.int .i64 1) (.string ⟨#[]⟩) (.int .i64 0) (.int .i64 (pos c.L s10.1)) (.slice ad40 l40.length cp40) := by rw [hw67]; exact NB.alloc (NB.far pa_66 (by omega) _ _) _
                    have n_67 : NB w67 (w1.heap.size) (.int .i64 7) (.string ⟨a3.toArray⟩) (.int .i64 m) (.int .i64 (pos c.L s.1)) (.slice none 0 0) := by rw [hw67]; exact NB.alloc (NB.far n_66 (by omega) _ _) _
                    have v_67 : NB w67 (w63.heap.size) (.int .i64 6) (.string ⟨a64.toArray⟩) (.int .i64 0) (.int .i64 (pos c.L s60.1)) (.slice (some ⟨w66.heap.size, 0, none⟩) 1 1) := by rw [hw67]; exact NB.alloc (NB.s4 v_66 _) _
                    have z_67 : LR w67 (In (lo) (w60.heap.size)) (acc) (.slice ad acc.length cp) := by rw [hw67]; exact LR.alloc (LR.put z_66 (by omega) _ _) _
                    have la_67 : LR w67 (In (lo4) (w40.heap.size)) (l40) (.slice ad40 l40.length cp40) := by rw [hw67]; exact LR.alloc (LR.put la_66 (by omega) _ _) _
                    have lb_67 : LR w67 (In (lo6) (w50.heap.size)) (l6) (.slice ad6 l6.length cp6) := by rw [hw67]; exact LR.alloc (LR.put lb_66 (by omega) _ _) _
                    have q_67 : LR w67 (In (b66) (w66.heap.size + 1)) ([(T.mk k66 n66 m66 q66 l66)]) (.slice (some ⟨w66.heap.size, 0, none⟩) 1 1) := by rw [hw67]; exact (LR.build1 _ (t := (T.mk k66 n66 m66 q66 l66)) (sv := .slice ad66 l66.length cp66) (LR.wide (lo := b66) (hi := w66.heap.size) (ts := l66) (by exact LR.put lr66 (by omega) _ _) (by omega) (by first | omega | (simp <;> omega))) (by simp) rfl (by omega))
                    clear hw67; have r_lt67 := r_67.lt; have va_lt67 := va_67.lt; have re_lt67 := re_67.lt; have pa_lt67 := pa_67.lt; have n_lt67 := n_67.lt; have v_lt67 := v_67.lt; obtain ⟨_, _, _, _, _, r0_67, r1_67, r2_67, r3_67, r4_67, r5_67⟩ := id r_67; obtain ⟨va0_67, va1_67, va2_67, va3_67, va4_67, va5_67⟩ := id va_67; obtain ⟨re0_67, re1_67, re2_67, re3_67, re4_67, re5_67⟩ := id re_67; obtain ⟨pa0_67, pa1_67, pa2_67, pa3_67, pa4_67, pa5_67⟩ := id pa_67; obtain ⟨n0_67, n1_67, n2_67, n3_67, n4_67, n5_67⟩ := id n_67; obtain ⟨v0_67, v1_67, v2_67, v3_67, v4_67, v5_67⟩ := id v_67; have hL2 : LR (w67.alloc (.cells #[.int .i64 6, .string ⟨a64.toArray⟩, .int .i64 0, .int .i64 (pos c.L s60.1), .slice (some ⟨w66.heap.size, 0, none⟩) 1 1] 25)) (In (lo) (w60.heap.size)) (acc) (.slice ad acc.length cp) := LR.alloc z_67 _; have hL4 : LR (w67.alloc (.cells #[.int .i64 6, .string ⟨a64.toArray⟩, .int .i64 0, .int .i64 (pos c.L s60.1), .slice (some ⟨w66.heap.size, 0, none⟩) 1 1] 25)) (In (b66) (w67.heap.size + 1)) [(T.mk 6 a64 0 (pos c.L s60.1) [(T.mk k66 n66 m66 q66 l66)])] (.slice (some ⟨w67.heap.size, 0, none⟩) 1 1) := LR.build1 w67 (t := (T.mk 6 a64 0 (pos c.L s60.1) [(T.mk k66 n66 m66 q66 l66)])) (sv := .slice (some ⟨w66.heap.size, 0, none⟩) 1 1) (LR.wide q_67 (Nat.le_refl _) (by omega)) rfl rfl (by omega); have hrow := hL2.rows; have HL2 := hide hL2; have HL4 := hide hL4; clear hL2 hL4
                    go_wp2_with (first
                      | (at_builtin
                         refine wpList_appLR rfl _ _ rfl rfl rfl HL2.out HL4.out (by omega) (by omega) (by simp; omega) (by simp) (by simp; omega) ?_; intro v68 w68 lr68 hg68; obtain ⟨ad68, cp68, e68⟩ := lr68.form; rw [List.length_append, List.length_singleton] at e68; have e68 : v68 = .slice ad68 (acc.length + 1) cp68 := e68; subst e68; have sz68 := hg68.size
                         simp at sz68
                         have r_68 : RB w68 (w.heap.size) := RB.kept (RB.alloc r_67 _) hg68 (fun e => by have := hrow _ e.symm; omega); have va_68 : NB w68 (w52.heap.size) (.int .i64 1) (.string ⟨#[]⟩) (.int .i64 0) (.int .i64 (pos c.L s51.1)) (.slice ad acc.length cp) := NB.kept (NB.alloc va_67 _) hg68 (fun e => by have := hrow _ e.symm; omega); have re_68 : NB w68 (w41.heap.size) (.int .i64 k6) (.string ⟨x6.toArray⟩) (.int .i64 m6) (.int .i64 a6) (.slice ad6 l6.length cp6) := NB.kept (NB.alloc re_67 _) hg68 (fun e => by have := hrow _ e.symm; omega); have pa_68 : NB w68 (w11.heap.size) (.int .i64 1) (.string ⟨#[]⟩) (.int .i64 0) (.int .i64 (pos c.L s10.1)) (.slice ad40 l40.length cp40) := NB.kept (NB.alloc pa_67 _) hg68 (fun e => by have := hrow _ e.symm; omega); have n_68 : NB w68 (w1.heap.size) (.int .i64 7) (.string ⟨a3.toArray⟩) (.int .i64 m) (.int .i64 (pos c.L s.1)) (.slice none 0 0) := NB.kept (NB.alloc n_67 _) hg68 (fun e => by have := hrow _ e.symm; omega); have la_68 : LR w68 (In (lo4) (w40.heap.size)) (l40) (.slice ad40 l40.length cp40) := LR.kept (LR.alloc la_67 _) hg68 (fun b hb hs => by have h1 := hrow b hb; have h2 : lo4 ≤ b := hs.1; have h3 : b < w40.heap.size := hs.2; omega); have lb_68 : LR w68 (In (lo6) (w50.heap.size)) (l6) (.slice ad6 l6.length cp6) := LR.kept (LR.alloc lb_67 _) hg68 (fun b hb hs => by have h1 := hrow b hb; have h2 : lo6 ≤ b := hs.1; have h3 : b < w50.heap.size := hs.2; omega); have p68 : RS c w68 s66 d := RS.own (RS.alloc p67 _) HL.out hg68 (fun b hb => by have := hrow b hb; omega); have G68 : w.grownBy w68 (some c.rb) := gb_own (gb_alloc G67 _) hg68 (fun b hb => by have := hrow b hb; omega); have r_lt68 := r_68.lt; have va_lt68 := va_68.lt; have re_lt68 := re_68.lt; have pa_lt68 := pa_68.lt; have n_lt68 := n_68.lt; obtain ⟨_, _, _, _, _, r0_68, r1_68, r2_68, r3_68, r4_68, r5_68⟩ := id r_68; obtain ⟨va0_68, va1_68, va2_68, va3_68, va4_68, va5_68⟩ := id va_68; obtain ⟨re0_68, re1_68, re2_68, re3_68, re4_68, re5_68⟩ := id re_68; obtain ⟨pa0_68, pa1_68, pa2_68, pa3_68, pa4_68, pa5_68⟩ := id pa_68
                         obtain ⟨n0_68, n1_68, n2_68, n3_68, n4_68, n5_68⟩ := id n_68))
                    go_at_call 27; refine (rneed_any c _ s66 d s_semi _ rfl (by decide) (by exact RS.put p68 HL.out (by omega) _ _)).mono ?_; rintro e w69 ⟨a69, s69, v69, hr69, rfl, -, hg69, p69, hi69⟩; have G69 : w.grownBy w69 (some c.rb) := gb_trans (by exact gb_put G68 (by omega) _ _) hg69; have sz69 := hg69.size
                    try simp at sz69
                    have r_69 : RB w69 (w.heap.size) := RB.keep (by exact RB.put r_68 _ _ _) hg69 (by omega); have va_69 : NB w69 (w52.heap.size) (.int .i64 1) (.string ⟨#[]⟩) (.int .i64 0) (.int .i64 (pos c.L s51.1)) (.slice ad68 (acc.length + 1) cp68) := NB.keep (by exact NB.s4 va_68 _) hg69 (by omega); have re_69 : NB w69 (w41.heap.size) (.int .i64 k6) (.string ⟨x6.toArray⟩) (.int .i64 m6) (.int .i64 a6) (.slice ad6 l6.length cp6) := NB.keep (by exact NB.far re_68 (by omega) _ _) hg69 (by omega); have pa_69 : NB w69 (w11.heap.size) (.int .i64 1) (.string ⟨#[]⟩) (.int .i64 0) (.int .i64 (pos c.L s10.1)) (.slice ad40 l40.length cp40) := NB.keep (by exact NB.far pa_68 (by omega) _ _) hg69 (by omega); have n_69 : NB w69 (w1.heap.size) (.int .i64 7) (.string ⟨a3.toArray⟩) (.int .i64 m) (.int .i64 (pos c.L s.1)) (.slice none 0 0) := NB.keep (by exact NB.far n_68 (by omega) _ _) hg69 (by omega); have z_69 : LR w69 (In (lo) (w68.heap.size)) ((acc ++ [(T.mk 6 a64 0 (pos c.L s60.1) [(T.mk k66 n66 m66 q66 l66)])])) (.slice ad68 (acc.length + 1) cp68) := LR.call (by exact LR.put lr68 (by omega) _ _) hg69 (by omega); have la_69 : LR w69 (In (lo4) (w40.heap.size)) (l40) (.slice ad40 l40.length cp40) := LR.call (by exact LR.put la_68 (by omega) _ _) hg69 (by omega); have lb_69 : LR w69 (In (lo6) (w50.heap.size)) (l6) (.slice ad6 l6.length cp6) := LR.call (by exact LR.put lb_68 (by omega) _ _) hg69 (by omega); have r_lt69 := r_69.lt; have va_lt69 := va_69.lt; have re_lt69 := re_69.lt; have pa_lt69 := pa_69.lt; have n_lt69 := n_69.lt; obtain ⟨_, _, _, _, _, r0_69, r1_69, r2_69, r3_69, r4_69, r5_69⟩ := id r_69; obtain ⟨va0_69, va1_69, va2_69, va3_69, va4_69, va5_69⟩ := id va_69; obtain ⟨re0_69, re1_69, re2_69, re3_69, re4_69, re5_69⟩ := id re_69; obtain ⟨pa0_69, pa1_69, pa2_69, pa3_69, pa4_69, pa5_69⟩ := id pa_69; obtain ⟨n0_69, n1_69, n2_69, n3_69, n4_69, n5_69⟩ := id n_69; go_wp2; refine ⟨⟨(acc ++ [(T.mk 6 a64 0 (pos c.L s60.1) [(T.mk k66 n66 m66 q66 l66)])]), .slice ad68 (acc.length + 1) cp68, s69, f - 1, lo, va_69, re_69, pa_69, n_69, r_69, la_69, lb_69, hlo3, SQ.mk (LR.wide z_69 (Nat.le_refl _) (by omega)) p69 G69 ((SMy.trans (Q.bind_eq (localQ_eq hr64 hr65 hr66))).trans (Q.bind_eq hr69)) (fun h9 => by have := hfu (by first | assumption | simp_all); have := (needQ_ok hr69 h9).2.2; omega) (by have := hfu hok; (try simp only [List.length_append, List.length_singleton]); omega) (by omega) hlo (by omega)⟩, ?_⟩
                    exact HPS.out.left_less p69 hok (fun h9 => by have := (needQ_ok hr69 h9).2.2; omega) hjl
                · have hokb : decide (s60.2 = none) = false := decide_eq_false hok
                  try simp only [hokb]
                  go_wp2; go_meet
                  case rel => exact ⟨acc, .slice ad acc.length cp, s60, lo, va_61, re_61, pa_61, n_61, r_61, la_61, lb_61, LR.wide z_61 (Nat.le_refl _) (by omega), by omega, by omega, p61, G61, by omega, HRv.trans (Q.bind_eq (SM.trans (declLoopQ_no (fun h => hok h.1) (fun h => absurd h hok))))⟩
          case rest =>
            obtain ⟨w80, hw80⟩ : ∃ x, x = wc := ⟨_, rfl⟩; subst hw80; obtain ⟨l80, v80, s80, lo8, va_80, re_80, pa_80, n_80, r_80, la_80, lb_80, lc_80, hlo9, hlo10, p80, G80, hi80, HRv⟩ := hcut; obtain ⟨ad80, cp80, rfl⟩ := lc_80.form
            try clear p50
            try clear G50
            try clear r_50
            try clear r0_50
            try clear r1_50
            try clear r2_50
            try clear r3_50
            try clear r4_50
            try clear r5_50
            try clear n_50
            try clear n0_50
            try clear n1_50
            try clear n2_50
            try clear n3_50
            try clear n4_50
            try clear n5_50
            try clear pa_50
            try clear pa0_50
            try clear pa1_50
            try clear pa2_50
            try clear pa3_50
            try clear pa4_50
            try clear pa5_50
            try clear re_50
            try clear re0_50
            try clear re1_50
            try clear re2_50
            try clear re3_50
            try clear re4_50
            try clear re5_50
            try clear la_50
            try clear lb_50
            try clear hg51
            try clear p51
            try clear G51
            try clear r_51
            try clear r0_51
            try clear r1_51
            try clear r2_51
            try clear r3_51
            try clear r4_51
            try clear r5_51
            try clear n_51
            try clear n0_51
            try clear n1_51
            try clear n2_51
            try clear n3_51
            try clear n4_51
            try clear n5_51
            try clear pa_51
            try clear pa0_51
            try clear pa1_51
            try clear pa2_51
            try clear pa3_51
            try clear pa4_51
            try clear pa5_51
            try clear re_51
            try clear re0_51
            try clear re1_51
            try clear re2_51
            try clear re3_51
            try clear re4_51
            try clear re5_51
            try clear la_51
            try clear lb_51
            try clear hg52
            try clear p52
            try clear G52
            try clear r_52
            try clear r0_52
            try clear r1_52
            try clear r2_52
            try clear r3_52
            try clear r4_52
            try clear r5_52
            try clear n_52
            try clear n0_52
            try clear n1_52
            try clear n2_52
            try clear n3_52
            try clear n4_52
            try clear n5_52
            try clear pa_52
            try clear pa0_52
            try clear pa1_52
            try clear pa2_52
            try clear pa3_52
            try clear pa4_52
            try clear pa5_52
            try clear re_52
            try clear re0_52
            try clear re1_52
            try clear re2_52
            try clear re3_52
            try clear re4_52
            try clear re5_52
            try clear la_52
            try clear lb_52
            try clear hg53
            try clear p53
            try clear G53
            try clear r_53
            try clear r0_53
            try clear r1_53
            try clear r2_53
            try clear r3_53
            try clear r4_53
            try clear r5_53
            try clear n_53
            try clear n0_53
            try clear n1_53
            try clear n2_53
            try clear n3_53
            try clear n4_53
            try clear n5_53
            try clear pa_53
            try clear pa0_53
            try clear pa1_53
            try clear pa2_53
            try clear pa3_53
            try clear pa4_53
            try clear pa5_53
            try clear re_53
            try clear re0_53
            try clear re1_53
            try clear re2_53
            try clear re3_53
            try clear re4_53
            try clear re5_53
            try clear va_53
            try clear va0_53
            try clear va1_53
            try clear va2_53
            try clear va3_53
            try clear va4_53
            try clear va5_53
            try clear la_53
            try clear lb_53
            have r_lt80 := r_80.lt; have va_lt80 := va_80.lt; have re_lt80 := re_80.lt; have pa_lt80 := pa_80.lt; have n_lt80 := n_80.lt; obtain ⟨_, _, _, _, _, r0_80, r1_80, r2_80, r3_80, r4_80, r5_80⟩ := id r_80; obtain ⟨va0_80, va1_80, va2_80, va3_80, va4_80, va5_80⟩ := id va_80; obtain ⟨re0_80, re1_80, re2_80, re3_80, re4_80, re5_80⟩ := id re_80; obtain ⟨pa0_80, pa1_80, pa2_80, pa3_80, pa4_80, pa5_80⟩ := id pa_80; obtain ⟨n0_80, n1_80, n2_80, n3_80, n4_80, n5_80⟩ := id n_80; have HR80 : procedureQ c.L s = _ := HR51.trans (Q.bind_eq HRv); go_wp2_with fail; go_at_call 27; refine (rneed_any c _ s80 d kBEGIN _ rfl (by decide) p80).mono ?_; rintro e w81 ⟨a81, s81, v81, hr81, rfl, -, hg81, p81, hi81⟩; have HR81 : procedureQ c.L s = _ := HR80.trans (Q.bind_eq hr81); have G81 : w.grownBy w81 (some c.rb) := gb_trans G80 hg81; have sz81 := hg81.size
            try simp at sz81
            have r_81 : RB w81 (w.heap.size) := RB.keep r_80 hg81 (by omega); have va_81 : NB w81 (w52.heap.size) (.int .i64 1) (.string ⟨#[]⟩) (.int .i64 0) (.int .i64 (pos c.L s51.1)) (.slice ad80 l80.length cp80) := NB.keep va_80 hg81 (by omega); have re_81 : NB w81 (w41.heap.size) (.int .i64 k6) (.string ⟨x6.toArray⟩) (.int .i64 m6) (.int .i64 a6) (.slice ad6 l6.length cp6) := NB.keep re_80 hg81 (by omega); have pa_81 : NB w81 (w11.heap.size) (.int .i64 1) (.string ⟨#[]⟩) (.int .i64 0) (.int .i64 (pos c.L s10.1)) (.slice ad40 l40.length cp40) := NB.keep pa_80 hg81 (by omega); have n_81 : NB w81 (w1.heap.size) (.int .i64 7) (.string ⟨a3.toArray⟩) (.int .i64 m) (.int .i64 (pos c.L s.1)) (.slice none 0 0) := NB.keep n_80 hg81 (by omega); have la_81 : LR w81 (In (lo4) (w40.heap.size)) (l40) (.slice ad40 l40.length cp40) := LR.call la_80 hg81 (by omega); have lb_81 : LR w81 (In (lo6) (w50.heap.size)) (l6) (.slice ad6 l6.length cp6) := LR.call lb_80 hg81 (by omega); have lc_81 : LR w81 (In (lo8) (w80.heap.size)) (l80) (.slice ad80 l80.length cp80) := LR.call lc_80 hg81 (by omega); have r_lt81 := r_81.lt; have va_lt81 := va_81.lt; have re_lt81 := re_81.lt; have pa_lt81 := pa_81.lt; have n_lt81 := n_81.lt; obtain ⟨_, _, _, _, _, r0_81, r1_81, r2_81, r3_81, r4_81, r5_81⟩ := id r_81; obtain ⟨va0_81, va1_81, va2_81, va3_81, va4_81, va5_81⟩ := id va_81; obtain ⟨re0_81, re1_81, re2_81, re3_81, re4_81, re5_81⟩ := id re_81; obtain ⟨pa0_81, pa1_81, pa2_81, pa3_81, pa4_81, pa5_81⟩ := id pa_81; obtain ⟨n0_81, n1_81, n2_81, n3_81, n4_81, n5_81⟩ := id n_81; go_wp2_with fail
            go_region_held (fun w' => w'.cell? ⟨w11.heap.size, 0, none⟩ = some (.int .i64 1) ∧ w'.cell? ⟨w11.heap.size, 1, none⟩ = some (.string ⟨#[]⟩) ∧ w'.cell? ⟨w11.heap.size, 2, none⟩ = some (.int .i64 0) ∧ w'.cell? ⟨w11.heap.size, 3, none⟩ = some (.int .i64 (pos c.L s10.1)) ∧ w'.cell? ⟨w11.heap.size, 4, none⟩ = some (.slice ad40 l40.length cp40) ∧ w'.cell? ⟨w41.heap.size, 0, none⟩ = some (.int .i64 k6) ∧ w'.cell? ⟨w41.heap.size, 1, none⟩ = some (.string ⟨x6.toArray⟩) ∧ w'.cell? ⟨w41.heap.size, 2, none⟩ = some (.int .i64 m6) ∧ w'.cell? ⟨w41.heap.size, 3, none⟩ = some (.int .i64 a6) ∧ w'.cell? ⟨w41.heap.size, 4, none⟩ = some (.slice ad6 l6.length cp6) ∧ w'.cell? ⟨w52.heap.size, 0, none⟩ = some (.int .i64 1) ∧ w'.cell? ⟨w52.heap.size, 1, none⟩ = some (.string ⟨#[]⟩) ∧ w'.cell? ⟨w52.heap.size, 2, none⟩ = some (.int .i64 0) ∧ w'.cell? ⟨w52.heap.size, 3, none⟩ = some (.int .i64 (pos c.L s51.1)) ∧ w'.cell? ⟨w52.heap.size, 4, none⟩ = some (.slice ad80 l80.length cp80))
              (exact NB.cells3 (by repeat (first | with_reducible exact pa_82 | with_reducible exact pa_81 | with_reducible refine NB.far ?_ (by omega) _ _ | with_reducible refine NB.alloc ?_ _ | with_reducible refine NB.drewN ?_ _ | with_reducible refine NB.drew ?_)) (by repeat (first | with_reducible exact re_82 | with_reducible exact re_81 | with_reducible refine NB.far ?_ (by omega) _ _ | with_reducible refine NB.alloc ?_ _ | with_reducible refine NB.drewN ?_ _ | with_reducible refine NB.drew ?_)) (by repeat (first | with_reducible exact va_82 | with_reducible exact va_81 | with_reducible refine NB.far ?_ (by omega) _ _ | with_reducible refine NB.alloc ?_ _ | with_reducible refine NB.drewN ?_ _ | with_reducible refine NB.drew ?_)))
              (first
              | (go_at_call 32
                 refine Calls.mono (hB _ s81 (by exact RS.drew p81)) ?_; rintro e w82 ⟨⟨k82, x82, m82, q82, l82⟩, s82, v82, hr82, rfl, ⟨sv82, rfl, lr82⟩, hg82, p82, hi82⟩; simp only [T.kind, T.name, T.num, T.at', T.subs] at lr82 ⊢; obtain ⟨ad82, cp82, rfl⟩ := lr82.form; obtain ⟨b82, hb82, lr82⟩ : ∃ b, b = _ ∧ LR w82 (In b w82.heap.size) l82 (.slice ad82 l82.length cp82) := ⟨_, rfl, lr82⟩
                 try simp at hb82
                 have G82 : w.grownBy w82 (some c.rb) := gb_trans (by exact gb_drew G81) hg82; have sz82 := hg82.size
                 try simp at sz82
                 have r_82 : RB w82 (w.heap.size) := RB.keep (by exact RB.drew r_81) hg82 (by omega); have va_82 : NB w82 (w52.heap.size) (.int .i64 1) (.string ⟨#[]⟩) (.int .i64 0) (.int .i64 (pos c.L s51.1)) (.slice ad80 l80.length cp80) := NB.keep (by exact NB.drew va_81) hg82 (by omega); have re_82 : NB w82 (w41.heap.size) (.int .i64 k6) (.string ⟨x6.toArray⟩) (.int .i64 m6) (.int .i64 a6) (.slice ad6 l6.length cp6) := NB.keep (by exact NB.drew re_81) hg82 (by omega); have pa_82 : NB w82 (w11.heap.size) (.int .i64 1) (.string ⟨#[]⟩) (.int .i64 0) (.int .i64 (pos c.L s10.1)) (.slice ad40 l40.length cp40) := NB.keep (by exact NB.drew pa_81) hg82 (by omega); have n_82 : NB w82 (w1.heap.size) (.int .i64 7) (.string ⟨a3.toArray⟩) (.int .i64 m) (.int .i64 (pos c.L s.1)) (.slice none 0 0) := NB.keep (by exact NB.drew n_81) hg82 (by omega); have la_82 : LR w82 (In (lo4) (w40.heap.size)) (l40) (.slice ad40 l40.length cp40) := LR.call (by exact LR.drew la_81) hg82 (by omega); have lb_82 : LR w82 (In (lo6) (w50.heap.size)) (l6) (.slice ad6 l6.length cp6) := LR.call (by exact LR.drew lb_81) hg82 (by omega); have lc_82 : LR w82 (In (lo8) (w80.heap.size)) (l80) (.slice ad80 l80.length cp80) := LR.call (by exact LR.drew lc_81) hg82 (by omega); have r_lt82 := r_82.lt; have va_lt82 := va_82.lt; have re_lt82 := re_82.lt; have pa_lt82 := pa_82.lt; have n_lt82 := n_82.lt; obtain ⟨_, _, _, _, _, r0_82, r1_82, r2_82, r3_82, r4_82, r5_82⟩ := id r_82; obtain ⟨va0_82, va1_82, va2_82, va3_82, va4_82, va5_82⟩ := id va_82; obtain ⟨re0_82, re1_82, re2_82, re3_82, re4_82, re5_82⟩ := id re_82; obtain ⟨pa0_82, pa1_82, pa2_82, pa3_82, pa4_82, pa5_82⟩ := id pa_82
                 obtain ⟨n0_82, n1_82, n2_82, n3_82, n4_82, n5_82⟩ := id n_82))
            all_goals
              have HR82 : procedureQ c.L s = _ := HR81.trans (Q.bind_eq hr82); go_wp2_with fail; go_at_call 27; refine (rneed_any c _ s82 d kEND _ rfl (by decide) (by exact RS.alloc (RS.put p82 HL.out (by omega) _ _) _)).mono ?_; rintro e w83 ⟨a83, s83, v83, hr83, rfl, -, hg83, p83, hi83⟩; have G83 : w.grownBy w83 (some c.rb) := gb_trans (by exact gb_alloc (gb_put G82 (by omega) _ _) _) hg83; have sz83 := hg83.size
              try simp at sz83
              have r_83 : RB w83 (w.heap.size) := RB.keep (by exact RB.alloc (RB.put r_82 _ _ _) _) hg83 (by omega); have n_83 : NB w83 (w1.heap.size) (.int .i64 7) (.string ⟨a3.toArray⟩) (.int .i64 m) (.int .i64 (pos c.L s.1)) (.slice (some ⟨w82.heap.size, 0, none⟩) 4 4) := NB.keep (by exact NB.alloc (NB.s4 n_82 _) _) hg83 (by omega); have zz_83 : LR w83 (In (lo4) (w82.heap.size + 1)) ([(T.mk 1 [] 0 (pos c.L s10.1) l40), (T.mk k6 x6 m6 a6 l6), (T.mk 1 [] 0 (pos c.L s51.1) l80), (T.mk k82 x82 m82 q82 l82)]) (.slice (some ⟨w82.heap.size, 0, none⟩) 4 4) := LR.call (LR.build4 _ (lo := lo4) (t1 := (T.mk 1 [] 0 (pos c.L s10.1) l40)) (t2 := (T.mk k6 x6 m6 a6 l6)) (t3 := (T.mk 1 [] 0 (pos c.L s51.1) l80)) (t4 := (T.mk k82 x82 m82 q82 l82)) (v1 := .slice ad40 l40.length cp40) (v2 := .slice ad6 l6.length cp6) (v3 := .slice ad80 l80.length cp80) (v4 := .slice ad82 l82.length cp82) (LR.wide (lo := lo4) (hi := w40.heap.size) (ts := l40) (by exact LR.put la_82 (by omega) _ _) (by omega) (by first | omega | (simp <;> omega))) (LR.wide (lo := lo6) (hi := w50.heap.size) (ts := l6) (by exact LR.put lb_82 (by omega) _ _) (by omega) (by first | omega | (simp <;> omega))) (LR.wide (lo := lo8) (hi := w80.heap.size) (ts := l80) (by exact LR.put lc_82 (by omega) _ _) (by omega) (by first | omega | (simp <;> omega))) (LR.wide (lo := b82) (hi := w82.heap.size) (ts := l82) (by exact LR.put lr82 (by omega) _ _) (by omega) (by first | omega | (simp <;> omega))) (by simp) rfl (by omega)) hg83 (by omega); have r_lt83 := r_83.lt; have n_lt83 := n_83.lt; obtain ⟨_, _, _, _, _, r0_83, r1_83, r2_83, r3_83, r4_83, r5_83⟩ := id r_83; obtain ⟨n0_83, n1_83, n2_83, n3_83, n4_83, n5_83⟩ := id n_83
              have hbad : a3 = [] → s83.2 ≠ none := fun h0 => (sim_need c.L _).2.keeps hr83 ((sim_acts c.L (goodW _) _).2.keeps hr82 ((sim_need c.L _).2.keeps hr81 ((sim_section c.L (sim_local c.L) _).2.keeps HRv ((sim_need c.L _).2.keeps hr51 ((sim_result c.L).2.keeps HRb ((sim_parameters c.L).2.keeps HRpp ((sim_is c.L _).2.keeps hstar (nameQ_nil hr3 h0))))))))
              go_wp2_with fail; go_at_call 27; refine (rneed_name c _ s83 d a3 _ (by simp) hbad p83).mono ?_; rintro e w84 ⟨a84, s84, v84, hr84, rfl, -, hg84, p84, hi84⟩; have G84 : w.grownBy w84 (some c.rb) := gb_trans G83 hg84; have sz84 := hg84.size
              try simp at sz84
              have r_84 : RB w84 (w.heap.size) := RB.keep r_83 hg84 (by omega); have n_84 : NB w84 (w1.heap.size) (.int .i64 7) (.string ⟨a3.toArray⟩) (.int .i64 m) (.int .i64 (pos c.L s.1)) (.slice (some ⟨w82.heap.size, 0, none⟩) 4 4) := NB.keep n_83 hg84 (by omega); have zz_84 : LR w84 (In (lo4) (w82.heap.size + 1)) ([(T.mk 1 [] 0 (pos c.L s10.1) l40), (T.mk k6 x6 m6 a6 l6), (T.mk 1 [] 0 (pos c.L s51.1) l80), (T.mk k82 x82 m82 q82 l82)]) (.slice (some ⟨w82.heap.size, 0, none⟩) 4 4) := LR.call zz_83 hg84 (by omega); have r_lt84 := r_84.lt; have n_lt84 := n_84.lt; obtain ⟨_, _, _, _, _, r0_84, r1_84, r2_84, r3_84, r4_84, r5_84⟩ := id r_84; obtain ⟨n0_84, n1_84, n2_84, n3_84, n4_84, n5_84⟩ := id n_84; have hen : endingQ c.L a3 s82 = _ := (Q.bind_eq hr83).trans hr84; have HRz : procedureQ c.L s = _ := HR82.trans (Q.bind_eq hen); go_wp2; refine node_ret Tryz.results31 rfl (RB.five ?_) rfl ?_
              · exact r_84
              refine QSt.ok (a := (T.mk 7 a3 m (pos c.L s.1) [(T.mk 1 [] 0 (pos c.L s10.1) l40), (T.mk k6 x6 m6 a6 l6), (T.mk 1 [] 0 (pos c.L s51.1) l80), (T.mk k82 x82 m82 q82 l82)])) (HRz) ⟨_, rfl, ?_⟩ ?_ ?_ (by omega)
              · refine LR.wide (lo := lo4) (hi := w82.heap.size + 1) (ts := [(T.mk 1 [] 0 (pos c.L s10.1) l40), (T.mk k6 x6 m6 a6 l6), (T.mk 1 [] 0 (pos c.L s51.1) l80), (T.mk k82 x82 m82 q82 l82)]) ?_ (by omega) (by first | omega | (simp <;> omega))
                exact LR.p5 zz_84 (by omega)
              · exact gb_p5 G84 (by omega)
              · exact RS.p5 p84 HL.out (by omega)
end Go.Proofs.YtbphiiaoncakfaaGreatDoor
