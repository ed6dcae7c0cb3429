/- The document's shapes: operators; every expression. -/
import Derived.Test.YtapfecciakijhaaGreatDoorG48
import Derived.Test.YtapfecciakijhaaGreatDoorG49
namespace Go.Proofs.YtapfecciakijhaaGreatDoor
open Go.RowKit
set_option maxHeartbeats 1000000
set_option maxRecDepth 1000000

theorem expr36 (x : List UInt8) (m p : Int) (l : List T) (sv : Value) (w : World) (hk : KW w) (ha : AT w (T.mk 36 x m p l).subs sv) (IH : ∀ u, u ∈ l → ShOK u) :
    Calls Tryz.prog 37 #[.agg #[.int .i64 36, .string ⟨x.toArray⟩, .int .i64 m, .int .i64 p, sv]] w (Sy w (.bool (wellB .expression (.mk 36 x m p l)))) := by
  have HE := wellB_only (r := .expression) (t := (.mk 36 x m p l)) (c := decide (0 ≤ levelOf x) && m == 0 && l.length == 2) (l := zipR l [.expression, .expression]) rfl; have HK := hide hk; have HA := hide ha; obtain ⟨a,n,c,rfl,_,_,hl⟩ := ha.any
  change l.length = n at hl
  subst hl; have IR := hide IH; clear hk ha IH
  have HL : Hid ((⟨x.toArray⟩ : ByteArray).data.toList = x) := rfl
  by_cases h0 : 0 ≤ levelOf x
  · by_cases h1 : m = 0
    · subst h1
      by_cases h2 : l.length = 2
      · obtain ⟨u, v, rfl⟩ : ∃ u v, l = [u, v] := by
          match l, h2 with
          | [u, v], _ => exact ⟨u, v, rfl⟩
        have hall : wellB .expression (.mk 36 x 0 p [u, v]) = [u, v].all (wellB .expression) := by
          rw [HE]
          simp [zipR, h0]
        clear h2; cases h3 : [u, v].all (wellB .expression)
        · rw [hall, h3]
          clear HE hall
          go_enter Tryz.func37, Tryz.ntmps37
          go_wp2_with fail; go_at_call 33; refine (rlevel_any ⟨x.toArray⟩ _).mono ?_; rintro e w1 ⟨rfl, hg1⟩; have G1 := hide (gb_trans (gb_alloc (gb_refl w none) _) hg1); have B1 := hide ((Box.new w (.mk 36 x 0 p [u, v]) (.slice a 2 c) 24).kept hg1); obtain ⟨b0_1,b1_1,b2_1,b3_1,b4_1⟩ := B1.out; go_wp2_with fail; go_at_call 72; refine (exprsShaped_any [u, v] _ _ (HK.out.kept G1.out) IR.out (HA.out.kept G1.out)).mono ?_; rintro e w2 ⟨rfl, hg2⟩; rw [h3]; have G2 := hide (gb_trans G1.out hg2); have B2 := hide (B1.out.kept hg2); obtain ⟨b0_2,b1_2,b2_2,b3_2,b4_2⟩ := B2.out; go_wp2_with fail
          go_ret
          exact ⟨rfl, G2.out⟩
        · rw [hall, h3]
          clear HE hall
          go_enter Tryz.func37, Tryz.ntmps37
          go_wp2_with fail; go_at_call 33; refine (rlevel_any ⟨x.toArray⟩ _).mono ?_; rintro e w1 ⟨rfl, hg1⟩; have G1 := hide (gb_trans (gb_alloc (gb_refl w none) _) hg1); have B1 := hide ((Box.new w (.mk 36 x 0 p [u, v]) (.slice a 2 c) 24).kept hg1); obtain ⟨b0_1,b1_1,b2_1,b3_1,b4_1⟩ := B1.out; go_wp2_with fail; go_at_call 72; refine (exprsShaped_any [u, v] _ _ (HK.out.kept G1.out) IR.out (HA.out.kept G1.out)).mono ?_; rintro e w2 ⟨rfl, hg2⟩; rw [h3]; have G2 := hide (gb_trans G1.out hg2); have B2 := hide (B1.out.kept hg2); obtain ⟨b0_2,b1_2,b2_2,b3_2,b4_2⟩ := B2.out; go_wp2_with fail
          go_ret
          exact ⟨rfl, G2.out⟩
      · skip
        rw [show wellB .expression (.mk 36 x 0 p l) = false by rw [HE]; simp [h2]]; clear HE
        go_enter Tryz.func37, Tryz.ntmps37
        go_wp2_with fail; go_at_call 33; refine (rlevel_any ⟨x.toArray⟩ _).mono ?_; rintro e w1 ⟨rfl, hg1⟩; have G1 := hide (gb_trans (gb_alloc (gb_refl w none) _) hg1); have B1 := hide ((Box.new w (.mk 36 x 0 p l) (.slice a l.length c) 24).kept hg1); obtain ⟨b0_1,b1_1,b2_1,b3_1,b4_1⟩ := B1.out; go_wp2_with fail
        go_ret
        exact ⟨rfl, G1.out⟩
    · skip
      rw [show wellB .expression (.mk 36 x m p l) = false by rw [HE]; simp [h1]]; clear HE
      go_enter Tryz.func37, Tryz.ntmps37
      go_wp2_with fail; go_at_call 33; refine (rlevel_any ⟨x.toArray⟩ _).mono ?_; rintro e w1 ⟨rfl, hg1⟩; have G1 := hide (gb_trans (gb_alloc (gb_refl w none) _) hg1); have B1 := hide ((Box.new w (.mk 36 x m p l) (.slice a l.length c) 24).kept hg1); obtain ⟨b0_1,b1_1,b2_1,b3_1,b4_1⟩ := B1.out; go_wp2_with fail
      go_ret
      exact ⟨rfl, G1.out⟩
  · skip
    rw [show wellB .expression (.mk 36 x m p l) = false by rw [HE]; simp [h0]]; clear HE
    go_enter Tryz.func37, Tryz.ntmps37
    go_wp2_with fail; go_at_call 33; refine (rlevel_any ⟨x.toArray⟩ _).mono ?_; rintro e w1 ⟨rfl, hg1⟩; have G1 := hide (gb_trans (gb_alloc (gb_refl w none) _) hg1); have B1 := hide ((Box.new w (.mk 36 x m p l) (.slice a l.length c) 24).kept hg1); obtain ⟨b0_1,b1_1,b2_1,b3_1,b4_1⟩ := B1.out; go_wp2_with fail
    go_ret
    exact ⟨rfl, G1.out⟩
theorem wellB_congr {r q : Rule} {t : T} (h : stepR r t = stepR q t) : wellB r t = wellB q t := by
  unfold wellB
  congr 1
  rw [eq_iff_iff, Well.iff, Well.iff, h]
theorem desigElse (kd : Int) (x : List UInt8) (m p : Int) (l : List T) (sv : Value) (w : World) (ha : AT w (T.mk kd x m p l).subs sv) (h24 : ¬ kd = 24) (h25 : ¬ kd = 25) (h26 : ¬ kd = 26) (h27 : ¬ kd = 27) (h28 : ¬ kd = 28) :
    Calls Tryz.prog 71 #[.agg #[.int .i64 kd, .string ⟨x.toArray⟩, .int .i64 m, .int .i64 p, sv]] w (Sy w (.bool (wellB .designator (.mk kd x m p l)))) := by
  rw [wellB_none (show stepR .designator (.mk kd x m p l) = none by simp [stepR, designatorR, T.kind, h24, h25, h26, h27, h28])]; obtain ⟨_,_,_,rfl,_,_,_⟩ := ha.any; clear ha
  go_enter Tryz.func71, Tryz.ntmps71
  go_wp2_with fail
  go_ret
  exact ⟨rfl, gb_alloc (gb_refl w none) _⟩
theorem exprElse (kd : Int) (x : List UInt8) (m p : Int) (l : List T) (sv : Value) (w : World) (hk : KW w) (hf : Fits (.mk kd x m p l)) (ha : AT w (T.mk kd x m p l).subs sv) (h29 : ¬ kd = 29) (h30 : ¬ kd = 30) (h31 : ¬ kd = 31) (h32 : ¬ kd = 32) (h33 : ¬ kd = 33) (h34 : ¬ kd = 34) (h35 : ¬ kd = 35) (h36 : ¬ kd = 36) (h37 : ¬ kd = 37)
    (hd : ∀ (sv : Value) (w : World), KW w → Fits (.mk kd x m p l) → AT w (T.mk kd x m p l).subs sv → Calls Tryz.prog 71 #[nodeV (.mk kd x m p l) sv] w (Sy w (.bool (wellB .designator (.mk kd x m p l))))) :
    Calls Tryz.prog 37 #[.agg #[.int .i64 kd, .string ⟨x.toArray⟩, .int .i64 m, .int .i64 p, sv]] w (Sy w (.bool (wellB .expression (.mk kd x m p l)))) := by
  rw [wellB_congr (show stepR .expression (.mk kd x m p l) = stepR .designator (.mk kd x m p l) by simp [stepR, expressionR, T.kind, h29, h30, h31, h32, h33, h34, h35, h36, h37])]; have HK := hide hk; have HF := hide hf; have HA := hide ha; have HD := hide hd; obtain ⟨a,n,c,rfl,_,_,_⟩ := ha.any; clear ha hk hf hd
  go_enter Tryz.func37, Tryz.ntmps37
  go_wp2_with fail; go_at_call 71; refine (HD.out _ _ (HK.out.kept (by exact gb_alloc (gb_refl w none) _)) HF.out (HA.out.kept (by exact gb_alloc (gb_refl w none) _))).mono ?_; rintro e w1 ⟨rfl, hg1⟩; have G1 := hide (gb_trans (gb_alloc (gb_refl w none) _) hg1); have B1 := hide ((Box.new w (.mk kd x m p l) (.slice a n c) 24).kept hg1); obtain ⟨_,_,_,_,_⟩ := B1.out; go_wp2_with fail
  go_ret
  exact ⟨rfl, G1.out⟩
theorem sh_step (t : T) (IH : ∀ u, u ∈ t.subs → ShOK u) : ShOK t := by
  obtain ⟨kd,x,m,p,l⟩ := t
  change ∀ u, u ∈ l → ShOK u at IH
  have hd : ∀ (sv : Value) (w : World), KW w → Fits (.mk kd x m p l) → AT w (T.mk kd x m p l).subs sv → Calls Tryz.prog 71 #[nodeV (.mk kd x m p l) sv] w (Sy w (.bool (wellB .designator (.mk kd x m p l)))) := by
    intro sv w hk hf ha
    by_cases h24 : kd = 24
    · subst h24; exact desig24 x m p l sv w hk hf ha
    by_cases h25 : kd = 25
    · subst h25; exact desig25 x m p l sv w hk hf ha IH
    by_cases h26 : kd = 26
    · subst h26; exact desig26 x m p l sv w hk hf ha IH
    by_cases h27 : kd = 27
    · subst h27; exact desig27 x m p l sv w hk hf ha IH
    by_cases h28 : kd = 28
    · subst h28; exact desig28 x m p l sv w hk hf ha IH
    exact desigElse kd x m p l sv w ha h24 h25 h26 h27 h28
  refine ⟨hd, fun sv w hk hf ha => ?_⟩
  by_cases h29 : kd = 29
  · subst h29; exact expr29 x m p l sv w hk hf ha
  by_cases h30 : kd = 30
  · subst h30; exact expr30 x m p l sv w hk hf ha
  by_cases h31 : kd = 31
  · subst h31; exact expr31 x m p l sv w hk hf ha
  by_cases h32 : kd = 32
  · subst h32; exact expr32 x m p l sv w hk hf ha
  by_cases h33 : kd = 33
  · subst h33; exact expr33 x m p l sv w hk hf ha IH
  by_cases h34 : kd = 34
  · subst h34; exact expr34 x m p l sv w hk hf ha IH
  by_cases h35 : kd = 35
  · subst h35; exact expr35 x m p l sv w hk hf ha IH
  by_cases h36 : kd = 36
  · subst h36; exact expr36 x m p l sv w hk ha IH
  by_cases h37 : kd = 37
  · subst h37; exact expr37 x m p l sv w hk hf ha IH
  exact exprElse kd x m p l sv w hk hf ha h29 h30 h31 h32 h33 h34 h35 h36 h37 hd
theorem sh_all (t : T) : ShOK t := sh_step t (fun u _hu => sh_all u)
  termination_by SizeOf.sizeOf t
  decreasing_by
    obtain ⟨_,_,_,_,l⟩ := t; have h9 := List.sizeOf_lt_of_mem (show u ∈ l from _hu); simp only [T.mk.sizeOf_spec]
    omega
end Go.Proofs.YtapfecciakijhaaGreatDoor

/- The document's shapes: acts, kind by kind. -/
namespace Go.Proofs.YtapfecciakijhaaGreatDoor
open Go.RowKit
set_option maxHeartbeats 1000000
set_option maxRecDepth 1000000

/-- What the document says of an act's shape, and of a list of acts, of a node. -/
structure AcOK (u : T) : Prop where
  stmt : ∀ (sv : Value) (w : World), KW w → Fits u → AT w u.subs sv → Calls Tryz.prog 40 #[nodeV u sv] w (Sy w (.bool (wellB .act u)))
  stmts : ∀ (sv : Value) (w : World), KW w → Fits u → AT w u.subs sv → Calls Tryz.prog 18 #[nodeV u sv] w (Sy w (.bool (wellB (.list .act) u)))

theorem stmt14 (x : List UInt8) (m p : Int) (l : List T) (sv : Value) (w : World) (hk : KW w) (hf : Fits (.mk 14 x m p l)) (ha : AT w (T.mk 14 x m p l).subs sv) (IH : ∀ u, u ∈ l → AcOK u) :
    Calls Tryz.prog 40 #[.agg #[.int .i64 14, .string ⟨x.toArray⟩, .int .i64 m, .int .i64 p, sv]] w (Sy w (.bool (wellB .act (.mk 14 x m p l)))) := by
  have HE := wellB_only (r := .act) (t := (.mk 14 x m p l)) (c := headB (.mk 14 x m p l) 14 false 0 2) (l := zipR l [.designator, .expression]) rfl; have HK := hide hk; have HF := hide hf; have HA := hide ha; cases h0 : headB (.mk 14 x m p l) 14 false 0 2
  · rw [show wellB .act (.mk 14 x m p l) = false by rw [HE, h0]; rfl]
    clear HE; obtain ⟨a,n,c,rfl,hn,hc,hl⟩ := ha.any; clear hk hf ha IH
    go_enter Tryz.func40, Tryz.ntmps40
    go_wp2_with fail; go_at_call 16; refine (head_any (.mk 14 x m p l) _ 14 0 2 false _ (HK.out.kept (by exact gb_alloc (gb_refl w none) _)) HF.out (HA.out.kept (by exact gb_alloc (gb_refl w none) _))).mono ?_; rintro e w1 ⟨rfl, hg1⟩; rw [h0]; have G1 := hide (gb_trans (gb_alloc (gb_refl w none) _) hg1); have B1 := hide ((Box.new w (.mk 14 x m p l) (.slice a n c) 24).kept hg1); obtain ⟨b0_1,b1_1,b2_1,b3_1,b4_1⟩ := B1.out; go_wp2_with fail
    go_ret
    exact ⟨rfl, G1.out⟩
  · obtain ⟨g,o,c,u,_,v,_,rfl,hn,hc,hl,n5,fu,au,n6,fv,av⟩ := ha.two (head_len (n := 2) h0)
    change l = [u, v] at hl
    subst hl; have N0 := hide n5; have HU := hide fu; have AU := hide au; have N1 := hide n6; have HV := hide fv; have AV := hide av; clear IH; clear hk hf ha fu au n5 fv av n6; cases h1 : wellB .designator u
    · skip
      rw [show wellB .act (.mk 14 x m p [u, v]) = false by rw [HE, h0]; simp [zipR, h1]]; clear HE
      go_enter Tryz.func40, Tryz.ntmps40
      go_wp2_with fail; go_at_call 16; refine (head_any (.mk 14 x m p [u, v]) _ 14 0 2 false _ (HK.out.kept (by exact gb_alloc (gb_refl w none) _)) HF.out (HA.out.kept (by exact gb_alloc (gb_refl w none) _))).mono ?_; rintro e w1 ⟨rfl, hg1⟩; rw [h0]; have G1 := hide (gb_trans (gb_alloc (gb_refl w none) _) hg1); have B1 := hide ((Box.new w (.mk 14 x m p [u, v]) (.slice (some ⟨g, o, none⟩) 2 c) 24).kept hg1); obtain ⟨b0_1,b1_1,b2_1,b3_1,b4_1⟩ := B1.out; obtain ⟨c0_1_0,c1_1_0,c2_1_0,c3_1_0,c4_1_0⟩ := N0.out.kept G1.out; obtain ⟨c0_1_1,c1_1_1,c2_1_1,c3_1_1,c4_1_1⟩ := N1.out.kept G1.out; go_wp2_with fail; go_at_call 71; refine ((sh_all _).desig _ _ (HK.out.kept G1.out) HU.out (AU.out.kept G1.out)).mono ?_; rintro e w2 ⟨rfl, hg2⟩; rw [h1]; have G2 := hide (gb_trans G1.out hg2); have B2 := hide (B1.out.kept hg2); obtain ⟨b0_2,b1_2,b2_2,b3_2,b4_2⟩ := B2.out; obtain ⟨c0_2_0,c1_2_0,c2_2_0,c3_2_0,c4_2_0⟩ := N0.out.kept G2.out; obtain ⟨c0_2_1,c1_2_1,c2_2_1,c3_2_1,c4_2_1⟩ := N1.out.kept G2.out; go_wp2_with fail
      go_ret
      exact ⟨rfl, G2.out⟩
    · skip
      cases h2 : wellB .expression v
      · skip
        rw [show wellB .act (.mk 14 x m p [u, v]) = false by rw [HE, h0]; simp [zipR, h1, h2]]; clear HE
        go_enter Tryz.func40, Tryz.ntmps40
        go_wp2_with fail; go_at_call 16; refine (head_any (.mk 14 x m p [u, v]) _ 14 0 2 false _ (HK.out.kept (by exact gb_alloc (gb_refl w none) _)) HF.out (HA.out.kept (by exact gb_alloc (gb_refl w none) _))).mono ?_; rintro e w1 ⟨rfl, hg1⟩; rw [h0]; have G1 := hide (gb_trans (gb_alloc (gb_refl w none) _) hg1); have B1 := hide ((Box.new w (.mk 14 x m p [u, v]) (.slice (some ⟨g, o, none⟩) 2 c) 24).kept hg1); obtain ⟨b0_1,b1_1,b2_1,b3_1,b4_1⟩ := B1.out; obtain ⟨c0_1_0,c1_1_0,c2_1_0,c3_1_0,c4_1_0⟩ := N0.out.kept G1.out; obtain ⟨c0_1_1,c1_1_1,c2_1_1,c3_1_1,c4_1_1⟩ := N1.out.kept G1.out; go_wp2_with fail; go_at_call 71; refine ((sh_all _).desig _ _ (HK.out.kept G1.out) HU.out (AU.out.kept G1.out)).mono ?_; rintro e w2 ⟨rfl, hg2⟩; rw [h1]; have G2 := hide (gb_trans G1.out hg2); have B2 := hide (B1.out.kept hg2); obtain ⟨b0_2,b1_2,b2_2,b3_2,b4_2⟩ := B2.out; obtain ⟨c0_2_0,c1_2_0,c2_2_0,c3_2_0,c4_2_0⟩ := N0.out.kept G2.out; obtain ⟨c0_2_1,c1_2_1,c2_2_1,c3_2_1,c4_2_1⟩ := N1.out.kept G2.out; go_wp2_with fail; go_at_call 37; refine ((sh_all _).expr _ _ (HK.out.kept G2.out) HV.out (AV.out.kept G2.out)).mono ?_; rintro e w3 ⟨rfl, hg3⟩; rw [h2]; have G3 := hide (gb_trans G2.out hg3); have B3 := hide (B2.out.kept hg3); obtain ⟨b0_3,b1_3,b2_3,b3_3,b4_3⟩ := B3.out; obtain ⟨c0_3_0,c1_3_0,c2_3_0,c3_3_0,c4_3_0⟩ := N0.out.kept G3.out; obtain ⟨c0_3_1,c1_3_1,c2_3_1,c3_3_1,c4_3_1⟩ := N1.out.kept G3.out; go_wp2_with fail
        go_ret
        exact ⟨rfl, G3.out⟩
      · skip
        rw [show wellB .act (.mk 14 x m p [u, v]) = true by rw [HE, h0]; simp [zipR, h1, h2]]; clear HE
        go_enter Tryz.func40, Tryz.ntmps40
        go_wp2_with fail; go_at_call 16; refine (head_any (.mk 14 x m p [u, v]) _ 14 0 2 false _ (HK.out.kept (by exact gb_alloc (gb_refl w none) _)) HF.out (HA.out.kept (by exact gb_alloc (gb_refl w none) _))).mono ?_; rintro e w1 ⟨rfl, hg1⟩; rw [h0]; have G1 := hide (gb_trans (gb_alloc (gb_refl w none) _) hg1); have B1 := hide ((Box.new w (.mk 14 x m p [u, v]) (.slice (some ⟨g, o, none⟩) 2 c) 24).kept hg1); obtain ⟨b0_1,b1_1,b2_1,b3_1,b4_1⟩ := B1.out; obtain ⟨c0_1_0,c1_1_0,c2_1_0,c3_1_0,c4_1_0⟩ := N0.out.kept G1.out; obtain ⟨c0_1_1,c1_1_1,c2_1_1,c3_1_1,c4_1_1⟩ := N1.out.kept G1.out; go_wp2_with fail; go_at_call 71; refine ((sh_all _).desig _ _ (HK.out.kept G1.out) HU.out (AU.out.kept G1.out)).mono ?_; rintro e w2 ⟨rfl, hg2⟩; rw [h1]; have G2 := hide (gb_trans G1.out hg2); have B2 := hide (B1.out.kept hg2); obtain ⟨b0_2,b1_2,b2_2,b3_2,b4_2⟩ := B2.out; obtain ⟨c0_2_0,c1_2_0,c2_2_0,c3_2_0,c4_2_0⟩ := N0.out.kept G2.out; obtain ⟨c0_2_1,c1_2_1,c2_2_1,c3_2_1,c4_2_1⟩ := N1.out.kept G2.out; go_wp2_with fail; go_at_call 37; refine ((sh_all _).expr _ _ (HK.out.kept G2.out) HV.out (AV.out.kept G2.out)).mono ?_; rintro e w3 ⟨rfl, hg3⟩; rw [h2]; have G3 := hide (gb_trans G2.out hg3); have B3 := hide (B2.out.kept hg3); obtain ⟨b0_3,b1_3,b2_3,b3_3,b4_3⟩ := B3.out; obtain ⟨c0_3_0,c1_3_0,c2_3_0,c3_3_0,c4_3_0⟩ := N0.out.kept G3.out; obtain ⟨c0_3_1,c1_3_1,c2_3_1,c3_3_1,c4_3_1⟩ := N1.out.kept G3.out; go_wp2_with fail
        go_ret
        exact ⟨rfl, G3.out⟩
theorem stmt17 (x : List UInt8) (m p : Int) (l : List T) (sv : Value) (w : World) (hk : KW w) (hf : Fits (.mk 17 x m p l)) (ha : AT w (T.mk 17 x m p l).subs sv) (IH : ∀ u, u ∈ l → AcOK u) :
    Calls Tryz.prog 40 #[.agg #[.int .i64 17, .string ⟨x.toArray⟩, .int .i64 m, .int .i64 p, sv]] w (Sy w (.bool (wellB .act (.mk 17 x m p l)))) := by
  have HE := wellB_only (r := .act) (t := (.mk 17 x m p l)) (c := headB (.mk 17 x m p l) 17 false 0 2) (l := zipR l [.expression, (.list .act)]) rfl; have HK := hide hk; have HF := hide hf; have HA := hide ha; cases h0 : headB (.mk 17 x m p l) 17 false 0 2
  · rw [show wellB .act (.mk 17 x m p l) = false by rw [HE, h0]; rfl]
    clear HE; obtain ⟨a,n,c,rfl,hn,hc,hl⟩ := ha.any; clear hk hf ha IH
    go_enter Tryz.func40, Tryz.ntmps40
    go_wp2_with fail; go_at_call 16; refine (head_any (.mk 17 x m p l) _ 17 0 2 false _ (HK.out.kept (by exact gb_alloc (gb_refl w none) _)) HF.out (HA.out.kept (by exact gb_alloc (gb_refl w none) _))).mono ?_; rintro e w1 ⟨rfl, hg1⟩; rw [h0]; have G1 := hide (gb_trans (gb_alloc (gb_refl w none) _) hg1); have B1 := hide ((Box.new w (.mk 17 x m p l) (.slice a n c) 24).kept hg1); obtain ⟨b0_1,b1_1,b2_1,b3_1,b4_1⟩ := B1.out; go_wp2_with fail
    go_ret
    exact ⟨rfl, G1.out⟩
  · obtain ⟨g,o,c,u,_,v,_,rfl,hn,hc,hl,n5,fu,au,n6,fv,av⟩ := ha.two (head_len (n := 2) h0)
    change l = [u, v] at hl
    subst hl; have N0 := hide n5; have HU := hide fu; have AU := hide au; have N1 := hide n6; have HV := hide fv; have AV := hide av; have IU := hide (IH u (by simp)); have IV := hide (IH v (by simp)); clear IH; clear hk hf ha fu au n5 fv av n6; cases h1 : wellB .expression u
    · skip
      rw [show wellB .act (.mk 17 x m p [u, v]) = false by rw [HE, h0]; simp [zipR, h1]]; clear HE
      go_enter Tryz.func40, Tryz.ntmps40
      go_wp2_with fail; go_at_call 16; refine (head_any (.mk 17 x m p [u, v]) _ 17 0 2 false _ (HK.out.kept (by exact gb_alloc (gb_refl w none) _)) HF.out (HA.out.kept (by exact gb_alloc (gb_refl w none) _))).mono ?_; rintro e w1 ⟨rfl, hg1⟩; rw [h0]; have G1 := hide (gb_trans (gb_alloc (gb_refl w none) _) hg1); have B1 := hide ((Box.new w (.mk 17 x m p [u, v]) (.slice (some ⟨g, o, none⟩) 2 c) 24).kept hg1); obtain ⟨b0_1,b1_1,b2_1,b3_1,b4_1⟩ := B1.out; obtain ⟨c0_1_0,c1_1_0,c2_1_0,c3_1_0,c4_1_0⟩ := N0.out.kept G1.out; obtain ⟨c0_1_1,c1_1_1,c2_1_1,c3_1_1,c4_1_1⟩ := N1.out.kept G1.out; go_wp2_with fail; go_at_call 37; refine ((sh_all _).expr _ _ (HK.out.kept G1.out) HU.out (AU.out.kept G1.out)).mono ?_; rintro e w2 ⟨rfl, hg2⟩; rw [h1]; have G2 := hide (gb_trans G1.out hg2); have B2 := hide (B1.out.kept hg2); obtain ⟨b0_2,b1_2,b2_2,b3_2,b4_2⟩ := B2.out; obtain ⟨c0_2_0,c1_2_0,c2_2_0,c3_2_0,c4_2_0⟩ := N0.out.kept G2.out; obtain ⟨c0_2_1,c1_2_1,c2_2_1,c3_2_1,c4_2_1⟩ := N1.out.kept G2.out; go_wp2_with fail
      go_ret
      exact ⟨rfl, G2.out⟩
    · skip
      cases h2 : wellB (.list .act) v
      · skip
        rw [show wellB .act (.mk 17 x m p [u, v]) = false by rw [HE, h0]; simp [zipR, h1, h2]]; clear HE
        go_enter Tryz.func40, Tryz.ntmps40
        go_wp2_with fail; go_at_call 16; refine (head_any (.mk 17 x m p [u, v]) _ 17 0 2 false _ (HK.out.kept (by exact gb_alloc (gb_refl w none) _)) HF.out (HA.out.kept (by exact gb_alloc (gb_refl w none) _))).mono ?_; rintro e w1 ⟨rfl, hg1⟩; rw [h0]; have G1 := hide (gb_trans (gb_alloc (gb_refl w none) _) hg1); have B1 := hide ((Box.new w (.mk 17 x m p [u, v]) (.slice (some ⟨g, o, none⟩) 2 c) 24).kept hg1); obtain ⟨b0_1,b1_1,b2_1,b3_1,b4_1⟩ := B1.out; obtain ⟨c0_1_0,c1_1_0,c2_1_0,c3_1_0,c4_1_0⟩ := N0.out.kept G1.out; obtain ⟨c0_1_1,c1_1_1,c2_1_1,c3_1_1,c4_1_1⟩ := N1.out.kept G1.out; go_wp2_with fail; go_at_call 37; refine ((sh_all _).expr _ _ (HK.out.kept G1.out) HU.out (AU.out.kept G1.out)).mono ?_; rintro e w2 ⟨rfl, hg2⟩; rw [h1]; have G2 := hide (gb_trans G1.out hg2); have B2 := hide (B1.out.kept hg2); obtain ⟨b0_2,b1_2,b2_2,b3_2,b4_2⟩ := B2.out; obtain ⟨c0_2_0,c1_2_0,c2_2_0,c3_2_0,c4_2_0⟩ := N0.out.kept G2.out; obtain ⟨c0_2_1,c1_2_1,c2_2_1,c3_2_1,c4_2_1⟩ := N1.out.kept G2.out; go_wp2_with fail; go_at_call 18; refine (IV.out.stmts _ _ (HK.out.kept G2.out) HV.out (AV.out.kept G2.out)).mono ?_; rintro e w3 ⟨rfl, hg3⟩; rw [h2]; have G3 := hide (gb_trans G2.out hg3); have B3 := hide (B2.out.kept hg3); obtain ⟨b0_3,b1_3,b2_3,b3_3,b4_3⟩ := B3.out; obtain ⟨c0_3_0,c1_3_0,c2_3_0,c3_3_0,c4_3_0⟩ := N0.out.kept G3.out; obtain ⟨c0_3_1,c1_3_1,c2_3_1,c3_3_1,c4_3_1⟩ := N1.out.kept G3.out; go_wp2_with fail
        go_ret
        exact ⟨rfl, G3.out⟩
      · skip
        rw [show wellB .act (.mk 17 x m p [u, v]) = true by rw [HE, h0]; simp [zipR, h1, h2]]; clear HE
        go_enter Tryz.func40, Tryz.ntmps40
        go_wp2_with fail; go_at_call 16; refine (head_any (.mk 17 x m p [u, v]) _ 17 0 2 false _ (HK.out.kept (by exact gb_alloc (gb_refl w none) _)) HF.out (HA.out.kept (by exact gb_alloc (gb_refl w none) _))).mono ?_; rintro e w1 ⟨rfl, hg1⟩; rw [h0]; have G1 := hide (gb_trans (gb_alloc (gb_refl w none) _) hg1); have B1 := hide ((Box.new w (.mk 17 x m p [u, v]) (.slice (some ⟨g, o, none⟩) 2 c) 24).kept hg1); obtain ⟨b0_1,b1_1,b2_1,b3_1,b4_1⟩ := B1.out; obtain ⟨c0_1_0,c1_1_0,c2_1_0,c3_1_0,c4_1_0⟩ := N0.out.kept G1.out; obtain ⟨c0_1_1,c1_1_1,c2_1_1,c3_1_1,c4_1_1⟩ := N1.out.kept G1.out; go_wp2_with fail; go_at_call 37; refine ((sh_all _).expr _ _ (HK.out.kept G1.out) HU.out (AU.out.kept G1.out)).mono ?_; rintro e w2 ⟨rfl, hg2⟩; rw [h1]; have G2 := hide (gb_trans G1.out hg2); have B2 := hide (B1.out.kept hg2); obtain ⟨b0_2,b1_2,b2_2,b3_2,b4_2⟩ := B2.out; obtain ⟨c0_2_0,c1_2_0,c2_2_0,c3_2_0,c4_2_0⟩ := N0.out.kept G2.out; obtain ⟨c0_2_1,c1_2_1,c2_2_1,c3_2_1,c4_2_1⟩ := N1.out.kept G2.out; go_wp2_with fail; go_at_call 18; refine (IV.out.stmts _ _ (HK.out.kept G2.out) HV.out (AV.out.kept G2.out)).mono ?_; rintro e w3 ⟨rfl, hg3⟩; rw [h2]; have G3 := hide (gb_trans G2.out hg3); have B3 := hide (B2.out.kept hg3); obtain ⟨b0_3,b1_3,b2_3,b3_3,b4_3⟩ := B3.out; obtain ⟨c0_3_0,c1_3_0,c2_3_0,c3_3_0,c4_3_0⟩ := N0.out.kept G3.out; obtain ⟨c0_3_1,c1_3_1,c2_3_1,c3_3_1,c4_3_1⟩ := N1.out.kept G3.out; go_wp2_with fail
        go_ret
        exact ⟨rfl, G3.out⟩
theorem stmt18 (x : List UInt8) (m p : Int) (l : List T) (sv : Value) (w : World) (hk : KW w) (hf : Fits (.mk 18 x m p l)) (ha : AT w (T.mk 18 x m p l).subs sv) (IH : ∀ u, u ∈ l → AcOK u) :
    Calls Tryz.prog 40 #[.agg #[.int .i64 18, .string ⟨x.toArray⟩, .int .i64 m, .int .i64 p, sv]] w (Sy w (.bool (wellB .act (.mk 18 x m p l)))) := by
  have HE := wellB_only (r := .act) (t := (.mk 18 x m p l)) (c := headB (.mk 18 x m p l) 18 false 0 2) (l := zipR l [(.list .act), .expression]) rfl; have HK := hide hk; have HF := hide hf; have HA := hide ha; cases h0 : headB (.mk 18 x m p l) 18 false 0 2
  · rw [show wellB .act (.mk 18 x m p l) = false by rw [HE, h0]; rfl]
    clear HE; obtain ⟨a,n,c,rfl,hn,hc,hl⟩ := ha.any; clear hk hf ha IH
    go_enter Tryz.func40, Tryz.ntmps40
    go_wp2_with fail; go_at_call 16; refine (head_any (.mk 18 x m p l) _ 18 0 2 false _ (HK.out.kept (by exact gb_alloc (gb_refl w none) _)) HF.out (HA.out.kept (by exact gb_alloc (gb_refl w none) _))).mono ?_; rintro e w1 ⟨rfl, hg1⟩; rw [h0]; have G1 := hide (gb_trans (gb_alloc (gb_refl w none) _) hg1); have B1 := hide ((Box.new w (.mk 18 x m p l) (.slice a n c) 24).kept hg1); obtain ⟨b0_1,b1_1,b2_1,b3_1,b4_1⟩ := B1.out; go_wp2_with fail
    go_ret
    exact ⟨rfl, G1.out⟩
  · obtain ⟨g,o,c,u,_,v,_,rfl,hn,hc,hl,n5,fu,au,n6,fv,av⟩ := ha.two (head_len (n := 2) h0)
    change l = [u, v] at hl
    subst hl; have N0 := hide n5; have HU := hide fu; have AU := hide au; have N1 := hide n6; have HV := hide fv; have AV := hide av; have IU := hide (IH u (by simp)); have IV := hide (IH v (by simp)); clear IH; clear hk hf ha fu au n5 fv av n6; cases h1 : wellB (.list .act) u
    · skip
      rw [show wellB .act (.mk 18 x m p [u, v]) = false by rw [HE, h0]; simp [zipR, h1]]; clear HE
      go_enter Tryz.func40, Tryz.ntmps40
      go_wp2_with fail; go_at_call 16; refine (head_any (.mk 18 x m p [u, v]) _ 18 0 2 false _ (HK.out.kept (by exact gb_alloc (gb_refl w none) _)) HF.out (HA.out.kept (by exact gb_alloc (gb_refl w none) _))).mono ?_; rintro e w1 ⟨rfl, hg1⟩; rw [h0]; have G1 := hide (gb_trans (gb_alloc (gb_refl w none) _) hg1); have B1 := hide ((Box.new w (.mk 18 x m p [u, v]) (.slice (some ⟨g, o, none⟩) 2 c) 24).kept hg1); obtain ⟨b0_1,b1_1,b2_1,b3_1,b4_1⟩ := B1.out; obtain ⟨c0_1_0,c1_1_0,c2_1_0,c3_1_0,c4_1_0⟩ := N0.out.kept G1.out; obtain ⟨c0_1_1,c1_1_1,c2_1_1,c3_1_1,c4_1_1⟩ := N1.out.kept G1.out; go_wp2_with fail; go_at_call 18; refine (IU.out.stmts _ _ (HK.out.kept G1.out) HU.out (AU.out.kept G1.out)).mono ?_; rintro e w2 ⟨rfl, hg2⟩; rw [h1]; have G2 := hide (gb_trans G1.out hg2); have B2 := hide (B1.out.kept hg2); obtain ⟨b0_2,b1_2,b2_2,b3_2,b4_2⟩ := B2.out; obtain ⟨c0_2_0,c1_2_0,c2_2_0,c3_2_0,c4_2_0⟩ := N0.out.kept G2.out; obtain ⟨c0_2_1,c1_2_1,c2_2_1,c3_2_1,c4_2_1⟩ := N1.out.kept G2.out; go_wp2_with fail
      go_ret
      exact ⟨rfl, G2.out⟩
    · skip
      cases h2 : wellB .expression v
      · skip
        rw [show wellB .act (.mk 18 x m p [u, v]) = false by rw [HE, h0]; simp [zipR, h1, h2]]; clear HE
        go_enter Tryz.func40, Tryz.ntmps40
        go_wp2_with fail; go_at_call 16; refine (head_any (.mk 18 x m p [u, v]) _ 18 0 2 false _ (HK.out.kept (by exact gb_alloc (gb_refl w none) _)) HF.out (HA.out.kept (by exact gb_alloc (gb_refl w none) _))).mono ?_; rintro e w1 ⟨rfl, hg1⟩; rw [h0]; have G1 := hide (gb_trans (gb_alloc (gb_refl w none) _) hg1); have B1 := hide ((Box.new w (.mk 18 x m p [u, v]) (.slice (some ⟨g, o, none⟩) 2 c) 24).kept hg1); obtain ⟨b0_1,b1_1,b2_1,b3_1,b4_1⟩ := B1.out; obtain ⟨c0_1_0,c1_1_0,c2_1_0,c3_1_0,c4_1_0⟩ := N0.out.kept G1.out; obtain ⟨c0_1_1,c1_1_1,c2_1_1,c3_1_1,c4_1_1⟩ := N1.out.kept G1.out; go_wp2_with fail; go_at_call 18; refine (IU.out.stmts _ _ (HK.out.kept G1.out) HU.out (AU.out.kept G1.out)).mono ?_; rintro e w2 ⟨rfl, hg2⟩; rw [h1]; have G2 := hide (gb_trans G1.out hg2); have B2 := hide (B1.out.kept hg2); obtain ⟨b0_2,b1_2,b2_2,b3_2,b4_2⟩ := B2.out; obtain ⟨c0_2_0,c1_2_0,c2_2_0,c3_2_0,c4_2_0⟩ := N0.out.kept G2.out; obtain ⟨c0_2_1,c1_2_1,c2_2_1,c3_2_1,c4_2_1⟩ := N1.out.kept G2.out; go_wp2_with fail; go_at_call 37; refine ((sh_all _).expr _ _ (HK.out.kept G2.out) HV.out (AV.out.kept G2.out)).mono ?_; rintro e w3 ⟨rfl, hg3⟩; rw [h2]; have G3 := hide (gb_trans G2.out hg3); have B3 := hide (B2.out.kept hg3); obtain ⟨b0_3,b1_3,b2_3,b3_3,b4_3⟩ := B3.out; obtain ⟨c0_3_0,c1_3_0,c2_3_0,c3_3_0,c4_3_0⟩ := N0.out.kept G3.out; obtain ⟨c0_3_1,c1_3_1,c2_3_1,c3_3_1,c4_3_1⟩ := N1.out.kept G3.out; go_wp2_with fail
        go_ret
        exact ⟨rfl, G3.out⟩
      · skip
        rw [show wellB .act (.mk 18 x m p [u, v]) = true by rw [HE, h0]; simp [zipR, h1, h2]]; clear HE
        go_enter Tryz.func40, Tryz.ntmps40
        go_wp2_with fail; go_at_call 16; refine (head_any (.mk 18 x m p [u, v]) _ 18 0 2 false _ (HK.out.kept (by exact gb_alloc (gb_refl w none) _)) HF.out (HA.out.kept (by exact gb_alloc (gb_refl w none) _))).mono ?_; rintro e w1 ⟨rfl, hg1⟩; rw [h0]; have G1 := hide (gb_trans (gb_alloc (gb_refl w none) _) hg1); have B1 := hide ((Box.new w (.mk 18 x m p [u, v]) (.slice (some ⟨g, o, none⟩) 2 c) 24).kept hg1); obtain ⟨b0_1,b1_1,b2_1,b3_1,b4_1⟩ := B1.out; obtain ⟨c0_1_0,c1_1_0,c2_1_0,c3_1_0,c4_1_0⟩ := N0.out.kept G1.out; obtain ⟨c0_1_1,c1_1_1,c2_1_1,c3_1_1,c4_1_1⟩ := N1.out.kept G1.out; go_wp2_with fail; go_at_call 18; refine (IU.out.stmts _ _ (HK.out.kept G1.out) HU.out (AU.out.kept G1.out)).mono ?_; rintro e w2 ⟨rfl, hg2⟩; rw [h1]; have G2 := hide (gb_trans G1.out hg2); have B2 := hide (B1.out.kept hg2); obtain ⟨b0_2,b1_2,b2_2,b3_2,b4_2⟩ := B2.out; obtain ⟨c0_2_0,c1_2_0,c2_2_0,c3_2_0,c4_2_0⟩ := N0.out.kept G2.out; obtain ⟨c0_2_1,c1_2_1,c2_2_1,c3_2_1,c4_2_1⟩ := N1.out.kept G2.out; go_wp2_with fail; go_at_call 37; refine ((sh_all _).expr _ _ (HK.out.kept G2.out) HV.out (AV.out.kept G2.out)).mono ?_; rintro e w3 ⟨rfl, hg3⟩; rw [h2]; have G3 := hide (gb_trans G2.out hg3); have B3 := hide (B2.out.kept hg3); obtain ⟨b0_3,b1_3,b2_3,b3_3,b4_3⟩ := B3.out; obtain ⟨c0_3_0,c1_3_0,c2_3_0,c3_3_0,c4_3_0⟩ := N0.out.kept G3.out; obtain ⟨c0_3_1,c1_3_1,c2_3_1,c3_3_1,c4_3_1⟩ := N1.out.kept G3.out; go_wp2_with fail
        go_ret
        exact ⟨rfl, G3.out⟩
theorem stmt20 (x : List UInt8) (m p : Int) (l : List T) (sv : Value) (w : World) (hk : KW w) (hf : Fits (.mk 20 x m p l)) (ha : AT w (T.mk 20 x m p l).subs sv) (IH : ∀ u, u ∈ l → AcOK u) :
    Calls Tryz.prog 40 #[.agg #[.int .i64 20, .string ⟨x.toArray⟩, .int .i64 m, .int .i64 p, sv]] w (Sy w (.bool (wellB .act (.mk 20 x m p l)))) := by
  have HE := wellB_only (r := .act) (t := (.mk 20 x m p l)) (c := headB (.mk 20 x m p l) 20 false 0 1) (l := zipR l [.designator]) rfl; have HK := hide hk; have HF := hide hf; have HA := hide ha; cases h0 : headB (.mk 20 x m p l) 20 false 0 1
  · rw [show wellB .act (.mk 20 x m p l) = false by rw [HE, h0]; rfl]
    clear HE; obtain ⟨a,n,c,rfl,hn,hc,hl⟩ := ha.any; clear hk hf ha IH
    go_enter Tryz.func40, Tryz.ntmps40
    go_wp2_with fail; go_at_call 16; refine (head_any (.mk 20 x m p l) _ 20 0 1 false _ (HK.out.kept (by exact gb_alloc (gb_refl w none) _)) HF.out (HA.out.kept (by exact gb_alloc (gb_refl w none) _))).mono ?_; rintro e w1 ⟨rfl, hg1⟩; rw [h0]; have G1 := hide (gb_trans (gb_alloc (gb_refl w none) _) hg1); have B1 := hide ((Box.new w (.mk 20 x m p l) (.slice a n c) 24).kept hg1); obtain ⟨b0_1,b1_1,b2_1,b3_1,b4_1⟩ := B1.out; go_wp2_with fail
    go_ret
    exact ⟨rfl, G1.out⟩
  · obtain ⟨g,o,c,u,_,rfl,hn,hc,hl,n5,fu,au⟩ := ha.one (head_len (n := 1) h0)
    change l = [u] at hl
    subst hl; have N0 := hide n5; have HU := hide fu; have AU := hide au; clear IH; clear hk hf ha fu au n5; cases h1 : wellB .designator u
    · skip
      rw [show wellB .act (.mk 20 x m p [u]) = false by rw [HE, h0]; simp [zipR, h1]]; clear HE
      go_enter Tryz.func40, Tryz.ntmps40
      go_wp2_with fail; go_at_call 16; refine (head_any (.mk 20 x m p [u]) _ 20 0 1 false _ (HK.out.kept (by exact gb_alloc (gb_refl w none) _)) HF.out (HA.out.kept (by exact gb_alloc (gb_refl w none) _))).mono ?_; rintro e w1 ⟨rfl, hg1⟩; rw [h0]; have G1 := hide (gb_trans (gb_alloc (gb_refl w none) _) hg1); have B1 := hide ((Box.new w (.mk 20 x m p [u]) (.slice (some ⟨g, o, none⟩) 1 c) 24).kept hg1); obtain ⟨b0_1,b1_1,b2_1,b3_1,b4_1⟩ := B1.out; obtain ⟨c0_1_0,c1_1_0,c2_1_0,c3_1_0,c4_1_0⟩ := N0.out.kept G1.out; go_wp2_with fail; go_at_call 71; refine ((sh_all _).desig _ _ (HK.out.kept G1.out) HU.out (AU.out.kept G1.out)).mono ?_; rintro e w2 ⟨rfl, hg2⟩; rw [h1]; have G2 := hide (gb_trans G1.out hg2); have B2 := hide (B1.out.kept hg2); obtain ⟨b0_2,b1_2,b2_2,b3_2,b4_2⟩ := B2.out; obtain ⟨c0_2_0,c1_2_0,c2_2_0,c3_2_0,c4_2_0⟩ := N0.out.kept G2.out; go_wp2_with fail
      go_ret
      exact ⟨rfl, G2.out⟩
    · skip
      rw [show wellB .act (.mk 20 x m p [u]) = true by rw [HE, h0]; simp [zipR, h1]]; clear HE
      go_enter Tryz.func40, Tryz.ntmps40
      go_wp2_with fail; go_at_call 16; refine (head_any (.mk 20 x m p [u]) _ 20 0 1 false _ (HK.out.kept (by exact gb_alloc (gb_refl w none) _)) HF.out (HA.out.kept (by exact gb_alloc (gb_refl w none) _))).mono ?_; rintro e w1 ⟨rfl, hg1⟩; rw [h0]; have G1 := hide (gb_trans (gb_alloc (gb_refl w none) _) hg1); have B1 := hide ((Box.new w (.mk 20 x m p [u]) (.slice (some ⟨g, o, none⟩) 1 c) 24).kept hg1); obtain ⟨b0_1,b1_1,b2_1,b3_1,b4_1⟩ := B1.out; obtain ⟨c0_1_0,c1_1_0,c2_1_0,c3_1_0,c4_1_0⟩ := N0.out.kept G1.out; go_wp2_with fail; go_at_call 71; refine ((sh_all _).desig _ _ (HK.out.kept G1.out) HU.out (AU.out.kept G1.out)).mono ?_; rintro e w2 ⟨rfl, hg2⟩; rw [h1]; have G2 := hide (gb_trans G1.out hg2); have B2 := hide (B1.out.kept hg2); obtain ⟨b0_2,b1_2,b2_2,b3_2,b4_2⟩ := B2.out; obtain ⟨c0_2_0,c1_2_0,c2_2_0,c3_2_0,c4_2_0⟩ := N0.out.kept G2.out; go_wp2_with fail
      go_ret
      exact ⟨rfl, G2.out⟩
theorem stmt22 (x : List UInt8) (m p : Int) (l : List T) (sv : Value) (w : World) (hk : KW w) (hf : Fits (.mk 22 x m p l)) (ha : AT w (T.mk 22 x m p l).subs sv) (IH : ∀ u, u ∈ l → AcOK u) :
    Calls Tryz.prog 40 #[.agg #[.int .i64 22, .string ⟨x.toArray⟩, .int .i64 m, .int .i64 p, sv]] w (Sy w (.bool (wellB .act (.mk 22 x m p l)))) := by
  have HE := wellB_only (r := .act) (t := (.mk 22 x m p l)) (c := headB (.mk 22 x m p l) 22 false 0 1) (l := zipR l [.designator]) rfl; have HK := hide hk; have HF := hide hf; have HA := hide ha; cases h0 : headB (.mk 22 x m p l) 22 false 0 1
  · rw [show wellB .act (.mk 22 x m p l) = false by rw [HE, h0]; rfl]
    clear HE; obtain ⟨a,n,c,rfl,hn,hc,hl⟩ := ha.any; clear hk hf ha IH
    go_enter Tryz.func40, Tryz.ntmps40
    go_wp2_with fail; go_at_call 16; refine (head_any (.mk 22 x m p l) _ 22 0 1 false _ (HK.out.kept (by exact gb_alloc (gb_refl w none) _)) HF.out (HA.out.kept (by exact gb_alloc (gb_refl w none) _))).mono ?_; rintro e w1 ⟨rfl, hg1⟩; rw [h0]; have G1 := hide (gb_trans (gb_alloc (gb_refl w none) _) hg1); have B1 := hide ((Box.new w (.mk 22 x m p l) (.slice a n c) 24).kept hg1); obtain ⟨b0_1,b1_1,b2_1,b3_1,b4_1⟩ := B1.out; go_wp2_with fail
    go_ret
    exact ⟨rfl, G1.out⟩
  · obtain ⟨g,o,c,u,_,rfl,hn,hc,hl,n5,fu,au⟩ := ha.one (head_len (n := 1) h0)
    change l = [u] at hl
    subst hl; have N0 := hide n5; have HU := hide fu; have AU := hide au; clear IH; clear hk hf ha fu au n5; cases h1 : wellB .designator u
    · skip
      rw [show wellB .act (.mk 22 x m p [u]) = false by rw [HE, h0]; simp [zipR, h1]]; clear HE
      go_enter Tryz.func40, Tryz.ntmps40
      go_wp2_with fail; go_at_call 16; refine (head_any (.mk 22 x m p [u]) _ 22 0 1 false _ (HK.out.kept (by exact gb_alloc (gb_refl w none) _)) HF.out (HA.out.kept (by exact gb_alloc (gb_refl w none) _))).mono ?_; rintro e w1 ⟨rfl, hg1⟩; rw [h0]; have G1 := hide (gb_trans (gb_alloc (gb_refl w none) _) hg1); have B1 := hide ((Box.new w (.mk 22 x m p [u]) (.slice (some ⟨g, o, none⟩) 1 c) 24).kept hg1); obtain ⟨b0_1,b1_1,b2_1,b3_1,b4_1⟩ := B1.out; obtain ⟨c0_1_0,c1_1_0,c2_1_0,c3_1_0,c4_1_0⟩ := N0.out.kept G1.out; go_wp2_with fail; go_at_call 71; refine ((sh_all _).desig _ _ (HK.out.kept G1.out) HU.out (AU.out.kept G1.out)).mono ?_; rintro e w2 ⟨rfl, hg2⟩; rw [h1]; have G2 := hide (gb_trans G1.out hg2); have B2 := hide (B1.out.kept hg2); obtain ⟨b0_2,b1_2,b2_2,b3_2,b4_2⟩ := B2.out; obtain ⟨c0_2_0,c1_2_0,c2_2_0,c3_2_0,c4_2_0⟩ := N0.out.kept G2.out; go_wp2_with fail
      go_ret
      exact ⟨rfl, G2.out⟩
    · skip
      rw [show wellB .act (.mk 22 x m p [u]) = true by rw [HE, h0]; simp [zipR, h1]]; clear HE
      go_enter Tryz.func40, Tryz.ntmps40
      go_wp2_with fail; go_at_call 16; refine (head_any (.mk 22 x m p [u]) _ 22 0 1 false _ (HK.out.kept (by exact gb_alloc (gb_refl w none) _)) HF.out (HA.out.kept (by exact gb_alloc (gb_refl w none) _))).mono ?_; rintro e w1 ⟨rfl, hg1⟩; rw [h0]; have G1 := hide (gb_trans (gb_alloc (gb_refl w none) _) hg1); have B1 := hide ((Box.new w (.mk 22 x m p [u]) (.slice (some ⟨g, o, none⟩) 1 c) 24).kept hg1); obtain ⟨b0_1,b1_1,b2_1,b3_1,b4_1⟩ := B1.out; obtain ⟨c0_1_0,c1_1_0,c2_1_0,c3_1_0,c4_1_0⟩ := N0.out.kept G1.out; go_wp2_with fail; go_at_call 71; refine ((sh_all _).desig _ _ (HK.out.kept G1.out) HU.out (AU.out.kept G1.out)).mono ?_; rintro e w2 ⟨rfl, hg2⟩; rw [h1]; have G2 := hide (gb_trans G1.out hg2); have B2 := hide (B1.out.kept hg2); obtain ⟨b0_2,b1_2,b2_2,b3_2,b4_2⟩ := B2.out; obtain ⟨c0_2_0,c1_2_0,c2_2_0,c3_2_0,c4_2_0⟩ := N0.out.kept G2.out; go_wp2_with fail
      go_ret
      exact ⟨rfl, G2.out⟩
theorem stmt21 (x : List UInt8) (m p : Int) (l : List T) (sv : Value) (w : World) (hk : KW w) (hf : Fits (.mk 21 x m p l)) (ha : AT w (T.mk 21 x m p l).subs sv) (IH : ∀ u, u ∈ l → AcOK u) :
    Calls Tryz.prog 40 #[.agg #[.int .i64 21, .string ⟨x.toArray⟩, .int .i64 m, .int .i64 p, sv]] w (Sy w (.bool (wellB .act (.mk 21 x m p l)))) := by
  have HE := wellB_only (r := .act) (t := (.mk 21 x m p l)) (c := headB (.mk 21 x m p l) 21 false 0 1) (l := zipR l [.expression]) rfl; have HK := hide hk; have HF := hide hf; have HA := hide ha; cases h0 : headB (.mk 21 x m p l) 21 false 0 1
  · rw [show wellB .act (.mk 21 x m p l) = false by rw [HE, h0]; rfl]
    clear HE; obtain ⟨a,n,c,rfl,hn,hc,hl⟩ := ha.any; clear hk hf ha IH
    go_enter Tryz.func40, Tryz.ntmps40
    go_wp2_with fail; go_at_call 16; refine (head_any (.mk 21 x m p l) _ 21 0 1 false _ (HK.out.kept (by exact gb_alloc (gb_refl w none) _)) HF.out (HA.out.kept (by exact gb_alloc (gb_refl w none) _))).mono ?_; rintro e w1 ⟨rfl, hg1⟩; rw [h0]; have G1 := hide (gb_trans (gb_alloc (gb_refl w none) _) hg1); have B1 := hide ((Box.new w (.mk 21 x m p l) (.slice a n c) 24).kept hg1); obtain ⟨b0_1,b1_1,b2_1,b3_1,b4_1⟩ := B1.out; go_wp2_with fail
    go_ret
    exact ⟨rfl, G1.out⟩
  · obtain ⟨g,o,c,u,_,rfl,hn,hc,hl,n5,fu,au⟩ := ha.one (head_len (n := 1) h0)
    change l = [u] at hl
    subst hl; have N0 := hide n5; have HU := hide fu; have AU := hide au; clear IH; clear hk hf ha fu au n5; cases h1 : wellB .expression u
    · skip
      rw [show wellB .act (.mk 21 x m p [u]) = false by rw [HE, h0]; simp [zipR, h1]]; clear HE
      go_enter Tryz.func40, Tryz.ntmps40
      go_wp2_with fail; go_at_call 16; refine (head_any (.mk 21 x m p [u]) _ 21 0 1 false _ (HK.out.kept (by exact gb_alloc (gb_refl w none) _)) HF.out (HA.out.kept (by exact gb_alloc (gb_refl w none) _))).mono ?_; rintro e w1 ⟨rfl, hg1⟩; rw [h0]; have G1 := hide (gb_trans (gb_alloc (gb_refl w none) _) hg1); have B1 := hide ((Box.new w (.mk 21 x m p [u]) (.slice (some ⟨g, o, none⟩) 1 c) 24).kept hg1); obtain ⟨b0_1,b1_1,b2_1,b3_1,b4_1⟩ := B1.out; obtain ⟨c0_1_0,c1_1_0,c2_1_0,c3_1_0,c4_1_0⟩ := N0.out.kept G1.out; go_wp2_with fail; go_at_call 37; refine ((sh_all _).expr _ _ (HK.out.kept G1.out) HU.out (AU.out.kept G1.out)).mono ?_; rintro e w2 ⟨rfl, hg2⟩; rw [h1]; have G2 := hide (gb_trans G1.out hg2); have B2 := hide (B1.out.kept hg2); obtain ⟨b0_2,b1_2,b2_2,b3_2,b4_2⟩ := B2.out; obtain ⟨c0_2_0,c1_2_0,c2_2_0,c3_2_0,c4_2_0⟩ := N0.out.kept G2.out; go_wp2_with fail
      go_ret
      exact ⟨rfl, G2.out⟩
    · skip
      rw [show wellB .act (.mk 21 x m p [u]) = true by rw [HE, h0]; simp [zipR, h1]]; clear HE
      go_enter Tryz.func40, Tryz.ntmps40
      go_wp2_with fail; go_at_call 16; refine (head_any (.mk 21 x m p [u]) _ 21 0 1 false _ (HK.out.kept (by exact gb_alloc (gb_refl w none) _)) HF.out (HA.out.kept (by exact gb_alloc (gb_refl w none) _))).mono ?_; rintro e w1 ⟨rfl, hg1⟩; rw [h0]; have G1 := hide (gb_trans (gb_alloc (gb_refl w none) _) hg1); have B1 := hide ((Box.new w (.mk 21 x m p [u]) (.slice (some ⟨g, o, none⟩) 1 c) 24).kept hg1); obtain ⟨b0_1,b1_1,b2_1,b3_1,b4_1⟩ := B1.out; obtain ⟨c0_1_0,c1_1_0,c2_1_0,c3_1_0,c4_1_0⟩ := N0.out.kept G1.out; go_wp2_with fail; go_at_call 37; refine ((sh_all _).expr _ _ (HK.out.kept G1.out) HU.out (AU.out.kept G1.out)).mono ?_; rintro e w2 ⟨rfl, hg2⟩; rw [h1]; have G2 := hide (gb_trans G1.out hg2); have B2 := hide (B1.out.kept hg2); obtain ⟨b0_2,b1_2,b2_2,b3_2,b4_2⟩ := B2.out; obtain ⟨c0_2_0,c1_2_0,c2_2_0,c3_2_0,c4_2_0⟩ := N0.out.kept G2.out; go_wp2_with fail
      go_ret
      exact ⟨rfl, G2.out⟩
theorem stmt23 (x : List UInt8) (m p : Int) (l : List T) (sv : Value) (w : World) (hk : KW w) (hf : Fits (.mk 23 x m p l)) (ha : AT w (T.mk 23 x m p l).subs sv) (IH : ∀ u, u ∈ l → AcOK u) :
    Calls Tryz.prog 40 #[.agg #[.int .i64 23, .string ⟨x.toArray⟩, .int .i64 m, .int .i64 p, sv]] w (Sy w (.bool (wellB .act (.mk 23 x m p l)))) := by
  have HE := wellB_only (r := .act) (t := (.mk 23 x m p l)) (c := headB (.mk 23 x m p l) 23 false 0 1) (l := zipR l [.expression]) rfl; have HK := hide hk; have HF := hide hf; have HA := hide ha; cases h0 : headB (.mk 23 x m p l) 23 false 0 1
  · rw [show wellB .act (.mk 23 x m p l) = false by rw [HE, h0]; rfl]
    clear HE; obtain ⟨a,n,c,rfl,hn,hc,hl⟩ := ha.any; clear hk hf ha IH
    go_enter Tryz.func40, Tryz.ntmps40
    go_wp2_with fail; go_at_call 16; refine (head_any (.mk 23 x m p l) _ 23 0 1 false _ (HK.out.kept (by exact gb_alloc (gb_refl w none) _)) HF.out (HA.out.kept (by exact gb_alloc (gb_refl w none) _))).mono ?_; rintro e w1 ⟨rfl, hg1⟩; rw [h0]; have G1 := hide (gb_trans (gb_alloc (gb_refl w none) _) hg1); have B1 := hide ((Box.new w (.mk 23 x m p l) (.slice a n c) 24).kept hg1); obtain ⟨b0_1,b1_1,b2_1,b3_1,b4_1⟩ := B1.out; go_wp2_with fail
    go_ret
    exact ⟨rfl, G1.out⟩
  · obtain ⟨g,o,c,u,_,rfl,hn,hc,hl,n5,fu,au⟩ := ha.one (head_len (n := 1) h0)
    change l = [u] at hl
    subst hl; have N0 := hide n5; have HU := hide fu; have AU := hide au; clear IH; clear hk hf ha fu au n5; cases h1 : wellB .expression u
    · skip
      rw [show wellB .act (.mk 23 x m p [u]) = false by rw [HE, h0]; simp [zipR, h1]]; clear HE
      go_enter Tryz.func40, Tryz.ntmps40
      go_wp2_with fail; go_at_call 16; refine (head_any (.mk 23 x m p [u]) _ 23 0 1 false _ (HK.out.kept (by exact gb_alloc (gb_refl w none) _)) HF.out (HA.out.kept (by exact gb_alloc (gb_refl w none) _))).mono ?_; rintro e w1 ⟨rfl, hg1⟩; rw [h0]; have G1 := hide (gb_trans (gb_alloc (gb_refl w none) _) hg1); have B1 := hide ((Box.new w (.mk 23 x m p [u]) (.slice (some ⟨g, o, none⟩) 1 c) 24).kept hg1); obtain ⟨b0_1,b1_1,b2_1,b3_1,b4_1⟩ := B1.out; obtain ⟨c0_1_0,c1_1_0,c2_1_0,c3_1_0,c4_1_0⟩ := N0.out.kept G1.out; go_wp2_with fail; go_at_call 37; refine ((sh_all _).expr _ _ (HK.out.kept G1.out) HU.out (AU.out.kept G1.out)).mono ?_; rintro e w2 ⟨rfl, hg2⟩; rw [h1]; have G2 := hide (gb_trans G1.out hg2); have B2 := hide (B1.out.kept hg2); obtain ⟨b0_2,b1_2,b2_2,b3_2,b4_2⟩ := B2.out; obtain ⟨c0_2_0,c1_2_0,c2_2_0,c3_2_0,c4_2_0⟩ := N0.out.kept G2.out; go_wp2_with fail
      go_ret
      exact ⟨rfl, G2.out⟩
    · skip
      rw [show wellB .act (.mk 23 x m p [u]) = true by rw [HE, h0]; simp [zipR, h1]]; clear HE
      go_enter Tryz.func40, Tryz.ntmps40
      go_wp2_with fail; go_at_call 16; refine (head_any (.mk 23 x m p [u]) _ 23 0 1 false _ (HK.out.kept (by exact gb_alloc (gb_refl w none) _)) HF.out (HA.out.kept (by exact gb_alloc (gb_refl w none) _))).mono ?_; rintro e w1 ⟨rfl, hg1⟩; rw [h0]; have G1 := hide (gb_trans (gb_alloc (gb_refl w none) _) hg1); have B1 := hide ((Box.new w (.mk 23 x m p [u]) (.slice (some ⟨g, o, none⟩) 1 c) 24).kept hg1); obtain ⟨b0_1,b1_1,b2_1,b3_1,b4_1⟩ := B1.out; obtain ⟨c0_1_0,c1_1_0,c2_1_0,c3_1_0,c4_1_0⟩ := N0.out.kept G1.out; go_wp2_with fail; go_at_call 37; refine ((sh_all _).expr _ _ (HK.out.kept G1.out) HU.out (AU.out.kept G1.out)).mono ?_; rintro e w2 ⟨rfl, hg2⟩; rw [h1]; have G2 := hide (gb_trans G1.out hg2); have B2 := hide (B1.out.kept hg2); obtain ⟨b0_2,b1_2,b2_2,b3_2,b4_2⟩ := B2.out; obtain ⟨c0_2_0,c1_2_0,c2_2_0,c3_2_0,c4_2_0⟩ := N0.out.kept G2.out; go_wp2_with fail
      go_ret
      exact ⟨rfl, G2.out⟩
theorem stmt15 (x : List UInt8) (m p : Int) (l : List T) (sv : Value) (w : World) (hk : KW w) (hf : Fits (.mk 15 x m p l)) (ha : AT w (T.mk 15 x m p l).subs sv) (IH : ∀ u, u ∈ l → AcOK u) :
    Calls Tryz.prog 40 #[.agg #[.int .i64 15, .string ⟨x.toArray⟩, .int .i64 m, .int .i64 p, sv]] w (Sy w (.bool (wellB .act (.mk 15 x m p l)))) := by
  have HE := wellB_only (r := .act) (t := (.mk 15 x m p l)) (c := headB (.mk 15 x m p l) 15 false 0 (-1) && decide (0 < l.length)) (l := firstR (.mk 15 x m p l) .designator .expression) rfl; have HK := hide hk; have HF := hide hf; have HA := hide ha; cases h0 : headB (.mk 15 x m p l) 15 false 0 (-1)
  · rw [show wellB .act (.mk 15 x m p l) = false by rw [HE, h0]; rfl]
    clear HE; obtain ⟨a,n,c,rfl,hn,hc,_⟩ := ha.any; clear hk hf ha IH
    go_enter Tryz.func40, Tryz.ntmps40
    go_wp2_with fail; go_at_call 16; refine (head_any (.mk 15 x m p l) _ 15 0 (-1) false _ (HK.out.kept (by exact gb_alloc (gb_refl w none) _)) HF.out (HA.out.kept (by exact gb_alloc (gb_refl w none) _))).mono ?_; rintro e w1 ⟨rfl, hg1⟩; rw [h0]; have G1 := hide (gb_trans (gb_alloc (gb_refl w none) _) hg1); have B1 := hide ((Box.new w (.mk 15 x m p l) (.slice a n c) 24).kept hg1); obtain ⟨b0_1,b1_1,b2_1,b3_1,b4_1⟩ := B1.out; go_wp2_with fail
    go_ret
    exact ⟨rfl, G1.out⟩
  · match l, ha, HE, h0, HF, HA, IH with
    | [], ha, HE, h0, HF, HA, IH =>
      rw [show wellB .act (.mk 15 x m p []) = false by rw [HE, h0]; rfl]; clear HE; obtain ⟨a,c,rfl,hc,_⟩ := ha.zero rfl; clear hk hf ha IH
      go_enter Tryz.func40, Tryz.ntmps40
      go_wp2_with fail; go_at_call 16; refine (head_any (.mk 15 x m p []) _ 15 0 (-1) false _ (HK.out.kept (by exact gb_alloc (gb_refl w none) _)) HF.out (HA.out.kept (by exact gb_alloc (gb_refl w none) _))).mono ?_; rintro e w1 ⟨rfl, hg1⟩; rw [h0]; have G1 := hide (gb_trans (gb_alloc (gb_refl w none) _) hg1); have B1 := hide ((Box.new w (.mk 15 x m p []) (.slice a 0 c) 24).kept hg1); obtain ⟨b0_1,b1_1,b2_1,b3_1,b4_1⟩ := B1.out; go_wp2_with fail
      go_ret
      exact ⟨rfl, G1.out⟩
    | u :: r, ha, HE, h0, HF, HA, IH =>
      obtain ⟨g,o,c,_,rfl,hn,hc,n5,fu,au,ar⟩ := AT.cons ha; have N0 := hide n5; have HU := hide fu; have AU := hide au; have IU := hide (IH u (by simp)); have IR := hide (fun v (hv : v ∈ r) => IH v (List.mem_cons_of_mem _ hv)); clear hk hf ha IH fu au n5
      rcases Nat.lt_or_ge 1 c with hc1 | hc1
      · have AR := hide ar
        clear ar; cases h1 : wellB .designator u
        · skip
          rw [show wellB .act (.mk 15 x m p (u :: r)) = false by rw [HE, h0]; simp [firstR, eachR, T.subs, List.all_map, Function.comp_def, h1]]; clear HE
          go_enter Tryz.func40, Tryz.ntmps40
          go_wp2_with fail; go_at_call 16; refine (head_any (.mk 15 x m p (u :: r)) _ 15 0 (-1) false _ (HK.out.kept (by exact gb_alloc (gb_refl w none) _)) HF.out (HA.out.kept (by exact gb_alloc (gb_refl w none) _))).mono ?_; rintro e w1 ⟨rfl, hg1⟩; rw [h0]; have G1 := hide (gb_trans (gb_alloc (gb_refl w none) _) hg1); have B1 := hide ((Box.new w (.mk 15 x m p (u :: r)) (.slice (some ⟨g, o, none⟩) (r.length + 1) c) 24).kept hg1); obtain ⟨b0_1,b1_1,b2_1,b3_1,b4_1⟩ := B1.out; obtain ⟨c0_1_0,c1_1_0,c2_1_0,c3_1_0,c4_1_0⟩ := N0.out.kept G1.out; go_wp2_with fail; go_at_call 71; refine ((sh_all _).desig _ _ (HK.out.kept G1.out) HU.out (AU.out.kept G1.out)).mono ?_; rintro e w2 ⟨rfl, hg2⟩; rw [h1]; have G2 := hide (gb_trans G1.out hg2); have B2 := hide (B1.out.kept hg2); obtain ⟨b0_2,b1_2,b2_2,b3_2,b4_2⟩ := B2.out; obtain ⟨c0_2_0,c1_2_0,c2_2_0,c3_2_0,c4_2_0⟩ := N0.out.kept G2.out; go_wp2_with fail
          go_ret
          exact ⟨rfl, G2.out⟩
        · skip
          cases h2 : r.all (wellB .expression)
          · skip
            rw [show wellB .act (.mk 15 x m p (u :: r)) = false by rw [HE, h0]; simp [firstR, eachR, T.subs, List.all_map, Function.comp_def, h1, h2]]; clear HE
            go_enter Tryz.func40, Tryz.ntmps40
            go_wp2_with fail; go_at_call 16; refine (head_any (.mk 15 x m p (u :: r)) _ 15 0 (-1) false _ (HK.out.kept (by exact gb_alloc (gb_refl w none) _)) HF.out (HA.out.kept (by exact gb_alloc (gb_refl w none) _))).mono ?_; rintro e w1 ⟨rfl, hg1⟩; rw [h0]; have G1 := hide (gb_trans (gb_alloc (gb_refl w none) _) hg1); have B1 := hide ((Box.new w (.mk 15 x m p (u :: r)) (.slice (some ⟨g, o, none⟩) (r.length + 1) c) 24).kept hg1); obtain ⟨b0_1,b1_1,b2_1,b3_1,b4_1⟩ := B1.out; obtain ⟨c0_1_0,c1_1_0,c2_1_0,c3_1_0,c4_1_0⟩ := N0.out.kept G1.out; go_wp2_with fail; go_at_call 71; refine ((sh_all _).desig _ _ (HK.out.kept G1.out) HU.out (AU.out.kept G1.out)).mono ?_; rintro e w2 ⟨rfl, hg2⟩; rw [h1]; have G2 := hide (gb_trans G1.out hg2); have B2 := hide (B1.out.kept hg2); obtain ⟨b0_2,b1_2,b2_2,b3_2,b4_2⟩ := B2.out; obtain ⟨c0_2_0,c1_2_0,c2_2_0,c3_2_0,c4_2_0⟩ := N0.out.kept G2.out; go_wp2_with fail; go_at_call 72; refine (exprsShaped_any _ _ _ (HK.out.kept G2.out) (fun v _ => sh_all v) (AR.out.kept G2.out)).mono ?_; rintro e w3 ⟨rfl, hg3⟩; rw [h2]; have G3 := hide (gb_trans G2.out hg3); have B3 := hide (B2.out.kept hg3); obtain ⟨b0_3,b1_3,b2_3,b3_3,b4_3⟩ := B3.out; obtain ⟨c0_3_0,c1_3_0,c2_3_0,c3_3_0,c4_3_0⟩ := N0.out.kept G3.out; go_wp2_with fail
            go_ret
            exact ⟨rfl, G3.out⟩
          · skip
            rw [show wellB .act (.mk 15 x m p (u :: r)) = true by rw [HE, h0]; simp [firstR, eachR, T.subs, List.all_map, Function.comp_def, h1, h2]]; clear HE
            go_enter Tryz.func40, Tryz.ntmps40
            go_wp2_with fail; go_at_call 16; refine (head_any (.mk 15 x m p (u :: r)) _ 15 0 (-1) false _ (HK.out.kept (by exact gb_alloc (gb_refl w none) _)) HF.out (HA.out.kept (by exact gb_alloc (gb_refl w none) _))).mono ?_; rintro e w1 ⟨rfl, hg1⟩; rw [h0]; have G1 := hide (gb_trans (gb_alloc (gb_refl w none) _) hg1); have B1 := hide ((Box.new w (.mk 15 x m p (u :: r)) (.slice (some ⟨g, o, none⟩) (r.length + 1) c) 24).kept hg1); obtain ⟨b0_1,b1_1,b2_1,b3_1,b4_1⟩ := B1.out; obtain ⟨c0_1_0,c1_1_0,c2_1_0,c3_1_0,c4_1_0⟩ := N0.out.kept G1.out; go_wp2_with fail; go_at_call 71; refine ((sh_all _).desig _ _ (HK.out.kept G1.out) HU.out (AU.out.kept G1.out)).mono ?_; rintro e w2 ⟨rfl, hg2⟩; rw [h1]; have G2 := hide (gb_trans G1.out hg2); have B2 := hide (B1.out.kept hg2); obtain ⟨b0_2,b1_2,b2_2,b3_2,b4_2⟩ := B2.out; obtain ⟨c0_2_0,c1_2_0,c2_2_0,c3_2_0,c4_2_0⟩ := N0.out.kept G2.out; go_wp2_with fail; go_at_call 72; refine (exprsShaped_any _ _ _ (HK.out.kept G2.out) (fun v _ => sh_all v) (AR.out.kept G2.out)).mono ?_; rintro e w3 ⟨rfl, hg3⟩; rw [h2]; have G3 := hide (gb_trans G2.out hg3); have B3 := hide (B2.out.kept hg3); obtain ⟨b0_3,b1_3,b2_3,b3_3,b4_3⟩ := B3.out; obtain ⟨c0_3_0,c1_3_0,c2_3_0,c3_3_0,c4_3_0⟩ := N0.out.kept G3.out; go_wp2_with fail
            go_ret
            exact ⟨rfl, G3.out⟩
      · obtain rfl : c = 1 := by omega
        obtain rfl : r = [] := List.eq_nil_of_length_eq_zero (by omega); have AR : Hid (AT w [] (.slice (some ⟨g, o, none⟩) 0 0)) := AT.nil _ _ (Nat.zero_le _); clear ar; cases h1 : wellB .designator u
        · skip
          rw [show wellB .act (.mk 15 x m p (u :: [])) = false by rw [HE, h0]; simp [firstR, eachR, T.subs, h1]]; clear HE
          go_enter Tryz.func40, Tryz.ntmps40
          go_wp2_with fail; go_at_call 16; refine (head_any (.mk 15 x m p (u :: [])) _ 15 0 (-1) false _ (HK.out.kept (by exact gb_alloc (gb_refl w none) _)) HF.out (HA.out.kept (by exact gb_alloc (gb_refl w none) _))).mono ?_; rintro e w1 ⟨rfl, hg1⟩; rw [h0]; have G1 := hide (gb_trans (gb_alloc (gb_refl w none) _) hg1); have B1 := hide ((Box.new w (.mk 15 x m p (u :: [])) (.slice (some ⟨g, o, none⟩) 1 1) 24).kept hg1); obtain ⟨b0_1,b1_1,b2_1,b3_1,b4_1⟩ := B1.out; obtain ⟨c0_1_0,c1_1_0,c2_1_0,c3_1_0,c4_1_0⟩ := N0.out.kept G1.out; go_wp2_with fail; go_at_call 71; refine ((sh_all _).desig _ _ (HK.out.kept G1.out) HU.out (AU.out.kept G1.out)).mono ?_; rintro e w2 ⟨rfl, hg2⟩; rw [h1]; have G2 := hide (gb_trans G1.out hg2); have B2 := hide (B1.out.kept hg2); obtain ⟨b0_2,b1_2,b2_2,b3_2,b4_2⟩ := B2.out; obtain ⟨c0_2_0,c1_2_0,c2_2_0,c3_2_0,c4_2_0⟩ := N0.out.kept G2.out; go_wp2_with fail
          go_ret
          exact ⟨rfl, G2.out⟩
        · skip
          have h2 : ([] : List T).all (wellB .expression) = true := rfl
          rw [show wellB .act (.mk 15 x m p (u :: [])) = true by rw [HE, h0]; simp [firstR, eachR, T.subs, h1]]; clear HE
          go_enter Tryz.func40, Tryz.ntmps40
          go_wp2_with fail; go_at_call 16; refine (head_any (.mk 15 x m p (u :: [])) _ 15 0 (-1) false _ (HK.out.kept (by exact gb_alloc (gb_refl w none) _)) HF.out (HA.out.kept (by exact gb_alloc (gb_refl w none) _))).mono ?_; rintro e w1 ⟨rfl, hg1⟩; rw [h0]; have G1 := hide (gb_trans (gb_alloc (gb_refl w none) _) hg1); have B1 := hide ((Box.new w (.mk 15 x m p (u :: [])) (.slice (some ⟨g, o, none⟩) 1 1) 24).kept hg1); obtain ⟨b0_1,b1_1,b2_1,b3_1,b4_1⟩ := B1.out; obtain ⟨c0_1_0,c1_1_0,c2_1_0,c3_1_0,c4_1_0⟩ := N0.out.kept G1.out; go_wp2_with fail; go_at_call 71; refine ((sh_all _).desig _ _ (HK.out.kept G1.out) HU.out (AU.out.kept G1.out)).mono ?_; rintro e w2 ⟨rfl, hg2⟩; rw [h1]; have G2 := hide (gb_trans G1.out hg2); have B2 := hide (B1.out.kept hg2); obtain ⟨b0_2,b1_2,b2_2,b3_2,b4_2⟩ := B2.out; obtain ⟨c0_2_0,c1_2_0,c2_2_0,c3_2_0,c4_2_0⟩ := N0.out.kept G2.out; go_wp2_with fail; go_at_call 72; refine (exprsShaped_any _ _ _ (HK.out.kept G2.out) (fun v _ => sh_all v) (AR.out.kept G2.out)).mono ?_; rintro e w3 ⟨rfl, hg3⟩; rw [h2]; have G3 := hide (gb_trans G2.out hg3); have B3 := hide (B2.out.kept hg3); obtain ⟨b0_3,b1_3,b2_3,b3_3,b4_3⟩ := B3.out; obtain ⟨c0_3_0,c1_3_0,c2_3_0,c3_3_0,c4_3_0⟩ := N0.out.kept G3.out; go_wp2_with fail
          go_ret
          exact ⟨rfl, G3.out⟩
theorem stmt19 (x : List UInt8) (m p : Int) (l : List T) (sv : Value) (w : World) (hk : KW w) (hf : Fits (.mk 19 x m p l)) (ha : AT w (T.mk 19 x m p l).subs sv) :
    Calls Tryz.prog 40 #[.agg #[.int .i64 19, .string ⟨x.toArray⟩, .int .i64 m, .int .i64 p, sv]] w (Sy w (.bool (wellB .act (.mk 19 x m p l)))) := by
  have HE := wellB_only (r := .act) (t := (.mk 19 x m p l)) (c := headB (.mk 19 x m p l) 19 false 0 (-1) && decide (l.length ≤ 1)) (l := eachR l .expression) rfl; have HK := hide hk; have HF := hide hf; have HA := hide ha; obtain ⟨a,n,c,rfl,_,_,hl⟩ := ha.any
  change l.length = n at hl
  subst hl; clear hk ha hf; cases h0 : headB (.mk 19 x m p l) 19 false 0 (-1)
  · rw [show wellB .act (.mk 19 x m p l) = false by rw [HE, h0]; rfl]
    clear HE
    go_enter Tryz.func40, Tryz.ntmps40
    go_wp2_with fail; go_at_call 16; refine (head_any (.mk 19 x m p l) _ 19 0 (-1) false _ (HK.out.kept (by exact gb_alloc (gb_refl w none) _)) HF.out (HA.out.kept (by exact gb_alloc (gb_refl w none) _))).mono ?_; rintro e w1 ⟨rfl, hg1⟩; rw [h0]; have G1 := hide (gb_trans (gb_alloc (gb_refl w none) _) hg1); have B1 := hide ((Box.new w (.mk 19 x m p l) (.slice a l.length c) 24).kept hg1); obtain ⟨b0_1,b1_1,b2_1,b3_1,b4_1⟩ := B1.out; go_wp2_with fail
    go_ret
    exact ⟨rfl, G1.out⟩
  · by_cases h1 : l.length ≤ 1
    · have hall : wellB .act (.mk 19 x m p l) = l.all (wellB .expression) := by rw [HE, h0]; simp [h1, eachR, List.all_map, Function.comp_def]
      have h1 : l.length < 2 := by omega
      cases h2 : l.all (wellB .expression)
      · rw [hall, h2]
        clear HE hall
        go_enter Tryz.func40, Tryz.ntmps40
        go_wp2_with fail; go_at_call 16; refine (head_any (.mk 19 x m p l) _ 19 0 (-1) false _ (HK.out.kept (by exact gb_alloc (gb_refl w none) _)) HF.out (HA.out.kept (by exact gb_alloc (gb_refl w none) _))).mono ?_; rintro e w1 ⟨rfl, hg1⟩; rw [h0]; have G1 := hide (gb_trans (gb_alloc (gb_refl w none) _) hg1); have B1 := hide ((Box.new w (.mk 19 x m p l) (.slice a l.length c) 24).kept hg1); obtain ⟨b0_1,b1_1,b2_1,b3_1,b4_1⟩ := B1.out; go_wp2_with fail; go_at_call 72; refine (exprsShaped_any l _ _ (HK.out.kept G1.out) (fun v _ => sh_all v) (HA.out.kept G1.out)).mono ?_; rintro e w2 ⟨rfl, hg2⟩; rw [h2]; have G2 := hide (gb_trans G1.out hg2); have B2 := hide (B1.out.kept hg2); obtain ⟨b0_2,b1_2,b2_2,b3_2,b4_2⟩ := B2.out; go_wp2_with fail
        go_ret
        exact ⟨rfl, G2.out⟩
      · rw [hall, h2]
        clear HE hall
        go_enter Tryz.func40, Tryz.ntmps40
        go_wp2_with fail; go_at_call 16; refine (head_any (.mk 19 x m p l) _ 19 0 (-1) false _ (HK.out.kept (by exact gb_alloc (gb_refl w none) _)) HF.out (HA.out.kept (by exact gb_alloc (gb_refl w none) _))).mono ?_; rintro e w1 ⟨rfl, hg1⟩; rw [h0]; have G1 := hide (gb_trans (gb_alloc (gb_refl w none) _) hg1); have B1 := hide ((Box.new w (.mk 19 x m p l) (.slice a l.length c) 24).kept hg1); obtain ⟨b0_1,b1_1,b2_1,b3_1,b4_1⟩ := B1.out; go_wp2_with fail; go_at_call 72; refine (exprsShaped_any l _ _ (HK.out.kept G1.out) (fun v _ => sh_all v) (HA.out.kept G1.out)).mono ?_; rintro e w2 ⟨rfl, hg2⟩; rw [h2]; have G2 := hide (gb_trans G1.out hg2); have B2 := hide (B1.out.kept hg2); obtain ⟨b0_2,b1_2,b2_2,b3_2,b4_2⟩ := B2.out; go_wp2_with fail
        go_ret
        exact ⟨rfl, G2.out⟩
    · rw [show wellB .act (.mk 19 x m p l) = false by rw [HE]; simp [h1]]
      clear HE
      have h1 : 2 ≤ l.length := by omega
      go_enter Tryz.func40, Tryz.ntmps40
      go_wp2_with fail; go_at_call 16; refine (head_any (.mk 19 x m p l) _ 19 0 (-1) false _ (HK.out.kept (by exact gb_alloc (gb_refl w none) _)) HF.out (HA.out.kept (by exact gb_alloc (gb_refl w none) _))).mono ?_; rintro e w1 ⟨rfl, hg1⟩; rw [h0]; have G1 := hide (gb_trans (gb_alloc (gb_refl w none) _) hg1); have B1 := hide ((Box.new w (.mk 19 x m p l) (.slice a l.length c) 24).kept hg1); obtain ⟨b0_1,b1_1,b2_1,b3_1,b4_1⟩ := B1.out; go_wp2_with fail
      go_ret
      exact ⟨rfl, G1.out⟩
theorem stmtElse (kd : Int) (x : List UInt8) (m p : Int) (l : List T) (sv : Value) (w : World) (ha : AT w (T.mk kd x m p l).subs sv) (h14 : ¬ kd = 14) (h15 : ¬ kd = 15) (h16 : ¬ kd = 16) (h17 : ¬ kd = 17) (h18 : ¬ kd = 18) (h19 : ¬ kd = 19) (h20 : ¬ kd = 20) (h21 : ¬ kd = 21) (h22 : ¬ kd = 22) (h23 : ¬ kd = 23) :
    Calls Tryz.prog 40 #[.agg #[.int .i64 kd, .string ⟨x.toArray⟩, .int .i64 m, .int .i64 p, sv]] w (Sy w (.bool (wellB .act (.mk kd x m p l)))) := by
  rw [wellB_none (show stepR .act (.mk kd x m p l) = none by simp [stepR, actR, T.kind, h14, h15, h16, h17, h18, h19, h20, h21, h22, h23])]; obtain ⟨_,_,_,rfl,_,_,_⟩ := ha.any; clear ha
  go_enter Tryz.func40, Tryz.ntmps40
  go_wp2_with fail
  go_ret
  exact ⟨rfl, gb_alloc (gb_refl w none) _⟩
end Go.Proofs.YtapfecciakijhaaGreatDoor

/- The document's shapes: lists of acts; IF; every act. -/
namespace Go.Proofs.YtapfecciakijhaaGreatDoor
open Go.RowKit
set_option maxHeartbeats 1000000
set_option maxRecDepth 1000000

theorem all_step {l : List T} {j : Nat} {u : T} {f : T → Bool} (hu : l[j]? = some u) (hb : (l.take j).all f = true) : (l.take (j + 1)).all f = f u := by
  have e9 : l.take (j + 1) = l.take j ++ [u] := by rw [List.take_add_one, hu]; rfl
  rw [e9, List.all_append, hb]; simp
theorem all_false {l : List T} {j : Nat} {f : T → Bool} (h : (l.take (j + 1)).all f = false) : l.all f = false := by
  rw [← List.take_append_drop (j + 1) l, List.all_append, h]; rfl
theorem all_done {l : List T} {j : Nat} {f : T → Bool} (hj : ¬ j < l.length) (h : (l.take j).all f = true) : l.all f = true := by
  rwa [List.take_of_length_le (by omega)] at h

theorem stmts_step (t : T) (sv : Value) (w : World) (hk : KW w) (hf : Fits t) (ha : AT w t.subs sv) (IH : ∀ u, u ∈ t.subs → AcOK u) :
    Calls Tryz.prog 18 #[nodeV t sv] w (Sy w (.bool (wellB (.list .act) t))) := by
  have HE := wellB_only (r := .list .act) (t := t) (c := headB t 1 false 0 (-1)) (l := eachR t.subs .act) rfl; have HK := hide hk; have HF := hide hf; have HA := hide ha; have HI := hide IH; obtain ⟨kd,x,m,p,l⟩ := t; obtain ⟨a,n,c,rfl,_,_,hl⟩ := ha.any
  change l.length = n at hl
  subst hl; clear hk ha hf IH
  change Calls Tryz.prog 18 #[.agg #[.int .i64 kd, .string ⟨x.toArray⟩, .int .i64 m, .int .i64 p, .slice a l.length c]] w _
  cases h0 : headB (.mk kd x m p l) 1 false 0 (-1)
  · rw [show wellB (.list .act) (.mk kd x m p l) = false by rw [HE, h0]; rfl]
    clear HE
    go_enter Tryz.func18, Tryz.ntmps18
    go_wp2_with fail; go_at_call 16; refine (head_any (.mk kd x m p l) _ 1 0 (-1) false _ (HK.out.kept (gb_alloc (gb_refl w none) _)) HF.out (HA.out.kept (gb_alloc (gb_refl w none) _))).mono ?_; rintro e w1 ⟨rfl, hg1⟩; rw [h0]; have G1 := hide (gb_trans (gb_alloc (gb_refl w none) _) hg1); go_wp2_with fail
    go_ret
    exact ⟨rfl, G1.out⟩
  · have HV : Hid (wellB (.list .act) (.mk kd x m p l) = l.all (wellB .act)) := by show _ = _; rw [HE, h0]; simp [eachR, T.subs, List.all_map, Function.comp_def]
    clear HE; rw [HV.out]
    go_enter Tryz.func18, Tryz.ntmps18
    go_wp2_with fail; go_at_call 16; refine (head_any (.mk kd x m p l) _ 1 0 (-1) false _ (HK.out.kept (gb_alloc (gb_refl w none) _)) HF.out (HA.out.kept (gb_alloc (gb_refl w none) _))).mono ?_; rintro e w1 ⟨rfl, hg1⟩; rw [h0]; have G1 := hide (gb_trans (gb_alloc (gb_refl w none) _) hg1); have B1 := hide ((Box.new w (.mk kd x m p l) (.slice a l.length c) 24).kept hg1); clear hg1; go_wp2_with fail
    go_loopw [3] (fun iv wr => ∃ j : Nat, j ≤ l.length ∧ iv = .int .i64 j ∧ Hid ((l.take j).all (wellB .act) = true) ∧ Hid (w.grownBy wr none) ∧ Hid (Box wr w.heap.size (.mk kd x m p l) (.slice a l.length c))) (fun iv _ => l.length - (intOf iv).toNat)
    case atStart => exact ⟨0, Nat.zero_le _, rfl, by show _ = _; simp, G1, B1⟩
    case round =>
      obtain ⟨j,_,rfl,HB,HG,HX⟩ := hrel; obtain ⟨_,_,_,_,_⟩ := HX.out
      by_cases hlt : j < l.length
      · obtain ⟨u, hu⟩ : ∃ u, l[j]? = some u := ⟨_, List.getElem?_eq_getElem hlt⟩
        have hmem : u ∈ l := List.mem_of_getElem? hu; obtain ⟨_,_,su,e1,n5,fu,au⟩ := (HA.out.kept HG.out).node j u hu; subst e1; have HT := hide (all_step hu HB.out); have IU := hide (HI.out u hmem); have HU := hide fu; have AU := hide au; obtain ⟨_,_,_,_,_⟩ := n5; clear hu hmem fu au; cases hv : wellB .act u
        · have HQ : Hid (l.all (wellB .act) = false) := all_false (HT.out.trans hv)
          go_wp2_with fail; go_at_call 40; refine (IU.out.stmt su _ (HK.out.kept HG.out) HU.out AU.out).mono ?_; rintro e w2 ⟨rfl, hg2⟩; rw [hv]; have G2 := hide (gb_trans HG.out hg2); go_wp2_with fail
          go_ret
          exact ⟨by rw [HQ.out]; rfl, G2.out⟩
        · go_wp2_with fail
          go_at_call 40; refine (IU.out.stmt su _ (HK.out.kept HG.out) HU.out AU.out).mono ?_; rintro e w2 ⟨rfl, hg2⟩; rw [hv]; have G2 := hide (gb_trans HG.out hg2); have B2 := hide (HX.out.kept hg2); have HB' : Hid ((l.take (j + 1)).all (wellB .act) = true) := HT.out.trans hv; go_wp2_with fail
          exact ⟨⟨j + 1, by omega, by go_num, HB', G2, B2⟩, by simp [intOf]; omega⟩
      · have HQ := hide (all_done hlt HB.out)
        go_wp2_with fail
        go_ret
        exact ⟨by rw [HQ.out]; rfl, HG.out⟩
end Go.Proofs.YtapfecciakijhaaGreatDoor

/- The document's shapes: IF; every act. -/
namespace Go.Proofs.YtapfecciakijhaaGreatDoor
open Go.RowKit
set_option maxHeartbeats 1000000
set_option maxRecDepth 1000000

/-- Conditions and lists of acts in turn, from one of them on. -/
noncomputable def altFrom : Bool → List T → Bool
  | _, [] => true
  | false, [x] => wellB (.list .act) x
  | false, x :: y :: r => wellB .expression x && altFrom true (y :: r)
  | true, x :: r => wellB (.list .act) x && altFrom false r
theorem drop_get {l : List T} {j : Nat} {u : T} (hu : l[j]? = some u) : l.drop j = u :: l.drop (j + 1) := by
  obtain ⟨h,rfl⟩ := List.getElem?_eq_some_iff.1 hu
  exact List.drop_eq_getElem_cons h
theorem turn_alt : ∀ l : List T, ((turnR l).all fun p => wellB p.2 p.1) = altFrom false l
  | [] => by simp [turnR, altFrom]
  | [x] => by simp [turnR, altFrom]
  | x :: y :: l => by
    have ih := turn_alt l; simp only [turnR, List.all_cons, ih, altFrom]
theorem alt_odd {l : List T} {j : Nat} {u : T} (hu : l[j]? = some u) : altFrom true (l.drop j) = (wellB (.list .act) u && altFrom false (l.drop (j + 1))) := by
  rw [drop_get hu, altFrom]
theorem alt_last {l : List T} {j : Nat} {u : T} (hu : l[j]? = some u) (h : j + 1 = l.length) : altFrom false (l.drop j) = wellB (.list .act) u := by
  rw [drop_get hu, List.drop_eq_nil_of_le (by omega), altFrom]
theorem alt_even {l : List T} {j : Nat} {u : T} (hu : l[j]? = some u) (h : j + 1 < l.length) : altFrom false (l.drop j) = (wellB .expression u && altFrom true (l.drop (j + 1))) := by
  rw [drop_get hu, drop_get (List.getElem?_eq_getElem h), altFrom]

theorem stmt16 (x : List UInt8) (m p : Int) (l : List T) (sv : Value) (w : World) (hk : KW w) (hf : Fits (.mk 16 x m p l)) (ha : AT w (T.mk 16 x m p l).subs sv) (IH : ∀ u, u ∈ l → AcOK u) :
    Calls Tryz.prog 40 #[.agg #[.int .i64 16, .string ⟨x.toArray⟩, .int .i64 m, .int .i64 p, sv]] w (Sy w (.bool (wellB .act (.mk 16 x m p l)))) := by
  have HE := wellB_only (r := .act) (t := (.mk 16 x m p l)) (c := x.isEmpty && decide (2 ≤ l.length) && decide ((l.length : Int) % 2 = m)) (l := turnR l) rfl; have HK := hide hk; have HF := hide hf; have HA := hide ha; have HI := hide IH; obtain ⟨a,n,c,rfl,_,_,hl⟩ := ha.any
  change l.length = n at hl
  subst hl; clear hk ha hf IH; cases h0 : headB (.mk 16 x m p l) 16 false 1 (-1)
  · have hno : (x.isEmpty && decide (2 ≤ l.length) && decide ((l.length : Int) % 2 = m)) = false := by
      cases h1 : (x.isEmpty && decide (2 ≤ l.length) && decide ((l.length : Int) % 2 = m))
      · rfl
      · exfalso
        simp only [Bool.and_eq_true, decide_eq_true_eq] at h1
        unfold headB at h0
        simp only [T.kind, T.num, T.name, h1.1.1] at h0
        simp at h0
        omega
    rw [show wellB .act (.mk 16 x m p l) = false by rw [HE, hno]; rfl]; clear HE hno
    go_enter Tryz.func40, Tryz.ntmps40
    go_wp2_with fail; go_at_call 16; refine (head_any (.mk 16 x m p l) _ 16 1 (-1) false _ (HK.out.kept (by exact gb_alloc (gb_refl w none) _)) HF.out (HA.out.kept (by exact gb_alloc (gb_refl w none) _))).mono ?_; rintro e w1 ⟨rfl, hg1⟩; rw [h0]; have G1 := hide (gb_trans (gb_alloc (gb_refl w none) _) hg1); have B1 := hide ((Box.new w (.mk 16 x m p l) (.slice a l.length c) 24).kept hg1); obtain ⟨b0_1,b1_1,b2_1,b3_1,b4_1⟩ := B1.out; go_wp2_with fail
    go_ret
    exact ⟨rfl, G1.out⟩
  · have hx : x.isEmpty = true := by
      unfold headB at h0
      simp [T.name] at h0
      simp [h0]
    by_cases h1 : 2 ≤ l.length
    · by_cases h2 : (l.length : Int) % 2 = m
      · have HV : Hid (wellB .act (.mk 16 x m p l) = altFrom false l) := by show _ = _; rw [HE, ← turn_alt]; simp [hx, h1, h2]
        rw [HV.out]; clear HE hx
        go_enter Tryz.func40, Tryz.ntmps40
        go_wp2_with fail; go_at_call 16; refine (head_any (.mk 16 x m p l) _ 16 1 (-1) false _ (HK.out.kept (by exact gb_alloc (gb_refl w none) _)) HF.out (HA.out.kept (by exact gb_alloc (gb_refl w none) _))).mono ?_; rintro e w1 ⟨rfl, hg1⟩; rw [h0]; have G1 := hide (gb_trans (gb_alloc (gb_refl w none) _) hg1); have B1 := hide ((Box.new w (.mk 16 x m p l) (.slice a l.length c) 24).kept hg1); obtain ⟨b0_1,b1_1,b2_1,b3_1,b4_1⟩ := B1.out.p; clear hg1
        go_wp2_with fail
        go_loopw [4] (fun iv wr => ∃ j : Nat, j ≤ l.length ∧ iv = .int .i64 j ∧ Hid (altFrom false l = altFrom (decide (j % 2 = 1)) (l.drop j)) ∧ Hid (w.grownBy wr none) ∧ Hid (Box wr w.heap.size (.mk 16 x m p l) (.slice a l.length c))) (fun iv _ => l.length - (intOf iv).toNat)
        case atStart => exact ⟨0, Nat.zero_le _, rfl, by show _ = _; simp, G1, B1⟩
        case round =>
          obtain ⟨j,_,rfl,HB,HG,HX⟩ := hrel; clear b0_1 b1_1 b2_1 b3_1 b4_1; obtain ⟨_,_,_,_,_⟩ := HX.out.p
          by_cases hlt : j < l.length
          · obtain ⟨u, hu⟩ : ∃ u, l[j]? = some u := ⟨_, List.getElem?_eq_getElem hlt⟩
            have hmem : u ∈ l := List.mem_of_getElem? hu; obtain ⟨_,_,su,e1,n5,fu,au⟩ := (HA.out.kept HG.out).node j u hu; subst e1; have IU := hide (HI.out u hmem); have HU := hide fu; have AU := hide au; have HUU := hide hu; obtain ⟨_,_,_,_,_⟩ := n5; clear hu hmem fu au
            by_cases hp : (j : Int) % 2 = 1
            · have hpb : ((j : Int) % 2 == 1) = true := by simp [hp]
              have HS : Hid (altFrom (decide (j % 2 = 1)) (l.drop j) = (wellB (.list .act) u && altFrom false (l.drop (j + 1)))) := by show _ = _; rw [show decide (j % 2 = 1) = true by simp; omega]; exact alt_odd HUU.out
              have HO : Hid (decide ((j + 1) % 2 = 1) = false) := by show _ = _; simp; omega
              clear hp; cases hv : wellB (.list .act) u
              · have HQ : Hid (altFrom false l = false) := by show _ = _; rw [HB.out, HS.out, hv]; rfl
                go_wp2_with fail; go_at_call 18; refine (IU.out.stmts su _ (HK.out.kept HG.out) HU.out AU.out).mono ?_; rintro e w2 ⟨rfl, hg2⟩; rw [hv]; have G2 := hide (gb_trans HG.out hg2); go_wp2_with fail
                go_ret
                exact ⟨by rw [HQ.out]; rfl, G2.out⟩
              · have HB2 : Hid (altFrom false l = altFrom (decide ((j + 1) % 2 = 1)) (l.drop (j + 1))) := by
                  show _ = _
                  rw [HB.out, HS.out, hv, show decide ((j + 1) % 2 = 1) = false from HO.out]
                  rfl
                go_wp2_with fail; go_at_call 18; refine (IU.out.stmts su _ (HK.out.kept HG.out) HU.out AU.out).mono ?_; rintro e w2 ⟨rfl, hg2⟩; rw [hv]; have G2 := hide (gb_trans HG.out hg2); have B2 := hide (HX.out.kept hg2); go_wp2_with fail
                exact ⟨⟨j + 1, by omega, by go_num, HB2, G2, B2⟩, by simp [intOf]; omega⟩
            · have hpb : ((j : Int) % 2 == 1) = false := by simp [hp]
              by_cases hq : (j : Int) = (l.length : Int) - 1
              · have hqb : ((j : Int) == (l.length : Int) - 1) = true := by simp [hq]
                have HS : Hid (altFrom (decide (j % 2 = 1)) (l.drop j) = wellB (.list .act) u) := by show _ = _; rw [show decide (j % 2 = 1) = false by simp; omega]; exact alt_last HUU.out (by omega)
                obtain rfl : m = 1 := by omega
                have HO : Hid (decide ((j + 1) % 2 = 1) = true) := by show _ = _; simp; omega
                have HJ : Hid (l.length ≤ j + 1) := by show _ ≤ _; omega
                clear hq hp; cases hv : wellB (.list .act) u
                · have HQ : Hid (altFrom false l = false) := by show _ = _; rw [HB.out, HS.out, hv]
                  go_wp2_with fail; go_at_call 18; refine (IU.out.stmts su _ (HK.out.kept HG.out) HU.out AU.out).mono ?_; rintro e w2 ⟨rfl, hg2⟩; rw [hv]; have G2 := hide (gb_trans HG.out hg2); go_wp2_with fail
                  go_ret
                  exact ⟨by rw [HQ.out]; rfl, G2.out⟩
                · have HB2 : Hid (altFrom false l = altFrom (decide ((j + 1) % 2 = 1)) (l.drop (j + 1))) := by
                    show _ = _
                    rw [HB.out, HS.out, hv, show decide ((j + 1) % 2 = 1) = true from HO.out]; rw [List.drop_eq_nil_of_le HJ.out]; simp [altFrom]
                  go_wp2_with fail; go_at_call 18; refine (IU.out.stmts su _ (HK.out.kept HG.out) HU.out AU.out).mono ?_; rintro e w2 ⟨rfl, hg2⟩; rw [hv]; have G2 := hide (gb_trans HG.out hg2); have B2 := hide (HX.out.kept hg2); go_wp2_with fail
                  exact ⟨⟨j + 1, by omega, by go_num, HB2, G2, B2⟩, by simp [intOf]; omega⟩
              · have hqb : ((j : Int) == (l.length : Int) - 1) = false := by simp [hq]
                have HS : Hid (altFrom (decide (j % 2 = 1)) (l.drop j) = (wellB .expression u && altFrom true (l.drop (j + 1)))) := by show _ = _; rw [show decide (j % 2 = 1) = false by simp; omega]; exact alt_even HUU.out (by omega)
                have HO : Hid (decide ((j + 1) % 2 = 1) = true) := by show _ = _; simp; omega
                clear hp hq; cases hv : wellB .expression u
                · have HQ : Hid (altFrom false l = false) := by show _ = _; rw [HB.out, HS.out, hv]; rfl
                  go_wp2_with fail; go_at_call 37; refine ((sh_all u).expr su _ (HK.out.kept HG.out) HU.out AU.out).mono ?_; rintro e w2 ⟨rfl, hg2⟩; rw [hv]; have G2 := hide (gb_trans HG.out hg2); go_wp2_with fail
                  go_ret
                  exact ⟨by rw [HQ.out]; rfl, G2.out⟩
                · have HB2 : Hid (altFrom false l = altFrom (decide ((j + 1) % 2 = 1)) (l.drop (j + 1))) := by
                    show _ = _
                    rw [HB.out, HS.out, hv, show decide ((j + 1) % 2 = 1) = true from HO.out]
                    rfl
                  go_wp2_with fail; go_at_call 37; refine ((sh_all u).expr su _ (HK.out.kept HG.out) HU.out AU.out).mono ?_; rintro e w2 ⟨rfl, hg2⟩; rw [hv]; have G2 := hide (gb_trans HG.out hg2); have B2 := hide (HX.out.kept hg2); go_wp2_with fail
                  exact ⟨⟨j + 1, by omega, by go_num, HB2, G2, B2⟩, by simp [intOf]; omega⟩
          · have HQ : Hid (altFrom false l = true) := by show _ = _; rw [HB.out, List.drop_eq_nil_of_le (by omega)]; simp [altFrom]
            go_wp2_with fail
            go_ret
            exact ⟨by rw [HQ.out]; rfl, HG.out⟩
      · rw [show wellB .act (.mk 16 x m p l) = false by rw [HE]; simp [h2]]
        have h2b : ((l.length : Int) % 2 != m) = true := by simpa using h2
        clear HE h2
        go_enter Tryz.func40, Tryz.ntmps40
        go_wp2_with fail; go_at_call 16; refine (head_any (.mk 16 x m p l) _ 16 1 (-1) false _ (HK.out.kept (by exact gb_alloc (gb_refl w none) _)) HF.out (HA.out.kept (by exact gb_alloc (gb_refl w none) _))).mono ?_; rintro e w1 ⟨rfl, hg1⟩; rw [h0]; have G1 := hide (gb_trans (gb_alloc (gb_refl w none) _) hg1); have B1 := hide ((Box.new w (.mk 16 x m p l) (.slice a l.length c) 24).kept hg1); obtain ⟨b0_1,b1_1,b2_1,b3_1,b4_1⟩ := B1.out.p
        go_wp2_with fail
        go_ret
        exact ⟨rfl, G1.out⟩
    · rw [show wellB .act (.mk 16 x m p l) = false by rw [HE]; simp [h1]]
      clear HE
      go_enter Tryz.func40, Tryz.ntmps40
      go_wp2_with fail; go_at_call 16; refine (head_any (.mk 16 x m p l) _ 16 1 (-1) false _ (HK.out.kept (by exact gb_alloc (gb_refl w none) _)) HF.out (HA.out.kept (by exact gb_alloc (gb_refl w none) _))).mono ?_; rintro e w1 ⟨rfl, hg1⟩; rw [h0]; have G1 := hide (gb_trans (gb_alloc (gb_refl w none) _) hg1); have B1 := hide ((Box.new w (.mk 16 x m p l) (.slice a l.length c) 24).kept hg1); obtain ⟨b0_1,b1_1,b2_1,b3_1,b4_1⟩ := B1.out; go_wp2_with fail
      go_ret
      exact ⟨rfl, G1.out⟩
theorem ac_step (t : T) (IH : ∀ u, u ∈ t.subs → AcOK u) : AcOK t := by
  refine ⟨?_, fun sv w hk hf ha => stmts_step t sv w hk hf ha IH⟩; intro sv w hk hf ha; obtain ⟨kd,x,m,p,l⟩ := t
  change ∀ u, u ∈ l → AcOK u at IH
  by_cases h14 : kd = 14
  · subst h14; exact stmt14 x m p l sv w hk hf ha IH
  by_cases h15 : kd = 15
  · subst h15; exact stmt15 x m p l sv w hk hf ha IH
  by_cases h16 : kd = 16
  · subst h16; exact stmt16 x m p l sv w hk hf ha IH
  by_cases h17 : kd = 17
  · subst h17; exact stmt17 x m p l sv w hk hf ha IH
  by_cases h18 : kd = 18
  · subst h18; exact stmt18 x m p l sv w hk hf ha IH
  by_cases h19 : kd = 19
  · subst h19; exact stmt19 x m p l sv w hk hf ha
  by_cases h20 : kd = 20
  · subst h20; exact stmt20 x m p l sv w hk hf ha IH
  by_cases h21 : kd = 21
  · subst h21; exact stmt21 x m p l sv w hk hf ha IH
  by_cases h22 : kd = 22
  · subst h22; exact stmt22 x m p l sv w hk hf ha IH
  by_cases h23 : kd = 23
  · subst h23; exact stmt23 x m p l sv w hk hf ha IH
  exact stmtElse kd x m p l sv w ha h14 h15 h16 h17 h18 h19 h20 h21 h22 h23
theorem ac_all (t : T) : AcOK t := ac_step t (fun u _hu => ac_all u)
  termination_by SizeOf.sizeOf t
  decreasing_by
    obtain ⟨_,_,_,_,l⟩ := t; have h9 := List.sizeOf_lt_of_mem (show u ∈ l from _hu); simp only [T.mk.sizeOf_spec]
    omega
end Go.Proofs.YtapfecciakijhaaGreatDoor

/- The document's shapes: declarations without types, types. -/
namespace Go.Proofs.YtapfecciakijhaaGreatDoor
open Go.RowKit
set_option maxHeartbeats 1000000
set_option maxRecDepth 1000000

theorem decl3 (x : List UInt8) (m p : Int) (l : List T) (sv : Value) (w : World) (hk : KW w) (hf : Fits (.mk 3 x m p l)) (ha : AT w (T.mk 3 x m p l).subs sv) :
    Calls Tryz.prog 17 #[.agg #[.int .i64 3, .string ⟨x.toArray⟩, .int .i64 m, .int .i64 p, sv]] w (Sy w (.bool (wellB .imported (.mk 3 x m p l)))) := by
  have HE := wellB_only (r := .imported) (t := (.mk 3 x m p l)) (c := headB (.mk 3 x m p l) 3 true 0 0) (l := []) rfl; have HK := hide hk; have HF := hide hf; have HA := hide ha; cases h0 : headB (.mk 3 x m p l) 3 true 0 0
  · rw [show wellB .imported (.mk 3 x m p l) = false by rw [HE, h0]; rfl]
    clear HE; obtain ⟨a,n,c,rfl,_,hc,hl⟩ := ha.any; clear hk hf ha
    go_enter Tryz.func17, Tryz.ntmps17
    go_wp2_with fail; go_at_call 16; refine (head_any (.mk 3 x m p l) _ 3 0 0 true _ (HK.out.kept (by exact gb_alloc (gb_refl w none) _)) HF.out (HA.out.kept (by exact gb_alloc (gb_refl w none) _))).mono ?_; rintro e w1 ⟨rfl, hg1⟩; rw [h0]; have G1 := hide (gb_trans (gb_alloc (gb_refl w none) _) hg1); have B1 := hide ((Box.new w (.mk 3 x m p l) (.slice a n c) 24).kept hg1); obtain ⟨b0_1,b1_1,b2_1,b3_1,b4_1⟩ := B1.out; go_wp2_with fail
    go_ret
    exact ⟨rfl, G1.out⟩
  · obtain ⟨a,c,rfl,hc,hl⟩ := ha.zero (head_len (n := 0) h0)
    change l = [] at hl
    subst hl; clear hk hf ha; rw [show wellB .imported (.mk 3 x m p []) = true by rw [HE, h0]; simp []]; clear HE
    go_enter Tryz.func17, Tryz.ntmps17
    go_wp2_with fail; go_at_call 16; refine (head_any (.mk 3 x m p []) _ 3 0 0 true _ (HK.out.kept (by exact gb_alloc (gb_refl w none) _)) HF.out (HA.out.kept (by exact gb_alloc (gb_refl w none) _))).mono ?_; rintro e w1 ⟨rfl, hg1⟩; rw [h0]; have G1 := hide (gb_trans (gb_alloc (gb_refl w none) _) hg1); have B1 := hide ((Box.new w (.mk 3 x m p []) (.slice a 0 c) 24).kept hg1); obtain ⟨b0_1,b1_1,b2_1,b3_1,b4_1⟩ := B1.out; go_wp2_with fail
    go_ret
    exact ⟨rfl, G1.out⟩
theorem decl4 (x : List UInt8) (m p : Int) (l : List T) (sv : Value) (w : World) (hk : KW w) (hf : Fits (.mk 4 x m p l)) (ha : AT w (T.mk 4 x m p l).subs sv) (IH : ∀ u, u ∈ l → ShOK u) :
    Calls Tryz.prog 17 #[.agg #[.int .i64 4, .string ⟨x.toArray⟩, .int .i64 m, .int .i64 p, sv]] w (Sy w (.bool (wellB (.declared 4 1 .expression) (.mk 4 x m p l)))) := by
  have HE := wellB_only (r := (.declared 4 1 .expression)) (t := (.mk 4 x m p l)) (c := headB (.mk 4 x m p l) 4 true 1 1) (l := zipR l [.expression]) rfl; have HK := hide hk; have HF := hide hf; have HA := hide ha; cases h0 : headB (.mk 4 x m p l) 4 true 1 1
  · rw [show wellB (.declared 4 1 .expression) (.mk 4 x m p l) = false by rw [HE, h0]; rfl]
    clear HE; obtain ⟨a,n,c,rfl,hn,hc,hl⟩ := ha.any; clear hk hf ha IH
    go_enter Tryz.func17, Tryz.ntmps17
    go_wp2_with fail; go_at_call 16; refine (head_any (.mk 4 x m p l) _ 4 1 1 true _ (HK.out.kept (by exact gb_alloc (gb_refl w none) _)) HF.out (HA.out.kept (by exact gb_alloc (gb_refl w none) _))).mono ?_; rintro e w1 ⟨rfl, hg1⟩; rw [h0]; have G1 := hide (gb_trans (gb_alloc (gb_refl w none) _) hg1); have B1 := hide ((Box.new w (.mk 4 x m p l) (.slice a n c) 24).kept hg1); obtain ⟨b0_1,b1_1,b2_1,b3_1,b4_1⟩ := B1.out; go_wp2_with fail
    go_ret
    exact ⟨rfl, G1.out⟩
  · obtain ⟨g,o,c,u,_,rfl,hn,hc,hl,n5,fu,au⟩ := ha.one (head_len (n := 1) h0)
    change l = [u] at hl
    subst hl; have N0 := hide n5; have HU := hide fu; have AU := hide au; clear IH; clear hk hf ha fu au n5; cases h1 : wellB .expression u
    · skip
      rw [show wellB (.declared 4 1 .expression) (.mk 4 x m p [u]) = false by rw [HE, h0]; simp [zipR, h1]]; clear HE
      go_enter Tryz.func17, Tryz.ntmps17
      go_wp2_with fail; go_at_call 16; refine (head_any (.mk 4 x m p [u]) _ 4 1 1 true _ (HK.out.kept (by exact gb_alloc (gb_refl w none) _)) HF.out (HA.out.kept (by exact gb_alloc (gb_refl w none) _))).mono ?_; rintro e w1 ⟨rfl, hg1⟩; rw [h0]; have G1 := hide (gb_trans (gb_alloc (gb_refl w none) _) hg1); have B1 := hide ((Box.new w (.mk 4 x m p [u]) (.slice (some ⟨g, o, none⟩) 1 c) 24).kept hg1); obtain ⟨b0_1,b1_1,b2_1,b3_1,b4_1⟩ := B1.out; obtain ⟨c0_1_0,c1_1_0,c2_1_0,c3_1_0,c4_1_0⟩ := N0.out.kept G1.out; go_wp2_with fail; go_at_call 37; refine ((sh_all _).expr _ _ (HK.out.kept G1.out) HU.out (AU.out.kept G1.out)).mono ?_; rintro e w2 ⟨rfl, hg2⟩; rw [h1]; have G2 := hide (gb_trans G1.out hg2); have B2 := hide (B1.out.kept hg2); obtain ⟨b0_2,b1_2,b2_2,b3_2,b4_2⟩ := B2.out; obtain ⟨c0_2_0,c1_2_0,c2_2_0,c3_2_0,c4_2_0⟩ := N0.out.kept G2.out; go_wp2_with fail
      go_ret
      exact ⟨rfl, G2.out⟩
    · skip
      rw [show wellB (.declared 4 1 .expression) (.mk 4 x m p [u]) = true by rw [HE, h0]; simp [zipR, h1]]; clear HE
      go_enter Tryz.func17, Tryz.ntmps17
      go_wp2_with fail; go_at_call 16; refine (head_any (.mk 4 x m p [u]) _ 4 1 1 true _ (HK.out.kept (by exact gb_alloc (gb_refl w none) _)) HF.out (HA.out.kept (by exact gb_alloc (gb_refl w none) _))).mono ?_; rintro e w1 ⟨rfl, hg1⟩; rw [h0]; have G1 := hide (gb_trans (gb_alloc (gb_refl w none) _) hg1); have B1 := hide ((Box.new w (.mk 4 x m p [u]) (.slice (some ⟨g, o, none⟩) 1 c) 24).kept hg1); obtain ⟨b0_1,b1_1,b2_1,b3_1,b4_1⟩ := B1.out; obtain ⟨c0_1_0,c1_1_0,c2_1_0,c3_1_0,c4_1_0⟩ := N0.out.kept G1.out; go_wp2_with fail; go_at_call 37; refine ((sh_all _).expr _ _ (HK.out.kept G1.out) HU.out (AU.out.kept G1.out)).mono ?_; rintro e w2 ⟨rfl, hg2⟩; rw [h1]; have G2 := hide (gb_trans G1.out hg2); have B2 := hide (B1.out.kept hg2); obtain ⟨b0_2,b1_2,b2_2,b3_2,b4_2⟩ := B2.out; obtain ⟨c0_2_0,c1_2_0,c2_2_0,c3_2_0,c4_2_0⟩ := N0.out.kept G2.out; go_wp2_with fail
      go_ret
      exact ⟨rfl, G2.out⟩
theorem decl6 (x : List UInt8) (m p : Int) (l : List T) (sv : Value) (w : World) (hk : KW w) (hf : Fits (.mk 6 x m p l)) (ha : AT w (T.mk 6 x m p l).subs sv) (IH : ∀ u, u ∈ l → ShOK u) :
    Calls Tryz.prog 17 #[.agg #[.int .i64 6, .string ⟨x.toArray⟩, .int .i64 m, .int .i64 p, sv]] w (Sy w (.bool (wellB (.declared 6 1 .typeName) (.mk 6 x m p l)))) := by
  have HE := wellB_only (r := (.declared 6 1 .typeName)) (t := (.mk 6 x m p l)) (c := headB (.mk 6 x m p l) 6 true 1 1) (l := zipR l [.typeName]) rfl; have HK := hide hk; have HF := hide hf; have HA := hide ha; cases h0 : headB (.mk 6 x m p l) 6 true 1 1
  · rw [show wellB (.declared 6 1 .typeName) (.mk 6 x m p l) = false by rw [HE, h0]; rfl]
    clear HE; obtain ⟨a,n,c,rfl,hn,hc,hl⟩ := ha.any; clear hk hf ha IH
    go_enter Tryz.func17, Tryz.ntmps17
    go_wp2_with fail; go_at_call 16; refine (head_any (.mk 6 x m p l) _ 6 1 1 true _ (HK.out.kept (by exact gb_alloc (gb_refl w none) _)) HF.out (HA.out.kept (by exact gb_alloc (gb_refl w none) _))).mono ?_; rintro e w1 ⟨rfl, hg1⟩; rw [h0]; have G1 := hide (gb_trans (gb_alloc (gb_refl w none) _) hg1); have B1 := hide ((Box.new w (.mk 6 x m p l) (.slice a n c) 24).kept hg1); obtain ⟨b0_1,b1_1,b2_1,b3_1,b4_1⟩ := B1.out; go_wp2_with fail
    go_ret
    exact ⟨rfl, G1.out⟩
  · obtain ⟨g,o,c,u,_,rfl,hn,hc,hl,n5,fu,au⟩ := ha.one (head_len (n := 1) h0)
    change l = [u] at hl
    subst hl; have N0 := hide n5; have HU := hide fu; have AU := hide au; clear IH; clear hk hf ha fu au n5; cases h1 : wellB .typeName u
    · skip
      rw [show wellB (.declared 6 1 .typeName) (.mk 6 x m p [u]) = false by rw [HE, h0]; simp [zipR, h1]]; clear HE
      go_enter Tryz.func17, Tryz.ntmps17
      go_wp2_with fail; go_at_call 16; refine (head_any (.mk 6 x m p [u]) _ 6 1 1 true _ (HK.out.kept (by exact gb_alloc (gb_refl w none) _)) HF.out (HA.out.kept (by exact gb_alloc (gb_refl w none) _))).mono ?_; rintro e w1 ⟨rfl, hg1⟩; rw [h0]; have G1 := hide (gb_trans (gb_alloc (gb_refl w none) _) hg1); have B1 := hide ((Box.new w (.mk 6 x m p [u]) (.slice (some ⟨g, o, none⟩) 1 c) 24).kept hg1); obtain ⟨b0_1,b1_1,b2_1,b3_1,b4_1⟩ := B1.out; obtain ⟨c0_1_0,c1_1_0,c2_1_0,c3_1_0,c4_1_0⟩ := N0.out.kept G1.out; go_wp2_with fail; go_at_call 39; refine (nameShaped_any _ _ _ (HK.out.kept G1.out) HU.out (AU.out.kept G1.out)).mono ?_; rintro e w2 ⟨rfl, hg2⟩; rw [h1]; have G2 := hide (gb_trans G1.out hg2); have B2 := hide (B1.out.kept hg2); obtain ⟨b0_2,b1_2,b2_2,b3_2,b4_2⟩ := B2.out; obtain ⟨c0_2_0,c1_2_0,c2_2_0,c3_2_0,c4_2_0⟩ := N0.out.kept G2.out; go_wp2_with fail
      go_ret
      exact ⟨rfl, G2.out⟩
    · skip
      rw [show wellB (.declared 6 1 .typeName) (.mk 6 x m p [u]) = true by rw [HE, h0]; simp [zipR, h1]]; clear HE
      go_enter Tryz.func17, Tryz.ntmps17
      go_wp2_with fail; go_at_call 16; refine (head_any (.mk 6 x m p [u]) _ 6 1 1 true _ (HK.out.kept (by exact gb_alloc (gb_refl w none) _)) HF.out (HA.out.kept (by exact gb_alloc (gb_refl w none) _))).mono ?_; rintro e w1 ⟨rfl, hg1⟩; rw [h0]; have G1 := hide (gb_trans (gb_alloc (gb_refl w none) _) hg1); have B1 := hide ((Box.new w (.mk 6 x m p [u]) (.slice (some ⟨g, o, none⟩) 1 c) 24).kept hg1); obtain ⟨b0_1,b1_1,b2_1,b3_1,b4_1⟩ := B1.out; obtain ⟨c0_1_0,c1_1_0,c2_1_0,c3_1_0,c4_1_0⟩ := N0.out.kept G1.out; go_wp2_with fail; go_at_call 39; refine (nameShaped_any _ _ _ (HK.out.kept G1.out) HU.out (AU.out.kept G1.out)).mono ?_; rintro e w2 ⟨rfl, hg2⟩; rw [h1]; have G2 := hide (gb_trans G1.out hg2); have B2 := hide (B1.out.kept hg2); obtain ⟨b0_2,b1_2,b2_2,b3_2,b4_2⟩ := B2.out; obtain ⟨c0_2_0,c1_2_0,c2_2_0,c3_2_0,c4_2_0⟩ := N0.out.kept G2.out; go_wp2_with fail
      go_ret
      exact ⟨rfl, G2.out⟩
theorem decl8 (x : List UInt8) (m p : Int) (l : List T) (sv : Value) (w : World) (hk : KW w) (hf : Fits (.mk 8 x m p l)) (ha : AT w (T.mk 8 x m p l).subs sv) (IH : ∀ u, u ∈ l → ShOK u) :
    Calls Tryz.prog 17 #[.agg #[.int .i64 8, .string ⟨x.toArray⟩, .int .i64 m, .int .i64 p, sv]] w (Sy w (.bool (wellB (.declared 8 1 .typeName) (.mk 8 x m p l)))) := by
  have HE := wellB_only (r := (.declared 8 1 .typeName)) (t := (.mk 8 x m p l)) (c := headB (.mk 8 x m p l) 8 true 1 1) (l := zipR l [.typeName]) rfl; have HK := hide hk; have HF := hide hf; have HA := hide ha; cases h0 : headB (.mk 8 x m p l) 8 true 1 1
  · rw [show wellB (.declared 8 1 .typeName) (.mk 8 x m p l) = false by rw [HE, h0]; rfl]
    clear HE; obtain ⟨a,n,c,rfl,hn,hc,hl⟩ := ha.any; clear hk hf ha IH
    go_enter Tryz.func17, Tryz.ntmps17
    go_wp2_with fail; go_at_call 16; refine (head_any (.mk 8 x m p l) _ 8 1 1 true _ (HK.out.kept (by exact gb_alloc (gb_refl w none) _)) HF.out (HA.out.kept (by exact gb_alloc (gb_refl w none) _))).mono ?_; rintro e w1 ⟨rfl, hg1⟩; rw [h0]; have G1 := hide (gb_trans (gb_alloc (gb_refl w none) _) hg1); have B1 := hide ((Box.new w (.mk 8 x m p l) (.slice a n c) 24).kept hg1); obtain ⟨b0_1,b1_1,b2_1,b3_1,b4_1⟩ := B1.out; go_wp2_with fail
    go_ret
    exact ⟨rfl, G1.out⟩
  · obtain ⟨g,o,c,u,_,rfl,hn,hc,hl,n5,fu,au⟩ := ha.one (head_len (n := 1) h0)
    change l = [u] at hl
    subst hl; have N0 := hide n5; have HU := hide fu; have AU := hide au; clear IH; clear hk hf ha fu au n5; cases h1 : wellB .typeName u
    · skip
      rw [show wellB (.declared 8 1 .typeName) (.mk 8 x m p [u]) = false by rw [HE, h0]; simp [zipR, h1]]; clear HE
      go_enter Tryz.func17, Tryz.ntmps17
      go_wp2_with fail; go_at_call 16; refine (head_any (.mk 8 x m p [u]) _ 8 1 1 true _ (HK.out.kept (by exact gb_alloc (gb_refl w none) _)) HF.out (HA.out.kept (by exact gb_alloc (gb_refl w none) _))).mono ?_; rintro e w1 ⟨rfl, hg1⟩; rw [h0]; have G1 := hide (gb_trans (gb_alloc (gb_refl w none) _) hg1); have B1 := hide ((Box.new w (.mk 8 x m p [u]) (.slice (some ⟨g, o, none⟩) 1 c) 24).kept hg1); obtain ⟨b0_1,b1_1,b2_1,b3_1,b4_1⟩ := B1.out; obtain ⟨c0_1_0,c1_1_0,c2_1_0,c3_1_0,c4_1_0⟩ := N0.out.kept G1.out; go_wp2_with fail; go_at_call 39; refine (nameShaped_any _ _ _ (HK.out.kept G1.out) HU.out (AU.out.kept G1.out)).mono ?_; rintro e w2 ⟨rfl, hg2⟩; rw [h1]; have G2 := hide (gb_trans G1.out hg2); have B2 := hide (B1.out.kept hg2); obtain ⟨b0_2,b1_2,b2_2,b3_2,b4_2⟩ := B2.out; obtain ⟨c0_2_0,c1_2_0,c2_2_0,c3_2_0,c4_2_0⟩ := N0.out.kept G2.out; go_wp2_with fail
      go_ret
      exact ⟨rfl, G2.out⟩
    · skip
      rw [show wellB (.declared 8 1 .typeName) (.mk 8 x m p [u]) = true by rw [HE, h0]; simp [zipR, h1]]; clear HE
      go_enter Tryz.func17, Tryz.ntmps17
      go_wp2_with fail; go_at_call 16; refine (head_any (.mk 8 x m p [u]) _ 8 1 1 true _ (HK.out.kept (by exact gb_alloc (gb_refl w none) _)) HF.out (HA.out.kept (by exact gb_alloc (gb_refl w none) _))).mono ?_; rintro e w1 ⟨rfl, hg1⟩; rw [h0]; have G1 := hide (gb_trans (gb_alloc (gb_refl w none) _) hg1); have B1 := hide ((Box.new w (.mk 8 x m p [u]) (.slice (some ⟨g, o, none⟩) 1 c) 24).kept hg1); obtain ⟨b0_1,b1_1,b2_1,b3_1,b4_1⟩ := B1.out; obtain ⟨c0_1_0,c1_1_0,c2_1_0,c3_1_0,c4_1_0⟩ := N0.out.kept G1.out; go_wp2_with fail; go_at_call 39; refine (nameShaped_any _ _ _ (HK.out.kept G1.out) HU.out (AU.out.kept G1.out)).mono ?_; rintro e w2 ⟨rfl, hg2⟩; rw [h1]; have G2 := hide (gb_trans G1.out hg2); have B2 := hide (B1.out.kept hg2); obtain ⟨b0_2,b1_2,b2_2,b3_2,b4_2⟩ := B2.out; obtain ⟨c0_2_0,c1_2_0,c2_2_0,c3_2_0,c4_2_0⟩ := N0.out.kept G2.out; go_wp2_with fail
      go_ret
      exact ⟨rfl, G2.out⟩
theorem decl11 (x : List UInt8) (m p : Int) (l : List T) (sv : Value) (w : World) (hk : KW w) (hf : Fits (.mk 11 x m p l)) (ha : AT w (T.mk 11 x m p l).subs sv) (IH : ∀ u, u ∈ l → ShOK u) :
    Calls Tryz.prog 17 #[.agg #[.int .i64 11, .string ⟨x.toArray⟩, .int .i64 m, .int .i64 p, sv]] w (Sy w (.bool (wellB (.declared 11 1 .typeName) (.mk 11 x m p l)))) := by
  have HE := wellB_only (r := (.declared 11 1 .typeName)) (t := (.mk 11 x m p l)) (c := headB (.mk 11 x m p l) 11 true 1 1) (l := zipR l [.typeName]) rfl; have HK := hide hk; have HF := hide hf; have HA := hide ha; cases h0 : headB (.mk 11 x m p l) 11 true 1 1
  · rw [show wellB (.declared 11 1 .typeName) (.mk 11 x m p l) = false by rw [HE, h0]; rfl]
    clear HE; obtain ⟨a,n,c,rfl,hn,hc,hl⟩ := ha.any; clear hk hf ha IH
    go_enter Tryz.func17, Tryz.ntmps17
    go_wp2_with fail; go_at_call 16; refine (head_any (.mk 11 x m p l) _ 11 1 1 true _ (HK.out.kept (by exact gb_alloc (gb_refl w none) _)) HF.out (HA.out.kept (by exact gb_alloc (gb_refl w none) _))).mono ?_; rintro e w1 ⟨rfl, hg1⟩; rw [h0]; have G1 := hide (gb_trans (gb_alloc (gb_refl w none) _) hg1); have B1 := hide ((Box.new w (.mk 11 x m p l) (.slice a n c) 24).kept hg1); obtain ⟨b0_1,b1_1,b2_1,b3_1,b4_1⟩ := B1.out; go_wp2_with fail
    go_ret
    exact ⟨rfl, G1.out⟩
  · obtain ⟨g,o,c,u,_,rfl,hn,hc,hl,n5,fu,au⟩ := ha.one (head_len (n := 1) h0)
    change l = [u] at hl
    subst hl; have N0 := hide n5; have HU := hide fu; have AU := hide au; clear IH; clear hk hf ha fu au n5; cases h1 : wellB .typeName u
    · skip
      rw [show wellB (.declared 11 1 .typeName) (.mk 11 x m p [u]) = false by rw [HE, h0]; simp [zipR, h1]]; clear HE
      go_enter Tryz.func17, Tryz.ntmps17
      go_wp2_with fail; go_at_call 16; refine (head_any (.mk 11 x m p [u]) _ 11 1 1 true _ (HK.out.kept (by exact gb_alloc (gb_refl w none) _)) HF.out (HA.out.kept (by exact gb_alloc (gb_refl w none) _))).mono ?_; rintro e w1 ⟨rfl, hg1⟩; rw [h0]; have G1 := hide (gb_trans (gb_alloc (gb_refl w none) _) hg1); have B1 := hide ((Box.new w (.mk 11 x m p [u]) (.slice (some ⟨g, o, none⟩) 1 c) 24).kept hg1); obtain ⟨b0_1,b1_1,b2_1,b3_1,b4_1⟩ := B1.out; obtain ⟨c0_1_0,c1_1_0,c2_1_0,c3_1_0,c4_1_0⟩ := N0.out.kept G1.out; go_wp2_with fail; go_at_call 39; refine (nameShaped_any _ _ _ (HK.out.kept G1.out) HU.out (AU.out.kept G1.out)).mono ?_; rintro e w2 ⟨rfl, hg2⟩; rw [h1]; have G2 := hide (gb_trans G1.out hg2); have B2 := hide (B1.out.kept hg2); obtain ⟨b0_2,b1_2,b2_2,b3_2,b4_2⟩ := B2.out; obtain ⟨c0_2_0,c1_2_0,c2_2_0,c3_2_0,c4_2_0⟩ := N0.out.kept G2.out; go_wp2_with fail
      go_ret
      exact ⟨rfl, G2.out⟩
    · skip
      rw [show wellB (.declared 11 1 .typeName) (.mk 11 x m p [u]) = true by rw [HE, h0]; simp [zipR, h1]]; clear HE
      go_enter Tryz.func17, Tryz.ntmps17
      go_wp2_with fail; go_at_call 16; refine (head_any (.mk 11 x m p [u]) _ 11 1 1 true _ (HK.out.kept (by exact gb_alloc (gb_refl w none) _)) HF.out (HA.out.kept (by exact gb_alloc (gb_refl w none) _))).mono ?_; rintro e w1 ⟨rfl, hg1⟩; rw [h0]; have G1 := hide (gb_trans (gb_alloc (gb_refl w none) _) hg1); have B1 := hide ((Box.new w (.mk 11 x m p [u]) (.slice (some ⟨g, o, none⟩) 1 c) 24).kept hg1); obtain ⟨b0_1,b1_1,b2_1,b3_1,b4_1⟩ := B1.out; obtain ⟨c0_1_0,c1_1_0,c2_1_0,c3_1_0,c4_1_0⟩ := N0.out.kept G1.out; go_wp2_with fail; go_at_call 39; refine (nameShaped_any _ _ _ (HK.out.kept G1.out) HU.out (AU.out.kept G1.out)).mono ?_; rintro e w2 ⟨rfl, hg2⟩; rw [h1]; have G2 := hide (gb_trans G1.out hg2); have B2 := hide (B1.out.kept hg2); obtain ⟨b0_2,b1_2,b2_2,b3_2,b4_2⟩ := B2.out; obtain ⟨c0_2_0,c1_2_0,c2_2_0,c3_2_0,c4_2_0⟩ := N0.out.kept G2.out; go_wp2_with fail
      go_ret
      exact ⟨rfl, G2.out⟩
theorem type9 (x : List UInt8) (m p : Int) (l : List T) (sv : Value) (w : World) (hk : KW w) (hf : Fits (.mk 9 x m p l)) (ha : AT w (T.mk 9 x m p l).subs sv) (IH : ∀ u, u ∈ l → ShOK u) :
    Calls Tryz.prog 38 #[.agg #[.int .i64 9, .string ⟨x.toArray⟩, .int .i64 m, .int .i64 p, sv]] w (Sy w (.bool (wellB .typeItself (.mk 9 x m p l)))) := by
  have HE := wellB_only (r := .typeItself) (t := (.mk 9 x m p l)) (c := headB (.mk 9 x m p l) 9 false maxNum 1) (l := zipR l [.typeName]) rfl; have HK := hide hk; have HF := hide hf; have HA := hide ha; cases h0 : headB (.mk 9 x m p l) 9 false maxNum 1
  · rw [show wellB .typeItself (.mk 9 x m p l) = false by rw [HE, h0]; rfl]
    clear HE; obtain ⟨a,n,c,rfl,hn,hc,hl⟩ := ha.any; clear hk hf ha IH
    go_enter Tryz.func38, Tryz.ntmps38
    go_wp2_with fail; go_at_call 16; refine (head_any (.mk 9 x m p l) _ 9 maxNum 1 false _ (HK.out.kept (by exact gb_alloc (gb_refl w none) _)) HF.out (HA.out.kept (by exact gb_alloc (gb_refl w none) _))).mono ?_; rintro e w1 ⟨rfl, hg1⟩; rw [h0]; have G1 := hide (gb_trans (gb_alloc (gb_refl w none) _) hg1); have B1 := hide ((Box.new w (.mk 9 x m p l) (.slice a n c) 24).kept hg1); obtain ⟨b0_1,b1_1,b2_1,b3_1,b4_1⟩ := B1.out; go_wp2_with fail
    go_ret
    exact ⟨rfl, G1.out⟩
  · obtain ⟨g,o,c,u,_,rfl,hn,hc,hl,n5,fu,au⟩ := ha.one (head_len (n := 1) h0)
    change l = [u] at hl
    subst hl; have N0 := hide n5; have HU := hide fu; have AU := hide au; clear IH; clear hk hf ha fu au n5; cases h1 : wellB .typeName u
    · skip
      rw [show wellB .typeItself (.mk 9 x m p [u]) = false by rw [HE, h0]; simp [zipR, h1]]; clear HE
      go_enter Tryz.func38, Tryz.ntmps38
      go_wp2_with fail; go_at_call 16; refine (head_any (.mk 9 x m p [u]) _ 9 maxNum 1 false _ (HK.out.kept (by exact gb_alloc (gb_refl w none) _)) HF.out (HA.out.kept (by exact gb_alloc (gb_refl w none) _))).mono ?_; rintro e w1 ⟨rfl, hg1⟩; rw [h0]; have G1 := hide (gb_trans (gb_alloc (gb_refl w none) _) hg1); have B1 := hide ((Box.new w (.mk 9 x m p [u]) (.slice (some ⟨g, o, none⟩) 1 c) 24).kept hg1); obtain ⟨b0_1,b1_1,b2_1,b3_1,b4_1⟩ := B1.out; obtain ⟨c0_1_0,c1_1_0,c2_1_0,c3_1_0,c4_1_0⟩ := N0.out.kept G1.out; go_wp2_with fail; go_at_call 39; refine (nameShaped_any _ _ _ (HK.out.kept G1.out) HU.out (AU.out.kept G1.out)).mono ?_; rintro e w2 ⟨rfl, hg2⟩; rw [h1]; have G2 := hide (gb_trans G1.out hg2); have B2 := hide (B1.out.kept hg2); obtain ⟨b0_2,b1_2,b2_2,b3_2,b4_2⟩ := B2.out; obtain ⟨c0_2_0,c1_2_0,c2_2_0,c3_2_0,c4_2_0⟩ := N0.out.kept G2.out; go_wp2_with fail
      go_ret
      exact ⟨rfl, G2.out⟩
    · skip
      rw [show wellB .typeItself (.mk 9 x m p [u]) = true by rw [HE, h0]; simp [zipR, h1]]; clear HE
      go_enter Tryz.func38, Tryz.ntmps38
      go_wp2_with fail; go_at_call 16; refine (head_any (.mk 9 x m p [u]) _ 9 maxNum 1 false _ (HK.out.kept (by exact gb_alloc (gb_refl w none) _)) HF.out (HA.out.kept (by exact gb_alloc (gb_refl w none) _))).mono ?_; rintro e w1 ⟨rfl, hg1⟩; rw [h0]; have G1 := hide (gb_trans (gb_alloc (gb_refl w none) _) hg1); have B1 := hide ((Box.new w (.mk 9 x m p [u]) (.slice (some ⟨g, o, none⟩) 1 c) 24).kept hg1); obtain ⟨b0_1,b1_1,b2_1,b3_1,b4_1⟩ := B1.out; obtain ⟨c0_1_0,c1_1_0,c2_1_0,c3_1_0,c4_1_0⟩ := N0.out.kept G1.out; go_wp2_with fail; go_at_call 39; refine (nameShaped_any _ _ _ (HK.out.kept G1.out) HU.out (AU.out.kept G1.out)).mono ?_; rintro e w2 ⟨rfl, hg2⟩; rw [h1]; have G2 := hide (gb_trans G1.out hg2); have B2 := hide (B1.out.kept hg2); obtain ⟨b0_2,b1_2,b2_2,b3_2,b4_2⟩ := B2.out; obtain ⟨c0_2_0,c1_2_0,c2_2_0,c3_2_0,c4_2_0⟩ := N0.out.kept G2.out; go_wp2_with fail
      go_ret
      exact ⟨rfl, G2.out⟩
theorem type12 (x : List UInt8) (m p : Int) (l : List T) (sv : Value) (w : World) (hk : KW w) (hf : Fits (.mk 12 x m p l)) (ha : AT w (T.mk 12 x m p l).subs sv) (IH : ∀ u, u ∈ l → ShOK u) :
    Calls Tryz.prog 38 #[.agg #[.int .i64 12, .string ⟨x.toArray⟩, .int .i64 m, .int .i64 p, sv]] w (Sy w (.bool (wellB .typeItself (.mk 12 x m p l)))) := by
  have HE := wellB_only (r := .typeItself) (t := (.mk 12 x m p l)) (c := headB (.mk 12 x m p l) 12 false 0 1) (l := zipR l [.typeName]) rfl; have HK := hide hk; have HF := hide hf; have HA := hide ha; cases h0 : headB (.mk 12 x m p l) 12 false 0 1
  · rw [show wellB .typeItself (.mk 12 x m p l) = false by rw [HE, h0]; rfl]
    clear HE; obtain ⟨a,n,c,rfl,hn,hc,hl⟩ := ha.any; clear hk hf ha IH
    go_enter Tryz.func38, Tryz.ntmps38
    go_wp2_with fail; go_at_call 16; refine (head_any (.mk 12 x m p l) _ 12 0 1 false _ (HK.out.kept (by exact gb_alloc (gb_refl w none) _)) HF.out (HA.out.kept (by exact gb_alloc (gb_refl w none) _))).mono ?_; rintro e w1 ⟨rfl, hg1⟩; rw [h0]; have G1 := hide (gb_trans (gb_alloc (gb_refl w none) _) hg1); have B1 := hide ((Box.new w (.mk 12 x m p l) (.slice a n c) 24).kept hg1); obtain ⟨b0_1,b1_1,b2_1,b3_1,b4_1⟩ := B1.out; go_wp2_with fail
    go_ret
    exact ⟨rfl, G1.out⟩
  · obtain ⟨g,o,c,u,_,rfl,hn,hc,hl,n5,fu,au⟩ := ha.one (head_len (n := 1) h0)
    change l = [u] at hl
    subst hl; have N0 := hide n5; have HU := hide fu; have AU := hide au; clear IH; clear hk hf ha fu au n5; cases h1 : wellB .typeName u
    · skip
      rw [show wellB .typeItself (.mk 12 x m p [u]) = false by rw [HE, h0]; simp [zipR, h1]]; clear HE
      go_enter Tryz.func38, Tryz.ntmps38
      go_wp2_with fail; go_at_call 16; refine (head_any (.mk 12 x m p [u]) _ 12 0 1 false _ (HK.out.kept (by exact gb_alloc (gb_refl w none) _)) HF.out (HA.out.kept (by exact gb_alloc (gb_refl w none) _))).mono ?_; rintro e w1 ⟨rfl, hg1⟩; rw [h0]; have G1 := hide (gb_trans (gb_alloc (gb_refl w none) _) hg1); have B1 := hide ((Box.new w (.mk 12 x m p [u]) (.slice (some ⟨g, o, none⟩) 1 c) 24).kept hg1); obtain ⟨b0_1,b1_1,b2_1,b3_1,b4_1⟩ := B1.out; obtain ⟨c0_1_0,c1_1_0,c2_1_0,c3_1_0,c4_1_0⟩ := N0.out.kept G1.out; go_wp2_with fail; go_at_call 39; refine (nameShaped_any _ _ _ (HK.out.kept G1.out) HU.out (AU.out.kept G1.out)).mono ?_; rintro e w2 ⟨rfl, hg2⟩; rw [h1]; have G2 := hide (gb_trans G1.out hg2); have B2 := hide (B1.out.kept hg2); obtain ⟨b0_2,b1_2,b2_2,b3_2,b4_2⟩ := B2.out; obtain ⟨c0_2_0,c1_2_0,c2_2_0,c3_2_0,c4_2_0⟩ := N0.out.kept G2.out; go_wp2_with fail
      go_ret
      exact ⟨rfl, G2.out⟩
    · skip
      rw [show wellB .typeItself (.mk 12 x m p [u]) = true by rw [HE, h0]; simp [zipR, h1]]; clear HE
      go_enter Tryz.func38, Tryz.ntmps38
      go_wp2_with fail; go_at_call 16; refine (head_any (.mk 12 x m p [u]) _ 12 0 1 false _ (HK.out.kept (by exact gb_alloc (gb_refl w none) _)) HF.out (HA.out.kept (by exact gb_alloc (gb_refl w none) _))).mono ?_; rintro e w1 ⟨rfl, hg1⟩; rw [h0]; have G1 := hide (gb_trans (gb_alloc (gb_refl w none) _) hg1); have B1 := hide ((Box.new w (.mk 12 x m p [u]) (.slice (some ⟨g, o, none⟩) 1 c) 24).kept hg1); obtain ⟨b0_1,b1_1,b2_1,b3_1,b4_1⟩ := B1.out; obtain ⟨c0_1_0,c1_1_0,c2_1_0,c3_1_0,c4_1_0⟩ := N0.out.kept G1.out; go_wp2_with fail; go_at_call 39; refine (nameShaped_any _ _ _ (HK.out.kept G1.out) HU.out (AU.out.kept G1.out)).mono ?_; rintro e w2 ⟨rfl, hg2⟩; rw [h1]; have G2 := hide (gb_trans G1.out hg2); have B2 := hide (B1.out.kept hg2); obtain ⟨b0_2,b1_2,b2_2,b3_2,b4_2⟩ := B2.out; obtain ⟨c0_2_0,c1_2_0,c2_2_0,c3_2_0,c4_2_0⟩ := N0.out.kept G2.out; go_wp2_with fail
      go_ret
      exact ⟨rfl, G2.out⟩
end Go.Proofs.YtapfecciakijhaaGreatDoor

/- The document's shapes: records, every type. -/
namespace Go.Proofs.YtapfecciakijhaaGreatDoor
open Go.RowKit
set_option maxHeartbeats 1000000
set_option maxRecDepth 1000000

theorem well_nameOrNone (u : T) : wellB .typeNameOrNone u = (headB u 0 false 0 0 || wellB .typeName u) := by
  by_cases h : u.kind = 0
  · have e : wellB .typeName u = false := by rw [well_typeName]; simp [headB, h]
    rw [e, wellB_only (show stepR .typeNameOrNone u = onlyIf (headB u 0 false 0 0) [] by simp [stepR, h])]
    simp
  · have e : headB u 0 false 0 0 = false := by simp [headB, h]
    rw [e, wellB_congr (show stepR .typeNameOrNone u = stepR .typeName u by simp [stepR, h])]
    simp

theorem type10 (x : List UInt8) (m p : Int) (l : List T) (sv : Value) (w : World) (hk : KW w) (hf : Fits (.mk 10 x m p l)) (ha : AT w (T.mk 10 x m p l).subs sv) :
    Calls Tryz.prog 38 #[.agg #[.int .i64 10, .string ⟨x.toArray⟩, .int .i64 m, .int .i64 p, sv]] w (Sy w (.bool (wellB .typeItself (.mk 10 x m p l)))) := by
  have HE := wellB_only (r := .typeItself) (t := (.mk 10 x m p l)) (c := headB (.mk 10 x m p l) 10 false 0 (-1) && decide (0 < l.length)) (l := firstR (.mk 10 x m p l) .typeNameOrNone (.declared 11 1 .typeName)) rfl; have HK := hide hk; have HF := hide hf; have HA := hide ha; cases h0 : headB (.mk 10 x m p l) 10 false 0 (-1)
  · rw [show wellB .typeItself (.mk 10 x m p l) = false by rw [HE, h0]; rfl]
    obtain ⟨a,n,c,rfl,hn,hc,_⟩ := ha.any; clear HE hk hf ha
    go_enter Tryz.func38, Tryz.ntmps38
    go_wp2_with fail; go_at_call 16; refine (head_any (.mk 10 x m p l) _ 10 0 (-1) false _ (HK.out.kept (gb_alloc (gb_refl w none) _)) HF.out (HA.out.kept (gb_alloc (gb_refl w none) _))).mono ?_; rintro e w1 ⟨rfl, hg1⟩; rw [h0]; have G1 := hide (gb_trans (gb_alloc (gb_refl w none) _) hg1); have B1 := hide ((Box.new w (.mk 10 x m p l) (.slice a n c) 24).kept hg1); obtain ⟨b0_1,b1_1,b2_1,b3_1,b4_1⟩ := B1.out; go_wp2_with fail
    go_ret
    exact ⟨rfl, (G1.out)⟩
  · match l, ha, HE, h0, HF, HA with
    | [], ha, HE, h0, HF, HA =>
      rw [show wellB .typeItself (.mk 10 x m p []) = false by rw [HE, h0]; rfl]; obtain ⟨a,c,rfl,hc,_⟩ := ha.zero rfl; clear HE hk hf ha
      go_enter Tryz.func38, Tryz.ntmps38
      go_wp2_with fail; go_at_call 16; refine (head_any (.mk 10 x m p []) _ 10 0 (-1) false _ (HK.out.kept (gb_alloc (gb_refl w none) _)) HF.out (HA.out.kept (gb_alloc (gb_refl w none) _))).mono ?_; rintro e w1 ⟨rfl, hg1⟩; rw [h0]; have G1 := hide (gb_trans (gb_alloc (gb_refl w none) _) hg1); have B1 := hide ((Box.new w (.mk 10 x m p []) (.slice a 0 c) 24).kept hg1); obtain ⟨b0_1,b1_1,b2_1,b3_1,b4_1⟩ := B1.out; go_wp2_with fail
      go_ret
      exact ⟨rfl, (G1.out)⟩
    | u :: r, ha, HE, h0, HF, HA =>
      obtain ⟨g,o,c,su,rfl,hn,hc,n5,fu,au,ar⟩ := AT.cons ha; have N0 := hide n5; have HU := hide fu; have AU := hide au
      have hne : ((r.length : Int) + 1 == 0) = false := by rw [beq_eq_false_iff_ne]; omega
      have HV : Hid (wellB .typeItself (.mk 10 x m p (u :: r)) = ((headB u 0 false 0 0 || wellB .typeName u) && r.all (wellB (.declared 11 1 .typeName)))) := by
        show _ = _
        rw [HE, h0, ← well_nameOrNone]; simp [firstR, T.subs, eachR, List.all_map, Function.comp_def]
      clear hk hf ha fu au ar n5 HE; cases h1 : headB u 0 false 0 0
      · cases h2 : wellB .typeName u
        · rw [show wellB .typeItself (.mk 10 x m p (u :: r)) = false by rw [HV.out, h1, h2]; rfl]
          go_enter Tryz.func38, Tryz.ntmps38
          go_wp2_with fail; go_at_call 16; refine (head_any (.mk 10 x m p (u :: r)) _ 10 0 (-1) false _ (HK.out.kept (gb_alloc (gb_refl w none) _)) HF.out (HA.out.kept (gb_alloc (gb_refl w none) _))).mono ?_; rintro e w1 ⟨rfl, hg1⟩; rw [h0]; have G1 := hide (gb_trans (gb_alloc (gb_refl w none) _) hg1); have B1 := hide ((Box.new w (.mk 10 x m p (u :: r)) (.slice (some ⟨g, o, none⟩) (r.length + 1) c) 24).kept hg1); obtain ⟨b0_1,b1_1,b2_1,b3_1,b4_1⟩ := B1.out; obtain ⟨c0_1_0,c1_1_0,c2_1_0,c3_1_0,c4_1_0⟩ := N0.out.kept G1.out; go_wp2_with fail; go_at_call 16; refine (head_any u _ 0 0 0 false _ (HK.out.kept (G1.out)) HU.out (AU.out.kept (G1.out))).mono ?_; rintro e w2 ⟨rfl, hg2⟩; rw [h1]; have G2 := hide (gb_trans (G1.out) hg2); have B2 := hide (B1.out.kept hg2); obtain ⟨b0_2,b1_2,b2_2,b3_2,b4_2⟩ := B2.out; obtain ⟨c0_2_0,c1_2_0,c2_2_0,c3_2_0,c4_2_0⟩ := N0.out.kept G2.out; go_wp2_with fail; go_at_call 39; refine (nameShaped_any u _ _ (HK.out.kept (G2.out)) HU.out (AU.out.kept (G2.out))).mono ?_; rintro e w3 ⟨rfl, hg3⟩; rw [h2]; have G3 := hide (gb_trans (G2.out) hg3); have B3 := hide (B2.out.kept hg3); obtain ⟨b0_3,b1_3,b2_3,b3_3,b4_3⟩ := B3.out; obtain ⟨c0_3_0,c1_3_0,c2_3_0,c3_3_0,c4_3_0⟩ := N0.out.kept G3.out; go_wp2_with fail
          go_ret
          exact ⟨rfl, (G3.out)⟩
        · have HW : Hid (wellB .typeItself (.mk 10 x m p (u :: r)) = r.all (wellB (.declared 11 1 .typeName))) := by show _ = _; rw [HV.out, h1, h2]; rfl
          go_enter Tryz.func38, Tryz.ntmps38
          go_wp2_with fail; go_at_call 16; refine (head_any (.mk 10 x m p (u :: r)) _ 10 0 (-1) false _ (HK.out.kept (gb_alloc (gb_refl w none) _)) HF.out (HA.out.kept (gb_alloc (gb_refl w none) _))).mono ?_; rintro e w1 ⟨rfl, hg1⟩; rw [h0]; have G1 := hide (gb_trans (gb_alloc (gb_refl w none) _) hg1); have B1 := hide ((Box.new w (.mk 10 x m p (u :: r)) (.slice (some ⟨g, o, none⟩) (r.length + 1) c) 24).kept hg1); obtain ⟨b0_1,b1_1,b2_1,b3_1,b4_1⟩ := B1.out; obtain ⟨c0_1_0,c1_1_0,c2_1_0,c3_1_0,c4_1_0⟩ := N0.out.kept G1.out; go_wp2_with fail; go_at_call 16; refine (head_any u _ 0 0 0 false _ (HK.out.kept (G1.out)) HU.out (AU.out.kept (G1.out))).mono ?_; rintro e w2 ⟨rfl, hg2⟩; rw [h1]; have G2 := hide (gb_trans (G1.out) hg2); have B2 := hide (B1.out.kept hg2); obtain ⟨b0_2,b1_2,b2_2,b3_2,b4_2⟩ := B2.out; obtain ⟨c0_2_0,c1_2_0,c2_2_0,c3_2_0,c4_2_0⟩ := N0.out.kept G2.out; go_wp2_with fail; go_at_call 39; refine (nameShaped_any u _ _ (HK.out.kept (G2.out)) HU.out (AU.out.kept (G2.out))).mono ?_; rintro e w3 ⟨rfl, hg3⟩; rw [h2]; have G3 := hide (gb_trans (G2.out) hg3); have B3 := hide (B2.out.kept hg3); obtain ⟨b0_3,b1_3,b2_3,b3_3,b4_3⟩ := B3.out; obtain ⟨c0_3_0,c1_3_0,c2_3_0,c3_3_0,c4_3_0⟩ := N0.out.kept G3.out; go_wp2_with fail
          go_loopw [3] (fun iv wr => ∃ i : Nat, i ≤ r.length ∧ iv = .int .i64 ↑(i + 1 : Nat) ∧ Hid ((r.take i).all (wellB (.declared 11 1 .typeName)) = true) ∧ Hid (w.grownBy wr none) ∧ Hid (Box wr w.heap.size (.mk 10 x m p (u :: r)) (.slice (some ⟨g, o, none⟩) (r.length + 1) c))) (fun iv _ => r.length + 1 - (intOf iv).toNat)
          case atStart => exact ⟨0, Nat.zero_le _, rfl, by show _ = _; simp, G3, B3⟩
          case round =>
            obtain ⟨i4,_,rfl,HB4,HG4,HX4⟩ := hrel; obtain ⟨_,_,_,_,_⟩ := HX4.out; obtain ⟨_,_,_,_,_⟩ := N0.out.kept HG4.out
            by_cases hlt4 : i4 < r.length
            · obtain ⟨u, hu⟩ : ∃ u, r[i4]? = some u := ⟨_, List.getElem?_eq_getElem hlt4⟩
              obtain ⟨gg,oo,su,e1,n5,fu,au⟩ := (HA.out.kept HG4.out).node (i4 + 1) u (by first | exact hu | simpa [T.subs] using hu); cases e1; have HT := hide (all_step hu HB4.out); have HU := hide fu; have AU := hide au; clear hu; obtain ⟨ku,xu,mu,pu,lu⟩ := u; obtain ⟨d0,d1,d2,d3,d4⟩ := n5.p
              clear fu au
              by_cases hk : ku = 11
              · subst hk
                cases hv : (wellB (.declared 11 1 .typeName)) (.mk 11 xu mu pu lu)
                · skip
                  have HQF : Hid (r.all (wellB (.declared 11 1 .typeName)) = false) := all_false (HT.out.trans (hv)); go_wp2_with fail; go_at_call 17; refine (decl11 xu mu pu lu _ _ (HK.out.kept HG4.out) HU.out AU.out (fun v _ => sh_all v)).mono ?_; rintro e w9 ⟨rfl, hg9⟩; rw [hv]; have G9 := hide (gb_trans HG4.out hg9); go_wp2_with fail
                  go_ret
                  exact ⟨by rw [HW.out, HQF.out]; rfl, G9.out⟩
                · skip
                  go_wp2_with fail; go_at_call 17; refine (decl11 xu mu pu lu _ _ (HK.out.kept HG4.out) HU.out AU.out (fun v _ => sh_all v)).mono ?_; rintro e w9 ⟨rfl, hg9⟩; rw [hv]; have G9 := hide (gb_trans HG4.out hg9); have B9 := hide (HX4.out.kept hg9); have HB9 : Hid ((r.take (i4 + 1)).all (wellB (.declared 11 1 .typeName)) = true) := HT.out.trans hv; go_wp2_with fail
                  exact ⟨⟨i4 + 1, by omega, by go_num, HB9, G9, B9⟩, by simp [intOf]; omega⟩
              · have hkb : (ku != 11) = true := by simpa using hk
                have HQF : Hid (r.all (wellB (.declared 11 1 .typeName)) = false) := all_false (HT.out.trans (by rw [wellB_only (show stepR (.declared 11 1 .typeName) (.mk ku xu mu pu lu) = onlyIf _ _ from rfl)]; simp [headB, T.kind, hk])); go_wp2_with fail
                go_ret
                exact ⟨by rw [HW.out, HQF.out]; rfl, HG4.out⟩
            · have HQ := hide (all_done hlt4 HB4.out)
              go_wp2_with fail
              go_ret
              exact ⟨by rw [HW.out, HQ.out]; rfl, (HG4.out)⟩
      · have HW : Hid (wellB .typeItself (.mk 10 x m p (u :: r)) = r.all (wellB (.declared 11 1 .typeName))) := by show _ = _; rw [HV.out, h1]; rfl
        go_enter Tryz.func38, Tryz.ntmps38
        go_wp2_with fail; go_at_call 16; refine (head_any (.mk 10 x m p (u :: r)) _ 10 0 (-1) false _ (HK.out.kept (gb_alloc (gb_refl w none) _)) HF.out (HA.out.kept (gb_alloc (gb_refl w none) _))).mono ?_; rintro e w1 ⟨rfl, hg1⟩; rw [h0]; have G1 := hide (gb_trans (gb_alloc (gb_refl w none) _) hg1); have B1 := hide ((Box.new w (.mk 10 x m p (u :: r)) (.slice (some ⟨g, o, none⟩) (r.length + 1) c) 24).kept hg1); obtain ⟨b0_1,b1_1,b2_1,b3_1,b4_1⟩ := B1.out; obtain ⟨c0_1_0,c1_1_0,c2_1_0,c3_1_0,c4_1_0⟩ := N0.out.kept G1.out; go_wp2_with fail; go_at_call 16; refine (head_any u _ 0 0 0 false _ (HK.out.kept (G1.out)) HU.out (AU.out.kept (G1.out))).mono ?_; rintro e w2 ⟨rfl, hg2⟩; rw [h1]; have G2 := hide (gb_trans (G1.out) hg2); have B2 := hide (B1.out.kept hg2); obtain ⟨b0_2,b1_2,b2_2,b3_2,b4_2⟩ := B2.out; obtain ⟨c0_2_0,c1_2_0,c2_2_0,c3_2_0,c4_2_0⟩ := N0.out.kept G2.out; go_wp2_with fail
        go_loopw [3] (fun iv wr => ∃ i : Nat, i ≤ r.length ∧ iv = .int .i64 ↑(i + 1 : Nat) ∧ Hid ((r.take i).all (wellB (.declared 11 1 .typeName)) = true) ∧ Hid (w.grownBy wr none) ∧ Hid (Box wr w.heap.size (.mk 10 x m p (u :: r)) (.slice (some ⟨g, o, none⟩) (r.length + 1) c))) (fun iv _ => r.length + 1 - (intOf iv).toNat)
        case atStart => exact ⟨0, Nat.zero_le _, rfl, by show _ = _; simp, G2, B2⟩
        case round =>
          obtain ⟨i3,_,rfl,HB3,HG3,HX3⟩ := hrel; obtain ⟨b0_3,b1_3,b2_3,b3_3,b4_3⟩ := HX3.out; obtain ⟨c0_3_0,c1_3_0,c2_3_0,c3_3_0,c4_3_0⟩ := N0.out.kept HG3.out
          by_cases hlt3 : i3 < r.length
          · obtain ⟨u, hu⟩ : ∃ u, r[i3]? = some u := ⟨_, List.getElem?_eq_getElem hlt3⟩
            obtain ⟨gg,oo,su,e1,n5,fu,au⟩ := (HA.out.kept HG3.out).node (i3 + 1) u (by first | exact hu | simpa [T.subs] using hu); cases e1; have HT := hide (all_step hu HB3.out); have HU := hide fu; have AU := hide au; clear hu; obtain ⟨ku,xu,mu,pu,lu⟩ := u; obtain ⟨d0,d1,d2,d3,d4⟩ := n5.p
            clear fu au
            by_cases hk : ku = 11
            · subst hk
              cases hv : (wellB (.declared 11 1 .typeName)) (.mk 11 xu mu pu lu)
              · skip
                have HQF : Hid (r.all (wellB (.declared 11 1 .typeName)) = false) := all_false (HT.out.trans (hv)); go_wp2_with fail; go_at_call 17; refine (decl11 xu mu pu lu _ _ (HK.out.kept HG3.out) HU.out AU.out (fun v _ => sh_all v)).mono ?_; rintro e w9 ⟨rfl, hg9⟩; rw [hv]; have G9 := hide (gb_trans HG3.out hg9); go_wp2_with fail
                go_ret
                exact ⟨by rw [HW.out, HQF.out]; rfl, G9.out⟩
              · skip
                go_wp2_with fail; go_at_call 17; refine (decl11 xu mu pu lu _ _ (HK.out.kept HG3.out) HU.out AU.out (fun v _ => sh_all v)).mono ?_; rintro e w9 ⟨rfl, hg9⟩; rw [hv]; have G9 := hide (gb_trans HG3.out hg9); have B9 := hide (HX3.out.kept hg9); have HB9 : Hid ((r.take (i3 + 1)).all (wellB (.declared 11 1 .typeName)) = true) := HT.out.trans hv; go_wp2_with fail
                exact ⟨⟨i3 + 1, by omega, by go_num, HB9, G9, B9⟩, by simp [intOf]; omega⟩
            · have hkb : (ku != 11) = true := by simpa using hk
              have HQF : Hid (r.all (wellB (.declared 11 1 .typeName)) = false) := all_false (HT.out.trans (by rw [wellB_only (show stepR (.declared 11 1 .typeName) (.mk ku xu mu pu lu) = onlyIf _ _ from rfl)]; simp [headB, T.kind, hk])); go_wp2_with fail
              go_ret
              exact ⟨by rw [HW.out, HQF.out]; rfl, HG3.out⟩
          · have HQ := hide (all_done hlt3 HB3.out)
            go_wp2_with fail
            go_ret
            exact ⟨by rw [HW.out, HQ.out]; rfl, (HG3.out)⟩
theorem typeElse (kd : Int) (x : List UInt8) (m p : Int) (l : List T) (sv : Value) (w : World) (hk : KW w) (hf : Fits (.mk kd x m p l)) (ha : AT w (T.mk kd x m p l).subs sv) (h9 : ¬ kd = 9) (h10 : ¬ kd = 10) (h12 : ¬ kd = 12) :
    Calls Tryz.prog 38 #[.agg #[.int .i64 kd, .string ⟨x.toArray⟩, .int .i64 m, .int .i64 p, sv]] w (Sy w (.bool (wellB .typeItself (.mk kd x m p l)))) := by
  rw [wellB_none (show stepR .typeItself (.mk kd x m p l) = none by simp [stepR, T.kind, h9, h10, h12])]
  have h0 : headB (.mk kd x m p l) 10 false 0 (-1) = false := by simp [headB, T.kind, h10]
  have HK := hide hk; have HF := hide hf; have HA := hide ha; obtain ⟨a,n,c,rfl,_,_,_⟩ := ha.any; clear hk hf ha
  go_enter Tryz.func38, Tryz.ntmps38
  go_wp2_with fail; go_at_call 16; refine (head_any (.mk kd x m p l) _ 10 0 (-1) false _ (HK.out.kept (gb_alloc (gb_refl w none) _)) HF.out (HA.out.kept (gb_alloc (gb_refl w none) _))).mono ?_; rintro e w1 ⟨rfl, hg1⟩; rw [h0]; have G1 := hide (gb_trans (gb_alloc (gb_refl w none) _) hg1); have B1 := hide ((Box.new w (.mk kd x m p l) (.slice a n c) 24).kept hg1); obtain ⟨_,_,_,_,_⟩ := B1.out; go_wp2_with fail
  go_ret
  exact ⟨rfl, (G1.out)⟩
theorem typeShaped_any (t : T) (sv : Value) (w : World) (hk : KW w) (hf : Fits t) (ha : AT w t.subs sv) :
    Calls Tryz.prog 38 #[nodeV t sv] w (Sy w (.bool (wellB .typeItself t))) := by
  obtain ⟨kd,x,m,p,l⟩ := t
  by_cases h9 : kd = 9
  · subst h9; exact type9 x m p l sv w hk hf ha (fun v _ => sh_all v)
  by_cases h10 : kd = 10
  · subst h10; exact type10 x m p l sv w hk hf ha
  by_cases h12 : kd = 12
  · subst h12; exact type12 x m p l sv w hk hf ha (fun v _ => sh_all v)
  exact typeElse kd x m p l sv w hk hf ha h9 h10 h12
end Go.Proofs.YtapfecciakijhaaGreatDoor

/- The document's shapes: procedures. -/
namespace Go.Proofs.YtapfecciakijhaaGreatDoor
open Go.RowKit
set_option maxHeartbeats 2000000
set_option maxRecDepth 1000000

theorem AT.n4 {w : World} {t : T} {sv : Value} (h : AT w t.subs sv) (e : t.subs.length = 4) : ∃ g o c y0 s0 y1 s1 y2 s2 y3 s3, sv = .slice (some ⟨g, o, none⟩) 4 c ∧ 4 ≤ c ∧ c ≤ 9223372036854775807 ∧ t.subs = [y0, y1, y2, y3] ∧ (Node5 w g o y0 s0 ∧ Fits y0 ∧ AT w y0.subs s0) ∧ (Node5 w g (o + 5) y1 s1 ∧ Fits y1 ∧ AT w y1.subs s1) ∧ (Node5 w g (o + 10) y2 s2 ∧ Fits y2 ∧ AT w y2.subs s2) ∧ (Node5 w g (o + 15) y3 s3 ∧ Fits y3 ∧ AT w y3.subs s3) := by
  obtain ⟨_,c,rfl,h2,h3⟩ := h.form
  unfold maxLen at h3
  obtain ⟨y0, y1, y2, y3, hu⟩ : ∃ y0 y1 y2 y3, t.subs = [y0, y1, y2, y3] := by
    match hs : t.subs, e with
    | [y0, y1, y2, y3], _ => exact ⟨y0, y1, y2, y3, rfl⟩
  obtain ⟨g,o,s0,rfl,n0,f0,a0⟩ := h.node 0 y0 (by rw [hu]; rfl); obtain ⟨_,_,s1,e1,n1,f1,a1⟩ := h.node 1 y1 (by rw [hu]; rfl); cases e1; obtain ⟨_,_,s2,e2,n2,f2,a2⟩ := h.node 2 y2 (by rw [hu]; rfl); cases e2; obtain ⟨_,_,s3,e3,n3,f3,a3⟩ := h.node 3 y3 (by rw [hu]; rfl); cases e3; rw [e] at h2 ⊢
  exact ⟨g, o, c, y0, s0, y1, s1, y2, s2, y3, s3, rfl, h2, by omega, hu, ⟨by simpa using n0, f0, a0⟩, ⟨by simpa using n1, f1, a1⟩, ⟨by simpa using n2, f2, a2⟩, ⟨by simpa using n3, f3, a3⟩⟩
theorem AT.n6 {w : World} {t : T} {sv : Value} (h : AT w t.subs sv) (e : t.subs.length = 6) : ∃ g o c y0 s0 y1 s1 y2 s2 y3 s3 y4 s4 y5 s5, sv = .slice (some ⟨g, o, none⟩) 6 c ∧ 6 ≤ c ∧ c ≤ 9223372036854775807 ∧ t.subs = [y0, y1, y2, y3, y4, y5] ∧ (Node5 w g o y0 s0 ∧ Fits y0 ∧ AT w y0.subs s0) ∧ (Node5 w g (o + 5) y1 s1 ∧ Fits y1 ∧ AT w y1.subs s1) ∧ (Node5 w g (o + 10) y2 s2 ∧ Fits y2 ∧ AT w y2.subs s2) ∧ (Node5 w g (o + 15) y3 s3 ∧ Fits y3 ∧ AT w y3.subs s3) ∧ (Node5 w g (o + 20) y4 s4 ∧ Fits y4 ∧ AT w y4.subs s4) ∧ (Node5 w g (o + 25) y5 s5 ∧ Fits y5 ∧ AT w y5.subs s5) := by
  obtain ⟨_,c,rfl,h2,h3⟩ := h.form
  unfold maxLen at h3
  obtain ⟨y0, y1, y2, y3, y4, y5, hu⟩ : ∃ y0 y1 y2 y3 y4 y5, t.subs = [y0, y1, y2, y3, y4, y5] := by
    match hs : t.subs, e with
    | [y0, y1, y2, y3, y4, y5], _ => exact ⟨y0, y1, y2, y3, y4, y5, rfl⟩
  obtain ⟨g,o,s0,rfl,n0,f0,a0⟩ := h.node 0 y0 (by rw [hu]; rfl); obtain ⟨_,_,s1,e1,n1,f1,a1⟩ := h.node 1 y1 (by rw [hu]; rfl); cases e1; obtain ⟨_,_,s2,e2,n2,f2,a2⟩ := h.node 2 y2 (by rw [hu]; rfl); cases e2; obtain ⟨_,_,s3,e3,n3,f3,a3⟩ := h.node 3 y3 (by rw [hu]; rfl); cases e3; obtain ⟨_,_,s4,e4,n4,f4,a4⟩ := h.node 4 y4 (by rw [hu]; rfl); cases e4; obtain ⟨_,_,s5,e5,n5,f5,a5⟩ := h.node 5 y5 (by rw [hu]; rfl); cases e5; rw [e] at h2 ⊢
  exact ⟨g, o, c, y0, s0, y1, s1, y2, s2, y3, s3, y4, s4, y5, s5, rfl, h2, by omega, hu, ⟨by simpa using n0, f0, a0⟩, ⟨by simpa using n1, f1, a1⟩, ⟨by simpa using n2, f2, a2⟩, ⟨by simpa using n3, f3, a3⟩, ⟨by simpa using n4, f4, a4⟩, ⟨by simpa using n5, f5, a5⟩⟩

theorem decl5 (x : List UInt8) (m p : Int) (l : List T) (sv : Value) (w : World) (hk : KW w) (hf : Fits (.mk 5 x m p l)) (ha : AT w (T.mk 5 x m p l).subs sv) (IH : ∀ u, u ∈ l → ShOK u) :
    Calls Tryz.prog 17 #[.agg #[.int .i64 5, .string ⟨x.toArray⟩, .int .i64 m, .int .i64 p, sv]] w (Sy w (.bool (wellB (.declared 5 1 .typeItself) (.mk 5 x m p l)))) := by
  have HE := wellB_only (r := (.declared 5 1 .typeItself)) (t := (.mk 5 x m p l)) (c := headB (.mk 5 x m p l) 5 true 1 1) (l := zipR l [.typeItself]) rfl; have HK := hide hk; have HF := hide hf; have HA := hide ha; cases h0 : headB (.mk 5 x m p l) 5 true 1 1
  · rw [show wellB (.declared 5 1 .typeItself) (.mk 5 x m p l) = false by rw [HE, h0]; rfl]
    clear HE; obtain ⟨a,n,c,rfl,hn,hc,hl⟩ := ha.any; clear hk hf ha IH
    go_enter Tryz.func17, Tryz.ntmps17
    go_wp2_with fail; go_at_call 16; refine (head_any (.mk 5 x m p l) _ 5 1 1 true _ (HK.out.kept (by exact gb_alloc (gb_refl w none) _)) HF.out (HA.out.kept (by exact gb_alloc (gb_refl w none) _))).mono ?_; rintro e w1 ⟨rfl, hg1⟩; rw [h0]; have G1 := hide (gb_trans (gb_alloc (gb_refl w none) _) hg1); have B1 := hide ((Box.new w (.mk 5 x m p l) (.slice a n c) 24).kept hg1); obtain ⟨b0_1,b1_1,b2_1,b3_1,b4_1⟩ := B1.out; go_wp2_with fail
    go_ret
    exact ⟨rfl, G1.out⟩
  · obtain ⟨g,o,c,u,_,rfl,hn,hc,hl,n5,fu,au⟩ := ha.one (head_len (n := 1) h0)
    change l = [u] at hl
    subst hl; have N0 := hide n5; have HU := hide fu; have AU := hide au; clear IH; clear hk hf ha fu au n5; cases h1 : wellB .typeItself u
    · skip
      rw [show wellB (.declared 5 1 .typeItself) (.mk 5 x m p [u]) = false by rw [HE, h0]; simp [zipR, h1]]; clear HE
      go_enter Tryz.func17, Tryz.ntmps17
      go_wp2_with fail; go_at_call 16; refine (head_any (.mk 5 x m p [u]) _ 5 1 1 true _ (HK.out.kept (by exact gb_alloc (gb_refl w none) _)) HF.out (HA.out.kept (by exact gb_alloc (gb_refl w none) _))).mono ?_; rintro e w1 ⟨rfl, hg1⟩; rw [h0]; have G1 := hide (gb_trans (gb_alloc (gb_refl w none) _) hg1); have B1 := hide ((Box.new w (.mk 5 x m p [u]) (.slice (some ⟨g, o, none⟩) 1 c) 24).kept hg1); obtain ⟨b0_1,b1_1,b2_1,b3_1,b4_1⟩ := B1.out; obtain ⟨c0_1_0,c1_1_0,c2_1_0,c3_1_0,c4_1_0⟩ := N0.out.kept G1.out; go_wp2_with fail; go_at_call 38; refine (typeShaped_any _ _ _ (HK.out.kept G1.out) HU.out (AU.out.kept G1.out)).mono ?_; rintro e w2 ⟨rfl, hg2⟩; rw [h1]; have G2 := hide (gb_trans G1.out hg2); have B2 := hide (B1.out.kept hg2); obtain ⟨b0_2,b1_2,b2_2,b3_2,b4_2⟩ := B2.out; obtain ⟨c0_2_0,c1_2_0,c2_2_0,c3_2_0,c4_2_0⟩ := N0.out.kept G2.out; go_wp2_with fail
      go_ret
      exact ⟨rfl, G2.out⟩
    · skip
      rw [show wellB (.declared 5 1 .typeItself) (.mk 5 x m p [u]) = true by rw [HE, h0]; simp [zipR, h1]]; clear HE
      go_enter Tryz.func17, Tryz.ntmps17
      go_wp2_with fail; go_at_call 16; refine (head_any (.mk 5 x m p [u]) _ 5 1 1 true _ (HK.out.kept (by exact gb_alloc (gb_refl w none) _)) HF.out (HA.out.kept (by exact gb_alloc (gb_refl w none) _))).mono ?_; rintro e w1 ⟨rfl, hg1⟩; rw [h0]; have G1 := hide (gb_trans (gb_alloc (gb_refl w none) _) hg1); have B1 := hide ((Box.new w (.mk 5 x m p [u]) (.slice (some ⟨g, o, none⟩) 1 c) 24).kept hg1); obtain ⟨b0_1,b1_1,b2_1,b3_1,b4_1⟩ := B1.out; obtain ⟨c0_1_0,c1_1_0,c2_1_0,c3_1_0,c4_1_0⟩ := N0.out.kept G1.out; go_wp2_with fail; go_at_call 38; refine (typeShaped_any _ _ _ (HK.out.kept G1.out) HU.out (AU.out.kept G1.out)).mono ?_; rintro e w2 ⟨rfl, hg2⟩; rw [h1]; have G2 := hide (gb_trans G1.out hg2); have B2 := hide (B1.out.kept hg2); obtain ⟨b0_2,b1_2,b2_2,b3_2,b4_2⟩ := B2.out; obtain ⟨c0_2_0,c1_2_0,c2_2_0,c3_2_0,c4_2_0⟩ := N0.out.kept G2.out; go_wp2_with fail
      go_ret
      exact ⟨rfl, G2.out⟩
theorem well_list (r : Rule) (t : T) : wellB (.list r) t = (headB t 1 false 0 (-1) && t.subs.all (wellB r)) := by
  rw [wellB_only (show stepR (.list r) t = onlyIf (headB t 1 false 0 (-1)) (eachR t.subs r) from rfl)]
  simp [eachR, List.all_map, Function.comp_def]
theorem well_var0 (xu : List UInt8) (pu : Int) (lu : List T) : wellB (.declared 6 0 .typeName) (.mk 6 xu 0 pu lu) = wellB (.declared 6 1 .typeName) (.mk 6 xu 0 pu lu) := by
  rw [wellB_only (show stepR (.declared 6 0 .typeName) (.mk 6 xu 0 pu lu) = onlyIf _ _ from rfl), wellB_only (show stepR (.declared 6 1 .typeName) (.mk 6 xu 0 pu lu) = onlyIf _ _ from rfl)]
  simp [headB, T.num]
theorem decl7 (x : List UInt8) (m p : Int) (l : List T) (sv : Value) (w : World) (hk : KW w) (hf : Fits (.mk 7 x m p l)) (ha : AT w (T.mk 7 x m p l).subs sv) :
    Calls Tryz.prog 17 #[.agg #[.int .i64 7, .string ⟨x.toArray⟩, .int .i64 m, .int .i64 p, sv]] w (Sy w (.bool (wellB .procedure (.mk 7 x m p l)))) := by
  have HE := wellB_only (r := .procedure) (t := (.mk 7 x m p l)) (c := headB (.mk 7 x m p l) 7 true 1 4) (l := zipR l [.list (.declared 8 1 .typeName), .typeNameOrNone, .list (.declared 6 0 .typeName), .list .act]) rfl; have HK := hide hk; have HF := hide hf; have HA := hide ha; cases h0 : headB (.mk 7 x m p l) 7 true 1 4
  · rw [show wellB .procedure (.mk 7 x m p l) = false by rw [HE, h0]; rfl]
    obtain ⟨a,n,c,rfl,hn,hc,hl⟩ := ha.any; clear HE hk hf ha
    go_enter Tryz.func17, Tryz.ntmps17
    go_wp2_with fail; go_at_call 16; refine (head_any (.mk 7 x m p l) _ 7 1 4 true _ (HK.out.kept (gb_alloc (gb_refl w none) _)) HF.out (HA.out.kept (gb_alloc (gb_refl w none) _))).mono ?_; rintro e w1 ⟨rfl, hg1⟩; rw [h0]; have G1 := hide (gb_trans (gb_alloc (gb_refl w none) _) hg1); have B1 := hide ((Box.new w (.mk 7 x m p l) (.slice a n c) 24).kept hg1); obtain ⟨b0_1,b1_1,b2_1,b3_1,b4_1⟩ := B1.out; go_wp2_with fail
    go_ret
    exact ⟨rfl, (G1.out)⟩
  · obtain ⟨g,o,c,y0,_,y1,_,y2,_,y3,_,rfl,hn,hc,hl,⟨n0,f0,a0⟩,⟨n1,f1,a1⟩,⟨n2,f2,a2⟩,⟨n3,f3,a3⟩⟩ := ha.n4 (head_len (n := 4) h0)
    change l = [y0, y1, y2, y3] at hl
    subst hl
    have HV : Hid (wellB .procedure (.mk 7 x m p [y0, y1, y2, y3]) = ((headB y0 1 false 0 (-1) && y0.subs.all (wellB (.declared 8 1 .typeName))) && (headB y1 0 false 0 0 || wellB .typeName y1) && (headB y2 1 false 0 (-1) && y2.subs.all (wellB (.declared 6 0 .typeName))) && wellB (.list .act) y3)) := by
      show _ = _
      rw [HE, h0, ← well_nameOrNone, ← well_list, ← well_list]; simp [zipR, Bool.and_assoc]
    obtain ⟨_,_,_,rfl,_,_,hla⟩ := a0.any; obtain ⟨_,_,_,rfl,_,_,hlb⟩ := a2.any; have N0 := hide n0; have N1 := hide n1; have N2 := hide n2; have N3 := hide n3; have A0 := hide a0; have A1 := hide a1; have A2 := hide a2; have A3 := hide a3; have F0 := hide f0; have F1 := hide f1; have F2 := hide f2; have F3 := hide f3
    generalize hL0 : y0.subs = L0 at *
    generalize hL2 : y2.subs = L2 at *
    subst hla hlb; clear hk hf ha HE n0 n1 n2 n3 a0 a1 a2 a3 f0 f1 f2 f3; cases h1 : headB y0 1 false 0 (-1)
    · rw [show wellB .procedure (.mk 7 x m p [y0, y1, y2, y3]) = false by rw [HV.out, h1]; rfl]
      go_enter Tryz.func17, Tryz.ntmps17
      go_wp2_with fail; go_at_call 16; refine (head_any (.mk 7 x m p [y0, y1, y2, y3]) _ 7 1 4 true _ (HK.out.kept (gb_alloc (gb_refl w none) _)) HF.out (HA.out.kept (gb_alloc (gb_refl w none) _))).mono ?_; rintro e w1 ⟨rfl, hg1⟩; rw [h0]; have G1 := hide (gb_trans (gb_alloc (gb_refl w none) _) hg1); have B1 := hide ((Box.new w (.mk 7 x m p [y0, y1, y2, y3]) (.slice (some ⟨g, o, none⟩) 4 c) 24).kept hg1); obtain ⟨b0_1,b1_1,b2_1,b3_1,b4_1⟩ := B1.out; obtain ⟨c0_1_0,c1_1_0,c2_1_0,c3_1_0,c4_1_0⟩ := N0.out.kept G1.out; obtain ⟨c0_1_1,c1_1_1,c2_1_1,c3_1_1,c4_1_1⟩ := N1.out.kept G1.out; obtain ⟨c0_1_2,c1_1_2,c2_1_2,c3_1_2,c4_1_2⟩ := N2.out.kept G1.out; obtain ⟨c0_1_3,c1_1_3,c2_1_3,c3_1_3,c4_1_3⟩ := N3.out.kept G1.out; go_wp2_with fail; go_at_call 16; refine (head_any y0 _ 1 0 (-1) false _ (HK.out.kept (G1.out)) F0.out (hL0 ▸ (A0.out.kept (G1.out)))).mono ?_; rintro e w2 ⟨rfl, hg2⟩; rw [h1]; have G2 := hide (gb_trans (G1.out) hg2); have B2 := hide (B1.out.kept hg2); obtain ⟨b0_2,b1_2,b2_2,b3_2,b4_2⟩ := B2.out; obtain ⟨c0_2_0,c1_2_0,c2_2_0,c3_2_0,c4_2_0⟩ := N0.out.kept G2.out; obtain ⟨c0_2_1,c1_2_1,c2_2_1,c3_2_1,c4_2_1⟩ := N1.out.kept G2.out; obtain ⟨c0_2_2,c1_2_2,c2_2_2,c3_2_2,c4_2_2⟩ := N2.out.kept G2.out; obtain ⟨c0_2_3,c1_2_3,c2_2_3,c3_2_3,c4_2_3⟩ := N3.out.kept G2.out; go_wp2_with fail
      go_ret
      exact ⟨rfl, (G2.out)⟩
    · cases h2 : headB y2 1 false 0 (-1)
      · rw [show wellB .procedure (.mk 7 x m p [y0, y1, y2, y3]) = false by rw [HV.out, h1, h2]; simp]
        go_enter Tryz.func17, Tryz.ntmps17
        go_wp2_with fail; go_at_call 16; refine (head_any (.mk 7 x m p [y0, y1, y2, y3]) _ 7 1 4 true _ (HK.out.kept (gb_alloc (gb_refl w none) _)) HF.out (HA.out.kept (gb_alloc (gb_refl w none) _))).mono ?_; rintro e w1 ⟨rfl, hg1⟩; rw [h0]; have G1 := hide (gb_trans (gb_alloc (gb_refl w none) _) hg1); have B1 := hide ((Box.new w (.mk 7 x m p [y0, y1, y2, y3]) (.slice (some ⟨g, o, none⟩) 4 c) 24).kept hg1); obtain ⟨b0_1,b1_1,b2_1,b3_1,b4_1⟩ := B1.out; obtain ⟨c0_1_0,c1_1_0,c2_1_0,c3_1_0,c4_1_0⟩ := N0.out.kept G1.out; obtain ⟨c0_1_1,c1_1_1,c2_1_1,c3_1_1,c4_1_1⟩ := N1.out.kept G1.out; obtain ⟨c0_1_2,c1_1_2,c2_1_2,c3_1_2,c4_1_2⟩ := N2.out.kept G1.out; obtain ⟨c0_1_3,c1_1_3,c2_1_3,c3_1_3,c4_1_3⟩ := N3.out.kept G1.out; go_wp2_with fail; go_at_call 16; refine (head_any y0 _ 1 0 (-1) false _ (HK.out.kept (G1.out)) F0.out (hL0 ▸ (A0.out.kept (G1.out)))).mono ?_; rintro e w2 ⟨rfl, hg2⟩; rw [h1]; have G2 := hide (gb_trans (G1.out) hg2); have B2 := hide (B1.out.kept hg2); obtain ⟨b0_2,b1_2,b2_2,b3_2,b4_2⟩ := B2.out; obtain ⟨c0_2_0,c1_2_0,c2_2_0,c3_2_0,c4_2_0⟩ := N0.out.kept G2.out; obtain ⟨c0_2_1,c1_2_1,c2_2_1,c3_2_1,c4_2_1⟩ := N1.out.kept G2.out; obtain ⟨c0_2_2,c1_2_2,c2_2_2,c3_2_2,c4_2_2⟩ := N2.out.kept G2.out; obtain ⟨c0_2_3,c1_2_3,c2_2_3,c3_2_3,c4_2_3⟩ := N3.out.kept G2.out; go_wp2_with fail; go_at_call 16; refine (head_any y2 _ 1 0 (-1) false _ (HK.out.kept (G2.out)) F2.out (hL2 ▸ (A2.out.kept (G2.out)))).mono ?_; rintro e w3 ⟨rfl, hg3⟩; rw [h2]; have G3 := hide (gb_trans (G2.out) hg3); have B3 := hide (B2.out.kept hg3); obtain ⟨b0_3,b1_3,b2_3,b3_3,b4_3⟩ := B3.out; obtain ⟨c0_3_0,c1_3_0,c2_3_0,c3_3_0,c4_3_0⟩ := N0.out.kept G3.out; obtain ⟨c0_3_1,c1_3_1,c2_3_1,c3_3_1,c4_3_1⟩ := N1.out.kept G3.out; obtain ⟨c0_3_2,c1_3_2,c2_3_2,c3_3_2,c4_3_2⟩ := N2.out.kept G3.out; obtain ⟨c0_3_3,c1_3_3,c2_3_3,c3_3_3,c4_3_3⟩ := N3.out.kept G3.out; go_wp2_with fail
        go_ret
        exact ⟨rfl, (G3.out)⟩
      · have HW : Hid (wellB .procedure (.mk 7 x m p [y0, y1, y2, y3]) = (L0.all (wellB (.declared 8 1 .typeName)) && (headB y1 0 false 0 0 || wellB .typeName y1) && L2.all (wellB (.declared 6 0 .typeName)) && wellB (.list .act) y3)) := by show _ = _; rw [HV.out, h1, h2]; simp
        go_enter Tryz.func17, Tryz.ntmps17
        go_wp2_with fail; go_at_call 16; refine (head_any (.mk 7 x m p [y0, y1, y2, y3]) _ 7 1 4 true _ (HK.out.kept (gb_alloc (gb_refl w none) _)) HF.out (HA.out.kept (gb_alloc (gb_refl w none) _))).mono ?_; rintro e w1 ⟨rfl, hg1⟩; rw [h0]; have G1 := hide (gb_trans (gb_alloc (gb_refl w none) _) hg1); have B1 := hide ((Box.new w (.mk 7 x m p [y0, y1, y2, y3]) (.slice (some ⟨g, o, none⟩) 4 c) 24).kept hg1); obtain ⟨b0_1,b1_1,b2_1,b3_1,b4_1⟩ := B1.out; obtain ⟨c0_1_0,c1_1_0,c2_1_0,c3_1_0,c4_1_0⟩ := N0.out.kept G1.out; obtain ⟨c0_1_1,c1_1_1,c2_1_1,c3_1_1,c4_1_1⟩ := N1.out.kept G1.out; obtain ⟨c0_1_2,c1_1_2,c2_1_2,c3_1_2,c4_1_2⟩ := N2.out.kept G1.out; obtain ⟨c0_1_3,c1_1_3,c2_1_3,c3_1_3,c4_1_3⟩ := N3.out.kept G1.out; go_wp2_with fail; go_at_call 16; refine (head_any y0 _ 1 0 (-1) false _ (HK.out.kept (G1.out)) F0.out (hL0 ▸ (A0.out.kept (G1.out)))).mono ?_; rintro e w2 ⟨rfl, hg2⟩; rw [h1]; have G2 := hide (gb_trans (G1.out) hg2); have B2 := hide (B1.out.kept hg2); obtain ⟨b0_2,b1_2,b2_2,b3_2,b4_2⟩ := B2.out; obtain ⟨c0_2_0,c1_2_0,c2_2_0,c3_2_0,c4_2_0⟩ := N0.out.kept G2.out; obtain ⟨c0_2_1,c1_2_1,c2_2_1,c3_2_1,c4_2_1⟩ := N1.out.kept G2.out; obtain ⟨c0_2_2,c1_2_2,c2_2_2,c3_2_2,c4_2_2⟩ := N2.out.kept G2.out; obtain ⟨c0_2_3,c1_2_3,c2_2_3,c3_2_3,c4_2_3⟩ := N3.out.kept G2.out; go_wp2_with fail; go_at_call 16; refine (head_any y2 _ 1 0 (-1) false _ (HK.out.kept (G2.out)) F2.out (hL2 ▸ (A2.out.kept (G2.out)))).mono ?_; rintro e w3 ⟨rfl, hg3⟩; rw [h2]; have G3 := hide (gb_trans (G2.out) hg3); have B3 := hide (B2.out.kept hg3); obtain ⟨b0_3,b1_3,b2_3,b3_3,b4_3⟩ := B3.out; obtain ⟨c0_3_0,c1_3_0,c2_3_0,c3_3_0,c4_3_0⟩ := N0.out.kept G3.out; obtain ⟨c0_3_1,c1_3_1,c2_3_1,c3_3_1,c4_3_1⟩ := N1.out.kept G3.out; obtain ⟨c0_3_2,c1_3_2,c2_3_2,c3_3_2,c4_3_2⟩ := N2.out.kept G3.out; obtain ⟨c0_3_3,c1_3_3,c2_3_3,c3_3_3,c4_3_3⟩ := N3.out.kept G3.out; clear h0 h1 h2; go_wp2_with fail
        go_loopw [3] (fun iv wr => ∃ i : Nat, i ≤ L0.length ∧ iv = .int .i64 ↑i ∧ Hid ((L0.take i).all (wellB (.declared 8 1 .typeName)) = true) ∧ Hid (w.grownBy wr none) ∧ Hid (Box wr w.heap.size (.mk 7 x m p [y0, y1, y2, y3]) (.slice (some ⟨g, o, none⟩) 4 c))) (fun iv _ => L0.length + 0 - (intOf iv).toNat)
        case atStart => exact ⟨0, Nat.zero_le _, rfl, by show _ = _; simp, G3, B3⟩
        case round =>
          obtain ⟨i4,_,rfl,HB4,HG4,HX4⟩ := hrel; obtain ⟨_,_,_,_,_⟩ := HX4.out; obtain ⟨_,_,_,_,_⟩ := N0.out.kept HG4.out; obtain ⟨_,_,_,_,_⟩ := N1.out.kept HG4.out; obtain ⟨_,_,_,_,_⟩ := N2.out.kept HG4.out; obtain ⟨_,_,_,_,_⟩ := N3.out.kept HG4.out
          by_cases hlt4 : i4 < L0.length
          · obtain ⟨u, hu⟩ : ∃ u, L0[i4]? = some u := ⟨_, List.getElem?_eq_getElem hlt4⟩
            obtain ⟨gg,oo,su,e1,n5,fu,au⟩ := (A0.out.kept HG4.out).node i4 u (by first | exact hu | simpa [T.subs] using hu); cases e1; have HT := hide (all_step hu HB4.out); have HU := hide fu; have AU := hide au; clear hu; obtain ⟨ku,xu,mu,pu,lu⟩ := u; obtain ⟨d0,d1,d2,d3,d4⟩ := n5.p
            clear fu au
            by_cases hk : ku = 8
            · subst hk
              cases hv : (wellB (.declared 8 1 .typeName)) (.mk 8 xu mu pu lu)
              · skip
                have HQF : Hid (L0.all (wellB (.declared 8 1 .typeName)) = false) := all_false (HT.out.trans (hv)); go_wp2_with fail; go_at_call 17; refine (decl8 xu mu pu lu _ _ (HK.out.kept HG4.out) HU.out AU.out (fun v _ => sh_all v)).mono ?_; rintro e w9 ⟨rfl, hg9⟩; rw [hv]; have G9 := hide (gb_trans HG4.out hg9); go_wp2_with fail
                go_ret
                exact ⟨by rw [HW.out, HQF.out]; rfl, G9.out⟩
              · skip
                go_wp2_with fail; go_at_call 17; refine (decl8 xu mu pu lu _ _ (HK.out.kept HG4.out) HU.out AU.out (fun v _ => sh_all v)).mono ?_; rintro e w9 ⟨rfl, hg9⟩; rw [hv]; have G9 := hide (gb_trans HG4.out hg9); have B9 := hide (HX4.out.kept hg9); have HB9 : Hid ((L0.take (i4 + 1)).all (wellB (.declared 8 1 .typeName)) = true) := HT.out.trans hv; go_wp2_with fail
                exact ⟨⟨i4 + 1, by omega, by go_num, HB9, G9, B9⟩, by simp [intOf]; omega⟩
            · have hkb : (ku != 8) = true := by simpa using hk
              have HQF : Hid (L0.all (wellB (.declared 8 1 .typeName)) = false) := all_false (HT.out.trans (by rw [wellB_only (show stepR (.declared 8 1 .typeName) (.mk ku xu mu pu lu) = onlyIf _ _ from rfl)]; simp [headB, T.kind, hk])); go_wp2_with fail
              go_ret
              exact ⟨by rw [HW.out, HQF.out]; rfl, HG4.out⟩
          · have HQ0 := hide (all_done hlt4 HB4.out)
            go_wp2_with fail
            go_loopw [4] (fun iv wr => ∃ i : Nat, i ≤ L2.length ∧ iv = .int .i64 ↑i ∧ Hid ((L2.take i).all (wellB (.declared 6 0 .typeName)) = true) ∧ Hid (w.grownBy wr none) ∧ Hid (Box wr w.heap.size (.mk 7 x m p [y0, y1, y2, y3]) (.slice (some ⟨g, o, none⟩) 4 c))) (fun iv _ => L2.length + 0 - (intOf iv).toNat)
            case atStart => exact ⟨0, Nat.zero_le _, rfl, by show _ = _; simp, HG4, HX4⟩
            case round =>
              obtain ⟨i5,_,rfl,HB5,HG5,HX5⟩ := hrel; obtain ⟨_,_,_,_,_⟩ := HX5.out; obtain ⟨_,_,_,_,_⟩ := N0.out.kept HG5.out; obtain ⟨_,_,_,_,_⟩ := N1.out.kept HG5.out; obtain ⟨_,_,_,_,_⟩ := N2.out.kept HG5.out; obtain ⟨_,_,_,_,_⟩ := N3.out.kept HG5.out; have hsz5 := HG5.out.size
              by_cases hlt5 : i5 < L2.length
              · obtain ⟨u, hu⟩ : ∃ u, L2[i5]? = some u := ⟨_, List.getElem?_eq_getElem hlt5⟩
                obtain ⟨gg,oo,su,e1,n5,fu,au⟩ := (A2.out.kept HG5.out).node i5 u (by first | exact hu | simpa [T.subs] using hu); cases e1; obtain ⟨_,_,rfl,_,_⟩ := au.form; have HT := hide (all_step hu HB5.out); have HU := hide fu; have AU := hide au; clear hu; obtain ⟨ku,xu,mu,pu,lu⟩ := u; obtain ⟨d0,d1,d2,d3,d4⟩ := n5.p
                clear fu au
                by_cases hk : ku = 6
                · subst hk
                  by_cases hz : mu = 0
                  · subst hz
                    cases hv : (wellB (.declared 6 0 .typeName)) (.mk 6 xu 0 pu lu)
                    · skip
                      have HQF : Hid (L2.all (wellB (.declared 6 0 .typeName)) = false) := all_false (HT.out.trans (hv)); go_wp2_with fail; go_at_call 17; refine (decl6 xu 0 pu lu _ _ (HK.out.kept (by exact gb_alloc HG5.out _)) HU.out (AU.out.kept (by exact gb_alloc (gb_refl wr none) _)) (fun v _ => sh_all v)).mono ?_; rintro e w9 ⟨rfl, hg9⟩; rw [← well_var0, hv]; have G9 := hide (gb_trans (by exact gb_alloc HG5.out _) hg9); go_wp2_with fail
                      go_ret
                      exact ⟨by rw [HW.out, HQF.out]; simp, G9.out⟩
                    · skip
                      go_wp2_with fail; go_at_call 17; refine (decl6 xu 0 pu lu _ _ (HK.out.kept (by exact gb_alloc HG5.out _)) HU.out (AU.out.kept (by exact gb_alloc (gb_refl wr none) _)) (fun v _ => sh_all v)).mono ?_; rintro e w9 ⟨rfl, hg9⟩; rw [← well_var0, hv]; have G9 := hide (gb_trans (by exact gb_alloc HG5.out _) hg9); have B9 := hide (HX5.out.kept (gb_trans (by exact gb_alloc (gb_refl wr none) _) hg9)); have HB9 : Hid ((L2.take (i5 + 1)).all (wellB (.declared 6 0 .typeName)) = true) := HT.out.trans hv; go_wp2_with fail
                      exact ⟨⟨i5 + 1, by omega, by go_num, HB9, G9, B9⟩, by simp [intOf]; omega⟩
                  · have hzb : (mu != 0) = true := by simpa using hz
                    have HQF : Hid (L2.all (wellB (.declared 6 0 .typeName)) = false) := all_false (HT.out.trans (by rw [wellB_only (show stepR (.declared 6 0 .typeName) (.mk 6 xu mu pu lu) = onlyIf _ _ from rfl)]; simp [headB, T.num, T.kind]; intro h1 h2; omega)); go_wp2_with fail
                    go_ret
                    exact ⟨by rw [HW.out, HQF.out]; simp, (by exact gb_alloc HG5.out _)⟩
                · have hkb : (ku != 6) = true := by simpa using hk
                  have HQF : Hid (L2.all (wellB (.declared 6 0 .typeName)) = false) := all_false (HT.out.trans (by rw [wellB_only (show stepR (.declared 6 0 .typeName) (.mk ku xu mu pu lu) = onlyIf _ _ from rfl)]; simp [headB, T.kind, hk])); go_wp2_with fail
                  go_ret
                  exact ⟨by rw [HW.out, HQF.out]; simp, (by exact gb_alloc HG5.out _)⟩
              · have HQ2 := hide (all_done hlt5 HB5.out)
                cases h3 : headB y1 0 false 0 0
                · cases h4 : wellB .typeName y1
                  · skip
                    go_wp2_with fail; go_at_call 16; refine (head_any y1 _ 0 0 0 false _ (HK.out.kept (HG5.out)) F1.out (A1.out.kept (HG5.out))).mono ?_; rintro e w6 ⟨rfl, hg6⟩; rw [h3]; have G6 := hide (gb_trans (HG5.out) hg6); have B6 := hide (HX5.out.kept hg6); obtain ⟨b0_6,b1_6,b2_6,b3_6,b4_6⟩ := B6.out; obtain ⟨c0_6_0,c1_6_0,c2_6_0,c3_6_0,c4_6_0⟩ := N0.out.kept G6.out; obtain ⟨c0_6_1,c1_6_1,c2_6_1,c3_6_1,c4_6_1⟩ := N1.out.kept G6.out; obtain ⟨c0_6_2,c1_6_2,c2_6_2,c3_6_2,c4_6_2⟩ := N2.out.kept G6.out; obtain ⟨c0_6_3,c1_6_3,c2_6_3,c3_6_3,c4_6_3⟩ := N3.out.kept G6.out; go_wp2_with fail; go_at_call 39; refine (nameShaped_any y1 _ _ (HK.out.kept (G6.out)) F1.out (A1.out.kept (G6.out))).mono ?_; rintro e w7 ⟨rfl, hg7⟩; rw [h4]; have G7 := hide (gb_trans (G6.out) hg7); have B7 := hide (B6.out.kept hg7); obtain ⟨b0_7,b1_7,b2_7,b3_7,b4_7⟩ := B7.out; obtain ⟨c0_7_0,c1_7_0,c2_7_0,c3_7_0,c4_7_0⟩ := N0.out.kept G7.out; obtain ⟨c0_7_1,c1_7_1,c2_7_1,c3_7_1,c4_7_1⟩ := N1.out.kept G7.out; obtain ⟨c0_7_2,c1_7_2,c2_7_2,c3_7_2,c4_7_2⟩ := N2.out.kept G7.out; obtain ⟨c0_7_3,c1_7_3,c2_7_3,c3_7_3,c4_7_3⟩ := N3.out.kept G7.out; go_wp2_with fail
                    go_ret
                    exact ⟨by rw [HW.out, h3, h4]; simp, (G7.out)⟩
                  · skip
                    go_wp2_with fail; go_at_call 16; refine (head_any y1 _ 0 0 0 false _ (HK.out.kept (HG5.out)) F1.out (A1.out.kept (HG5.out))).mono ?_; rintro e w6 ⟨rfl, hg6⟩; rw [h3]; have G6 := hide (gb_trans (HG5.out) hg6); have B6 := hide (HX5.out.kept hg6); obtain ⟨b0_6,b1_6,b2_6,b3_6,b4_6⟩ := B6.out; obtain ⟨c0_6_0,c1_6_0,c2_6_0,c3_6_0,c4_6_0⟩ := N0.out.kept G6.out; obtain ⟨c0_6_1,c1_6_1,c2_6_1,c3_6_1,c4_6_1⟩ := N1.out.kept G6.out; obtain ⟨c0_6_2,c1_6_2,c2_6_2,c3_6_2,c4_6_2⟩ := N2.out.kept G6.out; obtain ⟨c0_6_3,c1_6_3,c2_6_3,c3_6_3,c4_6_3⟩ := N3.out.kept G6.out; go_wp2_with fail; go_at_call 39; refine (nameShaped_any y1 _ _ (HK.out.kept (G6.out)) F1.out (A1.out.kept (G6.out))).mono ?_; rintro e w7 ⟨rfl, hg7⟩; rw [h4]; have G7 := hide (gb_trans (G6.out) hg7); have B7 := hide (B6.out.kept hg7); obtain ⟨b0_7,b1_7,b2_7,b3_7,b4_7⟩ := B7.out; obtain ⟨c0_7_0,c1_7_0,c2_7_0,c3_7_0,c4_7_0⟩ := N0.out.kept G7.out; obtain ⟨c0_7_1,c1_7_1,c2_7_1,c3_7_1,c4_7_1⟩ := N1.out.kept G7.out; obtain ⟨c0_7_2,c1_7_2,c2_7_2,c3_7_2,c4_7_2⟩ := N2.out.kept G7.out; obtain ⟨c0_7_3,c1_7_3,c2_7_3,c3_7_3,c4_7_3⟩ := N3.out.kept G7.out; go_wp2_with fail; go_at_call 18; refine ((ac_all y3).stmts _ _ (HK.out.kept (G7.out)) F3.out (A3.out.kept (G7.out))).mono ?_; rintro e w8 ⟨rfl, hg8⟩; have G8 := hide (gb_trans (G7.out) hg8); have B8 := hide (B7.out.kept hg8); obtain ⟨_,_,_,_,_⟩ := B8.out; obtain ⟨_,_,_,_,_⟩ := N0.out.kept G8.out; obtain ⟨_,_,_,_,_⟩ := N1.out.kept G8.out; obtain ⟨_,_,_,_,_⟩ := N2.out.kept G8.out; obtain ⟨_,_,_,_,_⟩ := N3.out.kept G8.out; go_wp2_with fail
                    go_ret
                    exact ⟨by rw [HW.out, h3, h4, HQ0.out, HQ2.out]; rfl, (G8.out)⟩
                · skip
                  go_wp2_with fail; go_at_call 16; refine (head_any y1 _ 0 0 0 false _ (HK.out.kept (HG5.out)) F1.out (A1.out.kept (HG5.out))).mono ?_; rintro e w6 ⟨rfl, hg6⟩; rw [h3]; have G6 := hide (gb_trans (HG5.out) hg6); have B6 := hide (HX5.out.kept hg6); obtain ⟨b0_6,b1_6,b2_6,b3_6,b4_6⟩ := B6.out; obtain ⟨c0_6_0,c1_6_0,c2_6_0,c3_6_0,c4_6_0⟩ := N0.out.kept G6.out; obtain ⟨c0_6_1,c1_6_1,c2_6_1,c3_6_1,c4_6_1⟩ := N1.out.kept G6.out; obtain ⟨c0_6_2,c1_6_2,c2_6_2,c3_6_2,c4_6_2⟩ := N2.out.kept G6.out; obtain ⟨c0_6_3,c1_6_3,c2_6_3,c3_6_3,c4_6_3⟩ := N3.out.kept G6.out; go_wp2_with fail; go_at_call 18; refine ((ac_all y3).stmts _ _ (HK.out.kept (G6.out)) F3.out (A3.out.kept (G6.out))).mono ?_; rintro e w7 ⟨rfl, hg7⟩; have G7 := hide (gb_trans (G6.out) hg7); have B7 := hide (B6.out.kept hg7); obtain ⟨b0_7,b1_7,b2_7,b3_7,b4_7⟩ := B7.out; obtain ⟨c0_7_0,c1_7_0,c2_7_0,c3_7_0,c4_7_0⟩ := N0.out.kept G7.out; obtain ⟨c0_7_1,c1_7_1,c2_7_1,c3_7_1,c4_7_1⟩ := N1.out.kept G7.out; obtain ⟨c0_7_2,c1_7_2,c2_7_2,c3_7_2,c4_7_2⟩ := N2.out.kept G7.out; obtain ⟨c0_7_3,c1_7_3,c2_7_3,c3_7_3,c4_7_3⟩ := N3.out.kept G7.out; go_wp2_with fail
                  go_ret
                  exact ⟨by rw [HW.out, h3, HQ0.out, HQ2.out]; rfl, (G7.out)⟩
end Go.Proofs.YtapfecciakijhaaGreatDoor

/- The document's shapes: modules. -/
namespace Go.Proofs.YtapfecciakijhaaGreatDoor
open Go.RowKit
set_option maxHeartbeats 4000000
set_option maxRecDepth 1000000

/-- The rules of a module's five lists of declarations. -/
def declR : Nat → Rule
  | 0 => .imported
  | 1 => .declared 4 1 .expression
  | 2 => .declared 5 1 .typeItself
  | 3 => .declared 6 1 .typeName
  | _ => .procedure
def kindR : Nat → Int
  | 0 => 3
  | 1 => 4
  | 2 => 5
  | 3 => 6
  | _ => 7
theorem decl_any (j : Nat) (hj : j < 5) (x : List UInt8) (m p : Int) (l : List T) (sv : Value) (w : World) (hk : KW w) (hf : Fits (.mk (kindR j) x m p l)) (ha : AT w (T.mk (kindR j) x m p l).subs sv) :
    Calls Tryz.prog 17 #[.agg #[.int .i64 (kindR j), .string ⟨x.toArray⟩, .int .i64 m, .int .i64 p, sv]] w (Sy w (.bool (wellB (declR j) (.mk (kindR j) x m p l)))) := by
  match j, hj, hf, ha with
  | 0, _, hf, ha => exact decl3 x m p l sv w hk hf ha
  | 1, _, hf, ha => exact decl4 x m p l sv w hk hf ha (fun v _ => sh_all v)
  | 2, _, hf, ha => exact decl5 x m p l sv w hk hf ha (fun v _ => sh_all v)
  | 3, _, hf, ha => exact decl6 x m p l sv w hk hf ha (fun v _ => sh_all v)
  | 4, _, hf, ha => exact decl7 x m p l sv w hk hf ha
theorem decl_kind (j : Nat) (hj : j < 5) (k : Int) (x : List UInt8) (m p : Int) (l : List T) (h : ¬ k = kindR j) : wellB (declR j) (.mk k x m p l) = false := by
  match j, hj, h with
  | 0, _, h =>
    show wellB .imported _ = false
    rw [wellB_only (show stepR .imported (.mk k x m p l) = onlyIf _ _ from rfl)]; have h9 : ¬ k = 3 := h
    simp [headB, T.kind, h9]
  | 1, _, h =>
    show wellB (.declared 4 1 .expression) _ = false
    rw [wellB_only (show stepR (.declared 4 1 .expression) (.mk k x m p l) = onlyIf _ _ from rfl)]; have h9 : ¬ k = 4 := h
    simp [headB, T.kind, h9]
  | 2, _, h =>
    show wellB (.declared 5 1 .typeItself) _ = false
    rw [wellB_only (show stepR (.declared 5 1 .typeItself) (.mk k x m p l) = onlyIf _ _ from rfl)]; have h9 : ¬ k = 5 := h
    simp [headB, T.kind, h9]
  | 3, _, h =>
    show wellB (.declared 6 1 .typeName) _ = false
    rw [wellB_only (show stepR (.declared 6 1 .typeName) (.mk k x m p l) = onlyIf _ _ from rfl)]; have h9 : ¬ k = 6 := h
    simp [headB, T.kind, h9]
  | 4, _, h =>
    show wellB .procedure _ = false
    rw [wellB_only (show stepR .procedure (.mk k x m p l) = onlyIf _ _ from rfl)]; have h9 : ¬ k = 7 := h
    simp [headB, T.kind, h9]
/-- The first lists of a module go by their rules. -/
def upTo (ys : List T) (j : Nat) : Prop := ∀ k y, k < j → ys[k]? = some y → wellB (.list (declR k)) y = true
theorem upTo.step {ys : List T} {j : Nat} {y : T} (h : upTo ys j) (hy : ys[j]? = some y) (h2 : wellB (.list (declR j)) y = true) : upTo ys (j + 1) := by
  intro k z hk hz
  rcases Nat.lt_or_ge k j with h3 | h3
  · exact h k z h3 hz
  · obtain rfl : k = j := by omega
    rw [hy] at hz; cases hz
    exact h2
theorem well_module (k m p : Int) (x : List UInt8) (y0 y1 y2 y3 y4 y5 : T) (h0 : headB (.mk k x m p [y0, y1, y2, y3, y4, y5]) 2 true 0 6 = true) :
    wellB .module (.mk k x m p [y0, y1, y2, y3, y4, y5]) = (wellB (.list (declR 0)) y0 && wellB (.list (declR 1)) y1 && wellB (.list (declR 2)) y2 && wellB (.list (declR 3)) y3 && wellB (.list (declR 4)) y4 && wellB (.list .act) y5) := by
  rw [wellB_only (r := .module) (t := .mk k x m p [y0, y1, y2, y3, y4, y5]) (c := headB (.mk k x m p [y0, y1, y2, y3, y4, y5]) 2 true 0 6) (l := zipR [y0, y1, y2, y3, y4, y5] [.list .imported, .list (.declared 4 1 .expression), .list (.declared 5 1 .typeItself), .list (.declared 6 1 .typeName), .list .procedure, .list .act]) rfl, h0]
  simp [zipR, declR, Bool.and_assoc]
theorem module_no {k m p : Int} {x : List UInt8} {y0 y1 y2 y3 y4 y5 : T} (h0 : headB (.mk k x m p [y0, y1, y2, y3, y4, y5]) 2 true 0 6 = true) {j : Nat} {y : T} (hj : j < 5) (hy : [y0, y1, y2, y3, y4, y5][j]? = some y) (h : wellB (.list (declR j)) y = false) : wellB .module (.mk k x m p [y0, y1, y2, y3, y4, y5]) = false := by
  rw [well_module k m p x y0 y1 y2 y3 y4 y5 h0]
  match j, hj, hy, h with
  | 0, _, hy, h => simp at hy; subst hy; rw [h]; simp
  | 1, _, hy, h => simp at hy; subst hy; rw [h]; simp
  | 2, _, hy, h => simp at hy; subst hy; rw [h]; simp
  | 3, _, hy, h => simp at hy; subst hy; rw [h]; simp
  | 4, _, hy, h => simp at hy; subst hy; rw [h]; simp
theorem module_yes {k m p : Int} {x : List UInt8} {y0 y1 y2 y3 y4 y5 : T} (h0 : headB (.mk k x m p [y0, y1, y2, y3, y4, y5]) 2 true 0 6 = true) (h : upTo [y0, y1, y2, y3, y4, y5] 5) : wellB .module (.mk k x m p [y0, y1, y2, y3, y4, y5]) = wellB (.list .act) y5 := by
  rw [well_module k m p x y0 y1 y2 y3 y4 y5 h0, h 0 y0 (by omega) rfl, h 1 y1 (by omega) rfl, h 2 y2 (by omega) rfl, h 3 y3 (by omega) rfl, h 4 y4 (by omega) rfl]
  rfl
/-- The kinds of the declarations, in a row. -/
def Kinds (w : World) (b : Nat) : Prop := ∀ k : Nat, k < 5 → w.cell? ⟨b, k, none⟩ = some (.int .i64 (kindR k))
theorem Kinds.new (w : World) (t : TypeId) : Kinds (w.alloc (.cells #[.int .i64 3, .int .i64 4, .int .i64 5, .int .i64 6, .int .i64 7] t)) w.heap.size := by
  intro k hk; rw [World.cell?_alloc_at _ _ _ _ rfl]
  match k, hk with
  | 0, _ => rfl
  | 1, _ => rfl
  | 2, _ => rfl
  | 3, _ => rfl
  | 4, _ => rfl
theorem Kinds.kept {w w' : World} {b : Nat} (h : Kinds w b) (hg : w.grownBy w' none) : Kinds w' b := fun k hk => gb_cell hg (h k hk)

theorem shaped_any (t : T) (sv : Value) (w : World) (hk : KW w) (hf : Fits t) (ha : AT w t.subs sv) :
    Calls Tryz.prog 6 #[nodeV t sv] w (Sy w (.bool (wellB .module t))) := by
  have HK := hide hk; have HF := hide hf; have HA := hide ha; obtain ⟨kd,x,m,p,l⟩ := t; cases h0 : headB (.mk kd x m p l) 2 true 0 6
  · rw [show wellB .module (.mk kd x m p l) = false by rw [wellB_only (r := .module) (t := .mk kd x m p l) (c := headB (.mk kd x m p l) 2 true 0 6) rfl, h0]; rfl]
    obtain ⟨a,n,c,rfl,hn,hc,hl⟩ := ha.any; clear hk hf ha
    change Calls Tryz.prog 6 #[.agg #[.int .i64 kd, .string ⟨x.toArray⟩, .int .i64 m, .int .i64 p, .slice a n c]] w _
    go_enter Tryz.func6, Tryz.ntmps6
    go_wp2_with fail; go_at_call 16; refine (head_any (.mk kd x m p l) _ 2 0 6 true _ (HK.out.kept (gb_alloc (gb_refl w none) _)) HF.out (HA.out.kept (gb_alloc (gb_refl w none) _))).mono ?_; rintro e w1 ⟨rfl, hg1⟩; rw [h0]; have G1 := hide (gb_trans (gb_alloc (gb_refl w none) _) hg1); go_wp2_with fail
    go_ret
    exact ⟨rfl, G1.out⟩
  · obtain ⟨g, o, c, y0, s0, y1, s1, y2, s2, y3, s3, y4, s4, y5, s5, rfl, hn, hc, hl, -, -, -, -, -, ⟨n5, f5, a5⟩⟩ := ha.n6 (head_len (n := 6) h0)
    change l = [y0, y1, y2, y3, y4, y5] at hl
    subst hl; have H0 := hide h0; have N5 := hide n5; have F5 := hide f5; have A5 := hide a5; clear hk hf ha n5 f5 a5
    change Calls Tryz.prog 6 #[.agg #[.int .i64 kd, .string ⟨x.toArray⟩, .int .i64 m, .int .i64 p, .slice (some ⟨g, o, none⟩) 6 c]] w _
    go_enter Tryz.func6, Tryz.ntmps6
    go_wp2_with fail; go_at_call 16; refine (head_any (.mk kd x m p [y0, y1, y2, y3, y4, y5]) _ 2 0 6 true _ (HK.out.kept (gb_alloc (gb_refl w none) _)) HF.out (HA.out.kept (gb_alloc (gb_refl w none) _))).mono ?_; rintro e w1 ⟨rfl, hg1⟩; rw [h0]; have G1 := hide (gb_trans (gb_alloc (gb_refl w none) _) hg1); have B1 := hide ((Box.new w (.mk kd x m p [y0, y1, y2, y3, y4, y5]) (.slice (some ⟨g, o, none⟩) 6 c) 24).kept hg1); clear h0 hg1; go_wp2_with fail
    go_loopw [4] (fun iv wr => ∃ j : Nat, j ≤ 5 ∧ iv = .int .i64 ↑j ∧ Hid (upTo [y0, y1, y2, y3, y4, y5] j) ∧ Hid (w.grownBy wr none) ∧ Hid (Box wr w.heap.size (.mk kd x m p [y0, y1, y2, y3, y4, y5]) (.slice (some ⟨g, o, none⟩) 6 c)) ∧ Hid (Kinds wr w1.heap.size)) (fun iv _ => 5 - (intOf iv).toNat)
    case atStart => exact ⟨0, by omega, rfl, fun k y h _ => by omega, gb_alloc G1.out _, B1.out.kept (gb_alloc (gb_refl _ _) _), Kinds.new _ _⟩
    case round =>
      obtain ⟨j,_,rfl,HU,HG,HX,HD⟩ := hrel; obtain ⟨_,_,_,_,_⟩ := HX.out
      by_cases hlt : j < 5
      · obtain ⟨y, hy⟩ : ∃ y, [y0, y1, y2, y3, y4, y5][j]? = some y := ⟨_, List.getElem?_eq_getElem (by simp; omega)⟩
        obtain ⟨gg,oo,_,e1,n,fy,ay⟩ := (HA.out.kept HG.out).node j y hy; cases e1; obtain ⟨aa,cc,rfl,_,hc2⟩ := ay.form
        unfold maxLen at hc2
        have HY := hide hy; have FY := hide fy; have AY := hide ay; obtain ⟨_,_,_,_,_⟩ := n; clear hy fy ay; cases hh : headB y 1 false 0 (-1)
        · have HQ : Hid (wellB .module (.mk kd x m p [y0, y1, y2, y3, y4, y5]) = false) := module_no H0.out hlt HY.out (by rw [well_list, hh]; rfl)
          go_wp2_with fail; go_at_call 16; refine (head_any y _ 1 0 (-1) false _ (HK.out.kept (by exact gb_alloc HG.out _)) FY.out (AY.out.kept (by exact gb_alloc (gb_refl wr none) _))).mono ?_; rintro e w2 ⟨rfl, hg2⟩; rw [hh]; have G2 := hide (gb_trans (by exact gb_alloc HG.out _) hg2); go_wp2_with fail
          go_ret
          exact ⟨by rw [HQ.out]; rfl, G2.out⟩
        · go_wp2_with fail
          go_at_call 16; refine (head_any y _ 1 0 (-1) false _ (HK.out.kept (by exact gb_alloc HG.out _)) FY.out (AY.out.kept (by exact gb_alloc (gb_refl wr none) _))).mono ?_; rintro e w2 ⟨rfl, hg2⟩; rw [hh]; have G2 := hide (gb_trans (by exact gb_alloc HG.out _) hg2); have GR := hide (gb_trans (by exact gb_alloc (gb_refl wr none) _) hg2); have BX2 := hide (HX.out.kept GR.out); have BY2 := hide ((Box.new wr y (.slice aa y.subs.length cc) 24).kept hg2); have KD2 := hide (HD.out.kept GR.out); clear hg2; go_wp2_with fail; obtain ⟨wo, hwo⟩ : ∃ z, z = wr := ⟨_, rfl⟩; subst hwo
          go_loopw [6] (fun kv wq => ∃ i : Nat, i ≤ y.subs.length ∧ kv = .int .i64 ↑i ∧ Hid ((y.subs.take i).all (wellB (declR j)) = true) ∧ Hid (wo.grownBy wq none) ∧ Hid (Box wq w.heap.size (.mk kd x m p [y0, y1, y2, y3, y4, y5]) (.slice (some ⟨g, o, none⟩) 6 c)) ∧ Hid (Box wq wo.heap.size y (.slice aa y.subs.length cc)) ∧ Hid (Kinds wq w1.heap.size)) (fun kv _ => y.subs.length - (intOf kv).toNat)
          case atStart => exact ⟨0, Nat.zero_le _, rfl, by show _ = _; simp, GR, BX2, BY2, KD2⟩
          case round =>
            obtain ⟨i,_,rfl,HB,HQ,HX3,HY3,HD3⟩ := hrel; obtain ⟨_,_,_,_,_⟩ := HX3.out; obtain ⟨_,_,_,_,_⟩ := HY3.out; have kc := HD3.out j hlt; have GW := hide (gb_trans HG.out HQ.out)
            by_cases hlt2 : i < y.subs.length
            · obtain ⟨u, hu⟩ : ∃ u, y.subs[i]? = some u := ⟨_, List.getElem?_eq_getElem hlt2⟩
              obtain ⟨gg,oo,_,e1,n5,fu,au⟩ := (AY.out.kept HQ.out).node i u hu; cases e1; have HT := hide (all_step hu HB.out); have FU := hide fu; have AU := hide au; clear hu; obtain ⟨ku,xu,mu,pu,lu⟩ := u; obtain ⟨_,e1,_,_,_⟩ := n5.p
              clear fu au
              by_cases hk : ku = kindR j
              · subst hk
                cases hv : wellB (declR j) (.mk (kindR j) xu mu pu lu)
                · have HF9 : Hid (wellB .module (.mk kd x m p [y0, y1, y2, y3, y4, y5]) = false) := module_no H0.out hlt HY.out (by rw [well_list, hh, all_false (HT.out.trans hv)]; rfl)
                  go_wp2_with fail
                  go_region_with (go_at_call 17
                                  refine (decl_any j hlt xu mu pu lu _ _ (HK.out.kept (by exact gb_drew GW.out)) FU.out (AU.out.kept (by exact gb_drew (gb_refl wr none)))).mono ?_; rintro e w9 ⟨rfl, hg9⟩
                                  rw [hv])
                  all_goals
                    have G9 := hide (gb_trans (by exact gb_drew GW.out) hg9); go_wp2_with fail
                    go_ret
                    exact ⟨by rw [HF9.out]; rfl, G9.out⟩
                · have HB9 : Hid ((y.subs.take (i + 1)).all (wellB (declR j)) = true) := HT.out.trans hv
                  go_wp2_with fail
                  go_region_with (go_at_call 17
                                  refine (decl_any j hlt xu mu pu lu _ _ (HK.out.kept (by exact gb_drew GW.out)) FU.out (AU.out.kept (by exact gb_drew (gb_refl wr none)))).mono ?_; rintro e w9 ⟨rfl, hg9⟩
                                  rw [hv])
                  all_goals
                    have GQ := hide (gb_trans (by exact gb_drew (gb_refl wr none)) hg9); have G9 := hide (gb_trans HQ.out GQ.out); have X9 := hide (HX3.out.kept GQ.out); have Y9 := hide (HY3.out.kept GQ.out); have D9 := hide (HD3.out.kept GQ.out); go_wp2_with fail
                    exact ⟨⟨i + 1, by omega, by go_num, HB9, G9, X9, Y9, D9⟩, by simp [intOf]; omega⟩
              · have hkb : (ku != kindR j) = true := by simpa using hk
                have HF9 : Hid (wellB .module (.mk kd x m p [y0, y1, y2, y3, y4, y5]) = false) := module_no H0.out hlt HY.out (by rw [well_list, hh, all_false (HT.out.trans (decl_kind j hlt ku xu mu pu lu hk))]; rfl); go_wp2_with fail
                go_quiet (fail)
                go_wp2_with fail
                go_ret
                exact ⟨by rw [HF9.out]; rfl, (by exact gb_drewN GW.out _)⟩
            · have HU9 : Hid (upTo [y0, y1, y2, y3, y4, y5] (j + 1)) := HU.out.step HY.out (by rw [well_list, hh, all_done hlt2 HB.out]; rfl)
              go_wp2_with fail
              exact ⟨⟨j + 1, by omega, by go_num, HU9, GW, HX3, HD3⟩, by simp [intOf]; omega⟩
      · obtain rfl : j = 5 := by omega
        have HV := hide (module_yes H0.out HU.out); obtain ⟨_,_,_,_,_⟩ := N5.out.kept HG.out; go_wp2_with fail; go_at_call 18; refine ((ac_all y5).stmts _ _ (HK.out.kept HG.out) F5.out (A5.out.kept HG.out)).mono ?_; rintro e w2 ⟨rfl, hg2⟩; have G2 := hide (gb_trans HG.out hg2); go_wp2_with fail
        go_ret
        exact ⟨by rw [HV.out]; rfl, G2.out⟩
end Go.Proofs.YtapfecciakijhaaGreatDoor
