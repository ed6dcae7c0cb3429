/- The program's writer: acts, kind by kind, but for choices. -/
import Derived.Test.YtapfecciakijhaaGreatDoorG15
namespace Go.Proofs.YtapfecciakijhaaGreatDoor
open Go.RowKit Go.Maps Go.WideMaps Go.WideElems
set_option maxHeartbeats 4000000
set_option maxRecDepth 1000000

/-- The writer writes an act's text at a level, wherever its parts lie. -/
def AW (w0 : World) (wb L : Nat) (t : T) (X : List UInt8) : Prop := ∀ (w : World) (S : List UInt8) (sv : Value), Wr w0 wb w S L → AT w0 t.subs sv → S.length + X.length ≤ 1000000000 → Calls Tryz.prog 101 #[ptr wb, nodeV t sv] w (WP w0 wb w S L X)
/-- .. of acts below this level. -/
def LW (w0 : World) (wb L : Nat) (us : List T) (X : List UInt8) : Prop := ∀ (w : World) (S : List UInt8) (sl : Value), Wr w0 wb w S L → AT w0 us sl → S.length + X.length ≤ 1000000000 → Calls Tryz.prog 62 #[ptr wb, sl] w (WP w0 wb w S L X)
theorem en_act : EN 101 := enters_of Tryz.func101 (by kernel_rfl) rfl
theorem EW.act {w0 : World} {wb L : Nat} {us : List T} {tx : T → List UInt8} (H : ∀ v ∈ us, AW w0 wb L v (tx v)) (w : World) : EW w0 wb w L 101 #[ptr wb] #[] us tx := fun t sv w1 S hm ha hw _ hl => H t hm w1 S sv hw ha hl
theorem acts_w (w0 : World) (wb L : Nat) (us : List T) (tx : T → List UInt8) (H : ∀ v ∈ us, AW w0 wb (L + 1) v (tx v)) (hL : L ≤ 1000) (w : World) (S : List UInt8) (sl : Value) (h : Wr w0 wb w S L) (ha : AT w0 us sl) (hlen : S.length + (linesTx [59] [] tx L us).length ≤ 1000000000) :
    Calls Tryz.prog 62 #[ptr wb, sl] w (WP w0 wb w S L (linesTx [59] [] tx L us)) := by
  have HW := hide h; have HA := hide ha; have HH := hide H; obtain ⟨_,_,rfl,_,_⟩ := ha.form
  generalize HX : linesTx [59] [] tx L us = X at hlen ⊢
  clear h ha H
  go_enter Tryz.func62, Tryz.ntmps62
  go_wp2_with fail; go_at_call 91; refine (lines_any w0 wb _ _ L us _ [59] [] _ _ _ tx (HW.out.grown (gb_refl w none)) HA.out (EW.act HH.out _) en_act (by decide) hL (by rw [HX]; omega)).mono ?_; rintro e w1 ⟨rfl, j1, k1⟩; have W1 := hide j1; have K1 := hide ((WK.grown HW.out (gb_refl w none)).trans k1); clear j1 k1; rw [HX] at W1; go_wp2_with fail
  go_end0
  refine ⟨rfl, ?_, K1.out⟩; have J9 := W1.out
  try simp only [List.append_assoc, List.nil_append, List.append_nil] at J9 ⊢
  exact J9
theorem acts_of (w0 : World) (wb L : Nat) (us : List T) (tx : T → List UInt8) (H : ∀ v ∈ us, AW w0 wb (L + 1) v (tx v)) (hL : L ≤ 1000) : LW w0 wb L us (linesTx [59] [] tx L us) := fun w S sl h ha hlen => acts_w w0 wb L us tx H hL w S sl h ha hlen
theorem end_any (w0 : World) (wb : Nat) (w : World) (S : List UInt8) (L : Nat) (h : Wr w0 wb w S L) (hlen : S.length + 2 * L + 3 ≤ 1000000000) :
    Calls Tryz.prog 129 #[ptr wb] w (WP w0 wb w S L (padTx L ++ [69, 78, 68])) := by
  have HW := hide h; clear h
  go_enter Tryz.func129, Tryz.ntmps129
  go_wp2_with fail; go_at_call 87; refine (begin_any w0 wb _ _ L (HW.out.grown (gb_refl w none)) (by omega)).mono ?_; rintro e w1 ⟨rfl, j1, k1⟩; have W1 := hide j1; have K1 := hide ((WK.grown HW.out (gb_refl w none)).trans k1); clear j1 k1; go_wp2_with fail; go_at_call 56; refine (write1 w0 wb _ _ L [69, 78, 68] _ _ (by simp) (W1.out.grown (gb_refl w1 none)) (by first | omega | (simp only [List.length_append, List.length_cons, List.length_nil, padTx_len]; omega))).mono ?_; rintro e w2 ⟨rfl, j2, k2⟩; have W2 := hide j2; have K2 := hide (K1.out.trans ((WK.grown W1.out (gb_refl w1 none)).trans k2)); clear j2 k2; go_wp2_with fail
  go_end0
  refine ⟨rfl, ?_, K2.out⟩; have J9 := W2.out
  try simp only [List.append_assoc] at J9 ⊢
  exact J9
theorem branch_of (w0 : World) (wb : Nat) (w : World) (S : List UInt8) (L : Nat) (ahead behind : List UInt8) (u v : T) (us : List T) (sl : Value) (h : Wr w0 wb w S L) (ha : AT w0 (u :: v :: us) sl) (U Z : List UInt8) (hu : EXW w0 wb u U) (hz : LW w0 wb L v.subs Z) (hlen : S.length + (ahead ++ (U ++ (behind ++ ([10] ++ Z)))).length ≤ 1000000000) :
    Calls Tryz.prog 128 #[ptr wb, .string ⟨ahead.toArray⟩, sl, .string ⟨behind.toArray⟩] w (WP w0 wb w S L (ahead ++ (U ++ (behind ++ ([10] ++ Z))))) := by
  have HW := hide h; have hwl := h.lt; have HU := hide hu; have HZ := hide hz; obtain ⟨_,c,rfl,hn,hc⟩ := ha.form
  unfold maxLen at hc
  obtain ⟨g,o,_,rfl,n5,fu,au⟩ := ha.node 0 u rfl; obtain ⟨g', o', sw, e2, n6, fv, av⟩ := ha.node 1 v rfl; cases e2; rw [show o + 0 * 5 = o by omega] at n5; rw [show o + 1 * 5 = o + 5 by omega] at n6; have NU := hide n5; have AU := hide au; have NV := hide n6; have AV := hide av; obtain ⟨nu0,_,_,_,_⟩ := n5.kept h.gb; obtain ⟨_,_,_,_,_⟩ := n6.kept h.gb; have hgl := block_lt nu0
  have hlu : us.length + 2 ≤ c := by simpa using hn
  clear h ha hu hz fu au n5 fv av n6 hn
  change Calls Tryz.prog 128 #[ptr wb, .string ⟨ahead.toArray⟩, .slice (some ⟨g, o, none⟩) (us.length + 1 + 1) c, .string ⟨behind.toArray⟩] w _
  simp only [List.length_append, List.length_cons, List.length_nil] at hlen
  go_enter Tryz.func128, Tryz.ntmps128
  go_wp2_with fail; go_at_call 56; refine (write1 w0 wb _ _ L ahead _ _ (by simp) (HW.out.grown (gb_refl w none)) (by first | omega | (simp only [List.length_append, List.length_cons, List.length_nil, padTx_len]; omega))).mono ?_; rintro e w1 ⟨rfl, j1, k1⟩; have W1 := hide j1; have K1 := hide ((WK.grown HW.out (gb_refl w none)).trans k1); obtain ⟨nu0_1,_,_,_,_⟩ := NU.out.kept W1.out.gb; have nul_1 := block_lt nu0_1; obtain ⟨nv0_1,_,_,_,_⟩ := NV.out.kept W1.out.gb; have nvl_1 := block_lt nv0_1; clear j1 k1; go_wp2_with fail; go_at_call 57; refine (HU.out _ _ L _ (W1.out.grown (gb_refl w1 none)) AU.out (by first | omega | (simp only [List.length_append]; omega))).mono ?_; rintro e w2 ⟨rfl, j2, k2⟩; have W2 := hide j2; have K2 := hide (K1.out.trans ((WK.grown W1.out (gb_refl w1 none)).trans k2)); obtain ⟨nu0_2,_,_,_,_⟩ := NU.out.kept W2.out.gb; have nul_2 := block_lt nu0_2; obtain ⟨nv0_2,_,_,_,_⟩ := NV.out.kept W2.out.gb; have nvl_2 := block_lt nv0_2; clear j2 k2; go_wp2_with fail; go_at_call 56; refine (write2 w0 wb _ _ L behind [10] _ _ (by simp) (W2.out.grown (gb_refl w2 none)) (by first | omega | (simp only [List.length_append, List.length_cons, List.length_nil]; omega))).mono ?_; rintro e w3 ⟨rfl, j3, k3⟩; have W3 := hide j3; have K3 := hide (K2.out.trans ((WK.grown W2.out (gb_refl w2 none)).trans k3)); obtain ⟨nu0_3,_,_,_,_⟩ := NU.out.kept W3.out.gb; have nul_3 := block_lt nu0_3; obtain ⟨nv0_3,_,_,_,_⟩ := NV.out.kept W3.out.gb; have nvl_3 := block_lt nv0_3; clear j3 k3; go_wp2_with fail; go_at_call 62; refine (HZ.out _ _ _ (W3.out.grown (gb_refl w3 none)) AV.out (by first | omega | (simp only [List.length_append, List.length_cons, List.length_nil]; omega))).mono ?_; rintro e w4 ⟨rfl, j4, k4⟩; have W4 := hide j4; have K4 := hide (K3.out.trans ((WK.grown W3.out (gb_refl w3 none)).trans k4)); obtain ⟨nu0_4,_,_,_,_⟩ := NU.out.kept W4.out.gb; have nul_4 := block_lt nu0_4; obtain ⟨nv0_4,_,_,_,_⟩ := NV.out.kept W4.out.gb; have nvl_4 := block_lt nv0_4; clear j4 k4; go_wp2_with fail
  go_end0
  refine ⟨rfl, ?_, K4.out⟩; have J9 := W4.out
  try simp only [List.append_assoc] at J9 ⊢
  exact J9
theorem ac14 (w0 : World) (wb : Nat) (w : World) (S : List UInt8) (L : Nat) (x : List UInt8) (m : Int) (p : Int) (u : T) (v : T) (sv : Value) (h : Wr w0 wb w S L) (ha : AT w0 (T.mk 14 x m p [u, v]).subs sv) (U V : List UInt8) (he : EXW w0 wb u U) (hf : EXW w0 wb v V) (hlen : S.length + (U ++ ([32, 58, 61, 32] ++ V)).length ≤ 1000000000) :
    Calls Tryz.prog 101 #[ptr wb, .agg #[.int .i64 14, .string ⟨List.toArray x⟩, .int .i64 m, .int .i64 p, sv]] w (WP w0 wb w S L (U ++ ([32, 58, 61, 32] ++ V))) := by
  have HW := hide h; have hwl := h.lt; have HL := hide hlen; have HA := hide ha; obtain ⟨g, o, c, u', su, v', sw, rfl, hn, hc, hl, n5, fu, au, n6, fv, av⟩ := ha.two rfl
  have hl2 : u = u' ∧ v = v' := by simpa [T.subs] using hl
  obtain ⟨rfl,rfl⟩ := hl2; have NU := hide n5; have AU := hide au; have NV := hide n6; have AV := hide av; obtain ⟨nu0,_,_,_,_⟩ := n5.kept h.gb; obtain ⟨_,_,_,_,_⟩ := n6.kept h.gb; have hgl := block_lt nu0; clear h ha hl fu au n5 fv av n6
  try simp only [List.length_append, List.length_cons, List.length_nil] at hlen
  have HE := hide he; clear he; have HF := hide hf; clear hf
  go_enter Tryz.func101, Tryz.ntmps101
  go_wp2_with fail; go_at_call 57; refine (HE.out _ _ L _ (HW.out.grown (by exact gb_alloc (gb_refl w none) _)) AU.out (by first | omega | (simp only [List.length_append, List.length_cons, List.length_nil, padTx_len]; omega))).mono ?_; rintro e w1 ⟨rfl, j1, k1⟩; have W1 := hide j1; have K1 := hide ((WK.grown HW.out (by exact gb_alloc (gb_refl w none) _)).trans k1); have B1 := hide ((FB.newX HW.out 14 x m p [u, v] (.slice (some ⟨g, o, none⟩) 2 c) 24 (gb_refl w none)).step ((WK.grown (HW.out.grown (gb_alloc (gb_refl w none) _)) (gb_refl _ none)).trans k1)); obtain ⟨_,_,_,_,_⟩ := B1.out.box.p; have bl_1 := B1.out.fr.lt
  obtain ⟨nu0_1,_,_,_,_⟩ := NU.out.kept W1.out.gb; have nul_1 := block_lt nu0_1; obtain ⟨nv0_1,_,_,_,_⟩ := NV.out.kept W1.out.gb; have nvl_1 := block_lt nv0_1; clear j1 k1; go_wp2_with fail; go_at_call 56; refine (write1 w0 wb _ _ L [32, 58, 61, 32] _ _ (by simp) (W1.out.grown (gb_refl w1 none)) (by first | omega | (simp only [List.length_append, List.length_cons, List.length_nil]; omega))).mono ?_; rintro e w2 ⟨rfl, j2, k2⟩; have W2 := hide j2; have K2 := hide (K1.out.trans ((WK.grown W1.out (gb_refl w1 none)).trans k2)); have B2 := hide (B1.out.step ((WK.grown W1.out (gb_refl w1 none)).trans k2)); obtain ⟨_,_,_,_,_⟩ := B2.out.box.p; have bl_2 := B2.out.fr.lt
  obtain ⟨nu0_2,_,_,_,_⟩ := NU.out.kept W2.out.gb; have nul_2 := block_lt nu0_2; obtain ⟨nv0_2,_,_,_,_⟩ := NV.out.kept W2.out.gb; have nvl_2 := block_lt nv0_2; clear j2 k2; go_wp2_with fail; go_at_call 57; refine (HF.out _ _ L _ (W2.out.grown (gb_refl w2 none)) AV.out (by first | omega | (simp only [List.length_append, List.length_cons, List.length_nil]; omega))).mono ?_; rintro e w3 ⟨rfl, j3, k3⟩; have W3 := hide j3; have K3 := hide (K2.out.trans ((WK.grown W2.out (gb_refl w2 none)).trans k3)); have B3 := hide (B2.out.step ((WK.grown W2.out (gb_refl w2 none)).trans k3)); obtain ⟨_,_,_,_,_⟩ := B3.out.box.p; have bl_3 := B3.out.fr.lt
  obtain ⟨nu0_3,_,_,_,_⟩ := NU.out.kept W3.out.gb; have nul_3 := block_lt nu0_3; obtain ⟨nv0_3,_,_,_,_⟩ := NV.out.kept W3.out.gb; have nvl_3 := block_lt nv0_3; clear j3 k3; go_wp2_with fail
  go_end0
  refine ⟨rfl, ?_, K3.out⟩; have J9 := W3.out
  try simp only [List.append_assoc] at J9 ⊢
  exact J9
theorem ac15s (w0 : World) (wb : Nat) (w : World) (S : List UInt8) (L : Nat) (x : List UInt8) (m p : Int) (u : T) (us : List T) (sv : Value) (h : Wr w0 wb w S L) (ha : AT w0 (T.mk 15 x m p (u :: us)).subs sv) (U : List UInt8) (tx : T → List UInt8) (hu : EXW w0 wb u U) (he : ∀ v ∈ us, EXW w0 wb v (tx v)) (hus : 0 < us.length) (hlen : S.length + (U ++ ([40] ++ (sepTx [44, 32] (us.map tx) ++ [41]))).length ≤ 1000000000) :
    Calls Tryz.prog 101 #[ptr wb, .agg #[.int .i64 15, .string ⟨List.toArray x⟩, .int .i64 m, .int .i64 p, sv]] w (WP w0 wb w S L (U ++ ([40] ++ (sepTx [44, 32] (us.map tx) ++ [41])))) := by
  have HW := hide h; have hwl := h.lt; have HU := hide hu; have HE := hide he; obtain ⟨g,o,c,_,rfl,_,_,n5,fu,au,ar⟩ := AT.cons ha; have NU := hide n5; have AU := hide au; obtain ⟨nu0,_,_,_,_⟩ := n5.kept h.gb; have hgl := block_lt nu0; have AR := hide ar; clear h ha hu he fu au n5 ar
  try simp only [List.length_append, List.length_cons, List.length_nil] at hlen
  rcases Nat.lt_or_ge 1 c with hc1 | hc1
  · have AR2 := hide AR.out
    have husb : (1 : Int) < (us.length : Int) + 1 := by omega
    go_enter Tryz.func101, Tryz.ntmps101
    go_wp2_with fail; go_at_call 57; refine (HU.out _ _ L _ (HW.out.grown (by exact gb_alloc (gb_refl w none) _)) AU.out (by first | omega | (simp only [List.length_append, List.length_cons, List.length_nil, padTx_len]; omega))).mono ?_; rintro e w1 ⟨rfl, j1, k1⟩; have W1 := hide j1; have K1 := hide ((WK.grown HW.out (by exact gb_alloc (gb_refl w none) _)).trans k1); have B1 := hide ((FB.newX HW.out 15 x m p (u :: us) (.slice (some ⟨g, o, none⟩) (us.length + 1) c) 24 (gb_refl w none)).step ((WK.grown (HW.out.grown (gb_alloc (gb_refl w none) _)) (gb_refl _ none)).trans k1)); obtain ⟨_,_,_,_,_⟩ := B1.out.box.p; have bl_1 := B1.out.fr.lt
    obtain ⟨nu0_1,_,_,_,_⟩ := NU.out.kept W1.out.gb; have nul_1 := block_lt nu0_1; clear j1 k1; go_wp2_with fail; go_at_call 94; refine (arguments_any w0 wb _ _ L us _ tx (W1.out.grown (gb_refl w1 none)) AR2.out HE.out (by first | omega | (simp only [List.length_append, List.length_cons, List.length_nil]; omega))).mono ?_; rintro e w2 ⟨rfl, j2, k2⟩; have W2 := hide j2; have K2 := hide (K1.out.trans ((WK.grown W1.out (gb_refl w1 none)).trans k2)); have B2 := hide (B1.out.step ((WK.grown W1.out (gb_refl w1 none)).trans k2)); obtain ⟨_,_,_,_,_⟩ := B2.out.box.p; have bl_2 := B2.out.fr.lt
    obtain ⟨nu0_2,_,_,_,_⟩ := NU.out.kept W2.out.gb; have nul_2 := block_lt nu0_2; clear j2 k2; go_wp2_with fail
    go_end0
    refine ⟨rfl, ?_, K2.out⟩; have J9 := W2.out
    try simp only [List.append_assoc] at J9 ⊢
    exact J9
  · obtain rfl : c = 1 := by omega
    obtain rfl : us = [] := List.eq_nil_of_length_eq_zero (by omega); have AR2 : Hid (AT w0 [] (.slice (some ⟨g, o, none⟩) 0 0)) := AT.nil _ _ (Nat.zero_le _)
    exact absurd hus (by simp)
theorem ac15n (w0 : World) (wb : Nat) (w : World) (S : List UInt8) (L : Nat) (x : List UInt8) (m : Int) (p : Int) (u : T) (sv : Value) (h : Wr w0 wb w S L) (ha : AT w0 (T.mk 15 x m p [u]).subs sv) (U : List UInt8) (he : EXW w0 wb u U) (hlen : S.length + (U).length ≤ 1000000000) :
    Calls Tryz.prog 101 #[ptr wb, .agg #[.int .i64 15, .string ⟨List.toArray x⟩, .int .i64 m, .int .i64 p, sv]] w (WP w0 wb w S L (U)) := by
  have HW := hide h; have hwl := h.lt; have HL := hide hlen; have HA := hide ha; obtain ⟨g, o, c, u', su, rfl, hn, hc, hl, n5, fu, au⟩ := ha.one rfl
  obtain rfl : u = u' := by simpa [T.subs] using hl
  have NU := hide n5; have AU := hide au; obtain ⟨nu0,_,_,_,_⟩ := n5.kept h.gb; have hgl := block_lt nu0; clear h ha hl fu au n5
  try simp only [List.length_append, List.length_cons, List.length_nil, padTx_len] at hlen
  have HE := hide he; clear he
  go_enter Tryz.func101, Tryz.ntmps101
  go_wp2_with fail; go_at_call 57; refine (HE.out _ _ L _ (HW.out.grown (by exact gb_alloc (gb_refl w none) _)) AU.out (by first | omega | (simp only [List.length_append, List.length_cons, List.length_nil, padTx_len]; omega))).mono ?_; rintro e w1 ⟨rfl, j1, k1⟩; have W1 := hide j1; have K1 := hide ((WK.grown HW.out (by exact gb_alloc (gb_refl w none) _)).trans k1); have B1 := hide ((FB.newX HW.out 15 x m p [u] (.slice (some ⟨g, o, none⟩) 1 c) 24 (gb_refl w none)).step ((WK.grown (HW.out.grown (gb_alloc (gb_refl w none) _)) (gb_refl _ none)).trans k1)); obtain ⟨_,_,_,_,_⟩ := B1.out.box.p; have bl_1 := B1.out.fr.lt
  obtain ⟨nu0_1,_,_,_,_⟩ := NU.out.kept W1.out.gb; have nul_1 := block_lt nu0_1; clear j1 k1; go_wp2_with fail
  go_end0
  refine ⟨rfl, ?_, K1.out⟩; have J9 := W1.out
  try simp only [List.append_assoc, List.nil_append, List.append_nil] at J9 ⊢
  exact J9
theorem ac17 (w0 : World) (wb : Nat) (w : World) (S : List UInt8) (L : Nat) (x : List UInt8) (m : Int) (p : Int) (u : T) (v : T) (sv : Value) (h : Wr w0 wb w S L) (ha : AT w0 (T.mk 17 x m p [u, v]).subs sv) (U Z : List UInt8) (he : EXW w0 wb u U) (hz : LW w0 wb L v.subs Z) (hlen : S.length + ([87, 72, 73, 76, 69, 32] ++ (U ++ ([32, 68, 79] ++ ([10] ++ (Z ++ (padTx L ++ [69, 78, 68])))))).length ≤ 1000000000) :
    Calls Tryz.prog 101 #[ptr wb, .agg #[.int .i64 17, .string ⟨List.toArray x⟩, .int .i64 m, .int .i64 p, sv]] w (WP w0 wb w S L ([87, 72, 73, 76, 69, 32] ++ (U ++ ([32, 68, 79] ++ ([10] ++ (Z ++ (padTx L ++ [69, 78, 68]))))))) := by
  have HW := hide h; have hwl := h.lt; have HL := hide hlen; have HA := hide ha; obtain ⟨g, o, c, u', su, v', sw, rfl, hn, hc, hl, n5, fu, au, n6, fv, av⟩ := ha.two rfl
  have hl2 : u = u' ∧ v = v' := by simpa [T.subs] using hl
  obtain ⟨rfl,rfl⟩ := hl2; have NU := hide n5; have AU := hide au; have NV := hide n6; have AV := hide av; obtain ⟨nu0,_,_,_,_⟩ := n5.kept h.gb; obtain ⟨_,_,_,_,_⟩ := n6.kept h.gb; have hgl := block_lt nu0; clear h ha hl fu au n5 fv av n6
  try simp only [List.length_append, List.length_cons, List.length_nil, padTx_len] at hlen
  have HE := hide he; clear he; have HZ := hide hz; clear hz
  go_enter Tryz.func101, Tryz.ntmps101
  go_wp2_with fail; go_at_call 128; refine (branch_of w0 wb _ _ L [87, 72, 73, 76, 69, 32] [32, 68, 79] u v [] _ (HW.out.grown (by exact gb_alloc (gb_refl w none) _)) HA.out U Z HE.out HZ.out (by first | omega | (simp only [List.length_append, List.length_cons, List.length_nil]; omega))).mono ?_; rintro e w1 ⟨rfl, j1, k1⟩; have W1 := hide j1; have K1 := hide ((WK.grown HW.out (by exact gb_alloc (gb_refl w none) _)).trans k1); have B1 := hide ((FB.newX HW.out 17 x m p [u, v] (.slice (some ⟨g, o, none⟩) 2 c) 24 (gb_refl w none)).step ((WK.grown (HW.out.grown (gb_alloc (gb_refl w none) _)) (gb_refl _ none)).trans k1)); obtain ⟨_,_,_,_,_⟩ := B1.out.box.p; have bl_1 := B1.out.fr.lt
  obtain ⟨nu0_1,_,_,_,_⟩ := NU.out.kept W1.out.gb; have nul_1 := block_lt nu0_1; obtain ⟨nv0_1,_,_,_,_⟩ := NV.out.kept W1.out.gb; have nvl_1 := block_lt nv0_1; clear j1 k1; go_wp2_with fail; go_at_call 129; refine (end_any w0 wb _ _ L (W1.out.grown (gb_refl w1 none)) (by first | omega | (simp only [List.length_append, List.length_cons, List.length_nil]; omega))).mono ?_; rintro e w2 ⟨rfl, j2, k2⟩; have W2 := hide j2; have K2 := hide (K1.out.trans ((WK.grown W1.out (gb_refl w1 none)).trans k2)); have B2 := hide (B1.out.step ((WK.grown W1.out (gb_refl w1 none)).trans k2)); obtain ⟨_,_,_,_,_⟩ := B2.out.box.p; have bl_2 := B2.out.fr.lt
  obtain ⟨nu0_2,_,_,_,_⟩ := NU.out.kept W2.out.gb; have nul_2 := block_lt nu0_2; obtain ⟨nv0_2,_,_,_,_⟩ := NV.out.kept W2.out.gb; have nvl_2 := block_lt nv0_2; clear j2 k2; go_wp2_with fail
  go_end0
  refine ⟨rfl, ?_, K2.out⟩; have J9 := W2.out
  try simp only [List.append_assoc] at J9 ⊢
  exact J9
theorem ac18 (w0 : World) (wb : Nat) (w : World) (S : List UInt8) (L : Nat) (x : List UInt8) (m : Int) (p : Int) (u : T) (v : T) (sv : Value) (h : Wr w0 wb w S L) (ha : AT w0 (T.mk 18 x m p [u, v]).subs sv) (Z V : List UInt8) (hz : LW w0 wb L u.subs Z) (he : EXW w0 wb v V) (hlen : S.length + ([82, 69, 80, 69, 65, 84, 10] ++ (Z ++ (padTx L ++ ([85, 78, 84, 73, 76, 32] ++ V)))).length ≤ 1000000000) :
    Calls Tryz.prog 101 #[ptr wb, .agg #[.int .i64 18, .string ⟨List.toArray x⟩, .int .i64 m, .int .i64 p, sv]] w (WP w0 wb w S L ([82, 69, 80, 69, 65, 84, 10] ++ (Z ++ (padTx L ++ ([85, 78, 84, 73, 76, 32] ++ V))))) := by
  have HW := hide h; have hwl := h.lt; have HL := hide hlen; have HA := hide ha; obtain ⟨g, o, c, u', su, v', sw, rfl, hn, hc, hl, n5, fu, au, n6, fv, av⟩ := ha.two rfl
  have hl2 : u = u' ∧ v = v' := by simpa [T.subs] using hl
  obtain ⟨rfl,rfl⟩ := hl2; have NU := hide n5; have AU := hide au; have NV := hide n6; have AV := hide av; obtain ⟨nu0,_,_,_,_⟩ := n5.kept h.gb; obtain ⟨_,_,_,_,_⟩ := n6.kept h.gb; have hgl := block_lt nu0; clear h ha hl fu au n5 fv av n6
  try simp only [List.length_append, List.length_cons, List.length_nil, padTx_len] at hlen
  have HZ := hide hz; clear hz; have HE := hide he; clear he
  go_enter Tryz.func101, Tryz.ntmps101
  go_wp2_with fail; go_at_call 56; refine (write1 w0 wb _ _ L [82, 69, 80, 69, 65, 84, 10] _ _ (by simp) (HW.out.grown (by exact gb_alloc (gb_refl w none) _)) (by first | omega | (simp only [List.length_cons, List.length_nil]; omega))).mono ?_; rintro e w1 ⟨rfl, j1, k1⟩; have W1 := hide j1; have K1 := hide ((WK.grown HW.out (by exact gb_alloc (gb_refl w none) _)).trans k1); have B1 := hide ((FB.newX HW.out 18 x m p [u, v] (.slice (some ⟨g, o, none⟩) 2 c) 24 (gb_refl w none)).step ((WK.grown (HW.out.grown (gb_alloc (gb_refl w none) _)) (gb_refl _ none)).trans k1)); obtain ⟨_,_,_,_,_⟩ := B1.out.box.p; have bl_1 := B1.out.fr.lt
  obtain ⟨nu0_1,_,_,_,_⟩ := NU.out.kept W1.out.gb; have nul_1 := block_lt nu0_1; obtain ⟨nv0_1,_,_,_,_⟩ := NV.out.kept W1.out.gb; have nvl_1 := block_lt nv0_1; clear j1 k1; go_wp2_with fail; go_at_call 62; refine (HZ.out _ _ _ (W1.out.grown (gb_refl w1 none)) AU.out (by first | omega | (simp only [List.length_append, List.length_cons, List.length_nil]; omega))).mono ?_; rintro e w2 ⟨rfl, j2, k2⟩; have W2 := hide j2; have K2 := hide (K1.out.trans ((WK.grown W1.out (gb_refl w1 none)).trans k2)); have B2 := hide (B1.out.step ((WK.grown W1.out (gb_refl w1 none)).trans k2)); obtain ⟨_,_,_,_,_⟩ := B2.out.box.p; have bl_2 := B2.out.fr.lt
  obtain ⟨nu0_2,_,_,_,_⟩ := NU.out.kept W2.out.gb; have nul_2 := block_lt nu0_2; obtain ⟨nv0_2,_,_,_,_⟩ := NV.out.kept W2.out.gb; have nvl_2 := block_lt nv0_2; clear j2 k2; go_wp2_with fail; go_at_call 87; refine (begin_any w0 wb _ _ L (W2.out.grown (gb_refl w2 none)) (by first | omega | (simp only [List.length_append, List.length_cons, List.length_nil]; omega))).mono ?_; rintro e w3 ⟨rfl, j3, k3⟩; have W3 := hide j3; have K3 := hide (K2.out.trans ((WK.grown W2.out (gb_refl w2 none)).trans k3)); have B3 := hide (B2.out.step ((WK.grown W2.out (gb_refl w2 none)).trans k3)); obtain ⟨_,_,_,_,_⟩ := B3.out.box.p; have bl_3 := B3.out.fr.lt
  obtain ⟨nu0_3,_,_,_,_⟩ := NU.out.kept W3.out.gb; have nul_3 := block_lt nu0_3; obtain ⟨nv0_3,_,_,_,_⟩ := NV.out.kept W3.out.gb; have nvl_3 := block_lt nv0_3; clear j3 k3; go_wp2_with fail; go_at_call 56; refine (write1 w0 wb _ _ L [85, 78, 84, 73, 76, 32] _ _ (by simp) (W3.out.grown (gb_refl w3 none)) (by first | omega | (simp only [List.length_append, List.length_cons, List.length_nil, padTx_len]; omega))).mono ?_; rintro e w4 ⟨rfl, j4, k4⟩; have W4 := hide j4; have K4 := hide (K3.out.trans ((WK.grown W3.out (gb_refl w3 none)).trans k4)); have B4 := hide (B3.out.step ((WK.grown W3.out (gb_refl w3 none)).trans k4)); obtain ⟨_,_,_,_,_⟩ := B4.out.box.p; have bl_4 := B4.out.fr.lt
  obtain ⟨nu0_4,_,_,_,_⟩ := NU.out.kept W4.out.gb; have nul_4 := block_lt nu0_4; obtain ⟨nv0_4,_,_,_,_⟩ := NV.out.kept W4.out.gb; have nvl_4 := block_lt nv0_4; clear j4 k4; go_wp2_with fail; go_at_call 57; refine (HE.out _ _ L _ (W4.out.grown (gb_refl w4 none)) AV.out (by first | omega | (simp only [List.length_append, List.length_cons, List.length_nil, padTx_len]; omega))).mono ?_; rintro e w5 ⟨rfl, j5, k5⟩; have W5 := hide j5; have K5 := hide (K4.out.trans ((WK.grown W4.out (gb_refl w4 none)).trans k5)); have B5 := hide (B4.out.step ((WK.grown W4.out (gb_refl w4 none)).trans k5)); obtain ⟨_,_,_,_,_⟩ := B5.out.box.p; have bl_5 := B5.out.fr.lt
  obtain ⟨nu0_5,_,_,_,_⟩ := NU.out.kept W5.out.gb; have nul_5 := block_lt nu0_5; obtain ⟨nv0_5,_,_,_,_⟩ := NV.out.kept W5.out.gb; have nvl_5 := block_lt nv0_5; clear j5 k5; go_wp2_with fail
  go_end0
  refine ⟨rfl, ?_, K5.out⟩; have J9 := W5.out
  try simp only [List.append_assoc] at J9 ⊢
  exact J9
theorem ac20 (w0 : World) (wb : Nat) (w : World) (S : List UInt8) (L : Nat) (k : Int) (x : List UInt8) (m p : Int) (u : T) (sv : Value) (h : Wr w0 wb w S L) (ha : AT w0 (T.mk k x m p [u]).subs sv) (U : List UInt8) (hu : EXW w0 wb u U) (hk : k = 20 ∨ k = 21 ∨ k = 22 ∨ k = 23) (hlen : S.length + (kwTx k ++ ([40] ++ (sepTx [44, 32] ([u].map fun _ => U) ++ [41]))).length ≤ 1000000000) :
    Calls Tryz.prog 101 #[ptr wb, .agg #[.int .i64 k, .string ⟨List.toArray x⟩, .int .i64 m, .int .i64 p, sv]] w (WP w0 wb w S L (kwTx k ++ ([40] ++ (sepTx [44, 32] ([u].map fun _ => U) ++ [41])))) := by
  have HW := hide h; have hwl := h.lt; have HA := hide ha; have HU := hide hu; obtain ⟨a,n,c,rfl,_,_,hl⟩ := ha.any
  change 1 = n at hl
  subst hl; obtain ⟨ob, db, -, mc, -, hd⟩ := h.maps; have hlk := wds_look ((w.alloc (.cells #[.int .i64 k, .string ⟨x.toArray⟩, .int .i64 m, .int .i64 p, .slice a 1 c] 24)).drew) db k (map_block hd ((gb_drew (gb_alloc (gb_refl w none) _)).block _ (World.ownsMap.lt hd) (by simp))) (by rcases hk with e | e | e | e <;> simp [e]); clear h hd ha hu
  rcases hk with rfl | rfl | rfl | rfl
  all_goals
    generalize kwTx _ = X at *
    have hfd := field_word X; simp only [List.length_append, List.length_cons, List.length_nil] at hlen
    go_enter Tryz.func101, Tryz.ntmps101
    go_wp2_with fail
    go_region_with
      (go_at_call 56
       refine (write1d w0 wb _ _ L X _ _ (by simp) (HW.out.grown (by exact gb_alloc (gb_refl w none) _)) (by omega)).mono ?_; rintro e w1 ⟨rfl, j1, k1⟩; have W1 := hide j1; have K1 := hide ((WK.grown HW.out (by exact gb_alloc (gb_refl w none) _)).trans k1); have B1 := hide ((FB.newX HW.out _ x m p [u] (.slice a 1 c) 24 (gb_refl w none)).step k1); obtain ⟨_,_,_,_,_⟩ := B1.out.box; have bl_1 := B1.out.fr.lt
       clear j1 k1)
    all_goals
      go_wp2_with fail; go_at_call 94; refine (arguments_any w0 wb _ _ L [u] _ (fun _ => U) (W1.out.grown (gb_refl w1 none)) HA.out (fun v hv => (List.mem_singleton.1 hv).symm ▸ HU.out) (by first | omega | (simp only [List.length_append, List.length_cons, List.length_nil]; omega))).mono ?_; rintro e w2 ⟨rfl, j2, k2⟩; have W2 := hide j2; have K2 := hide (K1.out.trans ((WK.grown W1.out (gb_refl w1 none)).trans k2)); clear j2 k2; go_wp2_with fail
      go_end0
      refine ⟨rfl, ?_, K2.out⟩; have J9 := W2.out; simp only [List.append_assoc] at J9 ⊢
      exact J9
def retTx (tx : T → List UInt8) (ts : List T) : List UInt8 := flatTx (fun v => [32] ++ tx v) ts
theorem ret_take {tx : T → List UInt8} {ts : List T} {i : Nat} {u : T} (h : ts[i]? = some u) : retTx tx (ts.take (i + 1)) = retTx tx (ts.take i) ++ ([32] ++ tx u) := by
  unfold retTx
  rw [List.take_add_one, h, flatTx_append]
  simp [flatTx]
theorem ret_le (tx : T → List UInt8) (ts : List T) (i : Nat) : (retTx tx (ts.take i)).length ≤ (retTx tx ts).length := by
  have h : retTx tx (ts.take i ++ ts.drop i) = retTx tx (ts.take i) ++ retTx tx (ts.drop i) := flatTx_append _ _ _; rw [List.take_append_drop] at h; rw [h, List.length_append]
  omega
theorem ac19 (w0 : World) (wb : Nat) (w : World) (S : List UInt8) (L : Nat) (x : List UInt8) (m p : Int) (ts : List T) (sv : Value) (h : Wr w0 wb w S L) (ha : AT w0 (T.mk 19 x m p ts).subs sv) (tx : T → List UInt8) (he : ∀ v ∈ ts, EXW w0 wb v (tx v)) (hlen : S.length + ([82, 69, 84, 85, 82, 78] ++ retTx tx ts).length ≤ 1000000000) :
    Calls Tryz.prog 101 #[ptr wb, .agg #[.int .i64 19, .string ⟨List.toArray x⟩, .int .i64 m, .int .i64 p, sv]] w (WP w0 wb w S L ([82, 69, 84, 85, 82, 78] ++ retTx tx ts)) := by
  have HA := hide ha; have HW := hide h; have hwl := h.lt; have HE := hide he; obtain ⟨a,n,c,rfl,_,_,hl⟩ := ha.any
  change ts.length = n at hl
  subst hl; clear h ha he; simp only [List.length_append, List.length_cons, List.length_nil] at hlen
  go_enter Tryz.func101, Tryz.ntmps101
  go_wp2_with fail; go_at_call 56; refine (write1 w0 wb _ _ L [82, 69, 84, 85, 82, 78] _ _ (by simp) (HW.out.grown (by exact gb_alloc (gb_refl w none) _)) (by first | omega | (simp only [List.length_cons, List.length_nil]; omega))).mono ?_; rintro e w1 ⟨rfl, j1, k1⟩; have W1 := hide j1; have K1 := hide ((WK.grown HW.out (by exact gb_alloc (gb_refl w none) _)).trans k1); have B1 := hide ((FB.newX HW.out 19 x m p ts (.slice a ts.length c) 24 (gb_refl w none)).step ((WK.grown (HW.out.grown (gb_alloc (gb_refl w none) _)) (gb_refl _ none)).trans k1)); obtain ⟨_,_,_,_,_⟩ := B1.out.box.p; have bl_1 := B1.out.fr.lt
  clear j1 k1; go_wp2_with fail
  go_loopw [101] (fun iv wr => ∃ i : Nat, i ≤ ts.length ∧ iv = .int .i64 ↑i ∧ Hid (Wr w0 wb wr (S ++ ([82, 69, 84, 85, 82, 78] ++ retTx tx (ts.take i))) L) ∧ Hid (WK wb w wr)) (fun iv _ => ts.length - (intOf iv).toNat)
  case atStart => exact ⟨0, Nat.zero_le _, rfl, by show Wr _ _ _ _ _; simpa [retTx, flatTx] using W1.out, K1.out⟩
  case round =>
    obtain ⟨i,_,rfl,J1,K1⟩ := hrel
    by_cases hlt : i < ts.length
    · obtain ⟨u, hu⟩ : ∃ u, ts[i]? = some u := ⟨_, List.getElem?_eq_getElem hlt⟩
      obtain ⟨_,_,_,e1,n5,fu,au⟩ := HA.out.node i u hu; cases e1; obtain ⟨ua,uc,rfl,_,_⟩ := au.form; obtain ⟨_,_,_,_,_⟩ := n5.kept J1.out.gb; have HT := hide (ret_take (tx := tx) hu); have hle := ret_le tx ts (i + 1); have AU := hide au; have HEU := hide (HE.out u (List.mem_of_getElem? hu)); rw [HT.out] at hle; simp only [List.length_append, List.length_cons, List.length_nil] at hle; clear hu fu au n5; have hb := FB.new J1.out u (.slice ua u.subs.length uc) 24 (gb_refl wr none); have HB := hide hb; clear hb; go_wp2_with fail; go_at_call 56; refine (write1 w0 wb _ _ L [32] _ _ (by simp) (J1.out.grown (by exact gb_alloc (gb_refl wr none) _)) (by first | omega | (simp only [List.length_append, List.length_cons, List.length_nil]; omega))).mono ?_; rintro e x2 ⟨rfl, j2, k2⟩; have J2 := hide j2; have K2 := hide (K1.out.trans ((WK.grown J1.out (by exact gb_alloc (gb_refl wr none) _)).trans k2)); obtain ⟨_,e1,_,_,_⟩ := (HB.out.step ((WK.grown (J1.out.grown (gb_alloc (gb_refl wr none) _)) (gb_refl _ none)).trans k2)).box; clear j2 k2; go_wp2_with fail; go_at_call 57; refine (HEU.out _ _ L _ (J2.out.grown (gb_refl x2 none)) AU.out (by first | omega | (simp only [List.length_append, List.length_cons, List.length_nil]; omega))).mono ?_; rintro e x3 ⟨rfl, j3, k3⟩
      have J3 : Hid (Wr w0 wb x3 (S ++ ([82, 69, 84, 85, 82, 78] ++ retTx tx (ts.take (i + 1)))) L) := by show Wr _ _ _ _ _; rw [HT.out]; simpa only [List.append_assoc] using j3
      have K3 := hide (K2.out.trans ((WK.grown J2.out (gb_refl x2 none)).trans k3)); clear j3 k3; go_wp2_with fail
      exact ⟨⟨i + 1, by omega, by go_num, J3, K3⟩, by simp [intOf]; omega⟩
    · have J2 : Hid (Wr w0 wb wr (S ++ ([82, 69, 84, 85, 82, 78] ++ retTx tx ts)) L) := by
        have := J1.out; rw [List.take_of_length_le (by omega)] at this
        exact this
      go_wp2_with fail
      go_end0
      exact ⟨rfl, J2.out, K1.out⟩
end Go.Proofs.YtapfecciakijhaaGreatDoor

/- The program's writer: choices; every act. -/
namespace Go.Proofs.YtapfecciakijhaaGreatDoor
open Go.RowKit Go.Maps Go.WideMaps Go.WideElems
set_option maxHeartbeats 4000000
set_option maxRecDepth 1000000

theorem rest_one {ex ac : T → List UInt8} {L : Nat} {l : List T} (h : l.length ≤ 1) : restTx ex ac L l = flatTx (fun x => padTx L ++ ([69, 76, 83, 69] ++ ([10] ++ ac x))) l := by
  match l, h with
  | [], _ => rfl
  | [x], _ => simp [restTx, flatTx]
def elseTx (ac : T → List UInt8) (L : Nat) (l : List T) : List UInt8 := flatTx (fun x => padTx L ++ ([69, 76, 83, 69] ++ ([10] ++ ac x))) l
theorem else_take {ac : T → List UInt8} {L : Nat} {ts : List T} {i : Nat} {u : T} (h : ts[i]? = some u) : elseTx ac L (ts.take (i + 1)) = elseTx ac L (ts.take i) ++ (padTx L ++ ([69, 76, 83, 69] ++ ([10] ++ ac u))) := by
  unfold elseTx
  rw [List.take_add_one, h, flatTx_append]
  simp [flatTx]
theorem else_le (ac : T → List UInt8) (L : Nat) (ts : List T) (i : Nat) : (elseTx ac L (ts.take i)).length ≤ (elseTx ac L ts).length := by
  have h : elseTx ac L (ts.take i ++ ts.drop i) = elseTx ac L (ts.take i) ++ elseTx ac L (ts.drop i) := flatTx_append _ _ _; rw [List.take_append_drop] at h; rw [h, List.length_append]
  omega
def lenV : Value → Nat
  | .slice _ n _ => n
  | _ => 0
/-- What stands behind the first condition: each by what it is told to write. -/
inductive Rest (w0 : World) (wb L : Nat) (ex ac : T → List UInt8) : List T → Prop
  | nil : Rest w0 wb L ex ac []
  | one (x : T) (h : LW w0 wb L x.subs (ac x)) : Rest w0 wb L ex ac [x]
  | more (x y : T) (l : List T) (hx : EXW w0 wb x (ex x)) (hy : LW w0 wb L y.subs (ac y)) (h : Rest w0 wb L ex ac l) : Rest w0 wb L ex ac (x :: y :: l)
theorem AT.rest2 {w : World} {x y : T} {l : List T} {a : Option Addr} {n c : Nat} (h : AT w (x :: y :: l) (.slice a n c)) : ∃ g o, a = some ⟨g, o, none⟩ ∧ n = l.length + 2 ∧ l.length + 2 ≤ c ∧ c ≤ 9223372036854775807 ∧ AT w l (.slice (some ⟨g, o + 10, none⟩) l.length (c - 2)) := by
  obtain ⟨a', c', e, h1, h2⟩ := h.form; cases e
  unfold maxLen at h2
  obtain ⟨g, o, su, rfl, -, -, -⟩ := h.node 0 x rfl; have := h.drop 2 (by simp)
  exact ⟨g, o, rfl, by simp, by simpa using h1, by omega, by simpa using this⟩
theorem AT.slice {w : World} {l : List T} {v : Value} (h : AT w l v) : ∃ a c, v = .slice a l.length c ∧ l.length ≤ c ∧ c ≤ 9223372036854775807 := by
  obtain ⟨a,c,e,h1,h2⟩ := h.form
  unfold maxLen at h2
  exact ⟨a, c, e, h1, by omega⟩

theorem choice_w (w0 : World) (wb : Nat) (w : World) (S : List UInt8) (L : Nat) (x : List UInt8) (m p : Int) (u v : T) (us : List T) (sv : Value) (h : Wr w0 wb w S L) (ha : AT w0 (T.mk 16 x m p (u :: v :: us)).subs sv) (U Z : List UInt8) (ex ac : T → List UInt8) (hu : EXW w0 wb u U) (hz : LW w0 wb L v.subs Z) (hr : Rest w0 wb L ex ac us) (hlen : S.length + ([73, 70, 32] ++ (U ++ ([32, 84, 72, 69, 78] ++ ([10] ++ (Z ++ (restTx ex ac L us ++ (padTx L ++ [69, 78, 68]))))))).length ≤ 1000000000) :
    Calls Tryz.prog 127 #[ptr wb, nodeV (.mk 16 x m p (u :: v :: us)) sv] w (WP w0 wb w S L ([73, 70, 32] ++ (U ++ ([32, 84, 72, 69, 78] ++ ([10] ++ (Z ++ (restTx ex ac L us ++ (padTx L ++ [69, 78, 68])))))))) := by
  have HW := hide h; have hwl := h.lt; have HU := hide hu; have HZ := hide hz; have HR := hide hr; have HA := hide ha; obtain ⟨a,c,rfl,hn,_⟩ := AT.slice ha; obtain ⟨g, o, rfl, hn2, hn3, -, ar⟩ := AT.rest2 (show AT w0 (u :: v :: us) _ from ha); have AR := hide ar
  have hgl : g < w.heap.size := by
    obtain ⟨g', o', su, e, n5, -, -⟩ := ha.node 0 u rfl; cases e
    exact block_lt (n5.kept h.gb).c0
  clear h ha hu hz hr ar hn hn2
  change Calls Tryz.prog 127 #[ptr wb, .agg #[.int .i64 16, .string ⟨List.toArray x⟩, .int .i64 m, .int .i64 p, .slice (some ⟨g, o, none⟩) (us.length + 1 + 1) c]] w _
  simp only [List.length_append, List.length_cons, List.length_nil, padTx_len] at hlen
  have ARV : ∃ rv, Hid (AT w0 us rv) ∧ ((2 < c ∧ rv = .slice (some ⟨g, o + 10, none⟩) us.length (c - 2)) ∨ (c = 2 ∧ rv = .slice (some ⟨g, o, none⟩) 0 0)) := by
    rcases Nat.lt_or_ge 2 c with h2 | h2
    · exact ⟨_, AR, .inl ⟨h2, rfl⟩⟩
    · obtain rfl : c = 2 := by omega
      obtain rfl : us = [] := List.eq_nil_of_length_eq_zero (by omega)
      exact ⟨_, AT.nil _ _ (Nat.zero_le _), .inr ⟨rfl, rfl⟩⟩
  obtain ⟨rv,ARV,hrv⟩ := ARV
  have hcast : ((us.length : Int) + 1 + 1 - 2).toNat = us.length := by omega
  rcases hrv with ⟨h2, rfl⟩ | ⟨rfl, rfl⟩
  · go_enter Tryz.func127, Tryz.ntmps127
    go_wp2_with fail; go_at_call 128; refine (branch_of w0 wb _ _ L [73, 70, 32] [32, 84, 72, 69, 78] u v us _ (HW.out.grown (by exact gb_alloc (gb_refl w none) _)) HA.out U Z HU.out HZ.out (by first | omega | (simp only [List.length_append, List.length_cons, List.length_nil]; omega))).mono ?_; rintro e w1 ⟨rfl, j1, k1⟩; have W1 := hide j1; have K1 := hide ((WK.grown HW.out (by exact gb_alloc (gb_refl w none) _)).trans k1); have B1 := hide ((FB.newX HW.out 16 x m p (u :: v :: us) (.slice (some ⟨g, o, none⟩) (us.length + 1 + 1) c) 24 (gb_refl w none)).step ((WK.grown (HW.out.grown (gb_alloc (gb_refl w none) _)) (gb_refl _ none)).trans k1)); obtain ⟨b0_1,b1_1,b2_1,b3_1,b4_1⟩ := B1.out.box.p; have bl_1 := B1.out.fr.lt
    clear j1 k1; clear HU HZ HA AR; go_wp2_with fail
    go_loopw [4] (fun rv wr => ∃ (l : List T) (P : List UInt8), Hid (AT w0 l rv) ∧ Hid (Rest w0 wb L ex ac l) ∧ Hid (P ++ restTx ex ac L l = restTx ex ac L us) ∧ Hid (Wr w0 wb wr (S ++ (([73, 70, 32] ++ (U ++ ([32, 84, 72, 69, 78] ++ ([10] ++ Z)))) ++ P)) L) ∧ Hid (WK wb w wr)) (fun rv _ => lenV rv)
    case atStart => exact ⟨us, [], ARV, HR, by show _ = _; rfl, by show Wr _ _ _ _ _; simpa only [List.append_nil] using W1.out, K1.out⟩
    case round =>
      obtain ⟨l,P,LA,LR,LP,J1,K1⟩ := hrel; obtain ⟨la,lc,rfl,hl1,hl2⟩ := AT.slice LA.out
      have hPl : P.length + (restTx ex ac L l).length = (restTx ex ac L us).length := by rw [← List.length_append, LP.out]
      rcases Nat.lt_or_ge 1 l.length with hlt | hlt
      · match l, LA, LR, LP, hl1, hlt, hPl with
        | y :: z :: l, LA, LR, LP, hl1, hlt, hPl =>
          obtain ⟨hy, hz2, hl⟩ : EXW w0 wb y (ex y) ∧ LW w0 wb L z.subs (ac z) ∧ Rest w0 wb L ex ac l := by cases LR.out with | more _ _ _ a b c => exact ⟨a, b, c⟩
          have HY := hide hy; have HZ2 := hide hz2; have HLR := hide hl; obtain ⟨gg, oo, rfl, -, hn4, -, ar2⟩ := AT.rest2 LA.out
          have hrest : restTx ex ac L (y :: z :: l) = padTx L ++ ([69, 76, 83, 73, 70, 32] ++ (ex y ++ ([32, 84, 72, 69, 78] ++ ([10] ++ (ac z ++ restTx ex ac L l))))) := by simp [restTx]
          have HP2 : Hid ((P ++ (padTx L ++ ([69, 76, 83, 73, 70, 32] ++ (ex y ++ ([32, 84, 72, 69, 78] ++ ([10] ++ ac z)))))) ++ restTx ex ac L l = restTx ex ac L us) := by show _ = _; rw [← LP.out, hrest]; simp only [List.append_assoc]
          rw [hrest] at hPl; simp only [List.length_append, List.length_cons, List.length_nil, padTx_len] at hPl
          have ARV2 : ∃ rv, Hid (AT w0 l rv) ∧ ((2 < lc ∧ rv = .slice (some ⟨gg, oo + 10, none⟩) l.length (lc - 2)) ∨ (lc = 2 ∧ rv = .slice (some ⟨gg, oo, none⟩) 0 0)) := by
            rcases Nat.lt_or_ge 2 lc with h2 | h2
            · exact ⟨_, ar2, .inl ⟨h2, rfl⟩⟩
            · obtain rfl : lc = 2 := by omega
              obtain rfl : l = [] := List.eq_nil_of_length_eq_zero (by omega)
              exact ⟨_, AT.nil _ _ (Nat.zero_le _), .inr ⟨rfl, rfl⟩⟩
          obtain ⟨rv2,ARV2,hrv2⟩ := ARV2
          have hlb : (1 : Int) < (l.length : Int) + 1 + 1 := by omega
          have hll : (y :: z :: l).length = l.length + 1 + 1 := rfl
          rw [hll] at LA; clear hy hz2 hl ar2 LR LP hrest hll hlt; simp only [List.length_cons] at *
          rcases hrv2 with ⟨h92, rfl⟩ | ⟨rfl, rfl⟩
          · go_wp2_with fail
            go_at_call 87; refine (begin_any w0 wb _ _ L (J1.out.grown (gb_refl wr none)) (by first | omega | (simp only [List.length_append, List.length_cons, List.length_nil]; omega))).mono ?_; rintro e x2 ⟨rfl, j2, k2⟩; have J2 := hide j2; have K2 := hide (K1.out.trans ((WK.grown J1.out (gb_refl wr none)).trans k2)); clear j2 k2; go_wp2_with fail; go_at_call 128; refine (branch_of w0 wb _ _ L [69, 76, 83, 73, 70, 32] [32, 84, 72, 69, 78] y z l _ (J2.out.grown (gb_refl x2 none)) LA.out (ex y) (ac z) HY.out HZ2.out (by first | omega | (simp only [List.length_append, List.length_cons, List.length_nil, padTx_len]; omega))).mono ?_; rintro e x3 ⟨rfl, j3, k3⟩
            have J3 : Hid (Wr w0 wb x3 (S ++ (([73, 70, 32] ++ (U ++ ([32, 84, 72, 69, 78] ++ ([10] ++ Z)))) ++ (P ++ (padTx L ++ ([69, 76, 83, 73, 70, 32] ++ (ex y ++ ([32, 84, 72, 69, 78] ++ ([10] ++ ac z)))))))) L) := by show Wr _ _ _ _ _; simpa only [List.append_assoc] using j3
            have K3 := hide (K2.out.trans ((WK.grown J2.out (gb_refl x2 none)).trans k3)); clear j3 k3; go_wp2_with fail
            exact ⟨⟨l, _, ARV2, HLR, HP2, J3, K3⟩, by first | (simp [lenV]; omega) | simp [lenV]⟩
          · go_wp2_with fail
            go_at_call 87; refine (begin_any w0 wb _ _ L (J1.out.grown (gb_refl wr none)) (by first | omega | (simp only [List.length_append, List.length_cons, List.length_nil]; omega))).mono ?_; rintro e x2 ⟨rfl, j2, k2⟩; have J2 := hide j2; have K2 := hide (K1.out.trans ((WK.grown J1.out (gb_refl wr none)).trans k2)); clear j2 k2; go_wp2_with fail; go_at_call 128; refine (branch_of w0 wb _ _ L [69, 76, 83, 73, 70, 32] [32, 84, 72, 69, 78] y z l _ (J2.out.grown (gb_refl x2 none)) LA.out (ex y) (ac z) HY.out HZ2.out (by first | omega | (simp only [List.length_append, List.length_cons, List.length_nil, padTx_len]; omega))).mono ?_; rintro e x3 ⟨rfl, j3, k3⟩
            have J3 : Hid (Wr w0 wb x3 (S ++ (([73, 70, 32] ++ (U ++ ([32, 84, 72, 69, 78] ++ ([10] ++ Z)))) ++ (P ++ (padTx L ++ ([69, 76, 83, 73, 70, 32] ++ (ex y ++ ([32, 84, 72, 69, 78] ++ ([10] ++ ac z)))))))) L) := by show Wr _ _ _ _ _; simpa only [List.append_assoc] using j3
            have K3 := hide (K2.out.trans ((WK.grown J2.out (gb_refl x2 none)).trans k3)); clear j3 k3; go_wp2_with fail
            exact ⟨⟨l, _, ARV2, HLR, HP2, J3, K3⟩, by first | (simp [lenV]; omega) | simp [lenV]⟩
      · have HLL : Hid (∀ z ∈ l, LW w0 wb L z.subs (ac z)) := by
          intro z hz3; cases LR.out with
          | nil => cases hz3
          | one x hx => obtain rfl := List.mem_singleton.1 hz3; exact hx
          | more _ _ _ _ _ _ => simp at hlt
        have HP2 : Hid (P ++ elseTx ac L l = restTx ex ac L us) := by show _ = _; rw [← LP.out, rest_one hlt]; rfl
        rw [rest_one hlt] at hPl
        change P.length + (elseTx ac L l).length = _ at hPl
        have hlb : ¬ (1 : Int) < (l.length : Int) := by omega
        clear LR LP; go_wp2_with fail
        go_loopw [26] (fun iv ws => ∃ i : Nat, i ≤ l.length ∧ iv = .int .i64 ↑i ∧ Hid (Wr w0 wb ws (S ++ (([73, 70, 32] ++ (U ++ ([32, 84, 72, 69, 78] ++ ([10] ++ Z)))) ++ (P ++ elseTx ac L (l.take i)))) L) ∧ Hid (WK wb w ws)) (fun iv _ => l.length - (intOf iv).toNat)
        case atStart => exact ⟨0, Nat.zero_le _, rfl, by show Wr _ _ _ _ _; simpa [elseTx, flatTx] using J1.out, K1⟩
        case round =>
          obtain ⟨i,hi,rfl,J1,K1⟩ := hrel
          by_cases hlt2 : i < l.length
          · obtain ⟨z, hz4⟩ : ∃ z, l[i]? = some z := ⟨_, List.getElem?_eq_getElem hlt2⟩
            obtain ⟨gg,oo,su,e1,n5,fu,au⟩ := LA.out.node i z hz4; cases e1; obtain ⟨ua,uc,rfl,_,_⟩ := au.form; obtain ⟨c0,c1,c2,c3,c4⟩ := n5.kept J1.out.gb; have HT := hide (else_take (ac := ac) (L := L) hz4); have hle := else_le ac L l (i + 1); have AU := hide au; have HZU := hide (HLL.out z (List.mem_of_getElem? hz4)); rw [HT.out] at hle; simp only [List.length_append, List.length_cons, List.length_nil, padTx_len] at hle; clear hz4 fu au n5; have hb := FB.new J1.out z (.slice ua z.subs.length uc) 24 (gb_refl wr none); have HB := hide hb; clear hb; go_wp2_with fail; go_at_call 51; refine (line1 w0 wb _ _ L [69, 76, 83, 69] _ _ (by simp) (J1.out.grown (by exact gb_alloc (gb_refl wr none) _)) (by first | omega | (simp only [List.length_append, List.length_cons, List.length_nil]; omega))).mono ?_; rintro e x2 ⟨rfl, j2, k2⟩; have J2 := hide j2; have K2 := hide (K1.out.trans ((WK.grown J1.out (by exact gb_alloc (gb_refl wr none) _)).trans k2)); obtain ⟨e0,e1,e2,e3,e4⟩ := (HB.out.step ((WK.grown (J1.out.grown (gb_alloc (gb_refl wr none) _)) (gb_refl _ none)).trans k2)).box; clear j2 k2; go_wp2_with fail; go_at_call 62; refine (HZU.out _ _ _ (J2.out.grown (gb_refl x2 none)) AU.out (by first | omega | (simp only [List.length_append, List.length_cons, List.length_nil, padTx_len]; omega))).mono ?_; rintro e x3 ⟨rfl, j3, k3⟩
            have J3 : Hid (Wr w0 wb x3 (S ++ (([73, 70, 32] ++ (U ++ ([32, 84, 72, 69, 78] ++ ([10] ++ Z)))) ++ (P ++ elseTx ac L (l.take (i + 1))))) L) := by show Wr _ _ _ _ _; rw [HT.out]; simpa only [List.append_assoc] using j3
            have K3 := hide (K2.out.trans ((WK.grown J2.out (gb_refl x2 none)).trans k3)); clear j3 k3; go_wp2_with fail
            exact ⟨⟨i + 1, by omega, by go_num, J3, K3⟩, by simp [intOf]; omega⟩
          · have J2 : Hid (Wr w0 wb wr (S ++ (([73, 70, 32] ++ (U ++ ([32, 84, 72, 69, 78] ++ ([10] ++ Z)))) ++ restTx ex ac L us)) L) := by
              have := J1.out; rw [List.take_of_length_le (by omega), HP2.out] at this
              exact this
            go_wp2_with fail; go_at_call 129; refine (end_any w0 wb _ _ L (J2.out.grown (gb_refl wr none)) (by first | omega | (simp only [List.length_append, List.length_cons, List.length_nil]; omega))).mono ?_; rintro e x3 ⟨rfl, j3, k3⟩; have J3 := hide j3; have K3 := hide (K1.out.trans ((WK.grown J2.out (gb_refl wr none)).trans k3)); clear j3 k3; go_wp2_with fail
            go_end0
            refine ⟨rfl, ?_, K3.out⟩; have J9 := J3.out; simp only [List.append_assoc] at J9 ⊢
            exact J9
  · go_enter Tryz.func127, Tryz.ntmps127
    go_wp2_with fail; go_at_call 128; refine (branch_of w0 wb _ _ L [73, 70, 32] [32, 84, 72, 69, 78] u v us _ (HW.out.grown (by exact gb_alloc (gb_refl w none) _)) HA.out U Z HU.out HZ.out (by first | omega | (simp only [List.length_append, List.length_cons, List.length_nil]; omega))).mono ?_; rintro e w1 ⟨rfl, j1, k1⟩; have W1 := hide j1; have K1 := hide ((WK.grown HW.out (by exact gb_alloc (gb_refl w none) _)).trans k1); have B1 := hide ((FB.newX HW.out 16 x m p (u :: v :: us) (.slice (some ⟨g, o, none⟩) (us.length + 1 + 1) 2) 24 (gb_refl w none)).step ((WK.grown (HW.out.grown (gb_alloc (gb_refl w none) _)) (gb_refl _ none)).trans k1)); obtain ⟨b0_1,b1_1,b2_1,b3_1,b4_1⟩ := B1.out.box.p; have bl_1 := B1.out.fr.lt
    clear j1 k1; clear HU HZ HA AR; go_wp2_with fail
    go_loopw [4] (fun rv wr => ∃ (l : List T) (P : List UInt8), Hid (AT w0 l rv) ∧ Hid (Rest w0 wb L ex ac l) ∧ Hid (P ++ restTx ex ac L l = restTx ex ac L us) ∧ Hid (Wr w0 wb wr (S ++ (([73, 70, 32] ++ (U ++ ([32, 84, 72, 69, 78] ++ ([10] ++ Z)))) ++ P)) L) ∧ Hid (WK wb w wr)) (fun rv _ => lenV rv)
    case atStart => exact ⟨us, [], ARV, HR, by show _ = _; rfl, by show Wr _ _ _ _ _; simpa only [List.append_nil] using W1.out, K1.out⟩
    case round =>
      obtain ⟨l,P,LA,LR,LP,J1,K1⟩ := hrel; obtain ⟨la,lc,rfl,hl1,hl2⟩ := AT.slice LA.out
      have hPl : P.length + (restTx ex ac L l).length = (restTx ex ac L us).length := by rw [← List.length_append, LP.out]
      rcases Nat.lt_or_ge 1 l.length with hlt | hlt
      · match l, LA, LR, LP, hl1, hlt, hPl with
        | y :: z :: l, LA, LR, LP, hl1, hlt, hPl =>
          obtain ⟨hy, hz2, hl⟩ : EXW w0 wb y (ex y) ∧ LW w0 wb L z.subs (ac z) ∧ Rest w0 wb L ex ac l := by cases LR.out with | more _ _ _ a b c => exact ⟨a, b, c⟩
          have HY := hide hy; have HZ2 := hide hz2; have HLR := hide hl; obtain ⟨gg, oo, rfl, -, hn4, -, ar2⟩ := AT.rest2 LA.out
          have hrest : restTx ex ac L (y :: z :: l) = padTx L ++ ([69, 76, 83, 73, 70, 32] ++ (ex y ++ ([32, 84, 72, 69, 78] ++ ([10] ++ (ac z ++ restTx ex ac L l))))) := by simp [restTx]
          have HP2 : Hid ((P ++ (padTx L ++ ([69, 76, 83, 73, 70, 32] ++ (ex y ++ ([32, 84, 72, 69, 78] ++ ([10] ++ ac z)))))) ++ restTx ex ac L l = restTx ex ac L us) := by show _ = _; rw [← LP.out, hrest]; simp only [List.append_assoc]
          rw [hrest] at hPl; simp only [List.length_append, List.length_cons, List.length_nil, padTx_len] at hPl
          have ARV2 : ∃ rv, Hid (AT w0 l rv) ∧ ((2 < lc ∧ rv = .slice (some ⟨gg, oo + 10, none⟩) l.length (lc - 2)) ∨ (lc = 2 ∧ rv = .slice (some ⟨gg, oo, none⟩) 0 0)) := by
            rcases Nat.lt_or_ge 2 lc with h2 | h2
            · exact ⟨_, ar2, .inl ⟨h2, rfl⟩⟩
            · obtain rfl : lc = 2 := by omega
              obtain rfl : l = [] := List.eq_nil_of_length_eq_zero (by omega)
              exact ⟨_, AT.nil _ _ (Nat.zero_le _), .inr ⟨rfl, rfl⟩⟩
          obtain ⟨rv2,ARV2,hrv2⟩ := ARV2
          have hlb : (1 : Int) < (l.length : Int) + 1 + 1 := by omega
          have hll : (y :: z :: l).length = l.length + 1 + 1 := rfl
          rw [hll] at LA; clear hy hz2 hl ar2 LR LP hrest hll hlt; simp only [List.length_cons] at *
          rcases hrv2 with ⟨h92, rfl⟩ | ⟨rfl, rfl⟩
          · go_wp2_with fail
            go_at_call 87; refine (begin_any w0 wb _ _ L (J1.out.grown (gb_refl wr none)) (by first | omega | (simp only [List.length_append, List.length_cons, List.length_nil]; omega))).mono ?_; rintro e x2 ⟨rfl, j2, k2⟩; have J2 := hide j2; have K2 := hide (K1.out.trans ((WK.grown J1.out (gb_refl wr none)).trans k2)); clear j2 k2; go_wp2_with fail; go_at_call 128; refine (branch_of w0 wb _ _ L [69, 76, 83, 73, 70, 32] [32, 84, 72, 69, 78] y z l _ (J2.out.grown (gb_refl x2 none)) LA.out (ex y) (ac z) HY.out HZ2.out (by first | omega | (simp only [List.length_append, List.length_cons, List.length_nil, padTx_len]; omega))).mono ?_; rintro e x3 ⟨rfl, j3, k3⟩
            have J3 : Hid (Wr w0 wb x3 (S ++ (([73, 70, 32] ++ (U ++ ([32, 84, 72, 69, 78] ++ ([10] ++ Z)))) ++ (P ++ (padTx L ++ ([69, 76, 83, 73, 70, 32] ++ (ex y ++ ([32, 84, 72, 69, 78] ++ ([10] ++ ac z)))))))) L) := by show Wr _ _ _ _ _; simpa only [List.append_assoc] using j3
            have K3 := hide (K2.out.trans ((WK.grown J2.out (gb_refl x2 none)).trans k3)); clear j3 k3; go_wp2_with fail
            exact ⟨⟨l, _, ARV2, HLR, HP2, J3, K3⟩, by first | (simp [lenV]; omega) | simp [lenV]⟩
          · go_wp2_with fail
            go_at_call 87; refine (begin_any w0 wb _ _ L (J1.out.grown (gb_refl wr none)) (by first | omega | (simp only [List.length_append, List.length_cons, List.length_nil]; omega))).mono ?_; rintro e x2 ⟨rfl, j2, k2⟩; have J2 := hide j2; have K2 := hide (K1.out.trans ((WK.grown J1.out (gb_refl wr none)).trans k2)); clear j2 k2; go_wp2_with fail; go_at_call 128; refine (branch_of w0 wb _ _ L [69, 76, 83, 73, 70, 32] [32, 84, 72, 69, 78] y z l _ (J2.out.grown (gb_refl x2 none)) LA.out (ex y) (ac z) HY.out HZ2.out (by first | omega | (simp only [List.length_append, List.length_cons, List.length_nil, padTx_len]; omega))).mono ?_; rintro e x3 ⟨rfl, j3, k3⟩
            have J3 : Hid (Wr w0 wb x3 (S ++ (([73, 70, 32] ++ (U ++ ([32, 84, 72, 69, 78] ++ ([10] ++ Z)))) ++ (P ++ (padTx L ++ ([69, 76, 83, 73, 70, 32] ++ (ex y ++ ([32, 84, 72, 69, 78] ++ ([10] ++ ac z)))))))) L) := by show Wr _ _ _ _ _; simpa only [List.append_assoc] using j3
            have K3 := hide (K2.out.trans ((WK.grown J2.out (gb_refl x2 none)).trans k3)); clear j3 k3; go_wp2_with fail
            exact ⟨⟨l, _, ARV2, HLR, HP2, J3, K3⟩, by first | (simp [lenV]; omega) | simp [lenV]⟩
      · have HLL : Hid (∀ z ∈ l, LW w0 wb L z.subs (ac z)) := by
          intro z hz3; cases LR.out with
          | nil => cases hz3
          | one x hx => obtain rfl := List.mem_singleton.1 hz3; exact hx
          | more _ _ _ _ _ _ => simp at hlt
        have HP2 : Hid (P ++ elseTx ac L l = restTx ex ac L us) := by show _ = _; rw [← LP.out, rest_one hlt]; rfl
        rw [rest_one hlt] at hPl
        change P.length + (elseTx ac L l).length = _ at hPl
        have hlb : ¬ (1 : Int) < (l.length : Int) := by omega
        clear LR LP; go_wp2_with fail
        go_loopw [26] (fun iv ws => ∃ i : Nat, i ≤ l.length ∧ iv = .int .i64 ↑i ∧ Hid (Wr w0 wb ws (S ++ (([73, 70, 32] ++ (U ++ ([32, 84, 72, 69, 78] ++ ([10] ++ Z)))) ++ (P ++ elseTx ac L (l.take i)))) L) ∧ Hid (WK wb w ws)) (fun iv _ => l.length - (intOf iv).toNat)
        case atStart => exact ⟨0, Nat.zero_le _, rfl, by show Wr _ _ _ _ _; simpa [elseTx, flatTx] using J1.out, K1⟩
        case round =>
          obtain ⟨i,hi,rfl,J1,K1⟩ := hrel
          by_cases hlt2 : i < l.length
          · obtain ⟨z, hz4⟩ : ∃ z, l[i]? = some z := ⟨_, List.getElem?_eq_getElem hlt2⟩
            obtain ⟨gg,oo,su,e1,n5,fu,au⟩ := LA.out.node i z hz4; cases e1; obtain ⟨ua,uc,rfl,_,_⟩ := au.form; obtain ⟨c0,c1,c2,c3,c4⟩ := n5.kept J1.out.gb; have HT := hide (else_take (ac := ac) (L := L) hz4); have hle := else_le ac L l (i + 1); have AU := hide au; have HZU := hide (HLL.out z (List.mem_of_getElem? hz4)); rw [HT.out] at hle; simp only [List.length_append, List.length_cons, List.length_nil, padTx_len] at hle; clear hz4 fu au n5; have hb := FB.new J1.out z (.slice ua z.subs.length uc) 24 (gb_refl wr none); have HB := hide hb; clear hb; go_wp2_with fail; go_at_call 51; refine (line1 w0 wb _ _ L [69, 76, 83, 69] _ _ (by simp) (J1.out.grown (by exact gb_alloc (gb_refl wr none) _)) (by first | omega | (simp only [List.length_append, List.length_cons, List.length_nil]; omega))).mono ?_; rintro e x2 ⟨rfl, j2, k2⟩; have J2 := hide j2; have K2 := hide (K1.out.trans ((WK.grown J1.out (by exact gb_alloc (gb_refl wr none) _)).trans k2)); obtain ⟨e0,e1,e2,e3,e4⟩ := (HB.out.step ((WK.grown (J1.out.grown (gb_alloc (gb_refl wr none) _)) (gb_refl _ none)).trans k2)).box; clear j2 k2; go_wp2_with fail; go_at_call 62; refine (HZU.out _ _ _ (J2.out.grown (gb_refl x2 none)) AU.out (by first | omega | (simp only [List.length_append, List.length_cons, List.length_nil, padTx_len]; omega))).mono ?_; rintro e x3 ⟨rfl, j3, k3⟩
            have J3 : Hid (Wr w0 wb x3 (S ++ (([73, 70, 32] ++ (U ++ ([32, 84, 72, 69, 78] ++ ([10] ++ Z)))) ++ (P ++ elseTx ac L (l.take (i + 1))))) L) := by show Wr _ _ _ _ _; rw [HT.out]; simpa only [List.append_assoc] using j3
            have K3 := hide (K2.out.trans ((WK.grown J2.out (gb_refl x2 none)).trans k3)); clear j3 k3; go_wp2_with fail
            exact ⟨⟨i + 1, by omega, by go_num, J3, K3⟩, by simp [intOf]; omega⟩
          · have J2 : Hid (Wr w0 wb wr (S ++ (([73, 70, 32] ++ (U ++ ([32, 84, 72, 69, 78] ++ ([10] ++ Z)))) ++ restTx ex ac L us)) L) := by
              have := J1.out; rw [List.take_of_length_le (by omega), HP2.out] at this
              exact this
            go_wp2_with fail; go_at_call 129; refine (end_any w0 wb _ _ L (J2.out.grown (gb_refl wr none)) (by first | omega | (simp only [List.length_append, List.length_cons, List.length_nil]; omega))).mono ?_; rintro e x3 ⟨rfl, j3, k3⟩; have J3 := hide j3; have K3 := hide (K1.out.trans ((WK.grown J2.out (gb_refl wr none)).trans k3)); clear j3 k3; go_wp2_with fail
            go_end0
            refine ⟨rfl, ?_, K3.out⟩; have J9 := J3.out; simp only [List.append_assoc] at J9 ⊢
            exact J9
theorem ac16 (w0 : World) (wb : Nat) (w : World) (S : List UInt8) (L : Nat) (x : List UInt8) (m p : Int) (ts : List T) (sv : Value) (h : Wr w0 wb w S L) (ha : AT w0 (T.mk 16 x m p ts).subs sv) (X : List UInt8) (hch : ∀ (w : World) (S : List UInt8) (sv : Value), Wr w0 wb w S L → AT w0 (T.mk 16 x m p ts).subs sv → S.length + X.length ≤ 1000000000 → Calls Tryz.prog 127 #[ptr wb, nodeV (.mk 16 x m p ts) sv] w (WP w0 wb w S L X)) (hlen : S.length + X.length ≤ 1000000000) :
    Calls Tryz.prog 101 #[ptr wb, .agg #[.int .i64 16, .string ⟨List.toArray x⟩, .int .i64 m, .int .i64 p, sv]] w (WP w0 wb w S L X) := by
  have HW := hide h; have hwl := h.lt; have HA := hide ha; have HC := hide hch; obtain ⟨_,_,_,rfl,_,_,hl⟩ := ha.any; clear h ha hch hl
  go_enter Tryz.func101, Tryz.ntmps101
  go_wp2_with fail; go_at_call 127; refine (HC.out _ _ _ (HW.out.grown (by exact gb_alloc (gb_refl w none) _)) HA.out hlen).mono ?_; rintro e w1 ⟨rfl, j1, k1⟩; have W1 := hide j1; have K1 := hide ((WK.grown HW.out (by exact gb_alloc (gb_refl w none) _)).trans k1); clear j1 k1; go_wp2_with fail
  go_end0
  refine ⟨rfl, ?_, K1.out⟩; have J9 := W1.out
  try simp only [List.append_assoc, List.nil_append, List.append_nil] at J9 ⊢
  exact J9
section
variable (f L : Nat) (x : List UInt8) (m p : Int) (u v : T) (us : List T)
theorem at14 : actTx (f + 1) L (.mk 14 x m p [u, v]) = exprTx f u ++ ([32, 58, 61, 32] ++ exprTx f v) := by simp [actTx, T.kind, subT, T.subs]
theorem at15n : actTx (f + 1) L (.mk 15 x m p [u]) = exprTx f u := by simp [actTx, T.kind, subT, T.subs]
theorem at15s (h : 0 < us.length) : actTx (f + 1) L (.mk 15 x m p (u :: us)) = exprTx f u ++ ([40] ++ (sepTx [44, 32] (us.map (exprTx f)) ++ [41])) := by
  have e : actTx (f + 1) L (.mk 15 x m p (u :: us)) = exprTx f u ++ (if 1 < (u :: us).length then argsTx f us else []) := by simp [actTx, T.kind, subT, T.subs]
  rw [e, if_pos (by simp; omega)]
  rfl
theorem at16 : actTx (f + 1) L (.mk 16 x m p (u :: v :: us)) = [73, 70, 32] ++ (exprTx f u ++ ([32, 84, 72, 69, 78] ++ ([10] ++ (actsTx f L v.subs ++ (restTx (exprTx f) (fun u => actsTx f L u.subs) L us ++ (padTx L ++ [69, 78, 68])))))) := by simp [actTx, T.kind, subT, T.subs, actsTx]
theorem at17 : actTx (f + 1) L (.mk 17 x m p [u, v]) = [87, 72, 73, 76, 69, 32] ++ (exprTx f u ++ ([32, 68, 79] ++ ([10] ++ (actsTx f L v.subs ++ (padTx L ++ [69, 78, 68]))))) := by simp [actTx, T.kind, subT, T.subs, actsTx]
theorem at18 : actTx (f + 1) L (.mk 18 x m p [u, v]) = [82, 69, 80, 69, 65, 84, 10] ++ (actsTx f L u.subs ++ (padTx L ++ ([85, 78, 84, 73, 76, 32] ++ exprTx f v))) := by simp [actTx, T.kind, subT, T.subs, actsTx]
theorem at19n : actTx (f + 1) L (.mk 19 x m p []) = [82, 69, 84, 85, 82, 78] ++ retTx (exprTx f) [] := by simp [actTx, T.kind, T.subs, retTx, flatTx]
theorem at19s : actTx (f + 1) L (.mk 19 x m p [u]) = [82, 69, 84, 85, 82, 78] ++ retTx (exprTx f) [u] := by simp [actTx, T.kind, subT, T.subs, retTx, flatTx]
theorem at20 (k : Int) (hk : k = 20 ∨ k = 21 ∨ k = 22 ∨ k = 23) : actTx (f + 1) L (.mk k x m p [u]) = kwTx k ++ ([40] ++ (sepTx [44, 32] ([u].map fun _ => exprTx f u) ++ [41])) := by
  rcases hk with rfl | rfl | rfl | rfl <;> simp [actTx, T.kind, subT, T.subs, kwTx, sepTx]
end
theorem act_any (w0 : World) (wb : Nat) (hp : PT w0) : ∀ (f L : Nat) (t : T), f + L ≤ 1000 → depthT t ≤ f → Well .act t → AW w0 wb L t (actTx f L t) := by
  intro f
  induction f with
  | zero => intro L t _ h _; have := depthT_eq t; omega
  | succ f ih =>
    intro L t hL ht h
    have sub : ∀ u, u ∈ t.subs → depthT u ≤ f := fun u hu => by have := depth_sub hu; omega
    have EXP : ∀ u, u ∈ t.subs → Well .expression u → EXW w0 wb u (exprTx f u) := fun u hu hw => (expr_any w0 wb hp f u (sub u hu)).2 hw
    have ACT : ∀ u, u ∈ t.subs → Well (.list .act) u → LW w0 wb L u.subs (actsTx f L u.subs) := by
      intro u hu hw; obtain ⟨q,vs,rfl,hvs⟩ := list_of hw; have hd := sub _ hu
      exact acts_of w0 wb L vs (actTx f (L + 1)) (fun v hv => ih (L + 1) v (by omega) (by have := depth_sub (t := .mk 1 [] 0 q vs) (u := v) hv; omega) (hvs v hv)) (by omega)
    have H := ac_of h; cases H with
    | assign p u v hu hv => rw [at14]; exact fun w S sv hw ha hl => ac14 w0 wb w S L [] 0 p u v sv hw ha _ _ (EXP u (by simp [T.subs]) (ex_of_de hu)) (EXP v (by simp [T.subs]) hv) hl
    | call p u us hu hs =>
      cases us with
      | nil => rw [at15n]; exact fun w S sv hw ha hl => ac15n w0 wb w S L [] 0 p u sv hw ha _ (EXP u (by simp [T.subs]) (ex_of_de hu)) hl
      | cons v vs => rw [at15s f L [] 0 p u (v :: vs) (by simp)]; exact fun w S sv hw ha hl => ac15s w0 wb w S L [] 0 p u (v :: vs) sv hw ha _ (exprTx f) (EXP u (by simp [T.subs]) (ex_of_de hu)) (fun z hz => EXP z (by simp only [T.subs]; exact List.mem_cons_of_mem _ hz) (hs z hz)) (by simp) hl
    | choice m p u v us hm hu hv hs =>
      rw [at16]
      have HR : ∀ us : List T, (∀ z ∈ us, z ∈ (T.mk 16 [] m p (u :: v :: us)).subs ∨ True) → Turns us → (∀ z ∈ us, depthT z ≤ f) → Rest w0 wb L (exprTx f) (fun u => actsTx f L u.subs) us := by
        intro us _ hus
        induction hus with
        | nil => intro _; exact .nil
        | one z hz =>
          intro hd; obtain ⟨q,vs,rfl,hvs⟩ := list_of hz; have hd1 := hd _ (List.mem_singleton.2 rfl)
          exact .one _ (acts_of w0 wb L vs (actTx f (L + 1)) (fun v hv => ih (L + 1) v (by omega) (by have := depth_sub (t := .mk 1 [] 0 q vs) (u := v) hv; omega) (hvs v hv)) (by omega))
        | more y z l hy hz _ ihl =>
          intro hd; obtain ⟨q,vs,rfl,hvs⟩ := list_of hz; have hd1 := hd (T.mk 1 [] 0 q vs) (by simp)
          exact .more _ _ _ ((expr_any w0 wb hp f y (hd y (by simp))).2 hy) (acts_of w0 wb L vs (actTx f (L + 1)) (fun v hv => ih (L + 1) v (by omega) (by have := depth_sub (t := .mk 1 [] 0 q vs) (u := v) hv; omega) (hvs v hv)) (by omega)) (ihl (fun _ _ => .inr trivial) (fun z hz => hd z (by simp [hz])))
      exact fun w S sv hw ha hl => ac16 w0 wb w S L [] m p (u :: v :: us) sv hw ha _ (fun w' S' sv' hw' ha' hl' => choice_w w0 wb w' S' L [] m p u v us sv' hw' ha' _ _ _ _ (EXP u (by simp [T.subs]) hu) (ACT v (by simp [T.subs]) hv) (HR us (fun _ _ => .inr trivial) hs (fun z hz => sub z (by simp [T.subs, hz]))) hl') hl
    | loop p u v hu hv => rw [at17]; exact fun w S sv hw ha hl => ac17 w0 wb w S L [] 0 p u v sv hw ha _ _ (EXP u (by simp [T.subs]) hu) (ACT v (by simp [T.subs]) hv) hl
    | rept p u v hu hv => rw [at18]; exact fun w S sv hw ha hl => ac18 w0 wb w S L [] 0 p u v sv hw ha _ _ (ACT u (by simp [T.subs]) hu) (EXP v (by simp [T.subs]) hv) hl
    | ret0 p => rw [at19n]; exact fun w S sv hw ha hl => ac19 w0 wb w S L [] 0 p [] sv hw ha (exprTx f) (fun z hz => by cases hz) hl
    | ret1 p u hu => rw [at19s]; exact fun w S sv hw ha hl => ac19 w0 wb w S L [] 0 p [u] sv hw ha (exprTx f) (fun z hz => by obtain rfl := List.mem_singleton.1 hz; exact EXP z (by simp [T.subs]) hu) hl
    | word k p u hk hu => rw [at20 f L [] 0 p u k hk]; exact fun w S sv hw ha hl => ac20 w0 wb w S L k [] 0 p u sv hw ha _ (EXP u (by simp [T.subs]) hu) hk hl
theorem acts_any (w0 : World) (wb : Nat) (hp : PT w0) (f L : Nat) (us : List T) (hL : f + L < 1000) (hd : ∀ u ∈ us, depthT u ≤ f) (hw : ∀ u ∈ us, Well .act u) : LW w0 wb L us (actsTx f L us) :=
  acts_of w0 wb L us (actTx f (L + 1)) (fun v hv => act_any w0 wb hp f (L + 1) v (by omega) (hd v hv) (hw v hv)) (by omega)
end Go.Proofs.YtapfecciakijhaaGreatDoor
