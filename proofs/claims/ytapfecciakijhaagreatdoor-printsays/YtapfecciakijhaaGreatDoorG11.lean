/- The program's writer: declared names, types. -/
import Derived.Test.YtapfecciakijhaaGreatDoorG09
import Derived.Test.YtapfecciakijhaaGreatDoorG05
import Derived.Test.YtapfecciakijhaaGreatDoorG10
namespace Go.Proofs.YtapfecciakijhaaGreatDoor
open Go.RowKit Go.Maps Go.WideMaps Go.WideElems
set_option maxHeartbeats 4000000
set_option maxRecDepth 1000000

/-- The library's table of powers lies where it lies. -/
def PT (w : World) : Prop := Lib.TabIs Tryz.prog w "internal/strconv.uint64pow10" .u64 Lib.pow10Tab
theorem gPow : Tryz.prog.globalNamed "internal/strconv.uint64pow10" = some 4 := by kernel_rfl
theorem PT.kept {w w' : World} (h : PT w) (hg : w.grownBy w' none) : PT w' := by
  have hc := Lib.TabIs.cell h gPow 0 (by decide); have hlt : 4 < w.heap.size := World.block_lt_of_cell? w ⟨_, 0, none⟩ hc; have hb : Below w.heap.size w w' := ⟨hg.os, hg.tape, hg.output, hg.size, fun i hi => hg.block i hi (by simp)⟩
  exact var?_below hb gPow hlt h
theorem dec_eq (n : Nat) : Lib.decDigits n = decN n := by
  induction n using Nat.strongRecOn with
  | ind n ih =>
    by_cases h : n < 10
    · rw [decN_small h, Lib.decDigits, dif_pos h]
    · rw [decN_big h, Lib.decDigits, dif_neg h, ih (n / 10) (by omega)]
theorem itoa_any (m : Int) (h0 : 0 ≤ m) (h1 : m ≤ 2147483647) (w : World) (hp : PT w) : Calls Tryz.prog 93 #[.int .i64 m] w (Sy w (.string ⟨(numTx m).toArray⟩)) := by
  refine (Tryz.strconv_Itoa m (by omega) (by omega) w hp).mono ?_; rintro e w' ⟨rfl, k, os, rfl⟩; obtain ⟨n,rfl⟩ := Int.eq_ofNat_of_zero_le h0; refine ⟨?_, ?_⟩
  · rw [numTx_eq n (by omega), Lib.itoa, if_neg (by omega), ← dec_eq]
    rfl
  · have hg := gb_drewN (gb_refl w none) k
    exact ⟨hg.os, hg.tape, hg.output, by simp [Sort.grow], fun i hi hn => by
      have h9 := hg.block i hi hn; rw [← h9]; simp only [Sort.grow]; have : i < (w.drewN k).heap.size := Nat.lt_of_lt_of_le hi hg.size
      rw [Array.getElem?_append_left this]⟩

theorem typed_w (w0 : World) (wb : Nat) (w : World) (S : List UInt8) (L : Nat) (kd : Int) (x : List UInt8) (m : Int) (p : Int) (u : T) (sv : Value) (h : Wr w0 wb w S L) (ha : AT w0 (T.mk kd x m p [u]).subs sv) (hu : TN u) (hlen : S.length + (starTx (.mk kd x m p [u]) ++ ([58, 32] ++ nameTx u)).length ≤ 1000000000) :
    Calls Tryz.prog 60 #[ptr wb, nodeV (.mk kd x m p [u]) sv] w (WP w0 wb w S L (starTx (.mk kd x m p [u]) ++ ([58, 32] ++ nameTx u))) := by
  have HW := hide h; have HA := hide ha; have hwl := h.lt; obtain ⟨g, o, c, u', su, rfl, hn, hc, hl, n5, fu, au⟩ := ha.one rfl
  obtain rfl : u = u' := by simpa [T.subs] using hl
  have NU := hide n5; have AU := hide au; obtain ⟨nu0,_,_,_,_⟩ := n5.kept h.gb; have hgl := block_lt nu0; clear h ha hl fu au n5
  change Calls Tryz.prog 60 #[ptr wb, .agg #[.int .i64 kd, .string ⟨List.toArray x⟩, .int .i64 m, .int .i64 p, .slice (some ⟨g, o, none⟩) 1 c]] w _
  simp only [List.length_append, List.length_cons, List.length_nil] at hlen
  go_enter Tryz.func60, Tryz.ntmps60
  go_wp2_with fail; go_at_call 55; refine (marked_any w0 wb _ _ L kd x m p [u] _ (HW.out.grown (by exact gb_alloc (gb_refl w none) _)) HA.out (by first | omega | (simp only [List.length_append, List.length_cons, List.length_nil, padTx_len]; omega))).mono ?_; rintro e w1 ⟨rfl, j1, k1⟩; have W1 := hide j1; have K1 := hide ((WK.grown HW.out (by exact gb_alloc (gb_refl w none) _)).trans k1); have B1 := hide ((FB.newX HW.out kd x m p [u] (.slice (some ⟨g, o, none⟩) 1 c) 24 (gb_refl w none)).step ((WK.grown (HW.out.grown (gb_alloc (gb_refl w none) _)) (gb_refl _ none)).trans k1)); obtain ⟨_,_,_,_,_⟩ := B1.out.box.p; have bl_1 := B1.out.fr.lt
  obtain ⟨nu0_1,_,_,_,_⟩ := NU.out.kept W1.out.gb; have nul_1 := block_lt nu0_1; clear j1 k1; go_wp2_with fail; go_at_call 56; refine (write1 w0 wb _ _ L [58, 32] _ _ (by simp) (W1.out.grown (gb_refl w1 none)) (by first | omega | (simp only [List.length_append, List.length_cons, List.length_nil]; omega))).mono ?_; rintro e w2 ⟨rfl, j2, k2⟩; have W2 := hide j2; have K2 := hide (K1.out.trans ((WK.grown W1.out (gb_refl w1 none)).trans k2)); have B2 := hide (B1.out.step ((WK.grown W1.out (gb_refl w1 none)).trans k2)); obtain ⟨_,_,_,_,_⟩ := B2.out.box.p; have bl_2 := B2.out.fr.lt
  obtain ⟨nu0_2,_,_,_,_⟩ := NU.out.kept W2.out.gb; have nul_2 := block_lt nu0_2; clear j2 k2; go_wp2_with fail; go_at_call 96; refine (typeName_any w0 wb _ _ L u _ (W2.out.grown (gb_refl w2 none)) AU.out hu (by first | omega | (simp only [List.length_append, List.length_cons, List.length_nil]; omega))).mono ?_; rintro e w3 ⟨rfl, j3, k3⟩; have W3 := hide j3; have K3 := hide (K2.out.trans ((WK.grown W2.out (gb_refl w2 none)).trans k3)); have B3 := hide (B2.out.step ((WK.grown W2.out (gb_refl w2 none)).trans k3)); obtain ⟨_,_,_,_,_⟩ := B3.out.box.p; have bl_3 := B3.out.fr.lt
  obtain ⟨nu0_3,_,_,_,_⟩ := NU.out.kept W3.out.gb; have nul_3 := block_lt nu0_3; clear j3 k3; go_wp2_with fail
  go_end0
  refine ⟨rfl, ?_, K3.out⟩; have J9 := W3.out
  try simp only [List.append_assoc] at J9 ⊢
  exact J9
theorem param_var (w0 : World) (wb : Nat) (w : World) (S : List UInt8) (L : Nat) (kd : Int) (x : List UInt8) (p : Int) (u : T) (sv : Value) (h : Wr w0 wb w S L) (ha : AT w0 (T.mk kd x 1 p [u]).subs sv) (hu : TN u) (hlen : S.length + ([86, 65, 82, 32] ++ (x ++ ([58, 32] ++ nameTx u))).length ≤ 1000000000) :
    Calls Tryz.prog 100 #[ptr wb, nodeV (.mk kd x 1 p [u]) sv] w (WP w0 wb w S L ([86, 65, 82, 32] ++ (x ++ ([58, 32] ++ nameTx u)))) := by
  have HW := hide h; have hwl := h.lt; obtain ⟨g, o, c, u', su, rfl, hn, hc, hl, n5, fu, au⟩ := ha.one rfl
  obtain rfl : u = u' := by simpa [T.subs] using hl
  have NU := hide n5; have AU := hide au; obtain ⟨nu0,_,_,_,_⟩ := n5.kept h.gb; have hgl := block_lt nu0; clear h ha hl fu au n5
  change Calls Tryz.prog 100 #[ptr wb, .agg #[.int .i64 kd, .string ⟨List.toArray x⟩, .int .i64 1, .int .i64 p, .slice (some ⟨g, o, none⟩) 1 c]] w _
  simp only [List.length_append, List.length_cons, List.length_nil] at hlen
  go_enter Tryz.func100, Tryz.ntmps100
  go_wp2_with fail; go_at_call 56; refine (write1 w0 wb _ _ L [86, 65, 82, 32] _ _ (by simp) (HW.out.grown (by exact gb_alloc (gb_refl w none) _)) (by first | omega | (simp only [List.length_cons, List.length_nil]; omega))).mono ?_; rintro e w1 ⟨rfl, j1, k1⟩; have W1 := hide j1; have K1 := hide ((WK.grown HW.out (by exact gb_alloc (gb_refl w none) _)).trans k1); have B1 := hide ((FB.newX HW.out kd x 1 p [u] (.slice (some ⟨g, o, none⟩) 1 c) 24 (gb_refl w none)).step ((WK.grown (HW.out.grown (gb_alloc (gb_refl w none) _)) (gb_refl _ none)).trans k1)); obtain ⟨_,_,_,_,_⟩ := B1.out.box.p; have bl_1 := B1.out.fr.lt
  obtain ⟨nu0_1,_,_,_,_⟩ := NU.out.kept W1.out.gb; have nul_1 := block_lt nu0_1; clear j1 k1; go_wp2_with fail; go_at_call 56; refine (write2 w0 wb _ _ L x [58, 32] _ _ (by simp) (W1.out.grown (gb_refl w1 none)) (by first | omega | (simp only [List.length_append, List.length_cons, List.length_nil]; omega))).mono ?_; rintro e w2 ⟨rfl, j2, k2⟩; have W2 := hide j2; have K2 := hide (K1.out.trans ((WK.grown W1.out (gb_refl w1 none)).trans k2)); have B2 := hide (B1.out.step ((WK.grown W1.out (gb_refl w1 none)).trans k2)); obtain ⟨_,_,_,_,_⟩ := B2.out.box.p; have bl_2 := B2.out.fr.lt
  obtain ⟨nu0_2,_,_,_,_⟩ := NU.out.kept W2.out.gb; have nul_2 := block_lt nu0_2; clear j2 k2; go_wp2_with fail; go_at_call 96; refine (typeName_any w0 wb _ _ L u _ (W2.out.grown (gb_refl w2 none)) AU.out hu (by first | omega | (simp only [List.length_append, List.length_cons, List.length_nil]; omega))).mono ?_; rintro e w3 ⟨rfl, j3, k3⟩; have W3 := hide j3; have K3 := hide (K2.out.trans ((WK.grown W2.out (gb_refl w2 none)).trans k3)); have B3 := hide (B2.out.step ((WK.grown W2.out (gb_refl w2 none)).trans k3)); obtain ⟨_,_,_,_,_⟩ := B3.out.box.p; have bl_3 := B3.out.fr.lt
  obtain ⟨nu0_3,_,_,_,_⟩ := NU.out.kept W3.out.gb; have nul_3 := block_lt nu0_3; clear j3 k3; go_wp2_with fail
  go_end0
  refine ⟨rfl, ?_, K3.out⟩; have J9 := W3.out
  try simp only [List.append_assoc] at J9 ⊢
  exact J9
theorem param_val (w0 : World) (wb : Nat) (w : World) (S : List UInt8) (L : Nat) (kd : Int) (x : List UInt8) (m : Int) (p : Int) (u : T) (sv : Value) (h : Wr w0 wb w S L) (ha : AT w0 (T.mk kd x m p [u]).subs sv) (hu : TN u) (hm : ¬ m = 1) (hlen : S.length + ((x ++ ([58, 32] ++ nameTx u))).length ≤ 1000000000) :
    Calls Tryz.prog 100 #[ptr wb, nodeV (.mk kd x m p [u]) sv] w (WP w0 wb w S L ((x ++ ([58, 32] ++ nameTx u)))) := by
  have HW := hide h; have hwl := h.lt; obtain ⟨g, o, c, u', su, rfl, hn, hc, hl, n5, fu, au⟩ := ha.one rfl
  obtain rfl : u = u' := by simpa [T.subs] using hl
  have NU := hide n5; have AU := hide au; obtain ⟨nu0,_,_,_,_⟩ := n5.kept h.gb; have hgl := block_lt nu0; clear h ha hl fu au n5
  change Calls Tryz.prog 100 #[ptr wb, .agg #[.int .i64 kd, .string ⟨List.toArray x⟩, .int .i64 m, .int .i64 p, .slice (some ⟨g, o, none⟩) 1 c]] w _
  simp only [List.length_append, List.length_cons, List.length_nil] at hlen
  go_enter Tryz.func100, Tryz.ntmps100
  go_wp2_with fail; go_at_call 56; refine (write2 w0 wb _ _ L x [58, 32] _ _ (by simp) (HW.out.grown (by exact gb_alloc (gb_refl w none) _)) (by first | omega | (simp only [List.length_cons, List.length_nil]; omega))).mono ?_; rintro e w1 ⟨rfl, j1, k1⟩; have W1 := hide j1; have K1 := hide ((WK.grown HW.out (by exact gb_alloc (gb_refl w none) _)).trans k1); have B1 := hide ((FB.newX HW.out kd x m p [u] (.slice (some ⟨g, o, none⟩) 1 c) 24 (gb_refl w none)).step ((WK.grown (HW.out.grown (gb_alloc (gb_refl w none) _)) (gb_refl _ none)).trans k1)); obtain ⟨_,_,_,_,_⟩ := B1.out.box.p; have bl_1 := B1.out.fr.lt
  obtain ⟨nu0_1,_,_,_,_⟩ := NU.out.kept W1.out.gb; have nul_1 := block_lt nu0_1; clear j1 k1; go_wp2_with fail; go_at_call 96; refine (typeName_any w0 wb _ _ L u _ (W1.out.grown (gb_refl w1 none)) AU.out hu (by first | omega | (simp only [List.length_append, List.length_cons, List.length_nil]; omega))).mono ?_; rintro e w2 ⟨rfl, j2, k2⟩; have W2 := hide j2; have K2 := hide (K1.out.trans ((WK.grown W1.out (gb_refl w1 none)).trans k2)); have B2 := hide (B1.out.step ((WK.grown W1.out (gb_refl w1 none)).trans k2)); obtain ⟨_,_,_,_,_⟩ := B2.out.box.p; have bl_2 := B2.out.fr.lt
  obtain ⟨nu0_2,_,_,_,_⟩ := NU.out.kept W2.out.gb; have nul_2 := block_lt nu0_2; clear j2 k2; go_wp2_with fail
  go_end0
  refine ⟨rfl, ?_, K2.out⟩; have J9 := W2.out
  try simp only [List.append_assoc] at J9 ⊢
  exact J9
theorem array_w (w0 : World) (wb : Nat) (w : World) (S : List UInt8) (L : Nat) (m : Int) (p : Int) (u : T) (sv : Value) (h : Wr w0 wb w S L) (ha : AT w0 (T.mk 9 [] m p [u]).subs sv) (hu : TN u) (h0 : 0 ≤ m) (h1 : m ≤ 2147483647) (hp : PT w0) (hlen : S.length + ([65, 82, 82, 65, 89, 32] ++ (numTx m ++ ([32, 79, 70, 32] ++ nameTx u))).length ≤ 1000000000) :
    Calls Tryz.prog 59 #[ptr wb, nodeV (.mk 9 [] m p [u]) sv] w (WP w0 wb w S L ([65, 82, 82, 65, 89, 32] ++ (numTx m ++ ([32, 79, 70, 32] ++ nameTx u)))) := by
  have HW := hide h; have hwl := h.lt; obtain ⟨g, o, c, u', su, rfl, hn, hc, hl, n5, fu, au⟩ := ha.one rfl
  obtain rfl : u = u' := by simpa [T.subs] using hl
  have NU := hide n5; have AU := hide au; obtain ⟨nu0,_,_,_,_⟩ := n5.kept h.gb; have hgl := block_lt nu0; clear h ha hl fu au n5
  change Calls Tryz.prog 59 #[ptr wb, .agg #[.int .i64 9, .string ⟨List.toArray []⟩, .int .i64 m, .int .i64 p, .slice (some ⟨g, o, none⟩) 1 c]] w _
  simp only [List.length_append, List.length_cons, List.length_nil] at hlen; have HP := hide hp; clear hp
  go_enter Tryz.func59, Tryz.ntmps59
  go_wp2_with fail; go_at_call 93; refine (itoa_any m h0 h1 _ (HP.out.kept (HW.out.grown (by exact gb_alloc (gb_refl w none) _)).gb)).mono ?_; rintro e w1 ⟨rfl, g1⟩; have j1 := HW.out.grown (gb_trans (by exact gb_alloc (gb_refl w none) _) g1); have k1 := WK.grown HW.out (gb_trans (by exact gb_alloc (gb_refl w none) _) g1); have W1 := hide j1; have K1 := hide (k1); have B1 := hide ((FB.newX HW.out 9 [] m p [u] (.slice (some ⟨g, o, none⟩) 1 c) 24 (gb_refl w none)).step (WK.grown (HW.out.grown (gb_alloc (gb_refl w none) _)) (gb_trans (gb_refl _ none) g1))); obtain ⟨_,_,_,_,_⟩ := B1.out.box.p; have bl_1 := B1.out.fr.lt
  obtain ⟨nu0_1,_,_,_,_⟩ := NU.out.kept W1.out.gb; have nul_1 := block_lt nu0_1; clear j1 k1; go_wp2_with fail; go_at_call 56; refine (write3 w0 wb _ _ L [65, 82, 82, 65, 89, 32] (numTx m) [32, 79, 70, 32] _ _ (by simp) (W1.out.grown (gb_refl w1 none)) (by first | omega | (simp only [List.length_cons, List.length_nil]; omega))).mono ?_; rintro e w2 ⟨rfl, j2, k2⟩; have W2 := hide j2; have K2 := hide (K1.out.trans ((WK.grown W1.out (gb_refl w1 none)).trans k2)); have B2 := hide (B1.out.step ((WK.grown W1.out (gb_refl w1 none)).trans k2)); obtain ⟨_,_,_,_,_⟩ := B2.out.box.p; have bl_2 := B2.out.fr.lt
  obtain ⟨nu0_2,_,_,_,_⟩ := NU.out.kept W2.out.gb; have nul_2 := block_lt nu0_2; clear j2 k2; go_wp2_with fail; go_at_call 96; refine (typeName_any w0 wb _ _ L u _ (W2.out.grown (gb_refl w2 none)) AU.out hu (by first | omega | (simp only [List.length_append, List.length_cons, List.length_nil]; omega))).mono ?_; rintro e w3 ⟨rfl, j3, k3⟩; have W3 := hide j3; have K3 := hide (K2.out.trans ((WK.grown W2.out (gb_refl w2 none)).trans k3)); have B3 := hide (B2.out.step ((WK.grown W2.out (gb_refl w2 none)).trans k3)); obtain ⟨_,_,_,_,_⟩ := B3.out.box.p; have bl_3 := B3.out.fr.lt
  obtain ⟨nu0_3,_,_,_,_⟩ := NU.out.kept W3.out.gb; have nul_3 := block_lt nu0_3; clear j3 k3; go_wp2_with fail
  go_end0
  refine ⟨rfl, ?_, K3.out⟩; have J9 := W3.out
  try simp only [List.append_assoc] at J9 ⊢
  exact J9
theorem pointer_w (w0 : World) (wb : Nat) (w : World) (S : List UInt8) (L : Nat) (p : Int) (u : T) (sv : Value) (h : Wr w0 wb w S L) (ha : AT w0 (T.mk 12 [] 0 p [u]).subs sv) (hu : TN u) (hlen : S.length + ([80, 79, 73, 78, 84, 69, 82, 32, 84, 79, 32] ++ nameTx u).length ≤ 1000000000) :
    Calls Tryz.prog 59 #[ptr wb, nodeV (.mk 12 [] 0 p [u]) sv] w (WP w0 wb w S L ([80, 79, 73, 78, 84, 69, 82, 32, 84, 79, 32] ++ nameTx u)) := by
  have HW := hide h; have hwl := h.lt; obtain ⟨g, o, c, u', su, rfl, hn, hc, hl, n5, fu, au⟩ := ha.one rfl
  obtain rfl : u = u' := by simpa [T.subs] using hl
  have NU := hide n5; have AU := hide au; obtain ⟨nu0,_,_,_,_⟩ := n5.kept h.gb; have hgl := block_lt nu0; clear h ha hl fu au n5
  change Calls Tryz.prog 59 #[ptr wb, .agg #[.int .i64 12, .string ⟨List.toArray []⟩, .int .i64 0, .int .i64 p, .slice (some ⟨g, o, none⟩) 1 c]] w _
  simp only [List.length_append, List.length_cons, List.length_nil] at hlen
  go_enter Tryz.func59, Tryz.ntmps59
  go_wp2_with fail; go_at_call 56; refine (write1 w0 wb _ _ L [80, 79, 73, 78, 84, 69, 82, 32, 84, 79, 32] _ _ (by simp) (HW.out.grown (by exact gb_alloc (gb_refl w none) _)) (by first | omega | (simp only [List.length_cons, List.length_nil]; omega))).mono ?_; rintro e w1 ⟨rfl, j1, k1⟩; have W1 := hide j1; have K1 := hide ((WK.grown HW.out (by exact gb_alloc (gb_refl w none) _)).trans k1); have B1 := hide ((FB.newX HW.out 12 [] 0 p [u] (.slice (some ⟨g, o, none⟩) 1 c) 24 (gb_refl w none)).step ((WK.grown (HW.out.grown (gb_alloc (gb_refl w none) _)) (gb_refl _ none)).trans k1)); obtain ⟨_,_,_,_,_⟩ := B1.out.box.p; have bl_1 := B1.out.fr.lt
  obtain ⟨nu0_1,_,_,_,_⟩ := NU.out.kept W1.out.gb; have nul_1 := block_lt nu0_1; clear j1 k1; go_wp2_with fail; go_at_call 96; refine (typeName_any w0 wb _ _ L u _ (W1.out.grown (gb_refl w1 none)) AU.out hu (by first | omega | (simp only [List.length_append, List.length_cons, List.length_nil]; omega))).mono ?_; rintro e w2 ⟨rfl, j2, k2⟩; have W2 := hide j2; have K2 := hide (K1.out.trans ((WK.grown W1.out (gb_refl w1 none)).trans k2)); have B2 := hide (B1.out.step ((WK.grown W1.out (gb_refl w1 none)).trans k2)); obtain ⟨_,_,_,_,_⟩ := B2.out.box.p; have bl_2 := B2.out.fr.lt
  obtain ⟨nu0_2,_,_,_,_⟩ := NU.out.kept W2.out.gb; have nul_2 := block_lt nu0_2; clear j2 k2; go_wp2_with fail
  go_end0
  refine ⟨rfl, ?_, K2.out⟩; have J9 := W2.out
  try simp only [List.append_assoc] at J9 ⊢
  exact J9
end Go.Proofs.YtapfecciakijhaaGreatDoor

/- The program's writer: records; a type itself; imports. -/
namespace Go.Proofs.YtapfecciakijhaaGreatDoor
open Go.RowKit Go.Maps Go.WideMaps Go.WideElems
set_option maxHeartbeats 4000000
set_option maxRecDepth 1000000

/-- The fields of a record, one behind the other. -/
def fieldsTx (us : List T) : List UInt8 := flatTx (fun x => typedTx x ++ [59, 32]) us
theorem fields_take {us : List T} {i : Nat} {u : T} (h : us[i]? = some u) : fieldsTx (us.take (i + 1)) = fieldsTx (us.take i) ++ (typedTx u ++ [59, 32]) := by
  unfold fieldsTx
  rw [List.take_add_one, h, flatTx_append]
  simp [flatTx]
theorem fields_le (us : List T) (i : Nat) : (fieldsTx (us.take i)).length ≤ (fieldsTx us).length := by
  have h : fieldsTx (us.take i ++ us.drop i) = fieldsTx (us.take i) ++ fieldsTx (us.drop i) := flatTx_append _ _ _; rw [List.take_append_drop] at h; rw [h, List.length_append]
  omega
/-- What is declared, written with its type's name. -/
theorem typed_any (k most : Int) (w0 : World) (wb : Nat) (w : World) (S : List UInt8) (L : Nat) (t : T) (sv : Value) (h : Wr w0 wb w S L) (ha : AT w0 t.subs sv) (ht : Well (.declared k most .typeName) t) (hlen : S.length + (typedTx t).length ≤ 1000000000) :
    Calls Tryz.prog 60 #[ptr wb, nodeV t sv] w (WP w0 wb w S L (typedTx t)) := by
  obtain ⟨x, m, p, u, rfl, -, -, -, hu⟩ := decl_of ht
  exact typed_w w0 wb w S L k x m p u sv h ha (tn_of hu) hlen
theorem param_any (w0 : World) (wb : Nat) (w : World) (S : List UInt8) (L : Nat) (t : T) (sv : Value) (h : Wr w0 wb w S L) (ha : AT w0 t.subs sv) (ht : Well (.declared 8 1 .typeName) t) (hlen : S.length + (paramTx t).length ≤ 1000000000) :
    Calls Tryz.prog 100 #[ptr wb, nodeV t sv] w (WP w0 wb w S L (paramTx t)) := by
  obtain ⟨x, m, p, u, rfl, -, -, -, hu⟩ := decl_of ht
  by_cases hm : m = 1
  · subst hm
    exact param_var w0 wb w S L 8 x p u sv h ha (tn_of hu) hlen
  · have e : paramTx (.mk 8 x m p [u]) = x ++ ([58, 32] ++ nameTx u) := by simp [paramTx, T.num, T.name, subT, T.subs, hm]
    rw [e] at hlen ⊢
    exact param_val w0 wb w S L 8 x m p u sv h ha (tn_of hu) hm hlen

theorem rec_none (w0 : World) (wb : Nat) (w : World) (S : List UInt8) (L : Nat) (p : Int) (u : T) (us : List T) (sv : Value) (h : Wr w0 wb w S L) (ha : AT w0 (T.mk 10 [] 0 p (u :: us)).subs sv) (hk : u.kind = 0) (hs : ∀ v ∈ us, Well (.declared 11 1 .typeName) v) (hlen : S.length + ([82, 69, 67, 79, 82, 68, 32] ++ ((fieldsTx us ++ [69, 78, 68]))).length ≤ 1000000000) :
    Calls Tryz.prog 99 #[ptr wb, nodeV (.mk 10 [] 0 p (u :: us)) sv] w (WP w0 wb w S L ([82, 69, 67, 79, 82, 68, 32] ++ ((fieldsTx us ++ [69, 78, 68])))) := by
  have HW := hide h; have hwl := h.lt; have HS := hide hs; obtain ⟨g,o,c,_,rfl,_,_,n5,fu,au,ar⟩ := AT.cons ha; obtain ⟨_,_,rfl,_,_⟩ := au.form; have NU := hide n5; have AU := hide au; obtain ⟨nu0,_,_,_,_⟩ := n5.kept h.gb; have hgl := block_lt nu0; have AR := hide ar; clear h ha hs fu au n5 ar
  change Calls Tryz.prog 99 #[ptr wb, .agg #[.int .i64 10, .string ⟨List.toArray []⟩, .int .i64 0, .int .i64 p, .slice (some ⟨g, o, none⟩) (us.length + 1) c]] w _
  simp only [List.length_append, List.length_cons, List.length_nil] at hlen
  have hkb : (u.kind != 0) = false := by rw [hk]; rfl
  have HK := hide hk; clear hk
  rcases Nat.lt_or_ge 1 c with hc1 | hc1
  · skip
    have AR2 := hide AR.out
    go_enter Tryz.func99, Tryz.ntmps99
    go_wp2_with fail; go_at_call 56; refine (write1 w0 wb _ _ L [82, 69, 67, 79, 82, 68, 32] _ _ (by simp) (HW.out.grown (by exact gb_alloc (gb_refl w none) _)) (by first | omega | (simp only [List.length_cons, List.length_nil]; omega))).mono ?_; rintro e w1 ⟨rfl, j1, k1⟩; have W1 := hide j1; have K1 := hide ((WK.grown HW.out (by exact gb_alloc (gb_refl w none) _)).trans k1); have B1 := hide ((FB.newX HW.out 10 [] 0 p (u :: us) (.slice (some ⟨g, o, none⟩) (us.length + 1) c) 24 (gb_refl w none)).step ((WK.grown (HW.out.grown (gb_alloc (gb_refl w none) _)) (gb_refl _ none)).trans k1)); obtain ⟨b0_1,b1_1,b2_1,b3_1,b4_1⟩ := B1.out.box.p; have bl_1 := B1.out.fr.lt
    obtain ⟨nu0_1,nu1_1,nu2_1,nu3_1,nu4_1⟩ := NU.out.kept W1.out.gb; have nul_1 := block_lt nu0_1; clear j1 k1
    have JJ : Hid (Wr w0 wb w1 (S ++ ([82, 69, 67, 79, 82, 68, 32])) L) := by
      show Wr _ _ _ _ _
      have J9 := W1.out
      try simp only [List.append_assoc] at J9 ⊢
      exact J9
    go_wp2_with fail
    go_loopw [30] (fun iv wr => ∃ i : Nat, i ≤ us.length ∧ iv = .int .i64 ↑i ∧ Hid (Wr w0 wb wr (S ++ (([82, 69, 67, 79, 82, 68, 32]) ++ fieldsTx (List.take i us))) L) ∧ Hid (WK wb w wr)) (fun iv _ => us.length - (intOf iv).toNat)
    case atStart => exact ⟨0, Nat.zero_le _, rfl, by show Wr _ _ _ _ _; simpa [fieldsTx, flatTx] using JJ.out.grown (by exact gb_alloc (gb_refl w1 none) _), K1.out.trans (WK.grown JJ.out (by exact gb_alloc (gb_refl w1 none) _))⟩
    case round =>
      obtain ⟨i,hi,rfl,J1,K1⟩ := hrel
      by_cases hlt : i < us.length
      · obtain ⟨v, hv⟩ : ∃ v, us[i]? = some v := ⟨_, List.getElem?_eq_getElem hlt⟩
        obtain ⟨_,_,sv,e1,m5,fv,av⟩ := AR2.out.node i v hv; cases e1; obtain ⟨_,_,rfl,_,_⟩ := av.form; obtain ⟨_,_,_,_,_⟩ := m5.kept J1.out.gb; have HT := hide (fields_take hv); have AV := hide av; have hwv := HS.out v (List.mem_of_getElem? hv); have HV := hide hwv; have hle := fields_le us (i + 1); rw [HT.out] at hle; simp only [List.length_append, List.length_cons, List.length_nil] at hle; clear hv fv av m5 hwv; go_wp2_with fail; go_at_call 60; refine (typed_any 11 1 w0 wb _ _ L v _ (J1.out.grown (by exact gb_alloc (gb_refl wr none) _)) AV.out HV.out (by first | omega | (simp only [List.length_append, List.length_cons, List.length_nil]; omega))).mono ?_; rintro e x2 ⟨rfl, j2, k2⟩; have J2 := hide j2; have K2 := hide (K1.out.trans ((WK.grown J1.out (by exact gb_alloc (gb_refl wr none) _)).trans k2)); clear j2 k2; go_wp2_with fail; go_at_call 56; refine (write1 w0 wb _ _ L [59, 32] _ _ (by simp) (J2.out.grown (gb_refl x2 none)) (by first | omega | (simp only [List.length_append, List.length_cons, List.length_nil]; omega))).mono ?_; rintro e x3 ⟨rfl, j3, k3⟩
        have J3 : Hid (Wr w0 wb x3 (S ++ (([82, 69, 67, 79, 82, 68, 32]) ++ fieldsTx (us.take (i + 1)))) L) := by show Wr _ _ _ _ _; rw [HT.out]; simpa only [List.append_assoc] using j3
        have K3 := hide (K2.out.trans ((WK.grown J2.out (gb_refl x2 none)).trans k3)); clear j3 k3; go_wp2_with fail
        exact ⟨⟨i + 1, by omega, by go_num, J3, K3⟩, by simp [intOf]; omega⟩
      · have J2 : Hid (Wr w0 wb wr (S ++ (([82, 69, 67, 79, 82, 68, 32]) ++ fieldsTx us)) L) := by
          have := J1.out; rw [List.take_of_length_le (by omega)] at this
          exact this
        go_wp2_with fail; go_at_call 56; refine (write1 w0 wb _ _ L [69, 78, 68] _ _ (by simp) (J2.out.grown (gb_refl wr none)) (by first | omega | (simp only [List.length_append, List.length_cons, List.length_nil]; omega))).mono ?_; rintro e x3 ⟨rfl, j3, k3⟩
        have J3 : Hid (Wr w0 wb x3 (S ++ ([82, 69, 67, 79, 82, 68, 32] ++ ((fieldsTx us ++ [69, 78, 68])))) L) := by show Wr _ _ _ _ _; simpa only [List.append_assoc] using j3
        have K3 := hide (K1.out.trans ((WK.grown J2.out (gb_refl wr none)).trans k3)); clear j3 k3; go_wp2_with fail
        go_end0
        exact ⟨rfl, J3.out, K3.out⟩
  · obtain rfl : c = 1 := by omega
    obtain rfl : us = [] := List.eq_nil_of_length_eq_zero (by omega); have AR2 : Hid (AT w0 [] (.slice (some ⟨g, o, none⟩) 0 0)) := AT.nil _ _ (Nat.zero_le _)
    go_enter Tryz.func99, Tryz.ntmps99
    go_wp2_with fail; go_at_call 56; refine (write1 w0 wb _ _ L [82, 69, 67, 79, 82, 68, 32] _ _ (by simp) (HW.out.grown (by exact gb_alloc (gb_refl w none) _)) (by first | omega | (simp only [List.length_cons, List.length_nil]; omega))).mono ?_; rintro e w1 ⟨rfl, j1, k1⟩; have W1 := hide j1; have K1 := hide ((WK.grown HW.out (by exact gb_alloc (gb_refl w none) _)).trans k1); have B1 := hide ((FB.newX HW.out 10 [] 0 p (u :: []) (.slice (some ⟨g, o, none⟩) 1 1) 24 (gb_refl w none)).step ((WK.grown (HW.out.grown (gb_alloc (gb_refl w none) _)) (gb_refl _ none)).trans k1)); obtain ⟨b0_1,b1_1,b2_1,b3_1,b4_1⟩ := B1.out.box.p; have bl_1 := B1.out.fr.lt
    obtain ⟨nu0_1,nu1_1,nu2_1,nu3_1,nu4_1⟩ := NU.out.kept W1.out.gb; have nul_1 := block_lt nu0_1; clear j1 k1
    have JJ : Hid (Wr w0 wb w1 (S ++ ([82, 69, 67, 79, 82, 68, 32])) L) := by
      show Wr _ _ _ _ _
      have J9 := W1.out
      try simp only [List.append_assoc] at J9 ⊢
      exact J9
    go_wp2_with fail
    go_loopw [30] (fun iv wr => ∃ i : Nat, i ≤ ([] : List T).length ∧ iv = .int .i64 ↑i ∧ Hid (Wr w0 wb wr (S ++ (([82, 69, 67, 79, 82, 68, 32]) ++ fieldsTx (List.take i []))) L) ∧ Hid (WK wb w wr)) (fun iv _ => ([] : List T).length - (intOf iv).toNat)
    case atStart => exact ⟨0, Nat.zero_le _, rfl, by show Wr _ _ _ _ _; simpa [fieldsTx, flatTx] using JJ.out.grown (by exact gb_alloc (gb_refl w1 none) _), K1.out.trans (WK.grown JJ.out (by exact gb_alloc (gb_refl w1 none) _))⟩
    case round =>
      obtain ⟨i,hi,rfl,J1,K1⟩ := hrel
      by_cases hlt : i < ([] : List T).length
      · exact absurd hlt (by simp)
      · have J2 : Hid (Wr w0 wb wr (S ++ (([82, 69, 67, 79, 82, 68, 32]) ++ fieldsTx ([] : List T))) L) := by
          have := J1.out; rw [List.take_of_length_le (by omega)] at this
          exact this
        go_wp2_with fail; go_at_call 56; refine (write1 w0 wb _ _ L [69, 78, 68] _ _ (by simp) (J2.out.grown (gb_refl wr none)) (by first | omega | (simp only [List.length_append, List.length_cons, List.length_nil]; omega))).mono ?_; rintro e x3 ⟨rfl, j3, k3⟩
        have J3 : Hid (Wr w0 wb x3 (S ++ ([82, 69, 67, 79, 82, 68, 32] ++ ((fieldsTx ([] : List T) ++ [69, 78, 68])))) L) := by show Wr _ _ _ _ _; simpa only [List.append_assoc] using j3
        have K3 := hide (K1.out.trans ((WK.grown J2.out (gb_refl wr none)).trans k3)); clear j3 k3; go_wp2_with fail
        go_end0
        exact ⟨rfl, J3.out, K3.out⟩
theorem rec_base (w0 : World) (wb : Nat) (w : World) (S : List UInt8) (L : Nat) (p : Int) (u : T) (us : List T) (sv : Value) (h : Wr w0 wb w S L) (ha : AT w0 (T.mk 10 [] 0 p (u :: us)).subs sv) (hk : u.kind = 13) (hu : TN u) (hs : ∀ v ∈ us, Well (.declared 11 1 .typeName) v) (hlen : S.length + ([82, 69, 67, 79, 82, 68, 32] ++ ([40] ++ (nameTx u ++ ([41, 32] ++ (fieldsTx us ++ [69, 78, 68]))))).length ≤ 1000000000) :
    Calls Tryz.prog 99 #[ptr wb, nodeV (.mk 10 [] 0 p (u :: us)) sv] w (WP w0 wb w S L ([82, 69, 67, 79, 82, 68, 32] ++ ([40] ++ (nameTx u ++ ([41, 32] ++ (fieldsTx us ++ [69, 78, 68])))))) := by
  have HW := hide h; have hwl := h.lt; have HS := hide hs; obtain ⟨g,o,c,_,rfl,_,_,n5,fu,au,ar⟩ := AT.cons ha; obtain ⟨ua,uc,rfl,_,_⟩ := au.form; have NU := hide n5; have AU := hide au; obtain ⟨nu0,_,_,_,_⟩ := n5.kept h.gb; have hgl := block_lt nu0; have AR := hide ar; clear h ha hs fu au n5 ar
  change Calls Tryz.prog 99 #[ptr wb, .agg #[.int .i64 10, .string ⟨List.toArray []⟩, .int .i64 0, .int .i64 p, .slice (some ⟨g, o, none⟩) (us.length + 1) c]] w _
  simp only [List.length_append, List.length_cons, List.length_nil] at hlen
  have hkb : (u.kind != 0) = true := by rw [hk]; rfl
  have HK := hide hk; clear hk
  rcases Nat.lt_or_ge 1 c with hc1 | hc1
  · skip
    have AR2 := hide AR.out
    go_enter Tryz.func99, Tryz.ntmps99
    go_wp2_with fail; go_at_call 56; refine (write1 w0 wb _ _ L [82, 69, 67, 79, 82, 68, 32] _ _ (by simp) (HW.out.grown (by exact gb_alloc (gb_refl w none) _)) (by first | omega | (simp only [List.length_cons, List.length_nil]; omega))).mono ?_; rintro e w1 ⟨rfl, j1, k1⟩; have W1 := hide j1; have K1 := hide ((WK.grown HW.out (by exact gb_alloc (gb_refl w none) _)).trans k1); have B1 := hide ((FB.newX HW.out 10 [] 0 p (u :: us) (.slice (some ⟨g, o, none⟩) (us.length + 1) c) 24 (gb_refl w none)).step ((WK.grown (HW.out.grown (gb_alloc (gb_refl w none) _)) (gb_refl _ none)).trans k1)); obtain ⟨b0_1,b1_1,b2_1,b3_1,b4_1⟩ := B1.out.box.p; have bl_1 := B1.out.fr.lt
    obtain ⟨nu0_1,nu1_1,nu2_1,nu3_1,nu4_1⟩ := NU.out.kept W1.out.gb; have nul_1 := block_lt nu0_1; clear j1 k1; have hub := FB.new W1.out u (.slice ua u.subs.length uc) 24 (gb_refl w1 none); have UB0 := hide hub; clear hub; go_wp2_with fail; go_at_call 56; refine (write1 w0 wb _ _ L [40] _ _ (by simp) (W1.out.grown (by exact gb_alloc (gb_refl w1 none) _)) (by first | omega | (simp only [List.length_append, List.length_cons, List.length_nil]; omega))).mono ?_; rintro e w2 ⟨rfl, j2, k2⟩; have W2 := hide j2; have K2 := hide (K1.out.trans ((WK.grown W1.out (by exact gb_alloc (gb_refl w1 none) _)).trans k2)); have B2 := hide (B1.out.step ((WK.grown W1.out (by exact gb_alloc (gb_refl w1 none) _)).trans k2)); obtain ⟨b0_2,b1_2,b2_2,b3_2,b4_2⟩ := B2.out.box.p; have bl_2 := B2.out.fr.lt
    obtain ⟨nu0_2,nu1_2,nu2_2,nu3_2,nu4_2⟩ := NU.out.kept W2.out.gb; have nul_2 := block_lt nu0_2; have UB2 := hide (UB0.out.step ((WK.grown (W1.out.grown (gb_alloc (gb_refl w1 none) _)) (gb_refl _ none)).trans k2)); obtain ⟨ub0,ub1,ub2,ub3,ub4⟩ := UB2.out.box; clear j2 k2; go_wp2_with fail; go_at_call 96; refine (typeName_any w0 wb _ _ L u _ (W2.out.grown (gb_refl w2 none)) AU.out hu (by first | omega | (simp only [List.length_append, List.length_cons, List.length_nil]; omega))).mono ?_; rintro e w3 ⟨rfl, j3, k3⟩; have W3 := hide j3; have K3 := hide (K2.out.trans ((WK.grown W2.out (gb_refl w2 none)).trans k3)); have B3 := hide (B2.out.step ((WK.grown W2.out (gb_refl w2 none)).trans k3)); obtain ⟨b0_3,b1_3,b2_3,b3_3,b4_3⟩ := B3.out.box.p; have bl_3 := B3.out.fr.lt
    obtain ⟨nu0_3,nu1_3,nu2_3,nu3_3,nu4_3⟩ := NU.out.kept W3.out.gb; have nul_3 := block_lt nu0_3; clear j3 k3; go_wp2_with fail; go_at_call 56; refine (write1 w0 wb _ _ L [41, 32] _ _ (by simp) (W3.out.grown (gb_refl w3 none)) (by first | omega | (simp only [List.length_append, List.length_cons, List.length_nil]; omega))).mono ?_; rintro e w4 ⟨rfl, j4, k4⟩; have W4 := hide j4; have K4 := hide (K3.out.trans ((WK.grown W3.out (gb_refl w3 none)).trans k4)); have B4 := hide (B3.out.step ((WK.grown W3.out (gb_refl w3 none)).trans k4)); obtain ⟨b0_4,b1_4,b2_4,b3_4,b4_4⟩ := B4.out.box.p; have bl_4 := B4.out.fr.lt
    obtain ⟨nu0_4,nu1_4,nu2_4,nu3_4,nu4_4⟩ := NU.out.kept W4.out.gb; have nul_4 := block_lt nu0_4; clear j4 k4
    have JJ : Hid (Wr w0 wb w4 (S ++ ([82, 69, 67, 79, 82, 68, 32] ++ ([40] ++ (nameTx u ++ [41, 32])))) L) := by
      show Wr _ _ _ _ _
      have J9 := W4.out
      try simp only [List.append_assoc] at J9 ⊢
      exact J9
    go_wp2_with fail
    go_loopw [30] (fun iv wr => ∃ i : Nat, i ≤ us.length ∧ iv = .int .i64 ↑i ∧ Hid (Wr w0 wb wr (S ++ (([82, 69, 67, 79, 82, 68, 32] ++ ([40] ++ (nameTx u ++ [41, 32]))) ++ fieldsTx (List.take i us))) L) ∧ Hid (WK wb w wr)) (fun iv _ => us.length - (intOf iv).toNat)
    case atStart => exact ⟨0, Nat.zero_le _, rfl, by show Wr _ _ _ _ _; simpa [fieldsTx, flatTx] using JJ.out.grown (gb_refl w4 none), K4.out.trans (WK.grown JJ.out (gb_refl w4 none))⟩
    case round =>
      obtain ⟨i,hi,rfl,J1,K1⟩ := hrel
      by_cases hlt : i < us.length
      · obtain ⟨v, hv⟩ : ∃ v, us[i]? = some v := ⟨_, List.getElem?_eq_getElem hlt⟩
        obtain ⟨_,_,sv,e1,m5,fv,av⟩ := AR2.out.node i v hv; cases e1; obtain ⟨_,_,rfl,_,_⟩ := av.form; obtain ⟨_,_,_,_,_⟩ := m5.kept J1.out.gb; have HT := hide (fields_take hv); have AV := hide av; have hwv := HS.out v (List.mem_of_getElem? hv); have HV := hide hwv; have hle := fields_le us (i + 1); rw [HT.out] at hle; simp only [List.length_append, List.length_cons, List.length_nil] at hle; clear hv fv av m5 hwv; go_wp2_with fail; go_at_call 60; refine (typed_any 11 1 w0 wb _ _ L v _ (J1.out.grown (by exact gb_alloc (gb_refl wr none) _)) AV.out HV.out (by first | omega | (simp only [List.length_append, List.length_cons, List.length_nil]; omega))).mono ?_; rintro e x2 ⟨rfl, j2, k2⟩; have J2 := hide j2; have K2 := hide (K1.out.trans ((WK.grown J1.out (by exact gb_alloc (gb_refl wr none) _)).trans k2)); clear j2 k2; go_wp2_with fail; go_at_call 56; refine (write1 w0 wb _ _ L [59, 32] _ _ (by simp) (J2.out.grown (gb_refl x2 none)) (by first | omega | (simp only [List.length_append, List.length_cons, List.length_nil]; omega))).mono ?_; rintro e x3 ⟨rfl, j3, k3⟩
        have J3 : Hid (Wr w0 wb x3 (S ++ (([82, 69, 67, 79, 82, 68, 32] ++ ([40] ++ (nameTx u ++ [41, 32]))) ++ fieldsTx (us.take (i + 1)))) L) := by show Wr _ _ _ _ _; rw [HT.out]; simpa only [List.append_assoc] using j3
        have K3 := hide (K2.out.trans ((WK.grown J2.out (gb_refl x2 none)).trans k3)); clear j3 k3; go_wp2_with fail
        exact ⟨⟨i + 1, by omega, by go_num, J3, K3⟩, by simp [intOf]; omega⟩
      · have J2 : Hid (Wr w0 wb wr (S ++ (([82, 69, 67, 79, 82, 68, 32] ++ ([40] ++ (nameTx u ++ [41, 32]))) ++ fieldsTx us)) L) := by
          have := J1.out; rw [List.take_of_length_le (by omega)] at this
          exact this
        go_wp2_with fail; go_at_call 56; refine (write1 w0 wb _ _ L [69, 78, 68] _ _ (by simp) (J2.out.grown (gb_refl wr none)) (by first | omega | (simp only [List.length_append, List.length_cons, List.length_nil]; omega))).mono ?_; rintro e x3 ⟨rfl, j3, k3⟩
        have J3 : Hid (Wr w0 wb x3 (S ++ ([82, 69, 67, 79, 82, 68, 32] ++ ([40] ++ (nameTx u ++ ([41, 32] ++ (fieldsTx us ++ [69, 78, 68])))))) L) := by show Wr _ _ _ _ _; simpa only [List.append_assoc] using j3
        have K3 := hide (K1.out.trans ((WK.grown J2.out (gb_refl wr none)).trans k3)); clear j3 k3; go_wp2_with fail
        go_end0
        exact ⟨rfl, J3.out, K3.out⟩
  · obtain rfl : c = 1 := by omega
    obtain rfl : us = [] := List.eq_nil_of_length_eq_zero (by omega); have AR2 : Hid (AT w0 [] (.slice (some ⟨g, o, none⟩) 0 0)) := AT.nil _ _ (Nat.zero_le _)
    go_enter Tryz.func99, Tryz.ntmps99
    go_wp2_with fail; go_at_call 56; refine (write1 w0 wb _ _ L [82, 69, 67, 79, 82, 68, 32] _ _ (by simp) (HW.out.grown (by exact gb_alloc (gb_refl w none) _)) (by first | omega | (simp only [List.length_cons, List.length_nil]; omega))).mono ?_; rintro e w1 ⟨rfl, j1, k1⟩; have W1 := hide j1; have K1 := hide ((WK.grown HW.out (by exact gb_alloc (gb_refl w none) _)).trans k1); have B1 := hide ((FB.newX HW.out 10 [] 0 p (u :: []) (.slice (some ⟨g, o, none⟩) 1 1) 24 (gb_refl w none)).step ((WK.grown (HW.out.grown (gb_alloc (gb_refl w none) _)) (gb_refl _ none)).trans k1)); obtain ⟨b0_1,b1_1,b2_1,b3_1,b4_1⟩ := B1.out.box.p; have bl_1 := B1.out.fr.lt
    obtain ⟨nu0_1,nu1_1,nu2_1,nu3_1,nu4_1⟩ := NU.out.kept W1.out.gb; have nul_1 := block_lt nu0_1; clear j1 k1; have hub := FB.new W1.out u (.slice ua u.subs.length uc) 24 (gb_refl w1 none); have UB0 := hide hub; clear hub; go_wp2_with fail; go_at_call 56; refine (write1 w0 wb _ _ L [40] _ _ (by simp) (W1.out.grown (by exact gb_alloc (gb_refl w1 none) _)) (by first | omega | (simp only [List.length_append, List.length_cons, List.length_nil]; omega))).mono ?_; rintro e w2 ⟨rfl, j2, k2⟩; have W2 := hide j2; have K2 := hide (K1.out.trans ((WK.grown W1.out (by exact gb_alloc (gb_refl w1 none) _)).trans k2)); have B2 := hide (B1.out.step ((WK.grown W1.out (by exact gb_alloc (gb_refl w1 none) _)).trans k2)); obtain ⟨b0_2,b1_2,b2_2,b3_2,b4_2⟩ := B2.out.box.p; have bl_2 := B2.out.fr.lt
    obtain ⟨nu0_2,nu1_2,nu2_2,nu3_2,nu4_2⟩ := NU.out.kept W2.out.gb; have nul_2 := block_lt nu0_2; have UB2 := hide (UB0.out.step ((WK.grown (W1.out.grown (gb_alloc (gb_refl w1 none) _)) (gb_refl _ none)).trans k2)); obtain ⟨ub0,ub1,ub2,ub3,ub4⟩ := UB2.out.box; clear j2 k2; go_wp2_with fail; go_at_call 96; refine (typeName_any w0 wb _ _ L u _ (W2.out.grown (gb_refl w2 none)) AU.out hu (by first | omega | (simp only [List.length_append, List.length_cons, List.length_nil]; omega))).mono ?_; rintro e w3 ⟨rfl, j3, k3⟩; have W3 := hide j3; have K3 := hide (K2.out.trans ((WK.grown W2.out (gb_refl w2 none)).trans k3)); have B3 := hide (B2.out.step ((WK.grown W2.out (gb_refl w2 none)).trans k3)); obtain ⟨b0_3,b1_3,b2_3,b3_3,b4_3⟩ := B3.out.box.p; have bl_3 := B3.out.fr.lt
    obtain ⟨nu0_3,nu1_3,nu2_3,nu3_3,nu4_3⟩ := NU.out.kept W3.out.gb; have nul_3 := block_lt nu0_3; clear j3 k3; go_wp2_with fail; go_at_call 56; refine (write1 w0 wb _ _ L [41, 32] _ _ (by simp) (W3.out.grown (gb_refl w3 none)) (by first | omega | (simp only [List.length_append, List.length_cons, List.length_nil]; omega))).mono ?_; rintro e w4 ⟨rfl, j4, k4⟩; have W4 := hide j4; have K4 := hide (K3.out.trans ((WK.grown W3.out (gb_refl w3 none)).trans k4)); have B4 := hide (B3.out.step ((WK.grown W3.out (gb_refl w3 none)).trans k4)); obtain ⟨b0_4,b1_4,b2_4,b3_4,b4_4⟩ := B4.out.box.p; have bl_4 := B4.out.fr.lt
    obtain ⟨nu0_4,nu1_4,nu2_4,nu3_4,nu4_4⟩ := NU.out.kept W4.out.gb; have nul_4 := block_lt nu0_4; clear j4 k4
    have JJ : Hid (Wr w0 wb w4 (S ++ ([82, 69, 67, 79, 82, 68, 32] ++ ([40] ++ (nameTx u ++ [41, 32])))) L) := by
      show Wr _ _ _ _ _
      have J9 := W4.out
      try simp only [List.append_assoc] at J9 ⊢
      exact J9
    go_wp2_with fail
    go_loopw [30] (fun iv wr => ∃ i : Nat, i ≤ ([] : List T).length ∧ iv = .int .i64 ↑i ∧ Hid (Wr w0 wb wr (S ++ (([82, 69, 67, 79, 82, 68, 32] ++ ([40] ++ (nameTx u ++ [41, 32]))) ++ fieldsTx (List.take i []))) L) ∧ Hid (WK wb w wr)) (fun iv _ => ([] : List T).length - (intOf iv).toNat)
    case atStart => exact ⟨0, Nat.zero_le _, rfl, by show Wr _ _ _ _ _; simpa [fieldsTx, flatTx] using JJ.out.grown (gb_refl w4 none), K4.out.trans (WK.grown JJ.out (gb_refl w4 none))⟩
    case round =>
      obtain ⟨i,hi,rfl,J1,K1⟩ := hrel
      by_cases hlt : i < ([] : List T).length
      · exact absurd hlt (by simp)
      · have J2 : Hid (Wr w0 wb wr (S ++ (([82, 69, 67, 79, 82, 68, 32] ++ ([40] ++ (nameTx u ++ [41, 32]))) ++ fieldsTx ([] : List T))) L) := by
          have := J1.out; rw [List.take_of_length_le (by omega)] at this
          exact this
        go_wp2_with fail; go_at_call 56; refine (write1 w0 wb _ _ L [69, 78, 68] _ _ (by simp) (J2.out.grown (gb_refl wr none)) (by first | omega | (simp only [List.length_append, List.length_cons, List.length_nil]; omega))).mono ?_; rintro e x3 ⟨rfl, j3, k3⟩
        have J3 : Hid (Wr w0 wb x3 (S ++ ([82, 69, 67, 79, 82, 68, 32] ++ ([40] ++ (nameTx u ++ ([41, 32] ++ (fieldsTx ([] : List T) ++ [69, 78, 68])))))) L) := by show Wr _ _ _ _ _; simpa only [List.append_assoc] using j3
        have K3 := hide (K1.out.trans ((WK.grown J2.out (gb_refl wr none)).trans k3)); clear j3 k3; go_wp2_with fail
        go_end0
        exact ⟨rfl, J3.out, K3.out⟩
theorem record_any (w0 : World) (wb : Nat) (w : World) (S : List UInt8) (L : Nat) (p : Int) (u : T) (us : List T) (sv : Value) (h : Wr w0 wb w S L) (ha : AT w0 (T.mk 10 [] 0 p (u :: us)).subs sv) (hu : (∃ q, u = .mk 0 [] 0 q []) ∨ (u.kind = 13 ∧ TN u)) (hs : ∀ v ∈ us, Well (.declared 11 1 .typeName) v) (hlen : S.length + ([82, 69, 67, 79, 82, 68, 32] ++ ((if u.kind = 0 then [] else 40 :: (nameTx u ++ [41, 32])) ++ (fieldsTx us ++ [69, 78, 68]))).length ≤ 1000000000) :
    Calls Tryz.prog 99 #[ptr wb, nodeV (.mk 10 [] 0 p (u :: us)) sv] w (WP w0 wb w S L ([82, 69, 67, 79, 82, 68, 32] ++ ((if u.kind = 0 then [] else 40 :: (nameTx u ++ [41, 32])) ++ (fieldsTx us ++ [69, 78, 68])))) := by
  rcases hu with ⟨q, rfl⟩ | ⟨hk, hu⟩
  · rw [if_pos (show (T.mk 0 [] 0 q []).kind = 0 from rfl)] at hlen ⊢
    exact rec_none w0 wb w S L p _ us sv h ha rfl hs hlen
  · rw [if_neg (show ¬ u.kind = 0 by rw [hk]; decide)] at hlen ⊢
    have := rec_base w0 wb w S L p u us sv h ha hk hu hs (by simpa using hlen)
    simpa using this
theorem record_t (w0 : World) (wb : Nat) (w : World) (S : List UInt8) (L : Nat) (p : Int) (u : T) (us : List T) (sv : Value) (h : Wr w0 wb w S L) (ha : AT w0 (T.mk 10 [] 0 p (u :: us)).subs sv) (hu : (∃ q, u = .mk 0 [] 0 q []) ∨ (u.kind = 13 ∧ TN u)) (hs : ∀ v ∈ us, Well (.declared 11 1 .typeName) v) (hlen : S.length + ([82, 69, 67, 79, 82, 68, 32] ++ ((if u.kind = 0 then [] else 40 :: (nameTx u ++ [41, 32])) ++ (fieldsTx us ++ [69, 78, 68]))).length ≤ 1000000000) :
    Calls Tryz.prog 59 #[ptr wb, nodeV (.mk 10 [] 0 p (u :: us)) sv] w (WP w0 wb w S L ([82, 69, 67, 79, 82, 68, 32] ++ ((if u.kind = 0 then [] else 40 :: (nameTx u ++ [41, 32])) ++ (fieldsTx us ++ [69, 78, 68])))) := by
  have HW := hide h; have HA := hide ha; have HS := hide hs; have HU := hide hu; have HL := hide hlen; obtain ⟨a,n,c,rfl,_,_,hl⟩ := ha.any
  change us.length + 1 = n at hl
  subst hl; clear h ha hs hu hlen
  change Calls Tryz.prog 59 #[ptr wb, .agg #[.int .i64 10, .string ⟨List.toArray []⟩, .int .i64 0, .int .i64 p, .slice a (us.length + 1) c]] w _
  generalize HX : ([82, 69, 67, 79, 82, 68, 32] ++ ((if u.kind = 0 then [] else 40 :: (nameTx u ++ [41, 32])) ++ (fieldsTx us ++ [69, 78, 68]))) = X at HL ⊢
  go_enter Tryz.func59, Tryz.ntmps59
  go_wp2_with fail; go_at_call 99; refine (record_any w0 wb _ _ L p u us _ (HW.out.grown (by exact gb_alloc (gb_refl w none) _)) HA.out HU.out HS.out (by rw [HX]; exact HL.out)).mono ?_; rintro e w1 ⟨rfl, j1, k1⟩; have W1 := hide j1; have K1 := hide ((WK.grown HW.out (by exact gb_alloc (gb_refl w none) _)).trans k1); clear j1 k1; rw [HX] at W1; go_wp2_with fail
  go_end0
  refine ⟨rfl, ?_, K1.out⟩; have J9 := W1.out
  try simp only [List.append_assoc, List.nil_append, List.append_nil] at J9 ⊢
  exact J9
theorem typeItself_any (w0 : World) (wb : Nat) (w : World) (S : List UInt8) (L : Nat) (t : T) (sv : Value) (h : Wr w0 wb w S L) (ha : AT w0 t.subs sv) (ht : TY t) (hp : PT w0) (hlen : S.length + (typeTx t).length ≤ 1000000000) :
    Calls Tryz.prog 59 #[ptr wb, nodeV t sv] w (WP w0 wb w S L (typeTx t)) := by
  cases ht with
  | array m p u h0 h1 hu => exact array_w w0 wb w S L m p u sv h ha hu h0 h1 hp hlen
  | pointer p u hu => exact pointer_w w0 wb w S L p u sv h ha hu hlen
  | record p u us hu hs => exact record_t w0 wb w S L p u us sv h ha hu hs hlen
theorem importsC_any (w0 : World) (wb : Nat) (w : World) (S : List UInt8) (L : Nat) (t : T) (sv : Value) (b1 : Nat) (h : Wr w0 wb w S L) (ha : AT w0 t.subs sv) (d1 : w.cell? ⟨b1, 0, none⟩ = some (ptr wb)) (hlen : S.length + t.name.length ≤ 1000000000) :
    Calls Tryz.prog 90 #[nodeV t sv, ptr b1] w (WP w0 wb w S L t.name) := by
  obtain ⟨sa,sc,rfl,_,_⟩ := ha.form; have HW := hide h; have hl1 := block_lt d1; obtain ⟨kd,x,m,p,l⟩ := t
  change S.length + x.length ≤ 1000000000 at hlen
  clear h ha
  change Calls Tryz.prog 90 #[.agg #[.int .i64 kd, .string ⟨x.toArray⟩, .int .i64 m, .int .i64 p, .slice sa l.length sc], ptr b1] w _
  go_enter Tryz.func90, Tryz.ntmps90
  go_wp2_with fail; go_at_call 56; refine (write1 w0 wb _ _ L x _ _ (by simp) (HW.out.grown (by exact gb_alloc (gb_refl w none) _)) (by first | omega | (simp only [List.length_append, List.length_cons, List.length_nil, padTx_len]; omega))).mono ?_; rintro e w1 ⟨rfl, j1, k1⟩; have W1 := hide j1; have K1 := hide ((WK.grown HW.out (by exact gb_alloc (gb_refl w none) _)).trans k1); clear j1 k1; go_wp2_with fail
  go_end0
  refine ⟨rfl, ?_, K1.out⟩; have J9 := W1.out
  try simp only [List.append_assoc, List.nil_append, List.append_nil] at J9 ⊢
  exact J9
theorem en_imports : EN 90 := enters_of Tryz.func90 (by kernel_rfl) rfl
theorem imports_any (w0 : World) (wb : Nat) (w : World) (S : List UInt8) (L : Nat) (ts : List T) (sl : Value) (h : Wr w0 wb w S L) (ha : AT w0 ts sl) (hlen : S.length + (importsTx ts).length ≤ 1000000000) :
    Calls Tryz.prog 52 #[ptr wb, sl] w (WP w0 wb w S L (importsTx ts)) := by
  have HA := hide ha; have HW := hide h; have hwl := h.lt; obtain ⟨_,_,rfl,_,hs2⟩ := ha.form
  unfold maxLen at hs2
  by_cases h0 : ts.length = 0
  · obtain rfl : ts = [] := List.eq_nil_of_length_eq_zero h0
    have HX : Hid (importsTx [] = []) := rfl
    clear h ha
    go_enter Tryz.func52, Tryz.ntmps52
    go_wp2_with fail
    go_end0
    exact ⟨rfl, by rw [HX.out, List.append_nil]; exact HW.out.grown (by exact gb_alloc (gb_refl w none) _), WK.grown HW.out (by exact gb_alloc (gb_refl w none) _)⟩
  · have HX : Hid (importsTx ts = [73, 77, 80, 79, 82, 84, 32] ++ (sepTx [44, 32] (ts.map T.name) ++ [59, 10])) := by
      show _ = _
      unfold importsTx
      rw [if_neg (by simpa [List.isEmpty_iff] using fun e => h0 (by rw [e]; rfl))]
    rw [HX.out] at hlen ⊢; simp only [List.length_append, List.length_cons, List.length_nil] at hlen
    have hb0 : ((ts.length : Int) == 0) = false := by rw [beq_eq_false_iff_ne]; omega
    have Fb := hide (Fr.new h (gb_alloc (gb_refl w none) (.cells #[ptr wb] 48)) (Nat.le_refl _) (by simp)); have db := cell_new1 w (ptr wb) 48; clear h ha
    go_enter Tryz.func52, Tryz.ntmps52
    go_wp2_with fail; go_at_call 56; refine (write1 w0 wb _ _ L [73, 77, 80, 79, 82, 84, 32] _ _ (by simp) (HW.out.grown (by exact gb_alloc (gb_refl w none) _)) (by first | omega | (simp only [List.length_cons, List.length_nil]; omega))).mono ?_; rintro e w1 ⟨rfl, j1, k1⟩; have W1 := hide j1; have K1 := hide ((WK.grown HW.out (by exact gb_alloc (gb_refl w none) _)).trans k1); have kb1 := (WK.grown (HW.out.grown (gb_alloc (gb_refl w none) _)) (gb_refl _ none)).trans k1; have Fb_1 := hide (Fb.out.step kb1); have db_1 := kb1.cell Fb.out db; have lb_1 := Fb_1.out.lt; clear kb1; clear j1 k1; go_wp2_with fail; go_at_call 89; refine (several_any w0 wb _ _ L ts _ [44, 32] 90 #[] #[ptr w.heap.size] T.name (W1.out.grown (gb_refl w1 none)) HA.out (fun t sv x1 S1 _ hat hwr hwk hll => importsC_any w0 wb x1 S1 L t sv w.heap.size hwr hat (hwk.cell (Fb_1.out.step (WK.grown W1.out (gb_refl w1 none))) ((WK.grown W1.out (gb_refl w1 none)).cell Fb_1.out db_1)) hll) en_imports (by first | omega | (simp only [List.length_append, List.length_cons, List.length_nil]; omega))).mono ?_; rintro e w2 ⟨rfl, j2, k2⟩; have W2 := hide j2; have K2 := hide (K1.out.trans ((WK.grown W1.out (gb_refl w1 none)).trans k2)); have kb2 := (WK.grown W1.out (gb_refl w1 none)).trans k2; have db_2 := kb2.cell Fb_1.out db_1; have lb_2 := (Fb_1.out.step kb2).lt; clear kb2; clear j2 k2; go_wp2_with fail; go_at_call 56; refine (write1 w0 wb _ _ L [59, 10] _ _ (by simp) (W2.out.grown (gb_refl w2 none)) (by first | omega | (simp only [List.length_append, List.length_cons, List.length_nil]; omega))).mono ?_; rintro e w3 ⟨rfl, j3, k3⟩; have W3 := hide j3; have K3 := hide (K2.out.trans ((WK.grown W2.out (gb_refl w2 none)).trans k3)); clear j3 k3; go_wp2_with fail
    go_end0
    refine ⟨rfl, ?_, K3.out⟩; have J9 := W3.out
    try simp only [List.append_assoc] at J9 ⊢
    exact J9
end Go.Proofs.YtapfecciakijhaaGreatDoor
