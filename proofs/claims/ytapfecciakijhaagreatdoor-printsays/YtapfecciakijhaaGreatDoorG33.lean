/- The program's writer: what is declared in a module. -/
import Derived.Test.YtapfecciakijhaaGreatDoorG23
namespace Go.Proofs.YtapfecciakijhaaGreatDoor
open Go.RowKit Go.Maps Go.WideMaps Go.WideElems
set_option maxHeartbeats 4000000
set_option maxRecDepth 1000000

theorem const_w (w0 : World) (wb : Nat) (w : World) (S : List UInt8) (L : Nat) (kd : Int) (x : List UInt8) (m p : Int) (u : T) (sv : Value) (b1 : Nat) (h : Wr w0 wb w S L) (ha : AT w0 (T.mk kd x m p [u]).subs sv) (E : List UInt8) (he : EXW w0 wb u E) (dd : w.cell? ⟨b1, 0, none⟩ = some (ptr wb)) (f1 : Fr wb w b1) (hlen : S.length + (starTx (.mk kd x m p [u]) ++ ([32, 61, 32] ++ E)).length ≤ 1000000000) :
    Calls Tryz.prog 54 #[nodeV (.mk kd x m p [u]) sv, ptr b1] w (WP w0 wb w S L (starTx (.mk kd x m p [u]) ++ ([32, 61, 32] ++ E))) := by
  have HW := hide h; have hwl := h.lt; obtain ⟨g, o, c, u', su, rfl, hn, hc, hl, n5, fu, au⟩ := ha.one rfl
  obtain rfl : u = u' := by simpa [T.subs] using hl
  have NU := hide n5; have AU := hide au; have HA := hide ha; obtain ⟨nu0,_,_,_,_⟩ := n5.kept h.gb; have hgl := block_lt nu0; have FD := hide f1; have hl1 := f1.lt; clear h ha hl fu au n5 f1; have HE := hide he; clear he
  change Calls Tryz.prog 54 #[.agg #[.int .i64 kd, .string ⟨List.toArray x⟩, .int .i64 m, .int .i64 p, .slice (some ⟨g, o, none⟩) 1 c], ptr b1] w _
  simp only [List.length_append, List.length_cons, List.length_nil] at hlen; have dD := dd; clear dd
  go_enter Tryz.func54, Tryz.ntmps54
  go_wp2_with fail; go_at_call 55; refine (marked_any w0 wb _ _ L kd x m p [u] _ (HW.out.grown (by exact gb_alloc (gb_refl w none) _)) HA.out (by first | omega | (simp only [List.length_append, List.length_cons, List.length_nil, padTx_len]; omega))).mono ?_; rintro e w1 ⟨rfl, j1, k1⟩; have W1 := hide j1; have K1 := hide ((WK.grown HW.out (by exact gb_alloc (gb_refl w none) _)).trans k1); have B1 := hide ((FB.newX HW.out kd x m p [u] (.slice (some ⟨g, o, none⟩) 1 c) 24 (gb_refl w none)).step ((WK.grown (HW.out.grown (gb_alloc (gb_refl w none) _)) (gb_refl _ none)).trans k1)); obtain ⟨_,_,_,_,_⟩ := B1.out.box.p; have bl_1 := B1.out.fr.lt
  obtain ⟨nu0_1,_,_,_,_⟩ := NU.out.kept W1.out.gb; have nul_1 := block_lt nu0_1; have FD_1 := hide (FD.out.step ((WK.grown HW.out (by exact gb_alloc (gb_refl w none) _)).trans k1)); have dD_1 := WK.cell ((WK.grown HW.out (by exact gb_alloc (gb_refl w none) _)).trans k1) FD.out dD; clear j1 k1; go_wp2_with fail; go_at_call 56; refine (write1 w0 wb _ _ L [32, 61, 32] _ _ (by simp) (W1.out.grown (gb_refl w1 none)) (by first | omega | (simp only [List.length_append, List.length_cons, List.length_nil]; omega))).mono ?_; rintro e w2 ⟨rfl, j2, k2⟩; have W2 := hide j2; have K2 := hide (K1.out.trans ((WK.grown W1.out (gb_refl w1 none)).trans k2)); have B2 := hide (B1.out.step ((WK.grown W1.out (gb_refl w1 none)).trans k2)); obtain ⟨_,_,_,_,_⟩ := B2.out.box.p; have bl_2 := B2.out.fr.lt
  obtain ⟨nu0_2,_,_,_,_⟩ := NU.out.kept W2.out.gb; have nul_2 := block_lt nu0_2; have FD_2 := hide (FD_1.out.step ((WK.grown W1.out (gb_refl w1 none)).trans k2)); have dD_2 := WK.cell ((WK.grown W1.out (gb_refl w1 none)).trans k2) FD_1.out dD_1; clear j2 k2; go_wp2_with fail
  go_region_with
    (go_at_call 57
     refine (HE.out _ _ L _ (W2.out.grown (by exact gb_drew (gb_refl w2 none))) AU.out (by first | omega | (simp only [List.length_append, List.length_cons, List.length_nil]; omega))).mono ?_; rintro e w3 ⟨rfl, j3, k3⟩; have W3 := hide j3; have K3 := hide (K2.out.trans ((WK.grown W2.out (by exact gb_drew (gb_refl w2 none))).trans k3))
     clear j3 k3)
  all_goals
    go_wp2_with fail
    go_end0
    refine ⟨rfl, ?_, K3.out⟩; have J9 := W3.out; simp only [List.append_assoc] at J9 ⊢
    exact J9
theorem named_w (w0 : World) (wb : Nat) (w : World) (S : List UInt8) (L : Nat) (kd : Int) (x : List UInt8) (m p : Int) (u : T) (sv : Value) (b1 : Nat) (h : Wr w0 wb w S L) (ha : AT w0 (T.mk kd x m p [u]).subs sv) (ht : TY u) (hp : PT w0) (dd : w.cell? ⟨b1, 0, none⟩ = some (ptr wb)) (f1 : Fr wb w b1) (hlen : S.length + (starTx (.mk kd x m p [u]) ++ ([32, 61, 32] ++ typeTx u)).length ≤ 1000000000) :
    Calls Tryz.prog 58 #[nodeV (.mk kd x m p [u]) sv, ptr b1] w (WP w0 wb w S L (starTx (.mk kd x m p [u]) ++ ([32, 61, 32] ++ typeTx u))) := by
  have HW := hide h; have hwl := h.lt; obtain ⟨g, o, c, u', su, rfl, hn, hc, hl, n5, fu, au⟩ := ha.one rfl
  obtain rfl : u = u' := by simpa [T.subs] using hl
  have NU := hide n5; have AU := hide au; have HA := hide ha; obtain ⟨nu0,_,_,_,_⟩ := n5.kept h.gb; have hgl := block_lt nu0; have FD := hide f1; have hl1 := f1.lt; clear h ha hl fu au n5 f1; have HT := hide ht; have HP := hide hp; clear ht hp
  change Calls Tryz.prog 58 #[.agg #[.int .i64 kd, .string ⟨List.toArray x⟩, .int .i64 m, .int .i64 p, .slice (some ⟨g, o, none⟩) 1 c], ptr b1] w _
  simp only [List.length_append, List.length_cons, List.length_nil] at hlen; have dD := dd; clear dd
  go_enter Tryz.func58, Tryz.ntmps58
  go_wp2_with fail; go_at_call 55; refine (marked_any w0 wb _ _ L kd x m p [u] _ (HW.out.grown (by exact gb_alloc (gb_refl w none) _)) HA.out (by first | omega | (simp only [List.length_append, List.length_cons, List.length_nil, padTx_len]; omega))).mono ?_; rintro e w1 ⟨rfl, j1, k1⟩; have W1 := hide j1; have K1 := hide ((WK.grown HW.out (by exact gb_alloc (gb_refl w none) _)).trans k1); have B1 := hide ((FB.newX HW.out kd x m p [u] (.slice (some ⟨g, o, none⟩) 1 c) 24 (gb_refl w none)).step ((WK.grown (HW.out.grown (gb_alloc (gb_refl w none) _)) (gb_refl _ none)).trans k1)); obtain ⟨_,_,_,_,_⟩ := B1.out.box.p; have bl_1 := B1.out.fr.lt
  obtain ⟨nu0_1,_,_,_,_⟩ := NU.out.kept W1.out.gb; have nul_1 := block_lt nu0_1; have FD_1 := hide (FD.out.step ((WK.grown HW.out (by exact gb_alloc (gb_refl w none) _)).trans k1)); have dD_1 := WK.cell ((WK.grown HW.out (by exact gb_alloc (gb_refl w none) _)).trans k1) FD.out dD; clear j1 k1; go_wp2_with fail; go_at_call 56; refine (write1 w0 wb _ _ L [32, 61, 32] _ _ (by simp) (W1.out.grown (gb_refl w1 none)) (by first | omega | (simp only [List.length_append, List.length_cons, List.length_nil]; omega))).mono ?_; rintro e w2 ⟨rfl, j2, k2⟩; have W2 := hide j2; have K2 := hide (K1.out.trans ((WK.grown W1.out (gb_refl w1 none)).trans k2)); have B2 := hide (B1.out.step ((WK.grown W1.out (gb_refl w1 none)).trans k2)); obtain ⟨_,_,_,_,_⟩ := B2.out.box.p; have bl_2 := B2.out.fr.lt
  obtain ⟨nu0_2,_,_,_,_⟩ := NU.out.kept W2.out.gb; have nul_2 := block_lt nu0_2; have FD_2 := hide (FD_1.out.step ((WK.grown W1.out (gb_refl w1 none)).trans k2)); have dD_2 := WK.cell ((WK.grown W1.out (gb_refl w1 none)).trans k2) FD_1.out dD_1; clear j2 k2; go_wp2_with fail
  go_region_with
    (go_at_call 59
     refine (typeItself_any w0 wb _ _ L u _ (W2.out.grown (by exact gb_drew (gb_refl w2 none))) AU.out HT.out HP.out (by first | omega | (simp only [List.length_append, List.length_cons, List.length_nil]; omega))).mono ?_; rintro e w3 ⟨rfl, j3, k3⟩; have W3 := hide j3; have K3 := hide (K2.out.trans ((WK.grown W2.out (by exact gb_drew (gb_refl w2 none))).trans k3))
     clear j3 k3)
  all_goals
    go_wp2_with fail
    go_end0
    refine ⟨rfl, ?_, K3.out⟩; have J9 := W3.out; simp only [List.append_assoc] at J9 ⊢
    exact J9
end Go.Proofs.YtapfecciakijhaaGreatDoor
