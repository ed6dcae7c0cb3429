/- The document's texts: lists of arguments, operators, calls. -/
import Derived.Test.YtapfecciakijhaaGreatDoorG06
import Derived.Test.YtapfecciakijhaaGreatDoorG15
namespace Go.Proofs.YtapfecciakijhaaGreatDoor
open Go.RowKit
set_option maxHeartbeats 4000000
set_option maxRecDepth 1000000

theorem str_eq {a b : List UInt8} (h : a = b) : Value.string ⟨a.toArray⟩ = .string ⟨b.toArray⟩ := by rw [h]
theorem strA_eq {A : ByteArray} {b : List UInt8} (h : A = ⟨b.toArray⟩) : Value.string A = .string ⟨b.toArray⟩ := by rw [h]
theorem argsText_of (l : List T) (sl : Value) (tx : T → List UInt8) (w : World) (ha : AT w l sl) (he : ∀ v ∈ l, ETx w v (tx v)) (hlen : (sepTx [44, 32] (l.map tx)).length ≤ 900000) :
    Calls Tryz.prog 74 #[sl] w (Sy w (.string ⟨([40] ++ (sepTx [44, 32] (l.map tx) ++ [41])).toArray⟩)) := by
  have HA := hide ha; have HE := hide he; obtain ⟨_,_,rfl,_,hs2⟩ := ha.form
  unfold maxLen at hs2
  clear ha he
  go_enter Tryz.func74, Tryz.ntmps74
  go_wp2_with fail
  go_loopw [3, 4] (fun sv iv wr => ∃ (i : Nat) (Y : List UInt8), i ≤ l.length ∧ iv = .int .i64 ↑i ∧ sv = .string ⟨Y.toArray⟩ ∧ Hid (Y = [40] ++ sepTx [44, 32] ((l.map tx).take i)) ∧ Hid (w.grownBy wr none)) (fun _ iv _ => l.length - (intOf iv).toNat)
  case atStart => exact ⟨0, [40], Nat.zero_le _, rfl, rfl, by show _ = _; simp [sepTx], gb_refl w none⟩
  case round =>
    obtain ⟨i,Y,_,rfl,rfl,HY,G1⟩ := hrel
    have hY : Y.length ≤ 900001 := by
      rw [HY.out]; have := sepTx_le [44, 32] (l.map tx) i; simp only [List.length_append, List.length_cons, List.length_nil]
      omega
    by_cases hlt : i < l.length
    · obtain ⟨u, hu⟩ : ∃ u, l[i]? = some u := ⟨_, List.getElem?_eq_getElem hlt⟩
      obtain ⟨_,_,_,e1,n5,fu,au⟩ := HA.out.node i u hu; cases e1; obtain ⟨_,_,_,_,_⟩ := n5.kept G1.out; have AU := hide au
      have htx : (l.map tx)[i]? = some (tx u) := by rw [List.getElem?_map, hu]; rfl
      have HT := hide (sepTx_take [44, 32] (l.map tx) i (tx u) htx); obtain ⟨_,huc⟩ := HE.out u (List.mem_of_getElem? hu); have HU := hide huc; have hle := sepTx_le [44, 32] (l.map tx) (i + 1); rw [HT.out] at hle; clear hu htx fu au n5 huc
      have hYu : Y.length + 2 + (tx u).length ≤ 2000000 := by omega
      have qa : ¬ (9223372036854775807 < Y.length + 2) := by omega
      have qb : ¬ (9223372036854775807 < Y.length + 2 + (tx u).length) := by omega
      have qc : ¬ (9223372036854775807 < Y.length + (tx u).length) := by omega
      by_cases h0 : 0 < i
      · have h0' : (0 : Int) < (i : Int) := by omega
        go_wp2_with fail; go_at_call 42; refine (HU.out _ _ G1.out (AU.out.kept G1.out)).mono ?_; rintro e w2 ⟨rfl, g2⟩; have G2 := hide (gb_trans G1.out g2); clear g2; go_wp2_with fail; refine ⟨⟨i + 1, Y ++ [44, 32] ++ tx u, by omega, by go_num, strA_eq (by repeat rw [ba_app]), ?_, G2⟩, by simp [intOf]; omega⟩
        show _ = _
        rw [HT.out, HY.out, if_neg (show ¬ i = 0 by omega)]; simp only [List.append_assoc]
      · have h0' : ¬ (0 : Int) < (i : Int) := by omega
        go_wp2_with fail; go_at_call 42; refine (HU.out _ _ G1.out (AU.out.kept G1.out)).mono ?_; rintro e w2 ⟨rfl, g2⟩; have G2 := hide (gb_trans G1.out g2); clear g2; go_wp2_with fail; refine ⟨⟨i + 1, Y ++ tx u, by omega, by go_num, strA_eq (by repeat rw [ba_app]), ?_, G2⟩, by simp [intOf]; omega⟩
        show _ = _
        rw [HT.out, HY.out, if_pos (show i = 0 by omega)]; simp only [List.append_assoc, List.nil_append]
    · have HX : Hid (Y = [40] ++ sepTx [44, 32] (l.map tx)) := by
        have := HY.out; rw [List.take_of_length_le (by simp; omega)] at this
        exact this
      have qa : ¬ (9223372036854775807 < Y.length + 1) := by omega
      go_wp2_with fail
      go_ret
      refine ⟨ret_str ?_, G1.out⟩; rw [show (⟨#[41]⟩ : ByteArray) = ⟨List.toArray [41]⟩ from rfl, ba_app, HX.out]; simp only [List.append_assoc]
      rfl
theorem ex36 (x : List UInt8) (m p : Int) (u : T) (v : T) (sv : Value) (w : World) (ha : AT w (T.mk 36 x m p [u, v]).subs sv) (U V : List UInt8) (r1 r2 : Int) (hx : 0 ≤ levelOf x) (hr1 : r1 = max (levelOf x) 1) (hr2 : r2 = levelOf x + 1) (hu : LTx w u r1 U) (hv : LTx w v r2 V) :
    Calls Tryz.prog 42 #[.agg #[.int .i64 36, .string ⟨x.toArray⟩, .int .i64 m, .int .i64 p, sv]] w (Sy w (.string ⟨(U ++ ([32] ++ (x ++ ([32] ++ V)))).toArray⟩)) := by
  obtain ⟨g, o, c, u', su, v', sw, rfl, hn, hc, hl, n5, fu, au, n6, fv, av⟩ := ha.two rfl
  have hl2 : u = u' ∧ v = v' := by simpa [T.subs] using hl
  obtain ⟨rfl,rfl⟩ := hl2; have NU := hide n5; have NV := hide n6; have AU := hide au; have AV := hide av; have hgl := block_lt n5.c0; obtain ⟨_,_,_,_,_⟩ := n5; obtain ⟨_,_,_,_,_⟩ := n6; clear ha hl fu au fv av; have B0 : Hid (Box (w.alloc (.cells #[.int .i64 36, .string ⟨x.toArray⟩, .int .i64 m, .int .i64 p, .slice (some ⟨g, o, none⟩) 2 c] 24)) w.heap.size (.mk 36 x m p [u, v]) (.slice (some ⟨g, o, none⟩) 2 c)) := Box.new w (.mk 36 x m p [u, v]) (.slice (some ⟨g, o, none⟩) 2 c) 24; obtain ⟨_,hu9⟩ := hu; have HU := hide hu9; clear hu9; obtain ⟨_,hv9⟩ := hv; have HV := hide hv9; clear hv9; have lX := lv_len hx
  have HLV := fun w => hide (rlevel_any ⟨x.toArray⟩ w)
  have hlv := lv_three hx
  change ∀ w, Hid (Calls _ _ _ w (Sy w (.int .i64 (levelOf x)))) at HLV
  generalize levelOf x = lv at *
  rcases hlv with rfl | rfl | rfl
  · obtain rfl : r1 = 1 := by rw [hr1]; decide
    obtain rfl : r2 = 1 := by rw [hr2]; decide
    clear hr1 hr2
    go_enter Tryz.func42, Tryz.ntmps42
    go_wp2_with fail; go_at_call 33; refine ((HLV _).out).mono ?_; rintro e w1 ⟨rfl, hg1⟩; have G1 := hide (gb_trans (by exact gb_alloc ((gb_refl w none)) _) hg1); have B1 := hide (B0.out.kept (gb_trans (gb_refl _ none) hg1)); obtain ⟨b0_1,b1_1,b2_1,b3_1,b4_1⟩ := B1.out.p
    clear hg1
    have qq1 : ¬ (9223372036854775807 < U.length + 1) := by omega
    have qq2 : ¬ (9223372036854775807 < U.length + 1 + x.length) := by omega
    have qq3 : ¬ (9223372036854775807 < U.length + 1 + x.length + 1) := by omega
    have qq4 : ¬ (9223372036854775807 < U.length + 1 + x.length + 1 + V.length) := by omega
    go_wp2_with fail; refine wp_region_held_drew (S := (fun w' => w'.cell? ⟨w.heap.size, 4, none⟩ = some (.slice (some ⟨g, o, none⟩) 2 c) ∧ w'.cell? ⟨w.heap.size, 1, none⟩ = some (.string ⟨x.toArray⟩) ∧ Node5 w' g o u su ∧ Node5 w' g (o + 5) v sw)) (by kernel_rfl) ?_ (fun hHeld => ?_)
    · exact ⟨gb_cell (gb_drew (gb_refl w1 none)) B1.out.c4, gb_cell (gb_drew (gb_refl w1 none)) B1.out.c1, NU.out.kept (gb_drew G1.out), NV.out.kept (gb_drew G1.out)⟩
    refine tk 0 (.pointer (some ⟨w.heap.size, 4, none⟩)) rfl (fun _ _ => by go_simp) hHeld ?_; simp only [Act.put, List.setIfInBounds_toArray]; refine tk 1 (.slice (some ⟨g, o, none⟩) 2 c) rfl (fun _ ⟨_,_,⟨_,_,_,_,_⟩,⟨_,_,_,_,_⟩⟩ => by go_simp) hHeld ?_; simp only [Act.put]; refine tk 2 (.pointer (some ⟨g, o, none⟩)) rfl (fun _ _ => by go_simp) hHeld ?_; simp only [Act.put]; refine tk 3 (nodeV u su) rfl (fun _ ⟨_,_,⟨_,_,_,_,_⟩,⟨_,_,_,_,_⟩⟩ => by go_simp) hHeld ?_; simp only [Act.put]; refine tk 4 (.int .i64 1) rfl (fun _ _ => by go_simp) hHeld ?_; simp only [Act.put]; refine tk 7 (.pointer (some ⟨w.heap.size, 1, none⟩)) rfl (fun _ _ => by go_simp) hHeld ?_; simp only [Act.put]; refine tk 8 (.string (⟨List.toArray x⟩ : ByteArray)) rfl (fun _ ⟨_,_,⟨_,_,_,_,_⟩,⟨_,_,_,_,_⟩⟩ => by go_simp) hHeld ?_; simp only [Act.put]; refine tk 11 (.pointer (some ⟨w.heap.size, 4, none⟩)) rfl (fun _ _ => by go_simp) hHeld ?_; simp only [Act.put]; refine tk 12 (.slice (some ⟨g, o, none⟩) 2 c) rfl (fun _ ⟨_,_,⟨_,_,_,_,_⟩,⟨_,_,_,_,_⟩⟩ => by go_simp) hHeld ?_; simp only [Act.put]; refine tk 13 (.pointer (some ⟨g, o + 5, none⟩)) rfl (fun _ _ => by go_simp) hHeld ?_; simp only [Act.put]; refine tk 14 (nodeV v sw) rfl (fun _ ⟨_,_,⟨_,_,_,_,_⟩,⟨_,_,_,_,_⟩⟩ => by go_simp) hHeld ?_; simp only [Act.put]; refine tk 15 (.int .i64 1) rfl (fun _ _ => by go_simp) hHeld ?_; simp only [Act.put]; refine rd 5 rfl fun KK hKK => ?_
    go_simp
    go_at_call 75; refine (HU.out _ _ (by exact gb_drew G1.out) (AU.out.kept (by exact gb_drew G1.out))).mono ?_; rintro e w2 ⟨rfl, hg2⟩; have G2 := hide (gb_trans (by exact gb_drew G1.out) hg2); have B2 := hide (B1.out.kept (gb_trans (by exact gb_drew (gb_refl w1 none)) hg2)); clear hg2
    go_simp
    refine hKK.out _ _ ⟨B2.out.c4, B2.out.c1, NU.out.kept G2.out, NV.out.kept G2.out⟩ fun hHeld => ?_
    clear hKK KK; refine tk 6 (.string ((⟨List.toArray U⟩ : ByteArray) ++ (⟨List.toArray [32]⟩ : ByteArray))) rfl (fun _ _ => by go_simp) hHeld ?_; simp only [Act.put, List.setIfInBounds_toArray]; refine tk 9 (.string (((⟨List.toArray U⟩ : ByteArray) ++ (⟨List.toArray [32]⟩ : ByteArray)) ++ (⟨List.toArray x⟩ : ByteArray))) rfl (fun _ _ => by go_simp) hHeld ?_; simp only [Act.put]; refine tk 10 (.string ((((⟨List.toArray U⟩ : ByteArray) ++ (⟨List.toArray [32]⟩ : ByteArray)) ++ (⟨List.toArray x⟩ : ByteArray)) ++ (⟨List.toArray [32]⟩ : ByteArray))) rfl (fun _ _ => by go_simp) hHeld ?_; simp only [Act.put]; refine rd 16 rfl fun KK hKK => ?_
    go_simp
    go_at_call 75; refine (HV.out _ _ G2.out (AV.out.kept G2.out)).mono ?_; rintro e w3 ⟨rfl, hg3⟩; have G3 := hide (gb_trans G2.out hg3); have B3 := hide (B2.out.kept (gb_trans (gb_refl w2 none) hg3)); clear hg3
    go_simp
    refine hKK.out _ _ ⟨B3.out.c4, B3.out.c1, NU.out.kept G3.out, NV.out.kept G3.out⟩ fun hHeld => ?_
    clear hKK KK; refine rd 17 rfl fun KK hKK => ?_
    go_simp
    refine hKK.out _ _ hHeld fun hHeld => ?_
    clear hKK KK; refine rd 18 rfl fun KK hKK => ?_
    go_simp
    refine hKK.out _ _ hHeld fun hHeld => ?_
    clear hKK KK; refine wpAnyH_done (by kernel_rfl) ?_ _; clear hHeld; go_wp2_with fail
    go_ret
    refine ⟨(show Ending.returned (.string (((((⟨List.toArray U⟩ : ByteArray) ++ (⟨List.toArray [32]⟩ : ByteArray)) ++ (⟨List.toArray x⟩ : ByteArray)) ++ (⟨List.toArray [32]⟩ : ByteArray)) ++ (⟨List.toArray V⟩ : ByteArray))) = _ from ret_str ?_), G3.out⟩
    repeat rw [ba_app]
    try simp only [List.append_assoc]
    try rfl
  · obtain rfl : r1 = 1 := by rw [hr1]; decide
    obtain rfl : r2 = 2 := by rw [hr2]; decide
    clear hr1 hr2
    go_enter Tryz.func42, Tryz.ntmps42
    go_wp2_with fail; go_at_call 33; refine ((HLV _).out).mono ?_; rintro e w1 ⟨rfl, hg1⟩; have G1 := hide (gb_trans (by exact gb_alloc ((gb_refl w none)) _) hg1); have B1 := hide (B0.out.kept (gb_trans (gb_refl _ none) hg1)); obtain ⟨b0_1,b1_1,b2_1,b3_1,b4_1⟩ := B1.out.p
    clear hg1
    have qq1 : ¬ (9223372036854775807 < U.length + 1) := by omega
    have qq2 : ¬ (9223372036854775807 < U.length + 1 + x.length) := by omega
    have qq3 : ¬ (9223372036854775807 < U.length + 1 + x.length + 1) := by omega
    have qq4 : ¬ (9223372036854775807 < U.length + 1 + x.length + 1 + V.length) := by omega
    go_wp2_with fail; refine wp_region_held_drew (S := (fun w' => w'.cell? ⟨w.heap.size, 4, none⟩ = some (.slice (some ⟨g, o, none⟩) 2 c) ∧ w'.cell? ⟨w.heap.size, 1, none⟩ = some (.string ⟨x.toArray⟩) ∧ Node5 w' g o u su ∧ Node5 w' g (o + 5) v sw)) (by kernel_rfl) ?_ (fun hHeld => ?_)
    · exact ⟨gb_cell (gb_drew (gb_refl w1 none)) B1.out.c4, gb_cell (gb_drew (gb_refl w1 none)) B1.out.c1, NU.out.kept (gb_drew G1.out), NV.out.kept (gb_drew G1.out)⟩
    refine tk 0 (.pointer (some ⟨w.heap.size, 4, none⟩)) rfl (fun _ _ => by go_simp) hHeld ?_; simp only [Act.put, List.setIfInBounds_toArray]; refine tk 1 (.slice (some ⟨g, o, none⟩) 2 c) rfl (fun _ ⟨_,_,⟨_,_,_,_,_⟩,⟨_,_,_,_,_⟩⟩ => by go_simp) hHeld ?_; simp only [Act.put]; refine tk 2 (.pointer (some ⟨g, o, none⟩)) rfl (fun _ _ => by go_simp) hHeld ?_; simp only [Act.put]; refine tk 3 (nodeV u su) rfl (fun _ ⟨_,_,⟨_,_,_,_,_⟩,⟨_,_,_,_,_⟩⟩ => by go_simp) hHeld ?_; simp only [Act.put]; refine tk 4 (.int .i64 1) rfl (fun _ _ => by go_simp) hHeld ?_; simp only [Act.put]; refine tk 7 (.pointer (some ⟨w.heap.size, 1, none⟩)) rfl (fun _ _ => by go_simp) hHeld ?_; simp only [Act.put]; refine tk 8 (.string (⟨List.toArray x⟩ : ByteArray)) rfl (fun _ ⟨_,_,⟨_,_,_,_,_⟩,⟨_,_,_,_,_⟩⟩ => by go_simp) hHeld ?_; simp only [Act.put]; refine tk 11 (.pointer (some ⟨w.heap.size, 4, none⟩)) rfl (fun _ _ => by go_simp) hHeld ?_; simp only [Act.put]; refine tk 12 (.slice (some ⟨g, o, none⟩) 2 c) rfl (fun _ ⟨_,_,⟨_,_,_,_,_⟩,⟨_,_,_,_,_⟩⟩ => by go_simp) hHeld ?_; simp only [Act.put]; refine tk 13 (.pointer (some ⟨g, o + 5, none⟩)) rfl (fun _ _ => by go_simp) hHeld ?_; simp only [Act.put]; refine tk 14 (nodeV v sw) rfl (fun _ ⟨_,_,⟨_,_,_,_,_⟩,⟨_,_,_,_,_⟩⟩ => by go_simp) hHeld ?_; simp only [Act.put]; refine tk 15 (.int .i64 2) rfl (fun _ _ => by go_simp) hHeld ?_; simp only [Act.put]; refine rd 5 rfl fun KK hKK => ?_
    go_simp
    go_at_call 75; refine (HU.out _ _ (by exact gb_drew G1.out) (AU.out.kept (by exact gb_drew G1.out))).mono ?_; rintro e w2 ⟨rfl, hg2⟩; have G2 := hide (gb_trans (by exact gb_drew G1.out) hg2); have B2 := hide (B1.out.kept (gb_trans (by exact gb_drew (gb_refl w1 none)) hg2)); clear hg2
    go_simp
    refine hKK.out _ _ ⟨B2.out.c4, B2.out.c1, NU.out.kept G2.out, NV.out.kept G2.out⟩ fun hHeld => ?_
    clear hKK KK; refine tk 6 (.string ((⟨List.toArray U⟩ : ByteArray) ++ (⟨List.toArray [32]⟩ : ByteArray))) rfl (fun _ _ => by go_simp) hHeld ?_; simp only [Act.put, List.setIfInBounds_toArray]; refine tk 9 (.string (((⟨List.toArray U⟩ : ByteArray) ++ (⟨List.toArray [32]⟩ : ByteArray)) ++ (⟨List.toArray x⟩ : ByteArray))) rfl (fun _ _ => by go_simp) hHeld ?_; simp only [Act.put]; refine tk 10 (.string ((((⟨List.toArray U⟩ : ByteArray) ++ (⟨List.toArray [32]⟩ : ByteArray)) ++ (⟨List.toArray x⟩ : ByteArray)) ++ (⟨List.toArray [32]⟩ : ByteArray))) rfl (fun _ _ => by go_simp) hHeld ?_; simp only [Act.put]; refine rd 16 rfl fun KK hKK => ?_
    go_simp
    go_at_call 75; refine (HV.out _ _ G2.out (AV.out.kept G2.out)).mono ?_; rintro e w3 ⟨rfl, hg3⟩; have G3 := hide (gb_trans G2.out hg3); have B3 := hide (B2.out.kept (gb_trans (gb_refl w2 none) hg3)); clear hg3
    go_simp
    refine hKK.out _ _ ⟨B3.out.c4, B3.out.c1, NU.out.kept G3.out, NV.out.kept G3.out⟩ fun hHeld => ?_
    clear hKK KK; refine rd 17 rfl fun KK hKK => ?_
    go_simp
    refine hKK.out _ _ hHeld fun hHeld => ?_
    clear hKK KK; refine rd 18 rfl fun KK hKK => ?_
    go_simp
    refine hKK.out _ _ hHeld fun hHeld => ?_
    clear hKK KK; refine wpAnyH_done (by kernel_rfl) ?_ _; clear hHeld; go_wp2_with fail
    go_ret
    refine ⟨(show Ending.returned (.string (((((⟨List.toArray U⟩ : ByteArray) ++ (⟨List.toArray [32]⟩ : ByteArray)) ++ (⟨List.toArray x⟩ : ByteArray)) ++ (⟨List.toArray [32]⟩ : ByteArray)) ++ (⟨List.toArray V⟩ : ByteArray))) = _ from ret_str ?_), G3.out⟩
    repeat rw [ba_app]
    try simp only [List.append_assoc]
    try rfl
  · obtain rfl : r1 = 2 := by rw [hr1]; decide
    obtain rfl : r2 = 3 := by rw [hr2]; decide
    clear hr1 hr2
    go_enter Tryz.func42, Tryz.ntmps42
    go_wp2_with fail; go_at_call 33; refine ((HLV _).out).mono ?_; rintro e w1 ⟨rfl, hg1⟩; have G1 := hide (gb_trans (by exact gb_alloc ((gb_refl w none)) _) hg1); have B1 := hide (B0.out.kept (gb_trans (gb_refl _ none) hg1)); obtain ⟨b0_1,b1_1,b2_1,b3_1,b4_1⟩ := B1.out.p
    clear hg1
    have qq1 : ¬ (9223372036854775807 < U.length + 1) := by omega
    have qq2 : ¬ (9223372036854775807 < U.length + 1 + x.length) := by omega
    have qq3 : ¬ (9223372036854775807 < U.length + 1 + x.length + 1) := by omega
    have qq4 : ¬ (9223372036854775807 < U.length + 1 + x.length + 1 + V.length) := by omega
    go_wp2_with fail; refine wp_region_held_drew (S := (fun w' => w'.cell? ⟨w.heap.size, 4, none⟩ = some (.slice (some ⟨g, o, none⟩) 2 c) ∧ w'.cell? ⟨w.heap.size, 1, none⟩ = some (.string ⟨x.toArray⟩) ∧ Node5 w' g o u su ∧ Node5 w' g (o + 5) v sw)) (by kernel_rfl) ?_ (fun hHeld => ?_)
    · exact ⟨gb_cell (gb_drew (gb_refl w1 none)) B1.out.c4, gb_cell (gb_drew (gb_refl w1 none)) B1.out.c1, NU.out.kept (gb_drew G1.out), NV.out.kept (gb_drew G1.out)⟩
    refine tk 0 (.pointer (some ⟨w.heap.size, 4, none⟩)) rfl (fun _ _ => by go_simp) hHeld ?_; simp only [Act.put, List.setIfInBounds_toArray]; refine tk 1 (.slice (some ⟨g, o, none⟩) 2 c) rfl (fun _ ⟨_,_,⟨_,_,_,_,_⟩,⟨_,_,_,_,_⟩⟩ => by go_simp) hHeld ?_; simp only [Act.put]; refine tk 2 (.pointer (some ⟨g, o, none⟩)) rfl (fun _ _ => by go_simp) hHeld ?_; simp only [Act.put]; refine tk 3 (nodeV u su) rfl (fun _ ⟨_,_,⟨_,_,_,_,_⟩,⟨_,_,_,_,_⟩⟩ => by go_simp) hHeld ?_; simp only [Act.put]; refine tk 4 (.int .i64 2) rfl (fun _ _ => by go_simp) hHeld ?_; simp only [Act.put]; refine tk 7 (.pointer (some ⟨w.heap.size, 1, none⟩)) rfl (fun _ _ => by go_simp) hHeld ?_; simp only [Act.put]; refine tk 8 (.string (⟨List.toArray x⟩ : ByteArray)) rfl (fun _ ⟨_,_,⟨_,_,_,_,_⟩,⟨_,_,_,_,_⟩⟩ => by go_simp) hHeld ?_; simp only [Act.put]; refine tk 11 (.pointer (some ⟨w.heap.size, 4, none⟩)) rfl (fun _ _ => by go_simp) hHeld ?_; simp only [Act.put]; refine tk 12 (.slice (some ⟨g, o, none⟩) 2 c) rfl (fun _ ⟨_,_,⟨_,_,_,_,_⟩,⟨_,_,_,_,_⟩⟩ => by go_simp) hHeld ?_; simp only [Act.put]; refine tk 13 (.pointer (some ⟨g, o + 5, none⟩)) rfl (fun _ _ => by go_simp) hHeld ?_; simp only [Act.put]; refine tk 14 (nodeV v sw) rfl (fun _ ⟨_,_,⟨_,_,_,_,_⟩,⟨_,_,_,_,_⟩⟩ => by go_simp) hHeld ?_; simp only [Act.put]; refine tk 15 (.int .i64 3) rfl (fun _ _ => by go_simp) hHeld ?_; simp only [Act.put]; refine rd 5 rfl fun KK hKK => ?_
    go_simp
    go_at_call 75; refine (HU.out _ _ (by exact gb_drew G1.out) (AU.out.kept (by exact gb_drew G1.out))).mono ?_; rintro e w2 ⟨rfl, hg2⟩; have G2 := hide (gb_trans (by exact gb_drew G1.out) hg2); have B2 := hide (B1.out.kept (gb_trans (by exact gb_drew (gb_refl w1 none)) hg2)); clear hg2
    go_simp
    refine hKK.out _ _ ⟨B2.out.c4, B2.out.c1, NU.out.kept G2.out, NV.out.kept G2.out⟩ fun hHeld => ?_
    clear hKK KK; refine tk 6 (.string ((⟨List.toArray U⟩ : ByteArray) ++ (⟨List.toArray [32]⟩ : ByteArray))) rfl (fun _ _ => by go_simp) hHeld ?_; simp only [Act.put, List.setIfInBounds_toArray]; refine tk 9 (.string (((⟨List.toArray U⟩ : ByteArray) ++ (⟨List.toArray [32]⟩ : ByteArray)) ++ (⟨List.toArray x⟩ : ByteArray))) rfl (fun _ _ => by go_simp) hHeld ?_; simp only [Act.put]; refine tk 10 (.string ((((⟨List.toArray U⟩ : ByteArray) ++ (⟨List.toArray [32]⟩ : ByteArray)) ++ (⟨List.toArray x⟩ : ByteArray)) ++ (⟨List.toArray [32]⟩ : ByteArray))) rfl (fun _ _ => by go_simp) hHeld ?_; simp only [Act.put]; refine rd 16 rfl fun KK hKK => ?_
    go_simp
    go_at_call 75; refine (HV.out _ _ G2.out (AV.out.kept G2.out)).mono ?_; rintro e w3 ⟨rfl, hg3⟩; have G3 := hide (gb_trans G2.out hg3); have B3 := hide (B2.out.kept (gb_trans (gb_refl w2 none) hg3)); clear hg3
    go_simp
    refine hKK.out _ _ ⟨B3.out.c4, B3.out.c1, NU.out.kept G3.out, NV.out.kept G3.out⟩ fun hHeld => ?_
    clear hKK KK; refine rd 17 rfl fun KK hKK => ?_
    go_simp
    refine hKK.out _ _ hHeld fun hHeld => ?_
    clear hKK KK; refine rd 18 rfl fun KK hKK => ?_
    go_simp
    refine hKK.out _ _ hHeld fun hHeld => ?_
    clear hKK KK; refine wpAnyH_done (by kernel_rfl) ?_ _; clear hHeld; go_wp2_with fail
    go_ret
    refine ⟨(show Ending.returned (.string (((((⟨List.toArray U⟩ : ByteArray) ++ (⟨List.toArray [32]⟩ : ByteArray)) ++ (⟨List.toArray x⟩ : ByteArray)) ++ (⟨List.toArray [32]⟩ : ByteArray)) ++ (⟨List.toArray V⟩ : ByteArray))) = _ from ret_str ?_), G3.out⟩
    repeat rw [ba_app]
    try simp only [List.append_assoc]
    try rfl
theorem ex33 (x : List UInt8) (m p : Int) (u : T) (us : List T) (sv : Value) (w : World) (ha : AT w (T.mk 33 x m p (u :: us)).subs sv) (U : List UInt8) (tx : T → List UInt8) (hu : ETx w u U) (he : ∀ v ∈ us, ETx w v (tx v)) (hlen : (sepTx [44, 32] (us.map tx)).length ≤ 900000) :
    Calls Tryz.prog 42 #[.agg #[.int .i64 33, .string ⟨x.toArray⟩, .int .i64 m, .int .i64 p, sv]] w (Sy w (.string ⟨(U ++ ([40] ++ (sepTx [44, 32] (us.map tx) ++ [41]))).toArray⟩)) := by
  obtain ⟨g,o,c,su,rfl,_,_,n5,fu,au,ar⟩ := AT.cons ha; have NU := hide n5; have AU := hide au; have AR := hide ar; have hgl := block_lt n5.c0
  have HAS : Hid (∀ w' sl, w.grownBy w' none → AT w' us sl → Calls Tryz.prog 74 #[sl] w' (Sy w' (.string ⟨([40] ++ (sepTx [44, 32] (us.map tx) ++ [41])).toArray⟩))) := fun w' sl hg hal => argsText_of us sl tx w' hal (fun v hv => ⟨(he v hv).1, fun w'' s2 hg2 ha2 => (he v hv).2 w'' s2 (gb_trans hg hg2) ha2⟩) hlen
  have lA : ([40] ++ (sepTx [44, 32] (us.map tx) ++ [41])).length ≤ 900002 := by simp only [List.length_append, List.length_cons, List.length_nil]; omega
  generalize [40] ++ (sepTx [44, 32] (us.map tx) ++ [41]) = Z at *
  obtain ⟨_,_,_,_,_⟩ := n5; obtain ⟨_,hu9⟩ := hu; have HU := hide hu9; clear ha fu au ar he hu9 hlen
  rcases Nat.lt_or_ge 1 c with hc1 | hc1
  · have AR2 := hide AR.out
    have hs1 : (1 : Int) ≤ (us.length : Int) + 1 := by omega
    have hs2 : ¬ c = 1 := by omega
    have B0 : Hid (Box (w.alloc (.cells #[.int .i64 33, .string ⟨x.toArray⟩, .int .i64 m, .int .i64 p, .slice (some ⟨g, o, none⟩) (us.length + 1) c] 24)) w.heap.size (.mk 33 x m p (u :: us)) (.slice (some ⟨g, o, none⟩) (us.length + 1) c)) := Box.new w (.mk 33 x m p (u :: us)) (.slice (some ⟨g, o, none⟩) (us.length + 1) c) 24
    go_enter Tryz.func42, Tryz.ntmps42
    have qq1 : ¬ (9223372036854775807 < U.length + Z.length) := by omega
    go_wp2_with fail; refine wp_region_held_drew (S := (fun w' => w'.cell? ⟨w.heap.size, 4, none⟩ = some (.slice (some ⟨g, o, none⟩) (us.length + 1) c) ∧ w'.cell? ⟨w.heap.size, 1, none⟩ = some (.string ⟨x.toArray⟩) ∧ Node5 w' g o u su)) (by kernel_rfl) ?_ (fun hHeld => ?_)
    · exact ⟨gb_cell (gb_drew (gb_refl _ none)) B0.out.c4, gb_cell (gb_drew (gb_refl _ none)) B0.out.c1, NU.out.kept (gb_drew (gb_alloc (gb_refl w none) _))⟩
    refine tk 0 (.pointer (some ⟨w.heap.size, 4, none⟩)) rfl (fun _ _ => by go_simp) hHeld ?_; simp only [Act.put, List.setIfInBounds_toArray]; refine tk 1 (.slice (some ⟨g, o, none⟩) (us.length + 1) c) rfl (fun _ ⟨_,_,⟨_,_,_,_,_⟩⟩ => by go_simp) hHeld ?_; simp only [Act.put]; refine tk 2 (.pointer (some ⟨g, o, none⟩)) rfl (fun _ _ => by go_simp) hHeld ?_; simp only [Act.put]; refine tk 3 (nodeV u su) rfl (fun _ ⟨_,_,⟨_,_,_,_,_⟩⟩ => by go_simp) hHeld ?_; simp only [Act.put]; refine tk 5 (.pointer (some ⟨w.heap.size, 4, none⟩)) rfl (fun _ _ => by go_simp) hHeld ?_; simp only [Act.put]; refine tk 6 (.slice (some ⟨g, o, none⟩) (us.length + 1) c) rfl (fun _ ⟨_,_,⟨_,_,_,_,_⟩⟩ => by go_simp) hHeld ?_; simp only [Act.put]; refine tk 7 (.slice (some ⟨g, o + 5, none⟩) us.length (c - 1)) rfl (fun _ _ => by go_simp) hHeld ?_; simp only [Act.put]; refine rd 4 rfl fun KK hKK => ?_
    go_simp
    go_at_call 42; refine (HU.out _ _ (by exact gb_drew (gb_alloc ((gb_refl w none)) _)) (AU.out.kept (by exact gb_drew (gb_alloc ((gb_refl w none)) _)))).mono ?_; rintro e w1 ⟨rfl, hg1⟩; have G1 := hide (gb_trans (by exact gb_drew (gb_alloc ((gb_refl w none)) _)) hg1); have B1 := hide (B0.out.kept (gb_trans (by exact gb_drew (gb_refl _ none)) hg1)); clear hg1
    go_simp
    refine hKK.out _ _ ⟨B1.out.c4, B1.out.c1, NU.out.kept G1.out⟩ fun hHeld => ?_
    clear hKK KK; refine rd 8 rfl fun KK hKK => ?_
    go_simp
    go_at_call 74; refine (HAS.out _ _ G1.out (AR2.out.kept G1.out)).mono ?_; rintro e w2 ⟨rfl, hg2⟩; have G2 := hide (gb_trans G1.out hg2); have B2 := hide (B1.out.kept (gb_trans (gb_refl w1 none) hg2)); clear hg2
    go_simp
    refine hKK.out _ _ ⟨B2.out.c4, B2.out.c1, NU.out.kept G2.out⟩ fun hHeld => ?_
    clear hKK KK; refine rd 9 rfl fun KK hKK => ?_
    go_simp
    refine hKK.out _ _ hHeld fun hHeld => ?_
    clear hKK KK; refine rd 10 rfl fun KK hKK => ?_
    go_simp
    refine hKK.out _ _ hHeld fun hHeld => ?_
    clear hKK KK; refine wpAnyH_done (by kernel_rfl) ?_ _; clear hHeld; go_wp2_with fail
    go_ret
    refine ⟨(show Ending.returned (.string ((⟨List.toArray U⟩ : ByteArray) ++ (⟨List.toArray Z⟩ : ByteArray))) = _ from ret_str ?_), G2.out⟩
    repeat rw [ba_app]
    try simp only [List.append_assoc]
    try rfl
  · obtain rfl : c = 1 := by omega
    obtain rfl : us = [] := List.eq_nil_of_length_eq_zero (by omega); have AR2 : Hid (AT w [] (.slice (some ⟨g, o, none⟩) 0 0)) := AT.nil _ _ (Nat.zero_le _); have B0 : Hid (Box (w.alloc (.cells #[.int .i64 33, .string ⟨x.toArray⟩, .int .i64 m, .int .i64 p, .slice (some ⟨g, o, none⟩) 1 1] 24)) w.heap.size (.mk 33 x m p [u]) (.slice (some ⟨g, o, none⟩) 1 1)) := Box.new w (.mk 33 x m p [u]) (.slice (some ⟨g, o, none⟩) 1 1) 24
    go_enter Tryz.func42, Tryz.ntmps42
    have qq1 : ¬ (9223372036854775807 < U.length + Z.length) := by omega
    go_wp2_with fail; refine wp_region_held_drew (S := (fun w' => w'.cell? ⟨w.heap.size, 4, none⟩ = some (.slice (some ⟨g, o, none⟩) 1 1) ∧ w'.cell? ⟨w.heap.size, 1, none⟩ = some (.string ⟨x.toArray⟩) ∧ Node5 w' g o u su)) (by kernel_rfl) ?_ (fun hHeld => ?_)
    · exact ⟨gb_cell (gb_drew (gb_refl _ none)) B0.out.c4, gb_cell (gb_drew (gb_refl _ none)) B0.out.c1, NU.out.kept (gb_drew (gb_alloc (gb_refl w none) _))⟩
    refine tk 0 (.pointer (some ⟨w.heap.size, 4, none⟩)) rfl (fun _ _ => by go_simp) hHeld ?_; simp only [Act.put, List.setIfInBounds_toArray]; refine tk 1 (.slice (some ⟨g, o, none⟩) 1 1) rfl (fun _ ⟨_,_,⟨_,_,_,_,_⟩⟩ => by go_simp) hHeld ?_; simp only [Act.put]; refine tk 2 (.pointer (some ⟨g, o, none⟩)) rfl (fun _ _ => by go_simp) hHeld ?_; simp only [Act.put]; refine tk 3 (nodeV u su) rfl (fun _ ⟨_,_,⟨_,_,_,_,_⟩⟩ => by go_simp) hHeld ?_; simp only [Act.put]; refine tk 5 (.pointer (some ⟨w.heap.size, 4, none⟩)) rfl (fun _ _ => by go_simp) hHeld ?_; simp only [Act.put]; refine tk 6 (.slice (some ⟨g, o, none⟩) 1 1) rfl (fun _ ⟨_,_,⟨_,_,_,_,_⟩⟩ => by go_simp) hHeld ?_; simp only [Act.put]; refine tk 7 (.slice (some ⟨g, o, none⟩) 0 0) rfl (fun _ _ => by go_simp) hHeld ?_; simp only [Act.put]; refine rd 4 rfl fun KK hKK => ?_
    go_simp
    go_at_call 42; refine (HU.out _ _ (by exact gb_drew (gb_alloc ((gb_refl w none)) _)) (AU.out.kept (by exact gb_drew (gb_alloc ((gb_refl w none)) _)))).mono ?_; rintro e w1 ⟨rfl, hg1⟩; have G1 := hide (gb_trans (by exact gb_drew (gb_alloc ((gb_refl w none)) _)) hg1); have B1 := hide (B0.out.kept (gb_trans (by exact gb_drew (gb_refl _ none)) hg1)); clear hg1
    go_simp
    refine hKK.out _ _ ⟨B1.out.c4, B1.out.c1, NU.out.kept G1.out⟩ fun hHeld => ?_
    clear hKK KK; refine rd 8 rfl fun KK hKK => ?_
    go_simp
    go_at_call 74; refine (HAS.out _ _ G1.out (AR2.out.kept G1.out)).mono ?_; rintro e w2 ⟨rfl, hg2⟩; have G2 := hide (gb_trans G1.out hg2); have B2 := hide (B1.out.kept (gb_trans (gb_refl w1 none) hg2)); clear hg2
    go_simp
    refine hKK.out _ _ ⟨B2.out.c4, B2.out.c1, NU.out.kept G2.out⟩ fun hHeld => ?_
    clear hKK KK; refine rd 9 rfl fun KK hKK => ?_
    go_simp
    refine hKK.out _ _ hHeld fun hHeld => ?_
    clear hKK KK; refine rd 10 rfl fun KK hKK => ?_
    go_simp
    refine hKK.out _ _ hHeld fun hHeld => ?_
    clear hKK KK; refine wpAnyH_done (by kernel_rfl) ?_ _; clear hHeld; go_wp2_with fail
    go_ret
    refine ⟨(show Ending.returned (.string ((⟨List.toArray U⟩ : ByteArray) ++ (⟨List.toArray Z⟩ : ByteArray))) = _ from ret_str ?_), G2.out⟩
    repeat rw [ba_app]
    try simp only [List.append_assoc]
    try rfl
end Go.Proofs.YtapfecciakijhaaGreatDoor
