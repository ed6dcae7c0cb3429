/- The document's texts: records. -/
import Derived.Test.YtapfecciakijhaaGreatDoorG20
import Derived.Test.YtapfecciakijhaaGreatDoorG21
namespace Go.Proofs.YtapfecciakijhaaGreatDoor
open Go.RowKit
set_option maxHeartbeats 4000000
set_option maxRecDepth 1000000

theorem ty10n (p : Int) (u : T) (us : List T) (sv : Value) (w : World) (ha : AT w (T.mk 10 [] 0 p (u :: us)).subs sv) (fld : T → List UInt8) (hfld : ∀ t, fld t = starTx t ++ ([58, 32] ++ (nameTx (subT t 0) ++ [59, 32]))) (hkb : (u.kind != 0) = false) (hk : ∀ t ∈ us, ∃ x m q z, t = .mk 11 x m q [z] ∧ x.length ≤ 12 ∧ NTx w z (nameTx z)) (hlen : (flatTx fld us).length ≤ 4000000) :
    Calls Tryz.prog 43 #[.agg #[.int .i64 10, .string ⟨List.toArray []⟩, .int .i64 0, .int .i64 p, sv]] w (Sy w (.string ⟨(([82, 69, 67, 79, 82, 68, 32]) ++ (flatTx fld us ++ [69, 78, 68])).toArray⟩)) := by
  have HA := hide ha; have HK := hide hk; obtain ⟨g,o,c,_,rfl,_,_,n5,fu,au,ar⟩ := AT.cons ha; have NU := hide n5; have AU := hide au; have hgl := block_lt n5.c0; obtain ⟨_,_,_,_,_⟩ := n5; have B0 : Hid (Box (w.alloc (.cells #[.int .i64 10, .string ⟨List.toArray []⟩, .int .i64 0, .int .i64 p, .slice (some ⟨g, o, none⟩) (us.length + 1) c] 24)) w.heap.size (.mk 10 [] 0 p (u :: us)) (.slice (some ⟨g, o, none⟩) (us.length + 1) c)) := Box.new w (.mk 10 [] 0 p (u :: us)) (.slice (some ⟨g, o, none⟩) (us.length + 1) c) 24; have HF := hide hfld; clear ha hk fu au ar hfld
  skip
  go_enter Tryz.func43, Tryz.ntmps43
  go_wp2_with fail
  go_loopw [3, 4] (fun sv iv wr => ∃ (i : Nat) (Y : List UInt8), 1 ≤ i ∧ i ≤ us.length + 1 ∧ iv = .int .i64 ↑i ∧ sv = .string ⟨Y.toArray⟩ ∧ Hid (Y = ([82, 69, 67, 79, 82, 68, 32]) ++ flatTx fld (us.take (i - 1))) ∧ Hid (w.grownBy wr none) ∧ Hid (Box wr w.heap.size (.mk 10 [] 0 p (u :: us)) (.slice (some ⟨g, o, none⟩) (us.length + 1) c))) (fun _ iv _ => us.length + 1 - (intOf iv).toNat)
  case atStart => exact ⟨1, [82, 69, 67, 79, 82, 68, 32], Nat.le_refl _, by omega, rfl, rfl, by show _ = _; simp [flatTx], gb_alloc (gb_refl w none) _, B0.out⟩
  case round =>
    obtain ⟨i,Y,_,_,rfl,rfl,HY,G0,BR⟩ := hrel; obtain ⟨b0,_,_,_,_⟩ := BR.out; have bl := block_lt b0
    have hY : Y.length ≤ 6000000 := by
      rw [HY.out]; have := flat_le fld us (i - 1); simp only [List.length_append, List.length_cons, List.length_nil]
      omega
    by_cases hlt : i < us.length + 1
    · obtain ⟨t, ht⟩ : ∃ t, (u :: us)[i]? = some t := ⟨_, List.getElem?_eq_getElem (by simpa using hlt)⟩
      have ht2 : us[i - 1]? = some t := by
        obtain ⟨k, rfl⟩ : ∃ k, i = k + 1 := ⟨i - 1, by omega⟩
        simpa using ht
      have hmem := List.mem_of_getElem? ht2; obtain ⟨x,m,q,z,rfl,hx,_,hz9⟩ := HK.out t hmem; obtain ⟨_,_,_,e1,n5,ft,aT⟩ := HA.out.node i _ ht; cases e1; obtain ⟨g2, o2, c2, z', sz, rfl, hn2, hc2, hl2, m5, fz, az⟩ := aT.one rfl
      obtain rfl : z = z' := by simpa [T.subs] using hl2
      have NT := hide (n5.kept G0.out); have NZ := hide (m5.kept G0.out); have AZ := hide az; have HZ := hide hz9; have HT := hide (flat_take (tx := fld) ht2)
      have lA : (starTx (.mk 11 x m q [z])).length ≤ 13 := by unfold starTx; split <;> simp [T.name] <;> omega
      have HST : ∀ w', Hid (Calls Tryz.prog 41 #[.agg #[.int .i64 11, .string ⟨x.toArray⟩, .int .i64 m, .int .i64 q, .slice (some ⟨g2, o2, none⟩) 1 c2]] w' (Sy w' (.string ⟨(starTx (.mk 11 x m q [z])).toArray⟩))) := fun w' => starred_any (.mk 11 x m q [z]) (.slice (some ⟨g2, o2, none⟩) 1 c2) w' hx ⟨_, _, _, rfl⟩
      have HLE : Hid (fld (.mk 11 x m q [z]) = starTx (.mk 11 x m q [z]) ++ ([58, 32] ++ (nameTx z ++ [59, 32]))) := HF.out _
      generalize starTx (.mk 11 x m q [z]) = A at *
      generalize nameTx z = N at *
      have gl1 := block_lt NT.out.c0; have gl2 := block_lt NZ.out.c0; clear ht ht2 hmem ft aT hl2 fz az m5 n5 hz9
      have qq1 : ¬ (9223372036854775807 < Y.length + A.length) := by omega
      have qq2 : ¬ (9223372036854775807 < Y.length + A.length + 2) := by omega
      have qq3 : ¬ (9223372036854775807 < Y.length + A.length + 2 + N.length) := by omega
      have qq4 : ¬ (9223372036854775807 < Y.length + A.length + 2 + N.length + 2) := by omega
      go_wp2_with fail; refine wp_region_held_drew (S := (fun w' => w'.cell? ⟨w.heap.size, 4, none⟩ = some (.slice (some ⟨g, o, none⟩) (us.length + 1) c) ∧ (w'.cell? ⟨g, o + i * 5, none⟩ = some (.int .i64 11) ∧ w'.cell? ⟨g, o + i * 5 + 1, none⟩ = some (.string ⟨x.toArray⟩) ∧ w'.cell? ⟨g, o + i * 5 + 2, none⟩ = some (.int .i64 m) ∧ w'.cell? ⟨g, o + i * 5 + 3, none⟩ = some (.int .i64 q) ∧ w'.cell? ⟨g, o + i * 5 + 4, none⟩ = some (.slice (some ⟨g2, o2, none⟩) 1 c2)) ∧ Node5 w' g2 o2 z sz)) (by kernel_rfl) ?_ (fun hHeld => ?_)
      · exact ⟨gb_cell (gb_drew (gb_refl wr none)) BR.out.c4, ⟨(NT.out.kept (gb_drew (gb_refl wr none))).c0, (NT.out.kept (gb_drew (gb_refl wr none))).c1, (NT.out.kept (gb_drew (gb_refl wr none))).c2, (NT.out.kept (gb_drew (gb_refl wr none))).c3, (NT.out.kept (gb_drew (gb_refl wr none))).c4⟩, NZ.out.kept (gb_drew (gb_refl wr none))⟩
      refine tk 0 (.string (⟨List.toArray Y⟩ : ByteArray)) rfl (fun _ _ => by go_simp) hHeld ?_; simp only [Act.put, List.setIfInBounds_toArray]; refine tk 1 (.pointer (some ⟨w.heap.size, 4, none⟩)) rfl (fun _ _ => by go_simp) hHeld ?_; simp only [Act.put]; refine tk 2 (.slice (some ⟨g, o, none⟩) (us.length + 1) c) rfl (fun _ ⟨_,⟨_,_,_,_,_⟩,⟨_,_,_,_,_⟩⟩ => by go_simp) hHeld ?_; simp only [Act.put]; refine tk 3 (.int .i64 ↑i) rfl (fun _ _ => by go_simp) hHeld ?_; simp only [Act.put]; refine tk 4 (.pointer (some ⟨g, o + i * 5, none⟩)) rfl (fun _ _ => by go_simp) hHeld ?_; simp only [Act.put]; refine tk 5 (.agg #[.int .i64 11, .string ⟨x.toArray⟩, .int .i64 m, .int .i64 q, .slice (some ⟨g2, o2, none⟩) 1 c2]) rfl (fun _ ⟨_,⟨_,_,_,_,_⟩,⟨_,_,_,_,_⟩⟩ => by go_simp) hHeld ?_; simp only [Act.put]; refine tk 9 (.pointer (some ⟨w.heap.size, 4, none⟩)) rfl (fun _ _ => by go_simp) hHeld ?_; simp only [Act.put]; refine tk 10 (.slice (some ⟨g, o, none⟩) (us.length + 1) c) rfl (fun _ ⟨_,⟨_,_,_,_,_⟩,⟨_,_,_,_,_⟩⟩ => by go_simp) hHeld ?_; simp only [Act.put]; refine tk 11 (.int .i64 ↑i) rfl (fun _ _ => by go_simp) hHeld ?_; simp only [Act.put]; refine tk 12 (.pointer (some ⟨g, o + i * 5, none⟩)) rfl (fun _ _ => by go_simp) hHeld ?_; simp only [Act.put]; refine tk 13 (.pointer (some ⟨g, o + i * 5 + 4, none⟩)) rfl (fun _ _ => by go_simp) hHeld ?_; simp only [Act.put]; refine tk 14 (.slice (some ⟨g2, o2, none⟩) 1 c2) rfl (fun _ ⟨_,⟨_,_,_,_,_⟩,⟨_,_,_,_,_⟩⟩ => by go_simp) hHeld ?_; simp only [Act.put]
      refine tk 15 (.pointer (some ⟨g2, o2, none⟩)) rfl (fun _ _ => by go_simp) hHeld ?_; simp only [Act.put]; refine tk 16 (nodeV z sz) rfl (fun _ ⟨_,⟨_,_,_,_,_⟩,⟨_,_,_,_,_⟩⟩ => by go_simp) hHeld ?_; simp only [Act.put]; refine rd 6 rfl fun KK hKK => ?_
      go_simp
      go_at_call 41; refine ((HST _).out).mono ?_; rintro e w1 ⟨rfl, hg1⟩; have G1 := hide (gb_trans (by exact gb_drew G0.out) hg1); have B1 := hide (BR.out.kept (gb_trans (by exact gb_drew (gb_refl wr none)) hg1)); have R1 := hide (gb_trans (by exact gb_drew (gb_refl wr none)) hg1); clear hg1
      go_simp
      refine hKK.out _ _ ⟨B1.out.c4, ⟨(NT.out.kept R1.out).c0, (NT.out.kept R1.out).c1, (NT.out.kept R1.out).c2, (NT.out.kept R1.out).c3, (NT.out.kept R1.out).c4⟩, NZ.out.kept R1.out⟩ fun hHeld => ?_
      clear hKK KK; refine tk 7 (.string ((⟨List.toArray Y⟩ : ByteArray) ++ (⟨List.toArray A⟩ : ByteArray))) rfl (fun _ _ => by go_simp) hHeld ?_; simp only [Act.put, List.setIfInBounds_toArray]; refine tk 8 (.string (((⟨List.toArray Y⟩ : ByteArray) ++ (⟨List.toArray A⟩ : ByteArray)) ++ (⟨List.toArray [58, 32]⟩ : ByteArray))) rfl (fun _ _ => by go_simp) hHeld ?_; simp only [Act.put]; refine rd 17 rfl fun KK hKK => ?_
      go_simp
      go_at_call 44; refine (HZ.out _ _ G1.out (AZ.out.kept G1.out)).mono ?_; rintro e w2 ⟨rfl, hg2⟩; have G2 := hide (gb_trans G1.out hg2); have B2 := hide (B1.out.kept (gb_trans (gb_refl w1 none) hg2)); have R2 := hide (gb_trans R1.out hg2); clear hg2
      go_simp
      refine hKK.out _ _ ⟨B2.out.c4, ⟨(NT.out.kept R2.out).c0, (NT.out.kept R2.out).c1, (NT.out.kept R2.out).c2, (NT.out.kept R2.out).c3, (NT.out.kept R2.out).c4⟩, NZ.out.kept R2.out⟩ fun hHeld => ?_
      clear hKK KK; refine rd 18 rfl fun KK hKK => ?_
      go_simp
      refine hKK.out _ _ hHeld fun hHeld => ?_
      clear hKK KK; refine rd 19 rfl fun KK hKK => ?_
      go_simp
      refine hKK.out _ _ hHeld fun hHeld => ?_
      clear hKK KK; refine rd 20 rfl fun KK hKK => ?_
      go_simp
      refine hKK.out _ _ hHeld fun hHeld => ?_
      clear hKK KK; refine wpAnyH_done (by kernel_rfl) ?_ _; clear hHeld; go_wp2_with fail; refine ⟨⟨i + 1, Y ++ A ++ [58, 32] ++ N ++ [59, 32], by omega, by omega, by go_num, strA_eq (by repeat rw [ba_app]), ?_, G2, B2⟩, by simp [intOf]; omega⟩
      show _ = _
      rw [show i + 1 - 1 = i - 1 + 1 by omega, HT.out, HLE.out, HY.out]; simp only [List.append_assoc]
    · have HX : Hid (Y = ([82, 69, 67, 79, 82, 68, 32]) ++ flatTx fld us) := by
        have := HY.out; rw [List.take_of_length_le (by omega)] at this
        exact this
      have qe : ¬ (9223372036854775807 < Y.length + 3) := by omega
      go_wp2_with fail
      go_ret
      refine ⟨ret_str ?_, G0.out⟩; rw [show (⟨#[69, 78, 68]⟩ : ByteArray) = ⟨List.toArray [69, 78, 68]⟩ from rfl, ba_app, HX.out]
      try simp only [List.append_assoc]
      try rfl
theorem ty10b (p : Int) (u : T) (us : List T) (sv : Value) (w : World) (ha : AT w (T.mk 10 [] 0 p (u :: us)).subs sv) (fld : T → List UInt8) (hfld : ∀ t, fld t = starTx t ++ ([58, 32] ++ (nameTx (subT t 0) ++ [59, 32]))) (V : List UInt8) (hkb : (u.kind != 0) = true) (hv : NTx w u V) (hk : ∀ t ∈ us, ∃ x m q z, t = .mk 11 x m q [z] ∧ x.length ≤ 12 ∧ NTx w z (nameTx z)) (hlen : (flatTx fld us).length ≤ 4000000) :
    Calls Tryz.prog 43 #[.agg #[.int .i64 10, .string ⟨List.toArray []⟩, .int .i64 0, .int .i64 p, sv]] w (Sy w (.string ⟨(([82, 69, 67, 79, 82, 68, 32] ++ [40] ++ V ++ [41, 32]) ++ (flatTx fld us ++ [69, 78, 68])).toArray⟩)) := by
  have HA := hide ha; have HK := hide hk; obtain ⟨g,o,c,_,rfl,_,_,n5,fu,au,ar⟩ := AT.cons ha; have NU := hide n5; have AU := hide au; have hgl := block_lt n5.c0; obtain ⟨_,_,_,_,_⟩ := n5; have B0 : Hid (Box (w.alloc (.cells #[.int .i64 10, .string ⟨List.toArray []⟩, .int .i64 0, .int .i64 p, .slice (some ⟨g, o, none⟩) (us.length + 1) c] 24)) w.heap.size (.mk 10 [] 0 p (u :: us)) (.slice (some ⟨g, o, none⟩) (us.length + 1) c)) := Box.new w (.mk 10 [] 0 p (u :: us)) (.slice (some ⟨g, o, none⟩) (us.length + 1) c) 24; have HF := hide hfld; clear ha hk fu au ar hfld; obtain ⟨_,hv9⟩ := hv; have HV := hide hv9; clear hv9
  have qa : ¬ (9223372036854775807 < 8 + V.length) := by omega
  have qb : ¬ (9223372036854775807 < 8 + V.length + 2) := by omega
  go_enter Tryz.func43, Tryz.ntmps43
  go_wp2_with fail; go_at_call 44; refine (HV.out _ _ (by exact gb_alloc (gb_refl w none) _) (AU.out.kept (by exact gb_alloc (gb_refl w none) _))).mono ?_; rintro e v1 ⟨rfl, hv1⟩; have GV := hide (gb_trans (by exact gb_alloc (gb_refl w none) _) hv1); have BV := hide (B0.out.kept (gb_trans (gb_refl _ none) hv1)); obtain ⟨_,_,_,_,_⟩ := BV.out; clear hv1; go_wp2_with fail
  go_loopw [3, 4] (fun sv iv wr => ∃ (i : Nat) (Y : List UInt8), 1 ≤ i ∧ i ≤ us.length + 1 ∧ iv = .int .i64 ↑i ∧ sv = .string ⟨Y.toArray⟩ ∧ Hid (Y = ([82, 69, 67, 79, 82, 68, 32] ++ [40] ++ V ++ [41, 32]) ++ flatTx fld (us.take (i - 1))) ∧ Hid (w.grownBy wr none) ∧ Hid (Box wr w.heap.size (.mk 10 [] 0 p (u :: us)) (.slice (some ⟨g, o, none⟩) (us.length + 1) c))) (fun _ iv _ => us.length + 1 - (intOf iv).toNat)
  case atStart => exact ⟨1, [82, 69, 67, 79, 82, 68, 32] ++ [40] ++ V ++ [41, 32], Nat.le_refl _, by omega, rfl, strA_eq (by repeat rw [ba_app]), by show _ = _; simp [flatTx], GV, BV⟩
  case round =>
    obtain ⟨i,Y,_,_,rfl,rfl,HY,G0,BR⟩ := hrel; obtain ⟨b0,_,_,_,_⟩ := BR.out; have bl := block_lt b0
    have hY : Y.length ≤ 6000000 := by
      rw [HY.out]; have := flat_le fld us (i - 1); simp only [List.length_append, List.length_cons, List.length_nil]
      omega
    by_cases hlt : i < us.length + 1
    · obtain ⟨t, ht⟩ : ∃ t, (u :: us)[i]? = some t := ⟨_, List.getElem?_eq_getElem (by simpa using hlt)⟩
      have ht2 : us[i - 1]? = some t := by
        obtain ⟨k, rfl⟩ : ∃ k, i = k + 1 := ⟨i - 1, by omega⟩
        simpa using ht
      have hmem := List.mem_of_getElem? ht2; obtain ⟨x,m,q,z,rfl,hx,_,hz9⟩ := HK.out t hmem; obtain ⟨_,_,_,e1,n5,ft,aT⟩ := HA.out.node i _ ht; cases e1; obtain ⟨g2, o2, c2, z', sz, rfl, hn2, hc2, hl2, m5, fz, az⟩ := aT.one rfl
      obtain rfl : z = z' := by simpa [T.subs] using hl2
      have NT := hide (n5.kept G0.out); have NZ := hide (m5.kept G0.out); have AZ := hide az; have HZ := hide hz9; have HT := hide (flat_take (tx := fld) ht2)
      have lA : (starTx (.mk 11 x m q [z])).length ≤ 13 := by unfold starTx; split <;> simp [T.name] <;> omega
      have HST : ∀ w', Hid (Calls Tryz.prog 41 #[.agg #[.int .i64 11, .string ⟨x.toArray⟩, .int .i64 m, .int .i64 q, .slice (some ⟨g2, o2, none⟩) 1 c2]] w' (Sy w' (.string ⟨(starTx (.mk 11 x m q [z])).toArray⟩))) := fun w' => starred_any (.mk 11 x m q [z]) (.slice (some ⟨g2, o2, none⟩) 1 c2) w' hx ⟨_, _, _, rfl⟩
      have HLE : Hid (fld (.mk 11 x m q [z]) = starTx (.mk 11 x m q [z]) ++ ([58, 32] ++ (nameTx z ++ [59, 32]))) := HF.out _
      generalize starTx (.mk 11 x m q [z]) = A at *
      generalize nameTx z = N at *
      have gl1 := block_lt NT.out.c0; have gl2 := block_lt NZ.out.c0; clear ht ht2 hmem ft aT hl2 fz az m5 n5 hz9
      have qq1 : ¬ (9223372036854775807 < Y.length + A.length) := by omega
      have qq2 : ¬ (9223372036854775807 < Y.length + A.length + 2) := by omega
      have qq3 : ¬ (9223372036854775807 < Y.length + A.length + 2 + N.length) := by omega
      have qq4 : ¬ (9223372036854775807 < Y.length + A.length + 2 + N.length + 2) := by omega
      go_wp2_with fail; refine wp_region_held_drew (S := (fun w' => w'.cell? ⟨w.heap.size, 4, none⟩ = some (.slice (some ⟨g, o, none⟩) (us.length + 1) c) ∧ (w'.cell? ⟨g, o + i * 5, none⟩ = some (.int .i64 11) ∧ w'.cell? ⟨g, o + i * 5 + 1, none⟩ = some (.string ⟨x.toArray⟩) ∧ w'.cell? ⟨g, o + i * 5 + 2, none⟩ = some (.int .i64 m) ∧ w'.cell? ⟨g, o + i * 5 + 3, none⟩ = some (.int .i64 q) ∧ w'.cell? ⟨g, o + i * 5 + 4, none⟩ = some (.slice (some ⟨g2, o2, none⟩) 1 c2)) ∧ Node5 w' g2 o2 z sz)) (by kernel_rfl) ?_ (fun hHeld => ?_)
      · exact ⟨gb_cell (gb_drew (gb_refl wr none)) BR.out.c4, ⟨(NT.out.kept (gb_drew (gb_refl wr none))).c0, (NT.out.kept (gb_drew (gb_refl wr none))).c1, (NT.out.kept (gb_drew (gb_refl wr none))).c2, (NT.out.kept (gb_drew (gb_refl wr none))).c3, (NT.out.kept (gb_drew (gb_refl wr none))).c4⟩, NZ.out.kept (gb_drew (gb_refl wr none))⟩
      refine tk 0 (.string (⟨List.toArray Y⟩ : ByteArray)) rfl (fun _ _ => by go_simp) hHeld ?_; simp only [Act.put, List.setIfInBounds_toArray]; refine tk 1 (.pointer (some ⟨w.heap.size, 4, none⟩)) rfl (fun _ _ => by go_simp) hHeld ?_; simp only [Act.put]; refine tk 2 (.slice (some ⟨g, o, none⟩) (us.length + 1) c) rfl (fun _ ⟨_,⟨_,_,_,_,_⟩,⟨_,_,_,_,_⟩⟩ => by go_simp) hHeld ?_; simp only [Act.put]; refine tk 3 (.int .i64 ↑i) rfl (fun _ _ => by go_simp) hHeld ?_; simp only [Act.put]; refine tk 4 (.pointer (some ⟨g, o + i * 5, none⟩)) rfl (fun _ _ => by go_simp) hHeld ?_; simp only [Act.put]; refine tk 5 (.agg #[.int .i64 11, .string ⟨x.toArray⟩, .int .i64 m, .int .i64 q, .slice (some ⟨g2, o2, none⟩) 1 c2]) rfl (fun _ ⟨_,⟨_,_,_,_,_⟩,⟨_,_,_,_,_⟩⟩ => by go_simp) hHeld ?_; simp only [Act.put]; refine tk 9 (.pointer (some ⟨w.heap.size, 4, none⟩)) rfl (fun _ _ => by go_simp) hHeld ?_; simp only [Act.put]; refine tk 10 (.slice (some ⟨g, o, none⟩) (us.length + 1) c) rfl (fun _ ⟨_,⟨_,_,_,_,_⟩,⟨_,_,_,_,_⟩⟩ => by go_simp) hHeld ?_; simp only [Act.put]; refine tk 11 (.int .i64 ↑i) rfl (fun _ _ => by go_simp) hHeld ?_; simp only [Act.put]; refine tk 12 (.pointer (some ⟨g, o + i * 5, none⟩)) rfl (fun _ _ => by go_simp) hHeld ?_; simp only [Act.put]; refine tk 13 (.pointer (some ⟨g, o + i * 5 + 4, none⟩)) rfl (fun _ _ => by go_simp) hHeld ?_; simp only [Act.put]; refine tk 14 (.slice (some ⟨g2, o2, none⟩) 1 c2) rfl (fun _ ⟨_,⟨_,_,_,_,_⟩,⟨_,_,_,_,_⟩⟩ => by go_simp) hHeld ?_; simp only [Act.put]
      refine tk 15 (.pointer (some ⟨g2, o2, none⟩)) rfl (fun _ _ => by go_simp) hHeld ?_; simp only [Act.put]; refine tk 16 (nodeV z sz) rfl (fun _ ⟨_,⟨_,_,_,_,_⟩,⟨_,_,_,_,_⟩⟩ => by go_simp) hHeld ?_; simp only [Act.put]; refine rd 6 rfl fun KK hKK => ?_
      go_simp
      go_at_call 41; refine ((HST _).out).mono ?_; rintro e w1 ⟨rfl, hg1⟩; have G1 := hide (gb_trans (by exact gb_drew G0.out) hg1); have B1 := hide (BR.out.kept (gb_trans (by exact gb_drew (gb_refl wr none)) hg1)); have R1 := hide (gb_trans (by exact gb_drew (gb_refl wr none)) hg1); clear hg1
      go_simp
      refine hKK.out _ _ ⟨B1.out.c4, ⟨(NT.out.kept R1.out).c0, (NT.out.kept R1.out).c1, (NT.out.kept R1.out).c2, (NT.out.kept R1.out).c3, (NT.out.kept R1.out).c4⟩, NZ.out.kept R1.out⟩ fun hHeld => ?_
      clear hKK KK; refine tk 7 (.string ((⟨List.toArray Y⟩ : ByteArray) ++ (⟨List.toArray A⟩ : ByteArray))) rfl (fun _ _ => by go_simp) hHeld ?_; simp only [Act.put, List.setIfInBounds_toArray]; refine tk 8 (.string (((⟨List.toArray Y⟩ : ByteArray) ++ (⟨List.toArray A⟩ : ByteArray)) ++ (⟨List.toArray [58, 32]⟩ : ByteArray))) rfl (fun _ _ => by go_simp) hHeld ?_; simp only [Act.put]; refine rd 17 rfl fun KK hKK => ?_
      go_simp
      go_at_call 44; refine (HZ.out _ _ G1.out (AZ.out.kept G1.out)).mono ?_; rintro e w2 ⟨rfl, hg2⟩; have G2 := hide (gb_trans G1.out hg2); have B2 := hide (B1.out.kept (gb_trans (gb_refl w1 none) hg2)); have R2 := hide (gb_trans R1.out hg2); clear hg2
      go_simp
      refine hKK.out _ _ ⟨B2.out.c4, ⟨(NT.out.kept R2.out).c0, (NT.out.kept R2.out).c1, (NT.out.kept R2.out).c2, (NT.out.kept R2.out).c3, (NT.out.kept R2.out).c4⟩, NZ.out.kept R2.out⟩ fun hHeld => ?_
      clear hKK KK; refine rd 18 rfl fun KK hKK => ?_
      go_simp
      refine hKK.out _ _ hHeld fun hHeld => ?_
      clear hKK KK; refine rd 19 rfl fun KK hKK => ?_
      go_simp
      refine hKK.out _ _ hHeld fun hHeld => ?_
      clear hKK KK; refine rd 20 rfl fun KK hKK => ?_
      go_simp
      refine hKK.out _ _ hHeld fun hHeld => ?_
      clear hKK KK; refine wpAnyH_done (by kernel_rfl) ?_ _; clear hHeld; go_wp2_with fail; refine ⟨⟨i + 1, Y ++ A ++ [58, 32] ++ N ++ [59, 32], by omega, by omega, by go_num, strA_eq (by repeat rw [ba_app]), ?_, G2, B2⟩, by simp [intOf]; omega⟩
      show _ = _
      rw [show i + 1 - 1 = i - 1 + 1 by omega, HT.out, HLE.out, HY.out]; simp only [List.append_assoc]
    · have HX : Hid (Y = ([82, 69, 67, 79, 82, 68, 32] ++ [40] ++ V ++ [41, 32]) ++ flatTx fld us) := by
        have := HY.out; rw [List.take_of_length_le (by omega)] at this
        exact this
      have qe : ¬ (9223372036854775807 < Y.length + 3) := by omega
      go_wp2_with fail
      go_ret
      refine ⟨ret_str ?_, G0.out⟩; rw [show (⟨#[69, 78, 68]⟩ : ByteArray) = ⟨List.toArray [69, 78, 68]⟩ from rfl, ba_app, HX.out]
      try simp only [List.append_assoc]
      try rfl
end Go.Proofs.YtapfecciakijhaaGreatDoor
