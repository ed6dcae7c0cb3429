/- The document's texts: procedures. -/
import Derived.Test.YtapfecciakijhaaGreatDoorG24
namespace Go.Proofs.YtapfecciakijhaaGreatDoor
open Go.RowKit
set_option maxHeartbeats 4000000
set_option maxRecDepth 1000000

theorem proc0 (x : List UInt8) (m p q : Int) (us : List T) (rs vs bs : T) (sv : Value) (w : World) (ha : AT w (T.mk 7 x m p [.mk 1 [] 0 q us, rs, vs, bs]).subs sv) (hx : x.length ≤ 12) (D B : List UInt8) (lD : D.length ≤ 4000000) (hD : ∀ w' sl, w.grownBy w' none → AT w' vs.subs sl → Calls Tryz.prog 19 #[.string ⟨List.toArray [86, 65, 82]⟩, sl] w' (Sy w' (.string ⟨D.toArray⟩))) (hB : STx w bs [32, 32] B) (hus : us = []) (hr : (rs.kind != 0) = false) :
    Calls Tryz.prog 20 #[.agg #[.int .i64 7, .string ⟨x.toArray⟩, .int .i64 m, .int .i64 p, sv]] w (Sy w (.string ⟨([80, 82, 79, 67, 69, 68, 85, 82, 69, 32] ++ (starTx (.mk 7 x m p [.mk 1 [] 0 q us, rs, vs, bs]) ++ ([59, 10] ++ (D ++ ([66, 69, 71, 73, 78, 10] ++ (B ++ ([69, 78, 68, 32] ++ (x ++ [59, 10])))))))).toArray⟩)) := by
  have HD := hide hD; obtain ⟨_,hB2⟩ := hB; have HB := hide hB2; obtain ⟨_,c,rfl,hn,hcc0⟩ := ha.form
  have hcc : c ≤ 9223372036854775807 := by unfold maxLen at hcc0; omega
  have hn4 : 4 ≤ c := hn; obtain ⟨g, o, s0, e0, n0, -, a0⟩ := ha.node 0 _ rfl; subst e0; obtain ⟨g', o', s1, e1, n1, -, a1⟩ := ha.node 1 _ rfl; cases e1; obtain ⟨g', o', s2, e1, n2, -, a2⟩ := ha.node 2 _ rfl; cases e1; obtain ⟨g', o', s3, e1, n3, -, a3⟩ := ha.node 3 _ rfl; cases e1; have M0 : Hid (Node5 w g o (.mk 1 [] 0 q us) s0) := n0; have M1 : Hid (Node5 w g (o + 5) rs s1) := n1; have M2 : Hid (Node5 w g (o + 10) vs s2) := n2; have M3 : Hid (Node5 w g (o + 15) bs s3) := n3; have A1 := hide a1; have A2 := hide a2; have A3 := hide a3; have hgl : g < w.heap.size := block_lt n0.c0
  change AT w us s0 at a0
  have A0 := hide a0; obtain ⟨_,_,rfl,_,hs2⟩ := a0.form
  unfold maxLen at hs2
  have B0 : Hid (Box (w.alloc (.cells #[.int .i64 7, .string ⟨x.toArray⟩, .int .i64 m, .int .i64 p, .slice (some ⟨g, o, none⟩) 4 c] 24)) w.heap.size (.mk 7 x m p [.mk 1 [] 0 q us, rs, vs, bs]) (.slice (some ⟨g, o, none⟩) 4 c)) := Box.new w (.mk 7 x m p [.mk 1 [] 0 q us, rs, vs, bs]) (.slice (some ⟨g, o, none⟩) 4 c) 24
  have lA : (starTx (.mk 7 x m p [.mk 1 [] 0 q us, rs, vs, bs])).length ≤ 13 := by unfold starTx; split <;> simp [T.name] <;> omega
  have HST : ∀ w', Hid (Calls Tryz.prog 41 #[.agg #[.int .i64 7, .string ⟨x.toArray⟩, .int .i64 m, .int .i64 p, .slice (some ⟨g, o, none⟩) 4 c]] w' (Sy w' (.string ⟨(starTx (.mk 7 x m p [.mk 1 [] 0 q us, rs, vs, bs])).toArray⟩))) := fun w' => starred_any (.mk 7 x m p [.mk 1 [] 0 q us, rs, vs, bs]) (.slice (some ⟨g, o, none⟩) 4 c) w' hx ⟨_, _, _, rfl⟩
  generalize starTx (.mk 7 x m p [.mk 1 [] 0 q us, rs, vs, bs]) = A at *
  clear ha hD hB2 hcc0 hn n0 n1 n2 n3 a0 a1 a2 a3
  change Calls Tryz.prog 20 #[.agg #[.int .i64 7, .string ⟨x.toArray⟩, .int .i64 m, .int .i64 p, .slice (some ⟨g, o, none⟩) 4 c]] w _
  have qh : ¬ (9223372036854775807 < 10 + A.length) := by omega
  subst hus
  have hl0 : ¬ (0 : Int) < (([] : List T).length : Int) := by simp
  go_enter Tryz.func20, Tryz.ntmps20
  go_wp2_with fail; go_at_call 41; refine ((HST _).out).mono ?_; rintro e v1 ⟨rfl, hv1⟩; have GV := hide (gb_trans (by exact gb_alloc (gb_refl w none) _) hv1); have BV := hide (B0.out.kept (gb_trans (gb_refl _ none) hv1)); obtain ⟨_,_,_,_,_⟩ := BV.out; obtain ⟨_,_,_,_,_⟩ := M0.out.kept GV.out; obtain ⟨_,_,_,_,_⟩ := M1.out.kept GV.out; clear hv1; have N2 := hide (M2.out.kept GV.out); have N3 := hide (M3.out.kept GV.out)
  have qq1 : ¬ (9223372036854775807 < 10 + A.length + 2) := by omega
  have qq2 : ¬ (9223372036854775807 < 10 + A.length + 2 + D.length) := by omega
  have qq3 : ¬ (9223372036854775807 < 10 + A.length + 2 + D.length + 6) := by omega
  have qq4 : ¬ (9223372036854775807 < 10 + A.length + 2 + D.length + 6 + B.length) := by omega
  have qq5 : ¬ (9223372036854775807 < 10 + A.length + 2 + D.length + 6 + B.length + 4) := by omega
  have qq6 : ¬ (9223372036854775807 < 10 + A.length + 2 + D.length + 6 + B.length + 4 + x.length) := by omega
  have qq7 : ¬ (9223372036854775807 < 10 + A.length + 2 + D.length + 6 + B.length + 4 + x.length + 2) := by omega
  go_wp2_with fail; refine wp_region_held_drew (S := (fun w' => w'.cell? ⟨w.heap.size, 4, none⟩ = some (.slice (some ⟨g, o, none⟩) 4 c) ∧ w'.cell? ⟨w.heap.size, 1, none⟩ = some (.string ⟨x.toArray⟩) ∧ w'.cell? ⟨g, o + 14, none⟩ = some s2 ∧ Node5 w' g (o + 15) bs s3)) (by kernel_rfl) ?_ (fun hHeld => ?_)
  · exact ⟨gb_cell (gb_drew (gb_refl v1 none)) BV.out.c4, gb_cell (gb_drew (gb_refl v1 none)) BV.out.c1, gb_cell (gb_drew (gb_refl v1 none)) N2.out.c4, N3.out.kept (gb_drew (gb_refl v1 none))⟩
  refine tk 0 (.string ((⟨List.toArray [80, 82, 79, 67, 69, 68, 85, 82, 69, 32]⟩ : ByteArray) ++ (⟨List.toArray A⟩ : ByteArray))) rfl (fun _ _ => by go_simp) hHeld ?_; simp only [Act.put, List.setIfInBounds_toArray]; refine tk 1 (.string (((⟨List.toArray [80, 82, 79, 67, 69, 68, 85, 82, 69, 32]⟩ : ByteArray) ++ (⟨List.toArray A⟩ : ByteArray)) ++ (⟨List.toArray [59, 10]⟩ : ByteArray))) rfl (fun _ _ => by go_simp) hHeld ?_; simp only [Act.put]; refine tk 2 (.pointer (some ⟨w.heap.size, 4, none⟩)) rfl (fun _ _ => by go_simp) hHeld ?_; simp only [Act.put]; refine tk 3 (.slice (some ⟨g, o, none⟩) 4 c) rfl (fun _ ⟨_,_,_,⟨_,_,_,_,_⟩⟩ => by go_simp) hHeld ?_; simp only [Act.put]; refine tk 4 (.pointer (some ⟨g, o + 10, none⟩)) rfl (fun _ _ => by go_simp) hHeld ?_; simp only [Act.put]; refine tk 5 (.pointer (some ⟨g, o + 14, none⟩)) rfl (fun _ _ => by go_simp) hHeld ?_; simp only [Act.put]; refine tk 6 s2 rfl (fun _ ⟨_,_,_,⟨_,_,_,_,_⟩⟩ => by go_simp) hHeld ?_; simp only [Act.put]; refine tk 10 (.pointer (some ⟨w.heap.size, 4, none⟩)) rfl (fun _ _ => by go_simp) hHeld ?_; simp only [Act.put]; refine tk 11 (.slice (some ⟨g, o, none⟩) 4 c) rfl (fun _ ⟨_,_,_,⟨_,_,_,_,_⟩⟩ => by go_simp) hHeld ?_; simp only [Act.put]; refine tk 12 (.pointer (some ⟨g, o + 15, none⟩)) rfl (fun _ _ => by go_simp) hHeld ?_; simp only [Act.put]; refine tk 13 (nodeV bs s3) rfl (fun _ ⟨_,_,_,⟨_,_,_,_,_⟩⟩ => by go_simp) hHeld ?_; simp only [Act.put]; refine tk 17 (.pointer (some ⟨w.heap.size, 1, none⟩)) rfl (fun _ _ => by go_simp) hHeld ?_
  simp only [Act.put]; refine tk 18 (.string (⟨List.toArray x⟩ : ByteArray)) rfl (fun _ ⟨_,_,_,⟨_,_,_,_,_⟩⟩ => by go_simp) hHeld ?_; simp only [Act.put]; refine rd 7 rfl fun KK hKK => ?_
  go_simp
  go_at_call 19; refine (HD.out _ _ (by exact gb_drew GV.out) (A2.out.kept (by exact gb_drew GV.out))).mono ?_; rintro e w1 ⟨rfl, hg1⟩; have G1 := hide (gb_trans (by exact gb_drew GV.out) hg1); have B1 := hide (BV.out.kept (gb_trans (by exact gb_drew (gb_refl v1 none)) hg1)); have R1 := hide (gb_trans (by exact gb_drew (gb_refl v1 none)) hg1); clear hg1
  go_simp
  refine hKK.out _ _ ⟨B1.out.c4, B1.out.c1, gb_cell R1.out N2.out.c4, N3.out.kept R1.out⟩ fun hHeld => ?_
  clear hKK KK; refine tk 8 (.string ((((⟨List.toArray [80, 82, 79, 67, 69, 68, 85, 82, 69, 32]⟩ : ByteArray) ++ (⟨List.toArray A⟩ : ByteArray)) ++ (⟨List.toArray [59, 10]⟩ : ByteArray)) ++ (⟨List.toArray D⟩ : ByteArray))) rfl (fun _ _ => by go_simp) hHeld ?_; simp only [Act.put, List.setIfInBounds_toArray]; refine tk 9 (.string (((((⟨List.toArray [80, 82, 79, 67, 69, 68, 85, 82, 69, 32]⟩ : ByteArray) ++ (⟨List.toArray A⟩ : ByteArray)) ++ (⟨List.toArray [59, 10]⟩ : ByteArray)) ++ (⟨List.toArray D⟩ : ByteArray)) ++ (⟨List.toArray [66, 69, 71, 73, 78, 10]⟩ : ByteArray))) rfl (fun _ _ => by go_simp) hHeld ?_; simp only [Act.put]; refine rd 14 rfl fun KK hKK => ?_
  go_simp
  go_at_call 21; refine (HB.out _ _ G1.out (A3.out.kept G1.out)).mono ?_; rintro e w2 ⟨rfl, hg2⟩; have G2 := hide (gb_trans G1.out hg2); have B2 := hide (B1.out.kept (gb_trans (gb_refl w1 none) hg2)); have R2 := hide (gb_trans R1.out hg2); clear hg2
  go_simp
  refine hKK.out _ _ ⟨B2.out.c4, B2.out.c1, gb_cell R2.out N2.out.c4, N3.out.kept R2.out⟩ fun hHeld => ?_
  clear hKK KK; refine rd 15 rfl fun KK hKK => ?_
  go_simp
  refine hKK.out _ _ hHeld fun hHeld => ?_
  clear hKK KK; refine rd 16 rfl fun KK hKK => ?_
  go_simp
  refine hKK.out _ _ hHeld fun hHeld => ?_
  clear hKK KK; refine rd 19 rfl fun KK hKK => ?_
  go_simp
  refine hKK.out _ _ hHeld fun hHeld => ?_
  clear hKK KK; refine rd 20 rfl fun KK hKK => ?_
  go_simp
  refine hKK.out _ _ hHeld fun hHeld => ?_
  clear hKK KK; refine rd 21 rfl fun KK hKK => ?_
  go_simp
  refine hKK.out _ _ hHeld fun hHeld => ?_
  clear hKK KK; refine wpAnyH_done (by kernel_rfl) ?_ _; clear hHeld; go_wp2_with fail
  go_ret
  refine ⟨(show Ending.returned (.string (((((((((⟨List.toArray [80, 82, 79, 67, 69, 68, 85, 82, 69, 32]⟩ : ByteArray) ++ (⟨List.toArray A⟩ : ByteArray)) ++ (⟨List.toArray [59, 10]⟩ : ByteArray)) ++ (⟨List.toArray D⟩ : ByteArray)) ++ (⟨List.toArray [66, 69, 71, 73, 78, 10]⟩ : ByteArray)) ++ (⟨List.toArray B⟩ : ByteArray)) ++ (⟨List.toArray [69, 78, 68, 32]⟩ : ByteArray)) ++ (⟨List.toArray x⟩ : ByteArray)) ++ (⟨List.toArray [59, 10]⟩ : ByteArray))) = _ from ret_str ?_), G2.out⟩
  repeat rw [ba_app]
  simp only [List.append_assoc]
  try rfl
theorem procN (x : List UInt8) (m p q : Int) (us : List T) (rs vs bs : T) (sv : Value) (w : World) (ha : AT w (T.mk 7 x m p [.mk 1 [] 0 q us, rs, vs, bs]).subs sv) (hx : x.length ≤ 12) (D B : List UInt8) (lD : D.length ≤ 4000000) (hD : ∀ w' sl, w.grownBy w' none → AT w' vs.subs sl → Calls Tryz.prog 19 #[.string ⟨List.toArray [86, 65, 82]⟩, sl] w' (Sy w' (.string ⟨D.toArray⟩))) (hB : STx w bs [32, 32] B) (hus : 0 < us.length) (hr : (rs.kind != 0) = false) (hk : ∀ t ∈ us, ∃ y n q z, t = .mk 8 y n q [z] ∧ y.length ≤ 12 ∧ NTx w z (nameTx z)) (hlen : (sepTx [59, 32] (us.map paramTx)).length ≤ 4000000) :
    Calls Tryz.prog 20 #[.agg #[.int .i64 7, .string ⟨x.toArray⟩, .int .i64 m, .int .i64 p, sv]] w (Sy w (.string ⟨([80, 82, 79, 67, 69, 68, 85, 82, 69, 32] ++ (starTx (.mk 7 x m p [.mk 1 [] 0 q us, rs, vs, bs]) ++ ([40] ++ (sepTx [59, 32] (us.map paramTx) ++ ([41] ++ ([59, 10] ++ (D ++ ([66, 69, 71, 73, 78, 10] ++ (B ++ ([69, 78, 68, 32] ++ (x ++ [59, 10]))))))))))).toArray⟩)) := by
  have HD := hide hD; obtain ⟨_,hB2⟩ := hB; have HB := hide hB2; obtain ⟨_,c,rfl,hn,hcc0⟩ := ha.form
  have hcc : c ≤ 9223372036854775807 := by unfold maxLen at hcc0; omega
  have hn4 : 4 ≤ c := hn; obtain ⟨g, o, s0, e0, n0, -, a0⟩ := ha.node 0 _ rfl; subst e0; obtain ⟨g', o', s1, e1, n1, -, a1⟩ := ha.node 1 _ rfl; cases e1; obtain ⟨g', o', s2, e1, n2, -, a2⟩ := ha.node 2 _ rfl; cases e1; obtain ⟨g', o', s3, e1, n3, -, a3⟩ := ha.node 3 _ rfl; cases e1; have M0 : Hid (Node5 w g o (.mk 1 [] 0 q us) s0) := n0; have M1 : Hid (Node5 w g (o + 5) rs s1) := n1; have M2 : Hid (Node5 w g (o + 10) vs s2) := n2; have M3 : Hid (Node5 w g (o + 15) bs s3) := n3; have A1 := hide a1; have A2 := hide a2; have A3 := hide a3; have hgl : g < w.heap.size := block_lt n0.c0
  change AT w us s0 at a0
  have A0 := hide a0; obtain ⟨_,sc,rfl,_,hs2⟩ := a0.form
  unfold maxLen at hs2
  have B0 : Hid (Box (w.alloc (.cells #[.int .i64 7, .string ⟨x.toArray⟩, .int .i64 m, .int .i64 p, .slice (some ⟨g, o, none⟩) 4 c] 24)) w.heap.size (.mk 7 x m p [.mk 1 [] 0 q us, rs, vs, bs]) (.slice (some ⟨g, o, none⟩) 4 c)) := Box.new w (.mk 7 x m p [.mk 1 [] 0 q us, rs, vs, bs]) (.slice (some ⟨g, o, none⟩) 4 c) 24
  have lA : (starTx (.mk 7 x m p [.mk 1 [] 0 q us, rs, vs, bs])).length ≤ 13 := by unfold starTx; split <;> simp [T.name] <;> omega
  have HST : ∀ w', Hid (Calls Tryz.prog 41 #[.agg #[.int .i64 7, .string ⟨x.toArray⟩, .int .i64 m, .int .i64 p, .slice (some ⟨g, o, none⟩) 4 c]] w' (Sy w' (.string ⟨(starTx (.mk 7 x m p [.mk 1 [] 0 q us, rs, vs, bs])).toArray⟩))) := fun w' => starred_any (.mk 7 x m p [.mk 1 [] 0 q us, rs, vs, bs]) (.slice (some ⟨g, o, none⟩) 4 c) w' hx ⟨_, _, _, rfl⟩
  generalize starTx (.mk 7 x m p [.mk 1 [] 0 q us, rs, vs, bs]) = A at *
  clear ha hD hB2 hcc0 hn n0 n1 n2 n3 a0 a1 a2 a3
  change Calls Tryz.prog 20 #[.agg #[.int .i64 7, .string ⟨x.toArray⟩, .int .i64 m, .int .i64 p, .slice (some ⟨g, o, none⟩) 4 c]] w _
  have qh : ¬ (9223372036854775807 < 10 + A.length) := by omega
  have hl0 : (0 : Int) < (us.length : Int) := by omega
  have HK := hide hk; clear hk
  have qi : ¬ (9223372036854775807 < 10 + A.length + 1) := by omega
  go_enter Tryz.func20, Tryz.ntmps20
  go_wp2_with fail; go_at_call 41; refine ((HST _).out).mono ?_; rintro e v1 ⟨rfl, hv1⟩; have GV := hide (gb_trans (by exact gb_alloc (gb_refl w none) _) hv1); have BV := hide (B0.out.kept (gb_trans (gb_refl _ none) hv1)); obtain ⟨bv0,bv1,bv2,bv3,bv4⟩ := BV.out; obtain ⟨p0,p1,p2,p3,p4⟩ := M0.out.kept GV.out; obtain ⟨r0,r1,r2,r3,r4⟩ := M1.out.kept GV.out; clear hv1; go_wp2_with fail
  go_loopw [3, 5] (fun sv iv wr => ∃ (i : Nat) (Y : List UInt8), i ≤ us.length ∧ iv = .int .i64 ↑i ∧ sv = .string ⟨Y.toArray⟩ ∧ Hid (Y = [80, 82, 79, 67, 69, 68, 85, 82, 69, 32] ++ A ++ [40] ++ sepTx [59, 32] ((us.map paramTx).take i)) ∧ Hid (w.grownBy wr none) ∧ Hid (Box wr w.heap.size (.mk 7 x m p [.mk 1 [] 0 q us, rs, vs, bs]) (.slice (some ⟨g, o, none⟩) 4 c))) (fun _ iv _ => us.length - (intOf iv).toNat)
  case atStart => exact ⟨0, [80, 82, 79, 67, 69, 68, 85, 82, 69, 32] ++ A ++ [40], Nat.zero_le _, rfl, strA_eq (by repeat rw [ba_app]), by show _ = _; simp [sepTx], GV, BV⟩
  case round =>
    clear bv0 bv1 bv2 bv3 bv4 p0 p1 p2 p3 p4 r0 r1 r2 r3 r4; obtain ⟨i,Y,_,rfl,rfl,HY,G0,BR⟩ := hrel; obtain ⟨b0,_,_,_,_⟩ := BR.out; have bl := block_lt b0
    have hY : Y.length ≤ 5000000 := by
      rw [HY.out]; have := sepTx_le [59, 32] (us.map paramTx) i; simp only [List.length_append, List.length_cons, List.length_nil]
      omega
    by_cases hlt : i < us.length
    · obtain ⟨t, ht⟩ : ∃ t, us[i]? = some t := ⟨_, List.getElem?_eq_getElem hlt⟩
      have hmem := List.mem_of_getElem? ht; obtain ⟨y,n,q1,z,rfl,_,_,hz9⟩ := HK.out t hmem; obtain ⟨gg,oo,_,e1,n5,ft,aT⟩ := A0.out.node i _ ht; cases e1; obtain ⟨g2, o2, c2, z', sz, rfl, hn2, hc2, hl2, m5, fz, az⟩ := aT.one rfl
      obtain rfl : z = z' := by simpa [T.subs] using hl2
      have NT := hide (n5.kept G0.out); have NZ := hide (m5.kept G0.out); have AZ := hide az; have HZ := hide hz9
      have htx : (us.map paramTx)[i]? = some (paramTx (.mk 8 y n q1 [z])) := by rw [List.getElem?_map, ht]; rfl
      have HT := hide (sepTx_take [59, 32] (us.map paramTx) i _ htx)
      have HLE : Hid (paramTx (.mk 8 y n q1 [z]) = (if n = 1 then [86, 65, 82, 32] else []) ++ (y ++ ([58, 32] ++ nameTx z))) := rfl
      generalize nameTx z = N at *
      have gl1 := block_lt NT.out.c0; have gl2 := block_lt NZ.out.c0; obtain ⟨_,_,_,_,_⟩ := NT.out.p
      clear ht htx hmem ft aT hl2 fz az m5 n5 hz9
      have qa : ¬ (9223372036854775807 < Y.length + 2) := by omega
      have qb : ¬ (9223372036854775807 < Y.length + 4) := by omega
      have qc : ¬ (9223372036854775807 < Y.length + 2 + 4) := by omega
      by_cases h0 : 0 < i
      · have h0' : (0 : Int) < (i : Int) := by omega
        by_cases h1 : n = 1
        · have h1' : (n == 1) = true := by rw [h1]; rfl
          have HN1 := hide h1; clear h1
          have qq1 : ¬ (9223372036854775807 < Y.length + 2 + 4 + y.length) := by omega
          have qq2 : ¬ (9223372036854775807 < Y.length + 2 + 4 + y.length + 2) := by omega
          have qq3 : ¬ (9223372036854775807 < Y.length + 2 + 4 + y.length + 2 + N.length) := by omega
          go_wp2_with fail; refine wp_region_held_drew (S := (fun w' => w'.cell? ⟨gg, oo + i * 5 + 1, none⟩ = some (.string ⟨y.toArray⟩) ∧ w'.cell? ⟨gg, oo + i * 5 + 4, none⟩ = some (.slice (some ⟨g2, o2, none⟩) 1 c2) ∧ Node5 w' g2 o2 z sz)) (by kernel_rfl) ?_ (fun hHeld => ?_)
          · exact ⟨gb_cell (gb_drew (gb_refl wr none)) NT.out.c1, gb_cell (gb_drew (gb_refl wr none)) NT.out.c4, NZ.out.kept (gb_drew (gb_refl wr none))⟩
          refine tk 0 (.string (((⟨List.toArray Y⟩ : ByteArray) ++ (⟨List.toArray [59, 32]⟩ : ByteArray)) ++ (⟨List.toArray [86, 65, 82, 32]⟩ : ByteArray))) rfl (fun _ _ => by go_simp) hHeld ?_; simp only [Act.put, List.setIfInBounds_toArray]; refine tk 1 (.slice (some ⟨gg, oo, none⟩) us.length sc) rfl (fun _ _ => by go_simp) hHeld ?_; simp only [Act.put]; refine tk 2 (.int .i64 ↑i) rfl (fun _ _ => by go_simp) hHeld ?_; simp only [Act.put]; refine tk 3 (.pointer (some ⟨gg, oo + i * 5, none⟩)) rfl (fun _ _ => by go_simp) hHeld ?_; simp only [Act.put]; refine tk 4 (.pointer (some ⟨gg, oo + i * 5 + 1, none⟩)) rfl (fun _ _ => by go_simp) hHeld ?_; simp only [Act.put]; refine tk 5 (.string (⟨List.toArray y⟩ : ByteArray)) rfl (fun _ ⟨_,_,⟨_,_,_,_,_⟩⟩ => by go_simp) hHeld ?_; simp only [Act.put]; refine tk 6 (.string ((((⟨List.toArray Y⟩ : ByteArray) ++ (⟨List.toArray [59, 32]⟩ : ByteArray)) ++ (⟨List.toArray [86, 65, 82, 32]⟩ : ByteArray)) ++ (⟨List.toArray y⟩ : ByteArray))) rfl (fun _ _ => by go_simp) hHeld ?_; simp only [Act.put]; refine tk 7 (.string (((((⟨List.toArray Y⟩ : ByteArray) ++ (⟨List.toArray [59, 32]⟩ : ByteArray)) ++ (⟨List.toArray [86, 65, 82, 32]⟩ : ByteArray)) ++ (⟨List.toArray y⟩ : ByteArray)) ++ (⟨List.toArray [58, 32]⟩ : ByteArray))) rfl (fun _ _ => by go_simp) hHeld ?_; simp only [Act.put]; refine tk 8 (.slice (some ⟨gg, oo, none⟩) us.length sc) rfl (fun _ _ => by go_simp) hHeld ?_; simp only [Act.put]; refine tk 9 (.int .i64 ↑i) rfl (fun _ _ => by go_simp) hHeld ?_; simp only [Act.put]; refine tk 10 (.pointer (some ⟨gg, oo + i * 5, none⟩)) rfl (fun _ _ => by go_simp) hHeld ?_; simp only [Act.put]; refine tk 11 (.pointer (some ⟨gg, oo + i * 5 + 4, none⟩)) rfl (fun _ _ => by go_simp) hHeld ?_
          simp only [Act.put]; refine tk 12 (.slice (some ⟨g2, o2, none⟩) 1 c2) rfl (fun _ ⟨_,_,⟨_,_,_,_,_⟩⟩ => by go_simp) hHeld ?_; simp only [Act.put]; refine tk 13 (.pointer (some ⟨g2, o2, none⟩)) rfl (fun _ _ => by go_simp) hHeld ?_; simp only [Act.put]; refine tk 14 (nodeV z sz) rfl (fun _ ⟨_,_,⟨_,_,_,_,_⟩⟩ => by go_simp) hHeld ?_; simp only [Act.put]; refine rd 15 rfl fun KK hKK => ?_
          go_simp
          go_at_call 44; refine (HZ.out _ _ (by exact gb_drew G0.out) (AZ.out.kept (by exact gb_drew G0.out))).mono ?_; rintro e w1 ⟨rfl, hg1⟩; have G1 := hide (gb_trans (by exact gb_drew G0.out) hg1); have B1 := hide (BR.out.kept (gb_trans (by exact gb_drew (gb_refl wr none)) hg1)); have R1 := hide (gb_trans (by exact gb_drew (gb_refl wr none)) hg1); clear hg1
          go_simp
          refine hKK.out _ _ ⟨gb_cell R1.out NT.out.c1, gb_cell R1.out NT.out.c4, NZ.out.kept R1.out⟩ fun hHeld => ?_
          clear hKK KK; refine rd 16 rfl fun KK hKK => ?_
          go_simp
          refine hKK.out _ _ hHeld fun hHeld => ?_
          clear hKK KK; refine rd 17 rfl fun KK hKK => ?_
          go_simp
          refine hKK.out _ _ hHeld fun hHeld => ?_
          clear hKK KK; refine wpAnyH_done (by kernel_rfl) ?_ _; clear hHeld; go_wp2_with fail; refine ⟨⟨i + 1, Y ++ [59, 32] ++ [86, 65, 82, 32] ++ y ++ [58, 32] ++ N, by omega, by go_num, strA_eq (by repeat rw [ba_app]), ?_, G1, B1⟩, by simp [intOf]; omega⟩
          show _ = _
          rw [HT.out, HLE.out, HY.out, if_neg (show ¬ i = 0 by omega), if_pos HN1.out]; simp only [List.append_assoc]
        · have h1' : (n == 1) = false := by rw [beq_eq_false_iff_ne]; exact h1
          have HN1 := hide h1; clear h1
          have qq1 : ¬ (9223372036854775807 < Y.length + 2 + y.length) := by omega
          have qq2 : ¬ (9223372036854775807 < Y.length + 2 + y.length + 2) := by omega
          have qq3 : ¬ (9223372036854775807 < Y.length + 2 + y.length + 2 + N.length) := by omega
          go_wp2_with fail; refine wp_region_held_drew (S := (fun w' => w'.cell? ⟨gg, oo + i * 5 + 1, none⟩ = some (.string ⟨y.toArray⟩) ∧ w'.cell? ⟨gg, oo + i * 5 + 4, none⟩ = some (.slice (some ⟨g2, o2, none⟩) 1 c2) ∧ Node5 w' g2 o2 z sz)) (by kernel_rfl) ?_ (fun hHeld => ?_)
          · exact ⟨gb_cell (gb_drew (gb_refl wr none)) NT.out.c1, gb_cell (gb_drew (gb_refl wr none)) NT.out.c4, NZ.out.kept (gb_drew (gb_refl wr none))⟩
          refine tk 0 (.string ((⟨List.toArray Y⟩ : ByteArray) ++ (⟨List.toArray [59, 32]⟩ : ByteArray))) rfl (fun _ _ => by go_simp) hHeld ?_; simp only [Act.put, List.setIfInBounds_toArray]; refine tk 1 (.slice (some ⟨gg, oo, none⟩) us.length sc) rfl (fun _ _ => by go_simp) hHeld ?_; simp only [Act.put]; refine tk 2 (.int .i64 ↑i) rfl (fun _ _ => by go_simp) hHeld ?_; simp only [Act.put]; refine tk 3 (.pointer (some ⟨gg, oo + i * 5, none⟩)) rfl (fun _ _ => by go_simp) hHeld ?_; simp only [Act.put]; refine tk 4 (.pointer (some ⟨gg, oo + i * 5 + 1, none⟩)) rfl (fun _ _ => by go_simp) hHeld ?_; simp only [Act.put]; refine tk 5 (.string (⟨List.toArray y⟩ : ByteArray)) rfl (fun _ ⟨_,_,⟨_,_,_,_,_⟩⟩ => by go_simp) hHeld ?_; simp only [Act.put]; refine tk 6 (.string (((⟨List.toArray Y⟩ : ByteArray) ++ (⟨List.toArray [59, 32]⟩ : ByteArray)) ++ (⟨List.toArray y⟩ : ByteArray))) rfl (fun _ _ => by go_simp) hHeld ?_; simp only [Act.put]; refine tk 7 (.string ((((⟨List.toArray Y⟩ : ByteArray) ++ (⟨List.toArray [59, 32]⟩ : ByteArray)) ++ (⟨List.toArray y⟩ : ByteArray)) ++ (⟨List.toArray [58, 32]⟩ : ByteArray))) rfl (fun _ _ => by go_simp) hHeld ?_; simp only [Act.put]; refine tk 8 (.slice (some ⟨gg, oo, none⟩) us.length sc) rfl (fun _ _ => by go_simp) hHeld ?_; simp only [Act.put]; refine tk 9 (.int .i64 ↑i) rfl (fun _ _ => by go_simp) hHeld ?_; simp only [Act.put]; refine tk 10 (.pointer (some ⟨gg, oo + i * 5, none⟩)) rfl (fun _ _ => by go_simp) hHeld ?_; simp only [Act.put]; refine tk 11 (.pointer (some ⟨gg, oo + i * 5 + 4, none⟩)) rfl (fun _ _ => by go_simp) hHeld ?_; simp only [Act.put]; refine tk 12 (.slice (some ⟨g2, o2, none⟩) 1 c2) rfl (fun _ ⟨_,_,⟨_,_,_,_,_⟩⟩ => by go_simp) hHeld ?_
          simp only [Act.put]; refine tk 13 (.pointer (some ⟨g2, o2, none⟩)) rfl (fun _ _ => by go_simp) hHeld ?_; simp only [Act.put]; refine tk 14 (nodeV z sz) rfl (fun _ ⟨_,_,⟨_,_,_,_,_⟩⟩ => by go_simp) hHeld ?_; simp only [Act.put]; refine rd 15 rfl fun KK hKK => ?_
          go_simp
          go_at_call 44; refine (HZ.out _ _ (by exact gb_drew G0.out) (AZ.out.kept (by exact gb_drew G0.out))).mono ?_; rintro e w1 ⟨rfl, hg1⟩; have G1 := hide (gb_trans (by exact gb_drew G0.out) hg1); have B1 := hide (BR.out.kept (gb_trans (by exact gb_drew (gb_refl wr none)) hg1)); have R1 := hide (gb_trans (by exact gb_drew (gb_refl wr none)) hg1); clear hg1
          go_simp
          refine hKK.out _ _ ⟨gb_cell R1.out NT.out.c1, gb_cell R1.out NT.out.c4, NZ.out.kept R1.out⟩ fun hHeld => ?_
          clear hKK KK; refine rd 16 rfl fun KK hKK => ?_
          go_simp
          refine hKK.out _ _ hHeld fun hHeld => ?_
          clear hKK KK; refine rd 17 rfl fun KK hKK => ?_
          go_simp
          refine hKK.out _ _ hHeld fun hHeld => ?_
          clear hKK KK; refine wpAnyH_done (by kernel_rfl) ?_ _; clear hHeld; go_wp2_with fail; refine ⟨⟨i + 1, Y ++ [59, 32] ++ y ++ [58, 32] ++ N, by omega, by go_num, strA_eq (by repeat rw [ba_app]), ?_, G1, B1⟩, by simp [intOf]; omega⟩
          show _ = _
          rw [HT.out, HLE.out, HY.out, if_neg (show ¬ i = 0 by omega), if_neg HN1.out]; simp only [List.append_assoc, List.nil_append]
      · have h0' : ¬ (0 : Int) < (i : Int) := by omega
        by_cases h1 : n = 1
        · have h1' : (n == 1) = true := by rw [h1]; rfl
          have HN1 := hide h1; clear h1
          have qq1 : ¬ (9223372036854775807 < Y.length + 4 + y.length) := by omega
          have qq2 : ¬ (9223372036854775807 < Y.length + 4 + y.length + 2) := by omega
          have qq3 : ¬ (9223372036854775807 < Y.length + 4 + y.length + 2 + N.length) := by omega
          go_wp2_with fail; refine wp_region_held_drew (S := (fun w' => w'.cell? ⟨gg, oo + i * 5 + 1, none⟩ = some (.string ⟨y.toArray⟩) ∧ w'.cell? ⟨gg, oo + i * 5 + 4, none⟩ = some (.slice (some ⟨g2, o2, none⟩) 1 c2) ∧ Node5 w' g2 o2 z sz)) (by kernel_rfl) ?_ (fun hHeld => ?_)
          · exact ⟨gb_cell (gb_drew (gb_refl wr none)) NT.out.c1, gb_cell (gb_drew (gb_refl wr none)) NT.out.c4, NZ.out.kept (gb_drew (gb_refl wr none))⟩
          refine tk 0 (.string ((⟨List.toArray Y⟩ : ByteArray) ++ (⟨List.toArray [86, 65, 82, 32]⟩ : ByteArray))) rfl (fun _ _ => by go_simp) hHeld ?_; simp only [Act.put, List.setIfInBounds_toArray]; refine tk 1 (.slice (some ⟨gg, oo, none⟩) us.length sc) rfl (fun _ _ => by go_simp) hHeld ?_; simp only [Act.put]; refine tk 2 (.int .i64 ↑i) rfl (fun _ _ => by go_simp) hHeld ?_; simp only [Act.put]; refine tk 3 (.pointer (some ⟨gg, oo + i * 5, none⟩)) rfl (fun _ _ => by go_simp) hHeld ?_; simp only [Act.put]; refine tk 4 (.pointer (some ⟨gg, oo + i * 5 + 1, none⟩)) rfl (fun _ _ => by go_simp) hHeld ?_; simp only [Act.put]; refine tk 5 (.string (⟨List.toArray y⟩ : ByteArray)) rfl (fun _ ⟨_,_,⟨_,_,_,_,_⟩⟩ => by go_simp) hHeld ?_; simp only [Act.put]; refine tk 6 (.string (((⟨List.toArray Y⟩ : ByteArray) ++ (⟨List.toArray [86, 65, 82, 32]⟩ : ByteArray)) ++ (⟨List.toArray y⟩ : ByteArray))) rfl (fun _ _ => by go_simp) hHeld ?_; simp only [Act.put]; refine tk 7 (.string ((((⟨List.toArray Y⟩ : ByteArray) ++ (⟨List.toArray [86, 65, 82, 32]⟩ : ByteArray)) ++ (⟨List.toArray y⟩ : ByteArray)) ++ (⟨List.toArray [58, 32]⟩ : ByteArray))) rfl (fun _ _ => by go_simp) hHeld ?_; simp only [Act.put]; refine tk 8 (.slice (some ⟨gg, oo, none⟩) us.length sc) rfl (fun _ _ => by go_simp) hHeld ?_; simp only [Act.put]; refine tk 9 (.int .i64 ↑i) rfl (fun _ _ => by go_simp) hHeld ?_; simp only [Act.put]; refine tk 10 (.pointer (some ⟨gg, oo + i * 5, none⟩)) rfl (fun _ _ => by go_simp) hHeld ?_; simp only [Act.put]; refine tk 11 (.pointer (some ⟨gg, oo + i * 5 + 4, none⟩)) rfl (fun _ _ => by go_simp) hHeld ?_; simp only [Act.put]
          refine tk 12 (.slice (some ⟨g2, o2, none⟩) 1 c2) rfl (fun _ ⟨_,_,⟨_,_,_,_,_⟩⟩ => by go_simp) hHeld ?_; simp only [Act.put]; refine tk 13 (.pointer (some ⟨g2, o2, none⟩)) rfl (fun _ _ => by go_simp) hHeld ?_; simp only [Act.put]; refine tk 14 (nodeV z sz) rfl (fun _ ⟨_,_,⟨_,_,_,_,_⟩⟩ => by go_simp) hHeld ?_; simp only [Act.put]; refine rd 15 rfl fun KK hKK => ?_
          go_simp
          go_at_call 44; refine (HZ.out _ _ (by exact gb_drew G0.out) (AZ.out.kept (by exact gb_drew G0.out))).mono ?_; rintro e w1 ⟨rfl, hg1⟩; have G1 := hide (gb_trans (by exact gb_drew G0.out) hg1); have B1 := hide (BR.out.kept (gb_trans (by exact gb_drew (gb_refl wr none)) hg1)); have R1 := hide (gb_trans (by exact gb_drew (gb_refl wr none)) hg1); clear hg1
          go_simp
          refine hKK.out _ _ ⟨gb_cell R1.out NT.out.c1, gb_cell R1.out NT.out.c4, NZ.out.kept R1.out⟩ fun hHeld => ?_
          clear hKK KK; refine rd 16 rfl fun KK hKK => ?_
          go_simp
          refine hKK.out _ _ hHeld fun hHeld => ?_
          clear hKK KK; refine rd 17 rfl fun KK hKK => ?_
          go_simp
          refine hKK.out _ _ hHeld fun hHeld => ?_
          clear hKK KK; refine wpAnyH_done (by kernel_rfl) ?_ _; clear hHeld; go_wp2_with fail; refine ⟨⟨i + 1, Y ++ [86, 65, 82, 32] ++ y ++ [58, 32] ++ N, by omega, by go_num, strA_eq (by repeat rw [ba_app]), ?_, G1, B1⟩, by simp [intOf]; omega⟩
          show _ = _
          rw [HT.out, HLE.out, HY.out, if_pos (show i = 0 by omega), if_pos HN1.out]; simp only [List.append_assoc, List.nil_append]
        · have h1' : (n == 1) = false := by rw [beq_eq_false_iff_ne]; exact h1
          have HN1 := hide h1; clear h1
          have qq1 : ¬ (9223372036854775807 < Y.length + y.length) := by omega
          have qq2 : ¬ (9223372036854775807 < Y.length + y.length + 2) := by omega
          have qq3 : ¬ (9223372036854775807 < Y.length + y.length + 2 + N.length) := by omega
          go_wp2_with fail; refine wp_region_held_drew (S := (fun w' => w'.cell? ⟨gg, oo + i * 5 + 1, none⟩ = some (.string ⟨y.toArray⟩) ∧ w'.cell? ⟨gg, oo + i * 5 + 4, none⟩ = some (.slice (some ⟨g2, o2, none⟩) 1 c2) ∧ Node5 w' g2 o2 z sz)) (by kernel_rfl) ?_ (fun hHeld => ?_)
          · exact ⟨gb_cell (gb_drew (gb_refl wr none)) NT.out.c1, gb_cell (gb_drew (gb_refl wr none)) NT.out.c4, NZ.out.kept (gb_drew (gb_refl wr none))⟩
          refine tk 0 (.string (⟨List.toArray Y⟩ : ByteArray)) rfl (fun _ _ => by go_simp) hHeld ?_; simp only [Act.put, List.setIfInBounds_toArray]; refine tk 1 (.slice (some ⟨gg, oo, none⟩) us.length sc) rfl (fun _ _ => by go_simp) hHeld ?_; simp only [Act.put]; refine tk 2 (.int .i64 ↑i) rfl (fun _ _ => by go_simp) hHeld ?_; simp only [Act.put]; refine tk 3 (.pointer (some ⟨gg, oo + i * 5, none⟩)) rfl (fun _ _ => by go_simp) hHeld ?_; simp only [Act.put]; refine tk 4 (.pointer (some ⟨gg, oo + i * 5 + 1, none⟩)) rfl (fun _ _ => by go_simp) hHeld ?_; simp only [Act.put]; refine tk 5 (.string (⟨List.toArray y⟩ : ByteArray)) rfl (fun _ ⟨_,_,⟨_,_,_,_,_⟩⟩ => by go_simp) hHeld ?_; simp only [Act.put]; refine tk 6 (.string ((⟨List.toArray Y⟩ : ByteArray) ++ (⟨List.toArray y⟩ : ByteArray))) rfl (fun _ _ => by go_simp) hHeld ?_; simp only [Act.put]; refine tk 7 (.string (((⟨List.toArray Y⟩ : ByteArray) ++ (⟨List.toArray y⟩ : ByteArray)) ++ (⟨List.toArray [58, 32]⟩ : ByteArray))) rfl (fun _ _ => by go_simp) hHeld ?_; simp only [Act.put]; refine tk 8 (.slice (some ⟨gg, oo, none⟩) us.length sc) rfl (fun _ _ => by go_simp) hHeld ?_; simp only [Act.put]; refine tk 9 (.int .i64 ↑i) rfl (fun _ _ => by go_simp) hHeld ?_; simp only [Act.put]; refine tk 10 (.pointer (some ⟨gg, oo + i * 5, none⟩)) rfl (fun _ _ => by go_simp) hHeld ?_; simp only [Act.put]; refine tk 11 (.pointer (some ⟨gg, oo + i * 5 + 4, none⟩)) rfl (fun _ _ => by go_simp) hHeld ?_; simp only [Act.put]; refine tk 12 (.slice (some ⟨g2, o2, none⟩) 1 c2) rfl (fun _ ⟨_,_,⟨_,_,_,_,_⟩⟩ => by go_simp) hHeld ?_
          simp only [Act.put]; refine tk 13 (.pointer (some ⟨g2, o2, none⟩)) rfl (fun _ _ => by go_simp) hHeld ?_; simp only [Act.put]; refine tk 14 (nodeV z sz) rfl (fun _ ⟨_,_,⟨_,_,_,_,_⟩⟩ => by go_simp) hHeld ?_; simp only [Act.put]; refine rd 15 rfl fun KK hKK => ?_
          go_simp
          go_at_call 44; refine (HZ.out _ _ (by exact gb_drew G0.out) (AZ.out.kept (by exact gb_drew G0.out))).mono ?_; rintro e w1 ⟨rfl, hg1⟩; have G1 := hide (gb_trans (by exact gb_drew G0.out) hg1); have B1 := hide (BR.out.kept (gb_trans (by exact gb_drew (gb_refl wr none)) hg1)); have R1 := hide (gb_trans (by exact gb_drew (gb_refl wr none)) hg1); clear hg1
          go_simp
          refine hKK.out _ _ ⟨gb_cell R1.out NT.out.c1, gb_cell R1.out NT.out.c4, NZ.out.kept R1.out⟩ fun hHeld => ?_
          clear hKK KK; refine rd 16 rfl fun KK hKK => ?_
          go_simp
          refine hKK.out _ _ hHeld fun hHeld => ?_
          clear hKK KK; refine rd 17 rfl fun KK hKK => ?_
          go_simp
          refine hKK.out _ _ hHeld fun hHeld => ?_
          clear hKK KK; refine wpAnyH_done (by kernel_rfl) ?_ _; clear hHeld; go_wp2_with fail; refine ⟨⟨i + 1, Y ++ y ++ [58, 32] ++ N, by omega, by go_num, strA_eq (by repeat rw [ba_app]), ?_, G1, B1⟩, by simp [intOf]; omega⟩
          show _ = _
          rw [HT.out, HLE.out, HY.out, if_pos (show i = 0 by omega), if_neg HN1.out]; simp only [List.append_assoc, List.nil_append]
    · have HX : Hid (Y = [80, 82, 79, 67, 69, 68, 85, 82, 69, 32] ++ A ++ [40] ++ sepTx [59, 32] (us.map paramTx)) := by
        have := HY.out; rw [List.take_of_length_le (by simp; omega)] at this
        exact this
      have qe : ¬ (9223372036854775807 < Y.length + 1) := by omega
      clear HY; obtain ⟨r0,r1,r2,r3,r4⟩ := M1.out.kept G0.out; have N2 := hide (M2.out.kept G0.out); have N3 := hide (M3.out.kept G0.out)
      have qq1 : ¬ (9223372036854775807 < Y.length + 1 + 2) := by omega
      have qq2 : ¬ (9223372036854775807 < Y.length + 1 + 2 + D.length) := by omega
      have qq3 : ¬ (9223372036854775807 < Y.length + 1 + 2 + D.length + 6) := by omega
      have qq4 : ¬ (9223372036854775807 < Y.length + 1 + 2 + D.length + 6 + B.length) := by omega
      have qq5 : ¬ (9223372036854775807 < Y.length + 1 + 2 + D.length + 6 + B.length + 4) := by omega
      have qq6 : ¬ (9223372036854775807 < Y.length + 1 + 2 + D.length + 6 + B.length + 4 + x.length) := by omega
      have qq7 : ¬ (9223372036854775807 < Y.length + 1 + 2 + D.length + 6 + B.length + 4 + x.length + 2) := by omega
      go_wp2_with fail; refine wp_region_held_drew (S := (fun w' => w'.cell? ⟨w.heap.size, 4, none⟩ = some (.slice (some ⟨g, o, none⟩) 4 c) ∧ w'.cell? ⟨w.heap.size, 1, none⟩ = some (.string ⟨x.toArray⟩) ∧ w'.cell? ⟨g, o + 14, none⟩ = some s2 ∧ Node5 w' g (o + 15) bs s3)) (by kernel_rfl) ?_ (fun hHeld => ?_)
      · exact ⟨gb_cell (gb_drew (gb_refl wr none)) BR.out.c4, gb_cell (gb_drew (gb_refl wr none)) BR.out.c1, gb_cell (gb_drew (gb_refl wr none)) N2.out.c4, N3.out.kept (gb_drew (gb_refl wr none))⟩
      refine tk 0 (.string ((⟨List.toArray Y⟩ : ByteArray) ++ (⟨List.toArray [41]⟩ : ByteArray))) rfl (fun _ _ => by go_simp) hHeld ?_; simp only [Act.put, List.setIfInBounds_toArray]; refine tk 1 (.string (((⟨List.toArray Y⟩ : ByteArray) ++ (⟨List.toArray [41]⟩ : ByteArray)) ++ (⟨List.toArray [59, 10]⟩ : ByteArray))) rfl (fun _ _ => by go_simp) hHeld ?_; simp only [Act.put]; refine tk 2 (.pointer (some ⟨w.heap.size, 4, none⟩)) rfl (fun _ _ => by go_simp) hHeld ?_; simp only [Act.put]; refine tk 3 (.slice (some ⟨g, o, none⟩) 4 c) rfl (fun _ ⟨_,_,_,⟨_,_,_,_,_⟩⟩ => by go_simp) hHeld ?_; simp only [Act.put]; refine tk 4 (.pointer (some ⟨g, o + 10, none⟩)) rfl (fun _ _ => by go_simp) hHeld ?_; simp only [Act.put]; refine tk 5 (.pointer (some ⟨g, o + 14, none⟩)) rfl (fun _ _ => by go_simp) hHeld ?_; simp only [Act.put]; refine tk 6 s2 rfl (fun _ ⟨_,_,_,⟨_,_,_,_,_⟩⟩ => by go_simp) hHeld ?_; simp only [Act.put]; refine tk 10 (.pointer (some ⟨w.heap.size, 4, none⟩)) rfl (fun _ _ => by go_simp) hHeld ?_; simp only [Act.put]; refine tk 11 (.slice (some ⟨g, o, none⟩) 4 c) rfl (fun _ ⟨_,_,_,⟨_,_,_,_,_⟩⟩ => by go_simp) hHeld ?_; simp only [Act.put]; refine tk 12 (.pointer (some ⟨g, o + 15, none⟩)) rfl (fun _ _ => by go_simp) hHeld ?_; simp only [Act.put]; refine tk 13 (nodeV bs s3) rfl (fun _ ⟨_,_,_,⟨_,_,_,_,_⟩⟩ => by go_simp) hHeld ?_; simp only [Act.put]; refine tk 17 (.pointer (some ⟨w.heap.size, 1, none⟩)) rfl (fun _ _ => by go_simp) hHeld ?_; simp only [Act.put]; refine tk 18 (.string (⟨List.toArray x⟩ : ByteArray)) rfl (fun _ ⟨_,_,_,⟨_,_,_,_,_⟩⟩ => by go_simp) hHeld ?_
      simp only [Act.put]; refine rd 7 rfl fun KK hKK => ?_
      go_simp
      go_at_call 19; refine (HD.out _ _ (by exact gb_drew G0.out) (A2.out.kept (by exact gb_drew G0.out))).mono ?_; rintro e w1 ⟨rfl, hg1⟩; have G1 := hide (gb_trans (by exact gb_drew G0.out) hg1); have B1 := hide (BR.out.kept (gb_trans (by exact gb_drew (gb_refl wr none)) hg1)); have R1 := hide (gb_trans (by exact gb_drew (gb_refl wr none)) hg1); clear hg1
      go_simp
      refine hKK.out _ _ ⟨B1.out.c4, B1.out.c1, gb_cell R1.out N2.out.c4, N3.out.kept R1.out⟩ fun hHeld => ?_
      clear hKK KK; refine tk 8 (.string ((((⟨List.toArray Y⟩ : ByteArray) ++ (⟨List.toArray [41]⟩ : ByteArray)) ++ (⟨List.toArray [59, 10]⟩ : ByteArray)) ++ (⟨List.toArray D⟩ : ByteArray))) rfl (fun _ _ => by go_simp) hHeld ?_; simp only [Act.put, List.setIfInBounds_toArray]; refine tk 9 (.string (((((⟨List.toArray Y⟩ : ByteArray) ++ (⟨List.toArray [41]⟩ : ByteArray)) ++ (⟨List.toArray [59, 10]⟩ : ByteArray)) ++ (⟨List.toArray D⟩ : ByteArray)) ++ (⟨List.toArray [66, 69, 71, 73, 78, 10]⟩ : ByteArray))) rfl (fun _ _ => by go_simp) hHeld ?_; simp only [Act.put]; refine rd 14 rfl fun KK hKK => ?_
      go_simp
      go_at_call 21; refine (HB.out _ _ G1.out (A3.out.kept G1.out)).mono ?_; rintro e w2 ⟨rfl, hg2⟩; have G2 := hide (gb_trans G1.out hg2); have B2 := hide (B1.out.kept (gb_trans (gb_refl w1 none) hg2)); have R2 := hide (gb_trans R1.out hg2); clear hg2
      go_simp
      refine hKK.out _ _ ⟨B2.out.c4, B2.out.c1, gb_cell R2.out N2.out.c4, N3.out.kept R2.out⟩ fun hHeld => ?_
      clear hKK KK; refine rd 15 rfl fun KK hKK => ?_
      go_simp
      refine hKK.out _ _ hHeld fun hHeld => ?_
      clear hKK KK; refine rd 16 rfl fun KK hKK => ?_
      go_simp
      refine hKK.out _ _ hHeld fun hHeld => ?_
      clear hKK KK; refine rd 19 rfl fun KK hKK => ?_
      go_simp
      refine hKK.out _ _ hHeld fun hHeld => ?_
      clear hKK KK; refine rd 20 rfl fun KK hKK => ?_
      go_simp
      refine hKK.out _ _ hHeld fun hHeld => ?_
      clear hKK KK; refine rd 21 rfl fun KK hKK => ?_
      go_simp
      refine hKK.out _ _ hHeld fun hHeld => ?_
      clear hKK KK; refine wpAnyH_done (by kernel_rfl) ?_ _; clear hHeld; go_wp2_with fail
      go_ret
      refine ⟨(show Ending.returned (.string (((((((((⟨List.toArray Y⟩ : ByteArray) ++ (⟨List.toArray [41]⟩ : ByteArray)) ++ (⟨List.toArray [59, 10]⟩ : ByteArray)) ++ (⟨List.toArray D⟩ : ByteArray)) ++ (⟨List.toArray [66, 69, 71, 73, 78, 10]⟩ : ByteArray)) ++ (⟨List.toArray B⟩ : ByteArray)) ++ (⟨List.toArray [69, 78, 68, 32]⟩ : ByteArray)) ++ (⟨List.toArray x⟩ : ByteArray)) ++ (⟨List.toArray [59, 10]⟩ : ByteArray))) = _ from ret_str ?_), G2.out⟩
      repeat rw [ba_app]
      rw [HX.out]; simp only [List.append_assoc]
      try rfl
theorem procR (x : List UInt8) (m p q : Int) (us : List T) (rs vs bs : T) (sv : Value) (w : World) (ha : AT w (T.mk 7 x m p [.mk 1 [] 0 q us, rs, vs, bs]).subs sv) (hx : x.length ≤ 12) (D B : List UInt8) (lD : D.length ≤ 4000000) (hD : ∀ w' sl, w.grownBy w' none → AT w' vs.subs sl → Calls Tryz.prog 19 #[.string ⟨List.toArray [86, 65, 82]⟩, sl] w' (Sy w' (.string ⟨D.toArray⟩))) (hB : STx w bs [32, 32] B) (hus : 0 < us.length) (hr : (rs.kind != 0) = true) (R : List UInt8) (hR : NTx w rs R) (hk : ∀ t ∈ us, ∃ y n q z, t = .mk 8 y n q [z] ∧ y.length ≤ 12 ∧ NTx w z (nameTx z)) (hlen : (sepTx [59, 32] (us.map paramTx)).length ≤ 4000000) :
    Calls Tryz.prog 20 #[.agg #[.int .i64 7, .string ⟨x.toArray⟩, .int .i64 m, .int .i64 p, sv]] w (Sy w (.string ⟨([80, 82, 79, 67, 69, 68, 85, 82, 69, 32] ++ (starTx (.mk 7 x m p [.mk 1 [] 0 q us, rs, vs, bs]) ++ ([40] ++ (sepTx [59, 32] (us.map paramTx) ++ ([41] ++ ([58, 32] ++ (R ++ ([59, 10] ++ (D ++ ([66, 69, 71, 73, 78, 10] ++ (B ++ ([69, 78, 68, 32] ++ (x ++ [59, 10]))))))))))))).toArray⟩)) := by
  have HD := hide hD; obtain ⟨_,hB2⟩ := hB; have HB := hide hB2; obtain ⟨_,c,rfl,hn,hcc0⟩ := ha.form
  have hcc : c ≤ 9223372036854775807 := by unfold maxLen at hcc0; omega
  have hn4 : 4 ≤ c := hn; obtain ⟨g, o, s0, e0, n0, -, a0⟩ := ha.node 0 _ rfl; subst e0; obtain ⟨g', o', s1, e1, n1, -, a1⟩ := ha.node 1 _ rfl; cases e1; obtain ⟨g', o', s2, e1, n2, -, a2⟩ := ha.node 2 _ rfl; cases e1; obtain ⟨g', o', s3, e1, n3, -, a3⟩ := ha.node 3 _ rfl; cases e1; have M0 : Hid (Node5 w g o (.mk 1 [] 0 q us) s0) := n0; have M1 : Hid (Node5 w g (o + 5) rs s1) := n1; have M2 : Hid (Node5 w g (o + 10) vs s2) := n2; have M3 : Hid (Node5 w g (o + 15) bs s3) := n3; have A1 := hide a1; have A2 := hide a2; have A3 := hide a3; have hgl : g < w.heap.size := block_lt n0.c0
  change AT w us s0 at a0
  have A0 := hide a0; obtain ⟨_,sc,rfl,_,hs2⟩ := a0.form
  unfold maxLen at hs2
  have B0 : Hid (Box (w.alloc (.cells #[.int .i64 7, .string ⟨x.toArray⟩, .int .i64 m, .int .i64 p, .slice (some ⟨g, o, none⟩) 4 c] 24)) w.heap.size (.mk 7 x m p [.mk 1 [] 0 q us, rs, vs, bs]) (.slice (some ⟨g, o, none⟩) 4 c)) := Box.new w (.mk 7 x m p [.mk 1 [] 0 q us, rs, vs, bs]) (.slice (some ⟨g, o, none⟩) 4 c) 24
  have lA : (starTx (.mk 7 x m p [.mk 1 [] 0 q us, rs, vs, bs])).length ≤ 13 := by unfold starTx; split <;> simp [T.name] <;> omega
  have HST : ∀ w', Hid (Calls Tryz.prog 41 #[.agg #[.int .i64 7, .string ⟨x.toArray⟩, .int .i64 m, .int .i64 p, .slice (some ⟨g, o, none⟩) 4 c]] w' (Sy w' (.string ⟨(starTx (.mk 7 x m p [.mk 1 [] 0 q us, rs, vs, bs])).toArray⟩))) := fun w' => starred_any (.mk 7 x m p [.mk 1 [] 0 q us, rs, vs, bs]) (.slice (some ⟨g, o, none⟩) 4 c) w' hx ⟨_, _, _, rfl⟩
  generalize starTx (.mk 7 x m p [.mk 1 [] 0 q us, rs, vs, bs]) = A at *
  clear ha hD hB2 hcc0 hn n0 n1 n2 n3 a0 a1 a2 a3
  change Calls Tryz.prog 20 #[.agg #[.int .i64 7, .string ⟨x.toArray⟩, .int .i64 m, .int .i64 p, .slice (some ⟨g, o, none⟩) 4 c]] w _
  have qh : ¬ (9223372036854775807 < 10 + A.length) := by omega
  have hl0 : (0 : Int) < (us.length : Int) := by omega
  obtain ⟨_,hR2⟩ := hR; have HR := hide hR2; clear hR2; have HK := hide hk; clear hk
  have qi : ¬ (9223372036854775807 < 10 + A.length + 1) := by omega
  go_enter Tryz.func20, Tryz.ntmps20
  go_wp2_with fail; go_at_call 41; refine ((HST _).out).mono ?_; rintro e v1 ⟨rfl, hv1⟩; have GV := hide (gb_trans (by exact gb_alloc (gb_refl w none) _) hv1); have BV := hide (B0.out.kept (gb_trans (gb_refl _ none) hv1)); obtain ⟨bv0,bv1,bv2,bv3,bv4⟩ := BV.out; obtain ⟨p0,p1,p2,p3,p4⟩ := M0.out.kept GV.out; obtain ⟨r0,r1,r2,r3,r4⟩ := M1.out.kept GV.out; clear hv1; go_wp2_with fail
  go_loopw [3, 5] (fun sv iv wr => ∃ (i : Nat) (Y : List UInt8), i ≤ us.length ∧ iv = .int .i64 ↑i ∧ sv = .string ⟨Y.toArray⟩ ∧ Hid (Y = [80, 82, 79, 67, 69, 68, 85, 82, 69, 32] ++ A ++ [40] ++ sepTx [59, 32] ((us.map paramTx).take i)) ∧ Hid (w.grownBy wr none) ∧ Hid (Box wr w.heap.size (.mk 7 x m p [.mk 1 [] 0 q us, rs, vs, bs]) (.slice (some ⟨g, o, none⟩) 4 c))) (fun _ iv _ => us.length - (intOf iv).toNat)
  case atStart => exact ⟨0, [80, 82, 79, 67, 69, 68, 85, 82, 69, 32] ++ A ++ [40], Nat.zero_le _, rfl, strA_eq (by repeat rw [ba_app]), by show _ = _; simp [sepTx], GV, BV⟩
  case round =>
    clear bv0 bv1 bv2 bv3 bv4 p0 p1 p2 p3 p4 r0 r1 r2 r3 r4; obtain ⟨i,Y,_,rfl,rfl,HY,G0,BR⟩ := hrel; obtain ⟨b0,_,_,_,_⟩ := BR.out; have bl := block_lt b0
    have hY : Y.length ≤ 5000000 := by
      rw [HY.out]; have := sepTx_le [59, 32] (us.map paramTx) i; simp only [List.length_append, List.length_cons, List.length_nil]
      omega
    by_cases hlt : i < us.length
    · obtain ⟨t, ht⟩ : ∃ t, us[i]? = some t := ⟨_, List.getElem?_eq_getElem hlt⟩
      have hmem := List.mem_of_getElem? ht; obtain ⟨y,n,q1,z,rfl,_,_,hz9⟩ := HK.out t hmem; obtain ⟨gg,oo,_,e1,n5,ft,aT⟩ := A0.out.node i _ ht; cases e1; obtain ⟨g2, o2, c2, z', sz, rfl, hn2, hc2, hl2, m5, fz, az⟩ := aT.one rfl
      obtain rfl : z = z' := by simpa [T.subs] using hl2
      have NT := hide (n5.kept G0.out); have NZ := hide (m5.kept G0.out); have AZ := hide az; have HZ := hide hz9
      have htx : (us.map paramTx)[i]? = some (paramTx (.mk 8 y n q1 [z])) := by rw [List.getElem?_map, ht]; rfl
      have HT := hide (sepTx_take [59, 32] (us.map paramTx) i _ htx)
      have HLE : Hid (paramTx (.mk 8 y n q1 [z]) = (if n = 1 then [86, 65, 82, 32] else []) ++ (y ++ ([58, 32] ++ nameTx z))) := rfl
      generalize nameTx z = N at *
      have gl1 := block_lt NT.out.c0; have gl2 := block_lt NZ.out.c0; obtain ⟨_,_,_,_,_⟩ := NT.out.p
      clear ht htx hmem ft aT hl2 fz az m5 n5 hz9
      have qa : ¬ (9223372036854775807 < Y.length + 2) := by omega
      have qb : ¬ (9223372036854775807 < Y.length + 4) := by omega
      have qc : ¬ (9223372036854775807 < Y.length + 2 + 4) := by omega
      by_cases h0 : 0 < i
      · have h0' : (0 : Int) < (i : Int) := by omega
        by_cases h1 : n = 1
        · have h1' : (n == 1) = true := by rw [h1]; rfl
          have HN1 := hide h1; clear h1
          have qq1 : ¬ (9223372036854775807 < Y.length + 2 + 4 + y.length) := by omega
          have qq2 : ¬ (9223372036854775807 < Y.length + 2 + 4 + y.length + 2) := by omega
          have qq3 : ¬ (9223372036854775807 < Y.length + 2 + 4 + y.length + 2 + N.length) := by omega
          go_wp2_with fail; refine wp_region_held_drew (S := (fun w' => w'.cell? ⟨gg, oo + i * 5 + 1, none⟩ = some (.string ⟨y.toArray⟩) ∧ w'.cell? ⟨gg, oo + i * 5 + 4, none⟩ = some (.slice (some ⟨g2, o2, none⟩) 1 c2) ∧ Node5 w' g2 o2 z sz)) (by kernel_rfl) ?_ (fun hHeld => ?_)
          · exact ⟨gb_cell (gb_drew (gb_refl wr none)) NT.out.c1, gb_cell (gb_drew (gb_refl wr none)) NT.out.c4, NZ.out.kept (gb_drew (gb_refl wr none))⟩
          refine tk 0 (.string (((⟨List.toArray Y⟩ : ByteArray) ++ (⟨List.toArray [59, 32]⟩ : ByteArray)) ++ (⟨List.toArray [86, 65, 82, 32]⟩ : ByteArray))) rfl (fun _ _ => by go_simp) hHeld ?_; simp only [Act.put, List.setIfInBounds_toArray]; refine tk 1 (.slice (some ⟨gg, oo, none⟩) us.length sc) rfl (fun _ _ => by go_simp) hHeld ?_; simp only [Act.put]; refine tk 2 (.int .i64 ↑i) rfl (fun _ _ => by go_simp) hHeld ?_; simp only [Act.put]; refine tk 3 (.pointer (some ⟨gg, oo + i * 5, none⟩)) rfl (fun _ _ => by go_simp) hHeld ?_; simp only [Act.put]; refine tk 4 (.pointer (some ⟨gg, oo + i * 5 + 1, none⟩)) rfl (fun _ _ => by go_simp) hHeld ?_; simp only [Act.put]; refine tk 5 (.string (⟨List.toArray y⟩ : ByteArray)) rfl (fun _ ⟨_,_,⟨_,_,_,_,_⟩⟩ => by go_simp) hHeld ?_; simp only [Act.put]; refine tk 6 (.string ((((⟨List.toArray Y⟩ : ByteArray) ++ (⟨List.toArray [59, 32]⟩ : ByteArray)) ++ (⟨List.toArray [86, 65, 82, 32]⟩ : ByteArray)) ++ (⟨List.toArray y⟩ : ByteArray))) rfl (fun _ _ => by go_simp) hHeld ?_; simp only [Act.put]; refine tk 7 (.string (((((⟨List.toArray Y⟩ : ByteArray) ++ (⟨List.toArray [59, 32]⟩ : ByteArray)) ++ (⟨List.toArray [86, 65, 82, 32]⟩ : ByteArray)) ++ (⟨List.toArray y⟩ : ByteArray)) ++ (⟨List.toArray [58, 32]⟩ : ByteArray))) rfl (fun _ _ => by go_simp) hHeld ?_; simp only [Act.put]; refine tk 8 (.slice (some ⟨gg, oo, none⟩) us.length sc) rfl (fun _ _ => by go_simp) hHeld ?_; simp only [Act.put]; refine tk 9 (.int .i64 ↑i) rfl (fun _ _ => by go_simp) hHeld ?_; simp only [Act.put]; refine tk 10 (.pointer (some ⟨gg, oo + i * 5, none⟩)) rfl (fun _ _ => by go_simp) hHeld ?_; simp only [Act.put]; refine tk 11 (.pointer (some ⟨gg, oo + i * 5 + 4, none⟩)) rfl (fun _ _ => by go_simp) hHeld ?_
          simp only [Act.put]; refine tk 12 (.slice (some ⟨g2, o2, none⟩) 1 c2) rfl (fun _ ⟨_,_,⟨_,_,_,_,_⟩⟩ => by go_simp) hHeld ?_; simp only [Act.put]; refine tk 13 (.pointer (some ⟨g2, o2, none⟩)) rfl (fun _ _ => by go_simp) hHeld ?_; simp only [Act.put]; refine tk 14 (nodeV z sz) rfl (fun _ ⟨_,_,⟨_,_,_,_,_⟩⟩ => by go_simp) hHeld ?_; simp only [Act.put]; refine rd 15 rfl fun KK hKK => ?_
          go_simp
          go_at_call 44; refine (HZ.out _ _ (by exact gb_drew G0.out) (AZ.out.kept (by exact gb_drew G0.out))).mono ?_; rintro e w1 ⟨rfl, hg1⟩; have G1 := hide (gb_trans (by exact gb_drew G0.out) hg1); have B1 := hide (BR.out.kept (gb_trans (by exact gb_drew (gb_refl wr none)) hg1)); have R1 := hide (gb_trans (by exact gb_drew (gb_refl wr none)) hg1); clear hg1
          go_simp
          refine hKK.out _ _ ⟨gb_cell R1.out NT.out.c1, gb_cell R1.out NT.out.c4, NZ.out.kept R1.out⟩ fun hHeld => ?_
          clear hKK KK; refine rd 16 rfl fun KK hKK => ?_
          go_simp
          refine hKK.out _ _ hHeld fun hHeld => ?_
          clear hKK KK; refine rd 17 rfl fun KK hKK => ?_
          go_simp
          refine hKK.out _ _ hHeld fun hHeld => ?_
          clear hKK KK; refine wpAnyH_done (by kernel_rfl) ?_ _; clear hHeld; go_wp2_with fail; refine ⟨⟨i + 1, Y ++ [59, 32] ++ [86, 65, 82, 32] ++ y ++ [58, 32] ++ N, by omega, by go_num, strA_eq (by repeat rw [ba_app]), ?_, G1, B1⟩, by simp [intOf]; omega⟩
          show _ = _
          rw [HT.out, HLE.out, HY.out, if_neg (show ¬ i = 0 by omega), if_pos HN1.out]; simp only [List.append_assoc]
        · have h1' : (n == 1) = false := by rw [beq_eq_false_iff_ne]; exact h1
          have HN1 := hide h1; clear h1
          have qq1 : ¬ (9223372036854775807 < Y.length + 2 + y.length) := by omega
          have qq2 : ¬ (9223372036854775807 < Y.length + 2 + y.length + 2) := by omega
          have qq3 : ¬ (9223372036854775807 < Y.length + 2 + y.length + 2 + N.length) := by omega
          go_wp2_with fail; refine wp_region_held_drew (S := (fun w' => w'.cell? ⟨gg, oo + i * 5 + 1, none⟩ = some (.string ⟨y.toArray⟩) ∧ w'.cell? ⟨gg, oo + i * 5 + 4, none⟩ = some (.slice (some ⟨g2, o2, none⟩) 1 c2) ∧ Node5 w' g2 o2 z sz)) (by kernel_rfl) ?_ (fun hHeld => ?_)
          · exact ⟨gb_cell (gb_drew (gb_refl wr none)) NT.out.c1, gb_cell (gb_drew (gb_refl wr none)) NT.out.c4, NZ.out.kept (gb_drew (gb_refl wr none))⟩
          refine tk 0 (.string ((⟨List.toArray Y⟩ : ByteArray) ++ (⟨List.toArray [59, 32]⟩ : ByteArray))) rfl (fun _ _ => by go_simp) hHeld ?_; simp only [Act.put, List.setIfInBounds_toArray]; refine tk 1 (.slice (some ⟨gg, oo, none⟩) us.length sc) rfl (fun _ _ => by go_simp) hHeld ?_; simp only [Act.put]; refine tk 2 (.int .i64 ↑i) rfl (fun _ _ => by go_simp) hHeld ?_; simp only [Act.put]; refine tk 3 (.pointer (some ⟨gg, oo + i * 5, none⟩)) rfl (fun _ _ => by go_simp) hHeld ?_; simp only [Act.put]; refine tk 4 (.pointer (some ⟨gg, oo + i * 5 + 1, none⟩)) rfl (fun _ _ => by go_simp) hHeld ?_; simp only [Act.put]; refine tk 5 (.string (⟨List.toArray y⟩ : ByteArray)) rfl (fun _ ⟨_,_,⟨_,_,_,_,_⟩⟩ => by go_simp) hHeld ?_; simp only [Act.put]; refine tk 6 (.string (((⟨List.toArray Y⟩ : ByteArray) ++ (⟨List.toArray [59, 32]⟩ : ByteArray)) ++ (⟨List.toArray y⟩ : ByteArray))) rfl (fun _ _ => by go_simp) hHeld ?_; simp only [Act.put]; refine tk 7 (.string ((((⟨List.toArray Y⟩ : ByteArray) ++ (⟨List.toArray [59, 32]⟩ : ByteArray)) ++ (⟨List.toArray y⟩ : ByteArray)) ++ (⟨List.toArray [58, 32]⟩ : ByteArray))) rfl (fun _ _ => by go_simp) hHeld ?_; simp only [Act.put]; refine tk 8 (.slice (some ⟨gg, oo, none⟩) us.length sc) rfl (fun _ _ => by go_simp) hHeld ?_; simp only [Act.put]; refine tk 9 (.int .i64 ↑i) rfl (fun _ _ => by go_simp) hHeld ?_; simp only [Act.put]; refine tk 10 (.pointer (some ⟨gg, oo + i * 5, none⟩)) rfl (fun _ _ => by go_simp) hHeld ?_; simp only [Act.put]; refine tk 11 (.pointer (some ⟨gg, oo + i * 5 + 4, none⟩)) rfl (fun _ _ => by go_simp) hHeld ?_; simp only [Act.put]; refine tk 12 (.slice (some ⟨g2, o2, none⟩) 1 c2) rfl (fun _ ⟨_,_,⟨_,_,_,_,_⟩⟩ => by go_simp) hHeld ?_
          simp only [Act.put]; refine tk 13 (.pointer (some ⟨g2, o2, none⟩)) rfl (fun _ _ => by go_simp) hHeld ?_; simp only [Act.put]; refine tk 14 (nodeV z sz) rfl (fun _ ⟨_,_,⟨_,_,_,_,_⟩⟩ => by go_simp) hHeld ?_; simp only [Act.put]; refine rd 15 rfl fun KK hKK => ?_
          go_simp
          go_at_call 44; refine (HZ.out _ _ (by exact gb_drew G0.out) (AZ.out.kept (by exact gb_drew G0.out))).mono ?_; rintro e w1 ⟨rfl, hg1⟩; have G1 := hide (gb_trans (by exact gb_drew G0.out) hg1); have B1 := hide (BR.out.kept (gb_trans (by exact gb_drew (gb_refl wr none)) hg1)); have R1 := hide (gb_trans (by exact gb_drew (gb_refl wr none)) hg1); clear hg1
          go_simp
          refine hKK.out _ _ ⟨gb_cell R1.out NT.out.c1, gb_cell R1.out NT.out.c4, NZ.out.kept R1.out⟩ fun hHeld => ?_
          clear hKK KK; refine rd 16 rfl fun KK hKK => ?_
          go_simp
          refine hKK.out _ _ hHeld fun hHeld => ?_
          clear hKK KK; refine rd 17 rfl fun KK hKK => ?_
          go_simp
          refine hKK.out _ _ hHeld fun hHeld => ?_
          clear hKK KK; refine wpAnyH_done (by kernel_rfl) ?_ _; clear hHeld; go_wp2_with fail; refine ⟨⟨i + 1, Y ++ [59, 32] ++ y ++ [58, 32] ++ N, by omega, by go_num, strA_eq (by repeat rw [ba_app]), ?_, G1, B1⟩, by simp [intOf]; omega⟩
          show _ = _
          rw [HT.out, HLE.out, HY.out, if_neg (show ¬ i = 0 by omega), if_neg HN1.out]; simp only [List.append_assoc, List.nil_append]
      · have h0' : ¬ (0 : Int) < (i : Int) := by omega
        by_cases h1 : n = 1
        · have h1' : (n == 1) = true := by rw [h1]; rfl
          have HN1 := hide h1; clear h1
          have qq1 : ¬ (9223372036854775807 < Y.length + 4 + y.length) := by omega
          have qq2 : ¬ (9223372036854775807 < Y.length + 4 + y.length + 2) := by omega
          have qq3 : ¬ (9223372036854775807 < Y.length + 4 + y.length + 2 + N.length) := by omega
          go_wp2_with fail; refine wp_region_held_drew (S := (fun w' => w'.cell? ⟨gg, oo + i * 5 + 1, none⟩ = some (.string ⟨y.toArray⟩) ∧ w'.cell? ⟨gg, oo + i * 5 + 4, none⟩ = some (.slice (some ⟨g2, o2, none⟩) 1 c2) ∧ Node5 w' g2 o2 z sz)) (by kernel_rfl) ?_ (fun hHeld => ?_)
          · exact ⟨gb_cell (gb_drew (gb_refl wr none)) NT.out.c1, gb_cell (gb_drew (gb_refl wr none)) NT.out.c4, NZ.out.kept (gb_drew (gb_refl wr none))⟩
          refine tk 0 (.string ((⟨List.toArray Y⟩ : ByteArray) ++ (⟨List.toArray [86, 65, 82, 32]⟩ : ByteArray))) rfl (fun _ _ => by go_simp) hHeld ?_; simp only [Act.put, List.setIfInBounds_toArray]; refine tk 1 (.slice (some ⟨gg, oo, none⟩) us.length sc) rfl (fun _ _ => by go_simp) hHeld ?_; simp only [Act.put]; refine tk 2 (.int .i64 ↑i) rfl (fun _ _ => by go_simp) hHeld ?_; simp only [Act.put]; refine tk 3 (.pointer (some ⟨gg, oo + i * 5, none⟩)) rfl (fun _ _ => by go_simp) hHeld ?_; simp only [Act.put]; refine tk 4 (.pointer (some ⟨gg, oo + i * 5 + 1, none⟩)) rfl (fun _ _ => by go_simp) hHeld ?_; simp only [Act.put]; refine tk 5 (.string (⟨List.toArray y⟩ : ByteArray)) rfl (fun _ ⟨_,_,⟨_,_,_,_,_⟩⟩ => by go_simp) hHeld ?_; simp only [Act.put]; refine tk 6 (.string (((⟨List.toArray Y⟩ : ByteArray) ++ (⟨List.toArray [86, 65, 82, 32]⟩ : ByteArray)) ++ (⟨List.toArray y⟩ : ByteArray))) rfl (fun _ _ => by go_simp) hHeld ?_; simp only [Act.put]; refine tk 7 (.string ((((⟨List.toArray Y⟩ : ByteArray) ++ (⟨List.toArray [86, 65, 82, 32]⟩ : ByteArray)) ++ (⟨List.toArray y⟩ : ByteArray)) ++ (⟨List.toArray [58, 32]⟩ : ByteArray))) rfl (fun _ _ => by go_simp) hHeld ?_; simp only [Act.put]; refine tk 8 (.slice (some ⟨gg, oo, none⟩) us.length sc) rfl (fun _ _ => by go_simp) hHeld ?_; simp only [Act.put]; refine tk 9 (.int .i64 ↑i) rfl (fun _ _ => by go_simp) hHeld ?_; simp only [Act.put]; refine tk 10 (.pointer (some ⟨gg, oo + i * 5, none⟩)) rfl (fun _ _ => by go_simp) hHeld ?_; simp only [Act.put]; refine tk 11 (.pointer (some ⟨gg, oo + i * 5 + 4, none⟩)) rfl (fun _ _ => by go_simp) hHeld ?_; simp only [Act.put]
          refine tk 12 (.slice (some ⟨g2, o2, none⟩) 1 c2) rfl (fun _ ⟨_,_,⟨_,_,_,_,_⟩⟩ => by go_simp) hHeld ?_; simp only [Act.put]; refine tk 13 (.pointer (some ⟨g2, o2, none⟩)) rfl (fun _ _ => by go_simp) hHeld ?_; simp only [Act.put]; refine tk 14 (nodeV z sz) rfl (fun _ ⟨_,_,⟨_,_,_,_,_⟩⟩ => by go_simp) hHeld ?_; simp only [Act.put]; refine rd 15 rfl fun KK hKK => ?_
          go_simp
          go_at_call 44; refine (HZ.out _ _ (by exact gb_drew G0.out) (AZ.out.kept (by exact gb_drew G0.out))).mono ?_; rintro e w1 ⟨rfl, hg1⟩; have G1 := hide (gb_trans (by exact gb_drew G0.out) hg1); have B1 := hide (BR.out.kept (gb_trans (by exact gb_drew (gb_refl wr none)) hg1)); have R1 := hide (gb_trans (by exact gb_drew (gb_refl wr none)) hg1); clear hg1
          go_simp
          refine hKK.out _ _ ⟨gb_cell R1.out NT.out.c1, gb_cell R1.out NT.out.c4, NZ.out.kept R1.out⟩ fun hHeld => ?_
          clear hKK KK; refine rd 16 rfl fun KK hKK => ?_
          go_simp
          refine hKK.out _ _ hHeld fun hHeld => ?_
          clear hKK KK; refine rd 17 rfl fun KK hKK => ?_
          go_simp
          refine hKK.out _ _ hHeld fun hHeld => ?_
          clear hKK KK; refine wpAnyH_done (by kernel_rfl) ?_ _; clear hHeld; go_wp2_with fail; refine ⟨⟨i + 1, Y ++ [86, 65, 82, 32] ++ y ++ [58, 32] ++ N, by omega, by go_num, strA_eq (by repeat rw [ba_app]), ?_, G1, B1⟩, by simp [intOf]; omega⟩
          show _ = _
          rw [HT.out, HLE.out, HY.out, if_pos (show i = 0 by omega), if_pos HN1.out]; simp only [List.append_assoc, List.nil_append]
        · have h1' : (n == 1) = false := by rw [beq_eq_false_iff_ne]; exact h1
          have HN1 := hide h1; clear h1
          have qq1 : ¬ (9223372036854775807 < Y.length + y.length) := by omega
          have qq2 : ¬ (9223372036854775807 < Y.length + y.length + 2) := by omega
          have qq3 : ¬ (9223372036854775807 < Y.length + y.length + 2 + N.length) := by omega
          go_wp2_with fail; refine wp_region_held_drew (S := (fun w' => w'.cell? ⟨gg, oo + i * 5 + 1, none⟩ = some (.string ⟨y.toArray⟩) ∧ w'.cell? ⟨gg, oo + i * 5 + 4, none⟩ = some (.slice (some ⟨g2, o2, none⟩) 1 c2) ∧ Node5 w' g2 o2 z sz)) (by kernel_rfl) ?_ (fun hHeld => ?_)
          · exact ⟨gb_cell (gb_drew (gb_refl wr none)) NT.out.c1, gb_cell (gb_drew (gb_refl wr none)) NT.out.c4, NZ.out.kept (gb_drew (gb_refl wr none))⟩
          refine tk 0 (.string (⟨List.toArray Y⟩ : ByteArray)) rfl (fun _ _ => by go_simp) hHeld ?_; simp only [Act.put, List.setIfInBounds_toArray]; refine tk 1 (.slice (some ⟨gg, oo, none⟩) us.length sc) rfl (fun _ _ => by go_simp) hHeld ?_; simp only [Act.put]; refine tk 2 (.int .i64 ↑i) rfl (fun _ _ => by go_simp) hHeld ?_; simp only [Act.put]; refine tk 3 (.pointer (some ⟨gg, oo + i * 5, none⟩)) rfl (fun _ _ => by go_simp) hHeld ?_; simp only [Act.put]; refine tk 4 (.pointer (some ⟨gg, oo + i * 5 + 1, none⟩)) rfl (fun _ _ => by go_simp) hHeld ?_; simp only [Act.put]; refine tk 5 (.string (⟨List.toArray y⟩ : ByteArray)) rfl (fun _ ⟨_,_,⟨_,_,_,_,_⟩⟩ => by go_simp) hHeld ?_; simp only [Act.put]; refine tk 6 (.string ((⟨List.toArray Y⟩ : ByteArray) ++ (⟨List.toArray y⟩ : ByteArray))) rfl (fun _ _ => by go_simp) hHeld ?_; simp only [Act.put]; refine tk 7 (.string (((⟨List.toArray Y⟩ : ByteArray) ++ (⟨List.toArray y⟩ : ByteArray)) ++ (⟨List.toArray [58, 32]⟩ : ByteArray))) rfl (fun _ _ => by go_simp) hHeld ?_; simp only [Act.put]; refine tk 8 (.slice (some ⟨gg, oo, none⟩) us.length sc) rfl (fun _ _ => by go_simp) hHeld ?_; simp only [Act.put]; refine tk 9 (.int .i64 ↑i) rfl (fun _ _ => by go_simp) hHeld ?_; simp only [Act.put]; refine tk 10 (.pointer (some ⟨gg, oo + i * 5, none⟩)) rfl (fun _ _ => by go_simp) hHeld ?_; simp only [Act.put]; refine tk 11 (.pointer (some ⟨gg, oo + i * 5 + 4, none⟩)) rfl (fun _ _ => by go_simp) hHeld ?_; simp only [Act.put]; refine tk 12 (.slice (some ⟨g2, o2, none⟩) 1 c2) rfl (fun _ ⟨_,_,⟨_,_,_,_,_⟩⟩ => by go_simp) hHeld ?_
          simp only [Act.put]; refine tk 13 (.pointer (some ⟨g2, o2, none⟩)) rfl (fun _ _ => by go_simp) hHeld ?_; simp only [Act.put]; refine tk 14 (nodeV z sz) rfl (fun _ ⟨_,_,⟨_,_,_,_,_⟩⟩ => by go_simp) hHeld ?_; simp only [Act.put]; refine rd 15 rfl fun KK hKK => ?_
          go_simp
          go_at_call 44; refine (HZ.out _ _ (by exact gb_drew G0.out) (AZ.out.kept (by exact gb_drew G0.out))).mono ?_; rintro e w1 ⟨rfl, hg1⟩; have G1 := hide (gb_trans (by exact gb_drew G0.out) hg1); have B1 := hide (BR.out.kept (gb_trans (by exact gb_drew (gb_refl wr none)) hg1)); have R1 := hide (gb_trans (by exact gb_drew (gb_refl wr none)) hg1); clear hg1
          go_simp
          refine hKK.out _ _ ⟨gb_cell R1.out NT.out.c1, gb_cell R1.out NT.out.c4, NZ.out.kept R1.out⟩ fun hHeld => ?_
          clear hKK KK; refine rd 16 rfl fun KK hKK => ?_
          go_simp
          refine hKK.out _ _ hHeld fun hHeld => ?_
          clear hKK KK; refine rd 17 rfl fun KK hKK => ?_
          go_simp
          refine hKK.out _ _ hHeld fun hHeld => ?_
          clear hKK KK; refine wpAnyH_done (by kernel_rfl) ?_ _; clear hHeld; go_wp2_with fail; refine ⟨⟨i + 1, Y ++ y ++ [58, 32] ++ N, by omega, by go_num, strA_eq (by repeat rw [ba_app]), ?_, G1, B1⟩, by simp [intOf]; omega⟩
          show _ = _
          rw [HT.out, HLE.out, HY.out, if_pos (show i = 0 by omega), if_neg HN1.out]; simp only [List.append_assoc, List.nil_append]
    · have HX : Hid (Y = [80, 82, 79, 67, 69, 68, 85, 82, 69, 32] ++ A ++ [40] ++ sepTx [59, 32] (us.map paramTx)) := by
        have := HY.out; rw [List.take_of_length_le (by simp; omega)] at this
        exact this
      have qe : ¬ (9223372036854775807 < Y.length + 1) := by omega
      clear HY; obtain ⟨r0,r1,r2,r3,r4⟩ := M1.out.kept G0.out
      have qf : ¬ (9223372036854775807 < Y.length + 1 + 2) := by omega
      have qg : ¬ (9223372036854775807 < Y.length + 1 + 2 + R.length) := by omega
      go_wp2_with fail; go_at_call 44; refine (HR.out _ _ G0.out (A1.out.kept G0.out)).mono ?_; rintro e v2 ⟨rfl, hv2⟩; have GW := hide (gb_trans G0.out hv2); have BW := hide (BR.out.kept (gb_trans (gb_refl wr none) hv2)); obtain ⟨_,_,_,_,_⟩ := BW.out; clear hv2; have N2 := hide (M2.out.kept GW.out); have N3 := hide (M3.out.kept GW.out)
      have qq1 : ¬ (9223372036854775807 < Y.length + 1 + 2 + R.length + 2) := by omega
      have qq2 : ¬ (9223372036854775807 < Y.length + 1 + 2 + R.length + 2 + D.length) := by omega
      have qq3 : ¬ (9223372036854775807 < Y.length + 1 + 2 + R.length + 2 + D.length + 6) := by omega
      have qq4 : ¬ (9223372036854775807 < Y.length + 1 + 2 + R.length + 2 + D.length + 6 + B.length) := by omega
      have qq5 : ¬ (9223372036854775807 < Y.length + 1 + 2 + R.length + 2 + D.length + 6 + B.length + 4) := by omega
      have qq6 : ¬ (9223372036854775807 < Y.length + 1 + 2 + R.length + 2 + D.length + 6 + B.length + 4 + x.length) := by omega
      have qq7 : ¬ (9223372036854775807 < Y.length + 1 + 2 + R.length + 2 + D.length + 6 + B.length + 4 + x.length + 2) := by omega
      go_wp2_with fail; refine wp_region_held_drew (S := (fun w' => w'.cell? ⟨w.heap.size, 4, none⟩ = some (.slice (some ⟨g, o, none⟩) 4 c) ∧ w'.cell? ⟨w.heap.size, 1, none⟩ = some (.string ⟨x.toArray⟩) ∧ w'.cell? ⟨g, o + 14, none⟩ = some s2 ∧ Node5 w' g (o + 15) bs s3)) (by kernel_rfl) ?_ (fun hHeld => ?_)
      · exact ⟨gb_cell (gb_drew (gb_refl v2 none)) BW.out.c4, gb_cell (gb_drew (gb_refl v2 none)) BW.out.c1, gb_cell (gb_drew (gb_refl v2 none)) N2.out.c4, N3.out.kept (gb_drew (gb_refl v2 none))⟩
      refine tk 0 (.string ((((⟨List.toArray Y⟩ : ByteArray) ++ (⟨List.toArray [41]⟩ : ByteArray)) ++ (⟨List.toArray [58, 32]⟩ : ByteArray)) ++ (⟨List.toArray R⟩ : ByteArray))) rfl (fun _ _ => by go_simp) hHeld ?_; simp only [Act.put, List.setIfInBounds_toArray]; refine tk 1 (.string (((((⟨List.toArray Y⟩ : ByteArray) ++ (⟨List.toArray [41]⟩ : ByteArray)) ++ (⟨List.toArray [58, 32]⟩ : ByteArray)) ++ (⟨List.toArray R⟩ : ByteArray)) ++ (⟨List.toArray [59, 10]⟩ : ByteArray))) rfl (fun _ _ => by go_simp) hHeld ?_; simp only [Act.put]; refine tk 2 (.pointer (some ⟨w.heap.size, 4, none⟩)) rfl (fun _ _ => by go_simp) hHeld ?_; simp only [Act.put]; refine tk 3 (.slice (some ⟨g, o, none⟩) 4 c) rfl (fun _ ⟨_,_,_,⟨_,_,_,_,_⟩⟩ => by go_simp) hHeld ?_; simp only [Act.put]; refine tk 4 (.pointer (some ⟨g, o + 10, none⟩)) rfl (fun _ _ => by go_simp) hHeld ?_; simp only [Act.put]; refine tk 5 (.pointer (some ⟨g, o + 14, none⟩)) rfl (fun _ _ => by go_simp) hHeld ?_; simp only [Act.put]; refine tk 6 s2 rfl (fun _ ⟨_,_,_,⟨_,_,_,_,_⟩⟩ => by go_simp) hHeld ?_; simp only [Act.put]; refine tk 10 (.pointer (some ⟨w.heap.size, 4, none⟩)) rfl (fun _ _ => by go_simp) hHeld ?_; simp only [Act.put]; refine tk 11 (.slice (some ⟨g, o, none⟩) 4 c) rfl (fun _ ⟨_,_,_,⟨_,_,_,_,_⟩⟩ => by go_simp) hHeld ?_; simp only [Act.put]; refine tk 12 (.pointer (some ⟨g, o + 15, none⟩)) rfl (fun _ _ => by go_simp) hHeld ?_; simp only [Act.put]; refine tk 13 (nodeV bs s3) rfl (fun _ ⟨_,_,_,⟨_,_,_,_,_⟩⟩ => by go_simp) hHeld ?_; simp only [Act.put]; refine tk 17 (.pointer (some ⟨w.heap.size, 1, none⟩)) rfl (fun _ _ => by go_simp) hHeld ?_
      simp only [Act.put]; refine tk 18 (.string (⟨List.toArray x⟩ : ByteArray)) rfl (fun _ ⟨_,_,_,⟨_,_,_,_,_⟩⟩ => by go_simp) hHeld ?_; simp only [Act.put]; refine rd 7 rfl fun KK hKK => ?_
      go_simp
      go_at_call 19; refine (HD.out _ _ (by exact gb_drew GW.out) (A2.out.kept (by exact gb_drew GW.out))).mono ?_; rintro e w1 ⟨rfl, hg1⟩; have G1 := hide (gb_trans (by exact gb_drew GW.out) hg1); have B1 := hide (BW.out.kept (gb_trans (by exact gb_drew (gb_refl v2 none)) hg1)); have R1 := hide (gb_trans (by exact gb_drew (gb_refl v2 none)) hg1); clear hg1
      go_simp
      refine hKK.out _ _ ⟨B1.out.c4, B1.out.c1, gb_cell R1.out N2.out.c4, N3.out.kept R1.out⟩ fun hHeld => ?_
      clear hKK KK; refine tk 8 (.string ((((((⟨List.toArray Y⟩ : ByteArray) ++ (⟨List.toArray [41]⟩ : ByteArray)) ++ (⟨List.toArray [58, 32]⟩ : ByteArray)) ++ (⟨List.toArray R⟩ : ByteArray)) ++ (⟨List.toArray [59, 10]⟩ : ByteArray)) ++ (⟨List.toArray D⟩ : ByteArray))) rfl (fun _ _ => by go_simp) hHeld ?_; simp only [Act.put, List.setIfInBounds_toArray]; refine tk 9 (.string (((((((⟨List.toArray Y⟩ : ByteArray) ++ (⟨List.toArray [41]⟩ : ByteArray)) ++ (⟨List.toArray [58, 32]⟩ : ByteArray)) ++ (⟨List.toArray R⟩ : ByteArray)) ++ (⟨List.toArray [59, 10]⟩ : ByteArray)) ++ (⟨List.toArray D⟩ : ByteArray)) ++ (⟨List.toArray [66, 69, 71, 73, 78, 10]⟩ : ByteArray))) rfl (fun _ _ => by go_simp) hHeld ?_; simp only [Act.put]; refine rd 14 rfl fun KK hKK => ?_
      go_simp
      go_at_call 21; refine (HB.out _ _ G1.out (A3.out.kept G1.out)).mono ?_; rintro e w2 ⟨rfl, hg2⟩; have G2 := hide (gb_trans G1.out hg2); have B2 := hide (B1.out.kept (gb_trans (gb_refl w1 none) hg2)); have R2 := hide (gb_trans R1.out hg2); clear hg2
      go_simp
      refine hKK.out _ _ ⟨B2.out.c4, B2.out.c1, gb_cell R2.out N2.out.c4, N3.out.kept R2.out⟩ fun hHeld => ?_
      clear hKK KK; refine rd 15 rfl fun KK hKK => ?_
      go_simp
      refine hKK.out _ _ hHeld fun hHeld => ?_
      clear hKK KK; refine rd 16 rfl fun KK hKK => ?_
      go_simp
      refine hKK.out _ _ hHeld fun hHeld => ?_
      clear hKK KK; refine rd 19 rfl fun KK hKK => ?_
      go_simp
      refine hKK.out _ _ hHeld fun hHeld => ?_
      clear hKK KK; refine rd 20 rfl fun KK hKK => ?_
      go_simp
      refine hKK.out _ _ hHeld fun hHeld => ?_
      clear hKK KK; refine rd 21 rfl fun KK hKK => ?_
      go_simp
      refine hKK.out _ _ hHeld fun hHeld => ?_
      clear hKK KK; refine wpAnyH_done (by kernel_rfl) ?_ _; clear hHeld; go_wp2_with fail
      go_ret
      refine ⟨(show Ending.returned (.string (((((((((((⟨List.toArray Y⟩ : ByteArray) ++ (⟨List.toArray [41]⟩ : ByteArray)) ++ (⟨List.toArray [58, 32]⟩ : ByteArray)) ++ (⟨List.toArray R⟩ : ByteArray)) ++ (⟨List.toArray [59, 10]⟩ : ByteArray)) ++ (⟨List.toArray D⟩ : ByteArray)) ++ (⟨List.toArray [66, 69, 71, 73, 78, 10]⟩ : ByteArray)) ++ (⟨List.toArray B⟩ : ByteArray)) ++ (⟨List.toArray [69, 78, 68, 32]⟩ : ByteArray)) ++ (⟨List.toArray x⟩ : ByteArray)) ++ (⟨List.toArray [59, 10]⟩ : ByteArray))) = _ from ret_str ?_), G2.out⟩
      repeat rw [ba_app]
      rw [HX.out]; simp only [List.append_assoc]
      try rfl
theorem procR0 (x : List UInt8) (m p q : Int) (us : List T) (rs vs bs : T) (sv : Value) (w : World) (ha : AT w (T.mk 7 x m p [.mk 1 [] 0 q us, rs, vs, bs]).subs sv) (hx : x.length ≤ 12) (D B : List UInt8) (lD : D.length ≤ 4000000) (hD : ∀ w' sl, w.grownBy w' none → AT w' vs.subs sl → Calls Tryz.prog 19 #[.string ⟨List.toArray [86, 65, 82]⟩, sl] w' (Sy w' (.string ⟨D.toArray⟩))) (hB : STx w bs [32, 32] B) (hus : ¬ 0 < us.length) (hr : (rs.kind != 0) = true) (R : List UInt8) (hR : NTx w rs R) (hk : ∀ t ∈ us, ∃ y n q z, t = .mk 8 y n q [z] ∧ y.length ≤ 12 ∧ NTx w z (nameTx z)) (hlen : (sepTx [59, 32] (us.map paramTx)).length ≤ 4000000) :
    Calls Tryz.prog 20 #[.agg #[.int .i64 7, .string ⟨x.toArray⟩, .int .i64 m, .int .i64 p, sv]] w (Sy w (.string ⟨([80, 82, 79, 67, 69, 68, 85, 82, 69, 32] ++ (starTx (.mk 7 x m p [.mk 1 [] 0 q us, rs, vs, bs]) ++ ([40] ++ (sepTx [59, 32] (us.map paramTx) ++ ([41] ++ ([58, 32] ++ (R ++ ([59, 10] ++ (D ++ ([66, 69, 71, 73, 78, 10] ++ (B ++ ([69, 78, 68, 32] ++ (x ++ [59, 10]))))))))))))).toArray⟩)) := by
  have HD := hide hD; obtain ⟨_,hB2⟩ := hB; have HB := hide hB2; obtain ⟨_,c,rfl,hn,hcc0⟩ := ha.form
  have hcc : c ≤ 9223372036854775807 := by unfold maxLen at hcc0; omega
  have hn4 : 4 ≤ c := hn; obtain ⟨g, o, s0, e0, n0, -, a0⟩ := ha.node 0 _ rfl; subst e0; obtain ⟨g', o', s1, e1, n1, -, a1⟩ := ha.node 1 _ rfl; cases e1; obtain ⟨g', o', s2, e1, n2, -, a2⟩ := ha.node 2 _ rfl; cases e1; obtain ⟨g', o', s3, e1, n3, -, a3⟩ := ha.node 3 _ rfl; cases e1; have M0 : Hid (Node5 w g o (.mk 1 [] 0 q us) s0) := n0; have M1 : Hid (Node5 w g (o + 5) rs s1) := n1; have M2 : Hid (Node5 w g (o + 10) vs s2) := n2; have M3 : Hid (Node5 w g (o + 15) bs s3) := n3; have A1 := hide a1; have A2 := hide a2; have A3 := hide a3; have hgl : g < w.heap.size := block_lt n0.c0
  change AT w us s0 at a0
  have A0 := hide a0; obtain ⟨_,_,rfl,_,hs2⟩ := a0.form
  unfold maxLen at hs2
  have B0 : Hid (Box (w.alloc (.cells #[.int .i64 7, .string ⟨x.toArray⟩, .int .i64 m, .int .i64 p, .slice (some ⟨g, o, none⟩) 4 c] 24)) w.heap.size (.mk 7 x m p [.mk 1 [] 0 q us, rs, vs, bs]) (.slice (some ⟨g, o, none⟩) 4 c)) := Box.new w (.mk 7 x m p [.mk 1 [] 0 q us, rs, vs, bs]) (.slice (some ⟨g, o, none⟩) 4 c) 24
  have lA : (starTx (.mk 7 x m p [.mk 1 [] 0 q us, rs, vs, bs])).length ≤ 13 := by unfold starTx; split <;> simp [T.name] <;> omega
  have HST : ∀ w', Hid (Calls Tryz.prog 41 #[.agg #[.int .i64 7, .string ⟨x.toArray⟩, .int .i64 m, .int .i64 p, .slice (some ⟨g, o, none⟩) 4 c]] w' (Sy w' (.string ⟨(starTx (.mk 7 x m p [.mk 1 [] 0 q us, rs, vs, bs])).toArray⟩))) := fun w' => starred_any (.mk 7 x m p [.mk 1 [] 0 q us, rs, vs, bs]) (.slice (some ⟨g, o, none⟩) 4 c) w' hx ⟨_, _, _, rfl⟩
  generalize starTx (.mk 7 x m p [.mk 1 [] 0 q us, rs, vs, bs]) = A at *
  clear ha hD hB2 hcc0 hn n0 n1 n2 n3 a0 a1 a2 a3
  change Calls Tryz.prog 20 #[.agg #[.int .i64 7, .string ⟨x.toArray⟩, .int .i64 m, .int .i64 p, .slice (some ⟨g, o, none⟩) 4 c]] w _
  have qh : ¬ (9223372036854775807 < 10 + A.length) := by omega
  have hl0 : ¬ (0 : Int) < (us.length : Int) := by omega
  obtain ⟨_,hR2⟩ := hR; have HR := hide hR2; clear hR2; have HK := hide hk; clear hk
  have qi : ¬ (9223372036854775807 < 10 + A.length + 1) := by omega
  go_enter Tryz.func20, Tryz.ntmps20
  go_wp2_with fail; go_at_call 41; refine ((HST _).out).mono ?_; rintro e v1 ⟨rfl, hv1⟩; have GV := hide (gb_trans (by exact gb_alloc (gb_refl w none) _) hv1); have BV := hide (B0.out.kept (gb_trans (gb_refl _ none) hv1)); obtain ⟨bv0,bv1,bv2,bv3,bv4⟩ := BV.out; obtain ⟨p0,p1,p2,p3,p4⟩ := M0.out.kept GV.out; obtain ⟨r0,r1,r2,r3,r4⟩ := M1.out.kept GV.out; clear hv1; go_wp2_with fail
  go_loopw [3, 5] (fun sv iv wr => ∃ (i : Nat) (Y : List UInt8), i ≤ us.length ∧ iv = .int .i64 ↑i ∧ sv = .string ⟨Y.toArray⟩ ∧ Hid (Y = [80, 82, 79, 67, 69, 68, 85, 82, 69, 32] ++ A ++ [40] ++ sepTx [59, 32] ((us.map paramTx).take i)) ∧ Hid (w.grownBy wr none) ∧ Hid (Box wr w.heap.size (.mk 7 x m p [.mk 1 [] 0 q us, rs, vs, bs]) (.slice (some ⟨g, o, none⟩) 4 c))) (fun _ iv _ => us.length - (intOf iv).toNat)
  case atStart => exact ⟨0, [80, 82, 79, 67, 69, 68, 85, 82, 69, 32] ++ A ++ [40], Nat.zero_le _, rfl, strA_eq (by repeat rw [ba_app]), by show _ = _; simp [sepTx], GV, BV⟩
  case round =>
    clear bv0 bv1 bv2 bv3 bv4 p0 p1 p2 p3 p4 r0 r1 r2 r3 r4; obtain ⟨i,Y,_,rfl,rfl,HY,G0,BR⟩ := hrel; obtain ⟨b0,_,_,_,_⟩ := BR.out; have bl := block_lt b0
    have hY : Y.length ≤ 5000000 := by
      rw [HY.out]; have := sepTx_le [59, 32] (us.map paramTx) i; simp only [List.length_append, List.length_cons, List.length_nil]
      omega
    by_cases hlt : i < us.length
    · omega
    · have HX : Hid (Y = [80, 82, 79, 67, 69, 68, 85, 82, 69, 32] ++ A ++ [40] ++ sepTx [59, 32] (us.map paramTx)) := by
        have := HY.out; rw [List.take_of_length_le (by simp; omega)] at this
        exact this
      have qe : ¬ (9223372036854775807 < Y.length + 1) := by omega
      clear HY; obtain ⟨r0,r1,r2,r3,r4⟩ := M1.out.kept G0.out
      have qf : ¬ (9223372036854775807 < Y.length + 1 + 2) := by omega
      have qg : ¬ (9223372036854775807 < Y.length + 1 + 2 + R.length) := by omega
      go_wp2_with fail; go_at_call 44; refine (HR.out _ _ G0.out (A1.out.kept G0.out)).mono ?_; rintro e v2 ⟨rfl, hv2⟩; have GW := hide (gb_trans G0.out hv2); have BW := hide (BR.out.kept (gb_trans (gb_refl wr none) hv2)); obtain ⟨_,_,_,_,_⟩ := BW.out; clear hv2; have N2 := hide (M2.out.kept GW.out); have N3 := hide (M3.out.kept GW.out)
      have qq1 : ¬ (9223372036854775807 < Y.length + 1 + 2 + R.length + 2) := by omega
      have qq2 : ¬ (9223372036854775807 < Y.length + 1 + 2 + R.length + 2 + D.length) := by omega
      have qq3 : ¬ (9223372036854775807 < Y.length + 1 + 2 + R.length + 2 + D.length + 6) := by omega
      have qq4 : ¬ (9223372036854775807 < Y.length + 1 + 2 + R.length + 2 + D.length + 6 + B.length) := by omega
      have qq5 : ¬ (9223372036854775807 < Y.length + 1 + 2 + R.length + 2 + D.length + 6 + B.length + 4) := by omega
      have qq6 : ¬ (9223372036854775807 < Y.length + 1 + 2 + R.length + 2 + D.length + 6 + B.length + 4 + x.length) := by omega
      have qq7 : ¬ (9223372036854775807 < Y.length + 1 + 2 + R.length + 2 + D.length + 6 + B.length + 4 + x.length + 2) := by omega
      go_wp2_with fail; refine wp_region_held_drew (S := (fun w' => w'.cell? ⟨w.heap.size, 4, none⟩ = some (.slice (some ⟨g, o, none⟩) 4 c) ∧ w'.cell? ⟨w.heap.size, 1, none⟩ = some (.string ⟨x.toArray⟩) ∧ w'.cell? ⟨g, o + 14, none⟩ = some s2 ∧ Node5 w' g (o + 15) bs s3)) (by kernel_rfl) ?_ (fun hHeld => ?_)
      · exact ⟨gb_cell (gb_drew (gb_refl v2 none)) BW.out.c4, gb_cell (gb_drew (gb_refl v2 none)) BW.out.c1, gb_cell (gb_drew (gb_refl v2 none)) N2.out.c4, N3.out.kept (gb_drew (gb_refl v2 none))⟩
      refine tk 0 (.string ((((⟨List.toArray Y⟩ : ByteArray) ++ (⟨List.toArray [41]⟩ : ByteArray)) ++ (⟨List.toArray [58, 32]⟩ : ByteArray)) ++ (⟨List.toArray R⟩ : ByteArray))) rfl (fun _ _ => by go_simp) hHeld ?_; simp only [Act.put, List.setIfInBounds_toArray]; refine tk 1 (.string (((((⟨List.toArray Y⟩ : ByteArray) ++ (⟨List.toArray [41]⟩ : ByteArray)) ++ (⟨List.toArray [58, 32]⟩ : ByteArray)) ++ (⟨List.toArray R⟩ : ByteArray)) ++ (⟨List.toArray [59, 10]⟩ : ByteArray))) rfl (fun _ _ => by go_simp) hHeld ?_; simp only [Act.put]; refine tk 2 (.pointer (some ⟨w.heap.size, 4, none⟩)) rfl (fun _ _ => by go_simp) hHeld ?_; simp only [Act.put]; refine tk 3 (.slice (some ⟨g, o, none⟩) 4 c) rfl (fun _ ⟨_,_,_,⟨_,_,_,_,_⟩⟩ => by go_simp) hHeld ?_; simp only [Act.put]; refine tk 4 (.pointer (some ⟨g, o + 10, none⟩)) rfl (fun _ _ => by go_simp) hHeld ?_; simp only [Act.put]; refine tk 5 (.pointer (some ⟨g, o + 14, none⟩)) rfl (fun _ _ => by go_simp) hHeld ?_; simp only [Act.put]; refine tk 6 s2 rfl (fun _ ⟨_,_,_,⟨_,_,_,_,_⟩⟩ => by go_simp) hHeld ?_; simp only [Act.put]; refine tk 10 (.pointer (some ⟨w.heap.size, 4, none⟩)) rfl (fun _ _ => by go_simp) hHeld ?_; simp only [Act.put]; refine tk 11 (.slice (some ⟨g, o, none⟩) 4 c) rfl (fun _ ⟨_,_,_,⟨_,_,_,_,_⟩⟩ => by go_simp) hHeld ?_; simp only [Act.put]; refine tk 12 (.pointer (some ⟨g, o + 15, none⟩)) rfl (fun _ _ => by go_simp) hHeld ?_; simp only [Act.put]; refine tk 13 (nodeV bs s3) rfl (fun _ ⟨_,_,_,⟨_,_,_,_,_⟩⟩ => by go_simp) hHeld ?_; simp only [Act.put]; refine tk 17 (.pointer (some ⟨w.heap.size, 1, none⟩)) rfl (fun _ _ => by go_simp) hHeld ?_
      simp only [Act.put]; refine tk 18 (.string (⟨List.toArray x⟩ : ByteArray)) rfl (fun _ ⟨_,_,_,⟨_,_,_,_,_⟩⟩ => by go_simp) hHeld ?_; simp only [Act.put]; refine rd 7 rfl fun KK hKK => ?_
      go_simp
      go_at_call 19; refine (HD.out _ _ (by exact gb_drew GW.out) (A2.out.kept (by exact gb_drew GW.out))).mono ?_; rintro e w1 ⟨rfl, hg1⟩; have G1 := hide (gb_trans (by exact gb_drew GW.out) hg1); have B1 := hide (BW.out.kept (gb_trans (by exact gb_drew (gb_refl v2 none)) hg1)); have R1 := hide (gb_trans (by exact gb_drew (gb_refl v2 none)) hg1); clear hg1
      go_simp
      refine hKK.out _ _ ⟨B1.out.c4, B1.out.c1, gb_cell R1.out N2.out.c4, N3.out.kept R1.out⟩ fun hHeld => ?_
      clear hKK KK; refine tk 8 (.string ((((((⟨List.toArray Y⟩ : ByteArray) ++ (⟨List.toArray [41]⟩ : ByteArray)) ++ (⟨List.toArray [58, 32]⟩ : ByteArray)) ++ (⟨List.toArray R⟩ : ByteArray)) ++ (⟨List.toArray [59, 10]⟩ : ByteArray)) ++ (⟨List.toArray D⟩ : ByteArray))) rfl (fun _ _ => by go_simp) hHeld ?_; simp only [Act.put, List.setIfInBounds_toArray]; refine tk 9 (.string (((((((⟨List.toArray Y⟩ : ByteArray) ++ (⟨List.toArray [41]⟩ : ByteArray)) ++ (⟨List.toArray [58, 32]⟩ : ByteArray)) ++ (⟨List.toArray R⟩ : ByteArray)) ++ (⟨List.toArray [59, 10]⟩ : ByteArray)) ++ (⟨List.toArray D⟩ : ByteArray)) ++ (⟨List.toArray [66, 69, 71, 73, 78, 10]⟩ : ByteArray))) rfl (fun _ _ => by go_simp) hHeld ?_; simp only [Act.put]; refine rd 14 rfl fun KK hKK => ?_
      go_simp
      go_at_call 21; refine (HB.out _ _ G1.out (A3.out.kept G1.out)).mono ?_; rintro e w2 ⟨rfl, hg2⟩; have G2 := hide (gb_trans G1.out hg2); have B2 := hide (B1.out.kept (gb_trans (gb_refl w1 none) hg2)); have R2 := hide (gb_trans R1.out hg2); clear hg2
      go_simp
      refine hKK.out _ _ ⟨B2.out.c4, B2.out.c1, gb_cell R2.out N2.out.c4, N3.out.kept R2.out⟩ fun hHeld => ?_
      clear hKK KK; refine rd 15 rfl fun KK hKK => ?_
      go_simp
      refine hKK.out _ _ hHeld fun hHeld => ?_
      clear hKK KK; refine rd 16 rfl fun KK hKK => ?_
      go_simp
      refine hKK.out _ _ hHeld fun hHeld => ?_
      clear hKK KK; refine rd 19 rfl fun KK hKK => ?_
      go_simp
      refine hKK.out _ _ hHeld fun hHeld => ?_
      clear hKK KK; refine rd 20 rfl fun KK hKK => ?_
      go_simp
      refine hKK.out _ _ hHeld fun hHeld => ?_
      clear hKK KK; refine rd 21 rfl fun KK hKK => ?_
      go_simp
      refine hKK.out _ _ hHeld fun hHeld => ?_
      clear hKK KK; refine wpAnyH_done (by kernel_rfl) ?_ _; clear hHeld; go_wp2_with fail
      go_ret
      refine ⟨(show Ending.returned (.string (((((((((((⟨List.toArray Y⟩ : ByteArray) ++ (⟨List.toArray [41]⟩ : ByteArray)) ++ (⟨List.toArray [58, 32]⟩ : ByteArray)) ++ (⟨List.toArray R⟩ : ByteArray)) ++ (⟨List.toArray [59, 10]⟩ : ByteArray)) ++ (⟨List.toArray D⟩ : ByteArray)) ++ (⟨List.toArray [66, 69, 71, 73, 78, 10]⟩ : ByteArray)) ++ (⟨List.toArray B⟩ : ByteArray)) ++ (⟨List.toArray [69, 78, 68, 32]⟩ : ByteArray)) ++ (⟨List.toArray x⟩ : ByteArray)) ++ (⟨List.toArray [59, 10]⟩ : ByteArray))) = _ from ret_str ?_), G2.out⟩
      repeat rw [ba_app]
      rw [HX.out]; simp only [List.append_assoc]
      try rfl
end Go.Proofs.YtapfecciakijhaaGreatDoor

/- The document's texts: modules. -/
namespace Go.Proofs.YtapfecciakijhaaGreatDoor
open Go.RowKit
set_option maxHeartbeats 4000000
set_option maxRecDepth 1000000

/-- The three words, in memory. -/
structure Wds (w : World) (b : Nat) : Prop where
  c0 : w.cell? ⟨b, 0, none⟩ = some (.string ⟨List.toArray [67, 79, 78, 83, 84]⟩)
  c1 : w.cell? ⟨b, 1, none⟩ = some (.string ⟨List.toArray [84, 89, 80, 69]⟩)
  c2 : w.cell? ⟨b, 2, none⟩ = some (.string ⟨List.toArray [86, 65, 82]⟩)
theorem Wds.new (w : World) (ty : TypeId) : Wds (w.alloc (.cells #[.string ⟨#[67, 79, 78, 83, 84]⟩, .string ⟨#[84, 89, 80, 69]⟩, .string ⟨#[86, 65, 82]⟩] ty)) w.heap.size :=
  ⟨by rw [World.cell?_alloc_at _ _ _ _ rfl]; rfl, by rw [World.cell?_alloc_at _ _ _ _ rfl]; rfl, by rw [World.cell?_alloc_at _ _ _ _ rfl]; rfl⟩
theorem Wds.kept {w w' : World} {b : Nat} (h : Wds w b) (hg : w.grownBy w' none) : Wds w' b := ⟨gb_cell hg h.c0, gb_cell hg h.c1, gb_cell hg h.c2⟩

theorem printedI (x : List UInt8) (p q q5 : Int) (us l5 : List T) (cs ts vs bs : T) (sv : Value) (w : World) (ha : AT w (T.mk 2 x 0 p [.mk 1 [] 0 q us, cs, ts, vs, .mk 1 [] 0 q5 l5, bs]).subs sv) (hx : x.length ≤ 12) (C K V B : List UInt8) (lC : C.length ≤ 4000000) (lK : K.length ≤ 4000000) (lV : V.length ≤ 4000000) (hC : ∀ w' sl, w.grownBy w' none → AT w' cs.subs sl → Calls Tryz.prog 19 #[.string ⟨List.toArray [67, 79, 78, 83, 84]⟩, sl] w' (Sy w' (.string ⟨C.toArray⟩))) (hK : ∀ w' sl, w.grownBy w' none → AT w' ts.subs sl → Calls Tryz.prog 19 #[.string ⟨List.toArray [84, 89, 80, 69]⟩, sl] w' (Sy w' (.string ⟨K.toArray⟩))) (hV : ∀ w' sl, w.grownBy w' none → AT w' vs.subs sl → Calls Tryz.prog 19 #[.string ⟨List.toArray [86, 65, 82]⟩, sl] w' (Sy w' (.string ⟨V.toArray⟩))) (hB : STx w bs [32, 32] B) (tx : T → List UInt8) (hP : ∀ t ∈ l5, (tx t).length ≤ 4000000 ∧ ∀ w' st, w.grownBy w' none → AT w' t.subs st → Calls Tryz.prog 20 #[nodeV t st] w' (Sy w' (.string ⟨(tx t).toArray⟩))) (hlen5 : (flatTx tx l5).length ≤ 4000000) (E : List UInt8) (hE : E = if bs.subs.isEmpty then [] else [66, 69, 71, 73, 78, 10] ++ B) (hus : 0 < us.length) (hk : ∀ t ∈ us, t.name.length ≤ 12) (hlen : (sepTx [44, 32] (us.map T.name)).length ≤ 4000000) :
    Calls Tryz.prog 7 #[.agg #[.int .i64 2, .string ⟨x.toArray⟩, .int .i64 0, .int .i64 p, sv]] w (Sy w (.string ⟨([77, 79, 68, 85, 76, 69, 32] ++ x ++ [59, 10] ++ [73, 77, 80, 79, 82, 84, 32] ++ sepTx [44, 32] (us.map T.name) ++ [59, 10] ++ C ++ K ++ V ++ flatTx tx l5 ++ E ++ [69, 78, 68, 32] ++ x ++ [46, 10]).toArray⟩)) := by
  have HC := hide hC; have HK := hide hK; have HV := hide hV; have HP := hide hP; have HEE := hide hE; clear hE; obtain ⟨_,hB2⟩ := hB; have HB := hide hB2; obtain ⟨_,c,rfl,hn,hcc0⟩ := ha.form
  have hcc : c ≤ 9223372036854775807 := by unfold maxLen at hcc0; omega
  have hn6 : 6 ≤ c := hn; obtain ⟨g, o, s0, e0, n0, -, a0⟩ := ha.node 0 _ rfl; subst e0; obtain ⟨g', o', s1, e1, n1, -, a1⟩ := ha.node 1 _ rfl; cases e1; obtain ⟨g', o', s2, e1, n2, -, a2⟩ := ha.node 2 _ rfl; cases e1; obtain ⟨g', o', s3, e1, n3, -, a3⟩ := ha.node 3 _ rfl; cases e1; obtain ⟨g', o', s4, e1, n4, -, a4⟩ := ha.node 4 _ rfl; cases e1; obtain ⟨g', o', s5, e1, n5, -, a5⟩ := ha.node 5 _ rfl; cases e1; have M0 : Hid (Node5 w g o (.mk 1 [] 0 q us) s0) := n0; have M1 : Hid (Node5 w g (o + 5) cs s1) := n1; have M2 : Hid (Node5 w g (o + 10) ts s2) := n2; have M3 : Hid (Node5 w g (o + 15) vs s3) := n3; have M4 : Hid (Node5 w g (o + 20) (.mk 1 [] 0 q5 l5) s4) := n4; have M5 : Hid (Node5 w g (o + 25) bs s5) := n5; have A1 := hide a1; have A2 := hide a2; have A3 := hide a3; have A5 := hide a5; have hgl : g < w.heap.size := block_lt n0.c0
  change AT w us s0 at a0
  have A0 := hide a0; obtain ⟨_,_,rfl,_,hs2⟩ := a0.form
  unfold maxLen at hs2
  change AT w l5 s4 at a4
  have A4 := hide a4; obtain ⟨_,_,rfl,_,hs4⟩ := a4.form
  unfold maxLen at hs4
  obtain ⟨_,_,rfl,_,hs6⟩ := a5.form
  unfold maxLen at hs6
  have B0 : Hid (Box (w.alloc (.cells #[.int .i64 2, .string ⟨x.toArray⟩, .int .i64 0, .int .i64 p, .slice (some ⟨g, o, none⟩) 6 c] 24)) w.heap.size (.mk 2 x 0 p [.mk 1 [] 0 q us, cs, ts, vs, .mk 1 [] 0 q5 l5, bs]) (.slice (some ⟨g, o, none⟩) 6 c)) := Box.new w (.mk 2 x 0 p [.mk 1 [] 0 q us, cs, ts, vs, .mk 1 [] 0 q5 l5, bs]) (.slice (some ⟨g, o, none⟩) 6 c) 24; clear ha hC hK hV hP hB2 hcc0 hn n0 n1 n2 n3 n4 n5 a0 a1 a2 a3 a4 a5; obtain ⟨p0,p1,p2,p3,p4⟩ := M0.out
  change Calls Tryz.prog 7 #[.agg #[.int .i64 2, .string ⟨x.toArray⟩, .int .i64 0, .int .i64 p, .slice (some ⟨g, o, none⟩) 6 c]] w _
  have q1 : ¬ (9223372036854775807 < 7 + x.length) := by omega
  have q2 : ¬ (9223372036854775807 < 7 + x.length + 2) := by omega
  go_enter Tryz.func7, Tryz.ntmps7
  go_wp2_with fail
  go_loopw [3, 5] (fun sv iv wr => ∃ (i : Nat) (Y : List UInt8), i ≤ us.length ∧ iv = .int .i64 ↑i ∧ sv = .string ⟨Y.toArray⟩ ∧ Hid (Y = [77, 79, 68, 85, 76, 69, 32] ++ x ++ [59, 10] ++ (if i = 0 then [] else [73, 77, 80, 79, 82, 84, 32] ++ sepTx [44, 32] ((us.map T.name).take i))) ∧ Hid (w.grownBy wr none) ∧ Hid (Box wr w.heap.size (.mk 2 x 0 p [.mk 1 [] 0 q us, cs, ts, vs, .mk 1 [] 0 q5 l5, bs]) (.slice (some ⟨g, o, none⟩) 6 c))) (fun _ iv _ => us.length - (intOf iv).toNat)
  case atStart => exact ⟨0, [77, 79, 68, 85, 76, 69, 32] ++ x ++ [59, 10], Nat.zero_le _, rfl, strA_eq (by repeat rw [ba_app]), by show _ = _; simp, gb_alloc (gb_refl w none) _, B0.out⟩
  case round =>
    clear p0 p1 p2 p3 p4; obtain ⟨wu, hwu⟩ : ∃ z, z = wr := ⟨_, rfl⟩; subst hwu; obtain ⟨i,Y,_,rfl,rfl,HY,G0,BR⟩ := hrel; obtain ⟨b0,b1,b2,b3,b4⟩ := BR.out; have bl := block_lt b0
    have hY : Y.length ≤ 5000000 := by
      rw [HY.out]; have := sepTx_le [44, 32] (us.map T.name) i
      split <;> simp only [List.length_append, List.length_cons, List.length_nil] <;> omega
    by_cases hlt : i < us.length
    · obtain ⟨t, ht⟩ : ∃ t, us[i]? = some t := ⟨_, List.getElem?_eq_getElem hlt⟩
      have lt12 := hk t (List.mem_of_getElem? ht); obtain ⟨gg, oo, st, e1, n5, -, -⟩ := A0.out.node i _ ht; cases e1; obtain ⟨t0,t1,t2,t3,t4⟩ := n5.kept G0.out
      have htx : (us.map T.name)[i]? = some t.name := by rw [List.getElem?_map, ht]; rfl
      have HT := hide (sepTx_take [44, 32] (us.map T.name) i _ htx); have HYY := hide HY.out; clear ht htx n5 HY
      have qa : ¬ (9223372036854775807 < Y.length + 2) := by omega
      have qb : ¬ (9223372036854775807 < Y.length + 7) := by omega
      have qc : ¬ (9223372036854775807 < Y.length + 2 + t.name.length) := by omega
      have qd : ¬ (9223372036854775807 < Y.length + 7 + t.name.length) := by omega
      rcases Nat.eq_zero_or_pos i with hz | hz
      · have h0 : ((i : Int) == 0) = true := by rw [hz]; rfl
        have HZ := hide hz; clear hz; go_wp2_with fail; refine ⟨⟨i + 1, Y ++ [73, 77, 80, 79, 82, 84, 32] ++ t.name, by omega, by go_num, strA_eq (by repeat rw [ba_app]), ?_, G0, BR⟩, by simp [intOf]; omega⟩
        show _ = _
        rw [HT.out, HYY.out, if_pos HZ.out, if_pos HZ.out, if_neg (by omega), HZ.out]
        simp [sepTx]
      · have h0 : ((i : Int) == 0) = false := by rw [beq_eq_false_iff_ne]; omega
        go_wp2_with fail; refine ⟨⟨i + 1, Y ++ [44, 32] ++ t.name, by omega, by go_num, strA_eq (by repeat rw [ba_app]), ?_, G0, BR⟩, by simp [intOf]; omega⟩
        show _ = _
        rw [HT.out, HYY.out, if_neg (show ¬ i = 0 by omega), if_neg (show ¬ i = 0 by omega), if_neg (show ¬ i + 1 = 0 by omega)]; simp only [List.append_assoc]
    · have HX : Hid (Y = [77, 79, 68, 85, 76, 69, 32] ++ x ++ [59, 10] ++ [73, 77, 80, 79, 82, 84, 32] ++ sepTx [44, 32] (us.map T.name)) := by
        have := HY.out; rw [List.take_of_length_le (by simp; omega), if_neg (by omega)] at this
        show _ = _
        rw [this]; simp only [List.append_assoc]
      have hl0 : (0 : Int) < (us.length : Int) := by omega
      have qe : ¬ (9223372036854775807 < Y.length + 2) := by omega
      clear HY; go_wp2_with fail
      go_loopw [3, 7] (fun sv iv wx => ∃ (Z : List UInt8), sv = .string ⟨Z.toArray⟩ ∧ Hid ((iv = .int .i64 0 ∧ Z = Y ++ [59, 10]) ∨ (iv = .int .i64 1 ∧ Z = Y ++ [59, 10] ++ C) ∨ (iv = .int .i64 2 ∧ Z = Y ++ [59, 10] ++ C ++ K) ∨ (iv = .int .i64 3 ∧ Z = Y ++ [59, 10] ++ C ++ K ++ V)) ∧ Hid (w.grownBy wx none) ∧ Hid (Box wx w.heap.size (.mk 2 x 0 p [.mk 1 [] 0 q us, cs, ts, vs, .mk 1 [] 0 q5 l5, bs]) (.slice (some ⟨g, o, none⟩) 6 c)) ∧ Hid (Wds wx wu.heap.size)) (fun _ iv _ => 3 - (intOf iv).toNat)
      case atStart => exact ⟨Y ++ [59, 10], strA_eq (by repeat rw [ba_app]), Or.inl ⟨rfl, rfl⟩, gb_alloc G0.out _, BR.out.kept (gb_alloc (gb_refl wu none) _), Wds.new _ _⟩
      case round =>
        clear b0 b1 b2 b3 b4; obtain ⟨wx, hwx⟩ : ∃ z, z = wr := ⟨_, rfl⟩; subst hwx; obtain ⟨Z,rfl,HZ,GX,BX,WX⟩ := hrel; obtain ⟨b0,b1,b2,b3,b4⟩ := BX.out; obtain ⟨d0,d1,d2⟩ := WX.out; have bl2 := block_lt b0; have bl3 := block_lt d0
        rcases HZ.out with ⟨rfl, hZ⟩ | ⟨rfl, hZ⟩ | ⟨rfl, hZ⟩ | ⟨rfl, hZ⟩
        · have lZ : Z.length ≤ 30000000 := by rw [hZ]; (try simp only [List.length_append, List.length_cons, List.length_nil]); omega
          have HZ2 := hide hZ; clear hZ HZ
          have hwk : IntKind.i64.wrap 1 = 1 := by kernel_rfl
          have N1 := hide (M1.out.kept GX.out)
          have qq1 : ¬ (9223372036854775807 < Z.length + C.length) := by omega
          go_wp2_with fail; refine wp_region_held_drew (S := (fun w' => w'.cell? ⟨w.heap.size, 4, none⟩ = some (.slice (some ⟨g, o, none⟩) 6 c) ∧ w'.cell? ⟨wu.heap.size, 0, none⟩ = some (.string ⟨List.toArray [67, 79, 78, 83, 84]⟩) ∧ w'.cell? ⟨g, o + 9, none⟩ = some s1)) (by kernel_rfl) ?_ (fun hHeld => ?_)
          · exact ⟨gb_cell (gb_drew (gb_refl wx none)) BX.out.c4, gb_cell (gb_drew (gb_refl wx none)) WX.out.c0, gb_cell (gb_drew (gb_refl wx none)) N1.out.c4⟩
          refine tk 0 (.string (⟨List.toArray Z⟩ : ByteArray)) rfl (fun _ _ => by go_simp) hHeld ?_; simp only [Act.put, List.setIfInBounds_toArray]; refine tk 1 (.slice (some ⟨wu.heap.size, 0, none⟩) 3 3) rfl (fun _ _ => by go_simp) hHeld ?_; simp only [Act.put]; refine tk 2 (.int .i64 0) rfl (fun _ _ => by go_simp) hHeld ?_; simp only [Act.put]; refine tk 3 (.pointer (some ⟨wu.heap.size, 0, none⟩)) rfl (fun _ _ => by go_simp) hHeld ?_; simp only [Act.put]; refine tk 4 (.string (⟨List.toArray [67, 79, 78, 83, 84]⟩ : ByteArray)) rfl (fun _ ⟨_,_,_⟩ => by go_simp) hHeld ?_; simp only [Act.put]; refine tk 5 (.pointer (some ⟨w.heap.size, 4, none⟩)) rfl (fun _ _ => by go_simp) hHeld ?_; simp only [Act.put]; refine tk 6 (.slice (some ⟨g, o, none⟩) 6 c) rfl (fun _ ⟨_,_,_⟩ => by go_simp) hHeld ?_; simp only [Act.put]; refine tk 7 (.int .i64 0) rfl (fun _ _ => by go_simp) hHeld ?_; simp only [Act.put]; refine tk 8 (.int .i64 (1 + 0)) rfl (fun _ _ => by go_simp) hHeld ?_; simp only [Act.put]; refine tk 9 (.pointer (some ⟨g, o + 5, none⟩)) rfl (fun _ _ => by go_simp) hHeld ?_; simp only [Act.put]; refine tk 10 (.pointer (some ⟨g, o + 9, none⟩)) rfl (fun _ _ => by go_simp) hHeld ?_; simp only [Act.put]; refine tk 11 s1 rfl (fun _ ⟨_,_,_⟩ => by go_simp) hHeld ?_; simp only [Act.put]; refine rd 12 rfl fun KK hKK => ?_
          go_simp
          go_at_call 19; refine (HC.out _ _ (by exact gb_drew GX.out) (A1.out.kept (by exact gb_drew GX.out))).mono ?_; rintro e w1 ⟨rfl, hg1⟩; have G1 := hide (gb_trans (by exact gb_drew GX.out) hg1); have B1 := hide (BX.out.kept (gb_trans (by exact gb_drew (gb_refl wx none)) hg1)); have R1 := hide (gb_trans (by exact gb_drew (gb_refl wx none)) hg1); clear hg1
          go_simp
          refine hKK.out _ _ ⟨B1.out.c4, gb_cell R1.out WX.out.c0, gb_cell R1.out N1.out.c4⟩ fun hHeld => ?_
          clear hKK KK; refine rd 13 rfl fun KK hKK => ?_
          go_simp
          refine hKK.out _ _ hHeld fun hHeld => ?_
          clear hKK KK; refine rd 14 rfl fun KK hKK => ?_
          go_simp
          refine hKK.out _ _ hHeld fun hHeld => ?_
          clear hKK KK; refine wpAnyH_done (by kernel_rfl) ?_ _; clear hHeld; go_wp2_with fail; refine ⟨⟨Z ++ C, strA_eq (by repeat rw [ba_app]), Or.inr (Or.inl ⟨rfl, ?_⟩), G1, B1, WX.out.kept R1.out⟩, by simp [intOf]⟩; rw [HZ2.out]
        · have lZ : Z.length ≤ 30000000 := by rw [hZ]; (try simp only [List.length_append, List.length_cons, List.length_nil]); omega
          have HZ2 := hide hZ; clear hZ HZ
          have hwk : IntKind.i64.wrap 2 = 2 := by kernel_rfl
          have N2 := hide (M2.out.kept GX.out)
          have qq1 : ¬ (9223372036854775807 < Z.length + K.length) := by omega
          go_wp2_with fail; refine wp_region_held_drew (S := (fun w' => w'.cell? ⟨w.heap.size, 4, none⟩ = some (.slice (some ⟨g, o, none⟩) 6 c) ∧ w'.cell? ⟨wu.heap.size, 1, none⟩ = some (.string ⟨List.toArray [84, 89, 80, 69]⟩) ∧ w'.cell? ⟨g, o + 14, none⟩ = some s2)) (by kernel_rfl) ?_ (fun hHeld => ?_)
          · exact ⟨gb_cell (gb_drew (gb_refl wx none)) BX.out.c4, gb_cell (gb_drew (gb_refl wx none)) WX.out.c1, gb_cell (gb_drew (gb_refl wx none)) N2.out.c4⟩
          refine tk 0 (.string (⟨List.toArray Z⟩ : ByteArray)) rfl (fun _ _ => by go_simp) hHeld ?_; simp only [Act.put, List.setIfInBounds_toArray]; refine tk 1 (.slice (some ⟨wu.heap.size, 0, none⟩) 3 3) rfl (fun _ _ => by go_simp) hHeld ?_; simp only [Act.put]; refine tk 2 (.int .i64 1) rfl (fun _ _ => by go_simp) hHeld ?_; simp only [Act.put]; refine tk 3 (.pointer (some ⟨wu.heap.size, 1, none⟩)) rfl (fun _ _ => by go_simp) hHeld ?_; simp only [Act.put]; refine tk 4 (.string (⟨List.toArray [84, 89, 80, 69]⟩ : ByteArray)) rfl (fun _ ⟨_,_,_⟩ => by go_simp) hHeld ?_; simp only [Act.put]; refine tk 5 (.pointer (some ⟨w.heap.size, 4, none⟩)) rfl (fun _ _ => by go_simp) hHeld ?_; simp only [Act.put]; refine tk 6 (.slice (some ⟨g, o, none⟩) 6 c) rfl (fun _ ⟨_,_,_⟩ => by go_simp) hHeld ?_; simp only [Act.put]; refine tk 7 (.int .i64 1) rfl (fun _ _ => by go_simp) hHeld ?_; simp only [Act.put]; refine tk 8 (.int .i64 (1 + 1)) rfl (fun _ _ => by go_simp) hHeld ?_; simp only [Act.put]; refine tk 9 (.pointer (some ⟨g, o + 10, none⟩)) rfl (fun _ _ => by go_simp) hHeld ?_; simp only [Act.put]; refine tk 10 (.pointer (some ⟨g, o + 14, none⟩)) rfl (fun _ _ => by go_simp) hHeld ?_; simp only [Act.put]; refine tk 11 s2 rfl (fun _ ⟨_,_,_⟩ => by go_simp) hHeld ?_; simp only [Act.put]; refine rd 12 rfl fun KK hKK => ?_
          go_simp
          go_at_call 19; refine (HK.out _ _ (by exact gb_drew GX.out) (A2.out.kept (by exact gb_drew GX.out))).mono ?_; rintro e w1 ⟨rfl, hg1⟩; have G1 := hide (gb_trans (by exact gb_drew GX.out) hg1); have B1 := hide (BX.out.kept (gb_trans (by exact gb_drew (gb_refl wx none)) hg1)); have R1 := hide (gb_trans (by exact gb_drew (gb_refl wx none)) hg1); clear hg1
          go_simp
          refine hKK.out _ _ ⟨B1.out.c4, gb_cell R1.out WX.out.c1, gb_cell R1.out N2.out.c4⟩ fun hHeld => ?_
          clear hKK KK; refine rd 13 rfl fun KK hKK => ?_
          go_simp
          refine hKK.out _ _ hHeld fun hHeld => ?_
          clear hKK KK; refine rd 14 rfl fun KK hKK => ?_
          go_simp
          refine hKK.out _ _ hHeld fun hHeld => ?_
          clear hKK KK; refine wpAnyH_done (by kernel_rfl) ?_ _; clear hHeld; go_wp2_with fail; refine ⟨⟨Z ++ K, strA_eq (by repeat rw [ba_app]), Or.inr (Or.inr (Or.inl ⟨rfl, ?_⟩)), G1, B1, WX.out.kept R1.out⟩, by simp [intOf]⟩; rw [HZ2.out]
        · have lZ : Z.length ≤ 30000000 := by rw [hZ]; (try simp only [List.length_append, List.length_cons, List.length_nil]); omega
          have HZ2 := hide hZ; clear hZ HZ
          have hwk : IntKind.i64.wrap 3 = 3 := by kernel_rfl
          have N3 := hide (M3.out.kept GX.out)
          have qq1 : ¬ (9223372036854775807 < Z.length + V.length) := by omega
          go_wp2_with fail; refine wp_region_held_drew (S := (fun w' => w'.cell? ⟨w.heap.size, 4, none⟩ = some (.slice (some ⟨g, o, none⟩) 6 c) ∧ w'.cell? ⟨wu.heap.size, 2, none⟩ = some (.string ⟨List.toArray [86, 65, 82]⟩) ∧ w'.cell? ⟨g, o + 19, none⟩ = some s3)) (by kernel_rfl) ?_ (fun hHeld => ?_)
          · exact ⟨gb_cell (gb_drew (gb_refl wx none)) BX.out.c4, gb_cell (gb_drew (gb_refl wx none)) WX.out.c2, gb_cell (gb_drew (gb_refl wx none)) N3.out.c4⟩
          refine tk 0 (.string (⟨List.toArray Z⟩ : ByteArray)) rfl (fun _ _ => by go_simp) hHeld ?_; simp only [Act.put, List.setIfInBounds_toArray]; refine tk 1 (.slice (some ⟨wu.heap.size, 0, none⟩) 3 3) rfl (fun _ _ => by go_simp) hHeld ?_; simp only [Act.put]; refine tk 2 (.int .i64 2) rfl (fun _ _ => by go_simp) hHeld ?_; simp only [Act.put]; refine tk 3 (.pointer (some ⟨wu.heap.size, 2, none⟩)) rfl (fun _ _ => by go_simp) hHeld ?_; simp only [Act.put]; refine tk 4 (.string (⟨List.toArray [86, 65, 82]⟩ : ByteArray)) rfl (fun _ ⟨_,_,_⟩ => by go_simp) hHeld ?_; simp only [Act.put]; refine tk 5 (.pointer (some ⟨w.heap.size, 4, none⟩)) rfl (fun _ _ => by go_simp) hHeld ?_; simp only [Act.put]; refine tk 6 (.slice (some ⟨g, o, none⟩) 6 c) rfl (fun _ ⟨_,_,_⟩ => by go_simp) hHeld ?_; simp only [Act.put]; refine tk 7 (.int .i64 2) rfl (fun _ _ => by go_simp) hHeld ?_; simp only [Act.put]; refine tk 8 (.int .i64 (1 + 2)) rfl (fun _ _ => by go_simp) hHeld ?_; simp only [Act.put]; refine tk 9 (.pointer (some ⟨g, o + 15, none⟩)) rfl (fun _ _ => by go_simp) hHeld ?_; simp only [Act.put]; refine tk 10 (.pointer (some ⟨g, o + 19, none⟩)) rfl (fun _ _ => by go_simp) hHeld ?_; simp only [Act.put]; refine tk 11 s3 rfl (fun _ ⟨_,_,_⟩ => by go_simp) hHeld ?_; simp only [Act.put]; refine rd 12 rfl fun KK hKK => ?_
          go_simp
          go_at_call 19; refine (HV.out _ _ (by exact gb_drew GX.out) (A3.out.kept (by exact gb_drew GX.out))).mono ?_; rintro e w1 ⟨rfl, hg1⟩; have G1 := hide (gb_trans (by exact gb_drew GX.out) hg1); have B1 := hide (BX.out.kept (gb_trans (by exact gb_drew (gb_refl wx none)) hg1)); have R1 := hide (gb_trans (by exact gb_drew (gb_refl wx none)) hg1); clear hg1
          go_simp
          refine hKK.out _ _ ⟨B1.out.c4, gb_cell R1.out WX.out.c2, gb_cell R1.out N3.out.c4⟩ fun hHeld => ?_
          clear hKK KK; refine rd 13 rfl fun KK hKK => ?_
          go_simp
          refine hKK.out _ _ hHeld fun hHeld => ?_
          clear hKK KK; refine rd 14 rfl fun KK hKK => ?_
          go_simp
          refine hKK.out _ _ hHeld fun hHeld => ?_
          clear hKK KK; refine wpAnyH_done (by kernel_rfl) ?_ _; clear hHeld; go_wp2_with fail; refine ⟨⟨Z ++ V, strA_eq (by repeat rw [ba_app]), Or.inr (Or.inr (Or.inr ⟨rfl, ?_⟩)), G1, B1, WX.out.kept R1.out⟩, by simp [intOf]⟩; rw [HZ2.out]
        · have lZ : Z.length ≤ 30000000 := by rw [hZ]; (try simp only [List.length_append, List.length_cons, List.length_nil]); omega
          have HZ2 := hide hZ; clear hZ HZ d0 d1 d2; obtain ⟨p0,p1,p2,p3,p4⟩ := M4.out.kept GX.out; go_wp2_with fail
          go_loopw [3, 8] (fun sv iv wz => ∃ (j : Nat) (U : List UInt8), j ≤ l5.length ∧ iv = .int .i64 ↑j ∧ sv = .string ⟨U.toArray⟩ ∧ Hid (U = Z ++ flatTx tx (l5.take j)) ∧ Hid (w.grownBy wz none) ∧ Hid (Box wz w.heap.size (.mk 2 x 0 p [.mk 1 [] 0 q us, cs, ts, vs, .mk 1 [] 0 q5 l5, bs]) (.slice (some ⟨g, o, none⟩) 6 c))) (fun _ iv _ => l5.length - (intOf iv).toNat)
          case atStart => exact ⟨0, Z, Nat.zero_le _, rfl, rfl, by show _ = _; simp [flatTx], GX, BX⟩
          case round =>
            clear b0 b1 b2 b3 b4 p0 p1 p2 p3 p4; obtain ⟨wz, hwz⟩ : ∃ z, z = wr := ⟨_, rfl⟩; subst hwz; obtain ⟨j,U,_,rfl,rfl,HU,GZ,BZ⟩ := hrel; obtain ⟨b0,b1,b2,b3,b4⟩ := BZ.out.p
            obtain ⟨p0,p1,p2,p3,p4⟩ := M4.out.kept GZ.out; have bl4 := block_lt b0
            have hU : U.length ≤ 40000000 := by
              rw [HU.out]; have := flat_le tx l5 j; simp only [List.length_append]
              omega
            by_cases hlt2 : j < l5.length
            · obtain ⟨t, ht⟩ : ∃ t, l5[j]? = some t := ⟨_, List.getElem?_eq_getElem hlt2⟩
              obtain ⟨_,ht9⟩ := HP.out t (List.mem_of_getElem? ht); have HT9 := hide ht9; obtain ⟨gg, oo, st, e1, n5, -, at5⟩ := A4.out.node j _ ht; cases e1; have AT5 := hide at5; have HF := hide (flat_take (tx := tx) ht); obtain ⟨t0,t1,t2,t3,t4⟩ := n5.kept GZ.out; clear ht n5 at5 ht9
              have qa : ¬ (9223372036854775807 < U.length + (tx t).length) := by omega
              go_wp2_with fail; go_at_call 20; refine (HT9.out _ _ GZ.out (AT5.out.kept GZ.out)).mono ?_; rintro e w9 ⟨rfl, hg9⟩; have G9 := hide (gb_trans GZ.out hg9); have B9 := hide (BZ.out.kept (gb_trans (gb_refl wz none) hg9)); clear hg9; go_wp2_with fail; refine ⟨⟨j + 1, U ++ tx t, by omega, by go_num, strA_eq (by repeat rw [ba_app]), ?_, G9, B9⟩, by simp [intOf]; omega⟩
              show _ = _
              rw [HF.out, HU.out]; simp only [List.append_assoc]
            · have HX2 : Hid (U = Z ++ flatTx tx l5) := by
                have := HU.out; rw [List.take_of_length_le (by omega)] at this
                exact this
              clear HU; obtain ⟨_,_,_,_,_⟩ := M5.out.kept GZ.out
              rcases Nat.eq_zero_or_pos bs.subs.length with hb | hb
              · have hb0 : ¬ (0 : Int) < (bs.subs.length : Int) := by omega
                have HE : Hid (bs.subs.isEmpty = true) := by show _ = _; rw [List.isEmpty_iff]; exact List.eq_nil_of_length_eq_zero hb
                have qa : ¬ (9223372036854775807 < U.length + 4) := by omega
                have qb : ¬ (9223372036854775807 < U.length + 4 + x.length) := by omega
                have qc : ¬ (9223372036854775807 < U.length + 4 + x.length + 2) := by omega
                go_wp2_with fail
                go_ret
                refine ⟨ret_str ?_, GZ.out⟩; rw [show (⟨#[69, 78, 68, 32]⟩ : ByteArray) = ⟨List.toArray [69, 78, 68, 32]⟩ from rfl, show (⟨#[46, 10]⟩ : ByteArray) = ⟨List.toArray [46, 10]⟩ from rfl]
                repeat rw [ba_app]
                rw [HX2.out, HZ2.out, HX.out, HEE.out, if_pos HE.out]; simp only [List.append_assoc, List.nil_append]
                rfl
              · have hb0 : (0 : Int) < (bs.subs.length : Int) := by omega
                have HE : Hid (¬ bs.subs.isEmpty = true) := by show ¬ _; rw [List.isEmpty_iff]; intro h9; rw [h9] at hb; simp at hb
                have qa : ¬ (9223372036854775807 < U.length + 6) := by omega
                have qb : ¬ (9223372036854775807 < U.length + 6 + B.length) := by omega
                have qc : ¬ (9223372036854775807 < U.length + 6 + B.length + 4) := by omega
                have qd : ¬ (9223372036854775807 < U.length + 6 + B.length + 4 + x.length) := by omega
                have qe : ¬ (9223372036854775807 < U.length + 6 + B.length + 4 + x.length + 2) := by omega
                go_wp2_with fail; go_at_call 21; refine (HB.out _ _ GZ.out (A5.out.kept GZ.out)).mono ?_; rintro e w9 ⟨rfl, hg9⟩; have G9 := hide (gb_trans GZ.out hg9); have B9 := hide (BZ.out.kept (gb_trans (gb_refl wz none) hg9)); obtain ⟨_,_,_,_,_⟩ := B9.out.p
                clear hg9; go_wp2_with fail
                go_ret
                refine ⟨ret_str ?_, G9.out⟩; rw [show (⟨#[69, 78, 68, 32]⟩ : ByteArray) = ⟨List.toArray [69, 78, 68, 32]⟩ from rfl, show (⟨#[46, 10]⟩ : ByteArray) = ⟨List.toArray [46, 10]⟩ from rfl, show (⟨#[66, 69, 71, 73, 78, 10]⟩ : ByteArray) = ⟨List.toArray [66, 69, 71, 73, 78, 10]⟩ from rfl]
                repeat rw [ba_app]
                rw [HX2.out, HZ2.out, HX.out, HEE.out, if_neg HE.out]; simp only [List.append_assoc]
                rfl
theorem printedZ (x : List UInt8) (p q q5 : Int) (us l5 : List T) (cs ts vs bs : T) (sv : Value) (w : World) (ha : AT w (T.mk 2 x 0 p [.mk 1 [] 0 q us, cs, ts, vs, .mk 1 [] 0 q5 l5, bs]).subs sv) (hx : x.length ≤ 12) (C K V B : List UInt8) (lC : C.length ≤ 4000000) (lK : K.length ≤ 4000000) (lV : V.length ≤ 4000000) (hC : ∀ w' sl, w.grownBy w' none → AT w' cs.subs sl → Calls Tryz.prog 19 #[.string ⟨List.toArray [67, 79, 78, 83, 84]⟩, sl] w' (Sy w' (.string ⟨C.toArray⟩))) (hK : ∀ w' sl, w.grownBy w' none → AT w' ts.subs sl → Calls Tryz.prog 19 #[.string ⟨List.toArray [84, 89, 80, 69]⟩, sl] w' (Sy w' (.string ⟨K.toArray⟩))) (hV : ∀ w' sl, w.grownBy w' none → AT w' vs.subs sl → Calls Tryz.prog 19 #[.string ⟨List.toArray [86, 65, 82]⟩, sl] w' (Sy w' (.string ⟨V.toArray⟩))) (hB : STx w bs [32, 32] B) (tx : T → List UInt8) (hP : ∀ t ∈ l5, (tx t).length ≤ 4000000 ∧ ∀ w' st, w.grownBy w' none → AT w' t.subs st → Calls Tryz.prog 20 #[nodeV t st] w' (Sy w' (.string ⟨(tx t).toArray⟩))) (hlen5 : (flatTx tx l5).length ≤ 4000000) (E : List UInt8) (hE : E = if bs.subs.isEmpty then [] else [66, 69, 71, 73, 78, 10] ++ B) (hus : ¬ 0 < us.length) :
    Calls Tryz.prog 7 #[.agg #[.int .i64 2, .string ⟨x.toArray⟩, .int .i64 0, .int .i64 p, sv]] w (Sy w (.string ⟨([77, 79, 68, 85, 76, 69, 32] ++ x ++ [59, 10] ++ C ++ K ++ V ++ flatTx tx l5 ++ E ++ [69, 78, 68, 32] ++ x ++ [46, 10]).toArray⟩)) := by
  have HC := hide hC; have HK := hide hK; have HV := hide hV; have HP := hide hP; have HEE := hide hE; clear hE; obtain ⟨_,hB2⟩ := hB; have HB := hide hB2; obtain ⟨_,c,rfl,hn,hcc0⟩ := ha.form
  have hcc : c ≤ 9223372036854775807 := by unfold maxLen at hcc0; omega
  have hn6 : 6 ≤ c := hn; obtain ⟨g, o, s0, e0, n0, -, a0⟩ := ha.node 0 _ rfl; subst e0; obtain ⟨g', o', s1, e1, n1, -, a1⟩ := ha.node 1 _ rfl; cases e1; obtain ⟨g', o', s2, e1, n2, -, a2⟩ := ha.node 2 _ rfl; cases e1; obtain ⟨g', o', s3, e1, n3, -, a3⟩ := ha.node 3 _ rfl; cases e1; obtain ⟨g', o', s4, e1, n4, -, a4⟩ := ha.node 4 _ rfl; cases e1; obtain ⟨g', o', s5, e1, n5, -, a5⟩ := ha.node 5 _ rfl; cases e1; have M0 : Hid (Node5 w g o (.mk 1 [] 0 q us) s0) := n0; have M1 : Hid (Node5 w g (o + 5) cs s1) := n1; have M2 : Hid (Node5 w g (o + 10) ts s2) := n2; have M3 : Hid (Node5 w g (o + 15) vs s3) := n3; have M4 : Hid (Node5 w g (o + 20) (.mk 1 [] 0 q5 l5) s4) := n4; have M5 : Hid (Node5 w g (o + 25) bs s5) := n5; have A1 := hide a1; have A2 := hide a2; have A3 := hide a3; have A5 := hide a5; have hgl : g < w.heap.size := block_lt n0.c0
  change AT w us s0 at a0
  have A0 := hide a0; obtain ⟨_,_,rfl,_,hs2⟩ := a0.form
  unfold maxLen at hs2
  change AT w l5 s4 at a4
  have A4 := hide a4; obtain ⟨_,_,rfl,_,hs4⟩ := a4.form
  unfold maxLen at hs4
  obtain ⟨_,_,rfl,_,hs6⟩ := a5.form
  unfold maxLen at hs6
  have B0 : Hid (Box (w.alloc (.cells #[.int .i64 2, .string ⟨x.toArray⟩, .int .i64 0, .int .i64 p, .slice (some ⟨g, o, none⟩) 6 c] 24)) w.heap.size (.mk 2 x 0 p [.mk 1 [] 0 q us, cs, ts, vs, .mk 1 [] 0 q5 l5, bs]) (.slice (some ⟨g, o, none⟩) 6 c)) := Box.new w (.mk 2 x 0 p [.mk 1 [] 0 q us, cs, ts, vs, .mk 1 [] 0 q5 l5, bs]) (.slice (some ⟨g, o, none⟩) 6 c) 24; clear ha hC hK hV hP hB2 hcc0 hn n0 n1 n2 n3 n4 n5 a0 a1 a2 a3 a4 a5; obtain ⟨p0,p1,p2,p3,p4⟩ := M0.out
  change Calls Tryz.prog 7 #[.agg #[.int .i64 2, .string ⟨x.toArray⟩, .int .i64 0, .int .i64 p, .slice (some ⟨g, o, none⟩) 6 c]] w _
  have q1 : ¬ (9223372036854775807 < 7 + x.length) := by omega
  have q2 : ¬ (9223372036854775807 < 7 + x.length + 2) := by omega
  go_enter Tryz.func7, Tryz.ntmps7
  go_wp2_with fail
  go_loopw [3, 5] (fun sv iv wr => ∃ (i : Nat) (Y : List UInt8), i ≤ us.length ∧ iv = .int .i64 ↑i ∧ sv = .string ⟨Y.toArray⟩ ∧ Hid (Y = [77, 79, 68, 85, 76, 69, 32] ++ x ++ [59, 10] ++ (if i = 0 then [] else [73, 77, 80, 79, 82, 84, 32] ++ sepTx [44, 32] ((us.map T.name).take i))) ∧ Hid (w.grownBy wr none) ∧ Hid (Box wr w.heap.size (.mk 2 x 0 p [.mk 1 [] 0 q us, cs, ts, vs, .mk 1 [] 0 q5 l5, bs]) (.slice (some ⟨g, o, none⟩) 6 c))) (fun _ iv _ => us.length - (intOf iv).toNat)
  case atStart => exact ⟨0, [77, 79, 68, 85, 76, 69, 32] ++ x ++ [59, 10], Nat.zero_le _, rfl, strA_eq (by repeat rw [ba_app]), by show _ = _; simp, gb_alloc (gb_refl w none) _, B0.out⟩
  case round =>
    clear p0 p1 p2 p3 p4; obtain ⟨wu, hwu⟩ : ∃ z, z = wr := ⟨_, rfl⟩; subst hwu; obtain ⟨i,Y,_,rfl,rfl,HY,G0,BR⟩ := hrel; obtain ⟨b0,b1,b2,b3,b4⟩ := BR.out; have bl := block_lt b0
    by_cases hlt : i < us.length
    · omega
    · have HX : Hid (Y = [77, 79, 68, 85, 76, 69, 32] ++ x ++ [59, 10]) := by
        have := HY.out; rw [if_pos (by omega), List.append_nil] at this
        exact this
      have hY : Y.length ≤ 5000000 := by
        rw [HX.out]; simp only [List.length_append, List.length_cons, List.length_nil]
        omega
      have hl0 : ¬ (0 : Int) < (us.length : Int) := by omega
      clear HY; go_wp2_with fail
      go_loopw [3, 7] (fun sv iv wx => ∃ (Z : List UInt8), sv = .string ⟨Z.toArray⟩ ∧ Hid ((iv = .int .i64 0 ∧ Z = Y) ∨ (iv = .int .i64 1 ∧ Z = Y ++ C) ∨ (iv = .int .i64 2 ∧ Z = Y ++ C ++ K) ∨ (iv = .int .i64 3 ∧ Z = Y ++ C ++ K ++ V)) ∧ Hid (w.grownBy wx none) ∧ Hid (Box wx w.heap.size (.mk 2 x 0 p [.mk 1 [] 0 q us, cs, ts, vs, .mk 1 [] 0 q5 l5, bs]) (.slice (some ⟨g, o, none⟩) 6 c)) ∧ Hid (Wds wx wu.heap.size)) (fun _ iv _ => 3 - (intOf iv).toNat)
      case atStart => exact ⟨Y, rfl, Or.inl ⟨rfl, rfl⟩, gb_alloc G0.out _, BR.out.kept (gb_alloc (gb_refl wu none) _), Wds.new _ _⟩
      case round =>
        clear b0 b1 b2 b3 b4; obtain ⟨wx, hwx⟩ : ∃ z, z = wr := ⟨_, rfl⟩; subst hwx; obtain ⟨Z,rfl,HZ,GX,BX,WX⟩ := hrel; obtain ⟨b0,b1,b2,b3,b4⟩ := BX.out; obtain ⟨d0,d1,d2⟩ := WX.out; have bl2 := block_lt b0; have bl3 := block_lt d0
        rcases HZ.out with ⟨rfl, hZ⟩ | ⟨rfl, hZ⟩ | ⟨rfl, hZ⟩ | ⟨rfl, hZ⟩
        · have lZ : Z.length ≤ 30000000 := by rw [hZ]; (try simp only [List.length_append, List.length_cons, List.length_nil]); omega
          have HZ2 := hide hZ; clear hZ HZ
          have hwk : IntKind.i64.wrap 1 = 1 := by kernel_rfl
          have N1 := hide (M1.out.kept GX.out)
          have qq1 : ¬ (9223372036854775807 < Z.length + C.length) := by omega
          go_wp2_with fail; refine wp_region_held_drew (S := (fun w' => w'.cell? ⟨w.heap.size, 4, none⟩ = some (.slice (some ⟨g, o, none⟩) 6 c) ∧ w'.cell? ⟨wu.heap.size, 0, none⟩ = some (.string ⟨List.toArray [67, 79, 78, 83, 84]⟩) ∧ w'.cell? ⟨g, o + 9, none⟩ = some s1)) (by kernel_rfl) ?_ (fun hHeld => ?_)
          · exact ⟨gb_cell (gb_drew (gb_refl wx none)) BX.out.c4, gb_cell (gb_drew (gb_refl wx none)) WX.out.c0, gb_cell (gb_drew (gb_refl wx none)) N1.out.c4⟩
          refine tk 0 (.string (⟨List.toArray Z⟩ : ByteArray)) rfl (fun _ _ => by go_simp) hHeld ?_; simp only [Act.put, List.setIfInBounds_toArray]; refine tk 1 (.slice (some ⟨wu.heap.size, 0, none⟩) 3 3) rfl (fun _ _ => by go_simp) hHeld ?_; simp only [Act.put]; refine tk 2 (.int .i64 0) rfl (fun _ _ => by go_simp) hHeld ?_; simp only [Act.put]; refine tk 3 (.pointer (some ⟨wu.heap.size, 0, none⟩)) rfl (fun _ _ => by go_simp) hHeld ?_; simp only [Act.put]; refine tk 4 (.string (⟨List.toArray [67, 79, 78, 83, 84]⟩ : ByteArray)) rfl (fun _ ⟨_,_,_⟩ => by go_simp) hHeld ?_; simp only [Act.put]; refine tk 5 (.pointer (some ⟨w.heap.size, 4, none⟩)) rfl (fun _ _ => by go_simp) hHeld ?_; simp only [Act.put]; refine tk 6 (.slice (some ⟨g, o, none⟩) 6 c) rfl (fun _ ⟨_,_,_⟩ => by go_simp) hHeld ?_; simp only [Act.put]; refine tk 7 (.int .i64 0) rfl (fun _ _ => by go_simp) hHeld ?_; simp only [Act.put]; refine tk 8 (.int .i64 (1 + 0)) rfl (fun _ _ => by go_simp) hHeld ?_; simp only [Act.put]; refine tk 9 (.pointer (some ⟨g, o + 5, none⟩)) rfl (fun _ _ => by go_simp) hHeld ?_; simp only [Act.put]; refine tk 10 (.pointer (some ⟨g, o + 9, none⟩)) rfl (fun _ _ => by go_simp) hHeld ?_; simp only [Act.put]; refine tk 11 s1 rfl (fun _ ⟨_,_,_⟩ => by go_simp) hHeld ?_; simp only [Act.put]; refine rd 12 rfl fun KK hKK => ?_
          go_simp
          go_at_call 19; refine (HC.out _ _ (by exact gb_drew GX.out) (A1.out.kept (by exact gb_drew GX.out))).mono ?_; rintro e w1 ⟨rfl, hg1⟩; have G1 := hide (gb_trans (by exact gb_drew GX.out) hg1); have B1 := hide (BX.out.kept (gb_trans (by exact gb_drew (gb_refl wx none)) hg1)); have R1 := hide (gb_trans (by exact gb_drew (gb_refl wx none)) hg1); clear hg1
          go_simp
          refine hKK.out _ _ ⟨B1.out.c4, gb_cell R1.out WX.out.c0, gb_cell R1.out N1.out.c4⟩ fun hHeld => ?_
          clear hKK KK; refine rd 13 rfl fun KK hKK => ?_
          go_simp
          refine hKK.out _ _ hHeld fun hHeld => ?_
          clear hKK KK; refine rd 14 rfl fun KK hKK => ?_
          go_simp
          refine hKK.out _ _ hHeld fun hHeld => ?_
          clear hKK KK; refine wpAnyH_done (by kernel_rfl) ?_ _; clear hHeld; go_wp2_with fail; refine ⟨⟨Z ++ C, strA_eq (by repeat rw [ba_app]), Or.inr (Or.inl ⟨rfl, ?_⟩), G1, B1, WX.out.kept R1.out⟩, by simp [intOf]⟩; rw [HZ2.out]
        · have lZ : Z.length ≤ 30000000 := by rw [hZ]; (try simp only [List.length_append]); omega
          have HZ2 := hide hZ; clear hZ HZ
          have hwk : IntKind.i64.wrap 2 = 2 := by kernel_rfl
          have N2 := hide (M2.out.kept GX.out)
          have qq1 : ¬ (9223372036854775807 < Z.length + K.length) := by omega
          go_wp2_with fail; refine wp_region_held_drew (S := (fun w' => w'.cell? ⟨w.heap.size, 4, none⟩ = some (.slice (some ⟨g, o, none⟩) 6 c) ∧ w'.cell? ⟨wu.heap.size, 1, none⟩ = some (.string ⟨List.toArray [84, 89, 80, 69]⟩) ∧ w'.cell? ⟨g, o + 14, none⟩ = some s2)) (by kernel_rfl) ?_ (fun hHeld => ?_)
          · exact ⟨gb_cell (gb_drew (gb_refl wx none)) BX.out.c4, gb_cell (gb_drew (gb_refl wx none)) WX.out.c1, gb_cell (gb_drew (gb_refl wx none)) N2.out.c4⟩
          refine tk 0 (.string (⟨List.toArray Z⟩ : ByteArray)) rfl (fun _ _ => by go_simp) hHeld ?_; simp only [Act.put, List.setIfInBounds_toArray]; refine tk 1 (.slice (some ⟨wu.heap.size, 0, none⟩) 3 3) rfl (fun _ _ => by go_simp) hHeld ?_; simp only [Act.put]; refine tk 2 (.int .i64 1) rfl (fun _ _ => by go_simp) hHeld ?_; simp only [Act.put]; refine tk 3 (.pointer (some ⟨wu.heap.size, 1, none⟩)) rfl (fun _ _ => by go_simp) hHeld ?_; simp only [Act.put]; refine tk 4 (.string (⟨List.toArray [84, 89, 80, 69]⟩ : ByteArray)) rfl (fun _ ⟨_,_,_⟩ => by go_simp) hHeld ?_; simp only [Act.put]; refine tk 5 (.pointer (some ⟨w.heap.size, 4, none⟩)) rfl (fun _ _ => by go_simp) hHeld ?_; simp only [Act.put]; refine tk 6 (.slice (some ⟨g, o, none⟩) 6 c) rfl (fun _ ⟨_,_,_⟩ => by go_simp) hHeld ?_; simp only [Act.put]; refine tk 7 (.int .i64 1) rfl (fun _ _ => by go_simp) hHeld ?_; simp only [Act.put]; refine tk 8 (.int .i64 (1 + 1)) rfl (fun _ _ => by go_simp) hHeld ?_; simp only [Act.put]; refine tk 9 (.pointer (some ⟨g, o + 10, none⟩)) rfl (fun _ _ => by go_simp) hHeld ?_; simp only [Act.put]; refine tk 10 (.pointer (some ⟨g, o + 14, none⟩)) rfl (fun _ _ => by go_simp) hHeld ?_; simp only [Act.put]; refine tk 11 s2 rfl (fun _ ⟨_,_,_⟩ => by go_simp) hHeld ?_; simp only [Act.put]; refine rd 12 rfl fun KK hKK => ?_
          go_simp
          go_at_call 19; refine (HK.out _ _ (by exact gb_drew GX.out) (A2.out.kept (by exact gb_drew GX.out))).mono ?_; rintro e w1 ⟨rfl, hg1⟩; have G1 := hide (gb_trans (by exact gb_drew GX.out) hg1); have B1 := hide (BX.out.kept (gb_trans (by exact gb_drew (gb_refl wx none)) hg1)); have R1 := hide (gb_trans (by exact gb_drew (gb_refl wx none)) hg1); clear hg1
          go_simp
          refine hKK.out _ _ ⟨B1.out.c4, gb_cell R1.out WX.out.c1, gb_cell R1.out N2.out.c4⟩ fun hHeld => ?_
          clear hKK KK; refine rd 13 rfl fun KK hKK => ?_
          go_simp
          refine hKK.out _ _ hHeld fun hHeld => ?_
          clear hKK KK; refine rd 14 rfl fun KK hKK => ?_
          go_simp
          refine hKK.out _ _ hHeld fun hHeld => ?_
          clear hKK KK; refine wpAnyH_done (by kernel_rfl) ?_ _; clear hHeld; go_wp2_with fail; refine ⟨⟨Z ++ K, strA_eq (by repeat rw [ba_app]), Or.inr (Or.inr (Or.inl ⟨rfl, ?_⟩)), G1, B1, WX.out.kept R1.out⟩, by simp [intOf]⟩; rw [HZ2.out]
        · have lZ : Z.length ≤ 30000000 := by rw [hZ]; (try simp only [List.length_append]); omega
          have HZ2 := hide hZ; clear hZ HZ
          have hwk : IntKind.i64.wrap 3 = 3 := by kernel_rfl
          have N3 := hide (M3.out.kept GX.out)
          have qq1 : ¬ (9223372036854775807 < Z.length + V.length) := by omega
          go_wp2_with fail; refine wp_region_held_drew (S := (fun w' => w'.cell? ⟨w.heap.size, 4, none⟩ = some (.slice (some ⟨g, o, none⟩) 6 c) ∧ w'.cell? ⟨wu.heap.size, 2, none⟩ = some (.string ⟨List.toArray [86, 65, 82]⟩) ∧ w'.cell? ⟨g, o + 19, none⟩ = some s3)) (by kernel_rfl) ?_ (fun hHeld => ?_)
          · exact ⟨gb_cell (gb_drew (gb_refl wx none)) BX.out.c4, gb_cell (gb_drew (gb_refl wx none)) WX.out.c2, gb_cell (gb_drew (gb_refl wx none)) N3.out.c4⟩
          refine tk 0 (.string (⟨List.toArray Z⟩ : ByteArray)) rfl (fun _ _ => by go_simp) hHeld ?_; simp only [Act.put, List.setIfInBounds_toArray]; refine tk 1 (.slice (some ⟨wu.heap.size, 0, none⟩) 3 3) rfl (fun _ _ => by go_simp) hHeld ?_; simp only [Act.put]; refine tk 2 (.int .i64 2) rfl (fun _ _ => by go_simp) hHeld ?_; simp only [Act.put]; refine tk 3 (.pointer (some ⟨wu.heap.size, 2, none⟩)) rfl (fun _ _ => by go_simp) hHeld ?_; simp only [Act.put]; refine tk 4 (.string (⟨List.toArray [86, 65, 82]⟩ : ByteArray)) rfl (fun _ ⟨_,_,_⟩ => by go_simp) hHeld ?_; simp only [Act.put]; refine tk 5 (.pointer (some ⟨w.heap.size, 4, none⟩)) rfl (fun _ _ => by go_simp) hHeld ?_; simp only [Act.put]; refine tk 6 (.slice (some ⟨g, o, none⟩) 6 c) rfl (fun _ ⟨_,_,_⟩ => by go_simp) hHeld ?_; simp only [Act.put]; refine tk 7 (.int .i64 2) rfl (fun _ _ => by go_simp) hHeld ?_; simp only [Act.put]; refine tk 8 (.int .i64 (1 + 2)) rfl (fun _ _ => by go_simp) hHeld ?_; simp only [Act.put]; refine tk 9 (.pointer (some ⟨g, o + 15, none⟩)) rfl (fun _ _ => by go_simp) hHeld ?_; simp only [Act.put]; refine tk 10 (.pointer (some ⟨g, o + 19, none⟩)) rfl (fun _ _ => by go_simp) hHeld ?_; simp only [Act.put]; refine tk 11 s3 rfl (fun _ ⟨_,_,_⟩ => by go_simp) hHeld ?_; simp only [Act.put]; refine rd 12 rfl fun KK hKK => ?_
          go_simp
          go_at_call 19; refine (HV.out _ _ (by exact gb_drew GX.out) (A3.out.kept (by exact gb_drew GX.out))).mono ?_; rintro e w1 ⟨rfl, hg1⟩; have G1 := hide (gb_trans (by exact gb_drew GX.out) hg1); have B1 := hide (BX.out.kept (gb_trans (by exact gb_drew (gb_refl wx none)) hg1)); have R1 := hide (gb_trans (by exact gb_drew (gb_refl wx none)) hg1); clear hg1
          go_simp
          refine hKK.out _ _ ⟨B1.out.c4, gb_cell R1.out WX.out.c2, gb_cell R1.out N3.out.c4⟩ fun hHeld => ?_
          clear hKK KK; refine rd 13 rfl fun KK hKK => ?_
          go_simp
          refine hKK.out _ _ hHeld fun hHeld => ?_
          clear hKK KK; refine rd 14 rfl fun KK hKK => ?_
          go_simp
          refine hKK.out _ _ hHeld fun hHeld => ?_
          clear hKK KK; refine wpAnyH_done (by kernel_rfl) ?_ _; clear hHeld; go_wp2_with fail; refine ⟨⟨Z ++ V, strA_eq (by repeat rw [ba_app]), Or.inr (Or.inr (Or.inr ⟨rfl, ?_⟩)), G1, B1, WX.out.kept R1.out⟩, by simp [intOf]⟩; rw [HZ2.out]
        · have lZ : Z.length ≤ 30000000 := by rw [hZ]; (try simp only [List.length_append]); omega
          have HZ2 := hide hZ; clear hZ HZ d0 d1 d2; obtain ⟨p0,p1,p2,p3,p4⟩ := M4.out.kept GX.out; go_wp2_with fail
          go_loopw [3, 8] (fun sv iv wz => ∃ (j : Nat) (U : List UInt8), j ≤ l5.length ∧ iv = .int .i64 ↑j ∧ sv = .string ⟨U.toArray⟩ ∧ Hid (U = Z ++ flatTx tx (l5.take j)) ∧ Hid (w.grownBy wz none) ∧ Hid (Box wz w.heap.size (.mk 2 x 0 p [.mk 1 [] 0 q us, cs, ts, vs, .mk 1 [] 0 q5 l5, bs]) (.slice (some ⟨g, o, none⟩) 6 c))) (fun _ iv _ => l5.length - (intOf iv).toNat)
          case atStart => exact ⟨0, Z, Nat.zero_le _, rfl, rfl, by show _ = _; simp [flatTx], GX, BX⟩
          case round =>
            clear b0 b1 b2 b3 b4 p0 p1 p2 p3 p4; obtain ⟨wz, hwz⟩ : ∃ z, z = wr := ⟨_, rfl⟩; subst hwz; obtain ⟨j,U,_,rfl,rfl,HU,GZ,BZ⟩ := hrel; obtain ⟨b0,b1,b2,b3,b4⟩ := BZ.out.p
            obtain ⟨p0,p1,p2,p3,p4⟩ := M4.out.kept GZ.out; have bl4 := block_lt b0
            have hU : U.length ≤ 40000000 := by
              rw [HU.out]; have := flat_le tx l5 j; simp only [List.length_append]
              omega
            by_cases hlt2 : j < l5.length
            · obtain ⟨t, ht⟩ : ∃ t, l5[j]? = some t := ⟨_, List.getElem?_eq_getElem hlt2⟩
              obtain ⟨_,ht9⟩ := HP.out t (List.mem_of_getElem? ht); have HT9 := hide ht9; obtain ⟨gg, oo, st, e1, n5, -, at5⟩ := A4.out.node j _ ht; cases e1; have AT5 := hide at5; have HF := hide (flat_take (tx := tx) ht); obtain ⟨_,_,_,_,_⟩ := n5.kept GZ.out; clear ht n5 at5 ht9
              have qa : ¬ (9223372036854775807 < U.length + (tx t).length) := by omega
              go_wp2_with fail; go_at_call 20; refine (HT9.out _ _ GZ.out (AT5.out.kept GZ.out)).mono ?_; rintro e w9 ⟨rfl, hg9⟩; have G9 := hide (gb_trans GZ.out hg9); have B9 := hide (BZ.out.kept (gb_trans (gb_refl wz none) hg9)); clear hg9; go_wp2_with fail; refine ⟨⟨j + 1, U ++ tx t, by omega, by go_num, strA_eq (by repeat rw [ba_app]), ?_, G9, B9⟩, by simp [intOf]; omega⟩
              show _ = _
              rw [HF.out, HU.out]; simp only [List.append_assoc]
            · have HX2 : Hid (U = Z ++ flatTx tx l5) := by
                have := HU.out; rw [List.take_of_length_le (by omega)] at this
                exact this
              clear HU; obtain ⟨_,_,_,_,_⟩ := M5.out.kept GZ.out
              rcases Nat.eq_zero_or_pos bs.subs.length with hb | hb
              · have hb0 : ¬ (0 : Int) < (bs.subs.length : Int) := by omega
                have HE : Hid (bs.subs.isEmpty = true) := by show _ = _; rw [List.isEmpty_iff]; exact List.eq_nil_of_length_eq_zero hb
                have qa : ¬ (9223372036854775807 < U.length + 4) := by omega
                have qb : ¬ (9223372036854775807 < U.length + 4 + x.length) := by omega
                have qc : ¬ (9223372036854775807 < U.length + 4 + x.length + 2) := by omega
                go_wp2_with fail
                go_ret
                refine ⟨ret_str ?_, GZ.out⟩; rw [show (⟨#[69, 78, 68, 32]⟩ : ByteArray) = ⟨List.toArray [69, 78, 68, 32]⟩ from rfl, show (⟨#[46, 10]⟩ : ByteArray) = ⟨List.toArray [46, 10]⟩ from rfl]
                repeat rw [ba_app]
                rw [HX2.out, HZ2.out, HX.out, HEE.out, if_pos HE.out]; simp only [List.append_assoc, List.nil_append]
                rfl
              · have hb0 : (0 : Int) < (bs.subs.length : Int) := by omega
                have HE : Hid (¬ bs.subs.isEmpty = true) := by show ¬ _; rw [List.isEmpty_iff]; intro h9; rw [h9] at hb; simp at hb
                have qa : ¬ (9223372036854775807 < U.length + 6) := by omega
                have qb : ¬ (9223372036854775807 < U.length + 6 + B.length) := by omega
                have qc : ¬ (9223372036854775807 < U.length + 6 + B.length + 4) := by omega
                have qd : ¬ (9223372036854775807 < U.length + 6 + B.length + 4 + x.length) := by omega
                have qe : ¬ (9223372036854775807 < U.length + 6 + B.length + 4 + x.length + 2) := by omega
                go_wp2_with fail; go_at_call 21; refine (HB.out _ _ GZ.out (A5.out.kept GZ.out)).mono ?_; rintro e w9 ⟨rfl, hg9⟩; have G9 := hide (gb_trans GZ.out hg9); have B9 := hide (BZ.out.kept (gb_trans (gb_refl wz none) hg9)); obtain ⟨_,_,_,_,_⟩ := B9.out.p
                clear hg9; go_wp2_with fail
                go_ret
                refine ⟨ret_str ?_, G9.out⟩; rw [show (⟨#[69, 78, 68, 32]⟩ : ByteArray) = ⟨List.toArray [69, 78, 68, 32]⟩ from rfl, show (⟨#[46, 10]⟩ : ByteArray) = ⟨List.toArray [46, 10]⟩ from rfl, show (⟨#[66, 69, 71, 73, 78, 10]⟩ : ByteArray) = ⟨List.toArray [66, 69, 71, 73, 78, 10]⟩ from rfl]
                repeat rw [ba_app]
                rw [HX2.out, HZ2.out, HX.out, HEE.out, if_neg HE.out]; simp only [List.append_assoc]
                rfl
end Go.Proofs.YtapfecciakijhaaGreatDoor
