/- The document's texts: expressions, kind by kind. -/
import Derived.Test.YtapfecciakijhaaGreatDoorG05
import Derived.Deep.RegionHeld
namespace Go.Proofs.YtapfecciakijhaaGreatDoor
open Go.RowKit
set_option maxHeartbeats 4000000
set_option maxRecDepth 1000000

/-- nameText answers E for t, wherever its parts lie; atLeast likewise. -/
def NTx (w : World) (t : T) (E : List UInt8) : Prop := E.length ≤ 1000000 ∧ ∀ w' sv, w.grownBy w' none → AT w' t.subs sv → Calls Tryz.prog 44 #[nodeV t sv] w' (Sy w' (.string ⟨E.toArray⟩))
def LTx (w : World) (t : T) (r : Int) (E : List UInt8) : Prop := E.length ≤ 1000000 ∧ ∀ w' sv, w.grownBy w' none → AT w' t.subs sv → Calls Tryz.prog 75 #[nodeV t sv, .int .i64 r] w' (Sy w' (.string ⟨E.toArray⟩))

theorem ex26 (x : List UInt8) (m p : Int) (u : T) (v : T) (sv : Value) (w : World) (ha : AT w (T.mk 26 x m p [u, v]).subs sv) (U V : List UInt8) (hu : ETx w u U) (hv : ETx w v V) :
    Calls Tryz.prog 42 #[.agg #[.int .i64 26, .string ⟨x.toArray⟩, .int .i64 m, .int .i64 p, sv]] w (Sy w (.string ⟨(U ++ ([91] ++ (V ++ [93]))).toArray⟩)) := by
  obtain ⟨g, o, c, u', su, v', sw, rfl, hn, hc, hl, n5, fu, au, n6, fv, av⟩ := ha.two rfl
  have hl2 : u = u' ∧ v = v' := by simpa [T.subs] using hl
  obtain ⟨rfl,rfl⟩ := hl2; have NU := hide n5; have NV := hide n6; have AU := hide au; have AV := hide av; have hgl := block_lt n5.c0; obtain ⟨_,_,_,_,_⟩ := n5; obtain ⟨_,_,_,_,_⟩ := n6; clear ha hl fu au fv av; have B0 : Hid (Box (w.alloc (.cells #[.int .i64 26, .string ⟨x.toArray⟩, .int .i64 m, .int .i64 p, .slice (some ⟨g, o, none⟩) 2 c] 24)) w.heap.size (.mk 26 x m p [u, v]) (.slice (some ⟨g, o, none⟩) 2 c)) := Box.new w (.mk 26 x m p [u, v]) (.slice (some ⟨g, o, none⟩) 2 c) 24; obtain ⟨_,hu9⟩ := hu; have HU := hide hu9; clear hu9; obtain ⟨_,hv9⟩ := hv; have HV := hide hv9; clear hv9
  go_enter Tryz.func42, Tryz.ntmps42
  have qq1 : ¬ (9223372036854775807 < U.length + 1) := by omega
  have qq2 : ¬ (9223372036854775807 < U.length + 1 + V.length) := by omega
  have qq3 : ¬ (9223372036854775807 < U.length + 1 + V.length + 1) := by omega
  go_wp2_with fail; refine wp_region_held_drew (S := (fun w' => w'.cell? ⟨w.heap.size, 4, none⟩ = some (.slice (some ⟨g, o, none⟩) 2 c) ∧ w'.cell? ⟨w.heap.size, 1, none⟩ = some (.string ⟨x.toArray⟩) ∧ Node5 w' g o u su ∧ Node5 w' g (o + 5) v sw)) (by kernel_rfl) ?_ (fun hHeld => ?_)
  · exact ⟨gb_cell (gb_drew (gb_refl _ none)) B0.out.c4, gb_cell (gb_drew (gb_refl _ none)) B0.out.c1, NU.out.kept (gb_drew (gb_alloc (gb_refl w none) _)), NV.out.kept (gb_drew (gb_alloc (gb_refl w none) _))⟩
  refine tk 0 (.pointer (some ⟨w.heap.size, 4, none⟩)) rfl (fun _ _ => by go_simp) hHeld ?_; simp only [Act.put, List.setIfInBounds_toArray]; refine tk 1 (.slice (some ⟨g, o, none⟩) 2 c) rfl (fun _ ⟨_,_,⟨_,_,_,_,_⟩,⟨_,_,_,_,_⟩⟩ => by go_simp) hHeld ?_; simp only [Act.put]; refine tk 2 (.pointer (some ⟨g, o, none⟩)) rfl (fun _ _ => by go_simp) hHeld ?_; simp only [Act.put]; refine tk 3 (nodeV u su) rfl (fun _ ⟨_,_,⟨_,_,_,_,_⟩,⟨_,_,_,_,_⟩⟩ => by go_simp) hHeld ?_; simp only [Act.put]; refine tk 6 (.pointer (some ⟨w.heap.size, 4, none⟩)) rfl (fun _ _ => by go_simp) hHeld ?_; simp only [Act.put]; refine tk 7 (.slice (some ⟨g, o, none⟩) 2 c) rfl (fun _ ⟨_,_,⟨_,_,_,_,_⟩,⟨_,_,_,_,_⟩⟩ => by go_simp) hHeld ?_; simp only [Act.put]; refine tk 8 (.pointer (some ⟨g, o + 5, none⟩)) rfl (fun _ _ => by go_simp) hHeld ?_; simp only [Act.put]; refine tk 9 (nodeV v sw) rfl (fun _ ⟨_,_,⟨_,_,_,_,_⟩,⟨_,_,_,_,_⟩⟩ => by go_simp) hHeld ?_; simp only [Act.put]; refine rd 4 rfl fun KK hKK => ?_
  go_simp
  go_at_call 42; refine (HU.out _ _ (by exact gb_drew (gb_alloc ((gb_refl w none)) _)) (AU.out.kept (by exact gb_drew (gb_alloc ((gb_refl w none)) _)))).mono ?_; rintro e w1 ⟨rfl, hg1⟩; have G1 := hide (gb_trans (by exact gb_drew (gb_alloc ((gb_refl w none)) _)) hg1); have B1 := hide (B0.out.kept (gb_trans (by exact gb_drew (gb_refl _ none)) hg1)); clear hg1
  go_simp
  refine hKK.out _ _ ⟨B1.out.c4, B1.out.c1, NU.out.kept G1.out, NV.out.kept G1.out⟩ fun hHeld => ?_
  clear hKK KK; refine tk 5 (.string ((⟨List.toArray U⟩ : ByteArray) ++ (⟨List.toArray [91]⟩ : ByteArray))) rfl (fun _ _ => by go_simp) hHeld ?_; simp only [Act.put, List.setIfInBounds_toArray]; refine rd 10 rfl fun KK hKK => ?_
  go_simp
  go_at_call 42; refine (HV.out _ _ G1.out (AV.out.kept G1.out)).mono ?_; rintro e w2 ⟨rfl, hg2⟩; have G2 := hide (gb_trans G1.out hg2); have B2 := hide (B1.out.kept (gb_trans (gb_refl w1 none) hg2)); clear hg2
  go_simp
  refine hKK.out _ _ ⟨B2.out.c4, B2.out.c1, NU.out.kept G2.out, NV.out.kept G2.out⟩ fun hHeld => ?_
  clear hKK KK; refine rd 11 rfl fun KK hKK => ?_
  go_simp
  refine hKK.out _ _ hHeld fun hHeld => ?_
  clear hKK KK; refine rd 12 rfl fun KK hKK => ?_
  go_simp
  refine hKK.out _ _ hHeld fun hHeld => ?_
  clear hKK KK; refine rd 13 rfl fun KK hKK => ?_
  go_simp
  refine hKK.out _ _ hHeld fun hHeld => ?_
  clear hKK KK; refine wpAnyH_done (by kernel_rfl) ?_ _; clear hHeld; go_wp2_with fail
  go_ret
  refine ⟨(show Ending.returned (.string ((((⟨List.toArray U⟩ : ByteArray) ++ (⟨List.toArray [91]⟩ : ByteArray)) ++ (⟨List.toArray V⟩ : ByteArray)) ++ (⟨List.toArray [93]⟩ : ByteArray))) = _ from ret_str ?_), G2.out⟩
  repeat rw [ba_app]
  try simp only [List.append_assoc]
  try rfl
theorem ex27 (x : List UInt8) (m p : Int) (u : T) (sv : Value) (w : World) (ha : AT w (T.mk 27 x m p [u]).subs sv) (U : List UInt8) (hu : ETx w u U) :
    Calls Tryz.prog 42 #[.agg #[.int .i64 27, .string ⟨x.toArray⟩, .int .i64 m, .int .i64 p, sv]] w (Sy w (.string ⟨(U ++ [94]).toArray⟩)) := by
  obtain ⟨g, o, c, u', su, rfl, hn, hc, hl, n5, fu, au⟩ := ha.one rfl
  obtain rfl : u = u' := by simpa [T.subs] using hl
  have NU := hide n5; have AU := hide au; have hgl := block_lt n5.c0; obtain ⟨_,_,_,_,_⟩ := n5; clear ha hl fu au; have B0 : Hid (Box (w.alloc (.cells #[.int .i64 27, .string ⟨x.toArray⟩, .int .i64 m, .int .i64 p, .slice (some ⟨g, o, none⟩) 1 c] 24)) w.heap.size (.mk 27 x m p [u]) (.slice (some ⟨g, o, none⟩) 1 c)) := Box.new w (.mk 27 x m p [u]) (.slice (some ⟨g, o, none⟩) 1 c) 24; obtain ⟨_,hu9⟩ := hu; have HU := hide hu9; clear hu9
  go_enter Tryz.func42, Tryz.ntmps42
  have qq1 : ¬ (9223372036854775807 < U.length + 1) := by omega
  go_wp2_with fail; go_at_call 42; refine (HU.out _ _ (by exact gb_alloc ((gb_refl w none)) _) (AU.out.kept (by exact gb_alloc ((gb_refl w none)) _))).mono ?_; rintro e w1 ⟨rfl, hg1⟩; have G1 := hide (gb_trans (by exact gb_alloc ((gb_refl w none)) _) hg1); clear hg1; go_wp2_with fail
  go_ret
  refine ⟨(show Ending.returned (.string ((⟨List.toArray U⟩ : ByteArray) ++ (⟨List.toArray [94]⟩ : ByteArray))) = _ from ret_str ?_), G1.out⟩
  repeat rw [ba_app]
  try simp only [List.append_assoc]
  try rfl
theorem ex28 (x : List UInt8) (m p : Int) (u : T) (v : T) (sv : Value) (w : World) (ha : AT w (T.mk 28 x m p [u, v]).subs sv) (U V : List UInt8) (hu : ETx w u U) (hv : NTx w v V) :
    Calls Tryz.prog 42 #[.agg #[.int .i64 28, .string ⟨x.toArray⟩, .int .i64 m, .int .i64 p, sv]] w (Sy w (.string ⟨(U ++ ([123] ++ (V ++ [125]))).toArray⟩)) := by
  obtain ⟨g, o, c, u', su, v', sw, rfl, hn, hc, hl, n5, fu, au, n6, fv, av⟩ := ha.two rfl
  have hl2 : u = u' ∧ v = v' := by simpa [T.subs] using hl
  obtain ⟨rfl,rfl⟩ := hl2; have NU := hide n5; have NV := hide n6; have AU := hide au; have AV := hide av; have hgl := block_lt n5.c0; obtain ⟨_,_,_,_,_⟩ := n5; obtain ⟨_,_,_,_,_⟩ := n6; clear ha hl fu au fv av; have B0 : Hid (Box (w.alloc (.cells #[.int .i64 28, .string ⟨x.toArray⟩, .int .i64 m, .int .i64 p, .slice (some ⟨g, o, none⟩) 2 c] 24)) w.heap.size (.mk 28 x m p [u, v]) (.slice (some ⟨g, o, none⟩) 2 c)) := Box.new w (.mk 28 x m p [u, v]) (.slice (some ⟨g, o, none⟩) 2 c) 24; obtain ⟨_,hu9⟩ := hu; have HU := hide hu9; clear hu9; obtain ⟨_,hv9⟩ := hv; have HV := hide hv9; clear hv9
  go_enter Tryz.func42, Tryz.ntmps42
  have qq1 : ¬ (9223372036854775807 < U.length + 1) := by omega
  have qq2 : ¬ (9223372036854775807 < U.length + 1 + V.length) := by omega
  have qq3 : ¬ (9223372036854775807 < U.length + 1 + V.length + 1) := by omega
  go_wp2_with fail; refine wp_region_held_drew (S := (fun w' => w'.cell? ⟨w.heap.size, 4, none⟩ = some (.slice (some ⟨g, o, none⟩) 2 c) ∧ w'.cell? ⟨w.heap.size, 1, none⟩ = some (.string ⟨x.toArray⟩) ∧ Node5 w' g o u su ∧ Node5 w' g (o + 5) v sw)) (by kernel_rfl) ?_ (fun hHeld => ?_)
  · exact ⟨gb_cell (gb_drew (gb_refl _ none)) B0.out.c4, gb_cell (gb_drew (gb_refl _ none)) B0.out.c1, NU.out.kept (gb_drew (gb_alloc (gb_refl w none) _)), NV.out.kept (gb_drew (gb_alloc (gb_refl w none) _))⟩
  refine tk 0 (.pointer (some ⟨w.heap.size, 4, none⟩)) rfl (fun _ _ => by go_simp) hHeld ?_; simp only [Act.put, List.setIfInBounds_toArray]; refine tk 1 (.slice (some ⟨g, o, none⟩) 2 c) rfl (fun _ ⟨_,_,⟨_,_,_,_,_⟩,⟨_,_,_,_,_⟩⟩ => by go_simp) hHeld ?_; simp only [Act.put]; refine tk 2 (.pointer (some ⟨g, o, none⟩)) rfl (fun _ _ => by go_simp) hHeld ?_; simp only [Act.put]; refine tk 3 (nodeV u su) rfl (fun _ ⟨_,_,⟨_,_,_,_,_⟩,⟨_,_,_,_,_⟩⟩ => by go_simp) hHeld ?_; simp only [Act.put]; refine tk 6 (.pointer (some ⟨w.heap.size, 4, none⟩)) rfl (fun _ _ => by go_simp) hHeld ?_; simp only [Act.put]; refine tk 7 (.slice (some ⟨g, o, none⟩) 2 c) rfl (fun _ ⟨_,_,⟨_,_,_,_,_⟩,⟨_,_,_,_,_⟩⟩ => by go_simp) hHeld ?_; simp only [Act.put]; refine tk 8 (.pointer (some ⟨g, o + 5, none⟩)) rfl (fun _ _ => by go_simp) hHeld ?_; simp only [Act.put]; refine tk 9 (nodeV v sw) rfl (fun _ ⟨_,_,⟨_,_,_,_,_⟩,⟨_,_,_,_,_⟩⟩ => by go_simp) hHeld ?_; simp only [Act.put]; refine rd 4 rfl fun KK hKK => ?_
  go_simp
  go_at_call 42; refine (HU.out _ _ (by exact gb_drew (gb_alloc ((gb_refl w none)) _)) (AU.out.kept (by exact gb_drew (gb_alloc ((gb_refl w none)) _)))).mono ?_; rintro e w1 ⟨rfl, hg1⟩; have G1 := hide (gb_trans (by exact gb_drew (gb_alloc ((gb_refl w none)) _)) hg1); have B1 := hide (B0.out.kept (gb_trans (by exact gb_drew (gb_refl _ none)) hg1)); clear hg1
  go_simp
  refine hKK.out _ _ ⟨B1.out.c4, B1.out.c1, NU.out.kept G1.out, NV.out.kept G1.out⟩ fun hHeld => ?_
  clear hKK KK; refine tk 5 (.string ((⟨List.toArray U⟩ : ByteArray) ++ (⟨List.toArray [123]⟩ : ByteArray))) rfl (fun _ _ => by go_simp) hHeld ?_; simp only [Act.put, List.setIfInBounds_toArray]; refine rd 10 rfl fun KK hKK => ?_
  go_simp
  go_at_call 44; refine (HV.out _ _ G1.out (AV.out.kept G1.out)).mono ?_; rintro e w2 ⟨rfl, hg2⟩; have G2 := hide (gb_trans G1.out hg2); have B2 := hide (B1.out.kept (gb_trans (gb_refl w1 none) hg2)); clear hg2
  go_simp
  refine hKK.out _ _ ⟨B2.out.c4, B2.out.c1, NU.out.kept G2.out, NV.out.kept G2.out⟩ fun hHeld => ?_
  clear hKK KK; refine rd 11 rfl fun KK hKK => ?_
  go_simp
  refine hKK.out _ _ hHeld fun hHeld => ?_
  clear hKK KK; refine rd 12 rfl fun KK hKK => ?_
  go_simp
  refine hKK.out _ _ hHeld fun hHeld => ?_
  clear hKK KK; refine rd 13 rfl fun KK hKK => ?_
  go_simp
  refine hKK.out _ _ hHeld fun hHeld => ?_
  clear hKK KK; refine wpAnyH_done (by kernel_rfl) ?_ _; clear hHeld; go_wp2_with fail
  go_ret
  refine ⟨(show Ending.returned (.string ((((⟨List.toArray U⟩ : ByteArray) ++ (⟨List.toArray [123]⟩ : ByteArray)) ++ (⟨List.toArray V⟩ : ByteArray)) ++ (⟨List.toArray [125]⟩ : ByteArray))) = _ from ret_str ?_), G2.out⟩
  repeat rw [ba_app]
  try simp only [List.append_assoc]
  try rfl
theorem ex34 (x : List UInt8) (m p : Int) (u : T) (sv : Value) (w : World) (ha : AT w (T.mk 34 x m p [u]).subs sv) (U : List UInt8) (hu : LTx w u 3 U) :
    Calls Tryz.prog 42 #[.agg #[.int .i64 34, .string ⟨x.toArray⟩, .int .i64 m, .int .i64 p, sv]] w (Sy w (.string ⟨([126] ++ U).toArray⟩)) := by
  obtain ⟨g, o, c, u', su, rfl, hn, hc, hl, n5, fu, au⟩ := ha.one rfl
  obtain rfl : u = u' := by simpa [T.subs] using hl
  have NU := hide n5; have AU := hide au; have hgl := block_lt n5.c0; obtain ⟨_,_,_,_,_⟩ := n5; clear ha hl fu au; have B0 : Hid (Box (w.alloc (.cells #[.int .i64 34, .string ⟨x.toArray⟩, .int .i64 m, .int .i64 p, .slice (some ⟨g, o, none⟩) 1 c] 24)) w.heap.size (.mk 34 x m p [u]) (.slice (some ⟨g, o, none⟩) 1 c)) := Box.new w (.mk 34 x m p [u]) (.slice (some ⟨g, o, none⟩) 1 c) 24; obtain ⟨_,hu9⟩ := hu; have HU := hide hu9; clear hu9
  go_enter Tryz.func42, Tryz.ntmps42
  have qq1 : ¬ (9223372036854775807 < 1 + U.length) := by omega
  go_wp2_with fail; go_at_call 75; refine (HU.out _ _ (by exact gb_alloc ((gb_refl w none)) _) (AU.out.kept (by exact gb_alloc ((gb_refl w none)) _))).mono ?_; rintro e w1 ⟨rfl, hg1⟩; have G1 := hide (gb_trans (by exact gb_alloc ((gb_refl w none)) _) hg1); clear hg1; go_wp2_with fail
  go_ret
  refine ⟨(show Ending.returned (.string ((⟨List.toArray [126]⟩ : ByteArray) ++ (⟨List.toArray U⟩ : ByteArray))) = _ from ret_str ?_), G1.out⟩
  repeat rw [ba_app]
  try simp only [List.append_assoc]
  try rfl
theorem ex35 (x : List UInt8) (m p : Int) (u : T) (sv : Value) (w : World) (ha : AT w (T.mk 35 x m p [u]).subs sv) (U : List UInt8) (hu : LTx w u 2 U) :
    Calls Tryz.prog 42 #[.agg #[.int .i64 35, .string ⟨x.toArray⟩, .int .i64 m, .int .i64 p, sv]] w (Sy w (.string ⟨([45] ++ U).toArray⟩)) := by
  obtain ⟨g, o, c, u', su, rfl, hn, hc, hl, n5, fu, au⟩ := ha.one rfl
  obtain rfl : u = u' := by simpa [T.subs] using hl
  have NU := hide n5; have AU := hide au; have hgl := block_lt n5.c0; obtain ⟨_,_,_,_,_⟩ := n5; clear ha hl fu au; have B0 : Hid (Box (w.alloc (.cells #[.int .i64 35, .string ⟨x.toArray⟩, .int .i64 m, .int .i64 p, .slice (some ⟨g, o, none⟩) 1 c] 24)) w.heap.size (.mk 35 x m p [u]) (.slice (some ⟨g, o, none⟩) 1 c)) := Box.new w (.mk 35 x m p [u]) (.slice (some ⟨g, o, none⟩) 1 c) 24; obtain ⟨_,hu9⟩ := hu; have HU := hide hu9; clear hu9
  go_enter Tryz.func42, Tryz.ntmps42
  have qq1 : ¬ (9223372036854775807 < 1 + U.length) := by omega
  go_wp2_with fail; go_at_call 75; refine (HU.out _ _ (by exact gb_alloc ((gb_refl w none)) _) (AU.out.kept (by exact gb_alloc ((gb_refl w none)) _))).mono ?_; rintro e w1 ⟨rfl, hg1⟩; have G1 := hide (gb_trans (by exact gb_alloc ((gb_refl w none)) _) hg1); clear hg1; go_wp2_with fail
  go_ret
  refine ⟨(show Ending.returned (.string ((⟨List.toArray [45]⟩ : ByteArray) ++ (⟨List.toArray U⟩ : ByteArray))) = _ from ret_str ?_), G1.out⟩
  repeat rw [ba_app]
  try simp only [List.append_assoc]
  try rfl
theorem ex37 (x : List UInt8) (m p : Int) (u : T) (v : T) (sv : Value) (w : World) (ha : AT w (T.mk 37 x m p [u, v]).subs sv) (U V : List UInt8) (hu : LTx w u 1 U) (hv : NTx w v V) :
    Calls Tryz.prog 42 #[.agg #[.int .i64 37, .string ⟨x.toArray⟩, .int .i64 m, .int .i64 p, sv]] w (Sy w (.string ⟨(U ++ ([32, 73, 83, 32] ++ V)).toArray⟩)) := by
  obtain ⟨g, o, c, u', su, v', sw, rfl, hn, hc, hl, n5, fu, au, n6, fv, av⟩ := ha.two rfl
  have hl2 : u = u' ∧ v = v' := by simpa [T.subs] using hl
  obtain ⟨rfl,rfl⟩ := hl2; have NU := hide n5; have NV := hide n6; have AU := hide au; have AV := hide av; have hgl := block_lt n5.c0; obtain ⟨_,_,_,_,_⟩ := n5; obtain ⟨_,_,_,_,_⟩ := n6; clear ha hl fu au fv av; have B0 : Hid (Box (w.alloc (.cells #[.int .i64 37, .string ⟨x.toArray⟩, .int .i64 m, .int .i64 p, .slice (some ⟨g, o, none⟩) 2 c] 24)) w.heap.size (.mk 37 x m p [u, v]) (.slice (some ⟨g, o, none⟩) 2 c)) := Box.new w (.mk 37 x m p [u, v]) (.slice (some ⟨g, o, none⟩) 2 c) 24; obtain ⟨_,hu9⟩ := hu; have HU := hide hu9; clear hu9; obtain ⟨_,hv9⟩ := hv; have HV := hide hv9; clear hv9
  go_enter Tryz.func42, Tryz.ntmps42
  have qq1 : ¬ (9223372036854775807 < U.length + 4) := by omega
  have qq2 : ¬ (9223372036854775807 < U.length + 4 + V.length) := by omega
  go_wp2_with fail; refine wp_region_held_drew (S := (fun w' => w'.cell? ⟨w.heap.size, 4, none⟩ = some (.slice (some ⟨g, o, none⟩) 2 c) ∧ w'.cell? ⟨w.heap.size, 1, none⟩ = some (.string ⟨x.toArray⟩) ∧ Node5 w' g o u su ∧ Node5 w' g (o + 5) v sw)) (by kernel_rfl) ?_ (fun hHeld => ?_)
  · exact ⟨gb_cell (gb_drew (gb_refl _ none)) B0.out.c4, gb_cell (gb_drew (gb_refl _ none)) B0.out.c1, NU.out.kept (gb_drew (gb_alloc (gb_refl w none) _)), NV.out.kept (gb_drew (gb_alloc (gb_refl w none) _))⟩
  refine tk 0 (.pointer (some ⟨w.heap.size, 4, none⟩)) rfl (fun _ _ => by go_simp) hHeld ?_; simp only [Act.put, List.setIfInBounds_toArray]; refine tk 1 (.slice (some ⟨g, o, none⟩) 2 c) rfl (fun _ ⟨_,_,⟨_,_,_,_,_⟩,⟨_,_,_,_,_⟩⟩ => by go_simp) hHeld ?_; simp only [Act.put]; refine tk 2 (.pointer (some ⟨g, o, none⟩)) rfl (fun _ _ => by go_simp) hHeld ?_; simp only [Act.put]; refine tk 3 (nodeV u su) rfl (fun _ ⟨_,_,⟨_,_,_,_,_⟩,⟨_,_,_,_,_⟩⟩ => by go_simp) hHeld ?_; simp only [Act.put]; refine tk 6 (.pointer (some ⟨w.heap.size, 4, none⟩)) rfl (fun _ _ => by go_simp) hHeld ?_; simp only [Act.put]; refine tk 7 (.slice (some ⟨g, o, none⟩) 2 c) rfl (fun _ ⟨_,_,⟨_,_,_,_,_⟩,⟨_,_,_,_,_⟩⟩ => by go_simp) hHeld ?_; simp only [Act.put]; refine tk 8 (.pointer (some ⟨g, o + 5, none⟩)) rfl (fun _ _ => by go_simp) hHeld ?_; simp only [Act.put]; refine tk 9 (nodeV v sw) rfl (fun _ ⟨_,_,⟨_,_,_,_,_⟩,⟨_,_,_,_,_⟩⟩ => by go_simp) hHeld ?_; simp only [Act.put]; refine rd 4 rfl fun KK hKK => ?_
  go_simp
  go_at_call 75; refine (HU.out _ _ (by exact gb_drew (gb_alloc ((gb_refl w none)) _)) (AU.out.kept (by exact gb_drew (gb_alloc ((gb_refl w none)) _)))).mono ?_; rintro e w1 ⟨rfl, hg1⟩; have G1 := hide (gb_trans (by exact gb_drew (gb_alloc ((gb_refl w none)) _)) hg1); have B1 := hide (B0.out.kept (gb_trans (by exact gb_drew (gb_refl _ none)) hg1)); clear hg1
  go_simp
  refine hKK.out _ _ ⟨B1.out.c4, B1.out.c1, NU.out.kept G1.out, NV.out.kept G1.out⟩ fun hHeld => ?_
  clear hKK KK; refine tk 5 (.string ((⟨List.toArray U⟩ : ByteArray) ++ (⟨List.toArray [32, 73, 83, 32]⟩ : ByteArray))) rfl (fun _ _ => by go_simp) hHeld ?_; simp only [Act.put, List.setIfInBounds_toArray]; refine rd 10 rfl fun KK hKK => ?_
  go_simp
  go_at_call 44; refine (HV.out _ _ G1.out (AV.out.kept G1.out)).mono ?_; rintro e w2 ⟨rfl, hg2⟩; have G2 := hide (gb_trans G1.out hg2); have B2 := hide (B1.out.kept (gb_trans (gb_refl w1 none) hg2)); clear hg2
  go_simp
  refine hKK.out _ _ ⟨B2.out.c4, B2.out.c1, NU.out.kept G2.out, NV.out.kept G2.out⟩ fun hHeld => ?_
  clear hKK KK; refine rd 11 rfl fun KK hKK => ?_
  go_simp
  refine hKK.out _ _ hHeld fun hHeld => ?_
  clear hKK KK; refine rd 12 rfl fun KK hKK => ?_
  go_simp
  refine hKK.out _ _ hHeld fun hHeld => ?_
  clear hKK KK; refine wpAnyH_done (by kernel_rfl) ?_ _; clear hHeld; go_wp2_with fail
  go_ret
  refine ⟨(show Ending.returned (.string (((⟨List.toArray U⟩ : ByteArray) ++ (⟨List.toArray [32, 73, 83, 32]⟩ : ByteArray)) ++ (⟨List.toArray V⟩ : ByteArray))) = _ from ret_str ?_), G2.out⟩
  repeat rw [ba_app]
  try simp only [List.append_assoc]
  try rfl
end Go.Proofs.YtapfecciakijhaaGreatDoor
