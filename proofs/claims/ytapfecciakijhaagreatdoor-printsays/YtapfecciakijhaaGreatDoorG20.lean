/- The document's texts: types. -/
import Derived.Test.YtapfecciakijhaaGreatDoorG18
namespace Go.Proofs.YtapfecciakijhaaGreatDoor
open Go.RowKit
set_option maxHeartbeats 4000000
set_option maxRecDepth 1000000

theorem ty9 (m : Int) (p : Int) (u : T) (sv : Value) (w : World) (ha : AT w (T.mk 9 [] m p [u]).subs sv) (h0 : 0 ≤ m) (h1 : m ≤ 2147483647) (V : List UInt8) (hv : NTx w u V) :
    Calls Tryz.prog 43 #[.agg #[.int .i64 9, .string ⟨List.toArray []⟩, .int .i64 m, .int .i64 p, sv]] w (Sy w (.string ⟨([65, 82, 82, 65, 89, 32] ++ (numTx m ++ ([32, 79, 70, 32] ++ V))).toArray⟩)) := by
  obtain ⟨g, o, c, u', su, rfl, hn, hc, hl, n5, fu, au⟩ := ha.one rfl
  obtain rfl : u = u' := by simpa [T.subs] using hl
  have NU := hide n5; have AU := hide au; have hgl := block_lt n5.c0; obtain ⟨_,_,_,_,_⟩ := n5; clear ha hl fu au; have B0 : Hid (Box (w.alloc (.cells #[.int .i64 9, .string ⟨List.toArray []⟩, .int .i64 m, .int .i64 p, .slice (some ⟨g, o, none⟩) 1 c] 24)) w.heap.size (.mk 9 [] m p [u]) (.slice (some ⟨g, o, none⟩) 1 c)) := Box.new w (.mk 9 [] m p [u]) (.slice (some ⟨g, o, none⟩) 1 c) 24; obtain ⟨_,hv9⟩ := hv; have HV := hide hv9; clear hv9; have lN := numTx_len m
  have HN := fun w' => hide (num_any m h0 h1 w')
  generalize numTx m = A at *
  go_enter Tryz.func43, Tryz.ntmps43
  have qq1 : ¬ (9223372036854775807 < 6 + A.length) := by omega
  have qq2 : ¬ (9223372036854775807 < 6 + A.length + 4) := by omega
  have qq3 : ¬ (9223372036854775807 < 6 + A.length + 4 + V.length) := by omega
  go_wp2_with fail; refine wp_region_held_drew (S := (fun w' => w'.cell? ⟨w.heap.size, 4, none⟩ = some (.slice (some ⟨g, o, none⟩) 1 c) ∧ w'.cell? ⟨w.heap.size, 2, none⟩ = some (.int .i64 m) ∧ Node5 w' g o u su)) (by kernel_rfl) ?_ (fun hHeld => ?_)
  · exact ⟨gb_cell (gb_drew (gb_refl _ none)) B0.out.c4, gb_cell (gb_drew (gb_refl _ none)) B0.out.c2, NU.out.kept (gb_drew (gb_alloc (gb_refl w none) _))⟩
  refine tk 0 (.pointer (some ⟨w.heap.size, 2, none⟩)) rfl (fun _ _ => by go_simp) hHeld ?_; simp only [Act.put, List.setIfInBounds_toArray]; refine tk 1 (.int .i64 m) rfl (fun _ ⟨_,_,⟨_,_,_,_,_⟩⟩ => by go_simp) hHeld ?_; simp only [Act.put]; refine tk 5 (.pointer (some ⟨w.heap.size, 4, none⟩)) rfl (fun _ _ => by go_simp) hHeld ?_; simp only [Act.put]; refine tk 6 (.slice (some ⟨g, o, none⟩) 1 c) rfl (fun _ ⟨_,_,⟨_,_,_,_,_⟩⟩ => by go_simp) hHeld ?_; simp only [Act.put]; refine tk 7 (.pointer (some ⟨g, o, none⟩)) rfl (fun _ _ => by go_simp) hHeld ?_; simp only [Act.put]; refine tk 8 (nodeV u su) rfl (fun _ ⟨_,_,⟨_,_,_,_,_⟩⟩ => by go_simp) hHeld ?_; simp only [Act.put]; refine rd 2 rfl fun KK hKK => ?_
  go_simp
  go_at_call 73; refine ((HN _).out).mono ?_; rintro e w1 ⟨rfl, hg1⟩; have G1 := hide (gb_trans (by exact gb_drew (gb_alloc ((gb_refl w none)) _)) hg1); have B1 := hide (B0.out.kept (gb_trans (by exact gb_drew (gb_refl _ none)) hg1)); clear hg1
  go_simp
  refine hKK.out _ _ ⟨B1.out.c4, B1.out.c2, NU.out.kept G1.out⟩ fun hHeld => ?_
  clear hKK KK; refine tk 3 (.string ((⟨List.toArray [65, 82, 82, 65, 89, 32]⟩ : ByteArray) ++ (⟨List.toArray A⟩ : ByteArray))) rfl (fun _ _ => by go_simp) hHeld ?_; simp only [Act.put, List.setIfInBounds_toArray]; refine tk 4 (.string (((⟨List.toArray [65, 82, 82, 65, 89, 32]⟩ : ByteArray) ++ (⟨List.toArray A⟩ : ByteArray)) ++ (⟨List.toArray [32, 79, 70, 32]⟩ : ByteArray))) rfl (fun _ _ => by go_simp) hHeld ?_; simp only [Act.put]; refine rd 9 rfl fun KK hKK => ?_
  go_simp
  go_at_call 44; refine (HV.out _ _ G1.out (AU.out.kept G1.out)).mono ?_; rintro e w2 ⟨rfl, hg2⟩; have G2 := hide (gb_trans G1.out hg2); have B2 := hide (B1.out.kept (gb_trans (gb_refl w1 none) hg2)); clear hg2
  go_simp
  refine hKK.out _ _ ⟨B2.out.c4, B2.out.c2, NU.out.kept G2.out⟩ fun hHeld => ?_
  clear hKK KK; refine rd 10 rfl fun KK hKK => ?_
  go_simp
  refine hKK.out _ _ hHeld fun hHeld => ?_
  clear hKK KK; refine rd 11 rfl fun KK hKK => ?_
  go_simp
  refine hKK.out _ _ hHeld fun hHeld => ?_
  clear hKK KK; refine wpAnyH_done (by kernel_rfl) ?_ _; clear hHeld; go_wp2_with fail
  go_ret
  refine ⟨(show Ending.returned (.string ((((⟨List.toArray [65, 82, 82, 65, 89, 32]⟩ : ByteArray) ++ (⟨List.toArray A⟩ : ByteArray)) ++ (⟨List.toArray [32, 79, 70, 32]⟩ : ByteArray)) ++ (⟨List.toArray V⟩ : ByteArray))) = _ from ret_str ?_), G2.out⟩
  repeat rw [ba_app]
  try simp only [List.append_assoc]
  try rfl
theorem ty12 (p : Int) (u : T) (sv : Value) (w : World) (ha : AT w (T.mk 12 [] 0 p [u]).subs sv) (V : List UInt8) (hv : NTx w u V) :
    Calls Tryz.prog 43 #[.agg #[.int .i64 12, .string ⟨List.toArray []⟩, .int .i64 0, .int .i64 p, sv]] w (Sy w (.string ⟨([80, 79, 73, 78, 84, 69, 82, 32, 84, 79, 32] ++ V).toArray⟩)) := by
  obtain ⟨g, o, c, u', su, rfl, hn, hc, hl, n5, fu, au⟩ := ha.one rfl
  obtain rfl : u = u' := by simpa [T.subs] using hl
  have NU := hide n5; have AU := hide au; have hgl := block_lt n5.c0; obtain ⟨_,_,_,_,_⟩ := n5; clear ha hl fu au; have B0 : Hid (Box (w.alloc (.cells #[.int .i64 12, .string ⟨List.toArray []⟩, .int .i64 0, .int .i64 p, .slice (some ⟨g, o, none⟩) 1 c] 24)) w.heap.size (.mk 12 [] 0 p [u]) (.slice (some ⟨g, o, none⟩) 1 c)) := Box.new w (.mk 12 [] 0 p [u]) (.slice (some ⟨g, o, none⟩) 1 c) 24; obtain ⟨_,hv9⟩ := hv; have HV := hide hv9; clear hv9
  have qq1 : ¬ (9223372036854775807 < 11 + V.length) := by omega
  go_enter Tryz.func43, Tryz.ntmps43
  go_wp2_with fail; go_at_call 44; refine (HV.out _ _ (by exact gb_alloc ((gb_refl w none)) _) (AU.out.kept (by exact gb_alloc ((gb_refl w none)) _))).mono ?_; rintro e w1 ⟨rfl, hg1⟩; have G1 := hide (gb_trans (by exact gb_alloc ((gb_refl w none)) _) hg1); clear hg1; go_wp2_with fail
  go_ret
  refine ⟨(show Ending.returned (.string ((⟨List.toArray [80, 79, 73, 78, 84, 69, 82, 32, 84, 79, 32]⟩ : ByteArray) ++ (⟨List.toArray V⟩ : ByteArray))) = _ from ret_str ?_), G1.out⟩
  repeat rw [ba_app]
  try simp only [List.append_assoc]
  try rfl
end Go.Proofs.YtapfecciakijhaaGreatDoor
