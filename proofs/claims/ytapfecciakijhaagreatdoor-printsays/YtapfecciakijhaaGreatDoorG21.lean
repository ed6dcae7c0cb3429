/- The document's texts: declarations. -/
import Derived.Test.YtapfecciakijhaaGreatDoorG18
namespace Go.Proofs.YtapfecciakijhaaGreatDoor
open Go.RowKit
set_option maxHeartbeats 4000000
set_option maxRecDepth 1000000

theorem flat_take {tx : T → List UInt8} {l : List T} {i : Nat} {u : T} (h : l[i]? = some u) : flatTx tx (l.take (i + 1)) = flatTx tx (l.take i) ++ tx u := by
  rw [List.take_add_one, h, flatTx_append]
  simp [flatTx]
theorem flat_le (tx : T → List UInt8) (l : List T) (i : Nat) : (flatTx tx (l.take i)).length ≤ (flatTx tx l).length := by
  have h : flatTx tx (l.take i ++ l.drop i) = flatTx tx (l.take i) ++ flatTx tx (l.drop i) := flatTx_append _ _ _; rw [List.take_append_drop] at h; rw [h, List.length_append]
  omega

theorem decl_const (word : List UInt8) (K : Int) (l : List T) (sl : Value) (ty : T → List UInt8) (w : World) (ha : AT w l sl) (hK : K = 4) (hk : ∀ t ∈ l, ∃ x m p u, t = .mk K x m p [u] ∧ x.length ≤ 12) (he : ∀ x m p u, T.mk K x m p [u] ∈ l → (ty u).length ≤ 4000000 ∧ ∀ w' sv, w.grownBy w' none → AT w' u.subs sv → Calls Tryz.prog 42 #[nodeV u sv] w' (Sy w' (.string ⟨(ty u).toArray⟩))) (hw : word.length ≤ 10) (hlen : (flatTx (fun t => [32, 32] ++ (starTx t ++ ([32, 61, 32] ++ (ty (subT t 0) ++ [59, 10])))) l).length ≤ 4000000) :
    Calls Tryz.prog 19 #[.string ⟨word.toArray⟩, sl] w (Sy w (.string ⟨(if l.isEmpty then [] else word ++ ([10] ++ flatTx (fun t => [32, 32] ++ (starTx t ++ ([32, 61, 32] ++ (ty (subT t 0) ++ [59, 10])))) l)).toArray⟩)) := by
  subst hK; have HA := hide ha; have HE := hide he; have HK := hide hk; obtain ⟨_,sc,rfl,_,hs2⟩ := ha.form
  unfold maxLen at hs2
  clear ha he hk
  by_cases h0 : l = []
  · subst h0
    go_enter Tryz.func19, Tryz.ntmps19
    go_wp2_with fail
    go_ret
    exact ⟨rfl, gb_refl w none⟩
  have HI : Hid (l.isEmpty = false) := by show _ = _; cases l; exact absurd rfl h0; rfl
  rw [HI.out, if_neg (by simp)]
  have hne : ((l.length : Int) == 0) = false := by
    rw [beq_eq_false_iff_ne]; cases l
    · exact absurd rfl h0
    · simp; omega
  have qw : ¬ (9223372036854775807 < word.length + 1) := by omega
  generalize HLN : (fun t => [32, 32] ++ (starTx t ++ ([32, 61, 32] ++ (ty (subT t 0) ++ [59, 10])))) = line at hlen ⊢
  go_enter Tryz.func19, Tryz.ntmps19
  go_wp2_with fail
  go_loopw [5, 6] (fun sv iv wr => ∃ (i : Nat) (Y : List UInt8), i ≤ l.length ∧ iv = .int .i64 ↑i ∧ sv = .string ⟨Y.toArray⟩ ∧ Hid (Y = word ++ ([10] ++ flatTx line (l.take i))) ∧ Hid (w.grownBy wr none)) (fun _ iv _ => l.length - (intOf iv).toNat)
  case atStart => exact ⟨0, word ++ [10], Nat.zero_le _, rfl, strA_eq (ba_app word [10]), by show _ = _; simp [flatTx], gb_refl w none⟩
  case round =>
    obtain ⟨i,Y,_,rfl,rfl,HY,G0⟩ := hrel
    have hY : Y.length ≤ 4000011 := by
      rw [HY.out]; have := flat_le line l i; simp only [List.length_append, List.length_cons, List.length_nil]
      omega
    by_cases hlt : i < l.length
    · obtain ⟨t, ht⟩ : ∃ t, l[i]? = some t := ⟨_, List.getElem?_eq_getElem hlt⟩
      have hmem := List.mem_of_getElem? ht; obtain ⟨x,m,p,u,rfl,hx⟩ := HK.out t hmem; obtain ⟨gg,oo,_,e1,n5,ft,aT⟩ := HA.out.node i _ ht; cases e1; obtain ⟨g2, o2, c2, u', su, rfl, hn2, hc2, hl2, m5, fu, au⟩ := aT.one rfl
      obtain rfl : u = u' := by simpa [T.subs] using hl2
      obtain ⟨ua,uc,rfl,_,_⟩ := au.form; have NT := hide (n5.kept G0.out); obtain ⟨c0, c1, c2', c3, c4⟩ := n5.kept G0.out
      change _ = some (Value.int .i64 4) at c0
      change _ = some (Value.string ⟨List.toArray x⟩) at c1
      change _ = some (Value.int .i64 m) at c2'
      change _ = some (Value.int .i64 p) at c3
      obtain ⟨d0,_,_,_,_⟩ := m5.kept G0.out; have AU := hide au; have hg1 := block_lt c0; have hg2 := block_lt d0; obtain ⟨_,hv⟩ := HE.out x m p u hmem; have HV := hide hv; have HT := hide (flat_take (tx := line) ht)
      have lA : (starTx (.mk 4 x m p [u])).length ≤ 13 := by unfold starTx; split <;> simp [T.name] <;> omega
      have HST : ∀ w', Hid (Calls Tryz.prog 41 #[.agg #[.int .i64 4, .string ⟨x.toArray⟩, .int .i64 m, .int .i64 p, .slice (some ⟨g2, o2, none⟩) 1 c2]] w' (Sy w' (.string ⟨(starTx (.mk 4 x m p [u])).toArray⟩))) := fun w' => starred_any (.mk 4 x m p [u]) (.slice (some ⟨g2, o2, none⟩) 1 c2) w' hx ⟨_, _, _, rfl⟩
      have HLE : Hid (line (.mk 4 x m p [u]) = [32, 32] ++ (starTx (.mk 4 x m p [u]) ++ ([32, 61, 32] ++ (ty u ++ [59, 10])))) := by show _ = _; rw [← HLN]; rfl
      generalize starTx (.mk 4 x m p [u]) = A at *
      generalize ty u = V at *
      have B0 : Hid (Box (wr.alloc (.cells #[.int .i64 u.kind, .string ⟨u.name.toArray⟩, .int .i64 u.num, .int .i64 u.at', .slice ua u.subs.length uc] 24)) wr.heap.size u (.slice ua u.subs.length uc)) := Box.new wr u (.slice ua u.subs.length uc) 24; clear ht hmem ft aT hl2 fu au m5 n5 hv HLN
      have qq1 : ¬ (9223372036854775807 < Y.length + 2) := by omega
      have qq2 : ¬ (9223372036854775807 < Y.length + 2 + A.length) := by omega
      have qq3 : ¬ (9223372036854775807 < Y.length + 2 + A.length + 3) := by omega
      have qq4 : ¬ (9223372036854775807 < Y.length + 2 + A.length + 3 + V.length) := by omega
      have qq5 : ¬ (9223372036854775807 < Y.length + 2 + A.length + 3 + V.length + 2) := by omega
      go_wp2_with fail; refine wp_region_held_drew (S := (fun w' => (w'.cell? ⟨gg, oo + i * 5, none⟩ = some (.int .i64 4) ∧ w'.cell? ⟨gg, oo + i * 5 + 1, none⟩ = some (.string ⟨x.toArray⟩) ∧ w'.cell? ⟨gg, oo + i * 5 + 2, none⟩ = some (.int .i64 m) ∧ w'.cell? ⟨gg, oo + i * 5 + 3, none⟩ = some (.int .i64 p) ∧ w'.cell? ⟨gg, oo + i * 5 + 4, none⟩ = some (.slice (some ⟨g2, o2, none⟩) 1 c2)) ∧ Box w' wr.heap.size u (.slice ua u.subs.length uc))) (by kernel_rfl) ?_ (fun hHeld => ?_)
      · exact ⟨⟨(NT.out.kept (gb_drew (gb_alloc (gb_refl wr none) _))).c0, (NT.out.kept (gb_drew (gb_alloc (gb_refl wr none) _))).c1, (NT.out.kept (gb_drew (gb_alloc (gb_refl wr none) _))).c2, (NT.out.kept (gb_drew (gb_alloc (gb_refl wr none) _))).c3, (NT.out.kept (gb_drew (gb_alloc (gb_refl wr none) _))).c4⟩, B0.out.kept (gb_drew (gb_refl _ none))⟩
      refine tk 0 (.string (⟨List.toArray Y⟩ : ByteArray)) rfl (fun _ _ => by go_simp) hHeld ?_; simp only [Act.put, List.setIfInBounds_toArray]; refine tk 1 (.string ((⟨List.toArray Y⟩ : ByteArray) ++ (⟨List.toArray [32, 32]⟩ : ByteArray))) rfl (fun _ _ => by go_simp) hHeld ?_; simp only [Act.put]; refine tk 2 (.slice (some ⟨gg, oo, none⟩) l.length sc) rfl (fun _ _ => by go_simp) hHeld ?_; simp only [Act.put]; refine tk 3 (.int .i64 ↑i) rfl (fun _ _ => by go_simp) hHeld ?_; simp only [Act.put]; refine tk 4 (.pointer (some ⟨gg, oo + i * 5, none⟩)) rfl (fun _ _ => by go_simp) hHeld ?_; simp only [Act.put]; refine tk 5 (.agg #[.int .i64 4, .string ⟨x.toArray⟩, .int .i64 m, .int .i64 p, .slice (some ⟨g2, o2, none⟩) 1 c2]) rfl (fun _ ⟨⟨_,_,_,_,_⟩,⟨_,_,_,_,_⟩⟩ => by go_simp) hHeld ?_; simp only [Act.put]; refine tk 9 (nodeV u (.slice ua u.subs.length uc)) rfl (fun _ ⟨⟨_,_,_,_,_⟩,⟨_,_,_,_,_⟩⟩ => by go_simp) hHeld ?_; simp only [Act.put]; refine rd 6 rfl fun KK hKK => ?_
      go_simp
      go_at_call 41; refine ((HST _).out).mono ?_; rintro e w1 ⟨rfl, hg1⟩; have G1 := hide (gb_trans (by exact gb_drew (gb_alloc G0.out _)) hg1); have B1 := hide (B0.out.kept (gb_trans (by exact gb_drew (gb_refl _ none)) hg1)); have R1 := hide (gb_trans (by exact gb_drew (gb_alloc (gb_refl wr none) _)) hg1); clear hg1
      go_simp
      refine hKK.out _ _ ⟨⟨(NT.out.kept R1.out).c0, (NT.out.kept R1.out).c1, (NT.out.kept R1.out).c2, (NT.out.kept R1.out).c3, (NT.out.kept R1.out).c4⟩, B1.out⟩ fun hHeld => ?_
      clear hKK KK; refine tk 7 (.string (((⟨List.toArray Y⟩ : ByteArray) ++ (⟨List.toArray [32, 32]⟩ : ByteArray)) ++ (⟨List.toArray A⟩ : ByteArray))) rfl (fun _ _ => by go_simp) hHeld ?_; simp only [Act.put, List.setIfInBounds_toArray]; refine tk 8 (.string ((((⟨List.toArray Y⟩ : ByteArray) ++ (⟨List.toArray [32, 32]⟩ : ByteArray)) ++ (⟨List.toArray A⟩ : ByteArray)) ++ (⟨List.toArray [32, 61, 32]⟩ : ByteArray))) rfl (fun _ _ => by go_simp) hHeld ?_; simp only [Act.put]; refine rd 10 rfl fun KK hKK => ?_
      go_simp
      go_at_call 42; refine (HV.out _ _ G1.out (AU.out.kept G1.out)).mono ?_; rintro e w2 ⟨rfl, hg2⟩; have G2 := hide (gb_trans G1.out hg2); have B2 := hide (B1.out.kept (gb_trans (gb_refl w1 none) hg2)); have R2 := hide (gb_trans R1.out hg2); clear hg2
      go_simp
      refine hKK.out _ _ ⟨⟨(NT.out.kept R2.out).c0, (NT.out.kept R2.out).c1, (NT.out.kept R2.out).c2, (NT.out.kept R2.out).c3, (NT.out.kept R2.out).c4⟩, B2.out⟩ fun hHeld => ?_
      clear hKK KK; refine rd 11 rfl fun KK hKK => ?_
      go_simp
      refine hKK.out _ _ hHeld fun hHeld => ?_
      clear hKK KK; refine rd 12 rfl fun KK hKK => ?_
      go_simp
      refine hKK.out _ _ hHeld fun hHeld => ?_
      clear hKK KK; refine rd 13 rfl fun KK hKK => ?_
      go_simp
      refine hKK.out _ _ hHeld fun hHeld => ?_
      clear hKK KK; refine wpAnyH_done (by kernel_rfl) ?_ _; clear hHeld; go_wp2_with fail; refine ⟨⟨i + 1, Y ++ [32, 32] ++ A ++ [32, 61, 32] ++ V ++ [59, 10], by omega, by go_num, strA_eq (by repeat rw [ba_app]), ?_, G2⟩, by simp [intOf]; omega⟩
      show _ = _
      rw [HT.out, HLE.out, HY.out]; simp only [List.append_assoc]
    · have HX : Hid (Y = word ++ ([10] ++ flatTx line l)) := by
        have := HY.out; rw [List.take_of_length_le (by omega)] at this
        exact this
      go_wp2_with fail
      go_ret
      exact ⟨ret_str (by rw [HX.out]; rfl), G0.out⟩
theorem decl_named (word : List UInt8) (K : Int) (l : List T) (sl : Value) (ty : T → List UInt8) (w : World) (ha : AT w l sl) (hK : K = 5) (hk : ∀ t ∈ l, ∃ x m p u, t = .mk K x m p [u] ∧ x.length ≤ 12) (he : ∀ x m p u, T.mk K x m p [u] ∈ l → (ty u).length ≤ 4000000 ∧ ∀ w' sv, w.grownBy w' none → AT w' u.subs sv → Calls Tryz.prog 43 #[nodeV u sv] w' (Sy w' (.string ⟨(ty u).toArray⟩))) (hw : word.length ≤ 10) (hlen : (flatTx (fun t => [32, 32] ++ (starTx t ++ ([32, 61, 32] ++ (ty (subT t 0) ++ [59, 10])))) l).length ≤ 4000000) :
    Calls Tryz.prog 19 #[.string ⟨word.toArray⟩, sl] w (Sy w (.string ⟨(if l.isEmpty then [] else word ++ ([10] ++ flatTx (fun t => [32, 32] ++ (starTx t ++ ([32, 61, 32] ++ (ty (subT t 0) ++ [59, 10])))) l)).toArray⟩)) := by
  subst hK; have HA := hide ha; have HE := hide he; have HK := hide hk; obtain ⟨_,sc,rfl,_,hs2⟩ := ha.form
  unfold maxLen at hs2
  clear ha he hk
  by_cases h0 : l = []
  · subst h0
    go_enter Tryz.func19, Tryz.ntmps19
    go_wp2_with fail
    go_ret
    exact ⟨rfl, gb_refl w none⟩
  have HI : Hid (l.isEmpty = false) := by show _ = _; cases l; exact absurd rfl h0; rfl
  rw [HI.out, if_neg (by simp)]
  have hne : ((l.length : Int) == 0) = false := by
    rw [beq_eq_false_iff_ne]; cases l
    · exact absurd rfl h0
    · simp; omega
  have qw : ¬ (9223372036854775807 < word.length + 1) := by omega
  generalize HLN : (fun t => [32, 32] ++ (starTx t ++ ([32, 61, 32] ++ (ty (subT t 0) ++ [59, 10])))) = line at hlen ⊢
  go_enter Tryz.func19, Tryz.ntmps19
  go_wp2_with fail
  go_loopw [5, 6] (fun sv iv wr => ∃ (i : Nat) (Y : List UInt8), i ≤ l.length ∧ iv = .int .i64 ↑i ∧ sv = .string ⟨Y.toArray⟩ ∧ Hid (Y = word ++ ([10] ++ flatTx line (l.take i))) ∧ Hid (w.grownBy wr none)) (fun _ iv _ => l.length - (intOf iv).toNat)
  case atStart => exact ⟨0, word ++ [10], Nat.zero_le _, rfl, strA_eq (ba_app word [10]), by show _ = _; simp [flatTx], gb_refl w none⟩
  case round =>
    obtain ⟨i,Y,_,rfl,rfl,HY,G0⟩ := hrel
    have hY : Y.length ≤ 4000011 := by
      rw [HY.out]; have := flat_le line l i; simp only [List.length_append, List.length_cons, List.length_nil]
      omega
    by_cases hlt : i < l.length
    · obtain ⟨t, ht⟩ : ∃ t, l[i]? = some t := ⟨_, List.getElem?_eq_getElem hlt⟩
      have hmem := List.mem_of_getElem? ht; obtain ⟨x,m,p,u,rfl,hx⟩ := HK.out t hmem; obtain ⟨gg,oo,_,e1,n5,ft,aT⟩ := HA.out.node i _ ht; cases e1; obtain ⟨g2, o2, c2, u', su, rfl, hn2, hc2, hl2, m5, fu, au⟩ := aT.one rfl
      obtain rfl : u = u' := by simpa [T.subs] using hl2
      obtain ⟨ua,uc,rfl,_,_⟩ := au.form; have NT := hide (n5.kept G0.out); obtain ⟨c0, c1, c2', c3, c4⟩ := n5.kept G0.out
      change _ = some (Value.int .i64 5) at c0
      change _ = some (Value.string ⟨List.toArray x⟩) at c1
      change _ = some (Value.int .i64 m) at c2'
      change _ = some (Value.int .i64 p) at c3
      obtain ⟨d0,_,_,_,_⟩ := m5.kept G0.out; have AU := hide au; have hg1 := block_lt c0; have hg2 := block_lt d0; obtain ⟨_,hv⟩ := HE.out x m p u hmem; have HV := hide hv; have HT := hide (flat_take (tx := line) ht)
      have lA : (starTx (.mk 5 x m p [u])).length ≤ 13 := by unfold starTx; split <;> simp [T.name] <;> omega
      have HST : ∀ w', Hid (Calls Tryz.prog 41 #[.agg #[.int .i64 5, .string ⟨x.toArray⟩, .int .i64 m, .int .i64 p, .slice (some ⟨g2, o2, none⟩) 1 c2]] w' (Sy w' (.string ⟨(starTx (.mk 5 x m p [u])).toArray⟩))) := fun w' => starred_any (.mk 5 x m p [u]) (.slice (some ⟨g2, o2, none⟩) 1 c2) w' hx ⟨_, _, _, rfl⟩
      have HLE : Hid (line (.mk 5 x m p [u]) = [32, 32] ++ (starTx (.mk 5 x m p [u]) ++ ([32, 61, 32] ++ (ty u ++ [59, 10])))) := by show _ = _; rw [← HLN]; rfl
      generalize starTx (.mk 5 x m p [u]) = A at *
      generalize ty u = V at *
      have B0 : Hid (Box (wr.alloc (.cells #[.int .i64 u.kind, .string ⟨u.name.toArray⟩, .int .i64 u.num, .int .i64 u.at', .slice ua u.subs.length uc] 24)) wr.heap.size u (.slice ua u.subs.length uc)) := Box.new wr u (.slice ua u.subs.length uc) 24; clear ht hmem ft aT hl2 fu au m5 n5 hv HLN
      have qq1 : ¬ (9223372036854775807 < Y.length + 2) := by omega
      have qq2 : ¬ (9223372036854775807 < Y.length + 2 + A.length) := by omega
      have qq3 : ¬ (9223372036854775807 < Y.length + 2 + A.length + 3) := by omega
      have qq4 : ¬ (9223372036854775807 < Y.length + 2 + A.length + 3 + V.length) := by omega
      have qq5 : ¬ (9223372036854775807 < Y.length + 2 + A.length + 3 + V.length + 2) := by omega
      go_wp2_with fail; refine wp_region_held_drew (S := (fun w' => (w'.cell? ⟨gg, oo + i * 5, none⟩ = some (.int .i64 5) ∧ w'.cell? ⟨gg, oo + i * 5 + 1, none⟩ = some (.string ⟨x.toArray⟩) ∧ w'.cell? ⟨gg, oo + i * 5 + 2, none⟩ = some (.int .i64 m) ∧ w'.cell? ⟨gg, oo + i * 5 + 3, none⟩ = some (.int .i64 p) ∧ w'.cell? ⟨gg, oo + i * 5 + 4, none⟩ = some (.slice (some ⟨g2, o2, none⟩) 1 c2)) ∧ Box w' wr.heap.size u (.slice ua u.subs.length uc))) (by kernel_rfl) ?_ (fun hHeld => ?_)
      · exact ⟨⟨(NT.out.kept (gb_drew (gb_alloc (gb_refl wr none) _))).c0, (NT.out.kept (gb_drew (gb_alloc (gb_refl wr none) _))).c1, (NT.out.kept (gb_drew (gb_alloc (gb_refl wr none) _))).c2, (NT.out.kept (gb_drew (gb_alloc (gb_refl wr none) _))).c3, (NT.out.kept (gb_drew (gb_alloc (gb_refl wr none) _))).c4⟩, B0.out.kept (gb_drew (gb_refl _ none))⟩
      refine tk 0 (.string (⟨List.toArray Y⟩ : ByteArray)) rfl (fun _ _ => by go_simp) hHeld ?_; simp only [Act.put, List.setIfInBounds_toArray]; refine tk 1 (.string ((⟨List.toArray Y⟩ : ByteArray) ++ (⟨List.toArray [32, 32]⟩ : ByteArray))) rfl (fun _ _ => by go_simp) hHeld ?_; simp only [Act.put]; refine tk 2 (.slice (some ⟨gg, oo, none⟩) l.length sc) rfl (fun _ _ => by go_simp) hHeld ?_; simp only [Act.put]; refine tk 3 (.int .i64 ↑i) rfl (fun _ _ => by go_simp) hHeld ?_; simp only [Act.put]; refine tk 4 (.pointer (some ⟨gg, oo + i * 5, none⟩)) rfl (fun _ _ => by go_simp) hHeld ?_; simp only [Act.put]; refine tk 5 (.agg #[.int .i64 5, .string ⟨x.toArray⟩, .int .i64 m, .int .i64 p, .slice (some ⟨g2, o2, none⟩) 1 c2]) rfl (fun _ ⟨⟨_,_,_,_,_⟩,⟨_,_,_,_,_⟩⟩ => by go_simp) hHeld ?_; simp only [Act.put]; refine tk 9 (nodeV u (.slice ua u.subs.length uc)) rfl (fun _ ⟨⟨_,_,_,_,_⟩,⟨_,_,_,_,_⟩⟩ => by go_simp) hHeld ?_; simp only [Act.put]; refine rd 6 rfl fun KK hKK => ?_
      go_simp
      go_at_call 41; refine ((HST _).out).mono ?_; rintro e w1 ⟨rfl, hg1⟩; have G1 := hide (gb_trans (by exact gb_drew (gb_alloc G0.out _)) hg1); have B1 := hide (B0.out.kept (gb_trans (by exact gb_drew (gb_refl _ none)) hg1)); have R1 := hide (gb_trans (by exact gb_drew (gb_alloc (gb_refl wr none) _)) hg1); clear hg1
      go_simp
      refine hKK.out _ _ ⟨⟨(NT.out.kept R1.out).c0, (NT.out.kept R1.out).c1, (NT.out.kept R1.out).c2, (NT.out.kept R1.out).c3, (NT.out.kept R1.out).c4⟩, B1.out⟩ fun hHeld => ?_
      clear hKK KK; refine tk 7 (.string (((⟨List.toArray Y⟩ : ByteArray) ++ (⟨List.toArray [32, 32]⟩ : ByteArray)) ++ (⟨List.toArray A⟩ : ByteArray))) rfl (fun _ _ => by go_simp) hHeld ?_; simp only [Act.put, List.setIfInBounds_toArray]; refine tk 8 (.string ((((⟨List.toArray Y⟩ : ByteArray) ++ (⟨List.toArray [32, 32]⟩ : ByteArray)) ++ (⟨List.toArray A⟩ : ByteArray)) ++ (⟨List.toArray [32, 61, 32]⟩ : ByteArray))) rfl (fun _ _ => by go_simp) hHeld ?_; simp only [Act.put]; refine rd 10 rfl fun KK hKK => ?_
      go_simp
      go_at_call 43; refine (HV.out _ _ G1.out (AU.out.kept G1.out)).mono ?_; rintro e w2 ⟨rfl, hg2⟩; have G2 := hide (gb_trans G1.out hg2); have B2 := hide (B1.out.kept (gb_trans (gb_refl w1 none) hg2)); have R2 := hide (gb_trans R1.out hg2); clear hg2
      go_simp
      refine hKK.out _ _ ⟨⟨(NT.out.kept R2.out).c0, (NT.out.kept R2.out).c1, (NT.out.kept R2.out).c2, (NT.out.kept R2.out).c3, (NT.out.kept R2.out).c4⟩, B2.out⟩ fun hHeld => ?_
      clear hKK KK; refine rd 11 rfl fun KK hKK => ?_
      go_simp
      refine hKK.out _ _ hHeld fun hHeld => ?_
      clear hKK KK; refine rd 12 rfl fun KK hKK => ?_
      go_simp
      refine hKK.out _ _ hHeld fun hHeld => ?_
      clear hKK KK; refine rd 13 rfl fun KK hKK => ?_
      go_simp
      refine hKK.out _ _ hHeld fun hHeld => ?_
      clear hKK KK; refine wpAnyH_done (by kernel_rfl) ?_ _; clear hHeld; go_wp2_with fail; refine ⟨⟨i + 1, Y ++ [32, 32] ++ A ++ [32, 61, 32] ++ V ++ [59, 10], by omega, by go_num, strA_eq (by repeat rw [ba_app]), ?_, G2⟩, by simp [intOf]; omega⟩
      show _ = _
      rw [HT.out, HLE.out, HY.out]; simp only [List.append_assoc]
    · have HX : Hid (Y = word ++ ([10] ++ flatTx line l)) := by
        have := HY.out; rw [List.take_of_length_le (by omega)] at this
        exact this
      go_wp2_with fail
      go_ret
      exact ⟨ret_str (by rw [HX.out]; rfl), G0.out⟩
theorem decl_typed (word : List UInt8) (K : Int) (l : List T) (sl : Value) (ty : T → List UInt8) (w : World) (ha : AT w l sl) (hK : K = 6) (hk : ∀ t ∈ l, ∃ x m p u, t = .mk K x m p [u] ∧ x.length ≤ 12) (he : ∀ x m p u, T.mk K x m p [u] ∈ l → (ty u).length ≤ 4000000 ∧ ∀ w' sv, w.grownBy w' none → AT w' u.subs sv → Calls Tryz.prog 44 #[nodeV u sv] w' (Sy w' (.string ⟨(ty u).toArray⟩))) (hw : word.length ≤ 10) (hlen : (flatTx (fun t => [32, 32] ++ (starTx t ++ ([58, 32] ++ (ty (subT t 0) ++ [59, 10])))) l).length ≤ 4000000) :
    Calls Tryz.prog 19 #[.string ⟨word.toArray⟩, sl] w (Sy w (.string ⟨(if l.isEmpty then [] else word ++ ([10] ++ flatTx (fun t => [32, 32] ++ (starTx t ++ ([58, 32] ++ (ty (subT t 0) ++ [59, 10])))) l)).toArray⟩)) := by
  subst hK; have HA := hide ha; have HE := hide he; have HK := hide hk; obtain ⟨_,sc,rfl,_,hs2⟩ := ha.form
  unfold maxLen at hs2
  clear ha he hk
  by_cases h0 : l = []
  · subst h0
    go_enter Tryz.func19, Tryz.ntmps19
    go_wp2_with fail
    go_ret
    exact ⟨rfl, gb_refl w none⟩
  have HI : Hid (l.isEmpty = false) := by show _ = _; cases l; exact absurd rfl h0; rfl
  rw [HI.out, if_neg (by simp)]
  have hne : ((l.length : Int) == 0) = false := by
    rw [beq_eq_false_iff_ne]; cases l
    · exact absurd rfl h0
    · simp; omega
  have qw : ¬ (9223372036854775807 < word.length + 1) := by omega
  generalize HLN : (fun t => [32, 32] ++ (starTx t ++ ([58, 32] ++ (ty (subT t 0) ++ [59, 10])))) = line at hlen ⊢
  go_enter Tryz.func19, Tryz.ntmps19
  go_wp2_with fail
  go_loopw [5, 6] (fun sv iv wr => ∃ (i : Nat) (Y : List UInt8), i ≤ l.length ∧ iv = .int .i64 ↑i ∧ sv = .string ⟨Y.toArray⟩ ∧ Hid (Y = word ++ ([10] ++ flatTx line (l.take i))) ∧ Hid (w.grownBy wr none)) (fun _ iv _ => l.length - (intOf iv).toNat)
  case atStart => exact ⟨0, word ++ [10], Nat.zero_le _, rfl, strA_eq (ba_app word [10]), by show _ = _; simp [flatTx], gb_refl w none⟩
  case round =>
    obtain ⟨i,Y,_,rfl,rfl,HY,G0⟩ := hrel
    have hY : Y.length ≤ 4000011 := by
      rw [HY.out]; have := flat_le line l i; simp only [List.length_append, List.length_cons, List.length_nil]
      omega
    by_cases hlt : i < l.length
    · obtain ⟨t, ht⟩ : ∃ t, l[i]? = some t := ⟨_, List.getElem?_eq_getElem hlt⟩
      have hmem := List.mem_of_getElem? ht; obtain ⟨x,m,p,u,rfl,hx⟩ := HK.out t hmem; obtain ⟨gg,oo,_,e1,n5,ft,aT⟩ := HA.out.node i _ ht; cases e1; obtain ⟨g2, o2, c2, u', su, rfl, hn2, hc2, hl2, m5, fu, au⟩ := aT.one rfl
      obtain rfl : u = u' := by simpa [T.subs] using hl2
      obtain ⟨ua,uc,rfl,_,_⟩ := au.form; have NT := hide (n5.kept G0.out); obtain ⟨c0, c1, c2', c3, c4⟩ := n5.kept G0.out
      change _ = some (Value.int .i64 6) at c0
      change _ = some (Value.string ⟨List.toArray x⟩) at c1
      change _ = some (Value.int .i64 m) at c2'
      change _ = some (Value.int .i64 p) at c3
      obtain ⟨d0,_,_,_,_⟩ := m5.kept G0.out; have AU := hide au; have hg1 := block_lt c0; have hg2 := block_lt d0; obtain ⟨_,hv⟩ := HE.out x m p u hmem; have HV := hide hv; have HT := hide (flat_take (tx := line) ht)
      have lA : (starTx (.mk 6 x m p [u])).length ≤ 13 := by unfold starTx; split <;> simp [T.name] <;> omega
      have HST : ∀ w', Hid (Calls Tryz.prog 41 #[.agg #[.int .i64 6, .string ⟨x.toArray⟩, .int .i64 m, .int .i64 p, .slice (some ⟨g2, o2, none⟩) 1 c2]] w' (Sy w' (.string ⟨(starTx (.mk 6 x m p [u])).toArray⟩))) := fun w' => starred_any (.mk 6 x m p [u]) (.slice (some ⟨g2, o2, none⟩) 1 c2) w' hx ⟨_, _, _, rfl⟩
      have HLE : Hid (line (.mk 6 x m p [u]) = [32, 32] ++ (starTx (.mk 6 x m p [u]) ++ ([58, 32] ++ (ty u ++ [59, 10])))) := by show _ = _; rw [← HLN]; rfl
      generalize starTx (.mk 6 x m p [u]) = A at *
      generalize ty u = V at *
      have B0 : Hid (Box (wr.alloc (.cells #[.int .i64 u.kind, .string ⟨u.name.toArray⟩, .int .i64 u.num, .int .i64 u.at', .slice ua u.subs.length uc] 24)) wr.heap.size u (.slice ua u.subs.length uc)) := Box.new wr u (.slice ua u.subs.length uc) 24; clear ht hmem ft aT hl2 fu au m5 n5 hv HLN
      have qq1 : ¬ (9223372036854775807 < Y.length + 2) := by omega
      have qq2 : ¬ (9223372036854775807 < Y.length + 2 + A.length) := by omega
      have qq3 : ¬ (9223372036854775807 < Y.length + 2 + A.length + 2) := by omega
      have qq4 : ¬ (9223372036854775807 < Y.length + 2 + A.length + 2 + V.length) := by omega
      have qq5 : ¬ (9223372036854775807 < Y.length + 2 + A.length + 2 + V.length + 2) := by omega
      go_wp2_with fail; refine wp_region_held_drew (S := (fun w' => (w'.cell? ⟨gg, oo + i * 5, none⟩ = some (.int .i64 6) ∧ w'.cell? ⟨gg, oo + i * 5 + 1, none⟩ = some (.string ⟨x.toArray⟩) ∧ w'.cell? ⟨gg, oo + i * 5 + 2, none⟩ = some (.int .i64 m) ∧ w'.cell? ⟨gg, oo + i * 5 + 3, none⟩ = some (.int .i64 p) ∧ w'.cell? ⟨gg, oo + i * 5 + 4, none⟩ = some (.slice (some ⟨g2, o2, none⟩) 1 c2)) ∧ Box w' wr.heap.size u (.slice ua u.subs.length uc))) (by kernel_rfl) ?_ (fun hHeld => ?_)
      · exact ⟨⟨(NT.out.kept (gb_drew (gb_alloc (gb_refl wr none) _))).c0, (NT.out.kept (gb_drew (gb_alloc (gb_refl wr none) _))).c1, (NT.out.kept (gb_drew (gb_alloc (gb_refl wr none) _))).c2, (NT.out.kept (gb_drew (gb_alloc (gb_refl wr none) _))).c3, (NT.out.kept (gb_drew (gb_alloc (gb_refl wr none) _))).c4⟩, B0.out.kept (gb_drew (gb_refl _ none))⟩
      refine tk 0 (.string (⟨List.toArray Y⟩ : ByteArray)) rfl (fun _ _ => by go_simp) hHeld ?_; simp only [Act.put, List.setIfInBounds_toArray]; refine tk 1 (.string ((⟨List.toArray Y⟩ : ByteArray) ++ (⟨List.toArray [32, 32]⟩ : ByteArray))) rfl (fun _ _ => by go_simp) hHeld ?_; simp only [Act.put]; refine tk 2 (.slice (some ⟨gg, oo, none⟩) l.length sc) rfl (fun _ _ => by go_simp) hHeld ?_; simp only [Act.put]; refine tk 3 (.int .i64 ↑i) rfl (fun _ _ => by go_simp) hHeld ?_; simp only [Act.put]; refine tk 4 (.pointer (some ⟨gg, oo + i * 5, none⟩)) rfl (fun _ _ => by go_simp) hHeld ?_; simp only [Act.put]; refine tk 5 (.agg #[.int .i64 6, .string ⟨x.toArray⟩, .int .i64 m, .int .i64 p, .slice (some ⟨g2, o2, none⟩) 1 c2]) rfl (fun _ ⟨⟨_,_,_,_,_⟩,⟨_,_,_,_,_⟩⟩ => by go_simp) hHeld ?_; simp only [Act.put]; refine tk 9 (nodeV u (.slice ua u.subs.length uc)) rfl (fun _ ⟨⟨_,_,_,_,_⟩,⟨_,_,_,_,_⟩⟩ => by go_simp) hHeld ?_; simp only [Act.put]; refine rd 6 rfl fun KK hKK => ?_
      go_simp
      go_at_call 41; refine ((HST _).out).mono ?_; rintro e w1 ⟨rfl, hg1⟩; have G1 := hide (gb_trans (by exact gb_drew (gb_alloc G0.out _)) hg1); have B1 := hide (B0.out.kept (gb_trans (by exact gb_drew (gb_refl _ none)) hg1)); have R1 := hide (gb_trans (by exact gb_drew (gb_alloc (gb_refl wr none) _)) hg1); clear hg1
      go_simp
      refine hKK.out _ _ ⟨⟨(NT.out.kept R1.out).c0, (NT.out.kept R1.out).c1, (NT.out.kept R1.out).c2, (NT.out.kept R1.out).c3, (NT.out.kept R1.out).c4⟩, B1.out⟩ fun hHeld => ?_
      clear hKK KK; refine tk 7 (.string (((⟨List.toArray Y⟩ : ByteArray) ++ (⟨List.toArray [32, 32]⟩ : ByteArray)) ++ (⟨List.toArray A⟩ : ByteArray))) rfl (fun _ _ => by go_simp) hHeld ?_; simp only [Act.put, List.setIfInBounds_toArray]; refine tk 8 (.string ((((⟨List.toArray Y⟩ : ByteArray) ++ (⟨List.toArray [32, 32]⟩ : ByteArray)) ++ (⟨List.toArray A⟩ : ByteArray)) ++ (⟨List.toArray [58, 32]⟩ : ByteArray))) rfl (fun _ _ => by go_simp) hHeld ?_; simp only [Act.put]; refine rd 10 rfl fun KK hKK => ?_
      go_simp
      go_at_call 44; refine (HV.out _ _ G1.out (AU.out.kept G1.out)).mono ?_; rintro e w2 ⟨rfl, hg2⟩; have G2 := hide (gb_trans G1.out hg2); have B2 := hide (B1.out.kept (gb_trans (gb_refl w1 none) hg2)); have R2 := hide (gb_trans R1.out hg2); clear hg2
      go_simp
      refine hKK.out _ _ ⟨⟨(NT.out.kept R2.out).c0, (NT.out.kept R2.out).c1, (NT.out.kept R2.out).c2, (NT.out.kept R2.out).c3, (NT.out.kept R2.out).c4⟩, B2.out⟩ fun hHeld => ?_
      clear hKK KK; refine rd 11 rfl fun KK hKK => ?_
      go_simp
      refine hKK.out _ _ hHeld fun hHeld => ?_
      clear hKK KK; refine rd 12 rfl fun KK hKK => ?_
      go_simp
      refine hKK.out _ _ hHeld fun hHeld => ?_
      clear hKK KK; refine rd 13 rfl fun KK hKK => ?_
      go_simp
      refine hKK.out _ _ hHeld fun hHeld => ?_
      clear hKK KK; refine wpAnyH_done (by kernel_rfl) ?_ _; clear hHeld; go_wp2_with fail; refine ⟨⟨i + 1, Y ++ [32, 32] ++ A ++ [58, 32] ++ V ++ [59, 10], by omega, by go_num, strA_eq (by repeat rw [ba_app]), ?_, G2⟩, by simp [intOf]; omega⟩
      show _ = _
      rw [HT.out, HLE.out, HY.out]; simp only [List.append_assoc]
    · have HX : Hid (Y = word ++ ([10] ++ flatTx line l)) := by
        have := HY.out; rw [List.take_of_length_le (by omega)] at this
        exact this
      go_wp2_with fail
      go_ret
      exact ⟨ret_str (by rw [HX.out]; rfl), G0.out⟩
end Go.Proofs.YtapfecciakijhaaGreatDoor
