/- The document's texts: every expression. -/
import Derived.Test.YtapfecciakijhaaGreatDoorG16
import Derived.Test.YtapfecciakijhaaGreatDoorG17
namespace Go.Proofs.YtapfecciakijhaaGreatDoor
open Go.RowKit

theorem ntx_of {t : T} (h : TN t) (w : World) : NTx w t (nameTx t) := by
  have hl := nameTx_len h; refine ⟨by omega, fun w' sv _ ha => ?_⟩; cases h with
  | plain x p hx => exact nameText_any _ sv w' (nameB_len hx) (fun u hu => by cases hu) ha
  | dot x p y q hx hy => exact nameText_any _ sv w' (nameB_len hx) (fun u hu => (List.mem_singleton.1 (show u ∈ [T.mk 24 y 0 q []] from hu)).symm ▸ nameB_len hy) ha
theorem ltx_of {t : T} {E : List UInt8} {w : World} (r : Int) (h : ETx w t E) (hl : E.length ≤ 900000) : LTx w t r (atTx t r E) := by
  refine ⟨?_, fun w' sv hg ha => atLeast_of t sv r E w' (at_form ha) h.1 (fun w'' hg2 => h.2 w'' sv (gb_trans hg hg2) (ha.kept hg2))⟩
  unfold atTx
  split
  · simp; omega
  · exact h.1
theorem countL_mem {l : List T} {u : T} (h : u ∈ l) : countT u ≤ countL l := by
  induction l with
  | nil => cases h
  | cons t l ih =>
    rw [countL]
    rcases List.mem_cons.1 h with rfl | h
    · omega
    · have := ih h; omega
theorem etx_any : ∀ (f : Nat) (t : T), depthT t ≤ f → Well .expression t → countT t ≤ 3000 → ∀ w, ETx w t (exprTx f t) := by
  intro f
  induction f with
  | zero => intro t h; have := depthT_eq t; omega
  | succ f ih =>
    intro t ht h hcount w; have hlen := expr_len (f + 1) t h
    have sub : ∀ u, u ∈ t.subs → Well .expression u → ∀ w, ETx w u (exprTx f u) := fun u hu hw => ih u (by have := depth_sub hu; omega) hw (by
      obtain ⟨k,x,m,p,l⟩ := t
      have h1 : countT (T.mk k x m p l) = 1 + countL l := by rw [countT]
      have h2 := countL_mem (show u ∈ l from hu)
      omega)
    have slen : ∀ u, u ∈ t.subs → Well .expression u → (exprTx f u).length ≤ 900000 := fun u hu hw => by
      have h3 := expr_len f u hw; obtain ⟨k,x,m,p,l⟩ := t
      have h1 : countT (T.mk k x m p l) = 1 + countL l := by rw [countT]
      have h2 := countL_mem (show u ∈ l from hu)
      omega
    refine ⟨by omega, fun w' sv hg ha => ?_⟩; have H := ex_of h; clear h; cases H with
    | ref x p hx => rw [tx24]; exact ex24 x 0 p sv w' (at_form ha)
    | dot x p u hx hu => rw [tx25]; exact ex25 x 0 p u _ sv w' (nameB_len hx) ha (sub u (by simp [T.subs]) (ex_of_de hu) w')
    | index p u v hu hv => rw [tx26]; exact ex26 [] 0 p u v sv w' ha _ _ (sub u (by simp [T.subs]) (ex_of_de hu) w') (sub v (by simp [T.subs]) hv w')
    | deref p u hu => rw [tx27]; exact ex27 [] 0 p u sv w' ha _ (sub u (by simp [T.subs]) (ex_of_de hu) w')
    | guard p u v hu hv => rw [tx28]; exact ex28 [] 0 p u v sv w' ha _ _ (sub u (by simp [T.subs]) (ex_of_de hu) w') (ntx_of hv w')
    | number m p h0 h1 => rw [tx29]; exact ex29 [] m p sv w' (at_form ha) h0 h1
    | word k p hk2 =>
      rw [tx30 f [] 0 p k hk2]
      rcases hk2 with rfl | rfl | rfl
      · exact ex30 [] 0 p sv w' (at_form ha)
      · exact ex31 [] 0 p sv w' (at_form ha)
      · exact ex32 [] 0 p sv w' (at_form ha)
    | call p u us hu hs =>
      rw [tx33]; have h2 := sepTx_len [44, 32] (exprTx f) 40 us (fun v hv => by have := expr_len f v (hs v hv); simp; omega)
      have h1 : countT (T.mk 33 [] 0 p (u :: us)) = 1 + countL (u :: us) := by rw [countT]
      have h3 : countL (u :: us) = countT u + countL us := by rw [countL]
      exact ex33 [] 0 p u us sv w' ha _ (exprTx f) (sub u (by simp [T.subs]) (ex_of_de hu) w') (fun v hv => sub v (by simp [T.subs, hv]) (hs v hv) w') (by omega)
    | one k p u hk2 hu =>
      rcases hk2 with rfl | rfl
      · rw [tx34]; exact ex34 [] 0 p u sv w' ha _ (ltx_of 3 (sub u (by simp [T.subs]) hu w') (slen u (by simp [T.subs]) hu))
      · rw [tx35]; exact ex35 [] 0 p u sv w' ha _ (ltx_of 2 (sub u (by simp [T.subs]) hu w') (slen u (by simp [T.subs]) hu))
    | is p u v hu hv => rw [tx37]; exact ex37 [] 0 p u v sv w' ha _ _ (ltx_of 1 (sub u (by simp [T.subs]) hu w') (slen u (by simp [T.subs]) hu)) (ntx_of hv w')
    | op x p u v hx hu hv =>
      rw [tx36 f x 0 p u v hx]
      exact ex36 x 0 p u v sv w' ha _ _ _ _ hx rfl rfl (ltx_of _ (sub u (by simp [T.subs]) hu w') (slen u (by simp [T.subs]) hu)) (ltx_of _ (sub v (by simp [T.subs]) hv w') (slen v (by simp [T.subs]) hv))
end Go.Proofs.YtapfecciakijhaaGreatDoor

/- The document's texts: acts, kind by kind. -/
namespace Go.Proofs.YtapfecciakijhaaGreatDoor
open Go.RowKit
set_option maxHeartbeats 4000000
set_option maxRecDepth 1000000

/-- stmtsText answers E for a list's node and this pad, wherever its parts lie. -/
def STx (w : World) (t : T) (P E : List UInt8) : Prop := E.length ≤ 5000000 ∧ ∀ w' sv, w.grownBy w' none → AT w' t.subs sv → Calls Tryz.prog 21 #[nodeV t sv, .string ⟨P.toArray⟩] w' (Sy w' (.string ⟨E.toArray⟩))
/-- .. a pad made of two. -/
theorem stx_app {w : World} {t : T} {A B E : List UInt8} (h : STx w t (A ++ B) E) : ∀ w' sv, w.grownBy w' none → AT w' t.subs sv → Calls Tryz.prog 21 #[nodeV t sv, .string ((⟨A.toArray⟩ : ByteArray) ++ ⟨B.toArray⟩)] w' (Sy w' (.string ⟨E.toArray⟩)) := by
  intro w' sv hg ha; rw [ba_app]
  exact h.2 w' sv hg ha

theorem st14 (x : List UInt8) (m p : Int) (u : T) (v : T) (P : List UInt8) (sv : Value) (w : World) (ha : AT w (T.mk 14 x m p [u, v]).subs sv) (lP : P.length ≤ 1000) (U V : List UInt8) (hu : ETx w u U) (hv : ETx w v V) :
    Calls Tryz.prog 45 #[.agg #[.int .i64 14, .string ⟨x.toArray⟩, .int .i64 m, .int .i64 p, sv], .string ⟨P.toArray⟩] w (Sy w (.string ⟨(P ++ (U ++ ([32, 58, 61, 32] ++ V))).toArray⟩)) := by
  obtain ⟨g, o, c, u', su, v', sw, rfl, hn, hc, hl, n5, fu, au, n6, fv, av⟩ := ha.two rfl
  have hl2 : u = u' ∧ v = v' := by simpa [T.subs] using hl
  obtain ⟨rfl,rfl⟩ := hl2; have NU := hide n5; have NV := hide n6; have AU := hide au; have AV := hide av; have hgl := block_lt n5.c0; obtain ⟨_,_,_,_,_⟩ := n5; obtain ⟨_,_,_,_,_⟩ := n6; clear ha hl fu au fv av; have B0 : Hid (Box (w.alloc (.cells #[.int .i64 14, .string ⟨x.toArray⟩, .int .i64 m, .int .i64 p, .slice (some ⟨g, o, none⟩) 2 c] 24)) w.heap.size (.mk 14 x m p [u, v]) (.slice (some ⟨g, o, none⟩) 2 c)) := Box.new w (.mk 14 x m p [u, v]) (.slice (some ⟨g, o, none⟩) 2 c) 24
  have qp : ¬ (9223372036854775807 < P.length + 2) := by omega
  have lU := hu.1; have HU := hide hu.2; clear hu; have lV := hv.1; have HV := hide hv.2; clear hv
  go_enter Tryz.func45, Tryz.ntmps45
  have qq1 : ¬ (9223372036854775807 < P.length + U.length) := by omega
  have qq2 : ¬ (9223372036854775807 < P.length + U.length + 4) := by omega
  have qq3 : ¬ (9223372036854775807 < P.length + U.length + 4 + V.length) := by omega
  go_wp2_with fail; refine wp_region_held_drew (S := (fun w' => w'.cell? ⟨w.heap.size, 4, none⟩ = some (.slice (some ⟨g, o, none⟩) 2 c) ∧ Node5 w' g o u su ∧ Node5 w' g (o + 5) v sw)) (by kernel_rfl) ?_ (fun hHeld => ?_)
  · exact ⟨gb_cell (gb_drew (gb_refl _ none)) B0.out.c4, NU.out.kept (gb_drew (gb_alloc (gb_refl w none) _)), NV.out.kept (gb_drew (gb_alloc (gb_refl w none) _))⟩
  refine tk 0 (.string (⟨List.toArray P⟩ : ByteArray)) rfl (fun _ _ => by go_simp) hHeld ?_; simp only [Act.put, List.setIfInBounds_toArray]; refine tk 1 (.pointer (some ⟨w.heap.size, 4, none⟩)) rfl (fun _ _ => by go_simp) hHeld ?_; simp only [Act.put]; refine tk 2 (.slice (some ⟨g, o, none⟩) 2 c) rfl (fun _ ⟨_,⟨_,_,_,_,_⟩,⟨_,_,_,_,_⟩⟩ => by go_simp) hHeld ?_; simp only [Act.put]; refine tk 3 (.pointer (some ⟨g, o, none⟩)) rfl (fun _ _ => by go_simp) hHeld ?_; simp only [Act.put]; refine tk 4 (nodeV u su) rfl (fun _ ⟨_,⟨_,_,_,_,_⟩,⟨_,_,_,_,_⟩⟩ => by go_simp) hHeld ?_; simp only [Act.put]; refine tk 8 (.pointer (some ⟨w.heap.size, 4, none⟩)) rfl (fun _ _ => by go_simp) hHeld ?_; simp only [Act.put]; refine tk 9 (.slice (some ⟨g, o, none⟩) 2 c) rfl (fun _ ⟨_,⟨_,_,_,_,_⟩,⟨_,_,_,_,_⟩⟩ => by go_simp) hHeld ?_; simp only [Act.put]; refine tk 10 (.pointer (some ⟨g, o + 5, none⟩)) rfl (fun _ _ => by go_simp) hHeld ?_; simp only [Act.put]; refine tk 11 (nodeV v sw) rfl (fun _ ⟨_,⟨_,_,_,_,_⟩,⟨_,_,_,_,_⟩⟩ => by go_simp) hHeld ?_; simp only [Act.put]; refine rd 5 rfl fun KK hKK => ?_
  go_simp
  go_at_call 42; refine (HU.out _ _ (by exact gb_drew (gb_alloc ((gb_refl w none)) _)) (AU.out.kept (by exact gb_drew (gb_alloc ((gb_refl w none)) _)))).mono ?_; rintro e w1 ⟨rfl, hg1⟩; have G1 := hide (gb_trans (by exact gb_drew (gb_alloc ((gb_refl w none)) _)) hg1); have B1 := hide (B0.out.kept (gb_trans (by exact gb_drew (gb_refl _ none)) hg1)); clear hg1
  go_simp
  refine hKK.out _ _ ⟨B1.out.c4, NU.out.kept G1.out, NV.out.kept G1.out⟩ fun hHeld => ?_
  clear hKK KK; refine tk 6 (.string ((⟨List.toArray P⟩ : ByteArray) ++ (⟨List.toArray U⟩ : ByteArray))) rfl (fun _ _ => by go_simp) hHeld ?_; simp only [Act.put, List.setIfInBounds_toArray]; refine tk 7 (.string (((⟨List.toArray P⟩ : ByteArray) ++ (⟨List.toArray U⟩ : ByteArray)) ++ (⟨List.toArray [32, 58, 61, 32]⟩ : ByteArray))) rfl (fun _ _ => by go_simp) hHeld ?_; simp only [Act.put]; refine rd 12 rfl fun KK hKK => ?_
  go_simp
  go_at_call 42; refine (HV.out _ _ G1.out (AV.out.kept G1.out)).mono ?_; rintro e w2 ⟨rfl, hg2⟩; have G2 := hide (gb_trans G1.out hg2); have B2 := hide (B1.out.kept (gb_trans (gb_refl w1 none) hg2)); clear hg2
  go_simp
  refine hKK.out _ _ ⟨B2.out.c4, NU.out.kept G2.out, NV.out.kept G2.out⟩ fun hHeld => ?_
  clear hKK KK; refine rd 13 rfl fun KK hKK => ?_
  go_simp
  refine hKK.out _ _ hHeld fun hHeld => ?_
  clear hKK KK; refine rd 14 rfl fun KK hKK => ?_
  go_simp
  refine hKK.out _ _ hHeld fun hHeld => ?_
  clear hKK KK; refine wpAnyH_done (by kernel_rfl) ?_ _; clear hHeld; go_wp2_with fail
  go_ret
  refine ⟨(show Ending.returned (.string ((((⟨List.toArray P⟩ : ByteArray) ++ (⟨List.toArray U⟩ : ByteArray)) ++ (⟨List.toArray [32, 58, 61, 32]⟩ : ByteArray)) ++ (⟨List.toArray V⟩ : ByteArray))) = _ from ret_str ?_), G2.out⟩
  repeat rw [ba_app]
  try simp only [List.append_assoc]
  try rfl
theorem st17 (x : List UInt8) (m p : Int) (u : T) (v : T) (P : List UInt8) (sv : Value) (w : World) (ha : AT w (T.mk 17 x m p [u, v]).subs sv) (lP : P.length ≤ 1000) (U V : List UInt8) (hu : ETx w u U) (hv : STx w v (P ++ [32, 32]) V) :
    Calls Tryz.prog 45 #[.agg #[.int .i64 17, .string ⟨x.toArray⟩, .int .i64 m, .int .i64 p, sv], .string ⟨P.toArray⟩] w (Sy w (.string ⟨(P ++ ([87, 72, 73, 76, 69, 32] ++ (U ++ ([32, 68, 79, 10] ++ (V ++ (P ++ [69, 78, 68])))))).toArray⟩)) := by
  obtain ⟨g, o, c, u', su, v', sw, rfl, hn, hc, hl, n5, fu, au, n6, fv, av⟩ := ha.two rfl
  have hl2 : u = u' ∧ v = v' := by simpa [T.subs] using hl
  obtain ⟨rfl,rfl⟩ := hl2; have NU := hide n5; have NV := hide n6; have AU := hide au; have AV := hide av; have hgl := block_lt n5.c0; obtain ⟨_,_,_,_,_⟩ := n5; obtain ⟨_,_,_,_,_⟩ := n6; clear ha hl fu au fv av; have B0 : Hid (Box (w.alloc (.cells #[.int .i64 17, .string ⟨x.toArray⟩, .int .i64 m, .int .i64 p, .slice (some ⟨g, o, none⟩) 2 c] 24)) w.heap.size (.mk 17 x m p [u, v]) (.slice (some ⟨g, o, none⟩) 2 c)) := Box.new w (.mk 17 x m p [u, v]) (.slice (some ⟨g, o, none⟩) 2 c) 24
  have qp : ¬ (9223372036854775807 < P.length + 2) := by omega
  have lU := hu.1; have HU := hide hu.2; clear hu; have lV := hv.1; have HV := hide (stx_app hv); clear hv
  go_enter Tryz.func45, Tryz.ntmps45
  have qq1 : ¬ (9223372036854775807 < P.length + 6) := by omega
  have qq2 : ¬ (9223372036854775807 < P.length + 6 + U.length) := by omega
  have qq3 : ¬ (9223372036854775807 < P.length + 6 + U.length + 4) := by omega
  have qq4 : ¬ (9223372036854775807 < P.length + 6 + U.length + 4 + V.length) := by omega
  have qq5 : ¬ (9223372036854775807 < P.length + 6 + U.length + 4 + V.length + P.length) := by omega
  have qq6 : ¬ (9223372036854775807 < P.length + 6 + U.length + 4 + V.length + P.length + 3) := by omega
  go_wp2_with fail; refine wp_region_held_drew (S := (fun w' => w'.cell? ⟨w.heap.size, 4, none⟩ = some (.slice (some ⟨g, o, none⟩) 2 c) ∧ Node5 w' g o u su ∧ Node5 w' g (o + 5) v sw)) (by kernel_rfl) ?_ (fun hHeld => ?_)
  · exact ⟨gb_cell (gb_drew (gb_refl _ none)) B0.out.c4, NU.out.kept (gb_drew (gb_alloc (gb_refl w none) _)), NV.out.kept (gb_drew (gb_alloc (gb_refl w none) _))⟩
  refine tk 0 (.string (⟨List.toArray P⟩ : ByteArray)) rfl (fun _ _ => by go_simp) hHeld ?_; simp only [Act.put, List.setIfInBounds_toArray]; refine tk 1 (.string ((⟨List.toArray P⟩ : ByteArray) ++ (⟨List.toArray [87, 72, 73, 76, 69, 32]⟩ : ByteArray))) rfl (fun _ _ => by go_simp) hHeld ?_; simp only [Act.put]; refine tk 2 (.pointer (some ⟨w.heap.size, 4, none⟩)) rfl (fun _ _ => by go_simp) hHeld ?_; simp only [Act.put]; refine tk 3 (.slice (some ⟨g, o, none⟩) 2 c) rfl (fun _ ⟨_,⟨_,_,_,_,_⟩,⟨_,_,_,_,_⟩⟩ => by go_simp) hHeld ?_; simp only [Act.put]; refine tk 4 (.pointer (some ⟨g, o, none⟩)) rfl (fun _ _ => by go_simp) hHeld ?_; simp only [Act.put]; refine tk 5 (nodeV u su) rfl (fun _ ⟨_,⟨_,_,_,_,_⟩,⟨_,_,_,_,_⟩⟩ => by go_simp) hHeld ?_; simp only [Act.put]; refine tk 9 (.pointer (some ⟨w.heap.size, 4, none⟩)) rfl (fun _ _ => by go_simp) hHeld ?_; simp only [Act.put]; refine tk 10 (.slice (some ⟨g, o, none⟩) 2 c) rfl (fun _ ⟨_,⟨_,_,_,_,_⟩,⟨_,_,_,_,_⟩⟩ => by go_simp) hHeld ?_; simp only [Act.put]; refine tk 11 (.pointer (some ⟨g, o + 5, none⟩)) rfl (fun _ _ => by go_simp) hHeld ?_; simp only [Act.put]; refine tk 12 (nodeV v sw) rfl (fun _ ⟨_,⟨_,_,_,_,_⟩,⟨_,_,_,_,_⟩⟩ => by go_simp) hHeld ?_; simp only [Act.put]; refine tk 13 (.string ((⟨List.toArray P⟩ : ByteArray) ++ (⟨List.toArray [32, 32]⟩ : ByteArray))) rfl (fun _ _ => by go_simp) hHeld ?_; simp only [Act.put]; refine tk 16 (.string (⟨List.toArray P⟩ : ByteArray)) rfl (fun _ _ => by go_simp) hHeld ?_; simp only [Act.put]
  refine rd 6 rfl fun KK hKK => ?_
  go_simp
  go_at_call 42; refine (HU.out _ _ (by exact gb_drew (gb_alloc ((gb_refl w none)) _)) (AU.out.kept (by exact gb_drew (gb_alloc ((gb_refl w none)) _)))).mono ?_; rintro e w1 ⟨rfl, hg1⟩; have G1 := hide (gb_trans (by exact gb_drew (gb_alloc ((gb_refl w none)) _)) hg1); have B1 := hide (B0.out.kept (gb_trans (by exact gb_drew (gb_refl _ none)) hg1)); clear hg1
  go_simp
  refine hKK.out _ _ ⟨B1.out.c4, NU.out.kept G1.out, NV.out.kept G1.out⟩ fun hHeld => ?_
  clear hKK KK; refine tk 7 (.string (((⟨List.toArray P⟩ : ByteArray) ++ (⟨List.toArray [87, 72, 73, 76, 69, 32]⟩ : ByteArray)) ++ (⟨List.toArray U⟩ : ByteArray))) rfl (fun _ _ => by go_simp) hHeld ?_; simp only [Act.put, List.setIfInBounds_toArray]; refine tk 8 (.string ((((⟨List.toArray P⟩ : ByteArray) ++ (⟨List.toArray [87, 72, 73, 76, 69, 32]⟩ : ByteArray)) ++ (⟨List.toArray U⟩ : ByteArray)) ++ (⟨List.toArray [32, 68, 79, 10]⟩ : ByteArray))) rfl (fun _ _ => by go_simp) hHeld ?_; simp only [Act.put]; refine rd 14 rfl fun KK hKK => ?_
  go_simp
  go_at_call 21; refine (HV.out _ _ G1.out (AV.out.kept G1.out)).mono ?_; rintro e w2 ⟨rfl, hg2⟩; have G2 := hide (gb_trans G1.out hg2); have B2 := hide (B1.out.kept (gb_trans (gb_refl w1 none) hg2)); clear hg2
  go_simp
  refine hKK.out _ _ ⟨B2.out.c4, NU.out.kept G2.out, NV.out.kept G2.out⟩ fun hHeld => ?_
  clear hKK KK; refine rd 15 rfl fun KK hKK => ?_
  go_simp
  refine hKK.out _ _ hHeld fun hHeld => ?_
  clear hKK KK; refine rd 17 rfl fun KK hKK => ?_
  go_simp
  refine hKK.out _ _ hHeld fun hHeld => ?_
  clear hKK KK; refine rd 18 rfl fun KK hKK => ?_
  go_simp
  refine hKK.out _ _ hHeld fun hHeld => ?_
  clear hKK KK; refine rd 19 rfl fun KK hKK => ?_
  go_simp
  refine hKK.out _ _ hHeld fun hHeld => ?_
  clear hKK KK; refine wpAnyH_done (by kernel_rfl) ?_ _; clear hHeld; go_wp2_with fail
  go_ret
  refine ⟨(show Ending.returned (.string (((((((⟨List.toArray P⟩ : ByteArray) ++ (⟨List.toArray [87, 72, 73, 76, 69, 32]⟩ : ByteArray)) ++ (⟨List.toArray U⟩ : ByteArray)) ++ (⟨List.toArray [32, 68, 79, 10]⟩ : ByteArray)) ++ (⟨List.toArray V⟩ : ByteArray)) ++ (⟨List.toArray P⟩ : ByteArray)) ++ (⟨List.toArray [69, 78, 68]⟩ : ByteArray))) = _ from ret_str ?_), G2.out⟩
  repeat rw [ba_app]
  try simp only [List.append_assoc]
  try rfl
theorem st18 (x : List UInt8) (m p : Int) (u : T) (v : T) (P : List UInt8) (sv : Value) (w : World) (ha : AT w (T.mk 18 x m p [u, v]).subs sv) (lP : P.length ≤ 1000) (U V : List UInt8) (hu : STx w u (P ++ [32, 32]) U) (hv : ETx w v V) :
    Calls Tryz.prog 45 #[.agg #[.int .i64 18, .string ⟨x.toArray⟩, .int .i64 m, .int .i64 p, sv], .string ⟨P.toArray⟩] w (Sy w (.string ⟨(P ++ ([82, 69, 80, 69, 65, 84, 10] ++ (U ++ (P ++ ([85, 78, 84, 73, 76, 32] ++ V))))).toArray⟩)) := by
  obtain ⟨g, o, c, u', su, v', sw, rfl, hn, hc, hl, n5, fu, au, n6, fv, av⟩ := ha.two rfl
  have hl2 : u = u' ∧ v = v' := by simpa [T.subs] using hl
  obtain ⟨rfl,rfl⟩ := hl2; have NU := hide n5; have NV := hide n6; have AU := hide au; have AV := hide av; have hgl := block_lt n5.c0; obtain ⟨_,_,_,_,_⟩ := n5; obtain ⟨_,_,_,_,_⟩ := n6; clear ha hl fu au fv av; have B0 : Hid (Box (w.alloc (.cells #[.int .i64 18, .string ⟨x.toArray⟩, .int .i64 m, .int .i64 p, .slice (some ⟨g, o, none⟩) 2 c] 24)) w.heap.size (.mk 18 x m p [u, v]) (.slice (some ⟨g, o, none⟩) 2 c)) := Box.new w (.mk 18 x m p [u, v]) (.slice (some ⟨g, o, none⟩) 2 c) 24
  have qp : ¬ (9223372036854775807 < P.length + 2) := by omega
  have lU := hu.1; have HU := hide (stx_app hu); clear hu; have lV := hv.1; have HV := hide hv.2; clear hv
  go_enter Tryz.func45, Tryz.ntmps45
  have qq1 : ¬ (9223372036854775807 < P.length + 7) := by omega
  have qq2 : ¬ (9223372036854775807 < P.length + 7 + U.length) := by omega
  have qq3 : ¬ (9223372036854775807 < P.length + 7 + U.length + P.length) := by omega
  have qq4 : ¬ (9223372036854775807 < P.length + 7 + U.length + P.length + 6) := by omega
  have qq5 : ¬ (9223372036854775807 < P.length + 7 + U.length + P.length + 6 + V.length) := by omega
  go_wp2_with fail; refine wp_region_held_drew (S := (fun w' => w'.cell? ⟨w.heap.size, 4, none⟩ = some (.slice (some ⟨g, o, none⟩) 2 c) ∧ Node5 w' g o u su ∧ Node5 w' g (o + 5) v sw)) (by kernel_rfl) ?_ (fun hHeld => ?_)
  · exact ⟨gb_cell (gb_drew (gb_refl _ none)) B0.out.c4, NU.out.kept (gb_drew (gb_alloc (gb_refl w none) _)), NV.out.kept (gb_drew (gb_alloc (gb_refl w none) _))⟩
  refine tk 0 (.string (⟨List.toArray P⟩ : ByteArray)) rfl (fun _ _ => by go_simp) hHeld ?_; simp only [Act.put, List.setIfInBounds_toArray]; refine tk 1 (.string ((⟨List.toArray P⟩ : ByteArray) ++ (⟨List.toArray [82, 69, 80, 69, 65, 84, 10]⟩ : ByteArray))) rfl (fun _ _ => by go_simp) hHeld ?_; simp only [Act.put]; refine tk 2 (.pointer (some ⟨w.heap.size, 4, none⟩)) rfl (fun _ _ => by go_simp) hHeld ?_; simp only [Act.put]; refine tk 3 (.slice (some ⟨g, o, none⟩) 2 c) rfl (fun _ ⟨_,⟨_,_,_,_,_⟩,⟨_,_,_,_,_⟩⟩ => by go_simp) hHeld ?_; simp only [Act.put]; refine tk 4 (.pointer (some ⟨g, o, none⟩)) rfl (fun _ _ => by go_simp) hHeld ?_; simp only [Act.put]; refine tk 5 (nodeV u su) rfl (fun _ ⟨_,⟨_,_,_,_,_⟩,⟨_,_,_,_,_⟩⟩ => by go_simp) hHeld ?_; simp only [Act.put]; refine tk 6 (.string ((⟨List.toArray P⟩ : ByteArray) ++ (⟨List.toArray [32, 32]⟩ : ByteArray))) rfl (fun _ _ => by go_simp) hHeld ?_; simp only [Act.put]; refine tk 9 (.string (⟨List.toArray P⟩ : ByteArray)) rfl (fun _ _ => by go_simp) hHeld ?_; simp only [Act.put]; refine tk 12 (.pointer (some ⟨w.heap.size, 4, none⟩)) rfl (fun _ _ => by go_simp) hHeld ?_; simp only [Act.put]; refine tk 13 (.slice (some ⟨g, o, none⟩) 2 c) rfl (fun _ ⟨_,⟨_,_,_,_,_⟩,⟨_,_,_,_,_⟩⟩ => by go_simp) hHeld ?_; simp only [Act.put]; refine tk 14 (.pointer (some ⟨g, o + 5, none⟩)) rfl (fun _ _ => by go_simp) hHeld ?_; simp only [Act.put]; refine tk 15 (nodeV v sw) rfl (fun _ ⟨_,⟨_,_,_,_,_⟩,⟨_,_,_,_,_⟩⟩ => by go_simp) hHeld ?_; simp only [Act.put]
  refine rd 7 rfl fun KK hKK => ?_
  go_simp
  go_at_call 21; refine (HU.out _ _ (by exact gb_drew (gb_alloc ((gb_refl w none)) _)) (AU.out.kept (by exact gb_drew (gb_alloc ((gb_refl w none)) _)))).mono ?_; rintro e w1 ⟨rfl, hg1⟩; have G1 := hide (gb_trans (by exact gb_drew (gb_alloc ((gb_refl w none)) _)) hg1); have B1 := hide (B0.out.kept (gb_trans (by exact gb_drew (gb_refl _ none)) hg1)); clear hg1
  go_simp
  refine hKK.out _ _ ⟨B1.out.c4, NU.out.kept G1.out, NV.out.kept G1.out⟩ fun hHeld => ?_
  clear hKK KK; refine tk 8 (.string (((⟨List.toArray P⟩ : ByteArray) ++ (⟨List.toArray [82, 69, 80, 69, 65, 84, 10]⟩ : ByteArray)) ++ (⟨List.toArray U⟩ : ByteArray))) rfl (fun _ _ => by go_simp) hHeld ?_; simp only [Act.put, List.setIfInBounds_toArray]; refine tk 10 (.string ((((⟨List.toArray P⟩ : ByteArray) ++ (⟨List.toArray [82, 69, 80, 69, 65, 84, 10]⟩ : ByteArray)) ++ (⟨List.toArray U⟩ : ByteArray)) ++ (⟨List.toArray P⟩ : ByteArray))) rfl (fun _ _ => by go_simp) hHeld ?_; simp only [Act.put]; refine tk 11 (.string (((((⟨List.toArray P⟩ : ByteArray) ++ (⟨List.toArray [82, 69, 80, 69, 65, 84, 10]⟩ : ByteArray)) ++ (⟨List.toArray U⟩ : ByteArray)) ++ (⟨List.toArray P⟩ : ByteArray)) ++ (⟨List.toArray [85, 78, 84, 73, 76, 32]⟩ : ByteArray))) rfl (fun _ _ => by go_simp) hHeld ?_; simp only [Act.put]; refine rd 16 rfl fun KK hKK => ?_
  go_simp
  go_at_call 42; refine (HV.out _ _ G1.out (AV.out.kept G1.out)).mono ?_; rintro e w2 ⟨rfl, hg2⟩; have G2 := hide (gb_trans G1.out hg2); have B2 := hide (B1.out.kept (gb_trans (gb_refl w1 none) hg2)); clear hg2
  go_simp
  refine hKK.out _ _ ⟨B2.out.c4, NU.out.kept G2.out, NV.out.kept G2.out⟩ fun hHeld => ?_
  clear hKK KK; refine rd 17 rfl fun KK hKK => ?_
  go_simp
  refine hKK.out _ _ hHeld fun hHeld => ?_
  clear hKK KK; refine rd 18 rfl fun KK hKK => ?_
  go_simp
  refine hKK.out _ _ hHeld fun hHeld => ?_
  clear hKK KK; refine wpAnyH_done (by kernel_rfl) ?_ _; clear hHeld; go_wp2_with fail
  go_ret
  refine ⟨(show Ending.returned (.string ((((((⟨List.toArray P⟩ : ByteArray) ++ (⟨List.toArray [82, 69, 80, 69, 65, 84, 10]⟩ : ByteArray)) ++ (⟨List.toArray U⟩ : ByteArray)) ++ (⟨List.toArray P⟩ : ByteArray)) ++ (⟨List.toArray [85, 78, 84, 73, 76, 32]⟩ : ByteArray)) ++ (⟨List.toArray V⟩ : ByteArray))) = _ from ret_str ?_), G2.out⟩
  repeat rw [ba_app]
  try simp only [List.append_assoc]
  try rfl
theorem st15n (x : List UInt8) (m p : Int) (u : T) (P : List UInt8) (sv : Value) (w : World) (ha : AT w (T.mk 15 x m p [u]).subs sv) (lP : P.length ≤ 1000) (U : List UInt8) (hu : ETx w u U) :
    Calls Tryz.prog 45 #[.agg #[.int .i64 15, .string ⟨x.toArray⟩, .int .i64 m, .int .i64 p, sv], .string ⟨P.toArray⟩] w (Sy w (.string ⟨(P ++ U).toArray⟩)) := by
  obtain ⟨g, o, c, u', su, rfl, hn, hc, hl, n5, fu, au⟩ := ha.one rfl
  obtain rfl : u = u' := by simpa [T.subs] using hl
  have NU := hide n5; have AU := hide au; have hgl := block_lt n5.c0; obtain ⟨_,_,_,_,_⟩ := n5; clear ha hl fu au; have B0 : Hid (Box (w.alloc (.cells #[.int .i64 15, .string ⟨x.toArray⟩, .int .i64 m, .int .i64 p, .slice (some ⟨g, o, none⟩) 1 c] 24)) w.heap.size (.mk 15 x m p [u]) (.slice (some ⟨g, o, none⟩) 1 c)) := Box.new w (.mk 15 x m p [u]) (.slice (some ⟨g, o, none⟩) 1 c) 24
  have qp : ¬ (9223372036854775807 < P.length + 2) := by omega
  have lU := hu.1; have HU := hide hu.2; clear hu
  have qq1 : ¬ (9223372036854775807 < P.length + U.length) := by omega
  go_enter Tryz.func45, Tryz.ntmps45
  go_wp2_with fail; go_at_call 42; refine (HU.out _ _ (by exact gb_alloc ((gb_refl w none)) _) (AU.out.kept (by exact gb_alloc ((gb_refl w none)) _))).mono ?_; rintro e w1 ⟨rfl, hg1⟩; have G1 := hide (gb_trans (by exact gb_alloc ((gb_refl w none)) _) hg1); have B1 := hide (B0.out.kept (gb_trans (gb_refl _ none) hg1)); obtain ⟨_,_,_,_,_⟩ := B1.out; clear hg1; go_wp2_with fail
  go_ret
  refine ⟨(show Ending.returned (.string ((⟨List.toArray P⟩ : ByteArray) ++ (⟨List.toArray U⟩ : ByteArray))) = _ from ret_str ?_), G1.out⟩
  repeat rw [ba_app]
  try simp only [List.append_assoc]
  try rfl
theorem st19n (x : List UInt8) (m p : Int) (P : List UInt8) (sv : Value) (w : World) (ha : AT w (T.mk 19 x m p []).subs sv) (lP : P.length ≤ 1000) :
    Calls Tryz.prog 45 #[.agg #[.int .i64 19, .string ⟨x.toArray⟩, .int .i64 m, .int .i64 p, sv], .string ⟨P.toArray⟩] w (Sy w (.string ⟨(P ++ [82, 69, 84, 85, 82, 78]).toArray⟩)) := by
  obtain ⟨a,c,rfl,_,hl⟩ := ha.zero rfl; clear ha hl; have B0 : Hid (Box (w.alloc (.cells #[.int .i64 19, .string ⟨x.toArray⟩, .int .i64 m, .int .i64 p, .slice a 0 c] 24)) w.heap.size (.mk 19 x m p []) (.slice a 0 c)) := Box.new w (.mk 19 x m p []) (.slice a 0 c) 24
  have qp : ¬ (9223372036854775807 < P.length + 2) := by omega
  have qq1 : ¬ (9223372036854775807 < P.length + 6) := by omega
  go_enter Tryz.func45, Tryz.ntmps45
  go_wp2_with fail
  go_ret
  refine ⟨(show Ending.returned (.string ((⟨List.toArray P⟩ : ByteArray) ++ (⟨List.toArray [82, 69, 84, 85, 82, 78]⟩ : ByteArray))) = _ from ret_str ?_), (by exact gb_alloc ((gb_refl w none)) _)⟩
  repeat rw [ba_app]
  try simp only [List.append_assoc]
  try rfl
theorem st19s (x : List UInt8) (m p : Int) (u : T) (P : List UInt8) (sv : Value) (w : World) (ha : AT w (T.mk 19 x m p [u]).subs sv) (lP : P.length ≤ 1000) (U : List UInt8) (hu : ETx w u U) :
    Calls Tryz.prog 45 #[.agg #[.int .i64 19, .string ⟨x.toArray⟩, .int .i64 m, .int .i64 p, sv], .string ⟨P.toArray⟩] w (Sy w (.string ⟨(P ++ ([82, 69, 84, 85, 82, 78, 32] ++ U)).toArray⟩)) := by
  obtain ⟨g, o, c, u', su, rfl, hn, hc, hl, n5, fu, au⟩ := ha.one rfl
  obtain rfl : u = u' := by simpa [T.subs] using hl
  have NU := hide n5; have AU := hide au; have hgl := block_lt n5.c0; obtain ⟨_,_,_,_,_⟩ := n5; clear ha hl fu au; have B0 : Hid (Box (w.alloc (.cells #[.int .i64 19, .string ⟨x.toArray⟩, .int .i64 m, .int .i64 p, .slice (some ⟨g, o, none⟩) 1 c] 24)) w.heap.size (.mk 19 x m p [u]) (.slice (some ⟨g, o, none⟩) 1 c)) := Box.new w (.mk 19 x m p [u]) (.slice (some ⟨g, o, none⟩) 1 c) 24
  have qp : ¬ (9223372036854775807 < P.length + 2) := by omega
  have lU := hu.1; have HU := hide hu.2; clear hu
  have qq1 : ¬ (9223372036854775807 < P.length + 7) := by omega
  have qq2 : ¬ (9223372036854775807 < P.length + 7 + U.length) := by omega
  go_enter Tryz.func45, Tryz.ntmps45
  go_wp2_with fail; go_at_call 42; refine (HU.out _ _ (by exact gb_alloc ((gb_refl w none)) _) (AU.out.kept (by exact gb_alloc ((gb_refl w none)) _))).mono ?_; rintro e w1 ⟨rfl, hg1⟩; have G1 := hide (gb_trans (by exact gb_alloc ((gb_refl w none)) _) hg1); have B1 := hide (B0.out.kept (gb_trans (gb_refl _ none) hg1)); obtain ⟨_,_,_,_,_⟩ := B1.out; clear hg1; go_wp2_with fail
  go_ret
  refine ⟨(show Ending.returned (.string (((⟨List.toArray P⟩ : ByteArray) ++ (⟨List.toArray [82, 69, 84, 85, 82, 78, 32]⟩ : ByteArray)) ++ (⟨List.toArray U⟩ : ByteArray))) = _ from ret_str ?_), G1.out⟩
  repeat rw [ba_app]
  try simp only [List.append_assoc]
  try rfl
end Go.Proofs.YtapfecciakijhaaGreatDoor

/- The document's texts: acts one behind the other; calls. -/
namespace Go.Proofs.YtapfecciakijhaaGreatDoor
open Go.RowKit
set_option maxHeartbeats 4000000
set_option maxRecDepth 1000000

/-- stmtText answers E for an act and this pad, wherever its parts lie. -/
def CTx (w : World) (t : T) (P E : List UInt8) : Prop := E.length ≤ 5000000 ∧ ∀ w' sv, w.grownBy w' none → AT w' t.subs sv → Calls Tryz.prog 45 #[nodeV t sv, .string ⟨P.toArray⟩] w' (Sy w' (.string ⟨E.toArray⟩))
def stmtsP (tx : T → List UInt8) (l : List T) : List UInt8 := flatTx (fun t => tx t ++ ([59] ++ [10])) l
theorem stmtsP_take {tx : T → List UInt8} {l : List T} {i : Nat} {u : T} (h : l[i]? = some u) : stmtsP tx (l.take (i + 1)) = stmtsP tx (l.take i) ++ (tx u ++ ([59] ++ [10])) := by
  unfold stmtsP
  rw [List.take_add_one, h, flatTx_append]
  simp [flatTx]
theorem stmtsP_le (tx : T → List UInt8) (l : List T) (i : Nat) : (stmtsP tx (l.take i)).length ≤ (stmtsP tx l).length := by
  have h : stmtsP tx (l.take i ++ l.drop i) = stmtsP tx (l.take i) ++ stmtsP tx (l.drop i) := flatTx_append _ _ _; rw [List.take_append_drop] at h; rw [h, List.length_append]
  omega
/-- Acts as the document lays them: each, a semicolon behind all but the last, a newline. -/
def stmtsL (tx : T → List UInt8) : List T → List UInt8
  | [] => []
  | [t] => tx t ++ [10]
  | t :: l => tx t ++ ([59] ++ ([10] ++ stmtsL tx l))
theorem stmtsL_snoc (tx : T → List UInt8) : ∀ (l : List T) (t : T), stmtsL tx (l ++ [t]) = (if l.isEmpty then [] else stmtsP tx l) ++ (tx t ++ [10])
  | [], t => rfl
  | [a], t => by simp [stmtsL, stmtsP, flatTx]
  | a :: b :: l, t => by
    have ih := stmtsL_snoc tx (b :: l) t
    have e : stmtsL tx (a :: (b :: l ++ [t])) = tx a ++ ([59] ++ ([10] ++ stmtsL tx (b :: l ++ [t]))) := rfl
    rw [List.cons_append, e, ih]
    simp [stmtsP, flatTx]

theorem stmtsText_of (kd : Int) (x : List UInt8) (m p : Int) (l : List T) (P : List UInt8) (sv : Value) (tx : T → List UInt8) (w : World) (ha : AT w (T.mk kd x m p l).subs sv) (he : ∀ v ∈ l, CTx w v P (tx v)) (hlen : (stmtsP tx l).length ≤ 4000000) :
    Calls Tryz.prog 21 #[.agg #[.int .i64 kd, .string ⟨x.toArray⟩, .int .i64 m, .int .i64 p, sv], .string ⟨P.toArray⟩] w (Sy w (.string ⟨(stmtsL tx l).toArray⟩)) := by
  have HA := hide ha; have HE := hide he; obtain ⟨a,n,c,rfl,_,_,hl⟩ := ha.any
  change l.length = n at hl
  subst hl; have B0 : Hid (Box (w.alloc (.cells #[.int .i64 kd, .string ⟨x.toArray⟩, .int .i64 m, .int .i64 p, .slice a l.length c] 24)) w.heap.size (.mk kd x m p l) (.slice a l.length c)) := Box.new w (.mk kd x m p l) (.slice a l.length c) 24; clear ha he
  go_enter Tryz.func21, Tryz.ntmps21
  go_wp2_with fail
  go_loopw [5, 6] (fun sv iv wr => ∃ (i : Nat) (Y : List UInt8), i ≤ l.length ∧ iv = .int .i64 ↑i ∧ sv = .string ⟨Y.toArray⟩ ∧ Hid (if i < l.length then Y = stmtsP tx (l.take i) else Y = stmtsL tx l) ∧ Hid (w.grownBy wr none) ∧ Hid (Box wr w.heap.size (.mk kd x m p l) (.slice a l.length c))) (fun _ iv _ => l.length - (intOf iv).toNat)
  case atStart =>
    refine ⟨0, [], Nat.zero_le _, rfl, rfl, ?_, gb_alloc (gb_refl w none) _, B0.out⟩
    show if _ then _ else _
    split
    · rfl
    · obtain rfl : l = [] := List.eq_nil_of_length_eq_zero (by omega)
      rfl
  case round =>
    obtain ⟨i,Y,_,rfl,rfl,HY,G1,B1⟩ := hrel; obtain ⟨_,_,_,_,_⟩ := B1.out
    by_cases hlt : i < l.length
    · have HY2 : Hid (Y = stmtsP tx (l.take i)) := by have := HY.out; rw [if_pos hlt] at this; exact this
      have hY : Y.length ≤ 4000000 := by
        rw [HY2.out]; have := stmtsP_le tx l i
        omega
      obtain ⟨u, hu⟩ : ∃ u, l[i]? = some u := ⟨_, List.getElem?_eq_getElem hlt⟩; obtain ⟨_,_,_,e1,n5,fu,au⟩ := HA.out.node i u hu; cases e1; obtain ⟨_,_,_,_,_⟩ := n5.kept G1.out; have AU := hide au; have HU0 := hide hu; obtain ⟨_,huc⟩ := HE.out u (List.mem_of_getElem? hu); have HU := hide huc; have HT := hide (stmtsP_take (tx := tx) hu); clear hu fu au n5 huc HY
      have qa : ¬ (9223372036854775807 < Y.length + (tx u).length) := by omega
      have qb : ¬ (9223372036854775807 < Y.length + (tx u).length + 1) := by omega
      have qc : ¬ (9223372036854775807 < Y.length + (tx u).length + 1 + 1) := by omega
      by_cases hlast : i + 1 < l.length
      · have h1 : (i : Int) < (l.length : Int) - 1 := by omega
        go_wp2_with fail; go_at_call 45; refine (HU.out _ _ G1.out (AU.out.kept G1.out)).mono ?_; rintro e w2 ⟨rfl, g2⟩; have G2 := hide (gb_trans G1.out g2); have B2 := hide (B1.out.kept (gb_trans (gb_refl wr none) g2)); obtain ⟨e0,e1,e2,e3,e4⟩ := B2.out; clear g2; go_wp2_with fail; refine ⟨⟨i + 1, Y ++ tx u ++ [59] ++ [10], by omega, by go_num, strA_eq (by repeat rw [ba_app]), ?_, G2, B2⟩, by simp [intOf]; omega⟩
        show if _ then _ else _
        rw [if_pos hlast, HT.out, HY2.out]; simp only [List.append_assoc]
      · have h1 : ¬ (i : Int) < (l.length : Int) - 1 := by omega
        go_wp2_with fail; go_at_call 45; refine (HU.out _ _ G1.out (AU.out.kept G1.out)).mono ?_; rintro e w2 ⟨rfl, g2⟩; have G2 := hide (gb_trans G1.out g2); have B2 := hide (B1.out.kept (gb_trans (gb_refl wr none) g2)); obtain ⟨e0,e1,e2,e3,e4⟩ := B2.out; clear g2; go_wp2_with fail; refine ⟨⟨i + 1, Y ++ tx u ++ [10], by omega, by go_num, strA_eq (by repeat rw [ba_app]), ?_, G2, B2⟩, by simp [intOf]; omega⟩
        show if _ then _ else _
        rw [if_neg hlast, HY2.out]
        have e9 : l = l.take i ++ [u] := by
          have h9 := List.take_add_one (l := l) (i := i); rw [HU0.out, List.take_of_length_le (by omega)] at h9
          simpa using h9
        have h8 := stmtsL_snoc tx (l.take i) u; rw [← e9] at h8; rw [h8]
        split
        · rename_i hE
          rw [List.isEmpty_iff] at hE; rw [hE]
          simp [stmtsP, flatTx]
        · simp only [List.append_assoc]
    · have HX : Hid (Y = stmtsL tx l) := by have := HY.out; rw [if_neg hlt] at this; exact this
      clear HY; go_wp2_with fail
      go_ret
      exact ⟨ret_str (by rw [HX.out]), G1.out⟩
theorem st15s (x : List UInt8) (m p : Int) (u : T) (us : List T) (P : List UInt8) (sv : Value) (w : World) (ha : AT w (T.mk 15 x m p (u :: us)).subs sv) (lP : P.length ≤ 1000) (U : List UInt8) (tx : T → List UInt8) (hu : ETx w u U) (he : ∀ v ∈ us, ETx w v (tx v)) (hus : 0 < us.length) (hlen : (sepTx [44, 32] (us.map tx)).length ≤ 900000) :
    Calls Tryz.prog 45 #[.agg #[.int .i64 15, .string ⟨x.toArray⟩, .int .i64 m, .int .i64 p, sv], .string ⟨P.toArray⟩] w (Sy w (.string ⟨(P ++ (U ++ ([40] ++ (sepTx [44, 32] (us.map tx) ++ [41])))).toArray⟩)) := by
  obtain ⟨g,o,c,_,rfl,_,_,n5,fu,au,ar⟩ := AT.cons ha; have NU := hide n5; have AU := hide au; have AR := hide ar; have hgl := block_lt n5.c0
  have HAS : Hid (∀ w' sl, w.grownBy w' none → AT w' us sl → Calls Tryz.prog 74 #[sl] w' (Sy w' (.string ⟨([40] ++ (sepTx [44, 32] (us.map tx) ++ [41])).toArray⟩))) := fun w' sl hg hal => argsText_of us sl tx w' hal (fun v hv => ⟨(he v hv).1, fun w'' s2 hg2 ha2 => (he v hv).2 w'' s2 (gb_trans hg hg2) ha2⟩) hlen
  have lA : ([40] ++ (sepTx [44, 32] (us.map tx) ++ [41])).length ≤ 900002 := by simp only [List.length_append, List.length_cons, List.length_nil]; omega
  generalize [40] ++ (sepTx [44, 32] (us.map tx) ++ [41]) = Z at *
  obtain ⟨_,_,_,_,_⟩ := n5; obtain ⟨_,hu9⟩ := hu; have HU := hide hu9; clear ha fu au ar he hu9 hlen
  have hs1 : (1 : Int) ≤ (us.length : Int) + 1 := by omega
  have hs2 : ¬ c = 1 := by omega
  have hs3 : (1 : Int) < (us.length : Int) + 1 := by omega
  have hs4 : 1 < c := by omega
  have qp : ¬ (9223372036854775807 < P.length + 2) := by omega
  have qq1 : ¬ (9223372036854775807 < P.length + U.length) := by omega
  have qq2 : ¬ (9223372036854775807 < P.length + U.length + Z.length) := by omega
  have B0 : Hid (Box (w.alloc (.cells #[.int .i64 15, .string ⟨x.toArray⟩, .int .i64 m, .int .i64 p, .slice (some ⟨g, o, none⟩) (us.length + 1) c] 24)) w.heap.size (.mk 15 x m p (u :: us)) (.slice (some ⟨g, o, none⟩) (us.length + 1) c)) := Box.new w (.mk 15 x m p (u :: us)) (.slice (some ⟨g, o, none⟩) (us.length + 1) c) 24
  go_enter Tryz.func45, Tryz.ntmps45
  go_wp2_with fail; go_at_call 42; refine (HU.out _ _ (by exact gb_alloc ((gb_refl w none)) _) (AU.out.kept (by exact gb_alloc ((gb_refl w none)) _))).mono ?_; rintro e w1 ⟨rfl, hg1⟩; have G1 := hide (gb_trans (by exact gb_alloc ((gb_refl w none)) _) hg1); have B1 := hide (B0.out.kept (gb_trans (gb_refl _ none) hg1)); obtain ⟨_,_,_,_,_⟩ := B1.out; clear hg1; go_wp2_with fail; go_at_call 74; refine (HAS.out _ _ G1.out (AR.out.kept G1.out)).mono ?_; rintro e w2 ⟨rfl, hg2⟩; have G2 := hide (gb_trans G1.out hg2); have B2 := hide (B1.out.kept (gb_trans (gb_refl w1 none) hg2)); obtain ⟨_,_,_,_,_⟩ := B2.out; clear hg2; go_wp2_with fail
  go_ret
  refine ⟨(show Ending.returned (.string (((⟨List.toArray P⟩ : ByteArray) ++ (⟨List.toArray U⟩ : ByteArray)) ++ (⟨List.toArray Z⟩ : ByteArray))) = _ from ret_str ?_), G2.out⟩
  repeat rw [ba_app]
  try simp only [List.append_assoc]
  try rfl
end Go.Proofs.YtapfecciakijhaaGreatDoor
