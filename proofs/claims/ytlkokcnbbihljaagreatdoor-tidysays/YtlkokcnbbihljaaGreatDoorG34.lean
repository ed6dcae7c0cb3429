/- The program's judge of shapes: procedures. -/
import Derived.Test.YtlkokcnbbihljaaGreatDoorG21
import Derived.Test.YtlkokcnbbihljaaGreatDoorG23
namespace Go.Proofs.YtlkokcnbbihljaaGreatDoor
open Go.RowKit Go.Maps Go.WideMaps Go.WideElems

theorem RL.new4 {jb : Nat} {v : Value} {r0 r1 r2 r3 : Rule} {x0 x1 x2 x3 : Value} (w : World) (ty : TypeId) (h0 : RV (w.alloc (.cells #[x0, x1, x2, x3] ty)) jb (free jb v) r0 x0) (h1 : RV (w.alloc (.cells #[x0, x1, x2, x3] ty)) jb (free jb v) r1 x1) (h2 : RV (w.alloc (.cells #[x0, x1, x2, x3] ty)) jb (free jb v) r2 x2) (h3 : RV (w.alloc (.cells #[x0, x1, x2, x3] ty)) jb (free jb v) r3 x3) (hj : jb < w.heap.size) (hv : ∀ b, v.ownBlock = some b → b < w.heap.size) :
    RL (w.alloc (.cells #[x0, x1, x2, x3] ty)) jb v [r0, r1, r2, r3] (.slice (some ⟨w.heap.size, 0, none⟩) 4 4) :=
  .inr ⟨w.heap.size, rfl, by simp, ⟨by omega, fun e => by have := hv _ e; omega⟩, fun i z hi => by
    match i, hi with
    | 0, hi => cases hi; exact ⟨x0, by rw [World.cell?_alloc_at _ _ _ _ rfl]; rfl, h0⟩
    | 1, hi => cases hi; exact ⟨x1, by rw [World.cell?_alloc_at _ _ _ _ rfl]; rfl, h1⟩
    | 2, hi => cases hi; exact ⟨x2, by rw [World.cell?_alloc_at _ _ _ _ rfl]; rfl, h2⟩
    | 3, hi => cases hi; exact ⟨x3, by rw [World.cell?_alloc_at _ _ _ _ rfl]; rfl, h3⟩⟩
set_option maxRecDepth 1000000 in
set_option maxHeartbeats 8000000 in
theorem jprocedure7 (w0 : World) (jb lb ob : Nat) (w : World) (l : List (T × Rule)) (v : Value) (x : List UInt8) (m p : Int) (ts : List T) (sv : Value) (h : JS w0 jb lb ob w l v) (hlen : l.length + ts.length ≤ 20000) (hf : Fits (.mk 7 x m p ts)) (ha : AT w0 (T.mk 7 x m p ts).subs sv) :
    Calls Tryz.prog 85 #[ptr jb, .agg #[.int .i64 7, .string ⟨x.toArray⟩, .int .i64 m, .int .i64 p, sv]] w (JR w0 jb lb ob l v w .procedure (.mk 7 x m p ts)) := by
  have HJ := hide h
  have HF := hide hf
  have HA := hide ha
  have hjl := h.lt
  have HV : Hid (∀ b, v.ownBlock = some b → b < w.heap.size) := fun b hb => (h.room hb).2
  obtain ⟨a, n, c, rfl, hn, hc, hl⟩ := ha.any
  change ts.length = n at hl
  subst hl
  have HS : Hid (stepR .procedure (.mk 7 x m p ts) = onlyIf (headB (.mk 7 x m p ts) 7 true 1 4) (zipR ts [(.list (.declared 8 1 .typeName)), .typeNameOrNone, (.list (.declared 6 0 .typeName)), (.list .act)])) := rfl
  cases h0 : (nameB (T.mk 7 x m p ts).name && withinB (.mk 7 x m p ts) 1)
  · have HN : Hid (stepR .procedure (.mk 7 x m p ts) = none) := HS.out.trans (onlyIf_no (by rw [head_named (t := (.mk 7 x m p ts)) (k := 7) rfl, h0]; rfl))
    clear h hf ha
    go_enter Tryz.func85, Tryz.ntmps85
    go_wp2_with fail
    have B0 : Hid (Box (w.alloc (.cells #[.int .i64 7, .string ⟨x.toArray⟩, .int .i64 m, .int .i64 p, .slice a ts.length c] 24)) w.heap.size (.mk 7 x m p ts) (.slice a ts.length c)) := Box.new w (.mk 7 x m p ts) (.slice a ts.length c) 24
    refine wp_region_any (by kernel_rfl) ?_
    change wpAny _ _ _ _ _ _ _ (World.drew _)
    refine wpAny_ready (rs := [0]) (by kernel_rfl) (by simp) ?_
    refine AllReady.cons rfl (fun K hK => ?_) AllReady.nil
    go_simp
    refine hK _ _ ?_
    clear hK K
    refine wpAny_ready (rs := [1]) (by kernel_rfl) (by simp) ?_
    refine AllReady.cons rfl (fun K hK => ?_) AllReady.nil
    go_simp
    refine hK _ _ ?_
    clear hK K
    refine wpAny_ready (rs := [2]) (by kernel_rfl) (by simp) ?_
    refine AllReady.cons rfl (fun K hK => ?_) AllReady.nil
    go_simp
    refine hK _ _ ?_
    clear hK K
    refine wpAny_ready (rs := [3]) (by kernel_rfl) (by simp) ?_
    refine AllReady.cons rfl (fun K hK => ?_) AllReady.nil
    go_simp
    refine hK _ _ ?_
    clear hK K
    refine wpAny_take (i := 4) (v := ptr jb) rfl (by kernel_rfl) (by kernel_rfl) (by kernel_rfl) (fun _ _ _ h => h) (Or.inl ⟨by kernel_rfl, fun w => by go_simp⟩) ?_
    simp only [Act.put, List.setIfInBounds_toArray]
    refine wpAny_ready (rs := [5]) (by kernel_rfl) (by simp) ?_
    refine AllReady.cons rfl (fun K hK => ?_) AllReady.nil
    go_simp
    refine hK _ _ ?_
    clear hK K
    refine wpAny_ready (rs := [6]) (by kernel_rfl) (by simp) ?_
    refine AllReady.cons rfl (fun K hK => ?_) AllReady.nil
    go_simp
    go_at_call 77
    refine (named_any jb lb (.mk 7 x m p ts) _ 1 _ (HJ.out.grown (by repeat (first | with_reducible exact gb_refl w none | with_reducible refine gb_put ?_ (by omega) _ _ | with_reducible refine gb_alloc ?_ _ | with_reducible refine gb_drewN ?_ _ | with_reducible refine gb_drew ?_))).c0 (HJ.out.grown (by repeat (first | with_reducible exact gb_refl w none | with_reducible refine gb_put ?_ (by omega) _ _ | with_reducible refine gb_alloc ?_ _ | with_reducible refine gb_drewN ?_ _ | with_reducible refine gb_drew ?_))).lex HF.out ⟨_, _, _, rfl⟩).mono ?_
    rintro e w1 ⟨rfl, hg1⟩
    rw [h0]
    have GW1 : Hid (w.grownBy w1 none) := gb_trans (by repeat (first | with_reducible exact gb_refl w none | with_reducible refine gb_put ?_ (by omega) _ _ | with_reducible refine gb_alloc ?_ _ | with_reducible refine gb_drewN ?_ _ | with_reducible refine gb_drew ?_)) hg1
    have B1 := hide (B0.out.kept (gb_trans (by repeat (first | with_reducible exact gb_refl (w.alloc _) none | with_reducible refine gb_put ?_ (by omega) _ _ | with_reducible refine gb_alloc ?_ _ | with_reducible refine gb_drewN ?_ _ | with_reducible refine gb_drew ?_)) hg1))
    obtain ⟨b0_1, b1_1, b2_1, b3_1, b4_1⟩ := B1.out
    have hsz1 := GW1.out.size
    have hbl1 := block_lt b0_1
    clear hg1
    refine hK _ _ ?_
    clear hK K
    refine wpAny_ready (rs := [7]) (by kernel_rfl) (by simp) ?_
    refine AllReady.cons rfl (fun K hK => ?_) AllReady.nil
    go_simp
    refine hK _ _ ?_
    clear hK K
    refine wpAny_ready (rs := [8]) (by kernel_rfl) (by simp) ?_
    refine AllReady.cons rfl (fun K hK => ?_) AllReady.nil
    go_simp
    refine hK _ _ ?_
    clear hK K
    refine wpAny_take (i := 9) (v := undef) rfl (by kernel_rfl) (by kernel_rfl) (by kernel_rfl) (fun _ _ _ h => h) (Or.inr ⟨by kernel_rfl, rfl⟩) ?_
    simp only [Act.put, List.setIfInBounds_toArray]
    refine wpAny_take (i := 10) (v := undef) rfl (by kernel_rfl) (by kernel_rfl) (by kernel_rfl) (fun _ _ _ h => h) (Or.inr ⟨by kernel_rfl, rfl⟩) ?_
    simp only [Act.put]
    refine wpAny_take (i := 11) (v := undef) rfl (by kernel_rfl) (by kernel_rfl) (by kernel_rfl) (fun _ _ _ h => h) (Or.inr ⟨by kernel_rfl, rfl⟩) ?_
    simp only [Act.put]
    refine wpAny_take (i := 12) (v := undef) rfl (by kernel_rfl) (by kernel_rfl) (by kernel_rfl) (fun _ _ _ h => h) (Or.inr ⟨by kernel_rfl, rfl⟩) ?_
    simp only [Act.put]
    refine wpAny_take (i := 13) (v := undef) rfl (by kernel_rfl) (by kernel_rfl) (by kernel_rfl) (fun _ _ _ h => h) (Or.inr ⟨by kernel_rfl, rfl⟩) ?_
    simp only [Act.put]
    refine wpAny_take (i := 14) (v := undef) rfl (by kernel_rfl) (by kernel_rfl) (by kernel_rfl) (fun _ _ _ h => h) (Or.inr ⟨by kernel_rfl, rfl⟩) ?_
    simp only [Act.put]
    refine wpAny_take (i := 15) (v := undef) rfl (by kernel_rfl) (by kernel_rfl) (by kernel_rfl) (fun _ _ _ h => h) (Or.inr ⟨by kernel_rfl, rfl⟩) ?_
    simp only [Act.put]
    refine wpAny_take (i := 16) (v := undef) rfl (by kernel_rfl) (by kernel_rfl) (by kernel_rfl) (fun _ _ _ h => h) (Or.inr ⟨by kernel_rfl, rfl⟩) ?_
    simp only [Act.put]
    refine wpAny_take (i := 17) (v := undef) rfl (by kernel_rfl) (by kernel_rfl) (by kernel_rfl) (fun _ _ _ h => h) (Or.inr ⟨by kernel_rfl, rfl⟩) ?_
    simp only [Act.put]
    refine wpAny_take (i := 18) (v := undef) rfl (by kernel_rfl) (by kernel_rfl) (by kernel_rfl) (fun _ _ _ h => h) (Or.inr ⟨by kernel_rfl, rfl⟩) ?_
    simp only [Act.put]
    refine wpAny_take (i := 19) (v := undef) rfl (by kernel_rfl) (by kernel_rfl) (by kernel_rfl) (fun _ _ _ h => h) (Or.inr ⟨by kernel_rfl, rfl⟩) ?_
    simp only [Act.put]
    refine wpAny_take (i := 20) (v := undef) rfl (by kernel_rfl) (by kernel_rfl) (by kernel_rfl) (fun _ _ _ h => h) (Or.inr ⟨by kernel_rfl, rfl⟩) ?_
    simp only [Act.put]
    refine wpAny_take (i := 21) (v := undef) rfl (by kernel_rfl) (by kernel_rfl) (by kernel_rfl) (fun _ _ _ h => h) (Or.inr ⟨by kernel_rfl, rfl⟩) ?_
    simp only [Act.put]
    refine wpAny_take (i := 22) (v := undef) rfl (by kernel_rfl) (by kernel_rfl) (by kernel_rfl) (fun _ _ _ h => h) (Or.inr ⟨by kernel_rfl, rfl⟩) ?_
    simp only [Act.put]
    refine wpAny_take (i := 23) (v := undef) rfl (by kernel_rfl) (by kernel_rfl) (by kernel_rfl) (fun _ _ _ h => h) (Or.inr ⟨by kernel_rfl, rfl⟩) ?_
    simp only [Act.put]
    refine wpAny_take (i := 24) (v := undef) rfl (by kernel_rfl) (by kernel_rfl) (by kernel_rfl) (fun _ _ _ h => h) (Or.inr ⟨by kernel_rfl, rfl⟩) ?_
    simp only [Act.put]
    refine wpAny_take (i := 25) (v := undef) rfl (by kernel_rfl) (by kernel_rfl) (by kernel_rfl) (fun _ _ _ h => h) (Or.inr ⟨by kernel_rfl, rfl⟩) ?_
    simp only [Act.put]
    refine wpAny_take (i := 26) (v := undef) rfl (by kernel_rfl) (by kernel_rfl) (by kernel_rfl) (fun _ _ _ h => h) (Or.inr ⟨by kernel_rfl, rfl⟩) ?_
    simp only [Act.put]
    refine wpAny_take (i := 27) (v := undef) rfl (by kernel_rfl) (by kernel_rfl) (by kernel_rfl) (fun _ _ _ h => h) (Or.inr ⟨by kernel_rfl, rfl⟩) ?_
    simp only [Act.put]
    refine wpAny_take (i := 28) (v := undef) rfl (by kernel_rfl) (by kernel_rfl) (by kernel_rfl) (fun _ _ _ h => h) (Or.inr ⟨by kernel_rfl, rfl⟩) ?_
    simp only [Act.put]
    refine wpAny_take (i := 29) (v := undef) rfl (by kernel_rfl) (by kernel_rfl) (by kernel_rfl) (fun _ _ _ h => h) (Or.inr ⟨by kernel_rfl, rfl⟩) ?_
    simp only [Act.put]
    refine wpAny_take (i := 30) (v := undef) rfl (by kernel_rfl) (by kernel_rfl) (by kernel_rfl) (fun _ _ _ h => h) (Or.inr ⟨by kernel_rfl, rfl⟩) ?_
    simp only [Act.put]
    refine wpAny_ready (rs := [31]) (by kernel_rfl) (by simp) ?_
    refine AllReady.cons rfl (fun K hK => ?_) AllReady.nil
    go_simp
    refine hK _ _ ?_
    clear hK K
    refine wpAny_ready (rs := [32]) (by kernel_rfl) (by simp) ?_
    refine AllReady.cons rfl (fun K hK => ?_) AllReady.nil
    go_simp
    refine hK _ _ ?_
    clear hK K
    refine wpAny_done (by kernel_rfl) ?_ _
    go_wp2_with fail
    go_ret
    exact .inl ⟨HN.out, rfl, gb_trans HJ.out.gb GW1.out⟩
  · have HM : ∀ (r : Rule) (g : Nat) (w : World), ruleFn r = some g → RV w jb (free jb v) r (.func (.func g) #[ptr jb] #[]) := fun r g w hr => .meth r g hr
    have Mact := fun w => HM .act _ w rfl
    have MtypeName := fun w => HM .typeName _ w rfl
    have MtypeNameOrNone := fun w => HM .typeNameOrNone _ w rfl
    clear HM
    clear h hf ha
    go_enter Tryz.func85, Tryz.ntmps85
    go_wp2_with fail
    have B0 : Hid (Box (w.alloc (.cells #[.int .i64 7, .string ⟨x.toArray⟩, .int .i64 m, .int .i64 p, .slice a ts.length c] 24)) w.heap.size (.mk 7 x m p ts) (.slice a ts.length c)) := Box.new w (.mk 7 x m p ts) (.slice a ts.length c) 24
    refine wp_region_held_drew (S := (fun w' => w'.cell? ⟨w.heap.size, 0, none⟩ = some (.int .i64 7) ∧ w'.cell? ⟨w.heap.size, 1, none⟩ = some (.string ⟨x.toArray⟩) ∧ w'.cell? ⟨w.heap.size, 2, none⟩ = some (.int .i64 m) ∧ w'.cell? ⟨w.heap.size, 3, none⟩ = some (.int .i64 p) ∧ w'.cell? ⟨w.heap.size, 4, none⟩ = some (.slice a ts.length c))) (by kernel_rfl) ?_ (fun hHeld => ?_)
    · exact (B0.out.kept (by repeat (first | with_reducible exact gb_refl (w.alloc _) none | with_reducible refine gb_put ?_ (by omega) _ _ | with_reducible refine gb_alloc ?_ _ | with_reducible refine gb_drewN ?_ _ | with_reducible refine gb_drew ?_))).all5
    refine wpAnyH_ready (rs := [0]) (by kernel_rfl) (by simp) ?_
    refine AllReadyH.cons rfl (fun K hK => ?_) AllReadyH.nil
    go_simp
    refine hK.out _ _ ?_ (fun hHeld => ?_)
    · exact hHeld
    clear hK K
    refine wpAnyH_ready (rs := [1]) (by kernel_rfl) (by simp) ?_
    refine AllReadyH.cons rfl (fun K hK => ?_) AllReadyH.nil
    go_simp
    refine hK.out _ _ ?_ (fun hHeld => ?_)
    · exact hHeld
    clear hK K
    refine wpAnyH_ready (rs := [2]) (by kernel_rfl) (by simp) ?_
    refine AllReadyH.cons rfl (fun K hK => ?_) AllReadyH.nil
    go_simp
    refine hK.out _ _ ?_ (fun hHeld => ?_)
    · exact hHeld
    clear hK K
    refine wpAnyH_ready (rs := [3]) (by kernel_rfl) (by simp) ?_
    refine AllReadyH.cons rfl (fun K hK => ?_) AllReadyH.nil
    go_simp
    refine hK.out _ _ ?_ (fun hHeld => ?_)
    · exact hHeld
    clear hK K
    refine wpAnyH_take (i := 4) (v := ptr jb) rfl (by kernel_rfl) (by kernel_rfl) (by kernel_rfl) (fun _ _ _ h => h) (Or.inl ⟨by kernel_rfl, fun w _ => by go_simp⟩) hHeld ?_
    simp only [Act.put, List.setIfInBounds_toArray]
    refine wpAnyH_take (i := 5) (v := .agg #[.int .i64 7, .string ⟨x.toArray⟩, .int .i64 m, .int .i64 p, .slice a ts.length c]) rfl (by kernel_rfl) (by kernel_rfl) (by kernel_rfl) (fun _ _ _ h => h) (Or.inl ⟨by kernel_rfl, by intro w hSw; obtain ⟨s0, s1, s2, s3, s4⟩ := hSw; go_simp⟩) hHeld ?_
    simp only [Act.put]
    refine wpAnyH_ready (rs := [6]) (by kernel_rfl) (by simp) ?_
    refine AllReadyH.cons rfl (fun K hK => ?_) AllReadyH.nil
    go_simp
    go_at_call 77
    refine (named_any jb lb (.mk 7 x m p ts) _ 1 _ (HJ.out.grown (by repeat (first | with_reducible exact gb_refl w none | with_reducible refine gb_put ?_ (by omega) _ _ | with_reducible refine gb_alloc ?_ _ | with_reducible refine gb_drewN ?_ _ | with_reducible refine gb_drew ?_))).c0 (HJ.out.grown (by repeat (first | with_reducible exact gb_refl w none | with_reducible refine gb_put ?_ (by omega) _ _ | with_reducible refine gb_alloc ?_ _ | with_reducible refine gb_drewN ?_ _ | with_reducible refine gb_drew ?_))).lex HF.out ⟨_, _, _, rfl⟩).mono ?_
    rintro e w1 ⟨rfl, hg1⟩
    rw [h0]
    have GW1 : Hid (w.grownBy w1 none) := gb_trans (by repeat (first | with_reducible exact gb_refl w none | with_reducible refine gb_put ?_ (by omega) _ _ | with_reducible refine gb_alloc ?_ _ | with_reducible refine gb_drewN ?_ _ | with_reducible refine gb_drew ?_)) hg1
    have B1 := hide (B0.out.kept (gb_trans (by repeat (first | with_reducible exact gb_refl (w.alloc _) none | with_reducible refine gb_put ?_ (by omega) _ _ | with_reducible refine gb_alloc ?_ _ | with_reducible refine gb_drewN ?_ _ | with_reducible refine gb_drew ?_)) hg1))
    obtain ⟨b0_1, b1_1, b2_1, b3_1, b4_1⟩ := B1.out
    have hsz1 := GW1.out.size
    have hbl1 := block_lt b0_1
    clear hg1
    refine hK.out _ _ ?_ (fun hHeld => ?_)
    · exact B1.out.all5
    clear hK K
    refine wpAnyH_ready (rs := [7]) (by kernel_rfl) (by simp) ?_
    refine AllReadyH.cons rfl (fun K hK => ?_) AllReadyH.nil
    go_simp
    refine hK.out _ _ ?_ (fun hHeld => ?_)
    · exact hHeld
    clear hK K
    refine wpAnyH_ready (rs := [8]) (by kernel_rfl) (by simp) ?_
    refine AllReadyH.cons rfl (fun K hK => ?_) AllReadyH.nil
    go_simp
    refine hK.out _ _ ?_ (fun hHeld => ?_)
    · exact hHeld
    clear hK K
    refine wpAnyH_take (i := 9) (v := ptr jb) rfl (by kernel_rfl) (by kernel_rfl) (by kernel_rfl) (fun _ _ _ h => h) (Or.inl ⟨by kernel_rfl, fun w _ => by go_simp⟩) hHeld ?_
    simp only [Act.put, List.setIfInBounds_toArray]
    refine wpAnyH_take (i := 10) (v := .agg #[.int .i64 7, .string ⟨x.toArray⟩, .int .i64 m, .int .i64 p, .slice a ts.length c]) rfl (by kernel_rfl) (by kernel_rfl) (by kernel_rfl) (fun _ _ _ h => h) (Or.inl ⟨by kernel_rfl, by intro w hSw; obtain ⟨s0, s1, s2, s3, s4⟩ := hSw; go_simp⟩) hHeld ?_
    simp only [Act.put]
    refine wpAnyH_take (i := 11) (v := ptr jb) rfl (by kernel_rfl) (by kernel_rfl) (by kernel_rfl) (fun _ _ _ h => h) (Or.inl ⟨by kernel_rfl, fun w _ => by go_simp⟩) hHeld ?_
    simp only [Act.put]
    refine wpAnyH_take (i := 12) (v := ptr jb) rfl (by kernel_rfl) (by kernel_rfl) (by kernel_rfl) (fun _ _ _ h => h) (Or.inl ⟨by kernel_rfl, fun w _ => by go_simp⟩) hHeld ?_
    simp only [Act.put]
    refine wpAnyH_take (i := 13) (v := ptr jb) rfl (by kernel_rfl) (by kernel_rfl) (by kernel_rfl) (fun _ _ _ h => h) (Or.inl ⟨by kernel_rfl, fun w _ => by go_simp⟩) hHeld ?_
    simp only [Act.put]
    refine wpAnyH_take (i := 14) (v := .func (.func 84) #[ptr jb] #[]) rfl (by kernel_rfl) (by kernel_rfl) (by kernel_rfl) (fun _ _ _ h => h) (Or.inl ⟨by kernel_rfl, fun w _ => by go_simp⟩) hHeld ?_
    simp only [Act.put]
    refine wpAnyH_take (i := 17) (v := ptr jb) rfl (by kernel_rfl) (by kernel_rfl) (by kernel_rfl) (fun _ _ _ h => h) (Or.inl ⟨by kernel_rfl, fun w _ => by go_simp⟩) hHeld ?_
    simp only [Act.put]
    refine wpAnyH_take (i := 18) (v := .func (.func 120) #[ptr jb] #[]) rfl (by kernel_rfl) (by kernel_rfl) (by kernel_rfl) (fun _ _ _ h => h) (Or.inl ⟨by kernel_rfl, fun w _ => by go_simp⟩) hHeld ?_
    simp only [Act.put]
    refine wpAnyH_take (i := 19) (v := ptr jb) rfl (by kernel_rfl) (by kernel_rfl) (by kernel_rfl) (fun _ _ _ h => h) (Or.inl ⟨by kernel_rfl, fun w _ => by go_simp⟩) hHeld ?_
    simp only [Act.put]
    refine wpAnyH_take (i := 20) (v := ptr jb) rfl (by kernel_rfl) (by kernel_rfl) (by kernel_rfl) (fun _ _ _ h => h) (Or.inl ⟨by kernel_rfl, fun w _ => by go_simp⟩) hHeld ?_
    simp only [Act.put]
    refine wpAnyH_take (i := 21) (v := ptr jb) rfl (by kernel_rfl) (by kernel_rfl) (by kernel_rfl) (fun _ _ _ h => h) (Or.inl ⟨by kernel_rfl, fun w _ => by go_simp⟩) hHeld ?_
    simp only [Act.put]
    refine wpAnyH_take (i := 22) (v := .func (.func 84) #[ptr jb] #[]) rfl (by kernel_rfl) (by kernel_rfl) (by kernel_rfl) (fun _ _ _ h => h) (Or.inl ⟨by kernel_rfl, fun w _ => by go_simp⟩) hHeld ?_
    simp only [Act.put]
    refine wpAnyH_take (i := 25) (v := ptr jb) rfl (by kernel_rfl) (by kernel_rfl) (by kernel_rfl) (fun _ _ _ h => h) (Or.inl ⟨by kernel_rfl, fun w _ => by go_simp⟩) hHeld ?_
    simp only [Act.put]
    refine wpAnyH_take (i := 26) (v := ptr jb) rfl (by kernel_rfl) (by kernel_rfl) (by kernel_rfl) (fun _ _ _ h => h) (Or.inl ⟨by kernel_rfl, fun w _ => by go_simp⟩) hHeld ?_
    simp only [Act.put]
    refine wpAnyH_take (i := 27) (v := .func (.func 86) #[ptr jb] #[]) rfl (by kernel_rfl) (by kernel_rfl) (by kernel_rfl) (fun _ _ _ h => h) (Or.inl ⟨by kernel_rfl, fun w _ => by go_simp⟩) hHeld ?_
    simp only [Act.put]
    refine wpAnyH_ready (rs := [15]) (by kernel_rfl) (by simp) ?_
    refine AllReadyH.cons rfl (fun K hK => ?_) AllReadyH.nil
    go_simp
    go_at_call 81
    with_reducible refine (declared_any jb _ v 8 1 .typeName _ (by first | omega | (simp; omega)) (fun b hb => by have := HV.out b hb; first | omega | (simp; omega)) (MtypeName _)).mono ?_
    rintro e w2 ⟨g2, fa2, ca2, rfl, r2, hg2⟩
    have GG := gb_trans (show World.grownBy w1 _ none from (by repeat (first | with_reducible exact gb_refl w1 none | with_reducible refine gb_put ?_ (by omega) _ _ | with_reducible refine gb_alloc ?_ _ | with_reducible refine gb_drewN ?_ _ | with_reducible refine gb_drew ?_))) hg2
    have GW2 : Hid (w.grownBy w2 none) := gb_trans GW1.out GG
    have R2 := hide r2
    have B2 := hide (B1.out.kept GG)
    obtain ⟨b0_2, b1_2, b2_2, b3_2, b4_2⟩ := B2.out
    have hsz2 := GW2.out.size
    have hbl2 := block_lt b0_2
    clear hg2 r2 GG
    refine hK.out _ _ ?_ (fun hHeld => ?_)
    · exact B2.out.all5
    clear hK K
    refine wpAnyH_ready (rs := [16]) (by kernel_rfl) (by simp) ?_
    refine AllReadyH.cons rfl (fun K hK => ?_) AllReadyH.nil
    go_simp
    go_at_call 79
    with_reducible refine (list_any jb _ v (.declared 8 1 .typeName) _ (by first | omega | (simp; omega)) (fun b hb => by have := HV.out b hb; first | omega | (simp; omega)) (R2.out.grown (by repeat (first | with_reducible exact gb_refl w2 none | with_reducible refine gb_put ?_ (by omega) _ _ | with_reducible refine gb_alloc ?_ _ | with_reducible refine gb_drewN ?_ _ | with_reducible refine gb_drew ?_)))).mono ?_
    rintro e w3 ⟨g3, fa3, ca3, rfl, r3, hg3⟩
    have GG := gb_trans (show World.grownBy w2 _ none from (by repeat (first | with_reducible exact gb_refl w2 none | with_reducible refine gb_put ?_ (by omega) _ _ | with_reducible refine gb_alloc ?_ _ | with_reducible refine gb_drewN ?_ _ | with_reducible refine gb_drew ?_))) hg3
    have GW3 : Hid (w.grownBy w3 none) := gb_trans GW2.out GG
    have R3 := hide r3
    have B3 := hide (B2.out.kept GG)
    obtain ⟨b0_3, b1_3, b2_3, b3_3, b4_3⟩ := B3.out
    have hsz3 := GW3.out.size
    have hbl3 := block_lt b0_3
    clear hg3 r3 GG
    refine hK.out _ _ ?_ (fun hHeld => ?_)
    · exact B3.out.all5
    clear hK K
    refine wpAnyH_ready (rs := [23]) (by kernel_rfl) (by simp) ?_
    refine AllReadyH.cons rfl (fun K hK => ?_) AllReadyH.nil
    go_simp
    go_at_call 81
    with_reducible refine (declared_any jb _ v 6 0 .typeName _ (by first | omega | (simp; omega)) (fun b hb => by have := HV.out b hb; first | omega | (simp; omega)) (MtypeName _)).mono ?_
    rintro e w4 ⟨g4, fa4, ca4, rfl, r4, hg4⟩
    have GG := gb_trans (show World.grownBy w3 _ none from (by repeat (first | with_reducible exact gb_refl w3 none | with_reducible refine gb_put ?_ (by omega) _ _ | with_reducible refine gb_alloc ?_ _ | with_reducible refine gb_drewN ?_ _ | with_reducible refine gb_drew ?_))) hg4
    have GW4 : Hid (w.grownBy w4 none) := gb_trans GW3.out GG
    have R4 := hide r4
    have R3 := hide (R3.out.grown GG)
    have B4 := hide (B3.out.kept GG)
    obtain ⟨b0_4, b1_4, b2_4, b3_4, b4_4⟩ := B4.out
    have hsz4 := GW4.out.size
    have hbl4 := block_lt b0_4
    clear hg4 r4 GG
    refine hK.out _ _ ?_ (fun hHeld => ?_)
    · exact B4.out.all5
    clear hK K
    refine wpAnyH_ready (rs := [24]) (by kernel_rfl) (by simp) ?_
    refine AllReadyH.cons rfl (fun K hK => ?_) AllReadyH.nil
    go_simp
    go_at_call 79
    with_reducible refine (list_any jb _ v (.declared 6 0 .typeName) _ (by first | omega | (simp; omega)) (fun b hb => by have := HV.out b hb; first | omega | (simp; omega)) (R4.out.grown (by repeat (first | with_reducible exact gb_refl w4 none | with_reducible refine gb_put ?_ (by omega) _ _ | with_reducible refine gb_alloc ?_ _ | with_reducible refine gb_drewN ?_ _ | with_reducible refine gb_drew ?_)))).mono ?_
    rintro e w5 ⟨g5, fa5, ca5, rfl, r5, hg5⟩
    have GG := gb_trans (show World.grownBy w4 _ none from (by repeat (first | with_reducible exact gb_refl w4 none | with_reducible refine gb_put ?_ (by omega) _ _ | with_reducible refine gb_alloc ?_ _ | with_reducible refine gb_drewN ?_ _ | with_reducible refine gb_drew ?_))) hg5
    have GW5 : Hid (w.grownBy w5 none) := gb_trans GW4.out GG
    have R5 := hide r5
    have R3 := hide (R3.out.grown GG)
    have B5 := hide (B4.out.kept GG)
    obtain ⟨b0_5, b1_5, b2_5, b3_5, b4_5⟩ := B5.out
    have hsz5 := GW5.out.size
    have hbl5 := block_lt b0_5
    clear hg5 r5 GG
    refine hK.out _ _ ?_ (fun hHeld => ?_)
    · exact B5.out.all5
    clear hK K
    refine wpAnyH_ready (rs := [28]) (by kernel_rfl) (by simp) ?_
    refine AllReadyH.cons rfl (fun K hK => ?_) AllReadyH.nil
    go_simp
    go_at_call 79
    with_reducible refine (list_any jb _ v .act _ (by first | omega | (simp; omega)) (fun b hb => by have := HV.out b hb; first | omega | (simp; omega)) (Mact _)).mono ?_
    rintro e w6 ⟨g6, fa6, ca6, rfl, r6, hg6⟩
    have GG := gb_trans (show World.grownBy w5 _ none from (by repeat (first | with_reducible exact gb_refl w5 none | with_reducible refine gb_put ?_ (by omega) _ _ | with_reducible refine gb_alloc ?_ _ | with_reducible refine gb_drewN ?_ _ | with_reducible refine gb_drew ?_))) hg6
    have GW6 : Hid (w.grownBy w6 none) := gb_trans GW5.out GG
    have R6 := hide r6
    have R3 := hide (R3.out.grown GG)
    have R5 := hide (R5.out.grown GG)
    have B6 := hide (B5.out.kept GG)
    obtain ⟨b0_6, b1_6, b2_6, b3_6, b4_6⟩ := B6.out
    have hsz6 := GW6.out.size
    have hbl6 := block_lt b0_6
    clear hg6 r6 GG
    refine hK.out _ _ ?_ (fun hHeld => ?_)
    · exact B6.out.all5
    clear hK K
    refine wpAnyH_ready (rs := [29]) (by kernel_rfl) (by simp) ?_
    refine AllReadyH.cons rfl (fun K hK => ?_) AllReadyH.nil
    go_simp
    refine hK.out _ _ ?_ (fun hHeld => ?_)
    · exact (B6.out.kept (by repeat (first | with_reducible exact gb_refl w6 none | with_reducible refine gb_put ?_ (by omega) _ _ | with_reducible refine gb_alloc ?_ _ | with_reducible refine gb_drewN ?_ _ | with_reducible refine gb_drew ?_))).all5
    clear hK K
    refine wpAnyH_ready (rs := [30]) (by kernel_rfl) (by simp) ?_
    refine AllReadyH.cons rfl (fun K hK => ?_) AllReadyH.nil
    go_simp
    go_at_call 78
    refine (below_one w0 jb lb ob _ l v (.mk 7 x m p ts) _ [(.list (.declared 8 1 .typeName)), .typeNameOrNone, (.list (.declared 6 0 .typeName)), (.list .act)] _ (HJ.out.grown (by repeat (first | with_reducible exact GW6.out | with_reducible refine gb_put ?_ (by omega) _ _ | with_reducible refine gb_alloc ?_ _ | with_reducible refine gb_drewN ?_ _ | with_reducible refine gb_drew ?_))) hlen (by decide) HA.out (RL.new4 _ _ (R3.out.grown (by repeat (first | with_reducible exact gb_refl w6 none | with_reducible refine gb_put ?_ (by omega) _ _ | with_reducible refine gb_alloc ?_ _ | with_reducible refine gb_drewN ?_ _ | with_reducible refine gb_drew ?_))) (MtypeNameOrNone _) (R5.out.grown (by repeat (first | with_reducible exact gb_refl w6 none | with_reducible refine gb_put ?_ (by omega) _ _ | with_reducible refine gb_alloc ?_ _ | with_reducible refine gb_drewN ?_ _ | with_reducible refine gb_drew ?_))) (R6.out.grown (by repeat (first | with_reducible exact gb_refl w6 none | with_reducible refine gb_put ?_ (by omega) _ _ | with_reducible refine gb_alloc ?_ _ | with_reducible refine gb_drewN ?_ _ | with_reducible refine gb_drew ?_))) (by first | omega | (simp; omega)) (fun b hb => by have := HV.out b hb; first | omega | (simp; omega)))).mono ?_
    rintro e w99 ⟨b9, rfl, h9⟩
    have B9 := hide (Box.past (B6.out.kept (by repeat (first | with_reducible exact gb_refl w6 none | with_reducible refine gb_put ?_ (by omega) _ _ | with_reducible refine gb_alloc ?_ _ | with_reducible refine gb_drewN ?_ _ | with_reducible refine gb_drew ?_))) ⟨by omega, fun e => by have := HV.out _ e; omega⟩ h9)
    refine hK.out _ _ ?_ (fun hHeld => ?_)
    · exact B9.out.all5
    clear hK K
    refine wpAnyH_ready (rs := [31]) (by kernel_rfl) (by simp) ?_
    refine AllReadyH.cons rfl (fun K hK => ?_) AllReadyH.nil
    go_simp
    refine hK.out _ _ ?_ (fun hHeld => ?_)
    · exact hHeld
    clear hK K
    refine wpAnyH_ready (rs := [32]) (by kernel_rfl) (by simp) ?_
    refine AllReadyH.cons rfl (fun K hK => ?_) AllReadyH.nil
    go_simp
    refine hK.out _ _ ?_ (fun hHeld => ?_)
    · exact hHeld
    clear hK K
    refine wpAnyH_done (by kernel_rfl) ?_ _
    all_goals
      have H9 := hide h9
      clear h9
      rcases H9.out with ⟨rfl, hno, hg⟩ | ⟨rfl, hyes, v9, j9, k9⟩
      · go_wp2_with fail
        go_ret
        exact .inl ⟨HS.out.trans (onlyIf_no (by rw [head_named (t := (.mk 7 x m p ts)) (k := 7) rfl, h0]; exact (Bool.true_and _).trans (len_no (n := 4) hno))), rfl, gb_trans HJ.out.gb (gb_trans (by repeat (first | with_reducible exact GW6.out | with_reducible refine gb_put ?_ (by omega) _ _ | with_reducible refine gb_alloc ?_ _ | with_reducible refine gb_drewN ?_ _ | with_reducible refine gb_drew ?_)) hg)⟩
      · have J9 := hide j9
        have K9 : Hid (JK jb v w w99 v9) := (JK.grown (by repeat (first | with_reducible exact GW6.out | with_reducible refine gb_put ?_ (by omega) _ _ | with_reducible refine gb_alloc ?_ _ | with_reducible refine gb_drewN ?_ _ | with_reducible refine gb_drew ?_))).trans k9
        clear j9 k9 H9
        go_wp2_with fail
        go_ret
        exact .inr ⟨_, v9, HS.out.trans (onlyIf_yes (by rw [head_named (t := (.mk 7 x m p ts)) (k := 7) rfl, h0]; exact (Bool.true_and _).trans (len_yes (n := 4) hyes))), rfl, J9.out, K9.out⟩
set_option maxRecDepth 1000000 in
set_option maxHeartbeats 8000000 in
theorem jprocedureE (w0 : World) (jb lb ob : Nat) (w : World) (l : List (T × Rule)) (v : Value) (kd : Int) (x : List UInt8) (m p : Int) (ts : List T) (sv : Value) (h : JS w0 jb lb ob w l v) (_hlen : l.length + ts.length ≤ 20000) (hf : Fits (.mk kd x m p ts)) (ha : AT w0 (T.mk kd x m p ts).subs sv) (h7 : ¬ kd = 7) :
    Calls Tryz.prog 85 #[ptr jb, .agg #[.int .i64 kd, .string ⟨x.toArray⟩, .int .i64 m, .int .i64 p, sv]] w (JR w0 jb lb ob l v w .procedure (.mk kd x m p ts)) := by
  have HJ := hide h
  have HF := hide hf
  have HA := hide ha
  have hjl := h.lt
  have HV : Hid (∀ b, v.ownBlock = some b → b < w.heap.size) := fun b hb => (h.room hb).2
  obtain ⟨a, n, c, rfl, hn, hc, hl⟩ := ha.any
  change ts.length = n at hl
  subst hl
  have HN : Hid (stepR .procedure (.mk kd x m p ts) = none) := by show _ = _; rw [show stepR .procedure (.mk kd x m p ts) = onlyIf _ _ from rfl]; exact onlyIf_no (by simp [headB, T.kind, h7])
  have hkb : (kd == 7) = false := by simpa using h7
  clear h hf ha
  go_enter Tryz.func85, Tryz.ntmps85
  go_wp2_with fail
  go_quiet (fail)
  go_wp2_with fail
  go_ret
  exact .inl ⟨HN.out, rfl, gb_trans HJ.out.gb (by repeat (first | with_reducible exact gb_refl w none | with_reducible refine gb_put ?_ (by omega) _ _ | with_reducible refine gb_alloc ?_ _ | with_reducible refine gb_drewN ?_ _ | with_reducible refine gb_drew ?_))⟩
theorem procedure_says : RuleSays 85 .procedure := by
  intro w0 jb lb ob w l v t sv h hlen hf ha
  obtain ⟨kd, x, m, p, ts⟩ := t
  change l.length + ts.length ≤ 20000 at hlen
  by_cases h7 : kd = 7
  · subst h7; exact jprocedure7 w0 jb lb ob w l v x m p ts sv h hlen hf ha
  exact jprocedureE w0 jb lb ob w l v kd x m p ts sv h hlen hf ha h7
end Go.Proofs.YtlkokcnbbihljaaGreatDoor
