/- The program's judge of shapes: procedures. -/
import Derived.Test.YtapfecciakijhaaGreatDoorG13
import Derived.Test.YtapfecciakijhaaGreatDoorG37
namespace Go.Proofs.YtapfecciakijhaaGreatDoor
open Go.RowKit Go.Maps Go.WideMaps Go.WideElems
set_option maxHeartbeats 8000000
set_option maxRecDepth 1000000

theorem RL.new4 {jb : Nat} {v : Value} {r0 r1 r2 r3 : Rule} {x0 x1 x2 x3 : Value} (w : World) (ty : TypeId) (h0 : RV (w.alloc (.cells #[x0, x1, x2, x3] ty)) jb (free jb v) r0 x0) (h1 : RV (w.alloc (.cells #[x0, x1, x2, x3] ty)) jb (free jb v) r1 x1) (h2 : RV (w.alloc (.cells #[x0, x1, x2, x3] ty)) jb (free jb v) r2 x2) (h3 : RV (w.alloc (.cells #[x0, x1, x2, x3] ty)) jb (free jb v) r3 x3) (hj : jb < w.heap.size) (hv : ∀ b, v.ownBlock = some b → b < w.heap.size) :
    RL (w.alloc (.cells #[x0, x1, x2, x3] ty)) jb v [r0, r1, r2, r3] (.slice (some ⟨w.heap.size, 0, none⟩) 4 4) :=
  .inr ⟨w.heap.size, rfl, by simp, ⟨by omega, fun e => by have := hv _ e; omega⟩, fun i z hi => by
    match i, hi with
    | 0, hi => cases hi; exact ⟨x0, by rw [World.cell?_alloc_at _ _ _ _ rfl]; rfl, h0⟩
    | 1, hi => cases hi; exact ⟨x1, by rw [World.cell?_alloc_at _ _ _ _ rfl]; rfl, h1⟩
    | 2, hi => cases hi; exact ⟨x2, by rw [World.cell?_alloc_at _ _ _ _ rfl]; rfl, h2⟩
    | 3, hi => cases hi; exact ⟨x3, by rw [World.cell?_alloc_at _ _ _ _ rfl]; rfl, h3⟩⟩
theorem jprocedure7 (w0 : World) (jb lb ob : Nat) (w : World) (l : List (T × Rule)) (v : Value) (x : List UInt8) (m p : Int) (ts : List T) (sv : Value) (h : JS w0 jb lb ob w l v) (hlen : l.length + ts.length ≤ 20000) (hf : Fits (.mk 7 x m p ts)) (ha : AT w0 (T.mk 7 x m p ts).subs sv) :
    Calls Tryz.prog 85 #[ptr jb, .agg #[.int .i64 7, .string ⟨x.toArray⟩, .int .i64 m, .int .i64 p, sv]] w (JR w0 jb lb ob l v w .procedure (.mk 7 x m p ts)) := by
  have HJ := hide h; have HF := hide hf; have HA := hide ha; have hjl := h.lt
  have HV : Hid (∀ b, v.ownBlock = some b → b < w.heap.size) := fun b hb => (h.room hb).2
  obtain ⟨a,n,c,rfl,_,_,hl⟩ := ha.any
  change ts.length = n at hl
  subst hl
  have HS : Hid (stepR .procedure (.mk 7 x m p ts) = onlyIf (headB (.mk 7 x m p ts) 7 true 1 4) (zipR ts [(.list (.declared 8 1 .typeName)), .typeNameOrNone, (.list (.declared 6 0 .typeName)), (.list .act)])) := rfl
  cases h0 : (nameB (T.mk 7 x m p ts).name && withinB (.mk 7 x m p ts) 1)
  · have HN : Hid (stepR .procedure (.mk 7 x m p ts) = none) := HS.out.trans (onlyIf_no (by rw [head_named (t := (.mk 7 x m p ts)) (k := 7) rfl, h0]; rfl))
    clear h hf ha
    go_enter Tryz.func85, Tryz.ntmps85
    go_wp2_with fail; have B0 : Hid (Box (w.alloc (.cells #[.int .i64 7, .string ⟨x.toArray⟩, .int .i64 m, .int .i64 p, .slice a ts.length c] 24)) w.heap.size (.mk 7 x m p ts) (.slice a ts.length c)) := Box.new w (.mk 7 x m p ts) (.slice a ts.length c) 24; refine wp_region_any (by kernel_rfl) ?_
    change wpAny _ _ _ _ _ _ _ (World.drew _)
    refine wpAny_ready (rs := [0]) (by kernel_rfl) (by simp) ?_; refine AllReady.cons rfl (fun K hK => ?_) AllReady.nil
    go_simp
    refine hK _ _ ?_; clear hK K; refine wpAny_ready (rs := [1]) (by kernel_rfl) (by simp) ?_; refine AllReady.cons rfl (fun K hK => ?_) AllReady.nil
    go_simp
    refine hK _ _ ?_; clear hK K; refine wpAny_ready (rs := [2]) (by kernel_rfl) (by simp) ?_; refine AllReady.cons rfl (fun K hK => ?_) AllReady.nil
    go_simp
    refine hK _ _ ?_; clear hK K; refine wpAny_ready (rs := [3]) (by kernel_rfl) (by simp) ?_; refine AllReady.cons rfl (fun K hK => ?_) AllReady.nil
    go_simp
    refine hK _ _ ?_; clear hK K; refine wpAny_take (i := 4) (v := ptr jb) rfl (by kernel_rfl) (by kernel_rfl) (by kernel_rfl) (fun _ _ _ h => h) (Or.inl ⟨by kernel_rfl, fun w => by go_simp⟩) ?_; simp only [Act.put, List.setIfInBounds_toArray]; refine wpAny_ready (rs := [5]) (by kernel_rfl) (by simp) ?_; refine AllReady.cons rfl (fun K hK => ?_) AllReady.nil
    go_simp
    refine hK _ _ ?_; clear hK K; refine wpAny_ready (rs := [6]) (by kernel_rfl) (by simp) ?_; refine AllReady.cons rfl (fun K hK => ?_) AllReady.nil
    go_simp
    go_at_call 77; refine (named_any jb lb (.mk 7 x m p ts) _ 1 _ (HJ.out.grown (by exact gb_drew (gb_alloc (gb_refl w none) _))).c0 (HJ.out.grown (by exact gb_drew (gb_alloc (gb_refl w none) _))).lex HF.out ⟨_, _, _, rfl⟩).mono ?_; rintro e w1 ⟨rfl, hg1⟩; rw [h0]; have GW1 := hide (gb_trans (by exact gb_drew (gb_alloc (gb_refl w none) _)) hg1); have B1 := hide (B0.out.kept (gb_trans (by exact gb_drew (gb_refl (w.alloc _) none)) hg1)); obtain ⟨b0_1,b1_1,b2_1,b3_1,b4_1⟩ := B1.out; have hsz1 := GW1.out.size; have hbl1 := block_lt b0_1; clear hg1; refine hK _ _ ?_; clear hK K; refine wpAny_ready (rs := [7]) (by kernel_rfl) (by simp) ?_; refine AllReady.cons rfl (fun K hK => ?_) AllReady.nil
    go_simp
    refine hK _ _ ?_; clear hK K; refine wpAny_ready (rs := [8]) (by kernel_rfl) (by simp) ?_; refine AllReady.cons rfl (fun K hK => ?_) AllReady.nil
    go_simp
    refine hK _ _ ?_; clear hK K; refine wpAny_take (i := 9) (v := undef) rfl (by kernel_rfl) (by kernel_rfl) (by kernel_rfl) (fun _ _ _ h => h) (Or.inr ⟨by kernel_rfl, rfl⟩) ?_; simp only [Act.put, List.setIfInBounds_toArray]; refine wpAny_take (i := 10) (v := undef) rfl (by kernel_rfl) (by kernel_rfl) (by kernel_rfl) (fun _ _ _ h => h) (Or.inr ⟨by kernel_rfl, rfl⟩) ?_; simp only [Act.put]; refine wpAny_take (i := 11) (v := undef) rfl (by kernel_rfl) (by kernel_rfl) (by kernel_rfl) (fun _ _ _ h => h) (Or.inr ⟨by kernel_rfl, rfl⟩) ?_; simp only [Act.put]; refine wpAny_take (i := 12) (v := undef) rfl (by kernel_rfl) (by kernel_rfl) (by kernel_rfl) (fun _ _ _ h => h) (Or.inr ⟨by kernel_rfl, rfl⟩) ?_; simp only [Act.put]; refine wpAny_take (i := 13) (v := undef) rfl (by kernel_rfl) (by kernel_rfl) (by kernel_rfl) (fun _ _ _ h => h) (Or.inr ⟨by kernel_rfl, rfl⟩) ?_; simp only [Act.put]; refine wpAny_take (i := 14) (v := undef) rfl (by kernel_rfl) (by kernel_rfl) (by kernel_rfl) (fun _ _ _ h => h) (Or.inr ⟨by kernel_rfl, rfl⟩) ?_; simp only [Act.put]; refine wpAny_take (i := 15) (v := undef) rfl (by kernel_rfl) (by kernel_rfl) (by kernel_rfl) (fun _ _ _ h => h) (Or.inr ⟨by kernel_rfl, rfl⟩) ?_; simp only [Act.put]; refine wpAny_take (i := 16) (v := undef) rfl (by kernel_rfl) (by kernel_rfl) (by kernel_rfl) (fun _ _ _ h => h) (Or.inr ⟨by kernel_rfl, rfl⟩) ?_; simp only [Act.put]; refine wpAny_take (i := 17) (v := undef) rfl (by kernel_rfl) (by kernel_rfl) (by kernel_rfl) (fun _ _ _ h => h) (Or.inr ⟨by kernel_rfl, rfl⟩) ?_; simp only [Act.put]; refine wpAny_take (i := 18) (v := undef) rfl (by kernel_rfl) (by kernel_rfl) (by kernel_rfl) (fun _ _ _ h => h) (Or.inr ⟨by kernel_rfl, rfl⟩) ?_; simp only [Act.put]; refine wpAny_take (i := 19) (v := undef) rfl (by kernel_rfl) (by kernel_rfl) (by kernel_rfl) (fun _ _ _ h => h) (Or.inr ⟨by kernel_rfl, rfl⟩) ?_; simp only [Act.put]; refine wpAny_take (i := 20) (v := undef) rfl (by kernel_rfl) (by kernel_rfl) (by kernel_rfl) (fun _ _ _ h => h) (Or.inr ⟨by kernel_rfl, rfl⟩) ?_; simp only [Act.put]; refine wpAny_take (i := 21) (v := undef) rfl (by kernel_rfl) (by kernel_rfl) (by kernel_rfl) (fun _ _ _ h => h) (Or.inr ⟨by kernel_rfl, rfl⟩) ?_; simp only [Act.put]; refine wpAny_take (i := 22) (v := undef) rfl (by kernel_rfl) (by kernel_rfl) (by kernel_rfl) (fun _ _ _ h => h) (Or.inr ⟨by kernel_rfl, rfl⟩) ?_; simp only [Act.put]; refine wpAny_take (i := 23) (v := undef) rfl (by kernel_rfl) (by kernel_rfl) (by kernel_rfl) (fun _ _ _ h => h) (Or.inr ⟨by kernel_rfl, rfl⟩) ?_; simp only [Act.put]; refine wpAny_take (i := 24) (v := undef) rfl (by kernel_rfl) (by kernel_rfl) (by kernel_rfl) (fun _ _ _ h => h) (Or.inr ⟨by kernel_rfl, rfl⟩) ?_; simp only [Act.put]; refine wpAny_take (i := 25) (v := undef) rfl (by kernel_rfl) (by kernel_rfl) (by kernel_rfl) (fun _ _ _ h => h) (Or.inr ⟨by kernel_rfl, rfl⟩) ?_; simp only [Act.put]; refine wpAny_take (i := 26) (v := undef) rfl (by kernel_rfl) (by kernel_rfl) (by kernel_rfl) (fun _ _ _ h => h) (Or.inr ⟨by kernel_rfl, rfl⟩) ?_
    simp only [Act.put]; refine wpAny_take (i := 27) (v := undef) rfl (by kernel_rfl) (by kernel_rfl) (by kernel_rfl) (fun _ _ _ h => h) (Or.inr ⟨by kernel_rfl, rfl⟩) ?_; simp only [Act.put]; refine wpAny_take (i := 28) (v := undef) rfl (by kernel_rfl) (by kernel_rfl) (by kernel_rfl) (fun _ _ _ h => h) (Or.inr ⟨by kernel_rfl, rfl⟩) ?_; simp only [Act.put]; refine wpAny_take (i := 29) (v := undef) rfl (by kernel_rfl) (by kernel_rfl) (by kernel_rfl) (fun _ _ _ h => h) (Or.inr ⟨by kernel_rfl, rfl⟩) ?_; simp only [Act.put]; refine wpAny_take (i := 30) (v := undef) rfl (by kernel_rfl) (by kernel_rfl) (by kernel_rfl) (fun _ _ _ h => h) (Or.inr ⟨by kernel_rfl, rfl⟩) ?_; simp only [Act.put]; refine wpAny_ready (rs := [31]) (by kernel_rfl) (by simp) ?_; refine AllReady.cons rfl (fun K hK => ?_) AllReady.nil
    go_simp
    refine hK _ _ ?_; clear hK K; refine wpAny_ready (rs := [32]) (by kernel_rfl) (by simp) ?_; refine AllReady.cons rfl (fun K hK => ?_) AllReady.nil
    go_simp
    refine hK _ _ ?_; clear hK K; refine wpAny_done (by kernel_rfl) ?_ _; go_wp2_with fail
    go_ret
    exact .inl ⟨HN.out, rfl, gb_trans HJ.out.gb GW1.out⟩
  · have HM : ∀ (r : Rule) (g : Nat) (w : World), ruleFn r = some g → RV w jb (free jb v) r (.func (.func g) #[ptr jb] #[]) := fun r g w hr => .meth r g hr
    have Mact := fun w => HM .act _ w rfl
    have MtypeName := fun w => HM .typeName _ w rfl
    have MtypeNameOrNone := fun w => HM .typeNameOrNone _ w rfl
    clear HM; clear h hf ha
    go_enter Tryz.func85, Tryz.ntmps85
    go_wp2_with fail; have B0 : Hid (Box (w.alloc (.cells #[.int .i64 7, .string ⟨x.toArray⟩, .int .i64 m, .int .i64 p, .slice a ts.length c] 24)) w.heap.size (.mk 7 x m p ts) (.slice a ts.length c)) := Box.new w (.mk 7 x m p ts) (.slice a ts.length c) 24; refine wp_region_held_drew (S := (fun w' => w'.cell? ⟨w.heap.size, 0, none⟩ = some (.int .i64 7) ∧ w'.cell? ⟨w.heap.size, 1, none⟩ = some (.string ⟨x.toArray⟩) ∧ w'.cell? ⟨w.heap.size, 2, none⟩ = some (.int .i64 m) ∧ w'.cell? ⟨w.heap.size, 3, none⟩ = some (.int .i64 p) ∧ w'.cell? ⟨w.heap.size, 4, none⟩ = some (.slice a ts.length c))) (by kernel_rfl) ?_ (fun hHeld => ?_)
    · exact (B0.out.kept (by exact gb_drew (gb_refl (w.alloc _) none))).all5
    refine rd 0 rfl fun K hK => ?_
    go_simp
    refine hK.out _ _ hHeld fun hHeld => ?_
    clear hK K; refine rd 1 rfl fun K hK => ?_
    go_simp
    refine hK.out _ _ hHeld fun hHeld => ?_
    clear hK K; refine rd 2 rfl fun K hK => ?_
    go_simp
    refine hK.out _ _ hHeld fun hHeld => ?_
    clear hK K; refine rd 3 rfl fun K hK => ?_
    go_simp
    refine hK.out _ _ hHeld fun hHeld => ?_
    clear hK K; refine tk 4 (ptr jb) rfl (fun _ _ => by go_simp) hHeld ?_; simp only [Act.put, List.setIfInBounds_toArray]; refine tk 5 (.agg #[.int .i64 7, .string ⟨x.toArray⟩, .int .i64 m, .int .i64 p, .slice a ts.length c]) rfl (fun _ ⟨_,_,_,_,_⟩ => by go_simp) hHeld ?_; simp only [Act.put]; refine rd 6 rfl fun K hK => ?_
    go_simp
    go_at_call 77; refine (named_any jb lb (.mk 7 x m p ts) _ 1 _ (HJ.out.grown (by exact gb_drew (gb_alloc (gb_refl w none) _))).c0 (HJ.out.grown (by exact gb_drew (gb_alloc (gb_refl w none) _))).lex HF.out ⟨_, _, _, rfl⟩).mono ?_; rintro e w1 ⟨rfl, hg1⟩; rw [h0]; have GW1 := hide (gb_trans (by exact gb_drew (gb_alloc (gb_refl w none) _)) hg1); have B1 := hide (B0.out.kept (gb_trans (by exact gb_drew (gb_refl (w.alloc _) none)) hg1)); obtain ⟨b0_1,b1_1,b2_1,b3_1,b4_1⟩ := B1.out; have hsz1 := GW1.out.size; have hbl1 := block_lt b0_1; clear hg1; refine hK.out _ _ B1.out.all5 fun hHeld => ?_
    clear hK K; refine rd 7 rfl fun K hK => ?_
    go_simp
    refine hK.out _ _ hHeld fun hHeld => ?_
    clear hK K; refine rd 8 rfl fun K hK => ?_
    go_simp
    refine hK.out _ _ hHeld fun hHeld => ?_
    clear hK K; refine tk 9 (ptr jb) rfl (fun _ _ => by go_simp) hHeld ?_; simp only [Act.put, List.setIfInBounds_toArray]; refine tk 10 (.agg #[.int .i64 7, .string ⟨x.toArray⟩, .int .i64 m, .int .i64 p, .slice a ts.length c]) rfl (fun _ ⟨_,_,_,_,_⟩ => by go_simp) hHeld ?_; simp only [Act.put]; refine tk 11 (ptr jb) rfl (fun _ _ => by go_simp) hHeld ?_; simp only [Act.put]; refine tk 12 (ptr jb) rfl (fun _ _ => by go_simp) hHeld ?_; simp only [Act.put]; refine tk 13 (ptr jb) rfl (fun _ _ => by go_simp) hHeld ?_; simp only [Act.put]; refine tk 14 (.func (.func 84) #[ptr jb] #[]) rfl (fun _ _ => by go_simp) hHeld ?_; simp only [Act.put]; refine tk 17 (ptr jb) rfl (fun _ _ => by go_simp) hHeld ?_; simp only [Act.put]; refine tk 18 (.func (.func 120) #[ptr jb] #[]) rfl (fun _ _ => by go_simp) hHeld ?_; simp only [Act.put]; refine tk 19 (ptr jb) rfl (fun _ _ => by go_simp) hHeld ?_; simp only [Act.put]; refine tk 20 (ptr jb) rfl (fun _ _ => by go_simp) hHeld ?_; simp only [Act.put]; refine tk 21 (ptr jb) rfl (fun _ _ => by go_simp) hHeld ?_; simp only [Act.put]; refine tk 22 (.func (.func 84) #[ptr jb] #[]) rfl (fun _ _ => by go_simp) hHeld ?_; simp only [Act.put]; refine tk 25 (ptr jb) rfl (fun _ _ => by go_simp) hHeld ?_; simp only [Act.put]; refine tk 26 (ptr jb) rfl (fun _ _ => by go_simp) hHeld ?_; simp only [Act.put]; refine tk 27 (.func (.func 86) #[ptr jb] #[]) rfl (fun _ _ => by go_simp) hHeld ?_
    simp only [Act.put]; refine rd 15 rfl fun K hK => ?_
    go_simp
    go_at_call 81
    with_reducible refine (declared_any jb _ v 8 1 .typeName _ (by first | omega | (simp; omega)) (fun b hb => by have := HV.out b hb; first | omega | (simp; omega)) (MtypeName _)).mono ?_
    rintro e w2 ⟨g2, fa2, ca2, rfl, r2, hg2⟩; have GG := gb_trans (show World.grownBy w1 _ none from (gb_refl w1 none)) hg2; have GW2 := hide (gb_trans GW1.out GG); have R2 := hide r2; have B2 := hide (B1.out.kept GG); obtain ⟨b0_2,_,_,_,_⟩ := B2.out; have hsz2 := GW2.out.size; have hbl2 := block_lt b0_2; clear hg2 r2 GG; refine hK.out _ _ B2.out.all5 fun hHeld => ?_
    clear hK K; refine rd 16 rfl fun K hK => ?_
    go_simp
    go_at_call 79
    with_reducible refine (list_any jb _ v (.declared 8 1 .typeName) _ (by first | omega | (simp; omega)) (fun b hb => by have := HV.out b hb; first | omega | (simp; omega)) (R2.out.grown (gb_refl w2 none))).mono ?_
    rintro e w3 ⟨g3, fa3, ca3, rfl, r3, hg3⟩; have GG := gb_trans (show World.grownBy w2 _ none from (gb_refl w2 none)) hg3; have GW3 := hide (gb_trans GW2.out GG); have R3 := hide r3; have B3 := hide (B2.out.kept GG); obtain ⟨b0_3,_,_,_,_⟩ := B3.out; have hsz3 := GW3.out.size; have hbl3 := block_lt b0_3; clear hg3 r3 GG; refine hK.out _ _ B3.out.all5 fun hHeld => ?_
    clear hK K; refine rd 23 rfl fun K hK => ?_
    go_simp
    go_at_call 81
    with_reducible refine (declared_any jb _ v 6 0 .typeName _ (by first | omega | (simp; omega)) (fun b hb => by have := HV.out b hb; first | omega | (simp; omega)) (MtypeName _)).mono ?_
    rintro e w4 ⟨g4, fa4, ca4, rfl, r4, hg4⟩; have GG := gb_trans (show World.grownBy w3 _ none from (gb_refl w3 none)) hg4; have GW4 := hide (gb_trans GW3.out GG); have R4 := hide r4; have R3 := hide (R3.out.grown GG); have B4 := hide (B3.out.kept GG); obtain ⟨b0_4,_,_,_,_⟩ := B4.out; have hsz4 := GW4.out.size; have hbl4 := block_lt b0_4; clear hg4 r4 GG; refine hK.out _ _ B4.out.all5 fun hHeld => ?_
    clear hK K; refine rd 24 rfl fun K hK => ?_
    go_simp
    go_at_call 79
    with_reducible refine (list_any jb _ v (.declared 6 0 .typeName) _ (by first | omega | (simp; omega)) (fun b hb => by have := HV.out b hb; first | omega | (simp; omega)) (R4.out.grown (gb_refl w4 none))).mono ?_
    rintro e w5 ⟨g5, fa5, ca5, rfl, r5, hg5⟩; have GG := gb_trans (show World.grownBy w4 _ none from (gb_refl w4 none)) hg5; have GW5 := hide (gb_trans GW4.out GG); have R5 := hide r5; have R3 := hide (R3.out.grown GG); have B5 := hide (B4.out.kept GG); obtain ⟨b0_5,_,_,_,_⟩ := B5.out; have hsz5 := GW5.out.size; have hbl5 := block_lt b0_5; clear hg5 r5 GG; refine hK.out _ _ B5.out.all5 fun hHeld => ?_
    clear hK K; refine rd 28 rfl fun K hK => ?_
    go_simp
    go_at_call 79
    with_reducible refine (list_any jb _ v .act _ (by first | omega | (simp; omega)) (fun b hb => by have := HV.out b hb; first | omega | (simp; omega)) (Mact _)).mono ?_
    rintro e w6 ⟨g6, fa6, ca6, rfl, r6, hg6⟩; have GG := gb_trans (show World.grownBy w5 _ none from (gb_refl w5 none)) hg6; have GW6 := hide (gb_trans GW5.out GG); have R6 := hide r6; have R3 := hide (R3.out.grown GG); have R5 := hide (R5.out.grown GG); have B6 := hide (B5.out.kept GG); obtain ⟨b0_6,_,_,_,_⟩ := B6.out; have hsz6 := GW6.out.size; have hbl6 := block_lt b0_6; clear hg6 r6 GG; refine hK.out _ _ B6.out.all5 fun hHeld => ?_
    clear hK K; refine rd 29 rfl fun K hK => ?_
    go_simp
    refine hK.out _ _ ((B6.out.kept (by exact gb_alloc (gb_refl w6 none) _)).all5) fun hHeld => ?_
    clear hK K; refine rd 30 rfl fun K hK => ?_
    go_simp
    go_at_call 78; refine (below_one w0 jb lb ob _ l v (.mk 7 x m p ts) _ [(.list (.declared 8 1 .typeName)), .typeNameOrNone, (.list (.declared 6 0 .typeName)), (.list .act)] _ (HJ.out.grown (by exact gb_alloc GW6.out _)) hlen (by decide) HA.out (RL.new4 _ _ (R3.out.grown (by exact gb_alloc (gb_refl w6 none) _)) (MtypeNameOrNone _) (R5.out.grown (by exact gb_alloc (gb_refl w6 none) _)) (R6.out.grown (by exact gb_alloc (gb_refl w6 none) _)) (by first | omega | (simp; omega)) (fun b hb => by have := HV.out b hb; first | omega | (simp; omega)))).mono ?_; rintro e w99 ⟨b9, rfl, h9⟩; have B9 := hide (Box.past (B6.out.kept (by exact gb_alloc (gb_refl w6 none) _)) ⟨by omega, fun e => by have := HV.out _ e; omega⟩ h9); refine hK.out _ _ B9.out.all5 fun hHeld => ?_
    clear hK K; refine rd 31 rfl fun K hK => ?_
    go_simp
    refine hK.out _ _ hHeld fun hHeld => ?_
    clear hK K; refine rd 32 rfl fun K hK => ?_
    go_simp
    refine hK.out _ _ hHeld fun hHeld => ?_
    clear hK K; refine wpAnyH_done (by kernel_rfl) ?_ _
    all_goals
      have H9 := hide h9; clear h9
      rcases H9.out with ⟨rfl, hno, hg⟩ | ⟨rfl, hyes, v9, j9, k9⟩
      · go_wp2_with fail
        go_ret
        exact .inl ⟨HS.out.trans (onlyIf_no (by rw [head_named (t := (.mk 7 x m p ts)) (k := 7) rfl, h0]; exact (Bool.true_and _).trans (len_no (n := 4) hno))), rfl, gb_trans HJ.out.gb (gb_trans (by exact gb_alloc GW6.out _) hg)⟩
      · have J9 := hide j9
        have K9 : Hid (JK jb v w w99 v9) := (JK.grown (by exact gb_alloc GW6.out _)).trans k9; clear j9 k9 H9; go_wp2_with fail
        go_ret
        exact .inr ⟨_, v9, HS.out.trans (onlyIf_yes (by rw [head_named (t := (.mk 7 x m p ts)) (k := 7) rfl, h0]; exact (Bool.true_and _).trans (len_yes (n := 4) hyes))), rfl, J9.out, K9.out⟩
theorem jprocedureE (w0 : World) (jb lb ob : Nat) (w : World) (l : List (T × Rule)) (v : Value) (kd : Int) (x : List UInt8) (m p : Int) (ts : List T) (sv : Value) (h : JS w0 jb lb ob w l v) (_hlen : l.length + ts.length ≤ 20000) (hf : Fits (.mk kd x m p ts)) (ha : AT w0 (T.mk kd x m p ts).subs sv) (h7 : ¬ kd = 7) :
    Calls Tryz.prog 85 #[ptr jb, .agg #[.int .i64 kd, .string ⟨x.toArray⟩, .int .i64 m, .int .i64 p, sv]] w (JR w0 jb lb ob l v w .procedure (.mk kd x m p ts)) := by
  have HJ := hide h; have HF := hide hf; have HA := hide ha; have hjl := h.lt
  have HV : Hid (∀ b, v.ownBlock = some b → b < w.heap.size) := fun b hb => (h.room hb).2
  obtain ⟨_,n,_,rfl,_,_,hl⟩ := ha.any
  change ts.length = n at hl
  subst hl
  have HN : Hid (stepR .procedure (.mk kd x m p ts) = none) := by show _ = _; rw [show stepR .procedure (.mk kd x m p ts) = onlyIf _ _ from rfl]; exact onlyIf_no (by simp [headB, T.kind, h7])
  have hkb : (kd == 7) = false := by simpa using h7
  clear h hf ha
  go_enter Tryz.func85, Tryz.ntmps85
  go_wp2_with fail
  go_quiet (fail)
  go_wp2_with fail
  go_ret
  exact .inl ⟨HN.out, rfl, gb_trans HJ.out.gb (by exact gb_drewN (gb_alloc (gb_refl w none) _) _)⟩
theorem procedure_says : RuleSays 85 .procedure := by
  intro w0 jb lb ob w l v t sv h hlen hf ha; obtain ⟨kd,x,m,p,ts⟩ := t
  change l.length + ts.length ≤ 20000 at hlen
  by_cases h7 : kd = 7
  · subst h7; exact jprocedure7 w0 jb lb ob w l v x m p ts sv h hlen hf ha
  exact jprocedureE w0 jb lb ob w l v kd x m p ts sv h hlen hf ha h7
end Go.Proofs.YtapfecciakijhaaGreatDoor
