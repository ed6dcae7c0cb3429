/- The program's judge of shapes: modules. -/
import Derived.Test.YtifapidjkelnfaaGreatDoorG20
import Derived.Test.YtifapidjkelnfaaGreatDoorG02
import Derived.Test.YtifapidjkelnfaaGreatDoorG36
namespace Go.Proofs.YtifapidjkelnfaaGreatDoor
open Go.RowKit Go.Maps Go.WideMaps Go.WideElems
set_option maxHeartbeats 8000000
set_option maxRecDepth 1000000
theorem RL.new6 {jb : Nat} {v : Value} {r0 r1 r2 r3 r4 r5 : Rule} {x0 x1 x2 x3 x4 x5 : Value} (w : World) (ty : TypeId) (h0 : RV (w.alloc (.cells #[x0,x1,x2,x3,x4,x5] ty)) jb (free jb v) r0 x0) (h1 : RV (w.alloc (.cells #[x0,x1,x2,x3,x4,x5] ty)) jb (free jb v) r1 x1) (h2 : RV (w.alloc (.cells #[x0,x1,x2,x3,x4,x5] ty)) jb (free jb v) r2 x2) (h3 : RV (w.alloc (.cells #[x0,x1,x2,x3,x4,x5] ty)) jb (free jb v) r3 x3) (h4 : RV (w.alloc (.cells #[x0,x1,x2,x3,x4,x5] ty)) jb (free jb v) r4 x4) (h5 : RV (w.alloc (.cells #[x0,x1,x2,x3,x4,x5] ty)) jb (free jb v) r5 x5) (hj : jb < w.heap.size) (hv : ∀ b,v.ownBlock = some b -> b < w.heap.size) :
  RL (w.alloc (.cells #[x0,x1,x2,x3,x4,x5] ty)) jb v [r0,r1,r2,r3,r4,r5] (.slice (some ⟨w.heap.size,0,none⟩) 6 6) :=
 .inr ⟨w.heap.size,rfl,by simp,⟨by omega,fun e => by have := hv _ e; omega⟩,fun i z hi => by
  match i,hi with
  | 0,hi => cases hi; exact ⟨x0,by rw [World.cell?_alloc_at _ _ _ _ rfl]; rfl,h0⟩
  | 1,hi => cases hi; exact ⟨x1,by rw [World.cell?_alloc_at _ _ _ _ rfl]; rfl,h1⟩
  | 2,hi => cases hi; exact ⟨x2,by rw [World.cell?_alloc_at _ _ _ _ rfl]; rfl,h2⟩
  | 3,hi => cases hi; exact ⟨x3,by rw [World.cell?_alloc_at _ _ _ _ rfl]; rfl,h3⟩
  | 4,hi => cases hi; exact ⟨x4,by rw [World.cell?_alloc_at _ _ _ _ rfl]; rfl,h4⟩
  | 5,hi => cases hi; exact ⟨x5,by rw [World.cell?_alloc_at _ _ _ _ rfl]; rfl,h5⟩⟩
theorem oY : JC 75 .module 2 := by
 intro w0 u lb ob w l v x m p f sv h Q hf ha
 have M := zb h; have HF := zb hf; have HA := zb ha; have h3 := h.lt
 have F : Hid (∀ b,v.ownBlock = some b -> b < w.heap.size) := fun b hb => (h.room hb).2
 obtain ⟨a,n,c,rfl,_,_,hl⟩ := ha.any
 change f.length = n at hl
 subst hl
 have HS : Hid (zw .module (.mk 2 x m p f) = zt (zk (.mk 2 x m p f) 2 true 0 6) (zJ f [(.list .imported),(.list (.declared 4 1 .expression)),(.list (.declared 5 1 .typeItself)),(.list (.declared 6 1 .typeName)),(.list .procedure),(.list .act)])) := rfl
 cases R : (yB (T.mk 2 x m p f).name && zM (.mk 2 x m p f) 0)
 ·have HN : Hid (zw .module (.mk 2 x m p f) = none) := HS.out.trans (zm (by rw [yd (t := (.mk 2 x m p f)) (k := 2) rfl,R]; rfl))
  clear h hf ha
  go_enter Tryz.func75,Tryz.ntmps75
  go_wp2_with fail; have B0 : Hid (Box (w.alloc (.cells #[.int .i64 2,.string ⟨x.toArray⟩,.int .i64 m,.int .i64 p,.slice a f.length c] 24)) w.heap.size (.mk 2 x m p f) (.slice a f.length c)) := Box.new w (.mk 2 x m p f) (.slice a f.length c) 24; refine wp_region_any (by kernel_rfl) ?_
  change wpAny _ _ _ _ _ _ _ (World.drew _)
  refine wpAny_ready (rs := [0]) (by kernel_rfl) (by simp) ?_; refine AllReady.cons rfl (fun K hK => ?_) AllReady.nil
  go_simp
  refine hK _ _ ?_; clear hK K; refine wpAny_ready (rs := [1]) (by kernel_rfl) (by simp) ?_; refine AllReady.cons rfl (fun K hK => ?_) AllReady.nil
  go_simp
  refine hK _ _ ?_; clear hK K; refine wpAny_ready (rs := [2]) (by kernel_rfl) (by simp) ?_; refine AllReady.cons rfl (fun K hK => ?_) AllReady.nil
  go_simp
  refine hK _ _ ?_; clear hK K; refine wpAny_ready (rs := [3]) (by kernel_rfl) (by simp) ?_; refine AllReady.cons rfl (fun K hK => ?_) AllReady.nil
  go_simp
  refine hK _ _ ?_; clear hK K; refine wpAny_take (i := 4) (v := ptr u) rfl (by kernel_rfl) (by kernel_rfl) (by kernel_rfl) (fun _ _ _ h => h) (Or.inl ⟨by kernel_rfl,fun w => by go_simp⟩) ?_; simp only [Act.put,List.setIfInBounds_toArray]; refine wpAny_ready (rs := [5]) (by kernel_rfl) (by simp) ?_; refine AllReady.cons rfl (fun K hK => ?_) AllReady.nil
  go_simp
  refine hK _ _ ?_; clear hK K; refine wpAny_ready (rs := [6]) (by kernel_rfl) (by simp) ?_; refine AllReady.cons rfl (fun K hK => ?_) AllReady.nil
  go_simp
  go_at_call 105; refine (xk u lb (.mk 2 x m p f) _ 0 _ (M.out.grown (ze gan)).c0 (M.out.grown (ze gan)).lex HF.out ⟨_,_,_,rfl⟩).mono ?_; rintro e w1 ⟨rfl,A⟩; rw [R]; have G := zb (za (ze gan) A); have U := zb (B0.out.kept (za (ze (zj (w.alloc _) none)) A)); obtain ⟨H,V,X,Y,Z⟩ := U.out; have a0 := G.out.size; have a1 := zc H; clear A; refine hK _ _ ?_; clear hK K; refine wpAny_ready (rs := [7]) (by kernel_rfl) (by simp) ?_; refine AllReady.cons rfl (fun K hK => ?_) AllReady.nil
  go_simp
  refine hK _ _ ?_; clear hK K; refine wpAny_ready (rs := [8]) (by kernel_rfl) (by simp) ?_; refine AllReady.cons rfl (fun K hK => ?_) AllReady.nil
  go_simp
  refine hK _ _ ?_; clear hK K; refine nt 9 rfl ?_; simp only [Act.put,List.setIfInBounds_toArray]; refine nt 10 rfl ?_; simp only [Act.put]; refine nt 11 rfl ?_; simp only [Act.put]; refine nt 12 rfl ?_; simp only [Act.put]; refine nt 13 rfl ?_; simp only [Act.put]; refine nt 14 rfl ?_; simp only [Act.put]; refine nt 15 rfl ?_; simp only [Act.put]; refine nt 16 rfl ?_; simp only [Act.put]; refine nt 17 rfl ?_; simp only [Act.put]; refine nt 18 rfl ?_; simp only [Act.put]; refine nt 19 rfl ?_; simp only [Act.put]; refine nt 20 rfl ?_; simp only [Act.put]; refine nt 21 rfl ?_; simp only [Act.put]; refine nt 22 rfl ?_; simp only [Act.put]; refine nt 23 rfl ?_; simp only [Act.put]; refine nt 24 rfl ?_; simp only [Act.put]; refine nt 25 rfl ?_; simp only [Act.put]; refine nt 26 rfl ?_
  simp only [Act.put]; refine nt 27 rfl ?_; simp only [Act.put]; refine nt 28 rfl ?_; simp only [Act.put]; refine nt 29 rfl ?_; simp only [Act.put]; refine nt 30 rfl ?_; simp only [Act.put]; refine nt 31 rfl ?_; simp only [Act.put]; refine nt 32 rfl ?_; simp only [Act.put]; refine nt 33 rfl ?_; simp only [Act.put]; refine nt 34 rfl ?_; simp only [Act.put]; refine nt 35 rfl ?_; simp only [Act.put]; refine nt 36 rfl ?_; simp only [Act.put]; refine nt 37 rfl ?_; simp only [Act.put]; refine nt 38 rfl ?_; simp only [Act.put]; refine nt 39 rfl ?_; simp only [Act.put]; refine nt 40 rfl ?_; simp only [Act.put]; refine nt 41 rfl ?_; simp only [Act.put]; refine nt 42 rfl ?_; simp only [Act.put]; refine wpAny_ready (rs := [43]) (by kernel_rfl) (by simp) ?_; refine AllReady.cons rfl (fun K hK => ?_) AllReady.nil
  go_simp
  refine hK _ _ ?_; clear hK K; refine wpAny_ready (rs := [44]) (by kernel_rfl) (by simp) ?_; refine AllReady.cons rfl (fun K hK => ?_) AllReady.nil
  go_simp
  refine hK _ _ ?_; clear hK K; refine wpAny_done (by kernel_rfl) ?_ _; go_wp2_with fail
  go_ret
  exact .inl ⟨HN.out,rfl,za M.out.gb G.out⟩
 ·have N : ∀ (r : Rule) (g : Nat) (w : World),qK r = some g -> RV w u (free u v) r (.func (.func g) #[ptr u] #[]) := fun r g w hr => .meth r g hr
  have a2 := fun w => N .act _ w rfl
  have j := fun w => N .expression _ w rfl
  have B := fun w => N .imported _ w rfl
  have y := fun w => N .procedure _ w rfl
  have s := fun w => N .typeItself _ w rfl
  have C := fun w => N .typeName _ w rfl
  clear N; clear h hf ha
  go_enter Tryz.func75,Tryz.ntmps75
  go_wp2_with fail; have B0 : Hid (Box (w.alloc (.cells #[.int .i64 2,.string ⟨x.toArray⟩,.int .i64 m,.int .i64 p,.slice a f.length c] 24)) w.heap.size (.mk 2 x m p f) (.slice a f.length c)) := Box.new w (.mk 2 x m p f) (.slice a f.length c) 24; refine wp_region_held_drew (S := (fun w' => w'.cell? ⟨w.heap.size,0,none⟩ = some (.int .i64 2) /\ w'.cell? ⟨w.heap.size,1,none⟩ = some (.string ⟨x.toArray⟩) /\ w'.cell? ⟨w.heap.size,2,none⟩ = some (.int .i64 m) /\ w'.cell? ⟨w.heap.size,3,none⟩ = some (.int .i64 p) /\ w'.cell? ⟨w.heap.size,4,none⟩ = some (.slice a f.length c))) (by kernel_rfl) ?_ (fun hHeld => ?_)
  ·exact (B0.out.kept (ze (zj (w.alloc _) none))).all5
  refine rd 0 rfl fun K hK => ?_
  go_simp
  refine hK.out _ _ hHeld fun hHeld => ?_
  clear hK K; refine rd 1 rfl fun K hK => ?_
  go_simp
  refine hK.out _ _ hHeld fun hHeld => ?_
  clear hK K; refine rd 2 rfl fun K hK => ?_
  go_simp
  refine hK.out _ _ hHeld fun hHeld => ?_
  clear hK K; refine rd 3 rfl fun K hK => ?_
  go_simp
  refine hK.out _ _ hHeld fun hHeld => ?_
  clear hK K; refine tq 4 ?_; refine tq 5 ?_; refine rd 6 rfl fun K hK => ?_
  go_simp
  go_at_call 105; refine (xk u lb (.mk 2 x m p f) _ 0 _ (M.out.grown (ze gan)).c0 (M.out.grown (ze gan)).lex HF.out ⟨_,_,_,rfl⟩).mono ?_; rintro e w1 ⟨rfl,A⟩; rw [R]; have G := zb (za (ze gan) A); have U := zb (B0.out.kept (za (ze (zj (w.alloc _) none)) A)); obtain ⟨H,V,X,Y,Z⟩ := U.out; have a0 := G.out.size; have a1 := zc H; clear A; refine hK.out _ _ U.out.all5 fun hHeld => ?_
  clear hK K; refine rd 7 rfl fun K hK => ?_
  go_simp
  refine hK.out _ _ hHeld fun hHeld => ?_
  clear hK K; refine rd 8 rfl fun K hK => ?_
  go_simp
  refine hK.out _ _ hHeld fun hHeld => ?_
  clear hK K; refine tq 9 ?_; refine tq 10 ?_; refine tq 11 ?_; refine tq 12 ?_; refine tq 13 ?_; refine tq 15 ?_; refine tq 16 ?_; refine tq 17 ?_; refine tq 18 ?_; refine tq 21 ?_; refine tq 22 ?_; refine tq 23 ?_; refine tq 24 ?_; refine tq 27 ?_; refine tq 28 ?_; refine tq 29 ?_; refine tq 30 ?_; refine tq 33 ?_; refine tq 34 ?_; refine tq 35 ?_; refine tq 37 ?_; refine tq 38 ?_; refine tq 39 ?_; refine rd 14 rfl fun K hK => ?_
  go_simp
  go_at_call 107
  with_reducible refine (xz u _ v .imported _ (by first | omega | (simp; omega)) (fun b hb => by have := F.out b hb; first | omega | (simp; omega)) (B _)).mono ?_
  rintro e w2 ⟨g2,h4,h5,rfl,r2,a3⟩; have d := za (show World.grownBy w1 _ none from grn) a3; have a4 := zb (za G.out d); have z := zb r2; have B2 := zb (U.out.kept d); obtain ⟨a5,_,_,_,_⟩ := B2.out; have d6 := a4.out.size; have d7 := zc a5; clear a3 r2 d; refine hK.out _ _ B2.out.all5 fun hHeld => ?_
  clear hK K; refine rd 19 rfl fun K hK => ?_
  go_simp
  go_at_call 109
  with_reducible refine (xM u _ v 4 1 .expression _ (by first | omega | (simp; omega)) (fun b hb => by have := F.out b hb; first | omega | (simp; omega)) (j _)).mono ?_
  rintro e w3 ⟨g3,h6,h7,rfl,r3,a6⟩; have d := za (show World.grownBy w2 _ none from grn) a6; have a7 := zb (za a4.out d); have R3 := zb r3; have z := zb (z.out.grown d); have B3 := zb (B2.out.kept d); obtain ⟨a8,_,_,_,_⟩ := B3.out; have d8 := a7.out.size; have d9 := zc a8; clear a6 r3 d; refine hK.out _ _ B3.out.all5 fun hHeld => ?_
  clear hK K; refine rd 20 rfl fun K hK => ?_
  go_simp
  go_at_call 107
  with_reducible refine (xz u _ v (.declared 4 1 .expression) _ (by first | omega | (simp; omega)) (fun b hb => by have := F.out b hb; first | omega | (simp; omega)) (R3.out.grown grn)).mono ?_
  rintro e w4 ⟨g4,h8,j0,rfl,r4,a9⟩; have d := za (show World.grownBy w3 _ none from grn) a9; have b0 := zb (za a7.out d); have E := zb r4; have z := zb (z.out.grown d); have B4 := zb (B3.out.kept d); obtain ⟨b1,_,_,_,_⟩ := B4.out; have f0 := b0.out.size; have f1 := zc b1; clear a9 r4 d; refine hK.out _ _ B4.out.all5 fun hHeld => ?_
  clear hK K; refine rd 25 rfl fun K hK => ?_
  go_simp
  go_at_call 109
  with_reducible refine (xM u _ v 5 1 .typeItself _ (by first | omega | (simp; omega)) (fun b hb => by have := F.out b hb; first | omega | (simp; omega)) (s _)).mono ?_
  rintro e w5 ⟨g5,j1,j2,rfl,r5,b2⟩; have d := za (show World.grownBy w4 _ none from grn) b2; have b3 := zb (za b0.out d); have R5 := zb r5; have z := zb (z.out.grown d); have E := zb (E.out.grown d); have B5 := zb (B4.out.kept d); obtain ⟨b4,_,_,_,_⟩ := B5.out; have f2 := b3.out.size; have f3 := zc b4; clear b2 r5 d; refine hK.out _ _ B5.out.all5 fun hHeld => ?_
  clear hK K; refine rd 26 rfl fun K hK => ?_
  go_simp
  go_at_call 107
  with_reducible refine (xz u _ v (.declared 5 1 .typeItself) _ (by first | omega | (simp; omega)) (fun b hb => by have := F.out b hb; first | omega | (simp; omega)) (R5.out.grown grn)).mono ?_
  rintro e w6 ⟨g6,j3,j4,rfl,r6,b5⟩; have d := za (show World.grownBy w5 _ none from grn) b5; have b6 := zb (za b3.out d); have I := zb r6; have z := zb (z.out.grown d); have E := zb (E.out.grown d); have B6 := zb (B5.out.kept d); obtain ⟨b7,_,_,_,_⟩ := B6.out; have f4 := b6.out.size; have f5 := zc b7; clear b5 r6 d; refine hK.out _ _ B6.out.all5 fun hHeld => ?_
  clear hK K; refine rd 31 rfl fun K hK => ?_
  go_simp
  go_at_call 109
  with_reducible refine (xM u _ v 6 1 .typeName _ (by first | omega | (simp; omega)) (fun b hb => by have := F.out b hb; first | omega | (simp; omega)) (C _)).mono ?_
  rintro e w7 ⟨g7,j5,j6,rfl,r7,b8⟩; have d := za (show World.grownBy w6 _ none from grn) b8; have c1 := zb (za b6.out d); have R7 := zb r7; have z := zb (z.out.grown d); have E := zb (E.out.grown d); have I := zb (I.out.grown d); have B7 := zb (B6.out.kept d); obtain ⟨c2,_,_,_,_⟩ := B7.out; have f6 := c1.out.size; have f7 := zc c2; clear b8 r7 d; refine hK.out _ _ B7.out.all5 fun hHeld => ?_
  clear hK K; refine rd 32 rfl fun K hK => ?_
  go_simp
  go_at_call 107
  with_reducible refine (xz u _ v (.declared 6 1 .typeName) _ (by first | omega | (simp; omega)) (fun b hb => by have := F.out b hb; first | omega | (simp; omega)) (R7.out.grown grn)).mono ?_
  rintro e w8 ⟨g8,j7,j8,rfl,r8,c3⟩; have d := za (show World.grownBy w7 _ none from grn) c3; have c4 := zb (za c1.out d); have R8 := zb r8; have z := zb (z.out.grown d); have E := zb (E.out.grown d); have I := zb (I.out.grown d); have B8 := zb (B7.out.kept d); obtain ⟨c5,_,_,_,_⟩ := B8.out; have f8 := c4.out.size; have f9 := zc c5; clear c3 r8 d; refine hK.out _ _ B8.out.all5 fun hHeld => ?_
  clear hK K; refine rd 36 rfl fun K hK => ?_
  go_simp
  go_at_call 107
  with_reducible refine (xz u _ v .procedure _ (by first | omega | (simp; omega)) (fun b hb => by have := F.out b hb; first | omega | (simp; omega)) (y _)).mono ?_
  rintro e w9 ⟨g9,k0,k1,rfl,r9,c6⟩; have d := za (show World.grownBy w8 _ none from grn) c6; have c7 := zb (za c4.out d); have R9 := zb r9; have z := zb (z.out.grown d); have E := zb (E.out.grown d); have I := zb (I.out.grown d); have R8 := zb (R8.out.grown d); have B9 := zb (B8.out.kept d); obtain ⟨c8,_,_,_,_⟩ := B9.out; have g0 := c7.out.size; have g1 := zc c8; clear c6 r9 d; refine hK.out _ _ B9.out.all5 fun hHeld => ?_
  clear hK K; refine rd 40 rfl fun K hK => ?_
  go_simp
  go_at_call 107
  with_reducible refine (xz u _ v .act _ (by first | omega | (simp; omega)) (fun b hb => by have := F.out b hb; first | omega | (simp; omega)) (a2 _)).mono ?_
  rintro e k2 ⟨k3,h1,h2,rfl,c9,L⟩; have d := za (show World.grownBy w9 _ none from grn) L; have D := zb (za c7.out d); have d1 := zb c9; have z := zb (z.out.grown d); have E := zb (E.out.grown d); have I := zb (I.out.grown d); have R8 := zb (R8.out.grown d); have R9 := zb (R9.out.grown d); have J := zb (B9.out.kept d); obtain ⟨O,_,_,_,_⟩ := J.out; have d2 := D.out.size; have d3 := zc O; clear L c9 d; refine hK.out _ _ J.out.all5 fun hHeld => ?_
  clear hK K; refine rd 41 rfl fun K hK => ?_
  go_simp
  refine hK.out _ _ ((J.out.kept gan).all5) fun hHeld => ?_
  clear hK K; refine rd 42 rfl fun K hK => ?_
  go_simp
  go_at_call 106; refine (uN w0 u lb ob _ l v (.mk 2 x m p f) _ [(.list .imported),(.list (.declared 4 1 .expression)),(.list (.declared 5 1 .typeItself)),(.list (.declared 6 1 .typeName)),(.list .procedure),(.list .act)] _ (M.out.grown (zf D.out _)) Q (by decide) HA.out (RL.new6 _ _ (z.out.grown gan) (E.out.grown gan) (I.out.grown gan) (R8.out.grown gan) (R9.out.grown gan) (d1.out.grown gan) (by first | omega | (simp; omega)) (fun b hb => by have := F.out b hb; first | omega | (simp; omega)))).mono ?_; rintro e d4 ⟨b9,rfl,h9⟩; have B9 := zb (Box.past (J.out.kept gan) ⟨by omega,fun e => by have := F.out _ e; omega⟩ h9); refine hK.out _ _ B9.out.all5 fun hHeld => ?_
  clear hK K; refine rd 43 rfl fun K hK => ?_
  go_simp
  refine hK.out _ _ hHeld fun hHeld => ?_
  clear hK K; refine rd 44 rfl fun K hK => ?_
  go_simp
  refine hK.out _ _ hHeld fun hHeld => ?_
  clear hK K; refine wpAnyH_done (by kernel_rfl) ?_ _
  all_goals
   have H9 := zb h9; clear h9
   rcases H9.out with ⟨rfl,d5,hg⟩ | ⟨rfl,d0,v9,j9,k9⟩
   ·go_wp2_with fail
    go_ret
    exact .inl ⟨HS.out.trans (zm (by rw [yd (t := (.mk 2 x m p f)) (k := 2) rfl,R]; exact (Bool.true_and _).trans (yT (n := 6) d5))),rfl,za M.out.gb (za (zf D.out _) hg)⟩
   ·have J9 := zb j9
    have K9 : Hid (JK u v w d4 v9) := (JK.grown (zf D.out _)).trans k9; clear j9 k9 H9; go_wp2_with fail
    go_ret
    exact .inr ⟨_,v9,HS.out.trans (zH (by rw [yd (t := (.mk 2 x m p f)) (k := 2) rfl,R]; exact (Bool.true_and _).trans (yy (n := 6) d0))),rfl,J9.out,K9.out⟩
theorem nS (w0 : World) (jb lb ob : Nat) (w : World) (l : List (T × Rule)) (v : Value) (kd : Int) (x : Bs) (m p : Int) (ts : List T) (sv : Value) (h : JS w0 jb lb ob w l v) (_hlen : l.length + ts.length <= 20000) (hf : Fits (.mk kd x m p ts)) (ha : AT w0 (T.mk kd x m p ts).subs sv) (h2 : ¬ kd = 2) :
  Calls Tryz.prog 75 #[ptr jb,.agg #[.int .i64 kd,.string ⟨x.toArray⟩,.int .i64 m,.int .i64 p,sv]] w (JR w0 jb lb ob l v w .module (.mk kd x m p ts)) := by
 have d := zb h; have j := zb hf; have k := zb ha; have f := h.lt
 have r : Hid (∀ b,v.ownBlock = some b -> b < w.heap.size) := fun b hb => (h.room hb).2
 obtain ⟨_,n,_,rfl,_,_,a⟩ := ha.any
 change ts.length = n at a
 subst a
 have g : Hid (zw .module (.mk kd x m p ts) = none) := by show _ = _; rw [show zw .module (.mk kd x m p ts) = zt _ _ from rfl]; exact zm (by simp [zk,T.kind,h2])
 have i : (kd == 2) = false := by simpa using h2
 clear h hf ha
 go_enter Tryz.func75,Tryz.ntmps75
 go_wp2_with fail
 go_quiet (fail)
 go_wp2_with fail
 go_ret
 exact .inl ⟨g.out,rfl,za d.out.gb (yl gan _)⟩
theorem dE : RuleSays 75 .module := by
 intro d f g i w l v t j h a k n; obtain ⟨r,x,m,p,b⟩ := t
 change l.length + b.length <= 20000 at a
 by_cases s : r = 2
 ·subst s; exact oY d f g i w l v x m p b j h a k n
 exact nS d f g i w l v r x m p b j h a k n s
end Go.Proofs.YtifapidjkelnfaaGreatDoor
