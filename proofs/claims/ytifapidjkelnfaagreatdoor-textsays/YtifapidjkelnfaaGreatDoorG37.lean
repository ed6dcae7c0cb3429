/- The program's judge of shapes: procedures. -/
import Derived.Test.YtifapidjkelnfaaGreatDoorG20
import Derived.Test.YtifapidjkelnfaaGreatDoorG02
import Derived.Test.YtifapidjkelnfaaGreatDoorG36
namespace Go.Proofs.YtifapidjkelnfaaGreatDoor
open Go.RowKit Go.Maps Go.WideMaps Go.WideElems
set_option maxHeartbeats 8000000
set_option maxRecDepth 1000000
theorem RL.new4 {jb : Nat} {v : Value} {r0 r1 r2 r3 : Rule} {x0 x1 x2 x3 : Value} (w : World) (ty : TypeId) (h0 : RV (w.alloc (.cells #[x0,x1,x2,x3] ty)) jb (free jb v) r0 x0) (h1 : RV (w.alloc (.cells #[x0,x1,x2,x3] ty)) jb (free jb v) r1 x1) (h2 : RV (w.alloc (.cells #[x0,x1,x2,x3] ty)) jb (free jb v) r2 x2) (h3 : RV (w.alloc (.cells #[x0,x1,x2,x3] ty)) jb (free jb v) r3 x3) (hj : jb < w.heap.size) (hv : ∀ b,v.ownBlock = some b -> b < w.heap.size) :
  RL (w.alloc (.cells #[x0,x1,x2,x3] ty)) jb v [r0,r1,r2,r3] (.slice (some ⟨w.heap.size,0,none⟩) 4 4) :=
 .inr ⟨w.heap.size,rfl,by simp,⟨by omega,fun e => by have := hv _ e; omega⟩,fun i z hi => by
  match i,hi with
  | 0,hi => cases hi; exact ⟨x0,by rw [World.cell?_alloc_at _ _ _ _ rfl]; rfl,h0⟩
  | 1,hi => cases hi; exact ⟨x1,by rw [World.cell?_alloc_at _ _ _ _ rfl]; rfl,h1⟩
  | 2,hi => cases hi; exact ⟨x2,by rw [World.cell?_alloc_at _ _ _ _ rfl]; rfl,h2⟩
  | 3,hi => cases hi; exact ⟨x3,by rw [World.cell?_alloc_at _ _ _ _ rfl]; rfl,h3⟩⟩
theorem tm : JC 113 .procedure 7 := by
 intro w0 y lb ob w l v x m p f sv h F hf ha
 have C := zb h; have HF := zb hf; have HA := zb ha; have c3 := h.lt
 have D : Hid (∀ b,v.ownBlock = some b -> b < w.heap.size) := fun b hb => (h.room hb).2
 obtain ⟨a,n,c,rfl,_,_,hl⟩ := ha.any
 change f.length = n at hl
 subst hl
 have HS : Hid (zw .procedure (.mk 7 x m p f) = zt (zk (.mk 7 x m p f) 7 true 1 4) (zJ f [(.list (.declared 8 1 .typeName)),.typeNameOrNone,(.list (.declared 6 0 .typeName)),(.list .act)])) := rfl
 cases G : (yB (T.mk 7 x m p f).name && zM (.mk 7 x m p f) 1)
 ·have HN : Hid (zw .procedure (.mk 7 x m p f) = none) := HS.out.trans (zm (by rw [yd (t := (.mk 7 x m p f)) (k := 7) rfl,G]; rfl))
  clear h hf ha
  go_enter Tryz.func113,Tryz.ntmps113
  go_wp2_with fail; have B0 : Hid (Box (w.alloc (.cells #[.int .i64 7,.string ⟨x.toArray⟩,.int .i64 m,.int .i64 p,.slice a f.length c] 24)) w.heap.size (.mk 7 x m p f) (.slice a f.length c)) := Box.new w (.mk 7 x m p f) (.slice a f.length c) 24; refine wp_region_any (by kernel_rfl) ?_
  change wpAny _ _ _ _ _ _ _ (World.drew _)
  refine wpAny_ready (rs := [0]) (by kernel_rfl) (by simp) ?_; refine AllReady.cons rfl (fun K hK => ?_) AllReady.nil
  go_simp
  refine hK _ _ ?_; clear hK K; refine wpAny_ready (rs := [1]) (by kernel_rfl) (by simp) ?_; refine AllReady.cons rfl (fun K hK => ?_) AllReady.nil
  go_simp
  refine hK _ _ ?_; clear hK K; refine wpAny_ready (rs := [2]) (by kernel_rfl) (by simp) ?_; refine AllReady.cons rfl (fun K hK => ?_) AllReady.nil
  go_simp
  refine hK _ _ ?_; clear hK K; refine wpAny_ready (rs := [3]) (by kernel_rfl) (by simp) ?_; refine AllReady.cons rfl (fun K hK => ?_) AllReady.nil
  go_simp
  refine hK _ _ ?_; clear hK K; refine wpAny_take (i := 4) (v := ptr y) rfl (by kernel_rfl) (by kernel_rfl) (by kernel_rfl) (fun _ _ _ h => h) (Or.inl ⟨by kernel_rfl,fun w => by go_simp⟩) ?_; simp only [Act.put,List.setIfInBounds_toArray]; refine wpAny_ready (rs := [5]) (by kernel_rfl) (by simp) ?_; refine AllReady.cons rfl (fun K hK => ?_) AllReady.nil
  go_simp
  refine hK _ _ ?_; clear hK K; refine wpAny_ready (rs := [6]) (by kernel_rfl) (by simp) ?_; refine AllReady.cons rfl (fun K hK => ?_) AllReady.nil
  go_simp
  go_at_call 105; refine (xk y lb (.mk 7 x m p f) _ 1 _ (C.out.grown (ze gan)).c0 (C.out.grown (ze gan)).lex HF.out ⟨_,_,_,rfl⟩).mono ?_; rintro e w1 ⟨rfl,u⟩; rw [G]; have z := zb (za (ze gan) u); have H := zb (B0.out.kept (za (ze (zj (w.alloc _) none)) u)); obtain ⟨A,I,J,L,M⟩ := H.out; have N := z.out.size; have O := zc A; clear u; refine hK _ _ ?_; clear hK K; refine wpAny_ready (rs := [7]) (by kernel_rfl) (by simp) ?_; refine AllReady.cons rfl (fun K hK => ?_) AllReady.nil
  go_simp
  refine hK _ _ ?_; clear hK K; refine wpAny_ready (rs := [8]) (by kernel_rfl) (by simp) ?_; refine AllReady.cons rfl (fun K hK => ?_) AllReady.nil
  go_simp
  refine hK _ _ ?_; clear hK K; refine nt 9 rfl ?_; simp only [Act.put,List.setIfInBounds_toArray]; refine nt 10 rfl ?_; simp only [Act.put]; refine nt 11 rfl ?_; simp only [Act.put]; refine nt 12 rfl ?_; simp only [Act.put]; refine nt 13 rfl ?_; simp only [Act.put]; refine nt 14 rfl ?_; simp only [Act.put]; refine nt 15 rfl ?_; simp only [Act.put]; refine nt 16 rfl ?_; simp only [Act.put]; refine nt 17 rfl ?_; simp only [Act.put]; refine nt 18 rfl ?_; simp only [Act.put]; refine nt 19 rfl ?_; simp only [Act.put]; refine nt 20 rfl ?_; simp only [Act.put]; refine nt 21 rfl ?_; simp only [Act.put]; refine nt 22 rfl ?_; simp only [Act.put]; refine nt 23 rfl ?_; simp only [Act.put]; refine nt 24 rfl ?_; simp only [Act.put]; refine nt 25 rfl ?_; simp only [Act.put]; refine nt 26 rfl ?_
  simp only [Act.put]; refine nt 27 rfl ?_; simp only [Act.put]; refine nt 28 rfl ?_; simp only [Act.put]; refine nt 29 rfl ?_; simp only [Act.put]; refine nt 30 rfl ?_; simp only [Act.put]; refine wpAny_ready (rs := [31]) (by kernel_rfl) (by simp) ?_; refine AllReady.cons rfl (fun K hK => ?_) AllReady.nil
  go_simp
  refine hK _ _ ?_; clear hK K; refine wpAny_ready (rs := [32]) (by kernel_rfl) (by simp) ?_; refine AllReady.cons rfl (fun K hK => ?_) AllReady.nil
  go_simp
  refine hK _ _ ?_; clear hK K; refine wpAny_done (by kernel_rfl) ?_ _; go_wp2_with fail
  go_ret
  exact .inl ⟨HN.out,rfl,za C.out.gb z.out⟩
 ·have HM : ∀ (r : Rule) (g : Nat) (w : World),qK r = some g -> RV w y (free y v) r (.func (.func g) #[ptr y] #[]) := fun r g w hr => .meth r g hr
  have Q := fun w => HM .act _ w rfl
  have j := fun w => HM .typeName _ w rfl
  have d := fun w => HM .typeNameOrNone _ w rfl
  clear HM; clear h hf ha
  go_enter Tryz.func113,Tryz.ntmps113
  go_wp2_with fail; have B0 : Hid (Box (w.alloc (.cells #[.int .i64 7,.string ⟨x.toArray⟩,.int .i64 m,.int .i64 p,.slice a f.length c] 24)) w.heap.size (.mk 7 x m p f) (.slice a f.length c)) := Box.new w (.mk 7 x m p f) (.slice a f.length c) 24; refine wp_region_held_drew (S := (fun w' => w'.cell? ⟨w.heap.size,0,none⟩ = some (.int .i64 7) /\ w'.cell? ⟨w.heap.size,1,none⟩ = some (.string ⟨x.toArray⟩) /\ w'.cell? ⟨w.heap.size,2,none⟩ = some (.int .i64 m) /\ w'.cell? ⟨w.heap.size,3,none⟩ = some (.int .i64 p) /\ w'.cell? ⟨w.heap.size,4,none⟩ = some (.slice a f.length c))) (by kernel_rfl) ?_ (fun hHeld => ?_)
  ·exact (B0.out.kept (ze (zj (w.alloc _) none))).all5
  refine rd 0 rfl fun K hK => ?_
  go_simp
  refine hK.out _ _ hHeld fun hHeld => ?_
  clear hK K; refine rd 1 rfl fun K hK => ?_
  go_simp
  refine hK.out _ _ hHeld fun hHeld => ?_
  clear hK K; refine rd 2 rfl fun K hK => ?_
  go_simp
  refine hK.out _ _ hHeld fun hHeld => ?_
  clear hK K; refine rd 3 rfl fun K hK => ?_
  go_simp
  refine hK.out _ _ hHeld fun hHeld => ?_
  clear hK K; refine tq 4 ?_; refine tq 5 ?_; refine rd 6 rfl fun K hK => ?_
  go_simp
  go_at_call 105; refine (xk y lb (.mk 7 x m p f) _ 1 _ (C.out.grown (ze gan)).c0 (C.out.grown (ze gan)).lex HF.out ⟨_,_,_,rfl⟩).mono ?_; rintro e w1 ⟨rfl,u⟩; rw [G]; have z := zb (za (ze gan) u); have H := zb (B0.out.kept (za (ze (zj (w.alloc _) none)) u)); obtain ⟨A,I,J,L,M⟩ := H.out; have N := z.out.size; have O := zc A; clear u; refine hK.out _ _ H.out.all5 fun hHeld => ?_
  clear hK K; refine rd 7 rfl fun K hK => ?_
  go_simp
  refine hK.out _ _ hHeld fun hHeld => ?_
  clear hK K; refine rd 8 rfl fun K hK => ?_
  go_simp
  refine hK.out _ _ hHeld fun hHeld => ?_
  clear hK K; refine tq 9 ?_; refine tq 10 ?_; refine tq 11 ?_; refine tq 12 ?_; refine tq 13 ?_; refine tq 14 ?_; refine tq 17 ?_; refine tq 18 ?_; refine tq 19 ?_; refine tq 20 ?_; refine tq 21 ?_; refine tq 22 ?_; refine tq 25 ?_; refine tq 26 ?_; refine tq 27 ?_; refine rd 15 rfl fun K hK => ?_
  go_simp
  go_at_call 109
  with_reducible refine (xM y _ v 8 1 .typeName _ (by first | omega | (simp; omega)) (fun b hb => by have := D.out b hb; first | omega | (simp; omega)) (j _)).mono ?_
  rintro e w2 ⟨g2,c4,c5,rfl,r2,R⟩; have s := za (show World.grownBy w1 _ none from grn) R; have U := zb (za z.out s); have R2 := zb r2; have B2 := zb (H.out.kept s); obtain ⟨V,_,_,_,_⟩ := B2.out; have b1 := U.out.size; have b2 := zc V; clear R r2 s; refine hK.out _ _ B2.out.all5 fun hHeld => ?_
  clear hK K; refine rd 16 rfl fun K hK => ?_
  go_simp
  go_at_call 107
  with_reducible refine (xz y _ v (.declared 8 1 .typeName) _ (by first | omega | (simp; omega)) (fun b hb => by have := D.out b hb; first | omega | (simp; omega)) (R2.out.grown grn)).mono ?_
  rintro e w3 ⟨g3,c6,c7,rfl,r3,X⟩; have s := za (show World.grownBy w2 _ none from grn) X; have Y := zb (za U.out s); have E := zb r3; have B3 := zb (B2.out.kept s); obtain ⟨Z,_,_,_,_⟩ := B3.out; have b3 := Y.out.size; have b4 := zc Z; clear X r3 s; refine hK.out _ _ B3.out.all5 fun hHeld => ?_
  clear hK K; refine rd 23 rfl fun K hK => ?_
  go_simp
  go_at_call 109
  with_reducible refine (xM y _ v 6 0 .typeName _ (by first | omega | (simp; omega)) (fun b hb => by have := D.out b hb; first | omega | (simp; omega)) (j _)).mono ?_
  rintro e w4 ⟨g4,c8,c9,rfl,r4,a0⟩; have s := za (show World.grownBy w3 _ none from grn) a0; have a1 := zb (za Y.out s); have R4 := zb r4; have E := zb (E.out.grown s); have B4 := zb (B3.out.kept s); obtain ⟨a2,_,_,_,_⟩ := B4.out; have b5 := a1.out.size; have b6 := zc a2; clear a0 r4 s; refine hK.out _ _ B4.out.all5 fun hHeld => ?_
  clear hK K; refine rd 24 rfl fun K hK => ?_
  go_simp
  go_at_call 107
  with_reducible refine (xz y _ v (.declared 6 0 .typeName) _ (by first | omega | (simp; omega)) (fun b hb => by have := D.out b hb; first | omega | (simp; omega)) (R4.out.grown grn)).mono ?_
  rintro e w5 ⟨g5,d0,d1,rfl,r5,a3⟩; have s := za (show World.grownBy w4 _ none from grn) a3; have a4 := zb (za a1.out s); have R5 := zb r5; have E := zb (E.out.grown s); have B5 := zb (B4.out.kept s); obtain ⟨a5,_,_,_,_⟩ := B5.out; have b7 := a4.out.size; have b8 := zc a5; clear a3 r5 s; refine hK.out _ _ B5.out.all5 fun hHeld => ?_
  clear hK K; refine rd 28 rfl fun K hK => ?_
  go_simp
  go_at_call 107
  with_reducible refine (xz y _ v .act _ (by first | omega | (simp; omega)) (fun b hb => by have := D.out b hb; first | omega | (simp; omega)) (Q _)).mono ?_
  rintro e w6 ⟨g6,d2,d3,rfl,r6,a6⟩; have s := za (show World.grownBy w5 _ none from grn) a6; have B := zb (za a4.out s); have R6 := zb r6; have E := zb (E.out.grown s); have R5 := zb (R5.out.grown s); have B6 := zb (B5.out.kept s); obtain ⟨a7,_,_,_,_⟩ := B6.out; have c1 := B.out.size; have c2 := zc a7; clear a6 r6 s; refine hK.out _ _ B6.out.all5 fun hHeld => ?_
  clear hK K; refine rd 29 rfl fun K hK => ?_
  go_simp
  refine hK.out _ _ ((B6.out.kept gan).all5) fun hHeld => ?_
  clear hK K; refine rd 30 rfl fun K hK => ?_
  go_simp
  go_at_call 106; refine (uN w0 y lb ob _ l v (.mk 7 x m p f) _ [(.list (.declared 8 1 .typeName)),.typeNameOrNone,(.list (.declared 6 0 .typeName)),(.list .act)] _ (C.out.grown (zf B.out _)) F (by decide) HA.out (RL.new4 _ _ (E.out.grown gan) (d _) (R5.out.grown gan) (R6.out.grown gan) (by first | omega | (simp; omega)) (fun b hb => by have := D.out b hb; first | omega | (simp; omega)))).mono ?_; rintro e a9 ⟨b9,rfl,h9⟩; have B9 := zb (Box.past (B6.out.kept gan) ⟨by omega,fun e => by have := D.out _ e; omega⟩ h9); refine hK.out _ _ B9.out.all5 fun hHeld => ?_
  clear hK K; refine rd 31 rfl fun K hK => ?_
  go_simp
  refine hK.out _ _ hHeld fun hHeld => ?_
  clear hK K; refine rd 32 rfl fun K hK => ?_
  go_simp
  refine hK.out _ _ hHeld fun hHeld => ?_
  clear hK K; refine wpAnyH_done (by kernel_rfl) ?_ _
  all_goals
   have H9 := zb h9; clear h9
   rcases H9.out with ⟨rfl,b0,hg⟩ | ⟨rfl,a8,v9,j9,k9⟩
   ·go_wp2_with fail
    go_ret
    exact .inl ⟨HS.out.trans (zm (by rw [yd (t := (.mk 7 x m p f)) (k := 7) rfl,G]; exact (Bool.true_and _).trans (yT (n := 4) b0))),rfl,za C.out.gb (za (zf B.out _) hg)⟩
   ·have J9 := zb j9
    have K9 : Hid (JK y v w a9 v9) := (JK.grown (zf B.out _)).trans k9; clear j9 k9 H9; go_wp2_with fail
    go_ret
    exact .inr ⟨_,v9,HS.out.trans (zH (by rw [yd (t := (.mk 7 x m p f)) (k := 7) rfl,G]; exact (Bool.true_and _).trans (yy (n := 4) a8))),rfl,J9.out,K9.out⟩
theorem ti (w0 : World) (jb lb ob : Nat) (w : World) (l : List (T × Rule)) (v : Value) (kd : Int) (x : Bs) (m p : Int) (ts : List T) (sv : Value) (h : JS w0 jb lb ob w l v) (_hlen : l.length + ts.length <= 20000) (hf : Fits (.mk kd x m p ts)) (ha : AT w0 (T.mk kd x m p ts).subs sv) (h7 : ¬ kd = 7) :
  Calls Tryz.prog 113 #[ptr jb,.agg #[.int .i64 kd,.string ⟨x.toArray⟩,.int .i64 m,.int .i64 p,sv]] w (JR w0 jb lb ob l v w .procedure (.mk kd x m p ts)) := by
 have d := zb h; have j := zb hf; have k := zb ha; have f := h.lt
 have r : Hid (∀ b,v.ownBlock = some b -> b < w.heap.size) := fun b hb => (h.room hb).2
 obtain ⟨_,n,_,rfl,_,_,a⟩ := ha.any
 change ts.length = n at a
 subst a
 have g : Hid (zw .procedure (.mk kd x m p ts) = none) := by show _ = _; rw [show zw .procedure (.mk kd x m p ts) = zt _ _ from rfl]; exact zm (by simp [zk,T.kind,h7])
 have i : (kd == 7) = false := by simpa using h7
 clear h hf ha
 go_enter Tryz.func113,Tryz.ntmps113
 go_wp2_with fail
 go_quiet (fail)
 go_wp2_with fail
 go_ret
 exact .inl ⟨g.out,rfl,za d.out.gb (yl gan _)⟩
theorem ql : RuleSays 113 .procedure := by
 intro d f g i w l v t j h a k n; obtain ⟨r,x,m,p,b⟩ := t
 change l.length + b.length <= 20000 at a
 by_cases s : r = 7
 ·subst s; exact tm d f g i w l v x m p b j h a k n
 exact ti d f g i w l v r x m p b j h a k n s
end Go.Proofs.YtifapidjkelnfaaGreatDoor
