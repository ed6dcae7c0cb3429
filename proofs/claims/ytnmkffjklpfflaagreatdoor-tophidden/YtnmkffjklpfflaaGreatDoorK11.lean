/- Declarations: the head of a procedure. -/
import Derived.Test.YtnmkffjklpfflaaGreatDoorK09
namespace Go.Proofs.YtnmkffjklpfflaaGreatDoor
open Go.RowKit
set_option maxHeartbeats 4000000
set_option maxRecDepth 100000
section
variable {ρ : Lay} {w w' w1 : World} {S : KS} {b : Nat} {c : KSc}
theorem pu {mm : Nat} {ci : Option Nat} {rv : Value} (h : CB ρ w S b ⟨mm,ci⟩ rv) (n : T) (sv : Value) (hf : Fits n) (hk : S.okB = true) {S' : KS} (ha : AF ρ.tr w n.subs sv) (hl4 : 4 <= n.subs.length) (hC : S.headC mm n = some S') :
  Calls Tryz.prog 75 #[.pointer (some ⟨b,0,none⟩),zn n sv] w (fun e w' => ∃ ρ',Stp False ρ w S ρ' w' S' /\ CB ρ' w' S' b ⟨mm,some S.prs.length⟩ rv /\ e = .returned (.pointer (some ⟨ρ'.pr S.prs.length,0,none⟩))) := by
 have HK := ze h; have HB := ze hk; have HF := ze hf; obtain ⟨S1,S2,S3,f5,c9,h3,f6,O⟩ := tu hC; obtain ⟨va,vc,rfl,-,-⟩ := ha.at.form; obtain ⟨g,o,rfl,a9,t⟩ := ha.nodes (by omega); obtain ⟨u0,f7⟩ : ∃ u,n.subs[0]? = some u := ⟨_,List.getElem?_eq_getElem (by omega)⟩; obtain ⟨Q,f8⟩ : ∃ u,n.subs[1]? = some u := ⟨_,List.getElem?_eq_getElem (by omega)⟩; obtain ⟨u3,f9⟩ : ∃ u,n.subs[3]? = some u := ⟨_,List.getElem?_eq_getElem (by omega)⟩; rw [xR f7] at f6; rw [xR f8] at O; rw [xR f9] at f5; obtain ⟨s0,n0,-,a0⟩ := t 0 u0 f7; obtain ⟨_,n1,f1,a1⟩ := t 1 Q f8; obtain ⟨s3,n3,-,a3⟩ := t 3 u3 f9; obtain ⟨m7,c0,rfl,_,m8⟩ := a0.at.form; obtain ⟨g0,c1,rfl,-,-⟩ := a1.at.form; obtain ⟨E,c3,rfl,-,-⟩ := a3.at.form
 unfold maxLen at m8
 rw [Nat.zero_mul,Nat.add_zero] at n0; have n1 : Node5 w g (o + 5) Q (.slice g0 Q.subs.length c1) := n1; have m9 := ze n0; have n2 := ze n1; have n4 := ze n3; have n6 := ze a0; have n7 := ze a1; have n8 := ze a3; have n9 := ze f1; have g1 := ze f5; have h4 := ze c9; have g2 := ze h3; have h5 := ze f6; have d5 := ze O; have o0 := h.ck.hc; have o1 : Hid (w.cell? ⟨b,1,none⟩ = some (.pointer (some ⟨ρ.md mm,0,none⟩))) := h.ck.s1; obtain ⟨av,iv,dv,b0,-⟩ := (h.ck.km.md mm o0).bk; have o2 : Hid (w.cell? ⟨ρ.md mm,0,none⟩ = some (.pointer (some ⟨ρ.wd,0,none⟩))) := b0.c 0 _ rfl; have o3 : Hid (w.cell? ⟨ρ.md mm,1,none⟩ = some (.pointer (some ⟨ρ.md mm,0,none⟩))) := b0.c 1 _ rfl; have o4 : Hid (w.cell? ⟨ρ.md mm,2,none⟩ = some (.map none)) := b0.c 2 _ rfl; obtain ⟨f,g3⟩ : ∃ z,z = S.prs.length := ⟨_,rfl⟩; rw [<- g3] at g2 h5 d5; have F := ze g3; clear g3 h hk hf ha hC f5 c9 h3 f6 O n0 n1 n3 a0 a1 a3 f1 b0 t f7 f8 f9; obtain ⟨kd,x,m,p,l⟩ := n
 change Calls Tryz.prog 75 #[.pointer (some ⟨b,0,none⟩),.agg #[.int .i64 kd,.string ⟨x.toArray⟩,.int .i64 m,.int .i64 p,.slice (some ⟨g,o,none⟩) l.length vc]] w _
 obtain ⟨i,R⟩ : ∃ z,z = w.alloc (.cells #[.int .i64 kd,.string ⟨x.toArray⟩,.int .i64 m,.int .i64 p,.slice (some ⟨g,o,none⟩) l.length vc] 100) := ⟨_,rfl⟩
 have G0 : Hid (w.grownBy i none) := by rw [R]; exact zf (zc w none) _
 have B0 : Hid (Box i w.heap.size (.mk kd x m p l) (.slice (some ⟨g,o,none⟩) l.length vc)) := by rw [R]; exact Box.new w (.mk kd x m p l) (.slice (some ⟨g,o,none⟩) l.length vc) _
 change 4 <= l.length at hl4
 have r9 : ¬ ((l.length : Int) <= 3) := by omega
 have s5 : ¬ ((l.length : Int) <= 1) := by omega
 have s6 : ¬ ((l.length : Int) <= 0) := by omega
 have s7 : w.heap.size < i.heap.size := by rw [R]; simp
 go_enter Tryz.func75,Tryz.ntmps75
 go_wp2_with fail; rw [<- R]; clear R; refine wp_region_held_drew (S := fun w9 => i.grownBy w9 none) (by kernel_rfl) ?_ (fun hHeld => ?_)
 ·exact zh (zc i none)
 refine kQ 0 9 (.pointer (some ⟨b,0,none⟩)) hHeld ?_; simp only [qA,qB,qC,qD]; refine kQ 1 10 (.pointer (some ⟨b,0,none⟩)) hHeld ?_; simp only [qA,qB,qC,qD]; refine kQ 2 11 (.pointer (some ⟨b,0,none⟩)) hHeld ?_; simp only [qA,qB,qC,qD]; refine kQ 3 12 (.pointer (some ⟨b,1,none⟩)) hHeld ?_; simp only [qA,qB,qC,qD]; refine dk 4 (some 13) (.pointer (some ⟨ρ.md mm,0,none⟩)) rfl rfl (fun w9 hS => by have q1 := zi (za G0.out hS) o1.out; go_simp) hHeld ?_; simp only [qA,qB,qC,qD]; refine kQ 5 14 (.pointer (some ⟨ρ.md mm,0,none⟩)) hHeld ?_; simp only [qA,qB,qC,qD]; refine kQ 6 15 (.pointer (some ⟨ρ.md mm,0,none⟩)) hHeld ?_; simp only [qA,qB,qC,qD]; refine kQ 7 16 (.pointer (some ⟨ρ.md mm,0,none⟩)) hHeld ?_; simp only [qA,qB,qC,qD]; refine dk 8 (some 17) (.agg #[.pointer (some ⟨ρ.wd,0,none⟩),.pointer (some ⟨ρ.md mm,0,none⟩),.map none]) rfl rfl (fun w9 hS => by have q1 := zi (za G0.out hS) o2.out; have q2 := zi (za G0.out hS) o3.out; have q3 := zi (za G0.out hS) o4.out; go_simp) hHeld ?_; simp only [qA,qB,qC,qD]; refine kQ 9 18 (.pointer (some ⟨w.heap.size,4,none⟩)) hHeld ?_; simp only [qA,qB,qC,qD]; refine dk 10 (some 19) (.slice (some ⟨g,o,none⟩) l.length vc) rfl rfl (fun w9 hS => by obtain ⟨q0,q1,q2,q3,q4⟩ := (Box.kept B0.out hS).plain; go_simp) hHeld ?_; simp only [qA,qB,qC,qD]; refine kQ 11 20 (.pointer (some ⟨g,o + 15,none⟩)) hHeld ?_; simp only [qA,qB,qC,qD]; refine kQ 12 21 (.pointer (some ⟨g,o + 19,none⟩)) hHeld ?_; simp only [qA,qB,qC,qD]; refine dk 13 (some 22) (.slice E u3.subs.length c3) rfl rfl (fun w9 hS => by have q1 := zi (za G0.out hS) n4.out.c4; go_simp) hHeld ?_; simp only [qA,qB,qC,qD]
 refine kQ 14 23 (.agg #[.pointer (some ⟨ρ.wd,0,none⟩),.pointer (some ⟨ρ.md mm,0,none⟩),.map none,.slice E u3.subs.length c3,.int .i64 0]) hHeld ?_; simp only [qA,qB,qC,qD]; refine kQ 15 24 (.agg #[.pointer (some ⟨ρ.wd,0,none⟩),.pointer (some ⟨ρ.md mm,0,none⟩),.map none,.slice E u3.subs.length c3,.int .i64 0,.slice none 0 0,.pointer none]) hHeld ?_; simp only [qA,qB,qC,qD]; refine rd 16 rfl fun KK hKK => ?_
 go_simp
 refine hKK.out _ _ (zh (zf (zc i none) _)) fun hHeld => ?_
 clear hKK KK; refine kQ 17 5 (.pointer (some ⟨i.heap.size,0,none⟩)) hHeld ?_; simp only [qA,qB,qC,qD]; refine wpAnyH_done (by kernel_rfl) ?_ _; clear hHeld; have o5 := @run_makeMap Tryz.prog; go_wp2_with fail; clear o5; obtain ⟨A,I⟩ : ∃ z,z = ((i.alloc (.cells #[.pointer (some ⟨ρ.wd,0,none⟩),.pointer (some ⟨ρ.md mm,0,none⟩),.map (some (i.heap.size + 1)),.slice E u3.subs.length c3,.int .i64 0,.slice none 0 0,.pointer none] 136)).alloc (.map #[] 0)).drew := ⟨_,rfl⟩; rw [<- I]
 have h6 : Hid (i.grownBy A none) := by rw [I]; exact zh (zf (zf (zc i none) _) _)
 have h7 := ze (za G0.out h6.out)
 have P3 : Hid (Bk A i.heap.size [.pointer (some ⟨ρ.wd,0,none⟩),.pointer (some ⟨ρ.md mm,0,none⟩),.map (some (i.heap.size + 1)),.slice E u3.subs.length c3,.int .i64 0,.slice none 0 0,.pointer none]) := by
  rw [I]
  exact (((Bk.new i _ _ rfl)).kept (zf (zc _ none) _) (by simp)).drew
 have M3 : Hid (MapAt A (i.heap.size + 1) []) := by
  rw [I]; have d := MapAt.new (i.alloc (.cells #[.pointer (some ⟨ρ.wd,0,none⟩),.pointer (some ⟨ρ.md mm,0,none⟩),.map (some (i.heap.size + 1)),.slice E u3.subs.length c3,.int .i64 0,.slice none 0 0,.pointer none] 136)); rw [show (i.alloc (.cells #[.pointer (some ⟨ρ.wd,0,none⟩),.pointer (some ⟨ρ.md mm,0,none⟩),.map (some (i.heap.size + 1)),.slice E u3.subs.length c3,.int .i64 0,.slice none 0 0,.pointer none] 136)).heap.size = i.heap.size + 1 by simp] at d
  exact d.kept (zh (zc _ none)) (by simp)
 have s8 : i.heap.size + 1 < A.heap.size := by rw [I]; simp
 have j0 : Hid (Box A w.heap.size (.mk kd x m p l) (.slice (some ⟨g,o,none⟩) l.length vc)) := B0.out.kept h6.out; clear I; obtain ⟨ρ1,b1⟩ : ∃ z,z = ρ.addPr f i.heap.size (i.heap.size + 1) := ⟨_,rfl⟩
 have J : Hid (Stp True ρ w S ρ1 A S1) := by
  have d := h4.out; rw [b1,show f = _ from F.out]; rw [show S1 = _ from g1.out] at d ⊢
  exact Stp.addPr HK.out.ck.km HB.out h7.out P3.out (n8.out.kept h7.out (fun _ e => by cases e)) M3.out rfl rfl (by omega) (by omega) (by omega) d
 have d6 : ρ1.pr f = i.heap.size := by rw [b1]; simp [Lay.addPr]
 have g4 : Hid (CB ρ1 A S1 b ⟨mm,ci⟩ rv) := HK.out.step J.out; have o6 : ρ1.col A.heap.size = none := J.out.km.fr _ (Nat.le_refl _)
 have g5 : ρ1.col w.heap.size = none := by
  rw [b1]; simp only [Lay.addPr]; rw [if_neg (by omega),if_neg (by omega)]
  exact HK.out.ck.km.fr _ (Nat.le_refl _)
 have j1 : f < S1.prs.length := by rw [show S1 = _ from g1.out]; simp [KS.addPr,show f = _ from F.out]
 have o7 : Hid ((S1.pr f).home = mm) := by
  show _ = _
  rw [show S1 = _ from g1.out,show f = _ from F.out,show (S.addPr _).pr S.prs.length = _ from xF _ _ _]
 clear b1; have G3 : Hid (A.grownBy A none) := zc A none; go_wp2_with fail; refine wp_region_held_drew (S := fun w9 => Sm A w9 (Kp ρ1 True)) (by kernel_rfl) ?_ (fun hHeld => ?_)
 ·exact (Sm.refl A _).drew
 refine kQ 0 32 (.pointer (some ⟨b,0,none⟩)) hHeld ?_; simp only [qA,qB,qC,qD]; refine kQ 1 33 (.pointer (some ⟨b,0,none⟩)) hHeld ?_; simp only [qA,qB,qC,qD]; refine kQ 2 34 (.pointer (some ⟨b,0,none⟩)) hHeld ?_; simp only [qA,qB,qC,qD]; refine dk 3 (some 35) (.agg #[.int .i64 kd,.string ⟨x.toArray⟩,.int .i64 m,.int .i64 p,.slice (some ⟨g,o,none⟩) l.length vc]) rfl rfl (fun w9 hS => by obtain ⟨q0,q1,q2,q3,q4⟩ := (Box.sm j0.out hS (.inl g5)).plain; go_simp) hHeld ?_; simp only [qA,qB,qC,qD]; refine kQ 4 36 (.pointer (some ⟨i.heap.size,0,none⟩)) hHeld ?_; simp only [qA,qB,qC,qD]; refine kQ 5 37 (.agg #[.int .i64 4,.string ⟨#[]⟩,.bool false,.pointer none,.pointer none,.int .i32 0,.int .i64 0,.bool false,.pointer (some ⟨i.heap.size,0,none⟩),.bool false,.pointer none]) hHeld ?_; simp only [qA,qB,qC,qD]; refine rd 6 rfl fun KK hKK => ?_
 go_simp
 refine hKK.out _ _ (Sm.of_none (zh (zf (zc A none) _)) _) fun hHeld => ?_
 clear hKK KK; obtain ⟨wa,s⟩ : ∃ z,z = (A.alloc (.cells #[.int .i64 4,.string ⟨#[]⟩,.bool false,.pointer none,.pointer none,.int .i32 0,.int .i64 0,.bool false,.pointer (some ⟨i.heap.size,0,none⟩),.bool false,.pointer none] 90)).drew := ⟨_,rfl⟩; rw [<- s] at hHeld ⊢
 have GA : Hid (A.grownBy wa none) := by rw [s]; exact zh (zf (zc A none) _)
 have TA : Hid (Bk wa A.heap.size (thV ρ1 { th0 with kind := 4,proc := some f })) := by
  rw [s]; refine Bk.drew (Bk.new A _ _ ?_)
  unfold thV Lay.prP
  rw [Option.map_some,d6]
  rfl
 clear s; refine rd 7 rfl fun KK hKK => ?_
 go_simp
 go_at_call 70; refine (xT GA.out (g4.out.ck.up GA.out) h4.out g4.out.col (.mk kd x m p l) (.slice (some ⟨g,o,none⟩) l.length vc) HF.out TA.out o6 (Nat.le_refl _) g2.out).mono ?_; rintro e w4 ⟨rfl,ρ4,j2,j3,o8,o9⟩; have k := ze j2; clear j2 o8 o9 j3
 go_simp
 refine hKK.out _ _ k.out.sm fun hHeld => ?_
 clear hKK KK; refine wpAnyH_done (by kernel_rfl) ?_ _; clear hHeld; have q : Hid (CB ρ4 w4 S2 b ⟨mm,ci⟩ rv) := g4.out.step k.out; have d7 : ρ4.pr f = i.heap.size := (k.out.agr.pr f j1).trans d6; have U : f < S2.prs.length := Nat.lt_of_lt_of_le j1 k.out.prs
 have j4 : (S2.pr f).home = mm := by
  obtain ⟨-,-,h8,-⟩ := jP g2.out; rw [show S2 = _ from h8]
  exact o7.out
 obtain ⟨s9,t0,V,-,-⟩ := (k.out.km.pr f U).bk; rw [d7] at V; have p0 : w4.cell? ⟨i.heap.size,0,none⟩ = some (.pointer (some ⟨ρ4.wd,0,none⟩)) := V.c 0 _ rfl
 have p1 : w4.cell? ⟨i.heap.size,1,none⟩ = some (.pointer (some ⟨ρ4.md mm,0,none⟩)) := by rw [<- j4]; exact V.c 1 _ rfl
 have p2 : w4.cell? ⟨i.heap.size,2,none⟩ = some (.map (some (ρ4.inn f))) := V.c 2 _ rfl; have q0 := q.out.bk.c 0 _ rfl; have q1 := q.out.bk.c 1 _ rfl; have q2 := q.out.bk.c 2 _ rfl; have qz := q.out.bk.z; have b2 : ρ4.col w.heap.size = none := (k.out.col _ (by omega)).trans g5; have X : ρ4.tr g := k.out.agr.col _ _ (J.out.agr.col _ _ a9); have B4 := ze (Box.step j0.out g5 k.out); have x4 := B4.out.c4; have p3 := ze ((m9.out.step a9 J.out).step (J.out.agr.col _ _ a9) k.out); have m4 := p3.out.c4
 have t1 : ¬ w.heap.size = b := fun e => by rw [e,q.out.col] at b2; cases b2
 have t2 : ¬ g = b := fun e => by unfold Lay.tr at X; rw [e,q.out.col] at X; cases X
 clear V; go_wp2_with fail; obtain ⟨w5,b3⟩ : ∃ z,z = ((w4.setCell ⟨b,0,none⟩ (.pointer (some ⟨ρ4.wd,0,none⟩))).setCell ⟨b,1,none⟩ (.pointer (some ⟨ρ4.md mm,0,none⟩))).setCell ⟨b,2,none⟩ (.map (some (ρ4.inn f))) := ⟨_,rfl⟩; rw [<- b3]
 have S5 : Hid (Sm w4 w5 (fun g => g ≠ b)) := by rw [b3]; exact (((Sm.refl w4 _).put (fun d => d rfl) _ _).put (fun d => d rfl) _ _).put (fun d => d rfl) _ _
 have Y : Hid (Stp False ρ4 w4 S2 ρ4 w5 S2) := Stp.own q.out.ck.km k.out.ok q.out.col S5.out; have p4 : Hid (CB ρ4 w5 S2 b ⟨mm,some f⟩ rv) := CB.of k.out.ok Y.out.km (by rw [b3]; exact ((q.out.bk.set 0 _).set 1 _).set 2 _) q.out.col q.out.ck.hc (fun p hp => by cases hp; exact U); have j5 : Hid (Stp False ρ w S ρ4 w5 S2) := ((J.out.less).trans k.out.less).trans Y.out; have B5 := ze (Box.step B4.out b2 Y.out); have p5 : Hid (AF ρ4.tr w5 u0.subs (.slice m7 u0.subs.length c0)) := (n6.out.step j5.out)
 have t3 : w.heap.size < w5.heap.size := by have d := Y.out.sm.size; have h8 := k.out.sm.size; omega
 clear b3 p0 p1 p2 q0 q1 q2 qz x4 m4
 go_loopw [54] (fun iv wr => ∃ (j : Nat) (ρr : Lay) (Sr : KS),j <= u0.subs.length /\ iv = .int .i64 ↑j /\ Hid (yw (KS.parC mm f) (u0.subs.drop j) Sr = some S3) /\ Hid (Stp False ρ4 w5 S2 ρr wr Sr) /\ Hid (CB ρr wr Sr b ⟨mm,some f⟩ rv) /\ Hid (ρr.pr f = i.heap.size)) (fun iv _ => u0.subs.length - (intOf iv).toNat)
 case atStart => exact ⟨0,ρ4,S2,Nat.zero_le _,rfl,h5.out,Stp.refl Y.out.km k.out.ok,p4.out,d7⟩
 case round =>
  obtain ⟨j,ρr,Sr,_,rfl,HE,ST,K,B⟩ := hrel; have r : f < Sr.prs.length := Nat.lt_of_lt_of_le U ST.out.prs
  by_cases p6 : j < u0.subs.length
  ·obtain ⟨v,hv⟩ : ∃ v,u0.subs[j]? = some v := ⟨_,List.getElem?_eq_getElem p6⟩
   obtain ⟨Sn,j6,j7⟩ := xH hv HE.out; have p7 := ze j7; obtain ⟨_,Sb,_,j8,j9,k0,d8,k1,d9⟩ := rR j6; have p8 := ze j8; have p9 := ze j9; have q5 := ze k0; have q6 := ze d8; have q7 := ze k1; have k2 := ze d9; obtain ⟨vg,_,_,e1,_,n5,fv,av⟩ := (p5.out.step ST.out).node hv; subst e1; have FV := ze fv; have AV := ze av; obtain ⟨b4,b5,rfl,-,-⟩ := av.at.form; have d0 := n5.c0; have d1 := n5.c1; have d2 := n5.c2; have d3 := n5.c3; have d4 := n5.c4; have t4 : vg < wr.heap.size := zw d0; clear n5 fv av hv j6 j7 j8 j9 k0 d8 k1 d9; go_wp2_with fail; obtain ⟨L,Z⟩ : ∃ z,z = wr.alloc (.cells #[.int .i64 v.kind,.string ⟨v.name.toArray⟩,.int .i64 v.num,.int .i64 v.at',.slice b4 v.subs.length b5] 100) := ⟨_,rfl⟩; rw [<- Z]
   have g6 : Hid (wr.grownBy L none) := by rw [Z]; exact zf (zc wr none) _
   have q8 : Hid (Box L wr.heap.size v (.slice b4 v.subs.length b5)) := by rw [Z]; exact Box.new wr v _ _
   have t5 : wr.heap.size < L.heap.size := by rw [Z]; simp
   clear Z d0 d1 d2 d3 d4; have b6 : Hid (CB ρr L Sr b ⟨mm,some f⟩ rv) := K.out.up g6.out; obtain ⟨_,g7,b7,q9,r0,k3⟩ := (b6.out.ck.km.pr f r).bk; rw [B.out] at b7; have t6 := ze b7; have t7 := ze k3; have k4 : Hid (L.cell? ⟨i.heap.size,5,none⟩ = some g7) := b7.c 5 _ rfl
   have D : ρr.col i.heap.size = some (.pr f) := by have d := (b6.out.ck.km.pr f r).col; rwa [B.out] at d
   have f0 : ρr.col wr.heap.size = none := K.out.ck.km.fr _ (Nat.le_refl _); have k5 := ze (fun w9 (G : L.grownBy w9 none) => gN (b6.out.ck.up G) v (.slice b4 v.subs.length b5) FV.out ST.out.ok b6.out.col ((AV.out.kept g6.out (fun _ e => by cases e)).kept G (fun _ e => by cases e)) p8.out p9.out q5.out q6.out); have G6 : Hid (L.grownBy L none) := zc L none; clear b7 q9 r0 k3
   skip
   refine yn [12] (S := fun w9 => Sm L w9 (fun g => ρr.col g ≠ some (.inn f) /\ ρr.col g ≠ some (.pa f))) (by kernel_rfl) ?_ (fun hHeld => ?_)
   ·exact (Sm.refl L _).drew
   refine zk 0 (some 58) (.pointer (some ⟨i.heap.size,0,none⟩)) rfl rfl (fun w9 _ => by go_simp) hHeld ?_; simp only [qA,qB,qC,qD]; refine zk 1 (some 59) (.pointer (some ⟨i.heap.size,0,none⟩)) rfl rfl (fun w9 _ => by go_simp) hHeld ?_; simp only [qA,qB,qC,qD]; refine zk 2 (some 60) (.pointer (some ⟨i.heap.size,0,none⟩)) rfl rfl (fun w9 _ => by go_simp) hHeld ?_; simp only [qA,qB,qC,qD]; refine zk 3 (some 61) (.pointer (some ⟨i.heap.size,5,none⟩)) rfl rfl (fun w9 _ => by go_simp) hHeld ?_; simp only [qA,qB,qC,qD]; refine zk 4 (some 62) g7 rfl rfl (fun w9 hS => by have q1 := Sm.cell hS k4.out ⟨by show ρr.col i.heap.size ≠ _; rw [D]; nofun,by show ρr.col i.heap.size ≠ _; rw [D]; nofun⟩; go_simp) hHeld ?_; simp only [qA,qB,qC,qD]; refine zk 5 (some 63) (.pointer (some ⟨b,0,none⟩)) rfl rfl (fun w9 _ => by go_simp) hHeld ?_; simp only [qA,qB,qC,qD]; refine zk 6 (some 64) (zn v (.slice b4 v.subs.length b5)) rfl rfl (fun w9 hS => by obtain ⟨q0,q1,q2,q3,q4⟩ := Box.sm q8.out hS ⟨by rw [f0]; nofun,by rw [f0]; nofun⟩; go_simp) hHeld ?_; simp only [qA,qB,qC,qD]; refine zr 7 (by kernel_rfl) rfl (fun KK hKK => ?_)
   go_simp
   go_at_call 107; refine (k5.out _ (zh G6.out)).mono ?_; rintro e N ⟨ρ7,k6,rfl,k7⟩; have S7 : Hid (Sm L N (fun g => ρr.col g ≠ some (.inn f) /\ ρr.col g ≠ some (.pa f))) := ((Sm.of_none (zh G6.out) _).trans k7).mono (fun g _ d => d.1); have C : Hid (Stp True ρr L Sr ρ7 N Sb) := k6.ahead (zh G6.out); clear k6 k7; have a2 : f < Sb.prs.length := Nat.lt_of_lt_of_le r C.out.prs; have H : ρ7.pr f = i.heap.size := (C.out.agr.pr f r).trans B.out; obtain ⟨_,b8,b9,k8,k9,l0⟩ := (C.out.km.pr f a2).bk; rw [H] at b9
   obtain rfl : b8 = g7 := by
    have d := S7.out.cell k4.out ⟨by show ρr.col i.heap.size ≠ _; rw [D]; nofun,by show ρr.col i.heap.size ≠ _; rw [D]; nofun⟩; have h8 : N.cell? ⟨i.heap.size,5,none⟩ = some b8 := b9.c 5 _ rfl; rw [d] at h8
    exact (Option.some.inj h8).symm
   have l1 := ze b9; have r1 := ze k8; have g8 : Hid (RowAt ρ7 N _ 1 b8 _ _ (.pa f)) := ⟨k9,l0⟩; have f2 : ρ7.col i.heap.size = some (.pr f) := C.out.agr.col _ _ D; clear b9 k8 k9 l0
   go_simp
   refine hKK.out _ _ S7.out fun hHeld => ?_
   clear hKK KK; refine zr 8 (by kernel_rfl) rfl (fun KK hKK => ?_)
   go_simp
   refine hKK.out _ _ ((S7.out).trans (Sm.of_none (zf (zc N none) _) _)) fun hHeld => ?_
   clear hKK KK; obtain ⟨wa,s⟩ : ∃ z,z = N.alloc (.cells #[.pointer (some ⟨ρ7.th Sr.ths.length,0,none⟩)] 86) := ⟨_,rfl⟩; rw [<- s] at hHeld ⊢
   have A7 : Hid (N.grownBy wa none) := by rw [s]; exact zf (zc N none) _
   have ca : wa.cell? ⟨N.heap.size,0,none⟩ = some (.pointer (some ⟨ρ7.th Sr.ths.length,0,none⟩)) := by rw [s]; exact Bk.c (vs := [.pointer (some ⟨ρ7.th Sr.ths.length,0,none⟩)]) (Bk.new N _ _ rfl) 0 _ rfl
   have t8 : N.heap.size < wa.heap.size := by rw [s]; simp
   clear s; refine zr 9 (by kernel_rfl) rfl (fun KK hKK => ?_); refine gJ 83 86 Tryz.underlying83 Tryz.infoThingP rfl _ _ rfl (v := b8) (g := N.heap.size) rfl rfl (zZ g8.out.1 (Sm.of_none A7.out (fun _ => True)) (fun _ _ => trivial)) ca (by have d := ((KS.okP C.out.ok).prP a2).2; omega) ?_; intro v8 w8 a4 a5 f3; have S8 : Hid (Sm wa w8 (fun g => ρ7.col g ≠ some (.pa f))) := (Sm.refl wa _).gbn a5 (fun g hg d => d (g8.out.2 g hg)); refine hKK.out _ _ ((S7.out.trans (Sm.of_none A7.out _)).comp S8.out (fun g hg d => by rw [C.out.col g hg]; exact d.2)) fun hHeld => ?_
   clear hKK KK
   obtain ⟨a8,c8,rfl⟩ : ∃ aa cc,v8 = .slice aa ((Sb.pr f).pars.length + 1) cc := by
    rcases a4.2 with ⟨_,d⟩ | ⟨g,t9,u2,d,_⟩
    ·omega
    ·exact ⟨_,_,d⟩
   have O8 := ze a4; have r2 := ze f3; have a6 := ze ((l1.out.kept A7.out (by simp)).sm S8.out (by rw [f2]; nofun)); clear a4 f3 a5 ca; refine zr 10 (by kernel_rfl) rfl (fun KK hKK => ?_)
   go_simp
   refine hKK.out _ _ hHeld (fun hHeld => ?_); clear hKK KK; refine zr 11 (by kernel_rfl) rfl (fun KK hKK => ?_)
   go_simp
   refine hKK.out _ _ hHeld (fun hHeld => ?_); clear hKK KK; have e5 := a6.out.c 5 _ rfl; have ez := a6.out.z; refine zl 12 (by kernel_rfl) rfl rfl (fun KK hKK => ?_)
   go_simp
   refine hKK.out _ _ ?_; clear hKK KK; clear e5 ez; refine zd (by kernel_rfl) ?_ _; clear hHeld; go_wp2_with fail
   go_roundw
   case rel =>
    have l2 : ∀ g,(Value.slice a8 ((Sb.pr f).pars.length + 1) c8).ownBlock = some g -> ρ7.col g = some (.pa f) \/ wa.heap.size <= g := fun g hg => by
     rcases r2.out with d | d
     ·exact .inl (g8.out.2 g (d ▸ hg))
     ·rw [d] at hg
      cases hg
      exact .inr (Nat.le_refl _)
    have g9 : ∀ g,(Value.slice a8 ((Sb.pr f).pars.length + 1) c8).ownBlock = some g -> g ≠ i.heap.size := fun g hg e => by
     rcases l2 g hg with d | d
     ·rw [e,f2] at d; cases d
     ·have h8 := l1.out.lt
      omega
    have c5 : Stp True ρ7 wa Sb (ρ7.gr (Value.slice a8 ((Sb.pr f).pars.length + 1) c8).ownBlock (.pa f)) (w8.setCell ⟨i.heap.size,5,none⟩ (.slice a8 ((Sb.pr f).pars.length + 1) c8)) Sn := by
     have d := k2.out; rw [show Sn = _ from q7.out] at d ⊢; refine Stp.prq (C.out.km.up A7.out) C.out.ok a2 ?_ ?_ (r1.out.kept A7.out (fun _ e => by cases e)) rfl ?_ l2 d
     ·rw [H]
      exact (S8.out.mono (fun g _ d => d.2)).put (fun d => d.1 rfl) _ _
     ·rw [H]
      exact a6.out.set 5 _
     ·simp only [List.map_append,List.map_cons,List.map_nil,List.length_append,List.length_cons,List.length_nil]
      exact zZ O8.out ((Sm.refl w8 (fun g => g ≠ i.heap.size)).put (fun d => d rfl) _ _) g9
    have l3 := ((C.out.ahead g6.out).behind A7.out).trans c5
    exact ⟨j + 1,_,Sn,by omega,by go_num,p7,ST.out.trans l3.less,K.out.step l3,H⟩
   case measure => first | omega | (simp only [intOf]; omega) | (simp; omega)
  ·have hE := vt (by omega) HE.out
   subst hE; have M : Hid (Stp False ρ w S ρr wr S3) := j5.out.trans ST.out; have BX := ze (Box.step B5.out b2 ST.out); have x4 := BX.out.c4; have N1 := ze (n2.out.step a9 M.out); have m0 := N1.out.c0; have m1 : wr.cell? ⟨g,o + 6,none⟩ = _ := N1.out.c1; have m2 : wr.cell? ⟨g,o + 7,none⟩ = _ := N1.out.c2; have m3 : wr.cell? ⟨g,o + 8,none⟩ = _ := N1.out.c3; have m4 : wr.cell? ⟨g,o + 9,none⟩ = _ := N1.out.c4; have l4 := ze (n7.out.step M.out)
   rcases d5.out with ⟨h0,c6⟩ | ⟨h0,jj,l5,c6,f4⟩
   ·rw [h0] at m0
    go_wp2
    go_ret
    subst c6
    exact ⟨ρr,M.out.behind (zf (zc wr none) _),by rw [<- show f = _ from F.out]; exact K.out.up (zf (zc wr none) _),by rw [<- show f = _ from F.out,B.out]; rfl⟩
   ·have HJ := ze l5
    have r3 := ze c6; have r4 := ze f4
    have u4 : (Q.kind != 0) = true := by simpa using h0
    clear l5 c6 f4; go_wp2_with fail; obtain ⟨wx,h1⟩ : ∃ z,z = wr.alloc (.cells #[.int .i64 Q.kind,.string ⟨Q.name.toArray⟩,.int .i64 Q.num,.int .i64 Q.at',.slice g0 Q.subs.length c1] 100) := ⟨_,rfl⟩
    try rw [<- h1]
    have GX : Hid (wr.grownBy wx none) := by rw [h1]; exact zf (zc wr none) _
    clear h1; have r5 : Hid (CB ρr wx S3 b ⟨mm,some f⟩ rv) := K.out.up GX.out; have l6 := ze (vW r5.out.ck Q (.slice g0 Q.subs.length c1) n9.out ((l4.out.at).kept GX.out)); go_at_call 108; refine l6.out.mono ?_; rw [HJ.out]; rintro e w8 ⟨a5,rfl⟩; have GG := ze (za GX.out a5); have c7 := M.out.km.up GG.out; obtain ⟨_,h2,a7,l7,l8,l9⟩ := (c7.pr f r).bk; rw [B.out] at a7; have a6 := ze a7; have r6 := ze l7; have r7 := ze l8; have m5 := ze l9; have r8 := ze c7; have e6 := a7.c 6 _ rfl; have ez := a7.z
    have m6 : ρr.col i.heap.size = some (.pr f) := by have d := (c7.pr f r).col; rwa [B.out] at d
    clear a5 x4 m0 m1 m2 m3 m4 a7 l7 l8 l9 c7; go_wp2
    go_ret
    have g9 : ∀ g,h2.ownBlock = some g -> g ≠ i.heap.size := fun g hg e => by have d := m5.out g hg; rw [e,m6] at d; cases d
    have c5 : Stp True ρr w8 S3 (ρr.gr h2.ownBlock (.pa f)) (w8.setCell ⟨i.heap.size,6,none⟩ (.pointer (some ⟨ρr.ty jj,0,none⟩))) S' := by
     have d := r4.out; rw [show S' = _ from r3.out] at d ⊢; refine Stp.prq r8.out M.out.ok r ?_ ?_ r6.out rfl ?_ (fun g hg => .inl (m5.out g hg)) d
     ·rw [B.out]
      exact (Sm.refl w8 _).put (fun d => d.1 rfl) _ _
     ·rw [B.out]
      exact a6.out.set 6 _
     ·exact zZ r7.out ((Sm.refl w8 (fun g => g ≠ i.heap.size)).put (fun d => d rfl) _ _) g9
    exact ⟨_,(M.out.behind GG.out).trans c5.less,by rw [<- show f = _ from F.out]; exact (K.out.up GG.out).step c5,by rw [<- show f = _ from F.out]; rw [show (ρr.gr h2.ownBlock (.pa f)).pr f = ρr.pr f from rfl,B.out]; rfl⟩
end
end Go.Proofs.YtnmkffjklpfflaaGreatDoor
