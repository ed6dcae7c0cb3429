/- Declarations: the head of a procedure,both ways. -/
import Derived.Test.YtnmkffjklpfflaaGreatDoorG24
import Derived.Test.YtnmkffjklpfflaaGreatDoorG44
namespace Go.Proofs.YtnmkffjklpfflaaGreatDoor
open Go.RowKit
set_option maxHeartbeats 4000000
set_option maxRecDepth 100000
section
variable {ρ : Lay} {w w' w1 : World} {S : KS} {b : Nat} {c : KSc}
theorem aD {mm : Nat} {ci : Option Nat} {rv : Value} (h : CB ρ w S b ⟨mm,ci⟩ rv) (n : T) (sv : Value) (hf : Fits n) (hk : S.okB = true) (ha : AF ρ.tr w n.subs sv) (hl4 : 4 <= n.subs.length) (hw : ∀ v ∈ (sub n 0).subs,OneSub v) (hpl : (sub n 0).subs.length <= 90000) (hnm : (S.md mm).names.length < 100000) (hdl : (S.md mm).decl.length < 100000) :
  Calls Tryz.prog 75 #[pq b,zo n sv] w (fun e w' => Ends ρ w (S.headC mm n) (fun S' => ∃ ρ',Stp False ρ w S ρ' w' S' /\ CB ρ' w' S' b ⟨mm,some S.prs.length⟩ rv /\ e = .returned (pq (ρ'.pr S.prs.length))) e w') := by
 have HK := zc h; have HB := zc hk; have HF := zc hf; have F := lP hk h.ck.hc (sub n 3).subs; have hR := i5 (S := S) F; obtain ⟨O,H⟩ : ∃ z,z = S.addPr { pr0 with home := mm,acts := (sub n 3).subs } := ⟨_,rfl⟩; rw [<- H] at F hR; obtain ⟨R,j4⟩ : ∃ z,z = S.headC mm n := ⟨_,rfl⟩; rw [<- j4] at hR ⊢; obtain ⟨va,vc,rfl,-,-⟩ := ha.at.form; obtain ⟨g,o,rfl,b9,A⟩ := ha.nodes (by omega); obtain ⟨u0,c5⟩ : ∃ u,n.subs[0]? = some u := ⟨_,List.getElem?_eq_getElem (by omega)⟩; obtain ⟨L,g4⟩ : ∃ u,n.subs[1]? = some u := ⟨_,List.getElem?_eq_getElem (by omega)⟩; obtain ⟨u3,g5⟩ : ∃ u,n.subs[3]? = some u := ⟨_,List.getElem?_eq_getElem (by omega)⟩; rw [xr c5,xr g4] at hR; rw [xr c5] at hw hpl; rw [xr g5] at H; obtain ⟨s0,n0,-,a0⟩ := A 0 u0 c5; obtain ⟨_,n1,f1,a1⟩ := A 1 L g4; obtain ⟨s3,n3,-,a3⟩ := A 3 u3 g5; obtain ⟨n8,c0,rfl,_,n9⟩ := a0.at.form; obtain ⟨g6,c1,rfl,-,-⟩ := a1.at.form; obtain ⟨M,c3,rfl,-,-⟩ := a3.at.form
 unfold maxLen at n9
 rw [Nat.zero_mul,Nat.add_zero] at n0; have n1 : Node5 w g (o + 5) L (.slice g6 L.subs.length c1) := n1; have o0 := zc n0; have o1 := zc n1; have o2 := zc n3; have o3 := zc a0; have o4 := zc a1; have o5 := zc a3; have o6 := zc f1; have g7 := zc H; have j5 := zc F; have HR := zc hR; have HW := zc hw
 have j6 : Hid (∀ x,((O.addTh { th0 with kind := 4,proc := some S.prs.length,name := n.name,exp := x,home := some mm }).setMd mm { O.md mm with names := (n.name,O.ths.length) :: (O.md mm).names,decl := (O.md mm).decl ++ [O.ths.length] }).okB = true) := fun x => by
  refine cT F (by rw [H]; exact h.ck.hc) ?_ (by rw [H]; exact hnm) (by rw [H]; exact hdl); rw [H]
  simp [KS.okTh,opB,KS.addPr,th0,h.ck.hc]
 have o7 := h.ck.hc; have o8 : Hid (w.cell? ⟨b,1,none⟩ = some (pq (ρ.md mm))) := h.ck.s1; obtain ⟨av,iv,dv,c6,-⟩ := (h.ck.km.md mm o7).bk; have o9 : Hid (w.cell? ⟨ρ.md mm,0,none⟩ = some (pq ρ.wd)) := c6.c 0 _ rfl; have p3 : Hid (w.cell? ⟨ρ.md mm,1,none⟩ = some (pq (ρ.md mm))) := c6.c 1 _ rfl; have p4 : Hid (w.cell? ⟨ρ.md mm,2,none⟩ = some (.map none)) := c6.c 2 _ rfl; obtain ⟨d,g8⟩ : ∃ z,z = S.prs.length := ⟨_,rfl⟩; rw [<- g8] at HR j6 ⊢; have g9 := zc g8; clear g8 h hk hf ha H F hR j4 hw hnm hdl n0 n1 n3 a0 a1 a3 f1 c6 A c5 g4 g5; obtain ⟨kd,x,m,p,l⟩ := n
 change Calls Tryz.prog 75 #[pq b,.agg #[.int .i64 kd,.string ⟨x.toArray⟩,.int .i64 m,.int .i64 p,.slice (some ⟨g,o,none⟩) l.length vc]] w _
 obtain ⟨i,a4⟩ : ∃ z,z = w.alloc (.cells #[.int .i64 kd,.string ⟨x.toArray⟩,.int .i64 m,.int .i64 p,.slice (some ⟨g,o,none⟩) l.length vc] 100) := ⟨_,rfl⟩
 have G0 : Hid (w.grownBy i none) := by rw [a4]; exact zh grn _
 have B0 : Hid (Box i w.heap.size (.mk kd x m p l) (.slice (some ⟨g,o,none⟩) l.length vc)) := by rw [a4]; exact Box.new w (.mk kd x m p l) (.slice (some ⟨g,o,none⟩) l.length vc) _
 change 4 <= l.length at hl4
 have t3 : ¬ ((l.length : Int) <= 3) := by omega
 have t4 : ¬ ((l.length : Int) <= 1) := by omega
 have t5 : ¬ ((l.length : Int) <= 0) := by omega
 have t6 : w.heap.size < i.heap.size := by rw [a4]; simp
 go_enter Tryz.func75,Tryz.ntmps75
 go_wp2_with fail; rw [<- a4]; clear a4; refine wp_region_held_drew (S := fun w9 => i.grownBy w9 none) (by kernel_rfl) ?_ (fun hHeld => ?_)
 ·exact zf grn
 refine kQ 0 9 (pq b) hHeld ?_; refine kQ 1 10 (pq b) hHeld ?_; refine kQ 2 11 (pq b) hHeld ?_; refine kQ 3 12 (.pointer (some ⟨b,1,none⟩)) hHeld ?_; refine dk 4 (some 13) (pq (ρ.md mm)) rfl rfl (fun w9 hS => by have q1 := ze (za G0.out hS) o8.out; go_simp) hHeld ?_; refine kQ 5 14 (pq (ρ.md mm)) hHeld ?_; refine kQ 6 15 (pq (ρ.md mm)) hHeld ?_; refine kQ 7 16 (pq (ρ.md mm)) hHeld ?_; refine dk 8 (some 17) (.agg #[pq ρ.wd,pq (ρ.md mm),.map none]) rfl rfl (fun w9 hS => by have q1 := ze (za G0.out hS) o9.out; have q2 := ze (za G0.out hS) p3.out; have q3 := ze (za G0.out hS) p4.out; go_simp) hHeld ?_; refine kQ 9 18 (.pointer (some ⟨w.heap.size,4,none⟩)) hHeld ?_; refine dk 10 (some 19) (.slice (some ⟨g,o,none⟩) l.length vc) rfl rfl (fun w9 hS => by obtain ⟨q0,q1,q2,q3,q4⟩ := (Box.kept B0.out hS).plain; go_simp) hHeld ?_; refine kQ 11 20 (.pointer (some ⟨g,o + 15,none⟩)) hHeld ?_; refine kQ 12 21 (.pointer (some ⟨g,o + 19,none⟩)) hHeld ?_; refine dk 13 (some 22) (.slice M u3.subs.length c3) rfl rfl (fun w9 hS => by have q1 := ze (za G0.out hS) o2.out.c4; go_simp) hHeld ?_; refine kQ 14 23 (.agg #[pq ρ.wd,pq (ρ.md mm),.map none,.slice M u3.subs.length c3,.int .i64 0]) hHeld ?_; refine kQ 15 24 (.agg #[pq ρ.wd,pq (ρ.md mm),.map none,.slice M u3.subs.length c3,.int .i64 0,.slice none 0 0,.pointer none]) hHeld ?_; simp only [qA,qB,qC,qD]; refine rd 16 rfl fun KK hKK => ?_
 go_simp
 refine hKK.out _ _ (zf gan) fun hHeld => ?_
 clear hKK KK; refine kQ 17 5 (pq i.heap.size) hHeld ?_; simp only [qA,qB,qC,qD]; refine wpAnyH_done (by kernel_rfl) ?_ _; clear hHeld; have p6 := @run_makeMap Tryz.prog; go_wp2_with fail; clear p6; obtain ⟨I,X⟩ : ∃ z,z = ((i.alloc (.cells #[pq ρ.wd,pq (ρ.md mm),.map (some (i.heap.size + 1)),.slice M u3.subs.length c3,.int .i64 0,.slice none 0 0,.pointer none] 136)).alloc (.map #[] 0)).drew := ⟨_,rfl⟩; rw [<- X]
 have j7 : Hid (i.grownBy I none) := by rw [X]; exact zf (zh gan _)
 have j8 := zc (za G0.out j7.out)
 have P3 : Hid (Bk I i.heap.size [pq ρ.wd,pq (ρ.md mm),.map (some (i.heap.size + 1)),.slice M u3.subs.length c3,.int .i64 0,.slice none 0 0,.pointer none]) := by
  rw [X]
  exact (((Bk.new i _ _ rfl)).kept gan (by simp)).drew
 have M3 : Hid (MapAt I (i.heap.size + 1) []) := by
  rw [X]; have f := MapAt.new (i.alloc (.cells #[pq ρ.wd,pq (ρ.md mm),.map (some (i.heap.size + 1)),.slice M u3.subs.length c3,.int .i64 0,.slice none 0 0,.pointer none] 136)); rw [show (i.alloc (.cells #[pq ρ.wd,pq (ρ.md mm),.map (some (i.heap.size + 1)),.slice M u3.subs.length c3,.int .i64 0,.slice none 0 0,.pointer none] 136)).heap.size = i.heap.size + 1 by simp] at f
  exact f.kept (zf grn) (by simp)
 have t7 : i.heap.size + 1 < I.heap.size := by rw [X]; simp
 have j9 : Hid (Box I w.heap.size (.mk kd x m p l) (.slice (some ⟨g,o,none⟩) l.length vc)) := B0.out.kept j7.out; clear X; obtain ⟨ρ1,c7⟩ : ∃ z,z = ρ.addPr d i.heap.size (i.heap.size + 1) := ⟨_,rfl⟩
 have N : Hid (Stp True ρ w S ρ1 I O) := by
  have f := j5.out; rw [c7,show d = _ from g9.out]; rw [show O = _ from g7.out] at f ⊢
  exact Stp.addPr HK.out.ck.km HB.out j8.out P3.out (o5.out.kept j8.out (fun _ e => by cases e)) M3.out rfl rfl (by omega) (by omega) (by omega) f
 have f8 : ρ1.pr d = i.heap.size := by rw [c7]; simp [Lay.addPr]
 have h0 : Hid (CB ρ1 I O b ⟨mm,ci⟩ rv) := HK.out.step N.out; have p7 : ρ1.col I.heap.size = none := N.out.km.fr _ (Nat.le_refl _)
 have h1 : ρ1.col w.heap.size = none := by
  rw [c7]; simp only [Lay.addPr]; rw [if_neg (by omega),if_neg (by omega)]
  exact HK.out.ck.km.fr _ (Nat.le_refl _)
 have hpl : d < O.prs.length := by rw [show O = _ from g7.out]; simp [KS.addPr,show d = _ from g9.out]
 have p8 : Hid (O.pr d = { pr0 with home := mm,acts := u3.subs }) := by
  show _ = _
  rw [show O = _ from g7.out,show d = _ from g9.out,show (S.addPr _).pr S.prs.length = _ from xg _ _ _]
 clear c7; have G3 : Hid (I.grownBy I none) := zj I none; go_wp2_with fail; refine wp_region_held_drew (S := fun w9 => Sm I w9 (Kp ρ1 True)) (by kernel_rfl) ?_ (fun hHeld => ?_)
 ·exact (Sm.refl I _).drew
 refine kQ 0 32 (pq b) hHeld ?_; refine kQ 1 33 (pq b) hHeld ?_; refine kQ 2 34 (pq b) hHeld ?_; refine dk 3 (some 35) (.agg #[.int .i64 kd,.string ⟨x.toArray⟩,.int .i64 m,.int .i64 p,.slice (some ⟨g,o,none⟩) l.length vc]) rfl rfl (fun w9 hS => by obtain ⟨q0,q1,q2,q3,q4⟩ := (Box.sm j9.out hS (.inl h1)).plain; go_simp) hHeld ?_; refine kQ 4 36 (pq i.heap.size) hHeld ?_; refine kQ 5 37 (.agg #[.int .i64 4,.string ⟨#[]⟩,.bool false,.pointer none,.pointer none,.int .i32 0,.int .i64 0,.bool false,pq i.heap.size,.bool false,.pointer none]) hHeld ?_; simp only [qA,qB,qC,qD]; refine rd 6 rfl fun KK hKK => ?_
 go_simp
 refine hKK.out _ _ (Sm.of_none (zf gan) _) fun hHeld => ?_
 clear hKK KK; obtain ⟨wa,t⟩ : ∃ z,z = (I.alloc (.cells #[.int .i64 4,.string ⟨#[]⟩,.bool false,.pointer none,.pointer none,.int .i32 0,.int .i64 0,.bool false,pq i.heap.size,.bool false,.pointer none] 90)).drew := ⟨_,rfl⟩; rw [<- t] at hHeld ⊢
 have GA : Hid (I.grownBy wa none) := by rw [t]; exact zf gan
 have TA : Hid (Bk wa I.heap.size (thV ρ1 { th0 with kind := 4,proc := some d })) := by
  rw [t]; refine Bk.drew (Bk.new I _ _ ?_)
  unfold thV Lay.prP
  rw [Option.map_some,f8]
  rfl
 clear t; refine rd 7 rfl fun KK hKK => ?_
 go_simp
 go_at_call 70; refine (mz GA.out (h0.out.ck.up GA.out) j5.out h0.out.col (.mk kd x m p l) (.slice (some ⟨g,o,none⟩) l.length vc) HF.out TA.out p7 (Nat.le_refl _) (fun _ => j6.out _)).mono ?_; rintro e w4 (⟨B,h6⟩ | ⟨S2,B,rfl,ρ4,k0,k1,p9,q5⟩)
 ·replace h6 := h6.step N.out
  obtain ⟨q,rfl⟩ := h6.thrown
  exact ⟨rfl,Ends.no (by rw [HR.out,B]; rfl) h6⟩
 have k2 := zc B; have r := zc k0; clear k0 p9 q5 k1
 go_simp
 refine hKK.out _ _ r.out.sm fun hHeld => ?_
 clear hKK KK; refine wpAnyH_done (by kernel_rfl) ?_ _; clear hHeld; obtain ⟨R3,h2⟩ : ∃ z,z = zX (KS.parC mm d) u0.subs S2 := ⟨_,rfl⟩
 have k3 : Hid (R = R3.bind fun S3 => if L.kind = 0 then some S3 else (uS (S3.oneWordType ⟨mm,some d⟩ L)).bind fun j => xC (S3.setPr d { S3.pr d with result := some j })) := by
  show _ = _
  rw [HR.out,show O.declC _ _ _ = _ from k2.out,Option.bind_some,h2]
 have q6 := zc h2; clear h2; have s : Hid (CB ρ4 w4 S2 b ⟨mm,ci⟩ rv) := h0.out.step r.out; have f9 : ρ4.pr d = i.heap.size := (r.out.agr.pr d hpl).trans f8; have a5 : d < S2.prs.length := Nat.lt_of_lt_of_le hpl r.out.prs
 have g0 : S2.pr d = { pr0 with home := mm,acts := u3.subs } := by
  obtain ⟨-,-,h8,-⟩ := kJ k2.out; rw [show S2 = _ from h8]
  exact p8.out
 have k4 : (S2.pr d).home = mm := by rw [g0]
 obtain ⟨t8,t9,a6,-,-⟩ := (r.out.km.pr d a5).bk; rw [f9] at a6; have p0 : w4.cell? ⟨i.heap.size,0,none⟩ = some (pq ρ4.wd) := a6.c 0 _ rfl
 have p1 : w4.cell? ⟨i.heap.size,1,none⟩ = some (pq (ρ4.md mm)) := by rw [<- k4]; exact a6.c 1 _ rfl
 have p2 : w4.cell? ⟨i.heap.size,2,none⟩ = some (.map (some (ρ4.inn d))) := a6.c 2 _ rfl; have q0 := s.out.bk.c 0 _ rfl; have q1 := s.out.bk.c 1 _ rfl; have q2 := s.out.bk.c 2 _ rfl; have qz := s.out.bk.z; have c9 : ρ4.col w.heap.size = none := (r.out.col _ (by omega)).trans h1; have a7 : ρ4.tr g := r.out.agr.col _ _ (N.out.agr.col _ _ b9); have B4 := zc (Box.step j9.out h1 r.out); have x4 := B4.out.c4; have q7 := zc ((o0.out.step b9 N.out).step (N.out.agr.col _ _ b9) r.out); have m4 := q7.out.c4
 have u2 : ¬ w.heap.size = b := fun e => by rw [e,s.out.col] at c9; cases c9
 have u4 : ¬ g = b := fun e => by unfold Lay.tr at a7; rw [e,s.out.col] at a7; cases a7
 clear a6; go_wp2_with fail; obtain ⟨w5,d5⟩ : ∃ z,z = ((w4.setCell ⟨b,0,none⟩ (pq ρ4.wd)).setCell ⟨b,1,none⟩ (pq (ρ4.md mm))).setCell ⟨b,2,none⟩ (.map (some (ρ4.inn d))) := ⟨_,rfl⟩; rw [<- d5]
 have S5 : Hid (Sm w4 w5 (fun g => g ≠ b)) := by rw [d5]; exact (((Sm.refl w4 _).put (fun f => f rfl) _ _).put (fun f => f rfl) _ _).put (fun f => f rfl) _ _
 have a9 : Hid (Stp False ρ4 w4 S2 ρ4 w5 S2) := Stp.own s.out.ck.km r.out.ok s.out.col S5.out; have q8 : Hid (CB ρ4 w5 S2 b ⟨mm,some d⟩ rv) := CB.of r.out.ok a9.out.km (by rw [d5]; exact ((s.out.bk.set 0 _).set 1 _).set 2 _) s.out.col s.out.ck.hc (fun p hp => by cases hp; exact a5); have h3 : Hid (Stp False ρ w S ρ4 w5 S2) := ((N.out.less).trans r.out.less).trans a9.out; have B5 := zc (Box.step B4.out c9 a9.out); have q9 : Hid (AF ρ4.tr w5 u0.subs (.slice n8 u0.subs.length c0)) := (o3.out.step h3.out)
 have u5 : w.heap.size < w5.heap.size := by have f := a9.out.sm.size; have h8 := r.out.sm.size; omega
 clear d5 p0 p1 p2 q0 q1 q2 qz x4 m4
 go_loopw [54] (fun iv wr => ∃ (j : Nat) (ρr : Lay) (C : KS),j <= u0.subs.length /\ iv = .int .i64 ↑j /\ Hid (zX (KS.parC mm d) (u0.subs.drop j) C = R3) /\ Hid ((C.pr d).inner.length = j /\ (C.pr d).pars.length = j /\ ndB (C.pr d).inner = true) /\ Hid (Stp False ρ4 w5 S2 ρr wr C) /\ Hid (CB ρr wr C b ⟨mm,some d⟩ rv) /\ Hid (ρr.pr d = i.heap.size)) (fun iv _ => u0.subs.length - (intOf iv).toNat)
 case atStart => exact ⟨0,ρ4,S2,Nat.zero_le _,rfl,q6.out.symm,by rw [g0]; exact ⟨rfl,rfl,rfl⟩,Stp.refl a9.out.km r.out.ok,q8.out,f9⟩
 case round =>
  obtain ⟨j,ρr,C,_,rfl,HE,Y,ST,Z,D⟩ := hrel; have k : d < C.prs.length := Nat.lt_of_lt_of_le a5 ST.out.prs
  by_cases r0 : j < u0.subs.length
  ·obtain ⟨v,hv⟩ : ∃ v,u0.subs[j]? = some v := ⟨_,List.getElem?_eq_getElem r0⟩
   have r1 : Hid (∀ q,KS.parC mm d C v = some q -> zX (KS.parC mm d) (u0.subs.drop (j + 1)) q = R3) := fun q f => fJ hv HE.out f
   have r2 : Hid (C.parC' mm d v = none -> R3 = none) := fun f => HE.out.symm.trans (gP hv (by rw [rf Y.out.2.2,f]; rfl))
   have r3 := zc (HW.out v (List.mem_of_getElem? hv)); obtain ⟨vg,_,_,e1,_,n5,fv,av⟩ := (q9.out.step ST.out).node hv; subst e1; have FV := zc fv; have AV := zc av; obtain ⟨d6,d7,rfl,-,-⟩ := av.at.form; have d0 := n5.c0; have d1 := n5.c1; have d2 := n5.c2; have d3 := n5.c3; have d4 := n5.c4; have u6 : vg < wr.heap.size := zw d0; clear n5 fv av hv; go_wp2_with fail; obtain ⟨w6,b0⟩ : ∃ z,z = wr.alloc (.cells #[.int .i64 v.kind,.string ⟨v.name.toArray⟩,.int .i64 v.num,.int .i64 v.at',.slice d6 v.subs.length d7] 100) := ⟨_,rfl⟩; rw [<- b0]
   have d8 : Hid (wr.grownBy w6 none) := by rw [b0]; exact zh grn _
   have r4 : Hid (Box w6 wr.heap.size v (.slice d6 v.subs.length d7)) := by rw [b0]; exact Box.new wr v _ _
   have u7 : wr.heap.size < w6.heap.size := by rw [b0]; simp
   clear b0 d0 d1 d2 d3 d4; have d9 : Hid (CB ρr w6 C b ⟨mm,some d⟩ rv) := Z.out.up d8.out; obtain ⟨_,h4,f0,r5,r6,k5⟩ := (d9.out.ck.km.pr d k).bk; rw [D.out] at f0; have u8 := zc f0; have u9 := zc k5; have k6 : Hid (w6.cell? ⟨i.heap.size,5,none⟩ = some h4) := f0.c 5 _ rfl
   have J : ρr.col i.heap.size = some (.pr d) := by have f := (d9.out.ck.km.pr d k).col; rwa [D.out] at f
   have g1 : ρr.col wr.heap.size = none := Z.out.ck.km.fr _ (Nat.le_refl _); have k7 := zc (fun w9 (G : w6.grownBy w9 none) => (rj (d9.out.ck.up G) v (.slice d6 v.subs.length d7) FV.out ST.out.ok d9.out.col ((AV.out.kept d8.out (fun _ e => by cases e)).kept G (fun _ e => by cases e)) Y.out.2.2 r3.out (by have := Y.out.1; omega)).mono (fun _ _ f => f.or)); have G6 : Hid (w6.grownBy w6 none) := zj w6 none; clear f0 r5 r6 k5
   skip
   refine yk [12] (S := fun w9 => Sm w6 w9 (fun g => ρr.col g ≠ some (.inn d) /\ ρr.col g ≠ some (.pa d))) (by kernel_rfl) ?_ (fun hHeld => ?_)
   ·exact (Sm.refl w6 _).drew
   refine zk 0 (some 58) (pq i.heap.size) rfl rfl (fun w9 _ => by go_simp) hHeld ?_; refine zk 1 (some 59) (pq i.heap.size) rfl rfl (fun w9 _ => by go_simp) hHeld ?_; refine zk 2 (some 60) (pq i.heap.size) rfl rfl (fun w9 _ => by go_simp) hHeld ?_; refine zk 3 (some 61) (.pointer (some ⟨i.heap.size,5,none⟩)) rfl rfl (fun w9 _ => by go_simp) hHeld ?_; refine zk 4 (some 62) h4 rfl rfl (fun w9 hS => by have q1 := Sm.cell hS k6.out ⟨by show ρr.col i.heap.size ≠ _; rw [J]; nofun,by show ρr.col i.heap.size ≠ _; rw [J]; nofun⟩; go_simp) hHeld ?_; refine zk 5 (some 63) (pq b) rfl rfl (fun w9 _ => by go_simp) hHeld ?_; refine zk 6 (some 64) (zo v (.slice d6 v.subs.length d7)) rfl rfl (fun w9 hS => by obtain ⟨q0,q1,q2,q3,q4⟩ := Box.sm r4.out hS ⟨by rw [g1]; nofun,by rw [g1]; nofun⟩; go_simp) hHeld ?_; simp only [qA,qB,qC,qD]; refine zr 7 (by kernel_rfl) rfl (fun KK hKK => ?_)
   go_simp
   go_at_call 107; refine (k7.out _ (zf G6.out)).mono ?_; rintro e w7 (⟨B,h6⟩ | ⟨Sb,B,ρ7,k8,rfl,k9⟩)
   ·replace h6 := (((h6.ahead (zf G6.out)).ahead d8.out).step ST.out).step h3.out
    obtain ⟨q,rfl⟩ := h6.thrown
    exact ⟨rfl,Ends.no (by rw [k3.out,r2.out B]; rfl) h6⟩
   obtain ⟨h5,l0,l1,l2,h7⟩ := pn k B; have Q := bs l1 (p := d) (x := C.ths.length) (by rw [h7]; exact k) l2 (by rw [h5]; have := Y.out.2.1; simp only []; omega); obtain ⟨Sn,a2⟩ : ∃ z,z = Sb.setPr d { Sb.pr d with pars := (Sb.pr d).pars ++ [C.ths.length] } := ⟨_,rfl⟩; rw [<- a2] at Q; have r7 := zc (r1.out Sn (by rw [rf Y.out.2.2,B,a2]; exact if_pos (a2 ▸ Q)))
   have l3 : Hid ((Sn.pr d).inner.length = j + 1 /\ (Sn.pr d).pars.length = j + 1 /\ ndB (Sn.pr d).inner = true) := by
    have f := Y.out; rw [a2,show (Sb.setPr d _).pr d = _ from zY _ _ _ (by rw [h7]; exact k),h5]; refine ⟨by simp only [List.length_cons]; omega,by simp only [la,lc,ln]; omega,?_⟩; simp only [ndB,l0,f.2.2]
    rfl
   have r8 := zc a2; have l4 := zc Q; clear a2 Q B h5 l0 l1 l2 h7; have S7 : Hid (Sm w6 w7 (fun g => ρr.col g ≠ some (.inn d) /\ ρr.col g ≠ some (.pa d))) := ((Sm.of_none (zf G6.out) _).trans k9).mono (fun g _ f => f.1); have E : Hid (Stp True ρr w6 C ρ7 w7 Sb) := k8.ahead (zf G6.out); clear k8 k9; have b1 : d < Sb.prs.length := Nat.lt_of_lt_of_le k E.out.prs; have U : ρ7.pr d = i.heap.size := (E.out.agr.pr d k).trans D.out; obtain ⟨_,f2,f3,l5,l6,l7⟩ := (E.out.km.pr d b1).bk; rw [U] at f3
   obtain rfl : f2 = h4 := by
    have f := S7.out.cell k6.out ⟨by show ρr.col i.heap.size ≠ _; rw [J]; nofun,by show ρr.col i.heap.size ≠ _; rw [J]; nofun⟩; have h8 : w7.cell? ⟨i.heap.size,5,none⟩ = some f2 := f3.c 5 _ rfl; rw [f] at h8
    exact (Option.some.inj h8).symm
   have l8 := zc f3; have r9 := zc l5; have j0 : Hid (RowAt ρ7 w7 _ 1 f2 _ _ (.pa d)) := ⟨l6,l7⟩; have g2 : ρ7.col i.heap.size = some (.pr d) := E.out.agr.col _ _ J; clear f3 l5 l6 l7
   go_simp
   refine hKK.out _ _ S7.out fun hHeld => ?_
   clear hKK KK; refine zr 8 (by kernel_rfl) rfl (fun KK hKK => ?_)
   go_simp
   refine hKK.out _ _ ((S7.out).trans (Sm.of_none gan _)) fun hHeld => ?_
   clear hKK KK; obtain ⟨wa,t⟩ : ∃ z,z = w7.alloc (.cells #[pq (ρ7.th C.ths.length)] 86) := ⟨_,rfl⟩; rw [<- t] at hHeld ⊢
   have A7 : Hid (w7.grownBy wa none) := by rw [t]; exact zh grn _
   have ca : wa.cell? ⟨w7.heap.size,0,none⟩ = some (pq (ρ7.th C.ths.length)) := by rw [t]; exact Bk.c (vs := [pq (ρ7.th C.ths.length)]) (Bk.new w7 _ _ rfl) 0 _ rfl
   have v0 : w7.heap.size < wa.heap.size := by rw [t]; simp
   clear t; refine zr 9 (by kernel_rfl) rfl (fun KK hKK => ?_); refine kI 83 86 Tryz.underlying83 Tryz.infoThingP rfl _ _ rfl (v := f2) (g := w7.heap.size) rfl rfl (zR j0.out.1 (Sm.of_none A7.out (fun _ => True)) (fun _ _ => trivial)) ca (by have f := ((KS.okP E.out.ok).prP b1).2; omega) ?_; intro v8 w8 b2 b3 g3; have S8 : Hid (Sm wa w8 (fun g => ρ7.col g ≠ some (.pa d))) := (Sm.refl wa _).gbn b3 (fun g hg f => f (j0.out.2 g hg)); refine hKK.out _ _ ((S7.out.trans (Sm.of_none A7.out _)).comp S8.out (fun g hg f => by rw [E.out.col g hg]; exact f.2)) fun hHeld => ?_
   clear hKK KK
   obtain ⟨a8,c8,rfl⟩ : ∃ aa cc,v8 = .slice aa ((Sb.pr d).pars.length + 1) cc := by
    rcases b2.2 with ⟨_,f⟩ | ⟨g,v1,v2,f,_⟩
    ·omega
    ·exact ⟨_,_,f⟩
   have O8 := zc b2; have s5 := zc g3; have b4 := zc ((l8.out.kept A7.out (by simp)).sm S8.out (by rw [g2]; nofun)); clear b2 g3 b3 ca; refine zr 10 (by kernel_rfl) rfl (fun KK hKK => ?_)
   go_simp
   refine hKK.out _ _ hHeld (fun hHeld => ?_); clear hKK KK; refine zr 11 (by kernel_rfl) rfl (fun KK hKK => ?_)
   go_simp
   refine hKK.out _ _ hHeld (fun hHeld => ?_); clear hKK KK; have e5 := b4.out.c 5 _ rfl; have ez := b4.out.z; refine zl 12 (by kernel_rfl) rfl rfl (fun KK hKK => ?_)
   go_simp
   refine hKK.out _ _ ?_; clear hKK KK; clear e5 ez; refine zd (by kernel_rfl) ?_ _; clear hHeld; go_wp2_with fail
   go_roundw
   case rel =>
    have l9 : ∀ g,(Value.slice a8 ((Sb.pr d).pars.length + 1) c8).ownBlock = some g -> ρ7.col g = some (.pa d) \/ wa.heap.size <= g := fun g hg => by
     rcases s5.out with f | f
     ·exact .inl (j0.out.2 g (f ▸ hg))
     ·rw [f] at hg
      cases hg
      exact .inr (Nat.le_refl _)
    have j1 : ∀ g,(Value.slice a8 ((Sb.pr d).pars.length + 1) c8).ownBlock = some g -> g ≠ i.heap.size := fun g hg e => by
     rcases l9 g hg with f | f
     ·rw [e,g2] at f; cases f
     ·have h8 := l8.out.lt
      omega
    have f4 : Stp True ρ7 wa Sb (ρ7.gr (Value.slice a8 ((Sb.pr d).pars.length + 1) c8).ownBlock (.pa d)) (w8.setCell ⟨i.heap.size,5,none⟩ (.slice a8 ((Sb.pr d).pars.length + 1) c8)) Sn := by
     have f := l4.out; rw [show Sn = _ from r8.out] at f ⊢; refine Stp.prq (E.out.km.up A7.out) E.out.ok b1 ?_ ?_ (r9.out.kept A7.out (fun _ e => by cases e)) rfl ?_ l9 f
     ·rw [U]
      exact (S8.out.mono (fun g _ f => f.2)).put (fun f => f.1 rfl) _ _
     ·rw [U]
      exact b4.out.set 5 _
     ·simp only [List.map_append,List.map_cons,List.map_nil,la,lc,ln]
      exact zR O8.out ((Sm.refl w8 (fun g => g ≠ i.heap.size)).put (fun f => f rfl) _ _) j1
    have m5 := ((E.out.ahead d8.out).behind A7.out).trans f4
    exact ⟨j + 1,_,Sn,by omega,by go_num,r7,l3,ST.out.trans m5.less,Z.out.step m5,U⟩
   case measure => first | omega | (simp only [intOf]; omega) | (simp; omega)
  ·have hE : R3 = some C := by rw [<- HE.out,List.drop_eq_nil_of_le (by omega)]; rfl
   obtain ⟨S3,s6⟩ : ∃ z,z = C := ⟨_,rfl⟩; subst s6; have b5 := k3.out; rw [hE,Option.bind_some] at b5
   replace b5 := zc b5
   have K : Hid (Stp False ρ w S ρr wr S3) := h3.out.trans ST.out; have BX := zc (Box.step B5.out c9 ST.out); have x4 := BX.out.c4; have N1 := zc (o1.out.step b9 K.out); have m0 := N1.out.c0; have m1 : wr.cell? ⟨g,o + 6,none⟩ = _ := N1.out.c1; have m2 : wr.cell? ⟨g,o + 7,none⟩ = _ := N1.out.c2; have m3 : wr.cell? ⟨g,o + 8,none⟩ = _ := N1.out.c3; have m4 : wr.cell? ⟨g,o + 9,none⟩ = _ := N1.out.c4; have m6 := zc (o4.out.step K.out)
   by_cases f5 : L.kind = 0
   ·rw [f5] at m0
    go_wp2
    go_ret
    refine Ends.yes (by rw [b5.out,if_pos f5]) ⟨ρr,K.out.behind gan,Z.out.up gan,by rw [D.out]; rfl⟩
   ·have b6 := b5.out
    rw [if_neg f5] at b6
    replace b6 := zc b6
    have v3 : (L.kind != 0) = true := by simpa using f5
    go_wp2_with fail; obtain ⟨wx,j2⟩ : ∃ z,z = wr.alloc (.cells #[.int .i64 L.kind,.string ⟨L.name.toArray⟩,.int .i64 L.num,.int .i64 L.at',.slice g6 L.subs.length c1] 100) := ⟨_,rfl⟩
    try rw [<- j2]
    have GX : Hid (wr.grownBy wx none) := by rw [j2]; exact zh grn _
    clear j2; have m7 : Hid (CB ρr wx S3 b ⟨mm,some d⟩ rv) := Z.out.up GX.out; have m8 := zc (uJ m7.out.ck L (.slice g6 L.subs.length c1) o6.out ((m6.out.at).kept GX.out)); go_at_call 108; refine m8.out.mono ?_; cases f6 : S3.oneWordType ⟨mm,some d⟩ L with
    | error y =>
     intro e w8 h8; have h6 : Thw ρ w e w8 := ((Thw.cy h8).ahead GX.out).step K.out; obtain ⟨q,rfl⟩ := h6.thrown
     exact ⟨rfl,Ends.no (by rw [b6.out,f6]; rfl) h6⟩
    | ok jj =>
    rintro e w8 ⟨b3,rfl⟩; have V := zae K.out.ok k (jB m7.out.ck f6); obtain ⟨S',b7⟩ : ∃ z,z = S3.setPr d { S3.pr d with result := some jj } := ⟨_,rfl⟩; rw [<- b7] at V
    have s7 : Hid (R = some S') := by
     show _ = _
     rw [b6.out,f6,b7]
     exact if_pos (b7 ▸ V)
    have s8 := zc b7; have s9 := zc V; clear f6 b7 V; have GG := zc (za GX.out b3); have f7 := K.out.km.up GG.out; obtain ⟨_,j3,b8,m9,n2,n4⟩ := (f7.pr d k).bk; rw [D.out] at b8; have b4 := zc b8; have t0 := zc m9; have t1 := zc n2; have n6 := zc n4; have t2 := zc f7; have e6 := b8.c 6 _ rfl; have ez := b8.z
    have n7 : ρr.col i.heap.size = some (.pr d) := by have f := (f7.pr d k).col; rwa [D.out] at f
    clear b3 x4 m0 m1 m2 m3 m4 b8 m9 n2 n4 f7; go_wp2
    go_ret
    have j1 : ∀ g,j3.ownBlock = some g -> g ≠ i.heap.size := fun g hg e => by have f := n6.out g hg; rw [e,n7] at f; cases f
    have f4 : Stp True ρr w8 S3 (ρr.gr j3.ownBlock (.pa d)) (w8.setCell ⟨i.heap.size,6,none⟩ (pq (ρr.ty jj))) S' := by
     have f := s9.out; rw [show S' = _ from s8.out] at f ⊢; refine Stp.prq t2.out K.out.ok k ?_ ?_ t0.out rfl ?_ (fun g hg => .inl (n6.out g hg)) f
     ·rw [D.out]
      exact (Sm.refl w8 _).put (fun f => f.1 rfl) _ _
     ·rw [D.out]
      exact b4.out.set 6 _
     ·exact zR t1.out ((Sm.refl w8 (fun g => g ≠ i.heap.size)).put (fun f => f rfl) _ _) j1
    exact Ends.yes s7.out ⟨_,(K.out.behind GG.out).trans f4.less,(Z.out.up GG.out).step f4,by rw [show (ρr.gr j3.ownBlock (.pa d)).pr d = ρr.pr d from rfl,D.out]; rfl⟩
end
end Go.Proofs.YtnmkffjklpfflaaGreatDoor
