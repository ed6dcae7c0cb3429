/- Declarations: records are filled. -/
import Derived.Test.YtnmkffjklpfflaaGreatDoorK07
namespace Go.Proofs.YtnmkffjklpfflaaGreatDoor
open Go.RowKit
set_option maxHeartbeats 4000000
set_option maxRecDepth 100000
section
variable {ρ : Lay} {w w' w1 : World} {S : KS} {b : Nat} {c : KSc}
theorem qi {i : Nat} (h : CK ρ w S b c) (n : T) (sv : Value) (hf : Fits n) (hk : S.okB = true) (hcb : ρ.col b = some .ck) (hi : i < S.tys.length) (h4 : (S.ty i).form = 4) {S' : KS} (ha : AF ρ.tr w n.subs sv) (hl2 : 2 <= n.subs.length) (hC : S.fillRecordC c i n = some S') :
  Calls Tryz.prog 104 #[.pointer (some ⟨b,0,none⟩),.pointer (some ⟨ρ.ty i,0,none⟩),zn n sv] w (fun e w' => e = .returned (.tuple #[]) /\ ∃ ρ',Stp True ρ w S ρ' w' S') := by
 have HK := ze h; have HB := ze hk; have H4 := ze h4; obtain ⟨S1,a6,b2⟩ := gD hC; obtain ⟨kd,x,m,p,l⟩ := n
 change AF ρ.tr w l sv at ha
 change 2 <= l.length at hl2
 change yw (KS.fieldC c i) (l.drop 1) S1 = some S' at a6
 obtain ⟨I,us,rfl⟩ : ∃ u r,l = u :: r := by
  cases l with
  | nil => simp at hl2
  | cons u r => exact ⟨u,r,rfl⟩
 change yw (KS.fieldC c i) us S1 = some S' at a6
 obtain ⟨va,vc,rfl,j6,j7⟩ := ha.at.form; obtain ⟨g,o,rfl,_,b6⟩ := ha.nodes (by omega); obtain ⟨_,n0,f0,a0⟩ := b6 0 I rfl; obtain ⟨b3,c0,rfl,-,-⟩ := a0.at.form; rw [Nat.zero_mul,Nat.add_zero] at n0; rw [show sub (T.mk kd x m p (I :: us)) 0 = I from rfl] at b2
 unfold maxLen at j7
 simp only [List.length_cons] at hl2 j6; have b7 := ze n0; have j8 := ze a0; have l7 := ze f0; have j9 := ze b2; have l8 := ze a6; have HA := ze ha; have zg : g < w.heap.size := zw n0.c0; clear h hk h4 hf ha hC b2 a6 n0 a0 f0 b6
 change Calls Tryz.prog 104 #[.pointer (some ⟨b,0,none⟩),.pointer (some ⟨ρ.ty i,0,none⟩),.agg #[.int .i64 kd,.string ⟨x.toArray⟩,.int .i64 m,.int .i64 p,.slice (some ⟨g,o,none⟩) (us.length + 1) vc]] w _
 obtain ⟨w0,b8⟩ : ∃ z,z = w.alloc (.cells #[.int .i64 kd,.string ⟨x.toArray⟩,.int .i64 m,.int .i64 p,.slice (some ⟨g,o,none⟩) (us.length + 1) vc] 100) := ⟨_,rfl⟩
 have G0 : Hid (w.grownBy w0 none) := by rw [b8]; exact zf (zc w none) _
 have B0 : Hid (Box w0 w.heap.size (.mk kd x m p (I :: us)) (.slice (some ⟨g,o,none⟩) (us.length + 1) vc)) := by rw [b8]; exact Box.new w (.mk kd x m p (I :: us)) (.slice (some ⟨g,o,none⟩) (us.length + 1) vc) _
 have l9 : Hid (w0.heap.size = w.heap.size + 1) := by show _ = _; rw [b8]; simp
 have m0 := b7.out.c0; have m1 := b7.out.c1; have m2 := b7.out.c2; have m3 := b7.out.c3; have m4 := b7.out.c4
 go_enter Tryz.func104,Tryz.ntmps104
 go_upto_if 18 with fail
 rw [<- b8]; clear b8; obtain ⟨w1,b9⟩ : ∃ z,z = w0.alloc (.cells #[.int .i64 I.kind,.string ⟨I.name.toArray⟩,.int .i64 I.num,.int .i64 I.at',.slice b3 I.subs.length c0] 100) := ⟨_,rfl⟩; rw [<- b9]
 have G1 : Hid (w.grownBy w1 none) := by rw [b9]; exact zf G0.out _
 have B1 : Hid (Box w1 (w.heap.size + 1) I (.slice b3 I.subs.length c0)) := by rw [b9,<- show _ = _ from l9.out]; exact Box.new w0 I _ _
 have k0 : Hid (Box w1 w.heap.size (.mk kd x m p (I :: us)) (.slice (some ⟨g,o,none⟩) (us.length + 1) vc)) := by rw [b9]; exact B0.out.kept (zf (zc w0 none) _)
 clear b9 m0 m1 m2 m3 m4
 go_cut [] from 15 (fun wx => Hid (Stp True ρ w S ρ wx S1) /\ Hid (Box wx w.heap.size (.mk kd x m p (I :: us)) (.slice (some ⟨g,o,none⟩) (us.length + 1) vc)))
 case first =>
  rcases j9.out with ⟨d8,hE⟩ | ⟨d8,j,hj,m5,k1,g1⟩
  ·have m6 : (I.kind != 0) = false := by simp [d8]
   clear d8; go_wp2_with fail; go_meet
   case rel =>
    rw [hE]
    exact ⟨(Stp.refl HK.out.km HB.out).behind G1.out,k0.out⟩
  ·have m6 : (I.kind != 0) = true := by simpa using d8
   have k2 := ze g1; have m7 := ze k1; have k3 : j < S.tys.length := yM HK.out hj
   have k4 : S.record I j = .ok j := by unfold KS.record; rw [if_pos m5]
   have d9 := ze (fun w9 (G : w.grownBy w9 none) => ym (HK.out.up G) I (.slice b3 I.subs.length c0) l7.out (j8.out.at.kept G)); have k5 := ze (fun w9 (G : w.grownBy w9 none) => qa (b := b) (HK.out.km.up G) I (.slice b3 I.subs.length c0) (j8.out.at.kept G) k3); obtain ⟨fv,tb,-⟩ := (HK.out.km.ty i hi).bk; obtain ⟨fw,tj,-⟩ := (HK.out.km.ty j k3).bk; have TB := ze tb; have TJ := ze tj; have J : ρ.col (ρ.ty i) = some (.ty i) := (HK.out.km.ty i hi).col; have k6 : ρ.col w.heap.size = none := HK.out.km.fr _ (Nat.le_refl _)
   have m8 : w.heap.size ≠ ρ.ty i := fun e => by rw [e,J] at k6; cases k6
   clear tb tj g1 k1; go_wp2_with fail; refine yn [9] (S := fun w9 => w1.grownBy w9 none) (by kernel_rfl) ?_ (fun hHeld => ?_)
   ·exact zh (zc w1 none)
   refine zk 0 (some 19) (.pointer (some ⟨ρ.ty i,0,none⟩)) rfl rfl (fun w9 _ => by go_simp) hHeld ?_; simp only [qA,qB,qC,qD]; refine zk 1 (some 20) (.pointer (some ⟨b,0,none⟩)) rfl rfl (fun w9 _ => by go_simp) hHeld ?_; simp only [qA,qB,qC,qD]; refine zk 2 (some 21) (zn I (.slice b3 I.subs.length c0)) rfl rfl (fun w9 hS => by obtain ⟨q0,Z,q2,q3,q4⟩ := Box.kept B1.out hS; go_simp) hHeld ?_; simp only [qA,qB,qC,qD]; refine zk 3 (some 22) (.pointer (some ⟨b,0,none⟩)) rfl rfl (fun w9 _ => by go_simp) hHeld ?_; simp only [qA,qB,qC,qD]; refine zk 4 (some 23) (zn I (.slice b3 I.subs.length c0)) rfl rfl (fun w9 hS => by obtain ⟨q0,Z,q2,q3,q4⟩ := Box.kept B1.out hS; go_simp) hHeld ?_; simp only [qA,qB,qC,qD]; refine zr 5 (by kernel_rfl) rfl (fun KK hKK => ?_)
   go_simp
   go_at_call 74; refine (d9.out _ (zh G1.out)).mono ?_; rw [hj]; rintro e w2 ⟨f1,rfl⟩; have G2 := ze (za (zh G1.out) f1); have k7 := ze (za (zh (zc w1 none)) f1); clear f1
   go_simp
   refine hKK.out _ _ k7.out fun hHeld => ?_
   clear hKK KK; refine zr 6 (by kernel_rfl) rfl (fun KK hKK => ?_)
   go_simp
   go_at_call 105; refine (k5.out _ G2.out).mono ?_; rw [k4]; rintro e w3 ⟨h0,rfl⟩; have G3 := ze (za G2.out h0); have k8 := ze (za k7.out h0); clear h0
   go_simp
   refine hKK.out _ _ k8.out fun hHeld => ?_
   clear hKK KK; refine zr 7 (by kernel_rfl) rfl (fun KK hKK => ?_)
   go_simp
   refine hKK.out _ _ hHeld (fun hHeld => ?_); clear hKK KK; refine zr 8 (by kernel_rfl) rfl (fun KK hKK => ?_)
   go_simp
   refine hKK.out _ _ hHeld (fun hHeld => ?_); clear hKK KK; have e5 := (TB.out.kept G3.out (by simp)).c 5 _ rfl; have ez := (TB.out.kept G3.out (by simp)).z; refine zl 9 (by kernel_rfl) rfl rfl (fun KK hKK => ?_)
   go_simp
   refine hKK.out _ _ ?_; clear hKK KK; refine zd (by kernel_rfl) ?_ _; clear hHeld; have y3 := zi G3.out (TJ.out.c 3 _ rfl); have e3 := zi G3.out (TB.out.c 3 _ rfl); go_wp2_with fail; go_meet
   case rel =>
    have SS : Sm w3 ((w3.setCell ⟨ρ.ty i,5,none⟩ (.pointer (some ⟨ρ.ty j,0,none⟩))).setCell ⟨ρ.ty i,3,none⟩ (.int .i64 (S.ty j).words)) (fun g => g ≠ ρ.ty i) := ((Sm.refl w3 _).put (fun d => d rfl) _ _).put (fun d => d rfl) _ _; refine ⟨?_,Box.sm (k0.out.kept k8.out) SS m8⟩; have d := k2.out; rw [show S1 = _ from m7.out] at d ⊢
    exact ((Stp.refl HK.out.km HB.out).behind G3.out).trans (Stp.ty (HK.out.km.up G3.out) HB.out hi SS (fun fv hB => (hB.set 5 _).set 3 _) rfl d)
 case rest =>
  obtain ⟨m9,n1⟩ := hcut; have x4 := n1.out.c4
  have o6 : 1 < vc := by omega
  have n2 : Hid ((S1.ty i).form = 4) := by
   show _ = _
   rcases j9.out with ⟨-,hE⟩ | ⟨-,j,-,-,hE,-⟩
   ·rw [hE]; exact H4.out
   ·rw [hE,show (S.setTy i _).ty i = _ from yZ _ _ _ hi]; exact H4.out
  go_wp2_with fail; clear x4
  go_loopw [42] (fun iv wr => ∃ (j : Nat) (ρr : Lay) (t : KS),j <= us.length /\ iv = .int .i64 ↑j /\ Hid (yw (KS.fieldC c i) (us.drop j) t = some S') /\ Hid (Stp True ρ w S ρr wr t) /\ Hid ((t.ty i).form = 4)) (fun iv _ => us.length - (intOf iv).toNat)
  case atStart => exact ⟨0,ρ,S1,Nat.zero_le _,rfl,l8.out,m9.out,n2.out⟩
  case round =>
   obtain ⟨j,ρr,t,hj,rfl,HE,ST,h1⟩ := hrel
   by_cases n3 : j < us.length
   ·obtain ⟨v,hv⟩ : ∃ v,us[j]? = some v := ⟨_,List.getElem?_eq_getElem n3⟩
    obtain ⟨Sn,b2,a6⟩ := xH hv HE.out; have k9 := ze a6; obtain ⟨s,u,r,l0,_,l1,c5,h2,l2,g3⟩ := ph b2; have KR : Hid (CK ρr wr t b c) := HK.out.step ST.out hcb; have a1 : i < t.tys.length := Nat.lt_of_lt_of_le hi ST.out.tys; have Q : ρr.ty i = ρ.ty i := ST.out.agr.ty i hi; have n4 := ze (KS.tysOk ST.out.ok l0); have f3 := ze l2; have g4 := ze g3; have g5 := ze h2; have f4 : s < t.tys.length := yM KR.out h2; obtain ⟨g',o',sw,e1,o7,n5,fv,av⟩ := (HA.out.step ST.out).node (j := j + 1) (v := v) (by simpa using hv); cases e1; rw [show o + (j + 1) * 5 = o + 5 + j * 5 by omega] at n5
    have o8 : 0 < v.subs.length := by rw [c5]; simp
    obtain ⟨va,c6,rfl,-,-⟩ := av.at.form; obtain ⟨g2,o2,_,e2,f1,n6,fu,au⟩ := av.node (j := 0) (v := u) (by rw [c5]; rfl); subst e2; rw [Nat.zero_mul,Nat.add_zero] at n6; obtain ⟨ua,uc,rfl,-,-⟩ := au.at.form; have FU := ze fu; have AU := ze au; have N6 := ze n6; have d0 := n5.c0; have d1 := n5.c1; have d2 := n5.c2; have d3 := n5.c3; have d4 := n5.c4; have o9 : g < wr.heap.size := zw d0; clear n5 n6 fu au fv av hv b2 a6 c5 l2 g3 l0; go_wp2_with fail; obtain ⟨w6,f5⟩ : ∃ z,z = wr.alloc (.cells #[.int .i64 v.kind,.string ⟨v.name.toArray⟩,.int .i64 v.num,.int .i64 v.at',.slice (some ⟨g2,o2,none⟩) v.subs.length c6] 100) := ⟨_,rfl⟩
    try rw [<- f5]
    have l3 : Hid (wr.grownBy w6 none) := by rw [f5]; exact zf (zc wr none) _
    have n7 : Hid (Box w6 wr.heap.size v (.slice (some ⟨g2,o2,none⟩) v.subs.length c6)) := by rw [f5]; exact Box.new wr v _ _
    clear f5 d0 d1 d2 d3 d4; have l4 := ze (yS (KR.out.km.up l3.out) n4.out a1 h1.out v.name); rw [Q] at l4; go_at_call 19; refine l4.out.mono ?_; rw [l1,show ρr.fdP none = .tuple #[.agg #[.string ⟨#[]⟩,.bool false,.pointer none,.int .i64 0],.pointer none] from rfl]; rintro e w7 ⟨rfl,h3⟩; have G7 := ze (za l3.out h3); have n8 : Hid (Box w7 wr.heap.size v (.slice (some ⟨g2,o2,none⟩) v.subs.length c6)) := n7.out.kept h3; clear h3; go_wp2_with fail; obtain ⟨K,f6⟩ : ∃ z,z = w7.alloc (.cells #[.string ⟨#[]⟩,.bool false,.pointer none,.int .i64 0] 58) := ⟨_,rfl⟩; rw [<- f6]
    have G8 : Hid (wr.grownBy K none) := by rw [f6]; exact zf G7.out _
    have h5 : Hid (Box K wr.heap.size v (.slice (some ⟨g2,o2,none⟩) v.subs.length c6)) := by rw [f6]; exact n8.out.kept (zf (zc w7 none) _)
    clear f6; obtain ⟨ft,tb,g6,g7⟩ := (KR.out.km.ty i a1).bk; rw [Q] at tb; obtain ⟨fw,tj,-⟩ := (KR.out.km.ty s f4).bk; have TB := ze tb; have TJ := ze tj; have g8 := ze g6; have b0 := ze g7
    have J : ρr.col (ρ.ty i) = some (.ty i) := by rw [<- Q]; exact (KR.out.km.ty i a1).col
    have n9 := ((KS.okP ST.out.ok).tyP a1).2; have o0 := ((KS.okP ST.out.ok).tyP f4).2; obtain ⟨H,f7⟩ : ∃ z,z = (t.ty i).words := ⟨_,rfl⟩; obtain ⟨wj,f8⟩ : ∃ z,z = (t.ty s).words := ⟨_,rfl⟩; have f9 := ze f7; have g0 := ze f8; rw [<- f7] at n9; rw [<- f8] at o0
    have t3 : Hid (wr.cell? ⟨ρ.ty i,3,none⟩ = some (.int .i64 H)) := by rw [f7]; exact tb.c 3 _ rfl
    have j3 : Hid (wr.cell? ⟨ρr.ty s,3,none⟩ = some (.int .i64 wj)) := by rw [f8]; exact tj.c 3 _ rfl
    have N8 : Hid (Node5 K g2 o2 u (.slice ua u.subs.length uc)) := N6.out.kept G8.out; have d9 := ze (fun w9 (G : K.grownBy w9 none) => ym (KR.out.up (za G8.out G)) u (.slice ua u.subs.length uc) FU.out (AU.out.at.kept (za G8.out G)))
    have o5 : ¬ ((v.subs.length : Int) <= 0) := by omega
    have c7 : Hid (IntKind.i64.wrap (H + wj) = H + wj) := by show _ = _; rw [IntKind.wrap_i64]; omega
    have g9 : (t.ty i).fields.length <= 1000000 := by omega
    clear tb tj g6 g7 f7 f8 l1 h2
    skip
    refine wp_region_held_drew (S := fun w9 => K.grownBy w9 none) (by kernel_rfl) ?_ (fun hHeld => ?_)
    ·exact zh (zc K none)
    refine kQ 0 57 (.pointer (some ⟨wr.heap.size,1,none⟩)) hHeld ?_; simp only [qA,qB,qC,qD]; refine dk 1 (some 58) (.string ⟨v.name.toArray⟩) rfl rfl (fun w9 hS => by obtain ⟨q0,Z,q2,q3,q4⟩ := Box.kept h5.out hS; go_simp) hHeld ?_; simp only [qA,qB,qC,qD]; refine kQ 2 59 (.pointer (some ⟨wr.heap.size,2,none⟩)) hHeld ?_; simp only [qA,qB,qC,qD]; refine dk 3 (some 60) (.int .i64 v.num) rfl rfl (fun w9 hS => by obtain ⟨q0,Z,q2,q3,q4⟩ := Box.kept h5.out hS; go_simp) hHeld ?_; simp only [qA,qB,qC,qD]; refine kQ 4 61 (.bool (v.num == 1)) hHeld ?_; simp only [qA,qB,qC,qD]; refine kQ 5 62 (.pointer (some ⟨b,0,none⟩)) hHeld ?_; simp only [qA,qB,qC,qD]; refine kQ 6 63 (.pointer (some ⟨wr.heap.size,4,none⟩)) hHeld ?_; simp only [qA,qB,qC,qD]; refine dk 7 (some 64) (.slice (some ⟨g2,o2,none⟩) v.subs.length c6) rfl rfl (fun w9 hS => by obtain ⟨q0,Z,q2,q3,q4⟩ := Box.kept h5.out hS; go_simp) hHeld ?_; simp only [qA,qB,qC,qD]; refine kQ 8 65 (.pointer (some ⟨g2,o2,none⟩)) hHeld ?_; simp only [qA,qB,qC,qD]; refine dk 9 (some 66) (zn u (.slice ua u.subs.length uc)) rfl rfl (fun w9 hS => by obtain ⟨q0,Z,q2,q3,q4⟩ := Node5.kept N8.out hS; go_simp) hHeld ?_; simp only [qA,qB,qC,qD]; refine kQ 11 68 (.pointer (some ⟨ρ.ty i,0,none⟩)) hHeld ?_; simp only [qA,qB,qC,qD]; refine kQ 12 69 (.pointer (some ⟨ρ.ty i,0,none⟩)) hHeld ?_; simp only [qA,qB,qC,qD]; refine kQ 13 70 (.pointer (some ⟨ρ.ty i,3,none⟩)) hHeld ?_; simp only [qA,qB,qC,qD]; refine dk 14 (some 71) (.int .i64 H) rfl rfl (fun w9 hS => by have Z := zi (za G8.out hS) t3.out; go_simp) hHeld ?_; simp only [qA,qB,qC,qD]; refine wpAnyH_ready (rs := [10,16]) (by kernel_rfl) (by simp) ?_; refine AllReadyH.cons rfl (fun KK hKK => ?_) (AllReadyH.cons rfl (fun KK hKK => ?_) AllReadyH.nil)
    ·skip
     go_simp
     go_at_call 74; refine (d9.out _ (zh (zc K none))).mono ?_; rw [g5.out]; rintro e w9 ⟨b4,rfl⟩; have R := ze (za (zh (zc K none)) b4)
     go_simp
     refine hKK.out _ _ R.out fun hHeld => ?_
     clear hKK KK; refine kQ 15 72 (.agg #[.string ⟨v.name.toArray⟩,.bool (v.num == 1),.pointer (some ⟨ρr.ty s,0,none⟩),.int .i64 H]) hHeld ?_; simp only [qA,qB,qC,qD]; refine rd 16 rfl fun KK hKK => ?_
     go_simp
     refine hKK.out _ _ (zf R.out _) fun hHeld => ?_
     clear hKK KK; refine rd 17 rfl fun KK hKK => ?_
     go_simp
     refine hKK.out _ _ (zf R.out _) fun hHeld => ?_
     clear hKK KK; refine wpAnyH_done (by kernel_rfl) ?_ _; clear hHeld; obtain ⟨f,E⟩ : ∃ z,z = w9.alloc (.cells #[.string ⟨v.name.toArray⟩,.bool (v.num == 1),.pointer (some ⟨ρr.ty s,0,none⟩),.int .i64 H] 58) := ⟨_,rfl⟩; rw [<- E]
     have h6 : Hid (K.grownBy f none) := by rw [E]; exact zf R.out _
     obtain ⟨fb,U⟩ : ∃ z,z = w9.heap.size := ⟨_,rfl⟩
     have FB : Hid (Bk f fb [.string ⟨v.name.toArray⟩,.bool (v.num == 1),.pointer (some ⟨ρr.ty s,0,none⟩),.int .i64 H]) := by rw [E,U]; exact Bk.new w9 _ _ rfl
     rw [<- U]
     have o1 : K.heap.size <= fb := by rw [U]; exact R.out.size
     clear E U b4; have k := ze (za G8.out h6.out); have l5 := k.out.size; have C : ρr.col fb = none := KR.out.km.fr _ (by have d := G8.out.size; omega); have a2 := ze (TB.out.kept k.out (by simp)); have e6 : Hid (f.cell? ⟨ρ.ty i,6,none⟩ = some ft) := a2.out.c 6 _ rfl; have V : Hid (f.ownsRow 0 58 4 ft (t.ty i).fields.length ((t.ty i).fields.flatMap (fdV ρr))) := zZ g8.out (Sm.of_none k.out (fun _ => True)) (fun _ _ => trivial); go_wp2_with fail; refine yn [10] (S := fun w9 => Sm f w9 (fun g => ρr.col g ≠ some (.fl i))) (by kernel_rfl) ?_ (fun hHeld => ?_)
     ·exact (Sm.refl f _).drew
     refine zk 0 (some 73) (.pointer (some ⟨ρ.ty i,0,none⟩)) rfl rfl (fun w9 _ => by go_simp) hHeld ?_; simp only [qA,qB,qC,qD]; refine zk 1 (some 74) (.pointer (some ⟨ρ.ty i,0,none⟩)) rfl rfl (fun w9 _ => by go_simp) hHeld ?_; simp only [qA,qB,qC,qD]; refine zk 2 (some 75) (.pointer (some ⟨ρ.ty i,0,none⟩)) rfl rfl (fun w9 _ => by go_simp) hHeld ?_; simp only [qA,qB,qC,qD]; refine zk 3 (some 76) (.pointer (some ⟨ρ.ty i,6,none⟩)) rfl rfl (fun w9 _ => by go_simp) hHeld ?_; simp only [qA,qB,qC,qD]; refine zk 4 (some 77) ft rfl rfl (fun w9 hS => by have Z := Sm.cell hS e6.out (by show ρr.col (ρ.ty i) ≠ _; rw [J]; nofun); go_simp) hHeld ?_; simp only [qA,qB,qC,qD]; refine zk 5 (some 78) (.agg #[.string ⟨v.name.toArray⟩,.bool (v.num == 1),.pointer (some ⟨ρr.ty s,0,none⟩),.int .i64 H]) rfl rfl (fun w9 hS => by have q0 := (FB.out.sm hS (by rw [C]; nofun)).c 0 _ rfl; have Z := (FB.out.sm hS (by rw [C]; nofun)).c 1 _ rfl; have q2 := (FB.out.sm hS (by rw [C]; nofun)).c 2 _ rfl; have q3 := (FB.out.sm hS (by rw [C]; nofun)).c 3 _ rfl; go_simp) hHeld ?_; simp only [qA,qB,qC,qD]; refine zr 6 (by kernel_rfl) rfl (fun KK hKK => ?_)
     go_simp
     refine hKK.out _ _ (Sm.of_none (zh (zf (zc f none) _)) _) fun hHeld => ?_
     clear hKK KK; obtain ⟨wa,X⟩ : ∃ z,z = (f.alloc (.cells #[.string ⟨v.name.toArray⟩,.bool (v.num == 1),.pointer (some ⟨ρr.ty s,0,none⟩),.int .i64 H] 58)).drew := ⟨_,rfl⟩; rw [<- X] at hHeld ⊢
     have A : Hid (f.grownBy wa none) := by rw [X]; exact zh (zf (zc f none) _)
     have ca : Hid (Bk wa f.heap.size [.string ⟨v.name.toArray⟩,.bool (v.num == 1),.pointer (some ⟨ρr.ty s,0,none⟩),.int .i64 H]) := by rw [X]; exact Bk.drew (Bk.new f _ _ rfl)
     clear X; refine zr 7 (by kernel_rfl) rfl (fun KK hKK => ?_); refine sd rfl _ _ rfl (vs := [.string ⟨v.name.toArray⟩,.bool (v.num == 1),.pointer (some ⟨ρr.ty s,0,none⟩),.int .i64 H]) rfl (fun u hu => by simp at hu; rcases hu with rfl | rfl | rfl | rfl <;> rfl) (v := ft) (g := f.heap.size) rfl rfl (zZ V.out (Sm.of_none A.out (fun _ => True)) (fun _ _ => trivial)) ca.out.c g9 ?_; intro j0 Y D a3 L; have a7 : Hid (Sm wa Y (fun g => ρr.col g ≠ some (.fl i))) := (Sm.refl wa _).gbn a3 (fun g hg d => d (b0.out g hg)); refine hKK.out _ _ ((Sm.of_none A.out _).trans a7.out) fun hHeld => ?_
     clear hKK KK
     obtain ⟨M,N,rfl⟩ : ∃ aa cc,j0 = .slice aa ((t.ty i).fields.length + 1) cc := by
      rcases D.2 with ⟨_,d⟩ | ⟨g,o3,o4,d,_⟩
      ·omega
      ·exact ⟨_,_,d⟩
     have j1 := ze D; have c8 := ze L; have O := ze ((a2.out.kept A.out (by simp)).sm a7.out (by rw [J]; nofun)); clear D L a3; refine zr 8 (by kernel_rfl) rfl (fun KK hKK => ?_)
     go_simp
     refine hKK.out _ _ hHeld (fun hHeld => ?_); clear hKK KK; refine zr 9 (by kernel_rfl) rfl (fun KK hKK => ?_)
     go_simp
     refine hKK.out _ _ hHeld (fun hHeld => ?_); clear hKK KK; have j2 := O.out.c 6 _ rfl; have ez := O.out.z; refine zl 10 (by kernel_rfl) rfl rfl (fun KK hKK => ?_)
     go_simp
     refine hKK.out _ _ ?_; clear hKK KK; clear j2 ez; refine zd (by kernel_rfl) ?_ _; clear hHeld; obtain ⟨q,B⟩ : ∃ z,z = Y.setCell ⟨ρ.ty i,6,none⟩ (.slice M ((t.ty i).fields.length + 1) N) := ⟨_,rfl⟩
     try rw [<- B]
     have F : Hid (Bk q (ρ.ty i) (tyV ρr (t.ty i) (.slice M ((t.ty i).fields.length + 1) N))) := by rw [B]; exact O.out.set 6 _
     have a8 : Hid (Sm wa q (fun g => g ≠ ρ.ty i /\ ρr.col g ≠ some (.fl i))) := by rw [B]; exact (a7.out.mono (fun g _ d => d.2)).put (fun d => d.1 rfl) _ _
     have a4 : Sm Y q (fun g => g ≠ ρ.ty i) := by rw [B]; exact (Sm.refl Y _).put (fun d => d rfl) _ _
     have c9 := ze a4; clear B a4; have d5 := ze ((FB.out.kept A.out (by simp)).sm a8.out ⟨fun e => (by rw [e,J] at C; cases C),by rw [C]; nofun⟩)
     have a5 : Hid (q.cell? ⟨ρ.ty i,3,none⟩ = some (.int .i64 H)) := by rw [show H = _ from f9.out]; exact F.out.c 3 _ rfl
     have f2 : Hid (q.cell? ⟨fb,2,none⟩ = some (.pointer (some ⟨ρr.ty s,0,none⟩))) := d5.out.c 2 _ rfl
     have d6 : Hid (q.cell? ⟨ρr.ty s,3,none⟩ = some (.int .i64 wj)) := by
      by_cases e : s = i
      ·rw [e,Q,show wj = _ from g0.out,e]; exact F.out.c 3 _ rfl
      ·have a9 := (KR.out.km.ty s f4).col
       refine a8.out.cell (zi A.out (zi k.out j3.out)) ⟨fun e2 => ?_,fun e2 => ?_⟩
       ·have e3 : ρr.ty s = ρ.ty i := e2
        rw [e3,J] at a9; cases a9; exact e rfl
       ·have e3 : ρr.col (ρr.ty s) = some (.fl i) := e2
        rw [a9] at e3; cases e3
     go_wp2_with fail; refine yn [12] (S := fun w9 => q.grownBy w9 none) (by kernel_rfl) ?_ (fun hHeld => ?_)
     ·exact zh (zc q none)
     refine zk 0 (some 83) (.pointer (some ⟨ρ.ty i,0,none⟩)) rfl rfl (fun w9 _ => by go_simp) hHeld ?_; simp only [qA,qB,qC,qD]; refine zk 1 (some 84) (.pointer (some ⟨ρ.ty i,0,none⟩)) rfl rfl (fun w9 _ => by go_simp) hHeld ?_; simp only [qA,qB,qC,qD]; refine zk 2 (some 85) (.pointer (some ⟨ρ.ty i,3,none⟩)) rfl rfl (fun w9 _ => by go_simp) hHeld ?_; simp only [qA,qB,qC,qD]; refine zk 3 (some 86) (.int .i64 H) rfl rfl (fun w9 hS => by have Z := zi hS a5.out; go_simp) hHeld ?_; simp only [qA,qB,qC,qD]; refine zk 4 (some 87) (.pointer (some ⟨fb,2,none⟩)) rfl rfl (fun w9 _ => by go_simp) hHeld ?_; simp only [qA,qB,qC,qD]; refine zk 5 (some 88) (.pointer (some ⟨ρr.ty s,0,none⟩)) rfl rfl (fun w9 hS => by have Z := zi hS f2.out; go_simp) hHeld ?_; simp only [qA,qB,qC,qD]; refine zk 6 (some 89) (.pointer (some ⟨ρr.ty s,0,none⟩)) rfl rfl (fun w9 _ => by go_simp) hHeld ?_; simp only [qA,qB,qC,qD]; refine zk 7 (some 90) (.pointer (some ⟨ρr.ty s,3,none⟩)) rfl rfl (fun w9 _ => by go_simp) hHeld ?_; simp only [qA,qB,qC,qD]; refine zk 8 (some 91) (.int .i64 wj) rfl rfl (fun w9 hS => by have Z := zi hS d6.out; go_simp) hHeld ?_; simp only [qA,qB,qC,qD]; refine zk 9 (some 92) (.int .i64 (H + wj)) rfl rfl (fun w9 _ => by have Z := c7.out; go_simp) hHeld ?_; simp only [qA,qB,qC,qD]; refine zr 10 (by kernel_rfl) rfl (fun KK hKK => ?_)
     go_simp
     refine hKK.out _ _ hHeld (fun hHeld => ?_); clear hKK KK; refine zr 11 (by kernel_rfl) rfl (fun KK hKK => ?_)
     go_simp
     refine hKK.out _ _ hHeld (fun hHeld => ?_); clear hKK KK; have e3 := a5.out; have ez := F.out.z; refine zl 12 (by kernel_rfl) rfl rfl (fun KK hKK => ?_)
     go_simp
     refine hKK.out _ _ ?_; clear hKK KK; clear e3 ez; refine zd (by kernel_rfl) ?_ _; clear hHeld; go_wp2_with fail
     go_roundw
     case rel =>
      obtain rfl : H = _ := f9.out; obtain rfl : wj = _ := g0.out
      have d7 : ∀ g,(Value.slice M ((t.ty i).fields.length + 1) N).ownBlock = some g -> ρr.col g = some (.fl i) \/ wa.heap.size <= g := fun g hg => by
       rcases c8.out with d | d
       ·exact .inl (b0.out g (d ▸ hg))
       ·rw [d] at hg
        cases hg
        exact .inr (Nat.le_refl _)
      have j4 : ∀ g,(Value.slice M ((t.ty i).fields.length + 1) N).ownBlock = some g -> g ≠ ρ.ty i := fun g hg e => by
       rcases d7 g hg with d | d
       ·rw [e,J] at d; cases d
       ·have h8 := TB.out.lt
        have h7 := A.out.size
        omega
      have j5 : Stp True ρr wa t (ρr.gr (Value.slice M ((t.ty i).fields.length + 1) N).ownBlock (.fl i)) (q.setCell ⟨ρ.ty i,3,none⟩ (.int .i64 ((t.ty i).words + (t.ty s).words))).drew Sn := by
       have d := g4.out; rw [show Sn = _ from f3.out] at d ⊢; refine Stp.fld (KR.out.km.up (za k.out A.out)) ST.out.ok a1 ?_ ?_ ?_ d7 d
       ·rw [Q]
        exact (a8.out.put (fun d => d.1 rfl) _ _).drew
       ·rw [Q]
        exact (F.out.set 3 _).drew
       ·simp only [List.flatMap_append,List.flatMap_cons,List.flatMap_nil,List.append_nil,List.length_append,List.length_cons,List.length_nil]
        exact zZ j1.out (((c9.out).put (fun d => d rfl) _ _).drew) j4
      exact ⟨j + 1,_,Sn,by omega,by go_num,k9,ST.out.trans (((Stp.refl KR.out.km ST.out.ok).behind (za k.out A.out)).trans j5),by
       show _ = _
       rw [show Sn = _ from f3.out,show (t.setTy i _).ty i = _ from yZ _ _ _ a1]
       exact h1.out⟩
     case measure => first | omega | (simp only [intOf]; omega) | (simp; omega)
    ·skip
     go_simp
     refine hKK.out _ _ (zh (zf (zc K none) _)) fun hHeld => ?_
     clear hKK KK; obtain ⟨wb,b1⟩ : ∃ z,z = (K.alloc (.cells #[.string ⟨#[]⟩,.bool false,.pointer none,.int .i64 0] 58)).drew := ⟨_,rfl⟩; rw [<- b1] at hHeld ⊢
     have l6 : Hid (K.grownBy wb none) := by rw [b1]; exact zh (zf (zc K none) _)
     have FZ : Hid (Bk wb K.heap.size [.string ⟨#[]⟩,.bool false,.pointer none,.int .i64 0]) := by rw [b1]; exact Bk.drew (Bk.new K _ _ rfl)
     clear b1; refine rd 10 rfl fun KK hKK => ?_
     go_simp
     go_at_call 74; refine (d9.out _ l6.out).mono ?_; rw [g5.out]; rintro e w9 ⟨b4,rfl⟩; have R := ze (za l6.out b4)
     go_simp
     refine hKK.out _ _ R.out fun hHeld => ?_
     clear hKK KK; refine kQ 15 72 (.agg #[.string ⟨v.name.toArray⟩,.bool (v.num == 1),.pointer (some ⟨ρr.ty s,0,none⟩),.int .i64 H]) hHeld ?_; simp only [qA,qB,qC,qD]; have b5 := ze (FZ.out.kept b4 (by simp)); have z0 := b5.out.c 0 _ rfl; have z1 := b5.out.c 1 _ rfl; have z2 := b5.out.c 2 _ rfl; have z3 := b5.out.c 3 _ rfl; have zz := b5.out.z; refine rd 17 rfl fun KK hKK => ?_
     go_simp
     refine hKK.out _ _ ((((((((Sm.of_none R.out (fun g => g ≠ K.heap.size)).put (fun d => d rfl) _ _).put (fun d => d rfl) _ _).put (fun d => d rfl) _ _).put (fun d => d rfl) _ _).mono (fun g hg (_ : True) => by omega))).gb) fun hHeld => ?_
     clear hKK KK; refine wpAnyH_done (by kernel_rfl) ?_ _; clear hHeld z0 z1 z2 z3 zz; obtain ⟨f,E⟩ : ∃ z,z = (((w9.setCell ⟨K.heap.size,0,none⟩ (.string ⟨v.name.toArray⟩)).setCell ⟨K.heap.size,1,none⟩ (.bool (v.num == 1))).setCell ⟨K.heap.size,2,none⟩ (.pointer (some ⟨ρr.ty s,0,none⟩))).setCell ⟨K.heap.size,3,none⟩ (.int .i64 H) := ⟨_,rfl⟩; rw [<- E]
     have h6 : Hid (K.grownBy f none) := by rw [E]; exact (((((((Sm.of_none R.out (fun g => g ≠ K.heap.size)).put (fun d => d rfl) _ _).put (fun d => d rfl) _ _).put (fun d => d rfl) _ _).put (fun d => d rfl) _ _).mono (fun g hg (_ : True) => by omega))).gb
     obtain ⟨fb,U⟩ : ∃ z,z = K.heap.size := ⟨_,rfl⟩
     have FB : Hid (Bk f fb [.string ⟨v.name.toArray⟩,.bool (v.num == 1),.pointer (some ⟨ρr.ty s,0,none⟩),.int .i64 H]) := by rw [E,U]; exact (((b5.out.set 0 _).set 1 _).set 2 _).set 3 _
     rw [<- U]
     have o1 : K.heap.size <= fb := by rw [U]; exact Nat.le_refl _
     clear E U b4; have k := ze (za G8.out h6.out); have l5 := k.out.size; have C : ρr.col fb = none := KR.out.km.fr _ (by have d := G8.out.size; omega); have a2 := ze (TB.out.kept k.out (by simp)); have e6 : Hid (f.cell? ⟨ρ.ty i,6,none⟩ = some ft) := a2.out.c 6 _ rfl; have V : Hid (f.ownsRow 0 58 4 ft (t.ty i).fields.length ((t.ty i).fields.flatMap (fdV ρr))) := zZ g8.out (Sm.of_none k.out (fun _ => True)) (fun _ _ => trivial); go_wp2_with fail; refine yn [10] (S := fun w9 => Sm f w9 (fun g => ρr.col g ≠ some (.fl i))) (by kernel_rfl) ?_ (fun hHeld => ?_)
     ·exact (Sm.refl f _).drew
     refine zk 0 (some 73) (.pointer (some ⟨ρ.ty i,0,none⟩)) rfl rfl (fun w9 _ => by go_simp) hHeld ?_; simp only [qA,qB,qC,qD]; refine zk 1 (some 74) (.pointer (some ⟨ρ.ty i,0,none⟩)) rfl rfl (fun w9 _ => by go_simp) hHeld ?_; simp only [qA,qB,qC,qD]; refine zk 2 (some 75) (.pointer (some ⟨ρ.ty i,0,none⟩)) rfl rfl (fun w9 _ => by go_simp) hHeld ?_; simp only [qA,qB,qC,qD]; refine zk 3 (some 76) (.pointer (some ⟨ρ.ty i,6,none⟩)) rfl rfl (fun w9 _ => by go_simp) hHeld ?_; simp only [qA,qB,qC,qD]; refine zk 4 (some 77) ft rfl rfl (fun w9 hS => by have Z := Sm.cell hS e6.out (by show ρr.col (ρ.ty i) ≠ _; rw [J]; nofun); go_simp) hHeld ?_; simp only [qA,qB,qC,qD]; refine zk 5 (some 78) (.agg #[.string ⟨v.name.toArray⟩,.bool (v.num == 1),.pointer (some ⟨ρr.ty s,0,none⟩),.int .i64 H]) rfl rfl (fun w9 hS => by have q0 := (FB.out.sm hS (by rw [C]; nofun)).c 0 _ rfl; have Z := (FB.out.sm hS (by rw [C]; nofun)).c 1 _ rfl; have q2 := (FB.out.sm hS (by rw [C]; nofun)).c 2 _ rfl; have q3 := (FB.out.sm hS (by rw [C]; nofun)).c 3 _ rfl; go_simp) hHeld ?_; simp only [qA,qB,qC,qD]; refine zr 6 (by kernel_rfl) rfl (fun KK hKK => ?_)
     go_simp
     refine hKK.out _ _ (Sm.of_none (zh (zf (zc f none) _)) _) fun hHeld => ?_
     clear hKK KK; obtain ⟨wa,X⟩ : ∃ z,z = (f.alloc (.cells #[.string ⟨v.name.toArray⟩,.bool (v.num == 1),.pointer (some ⟨ρr.ty s,0,none⟩),.int .i64 H] 58)).drew := ⟨_,rfl⟩; rw [<- X] at hHeld ⊢
     have A : Hid (f.grownBy wa none) := by rw [X]; exact zh (zf (zc f none) _)
     have ca : Hid (Bk wa f.heap.size [.string ⟨v.name.toArray⟩,.bool (v.num == 1),.pointer (some ⟨ρr.ty s,0,none⟩),.int .i64 H]) := by rw [X]; exact Bk.drew (Bk.new f _ _ rfl)
     clear X; refine zr 7 (by kernel_rfl) rfl (fun KK hKK => ?_); refine sd rfl _ _ rfl (vs := [.string ⟨v.name.toArray⟩,.bool (v.num == 1),.pointer (some ⟨ρr.ty s,0,none⟩),.int .i64 H]) rfl (fun u hu => by simp at hu; rcases hu with rfl | rfl | rfl | rfl <;> rfl) (v := ft) (g := f.heap.size) rfl rfl (zZ V.out (Sm.of_none A.out (fun _ => True)) (fun _ _ => trivial)) ca.out.c g9 ?_; intro j0 Y D a3 L; have a7 : Hid (Sm wa Y (fun g => ρr.col g ≠ some (.fl i))) := (Sm.refl wa _).gbn a3 (fun g hg d => d (b0.out g hg)); refine hKK.out _ _ ((Sm.of_none A.out _).trans a7.out) fun hHeld => ?_
     clear hKK KK
     obtain ⟨M,N,rfl⟩ : ∃ aa cc,j0 = .slice aa ((t.ty i).fields.length + 1) cc := by
      rcases D.2 with ⟨_,d⟩ | ⟨g,o3,o4,d,_⟩
      ·omega
      ·exact ⟨_,_,d⟩
     have j1 := ze D; have c8 := ze L; have O := ze ((a2.out.kept A.out (by simp)).sm a7.out (by rw [J]; nofun)); clear D L a3; refine zr 8 (by kernel_rfl) rfl (fun KK hKK => ?_)
     go_simp
     refine hKK.out _ _ hHeld (fun hHeld => ?_); clear hKK KK; refine zr 9 (by kernel_rfl) rfl (fun KK hKK => ?_)
     go_simp
     refine hKK.out _ _ hHeld (fun hHeld => ?_); clear hKK KK; have j2 := O.out.c 6 _ rfl; have ez := O.out.z; refine zl 10 (by kernel_rfl) rfl rfl (fun KK hKK => ?_)
     go_simp
     refine hKK.out _ _ ?_; clear hKK KK; clear j2 ez; refine zd (by kernel_rfl) ?_ _; clear hHeld; obtain ⟨q,B⟩ : ∃ z,z = Y.setCell ⟨ρ.ty i,6,none⟩ (.slice M ((t.ty i).fields.length + 1) N) := ⟨_,rfl⟩
     try rw [<- B]
     have F : Hid (Bk q (ρ.ty i) (tyV ρr (t.ty i) (.slice M ((t.ty i).fields.length + 1) N))) := by rw [B]; exact O.out.set 6 _
     have a8 : Hid (Sm wa q (fun g => g ≠ ρ.ty i /\ ρr.col g ≠ some (.fl i))) := by rw [B]; exact (a7.out.mono (fun g _ d => d.2)).put (fun d => d.1 rfl) _ _
     have a4 : Sm Y q (fun g => g ≠ ρ.ty i) := by rw [B]; exact (Sm.refl Y _).put (fun d => d rfl) _ _
     have c9 := ze a4; clear B a4; have d5 := ze ((FB.out.kept A.out (by simp)).sm a8.out ⟨fun e => (by rw [e,J] at C; cases C),by rw [C]; nofun⟩)
     have a5 : Hid (q.cell? ⟨ρ.ty i,3,none⟩ = some (.int .i64 H)) := by rw [show H = _ from f9.out]; exact F.out.c 3 _ rfl
     have f2 : Hid (q.cell? ⟨fb,2,none⟩ = some (.pointer (some ⟨ρr.ty s,0,none⟩))) := d5.out.c 2 _ rfl
     have d6 : Hid (q.cell? ⟨ρr.ty s,3,none⟩ = some (.int .i64 wj)) := by
      by_cases e : s = i
      ·rw [e,Q,show wj = _ from g0.out,e]; exact F.out.c 3 _ rfl
      ·have a9 := (KR.out.km.ty s f4).col
       refine a8.out.cell (zi A.out (zi k.out j3.out)) ⟨fun e2 => ?_,fun e2 => ?_⟩
       ·have e3 : ρr.ty s = ρ.ty i := e2
        rw [e3,J] at a9; cases a9; exact e rfl
       ·have e3 : ρr.col (ρr.ty s) = some (.fl i) := e2
        rw [a9] at e3; cases e3
     go_wp2_with fail; refine yn [12] (S := fun w9 => q.grownBy w9 none) (by kernel_rfl) ?_ (fun hHeld => ?_)
     ·exact zh (zc q none)
     refine zk 0 (some 83) (.pointer (some ⟨ρ.ty i,0,none⟩)) rfl rfl (fun w9 _ => by go_simp) hHeld ?_; simp only [qA,qB,qC,qD]; refine zk 1 (some 84) (.pointer (some ⟨ρ.ty i,0,none⟩)) rfl rfl (fun w9 _ => by go_simp) hHeld ?_; simp only [qA,qB,qC,qD]; refine zk 2 (some 85) (.pointer (some ⟨ρ.ty i,3,none⟩)) rfl rfl (fun w9 _ => by go_simp) hHeld ?_; simp only [qA,qB,qC,qD]; refine zk 3 (some 86) (.int .i64 H) rfl rfl (fun w9 hS => by have Z := zi hS a5.out; go_simp) hHeld ?_; simp only [qA,qB,qC,qD]; refine zk 4 (some 87) (.pointer (some ⟨fb,2,none⟩)) rfl rfl (fun w9 _ => by go_simp) hHeld ?_; simp only [qA,qB,qC,qD]; refine zk 5 (some 88) (.pointer (some ⟨ρr.ty s,0,none⟩)) rfl rfl (fun w9 hS => by have Z := zi hS f2.out; go_simp) hHeld ?_; simp only [qA,qB,qC,qD]; refine zk 6 (some 89) (.pointer (some ⟨ρr.ty s,0,none⟩)) rfl rfl (fun w9 _ => by go_simp) hHeld ?_; simp only [qA,qB,qC,qD]; refine zk 7 (some 90) (.pointer (some ⟨ρr.ty s,3,none⟩)) rfl rfl (fun w9 _ => by go_simp) hHeld ?_; simp only [qA,qB,qC,qD]; refine zk 8 (some 91) (.int .i64 wj) rfl rfl (fun w9 hS => by have Z := zi hS d6.out; go_simp) hHeld ?_; simp only [qA,qB,qC,qD]; refine zk 9 (some 92) (.int .i64 (H + wj)) rfl rfl (fun w9 _ => by have Z := c7.out; go_simp) hHeld ?_; simp only [qA,qB,qC,qD]; refine zr 10 (by kernel_rfl) rfl (fun KK hKK => ?_)
     go_simp
     refine hKK.out _ _ hHeld (fun hHeld => ?_); clear hKK KK; refine zr 11 (by kernel_rfl) rfl (fun KK hKK => ?_)
     go_simp
     refine hKK.out _ _ hHeld (fun hHeld => ?_); clear hKK KK; have e3 := a5.out; have ez := F.out.z; refine zl 12 (by kernel_rfl) rfl rfl (fun KK hKK => ?_)
     go_simp
     refine hKK.out _ _ ?_; clear hKK KK; clear e3 ez; refine zd (by kernel_rfl) ?_ _; clear hHeld; go_wp2_with fail
     go_roundw
     case rel =>
      obtain rfl : H = _ := f9.out; obtain rfl : wj = _ := g0.out
      have d7 : ∀ g,(Value.slice M ((t.ty i).fields.length + 1) N).ownBlock = some g -> ρr.col g = some (.fl i) \/ wa.heap.size <= g := fun g hg => by
       rcases c8.out with d | d
       ·exact .inl (b0.out g (d ▸ hg))
       ·rw [d] at hg
        cases hg
        exact .inr (Nat.le_refl _)
      have j4 : ∀ g,(Value.slice M ((t.ty i).fields.length + 1) N).ownBlock = some g -> g ≠ ρ.ty i := fun g hg e => by
       rcases d7 g hg with d | d
       ·rw [e,J] at d; cases d
       ·have h8 := TB.out.lt
        have h7 := A.out.size
        omega
      have j5 : Stp True ρr wa t (ρr.gr (Value.slice M ((t.ty i).fields.length + 1) N).ownBlock (.fl i)) (q.setCell ⟨ρ.ty i,3,none⟩ (.int .i64 ((t.ty i).words + (t.ty s).words))).drew Sn := by
       have d := g4.out; rw [show Sn = _ from f3.out] at d ⊢; refine Stp.fld (KR.out.km.up (za k.out A.out)) ST.out.ok a1 ?_ ?_ ?_ d7 d
       ·rw [Q]
        exact (a8.out.put (fun d => d.1 rfl) _ _).drew
       ·rw [Q]
        exact (F.out.set 3 _).drew
       ·simp only [List.flatMap_append,List.flatMap_cons,List.flatMap_nil,List.append_nil,List.length_append,List.length_cons,List.length_nil]
        exact zZ j1.out (((c9.out).put (fun d => d rfl) _ _).drew) j4
      exact ⟨j + 1,_,Sn,by omega,by go_num,k9,ST.out.trans (((Stp.refl KR.out.km ST.out.ok).behind (za k.out A.out)).trans j5),by
       show _ = _
       rw [show Sn = _ from f3.out,show (t.setTy i _).ty i = _ from yZ _ _ _ a1]
       exact h1.out⟩
     case measure => first | omega | (simp only [intOf]; omega) | (simp; omega)
   ·have hE := vt (by omega) HE.out
    subst hE; go_wp2; refine bodyPost_end (results_none rfl _ _ _) rfl ?_
    exact ⟨rfl,_,ST.out⟩
end
end Go.Proofs.YtnmkffjklpfflaaGreatDoor
