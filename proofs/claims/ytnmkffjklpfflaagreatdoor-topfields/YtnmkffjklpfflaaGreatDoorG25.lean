/- A field put behind the others of a record,at a step of a region that draws its order. -/
import Derived.Test.YtnmkffjklpfflaaGreatDoorG24
namespace Go.Proofs.YtnmkffjklpfflaaGreatDoor
open Go.RowKit
theorem Tryz.infoField : (Tryz.prog.info? 58).map (fun i => (i.zero,i.size,i.bytes)) = some (some (.agg #[.string ⟨#[]⟩,.bool false,.pointer none,.int .i64 0]),4,40) := by kernel_rfl
theorem ro {ops : Array Oper} {o : Oper} {a : Act} {w : World} {K : Act -> World -> Prop} {Q : Exit -> Act -> World -> Prop} {E : Prop} (hgd : o.guard = none) (s x : Operand)
  (ho : o.op = .call { callee := .builtin .append,args := #[s,x],argTypes := #[52,52] })
  {g n : Nat} {v : Value} {cs vs : List Value} (hv4 : vs.length = 4) (hone : ∀ u ∈ vs,u.oneCell' = true) (hs : a.eval s = v) (hx : a.eval x = .slice (some ⟨g,0,none⟩) 1 1) (hl : w.ownsRow 0 58 4 v n cs) (hc : ∀ (j : Nat) (u : Value),vs[j]? = some u -> w.cell? ⟨g,j,none⟩ = some u) (hn : n <= 1000000)
  (k : ∀ v' w',w'.ownsRow 0 58 4 v' (n + 1) (cs ++ vs) -> w.grownBy w' v.ownBlock -> (v'.ownBlock = v.ownBlock \/ v'.ownBlock = some w.heap.size) -> K (a.put o.dst v') w') :
  if Region.wanted o (yielded ops a.tmps) = true then Oper.wp Tryz.prog o a w K Q else E := by
 have i : Region.wanted o (yielded ops a.tmps) = true := by simp [Region.wanted,hgd]
 rw [if_pos i]; obtain ⟨l,c,d,e,f⟩ := info_parts Tryz.infoField; obtain ⟨v',w',m,b,q,_,h⟩ := run_append_own_at (P := Tryz.prog) w 0 52 o.type 58 l _ 4 40 Tryz.underlying52 c d e f rfl (by decide) v n cs hl ⟨g,0,none⟩ 1 1 vs
  hv4 (fun j u hj => by rw [zau]; exact hc j u hj) hone (by unfold maxLen; omega) (by omega) (Nat.zero_le _)
 unfold Oper.wp execOp
 simp only [ho,resolve,invoke,builtin,Sem.run_bind,Sem.run_pure,Result.andThen_ok,List.map_toArray,List.map_cons,List.map_nil,hs,hx,m]
 exact k v' w' b q h
set_option maxHeartbeats 4000000
set_option maxRecDepth 100000
section
variable {ρ : Lay} {w w' w1 : World} {S : KS} {b : Nat} {c : KSc}
theorem qX {i : Nat} (h : CK ρ w S b c) (n : T) (sv : Value) (hf : Fits n) (hk : S.okB = true) (hcb : ρ.col b = some .ck) (hi : i < S.tys.length) (h4 : (S.ty i).form = 4) {S' : KS} (ha : AF ρ.tr w n.subs sv) (hl2 : 2 <= n.subs.length) (hC : S.fillRecordC c i n = some S') :
  Calls Tryz.prog 104 #[pq b,pq (ρ.ty i),zo n sv] w (fun e w' => e = .returned (.tuple #[]) /\ ∃ ρ',Stp True ρ w S ρ' w' S') := by
 have HK := zc h; have HB := zc hk; have H4 := zc h4; obtain ⟨S1,a6,b2⟩ := gS hC; obtain ⟨kd,x,m,p,l⟩ := n
 change AF ρ.tr w l sv at ha
 change 2 <= l.length at hl2
 change zX (KS.fieldC c i) (l.drop 1) S1 = some S' at a6
 obtain ⟨I,us,rfl⟩ : ∃ u r,l = u :: r := by
  cases l with
  | nil => simp at hl2
  | cons u r => exact ⟨u,r,rfl⟩
 change zX (KS.fieldC c i) us S1 = some S' at a6
 obtain ⟨va,vc,rfl,j6,j7⟩ := ha.at.form; obtain ⟨g,o,rfl,_,b6⟩ := ha.nodes (by omega); obtain ⟨_,n0,f0,a0⟩ := b6 0 I rfl; obtain ⟨b3,c0,rfl,-,-⟩ := a0.at.form; rw [Nat.zero_mul,Nat.add_zero] at n0; rw [show sub (T.mk kd x m p (I :: us)) 0 = I from rfl] at b2
 unfold maxLen at j7
 simp only [List.length_cons] at hl2 j6; have b7 := zc n0; have j8 := zc a0; have l7 := zc f0; have j9 := zc b2; have l8 := zc a6; have HA := zc ha; have zg : g < w.heap.size := zw n0.c0; clear h hk h4 hf ha hC b2 a6 n0 a0 f0 b6
 change Calls Tryz.prog 104 #[pq b,pq (ρ.ty i),.agg #[.int .i64 kd,.string ⟨x.toArray⟩,.int .i64 m,.int .i64 p,.slice (some ⟨g,o,none⟩) (us.length + 1) vc]] w _
 obtain ⟨w0,b8⟩ : ∃ z,z = w.alloc (.cells #[.int .i64 kd,.string ⟨x.toArray⟩,.int .i64 m,.int .i64 p,.slice (some ⟨g,o,none⟩) (us.length + 1) vc] 100) := ⟨_,rfl⟩
 have G0 : Hid (w.grownBy w0 none) := by rw [b8]; exact zh grn _
 have B0 : Hid (Box w0 w.heap.size (.mk kd x m p (I :: us)) (.slice (some ⟨g,o,none⟩) (us.length + 1) vc)) := by rw [b8]; exact Box.new w (.mk kd x m p (I :: us)) (.slice (some ⟨g,o,none⟩) (us.length + 1) vc) _
 have l9 : Hid (w0.heap.size = w.heap.size + 1) := by show _ = _; rw [b8]; simp
 have m0 := b7.out.c0; have m1 := b7.out.c1; have m2 := b7.out.c2; have m3 := b7.out.c3; have m4 := b7.out.c4
 go_enter Tryz.func104,Tryz.ntmps104
 go_upto_if 18 with fail
 rw [<- b8]; clear b8; obtain ⟨w1,b9⟩ : ∃ z,z = w0.alloc (.cells #[.int .i64 I.kind,.string ⟨I.name.toArray⟩,.int .i64 I.num,.int .i64 I.at',.slice b3 I.subs.length c0] 100) := ⟨_,rfl⟩; rw [<- b9]
 have G1 : Hid (w.grownBy w1 none) := by rw [b9]; exact zh G0.out _
 have B1 : Hid (Box w1 (w.heap.size + 1) I (.slice b3 I.subs.length c0)) := by rw [b9,<- show _ = _ from l9.out]; exact Box.new w0 I _ _
 have k0 : Hid (Box w1 w.heap.size (.mk kd x m p (I :: us)) (.slice (some ⟨g,o,none⟩) (us.length + 1) vc)) := by rw [b9]; exact B0.out.kept gan
 clear b9 m0 m1 m2 m3 m4
 go_cut [] from 15 (fun wx => Hid (Stp True ρ w S ρ wx S1) /\ Hid (Box wx w.heap.size (.mk kd x m p (I :: us)) (.slice (some ⟨g,o,none⟩) (us.length + 1) vc)))
 case first =>
  rcases j9.out with ⟨d8,hE⟩ | ⟨d8,j,hj,m5,k1,g1⟩
  ·have m6 : (I.kind != 0) = false := by simp [d8]
   clear d8; go_wp2_with fail; go_meet
   case rel =>
    rw [hE]
    exact ⟨(Stp.refl HK.out.km HB.out).behind G1.out,k0.out⟩
  ·have m6 : (I.kind != 0) = true := by simpa using d8
   have k2 := zc g1; have m7 := zc k1; have k3 : j < S.tys.length := yF HK.out hj
   have k4 : S.record I j = .ok j := by unfold KS.record; rw [if_pos m5]
   have d9 := zc (fun w9 (G : w.grownBy w9 none) => yG (HK.out.up G) I (.slice b3 I.subs.length c0) l7.out (j8.out.at.kept G)); have k5 := zc (fun w9 (G : w.grownBy w9 none) => qT (b := b) (HK.out.km.up G) I (.slice b3 I.subs.length c0) (j8.out.at.kept G) k3); obtain ⟨fv,tb,-⟩ := (HK.out.km.ty i hi).bk; obtain ⟨fw,tj,-⟩ := (HK.out.km.ty j k3).bk; have TB := zc tb; have TJ := zc tj; have J : ρ.col (ρ.ty i) = some (.ty i) := (HK.out.km.ty i hi).col; have k6 : ρ.col w.heap.size = none := HK.out.km.fr _ (Nat.le_refl _)
   have m8 : w.heap.size ≠ ρ.ty i := fun e => by rw [e,J] at k6; cases k6
   clear tb tj g1 k1; go_wp2_with fail; refine yk [9] (S := fun w9 => w1.grownBy w9 none) (by kernel_rfl) ?_ (fun hHeld => ?_)
   ·exact zf grn
   refine zk 0 (some 19) (pq (ρ.ty i)) rfl rfl (fun w9 _ => by go_simp) hHeld ?_; refine zk 1 (some 20) (pq b) rfl rfl (fun w9 _ => by go_simp) hHeld ?_; refine zk 2 (some 21) (zo I (.slice b3 I.subs.length c0)) rfl rfl (fun w9 hS => by obtain ⟨q0,Z,q2,q3,q4⟩ := Box.kept B1.out hS; go_simp) hHeld ?_; refine zk 3 (some 22) (pq b) rfl rfl (fun w9 _ => by go_simp) hHeld ?_; refine zk 4 (some 23) (zo I (.slice b3 I.subs.length c0)) rfl rfl (fun w9 hS => by obtain ⟨q0,Z,q2,q3,q4⟩ := Box.kept B1.out hS; go_simp) hHeld ?_; simp only [qA,qB,qC,qD]; refine zr 5 (by kernel_rfl) rfl (fun KK hKK => ?_)
   go_simp
   go_at_call 74; refine (d9.out _ (zf G1.out)).mono ?_; rw [hj]; rintro e w2 ⟨f1,rfl⟩; have G2 := zc (za (zf G1.out) f1); have k7 := zc (za (zf grn) f1); clear f1
   go_simp
   refine hKK.out _ _ k7.out fun hHeld => ?_
   clear hKK KK; refine zr 6 (by kernel_rfl) rfl (fun KK hKK => ?_)
   go_simp
   go_at_call 105; refine (k5.out _ G2.out).mono ?_; rw [k4]; rintro e w3 ⟨h0,rfl⟩; have G3 := zc (za G2.out h0); have k8 := zc (za k7.out h0); clear h0
   go_simp
   refine hKK.out _ _ k8.out fun hHeld => ?_
   clear hKK KK; refine zr 7 (by kernel_rfl) rfl (fun KK hKK => ?_)
   go_simp
   refine hKK.out _ _ hHeld (fun hHeld => ?_); clear hKK KK; refine zr 8 (by kernel_rfl) rfl (fun KK hKK => ?_)
   go_simp
   refine hKK.out _ _ hHeld (fun hHeld => ?_); clear hKK KK; have e5 := (TB.out.kept G3.out (by simp)).c 5 _ rfl; have ez := (TB.out.kept G3.out (by simp)).z; refine zl 9 (by kernel_rfl) rfl rfl (fun KK hKK => ?_)
   go_simp
   refine hKK.out _ _ ?_; clear hKK KK; refine zd (by kernel_rfl) ?_ _; clear hHeld; have y3 := ze G3.out (TJ.out.c 3 _ rfl); have e3 := ze G3.out (TB.out.c 3 _ rfl); go_wp2_with fail; go_meet
   case rel =>
    have SS : Sm w3 ((w3.setCell ⟨ρ.ty i,5,none⟩ (pq (ρ.ty j))).setCell ⟨ρ.ty i,3,none⟩ (.int .i64 (S.ty j).words)) (fun g => g ≠ ρ.ty i) := ((Sm.refl w3 _).put (fun d => d rfl) _ _).put (fun d => d rfl) _ _; refine ⟨?_,Box.sm (k0.out.kept k8.out) SS m8⟩; have d := k2.out; rw [show S1 = _ from m7.out] at d ⊢
    exact ((Stp.refl HK.out.km HB.out).behind G3.out).trans (Stp.ty (HK.out.km.up G3.out) HB.out hi SS (fun fv hB => (hB.set 5 _).set 3 _) rfl d)
 case rest =>
  obtain ⟨m9,n1⟩ := hcut; have x4 := n1.out.c4
  have o6 : 1 < vc := by omega
  have n2 : Hid ((S1.ty i).form = 4) := by
   show _ = _
   rcases j9.out with ⟨-,hE⟩ | ⟨-,j,-,-,hE,-⟩
   ·rw [hE]; exact H4.out
   ·rw [hE,show (S.setTy i _).ty i = _ from zY _ _ _ hi]; exact H4.out
  go_wp2_with fail; clear x4
  go_loopw [42] (fun iv wr => ∃ (j : Nat) (ρr : Lay) (s : KS),j <= us.length /\ iv = .int .i64 ↑j /\ Hid (zX (KS.fieldC c i) (us.drop j) s = some S') /\ Hid (Stp True ρ w S ρr wr s) /\ Hid ((s.ty i).form = 4)) (fun iv _ => us.length - (intOf iv).toNat)
  case atStart => exact ⟨0,ρ,S1,Nat.zero_le _,rfl,l8.out,m9.out,n2.out⟩
  case round =>
   obtain ⟨j,ρr,s,hj,rfl,HE,ST,h1⟩ := hrel
   by_cases n3 : j < us.length
   ·obtain ⟨v,hv⟩ : ∃ v,us[j]? = some v := ⟨_,List.getElem?_eq_getElem n3⟩
    obtain ⟨Sn,b2,a6⟩ := vS hv HE.out; have k9 := zc a6; obtain ⟨q,u,r,l0,_,l1,c5,h2,l2,g3⟩ := mU b2; have KR : Hid (CK ρr wr s b c) := HK.out.step ST.out hcb; have a1 : i < s.tys.length := Nat.lt_of_lt_of_le hi ST.out.tys; have Q : ρr.ty i = ρ.ty i := ST.out.agr.ty i hi; have n4 := zc (KS.tysOk ST.out.ok l0); have f3 := zc l2; have g4 := zc g3; have g5 := zc h2; have f4 : q < s.tys.length := yF KR.out h2; obtain ⟨g',o',sw,e1,o7,n5,fv,av⟩ := (HA.out.step ST.out).node (j := j + 1) (v := v) (by simpa using hv); cases e1; rw [show o + (j + 1) * 5 = o + 5 + j * 5 by omega] at n5
    have o8 : 0 < v.subs.length := by rw [c5]; simp
    obtain ⟨va,c6,rfl,-,-⟩ := av.at.form; obtain ⟨g2,o2,_,e2,f1,n6,fu,au⟩ := av.node (j := 0) (v := u) (by rw [c5]; rfl); subst e2; rw [Nat.zero_mul,Nat.add_zero] at n6; obtain ⟨ua,uc,rfl,-,-⟩ := au.at.form; have FU := zc fu; have AU := zc au; have N6 := zc n6; have d0 := n5.c0; have d1 := n5.c1; have d2 := n5.c2; have d3 := n5.c3; have d4 := n5.c4; have o9 : g < wr.heap.size := zw d0; clear n5 n6 fu au fv av hv b2 a6 c5 l2 g3 l0; go_wp2_with fail; obtain ⟨w6,f5⟩ : ∃ z,z = wr.alloc (.cells #[.int .i64 v.kind,.string ⟨v.name.toArray⟩,.int .i64 v.num,.int .i64 v.at',.slice (some ⟨g2,o2,none⟩) v.subs.length c6] 100) := ⟨_,rfl⟩
    try rw [<- f5]
    have l3 : Hid (wr.grownBy w6 none) := by rw [f5]; exact zh grn _
    have n7 : Hid (Box w6 wr.heap.size v (.slice (some ⟨g2,o2,none⟩) v.subs.length c6)) := by rw [f5]; exact Box.new wr v _ _
    clear f5 d0 d1 d2 d3 d4; have l4 := zc (yU (KR.out.km.up l3.out) n4.out a1 h1.out v.name); rw [Q] at l4; go_at_call 19; refine l4.out.mono ?_; rw [l1,show ρr.fdP none = .tuple #[.agg #[.string ⟨#[]⟩,.bool false,.pointer none,.int .i64 0],.pointer none] from rfl]; rintro e w7 ⟨rfl,h3⟩; have G7 := zc (za l3.out h3); have n8 : Hid (Box w7 wr.heap.size v (.slice (some ⟨g2,o2,none⟩) v.subs.length c6)) := n7.out.kept h3; clear h3; go_wp2_with fail; obtain ⟨O,f6⟩ : ∃ z,z = w7.alloc (.cells #[.string ⟨#[]⟩,.bool false,.pointer none,.int .i64 0] 58) := ⟨_,rfl⟩; rw [<- f6]
    have G8 : Hid (wr.grownBy O none) := by rw [f6]; exact zh G7.out _
    have h5 : Hid (Box O wr.heap.size v (.slice (some ⟨g2,o2,none⟩) v.subs.length c6)) := by rw [f6]; exact n8.out.kept gan
    clear f6; obtain ⟨ft,tb,g6,g7⟩ := (KR.out.km.ty i a1).bk; rw [Q] at tb; obtain ⟨fw,tj,-⟩ := (KR.out.km.ty q f4).bk; have TB := zc tb; have TJ := zc tj; have g8 := zc g6; have b0 := zc g7
    have J : ρr.col (ρ.ty i) = some (.ty i) := by rw [<- Q]; exact (KR.out.km.ty i a1).col
    have n9 := ((KS.okP ST.out.ok).tyP a1).2; have o0 := ((KS.okP ST.out.ok).tyP f4).2; obtain ⟨H,f7⟩ : ∃ z,z = (s.ty i).words := ⟨_,rfl⟩; obtain ⟨wj,f8⟩ : ∃ z,z = (s.ty q).words := ⟨_,rfl⟩; have f9 := zc f7; have g0 := zc f8; rw [<- f7] at n9; rw [<- f8] at o0
    have t3 : Hid (wr.cell? ⟨ρ.ty i,3,none⟩ = some (.int .i64 H)) := by rw [f7]; exact tb.c 3 _ rfl
    have j3 : Hid (wr.cell? ⟨ρr.ty q,3,none⟩ = some (.int .i64 wj)) := by rw [f8]; exact tj.c 3 _ rfl
    have N8 : Hid (Node5 O g2 o2 u (.slice ua u.subs.length uc)) := N6.out.kept G8.out; have d9 := zc (fun w9 (G : O.grownBy w9 none) => yG (KR.out.up (za G8.out G)) u (.slice ua u.subs.length uc) FU.out (AU.out.at.kept (za G8.out G)))
    have o5 : ¬ ((v.subs.length : Int) <= 0) := by omega
    have c7 : Hid (IntKind.i64.wrap (H + wj) = H + wj) := by show _ = _; rw [IntKind.wrap_i64]; omega
    have g9 : (s.ty i).fields.length <= 1000000 := by omega
    clear tb tj g6 g7 f7 f8 l1 h2
    skip
    refine wp_region_held_drew (S := fun w9 => O.grownBy w9 none) (by kernel_rfl) ?_ (fun hHeld => ?_)
    ·exact zf grn
    refine kQ 0 57 (.pointer (some ⟨wr.heap.size,1,none⟩)) hHeld ?_; refine dk 1 (some 58) (.string ⟨v.name.toArray⟩) rfl rfl (fun w9 hS => by obtain ⟨q0,Z,q2,q3,q4⟩ := Box.kept h5.out hS; go_simp) hHeld ?_; refine kQ 2 59 (.pointer (some ⟨wr.heap.size,2,none⟩)) hHeld ?_; refine dk 3 (some 60) (.int .i64 v.num) rfl rfl (fun w9 hS => by obtain ⟨q0,Z,q2,q3,q4⟩ := Box.kept h5.out hS; go_simp) hHeld ?_; refine kQ 4 61 (.bool (v.num == 1)) hHeld ?_; refine kQ 5 62 (pq b) hHeld ?_; refine kQ 6 63 (.pointer (some ⟨wr.heap.size,4,none⟩)) hHeld ?_; refine dk 7 (some 64) (.slice (some ⟨g2,o2,none⟩) v.subs.length c6) rfl rfl (fun w9 hS => by obtain ⟨q0,Z,q2,q3,q4⟩ := Box.kept h5.out hS; go_simp) hHeld ?_; refine kQ 8 65 (.pointer (some ⟨g2,o2,none⟩)) hHeld ?_; refine dk 9 (some 66) (zo u (.slice ua u.subs.length uc)) rfl rfl (fun w9 hS => by obtain ⟨q0,Z,q2,q3,q4⟩ := Node5.kept N8.out hS; go_simp) hHeld ?_; refine kQ 11 68 (pq (ρ.ty i)) hHeld ?_; refine kQ 12 69 (pq (ρ.ty i)) hHeld ?_; refine kQ 13 70 (.pointer (some ⟨ρ.ty i,3,none⟩)) hHeld ?_; refine dk 14 (some 71) (.int .i64 H) rfl rfl (fun w9 hS => by have Z := ze (za G8.out hS) t3.out; go_simp) hHeld ?_; simp only [qA,qB,qC,qD]; refine wpAnyH_ready (rs := [10,16]) (by kernel_rfl) (by simp) ?_; refine AllReadyH.cons rfl (fun KK hKK => ?_) (AllReadyH.cons rfl (fun KK hKK => ?_) AllReadyH.nil)
    ·skip
     go_simp
     go_at_call 74; refine (d9.out _ (zf grn)).mono ?_; rw [g5.out]; rintro e w9 ⟨b4,rfl⟩; have R := zc (za (zf grn) b4)
     go_simp
     refine hKK.out _ _ R.out fun hHeld => ?_
     clear hKK KK; refine kQ 15 72 (.agg #[.string ⟨v.name.toArray⟩,.bool (v.num == 1),pq (ρr.ty q),.int .i64 H]) hHeld ?_; simp only [qA,qB,qC,qD]; refine rd 16 rfl fun KK hKK => ?_
     go_simp
     refine hKK.out _ _ (zh R.out _) fun hHeld => ?_
     clear hKK KK; refine rd 17 rfl fun KK hKK => ?_
     go_simp
     refine hKK.out _ _ (zh R.out _) fun hHeld => ?_
     clear hKK KK; refine wpAnyH_done (by kernel_rfl) ?_ _; clear hHeld; obtain ⟨f,E⟩ : ∃ z,z = w9.alloc (.cells #[.string ⟨v.name.toArray⟩,.bool (v.num == 1),pq (ρr.ty q),.int .i64 H] 58) := ⟨_,rfl⟩; rw [<- E]
     have h6 : Hid (O.grownBy f none) := by rw [E]; exact zh R.out _
     obtain ⟨fb,U⟩ : ∃ z,z = w9.heap.size := ⟨_,rfl⟩
     have FB : Hid (Bk f fb [.string ⟨v.name.toArray⟩,.bool (v.num == 1),pq (ρr.ty q),.int .i64 H]) := by rw [E,U]; exact Bk.new w9 _ _ rfl
     rw [<- U]
     have o1 : O.heap.size <= fb := by rw [U]; exact R.out.size
     clear E U b4; have k := zc (za G8.out h6.out); have l5 := k.out.size; have C : ρr.col fb = none := KR.out.km.fr _ (by have d := G8.out.size; omega); have a2 := zc (TB.out.kept k.out (by simp)); have e6 : Hid (f.cell? ⟨ρ.ty i,6,none⟩ = some ft) := a2.out.c 6 _ rfl; have V : Hid (f.ownsRow 0 58 4 ft (s.ty i).fields.length ((s.ty i).fields.flatMap (fdV ρr))) := zR g8.out (Sm.of_none k.out (fun _ => True)) (fun _ _ => trivial); go_wp2_with fail; refine yk [10] (S := fun w9 => Sm f w9 (fun g => ρr.col g ≠ some (.fl i))) (by kernel_rfl) ?_ (fun hHeld => ?_)
     ·exact (Sm.refl f _).drew
     refine zk 0 (some 73) (pq (ρ.ty i)) rfl rfl (fun w9 _ => by go_simp) hHeld ?_; refine zk 1 (some 74) (pq (ρ.ty i)) rfl rfl (fun w9 _ => by go_simp) hHeld ?_; refine zk 2 (some 75) (pq (ρ.ty i)) rfl rfl (fun w9 _ => by go_simp) hHeld ?_; refine zk 3 (some 76) (.pointer (some ⟨ρ.ty i,6,none⟩)) rfl rfl (fun w9 _ => by go_simp) hHeld ?_; refine zk 4 (some 77) ft rfl rfl (fun w9 hS => by have Z := Sm.cell hS e6.out (by show ρr.col (ρ.ty i) ≠ _; rw [J]; nofun); go_simp) hHeld ?_; refine zk 5 (some 78) (.agg #[.string ⟨v.name.toArray⟩,.bool (v.num == 1),pq (ρr.ty q),.int .i64 H]) rfl rfl (fun w9 hS => by have q0 := (FB.out.sm hS (by rw [C]; nofun)).c 0 _ rfl; have Z := (FB.out.sm hS (by rw [C]; nofun)).c 1 _ rfl; have q2 := (FB.out.sm hS (by rw [C]; nofun)).c 2 _ rfl; have q3 := (FB.out.sm hS (by rw [C]; nofun)).c 3 _ rfl; go_simp) hHeld ?_; simp only [qA,qB,qC,qD]; refine zr 6 (by kernel_rfl) rfl (fun KK hKK => ?_)
     go_simp
     refine hKK.out _ _ (Sm.of_none (zf gan) _) fun hHeld => ?_
     clear hKK KK; obtain ⟨wa,X⟩ : ∃ z,z = (f.alloc (.cells #[.string ⟨v.name.toArray⟩,.bool (v.num == 1),pq (ρr.ty q),.int .i64 H] 58)).drew := ⟨_,rfl⟩; rw [<- X] at hHeld ⊢
     have t : Hid (f.grownBy wa none) := by rw [X]; exact zf gan
     have ca : Hid (Bk wa f.heap.size [.string ⟨v.name.toArray⟩,.bool (v.num == 1),pq (ρr.ty q),.int .i64 H]) := by rw [X]; exact Bk.drew (Bk.new f _ _ rfl)
     clear X; refine zr 7 (by kernel_rfl) rfl (fun KK hKK => ?_); refine ro rfl _ _ rfl (vs := [.string ⟨v.name.toArray⟩,.bool (v.num == 1),pq (ρr.ty q),.int .i64 H]) rfl (fun u hu => by simp at hu; rcases hu with rfl | rfl | rfl | rfl <;> rfl) (v := ft) (g := f.heap.size) rfl rfl (zR V.out (Sm.of_none t.out (fun _ => True)) (fun _ _ => trivial)) ca.out.c g9 ?_; intro j0 Y D a3 K; have a7 : Hid (Sm wa Y (fun g => ρr.col g ≠ some (.fl i))) := (Sm.refl wa _).gbn a3 (fun g hg d => d (b0.out g hg)); refine hKK.out _ _ ((Sm.of_none t.out _).trans a7.out) fun hHeld => ?_
     clear hKK KK
     obtain ⟨L,M,rfl⟩ : ∃ aa cc,j0 = .slice aa ((s.ty i).fields.length + 1) cc := by
      rcases D.2 with ⟨_,d⟩ | ⟨g,o3,o4,d,_⟩
      ·omega
      ·exact ⟨_,_,d⟩
     have j1 := zc D; have c8 := zc K; have N := zc ((a2.out.kept t.out (by simp)).sm a7.out (by rw [J]; nofun)); clear D K a3; refine zr 8 (by kernel_rfl) rfl (fun KK hKK => ?_)
     go_simp
     refine hKK.out _ _ hHeld (fun hHeld => ?_); clear hKK KK; refine zr 9 (by kernel_rfl) rfl (fun KK hKK => ?_)
     go_simp
     refine hKK.out _ _ hHeld (fun hHeld => ?_); clear hKK KK; have j2 := N.out.c 6 _ rfl; have ez := N.out.z; refine zl 10 (by kernel_rfl) rfl rfl (fun KK hKK => ?_)
     go_simp
     refine hKK.out _ _ ?_; clear hKK KK; clear j2 ez; refine zd (by kernel_rfl) ?_ _; clear hHeld; obtain ⟨A,B⟩ : ∃ z,z = Y.setCell ⟨ρ.ty i,6,none⟩ (.slice L ((s.ty i).fields.length + 1) M) := ⟨_,rfl⟩
     try rw [<- B]
     have F : Hid (Bk A (ρ.ty i) (tyV ρr (s.ty i) (.slice L ((s.ty i).fields.length + 1) M))) := by rw [B]; exact N.out.set 6 _
     have a8 : Hid (Sm wa A (fun g => g ≠ ρ.ty i /\ ρr.col g ≠ some (.fl i))) := by rw [B]; exact (a7.out.mono (fun g _ d => d.2)).put (fun d => d.1 rfl) _ _
     have a4 : Sm Y A (fun g => g ≠ ρ.ty i) := by rw [B]; exact (Sm.refl Y _).put (fun d => d rfl) _ _
     have c9 := zc a4; clear B a4; have d5 := zc ((FB.out.kept t.out (by simp)).sm a8.out ⟨fun e => (by rw [e,J] at C; cases C),by rw [C]; nofun⟩)
     have a5 : Hid (A.cell? ⟨ρ.ty i,3,none⟩ = some (.int .i64 H)) := by rw [show H = _ from f9.out]; exact F.out.c 3 _ rfl
     have f2 : Hid (A.cell? ⟨fb,2,none⟩ = some (pq (ρr.ty q))) := d5.out.c 2 _ rfl
     have d6 : Hid (A.cell? ⟨ρr.ty q,3,none⟩ = some (.int .i64 wj)) := by
      by_cases e : q = i
      ·rw [e,Q,show wj = _ from g0.out,e]; exact F.out.c 3 _ rfl
      ·have a9 := (KR.out.km.ty q f4).col
       refine a8.out.cell (ze t.out (ze k.out j3.out)) ⟨fun e2 => ?_,fun e2 => ?_⟩
       ·have e3 : ρr.ty q = ρ.ty i := e2
        rw [e3,J] at a9; cases a9; exact e rfl
       ·have e3 : ρr.col (ρr.ty q) = some (.fl i) := e2
        rw [a9] at e3; cases e3
     go_wp2_with fail; refine yk [12] (S := fun w9 => A.grownBy w9 none) (by kernel_rfl) ?_ (fun hHeld => ?_)
     ·exact zf grn
     refine zk 0 (some 83) (pq (ρ.ty i)) rfl rfl (fun w9 _ => by go_simp) hHeld ?_; refine zk 1 (some 84) (pq (ρ.ty i)) rfl rfl (fun w9 _ => by go_simp) hHeld ?_; refine zk 2 (some 85) (.pointer (some ⟨ρ.ty i,3,none⟩)) rfl rfl (fun w9 _ => by go_simp) hHeld ?_; refine zk 3 (some 86) (.int .i64 H) rfl rfl (fun w9 hS => by have Z := ze hS a5.out; go_simp) hHeld ?_; refine zk 4 (some 87) (.pointer (some ⟨fb,2,none⟩)) rfl rfl (fun w9 _ => by go_simp) hHeld ?_; refine zk 5 (some 88) (pq (ρr.ty q)) rfl rfl (fun w9 hS => by have Z := ze hS f2.out; go_simp) hHeld ?_; refine zk 6 (some 89) (pq (ρr.ty q)) rfl rfl (fun w9 _ => by go_simp) hHeld ?_; refine zk 7 (some 90) (.pointer (some ⟨ρr.ty q,3,none⟩)) rfl rfl (fun w9 _ => by go_simp) hHeld ?_; refine zk 8 (some 91) (.int .i64 wj) rfl rfl (fun w9 hS => by have Z := ze hS d6.out; go_simp) hHeld ?_; refine zk 9 (some 92) (.int .i64 (H + wj)) rfl rfl (fun w9 _ => by have Z := c7.out; go_simp) hHeld ?_; simp only [qA,qB,qC,qD]; refine zr 10 (by kernel_rfl) rfl (fun KK hKK => ?_)
     go_simp
     refine hKK.out _ _ hHeld (fun hHeld => ?_); clear hKK KK; refine zr 11 (by kernel_rfl) rfl (fun KK hKK => ?_)
     go_simp
     refine hKK.out _ _ hHeld (fun hHeld => ?_); clear hKK KK; have e3 := a5.out; have ez := F.out.z; refine zl 12 (by kernel_rfl) rfl rfl (fun KK hKK => ?_)
     go_simp
     refine hKK.out _ _ ?_; clear hKK KK; clear e3 ez; refine zd (by kernel_rfl) ?_ _; clear hHeld; go_wp2_with fail
     go_roundw
     case rel =>
      obtain rfl : H = _ := f9.out; obtain rfl : wj = _ := g0.out
      have d7 : ∀ g,(Value.slice L ((s.ty i).fields.length + 1) M).ownBlock = some g -> ρr.col g = some (.fl i) \/ wa.heap.size <= g := fun g hg => by
       rcases c8.out with d | d
       ·exact .inl (b0.out g (d ▸ hg))
       ·rw [d] at hg
        cases hg
        exact .inr (Nat.le_refl _)
      have j4 : ∀ g,(Value.slice L ((s.ty i).fields.length + 1) M).ownBlock = some g -> g ≠ ρ.ty i := fun g hg e => by
       rcases d7 g hg with d | d
       ·rw [e,J] at d; cases d
       ·have h8 := TB.out.lt
        have h7 := t.out.size
        omega
      have j5 : Stp True ρr wa s (ρr.gr (Value.slice L ((s.ty i).fields.length + 1) M).ownBlock (.fl i)) (A.setCell ⟨ρ.ty i,3,none⟩ (.int .i64 ((s.ty i).words + (s.ty q).words))).drew Sn := by
       have d := g4.out; rw [show Sn = _ from f3.out] at d ⊢; refine Stp.fld (KR.out.km.up (za k.out t.out)) ST.out.ok a1 ?_ ?_ ?_ d7 d
       ·rw [Q]
        exact (a8.out.put (fun d => d.1 rfl) _ _).drew
       ·rw [Q]
        exact (F.out.set 3 _).drew
       ·simp only [List.flatMap_append,List.flatMap_cons,List.flatMap_nil,List.append_nil,la,lc,ln]
        exact zR j1.out (((c9.out).put (fun d => d rfl) _ _).drew) j4
      exact ⟨j + 1,_,Sn,by omega,by go_num,k9,ST.out.trans (((Stp.refl KR.out.km ST.out.ok).behind (za k.out t.out)).trans j5),by
       show _ = _
       rw [show Sn = _ from f3.out,show (s.setTy i _).ty i = _ from zY _ _ _ a1]
       exact h1.out⟩
     case measure => first | omega | (simp only [intOf]; omega) | (simp; omega)
    ·skip
     go_simp
     refine hKK.out _ _ (zf gan) fun hHeld => ?_
     clear hKK KK; obtain ⟨wb,b1⟩ : ∃ z,z = (O.alloc (.cells #[.string ⟨#[]⟩,.bool false,.pointer none,.int .i64 0] 58)).drew := ⟨_,rfl⟩; rw [<- b1] at hHeld ⊢
     have l6 : Hid (O.grownBy wb none) := by rw [b1]; exact zf gan
     have FZ : Hid (Bk wb O.heap.size [.string ⟨#[]⟩,.bool false,.pointer none,.int .i64 0]) := by rw [b1]; exact Bk.drew (Bk.new O _ _ rfl)
     clear b1; refine rd 10 rfl fun KK hKK => ?_
     go_simp
     go_at_call 74; refine (d9.out _ l6.out).mono ?_; rw [g5.out]; rintro e w9 ⟨b4,rfl⟩; have R := zc (za l6.out b4)
     go_simp
     refine hKK.out _ _ R.out fun hHeld => ?_
     clear hKK KK; refine kQ 15 72 (.agg #[.string ⟨v.name.toArray⟩,.bool (v.num == 1),pq (ρr.ty q),.int .i64 H]) hHeld ?_; simp only [qA,qB,qC,qD]; have b5 := zc (FZ.out.kept b4 (by simp)); have z0 := b5.out.c 0 _ rfl; have z1 := b5.out.c 1 _ rfl; have z2 := b5.out.c 2 _ rfl; have z3 := b5.out.c 3 _ rfl; have zz := b5.out.z; refine rd 17 rfl fun KK hKK => ?_
     go_simp
     refine hKK.out _ _ ((((((((Sm.of_none R.out (fun g => g ≠ O.heap.size)).put (fun d => d rfl) _ _).put (fun d => d rfl) _ _).put (fun d => d rfl) _ _).put (fun d => d rfl) _ _).mono (fun g hg (_ : True) => by omega))).gb) fun hHeld => ?_
     clear hKK KK; refine wpAnyH_done (by kernel_rfl) ?_ _; clear hHeld z0 z1 z2 z3 zz; obtain ⟨f,E⟩ : ∃ z,z = (((w9.setCell ⟨O.heap.size,0,none⟩ (.string ⟨v.name.toArray⟩)).setCell ⟨O.heap.size,1,none⟩ (.bool (v.num == 1))).setCell ⟨O.heap.size,2,none⟩ (pq (ρr.ty q))).setCell ⟨O.heap.size,3,none⟩ (.int .i64 H) := ⟨_,rfl⟩; rw [<- E]
     have h6 : Hid (O.grownBy f none) := by rw [E]; exact (((((((Sm.of_none R.out (fun g => g ≠ O.heap.size)).put (fun d => d rfl) _ _).put (fun d => d rfl) _ _).put (fun d => d rfl) _ _).put (fun d => d rfl) _ _).mono (fun g hg (_ : True) => by omega))).gb
     obtain ⟨fb,U⟩ : ∃ z,z = O.heap.size := ⟨_,rfl⟩
     have FB : Hid (Bk f fb [.string ⟨v.name.toArray⟩,.bool (v.num == 1),pq (ρr.ty q),.int .i64 H]) := by rw [E,U]; exact (((b5.out.set 0 _).set 1 _).set 2 _).set 3 _
     rw [<- U]
     have o1 : O.heap.size <= fb := by rw [U]; exact Nat.le_refl _
     clear E U b4; have k := zc (za G8.out h6.out); have l5 := k.out.size; have C : ρr.col fb = none := KR.out.km.fr _ (by have d := G8.out.size; omega); have a2 := zc (TB.out.kept k.out (by simp)); have e6 : Hid (f.cell? ⟨ρ.ty i,6,none⟩ = some ft) := a2.out.c 6 _ rfl; have V : Hid (f.ownsRow 0 58 4 ft (s.ty i).fields.length ((s.ty i).fields.flatMap (fdV ρr))) := zR g8.out (Sm.of_none k.out (fun _ => True)) (fun _ _ => trivial); go_wp2_with fail; refine yk [10] (S := fun w9 => Sm f w9 (fun g => ρr.col g ≠ some (.fl i))) (by kernel_rfl) ?_ (fun hHeld => ?_)
     ·exact (Sm.refl f _).drew
     refine zk 0 (some 73) (pq (ρ.ty i)) rfl rfl (fun w9 _ => by go_simp) hHeld ?_; refine zk 1 (some 74) (pq (ρ.ty i)) rfl rfl (fun w9 _ => by go_simp) hHeld ?_; refine zk 2 (some 75) (pq (ρ.ty i)) rfl rfl (fun w9 _ => by go_simp) hHeld ?_; refine zk 3 (some 76) (.pointer (some ⟨ρ.ty i,6,none⟩)) rfl rfl (fun w9 _ => by go_simp) hHeld ?_; refine zk 4 (some 77) ft rfl rfl (fun w9 hS => by have Z := Sm.cell hS e6.out (by show ρr.col (ρ.ty i) ≠ _; rw [J]; nofun); go_simp) hHeld ?_; refine zk 5 (some 78) (.agg #[.string ⟨v.name.toArray⟩,.bool (v.num == 1),pq (ρr.ty q),.int .i64 H]) rfl rfl (fun w9 hS => by have q0 := (FB.out.sm hS (by rw [C]; nofun)).c 0 _ rfl; have Z := (FB.out.sm hS (by rw [C]; nofun)).c 1 _ rfl; have q2 := (FB.out.sm hS (by rw [C]; nofun)).c 2 _ rfl; have q3 := (FB.out.sm hS (by rw [C]; nofun)).c 3 _ rfl; go_simp) hHeld ?_; simp only [qA,qB,qC,qD]; refine zr 6 (by kernel_rfl) rfl (fun KK hKK => ?_)
     go_simp
     refine hKK.out _ _ (Sm.of_none (zf gan) _) fun hHeld => ?_
     clear hKK KK; obtain ⟨wa,X⟩ : ∃ z,z = (f.alloc (.cells #[.string ⟨v.name.toArray⟩,.bool (v.num == 1),pq (ρr.ty q),.int .i64 H] 58)).drew := ⟨_,rfl⟩; rw [<- X] at hHeld ⊢
     have t : Hid (f.grownBy wa none) := by rw [X]; exact zf gan
     have ca : Hid (Bk wa f.heap.size [.string ⟨v.name.toArray⟩,.bool (v.num == 1),pq (ρr.ty q),.int .i64 H]) := by rw [X]; exact Bk.drew (Bk.new f _ _ rfl)
     clear X; refine zr 7 (by kernel_rfl) rfl (fun KK hKK => ?_); refine ro rfl _ _ rfl (vs := [.string ⟨v.name.toArray⟩,.bool (v.num == 1),pq (ρr.ty q),.int .i64 H]) rfl (fun u hu => by simp at hu; rcases hu with rfl | rfl | rfl | rfl <;> rfl) (v := ft) (g := f.heap.size) rfl rfl (zR V.out (Sm.of_none t.out (fun _ => True)) (fun _ _ => trivial)) ca.out.c g9 ?_; intro j0 Y D a3 K; have a7 : Hid (Sm wa Y (fun g => ρr.col g ≠ some (.fl i))) := (Sm.refl wa _).gbn a3 (fun g hg d => d (b0.out g hg)); refine hKK.out _ _ ((Sm.of_none t.out _).trans a7.out) fun hHeld => ?_
     clear hKK KK
     obtain ⟨L,M,rfl⟩ : ∃ aa cc,j0 = .slice aa ((s.ty i).fields.length + 1) cc := by
      rcases D.2 with ⟨_,d⟩ | ⟨g,o3,o4,d,_⟩
      ·omega
      ·exact ⟨_,_,d⟩
     have j1 := zc D; have c8 := zc K; have N := zc ((a2.out.kept t.out (by simp)).sm a7.out (by rw [J]; nofun)); clear D K a3; refine zr 8 (by kernel_rfl) rfl (fun KK hKK => ?_)
     go_simp
     refine hKK.out _ _ hHeld (fun hHeld => ?_); clear hKK KK; refine zr 9 (by kernel_rfl) rfl (fun KK hKK => ?_)
     go_simp
     refine hKK.out _ _ hHeld (fun hHeld => ?_); clear hKK KK; have j2 := N.out.c 6 _ rfl; have ez := N.out.z; refine zl 10 (by kernel_rfl) rfl rfl (fun KK hKK => ?_)
     go_simp
     refine hKK.out _ _ ?_; clear hKK KK; clear j2 ez; refine zd (by kernel_rfl) ?_ _; clear hHeld; obtain ⟨A,B⟩ : ∃ z,z = Y.setCell ⟨ρ.ty i,6,none⟩ (.slice L ((s.ty i).fields.length + 1) M) := ⟨_,rfl⟩
     try rw [<- B]
     have F : Hid (Bk A (ρ.ty i) (tyV ρr (s.ty i) (.slice L ((s.ty i).fields.length + 1) M))) := by rw [B]; exact N.out.set 6 _
     have a8 : Hid (Sm wa A (fun g => g ≠ ρ.ty i /\ ρr.col g ≠ some (.fl i))) := by rw [B]; exact (a7.out.mono (fun g _ d => d.2)).put (fun d => d.1 rfl) _ _
     have a4 : Sm Y A (fun g => g ≠ ρ.ty i) := by rw [B]; exact (Sm.refl Y _).put (fun d => d rfl) _ _
     have c9 := zc a4; clear B a4; have d5 := zc ((FB.out.kept t.out (by simp)).sm a8.out ⟨fun e => (by rw [e,J] at C; cases C),by rw [C]; nofun⟩)
     have a5 : Hid (A.cell? ⟨ρ.ty i,3,none⟩ = some (.int .i64 H)) := by rw [show H = _ from f9.out]; exact F.out.c 3 _ rfl
     have f2 : Hid (A.cell? ⟨fb,2,none⟩ = some (pq (ρr.ty q))) := d5.out.c 2 _ rfl
     have d6 : Hid (A.cell? ⟨ρr.ty q,3,none⟩ = some (.int .i64 wj)) := by
      by_cases e : q = i
      ·rw [e,Q,show wj = _ from g0.out,e]; exact F.out.c 3 _ rfl
      ·have a9 := (KR.out.km.ty q f4).col
       refine a8.out.cell (ze t.out (ze k.out j3.out)) ⟨fun e2 => ?_,fun e2 => ?_⟩
       ·have e3 : ρr.ty q = ρ.ty i := e2
        rw [e3,J] at a9; cases a9; exact e rfl
       ·have e3 : ρr.col (ρr.ty q) = some (.fl i) := e2
        rw [a9] at e3; cases e3
     go_wp2_with fail; refine yk [12] (S := fun w9 => A.grownBy w9 none) (by kernel_rfl) ?_ (fun hHeld => ?_)
     ·exact zf grn
     refine zk 0 (some 83) (pq (ρ.ty i)) rfl rfl (fun w9 _ => by go_simp) hHeld ?_; refine zk 1 (some 84) (pq (ρ.ty i)) rfl rfl (fun w9 _ => by go_simp) hHeld ?_; refine zk 2 (some 85) (.pointer (some ⟨ρ.ty i,3,none⟩)) rfl rfl (fun w9 _ => by go_simp) hHeld ?_; refine zk 3 (some 86) (.int .i64 H) rfl rfl (fun w9 hS => by have Z := ze hS a5.out; go_simp) hHeld ?_; refine zk 4 (some 87) (.pointer (some ⟨fb,2,none⟩)) rfl rfl (fun w9 _ => by go_simp) hHeld ?_; refine zk 5 (some 88) (pq (ρr.ty q)) rfl rfl (fun w9 hS => by have Z := ze hS f2.out; go_simp) hHeld ?_; refine zk 6 (some 89) (pq (ρr.ty q)) rfl rfl (fun w9 _ => by go_simp) hHeld ?_; refine zk 7 (some 90) (.pointer (some ⟨ρr.ty q,3,none⟩)) rfl rfl (fun w9 _ => by go_simp) hHeld ?_; refine zk 8 (some 91) (.int .i64 wj) rfl rfl (fun w9 hS => by have Z := ze hS d6.out; go_simp) hHeld ?_; refine zk 9 (some 92) (.int .i64 (H + wj)) rfl rfl (fun w9 _ => by have Z := c7.out; go_simp) hHeld ?_; simp only [qA,qB,qC,qD]; refine zr 10 (by kernel_rfl) rfl (fun KK hKK => ?_)
     go_simp
     refine hKK.out _ _ hHeld (fun hHeld => ?_); clear hKK KK; refine zr 11 (by kernel_rfl) rfl (fun KK hKK => ?_)
     go_simp
     refine hKK.out _ _ hHeld (fun hHeld => ?_); clear hKK KK; have e3 := a5.out; have ez := F.out.z; refine zl 12 (by kernel_rfl) rfl rfl (fun KK hKK => ?_)
     go_simp
     refine hKK.out _ _ ?_; clear hKK KK; clear e3 ez; refine zd (by kernel_rfl) ?_ _; clear hHeld; go_wp2_with fail
     go_roundw
     case rel =>
      obtain rfl : H = _ := f9.out; obtain rfl : wj = _ := g0.out
      have d7 : ∀ g,(Value.slice L ((s.ty i).fields.length + 1) M).ownBlock = some g -> ρr.col g = some (.fl i) \/ wa.heap.size <= g := fun g hg => by
       rcases c8.out with d | d
       ·exact .inl (b0.out g (d ▸ hg))
       ·rw [d] at hg
        cases hg
        exact .inr (Nat.le_refl _)
      have j4 : ∀ g,(Value.slice L ((s.ty i).fields.length + 1) M).ownBlock = some g -> g ≠ ρ.ty i := fun g hg e => by
       rcases d7 g hg with d | d
       ·rw [e,J] at d; cases d
       ·have h8 := TB.out.lt
        have h7 := t.out.size
        omega
      have j5 : Stp True ρr wa s (ρr.gr (Value.slice L ((s.ty i).fields.length + 1) M).ownBlock (.fl i)) (A.setCell ⟨ρ.ty i,3,none⟩ (.int .i64 ((s.ty i).words + (s.ty q).words))).drew Sn := by
       have d := g4.out; rw [show Sn = _ from f3.out] at d ⊢; refine Stp.fld (KR.out.km.up (za k.out t.out)) ST.out.ok a1 ?_ ?_ ?_ d7 d
       ·rw [Q]
        exact (a8.out.put (fun d => d.1 rfl) _ _).drew
       ·rw [Q]
        exact (F.out.set 3 _).drew
       ·simp only [List.flatMap_append,List.flatMap_cons,List.flatMap_nil,List.append_nil,la,lc,ln]
        exact zR j1.out (((c9.out).put (fun d => d rfl) _ _).drew) j4
      exact ⟨j + 1,_,Sn,by omega,by go_num,k9,ST.out.trans (((Stp.refl KR.out.km ST.out.ok).behind (za k.out t.out)).trans j5),by
       show _ = _
       rw [show Sn = _ from f3.out,show (s.setTy i _).ty i = _ from zY _ _ _ a1]
       exact h1.out⟩
     case measure => first | omega | (simp only [intOf]; omega) | (simp; omega)
   ·have hE := uD (by omega) HE.out
    subst hE; go_wp2; refine bodyPost_end (results_none rfl _ _ _) rfl ?_
    exact ⟨rfl,_,ST.out⟩
end
section
variable {ρ : Lay} {w w' w1 : World} {S : KS} {b : Nat} {c : KSc}
theorem mH {i : Nat} (h : CK ρ w S b c) (n : T) (sv : Value) (hf : Fits n) (hk : S.okB = true) (hcb : ρ.col b = some .ck) (hi : i < S.tys.length) {S' : KS} (ha : AF ρ.tr w n.subs sv) (hl1 : 1 <= n.subs.length) (hC : S.fillC c i n = some S') :
  Calls Tryz.prog 73 #[pq b,pq (ρ.ty i),zo n sv] w (fun e w' => e = .returned (.tuple #[]) /\ ∃ ρ',Stp True ρ w S ρ' w' S') := by
 have r := zc h; have X := zc hk; have HF := zc hf; have HA := zc ha; have L := iA hC; obtain ⟨_,M,rfl,_,_⟩ := ha.at.form; obtain ⟨g,o,rfl,_,s⟩ := ha.nodes (by omega); obtain ⟨u,hu⟩ : ∃ u,n.subs[0]? = some u := ⟨_,List.getElem?_eq_getElem (by omega)⟩; rw [xr hu] at L; obtain ⟨_,Y,f0,a0⟩ := s 0 u hu; obtain ⟨Z,uc,rfl,-,-⟩ := a0.at.form; rw [Nat.zero_mul,Nat.add_zero] at Y; have HN := zc Y; have N := zc a0; have a1 := zc f0; have a8 := zc L; obtain ⟨fv,tb,-⟩ := (h.km.ty i hi).bk; have O := zc tb; have zg : g < w.heap.size := zw Y.c0; have c6 : ρ.col (ρ.ty i) = some (.ty i) := (h.km.ty i hi).col; have c7 : ρ.ty i < w.heap.size := tb.lt; clear h hk hf ha hC L Y a0 f0 s hu tb; obtain ⟨kd,x,m,p,l⟩ := n
 change Calls Tryz.prog 73 #[pq b,pq (ρ.ty i),.agg #[.int .i64 kd,.string ⟨x.toArray⟩,.int .i64 m,.int .i64 p,.slice (some ⟨g,o,none⟩) l.length M]] w _
 obtain ⟨w0,f⟩ : ∃ z,z = w.alloc (.cells #[.int .i64 kd,.string ⟨x.toArray⟩,.int .i64 m,.int .i64 p,.slice (some ⟨g,o,none⟩) l.length M] 100) := ⟨_,rfl⟩
 have J : Hid (w.grownBy w0 none) := by rw [f]; exact zh grn _
 have B0 : Hid (Box w0 w.heap.size (.mk kd x m p l) (.slice (some ⟨g,o,none⟩) l.length M)) := by rw [f]; exact Box.new w (.mk kd x m p l) (.slice (some ⟨g,o,none⟩) l.length M) _
 change 1 <= l.length at hl1
 have c8 : ¬ ((l.length : Int) <= 0) := by omega
 have c9 : ¬ l = [] := fun e => by rw [e] at hl1; simp at hl1
 have a9 := zc (fun w9 (G : w.grownBy w9 none) => yG (r.out.up G) u (.slice Z u.subs.length uc) a1.out (N.out.at.kept G)); have b0 := zc (fun w9 (G : w.grownBy w9 none) => jJ (r.out.up G) u (.slice Z u.subs.length uc) a1.out (N.out.at.kept G))
 rcases a8.out with ⟨h3,b1,a2,j,-,hj,d,t⟩ | ⟨h4,b2,d⟩ | ⟨h5,j,-,hj,a3,d,t⟩
 ·change 1 <= m at b1
  change m <= 64 at a2
  have v := zc d; have Q := zc t; have E : j < S.tys.length := yF r.out hj; obtain ⟨fw,tj,-⟩ := (r.out.km.ty j E).bk; have F := ((KS.okP X.out).tyP E).2; obtain ⟨H,I⟩ : ∃ z,z = (S.ty j).words := ⟨_,rfl⟩; rw [<- I] at F; have b3 := zc I
  have j3 : Hid (w.cell? ⟨ρ.ty j,3,none⟩ = some (.int .i64 H)) := by rw [I]; exact tj.c 3 _ rfl
  have e0 : w.cell? ⟨ρ.ty i,0,none⟩ = some (.int .i64 3) := by rw [<- h3]; exact O.out.c 0 _ rfl
  have Y := HN.out.c0; have n1 := HN.out.c1; have n2 := HN.out.c2; have n3 := HN.out.c3; have n4 := HN.out.c4; have b4 : 0 <= m * H := Int.mul_nonneg (by omega) F.1; have b5 : m * H <= 64 * 1000000 := Int.mul_le_mul a2 F.2 F.1 (by omega)
  have a4 : Hid (IntKind.i64.wrap (m * H) = m * H) := by show _ = _; rw [IntKind.wrap_i64]; omega
  clear tj I d t h3 b4 b5
  go_enter Tryz.func73,Tryz.ntmps73
  go_wp2_with fail; rw [<- f]; clear f e0 Y n1 n2 n3 n4; go_at_call 74; refine (a9.out _ J.out).mono ?_; rw [hj]; rintro e w1 ⟨k,rfl⟩; have R := zc (za J.out k); have B1 := zc (B0.out.kept k); have A := zc (O.out.kept R.out (by simp)); have e4 := A.out.c 4 _ rfl; have e5 := A.out.c 5 _ rfl; have ez := A.out.z; have x2 : w1.cell? ⟨w.heap.size,2,none⟩ = some (.int .i64 m) := B1.out.c2
  have d0 : ¬ w.heap.size = ρ.ty i := by omega
  clear k; go_wp2_with fail; obtain ⟨K,B⟩ : ∃ z,z = (w1.setCell ⟨ρ.ty i,5,none⟩ (pq (ρ.ty j))).setCell ⟨ρ.ty i,4,none⟩ (.int .i64 m) := ⟨_,rfl⟩; rw [<- B]
  have C : Hid (Bk K (ρ.ty i) (tyV ρ { S.ty i with of := some j,places := m } fv)) := by rw [B]; exact (A.out.set 5 _).set 4 _
  have S2 : Hid (Sm w1 K (fun g => g ≠ ρ.ty i)) := by rw [B]; exact ((Sm.refl w1 _).put (fun q => q rfl) _ _).put (fun q => q rfl) _ _
  have b6 : Hid (K.cell? ⟨ρ.ty j,3,none⟩ = some (.int .i64 H)) := by
   show _ = _
   rw [B,World.cell?_setCell_other _ _ _ _ (by simp),World.cell?_setCell_other _ _ _ _ (by simp)]
   exact ze R.out j3.out
  clear B e4 e5 ez x2; have b7 : Hid (K.cell? ⟨ρ.ty i,4,none⟩ = some (.int .i64 m)) := C.out.c 4 _ rfl; have b8 : Hid (K.cell? ⟨ρ.ty i,5,none⟩ = some (pq (ρ.ty j))) := C.out.c 5 _ rfl
  skip
  refine yk [15] (S := fun w9 => K.grownBy w9 none) (by kernel_rfl) ?_ (fun hHeld => ?_)
  ·exact zf grn
  refine zk 0 (some 36) (pq (ρ.ty i)) rfl rfl (fun w9 _ => by go_simp) hHeld ?_; refine zk 1 (some 37) (pq (ρ.ty i)) rfl rfl (fun w9 _ => by go_simp) hHeld ?_; refine zk 2 (some 38) (pq (ρ.ty i)) rfl rfl (fun w9 _ => by go_simp) hHeld ?_; refine zk 3 (some 39) (.pointer (some ⟨ρ.ty i,4,none⟩)) rfl rfl (fun w9 _ => by go_simp) hHeld ?_; refine zk 4 (some 40) (.int .i64 m) rfl rfl (fun w9 d => by have U := ze d b7.out; go_simp) hHeld ?_; refine zk 5 (some 41) (pq (ρ.ty i)) rfl rfl (fun w9 _ => by go_simp) hHeld ?_; refine zk 6 (some 42) (pq (ρ.ty i)) rfl rfl (fun w9 _ => by go_simp) hHeld ?_; refine zk 7 (some 43) (.pointer (some ⟨ρ.ty i,5,none⟩)) rfl rfl (fun w9 _ => by go_simp) hHeld ?_; refine zk 8 (some 44) (pq (ρ.ty j)) rfl rfl (fun w9 d => by have U := ze d b8.out; go_simp) hHeld ?_; refine zk 9 (some 45) (pq (ρ.ty j)) rfl rfl (fun w9 _ => by go_simp) hHeld ?_; refine zk 10 (some 46) (.pointer (some ⟨ρ.ty j,3,none⟩)) rfl rfl (fun w9 _ => by go_simp) hHeld ?_; refine zk 11 (some 47) (.int .i64 H) rfl rfl (fun w9 d => by have U := ze d b6.out; go_simp) hHeld ?_; refine zk 12 (some 48) (.int .i64 (m * H)) rfl rfl (fun w9 _ => by have U := a4.out; go_simp) hHeld ?_; simp only [qA,qB,qC,qD]; refine zr 13 (by kernel_rfl) rfl (fun KK hKK => ?_)
  go_simp
  refine hKK.out _ _ hHeld (fun hHeld => ?_); clear hKK KK; refine zr 14 (by kernel_rfl) rfl (fun KK hKK => ?_)
  go_simp
  refine hKK.out _ _ hHeld (fun hHeld => ?_); clear hKK KK; have e3 := C.out.c 3 _ rfl; have ez := C.out.z; refine zl 15 (by kernel_rfl) rfl rfl (fun KK hKK => ?_)
  go_simp
  refine hKK.out _ _ ?_; clear hKK KK; clear e3 ez; refine zd (by kernel_rfl) ?_ _; clear hHeld; go_wp2; refine bodyPost_end (results_none rfl _ _ _) rfl ?_; obtain rfl : H = _ := b3.out; have q := Q.out; rw [show S' = _ from v.out] at q ⊢
  exact ⟨rfl,_,((Stp.refl r.out.km X.out).behind R.out).trans (Stp.ty (r.out.km.up R.out) X.out hi ((S2.out.put (fun q => q rfl) _ _).drew) (fun fv' hB => by
   have h8 := hB.c 6 _ rfl; have h7 := A.out.c 6 _ rfl; rw [h8] at h7; cases h7
   exact (C.out.set 3 _).drew) rfl q)⟩
 ·have v := zc d
  have H4 := zc h4
  have e0 : w.cell? ⟨ρ.ty i,0,none⟩ = some (.int .i64 4) := by rw [<- h4]; exact O.out.c 0 _ rfl
  have D := zc (qX (r.out.up J.out) (.mk kd x m p l) (.slice (some ⟨g,o,none⟩) l.length M) HF.out X.out hcb hi H4.out (HA.out.kept J.out (fun _ e => by cases e)) b2 v.out); clear d h4
  go_enter Tryz.func73,Tryz.ntmps73
  go_wp2_with fail; rw [<- f]; clear f e0; go_at_call 104; refine D.out.mono ?_; rintro e w1 ⟨rfl,ρ1,a5⟩; have b9 := zc a5; clear a5; go_wp2; refine bodyPost_end (results_none rfl _ _ _) rfl ?_
  exact ⟨rfl,_,b9.out.ahead J.out⟩
 ·have v := zc d
  have Q := zc t; have E : j < S.tys.length := uR r.out hj
  have a6 : S.record u j = .ok j := by unfold KS.record; rw [if_pos a3]
  have D := zc (fun w9 (G : w.grownBy w9 none) => qT (b := b) (r.out.km.up G) u (.slice Z u.subs.length uc) (N.out.at.kept G) E)
  have e0 : w.cell? ⟨ρ.ty i,0,none⟩ = some (.int .i64 5) := by rw [<- h5]; exact O.out.c 0 _ rfl
  have N0 : Hid (Node5 w0 g o u (.slice Z u.subs.length uc)) := HN.out.kept J.out; clear d t h5 a3
  go_enter Tryz.func73,Tryz.ntmps73
  go_wp2_with fail; rw [<- f]; clear f e0
  skip
  refine yk [15] (S := fun w9 => w0.grownBy w9 none) (by kernel_rfl) ?_ (fun hHeld => ?_)
  ·exact zf grn
  refine zk 0 (some 59) (pq (ρ.ty i)) rfl rfl (fun w9 _ => by go_simp) hHeld ?_; refine zk 1 (some 60) (pq b) rfl rfl (fun w9 _ => by go_simp) hHeld ?_; refine zk 2 (some 61) (.pointer (some ⟨w.heap.size,4,none⟩)) rfl rfl (fun w9 _ => by go_simp) hHeld ?_; refine zk 3 (some 62) (.slice (some ⟨g,o,none⟩) l.length M) rfl rfl (fun w9 d => by obtain ⟨q0,U,q2,q3,q4⟩ := (Box.kept B0.out d).plain; go_simp) hHeld ?_; refine zk 4 (some 63) (.pointer (some ⟨g,o,none⟩)) rfl rfl (fun w9 _ => by go_simp) hHeld ?_; refine zk 5 (some 64) (zo u (.slice Z u.subs.length uc)) rfl rfl (fun w9 d => by obtain ⟨q0,U,q2,q3,q4⟩ := Node5.kept N0.out d; go_simp) hHeld ?_; refine zk 6 (some 65) (pq b) rfl rfl (fun w9 _ => by go_simp) hHeld ?_; refine zk 7 (some 66) (.pointer (some ⟨w.heap.size,4,none⟩)) rfl rfl (fun w9 _ => by go_simp) hHeld ?_; refine zk 8 (some 67) (.slice (some ⟨g,o,none⟩) l.length M) rfl rfl (fun w9 d => by obtain ⟨q0,U,q2,q3,q4⟩ := (Box.kept B0.out d).plain; go_simp) hHeld ?_; refine zk 9 (some 68) (.pointer (some ⟨g,o,none⟩)) rfl rfl (fun w9 _ => by go_simp) hHeld ?_; refine zk 10 (some 69) (zo u (.slice Z u.subs.length uc)) rfl rfl (fun w9 d => by obtain ⟨q0,U,q2,q3,q4⟩ := Node5.kept N0.out d; go_simp) hHeld ?_; simp only [qA,qB,qC,qD]; refine zr 11 (by kernel_rfl) rfl (fun KK hKK => ?_)
  go_simp
  go_at_call 106; refine (b0.out _ (zf J.out)).mono ?_; rw [hj]; rintro e w1 ⟨k,rfl⟩; have R := zc (za (zf J.out) k); have a7 := zc (za (zf grn) k); clear k
  go_simp
  refine hKK.out _ _ a7.out fun hHeld => ?_
  clear hKK KK; refine zr 12 (by kernel_rfl) rfl (fun KK hKK => ?_)
  go_simp
  go_at_call 105; refine (D.out _ R.out).mono ?_; rw [a6]; rintro e K ⟨V,rfl⟩; have G2 := zc (za R.out V); have c5 := zc (za a7.out V); clear V
  go_simp
  refine hKK.out _ _ c5.out fun hHeld => ?_
  clear hKK KK; refine zr 13 (by kernel_rfl) rfl (fun KK hKK => ?_)
  go_simp
  refine hKK.out _ _ hHeld (fun hHeld => ?_); clear hKK KK; refine zr 14 (by kernel_rfl) rfl (fun KK hKK => ?_)
  go_simp
  refine hKK.out _ _ hHeld (fun hHeld => ?_); clear hKK KK; have e5 := (O.out.kept G2.out (by simp)).c 5 _ rfl; have ez := (O.out.kept G2.out (by simp)).z; refine zl 15 (by kernel_rfl) rfl rfl (fun KK hKK => ?_)
  go_simp
  refine hKK.out _ _ ?_; clear hKK KK; refine zd (by kernel_rfl) ?_ _; clear hHeld; have e3 := ze G2.out (O.out.c 3 _ rfl); go_wp2; refine bodyPost_end (results_none rfl _ _ _) rfl ?_; have q := Q.out; rw [show S' = _ from v.out] at q ⊢
  exact ⟨rfl,_,((Stp.refl r.out.km X.out).behind G2.out).trans (Stp.ty (r.out.km.up G2.out) X.out hi (((Sm.refl K _).put (fun q => q rfl) _ _).put (fun q => q rfl) _ _) (fun fv hB => (hB.set 5 _).set 3 _) rfl q)⟩
end
section
variable {ρ : Lay} {w w' w1 : World} {S : KS} {b : Nat} {c : KSc}
theorem nl {m : Nat} (h : CK ρ w S b ⟨m,none⟩) (hk : S.okB = true) (hcb : ρ.col b = some .ck) {S1 S' : KS} {l : List T} {sv : Value} (ha : AF ρ.tr w l sv) (hsh : ∀ n ∈ l,1 <= n.subs.length /\ 1 <= (sub n 0).subs.length) (hs : zX (KS.typeC m) l S = some S1) (hs' : zX (KS.filledC m) l S1 = some S') :
  Calls Tryz.prog 56 #[pq b,sv] w (fun e w' => e = .returned (.tuple #[]) /\ ∃ ρ',Stp True ρ w S ρ' w' S') := by
 have HK := zc h; have HB := zc hk; have HL := zc ha; have HS := zc hs; have d6 := zc hs'; have c5 := zc hsh; obtain ⟨_,_,rfl,_,d7⟩ := ha.at.form
 unfold maxLen at d7
 clear h hk ha hs hs' hsh
 go_enter Tryz.func56,Tryz.ntmps56
 go_wp2_with fail
 go_loopw [11] (fun iv wr => ∃ (j : Nat) (ρr : Lay) (k : KS),j <= l.length /\ iv = .int .i64 ↑j /\ Hid (zX (KS.typeC m) (l.drop j) k = some S1) /\ Hid (Stp True ρ w S ρr wr k)) (fun iv _ => l.length - (intOf iv).toNat)
 case atStart => exact ⟨0,ρ,S,Nat.zero_le _,rfl,HS.out,Stp.refl HK.out.km HB.out⟩
 case round =>
  obtain ⟨j,ρr,k,hj,rfl,HE,s⟩ := hrel; have B : Hid (CK ρr wr k b ⟨m,none⟩) := HK.out.step s.out hcb; have C : ρr.col b = some .ck := s.out.agr.col _ _ hcb
  by_cases a0 : j < l.length
  ·obtain ⟨v,hv⟩ : ∃ v,l[j]? = some v := ⟨_,List.getElem?_eq_getElem a0⟩
   obtain ⟨Sn,O,Q⟩ := vS hv HE.out; have a9 := zc Q; have a1 := cg O; obtain ⟨g,o,sw,e1,d8,D,fv,av⟩ := (HL.out.step s.out).node hv; subst e1; obtain ⟨q,b0⟩ := c5.out v (List.mem_of_getElem? hv)
   obtain ⟨u,r,A⟩ : ∃ u r,v.subs = u :: r := by
    cases hq : v.subs with
    | nil => rw [hq] at q; simp at q
    | cons u r => exact ⟨u,r,rfl⟩
   have R : sub v 0 = u := xr (by rw [A]; rfl)
   have c6 : ¬ ((v.subs.length : Int) <= 0) := by omega
   have d9 : ¬ v.subs = [] := fun e => by rw [e] at q; simp at q
   obtain ⟨va,vc,rfl,-,-⟩ := av.at.form; obtain ⟨M,N,su,e2,E,n6,fu,au⟩ := av.node (j := 0) (v := u) (by rw [A]; rfl); subst e2; rw [Nat.zero_mul,Nat.add_zero] at n6; obtain ⟨ua,uc,rfl,-,-⟩ := au.at.form; have FV := zc fv; have FU := zc fu; have AU := zc au; have N6 := zc n6; have d0 := D.c0; have d1 := D.c1; have d2 := D.c2; have d3 := D.c3; have d4 := D.c4; have f0 : g < wr.heap.size := zw d0; clear D n6 fu au fv av hv A; go_wp2_with fail; obtain ⟨d,f⟩ : ∃ z,z = wr.alloc (.cells #[.int .i64 v.kind,.string ⟨v.name.toArray⟩,.int .i64 v.num,.int .i64 v.at',.slice (some ⟨M,N,none⟩) v.subs.length vc] 100) := ⟨_,rfl⟩; rw [<- f]
   have i : Hid (wr.grownBy d none) := by rw [f]; exact zh grn _
   have F : Hid (Box d wr.heap.size v (.slice (some ⟨M,N,none⟩) v.subs.length vc)) := by rw [f]; exact Box.new wr v _ _
   have f1 : wr.heap.size < d.heap.size := by rw [f]; simp
   clear f d0 d1 d2 d3 d4; have a2 : ρr.col wr.heap.size = none := B.out.km.fr _ (Nat.le_refl _); have c1 : Hid (wr.cell? ⟨b,1,none⟩ = some (pq (ρr.md m))) := B.out.s1; have N2 : Hid (Node5 d M N u (.slice ua u.subs.length uc)) := N6.out.kept i.out; have G2 : Hid (d.grownBy d none) := zj d none; rw [R] at a1; have b1 := zc a1.1; have HD := zc a1.2
   have f2 : (if u.kind = 9 then (3 : Int) else if u.kind = 10 then 4 else 5) = rx u := rfl
   obtain ⟨fo,b2⟩ : ∃ z,z = rx u := ⟨_,rfl⟩
   have f3 : Hid (∀ w9,Calls Tryz.prog 72 #[zo u (.slice ua u.subs.length uc)] w9 (Sy w9 (.int .i64 fo))) := fun w9 => by rw [b2]; exact pi u _
   rw [<- b2] at b1 HD; clear O Q a1 f2 b2 R; obtain ⟨St,b3⟩ : ∃ z,z = k.addTy { ty0 with form := fo,name := v.name,home := some m } := ⟨_,rfl⟩; rw [<- b3] at b1 HD; have f4 := zc b3; clear b3
   skip
   refine wp_region_held_drew (S := fun w9 => Sm d w9 (Kp ρr True)) (by kernel_rfl) ?_ (fun hHeld => ?_)
   ·exact (Sm.refl d _).drew
   refine kQ 0 15 (pq b) hHeld ?_; refine kQ 1 16 (pq b) hHeld ?_; refine kQ 2 17 (pq b) hHeld ?_; refine dk 3 (some 18) (zo v (.slice (some ⟨M,N,none⟩) v.subs.length vc)) rfl rfl (fun w9 hS => by obtain ⟨q0,q1,q2,q3,q4⟩ := Box.sm F.out hS (.inl a2); go_simp) hHeld ?_; refine kQ 4 19 (.pointer (some ⟨wr.heap.size,4,none⟩)) hHeld ?_; refine dk 5 (some 20) (.slice (some ⟨M,N,none⟩) v.subs.length vc) rfl rfl (fun w9 hS => by obtain ⟨q0,q1,q2,q3,q4⟩ := Box.sm F.out hS (.inl a2); go_simp) hHeld ?_; refine kQ 6 21 (.pointer (some ⟨M,N,none⟩)) hHeld ?_; refine dk 7 (some 22) (zo u (.slice ua u.subs.length uc)) rfl rfl (fun w9 hS => by obtain ⟨q0,q1,q2,q3,q4⟩ : Node5 w9 M N u (.slice ua u.subs.length uc) := ⟨hS.cell N2.out.c0 (.inr (.inl E)),hS.cell N2.out.c1 (.inr (.inl E)),hS.cell N2.out.c2 (.inr (.inl E)),hS.cell N2.out.c3 (.inr (.inl E)),hS.cell N2.out.c4 (.inr (.inl E))⟩; go_simp) hHeld ?_; refine kQ 9 24 (.pointer (some ⟨wr.heap.size,1,none⟩)) hHeld ?_; refine dk 10 (some 25) (.string ⟨v.name.toArray⟩) rfl rfl (fun w9 hS => by obtain ⟨q0,q1,q2,q3,q4⟩ := Box.sm F.out hS (.inl a2); go_simp) hHeld ?_; refine kQ 11 26 (pq b) hHeld ?_; refine kQ 12 27 (pq b) hHeld ?_; refine kQ 13 28 (pq b) hHeld ?_; refine kQ 14 29 (.pointer (some ⟨b,1,none⟩)) hHeld ?_
   refine dk 15 (some 30) (pq (ρr.md m)) rfl rfl (fun w9 hS => by have q1 := hS.cell (ze i.out c1.out) (.inr (.inr ⟨C,trivial⟩)); go_simp) hHeld ?_; simp only [qA,qB,qC,qD]; refine rd 8 rfl fun KK hKK => ?_
   go_simp
   go_at_call 72; refine (f3.out _).mono ?_; rintro e U ⟨rfl,c7⟩; have H := zc (za (zf grn) c7); clear c7
   go_simp
   refine hKK.out _ _ (Sm.of_none H.out _) fun hHeld => ?_
   clear hKK KK; refine kQ 16 31 (.agg #[.int .i64 fo,.string ⟨v.name.toArray⟩,pq (ρr.md m),.int .i64 0,.int .i64 0,.pointer none,.slice none 0 0,.bool false]) hHeld ?_; simp only [qA,qB,qC,qD]; refine rd 17 rfl fun KK hKK => ?_
   go_simp
   refine hKK.out _ _ (Sm.of_none (zh H.out _) _) fun hHeld => ?_
   clear hKK KK; obtain ⟨Z,V⟩ : ∃ z,z = U.alloc (.cells #[.int .i64 fo,.string ⟨v.name.toArray⟩,pq (ρr.md m),.int .i64 0,.int .i64 0,.pointer none,.slice none 0 0,.bool false] 54) := ⟨_,rfl⟩; rw [<- V] at hHeld ⊢
   have GT : Hid (wr.grownBy Z none) := by rw [V]; exact zh (za i.out H.out) _
   have f5 : Hid (d.grownBy Z none) := by rw [V]; exact zh H.out _
   have f6 : Hid (Bk Z U.heap.size (tyV ρr { ty0 with form := fo,name := v.name,home := some m } (.slice none 0 0))) := by rw [V]; exact Bk.new U _ _ rfl
   clear V; obtain ⟨ρt,a3⟩ : ∃ z,z = ρr.addTy k.tys.length U.heap.size := ⟨_,rfl⟩
   have X : Hid (Stp True ρr wr k ρt Z St) := by
    have I := b1.out; rw [a3]; rw [show St = _ from f4.out] at I ⊢
    exact Stp.addTy B.out.km s.out.ok GT.out f6.out rfl rfl (za i.out H.out).size I
   have b4 : ∀ g,g < U.heap.size -> ρt.col g = ρr.col g := fun g hg => by rw [a3]; simp only [Lay.addTy]; rw [if_neg (by omega)]
   have f7 : ρt.ty k.tys.length = U.heap.size := by rw [a3]; simp [Lay.addTy]
   have f8 : Hid (CK ρt Z St b ⟨m,none⟩) := B.out.step X.out C; have f9 : ρt.col Z.heap.size = none := X.out.km.fr _ (Nat.le_refl _); clear a3; refine kQ 18 33 (.agg #[.int .i64 2,.string ⟨#[]⟩,.bool false,.pointer none,pq U.heap.size,.int .i32 0,.int .i64 0,.bool false,.pointer none,.bool false,.pointer none]) hHeld ?_; simp only [qA,qB,qC,qD]; refine rd 19 rfl fun KK hKK => ?_
   go_simp
   refine hKK.out _ _ (hHeld.trans (Sm.of_none gan _)) fun hHeld => ?_
   clear hKK KK; obtain ⟨wx,a4⟩ : ∃ z,z = Z.alloc (.cells #[.int .i64 2,.string ⟨#[]⟩,.bool false,.pointer none,pq U.heap.size,.int .i32 0,.int .i64 0,.bool false,.pointer none,.bool false,.pointer none] 90) := ⟨_,rfl⟩; rw [<- a4] at hHeld ⊢
   have GX : Hid (Z.grownBy wx none) := by rw [a4]; exact zh grn _
   have g0 : Hid (Bk wx Z.heap.size (thV ρt { th0 with kind := 2,ty := some k.tys.length })) := by
    rw [a4]; refine Bk.new Z _ _ ?_
    unfold thV Lay.tyP
    rw [Option.map_some,f7]
    rfl
   clear a4; refine rd 20 rfl fun KK hKK => ?_
   go_simp
   go_at_call 70; refine (vB GX.out (f8.out.up GX.out) X.out.ok (X.out.agr.col _ _ C) v (.slice (some ⟨M,N,none⟩) v.subs.length vc) FV.out g0.out f9 (Nat.le_refl _) HD.out).mono ?_; rintro e w4 ⟨rfl,ρ4,J,c8,g1,g3⟩; have g4 : Hid (Stp True ρr wr k ρ4 w4 Sn) := X.out.trans J; have S4 : Hid (Sm d w4 (Kp ρr True)) := (Sm.of_none f5.out _).comp J.sm (fun g hg hp => by unfold Kp at hp ⊢; rw [b4 g (Nat.lt_of_lt_of_le hg H.out.size)]; exact hp); clear J g1 g3 c8
   go_simp
   refine hKK.out _ _ S4.out fun hHeld => ?_
   clear hKK KK; refine wpAnyH_done (by kernel_rfl) ?_ _; clear hHeld; go_wp2_with fail
   go_roundw
   case rel => exact ⟨j + 1,_,Sn,by omega,by go_num,a9,s.out.trans g4.out⟩
   case measure => first | omega | (simp only [intOf]; omega) | (simp; omega)
  ·have hE := uD (by omega) HE.out
   subst hE; obtain ⟨w5,g5⟩ : ∃ z,z = wr := ⟨_,rfl⟩; obtain ⟨ρ5,g6⟩ : ∃ z,z = ρr := ⟨_,rfl⟩; subst g5 g6; have g7 := s; clear s HE B C; go_wp2_with fail
   go_loopw [39] (fun iv wr => ∃ (j : Nat) (ρr : Lay) (k : KS),j <= l.length /\ iv = .int .i64 ↑j /\ Hid (zX (KS.filledC m) (l.drop j) k = some S') /\ Hid (Stp True ρ w S ρr wr k)) (fun iv _ => l.length - (intOf iv).toNat)
   case atStart => exact ⟨0,_,_,Nat.zero_le _,rfl,d6.out,g7.out⟩
   case round =>
    clear hj a0; obtain ⟨j,ρr,k,hj,rfl,HE,s⟩ := hrel; have B : Hid (CK ρr wr k b ⟨m,none⟩) := HK.out.step s.out hcb; have C : ρr.col b = some .ck := s.out.agr.col _ _ hcb
    by_cases a0 : j < l.length
    ·obtain ⟨v,hv⟩ : ∃ v,l[j]? = some v := ⟨_,List.getElem?_eq_getElem a0⟩
     obtain ⟨Sn,O,Q⟩ := vS hv HE.out; have a9 := zc Q; obtain ⟨t,Sf,b5,b6,a5,g8,b7,a7⟩ := oH O; obtain ⟨g,o,sw,e1,d8,D,fv,av⟩ := (HL.out.step s.out).node hv; subst e1; obtain ⟨q,b0⟩ := c5.out v (List.mem_of_getElem? hv)
     obtain ⟨u,r,A⟩ : ∃ u r,v.subs = u :: r := by
      cases hq : v.subs with
      | nil => rw [hq] at q; simp at q
      | cons u r => exact ⟨u,r,rfl⟩
     have R : sub v 0 = u := xr (by rw [A]; rfl)
     have c6 : ¬ ((v.subs.length : Int) <= 0) := by omega
     have d9 : ¬ v.subs = [] := fun e => by rw [e] at q; simp at q
     obtain ⟨va,vc,rfl,-,-⟩ := av.at.form; obtain ⟨M,N,su,e2,E,n6,fu,au⟩ := av.node (j := 0) (v := u) (by rw [A]; rfl); subst e2; rw [Nat.zero_mul,Nat.add_zero] at n6; obtain ⟨ua,uc,rfl,-,-⟩ := au.at.form; have FV := zc fv; have FU := zc fu; have AU := zc au; have N6 := zc n6; have d0 := D.c0; have d1 := D.c1; have d2 := D.c2; have d3 := D.c3; have d4 := D.c4; have f0 : g < wr.heap.size := zw d0; clear D n6 fu au fv av hv A; go_wp2_with fail; obtain ⟨d,f⟩ : ∃ z,z = wr.alloc (.cells #[.int .i64 v.kind,.string ⟨v.name.toArray⟩,.int .i64 v.num,.int .i64 v.at',.slice (some ⟨M,N,none⟩) v.subs.length vc] 100) := ⟨_,rfl⟩; rw [<- f]
     have i : Hid (wr.grownBy d none) := by rw [f]; exact zh grn _
     have F : Hid (Box d wr.heap.size v (.slice (some ⟨M,N,none⟩) v.subs.length vc)) := by rw [f]; exact Box.new wr v _ _
     have f1 : wr.heap.size < d.heap.size := by rw [f]; simp
     clear f d0 d1 d2 d3 d4; have a2 : ρr.col wr.heap.size = none := B.out.km.fr _ (Nat.le_refl _); have c1 : Hid (wr.cell? ⟨b,1,none⟩ = some (pq (ρr.md m))) := B.out.s1; have N2 : Hid (Node5 d M N u (.slice ua u.subs.length uc)) := N6.out.kept i.out; have G2 : Hid (d.grownBy d none) := zj d none; rw [R] at a5 b0; have c9 : t < k.ths.length := B.out.ok.nm m B.out.hc _ _ b5
     obtain ⟨x,a6⟩ : ∃ x,(k.th t).ty = some x := by
      have I := ((KS.okP s.out.ok).thP c9).1.2; simp only [b6,ne_eq,not_true_eq_false,decide_false,Bool.false_or] at I
      exact vk I
     have Y : x < k.tys.length := (KS.okIn s.out.ok).thTy t c9 x a6; rw [show (k.th t).ty.getD 0 = x by rw [a6]; rfl] at a5 g8 b7; have g9 := zc a5; have h0 := zc b7; have d5 := zc a7; have h1 : v.name.length <= maxLen := FV.out.name
     have h2 : Hid (∀ w9,d.grownBy w9 none -> Calls Tryz.prog 28 #[pq (ρr.md m),.string ⟨v.name.toArray⟩] w9 fun e w' => e = .returned (pq (ρr.ty x)) /\ w' = w9) := fun w9 G => by
      have I := jH ((B.out.km.up i.out).up G) B.out.ok B.out.hc v.name h1; rw [show k.typeOf m v.name = some x by simp [KS.typeOf,b5,b6,a6]] at I
      exact I
     have h3 : Hid (CK ρr d k b ⟨m,none⟩) := B.out.up i.out; clear O Q R b5 b6 a5 b7 a7 a6
     skip
     refine wp_region_held_drew (S := fun w9 => d.grownBy w9 none) (by kernel_rfl) ?_ (fun hHeld => ?_)
     ·exact zf grn
     refine kQ 0 43 (pq b) hHeld ?_; refine kQ 1 44 (pq b) hHeld ?_; refine kQ 2 45 (pq b) hHeld ?_; refine kQ 3 46 (.pointer (some ⟨b,1,none⟩)) hHeld ?_; refine dk 4 (some 47) (pq (ρr.md m)) rfl rfl (fun w9 hS => by have q1 := ze hS (ze i.out c1.out); go_simp) hHeld ?_; refine kQ 5 48 (.pointer (some ⟨wr.heap.size,1,none⟩)) hHeld ?_; refine dk 6 (some 49) (.string ⟨v.name.toArray⟩) rfl rfl (fun w9 hS => by obtain ⟨q0,q1,q2,q3,q4⟩ := Box.kept F.out hS; go_simp) hHeld ?_; simp only [qA,qB,qC,qD]; refine rd 7 rfl fun KK hKK => ?_
     go_simp
     go_at_call 28; refine (h2.out _ (zf G2.out)).mono ?_; rintro e U ⟨rfl,K⟩; rw [K]; clear K
     go_simp
     refine hKK.out _ _ (zf grn) fun hHeld => ?_
     clear hKK KK; refine kQ 8 8 (pq (ρr.ty x)) hHeld ?_; simp only [qA,qB,qC,qD]; refine wpAnyH_done (by kernel_rfl) ?_ _; clear hHeld; obtain ⟨U,K⟩ : ∃ z,z = d.drew := ⟨_,rfl⟩; rw [<- K]
     have G3 : Hid (d.grownBy U none) := by rw [K]; exact zf grn
     clear K; have B3 := zc (F.out.kept G3.out); have x4 := B3.out.c4; have N3 := zc (N2.out.kept G3.out); have m0 := N3.out.c0; have m1 := N3.out.c1; have m2 := N3.out.c2; have m3 := N3.out.c3; have m4 := N3.out.c4; have b8 := zc (mH (h3.out.up G3.out) u (.slice ua u.subs.length uc) FU.out s.out.ok C Y ((AU.out.kept i.out (fun _ e => by cases e)).kept G3.out (fun _ e => by cases e)) b0 g9.out); go_wp2_with fail; go_at_call 73; refine b8.out.mono ?_; rintro e w4 ⟨rfl,ρ4,J⟩; have L : Hid (Stp True ρr wr k ρ4 w4 Sf) := J.ahead (za i.out G3.out); have a8 : x < Sf.tys.length := Nat.lt_of_lt_of_le Y L.out.tys; have b9 : ρ4.ty x = ρr.ty x := L.out.agr.ty x Y; obtain ⟨fw,tb,-⟩ := (L.out.km.ty x a8).bk; rw [b9] at tb; have TB := zc tb; have y3 : w4.cell? ⟨ρr.ty x,3,none⟩ = some (.int .i64 (Sf.ty x).words) := tb.c 3 _ rfl; have y7 := tb.c 7 _ rfl; have yz := tb.z; clear J tb x4 m0 m1 m2 m3 m4; go_wp2_with fail
     go_roundw
     case rel =>
      have h4 : Stp True ρ4 w4 Sf ρ4 (w4.setCell ⟨ρr.ty x,7,none⟩ (.bool true)) Sn := by
       have I := d5.out; rw [show Sn = _ from h0.out] at I ⊢; refine Stp.ty L.out.km L.out.ok a8 ?_ (fun fv hB => ?_) rfl I
       ·rw [b9]
        exact (Sm.refl w4 _).put (fun I => I rfl) _ _
       ·rw [b9] at hB ⊢
        exact hB.set 7 _
      exact ⟨j + 1,_,Sn,by omega,by go_num,a9,(s.out.trans L.out).trans h4⟩
     case measure => first | omega | (simp only [intOf]; omega) | (simp; omega)
    ·have hE := uD (by omega) HE.out
     subst hE; go_wp2; refine bodyPost_end (results_none rfl _ _ _) rfl ?_
     exact ⟨rfl,_,s.out⟩
end
theorem Tryz.infoProcP : (Tryz.prog.info? 88).map (fun i => (i.zero,i.size,i.bytes)) = some (some (.pointer none),1,8) := by kernel_rfl
theorem sx {ops : Array Oper} {rest : List Oper} {o : Oper} {a : Act} {w : World} {Q : Exit -> Act -> World -> Prop} (t e : TypeId) (ht : Tryz.prog.underlying t = some (.slice e)) (hin : (Tryz.prog.info? e).map (fun i => (i.zero,i.size,i.bytes)) = some (some (.pointer none),1,8)) (hgd : o.guard = none) (s x : Operand)
  (ho : o.op = .call { callee := .builtin .append,args := #[s,x],argTypes := #[t,t] }) {g n : Nat} {v : Value} {q : Option Addr} {cs : List Value} (hs : a.eval s = v) (hx : a.eval x = .slice (some ⟨g,0,none⟩) 1 1) (hl : w.ownsRow 0 e 1 v n cs) (hc : w.cell? ⟨g,0,none⟩ = some (.pointer q)) (hn : n <= 1000000)
  (k : ∀ v' w',w'.ownsRow 0 e 1 v' (n + 1) (cs ++ [.pointer q]) -> w.grownBy w' v.ownBlock -> (v'.ownBlock = v.ownBlock \/ v'.ownBlock = some w.heap.size) -> wpList Tryz.prog ops Q rest (a.put o.dst v') w') : wpList Tryz.prog ops Q (o :: rest) a w := by
 obtain ⟨h,b,c,d,f⟩ := info_parts hin
 refine wpList_append_own_at w hgd s x t ho 0 e h _ 1 8 ht b c d f rfl (by decide) v n cs hs hl ⟨g,0,none⟩ 1 1 [.pointer q] hx rfl (fun j u hj => by
   match j,hj with
   | 0,hj => simp at hj; subst hj; simpa [Addr.add] using hc) (fun u hu => by simp at hu; subst hu; rfl) (by unfold maxLen; omega) (by omega) (Nat.zero_le _) (fun v' w' h1 h2 _ h3 => k v' w' h1 h2 h3)
theorem jt {w : World} {e : TypeId} {k n : Nat} {v : Value} {cs : List Value} (h : w.ownsRow 0 e k v n cs) : ∃ a cp,v = .slice a n cp /\ n <= cp /\ cp <= maxLen /\ ∀ j u,cs[j]? = some u -> ∃ g,a = some ⟨g,0,none⟩ /\ w.cell? ⟨g,j,none⟩ = some u :=
 RowAt.read (ρ := ⟨0,0,0,fun _ => 0,fun _ => 0,fun _ => 0,fun _ => 0,fun _ => 0,fun _ => 0,fun _ => some .wd⟩) (lb := .wd) ⟨h,fun _ _ => rfl⟩
section
variable {S S' : KS}
theorem iS {m p : Nat} {n : T} (h : S.parC m p n = some S') : S'.prs.length = S.prs.length := by
 obtain ⟨d,e,t,-,b,-,c,rfl,-⟩ := ms h; obtain ⟨-,-,rfl,-⟩ := yP b; obtain ⟨rfl,-⟩ := yn c
 simp [KS.setPr,KS.setTh,KS.addTh]
theorem rX {m p : Nat} : ∀ (l : List T) (S S' : KS),zX (KS.parC m p) l S = some S' -> S'.prs.length = S.prs.length
 | [],S,S',h => by rw [<- Option.some.inj h]
 | x :: r,S,S',h => by
  obtain ⟨S1,h1,h2⟩ := Option.bind_eq_some_iff.1 h; rw [rX r S1 S' h2,iS h1]
theorem rE {m p : Nat} : ∀ (l : List T) (S : KS) (k : Int) (q : KS × Int),p < S.prs.length -> xm (KS.innVarC m p) l S k = some q -> (q.1.pr p).result = (S.pr p).result /\ p < q.1.prs.length
 | [],S,k,q,hp,h => by rw [<- Option.some.inj h]; exact ⟨rfl,hp⟩
 | x :: r,S,k,q,hp,h => by
  obtain ⟨⟨_,_⟩,h1,h2⟩ := Option.bind_eq_some_iff.1 h; obtain ⟨j,-,h3⟩ := Option.bind_eq_some_iff.1 h1; obtain ⟨_,h4,h5⟩ := Option.bind_eq_some_iff.1 h3
  split at h5
  ·cases h5
   obtain ⟨-,-,rfl,-⟩ := yP h4
   have hp2 : p < ((S.addTh { th0 with first := k,ty := some j,kind := 3,name := x.name }).setPr p { S.pr p with inner := (x.name,S.ths.length) :: (S.pr p).inner }).prs.length := by simpa [KS.setPr,KS.addTh] using hp
   obtain ⟨e1,e2⟩ := rE r _ _ q hp2 h2; refine ⟨e1.trans ?_,e2⟩; rw [show ((S.addTh _).setPr p _).pr p = _ from zY _ _ _ hp]
  ·cases h5
end
section
variable {ρ ρ' : Lay} {w w' : World} {S S' : KS} {k : Prop} {i : Nat}
theorem Stp.acts (h : KM ρ w S) (hk : S.okB = true) (hl : i < S.mds.length) {av : Value} {l : List T} (hs : Sm w w' (fun g => g ≠ ρ.md i)) (hb : ∀ av0 iv dv,Bk w (ρ.md i) (mdV ρ i (S.md i) av0 iv dv) -> Bk w' (ρ.md i) (mdV ρ i { S.md i with acts := l } av iv dv)) (ha : AF ρ.tr w l av) (hk' : (S.setMd i { S.md i with acts := l }).okB = true) : Stp k ρ w S ρ w' (S.setMd i { S.md i with acts := l }) := by
 have M := h.md i hl
 have N : ∀ lb : Lb,lb ≠ .md i -> ∀ g,ρ.col g = some lb -> g ≠ ρ.md i := fun lb hlb g hg e => hlb (by rw [e,M.col] at hg; exact (Option.some.inj hg).symm)
 obtain ⟨av0,iv,dv,f,_,c,d⟩ := M.bk
 refine ⟨h.setMd (KS.okIn hk) (Agr.refl _ _) hl (hs.mono (fun g _ hg e => hg.1 (by rw [e]; exact M.col))) (fun b hb => h.fr b (Nat.le_trans hs.size hb)) ⟨⟨av,iv,dv,hb _ _ _ f,ha.sm hs (N _ nofun),⟨zR c.1 hs (fun g hg => N (.im i) nofun g (c.2 g hg)),c.2⟩,zR d.1 hs (fun g hg => N (.de i) nofun g (d.2 g hg)),d.2⟩,M.mp.sm hs (N (.nm i) nofun _ M.coln),M.col,M.coln⟩,
  hk',Agr.refl _ _,fun _ _ => rfl,hs.mono (fun g _ hg => hg.ne M.col nofun nofun),Nat.le_refl _,Nat.le_refl _,Nat.le_refl _,by simp [KS.setMd]⟩
end
end Go.Proofs.YtnmkffjklpfflaaGreatDoor
