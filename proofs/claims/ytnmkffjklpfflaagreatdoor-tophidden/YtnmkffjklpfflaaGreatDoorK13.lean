/- Declarations: types are filled. -/
import Derived.Test.YtnmkffjklpfflaaGreatDoorK12
namespace Go.Proofs.YtnmkffjklpfflaaGreatDoor
open Go.RowKit
set_option maxHeartbeats 4000000
set_option maxRecDepth 100000
section
variable {ρ : Lay} {w w' w1 : World} {S : KS} {b : Nat} {c : KSc}
theorem pC {i : Nat} (h : CK ρ w S b c) (n : T) (sv : Value) (hf : Fits n) (hk : S.okB = true) (hcb : ρ.col b = some .ck) (hi : i < S.tys.length) {S' : KS} (ha : AF ρ.tr w n.subs sv) (hl1 : 1 <= n.subs.length) (hC : S.fillC c i n = some S') :
  Calls Tryz.prog 73 #[.pointer (some ⟨b,0,none⟩),.pointer (some ⟨ρ.ty i,0,none⟩),zn n sv] w (fun e w' => e = .returned (.tuple #[]) /\ ∃ ρ',Stp True ρ w S ρ' w' S') := by
 have r := ze h; have X := ze hk; have HF := ze hf; have HA := ze ha; have L := nG hC; obtain ⟨_,M,rfl,_,_⟩ := ha.at.form; obtain ⟨g,o,rfl,_,s⟩ := ha.nodes (by omega); obtain ⟨u,hu⟩ : ∃ u,n.subs[0]? = some u := ⟨_,List.getElem?_eq_getElem (by omega)⟩; rw [xR hu] at L; obtain ⟨_,Y,f0,a0⟩ := s 0 u hu; obtain ⟨Z,uc,rfl,-,-⟩ := a0.at.form; rw [Nat.zero_mul,Nat.add_zero] at Y; have HN := ze Y; have N := ze a0; have a1 := ze f0; have a8 := ze L; obtain ⟨fv,tb,-⟩ := (h.km.ty i hi).bk; have O := ze tb; have zg : g < w.heap.size := zw Y.c0; have c6 : ρ.col (ρ.ty i) = some (.ty i) := (h.km.ty i hi).col; have c7 : ρ.ty i < w.heap.size := tb.lt; clear h hk hf ha hC L Y a0 f0 s hu tb; obtain ⟨kd,x,m,p,l⟩ := n
 change Calls Tryz.prog 73 #[.pointer (some ⟨b,0,none⟩),.pointer (some ⟨ρ.ty i,0,none⟩),.agg #[.int .i64 kd,.string ⟨x.toArray⟩,.int .i64 m,.int .i64 p,.slice (some ⟨g,o,none⟩) l.length M]] w _
 obtain ⟨w0,f⟩ : ∃ z,z = w.alloc (.cells #[.int .i64 kd,.string ⟨x.toArray⟩,.int .i64 m,.int .i64 p,.slice (some ⟨g,o,none⟩) l.length M] 100) := ⟨_,rfl⟩
 have K : Hid (w.grownBy w0 none) := by rw [f]; exact zf (zc w none) _
 have B0 : Hid (Box w0 w.heap.size (.mk kd x m p l) (.slice (some ⟨g,o,none⟩) l.length M)) := by rw [f]; exact Box.new w (.mk kd x m p l) (.slice (some ⟨g,o,none⟩) l.length M) _
 change 1 <= l.length at hl1
 have c8 : ¬ ((l.length : Int) <= 0) := by omega
 have c9 : ¬ l = [] := fun e => by rw [e] at hl1; simp at hl1
 have a9 := ze (fun w9 (G : w.grownBy w9 none) => ym (r.out.up G) u (.slice Z u.subs.length uc) a1.out (N.out.at.kept G)); have b0 := ze (fun w9 (G : w.grownBy w9 none) => jb (r.out.up G) u (.slice Z u.subs.length uc) a1.out (N.out.at.kept G))
 rcases a8.out with ⟨h3,b1,a2,j,-,hj,d,t⟩ | ⟨h4,b2,d⟩ | ⟨h5,j,-,hj,a3,d,t⟩
 ·change 1 <= m at b1
  change m <= 64 at a2
  have v := ze d; have Q := ze t; have E : j < S.tys.length := yM r.out hj; obtain ⟨fw,tj,-⟩ := (r.out.km.ty j E).bk; have F := ((KS.okP X.out).tyP E).2; obtain ⟨H,I⟩ : ∃ z,z = (S.ty j).words := ⟨_,rfl⟩; rw [<- I] at F; have b3 := ze I
  have j3 : Hid (w.cell? ⟨ρ.ty j,3,none⟩ = some (.int .i64 H)) := by rw [I]; exact tj.c 3 _ rfl
  have e0 : w.cell? ⟨ρ.ty i,0,none⟩ = some (.int .i64 3) := by rw [<- h3]; exact O.out.c 0 _ rfl
  have Y := HN.out.c0; have n1 := HN.out.c1; have n2 := HN.out.c2; have n3 := HN.out.c3; have n4 := HN.out.c4; have b4 : 0 <= m * H := Int.mul_nonneg (by omega) F.1; have b5 : m * H <= 64 * 1000000 := Int.mul_le_mul a2 F.2 F.1 (by omega)
  have a4 : Hid (IntKind.i64.wrap (m * H) = m * H) := by show _ = _; rw [IntKind.wrap_i64]; omega
  clear tj I d t h3 b4 b5
  go_enter Tryz.func73,Tryz.ntmps73
  go_wp2_with fail; rw [<- f]; clear f e0 Y n1 n2 n3 n4; go_at_call 74; refine (a9.out _ K.out).mono ?_; rw [hj]; rintro e w1 ⟨k,rfl⟩; have R := ze (za K.out k); have B1 := ze (B0.out.kept k); have A := ze (O.out.kept R.out (by simp)); have e4 := A.out.c 4 _ rfl; have e5 := A.out.c 5 _ rfl; have ez := A.out.z; have x2 : w1.cell? ⟨w.heap.size,2,none⟩ = some (.int .i64 m) := B1.out.c2
  have d0 : ¬ w.heap.size = ρ.ty i := by omega
  clear k; go_wp2_with fail; obtain ⟨J,B⟩ : ∃ z,z = (w1.setCell ⟨ρ.ty i,5,none⟩ (.pointer (some ⟨ρ.ty j,0,none⟩))).setCell ⟨ρ.ty i,4,none⟩ (.int .i64 m) := ⟨_,rfl⟩; rw [<- B]
  have C : Hid (Bk J (ρ.ty i) (tyV ρ { S.ty i with of := some j,places := m } fv)) := by rw [B]; exact (A.out.set 5 _).set 4 _
  have S2 : Hid (Sm w1 J (fun g => g ≠ ρ.ty i)) := by rw [B]; exact ((Sm.refl w1 _).put (fun q => q rfl) _ _).put (fun q => q rfl) _ _
  have b6 : Hid (J.cell? ⟨ρ.ty j,3,none⟩ = some (.int .i64 H)) := by
   show _ = _
   rw [B,World.cell?_setCell_other _ _ _ _ (by simp),World.cell?_setCell_other _ _ _ _ (by simp)]
   exact zi R.out j3.out
  clear B e4 e5 ez x2; have b7 : Hid (J.cell? ⟨ρ.ty i,4,none⟩ = some (.int .i64 m)) := C.out.c 4 _ rfl; have b8 : Hid (J.cell? ⟨ρ.ty i,5,none⟩ = some (.pointer (some ⟨ρ.ty j,0,none⟩))) := C.out.c 5 _ rfl
  skip
  refine yn [15] (S := fun w9 => J.grownBy w9 none) (by kernel_rfl) ?_ (fun hHeld => ?_)
  ·exact zh (zc J none)
  refine zk 0 (some 36) (.pointer (some ⟨ρ.ty i,0,none⟩)) rfl rfl (fun w9 _ => by go_simp) hHeld ?_; simp only [qA,qB,qC,qD]; refine zk 1 (some 37) (.pointer (some ⟨ρ.ty i,0,none⟩)) rfl rfl (fun w9 _ => by go_simp) hHeld ?_; simp only [qA,qB,qC,qD]; refine zk 2 (some 38) (.pointer (some ⟨ρ.ty i,0,none⟩)) rfl rfl (fun w9 _ => by go_simp) hHeld ?_; simp only [qA,qB,qC,qD]; refine zk 3 (some 39) (.pointer (some ⟨ρ.ty i,4,none⟩)) rfl rfl (fun w9 _ => by go_simp) hHeld ?_; simp only [qA,qB,qC,qD]; refine zk 4 (some 40) (.int .i64 m) rfl rfl (fun w9 d => by have U := zi d b7.out; go_simp) hHeld ?_; simp only [qA,qB,qC,qD]; refine zk 5 (some 41) (.pointer (some ⟨ρ.ty i,0,none⟩)) rfl rfl (fun w9 _ => by go_simp) hHeld ?_; simp only [qA,qB,qC,qD]; refine zk 6 (some 42) (.pointer (some ⟨ρ.ty i,0,none⟩)) rfl rfl (fun w9 _ => by go_simp) hHeld ?_; simp only [qA,qB,qC,qD]; refine zk 7 (some 43) (.pointer (some ⟨ρ.ty i,5,none⟩)) rfl rfl (fun w9 _ => by go_simp) hHeld ?_; simp only [qA,qB,qC,qD]; refine zk 8 (some 44) (.pointer (some ⟨ρ.ty j,0,none⟩)) rfl rfl (fun w9 d => by have U := zi d b8.out; go_simp) hHeld ?_; simp only [qA,qB,qC,qD]; refine zk 9 (some 45) (.pointer (some ⟨ρ.ty j,0,none⟩)) rfl rfl (fun w9 _ => by go_simp) hHeld ?_; simp only [qA,qB,qC,qD]; refine zk 10 (some 46) (.pointer (some ⟨ρ.ty j,3,none⟩)) rfl rfl (fun w9 _ => by go_simp) hHeld ?_; simp only [qA,qB,qC,qD]; refine zk 11 (some 47) (.int .i64 H) rfl rfl (fun w9 d => by have U := zi d b6.out; go_simp) hHeld ?_; simp only [qA,qB,qC,qD]; refine zk 12 (some 48) (.int .i64 (m * H)) rfl rfl (fun w9 _ => by have U := a4.out; go_simp) hHeld ?_; simp only [qA,qB,qC,qD]; refine zr 13 (by kernel_rfl) rfl (fun KK hKK => ?_)
  go_simp
  refine hKK.out _ _ hHeld (fun hHeld => ?_); clear hKK KK; refine zr 14 (by kernel_rfl) rfl (fun KK hKK => ?_)
  go_simp
  refine hKK.out _ _ hHeld (fun hHeld => ?_); clear hKK KK; have e3 := C.out.c 3 _ rfl; have ez := C.out.z; refine zl 15 (by kernel_rfl) rfl rfl (fun KK hKK => ?_)
  go_simp
  refine hKK.out _ _ ?_; clear hKK KK; clear e3 ez; refine zd (by kernel_rfl) ?_ _; clear hHeld; go_wp2; refine bodyPost_end (results_none rfl _ _ _) rfl ?_; obtain rfl : H = _ := b3.out; have q := Q.out; rw [show S' = _ from v.out] at q ⊢
  exact ⟨rfl,_,((Stp.refl r.out.km X.out).behind R.out).trans (Stp.ty (r.out.km.up R.out) X.out hi ((S2.out.put (fun q => q rfl) _ _).drew) (fun fv' hB => by
   have h8 := hB.c 6 _ rfl; have h7 := A.out.c 6 _ rfl; rw [h8] at h7; cases h7
   exact (C.out.set 3 _).drew) rfl q)⟩
 ·have v := ze d
  have H4 := ze h4
  have e0 : w.cell? ⟨ρ.ty i,0,none⟩ = some (.int .i64 4) := by rw [<- h4]; exact O.out.c 0 _ rfl
  have D := ze (qi (r.out.up K.out) (.mk kd x m p l) (.slice (some ⟨g,o,none⟩) l.length M) HF.out X.out hcb hi H4.out (HA.out.kept K.out (fun _ e => by cases e)) b2 v.out); clear d h4
  go_enter Tryz.func73,Tryz.ntmps73
  go_wp2_with fail; rw [<- f]; clear f e0; go_at_call 104; refine D.out.mono ?_; rintro e w1 ⟨rfl,ρ1,a5⟩; have b9 := ze a5; clear a5; go_wp2; refine bodyPost_end (results_none rfl _ _ _) rfl ?_
  exact ⟨rfl,_,b9.out.ahead K.out⟩
 ·have v := ze d
  have Q := ze t; have E : j < S.tys.length := ut r.out hj
  have a6 : S.record u j = .ok j := by unfold KS.record; rw [if_pos a3]
  have D := ze (fun w9 (G : w.grownBy w9 none) => qa (b := b) (r.out.km.up G) u (.slice Z u.subs.length uc) (N.out.at.kept G) E)
  have e0 : w.cell? ⟨ρ.ty i,0,none⟩ = some (.int .i64 5) := by rw [<- h5]; exact O.out.c 0 _ rfl
  have N0 : Hid (Node5 w0 g o u (.slice Z u.subs.length uc)) := HN.out.kept K.out; clear d t h5 a3
  go_enter Tryz.func73,Tryz.ntmps73
  go_wp2_with fail; rw [<- f]; clear f e0
  skip
  refine yn [15] (S := fun w9 => w0.grownBy w9 none) (by kernel_rfl) ?_ (fun hHeld => ?_)
  ·exact zh (zc w0 none)
  refine zk 0 (some 59) (.pointer (some ⟨ρ.ty i,0,none⟩)) rfl rfl (fun w9 _ => by go_simp) hHeld ?_; simp only [qA,qB,qC,qD]; refine zk 1 (some 60) (.pointer (some ⟨b,0,none⟩)) rfl rfl (fun w9 _ => by go_simp) hHeld ?_; simp only [qA,qB,qC,qD]; refine zk 2 (some 61) (.pointer (some ⟨w.heap.size,4,none⟩)) rfl rfl (fun w9 _ => by go_simp) hHeld ?_; simp only [qA,qB,qC,qD]; refine zk 3 (some 62) (.slice (some ⟨g,o,none⟩) l.length M) rfl rfl (fun w9 d => by obtain ⟨q0,U,q2,q3,q4⟩ := (Box.kept B0.out d).plain; go_simp) hHeld ?_; simp only [qA,qB,qC,qD]; refine zk 4 (some 63) (.pointer (some ⟨g,o,none⟩)) rfl rfl (fun w9 _ => by go_simp) hHeld ?_; simp only [qA,qB,qC,qD]; refine zk 5 (some 64) (zn u (.slice Z u.subs.length uc)) rfl rfl (fun w9 d => by obtain ⟨q0,U,q2,q3,q4⟩ := Node5.kept N0.out d; go_simp) hHeld ?_; simp only [qA,qB,qC,qD]; refine zk 6 (some 65) (.pointer (some ⟨b,0,none⟩)) rfl rfl (fun w9 _ => by go_simp) hHeld ?_; simp only [qA,qB,qC,qD]; refine zk 7 (some 66) (.pointer (some ⟨w.heap.size,4,none⟩)) rfl rfl (fun w9 _ => by go_simp) hHeld ?_; simp only [qA,qB,qC,qD]; refine zk 8 (some 67) (.slice (some ⟨g,o,none⟩) l.length M) rfl rfl (fun w9 d => by obtain ⟨q0,U,q2,q3,q4⟩ := (Box.kept B0.out d).plain; go_simp) hHeld ?_; simp only [qA,qB,qC,qD]; refine zk 9 (some 68) (.pointer (some ⟨g,o,none⟩)) rfl rfl (fun w9 _ => by go_simp) hHeld ?_; simp only [qA,qB,qC,qD]; refine zk 10 (some 69) (zn u (.slice Z u.subs.length uc)) rfl rfl (fun w9 d => by obtain ⟨q0,U,q2,q3,q4⟩ := Node5.kept N0.out d; go_simp) hHeld ?_; simp only [qA,qB,qC,qD]; refine zr 11 (by kernel_rfl) rfl (fun KK hKK => ?_)
  go_simp
  go_at_call 106; refine (b0.out _ (zh K.out)).mono ?_; rw [hj]; rintro e w1 ⟨k,rfl⟩; have R := ze (za (zh K.out) k); have a7 := ze (za (zh (zc w0 none)) k); clear k
  go_simp
  refine hKK.out _ _ a7.out fun hHeld => ?_
  clear hKK KK; refine zr 12 (by kernel_rfl) rfl (fun KK hKK => ?_)
  go_simp
  go_at_call 105; refine (D.out _ R.out).mono ?_; rw [a6]; rintro e J ⟨V,rfl⟩; have G2 := ze (za R.out V); have c5 := ze (za a7.out V); clear V
  go_simp
  refine hKK.out _ _ c5.out fun hHeld => ?_
  clear hKK KK; refine zr 13 (by kernel_rfl) rfl (fun KK hKK => ?_)
  go_simp
  refine hKK.out _ _ hHeld (fun hHeld => ?_); clear hKK KK; refine zr 14 (by kernel_rfl) rfl (fun KK hKK => ?_)
  go_simp
  refine hKK.out _ _ hHeld (fun hHeld => ?_); clear hKK KK; have e5 := (O.out.kept G2.out (by simp)).c 5 _ rfl; have ez := (O.out.kept G2.out (by simp)).z; refine zl 15 (by kernel_rfl) rfl rfl (fun KK hKK => ?_)
  go_simp
  refine hKK.out _ _ ?_; clear hKK KK; refine zd (by kernel_rfl) ?_ _; clear hHeld; have e3 := zi G2.out (O.out.c 3 _ rfl); go_wp2; refine bodyPost_end (results_none rfl _ _ _) rfl ?_; have q := Q.out; rw [show S' = _ from v.out] at q ⊢
  exact ⟨rfl,_,((Stp.refl r.out.km X.out).behind G2.out).trans (Stp.ty (r.out.km.up G2.out) X.out hi (((Sm.refl J _).put (fun q => q rfl) _ _).put (fun q => q rfl) _ _) (fun fv hB => (hB.set 5 _).set 3 _) rfl q)⟩
end
section
variable {ρ : Lay} {w w' w1 : World} {S : KS} {b : Nat} {c : KSc}
theorem sM {m : Nat} (h : CK ρ w S b ⟨m,none⟩) (hk : S.okB = true) (hcb : ρ.col b = some .ck) {S1 S' : KS} {l : List T} {sv : Value} (ha : AF ρ.tr w l sv) (hsh : ∀ n ∈ l,1 <= n.subs.length /\ 1 <= (sub n 0).subs.length) (hs : yw (KS.typeC m) l S = some S1) (hs' : yw (KS.filledC m) l S1 = some S') :
  Calls Tryz.prog 56 #[.pointer (some ⟨b,0,none⟩),sv] w (fun e w' => e = .returned (.tuple #[]) /\ ∃ ρ',Stp True ρ w S ρ' w' S') := by
 have HK := ze h; have HB := ze hk; have HL := ze ha; have HS := ze hs; have d6 := ze hs'; have c5 := ze hsh; obtain ⟨_,_,rfl,_,d7⟩ := ha.at.form
 unfold maxLen at d7
 clear h hk ha hs hs' hsh
 go_enter Tryz.func56,Tryz.ntmps56
 go_wp2_with fail
 go_loopw [11] (fun iv wr => ∃ (j : Nat) (ρr : Lay) (k : KS),j <= l.length /\ iv = .int .i64 ↑j /\ Hid (yw (KS.typeC m) (l.drop j) k = some S1) /\ Hid (Stp True ρ w S ρr wr k)) (fun iv _ => l.length - (intOf iv).toNat)
 case atStart => exact ⟨0,ρ,S,Nat.zero_le _,rfl,HS.out,Stp.refl HK.out.km HB.out⟩
 case round =>
  obtain ⟨j,ρr,k,hj,rfl,HE,s⟩ := hrel; have B : Hid (CK ρr wr k b ⟨m,none⟩) := HK.out.step s.out hcb; have C : ρr.col b = some .ck := s.out.agr.col _ _ hcb
  by_cases a0 : j < l.length
  ·obtain ⟨v,hv⟩ : ∃ v,l[j]? = some v := ⟨_,List.getElem?_eq_getElem a0⟩
   obtain ⟨Sn,Q,R⟩ := xH hv HE.out; have a9 := ze R; have a1 := ov Q; obtain ⟨g,o,sw,e1,d8,D,fv,av⟩ := (HL.out.step s.out).node hv; subst e1; obtain ⟨q,b0⟩ := c5.out v (List.mem_of_getElem? hv)
   obtain ⟨u,r,A⟩ : ∃ u r,v.subs = u :: r := by
    cases hq : v.subs with
    | nil => rw [hq] at q; simp at q
    | cons u r => exact ⟨u,r,rfl⟩
   have U : sub v 0 = u := xR (by rw [A]; rfl)
   have c6 : ¬ ((v.subs.length : Int) <= 0) := by omega
   have d9 : ¬ v.subs = [] := fun e => by rw [e] at q; simp at q
   obtain ⟨va,vc,rfl,-,-⟩ := av.at.form; obtain ⟨M,N,su,e2,E,n6,fu,au⟩ := av.node (j := 0) (v := u) (by rw [A]; rfl); subst e2; rw [Nat.zero_mul,Nat.add_zero] at n6; obtain ⟨ua,uc,rfl,-,-⟩ := au.at.form; have FV := ze fv; have FU := ze fu; have AU := ze au; have N6 := ze n6; have d0 := D.c0; have d1 := D.c1; have d2 := D.c2; have d3 := D.c3; have d4 := D.c4; have f0 : g < wr.heap.size := zw d0; clear D n6 fu au fv av hv A; go_wp2_with fail; obtain ⟨d,f⟩ : ∃ z,z = wr.alloc (.cells #[.int .i64 v.kind,.string ⟨v.name.toArray⟩,.int .i64 v.num,.int .i64 v.at',.slice (some ⟨M,N,none⟩) v.subs.length vc] 100) := ⟨_,rfl⟩; rw [<- f]
   have i : Hid (wr.grownBy d none) := by rw [f]; exact zf (zc wr none) _
   have F : Hid (Box d wr.heap.size v (.slice (some ⟨M,N,none⟩) v.subs.length vc)) := by rw [f]; exact Box.new wr v _ _
   have f1 : wr.heap.size < d.heap.size := by rw [f]; simp
   clear f d0 d1 d2 d3 d4; have a2 : ρr.col wr.heap.size = none := B.out.km.fr _ (Nat.le_refl _); have c1 : Hid (wr.cell? ⟨b,1,none⟩ = some (.pointer (some ⟨ρr.md m,0,none⟩))) := B.out.s1; have N2 : Hid (Node5 d M N u (.slice ua u.subs.length uc)) := N6.out.kept i.out; have G2 : Hid (d.grownBy d none) := zc d none; rw [U] at a1; have b1 := ze a1.1; have HD := ze a1.2
   have f2 : (if u.kind = 9 then (3 : Int) else if u.kind = 10 then 4 else 5) = dZ u := rfl
   obtain ⟨fo,b2⟩ : ∃ z,z = dZ u := ⟨_,rfl⟩
   have f3 : Hid (∀ w9,Calls Tryz.prog 72 #[zn u (.slice ua u.subs.length uc)] w9 (Sy w9 (.int .i64 fo))) := fun w9 => by rw [b2]; exact se u _
   rw [<- b2] at b1 HD; clear Q R a1 f2 b2 U; obtain ⟨St,b3⟩ : ∃ z,z = k.addTy { ty0 with form := fo,name := v.name,home := some m } := ⟨_,rfl⟩; rw [<- b3] at b1 HD; have f4 := ze b3; clear b3
   skip
   refine wp_region_held_drew (S := fun w9 => Sm d w9 (Kp ρr True)) (by kernel_rfl) ?_ (fun hHeld => ?_)
   ·exact (Sm.refl d _).drew
   refine kQ 0 15 (.pointer (some ⟨b,0,none⟩)) hHeld ?_; simp only [qA,qB,qC,qD]; refine kQ 1 16 (.pointer (some ⟨b,0,none⟩)) hHeld ?_; simp only [qA,qB,qC,qD]; refine kQ 2 17 (.pointer (some ⟨b,0,none⟩)) hHeld ?_; simp only [qA,qB,qC,qD]; refine dk 3 (some 18) (zn v (.slice (some ⟨M,N,none⟩) v.subs.length vc)) rfl rfl (fun w9 hS => by obtain ⟨q0,q1,q2,q3,q4⟩ := Box.sm F.out hS (.inl a2); go_simp) hHeld ?_; simp only [qA,qB,qC,qD]; refine kQ 4 19 (.pointer (some ⟨wr.heap.size,4,none⟩)) hHeld ?_; simp only [qA,qB,qC,qD]; refine dk 5 (some 20) (.slice (some ⟨M,N,none⟩) v.subs.length vc) rfl rfl (fun w9 hS => by obtain ⟨q0,q1,q2,q3,q4⟩ := Box.sm F.out hS (.inl a2); go_simp) hHeld ?_; simp only [qA,qB,qC,qD]; refine kQ 6 21 (.pointer (some ⟨M,N,none⟩)) hHeld ?_; simp only [qA,qB,qC,qD]; refine dk 7 (some 22) (zn u (.slice ua u.subs.length uc)) rfl rfl (fun w9 hS => by obtain ⟨q0,q1,q2,q3,q4⟩ : Node5 w9 M N u (.slice ua u.subs.length uc) := ⟨hS.cell N2.out.c0 (.inr (.inl E)),hS.cell N2.out.c1 (.inr (.inl E)),hS.cell N2.out.c2 (.inr (.inl E)),hS.cell N2.out.c3 (.inr (.inl E)),hS.cell N2.out.c4 (.inr (.inl E))⟩; go_simp) hHeld ?_; simp only [qA,qB,qC,qD]; refine kQ 9 24 (.pointer (some ⟨wr.heap.size,1,none⟩)) hHeld ?_; simp only [qA,qB,qC,qD]; refine dk 10 (some 25) (.string ⟨v.name.toArray⟩) rfl rfl (fun w9 hS => by obtain ⟨q0,q1,q2,q3,q4⟩ := Box.sm F.out hS (.inl a2); go_simp) hHeld ?_; simp only [qA,qB,qC,qD]; refine kQ 11 26 (.pointer (some ⟨b,0,none⟩)) hHeld ?_; simp only [qA,qB,qC,qD]; refine kQ 12 27 (.pointer (some ⟨b,0,none⟩)) hHeld ?_; simp only [qA,qB,qC,qD]; refine kQ 13 28 (.pointer (some ⟨b,0,none⟩)) hHeld ?_; simp only [qA,qB,qC,qD]; refine kQ 14 29 (.pointer (some ⟨b,1,none⟩)) hHeld ?_
   simp only [qA,qB,qC,qD]; refine dk 15 (some 30) (.pointer (some ⟨ρr.md m,0,none⟩)) rfl rfl (fun w9 hS => by have q1 := hS.cell (zi i.out c1.out) (.inr (.inr ⟨C,trivial⟩)); go_simp) hHeld ?_; simp only [qA,qB,qC,qD]; refine rd 8 rfl fun KK hKK => ?_
   go_simp
   go_at_call 72; refine (f3.out _).mono ?_; rintro e V ⟨rfl,c7⟩; have H := ze (za (zh (zc d none)) c7); clear c7
   go_simp
   refine hKK.out _ _ (Sm.of_none H.out _) fun hHeld => ?_
   clear hKK KK; refine kQ 16 31 (.agg #[.int .i64 fo,.string ⟨v.name.toArray⟩,.pointer (some ⟨ρr.md m,0,none⟩),.int .i64 0,.int .i64 0,.pointer none,.slice none 0 0,.bool false]) hHeld ?_; simp only [qA,qB,qC,qD]; refine rd 17 rfl fun KK hKK => ?_
   go_simp
   refine hKK.out _ _ (Sm.of_none (zf H.out _) _) fun hHeld => ?_
   clear hKK KK; obtain ⟨O,X⟩ : ∃ z,z = V.alloc (.cells #[.int .i64 fo,.string ⟨v.name.toArray⟩,.pointer (some ⟨ρr.md m,0,none⟩),.int .i64 0,.int .i64 0,.pointer none,.slice none 0 0,.bool false] 54) := ⟨_,rfl⟩; rw [<- X] at hHeld ⊢
   have GT : Hid (wr.grownBy O none) := by rw [X]; exact zf (za i.out H.out) _
   have f5 : Hid (d.grownBy O none) := by rw [X]; exact zf H.out _
   have f6 : Hid (Bk O V.heap.size (tyV ρr { ty0 with form := fo,name := v.name,home := some m } (.slice none 0 0))) := by rw [X]; exact Bk.new V _ _ rfl
   clear X; obtain ⟨ρt,a3⟩ : ∃ z,z = ρr.addTy k.tys.length V.heap.size := ⟨_,rfl⟩
   have Y : Hid (Stp True ρr wr k ρt O St) := by
    have I := b1.out; rw [a3]; rw [show St = _ from f4.out] at I ⊢
    exact Stp.addTy B.out.km s.out.ok GT.out f6.out rfl rfl (za i.out H.out).size I
   have b4 : ∀ g,g < V.heap.size -> ρt.col g = ρr.col g := fun g hg => by rw [a3]; simp only [Lay.addTy]; rw [if_neg (by omega)]
   have f7 : ρt.ty k.tys.length = V.heap.size := by rw [a3]; simp [Lay.addTy]
   have f8 : Hid (CK ρt O St b ⟨m,none⟩) := B.out.step Y.out C; have f9 : ρt.col O.heap.size = none := Y.out.km.fr _ (Nat.le_refl _); clear a3; refine kQ 18 33 (.agg #[.int .i64 2,.string ⟨#[]⟩,.bool false,.pointer none,.pointer (some ⟨V.heap.size,0,none⟩),.int .i32 0,.int .i64 0,.bool false,.pointer none,.bool false,.pointer none]) hHeld ?_; simp only [qA,qB,qC,qD]; refine rd 19 rfl fun KK hKK => ?_
   go_simp
   refine hKK.out _ _ (hHeld.trans (Sm.of_none (zf (zc O none) _) _)) fun hHeld => ?_
   clear hKK KK; obtain ⟨wx,a4⟩ : ∃ z,z = O.alloc (.cells #[.int .i64 2,.string ⟨#[]⟩,.bool false,.pointer none,.pointer (some ⟨V.heap.size,0,none⟩),.int .i32 0,.int .i64 0,.bool false,.pointer none,.bool false,.pointer none] 90) := ⟨_,rfl⟩; rw [<- a4] at hHeld ⊢
   have GX : Hid (O.grownBy wx none) := by rw [a4]; exact zf (zc O none) _
   have g0 : Hid (Bk wx O.heap.size (thV ρt { th0 with kind := 2,ty := some k.tys.length })) := by
    rw [a4]; refine Bk.new O _ _ ?_
    unfold thV Lay.tyP
    rw [Option.map_some,f7]
    rfl
   clear a4; refine rd 20 rfl fun KK hKK => ?_
   go_simp
   go_at_call 70; refine (xT GX.out (f8.out.up GX.out) Y.out.ok (Y.out.agr.col _ _ C) v (.slice (some ⟨M,N,none⟩) v.subs.length vc) FV.out g0.out f9 (Nat.le_refl _) HD.out).mono ?_; rintro e w4 ⟨rfl,ρ4,J,c8,g1,g3⟩; have g4 : Hid (Stp True ρr wr k ρ4 w4 Sn) := Y.out.trans J; have S4 : Hid (Sm d w4 (Kp ρr True)) := (Sm.of_none f5.out _).comp J.sm (fun g hg hp => by unfold Kp at hp ⊢; rw [b4 g (Nat.lt_of_lt_of_le hg H.out.size)]; exact hp); clear J g1 g3 c8
   go_simp
   refine hKK.out _ _ S4.out fun hHeld => ?_
   clear hKK KK; refine wpAnyH_done (by kernel_rfl) ?_ _; clear hHeld; go_wp2_with fail
   go_roundw
   case rel => exact ⟨j + 1,_,Sn,by omega,by go_num,a9,s.out.trans g4.out⟩
   case measure => first | omega | (simp only [intOf]; omega) | (simp; omega)
  ·have hE := vt (by omega) HE.out
   subst hE; obtain ⟨w5,g5⟩ : ∃ z,z = wr := ⟨_,rfl⟩; obtain ⟨ρ5,g6⟩ : ∃ z,z = ρr := ⟨_,rfl⟩; subst g5 g6; have g7 := s; clear s HE B C; go_wp2_with fail
   go_loopw [39] (fun iv wr => ∃ (j : Nat) (ρr : Lay) (k : KS),j <= l.length /\ iv = .int .i64 ↑j /\ Hid (yw (KS.filledC m) (l.drop j) k = some S') /\ Hid (Stp True ρ w S ρr wr k)) (fun iv _ => l.length - (intOf iv).toNat)
   case atStart => exact ⟨0,_,_,Nat.zero_le _,rfl,d6.out,g7.out⟩
   case round =>
    clear hj a0; obtain ⟨j,ρr,k,hj,rfl,HE,s⟩ := hrel; have B : Hid (CK ρr wr k b ⟨m,none⟩) := HK.out.step s.out hcb; have C : ρr.col b = some .ck := s.out.agr.col _ _ hcb
    by_cases a0 : j < l.length
    ·obtain ⟨v,hv⟩ : ∃ v,l[j]? = some v := ⟨_,List.getElem?_eq_getElem a0⟩
     obtain ⟨Sn,Q,R⟩ := xH hv HE.out; have a9 := ze R; obtain ⟨t,Sf,b5,b6,a5,g8,b7,a7⟩ := rA Q; obtain ⟨g,o,sw,e1,d8,D,fv,av⟩ := (HL.out.step s.out).node hv; subst e1; obtain ⟨q,b0⟩ := c5.out v (List.mem_of_getElem? hv)
     obtain ⟨u,r,A⟩ : ∃ u r,v.subs = u :: r := by
      cases hq : v.subs with
      | nil => rw [hq] at q; simp at q
      | cons u r => exact ⟨u,r,rfl⟩
     have U : sub v 0 = u := xR (by rw [A]; rfl)
     have c6 : ¬ ((v.subs.length : Int) <= 0) := by omega
     have d9 : ¬ v.subs = [] := fun e => by rw [e] at q; simp at q
     obtain ⟨va,vc,rfl,-,-⟩ := av.at.form; obtain ⟨M,N,su,e2,E,n6,fu,au⟩ := av.node (j := 0) (v := u) (by rw [A]; rfl); subst e2; rw [Nat.zero_mul,Nat.add_zero] at n6; obtain ⟨ua,uc,rfl,-,-⟩ := au.at.form; have FV := ze fv; have FU := ze fu; have AU := ze au; have N6 := ze n6; have d0 := D.c0; have d1 := D.c1; have d2 := D.c2; have d3 := D.c3; have d4 := D.c4; have f0 : g < wr.heap.size := zw d0; clear D n6 fu au fv av hv A; go_wp2_with fail; obtain ⟨d,f⟩ : ∃ z,z = wr.alloc (.cells #[.int .i64 v.kind,.string ⟨v.name.toArray⟩,.int .i64 v.num,.int .i64 v.at',.slice (some ⟨M,N,none⟩) v.subs.length vc] 100) := ⟨_,rfl⟩; rw [<- f]
     have i : Hid (wr.grownBy d none) := by rw [f]; exact zf (zc wr none) _
     have F : Hid (Box d wr.heap.size v (.slice (some ⟨M,N,none⟩) v.subs.length vc)) := by rw [f]; exact Box.new wr v _ _
     have f1 : wr.heap.size < d.heap.size := by rw [f]; simp
     clear f d0 d1 d2 d3 d4; have a2 : ρr.col wr.heap.size = none := B.out.km.fr _ (Nat.le_refl _); have c1 : Hid (wr.cell? ⟨b,1,none⟩ = some (.pointer (some ⟨ρr.md m,0,none⟩))) := B.out.s1; have N2 : Hid (Node5 d M N u (.slice ua u.subs.length uc)) := N6.out.kept i.out; have G2 : Hid (d.grownBy d none) := zc d none; rw [U] at a5 b0; have c9 : t < k.ths.length := B.out.ok.nm m B.out.hc _ _ b5
     obtain ⟨x,a6⟩ : ∃ x,(k.th t).ty = some x := by
      have I := ((KS.okP s.out.ok).thP c9).1.2; simp only [b6,ne_eq,not_true_eq_false,decide_false,Bool.false_or] at I
      exact yp I
     have Z : x < k.tys.length := (KS.okIn s.out.ok).thTy t c9 x a6; rw [show (k.th t).ty.getD 0 = x by rw [a6]; rfl] at a5 g8 b7; have g9 := ze a5; have h0 := ze b7; have d5 := ze a7; have h1 : v.name.length <= maxLen := FV.out.name
     have h2 : Hid (∀ w9,d.grownBy w9 none -> Calls Tryz.prog 28 #[.pointer (some ⟨ρr.md m,0,none⟩),.string ⟨v.name.toArray⟩] w9 fun e w' => e = .returned (.pointer (some ⟨ρr.ty x,0,none⟩)) /\ w' = w9) := fun w9 G => by
      have I := gk ((B.out.km.up i.out).up G) B.out.ok B.out.hc v.name h1; rw [show k.typeOf m v.name = some x by simp [KS.typeOf,b5,b6,a6]] at I
      exact I
     have h3 : Hid (CK ρr d k b ⟨m,none⟩) := B.out.up i.out; clear Q R U b5 b6 a5 b7 a7 a6
     skip
     refine wp_region_held_drew (S := fun w9 => d.grownBy w9 none) (by kernel_rfl) ?_ (fun hHeld => ?_)
     ·exact zh (zc d none)
     refine kQ 0 43 (.pointer (some ⟨b,0,none⟩)) hHeld ?_; simp only [qA,qB,qC,qD]; refine kQ 1 44 (.pointer (some ⟨b,0,none⟩)) hHeld ?_; simp only [qA,qB,qC,qD]; refine kQ 2 45 (.pointer (some ⟨b,0,none⟩)) hHeld ?_; simp only [qA,qB,qC,qD]; refine kQ 3 46 (.pointer (some ⟨b,1,none⟩)) hHeld ?_; simp only [qA,qB,qC,qD]; refine dk 4 (some 47) (.pointer (some ⟨ρr.md m,0,none⟩)) rfl rfl (fun w9 hS => by have q1 := zi hS (zi i.out c1.out); go_simp) hHeld ?_; simp only [qA,qB,qC,qD]; refine kQ 5 48 (.pointer (some ⟨wr.heap.size,1,none⟩)) hHeld ?_; simp only [qA,qB,qC,qD]; refine dk 6 (some 49) (.string ⟨v.name.toArray⟩) rfl rfl (fun w9 hS => by obtain ⟨q0,q1,q2,q3,q4⟩ := Box.kept F.out hS; go_simp) hHeld ?_; simp only [qA,qB,qC,qD]; refine rd 7 rfl fun KK hKK => ?_
     go_simp
     go_at_call 28; refine (h2.out _ (zh G2.out)).mono ?_; rintro e V ⟨rfl,K⟩; rw [K]; clear K
     go_simp
     refine hKK.out _ _ (zh (zc d none)) fun hHeld => ?_
     clear hKK KK; refine kQ 8 8 (.pointer (some ⟨ρr.ty x,0,none⟩)) hHeld ?_; simp only [qA,qB,qC,qD]; refine wpAnyH_done (by kernel_rfl) ?_ _; clear hHeld; obtain ⟨V,K⟩ : ∃ z,z = d.drew := ⟨_,rfl⟩; rw [<- K]
     have G3 : Hid (d.grownBy V none) := by rw [K]; exact zh (zc d none)
     clear K; have B3 := ze (F.out.kept G3.out); have x4 := B3.out.c4; have N3 := ze (N2.out.kept G3.out); have m0 := N3.out.c0; have m1 := N3.out.c1; have m2 := N3.out.c2; have m3 := N3.out.c3; have m4 := N3.out.c4; have b8 := ze (pC (h3.out.up G3.out) u (.slice ua u.subs.length uc) FU.out s.out.ok C Z ((AU.out.kept i.out (fun _ e => by cases e)).kept G3.out (fun _ e => by cases e)) b0 g9.out); go_wp2_with fail; go_at_call 73; refine b8.out.mono ?_; rintro e w4 ⟨rfl,ρ4,J⟩; have L : Hid (Stp True ρr wr k ρ4 w4 Sf) := J.ahead (za i.out G3.out); have a8 : x < Sf.tys.length := Nat.lt_of_lt_of_le Z L.out.tys; have b9 : ρ4.ty x = ρr.ty x := L.out.agr.ty x Z; obtain ⟨fw,tb,-⟩ := (L.out.km.ty x a8).bk; rw [b9] at tb; have TB := ze tb; have y3 : w4.cell? ⟨ρr.ty x,3,none⟩ = some (.int .i64 (Sf.ty x).words) := tb.c 3 _ rfl; have y7 := tb.c 7 _ rfl; have yz := tb.z; clear J tb x4 m0 m1 m2 m3 m4; go_wp2_with fail
     go_roundw
     case rel =>
      have h4 : Stp True ρ4 w4 Sf ρ4 (w4.setCell ⟨ρr.ty x,7,none⟩ (.bool true)) Sn := by
       have I := d5.out; rw [show Sn = _ from h0.out] at I ⊢; refine Stp.ty L.out.km L.out.ok a8 ?_ (fun fv hB => ?_) rfl I
       ·rw [b9]
        exact (Sm.refl w4 _).put (fun I => I rfl) _ _
       ·rw [b9] at hB ⊢
        exact hB.set 7 _
      exact ⟨j + 1,_,Sn,by omega,by go_num,a9,(s.out.trans L.out).trans h4⟩
     case measure => first | omega | (simp only [intOf]; omega) | (simp; omega)
    ·have hE := vt (by omega) HE.out
     subst hE; go_wp2; refine bodyPost_end (results_none rfl _ _ _) rfl ?_
     exact ⟨rfl,_,s.out⟩
end
end Go.Proofs.YtnmkffjklpfflaaGreatDoor
