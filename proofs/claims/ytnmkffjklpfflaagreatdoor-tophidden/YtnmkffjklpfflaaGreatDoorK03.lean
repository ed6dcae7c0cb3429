/- Operators. -/
import Derived.Test.YtnmkffjklpfflaaGreatDoorK01
namespace Go.Proofs.YtnmkffjklpfflaaGreatDoor
open Go.RowKit
set_option maxHeartbeats 4000000
set_option maxRecDepth 100000
section
variable {ρ : Lay} {w w' w1 : World} {S : KS} {b : Nat} {c : KSc}
theorem Box.at {w : World} {b : Nat} (hb : b = w.heap.size) (t : T) (sv : Value) (ty : TypeId) : Box (w.alloc (.cells #[.int .i64 t.kind,.string ⟨t.name.toArray⟩,.int .i64 t.num,.int .i64 t.at',sv] ty)) b t sv := by
 subst hb
 exact Box.new w t sv ty
theorem Box.alloc {w : World} {b : Nat} {t : T} {sv : Value} (h : Box w b t sv) (o : Obj) : Box (w.alloc o) b t sv := h.kept (World.grownBy_alloc w o none)
theorem Box.drew {w : World} {b : Nat} {t : T} {sv : Value} (h : Box w b t sv) : Box w.drew b t sv := h.kept (zh (zc w none))
theorem ff (h : CK ρ w S b c) (n : T) (sv : Value) (hf : Fits n) (ha : AT w n.subs sv) (hT : KAll S) {r : KR} {u v : T} (hl : n.subs = [u,v]) (hu : CEx ρ S b c r u) (hv : CEx ρ S b c r v) :
  Calls Tryz.prog 190 #[.pointer (some ⟨b,0,none⟩),zn n sv] w (Cy w ((S.operatorC r n).map fun t => .pointer (some ⟨ρ.ty t,0,none⟩))) := by
 have HU := ze (fun w1 (G : w.grownBy w1 none) su (fu : Fits u) (au : AT w u.subs su) => hu.run w1 su (h.up G) fu (au.kept G)); have HV := ze (fun w1 (G : w.grownBy w1 none) su (fu : Fits v) (au : AT w v.subs su) => hv.run w1 su (h.up G) fu (au.kept G)); have HK := ze h; have HT := ze hT; have d2 := hu.lt; have d3 := hv.lt; have h3 := h.ok.three; obtain ⟨B,x,m,p,l⟩ := n; obtain rfl : l = [u,v] := hl; obtain ⟨g,o,D,su,_,rfl,_,_,n5,fu,au,n6,fv,av⟩ := ha.pair; obtain ⟨ua,uc,rfl,-,-⟩ := au.form; obtain ⟨va,vc,rfl,-,-⟩ := av.form; have HA := ze au; have HF := ze fu; have H := ze av; have X := ze fv
 replace n5 := ze n5
 replace n6 := ze n6
 clear fu au fv av
 change Calls Tryz.prog 190 #[.pointer (some ⟨b,0,none⟩),.agg #[.int .i64 B,.string ⟨x.toArray⟩,.int .i64 m,.int .i64 p,.slice (some ⟨g,o,none⟩) 2 D]] w _
 obtain ⟨w0,a3⟩ : ∃ z,z = w.alloc (.cells #[.int .i64 B,.string ⟨x.toArray⟩,.int .i64 m,.int .i64 p,.slice (some ⟨g,o,none⟩) 2 D] 100) := ⟨_,rfl⟩
 have G0 : Hid (w.grownBy w0 none) := by rw [a3]; exact zf (zc w none) _
 have B0 : Hid (Box w0 w.heap.size (.mk B x m p [u,v]) (.slice (some ⟨g,o,none⟩) 2 D)) := by rw [a3]; exact Box.new w (.mk B x m p [u,v]) (.slice (some ⟨g,o,none⟩) 2 D) _
 clear h ha hf hu hv hT
 have hz : sub (.mk B x m p [u,v]) 0 = u := rfl
 have a2 : sub (.mk B x m p [u,v]) 1 = v := rfl
 have a4 : (T.mk B x m p [u,v]).name = x := rfl
 generalize hR : S.operatorC r (.mk B x m p [u,v]) = R
 go_enter Tryz.func190,Tryz.ntmps190
 go_wp2_with fail; rw [<- a3]
 have b2 : w0.heap.size = w.heap.size + 1 := by rw [a3]; simp
 clear a3
 have HS : Hid (∀ w',w0.grownBy w' none -> w'.cell? ⟨w.heap.size,4,none⟩ = some (.slice (some ⟨g,o,none⟩) 2 D) /\ w'.cell? ⟨g,o,none⟩ = some (.int .i64 u.kind) /\ w'.cell? ⟨g,o + 1,none⟩ = some (.string ⟨u.name.toArray⟩) /\ w'.cell? ⟨g,o + 2,none⟩ = some (.int .i64 u.num) /\ w'.cell? ⟨g,o + 3,none⟩ = some (.int .i64 u.at') /\ w'.cell? ⟨g,o + 4,none⟩ = some ((.slice ua u.subs.length uc)) /\ w'.cell? ⟨g,o + 5,none⟩ = some (.int .i64 v.kind) /\ w'.cell? ⟨g,o + 6,none⟩ = some (.string ⟨v.name.toArray⟩) /\ w'.cell? ⟨g,o + 7,none⟩ = some (.int .i64 v.num) /\ w'.cell? ⟨g,o + 8,none⟩ = some (.int .i64 v.at') /\ w'.cell? ⟨g,o + 9,none⟩ = some ((.slice va v.subs.length vc))) := fun w' hg => by
  have hh := za G0.out hg
  exact ⟨zi hg B0.out.c4,zi hh n5.out.c0,zi hh n5.out.c1,zi hh n5.out.c2,zi hh n5.out.c3,zi hh n5.out.c4,zi hh n6.out.c0,zi hh n6.out.c1,zi hh n6.out.c2,zi hh n6.out.c3,zi hh n6.out.c4⟩
 go_cut [5,6] from 18 (fun s1 s2 wx => ∃ (P Q : Nat),s1 = .pointer (some ⟨P,0,none⟩) /\ s2 = .pointer (some ⟨Q,0,none⟩) /\ Box wx P u (.slice ua u.subs.length uc) /\ Box wx Q v (.slice va v.subs.length vc) /\ w0.grownBy wx none)
 case first =>
  go_region_held (fun w' => w'.cell? ⟨w.heap.size,4,none⟩ = some (.slice (some ⟨g,o,none⟩) 2 D) /\ w'.cell? ⟨g,o,none⟩ = some (.int .i64 u.kind) /\ w'.cell? ⟨g,o + 1,none⟩ = some (.string ⟨u.name.toArray⟩) /\ w'.cell? ⟨g,o + 2,none⟩ = some (.int .i64 u.num) /\ w'.cell? ⟨g,o + 3,none⟩ = some (.int .i64 u.at') /\ w'.cell? ⟨g,o + 4,none⟩ = some ((.slice ua u.subs.length uc)) /\ w'.cell? ⟨g,o + 5,none⟩ = some (.int .i64 v.kind) /\ w'.cell? ⟨g,o + 6,none⟩ = some (.string ⟨v.name.toArray⟩) /\ w'.cell? ⟨g,o + 7,none⟩ = some (.int .i64 v.num) /\ w'.cell? ⟨g,o + 8,none⟩ = some (.int .i64 v.at') /\ w'.cell? ⟨g,o + 9,none⟩ = some ((.slice va v.subs.length vc))) (exact HS.out _ (by first | with_reducible exact zh (zc w0 none) | with_reducible exact zh (zf (zc w0 none) _) | with_reducible exact zh (zf (zf (zc w0 none) _) _))) (fail)
  all_goals
   go_wp2_with fail; go_meet
  case rel => exact ⟨_,_,rfl,rfl,((Box.at b2.symm _ _ _).alloc _).drew,(Box.at (by simp [b2]) _ _ _).drew,(zh (zf (zf (zc w0 none) _) _))⟩
  case rel => exact ⟨_,_,rfl,rfl,(Box.at (by simp [b2]) _ _ _).drew,((Box.at b2.symm _ _ _).alloc _).drew,(zh (zf (zf (zc w0 none) _) _))⟩
 case rest =>
  obtain ⟨P,Q,rfl,rfl,O,U,gx⟩ := hcut; obtain ⟨w1,d4⟩ : ∃ z,z = wc := ⟨_,rfl⟩; subst d4; have V := ze (za G0.out gx); have B1 : Hid (Box w1 w.heap.size (.mk B x m p [u,v]) (.slice (some ⟨g,o,none⟩) 2 D)) := Box.kept B0.out gx
  replace O := ze O
  replace U := ze U
  clear gx; cases Y : r.ex u with
  | error z =>
   obtain rfl : R = .error z := hR.symm.trans (by simp [KS.operatorC,hz,Y,Except.bind]); go_wp2_with fail; refine wp_region_held_drew (S := fun w9 => w1.grownBy w9 none) (by kernel_rfl) ?_ (fun hHeld => ?_)
   ·exact zh (zc w1 none)
   refine kQ 0 18 (.pointer (some ⟨b,0,none⟩)) hHeld ?_; simp only [qA,qB,qC,qD]; refine dk 1 (some 19) (zn u (.slice ua u.subs.length uc)) rfl rfl (fun w9 hS => by obtain ⟨Z,q1,q2,q3,q4⟩ := Box.kept O.out hS; go_simp) hHeld ?_; simp only [qA,qB,qC,qD]; refine kQ 3 21 (.pointer (some ⟨b,0,none⟩)) hHeld ?_; simp only [qA,qB,qC,qD]; refine dk 4 (some 22) (zn v (.slice va v.subs.length vc)) rfl rfl (fun w9 hS => by obtain ⟨Z,q1,q2,q3,q4⟩ := Box.kept U.out hS; go_simp) hHeld ?_; simp only [qA,qB,qC,qD]; refine rd 2 rfl fun KK hKK => ?_
   go_simp
   go_at_call 157; refine (HU.out _ (zh V.out) _ HF.out HA.out).mono ?_; rw [Y]; rintro e w2 h2; have HT := h2; obtain ⟨q,rfl⟩ := h2.thrown
   exact ⟨rfl,HT.err (zh V.out)⟩
  | ok a =>
   have ha := d2 a Y; cases hy : r.ex v with
   | error z =>
    obtain rfl : R = .error z := hR.symm.trans (by simp [KS.operatorC,hz,a2,Y,hy,Except.bind]); go_wp2_with fail; refine wp_region_held_drew (S := fun w9 => w1.grownBy w9 none) (by kernel_rfl) ?_ (fun hHeld => ?_)
    ·exact zh (zc w1 none)
    refine kQ 0 18 (.pointer (some ⟨b,0,none⟩)) hHeld ?_; simp only [qA,qB,qC,qD]; refine dk 1 (some 19) (zn u (.slice ua u.subs.length uc)) rfl rfl (fun w9 hS => by obtain ⟨Z,q1,q2,q3,q4⟩ := Box.kept O.out hS; go_simp) hHeld ?_; simp only [qA,qB,qC,qD]; refine kQ 3 21 (.pointer (some ⟨b,0,none⟩)) hHeld ?_; simp only [qA,qB,qC,qD]; refine dk 4 (some 22) (zn v (.slice va v.subs.length vc)) rfl rfl (fun w9 hS => by obtain ⟨Z,q1,q2,q3,q4⟩ := Box.kept U.out hS; go_simp) hHeld ?_; simp only [qA,qB,qC,qD]; refine rd 2 rfl fun KK hKK => ?_
    go_simp
    go_at_call 157; refine (HU.out _ (zh V.out) _ HF.out HA.out).mono ?_; rw [Y]; rintro e w2 ⟨f,rfl⟩; have E := ze (za (zh V.out) f); have k := ze (za (zh (zc w1 none)) f); clear f
    go_simp
    refine hKK.out _ _ k.out fun hHeld => ?_
    clear hKK KK; refine rd 5 rfl fun KK hKK => ?_
    go_simp
    go_at_call 157; refine (HV.out _ E.out _ X.out H.out).mono ?_; rw [hy]; rintro e C h3; have HT := h3; obtain ⟨q,rfl⟩ := h3.thrown
    exact ⟨rfl,HT.err E.out⟩
   | ok e =>
    have hb := d3 e hy
    have d6 : yL x < S.tys.length := by unfold yL; split <;> omega
    have a5 : yj x < S.tys.length := by unfold yj; split <;> omega
    by_cases j : x = vn \/ x = dA
    ·cases hm : S.mayEq a e
     ·obtain rfl : R = .error (7,p) := hR.symm.trans (by simp [KS.operatorC,hz,a2,a4,Y,hy,j,hm,Except.bind,thr,T.at'])
      rcases j with j | j
      ·subst j
       go_wp2_with fail; refine wp_region_held_drew (S := fun w9 => w1.grownBy w9 none) (by kernel_rfl) ?_ (fun hHeld => ?_)
       ·exact zh (zc w1 none)
       refine kQ 0 18 (.pointer (some ⟨b,0,none⟩)) hHeld ?_; simp only [qA,qB,qC,qD]; refine dk 1 (some 19) (zn u (.slice ua u.subs.length uc)) rfl rfl (fun w9 hS => by obtain ⟨Z,q1,q2,q3,q4⟩ := Box.kept O.out hS; go_simp) hHeld ?_; simp only [qA,qB,qC,qD]; refine kQ 3 21 (.pointer (some ⟨b,0,none⟩)) hHeld ?_; simp only [qA,qB,qC,qD]; refine dk 4 (some 22) (zn v (.slice va v.subs.length vc)) rfl rfl (fun w9 hS => by obtain ⟨Z,q1,q2,q3,q4⟩ := Box.kept U.out hS; go_simp) hHeld ?_; simp only [qA,qB,qC,qD]; refine rd 2 rfl fun KK hKK => ?_
       go_simp
       go_at_call 157; refine (HU.out _ (zh V.out) _ HF.out HA.out).mono ?_; rw [Y]; rintro e w2 ⟨f,rfl⟩; have E := ze (za (zh V.out) f); have k := ze (za (zh (zc w1 none)) f); clear f
       go_simp
       refine hKK.out _ _ k.out fun hHeld => ?_
       clear hKK KK; refine rd 5 rfl fun KK hKK => ?_
       go_simp
       go_at_call 157; refine (HV.out _ E.out _ X.out H.out).mono ?_; rw [hy]; rintro e C ⟨i,rfl⟩; have A := ze (za E.out i); have d := ze (za k.out i); clear i
       go_simp
       refine hKK.out _ _ d.out fun hHeld => ?_
       clear hKK KK; refine kQ 6 7 (.pointer (some ⟨ρ.ty a,0,none⟩)) hHeld ?_; simp only [qA,qB,qC,qD]; refine kQ 7 8 (.pointer (some ⟨ρ.ty e,0,none⟩)) hHeld ?_; simp only [qA,qB,qC,qD]; refine wpAnyH_done (by kernel_rfl) ?_ _; clear hHeld; have N : Hid (Box C w.heap.size (.mk B vn m p [u,v]) (.slice (some ⟨g,o,none⟩) 2 D)) := Box.kept B1.out d.out; have F := ze (Box.kept O.out d.out); have a0 := ze (Box.kept U.out d.out); obtain ⟨I,J,K,L,M⟩ := N.out; go_wp2_with fail; go_at_call 208; refine (uw (HK.out.up A.out) HT.out ha hb).mono ?_; rw [hm]; rintro e w4 ⟨rfl,s⟩; have G4 := ze (za A.out s); have B4 : Hid (Box w4 w.heap.size (.mk B vn m p [u,v]) (.slice (some ⟨g,o,none⟩) 2 D)) := Box.kept N.out (za (zc C none) s); obtain ⟨a6,a7,a8,a9,b0⟩ := B4.out; go_wp2_with fail; go_at_call 53; refine (zu _ (.mk B vn m p [u,v]) (.slice (some ⟨g,o,none⟩) 2 D) 7).mono ?_; rintro e w5 h5; have HT := h5; obtain ⟨q,rfl⟩ := h5.thrown
       exact ⟨rfl,HT.err G4.out⟩
      ·have e1 : (x == [61]) = false := by subst j; rfl
       subst j; go_wp2_with fail; refine wp_region_held_drew (S := fun w9 => w1.grownBy w9 none) (by kernel_rfl) ?_ (fun hHeld => ?_)
       ·exact zh (zc w1 none)
       refine kQ 0 18 (.pointer (some ⟨b,0,none⟩)) hHeld ?_; simp only [qA,qB,qC,qD]; refine dk 1 (some 19) (zn u (.slice ua u.subs.length uc)) rfl rfl (fun w9 hS => by obtain ⟨Z,q1,q2,q3,q4⟩ := Box.kept O.out hS; go_simp) hHeld ?_; simp only [qA,qB,qC,qD]; refine kQ 3 21 (.pointer (some ⟨b,0,none⟩)) hHeld ?_; simp only [qA,qB,qC,qD]; refine dk 4 (some 22) (zn v (.slice va v.subs.length vc)) rfl rfl (fun w9 hS => by obtain ⟨Z,q1,q2,q3,q4⟩ := Box.kept U.out hS; go_simp) hHeld ?_; simp only [qA,qB,qC,qD]; refine rd 2 rfl fun KK hKK => ?_
       go_simp
       go_at_call 157; refine (HU.out _ (zh V.out) _ HF.out HA.out).mono ?_; rw [Y]; rintro e w2 ⟨f,rfl⟩; have E := ze (za (zh V.out) f); have k := ze (za (zh (zc w1 none)) f); clear f
       go_simp
       refine hKK.out _ _ k.out fun hHeld => ?_
       clear hKK KK; refine rd 5 rfl fun KK hKK => ?_
       go_simp
       go_at_call 157; refine (HV.out _ E.out _ X.out H.out).mono ?_; rw [hy]; rintro e C ⟨i,rfl⟩; have A := ze (za E.out i); have d := ze (za k.out i); clear i
       go_simp
       refine hKK.out _ _ d.out fun hHeld => ?_
       clear hKK KK; refine kQ 6 7 (.pointer (some ⟨ρ.ty a,0,none⟩)) hHeld ?_; simp only [qA,qB,qC,qD]; refine kQ 7 8 (.pointer (some ⟨ρ.ty e,0,none⟩)) hHeld ?_; simp only [qA,qB,qC,qD]; refine wpAnyH_done (by kernel_rfl) ?_ _; clear hHeld; have N : Hid (Box C w.heap.size (.mk B dA m p [u,v]) (.slice (some ⟨g,o,none⟩) 2 D)) := Box.kept B1.out d.out; have F := ze (Box.kept O.out d.out); have a0 := ze (Box.kept U.out d.out); obtain ⟨I,J,K,L,M⟩ := N.out; go_wp2_with fail; go_at_call 208; refine (uw (HK.out.up A.out) HT.out ha hb).mono ?_; rw [hm]; rintro e w4 ⟨rfl,s⟩; have G4 := ze (za A.out s); have B4 : Hid (Box w4 w.heap.size (.mk B dA m p [u,v]) (.slice (some ⟨g,o,none⟩) 2 D)) := Box.kept N.out (za (zc C none) s); obtain ⟨a6,a7,a8,a9,b0⟩ := B4.out; go_wp2_with fail; go_at_call 53; refine (zu _ (.mk B dA m p [u,v]) (.slice (some ⟨g,o,none⟩) 2 D) 7).mono ?_; rintro e w5 h5; have HT := h5; obtain ⟨q,rfl⟩ := h5.thrown
       exact ⟨rfl,HT.err G4.out⟩
     ·obtain rfl : R = .ok (yL x) := hR.symm.trans (by simp [KS.operatorC,hz,a2,a4,Y,hy,j,hm,Except.bind])
      rcases j with j | j
      ·subst j
       go_wp2_with fail; refine wp_region_held_drew (S := fun w9 => w1.grownBy w9 none) (by kernel_rfl) ?_ (fun hHeld => ?_)
       ·exact zh (zc w1 none)
       refine kQ 0 18 (.pointer (some ⟨b,0,none⟩)) hHeld ?_; simp only [qA,qB,qC,qD]; refine dk 1 (some 19) (zn u (.slice ua u.subs.length uc)) rfl rfl (fun w9 hS => by obtain ⟨Z,q1,q2,q3,q4⟩ := Box.kept O.out hS; go_simp) hHeld ?_; simp only [qA,qB,qC,qD]; refine kQ 3 21 (.pointer (some ⟨b,0,none⟩)) hHeld ?_; simp only [qA,qB,qC,qD]; refine dk 4 (some 22) (zn v (.slice va v.subs.length vc)) rfl rfl (fun w9 hS => by obtain ⟨Z,q1,q2,q3,q4⟩ := Box.kept U.out hS; go_simp) hHeld ?_; simp only [qA,qB,qC,qD]; refine rd 2 rfl fun KK hKK => ?_
       go_simp
       go_at_call 157; refine (HU.out _ (zh V.out) _ HF.out HA.out).mono ?_; rw [Y]; rintro e w2 ⟨f,rfl⟩; have E := ze (za (zh V.out) f); have k := ze (za (zh (zc w1 none)) f); clear f
       go_simp
       refine hKK.out _ _ k.out fun hHeld => ?_
       clear hKK KK; refine rd 5 rfl fun KK hKK => ?_
       go_simp
       go_at_call 157; refine (HV.out _ E.out _ X.out H.out).mono ?_; rw [hy]; rintro e C ⟨i,rfl⟩; have A := ze (za E.out i); have d := ze (za k.out i); clear i
       go_simp
       refine hKK.out _ _ d.out fun hHeld => ?_
       clear hKK KK; refine kQ 6 7 (.pointer (some ⟨ρ.ty a,0,none⟩)) hHeld ?_; simp only [qA,qB,qC,qD]; refine kQ 7 8 (.pointer (some ⟨ρ.ty e,0,none⟩)) hHeld ?_; simp only [qA,qB,qC,qD]; refine wpAnyH_done (by kernel_rfl) ?_ _; clear hHeld; have N : Hid (Box C w.heap.size (.mk B vn m p [u,v]) (.slice (some ⟨g,o,none⟩) 2 D)) := Box.kept B1.out d.out; have F := ze (Box.kept O.out d.out); have a0 := ze (Box.kept U.out d.out); obtain ⟨I,J,K,L,M⟩ := N.out; go_wp2_with fail; go_at_call 208; refine (uw (HK.out.up A.out) HT.out ha hb).mono ?_; rw [hm]; rintro e w4 ⟨rfl,s⟩; have G4 := ze (za A.out s); have B4 : Hid (Box w4 w.heap.size (.mk B vn m p [u,v]) (.slice (some ⟨g,o,none⟩) 2 D)) := Box.kept N.out (za (zc C none) s); obtain ⟨a6,a7,a8,a9,b0⟩ := B4.out; go_wp2_with fail; go_at_call 151; refine (xk (HK.out.up G4.out) vn).mono ?_; rintro e w5 ⟨rfl,b1⟩; rw [b1]; clear b1; go_wp2
       go_ret
       exact Cy.ok G4.out
      ·have e1 : (x == [61]) = false := by subst j; rfl
       subst j; go_wp2_with fail; refine wp_region_held_drew (S := fun w9 => w1.grownBy w9 none) (by kernel_rfl) ?_ (fun hHeld => ?_)
       ·exact zh (zc w1 none)
       refine kQ 0 18 (.pointer (some ⟨b,0,none⟩)) hHeld ?_; simp only [qA,qB,qC,qD]; refine dk 1 (some 19) (zn u (.slice ua u.subs.length uc)) rfl rfl (fun w9 hS => by obtain ⟨Z,q1,q2,q3,q4⟩ := Box.kept O.out hS; go_simp) hHeld ?_; simp only [qA,qB,qC,qD]; refine kQ 3 21 (.pointer (some ⟨b,0,none⟩)) hHeld ?_; simp only [qA,qB,qC,qD]; refine dk 4 (some 22) (zn v (.slice va v.subs.length vc)) rfl rfl (fun w9 hS => by obtain ⟨Z,q1,q2,q3,q4⟩ := Box.kept U.out hS; go_simp) hHeld ?_; simp only [qA,qB,qC,qD]; refine rd 2 rfl fun KK hKK => ?_
       go_simp
       go_at_call 157; refine (HU.out _ (zh V.out) _ HF.out HA.out).mono ?_; rw [Y]; rintro e w2 ⟨f,rfl⟩; have E := ze (za (zh V.out) f); have k := ze (za (zh (zc w1 none)) f); clear f
       go_simp
       refine hKK.out _ _ k.out fun hHeld => ?_
       clear hKK KK; refine rd 5 rfl fun KK hKK => ?_
       go_simp
       go_at_call 157; refine (HV.out _ E.out _ X.out H.out).mono ?_; rw [hy]; rintro e C ⟨i,rfl⟩; have A := ze (za E.out i); have d := ze (za k.out i); clear i
       go_simp
       refine hKK.out _ _ d.out fun hHeld => ?_
       clear hKK KK; refine kQ 6 7 (.pointer (some ⟨ρ.ty a,0,none⟩)) hHeld ?_; simp only [qA,qB,qC,qD]; refine kQ 7 8 (.pointer (some ⟨ρ.ty e,0,none⟩)) hHeld ?_; simp only [qA,qB,qC,qD]; refine wpAnyH_done (by kernel_rfl) ?_ _; clear hHeld; have N : Hid (Box C w.heap.size (.mk B dA m p [u,v]) (.slice (some ⟨g,o,none⟩) 2 D)) := Box.kept B1.out d.out; have F := ze (Box.kept O.out d.out); have a0 := ze (Box.kept U.out d.out); obtain ⟨I,J,K,L,M⟩ := N.out; go_wp2_with fail; go_at_call 208; refine (uw (HK.out.up A.out) HT.out ha hb).mono ?_; rw [hm]; rintro e w4 ⟨rfl,s⟩; have G4 := ze (za A.out s); have B4 : Hid (Box w4 w.heap.size (.mk B dA m p [u,v]) (.slice (some ⟨g,o,none⟩) 2 D)) := Box.kept N.out (za (zc C none) s); obtain ⟨a6,a7,a8,a9,b0⟩ := B4.out; go_wp2_with fail; go_at_call 151; refine (xk (HK.out.up G4.out) dA).mono ?_; rintro e w5 ⟨rfl,b1⟩; rw [b1]; clear b1; go_wp2
       go_ret
       exact Cy.ok G4.out
    ·have e1 : (x == [61]) = false := by simp only [not_or] at j; simpa [vn] using j.1
     have e2 : (x == [35]) = false := by simp only [not_or] at j; simpa [dA] using j.2
     cases hn : yE u a (yj x) with
     | error z =>
      obtain rfl : R = .error z := hR.symm.trans (by simp only [KS.operatorC,hz,a2,a4,Y,hy,if_neg j,hn,Except.bind]); clear j; go_wp2_with fail; refine wp_region_held_drew (S := fun w9 => w1.grownBy w9 none) (by kernel_rfl) ?_ (fun hHeld => ?_)
      ·exact zh (zc w1 none)
      refine kQ 0 18 (.pointer (some ⟨b,0,none⟩)) hHeld ?_; simp only [qA,qB,qC,qD]; refine dk 1 (some 19) (zn u (.slice ua u.subs.length uc)) rfl rfl (fun w9 hS => by obtain ⟨Z,q1,q2,q3,q4⟩ := Box.kept O.out hS; go_simp) hHeld ?_; simp only [qA,qB,qC,qD]; refine kQ 3 21 (.pointer (some ⟨b,0,none⟩)) hHeld ?_; simp only [qA,qB,qC,qD]; refine dk 4 (some 22) (zn v (.slice va v.subs.length vc)) rfl rfl (fun w9 hS => by obtain ⟨Z,q1,q2,q3,q4⟩ := Box.kept U.out hS; go_simp) hHeld ?_; simp only [qA,qB,qC,qD]; refine rd 2 rfl fun KK hKK => ?_
      go_simp
      go_at_call 157; refine (HU.out _ (zh V.out) _ HF.out HA.out).mono ?_; rw [Y]; rintro e w2 ⟨f,rfl⟩; have E := ze (za (zh V.out) f); have k := ze (za (zh (zc w1 none)) f); clear f
      go_simp
      refine hKK.out _ _ k.out fun hHeld => ?_
      clear hKK KK; refine rd 5 rfl fun KK hKK => ?_
      go_simp
      go_at_call 157; refine (HV.out _ E.out _ X.out H.out).mono ?_; rw [hy]; rintro e C ⟨i,rfl⟩; have A := ze (za E.out i); have d := ze (za k.out i); clear i
      go_simp
      refine hKK.out _ _ d.out fun hHeld => ?_
      clear hKK KK; refine kQ 6 7 (.pointer (some ⟨ρ.ty a,0,none⟩)) hHeld ?_; simp only [qA,qB,qC,qD]; refine kQ 7 8 (.pointer (some ⟨ρ.ty e,0,none⟩)) hHeld ?_; simp only [qA,qB,qC,qD]; refine wpAnyH_done (by kernel_rfl) ?_ _; clear hHeld; have N : Hid (Box C w.heap.size (.mk B x m p [u,v]) (.slice (some ⟨g,o,none⟩) 2 D)) := Box.kept B1.out d.out; have F := ze (Box.kept O.out d.out); have a0 := ze (Box.kept U.out d.out); obtain ⟨I,J,K,L,M⟩ := N.out; go_wp2_with fail; go_at_call 150; refine (xC (HK.out.up A.out) x).mono ?_; rintro e w4 ⟨rfl,a1⟩; rw [a1]; clear a1; obtain ⟨b4,b5,b6,b7,b8⟩ := F.out; go_wp2_with fail; go_at_call 115; refine (zL (HK.out.up A.out).km u _ (HA.out.kept A.out) ha a5).mono ?_; rw [hn]; rintro e w4 h4; have HT := h4; obtain ⟨q,rfl⟩ := h4.thrown
      exact ⟨rfl,HT.err A.out⟩
     | ok _ =>
      cases b3 : yE v e (yj x) with
      | error z =>
       obtain rfl : R = .error z := hR.symm.trans (by simp only [KS.operatorC,hz,a2,a4,Y,hy,if_neg j,hn,b3,Except.bind]); clear j; go_wp2_with fail; refine wp_region_held_drew (S := fun w9 => w1.grownBy w9 none) (by kernel_rfl) ?_ (fun hHeld => ?_)
       ·exact zh (zc w1 none)
       refine kQ 0 18 (.pointer (some ⟨b,0,none⟩)) hHeld ?_; simp only [qA,qB,qC,qD]; refine dk 1 (some 19) (zn u (.slice ua u.subs.length uc)) rfl rfl (fun w9 hS => by obtain ⟨Z,q1,q2,q3,q4⟩ := Box.kept O.out hS; go_simp) hHeld ?_; simp only [qA,qB,qC,qD]; refine kQ 3 21 (.pointer (some ⟨b,0,none⟩)) hHeld ?_; simp only [qA,qB,qC,qD]; refine dk 4 (some 22) (zn v (.slice va v.subs.length vc)) rfl rfl (fun w9 hS => by obtain ⟨Z,q1,q2,q3,q4⟩ := Box.kept U.out hS; go_simp) hHeld ?_; simp only [qA,qB,qC,qD]; refine rd 2 rfl fun KK hKK => ?_
       go_simp
       go_at_call 157; refine (HU.out _ (zh V.out) _ HF.out HA.out).mono ?_; rw [Y]; rintro e w2 ⟨f,rfl⟩; have E := ze (za (zh V.out) f); have k := ze (za (zh (zc w1 none)) f); clear f
       go_simp
       refine hKK.out _ _ k.out fun hHeld => ?_
       clear hKK KK; refine rd 5 rfl fun KK hKK => ?_
       go_simp
       go_at_call 157; refine (HV.out _ E.out _ X.out H.out).mono ?_; rw [hy]; rintro e C ⟨i,rfl⟩; have A := ze (za E.out i); have d := ze (za k.out i); clear i
       go_simp
       refine hKK.out _ _ d.out fun hHeld => ?_
       clear hKK KK; refine kQ 6 7 (.pointer (some ⟨ρ.ty a,0,none⟩)) hHeld ?_; simp only [qA,qB,qC,qD]; refine kQ 7 8 (.pointer (some ⟨ρ.ty e,0,none⟩)) hHeld ?_; simp only [qA,qB,qC,qD]; refine wpAnyH_done (by kernel_rfl) ?_ _; clear hHeld; have N : Hid (Box C w.heap.size (.mk B x m p [u,v]) (.slice (some ⟨g,o,none⟩) 2 D)) := Box.kept B1.out d.out; have F := ze (Box.kept O.out d.out); have a0 := ze (Box.kept U.out d.out); obtain ⟨I,J,K,L,M⟩ := N.out; go_wp2_with fail; go_at_call 150; refine (xC (HK.out.up A.out) x).mono ?_; rintro e w4 ⟨rfl,a1⟩; rw [a1]; clear a1; obtain ⟨b4,b5,b6,b7,b8⟩ := F.out; go_wp2_with fail; go_at_call 115; refine (zL (HK.out.up A.out).km u _ (HA.out.kept A.out) ha a5).mono ?_; rw [hn]; rintro e w4 ⟨s,rfl⟩; have G4 := ze (za A.out s); have B4 : Hid (Box w4 w.heap.size (.mk B x m p [u,v]) (.slice (some ⟨g,o,none⟩) 2 D)) := Box.kept N.out (za (zc C none) s); have d5 := ze (Box.kept F.out (za (zc C none) s)); have b9 := ze (Box.kept a0.out (za (zc C none) s)); obtain ⟨c5,c6,c7,c8,c9⟩ := b9.out; go_wp2_with fail; go_at_call 115; refine (zL (HK.out.up G4.out).km v _ (H.out.kept G4.out) hb a5).mono ?_; rw [b3]; rintro e w5 h5; have HT := h5; obtain ⟨q,rfl⟩ := h5.thrown
       exact ⟨rfl,HT.err G4.out⟩
      | ok _ =>
       obtain rfl : R = .ok (yL x) := hR.symm.trans (by simp only [KS.operatorC,hz,a2,a4,Y,hy,if_neg j,hn,b3,Except.bind]); clear j; go_wp2_with fail; refine wp_region_held_drew (S := fun w9 => w1.grownBy w9 none) (by kernel_rfl) ?_ (fun hHeld => ?_)
       ·exact zh (zc w1 none)
       refine kQ 0 18 (.pointer (some ⟨b,0,none⟩)) hHeld ?_; simp only [qA,qB,qC,qD]; refine dk 1 (some 19) (zn u (.slice ua u.subs.length uc)) rfl rfl (fun w9 hS => by obtain ⟨Z,q1,q2,q3,q4⟩ := Box.kept O.out hS; go_simp) hHeld ?_; simp only [qA,qB,qC,qD]; refine kQ 3 21 (.pointer (some ⟨b,0,none⟩)) hHeld ?_; simp only [qA,qB,qC,qD]; refine dk 4 (some 22) (zn v (.slice va v.subs.length vc)) rfl rfl (fun w9 hS => by obtain ⟨Z,q1,q2,q3,q4⟩ := Box.kept U.out hS; go_simp) hHeld ?_; simp only [qA,qB,qC,qD]; refine rd 2 rfl fun KK hKK => ?_
       go_simp
       go_at_call 157; refine (HU.out _ (zh V.out) _ HF.out HA.out).mono ?_; rw [Y]; rintro e w2 ⟨f,rfl⟩; have E := ze (za (zh V.out) f); have k := ze (za (zh (zc w1 none)) f); clear f
       go_simp
       refine hKK.out _ _ k.out fun hHeld => ?_
       clear hKK KK; refine rd 5 rfl fun KK hKK => ?_
       go_simp
       go_at_call 157; refine (HV.out _ E.out _ X.out H.out).mono ?_; rw [hy]; rintro e C ⟨i,rfl⟩; have A := ze (za E.out i); have d := ze (za k.out i); clear i
       go_simp
       refine hKK.out _ _ d.out fun hHeld => ?_
       clear hKK KK; refine kQ 6 7 (.pointer (some ⟨ρ.ty a,0,none⟩)) hHeld ?_; simp only [qA,qB,qC,qD]; refine kQ 7 8 (.pointer (some ⟨ρ.ty e,0,none⟩)) hHeld ?_; simp only [qA,qB,qC,qD]; refine wpAnyH_done (by kernel_rfl) ?_ _; clear hHeld; have N : Hid (Box C w.heap.size (.mk B x m p [u,v]) (.slice (some ⟨g,o,none⟩) 2 D)) := Box.kept B1.out d.out; have F := ze (Box.kept O.out d.out); have a0 := ze (Box.kept U.out d.out); obtain ⟨I,J,K,L,M⟩ := N.out; go_wp2_with fail; go_at_call 150; refine (xC (HK.out.up A.out) x).mono ?_; rintro e w4 ⟨rfl,a1⟩; rw [a1]; clear a1; obtain ⟨b4,b5,b6,b7,b8⟩ := F.out; go_wp2_with fail; go_at_call 115; refine (zL (HK.out.up A.out).km u _ (HA.out.kept A.out) ha a5).mono ?_; rw [hn]; rintro e w4 ⟨s,rfl⟩; have G4 := ze (za A.out s); have B4 : Hid (Box w4 w.heap.size (.mk B x m p [u,v]) (.slice (some ⟨g,o,none⟩) 2 D)) := Box.kept N.out (za (zc C none) s); have d5 := ze (Box.kept F.out (za (zc C none) s)); have b9 := ze (Box.kept a0.out (za (zc C none) s)); obtain ⟨c5,c6,c7,c8,c9⟩ := b9.out; go_wp2_with fail; go_at_call 115; refine (zL (HK.out.up G4.out).km v _ (H.out.kept G4.out) hb a5).mono ?_; rw [b3]; rintro e w5 ⟨d0,rfl⟩; have G5 := ze (za G4.out d0); have B5 : Hid (Box w5 w.heap.size (.mk B x m p [u,v]) (.slice (some ⟨g,o,none⟩) 2 D)) := Box.kept B4.out (za (zc w4 none) d0); obtain ⟨_,_,_,_,_⟩ := B5.out; go_wp2_with fail; go_at_call 151; refine (xk (HK.out.up G5.out) x).mono ?_; rintro e w6 ⟨rfl,d1⟩; rw [d1]; clear d1; go_wp2
       go_ret
       exact Cy.ok G5.out
end
end Go.Proofs.YtnmkffjklpfflaaGreatDoor
