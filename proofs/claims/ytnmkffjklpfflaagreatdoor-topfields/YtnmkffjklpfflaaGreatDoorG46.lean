/- Declarations: procedures,both ways. -/
import Derived.Test.YtnmkffjklpfflaaGreatDoorG25
import Derived.Test.YtnmkffjklpfflaaGreatDoorG45
import Derived.Test.YtnmkffjklpfflaaGreatDoorG26
namespace Go.Proofs.YtnmkffjklpfflaaGreatDoor
open Go.RowKit
set_option maxHeartbeats 4000000
set_option maxRecDepth 100000
section
variable {ρ : Lay} {w w' w1 : World} {S : KS} {b : Nat} {c : KSc}
theorem sl {m : Nat} {rv : Value} (h : CB ρ w S b ⟨m,none⟩ rv) (hk : S.okB = true) {l : List T} {sv : Value} (ha : AF ρ.tr w l sv) (hsh : ∀ n ∈ l,PW n) (hfu : FuP S) (hnm : (S.md m).names.length + l.length <= 100000) (hdl : (S.md m).decl.length + l.length <= 100000) :
  Calls Tryz.prog 58 #[pq b,sv] w (fun e w' => Ends ρ w ((zX (KS.headC m) l S).bind fun S7 => xK m S.prs.length l S7) (fun S8 => e = .returned (.tuple #[]) /\ ∃ ρ',Stp False ρ w S ρ' w' S8 /\ CB ρ' w' S8 b ⟨m,none⟩ (.pointer none)) e w') := by
 have HK := zc h; have HB := zc hk; have HL := zc ha; have m6 := zc hfu; have h4 := zc hsh; obtain ⟨_,_,rfl,_,m7⟩ := ha.at.form
 unfold maxLen at m7
 obtain ⟨s,f5⟩ : ∃ z,z = S.prs.length := ⟨_,rfl⟩; rw [<- f5]; obtain ⟨R7,f6⟩ : ∃ z,z = zX (KS.headC m) l S := ⟨_,rfl⟩; rw [<- f6]
 obtain ⟨R,hR⟩ : ∃ z,z = R7.bind fun S7 => xK m s l S7 := ⟨_,rfl⟩
 rw [<- hR]; have HR := zc hR; have m8 := zc f6; have m9 := zc f5; clear h hk ha hsh f5 hfu f6 hR
 go_enter Tryz.func58,Tryz.ntmps58
 go_wp2_with fail
 go_loopw [12,4] (fun iv hw4 wr => ∃ (j : Nat) (ρr : Lay) (r : KS) (ci : Option Nat) (hv : Value),j <= l.length /\ iv = .int .i64 ↑j /\ hw4 = hv /\ Hid (zX (KS.headC m) (l.drop j) r = R7) /\ Hid (FuP r) /\ Hid (((r.md m).names.length + (l.length - j) <= 100000 /\ (r.md m).decl.length + (l.length - j) <= 100000) /\ ∀ i v,i < j -> l[i]? = some v -> PrOk m v (r.pr (s + i))) /\ Hid (Stp False ρ w S ρr wr r) /\ Hid (CB ρr wr r b ⟨m,ci⟩ rv) /\ Hid (wr.ownsRow 0 88 1 hv j ((List.range j).map fun i => pq (ρr.pr (s + i)))) /\ Hid (∀ g,hv.ownBlock = some g -> ρr.col g = none /\ w.heap.size <= g) /\ Hid (r.prs.length = s + j)) (fun iv _ _ => l.length - (intOf iv).toNat)
 case atStart => exact ⟨0,ρ,S,none,_,Nat.zero_le _,rfl,rfl,m8.out.symm,m6.out,⟨⟨hnm,hdl⟩,fun _ _ d => absurd d (Nat.not_lt_zero _)⟩,Stp.refl HK.out.ck.km HB.out,HK.out,World.ownsRow_nil _ _ _ _,nofun,m9.out.symm⟩
 case round =>
  obtain ⟨j,ρr,r,ci,hv,hj,rfl,e4,HE,a3,L,x,k,b9,RC,a4⟩ := hrel
  replace e4 := e4.symm
  subst e4
  by_cases a5 : j < l.length
  ·obtain ⟨v,A⟩ : ∃ v,l[j]? = some v := ⟨_,List.getElem?_eq_getElem a5⟩
   have f7 : Hid (∀ q,KS.headC m r v = some q -> zX (KS.headC m) (l.drop (j + 1)) q = R7) := fun q d => fJ A HE.out d
   have a6 : Hid (KS.headC m r v = none -> R7 = none) := fun d => HE.out.symm.trans (gP A d)
   have n0 := zc A; obtain ⟨g,o,sw,e1,n1,Y,fv,av⟩ := (HL.out.step x.out).node A; subst e1; have M := zc (h4.out v (List.mem_of_getElem? A)); have h5 := M.out.four; have FV := zc fv; have AV := zc av; obtain ⟨va,vc,rfl,j0,j1⟩ := av.at.form; have d0 := Y.c0; have d1 := Y.c1; have d2 := Y.c2; have d3 := Y.c3; have d4 := Y.c4; have n3 : g < wr.heap.size := zw d0; clear Y fv av A; go_wp2_with fail; obtain ⟨D,E⟩ : ∃ z,z = wr.alloc (.cells #[.int .i64 v.kind,.string ⟨v.name.toArray⟩,.int .i64 v.num,.int .i64 v.at',.slice va v.subs.length vc] 100) := ⟨_,rfl⟩; rw [<- E]
   have Q : Hid (wr.grownBy D none) := by rw [E]; exact zh grn _
   have j2 : Hid (Box D wr.heap.size v (.slice va v.subs.length vc)) := by rw [E]; exact Box.new wr v _ _
   have n4 : wr.heap.size < D.heap.size := by rw [E]; simp
   clear E d0 d1 d2 d3 d4; have f8 := zc ((aD (k.out.up Q.out) v (.slice va v.subs.length vc) FV.out x.out.ok (AV.out.kept Q.out (fun _ e => by cases e)) h5 M.out.ps (by have := M.out.len; omega) (by have := L.out.1.1; omega) (by have := L.out.1.2; omega)).mono (fun _ _ d => d.or)); go_at_call 75; refine f8.out.mono ?_; rintro e O (⟨U,h6⟩ | ⟨t,U,ρ3,j3,j4,rfl⟩)
   ·replace h6 := (h6.ahead Q.out).step x.out
    obtain ⟨q,rfl⟩ := h6.thrown
    exact ⟨rfl,Ends.no (by rw [HR.out,a6.out U]; rfl) h6⟩
   obtain ⟨gr,po,gl,gn,gd⟩ := pe (m := m) k.out.ck.hc x.out.ok U; have f9 := zc (gr.full x.out.ok a3.out); have g0 := zc (f7.out t U)
   have j5 : Hid (((t.md m).names.length + (l.length - (j + 1)) <= 100000 /\ (t.md m).decl.length + (l.length - (j + 1)) <= 100000) /\ ∀ i v,i < j + 1 -> l[i]? = some v -> PrOk m v (t.pr (s + i))) := by
    have d := L.out; refine ⟨⟨by omega,by omega⟩,fun i y hi hy => ?_⟩; have a7 : r.prs.length = s + j := a4.out
    by_cases he : i = j
    ·subst he
     rw [show l[i]? = some v from n0.out] at hy; cases hy; rw [<- a7]
     exact po
    ·rw [gr.pr (s + i) (by omega)]
     exact d.2 i y (by omega) hy
   have n6 : Hid (t.prs.length = s + (j + 1)) := by show _ = _; rw [gl,show r.prs.length = s + j from a4.out]; rfl
   clear U gr po gl gn gd; have F : Hid (Stp False ρr wr r ρ3 O t) := j3.ahead Q.out; have G := zc j4; have a7 : r.prs.length = s + j := a4.out; rw [a7]
   have R3 : Hid (O.ownsRow 0 88 1 hv j ((List.range j).map fun i => pq (ρ3.pr (s + i)))) := by
    have d := zR b9.out F.out.sm (fun g K => .inl (RC.out g K).1); rw [List.map_congr_left (g := fun i => pq (ρr.pr (s + i))) (fun i hi => by rw [F.out.agr.pr (s + i) (by rw [a7]; have := List.mem_range.1 hi; omega)])]
    exact d
   have R4 := zc (zR R3.out (Sm.of_none (zh grn (.cells #[pq (ρ3.pr (s + j))] 88)) (fun _ => True)) (fun _ _ => trivial)); have C4 : Hid ((O.alloc (.cells #[pq (ρ3.pr (s + j))] 88)).cell? ⟨O.heap.size,0,none⟩ = some (pq (ρ3.pr (s + j)))) := Bk.c (vs := [pq (ρ3.pr (s + j))]) (Bk.new O _ _ rfl) 0 _ rfl; clear j3 j4 a7
   go_wp2_with (at_builtin; refine sx 149 88 Tryz.underlying149 Tryz.infoProcP rfl _ _ rfl rfl rfl R4.out C4.out (by omega) ?_; intro v4 w4 d9 j6 f0)
   have O4 := zc d9; have G4 := zc j6; have A4 := zc f0; clear d9 j6 f0
   go_roundw
   case rel =>
    have j7 : ∀ g,hv.ownBlock = some g -> ρ3.col g = none := fun g K => (F.out.col g (qn b9.out K)).trans (RC.out g K).1
    have S4 : Sm O w4 (fun g => some g ≠ hv.ownBlock) := (Sm.of_none gan _).gbn G4.out (fun g K d => d K.symm)
    have j8 : ∀ g lb,ρ3.col g = some lb -> some g ≠ hv.ownBlock := fun g lb K e => by rw [j7 g e.symm] at K; cases K
    have K4 : KM ρ3 w4 t := G.out.ck.km.sm (KS.okIn F.out.ok) S4 j8; have g1 : CB ρ3 w4 t b ⟨m,some r.prs.length⟩ rv := CB.of F.out.ok K4 (G.out.bk.sm S4 (j8 _ _ G.out.col)) G.out.col G.out.ck.hc G.out.ck.hi
    have Z : Stp False ρ w S ρ3 w4 t := by
     have d := x.out.trans F.out; refine ⟨K4,d.ok,d.agr,d.col,?_,d.tys,d.ths,d.prs,d.mds⟩
     exact d.sm.comp S4 (fun g K _ e => by have := (RC.out g e.symm).2; omega)
    refine ⟨j + 1,ρ3,t,_,v4,by omega,by go_num,rfl,g0,f9,j5,Z,g1,?_,?_,n6⟩
    ·rw [List.range_succ,List.map_append]
     exact O4.out
    ·intro g K
     rcases A4.out with d | d
     ·exact ⟨j7 g (d ▸ K),(RC.out g (d ▸ K)).2⟩
     ·rw [d] at K
      cases K; refine ⟨G.out.ck.km.fr _ (by simp),?_⟩; have h8 := x.out.sm.size; have h7 := F.out.sm.size
      simp
      omega
   case measure => first | omega | (simp only [intOf]; omega) | (simp; omega)
  ·have hE : R7 = some r := by rw [<- HE.out,List.drop_eq_nil_of_le (by omega)]; rfl
   obtain ⟨S7,n7⟩ : ∃ z,z = r := ⟨_,rfl⟩; subst n7
   have n8 : Hid (R = xK m s l S7) := by show _ = _; rw [HR.out,hE]; rfl
   have j9 := a3; have k0 := L
   obtain rfl : j = l.length := by omega
   obtain ⟨w7,n9⟩ : ∃ z,z = wr := ⟨_,rfl⟩; obtain ⟨ρ7,o0⟩ : ∃ z,z = ρr := ⟨_,rfl⟩; subst n9 o0; obtain ⟨o1,_,rfl,_,o3,k1⟩ := jt b9.out
   have RD : Hid (∀ i,i < l.length -> ∃ g,o1 = some ⟨g,0,none⟩ /\ ρ7.col g = none /\ w7.cell? ⟨g,i,none⟩ = some (pq (ρ7.pr (s + i)))) := fun i hi => by
    obtain ⟨g,e,d⟩ := k1 i (pq (ρ7.pr (s + i))) (by simp [hi]); subst e
    exact ⟨g,rfl,(RC.out g rfl).1,d⟩
   have k2 := a4; have a8 := x; have k3 := k
   unfold maxLen at o3
   clear x HE k b9 RC a4 k1 a5 hj a3 L hE; go_wp2_with fail
   go_loopw [25] (fun iv wr => ∃ (j : Nat) (ρr : Lay) (r : KS) (ci : Option Nat) (rv : Value),j <= l.length /\ iv = .int .i64 ↑j /\ Hid (xK m (s + j) (l.drop j) r = R) /\ Hid (FuP r) /\ Hid (∀ i v,j <= i -> l[i]? = some v -> PrOk m v (r.pr (s + i))) /\ Hid (Stp False ρ7 w7 S7 ρr wr r) /\ Hid (CB ρr wr r b ⟨m,ci⟩ rv)) (fun iv _ => l.length - (intOf iv).toNat)
   case atStart => exact ⟨0,ρ7,S7,_,_,Nat.zero_le _,rfl,n8.out.symm,j9.out,fun i v _ hv => k0.out.2 i v (List.getElem?_eq_some_iff.1 hv).1 hv,Stp.refl k3.out.ck.km a8.out.ok,k3.out⟩
   case round =>
    obtain ⟨j,ρr,r,o4,o5,hj,rfl,HE,a3,L,x,k⟩ := hrel
    by_cases a5 : j < l.length
    ·obtain ⟨v,A⟩ : ∃ v,l[j]? = some v := ⟨_,List.getElem?_eq_getElem a5⟩
     have PO := L.out j v (Nat.le_refl _) A; have g3 := PO.home; have k4 := zc PO.nd; have c5 := zc (iy (n := v) PO.nd PO.home)
     have f7 : Hid (∀ q,KS.procC m (s + j) r v = some q -> xK m (s + (j + 1)) (l.drop (j + 1)) q = R) := fun q d => rW A HE.out d
     have a6 : Hid (KS.procC m (s + j) r v = none -> R = none) := fun d => HE.out.symm.trans (pj A d)
     have k5 := zc PO.acts; have k6 := zc PO.inner; clear PO; obtain ⟨g,o,sw,e1,n1,Y,fv,av⟩ := (HL.out.step (a8.out.trans x.out)).node A; subst e1; have M := zc (h4.out v (List.mem_of_getElem? A)); have h5 := M.out.four; have FV := zc fv; have AV := zc av; obtain ⟨va,vc,rfl,j0,j1⟩ := av.at.form; have d0 := Y.c0; have d1 := Y.c1; have d2 := Y.c2; have d3 := Y.c3; have d4 := Y.c4; have n3 : g < wr.heap.size := zw d0; clear Y fv av A; obtain ⟨u2,c6⟩ : ∃ u,v.subs[2]? = some u := ⟨_,List.getElem?_eq_getElem (by omega)⟩; rw [xr c6] at c5; have c7 := M.out.vs; have o6 := M.out.len; rw [xr c6] at c7 o6
     replace c7 := zc c7
     obtain ⟨g2,o2,e2,o7,a9⟩ := AV.out.nodes (by omega); subst e2; obtain ⟨s2,n2,-,a2⟩ := a9 2 u2 c6; obtain ⟨g4,c2,rfl,-,-⟩ := a2.at.form; have N2 := zc n2; have A2 := zc a2
     have q7 : ¬ ((v.subs.length : Int) <= 2) := by omega
     obtain ⟨k7,e7,k8,k9⟩ := RD.out j a5; subst e7
     have b0 : s + j < S7.prs.length := by have d : S7.prs.length = s + l.length := k2.out; omega
     have B : s + j < r.prs.length := Nat.lt_of_lt_of_le b0 x.out.prs; obtain ⟨f,b1⟩ : ∃ z,z = s + j := ⟨_,rfl⟩; have I : wr.cell? ⟨k7,j,none⟩ = some (pq (ρ7.pr (s + j))) := x.out.sm.cell k9 (.inl k8); have q6 : k7 < wr.heap.size := zw I; obtain ⟨J,g5⟩ : ∃ z,z = ρ7.pr (s + j) := ⟨_,rfl⟩; have c8 : ρr.pr (s + j) = J := (x.out.agr.pr _ b0).trans g5.symm; rw [<- g5] at I; rw [<- b1] at B c8 g3 k4 c5 a6 k5 k6; have f1 := zc b1; clear n2 a2 a9 c6 b0 g5 k9 b1; go_wp2_with fail; obtain ⟨D,E⟩ : ∃ z,z = wr.alloc (.cells #[.int .i64 v.kind,.string ⟨v.name.toArray⟩,.int .i64 v.num,.int .i64 v.at',.slice (some ⟨g2,o2,none⟩) v.subs.length vc] 100) := ⟨_,rfl⟩; rw [<- E]
     have Q : Hid (wr.grownBy D none) := by rw [E]; exact zh grn _
     have j2 : Hid (Box D wr.heap.size v (.slice (some ⟨g2,o2,none⟩) v.subs.length vc)) := by rw [E]; exact Box.new wr v _ _
     have n4 : wr.heap.size < D.heap.size := by rw [E]; simp
     clear E d0 d1 d2 d3 d4 I; have C : Hid (CB ρr D r b ⟨m,o4⟩ o5) := k.out.up Q.out; obtain ⟨q8,q9,a0,-,-⟩ := (C.out.ck.km.pr f B).bk; rw [c8] at a0; have p0 : Hid (D.cell? ⟨J,0,none⟩ = some (pq ρr.wd)) := a0.c 0 _ rfl
     have p1 : Hid (D.cell? ⟨J,1,none⟩ = some (pq (ρr.md m))) := by rw [<- g3]; exact a0.c 1 _ rfl
     have p2 : Hid (D.cell? ⟨J,2,none⟩ = some (.map (some (ρr.inn f)))) := a0.c 2 _ rfl; obtain ⟨rp,g6⟩ : ∃ z,Value.pointer z = ρr.tyP (r.pr f).result := ⟨_,rfl⟩
     have p6 : Hid (D.cell? ⟨J,6,none⟩ = some (.pointer rp)) := by rw [g6]; exact a0.c 6 _ rfl
     have o8 := zc g6
     have g7 : ρr.col J = some (.pr f) := by have d := (C.out.ck.km.pr f B).col; rwa [c8] at d
     have c9 : J ≠ b := fun e => by rw [e,C.out.col] at g7; cases g7
     have o9 : ρr.col wr.heap.size = none := k.out.ck.km.fr _ (Nat.le_refl _); clear a0 g3 g6; have G2 : Hid (D.grownBy D none) := zj D none
     skip
     refine wp_region_held_drew (S := fun w9 => Sm D w9 (fun g => g ≠ b)) (by kernel_rfl) ?_ (fun hHeld => ?_)
     ·exact (Sm.refl D _).drew
     refine kQ 0 34 (pq b) hHeld ?_; refine kQ 1 35 (pq b) hHeld ?_; refine kQ 2 36 (pq J) hHeld ?_; refine kQ 3 37 (pq J) hHeld ?_; refine kQ 4 38 (pq J) hHeld ?_; refine kQ 5 39 (pq J) hHeld ?_; refine dk 6 (some 40) (.agg #[pq ρr.wd,pq (ρr.md m),.map (some (ρr.inn f))]) rfl rfl (fun w9 hS => by have q0 := hS.cell p0.out c9; have q1 := hS.cell p1.out c9; have q2 := hS.cell p2.out c9; go_simp) hHeld ?_; refine kQ 7 41 (pq J) hHeld ?_; refine kQ 8 42 (pq J) hHeld ?_; refine kQ 9 43 (.pointer (some ⟨J,6,none⟩)) hHeld ?_; refine dk 10 (some 44) (.pointer rp) rfl rfl (fun w9 hS => by have q1 := hS.cell p6.out c9; go_simp) hHeld ?_; refine kQ 11 45 (pq b) hHeld ?_; refine kQ 12 46 (pq b) hHeld ?_; simp only [qA,qB,qC,qD]; have q0 := C.out.bk.c 0 _ rfl; have q1 := C.out.bk.c 1 _ rfl; have q2 := C.out.bk.c 2 _ rfl; have qz := C.out.bk.z; refine rd 13 rfl fun KK hKK => ?_
     go_simp
     refine hKK.out _ _ (((((Sm.refl D _).put (fun d => d rfl) _ _).put (fun d => d rfl) _ _).put (fun d => d rfl) _ _).drew) fun hHeld => ?_
     clear hKK KK q0 q1 q2; refine kQ 14 47 (pq b) hHeld ?_; refine kQ 15 48 (.pointer (some ⟨b,3,none⟩)) hHeld ?_; simp only [qA,qB,qC,qD]; have q3 := C.out.bk.c 3 _ rfl; refine rd 16 rfl fun KK hKK => ?_
     go_simp
     refine hKK.out _ _ ((((((Sm.refl D _).put (fun d => d rfl) _ _).put (fun d => d rfl) _ _).put (fun d => d rfl) _ _).put (fun d => d rfl) _ _).drew) fun hHeld => ?_
     clear hKK KK; clear q3 qz; refine wpAnyH_done (by kernel_rfl) ?_ _; clear hHeld; obtain ⟨O,d5⟩ : ∃ z,z = ((((D.setCell ⟨b,0,none⟩ (pq ρr.wd)).setCell ⟨b,1,none⟩ (pq (ρr.md m))).setCell ⟨b,2,none⟩ (.map (some (ρr.inn f)))).setCell ⟨b,3,none⟩ (.pointer rp)).drew := ⟨_,rfl⟩; rw [<- d5]
     have S3 : Hid (Sm D O (fun g => g ≠ b)) := by rw [d5]; exact (((((Sm.refl D _).put (fun d => d rfl) _ _).put (fun d => d rfl) _ _).put (fun d => d rfl) _ _).put (fun d => d rfl) _ _).drew
     have p3 : Hid (Bk O b [pq ρr.wd,pq (ρr.md m),.map (some (ρr.inn f)),.pointer rp]) := by rw [d5]; exact ((((C.out.bk.set 0 _).set 1 _).set 2 _).set 3 _).drew
     clear d5; have F : Hid (Stp False ρr D r ρr O r) := Stp.own C.out.ck.km x.out.ok C.out.col S3.out; have G : Hid (CB ρr O r b ⟨m,some f⟩ (.pointer rp)) := CB.of x.out.ok F.out.km p3.out C.out.col C.out.ck.hc (fun p hp => by cases hp; exact B); have b2 : Hid (Stp False ρr wr r ρr O r) := F.out.ahead Q.out; have B3 := zc (Box.step j2.out o9 F.out); have x4 := B3.out.c4; have l0 : ρr.tr g2 := o7; have N3 : Hid (Node5 O g2 (o2 + 10) u2 (.slice g4 u2.subs.length c2)) := N2.out.step l0 b2.out; have m4 : O.cell? ⟨g2,o2 + 14,none⟩ = some (.slice g4 u2.subs.length c2) := N3.out.c4; have A3 : Hid (AF ρr.tr O u2.subs (.slice g4 u2.subs.length c2)) := A2.out.step b2.out; have l1 := zc ((qw G.out.ck x.out.ok G.out.col A3.out k4.out c7.out (by have := k6.out; omega)).mono (fun _ _ d => d.or)); go_wp2_with fail; go_at_call 76; refine l1.out.mono ?_; rintro e w4 (⟨U,h6⟩ | ⟨q,b3,rfl,ρ4,H⟩)
     ·replace h6 := ((h6.step b2.out).step x.out).step a8.out
      obtain ⟨q,rfl⟩ := h6.thrown
      exact ⟨rfl,Ends.no (a6.out (by rw [c5.out,U]; rfl)) h6⟩
     have N := lT H.ok (Nat.lt_of_lt_of_le B H.prs) q.2; obtain ⟨t,b4⟩ : ∃ z,z = q.1.setPr f { q.1.pr f with words := q.2 } := ⟨_,rfl⟩
     have f2 : Hid (KS.procC m f r v = t.actsO ⟨m,some f⟩ (t.pr f).result (t.pr f).acts) := by
      show _ = _
      rw [c5.out,b3,Option.bind_some,show xC _ = some _ from if_pos N,Option.bind_some,<- b4]
     have d6 := (fP (m := m) _ _ _ _ B x.out.ok b3).trans (sr (P := { q.1.pr f with words := q.2 }) (Nat.lt_of_lt_of_le B H.prs) rfl N); rw [<- b4] at N d6; have b5 := (d6.full x.out.ok a3.out); have I := oe _ _ _ _ B b3
     have V : Hid (vR (t.pr f).acts = true) := by
      show _ = _
      rw [b4,show (q.1.setPr f _).pr f = _ from zY _ _ _ (Nat.lt_of_lt_of_le B H.prs)]
      show vR (q.1.pr f).acts = true
      rw [I.1,show (r.pr f).acts = _ from k5.out]
      exact M.out.acts
     have l2 : Hid (∀ i v,j + 1 <= i -> l[i]? = some v -> PrOk m v (t.pr (s + i))) := fun i y hi hy => by
      rw [d6.pr (s + i) (by have d : f = s + j := f1.out; omega)]
      exact L.out i y (by omega) hy
     have f9 := zc b5; have b6 := zc b5.full; have p4 := zc b3; have g8 := zc b4; have f3 := zc N; clear b3 b4 N b5 d6 I; have g9 := zc H; have g1 : Hid (CB ρ4 w4 q.1 b ⟨m,some f⟩ (.pointer rp)) := G.out.step H; have X : f < q.1.prs.length := Nat.lt_of_lt_of_le B H.prs; have b7 : ρ4.pr f = J := (H.agr.pr f B).trans c8; obtain ⟨p7,l3,a1,h0,l4,l5⟩ := (H.km.pr f X).bk; rw [b7] at a1; have p8 := zc a1; have l6 := zc h0; have p9 := zc l4; have l7 := zc l5; have e4 := a1.c 4 _ rfl; have e3 : w4.cell? ⟨J,3,none⟩ = some p7 := a1.c 3 _ rfl; have ez := a1.z; have l8 : ρ4.col J = some (.pr f) := H.agr.col _ _ g7; obtain ⟨l9,m0,m1,-,-⟩ := h0.at.form; subst m1; clear H a1 h0 l4 l5 x4 m4; go_wp2_with fail; obtain ⟨w5,h1⟩ : ∃ z,z = w4.setCell ⟨J,4,none⟩ (.int .i64 q.2) := ⟨_,rfl⟩
     try rw [<- h1]
     have q4 : ∀ g,l3.ownBlock = some g -> g ≠ J := fun g K e => by have d := l7.out g K; rw [e,l8] at d; cases d
     obtain ⟨ρ5,m2⟩ : ∃ z,z = ρ4.gr l3.ownBlock (.pa f) := ⟨_,rfl⟩
     have h2 : Hid (Stp True ρ4 w4 q.1 ρ5 w5 t) := by
      have d := f3.out; rw [m2,h1]; rw [show t = _ from g8.out] at d ⊢; refine Stp.prq g9.out.km g9.out.ok X ?_ ?_ l6.out rfl ?_ (fun g K => .inl (l7.out g K)) d
      ·rw [b7]
       exact (Sm.refl w4 _).put (fun d => d.1 rfl) _ _
      ·rw [b7]
       exact p8.out.set 4 _
      ·exact zR p9.out ((Sm.refl w4 (fun g => g ≠ J)).put (fun d => d rfl) _ _) q4
     have d7 : Hid (CB ρ5 w5 t b ⟨m,some f⟩ (.pointer rp)) := g1.out.step h2.out; have Z : Hid (Stp True ρr O r ρ5 w5 t) := g9.out.trans h2.out
     have f4 : Hid ((t.pr f).result = (r.pr f).result) := by
      show _ = _
      rw [show t = _ from g8.out,show (q.1.setPr f _).pr f = _ from zY _ _ _ X]
      exact (rE _ _ _ _ B p4.out).1
     have m3 : ∀ q,(r.pr f).result = some q -> q < r.tys.length := (KS.okIn x.out.ok).prRes f B
     have c3 : Hid (w5.cell? ⟨b,3,none⟩ = some (ρ5.tyP (t.pr f).result)) := by
      show _ = _
      rw [show (t.pr f).result = _ from f4.out,jF Z.out.agr m3,<- show Value.pointer rp = _ from o8.out]
      exact d7.out.bk.c 3 _ rfl
     have d8 := KS.full f3.out b6.out
     have A5 : Hid (AT w5 (t.pr f).acts (.slice l9 (q.1.pr f).acts.length m0)) := by
      have d := (l6.out.step h2.out).at; rw [show t = _ from g8.out,show (q.1.setPr f _).pr f = _ from zY _ _ _ X]
      exact d
     have h3 := zc (gN (CAll.of d7.out.ck d8.1 d8.2.1 d8.2.2 9000) (res := (t.pr f).result) (fun q2 d => Nat.lt_of_lt_of_le (m3 q2 ((show (t.pr f).result = _ from f4.out) ▸ d)) Z.out.tys) 9000 (t.pr f).acts (dW V.out) w5 (.slice l9 (q.1.pr f).acts.length m0) d7.out.ck c3.out A5.out); clear d8 h1 e4 e3 ez m2; go_at_call 59; refine h3.out.mono ?_; cases b8 : t.actsF ⟨m,some f⟩ (t.level ⟨m,some f⟩ 9000) (t.pr f).result 9000 (t.pr f).acts with
     | error y =>
      intro e w6 h8; have h6 : Thw ρ w e w6 := (((Thw.cy h8).step Z.out).step b2.out |>.step x.out).step a8.out; obtain ⟨q,rfl⟩ := h6.thrown
      exact ⟨rfl,Ends.no (a6.out (by rw [f2.out,gE b6.out V.out,b8]; rfl)) h6⟩
     | ok y =>
     rintro e w6 ⟨m5,rfl⟩; have g0 : Hid (xK m (s + (j + 1)) (l.drop (j + 1)) t = R) := f7.out t (by rw [<- show f = _ from f1.out,f2.out,gE b6.out V.out,b8]; rfl); clear b8; have G6 := zc m5; clear m5; go_wp2_with fail
     go_roundw
     case rel => exact ⟨j + 1,ρ5,t,_,_,by omega,by go_num,g0,f9,l2,x.out.trans ((b2.out.trans Z.out.less).behind G6.out),d7.out.up G6.out⟩
     case measure => first | omega | (simp only [intOf]; omega) | (simp; omega)
    ·have hE : R = some r := by rw [<- HE.out,List.drop_eq_nil_of_le (by omega)]; rfl
     have q5 := zc hE; clear hE; obtain ⟨r0,r1,r2,mb,-⟩ := (k.out.ck.km.md m k.out.ck.hc).bk; have r3 : wr.cell? ⟨ρr.md m,0,none⟩ = some (pq ρr.wd) := mb.c 0 _ rfl; have r4 : wr.cell? ⟨ρr.md m,1,none⟩ = some (pq (ρr.md m)) := mb.c 1 _ rfl; have r5 : wr.cell? ⟨ρr.md m,2,none⟩ = some (.map none) := mb.c 2 _ rfl; have q0 := k.out.bk.c 0 _ rfl; have q1 := k.out.bk.c 1 _ rfl; have q2 := k.out.bk.c 2 _ rfl; have q3 := k.out.bk.c 3 _ rfl; have qz := k.out.bk.z; clear mb; go_wp2; refine bodyPost_end (results_none rfl _ _ _) rfl ?_
     exact Ends.yes q5.out ⟨rfl,ρr,(a8.out.trans x.out).trans (Stp.own k.out.ck.km x.out.ok k.out.col ((((((Sm.refl wr _).put (fun d => d rfl) _ _).put (fun d => d rfl) _ _).put (fun d => d rfl) _ _).put (fun d => d rfl) _ _))),CB.of x.out.ok (Stp.own k.out.ck.km x.out.ok k.out.col ((((((Sm.refl wr _).put (fun d => d rfl) _ _).put (fun d => d rfl) _ _).put (fun d => d rfl) _ _).put (fun d => d rfl) _ _))).km ((((k.out.bk.set 0 _).set 1 _).set 2 _).set 3 _) k.out.col k.out.ck.hc (fun p hp => by cases hp)⟩
end
end Go.Proofs.YtnmkffjklpfflaaGreatDoor
