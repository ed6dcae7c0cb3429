/- A module with imports: what is declared ahead of its procedures,and the rest. -/
import Derived.Test.YtnmkffjklpfflaaGreatDoorG46
import Derived.Test.YtnmkffjklpfflaaGreatDoorG47
import Derived.Test.YtnmkffjklpfflaaGreatDoorG25
namespace Go.Proofs.YtnmkffjklpfflaaGreatDoor
open Go.RowKit
def ny (n : T) : Bool := decide (6 <= n.subs.length) && ((sub n 2).subs.all fun t => decide (1 <= t.subs.length) && decide (1 <= (sub t 0).subs.length))
def KS.bodyH (m : Nat) (S : KS) (n : T) : Option KS := if ny n = false then none else (zX (KS.importC m) (sub n 0).subs S).bind fun S2 => (zX (KS.constC m) (sub n 1).subs S2).bind fun S3 =>
  (zX (KS.typeC m) (sub n 2).subs S3).bind fun S4 => (zX (KS.filledC m) (sub n 2).subs S4).bind fun S5 => (xm (KS.varC m) (sub n 3).subs S5 0).bind fun q => xC (q.1.setMd m { q.1.md m with words := q.2 })
def KS.bodyT (m : Nat) (S : KS) (n : T) : Option KS := ((zX (KS.headC m) (sub n 4).subs S).bind fun S7 => xK m S.prs.length (sub n 4).subs S7).bind fun S8 => (S8.setMd m { S8.md m with acts := (sub n 5).subs }).actsO ⟨m,none⟩ none (sub n 5).subs
section
variable {S S' S1 S2 : KS} {m p : Nat} {n : T}
theorem i6 (h : S.bodyH m n = some S') : 6 <= n.subs.length /\ (∀ t ∈ (sub n 2).subs,1 <= t.subs.length /\ 1 <= (sub t 0).subs.length) /\
  ∃ S2 S3 S4 S5 q,zX (KS.importC m) (sub n 0).subs S = some S2 /\ zX (KS.constC m) (sub n 1).subs S2 = some S3 /\ zX (KS.typeC m) (sub n 2).subs S3 = some S4 /\ zX (KS.filledC m) (sub n 2).subs S4 = some S5 /\ xm (KS.varC m) (sub n 3).subs S5 0 = some q /\ xC (q.1.setMd m { q.1.md m with words := q.2 }) = some S' := by
 unfold KS.bodyH at h
 split at h
 ·cases h
 ·rename_i hs
  have b : ny n = true := by simpa using hs
  simp only [ny,Bool.and_eq_true,decide_eq_true_eq,List.all_eq_true] at b; refine ⟨b.1,b.2,?_⟩; obtain ⟨S2,c,h⟩ := Option.bind_eq_some_iff.1 h; obtain ⟨S3,d,h⟩ := Option.bind_eq_some_iff.1 h; obtain ⟨S4,e,h⟩ := Option.bind_eq_some_iff.1 h; obtain ⟨S5,f,h⟩ := Option.bind_eq_some_iff.1 h; obtain ⟨q,g,i⟩ := Option.bind_eq_some_iff.1 h
  exact ⟨S2,S3,S4,S5,q,c,d,e,f,g,i⟩
structure Gro (m : Nat) (S S' : KS) : Prop where
 ok : S'.okB = true
 tys : S'.tys = S.tys
 mods : S'.mods = S.mods
 mds : S'.mds.length = S.mds.length
 md : ∀ i,i ≠ m -> S'.md i = S.md i
 th : ∀ i,i < S.ths.length -> S'.th i = S.th i
 ths : S.ths.length <= S'.ths.length
 nm : ∀ x t,lk (S.md m).names x = some t -> lk (S'.md m).names x = some t
 full : S.okB = true -> FuP S -> FuP S'
theorem Gro.refl (h : S.okB = true) : Gro m S S := ⟨h,rfl,rfl,rfl,fun _ _ => rfl,fun _ _ => rfl,Nat.le_refl _,fun _ _ h => h,fun _ h => h⟩
theorem Gro.trans (h : Gro m S S1) (k : Gro m S1 S2) : Gro m S S2 := ⟨k.ok,k.tys.trans h.tys,k.mods.trans h.mods,k.mds.trans h.mds,fun i hi => (k.md i hi).trans (h.md i hi),fun i hi => (k.th i (Nat.lt_of_lt_of_le hi h.ths)).trans (h.th i hi),Nat.le_trans h.ths k.ths,fun x t e => k.nm x t (h.nm x t e),fun a b => k.full h.ok (h.full a b)⟩
theorem Grw.gro (h : Grw m p S S') : Gro m S S' := ⟨h.ok,h.tys,h.mods,h.mds,h.md,h.th,h.ths,h.nm,h.full⟩
theorem te : ∀ (l : List T) (S S' : KS),S.okB = true -> m < S.mds.length -> zX (KS.headC m) l S = some S' -> Gro m S S' /\ S'.prs.length = S.prs.length + l.length
 | [],S,S',hk,_,h => by rw [<- Option.some.inj h]; exact ⟨.refl hk,rfl⟩
 | x :: r,S,S',hk,hm,h => by
  obtain ⟨S1,h1,h2⟩ := Option.bind_eq_some_iff.1 h; obtain ⟨g,-,gl,-⟩ := pe hm hk h1; obtain ⟨k1,k2⟩ := te r S1 S' g.ok (by rw [g.mds]; exact hm) h2
  exact ⟨g.gro.trans k1,by rw [k2,gl,List.length_cons]; omega⟩
theorem dS : ∀ (l : List T) (p : Nat) (S S' : KS),S.okB = true -> p + l.length <= S.prs.length -> xK m p l S = some S' -> Gro m S S'
 | [],p,S,S',hk,_,h => by rw [<- Option.some.inj h]; exact .refl hk
 | x :: r,p,S,S',hk,hp,h => by
  obtain ⟨_,h1,h2⟩ := Option.bind_eq_some_iff.1 h; obtain ⟨q,Sq,-,-,h3,h4,h5,-,-,-,h6⟩ := lW h1; rw [h6] at h2; subst h4; simp only [List.length_cons] at hp; have g1 := fP (m := m) _ _ _ _ (by omega) hk h3; have g := g1.trans (sr (P := { q.1.pr p with words := q.2 }) (Nat.lt_of_lt_of_le (by omega) g1.prs) rfl h5)
  exact g.gro.trans (dS r (p + 1) _ S' g.ok (Nat.le_trans (by omega) g.prs) h2)
theorem mf (h : S.okB = true) (hm : m < S.mds.length) (l : List T) : (S.setMd m { S.md m with acts := l }).okB = true := by
 have H := KS.okP h; refine (H.setMd ?_).okB; have P : S.okMd (S.md m) = true := uN H.md hm md0
 exact P
theorem tt (h : FuP S) (l : List T) : FuP (S.setMd m { S.md m with acts := l }) := lM h (fun q hq _ hx => ⟨q,hq,hx⟩)
theorem fX {l : List T} {S8 : KS} (hk : S.okB = true) (hm : m < S.mds.length) (h : ((zX (KS.headC m) l S).bind fun S7 => xK m S.prs.length l S7) = some S8) : Gro m S S8 := by
 obtain ⟨S7,c,d⟩ := Option.bind_eq_some_iff.1 h; obtain ⟨b,e⟩ := te l S S7 hk hm c
 exact b.trans (dS l _ S7 S8 b.ok (by rw [e]; exact Nat.le_refl _) d)
theorem pY (h : S.okB = true) (hm : m < S.mds.length) (l : List T) : Gro m S (S.setMd m { S.md m with acts := l }) := by
 refine ⟨mf h hm l,rfl,rfl,by simp [KS.setMd],fun i hi => yN _ _ _ hi,fun _ _ => rfl,Nat.le_refl _,fun x t e => ?_,fun _ b => tt b l⟩; rw [show (S.setMd m _).md m = _ from zY _ _ _ hm]
 exact e
theorem bt (h : S.okB = true) (hm : m < S.mds.length) {x : Nm} : KS.okB { S with mods := (x,m) :: S.mods } = true := by
 have H := KS.okP h; refine OkP.okB ⟨H.ty,H.th,H.pr,H.md,?_,H.two,H.three⟩; simp only [List.all_cons,Bool.and_eq_true,decide_eq_true_eq]
 exact ⟨hm,H.mods⟩
end
set_option maxHeartbeats 4000000
set_option maxRecDepth 100000
section
variable {ρ : Lay} {w w' w1 : World} {S : KS} {b : Nat} {c : KSc}
theorem bn {mm : Nat} (h : CB ρ w S b ⟨mm,none⟩ (.pointer none)) (n : T) (sv : Value) (hf : Fits n) (hk : S.okB = true) {S6 : KS} (ha : AF ρ.tr w n.subs sv) (hno : lk S.mods n.name = none) (hC : S.bodyH mm n = some S6) (hfu : FuP S6) (hpw : ∀ t ∈ (sub n 4).subs,PW t) (hac : vR (sub n 5).subs = true) (hnm : (S6.md mm).names.length + (sub n 4).subs.length <= 100000) (hdl : (S6.md mm).decl.length + (sub n 4).subs.length <= 100000) :
  Calls Tryz.prog 40 #[pq b,zo n sv] w (fun e w' => Ends ρ w (S6.bodyT mm n) (fun S' => e = .returned (.tuple #[]) /\ ∃ ρ',Stp False ρ w S ρ' w' S' /\ CB ρ' w' S' b ⟨mm,none⟩ (.pointer none)) e w') := by
 have HK := zc h; have HB := zc hk; have hx := hf.name; obtain ⟨b4,b5,S2,S3,_,S5,q,h2,h3,h4,h5,B,h7⟩ := i6 hC; obtain ⟨R,hR⟩ : ∃ z,z = S6.bodyT mm n := ⟨_,rfl⟩; rw [<- hR]
 unfold KS.bodyT at hR
 obtain ⟨_,C,rfl,_,_⟩ := ha.at.form; obtain ⟨g,o,rfl,A,d⟩ := ha.nodes (by omega); obtain ⟨u0,b6⟩ : ∃ u,n.subs[0]? = some u := ⟨_,List.getElem?_eq_getElem (by omega)⟩; obtain ⟨s0,n0,-,a0⟩ := d 0 u0 b6; obtain ⟨d2,c0,rfl,-,-⟩ := a0.at.form; have g6 : Hid (Node5 w g (o + 0) u0 (.slice d2 u0.subs.length c0)) := n0; have g7 := zc a0; obtain ⟨u1,b7⟩ : ∃ u,n.subs[1]? = some u := ⟨_,List.getElem?_eq_getElem (by omega)⟩; obtain ⟨s1,n1,-,a1⟩ := d 1 u1 b7; obtain ⟨d3,c1,rfl,-,-⟩ := a1.at.form; have g8 : Hid (Node5 w g (o + 5) u1 (.slice d3 u1.subs.length c1)) := n1; have g9 := zc a1; obtain ⟨u2,b8⟩ : ∃ u,n.subs[2]? = some u := ⟨_,List.getElem?_eq_getElem (by omega)⟩; obtain ⟨s2,n2,-,a2⟩ := d 2 u2 b8; obtain ⟨d4,c2,rfl,-,-⟩ := a2.at.form; have h0 : Hid (Node5 w g (o + 10) u2 (.slice d4 u2.subs.length c2)) := n2; have h1 := zc a2; obtain ⟨u3,b9⟩ : ∃ u,n.subs[3]? = some u := ⟨_,List.getElem?_eq_getElem (by omega)⟩; obtain ⟨s3,n3,-,a3⟩ := d 3 u3 b9; obtain ⟨d5,c3,rfl,-,-⟩ := a3.at.form; have j0 : Hid (Node5 w g (o + 15) u3 (.slice d5 u3.subs.length c3)) := n3; have j1 := zc a3; obtain ⟨u4,V⟩ : ∃ u,n.subs[4]? = some u := ⟨_,List.getElem?_eq_getElem (by omega)⟩; obtain ⟨s4,n4,-,a4⟩ := d 4 u4 V; obtain ⟨d6,c4,rfl,-,-⟩ := a4.at.form; have j2 : Hid (Node5 w g (o + 20) u4 (.slice d6 u4.subs.length c4)) := n4; have j3 := zc a4; obtain ⟨i,X⟩ : ∃ u,n.subs[5]? = some u := ⟨_,List.getElem?_eq_getElem (by omega)⟩; obtain ⟨s5,n5,-,a5⟩ := d 5 i X; obtain ⟨j,c5,rfl,-,-⟩ := a5.at.form; have j4 : Hid (Node5 w g (o + 25) i (.slice j i.subs.length c5)) := n5; have j5 := zc a5; rw [xr b6] at h2; rw [xr b7] at h3; rw [xr b8] at b5 h4 h5; rw [xr b9] at B; rw [xr V] at hpw hnm hdl; rw [xr V,xr X] at hR; rw [xr X] at hac; have H2 := zc h2; have HR := zc hR; have d7 := zc hfu; have j6 := zc hpw; have d8 := zc hac; have H3 := zc h3; have H4 := zc h4; have H5 := zc h5; have H6 := zc B; have H7 := zc h7; have j7 := zc b5; have j8 : Hid (w.cell? ⟨b,0,none⟩ = some (pq ρ.wd)) := h.ck.s0; have j9 : Hid (w.cell? ⟨ρ.wd,4,none⟩ = some (.map (some ρ.mo))) := h.ck.km.wd.c 4 _ rfl
 have k0 : Hid (∀ w9,w.grownBy w9 none -> (Instr.lookup 96 (.map (some ρ.mo)) (.string ⟨n.name.toArray⟩) false).run Tryz.prog w9 = .ok (.pointer none) w9) := fun w9 G => by
  have D := ((h.ck.km.up G).mo).look Tryz.underlying96 (dN w9) n.name hx; rw [show lk (ρ.mds S.mods) n.name = none by unfold Lay.mds; rw [qF,hno]; rfl] at D
  exact D
 clear h hk hf ha hC hno d n0 n1 n2 n3 n4 n5 a0 a1 a2 a3 a4 a5 b6 b7 b8 b9 V X h2 h3 h4 h5 B h7 b5 hR hfu hpw hac; obtain ⟨Q,x,m,p,l⟩ := n
 change Calls Tryz.prog 40 #[pq b,.agg #[.int .i64 Q,.string ⟨x.toArray⟩,.int .i64 m,.int .i64 p,.slice (some ⟨g,o,none⟩) l.length C]] w _
 obtain ⟨w0,Y⟩ : ∃ z,z = w.alloc (.cells #[.int .i64 Q,.string ⟨x.toArray⟩,.int .i64 m,.int .i64 p,.slice (some ⟨g,o,none⟩) l.length C] 100) := ⟨_,rfl⟩
 have G0 : Hid (w.grownBy w0 none) := by rw [Y]; exact zh grn _
 have B0 : Hid (Box w0 w.heap.size (.mk Q x m p l) (.slice (some ⟨g,o,none⟩) l.length C)) := by rw [Y]; exact Box.new w (.mk Q x m p l) (.slice (some ⟨g,o,none⟩) l.length C) _
 change 6 <= l.length at b4
 have d9 : Hid (∀ w9,w.grownBy w9 none -> (Instr.lookup 96 (.map (some ρ.mo)) (.string ⟨x.toArray⟩) false).run Tryz.prog w9 = .ok (.pointer none) w9) := k0.out
 have l6 : ¬ ((l.length : Int) <= 0) := by omega
 have l7 : ¬ ((l.length : Int) <= 1) := by omega
 have l8 : ¬ ((l.length : Int) <= 2) := by omega
 have l9 : ¬ ((l.length : Int) <= 3) := by omega
 have m0 : ¬ ((l.length : Int) <= 4) := by omega
 have m1 : ¬ ((l.length : Int) <= 5) := by omega
 have m2 : ¬ l = [] := fun e => by rw [e] at b4; simp at b4
 go_enter Tryz.func40,Tryz.ntmps40
 go_wp2_with fail; rw [<- Y]; clear Y; refine wp_region_held_drew (S := fun w9 => w0.grownBy w9 none) (by kernel_rfl) ?_ (fun hHeld => ?_)
 ·exact zf grn
 refine kQ 0 4 (pq b) hHeld ?_; refine kQ 1 5 (pq b) hHeld ?_; refine kQ 2 6 (pq b) hHeld ?_; refine kQ 3 7 (pq b) hHeld ?_; refine dk 4 (some 8) (pq ρ.wd) rfl rfl (fun w9 hS => by have q1 := ze (za G0.out hS) j8.out; go_simp) hHeld ?_; refine kQ 5 9 (pq ρ.wd) hHeld ?_; refine kQ 6 10 (.pointer (some ⟨ρ.wd,4,none⟩)) hHeld ?_; refine dk 7 (some 11) (.map (some ρ.mo)) rfl rfl (fun w9 hS => by have q1 := ze (za G0.out hS) j9.out; go_simp) hHeld ?_; refine kQ 8 12 (.pointer (some ⟨w.heap.size,1,none⟩)) hHeld ?_; refine dk 9 (some 13) (.string ⟨x.toArray⟩) rfl rfl (fun w9 hS => by obtain ⟨q0,q1,q2,q3,q4⟩ := (Box.kept B0.out hS).plain; go_simp) hHeld ?_; refine dk 10 (some 14) (.pointer none) rfl rfl (fun w9 hS => by have q1 := d9.out w9 (za G0.out hS); go_simp) hHeld ?_; refine kQ 11 15 (.bool false) hHeld ?_; simp only [qA,qB,qC,qD]; refine wpAnyH_done (by kernel_rfl) ?_ _; clear hHeld; obtain ⟨w1,Z⟩ : ∃ z,z = w0.drew := ⟨_,rfl⟩; rw [<- Z]
 have G1 : Hid (w.grownBy w1 none) := by rw [Z]; exact zf G0.out
 have B1 : Hid (Box w1 w.heap.size (.mk Q x m p l) (.slice (some ⟨g,o,none⟩) l.length C)) := by rw [Z]; exact B0.out.kept (zf grn)
 clear Z; have k1 : ρ.col w.heap.size = none := HK.out.ck.km.fr _ (Nat.le_refl _); have c6 : Hid (CB ρ w1 S b ⟨mm,none⟩ (.pointer none)) := HK.out.up G1.out; have c7 : Hid (Stp False ρ w S ρ w1 S) := (Stp.refl HK.out.ck.km HB.out).behind G1.out; have f0 := k1; have f1 : w.heap.size < w1.heap.size := zw B1.out.c0; have x4 := B1.out.c4; have N1 := zc (g6.out.step A c7.out); have m4 : w1.cell? ⟨g,o + 4,none⟩ = some (.slice d2 u0.subs.length c0) := N1.out.c4; have A1 := zc (g7.out.step c7.out); have f2 := zc (sQ c6.out.ck HB.out c6.out.col A1.out H2.out); go_wp2_with fail; go_at_call 54; refine f2.out.mono ?_; rintro e a6 ⟨rfl,ρ1i,s⟩; have k := zc s; clear s x4 m4; have v : Hid (Stp False ρ w S ρ1i a6 S2) := c7.out.trans k.out.less; have f3 : Hid (Box a6 w.heap.size (.mk Q x m p l) (.slice (some ⟨g,o,none⟩) l.length C)) := Box.step B1.out f0 k.out; have b2 : ρ1i.col w.heap.size = none := (k.out.col _ f1).trans f0; have b3 : w.heap.size < a6.heap.size := Nat.lt_of_lt_of_le f1 k.out.sm.size; have E := zc (c6.out.step k.out); have x4 := f3.out.c4; have k2 := zc (g8.out.step A v.out); have m4 : a6.cell? ⟨g,o + 9,none⟩ = some (.slice d3 u1.subs.length c1) := k2.out.c4; have k3 := zc (g9.out.step v.out); have k4 := zc (fg E.out.ck v.out.ok E.out.col k3.out H3.out); go_wp2_with fail; go_at_call 55; refine k4.out.mono ?_; rintro e w2 ⟨rfl,ρ2,s⟩; have F := zc s; clear s x4 m4; have a7 : Hid (Stp False ρ w S ρ2 w2 S3) := v.out.trans F.out.less; have B2 : Hid (Box w2 w.heap.size (.mk Q x m p l) (.slice (some ⟨g,o,none⟩) l.length C)) := Box.step f3.out b2 F.out; have f4 : ρ2.col w.heap.size = none := (F.out.col _ b3).trans b2; have f5 : w.heap.size < w2.heap.size := Nat.lt_of_lt_of_le b3 F.out.sm.size; have c8 := zc (E.out.step F.out); have x4 := B2.out.c4; have N2 := zc (h0.out.step A a7.out); have m4 : w2.cell? ⟨g,o + 14,none⟩ = some (.slice d4 u2.subs.length c2) := N2.out.c4; have A2 := zc (h1.out.step a7.out); have k5 := zc (nl c8.out.ck a7.out.ok c8.out.col A2.out j7.out H4.out H5.out); go_wp2_with fail; go_at_call 56; refine k5.out.mono ?_; rintro e w3 ⟨rfl,ρ3,s⟩; have H := zc s; clear s x4 m4; have a8 : Hid (Stp False ρ w S ρ3 w3 S5) := a7.out.trans H.out.less; have B3 : Hid (Box w3 w.heap.size (.mk Q x m p l) (.slice (some ⟨g,o,none⟩) l.length C)) := Box.step B2.out f4 H.out; have f6 : ρ3.col w.heap.size = none := (H.out.col _ f5).trans f4; have f7 : w.heap.size < w3.heap.size := Nat.lt_of_lt_of_le f5 H.out.sm.size; have c9 := zc (c8.out.step H.out); have x4 := B3.out.c4; have N3 := zc (j0.out.step A a8.out); have m4 : w3.cell? ⟨g,o + 19,none⟩ = some (.slice d5 u3.subs.length c3) := N3.out.c4; have A3 := zc (j1.out.step a8.out); have k6 := zc (fY c9.out.ck a8.out.ok c9.out.col A3.out H6.out H7.out)
 go_wp2_with fail; go_at_call 57; refine k6.out.mono ?_; rintro e w4 ⟨rfl,ρ4,s⟩; have I := zc s; clear s x4 m4; have r : Hid (Stp False ρ w S ρ4 w4 S6) := a8.out.trans I.out.less; have B4 : Hid (Box w4 w.heap.size (.mk Q x m p l) (.slice (some ⟨g,o,none⟩) l.length C)) := Box.step B3.out f6 I.out; have f8 : ρ4.col w.heap.size = none := (I.out.col _ f7).trans f6; have f9 : w.heap.size < w4.heap.size := Nat.lt_of_lt_of_le f7 I.out.sm.size; have g0 := zc (c9.out.step I.out); have x4 := B4.out.c4; have N4 := zc (j2.out.step A r.out); have m4 : w4.cell? ⟨g,o + 24,none⟩ = some (.slice d6 u4.subs.length c4) := N4.out.c4; have A4 := zc (j3.out.step r.out); have k7 := zc ((sl g0.out r.out.ok A4.out j6.out d7.out hnm hdl).mono (fun _ _ D => D.or)); go_wp2_with fail; go_at_call 58; refine k7.out.mono ?_; rintro e U (⟨J,B⟩ | ⟨S8,J,rfl,ρ5,s,cb⟩)
 ·replace B := B.step r.out
  obtain ⟨q,rfl⟩ := B.thrown
  exact ⟨rfl,Ends.no (by rw [HR.out,J]; rfl) B⟩
 have a9 := zc s; clear s x4 m4; have K : Hid (Stp False ρ w S ρ5 U S8) := r.out.trans a9.out; have B5 : Hid (Box U w.heap.size (.mk Q x m p l) (.slice (some ⟨g,o,none⟩) l.length C)) := Box.step B4.out f8 a9.out; have m3 : ρ5.col w.heap.size = none := (a9.out.col _ f9).trans f8; have m5 : w.heap.size < U.heap.size := Nat.lt_of_lt_of_le f9 a9.out.sm.size; have f := zc cb; clear cb; have d0 := fX r.out.ok g0.out.ck.hc J; have k8 : mm < S8.mds.length := f.out.ck.hc; obtain ⟨S',L⟩ : ∃ z,z = S8.setMd mm { S8.md mm with acts := i.subs } := ⟨_,rfl⟩; have k9 := zc L
 have g1 : Hid (S'.okB = true) := by show _ = _; rw [L]; exact mf d0.ok k8 _
 have g2 : Hid (S'.fullB = true) := by show _ = _; rw [L]; exact (tt (d0.full r.out.ok d7.out) _).full
 have g3 : Hid (R = (uS (S'.actsF ⟨mm,none⟩ (S'.level ⟨mm,none⟩ 9000) none 9000 i.subs)).bind fun _ => some S') := by
  show _ = _
  rw [HR.out,J,Option.bind_some,<- L]
  exact gE g2.out d8.out
 clear d0 L J; obtain ⟨m6,l0,l1,mb,-⟩ := (f.out.ck.km.md mm f.out.ck.hc).bk; have MB := zc mb; have m7 := (f.out.ck.km.md mm f.out.ck.hc).col; have N5 := zc (j4.out.step A K.out); have A5 : Hid (AF ρ5.tr U i.subs (.slice j i.subs.length c5)) := j5.out.step K.out; have l2 : Hid (U.cell? ⟨b,1,none⟩ = some (pq (ρ5.md mm))) := f.out.ck.s1; clear mb; go_wp2_with fail; refine yk [13] (S := fun w9 => U.grownBy w9 none) (by kernel_rfl) ?_ (fun hHeld => ?_)
 ·exact zf grn
 refine zk 0 (some 53) (pq b) rfl rfl (fun w9 _ => by go_simp) hHeld ?_; refine zk 1 (some 54) (pq b) rfl rfl (fun w9 _ => by go_simp) hHeld ?_; refine zk 2 (some 55) (pq b) rfl rfl (fun w9 _ => by go_simp) hHeld ?_; refine zk 3 (some 56) (.pointer (some ⟨b,1,none⟩)) rfl rfl (fun w9 _ => by go_simp) hHeld ?_; refine zk 4 (some 57) (pq (ρ5.md mm)) rfl rfl (fun w9 hS => by have q1 := ze hS l2.out; go_simp) hHeld ?_; refine zk 5 (some 58) (.pointer (some ⟨w.heap.size,4,none⟩)) rfl rfl (fun w9 _ => by go_simp) hHeld ?_; refine zk 6 (some 59) (.slice (some ⟨g,o,none⟩) l.length C) rfl rfl (fun w9 hS => by obtain ⟨q0,q1,q2,q3,q4⟩ := (Box.kept B5.out hS).plain; go_simp) hHeld ?_; refine zk 7 (some 60) (.pointer (some ⟨g,o + 25,none⟩)) rfl rfl (fun w9 _ => by go_simp) hHeld ?_; refine zk 8 (some 61) (.pointer (some ⟨g,o + 29,none⟩)) rfl rfl (fun w9 _ => by go_simp) hHeld ?_; refine zk 9 (some 62) (.slice j i.subs.length c5) rfl rfl (fun w9 hS => by have q1 := ze hS N5.out.c4; go_simp) hHeld ?_; simp only [qA,qB,qC,qD]; refine zr 10 (by kernel_rfl) rfl (fun KK hKK => ?_)
 go_simp
 refine hKK.out _ _ hHeld (fun hHeld => ?_); clear hKK KK; refine zr 11 (by kernel_rfl) rfl (fun KK hKK => ?_)
 go_simp
 refine hKK.out _ _ hHeld (fun hHeld => ?_); clear hKK KK; refine zr 12 (by kernel_rfl) rfl (fun KK hKK => ?_)
 go_simp
 refine hKK.out _ _ hHeld (fun hHeld => ?_); clear hKK KK; have e3 := MB.out.c 3 _ rfl; have ez := MB.out.z; refine zl 13 (by kernel_rfl) rfl rfl (fun KK hKK => ?_)
 go_simp
 refine hKK.out _ _ ?_; clear hKK KK; clear e3 ez; refine zd (by kernel_rfl) ?_ _; clear hHeld; obtain ⟨w6,M⟩ : ∃ z,z = (U.setCell ⟨ρ5.md mm,3,none⟩ (.slice j i.subs.length c5)).drew := ⟨_,rfl⟩; rw [<- M]
 have S6 : Hid (Sm U w6 (fun g => g ≠ ρ5.md mm)) := by rw [M]; exact ((Sm.refl U _).put (fun D => D rfl) _ _).drew
 have l3 : Hid (Bk w6 (ρ5.md mm) (mdV ρ5 mm { S8.md mm with acts := i.subs } (.slice j i.subs.length c5) l0 l1)) := by rw [M]; exact (MB.out.set 3 _).drew
 have b0 : Hid (Stp True ρ5 U S8 ρ5 w6 S') := by
  have D := g1.out; rw [show S' = _ from k9.out] at D ⊢; refine Stp.acts f.out.ck.km K.out.ok f.out.ck.hc S6.out (fun av0 iv dv hB => ?_) A5.out D; rw [M]
  exact (hB.set 3 _).drew
 clear M; have N : Hid (CB ρ5 w6 S' b ⟨mm,none⟩ (.pointer none)) := f.out.step b0.out; have A6 : Hid (AT w6 i.subs (.slice j i.subs.length c5)) := (A5.out.step b0.out).at; have g4 : w6.cell? ⟨b,1,none⟩ = some (pq (ρ5.md mm)) := N.out.ck.s1; have l4 : w6.cell? ⟨ρ5.md mm,3,none⟩ = some (.slice j i.subs.length c5) := l3.out.c 3 _ rfl; have b1 := KS.full g1.out g2.out; have d1 := zc (gN (CAll.of N.out.ck b1.1 b1.2.1 b1.2.2 9000) (res := none) (fun q2 D => by cases D) 9000 i.subs (dW d8.out) w6 (.slice j i.subs.length c5) N.out.ck (N.out.bk.c 3 _ rfl) A6.out); clear b1; go_wp2_with fail; go_at_call 59; refine d1.out.mono ?_; cases O : S'.actsF ⟨mm,none⟩ (S'.level ⟨mm,none⟩ 9000) none 9000 i.subs with
 | error y =>
  intro e w7 h8; have B : Thw ρ w e w7 := ((Thw.cy h8).step b0.out).step K.out; obtain ⟨q,rfl⟩ := B.thrown
  exact ⟨rfl,Ends.no (by rw [g3.out,O]; rfl) B⟩
 | ok y =>
 rintro e w7 ⟨g5,rfl⟩
 have l5 : Hid (R = some S') := by show _ = _; rw [g3.out,O]; rfl
 clear O; have G7 := zc g5; clear g5 g4 l4; go_wp2; refine bodyPost_end (results_none rfl _ _ _) rfl ?_
 exact Ends.yes l5.out ⟨rfl,ρ5,(K.out.trans b0.out.less).behind G7.out,N.out.up G7.out⟩
end
end Go.Proofs.YtnmkffjklpfflaaGreatDoor
