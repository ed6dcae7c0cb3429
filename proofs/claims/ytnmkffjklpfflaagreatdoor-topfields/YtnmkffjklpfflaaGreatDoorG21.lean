/- Declarations: constants. -/
import Derived.Test.YtnmkffjklpfflaaGreatDoorG19
import Derived.Maps.Views
namespace Go.Proofs.YtnmkffjklpfflaaGreatDoor
open Go.RowKit Go.Maps Go.WideMaps Go.WideElems
set_option maxHeartbeats 4000000
set_option maxRecDepth 100000
section
variable {ρ : Lay} {w w' w1 : World} {S : KS} {b : Nat} {c : KSc}
theorem fg (h : CK ρ w S b c) (hk : S.okB = true) (hcb : ρ.col b = some .ck) {S' : KS} {l : List T} {sv : Value} (ha : AF ρ.tr w l sv) (hs : zX (KS.constC c.home) l S = some S') :
  Calls Tryz.prog 55 #[pq b,sv] w (fun e w' => e = .returned (.tuple #[]) /\ ∃ ρ',Stp True ρ w S ρ' w' S') := by
 have HK := zc h; have HB := zc hk; have HL := zc ha; have HS := zc hs; obtain ⟨_,_,rfl,_,a0⟩ := ha.at.form
 unfold maxLen at a0
 clear h hk ha hs
 go_enter Tryz.func55,Tryz.ntmps55
 go_wp2_with fail
 go_loopw [9] (fun iv wr => ∃ (j : Nat) (ρr : Lay) (Sr : KS),j <= l.length /\ iv = .int .i64 ↑j /\ Hid (zX (KS.constC c.home) (l.drop j) Sr = some S') /\ Hid (Stp True ρ w S ρr wr Sr)) (fun iv _ => l.length - (intOf iv).toNat)
 case atStart => exact ⟨0,ρ,S,Nat.zero_le _,rfl,HS.out,Stp.refl HK.out.km HB.out⟩
 case round =>
  obtain ⟨j,ρr,Sr,_,rfl,HE,s⟩ := hrel
  by_cases a1 : j < l.length
  ·obtain ⟨v,hv⟩ : ∃ v,l[j]? = some v := ⟨_,List.getElem?_eq_getElem a1⟩
   have KR : Hid (CK ρr wr Sr b c) := HK.out.step s.out hcb; have C : ρr.col b = some .ck := s.out.agr.col _ _ hcb; obtain ⟨S1,D,E⟩ := vS hv HE.out; have a2 := zc E; obtain ⟨Sd,z,u,_,F,o,H,I,J⟩ := mN D; have HD := zc F; have a3 := zc H; have a4 := zc I; have K := zc J; obtain ⟨g,_,_,e1,_,t,fv,av⟩ := (HL.out.step s.out).node hv; subst e1
   have b0 : 0 < v.subs.length := by rw [o]; simp
   obtain ⟨va,L,rfl,-,-⟩ := av.at.form; obtain ⟨x,A,_,e2,f,n6,fu,au⟩ := av.node (j := 0) (v := u) (by rw [o]; rfl); subst e2; rw [Nat.zero_mul,Nat.add_zero] at n6; obtain ⟨ua,uc,rfl,-,-⟩ := au.at.form; have FV := zc fv; have FU := zc fu; have AU := zc au; have M := zc n6; have d0 := t.c0; have d1 := t.c1; have d2 := t.c2; have d3 := t.c3; have d4 := t.c4; have b1 : g < wr.heap.size := zw d0; clear t n6 fu au fv av hv D E F o H I J; go_wp2_with fail; obtain ⟨B,i⟩ : ∃ z,z = wr.alloc (.cells #[.int .i64 v.kind,.string ⟨v.name.toArray⟩,.int .i64 v.num,.int .i64 v.at',.slice (some ⟨x,A,none⟩) v.subs.length L] 100) := ⟨_,rfl⟩; rw [<- i]
   have a5 : B.heap.size = wr.heap.size + 1 := by rw [i]; simp
   have a6 : Hid (wr.grownBy B none) := by rw [i]; exact zh grn _
   have a7 : Hid (Box B wr.heap.size v (.slice (some ⟨x,A,none⟩) v.subs.length L)) := by rw [i]; exact Box.new wr v _ _
   obtain ⟨m,n⟩ : ∃ z,z = B.alloc (.cells #[.int .i64 1,.string ⟨#[]⟩,.bool false,.pointer none,.pointer none,.int .i32 0,.int .i64 0,.bool false,.pointer none,.bool false,.pointer none] 90) := ⟨_,rfl⟩; rw [<- n]
   have N : Hid (B.grownBy m none) := by rw [n]; exact zh grn _
   have O := zc (za a6.out N.out); have Q : Hid (Box m wr.heap.size v (.slice (some ⟨x,A,none⟩) v.subs.length L)) := a7.out.kept N.out
   have T3 : Hid (Bk m (wr.heap.size + 1) (thV ρr { th0 with kind := 1 })) := by rw [n,<- a5]; exact Bk.new B _ _ rfl
   clear n i; have a8 : ρr.col (wr.heap.size + 1) = none := KR.out.km.fr _ (by omega); have R : ρr.col wr.heap.size = none := KR.out.km.fr _ (by omega); have q := zc (fun w9 (G : m.grownBy w9 none) => vB (za O.out G) (KR.out.up (za O.out G)) s.out.ok C v (.slice (some ⟨x,A,none⟩) v.subs.length L) FV.out (T3.out.kept G (by simp)) a8 (by omega) HD.out); have G3 : Hid (m.grownBy m none) := zj m none
   skip
   refine wp_region_held_drew (S := fun w9 => Sm m w9 (fun g => Kp ρr True g /\ g ≠ wr.heap.size + 1)) (by kernel_rfl) ?_ (fun hHeld => ?_)
   ·exact (Sm.refl m _).drew
   refine kQ 0 15 (pq b) hHeld ?_; refine kQ 1 16 (pq b) hHeld ?_; refine kQ 2 17 (pq b) hHeld ?_; refine dk 3 (some 18) (zo v (.slice (some ⟨x,A,none⟩) v.subs.length L)) rfl rfl (fun w9 hS => by obtain ⟨_,_,_,_,_⟩ := Box.sm Q.out hS ⟨.inl R,by omega⟩; go_simp) hHeld ?_; refine kQ 4 19 (pq (wr.heap.size + 1)) hHeld ?_; simp only [qA,qB,qC,qD]; refine rd 5 rfl fun KK hKK => ?_
   go_simp
   go_at_call 70; refine (q.out _ (zf G3.out)).mono ?_; rintro e w4 ⟨rfl,ρ4,U,k,V,X⟩; have S4 : Hid (Sm m w4 (fun g => Kp ρr True g /\ g ≠ wr.heap.size + 1)) := (Sm.of_none (zf G3.out) _).trans X; have d := zc U; have T4 := zc V; clear U V X
   go_simp
   refine hKK.out _ _ S4.out fun hHeld => ?_
   clear hKK KK; refine wpAnyH_done (by kernel_rfl) ?_ _; clear hHeld; have K4 : Hid (CK ρ4 w4 Sd b c) := KR.out.step d.out C; have a9 := zc (AU.out.step d.out).at; have Y : Hid (Node5 w4 x A u (.slice ua u.subs.length uc)) := ⟨d.out.sm.cell M.out.c0 (.inr (.inl f)),d.out.sm.cell M.out.c1 (.inr (.inl f)),d.out.sm.cell M.out.c2 (.inr (.inl f)),d.out.sm.cell M.out.c3 (.inr (.inl f)),d.out.sm.cell M.out.c4 (.inr (.inl f))⟩; have B4 := zc (Box.sm Q.out S4.out ⟨.inl R,by omega⟩); have x4 := B4.out.c4; have m0 := Y.out.c0; have m1 := Y.out.c1; have m2 := Y.out.c2; have m3 := Y.out.c3; have m4 := Y.out.c4; have Z := zc (oW a3.out w4 (.slice ua u.subs.length uc) K4.out FU.out a9.out); go_wp2_with fail; go_at_call 71; refine Z.out.mono ?_; rintro e w5 ⟨rfl,r⟩; have GG := zc r; have T5 := zc (T4.out.kept r (by simp)); have e4 := T5.out.c 4 _ rfl; have e5 := T5.out.c 5 _ rfl; have e9 := T5.out.c 9 _ rfl; have ez := T5.out.z; clear r x4 m0 m1 m2 m3 m4; go_wp2_with fail
   go_roundw
   case rel =>
    refine ⟨j + 1,ρ4,S1,by omega,by go_num,a2,?_⟩; rw [a4.out] at K ⊢; refine s.out.trans ((d.out.behind GG.out).setTh ?_ ?_ ?_ ?_ K.out)
    ·exact qs HD.out
    ·rw [k]
     exact (((Sm.refl w5 _).put (fun h9 => h9 rfl) _ _).put (fun h9 => h9 rfl) _ _).put (fun h9 => h9 rfl) _ _
    ·rw [k]; omega
    ·rw [k]
     exact ((T5.out.set 4 _).set 5 _).set 9 _
   case measure => first | omega | (simp only [intOf]; omega) | (simp; omega)
  ·obtain rfl := uD (by omega) HE.out
   go_wp2; refine bodyPost_end (results_none rfl _ _ _) rfl ?_
   exact ⟨rfl,_,s.out⟩
end
section
variable {ρ : Lay} {w w' w1 : World} {S : KS} {b : Nat} {c : KSc}
theorem fY {m : Nat} (h : CK ρ w S b ⟨m,none⟩) (hk : S.okB = true) (hcb : ρ.col b = some .ck) {q : KS × Int} {S' : KS} {l : List T} {sv : Value} (ha : AF ρ.tr w l sv) (hs : xm (KS.varC m) l S 0 = some q) (hs' : xC (q.1.setMd m { q.1.md m with words := q.2 }) = some S') :
  Calls Tryz.prog 57 #[pq b,sv] w (fun e w' => e = .returned (.tuple #[]) /\ ∃ ρ',Stp True ρ w S ρ' w' S') := by
 have HK := zc h; have HB := zc hk; have HL := zc ha; have HS := zc hs; have b4 := zc hs'; obtain ⟨_,_,rfl,_,b5⟩ := ha.at.form
 unfold maxLen at b5
 clear h hk ha hs hs'
 go_enter Tryz.func57,Tryz.ntmps57
 go_wp2_with fail
 go_loopw [10,4] (fun iv kv wr => ∃ (j : Nat) (ρr : Lay) (M : KS) (o : Int),j <= l.length /\ iv = .int .i64 ↑j /\ kv = .int .i64 o /\ 0 <= o /\ o <= 512 /\ Hid (xm (KS.varC m) (l.drop j) M o = some q) /\ Hid (Stp True ρ w S ρr wr M)) (fun iv _ _ => l.length - (intOf iv).toNat)
 case atStart => exact ⟨0,ρ,S,0,Nat.zero_le _,rfl,rfl,by omega,by omega,HS.out,Stp.refl HK.out.km HB.out⟩
 case round =>
  obtain ⟨j,ρr,M,o,_,rfl,rfl,_,_,HE,H⟩ := hrel; have A : Hid (CK ρr wr M b ⟨m,none⟩) := HK.out.step H.out hcb; have N : ρr.col b = some .ck := H.out.agr.col _ _ hcb
  by_cases b6 : j < l.length
  ·obtain ⟨v,hv⟩ : ∃ v,l[j]? = some v := ⟨_,List.getElem?_eq_getElem b6⟩
   obtain ⟨⟨S1,z1⟩,O,Q⟩ := nj hv HE.out; have b7 := zc Q; obtain ⟨Sd,t,u,_,R,B,U,V,X,Y,Z⟩ := bF O; have HD := zc R; have a0 := zc U; have b8 := zc V; have b9 := zc X; have HZ := zc Y; have c5 := zc Z; obtain ⟨g,_,_,e1,_,I,fv,av⟩ := (HL.out.step H.out).node hv; subst e1
   have d8 : 0 < v.subs.length := by rw [B]; simp
   obtain ⟨va,vc,rfl,-,-⟩ := av.at.form; obtain ⟨J,K,_,e2,i,n6,fu,au⟩ := av.node (j := 0) (v := u) (by rw [B]; rfl); subst e2; rw [Nat.zero_mul,Nat.add_zero] at n6; obtain ⟨ua,uc,rfl,-,-⟩ := au.at.form; have FV := zc fv; have FU := zc fu; have AU := zc au; have N6 := zc n6; have d0 := I.c0; have d1 := I.c1; have d2 := I.c2; have d3 := I.c3; have d4 := I.c4; have d9 : g < wr.heap.size := zw d0; clear I n6 fu au fv av hv O Q R B U V X Y Z; go_wp2_with fail; obtain ⟨L,k⟩ : ∃ z,z = wr.alloc (.cells #[.int .i64 v.kind,.string ⟨v.name.toArray⟩,.int .i64 v.num,.int .i64 v.at',.slice (some ⟨J,K,none⟩) v.subs.length vc] 100) := ⟨_,rfl⟩; rw [<- k]
   have c6 : L.heap.size = wr.heap.size + 1 := by rw [k]; simp
   have c7 : Hid (wr.grownBy L none) := by rw [k]; exact zh grn _
   have c8 : Hid (Box L wr.heap.size v (.slice (some ⟨J,K,none⟩) v.subs.length vc)) := by rw [k]; exact Box.new wr v _ _
   obtain ⟨n,r⟩ : ∃ z,z = L.alloc (.cells #[.int .i64 3,.string ⟨#[]⟩,.bool false,.pointer none,.pointer none,.int .i32 0,.int .i64 o,.bool false,.pointer none,.bool false,.pointer none] 90) := ⟨_,rfl⟩; rw [<- r]
   have a1 : Hid (L.grownBy n none) := by rw [r]; exact zh grn _
   have a2 := zc (za c7.out a1.out); have a3 : Hid (Box n wr.heap.size v (.slice (some ⟨J,K,none⟩) v.subs.length vc)) := c8.out.kept a1.out
   have T3 : Hid (Bk n (wr.heap.size + 1) (thV ρr { th0 with kind := 3,first := o })) := by rw [r,<- c6]; exact Bk.new L _ _ rfl
   clear r k; have c9 : ρr.col (wr.heap.size + 1) = none := A.out.km.fr _ (by omega); have a4 : ρr.col wr.heap.size = none := A.out.km.fr _ (by omega); have C := zc (fun w9 (G : n.grownBy w9 none) => vB (za a2.out G) (A.out.up (za a2.out G)) H.out.ok N v (.slice (some ⟨J,K,none⟩) v.subs.length vc) FV.out (T3.out.kept G (by simp)) c9 (by omega) HD.out); have G3 : Hid (n.grownBy n none) := zj n none
   skip
   refine wp_region_held_drew (S := fun w9 => Sm n w9 (fun g => Kp ρr True g /\ g ≠ wr.heap.size + 1)) (by kernel_rfl) ?_ (fun hHeld => ?_)
   ·exact (Sm.refl n _).drew
   refine kQ 0 17 (pq b) hHeld ?_; refine kQ 1 18 (pq b) hHeld ?_; refine kQ 2 19 (pq b) hHeld ?_; refine dk 3 (some 20) (zo v (.slice (some ⟨J,K,none⟩) v.subs.length vc)) rfl rfl (fun w9 hS => by obtain ⟨_,_,_,_,_⟩ := Box.sm a3.out hS ⟨.inl a4,by omega⟩; go_simp) hHeld ?_; refine kQ 4 21 (pq (wr.heap.size + 1)) hHeld ?_; simp only [qA,qB,qC,qD]; refine rd 5 rfl fun KK hKK => ?_
   go_simp
   go_at_call 70; refine (C.out _ (zf G3.out)).mono ?_; rintro e w4 ⟨rfl,ρ4,a5,f,a6,a7⟩; have S4 : Hid (Sm n w4 (fun g => Kp ρr True g /\ g ≠ wr.heap.size + 1)) := (Sm.of_none (zf G3.out) _).trans a7; have d := zc a5; have T4 := zc a6; clear a5 a6 a7
   go_simp
   refine hKK.out _ _ S4.out fun hHeld => ?_
   clear hKK KK; refine wpAnyH_done (by kernel_rfl) ?_ _; clear hHeld; have K4 : Hid (CK ρ4 w4 Sd b ⟨m,none⟩) := A.out.step d.out N; have d5 := zc (AU.out.step d.out).at; have N4 : Hid (Node5 w4 J K u (.slice ua u.subs.length uc)) := ⟨d.out.sm.cell N6.out.c0 (.inr (.inl i)),d.out.sm.cell N6.out.c1 (.inr (.inl i)),d.out.sm.cell N6.out.c2 (.inr (.inl i)),d.out.sm.cell N6.out.c3 (.inr (.inl i)),d.out.sm.cell N6.out.c4 (.inr (.inl i))⟩; have B4 := zc (Box.sm a3.out S4.out ⟨.inl a4,by omega⟩); have x4 := B4.out.c4; have m0 := N4.out.c0; have m1 := N4.out.c1; have m2 := N4.out.c2; have m3 := N4.out.c3; have m4 := N4.out.c4; have a8 := zc (yG K4.out u (.slice ua u.subs.length uc) FU.out d5.out); have ht : t < Sd.tys.length := yF K4.out a0.out; go_wp2_with fail; go_at_call 74; refine a8.out.mono ?_; rw [a0.out]; rintro e w5 ⟨s,rfl⟩; have GG := zc s; have T5 := zc (T4.out.kept s (by simp)); have e4 := T5.out.c 4 _ rfl; have ez := T5.out.z; have D := (d.out.km.ty t ht).col; have E := (d.out.km.th M.ths.length (qs HD.out)).col; rw [f] at E
   have hne : ρ4.ty t ≠ wr.heap.size + 1 := fun e => by rw [e,E] at D; cases D
   have d7 : ¬ wr.heap.size + 1 = ρ4.ty t := fun e => hne e.symm
   obtain ⟨fw,a9,-⟩ := (d.out.km.ty t ht).bk; have y3 := ze s (a9.c 3 _ rfl); have b0 := ((KS.okP d.out.ok).tyP ht).2; have x := HZ.out; have b1 := c5.out
   generalize (Sd.ty t).words = wd at y3 b0 x
   obtain ⟨_,_⟩ := b0
   change z1 = o + wd at x
   change z1 <= 512 at b1
   have f0 : o + wd <= 512 := by omega
   have F := zc x; clear s x4 m0 m1 m2 m3 m4 a9 D E b1 x; go_wp2_with fail
   go_roundw
   case rel =>
    refine ⟨j + 1,ρ4,S1,z1,by omega,by go_num,?_,?_,?_,b7,?_⟩
    ·rw [F.out]; try go_num
    ·have := F.out; omega
    ·have := F.out; omega
    have b2 := b9.out; rw [show S1 = _ from b8.out] at b2 ⊢; refine H.out.trans ((d.out.behind GG.out).setTh ?_ ?_ ?_ ?_ b2)
    ·exact qs HD.out
    ·rw [f]
     exact (Sm.refl w5 _).put (fun h9 => h9 rfl) _ _
    ·rw [f]; omega
    ·rw [f]
     exact T5.out.set 4 _
   case measure => first | omega | (simp only [intOf]; omega) | (simp; omega)
  ·obtain rfl := mQ (by omega) HE.out
   obtain ⟨rfl,b3⟩ := yn b4.out; have d6 := zc b3; have s1 : wr.cell? ⟨b,1,none⟩ = some (pq (ρr.md m)) := A.out.s1; obtain ⟨av,iv,dv,k1,-⟩ := (A.out.km.md m A.out.hc).bk; have e4 := k1.c 4 _ rfl; have ez := k1.z; clear b3 k1; go_wp2; refine bodyPost_end (results_none rfl _ _ _) rfl ?_
   exact ⟨rfl,_,H.out.words A.out.hc d6.out⟩
end
theorem tC : ∀ l,Tidy (kt l)
 | [] => tidy_empty
 | p :: r => (tC r).put (by constructor) _
theorem io {x : Nm} {l : List (Nm × Nat)} (h : lk l x = none) : has (kt l) (.string x) = false := has_false_of_atKey (fun z => by rw [sW,h])
theorem tG : ∀ {l : List (Nm × Nat)},ndB l = true -> size (kt l) = l.length
 | [],_ => rfl
 | p :: r,h => by
  simp only [ndB,Bool.and_eq_true,Option.isNone_iff_eq_none] at h
  unfold kt
  rw [size_put (tC r),io h.1,tG h.2]
  rfl
theorem oG {ρ : Lay} : ∀ {l : List (Nm × Nat)},ndB l = true -> ndB (ρ.ths l) = true
 | [],_ => rfl
 | p :: r,h => by
  simp only [ndB,Bool.and_eq_true,Option.isNone_iff_eq_none] at h; simp only [Lay.ths,List.map_cons,ndB,Bool.and_eq_true,Option.isNone_iff_eq_none]
  exact ⟨by rw [qF,h.1]; rfl,oG h.2⟩
theorem MapAt.len {w : World} {b : Nat} {l : List (Nm × Nat)} (h : MapAt w b l) (hn : ndB l = true) {t e : TypeId} (ht : Tryz.prog.underlying t = some (.map 9 e)) (ty : TypeId) : (Builtin.len_ #[t] ty #[.map (some b)]).run Tryz.prog w = .ok (.int .i64 l.length) w := by
 have c := World.ownsMap.len h ht ty; rwa [tG hn] at c
section
variable {ρ ρ' : Lay} {w w' : World} {S S' : KS}
def Lay.addPr (ρ : Lay) (n pb ib : Nat) : Lay := { ρ with pr := fun i => if i = n then pb else ρ.pr i,inn := fun i => if i = n then ib else ρ.inn i,col := fun b => if b = pb then some (.pr n) else if b = ib then some (.inn n) else ρ.col b }
theorem tJ (S : KS) {pb ib : Nat} (hc : ρ.col pb = none) (hd : ρ.col ib = none) : Agr ρ (ρ.addPr S.prs.length pb ib) S :=
 ⟨rfl,rfl,rfl,fun _ _ => rfl,fun _ _ => rfl,fun i h => by simp only [Lay.addPr]; rw [if_neg (by omega)],fun i h => by simp only [Lay.addPr]; rw [if_neg (by omega)],fun _ _ => rfl,fun _ _ => rfl,fun b lb h => by
  simp only [Lay.addPr]; rw [if_neg (fun e => by rw [e,hc] at h; cases h),if_neg (fun e => by rw [e,hd] at h; cases h)]
  exact h⟩
theorem KM.addPr (h : KM ρ w S) (hi : KIn S) {t : KPr} {pb ib : Nat} {av : Value} (hb : Bk w pb [ptr (some ρ.wd),ρ.mdP (some t.home),.map (some ib),av,.int .i64 t.words,.slice none 0 0,ρ.tyP t.result]) (ha : AF ρ.tr w t.acts av) (hm : MapAt w ib []) (hp : t.pars = []) (hn : t.inner = [])
  (hc : ρ.col pb = none) (hd : ρ.col ib = none) (hne : ib ≠ pb) : KM (ρ.addPr S.prs.length pb ib) w (S.addPr t) := by
 have c := tJ S hc hd; refine h.turn (P := fun _ => True) hi c (Sm.refl w _) (fun b d => ?_) (fun _ _ => trivial) (fun _ _ => trivial) (h.mo_turn hi c (Sm.refl w (fun _ => True)) (fun _ _ => trivial)) (fun j hj => (h.ty j hj).re hi c hj) (fun j hj => (h.th j hj).re hi c hj) (fun j hj => ?_) (fun j hj => (h.md j hj).re hi c hj)
 ·have i := hb.lt
  have k := hm.lt; simp only [Lay.addPr]; rw [if_neg (by omega),if_neg (by omega)]
  exact h.fr b d
 ·rcases vP hj with d | rfl
  ·rw [show (S.addPr t).pr j = S.pr j from vb _ _ _ d]
   exact (h.pr j d).re hi c d
  ·rw [show (S.addPr t).pr S.prs.length = t from xg _ _ _]
   have f : (ρ.addPr S.prs.length pb ib).pr S.prs.length = pb := by simp [Lay.addPr]
   have e : (ρ.addPr S.prs.length pb ib).inn S.prs.length = ib := by simp [Lay.addPr]
   refine ⟨⟨av,.slice none 0 0,?_,ha.weak (fun g hq => c.col _ _ hq),?_,nofun⟩,?_,?_,?_⟩
   ·unfold prV
    rw [f,e]
    exact hb
   ·rw [hp]; exact World.ownsRow_nil _ _ _ _
   ·rw [e,hn]; exact hm
   ·rw [f]; simp [Lay.addPr]
   ·rw [e]; simp [Lay.addPr,hne]
end
section
variable {ρ ρ' : Lay} {w w' : World} {S S' : KS}
def Lay.addMd (ρ : Lay) (n mb nb : Nat) : Lay := { ρ with md := fun i => if i = n then mb else ρ.md i,nm := fun i => if i = n then nb else ρ.nm i,col := fun b => if b = mb then some (.md n) else if b = nb then some (.nm n) else ρ.col b }
theorem tc (S : KS) {mb nb : Nat} (hc : ρ.col mb = none) (hd : ρ.col nb = none) : Agr ρ (ρ.addMd S.mds.length mb nb) S :=
 ⟨rfl,rfl,rfl,fun _ _ => rfl,fun _ _ => rfl,fun _ _ => rfl,fun _ _ => rfl,fun i h => by simp only [Lay.addMd]; rw [if_neg (by omega)],fun i h => by simp only [Lay.addMd]; rw [if_neg (by omega)],fun b lb h => by
  simp only [Lay.addMd]; rw [if_neg (fun e => by rw [e,hc] at h; cases h),if_neg (fun e => by rw [e,hd] at h; cases h)]
  exact h⟩
theorem KM.addMd (h : KM ρ w S) (hi : KIn S) {x : Nm} {mb nb : Nat} (hb : Bk w mb [ptr (some ρ.wd),pq mb,.map none,.slice none 0 0,.int .i64 0,.string ⟨x.toArray⟩,.slice none 0 0,.slice none 0 0,.map (some nb)]) (hm : MapAt w nb [])
  (hc : ρ.col mb = none) (hd : ρ.col nb = none) (hne : nb ≠ mb) : KM (ρ.addMd S.mds.length mb nb) w (S.addMd { md0 with name := x }) := by
 have c := tc S hc hd; refine h.turn (P := fun _ => True) hi c (Sm.refl w _) (fun b d => ?_) (fun _ _ => trivial) (fun _ _ => trivial) (h.mo_turn hi c (Sm.refl w (fun _ => True)) (fun _ _ => trivial)) (fun j hj => (h.ty j hj).re hi c hj) (fun j hj => (h.th j hj).re hi c hj) (fun j hj => (h.pr j hj).re hi c hj) (fun j hj => ?_)
 ·have g := hb.lt
  have i := hm.lt; simp only [Lay.addMd]; rw [if_neg (by omega),if_neg (by omega)]
  exact h.fr b d
 ·rcases vP hj with d | rfl
  ·rw [show (S.addMd _).md j = S.md j from vb _ _ _ d]
   exact (h.md j d).re hi c d
  ·rw [show (S.addMd _).md S.mds.length = _ from xg _ _ _]
   have f : (ρ.addMd S.mds.length mb nb).md S.mds.length = mb := by simp [Lay.addMd]
   have e : (ρ.addMd S.mds.length mb nb).nm S.mds.length = nb := by simp [Lay.addMd]
   refine ⟨⟨.slice none 0 0,.slice none 0 0,.slice none 0 0,?_,.nil none 0 (Nat.zero_le _),⟨World.ownsRow_nil _ _ _ _,nofun⟩,World.ownsRow_nil _ _ _ _,nofun⟩,?_,?_,?_⟩
   ·unfold mdV Lay.mdP
    rw [Option.map_some,f,e]
    exact hb
   ·rw [e]; exact hm
   ·rw [f]; simp [Lay.addMd]
   ·rw [e]; simp [Lay.addMd,hne]
theorem KM.setMods (h : KM ρ w S) (hi : KIn S) {x : Nm} {i : Nat} (hs : Sm w w' (fun g => g ≠ ρ.mo)) (hm : MapAt w' ρ.mo ((x,ρ.md i) :: ρ.mds S.mods)) : KM ρ w' { S with mods := (x,i) :: S.mods } := by
 have N : ∀ lb : Lb,lb ≠ .mo -> ∀ g,ρ.col g = some lb -> g ≠ ρ.mo := fun lb hlb g hg e => hlb (by rw [e,h.moc] at hg; exact (Option.some.inj hg).symm)
 exact h.turn hi (Agr.refl ρ S) hs (h.frs hs) (N _ nofun) (N _ nofun) hm (fun j hj => (h.ty j hj).sm hs (N _ nofun) (N _ nofun)) (fun j hj => (h.th j hj).sm hs (N _ nofun)) (fun j hj => (h.pr j hj).sm hs (N _ nofun) (N _ nofun) (N _ nofun) (N _ nofun)) (fun j hj => (h.md j hj).sm hs (N _ nofun) (N _ nofun) (N _ nofun) (N _ nofun) (N _ nofun))
end
end Go.Proofs.YtnmkffjklpfflaaGreatDoor
