/- Declarations: constants. -/
import Derived.Test.YtnmkffjklpfflaaGreatDoorK07
namespace Go.Proofs.YtnmkffjklpfflaaGreatDoor
open Go.RowKit
set_option maxHeartbeats 4000000
set_option maxRecDepth 100000
section
variable {ρ : Lay} {w w' w1 : World} {S : KS} {b : Nat} {c : KSc}
theorem qU (h : CK ρ w S b c) (hk : S.okB = true) (hcb : ρ.col b = some .ck) {S' : KS} {l : List T} {sv : Value} (ha : AF ρ.tr w l sv) (hs : yw (KS.constC c.home) l S = some S') :
  Calls Tryz.prog 55 #[.pointer (some ⟨b,0,none⟩),sv] w (fun e w' => e = .returned (.tuple #[]) /\ ∃ ρ',Stp True ρ w S ρ' w' S') := by
 have HK := ze h; have HB := ze hk; have HL := ze ha; have HS := ze hs; obtain ⟨_,_,rfl,_,a0⟩ := ha.at.form
 unfold maxLen at a0
 clear h hk ha hs
 go_enter Tryz.func55,Tryz.ntmps55
 go_wp2_with fail
 go_loopw [9] (fun iv wr => ∃ (j : Nat) (ρr : Lay) (Sr : KS),j <= l.length /\ iv = .int .i64 ↑j /\ Hid (yw (KS.constC c.home) (l.drop j) Sr = some S') /\ Hid (Stp True ρ w S ρr wr Sr)) (fun iv _ => l.length - (intOf iv).toNat)
 case atStart => exact ⟨0,ρ,S,Nat.zero_le _,rfl,HS.out,Stp.refl HK.out.km HB.out⟩
 case round =>
  obtain ⟨j,ρr,Sr,_,rfl,HE,t⟩ := hrel
  by_cases a1 : j < l.length
  ·obtain ⟨v,hv⟩ : ∃ v,l[j]? = some v := ⟨_,List.getElem?_eq_getElem a1⟩
   have KR : Hid (CK ρr wr Sr b c) := HK.out.step t.out hcb; have C : ρr.col b = some .ck := t.out.agr.col _ _ hcb; obtain ⟨S1,D,E⟩ := xH hv HE.out; have a2 := ze E; obtain ⟨Sd,z,u,_,F,o,H,I,J⟩ := pU D; have HD := ze F; have a3 := ze H; have a4 := ze I; have K := ze J; obtain ⟨g,_,_,e1,_,x,fv,av⟩ := (HL.out.step t.out).node hv; subst e1
   have b0 : 0 < v.subs.length := by rw [o]; simp
   obtain ⟨va,L,rfl,-,-⟩ := av.at.form; obtain ⟨A,B,_,e2,f,n6,fu,au⟩ := av.node (j := 0) (v := u) (by rw [o]; rfl); subst e2; rw [Nat.zero_mul,Nat.add_zero] at n6; obtain ⟨ua,uc,rfl,-,-⟩ := au.at.form; have FV := ze fv; have FU := ze fu; have AU := ze au; have M := ze n6; have d0 := x.c0; have d1 := x.c1; have d2 := x.c2; have d3 := x.c3; have d4 := x.c4; have b1 : g < wr.heap.size := zw d0; clear x n6 fu au fv av hv D E F o H I J; go_wp2_with fail; obtain ⟨q,i⟩ : ∃ z,z = wr.alloc (.cells #[.int .i64 v.kind,.string ⟨v.name.toArray⟩,.int .i64 v.num,.int .i64 v.at',.slice (some ⟨A,B,none⟩) v.subs.length L] 100) := ⟨_,rfl⟩; rw [<- i]
   have a5 : q.heap.size = wr.heap.size + 1 := by rw [i]; simp
   have a6 : Hid (wr.grownBy q none) := by rw [i]; exact zf (zc wr none) _
   have a7 : Hid (Box q wr.heap.size v (.slice (some ⟨A,B,none⟩) v.subs.length L)) := by rw [i]; exact Box.new wr v _ _
   obtain ⟨m,n⟩ : ∃ z,z = q.alloc (.cells #[.int .i64 1,.string ⟨#[]⟩,.bool false,.pointer none,.pointer none,.int .i32 0,.int .i64 0,.bool false,.pointer none,.bool false,.pointer none] 90) := ⟨_,rfl⟩; rw [<- n]
   have N : Hid (q.grownBy m none) := by rw [n]; exact zf (zc q none) _
   have O := ze (za a6.out N.out); have Q : Hid (Box m wr.heap.size v (.slice (some ⟨A,B,none⟩) v.subs.length L)) := a7.out.kept N.out
   have T3 : Hid (Bk m (wr.heap.size + 1) (thV ρr { th0 with kind := 1 })) := by rw [n,<- a5]; exact Bk.new q _ _ rfl
   clear n i; have a8 : ρr.col (wr.heap.size + 1) = none := KR.out.km.fr _ (by omega); have R : ρr.col wr.heap.size = none := KR.out.km.fr _ (by omega); have r := ze (fun w9 (G : m.grownBy w9 none) => xT (za O.out G) (KR.out.up (za O.out G)) t.out.ok C v (.slice (some ⟨A,B,none⟩) v.subs.length L) FV.out (T3.out.kept G (by simp)) a8 (by omega) HD.out); have G3 : Hid (m.grownBy m none) := zc m none
   skip
   refine wp_region_held_drew (S := fun w9 => Sm m w9 (fun g => Kp ρr True g /\ g ≠ wr.heap.size + 1)) (by kernel_rfl) ?_ (fun hHeld => ?_)
   ·exact (Sm.refl m _).drew
   refine kQ 0 15 (.pointer (some ⟨b,0,none⟩)) hHeld ?_; simp only [qA,qB,qC,qD]; refine kQ 1 16 (.pointer (some ⟨b,0,none⟩)) hHeld ?_; simp only [qA,qB,qC,qD]; refine kQ 2 17 (.pointer (some ⟨b,0,none⟩)) hHeld ?_; simp only [qA,qB,qC,qD]; refine dk 3 (some 18) (zn v (.slice (some ⟨A,B,none⟩) v.subs.length L)) rfl rfl (fun w9 hS => by obtain ⟨_,_,_,_,_⟩ := Box.sm Q.out hS ⟨.inl R,by omega⟩; go_simp) hHeld ?_; simp only [qA,qB,qC,qD]; refine kQ 4 19 (.pointer (some ⟨wr.heap.size + 1,0,none⟩)) hHeld ?_; simp only [qA,qB,qC,qD]; refine rd 5 rfl fun KK hKK => ?_
   go_simp
   go_at_call 70; refine (r.out _ (zh G3.out)).mono ?_; rintro e w4 ⟨rfl,ρ4,U,k,V,X⟩; have S4 : Hid (Sm m w4 (fun g => Kp ρr True g /\ g ≠ wr.heap.size + 1)) := (Sm.of_none (zh G3.out) _).trans X; have d := ze U; have T4 := ze V; clear U V X
   go_simp
   refine hKK.out _ _ S4.out fun hHeld => ?_
   clear hKK KK; refine wpAnyH_done (by kernel_rfl) ?_ _; clear hHeld; have K4 : Hid (CK ρ4 w4 Sd b c) := KR.out.step d.out C; have a9 := ze (AU.out.step d.out).at; have Y : Hid (Node5 w4 A B u (.slice ua u.subs.length uc)) := ⟨d.out.sm.cell M.out.c0 (.inr (.inl f)),d.out.sm.cell M.out.c1 (.inr (.inl f)),d.out.sm.cell M.out.c2 (.inr (.inl f)),d.out.sm.cell M.out.c3 (.inr (.inl f)),d.out.sm.cell M.out.c4 (.inr (.inl f))⟩; have B4 := ze (Box.sm Q.out S4.out ⟨.inl R,by omega⟩); have x4 := B4.out.c4; have m0 := Y.out.c0; have m1 := Y.out.c1; have m2 := Y.out.c2; have m3 := Y.out.c3; have m4 := Y.out.c4; have Z := ze (rg a3.out w4 (.slice ua u.subs.length uc) K4.out FU.out a9.out); go_wp2_with fail; go_at_call 71; refine Z.out.mono ?_; rintro e w5 ⟨rfl,s⟩; have GG := ze s; have T5 := ze (T4.out.kept s (by simp)); have e4 := T5.out.c 4 _ rfl; have e5 := T5.out.c 5 _ rfl; have e9 := T5.out.c 9 _ rfl; have ez := T5.out.z; clear s x4 m0 m1 m2 m3 m4; go_wp2_with fail
   go_roundw
   case rel =>
    refine ⟨j + 1,ρ4,S1,by omega,by go_num,a2,?_⟩; rw [a4.out] at K ⊢; refine t.out.trans ((d.out.behind GG.out).setTh ?_ ?_ ?_ ?_ K.out)
    ·exact kF HD.out
    ·rw [k]
     exact (((Sm.refl w5 _).put (fun h9 => h9 rfl) _ _).put (fun h9 => h9 rfl) _ _).put (fun h9 => h9 rfl) _ _
    ·rw [k]; omega
    ·rw [k]
     exact ((T5.out.set 4 _).set 5 _).set 9 _
   case measure => first | omega | (simp only [intOf]; omega) | (simp; omega)
  ·obtain rfl := vt (by omega) HE.out
   go_wp2; refine bodyPost_end (results_none rfl _ _ _) rfl ?_
   exact ⟨rfl,_,t.out⟩
end
section
variable {ρ : Lay} {w w' w1 : World} {S : KS} {b : Nat} {c : KSc}
theorem gQ {m : Nat} (h : CK ρ w S b ⟨m,none⟩) (hk : S.okB = true) (hcb : ρ.col b = some .ck) {q : KS × Int} {S' : KS} {l : List T} {sv : Value} (ha : AF ρ.tr w l sv) (hs : vP (KS.varC m) l S 0 = some q) (hs' : ve (q.1.setMd m { q.1.md m with words := q.2 }) = some S') :
  Calls Tryz.prog 57 #[.pointer (some ⟨b,0,none⟩),sv] w (fun e w' => e = .returned (.tuple #[]) /\ ∃ ρ',Stp True ρ w S ρ' w' S') := by
 have HK := ze h; have HB := ze hk; have HL := ze ha; have HS := ze hs; have b4 := ze hs'; obtain ⟨_,_,rfl,_,b5⟩ := ha.at.form
 unfold maxLen at b5
 clear h hk ha hs hs'
 go_enter Tryz.func57,Tryz.ntmps57
 go_wp2_with fail
 go_loopw [10,4] (fun iv kv wr => ∃ (j : Nat) (ρr : Lay) (M : KS) (o : Int),j <= l.length /\ iv = .int .i64 ↑j /\ kv = .int .i64 o /\ 0 <= o /\ o <= 512 /\ Hid (vP (KS.varC m) (l.drop j) M o = some q) /\ Hid (Stp True ρ w S ρr wr M)) (fun iv _ _ => l.length - (intOf iv).toNat)
 case atStart => exact ⟨0,ρ,S,0,Nat.zero_le _,rfl,rfl,by omega,by omega,HS.out,Stp.refl HK.out.km HB.out⟩
 case round =>
  obtain ⟨j,ρr,M,o,_,rfl,rfl,_,_,HE,I⟩ := hrel; have A : Hid (CK ρr wr M b ⟨m,none⟩) := HK.out.step I.out hcb; have N : ρr.col b = some .ck := I.out.agr.col _ _ hcb
  by_cases b6 : j < l.length
  ·obtain ⟨v,hv⟩ : ∃ v,l[j]? = some v := ⟨_,List.getElem?_eq_getElem b6⟩
   obtain ⟨⟨S1,z1⟩,O,Q⟩ := ga hv HE.out; have b7 := ze Q; obtain ⟨Sd,t,u,_,R,B,U,V,X,Y,Z⟩ := mi O; have HD := ze R; have a0 := ze U; have b8 := ze V; have b9 := ze X; have HZ := ze Y; have c5 := ze Z; obtain ⟨g,_,_,e1,_,J,fv,av⟩ := (HL.out.step I.out).node hv; subst e1
   have d8 : 0 < v.subs.length := by rw [B]; simp
   obtain ⟨va,vc,rfl,-,-⟩ := av.at.form; obtain ⟨K,L,_,e2,i,n6,fu,au⟩ := av.node (j := 0) (v := u) (by rw [B]; rfl); subst e2; rw [Nat.zero_mul,Nat.add_zero] at n6; obtain ⟨ua,uc,rfl,-,-⟩ := au.at.form; have FV := ze fv; have FU := ze fu; have AU := ze au; have N6 := ze n6; have d0 := J.c0; have d1 := J.c1; have d2 := J.c2; have d3 := J.c3; have d4 := J.c4; have d9 : g < wr.heap.size := zw d0; clear J n6 fu au fv av hv O Q R B U V X Y Z; go_wp2_with fail; obtain ⟨C,k⟩ : ∃ z,z = wr.alloc (.cells #[.int .i64 v.kind,.string ⟨v.name.toArray⟩,.int .i64 v.num,.int .i64 v.at',.slice (some ⟨K,L,none⟩) v.subs.length vc] 100) := ⟨_,rfl⟩; rw [<- k]
   have c6 : C.heap.size = wr.heap.size + 1 := by rw [k]; simp
   have c7 : Hid (wr.grownBy C none) := by rw [k]; exact zf (zc wr none) _
   have c8 : Hid (Box C wr.heap.size v (.slice (some ⟨K,L,none⟩) v.subs.length vc)) := by rw [k]; exact Box.new wr v _ _
   obtain ⟨n,r⟩ : ∃ z,z = C.alloc (.cells #[.int .i64 3,.string ⟨#[]⟩,.bool false,.pointer none,.pointer none,.int .i32 0,.int .i64 o,.bool false,.pointer none,.bool false,.pointer none] 90) := ⟨_,rfl⟩; rw [<- r]
   have a1 : Hid (C.grownBy n none) := by rw [r]; exact zf (zc C none) _
   have a2 := ze (za c7.out a1.out); have a3 : Hid (Box n wr.heap.size v (.slice (some ⟨K,L,none⟩) v.subs.length vc)) := c8.out.kept a1.out
   have T3 : Hid (Bk n (wr.heap.size + 1) (thV ρr { th0 with kind := 3,first := o })) := by rw [r,<- c6]; exact Bk.new C _ _ rfl
   clear r k; have c9 : ρr.col (wr.heap.size + 1) = none := A.out.km.fr _ (by omega); have a4 : ρr.col wr.heap.size = none := A.out.km.fr _ (by omega); have D := ze (fun w9 (G : n.grownBy w9 none) => xT (za a2.out G) (A.out.up (za a2.out G)) I.out.ok N v (.slice (some ⟨K,L,none⟩) v.subs.length vc) FV.out (T3.out.kept G (by simp)) c9 (by omega) HD.out); have G3 : Hid (n.grownBy n none) := zc n none
   skip
   refine wp_region_held_drew (S := fun w9 => Sm n w9 (fun g => Kp ρr True g /\ g ≠ wr.heap.size + 1)) (by kernel_rfl) ?_ (fun hHeld => ?_)
   ·exact (Sm.refl n _).drew
   refine kQ 0 17 (.pointer (some ⟨b,0,none⟩)) hHeld ?_; simp only [qA,qB,qC,qD]; refine kQ 1 18 (.pointer (some ⟨b,0,none⟩)) hHeld ?_; simp only [qA,qB,qC,qD]; refine kQ 2 19 (.pointer (some ⟨b,0,none⟩)) hHeld ?_; simp only [qA,qB,qC,qD]; refine dk 3 (some 20) (zn v (.slice (some ⟨K,L,none⟩) v.subs.length vc)) rfl rfl (fun w9 hS => by obtain ⟨_,_,_,_,_⟩ := Box.sm a3.out hS ⟨.inl a4,by omega⟩; go_simp) hHeld ?_; simp only [qA,qB,qC,qD]; refine kQ 4 21 (.pointer (some ⟨wr.heap.size + 1,0,none⟩)) hHeld ?_; simp only [qA,qB,qC,qD]; refine rd 5 rfl fun KK hKK => ?_
   go_simp
   go_at_call 70; refine (D.out _ (zh G3.out)).mono ?_; rintro e w4 ⟨rfl,ρ4,a5,f,a6,a7⟩; have S4 : Hid (Sm n w4 (fun g => Kp ρr True g /\ g ≠ wr.heap.size + 1)) := (Sm.of_none (zh G3.out) _).trans a7; have d := ze a5; have T4 := ze a6; clear a5 a6 a7
   go_simp
   refine hKK.out _ _ S4.out fun hHeld => ?_
   clear hKK KK; refine wpAnyH_done (by kernel_rfl) ?_ _; clear hHeld; have K4 : Hid (CK ρ4 w4 Sd b ⟨m,none⟩) := A.out.step d.out N; have d5 := ze (AU.out.step d.out).at; have N4 : Hid (Node5 w4 K L u (.slice ua u.subs.length uc)) := ⟨d.out.sm.cell N6.out.c0 (.inr (.inl i)),d.out.sm.cell N6.out.c1 (.inr (.inl i)),d.out.sm.cell N6.out.c2 (.inr (.inl i)),d.out.sm.cell N6.out.c3 (.inr (.inl i)),d.out.sm.cell N6.out.c4 (.inr (.inl i))⟩; have B4 := ze (Box.sm a3.out S4.out ⟨.inl a4,by omega⟩); have x4 := B4.out.c4; have m0 := N4.out.c0; have m1 := N4.out.c1; have m2 := N4.out.c2; have m3 := N4.out.c3; have m4 := N4.out.c4; have a8 := ze (ym K4.out u (.slice ua u.subs.length uc) FU.out d5.out); have ht : t < Sd.tys.length := yM K4.out a0.out; go_wp2_with fail; go_at_call 74; refine a8.out.mono ?_; rw [a0.out]; rintro e w5 ⟨s,rfl⟩; have GG := ze s; have T5 := ze (T4.out.kept s (by simp)); have e4 := T5.out.c 4 _ rfl; have ez := T5.out.z; have E := (d.out.km.ty t ht).col; have F := (d.out.km.th M.ths.length (kF HD.out)).col; rw [f] at F
   have hne : ρ4.ty t ≠ wr.heap.size + 1 := fun e => by rw [e,F] at E; cases E
   have d7 : ¬ wr.heap.size + 1 = ρ4.ty t := fun e => hne e.symm
   obtain ⟨fw,a9,-⟩ := (d.out.km.ty t ht).bk; have y3 := zi s (a9.c 3 _ rfl); have b0 := ((KS.okP d.out.ok).tyP ht).2; have x := HZ.out; have b1 := c5.out
   generalize (Sd.ty t).words = wd at y3 b0 x
   obtain ⟨_,_⟩ := b0
   change z1 = o + wd at x
   change z1 <= 512 at b1
   have f0 : o + wd <= 512 := by omega
   have H := ze x; clear s x4 m0 m1 m2 m3 m4 a9 E F b1 x; go_wp2_with fail
   go_roundw
   case rel =>
    refine ⟨j + 1,ρ4,S1,z1,by omega,by go_num,?_,?_,?_,b7,?_⟩
    ·rw [H.out]; try go_num
    ·have := H.out; omega
    ·have := H.out; omega
    have b2 := b9.out; rw [show S1 = _ from b8.out] at b2 ⊢; refine I.out.trans ((d.out.behind GG.out).setTh ?_ ?_ ?_ ?_ b2)
    ·exact kF HD.out
    ·rw [f]
     exact (Sm.refl w5 _).put (fun h9 => h9 rfl) _ _
    ·rw [f]; omega
    ·rw [f]
     exact T5.out.set 4 _
   case measure => first | omega | (simp only [intOf]; omega) | (simp; omega)
  ·obtain rfl := fN (by omega) HE.out
   obtain ⟨rfl,b3⟩ := yg b4.out; have d6 := ze b3; have s1 : wr.cell? ⟨b,1,none⟩ = some (.pointer (some ⟨ρr.md m,0,none⟩)) := A.out.s1; obtain ⟨av,iv,dv,k1,-⟩ := (A.out.km.md m A.out.hc).bk; have e4 := k1.c 4 _ rfl; have ez := k1.z; clear b3 k1; go_wp2; refine bodyPost_end (results_none rfl _ _ _) rfl ?_
   exact ⟨rfl,_,I.out.words A.out.hc d6.out⟩
end
section
variable {ρ : Lay} {w w' w1 : World} {S : KS} {b : Nat} {c : KSc}
theorem jt {m p : Nat} (h : CK ρ w S b ⟨m,some p⟩) (hk : S.okB = true) (hcb : ρ.col b = some .ck) {q : KS × Int} {l : List T} {sv : Value} (ha : AF ρ.tr w l sv) (hn : ndB (S.pr p).inner = true) (hs : vP (KS.innVarC m p) l S (S.pr p).inner.length = some q) :
  Calls Tryz.prog 76 #[.pointer (some ⟨b,0,none⟩),sv] w (fun e w' => e = .returned (.int .i64 q.2) /\ ∃ ρ',Stp True ρ w S ρ' w' q.1) := by
 have HK := ze h; have HB := ze hk; have HL := ze ha; have HS := ze hs; obtain ⟨_,_,rfl,_,b0⟩ := ha.at.form
 unfold maxLen at b0
 have B := MapAt.len (h.km.pr p (h.hi p rfl)).mp (rf hn) (t := 77) rfl 3; rw [show (ρ.ths (S.pr p).inner).length = (S.pr p).inner.length by simp [Lay.ths]] at B; have s2 : w.cell? ⟨b,2,none⟩ = some (.map (some (ρ.inn p))) := h.s2; have b1 := ((KS.okP hk).prP (h.hi p rfl)).1.2; obtain ⟨kn,A⟩ : ∃ z,z = (S.pr p).inner.length := ⟨_,rfl⟩; rw [<- A] at B b1 HS; clear h hk ha hs hn A
 go_enter Tryz.func76,Tryz.ntmps76
 go_wp2_with fail
 go_loopw [17,5] (fun iv kv wr => ∃ (j : Nat) (ρr : Lay) (d : KS) (r : Int),j <= l.length /\ iv = .int .i64 ↑j /\ kv = .int .i64 r /\ 0 <= r /\ r <= 1000 /\ Hid (vP (KS.innVarC m p) (l.drop j) d r = some q) /\ Hid (Stp True ρ w S ρr wr d)) (fun iv _ _ => l.length - (intOf iv).toNat)
 case atStart => exact ⟨0,ρ,S,kn,Nat.zero_le _,rfl,rfl,by omega,by omega,HS.out,Stp.refl HK.out.km HB.out⟩
 case round =>
  clear B s2; obtain ⟨j,ρr,d,r,_,rfl,rfl,_,_,HE,M⟩ := hrel; have Q : Hid (CK ρr wr d b ⟨m,some p⟩) := HK.out.step M.out hcb; have c8 : ρr.col b = some .ck := M.out.agr.col _ _ hcb
  by_cases b2 : j < l.length
  ·obtain ⟨v,hv⟩ : ∃ v,l[j]? = some v := ⟨_,List.getElem?_eq_getElem b2⟩
   obtain ⟨⟨f,z1⟩,R,U⟩ := ga hv HE.out; have b3 := ze U; obtain ⟨t,u,_,C,D,E,V,X⟩ := sI R; have HD := ze E; have b4 := ze C; have HZ := ze V; have b5 := ze X; obtain ⟨-,-,F,-⟩ := xI E
   have b6 : Hid ((f.th d.ths.length).ty = some t) := by
    show _ = _
    rw [show f = _ from F,show ((d.addTh _).setPr p _).th d.ths.length = _ from xF _ _ _]
   have b7 : Hid (f.ty t = d.ty t) := by
    show _ = _
    rw [show f = _ from F]
    rfl
   obtain ⟨g,_,_,e1,_,N,fv,av⟩ := (HL.out.step M.out).node hv; subst e1
   have c9 : 0 < v.subs.length := by rw [D]; simp
   obtain ⟨va,Y,rfl,-,-⟩ := av.at.form; obtain ⟨O,Z,_,e2,_,H,fu,au⟩ := av.node (j := 0) (v := u) (by rw [D]; rfl); subst e2; rw [Nat.zero_mul,Nat.add_zero] at H; obtain ⟨ua,uc,rfl,-,-⟩ := au.at.form; have FV := ze fv; have FU := ze fu; have AU := ze au; have d0 := N.c0; have d1 := N.c1; have d2 := N.c2; have d3 := N.c3; have d4 := N.c4; have m0 := H.c0; have m1 := H.c1; have m2 := H.c2; have m3 := H.c3; have m4 := H.c4; have d5 : g < wr.heap.size := zw d0; have d6 : O < wr.heap.size := zw m0; have ht : t < d.tys.length := yM Q.out C; have a0 := ze (fun w9 (G : wr.grownBy w9 none) => ym (Q.out.up G) u (.slice ua u.subs.length uc) FU.out (AU.out.at.kept G)); clear N H fu au fv av hv R U E D C F V X; go_wp2_with fail; obtain ⟨w2,i⟩ : ∃ z,z = wr.alloc (.cells #[.int .i64 v.kind,.string ⟨v.name.toArray⟩,.int .i64 v.num,.int .i64 v.at',.slice (some ⟨O,Z,none⟩) v.subs.length Y] 100) := ⟨_,rfl⟩; go_at_call 74; rw [<- i]
   have d7 : w2.heap.size = wr.heap.size + 1 := by rw [i]; simp
   have a1 : Hid (wr.grownBy w2 none) := by rw [i]; exact zf (zc wr none) _
   have b8 : Hid (Box w2 wr.heap.size v (.slice (some ⟨O,Z,none⟩) v.subs.length Y)) := by rw [i]; exact Box.new wr v _ _
   clear i m0 m1 m2 m3 m4 d0 d1 d2 d3 d4; refine (a0.out _ a1.out).mono ?_; rw [b4.out]; rintro e n ⟨I,rfl⟩; have a2 := ze I; have d8 := I.size; clear I; go_wp2_with fail; obtain ⟨o,s⟩ : ∃ z,z = n.alloc (.cells #[.int .i64 0,.string ⟨#[]⟩,.bool false,.pointer none,.pointer (some ⟨ρr.ty t,0,none⟩),.int .i32 0,.int .i64 r,.bool false,.pointer none,.bool false,.pointer none] 90) := ⟨_,rfl⟩; rw [<- s]
   have a3 : Hid (n.grownBy o none) := by rw [s]; exact zf (zc n none) _
   have a4 := ze (za (za a1.out a2.out) a3.out); have b9 : Hid (Box o wr.heap.size v (.slice (some ⟨O,Z,none⟩) v.subs.length Y)) := (b8.out.kept a2.out).kept a3.out
   have T3 : Hid (Bk o n.heap.size (thV ρr { th0 with first := r,ty := some t })) := by rw [s]; exact Bk.new n _ _ rfl
   clear s; have c5 : ρr.col n.heap.size = none := Q.out.km.fr _ (by omega); have c6 : ρr.col wr.heap.size = none := Q.out.km.fr _ (by omega); have J := ze (fun w9 (G : o.grownBy w9 none) => ss (za a4.out G) (Q.out.up (za a4.out G)) M.out.ok v (.slice (some ⟨O,Z,none⟩) v.subs.length Y) FV.out rfl (T3.out.kept G (by simp)) c5 (by omega) HD.out); have G3 : Hid (o.grownBy o none) := zc o none
   skip
   refine wp_region_held_drew (S := fun w9 => Sm o w9 (fun g => Kp ρr True g /\ g ≠ n.heap.size)) (by kernel_rfl) ?_ (fun hHeld => ?_)
   ·exact (Sm.refl o _).drew
   refine kQ 0 30 (.pointer (some ⟨b,0,none⟩)) hHeld ?_; simp only [qA,qB,qC,qD]; refine kQ 1 31 (.pointer (some ⟨b,0,none⟩)) hHeld ?_; simp only [qA,qB,qC,qD]; refine kQ 2 32 (.pointer (some ⟨b,0,none⟩)) hHeld ?_; simp only [qA,qB,qC,qD]; refine dk 3 (some 33) (zn v (.slice (some ⟨O,Z,none⟩) v.subs.length Y)) rfl rfl (fun w9 hS => by obtain ⟨_,_,_,_,_⟩ := Box.sm b9.out hS ⟨.inl c6,by omega⟩; go_simp) hHeld ?_; simp only [qA,qB,qC,qD]; refine kQ 4 34 (.pointer (some ⟨n.heap.size,0,none⟩)) hHeld ?_; simp only [qA,qB,qC,qD]; refine rd 5 rfl fun KK hKK => ?_
   go_simp
   go_at_call 109; refine (J.out _ (zh G3.out)).mono ?_; rintro e w4 ⟨rfl,ρ4,a5,c7,a6,a7⟩; have S4 : Hid (Sm o w4 (fun g => Kp ρr True g /\ g ≠ n.heap.size)) := (Sm.of_none (zh G3.out) _).trans a7; have x := ze a5; have T4 := ze a6; clear a5 a6 a7
   go_simp
   refine hKK.out _ _ S4.out fun hHeld => ?_
   clear hKK KK; refine wpAnyH_done (by kernel_rfl) ?_ _; clear hHeld; have a8 : t < f.tys.length := Nat.lt_of_lt_of_le ht x.out.tys
   have e4 : w4.cell? ⟨n.heap.size,4,none⟩ = some (.pointer (some ⟨ρ4.ty t,0,none⟩)) := by
    have h9 := T4.out.c 4 _ rfl; rw [show (f.th d.ths.length).ty = some t from b6.out] at h9
    exact h9
   have y3 := x.out.km.y3 a8; have K := ((KS.okP x.out.ok).tyP a8).2; have k := HZ.out; have a9 := b5.out
   change z1 = r + (d.ty t).words at k
   rw [<- show f.ty t = d.ty t from b7.out] at k
   change w4.cell? ⟨ρ4.ty t,3,none⟩ = some (.int .i64 (f.ty t).words) at y3
   change 0 <= (f.ty t).words /\ (f.ty t).words <= 1000000 at K
   generalize (f.ty t).words = wd at y3 K k
   obtain ⟨_,_⟩ := K
   change z1 <= 512 at a9
   have d9 : r + wd <= 512 := by omega
   have L := ze k; clear a9 k; go_wp2_with fail
   go_roundw
   case rel =>
    refine ⟨j + 1,ρ4,f,z1,by omega,by go_num,?_,?_,?_,b3,M.out.trans x.out⟩
    ·rw [L.out]; try go_num
    ·have := L.out; omega
    ·have := L.out; omega
   case measure => first | omega | (simp only [intOf]; omega) | (simp; omega)
  ·obtain rfl := fN (by omega) HE.out
   go_wp2
   go_ret
   exact ⟨rfl,_,M.out⟩
end
section
variable {ρ : Lay} {w w' w1 : World} {S : KS} {b : Nat} {c : KSc}
theorem gN {mm pp : Nat} (h : CK ρ w S b ⟨mm,some pp⟩) (n : T) (sv : Value) (hf : Fits n) (hk : S.okB = true) (hcb : ρ.col b = some .ck) {S1 S2 : KS} {t : Nat} (ha : AF ρ.tr w n.subs sv) (hn : ndB (S.pr pp).inner = true) (hd : S.innerC pp n { th0 with first := (S.pr pp).inner.length,byVar := (n.num == 1) } = some S1) (hty : (if n.num = 1 then S1.typeO ⟨mm,some pp⟩ (sub n 0) else S1.oneO ⟨mm,some pp⟩ (sub n 0)) = some t) (hg : ve (S1.setTh S.ths.length { S1.th S.ths.length with ty := some t }) = some S2) :
  Calls Tryz.prog 107 #[.pointer (some ⟨b,0,none⟩),zn n sv] w (fun e w' => ∃ ρ',Stp True ρ w S ρ' w' S2 /\ e = .returned (.pointer (some ⟨ρ'.th S.ths.length,0,none⟩)) /\ Sm w w' (fun g => ρ.col g ≠ some (.inn pp))) := by
 have Z := ze h; have HB := ze hk; have HF := ze hf; have HD := ze hd
 obtain ⟨u,r,a1,a6⟩ : ∃ u r,n.subs = u :: r /\ (if n.num = 1 then S1.typeName ⟨mm,some pp⟩ u = .ok t else S1.oneWordType ⟨mm,some pp⟩ u = .ok t) := by
  split at hty
  ·rename_i h1
   obtain ⟨h7,h8⟩ := vY hty; obtain ⟨u,r,i,a2⟩ := uW h7
   exact ⟨u,r,i,by rw [if_pos h1,<- a2]; exact h8⟩
  ·rename_i h1
   obtain ⟨h7,h8⟩ := rU hty; obtain ⟨u,r,i,a2⟩ := uW h7
   exact ⟨u,r,i,by rw [if_neg h1,<- a2]; exact h8⟩
 obtain ⟨rfl,a7⟩ := yg hg; have a8 := ze a7
 have b1 : 0 < n.subs.length := by rw [a1]; simp
 obtain ⟨va,U,rfl,-,-⟩ := ha.at.form; obtain ⟨V,X,_,e2,o,n6,fu,au⟩ := ha.node (j := 0) (v := u) (by rw [a1]; rfl); subst e2; rw [Nat.zero_mul,Nat.add_zero] at n6; obtain ⟨ua,uc,rfl,-,-⟩ := au.at.form; have FU := ze fu; have AU := ze au; have Y := ze n6
 have a9 : Hid (∀ w9,w.grownBy w9 none -> _) := fun w9 (G : w.grownBy w9 none) => MapAt.len ((h.up G).km.pr pp (h.hi pp rfl)).mp (rf hn) (t := 77) rfl 3
 have s2 : Hid (w.cell? ⟨b,2,none⟩ = some (.map (some (ρ.inn pp)))) := h.s2; have b3 := ((KS.okP hk).prP (h.hi pp rfl)).1.2; obtain ⟨H,I⟩ : ∃ z,z = (S.pr pp).inner.length := ⟨_,rfl⟩
 have a0 : Hid (∀ w9,w.grownBy w9 none -> (Builtin.len_ #[77] 3 #[.map (some (ρ.inn pp))]).run Tryz.prog w9 = .ok (.int .i64 H) w9) := fun w9 G => by
  have i := a9.out w9 G; rwa [show (ρ.ths (S.pr pp).inner).length = H by simp [Lay.ths,I]] at i
 rw [<- I] at HD; have b0 := ze a6; clear h hk hf hd hty hg a7 ha hn I a9 n6 fu au a1 a6; obtain ⟨E,x,m,p,l⟩ := n
 change Calls Tryz.prog 107 #[.pointer (some ⟨b,0,none⟩),.agg #[.int .i64 E,.string ⟨x.toArray⟩,.int .i64 m,.int .i64 p,.slice (some ⟨V,X,none⟩) l.length U]] w _
 obtain ⟨f,F⟩ : ∃ z,z = w.alloc (.cells #[.int .i64 E,.string ⟨x.toArray⟩,.int .i64 m,.int .i64 p,.slice (some ⟨V,X,none⟩) l.length U] 100) := ⟨_,rfl⟩
 have G0 : Hid (w.grownBy f none) := by rw [F]; exact zf (zc w none) _
 have B0 : Hid (Box f w.heap.size (.mk E x m p l) (.slice (some ⟨V,X,none⟩) l.length U)) := by rw [F]; exact Box.new w (.mk E x m p l) (.slice (some ⟨V,X,none⟩) l.length U) _
 change 0 < l.length at b1
 by_cases hm : m = 1
 ·have hd := hm
  subst hd
  have a3 : Hid (S1.typeName ⟨mm,some pp⟩ u = .ok t) := by show _ = _; have i := b0.out; simpa [T.num] using i
  go_enter Tryz.func107,Tryz.ntmps107
  go_wp2_with fail; rw [<- F]; clear F; refine wp_region_held_drew (S := fun w9 => f.grownBy w9 none) (by kernel_rfl) ?_ (fun hHeld => ?_)
  ·exact zh (zc f none)
  refine kQ 0 6 (.pointer (some ⟨b,0,none⟩)) hHeld ?_; simp only [qA,qB,qC,qD]; refine kQ 1 7 (.pointer (some ⟨b,0,none⟩)) hHeld ?_; simp only [qA,qB,qC,qD]; refine kQ 2 8 (.pointer (some ⟨b,0,none⟩)) hHeld ?_; simp only [qA,qB,qC,qD]; refine kQ 3 9 (.pointer (some ⟨b,2,none⟩)) hHeld ?_; simp only [qA,qB,qC,qD]; refine dk 4 (some 10) (.map (some (ρ.inn pp))) rfl rfl (fun w9 hS => by have q1 := zi (za G0.out hS) s2.out; go_simp) hHeld ?_; simp only [qA,qB,qC,qD]; refine dk 5 (some 11) (.int .i64 ↑H) rfl rfl (fun w9 hS => by have q1 := a0.out w9 (za G0.out hS); go_simp) hHeld ?_; simp only [qA,qB,qC,qD]; refine kQ 6 12 (.pointer (some ⟨w.heap.size,2,none⟩)) hHeld ?_; simp only [qA,qB,qC,qD]; refine dk 7 (some 13) (.int .i64 1) rfl rfl (fun w9 hS => by obtain ⟨q0,q1,q2,q3,q4⟩ := (Box.kept B0.out hS).plain; go_simp) hHeld ?_; simp only [qA,qB,qC,qD]; refine kQ 8 14 (.bool true) hHeld ?_; simp only [qA,qB,qC,qD]; refine kQ 9 15 (.agg #[.int .i64 0,.string ⟨#[]⟩,.bool false,.pointer none,.pointer none,.int .i32 0,.int .i64 ↑H,.bool true,.pointer none,.bool false,.pointer none]) hHeld ?_; simp only [qA,qB,qC,qD]; refine rd 10 rfl fun KK hKK => ?_
  go_simp
  refine hKK.out _ _ (zh (zf (zc f none) _)) fun hHeld => ?_
  clear hKK KK; refine kQ 11 5 (.pointer (some ⟨f.heap.size,0,none⟩)) hHeld ?_; simp only [qA,qB,qC,qD]; refine wpAnyH_done (by kernel_rfl) ?_ _; clear hHeld; go_wp2_with fail; obtain ⟨q,s⟩ : ∃ z,z = (f.alloc (.cells #[.int .i64 0,.string ⟨#[]⟩,.bool false,.pointer none,.pointer none,.int .i32 0,.int .i64 H,.bool true,.pointer none,.bool false,.pointer none] 90)).drew := ⟨_,rfl⟩; rw [<- s]
  have J : Hid (f.grownBy q none) := by rw [s]; exact zh (zf (zc f none) _)
  have A := ze (za G0.out J.out); have K : Hid (Box q w.heap.size (.mk E x 1 p l) (.slice (some ⟨V,X,none⟩) l.length U)) := B0.out.kept J.out
  have T3 : Hid (Bk q f.heap.size (thV ρ { th0 with first := H,byVar := true })) := by rw [s]; exact Bk.drew (Bk.new f _ _ rfl)
  have L := B0.out.c0; have b2 : w.heap.size < f.heap.size := zw L; clear s L; have a4 : ρ.col f.heap.size = none := Z.out.km.fr _ (by omega); have M : ρ.col w.heap.size = none := Z.out.km.fr _ (by omega)
  have B : Hid (S.innerC pp (.mk E x 1 p l) { th0 with first := H,byVar := true } = some S1) := by show _ = _; have i := HD.out; exact i
  have C := ze (fun w9 (G : q.grownBy w9 none) => uy (za A.out G) (Z.out.up (za A.out G)) HB.out (.mk E x 1 p l) (.slice (some ⟨V,X,none⟩) l.length U) HF.out rfl (T3.out.kept G (by simp)) a4 (by omega) B.out); have G3 : Hid (q.grownBy q none) := zc q none
  skip
  refine wp_region_held_drew (S := fun w9 => Sm q w9 (fun g => g ≠ f.heap.size /\ ρ.col g ≠ some (.inn pp))) (by kernel_rfl) ?_ (fun hHeld => ?_)
  ·exact (Sm.refl q _).drew
  refine kQ 0 17 (.pointer (some ⟨b,0,none⟩)) hHeld ?_; simp only [qA,qB,qC,qD]; refine kQ 1 18 (.pointer (some ⟨b,0,none⟩)) hHeld ?_; simp only [qA,qB,qC,qD]; refine kQ 2 19 (.pointer (some ⟨b,0,none⟩)) hHeld ?_; simp only [qA,qB,qC,qD]; refine dk 3 (some 20) (.agg #[.int .i64 E,.string ⟨x.toArray⟩,.int .i64 1,.int .i64 p,.slice (some ⟨V,X,none⟩) l.length U]) rfl rfl (fun w9 hS => by obtain ⟨q0,q1,q2,q3,q4⟩ := (Box.sm K.out hS ⟨by omega,by rw [M]; nofun⟩).plain; go_simp) hHeld ?_; simp only [qA,qB,qC,qD]; refine kQ 4 21 (.pointer (some ⟨f.heap.size,0,none⟩)) hHeld ?_; simp only [qA,qB,qC,qD]; refine rd 5 rfl fun KK hKK => ?_
  go_simp
  go_at_call 109; refine (C.out _ (zh G3.out)).mono ?_; rintro e w4 ⟨rfl,ρ4,N,k,O,Q⟩; have S4 : Hid (Sm q w4 (fun g => g ≠ f.heap.size /\ ρ.col g ≠ some (.inn pp))) := (Sm.of_none (zh G3.out) _).trans Q; have d := ze N; have T4 := ze O; clear N O Q
  go_simp
  refine hKK.out _ _ S4.out fun hHeld => ?_
  clear hKK KK; refine wpAnyH_done (by kernel_rfl) ?_ _; clear hHeld; have K4 : Hid (CK ρ4 w4 S1 b ⟨mm,some pp⟩) := Z.out.step d.out hcb; have a5 := ze (AU.out.step d.out).at; have B4 := ze (Box.sm K.out S4.out ⟨by omega,by rw [M]; nofun⟩); have x4 := B4.out.c4; have m0 := d.out.sm.cell Y.out.c0 (.inr (.inl o)); have m1 := d.out.sm.cell Y.out.c1 (.inr (.inl o)); have m2 := d.out.sm.cell Y.out.c2 (.inr (.inl o)); have m3 := d.out.sm.cell Y.out.c3 (.inr (.inl o)); have m4 := d.out.sm.cell Y.out.c4 (.inr (.inl o))
  have e7 : w4.cell? ⟨f.heap.size,7,none⟩ = some (.bool true) := by
   obtain ⟨-,-,h8,-⟩ := xI B.out; have i := T4.out.c 7 _ rfl; rw [show S1 = _ from h8,show ((S.addTh _).setPr pp _).th S.ths.length = _ from xF _ _ _] at i
   exact i
  have R := ze (ym K4.out u (.slice ua u.subs.length uc) FU.out a5.out); go_wp2_with fail; go_at_call 74; refine R.out.mono ?_; rw [a3.out]; rintro e w5 ⟨D,rfl⟩; have GG := ze D; have T5 := ze (T4.out.kept D (by simp)); have e4 := T5.out.c 4 _ rfl; have ez := T5.out.z; clear D x4 m0 m1 m2 m3 m4 e7; go_wp2
  go_ret
  refine ⟨ρ4,(d.out.behind GG.out).setTh (gB B.out) ?_ ?_ ?_ a8.out,by rw [k]; rfl,?_⟩
  ·rw [k]
   exact (Sm.refl w5 _).put (fun i => i rfl) _ _
  ·rw [k]; omega
  ·rw [k]
   exact T5.out.set 4 _
  ·have SQ : Sm w w5 (fun g => ρ.col g ≠ some (.inn pp) /\ g ≠ f.heap.size) := ((Sm.of_none A.out _).trans (S4.out.mono (fun g _ h => ⟨h.2,h.1⟩))).trans (Sm.of_none GG.out _)
   exact (SQ.put (fun i => i.2 rfl) _ _).mono (fun g hg i => ⟨i,by omega⟩)
 ·have hd : (m == 1) = false := by simpa using hm
  have a3 : Hid (S1.oneWordType ⟨mm,some pp⟩ u = .ok t) := by show _ = _; have i := b0.out; simpa [T.num,hm] using i
  go_enter Tryz.func107,Tryz.ntmps107
  go_wp2_with fail; rw [<- F]; clear F; refine wp_region_held_drew (S := fun w9 => f.grownBy w9 none) (by kernel_rfl) ?_ (fun hHeld => ?_)
  ·exact zh (zc f none)
  refine kQ 0 6 (.pointer (some ⟨b,0,none⟩)) hHeld ?_; simp only [qA,qB,qC,qD]; refine kQ 1 7 (.pointer (some ⟨b,0,none⟩)) hHeld ?_; simp only [qA,qB,qC,qD]; refine kQ 2 8 (.pointer (some ⟨b,0,none⟩)) hHeld ?_; simp only [qA,qB,qC,qD]; refine kQ 3 9 (.pointer (some ⟨b,2,none⟩)) hHeld ?_; simp only [qA,qB,qC,qD]; refine dk 4 (some 10) (.map (some (ρ.inn pp))) rfl rfl (fun w9 hS => by have q1 := zi (za G0.out hS) s2.out; go_simp) hHeld ?_; simp only [qA,qB,qC,qD]; refine dk 5 (some 11) (.int .i64 ↑H) rfl rfl (fun w9 hS => by have q1 := a0.out w9 (za G0.out hS); go_simp) hHeld ?_; simp only [qA,qB,qC,qD]; refine kQ 6 12 (.pointer (some ⟨w.heap.size,2,none⟩)) hHeld ?_; simp only [qA,qB,qC,qD]; refine dk 7 (some 13) (.int .i64 m) rfl rfl (fun w9 hS => by obtain ⟨q0,q1,q2,q3,q4⟩ := (Box.kept B0.out hS).plain; go_simp) hHeld ?_; simp only [qA,qB,qC,qD]; refine kQ 8 14 (.bool false) hHeld ?_; simp only [qA,qB,qC,qD]; refine kQ 9 15 (.agg #[.int .i64 0,.string ⟨#[]⟩,.bool false,.pointer none,.pointer none,.int .i32 0,.int .i64 ↑H,.bool false,.pointer none,.bool false,.pointer none]) hHeld ?_; simp only [qA,qB,qC,qD]; refine rd 10 rfl fun KK hKK => ?_
  go_simp
  refine hKK.out _ _ (zh (zf (zc f none) _)) fun hHeld => ?_
  clear hKK KK; refine kQ 11 5 (.pointer (some ⟨f.heap.size,0,none⟩)) hHeld ?_; simp only [qA,qB,qC,qD]; refine wpAnyH_done (by kernel_rfl) ?_ _; clear hHeld; go_wp2_with fail; obtain ⟨q,s⟩ : ∃ z,z = (f.alloc (.cells #[.int .i64 0,.string ⟨#[]⟩,.bool false,.pointer none,.pointer none,.int .i32 0,.int .i64 H,.bool false,.pointer none,.bool false,.pointer none] 90)).drew := ⟨_,rfl⟩; rw [<- s]
  have J : Hid (f.grownBy q none) := by rw [s]; exact zh (zf (zc f none) _)
  have A := ze (za G0.out J.out); have K : Hid (Box q w.heap.size (.mk E x m p l) (.slice (some ⟨V,X,none⟩) l.length U)) := B0.out.kept J.out
  have T3 : Hid (Bk q f.heap.size (thV ρ { th0 with first := H,byVar := false })) := by rw [s]; exact Bk.drew (Bk.new f _ _ rfl)
  have L := B0.out.c0; have b2 : w.heap.size < f.heap.size := zw L; clear s L; have a4 : ρ.col f.heap.size = none := Z.out.km.fr _ (by omega); have M : ρ.col w.heap.size = none := Z.out.km.fr _ (by omega)
  have B : Hid (S.innerC pp (.mk E x m p l) { th0 with first := H,byVar := false } = some S1) := by show _ = _; have i := HD.out; rw [show (T.num (.mk E x m p l) == 1) = false from hd] at i; exact i
  have C := ze (fun w9 (G : q.grownBy w9 none) => uy (za A.out G) (Z.out.up (za A.out G)) HB.out (.mk E x m p l) (.slice (some ⟨V,X,none⟩) l.length U) HF.out rfl (T3.out.kept G (by simp)) a4 (by omega) B.out); have G3 : Hid (q.grownBy q none) := zc q none
  skip
  refine wp_region_held_drew (S := fun w9 => Sm q w9 (fun g => g ≠ f.heap.size /\ ρ.col g ≠ some (.inn pp))) (by kernel_rfl) ?_ (fun hHeld => ?_)
  ·exact (Sm.refl q _).drew
  refine kQ 0 17 (.pointer (some ⟨b,0,none⟩)) hHeld ?_; simp only [qA,qB,qC,qD]; refine kQ 1 18 (.pointer (some ⟨b,0,none⟩)) hHeld ?_; simp only [qA,qB,qC,qD]; refine kQ 2 19 (.pointer (some ⟨b,0,none⟩)) hHeld ?_; simp only [qA,qB,qC,qD]; refine dk 3 (some 20) (.agg #[.int .i64 E,.string ⟨x.toArray⟩,.int .i64 m,.int .i64 p,.slice (some ⟨V,X,none⟩) l.length U]) rfl rfl (fun w9 hS => by obtain ⟨q0,q1,q2,q3,q4⟩ := (Box.sm K.out hS ⟨by omega,by rw [M]; nofun⟩).plain; go_simp) hHeld ?_; simp only [qA,qB,qC,qD]; refine kQ 4 21 (.pointer (some ⟨f.heap.size,0,none⟩)) hHeld ?_; simp only [qA,qB,qC,qD]; refine rd 5 rfl fun KK hKK => ?_
  go_simp
  go_at_call 109; refine (C.out _ (zh G3.out)).mono ?_; rintro e w4 ⟨rfl,ρ4,N,k,O,Q⟩; have S4 : Hid (Sm q w4 (fun g => g ≠ f.heap.size /\ ρ.col g ≠ some (.inn pp))) := (Sm.of_none (zh G3.out) _).trans Q; have d := ze N; have T4 := ze O; clear N O Q
  go_simp
  refine hKK.out _ _ S4.out fun hHeld => ?_
  clear hKK KK; refine wpAnyH_done (by kernel_rfl) ?_ _; clear hHeld; have K4 : Hid (CK ρ4 w4 S1 b ⟨mm,some pp⟩) := Z.out.step d.out hcb; have a5 := ze (AU.out.step d.out).at; have B4 := ze (Box.sm K.out S4.out ⟨by omega,by rw [M]; nofun⟩); have x4 := B4.out.c4; have m0 := d.out.sm.cell Y.out.c0 (.inr (.inl o)); have m1 := d.out.sm.cell Y.out.c1 (.inr (.inl o)); have m2 := d.out.sm.cell Y.out.c2 (.inr (.inl o)); have m3 := d.out.sm.cell Y.out.c3 (.inr (.inl o)); have m4 := d.out.sm.cell Y.out.c4 (.inr (.inl o))
  have e7 : w4.cell? ⟨f.heap.size,7,none⟩ = some (.bool false) := by
   obtain ⟨-,-,h8,-⟩ := xI B.out; have i := T4.out.c 7 _ rfl; rw [show S1 = _ from h8,show ((S.addTh _).setPr pp _).th S.ths.length = _ from xF _ _ _] at i
   exact i
  have R := ze (vW K4.out u (.slice ua u.subs.length uc) FU.out a5.out); go_wp2_with fail; go_at_call 108; refine R.out.mono ?_; rw [a3.out]; rintro e w5 ⟨D,rfl⟩; have GG := ze D; have T5 := ze (T4.out.kept D (by simp)); have e4 := T5.out.c 4 _ rfl; have ez := T5.out.z; clear D x4 m0 m1 m2 m3 m4 e7; go_wp2
  go_ret
  refine ⟨ρ4,(d.out.behind GG.out).setTh (gB B.out) ?_ ?_ ?_ a8.out,by rw [k]; rfl,?_⟩
  ·rw [k]
   exact (Sm.refl w5 _).put (fun i => i rfl) _ _
  ·rw [k]; omega
  ·rw [k]
   exact T5.out.set 4 _
  ·have SQ : Sm w w5 (fun g => ρ.col g ≠ some (.inn pp) /\ g ≠ f.heap.size) := ((Sm.of_none A.out _).trans (S4.out.mono (fun g _ h => ⟨h.2,h.1⟩))).trans (Sm.of_none GG.out _)
   exact (SQ.put (fun i => i.2 rfl) _ _).mono (fun g hg i => ⟨i,by omega⟩)
end
set_option maxHeartbeats 1000000
section
variable {ρ : Lay} {w w' w1 : World} {S : KS} {b : Nat} {c : KSc}
theorem fB {a : Option Addr} {cp : Nat} : Calls Tryz.prog 54 #[.pointer (some ⟨b,0,none⟩),.slice a 0 cp] w (fun e w' => e = .returned (.tuple #[]) /\ w' = w) := by
 go_enter Tryz.func54,Tryz.ntmps54
 go_wp2_with fail
 go_loopw [9] (fun iv wr => iv = .int .i64 0 /\ wr = w) (fun _ _ => 0)
 case atStart => exact ⟨rfl,rfl⟩
 case round =>
  obtain ⟨rfl,rfl⟩ := hrel; go_wp2; refine bodyPost_end (results_none rfl _ _ _) rfl ?_
  exact ⟨rfl,rfl⟩
end
end Go.Proofs.YtnmkffjklpfflaaGreatDoor
