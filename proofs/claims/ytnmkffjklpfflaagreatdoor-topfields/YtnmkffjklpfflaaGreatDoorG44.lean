/- Declarations: variables of a procedure,both ways. -/
import Derived.Test.YtnmkffjklpfflaaGreatDoorG21
import Derived.Test.YtnmkffjklpfflaaGreatDoorG20
namespace Go.Proofs.YtnmkffjklpfflaaGreatDoor
open Go.RowKit
set_option maxHeartbeats 4000000
set_option maxRecDepth 100000
section
variable {ρ : Lay} {w w' w1 : World} {S : KS} {b : Nat} {c : KSc}
theorem qw {m p : Nat} (h : CK ρ w S b ⟨m,some p⟩) (hk : S.okB = true) (hcb : ρ.col b = some .ck) {l : List T} {sv : Value} (ha : AF ρ.tr w l sv) (hn : ndB (S.pr p).inner = true) (hw : ∀ v ∈ l,OneSub v) (hll : (S.pr p).inner.length + l.length <= 100000) :
  Calls Tryz.prog 76 #[pq b,sv] w (fun e w' => Ends ρ w (xm (KS.innVarC m p) l S (S.pr p).inner.length) (fun q => e = .returned (.int .i64 q.2) /\ ∃ ρ',Stp True ρ w S ρ' w' q.1) e w') := by
 have HK := zc h; have HB := zc hk; have HL := zc ha; have HW := zc hw; obtain ⟨_,_,rfl,_,b8⟩ := ha.at.form
 unfold maxLen at b8
 have I := MapAt.len (h.km.pr p (h.hi p rfl)).mp (oG hn) (t := 77) rfl 3; rw [show (ρ.ths (S.pr p).inner).length = (S.pr p).inner.length by simp [Lay.ths]] at I; have s2 : w.cell? ⟨b,2,none⟩ = some (.map (some (ρ.inn p))) := h.s2; have b9 := ((KS.okP hk).prP (h.hi p rfl)).1.2; obtain ⟨kn,n⟩ : ∃ z,z = (S.pr p).inner.length := ⟨_,rfl⟩; rw [<- n] at I b9 hll ⊢; obtain ⟨R,hR⟩ : ∃ z,z = xm (KS.innVarC m p) l S kn := ⟨_,rfl⟩; rw [<- hR]; have c5 : (S.pr p).inner.length = kn := n.symm; clear h hk ha hw hn n
 go_enter Tryz.func76,Tryz.ntmps76
 go_wp2_with fail
 go_loopw [17,5] (fun iv kv wr => ∃ (j : Nat) (ρr : Lay) (d : KS) (i : Int),j <= l.length /\ iv = .int .i64 ↑j /\ kv = .int .i64 i /\ 0 <= i /\ i <= 100000 /\ Hid (xm (KS.innVarC m p) (l.drop j) d i = R) /\ Hid ((d.pr p).inner.length = kn + j) /\ Hid (Stp True ρ w S ρr wr d)) (fun iv _ _ => l.length - (intOf iv).toNat)
 case atStart => exact ⟨0,ρ,S,kn,Nat.zero_le _,rfl,rfl,by omega,by omega,hR.symm,c5,Stp.refl HK.out.km HB.out⟩
 case round =>
  clear I s2; obtain ⟨j,ρr,d,i,hj,rfl,rfl,_,_,HE,a0,A⟩ := hrel; have J : Hid (CK ρr wr d b ⟨m,some p⟩) := HK.out.step A.out hcb; have d9 : ρr.col b = some .ck := A.out.agr.col _ _ hcb
  by_cases c6 : j < l.length
  ·obtain ⟨v,hv⟩ : ∃ v,l[j]? = some v := ⟨_,List.getElem?_eq_getElem c6⟩
   obtain ⟨u,_,o,K⟩ := HW.out v (List.mem_of_getElem? hv)
   have c7 : Hid (∀ q,d.innVarC' m p i v u = some q -> xm (KS.innVarC m p) (l.drop (j + 1)) q.1 q.2 = R) := fun q Z => oM hv HE.out ((qO o K).trans Z)
   have L : Hid (d.innVarC' m p i v u = none -> R = none) := fun Z => HE.out.symm.trans (oE hv ((qO o K).trans Z))
   obtain ⟨g,_,_,e1,_,n5,fv,av⟩ := (HL.out.step A.out).node hv; subst e1
   have f0 : 0 < v.subs.length := by rw [o]; simp
   obtain ⟨va,vc,rfl,-,-⟩ := av.at.form; obtain ⟨M,o2,_,e2,_,N,fu,au⟩ := av.node (j := 0) (v := u) (by rw [o]; rfl); subst e2; rw [Nat.zero_mul,Nat.add_zero] at N; obtain ⟨ua,uc,rfl,-,-⟩ := au.at.form; have FV := zc fv; have FU := zc fu; have AU := zc au; have d0 := n5.c0; have d1 := n5.c1; have d2 := n5.c2; have d3 := n5.c3; have d4 := n5.c4; have m0 := N.c0; have m1 := N.c1; have m2 := N.c2; have m3 := N.c3; have m4 := N.c4; have f1 : g < wr.heap.size := zw d0; have f2 : M < wr.heap.size := zw m0; have a1 := zc (fun w9 (G : wr.grownBy w9 none) => yG (J.out.up G) u (.slice ua u.subs.length uc) FU.out (AU.out.at.kept G)); clear n5 N fu au fv av hv o K; go_wp2_with fail; obtain ⟨w2,r⟩ : ∃ z,z = wr.alloc (.cells #[.int .i64 v.kind,.string ⟨v.name.toArray⟩,.int .i64 v.num,.int .i64 v.at',.slice (some ⟨M,o2,none⟩) v.subs.length vc] 100) := ⟨_,rfl⟩; go_at_call 74; rw [<- r]
   have f3 : w2.heap.size = wr.heap.size + 1 := by rw [r]; simp
   have O : Hid (wr.grownBy w2 none) := by rw [r]; exact zh grn _
   have c8 : Hid (Box w2 wr.heap.size v (.slice (some ⟨M,o2,none⟩) v.subs.length vc)) := by rw [r]; exact Box.new wr v _ _
   clear r m0 m1 m2 m3 m4 d0 d1 d2 d3 d4; refine (a1.out _ O.out).mono ?_; cases C : d.typeName ⟨m,some p⟩ u with
   | error x =>
    intro e k h5; have hN := L.out (by simp [KS.innVarC',C,uS]); have D : Thw ρ w e k := ((Thw.cy h5).ahead O.out).step A.out; obtain ⟨q,rfl⟩ := D.thrown
    exact ⟨rfl,Ends.no hN D⟩
   | ok t =>
    rintro e k ⟨Q,rfl⟩; have ht : t < d.tys.length := yF J.out C; have a2 := zc C; clear C; have a3 := zc Q; have f4 := Q.size; clear Q; go_wp2_with fail; obtain ⟨B,E⟩ : ∃ z,z = k.alloc (.cells #[.int .i64 0,.string ⟨#[]⟩,.bool false,.pointer none,pq (ρr.ty t),.int .i32 0,.int .i64 i,.bool false,.pointer none,.bool false,.pointer none] 90) := ⟨_,rfl⟩; rw [<- E]
    have a4 : Hid (k.grownBy B none) := by rw [E]; exact zh grn _
    have a5 := zc (za (za O.out a3.out) a4.out); have a6 : Hid (Box B wr.heap.size v (.slice (some ⟨M,o2,none⟩) v.subs.length vc)) := (c8.out.kept a3.out).kept a4.out
    have T3 : Hid (Bk B k.heap.size (thV ρr { th0 with first := i,ty := some t })) := by rw [E]; exact Bk.new k _ _ rfl
    clear E; have c9 : ρr.col k.heap.size = none := J.out.km.fr _ (by omega); have a7 : ρr.col wr.heap.size = none := J.out.km.fr _ (by omega); have U := zc (fun w9 (G : B.grownBy w9 none) => tM (za a5.out G) (J.out.up (za a5.out G)) A.out.ok v (.slice (some ⟨M,o2,none⟩) v.subs.length vc) FV.out rfl (T3.out.kept G (by simp)) c9 (by omega) (fun _ => fM A.out.ok (J.out.hi p rfl) (by rfl) (by rfl) (by rfl) (fun j hj => by cases hj; exact ht) (by have := a0.out; omega))); have G3 : Hid (B.grownBy B none) := zj B none
    skip
    refine wp_region_held_drew (S := fun w9 => Sm B w9 (fun g => Kp ρr True g /\ g ≠ k.heap.size)) (by kernel_rfl) ?_ (fun hHeld => ?_)
    ·exact (Sm.refl B _).drew
    refine kQ 0 30 (pq b) hHeld ?_; refine kQ 1 31 (pq b) hHeld ?_; refine kQ 2 32 (pq b) hHeld ?_; refine dk 3 (some 33) (zo v (.slice (some ⟨M,o2,none⟩) v.subs.length vc)) rfl rfl (fun w9 hS => by obtain ⟨_,_,_,_,_⟩ := Box.sm a6.out hS ⟨.inl a7,by omega⟩; go_simp) hHeld ?_; refine kQ 4 34 (pq k.heap.size) hHeld ?_; simp only [qA,qB,qC,qD]; refine rd 5 rfl fun KK hKK => ?_
    go_simp
    go_at_call 109; refine (U.out _ (zf G3.out)).mono ?_; rintro e w4 (⟨V,D⟩ | ⟨f,V,rfl,ρ4,a8,d8,a9,F⟩)
    ·have hN := L.out (by simp [KS.innVarC',show d.typeName _ _ = _ from a2.out,uS,V])
     replace D := D.step A.out
     obtain ⟨q,rfl⟩ := D.thrown
     exact ⟨rfl,Ends.no hN D⟩
    have HD := zc V
    replace F := F.mono (fun g _ (hp : Kp ρr True g /\ g ≠ k.heap.size) => ⟨hp.2,aX hp.1⟩)
    have S4 : Hid (Sm B w4 (fun g => Kp ρr True g /\ g ≠ k.heap.size)) := (Sm.of_none (zf G3.out) _).trans F; have s := zc a8; have T4 := zc a9; clear a8 a9 F
    go_simp
    refine hKK.out _ _ S4.out fun hHeld => ?_
    clear hKK KK; refine wpAnyH_done (by kernel_rfl) ?_ _; clear hHeld; obtain ⟨-,-,H,-⟩ := yP HD.out
    have d5 : Hid ((f.th d.ths.length).ty = some t) := by
     show _ = _
     rw [show f = _ from H,show ((d.addTh _).setPr p _).th d.ths.length = _ from xg _ _ _]
    have d6 : Hid (f.ty t = d.ty t) := by
     show _ = _
     rw [show f = _ from H]
     rfl
    have b5 : Hid ((f.pr p).inner.length = kn + (j + 1)) := by
     show _ = _
     rw [show f = _ from H,show ((d.addTh _).setPr p _).pr p = _ from zY _ _ _ (J.out.hi p rfl)]; have := a0.out; simp only [List.length_cons]
     omega
    clear H; have b6 : t < f.tys.length := Nat.lt_of_lt_of_le ht s.out.tys
    have e4 : w4.cell? ⟨k.heap.size,4,none⟩ = some (pq (ρ4.ty t)) := by
     have Z := T4.out.c 4 _ rfl; rw [show (f.th d.ths.length).ty = some t from d5.out] at Z
     exact Z
    have y3 := s.out.km.y3 b6; have X := ((KS.okP s.out.ok).tyP b6).2
    have Y : Hid (d.innVarC' m p i v u = if i + (f.ty t).words <= 512 then some (f,i + (f.ty t).words) else none) := by
     show _ = _
     rw [show f.ty t = d.ty t from d6.out]
     simp [KS.innVarC',show d.typeName _ _ = _ from a2.out,uS,show d.innerC _ _ _ = _ from HD.out]
    change w4.cell? ⟨ρ4.ty t,3,none⟩ = some (.int .i64 (f.ty t).words) at y3
    change 0 <= (f.ty t).words /\ (f.ty t).words <= 1000000 at X
    generalize (f.ty t).words = wd at y3 X Y
    obtain ⟨_,_⟩ := X; have B4 := zc (Box.sm a6.out S4.out ⟨.inl a7,by omega⟩)
    by_cases b7 : i + wd <= 512
    ·have d7 := zc (c7.out (f,i + wd) (by rw [Y.out,if_pos b7]))
     go_wp2_with fail
     go_roundw
     case rel => exact ⟨j + 1,ρ4,f,i + wd,by omega,by go_num,by try go_num,by omega,by omega,d7,b5,A.out.trans s.out⟩
     case measure => first | omega | (simp only [intOf]; omega) | (simp; omega)
    ·have hN := L.out (by rw [Y.out,if_neg b7])
     have b0 := B4.out.c0; have b1 := B4.out.c1; have b2 := B4.out.c2; have b3 := B4.out.c3; have b4 := B4.out.c4; go_wp2_with fail; go_at_call 53; refine (zu _ v (.slice (some ⟨M,o2,none⟩) v.subs.length vc) 3).mono ?_; intro e w6 D; have h7 : Thw ρ w e w6 := ((Thw.cy D).step s.out).step A.out; obtain ⟨q,rfl⟩ := h7.thrown
     exact ⟨rfl,Ends.no hN h7⟩
  ·have hE : R = some (d,i) := by rw [<- HE.out,List.drop_eq_nil_of_le (by omega)]; rfl
   go_wp2
   go_ret
   exact Ends.yes hE ⟨rfl,_,A.out⟩
end
section
variable {ρ : Lay} {w w' w1 : World} {S : KS} {b : Nat} {c : KSc}
theorem rj {mm pp : Nat} (h : CK ρ w S b ⟨mm,some pp⟩) (n : T) (sv : Value) (hf : Fits n) (hk : S.okB = true) (hcb : ρ.col b = some .ck) (ha : AF ρ.tr w n.subs sv) (hn : ndB (S.pr pp).inner = true) (hw : OneSub n) (hll : (S.pr pp).inner.length < 100000) :
  Calls Tryz.prog 107 #[pq b,zo n sv] w (fun e w' => Ends ρ w (S.parC' mm pp n) (fun q => ∃ ρ',Stp True ρ w S ρ' w' q /\ e = .returned (pq (ρ'.th S.ths.length)) /\ Sm w w' (fun g => ρ.col g ≠ some (.inn pp))) e w') := by
 have HK := zc h; have HB := zc hk; have HF := zc hf; obtain ⟨u,_,a2,a8⟩ := hw
 have b0 : 0 < n.subs.length := by rw [a2]; simp
 obtain ⟨va,vc,rfl,-,-⟩ := ha.at.form; obtain ⟨g2,o2,_,e2,o,n6,fu,au⟩ := ha.node (j := 0) (v := u) (by rw [a2]; rfl); subst e2; rw [Nat.zero_mul,Nat.add_zero] at n6; obtain ⟨ua,uc,rfl,-,-⟩ := au.at.form; have FU := zc fu; have AU := zc au; have N6 := zc n6
 have a9 : Hid (∀ w9,w.grownBy w9 none -> _) := fun w9 (G : w.grownBy w9 none) => MapAt.len ((h.up G).km.pr pp (h.hi pp rfl)).mp (oG hn) (t := 77) rfl 3
 have s2 : Hid (w.cell? ⟨b,2,none⟩ = some (.map (some (ρ.inn pp)))) := h.s2; have b2 := ((KS.okP hk).prP (h.hi pp rfl)).1.2; obtain ⟨K,L⟩ : ∃ z,z = (S.pr pp).inner.length := ⟨_,rfl⟩
 have a3 : Hid (∀ w9,w.grownBy w9 none -> (Builtin.len_ #[77] 3 #[.map (some (ρ.inn pp))]).run Tryz.prog w9 = .ok (.int .i64 K) w9) := fun w9 G => by
  have s := a9.out w9 G; rwa [show (ρ.ths (S.pr pp).inner).length = K by simp [Lay.ths,L]] at s
 obtain ⟨R,hR⟩ : ∃ z,z = S.parC' mm pp n := ⟨_,rfl⟩; have HR := zc hR; rw [<- hR]; rw [show S.parC' mm pp n = _ from mR a2 a8,<- L] at HR
 have b3 : K < 100000 := by omega
 have b4 : (S.pr pp).inner.length = K := L.symm; clear h hk hf ha hn L a9 n6 fu au a2 a8 hR hll; obtain ⟨N,x,m,p,l⟩ := n
 change Calls Tryz.prog 107 #[pq b,.agg #[.int .i64 N,.string ⟨x.toArray⟩,.int .i64 m,.int .i64 p,.slice (some ⟨g2,o2,none⟩) l.length vc]] w _
 obtain ⟨i,M⟩ : ∃ z,z = w.alloc (.cells #[.int .i64 N,.string ⟨x.toArray⟩,.int .i64 m,.int .i64 p,.slice (some ⟨g2,o2,none⟩) l.length vc] 100) := ⟨_,rfl⟩
 have G0 : Hid (w.grownBy i none) := by rw [M]; exact zh grn _
 have B0 : Hid (Box i w.heap.size (.mk N x m p l) (.slice (some ⟨g2,o2,none⟩) l.length vc)) := by rw [M]; exact Box.new w (.mk N x m p l) (.slice (some ⟨g2,o2,none⟩) l.length vc) _
 change 0 < l.length at b0
 by_cases hm : m = 1
 ·have hd := hm
  subst hd
  have D : Hid (R = (S.innerC pp (.mk N x 1 p l) { th0 with first := K,byVar := true }).bind fun A => (uS (A.typeName ⟨mm,some pp⟩ u)).bind fun j => xC (A.setTh S.ths.length { A.th S.ths.length with ty := some j })) := by
   show _ = _
   rw [HR.out]
   rfl
  go_enter Tryz.func107,Tryz.ntmps107
  go_wp2_with fail; rw [<- M]; clear M; refine wp_region_held_drew (S := fun w9 => i.grownBy w9 none) (by kernel_rfl) ?_ (fun hHeld => ?_)
  ·exact zf grn
  refine kQ 0 6 (pq b) hHeld ?_; refine kQ 1 7 (pq b) hHeld ?_; refine kQ 2 8 (pq b) hHeld ?_; refine kQ 3 9 (.pointer (some ⟨b,2,none⟩)) hHeld ?_; refine dk 4 (some 10) (.map (some (ρ.inn pp))) rfl rfl (fun w9 hS => by have q1 := ze (za G0.out hS) s2.out; go_simp) hHeld ?_; refine dk 5 (some 11) (.int .i64 ↑K) rfl rfl (fun w9 hS => by have q1 := a3.out w9 (za G0.out hS); go_simp) hHeld ?_; refine kQ 6 12 (.pointer (some ⟨w.heap.size,2,none⟩)) hHeld ?_; refine dk 7 (some 13) (.int .i64 1) rfl rfl (fun w9 hS => by obtain ⟨q0,q1,q2,q3,q4⟩ := (Box.kept B0.out hS).plain; go_simp) hHeld ?_; refine kQ 8 14 (.bool true) hHeld ?_; refine kQ 9 15 (.agg #[.int .i64 0,.string ⟨#[]⟩,.bool false,.pointer none,.pointer none,.int .i32 0,.int .i64 ↑K,.bool true,.pointer none,.bool false,.pointer none]) hHeld ?_; simp only [qA,qB,qC,qD]; refine rd 10 rfl fun KK hKK => ?_
  go_simp
  refine hKK.out _ _ (zf gan) fun hHeld => ?_
  clear hKK KK; refine kQ 11 5 (pq i.heap.size) hHeld ?_; simp only [qA,qB,qC,qD]; refine wpAnyH_done (by kernel_rfl) ?_ _; clear hHeld; go_wp2_with fail; obtain ⟨r,B⟩ : ∃ z,z = (i.alloc (.cells #[.int .i64 0,.string ⟨#[]⟩,.bool false,.pointer none,.pointer none,.int .i32 0,.int .i64 K,.bool true,.pointer none,.bool false,.pointer none] 90)).drew := ⟨_,rfl⟩; rw [<- B]
  have O : Hid (i.grownBy r none) := by rw [B]; exact zf gan
  have E := zc (za G0.out O.out); have Q : Hid (Box r w.heap.size (.mk N x 1 p l) (.slice (some ⟨g2,o2,none⟩) l.length vc)) := B0.out.kept O.out
  have T3 : Hid (Bk r i.heap.size (thV ρ { th0 with first := K,byVar := true })) := by rw [B]; exact Bk.drew (Bk.new i _ _ rfl)
  have U := B0.out.c0; have b1 : w.heap.size < i.heap.size := zw U; clear B U; have a4 : ρ.col i.heap.size = none := HK.out.km.fr _ (by omega); have V : ρ.col w.heap.size = none := HK.out.km.fr _ (by omega); have F := zc (fun w9 (G : r.grownBy w9 none) => tM (za E.out G) (HK.out.up (za E.out G)) HB.out (.mk N x 1 p l) (.slice (some ⟨g2,o2,none⟩) l.length vc) HF.out rfl (T3.out.kept G (by simp)) a4 (by omega) (fun _ => fM HB.out (HK.out.hi pp rfl) rfl rfl rfl nofun (by omega))); have G3 : Hid (r.grownBy r none) := zj r none
  skip
  refine wp_region_held_drew (S := fun w9 => Sm r w9 (fun g => g ≠ i.heap.size /\ ρ.col g ≠ some (.inn pp))) (by kernel_rfl) ?_ (fun hHeld => ?_)
  ·exact (Sm.refl r _).drew
  refine kQ 0 17 (pq b) hHeld ?_; refine kQ 1 18 (pq b) hHeld ?_; refine kQ 2 19 (pq b) hHeld ?_; refine dk 3 (some 20) (.agg #[.int .i64 N,.string ⟨x.toArray⟩,.int .i64 1,.int .i64 p,.slice (some ⟨g2,o2,none⟩) l.length vc]) rfl rfl (fun w9 hS => by obtain ⟨q0,q1,q2,q3,q4⟩ := (Box.sm Q.out hS ⟨by omega,by rw [V]; nofun⟩).plain; go_simp) hHeld ?_; refine kQ 4 21 (pq i.heap.size) hHeld ?_; simp only [qA,qB,qC,qD]; refine rd 5 rfl fun KK hKK => ?_
  go_simp
  go_at_call 109; refine (F.out _ (zf G3.out)).mono ?_; rintro e w4 (⟨H,X⟩ | ⟨A,H,rfl,ρ4,Y,f,Z,a0⟩)
  ·obtain ⟨q,rfl⟩ := X.thrown
   exact ⟨rfl,Ends.no (by rw [D.out,H]; rfl) X⟩
  have k := zc H; have S4 : Hid (Sm r w4 (fun g => g ≠ i.heap.size /\ ρ.col g ≠ some (.inn pp))) := (Sm.of_none (zf G3.out) _).trans a0; have d := zc Y; have T4 := zc Z; clear Y Z a0
  go_simp
  refine hKK.out _ _ S4.out fun hHeld => ?_
  clear hKK KK; refine wpAnyH_done (by kernel_rfl) ?_ _; clear hHeld; have K4 : Hid (CK ρ4 w4 A b ⟨mm,some pp⟩) := HK.out.step d.out hcb; have a5 := zc (AU.out.step d.out).at; have B4 := zc (Box.sm Q.out S4.out ⟨by omega,by rw [V]; nofun⟩); have x4 := B4.out.c4; have m0 := d.out.sm.cell N6.out.c0 (.inr (.inl o)); have m1 := d.out.sm.cell N6.out.c1 (.inr (.inl o)); have m2 := d.out.sm.cell N6.out.c2 (.inr (.inl o)); have m3 := d.out.sm.cell N6.out.c3 (.inr (.inl o)); have m4 := d.out.sm.cell N6.out.c4 (.inr (.inl o))
  have e7 : w4.cell? ⟨i.heap.size,7,none⟩ = some (.bool true) := by
   obtain ⟨-,-,h8,-⟩ := yP k.out; have s := T4.out.c 7 _ rfl; rw [show A = _ from h8,show ((S.addTh _).setPr pp _).th S.ths.length = _ from xg _ _ _] at s
   exact s
  have a1 := zc (yG K4.out u (.slice ua u.subs.length uc) FU.out a5.out); go_wp2_with fail; go_at_call 74; refine a1.out.mono ?_; cases C : A.typeName ⟨mm,some pp⟩ u with
  | error y =>
   intro e w5 h5; have X : Thw ρ w e w5 := (Thw.cy h5).step d.out; obtain ⟨q,rfl⟩ := X.thrown
   exact ⟨rfl,Ends.no (by rw [D.out,show S.innerC _ _ _ = _ from k.out,Option.bind_some,C]; rfl) X⟩
  | ok t =>
  rintro e w5 ⟨I,rfl⟩; have J := ak d.out.ok (ji k.out) (yF K4.out C)
  have a6 : Hid (R = some (A.setTh S.ths.length { A.th S.ths.length with ty := some t })) := by
   show _ = _
   rw [D.out,show S.innerC _ _ _ = _ from k.out,Option.bind_some,C]
   exact if_pos J
  have a7 := zc J; clear C J; have GG := zc I; have T5 := zc (T4.out.kept I (by simp)); have e4 := T5.out.c 4 _ rfl; have ez := T5.out.z; clear I x4 m0 m1 m2 m3 m4 e7; go_wp2
  go_ret
  refine Ends.yes a6.out ⟨ρ4,(d.out.behind GG.out).setTh (ji k.out) ?_ ?_ ?_ a7.out,by rw [f]; rfl,?_⟩
  ·rw [f]
   exact (Sm.refl w5 _).put (fun s => s rfl) _ _
  ·rw [f]; omega
  ·rw [f]
   exact T5.out.set 4 _
  ·have SQ : Sm w w5 (fun g => ρ.col g ≠ some (.inn pp) /\ g ≠ i.heap.size) := ((Sm.of_none E.out _).trans (S4.out.mono (fun g _ h => ⟨h.2,h.1⟩))).trans (Sm.of_none GG.out _)
   exact (SQ.put (fun s => s.2 rfl) _ _).mono (fun g hg s => ⟨s,by omega⟩)
 ·have hd : (m == 1) = false := by simpa using hm
  have D : Hid (R = (S.innerC pp (.mk N x m p l) { th0 with first := K,byVar := false }).bind fun A => (uS (A.oneWordType ⟨mm,some pp⟩ u)).bind fun j => xC (A.setTh S.ths.length { A.th S.ths.length with ty := some j })) := by
   show _ = _
   rw [HR.out]; simp only [T.num,hd,hm,if_false]
  go_enter Tryz.func107,Tryz.ntmps107
  go_wp2_with fail; rw [<- M]; clear M; refine wp_region_held_drew (S := fun w9 => i.grownBy w9 none) (by kernel_rfl) ?_ (fun hHeld => ?_)
  ·exact zf grn
  refine kQ 0 6 (pq b) hHeld ?_; refine kQ 1 7 (pq b) hHeld ?_; refine kQ 2 8 (pq b) hHeld ?_; refine kQ 3 9 (.pointer (some ⟨b,2,none⟩)) hHeld ?_; refine dk 4 (some 10) (.map (some (ρ.inn pp))) rfl rfl (fun w9 hS => by have q1 := ze (za G0.out hS) s2.out; go_simp) hHeld ?_; refine dk 5 (some 11) (.int .i64 ↑K) rfl rfl (fun w9 hS => by have q1 := a3.out w9 (za G0.out hS); go_simp) hHeld ?_; refine kQ 6 12 (.pointer (some ⟨w.heap.size,2,none⟩)) hHeld ?_; refine dk 7 (some 13) (.int .i64 m) rfl rfl (fun w9 hS => by obtain ⟨q0,q1,q2,q3,q4⟩ := (Box.kept B0.out hS).plain; go_simp) hHeld ?_; refine kQ 8 14 (.bool false) hHeld ?_; refine kQ 9 15 (.agg #[.int .i64 0,.string ⟨#[]⟩,.bool false,.pointer none,.pointer none,.int .i32 0,.int .i64 ↑K,.bool false,.pointer none,.bool false,.pointer none]) hHeld ?_; simp only [qA,qB,qC,qD]; refine rd 10 rfl fun KK hKK => ?_
  go_simp
  refine hKK.out _ _ (zf gan) fun hHeld => ?_
  clear hKK KK; refine kQ 11 5 (pq i.heap.size) hHeld ?_; simp only [qA,qB,qC,qD]; refine wpAnyH_done (by kernel_rfl) ?_ _; clear hHeld; go_wp2_with fail; obtain ⟨r,B⟩ : ∃ z,z = (i.alloc (.cells #[.int .i64 0,.string ⟨#[]⟩,.bool false,.pointer none,.pointer none,.int .i32 0,.int .i64 K,.bool false,.pointer none,.bool false,.pointer none] 90)).drew := ⟨_,rfl⟩; rw [<- B]
  have O : Hid (i.grownBy r none) := by rw [B]; exact zf gan
  have E := zc (za G0.out O.out); have Q : Hid (Box r w.heap.size (.mk N x m p l) (.slice (some ⟨g2,o2,none⟩) l.length vc)) := B0.out.kept O.out
  have T3 : Hid (Bk r i.heap.size (thV ρ { th0 with first := K,byVar := false })) := by rw [B]; exact Bk.drew (Bk.new i _ _ rfl)
  have U := B0.out.c0; have b1 : w.heap.size < i.heap.size := zw U; clear B U; have a4 : ρ.col i.heap.size = none := HK.out.km.fr _ (by omega); have V : ρ.col w.heap.size = none := HK.out.km.fr _ (by omega); have F := zc (fun w9 (G : r.grownBy w9 none) => tM (za E.out G) (HK.out.up (za E.out G)) HB.out (.mk N x m p l) (.slice (some ⟨g2,o2,none⟩) l.length vc) HF.out rfl (T3.out.kept G (by simp)) a4 (by omega) (fun _ => fM HB.out (HK.out.hi pp rfl) rfl rfl rfl nofun (by omega))); have G3 : Hid (r.grownBy r none) := zj r none
  skip
  refine wp_region_held_drew (S := fun w9 => Sm r w9 (fun g => g ≠ i.heap.size /\ ρ.col g ≠ some (.inn pp))) (by kernel_rfl) ?_ (fun hHeld => ?_)
  ·exact (Sm.refl r _).drew
  refine kQ 0 17 (pq b) hHeld ?_; refine kQ 1 18 (pq b) hHeld ?_; refine kQ 2 19 (pq b) hHeld ?_; refine dk 3 (some 20) (.agg #[.int .i64 N,.string ⟨x.toArray⟩,.int .i64 m,.int .i64 p,.slice (some ⟨g2,o2,none⟩) l.length vc]) rfl rfl (fun w9 hS => by obtain ⟨q0,q1,q2,q3,q4⟩ := (Box.sm Q.out hS ⟨by omega,by rw [V]; nofun⟩).plain; go_simp) hHeld ?_; refine kQ 4 21 (pq i.heap.size) hHeld ?_; simp only [qA,qB,qC,qD]; refine rd 5 rfl fun KK hKK => ?_
  go_simp
  go_at_call 109; refine (F.out _ (zf G3.out)).mono ?_; rintro e w4 (⟨H,X⟩ | ⟨A,H,rfl,ρ4,Y,f,Z,a0⟩)
  ·obtain ⟨q,rfl⟩ := X.thrown
   exact ⟨rfl,Ends.no (by rw [D.out,H]; rfl) X⟩
  have k := zc H; have S4 : Hid (Sm r w4 (fun g => g ≠ i.heap.size /\ ρ.col g ≠ some (.inn pp))) := (Sm.of_none (zf G3.out) _).trans a0; have d := zc Y; have T4 := zc Z; clear Y Z a0
  go_simp
  refine hKK.out _ _ S4.out fun hHeld => ?_
  clear hKK KK; refine wpAnyH_done (by kernel_rfl) ?_ _; clear hHeld; have K4 : Hid (CK ρ4 w4 A b ⟨mm,some pp⟩) := HK.out.step d.out hcb; have a5 := zc (AU.out.step d.out).at; have B4 := zc (Box.sm Q.out S4.out ⟨by omega,by rw [V]; nofun⟩); have x4 := B4.out.c4; have m0 := d.out.sm.cell N6.out.c0 (.inr (.inl o)); have m1 := d.out.sm.cell N6.out.c1 (.inr (.inl o)); have m2 := d.out.sm.cell N6.out.c2 (.inr (.inl o)); have m3 := d.out.sm.cell N6.out.c3 (.inr (.inl o)); have m4 := d.out.sm.cell N6.out.c4 (.inr (.inl o))
  have e7 : w4.cell? ⟨i.heap.size,7,none⟩ = some (.bool false) := by
   obtain ⟨-,-,h8,-⟩ := yP k.out; have s := T4.out.c 7 _ rfl; rw [show A = _ from h8,show ((S.addTh _).setPr pp _).th S.ths.length = _ from xg _ _ _] at s
   exact s
  have a1 := zc (uJ K4.out u (.slice ua u.subs.length uc) FU.out a5.out); go_wp2_with fail; go_at_call 108; refine a1.out.mono ?_; cases C : A.oneWordType ⟨mm,some pp⟩ u with
  | error y =>
   intro e w5 h5; have X : Thw ρ w e w5 := (Thw.cy h5).step d.out; obtain ⟨q,rfl⟩ := X.thrown
   exact ⟨rfl,Ends.no (by rw [D.out,show S.innerC _ _ _ = _ from k.out,Option.bind_some,C]; rfl) X⟩
  | ok t =>
  rintro e w5 ⟨I,rfl⟩; have J := ak d.out.ok (ji k.out) (jB K4.out C)
  have a6 : Hid (R = some (A.setTh S.ths.length { A.th S.ths.length with ty := some t })) := by
   show _ = _
   rw [D.out,show S.innerC _ _ _ = _ from k.out,Option.bind_some,C]
   exact if_pos J
  have a7 := zc J; clear C J; have GG := zc I; have T5 := zc (T4.out.kept I (by simp)); have e4 := T5.out.c 4 _ rfl; have ez := T5.out.z; clear I x4 m0 m1 m2 m3 m4 e7; go_wp2
  go_ret
  refine Ends.yes a6.out ⟨ρ4,(d.out.behind GG.out).setTh (ji k.out) ?_ ?_ ?_ a7.out,by rw [f]; rfl,?_⟩
  ·rw [f]
   exact (Sm.refl w5 _).put (fun s => s rfl) _ _
  ·rw [f]; omega
  ·rw [f]
   exact T5.out.set 4 _
  ·have SQ : Sm w w5 (fun g => ρ.col g ≠ some (.inn pp) /\ g ≠ i.heap.size) := ((Sm.of_none E.out _).trans (S4.out.mono (fun g _ h => ⟨h.2,h.1⟩))).trans (Sm.of_none GG.out _)
   exact (SQ.put (fun s => s.2 rfl) _ _).mono (fun g hg s => ⟨s,by omega⟩)
end
end Go.Proofs.YtnmkffjklpfflaaGreatDoor
