/- Declarations: imports. -/
import Derived.Test.YtnmkffjklpfflaaGreatDoorG19
import Derived.Test.YtnmkffjklpfflaaGreatDoorG23
namespace Go.Proofs.YtnmkffjklpfflaaGreatDoor
open Go.RowKit
set_option maxHeartbeats 4000000
set_option maxRecDepth 100000
section
variable {ρ : Lay} {w w' w1 : World} {S : KS} {b : Nat} {c : KSc}
theorem sQ {m : Nat} (h : CK ρ w S b ⟨m,none⟩) (hk : S.okB = true) (hcb : ρ.col b = some .ck) {S' : KS} {l : List T} {sv : Value} (ha : AF ρ.tr w l sv) (hs : zX (KS.importC m) l S = some S') :
  Calls Tryz.prog 54 #[pq b,sv] w (fun e w' => e = .returned (.tuple #[]) /\ ∃ ρ',Stp True ρ w S ρ' w' S') := by
 have HK := zc h; have HB := zc hk; have HL := zc ha; have HS := zc hs; obtain ⟨_,_,rfl,_,c7⟩ := ha.at.form
 unfold maxLen at c7
 clear h hk ha hs
 go_enter Tryz.func54,Tryz.ntmps54
 go_wp2_with fail
 go_loopw [9] (fun M wr => ∃ (j : Nat) (ρr : Lay) (n : KS),j <= l.length /\ M = .int .i64 ↑j /\ Hid (zX (KS.importC m) (l.drop j) n = some S') /\ Hid (Stp True ρ w S ρr wr n)) (fun M _ => l.length - (intOf M).toNat)
 case atStart => exact ⟨0,ρ,S,Nat.zero_le _,rfl,HS.out,Stp.refl HK.out.km HB.out⟩
 case round =>
  obtain ⟨j,ρr,n,_,rfl,HE,N⟩ := hrel; have r : Hid (CK ρr wr n b ⟨m,none⟩) := HK.out.step N.out hcb; have J : ρr.col b = some .ck := N.out.agr.col _ _ hcb
  by_cases c9 : j < l.length
  ·obtain ⟨v,hv⟩ : ∃ v,l[j]? = some v := ⟨_,List.getElem?_eq_getElem c9⟩
   obtain ⟨S1,a1,a2⟩ := vS hv HE.out; have d5 := zc a2; obtain ⟨q,R,a3,a4,O⟩ := oZ a1; have d6 := zc a4; have d7 := zc O; have i : m < n.mds.length := r.out.hc
   have d8 : q < n.mds.length := by
    obtain ⟨z,h1,rfl⟩ := sK R
    exact uU (KS.okP N.out.ok).mods h1
   obtain ⟨g,_,_,e1,_,n5,fv,av⟩ := (HL.out.step N.out).node hv; subst e1; have fx := fv.name; obtain ⟨va,vc,rfl,-,-⟩ := av.at.form; have d0 := n5.c0; have d1 := n5.c1; have d2 := n5.c2; have d3 := n5.c3; have d4 := n5.c4; have f9 : g < wr.heap.size := zw d0
   have a5 : Hid (∀ w9,wr.grownBy w9 none -> (Instr.lookup 96 (.map (some ρr.mo)) (.string ⟨v.name.toArray⟩) false).run Tryz.prog w9 = .ok (pq (ρr.md q)) w9) := fun w9 G => by
    have d := ((r.out.km.up G).mo).look Tryz.underlying96 (dN w9) v.name fx; rw [show lk (ρr.mds n.mods) v.name = some (ρr.md q) by unfold Lay.mds; rw [qF,R]; rfl] at d
    exact d
   have a6 : Hid (∀ w9,wr.grownBy w9 none -> (Instr.lookup 77 (.map (some (ρr.nm m))) (.string ⟨v.name.toArray⟩) false).run Tryz.prog w9 = .ok (.pointer none) w9) := fun w9 G => by
    have d := (((r.out.km.up G).md m i).mp).look Tryz.underlying77 (dV w9) v.name fx; rw [show lk (ρr.ths (n.md m).names) v.name = none by unfold Lay.ths; rw [qF,a3]; rfl] at d
    exact d
   have s0 : Hid (wr.cell? ⟨b,0,none⟩ = some (pq ρr.wd)) := r.out.s0; have s1 : Hid (wr.cell? ⟨b,1,none⟩ = some (pq (ρr.md m))) := r.out.s1; have d9 : Hid (wr.cell? ⟨ρr.wd,4,none⟩ = some (.map (some ρr.mo))) := r.out.km.wd.c 4 _ rfl; obtain ⟨f0,M,dv,U,a7,a9,b0⟩ := (r.out.km.md m i).bk; have MB := zc U; have MA := zc a7; have MI := zc a9; have MD := zc b0; have m8 : Hid (wr.cell? ⟨ρr.md m,8,none⟩ = some (.map (some (ρr.nm m)))) := U.c 8 _ rfl; have k := (r.out.km.md m i).col; have t := (r.out.km.md m i).coln; have K := zc (r.out.km.md m i).mp; have b1 : ρr.md m ≠ ρr.nm m := K.out.ne_cell m8.out; have f1 : b ≠ ρr.nm m := K.out.ne_cell s1.out
   have g0 : b ≠ ρr.md m := fun e => by rw [e,k] at J; cases J
   have b2 := (KS.okP N.out.ok).mdP i; clear n5 fv av hv a1 a2 a4 O U a7 a9 b0 R a3; go_wp2_with fail; obtain ⟨w2,u⟩ : ∃ z,z = wr.alloc (.cells #[.int .i64 v.kind,.string ⟨v.name.toArray⟩,.int .i64 v.num,.int .i64 v.at',.slice va v.subs.length vc] 100) := ⟨_,rfl⟩; rw [<- u]
   have A : Hid (wr.grownBy w2 none) := by rw [u]; exact zh grn _
   have V : Hid (Box w2 wr.heap.size v (.slice va v.subs.length vc)) := by rw [u]; exact Box.new wr v _ _
   have b3 : wr.heap.size < w2.heap.size := by rw [u]; simp
   clear u d0 d1 d2 d3 d4
   skip
   refine wp_region_held_drew (S := fun w9 => w2.grownBy w9 none) (by kernel_rfl) ?_ (fun hHeld => ?_)
   ·exact zf grn
   refine kQ 0 13 (pq b) hHeld ?_; refine kQ 1 14 (pq b) hHeld ?_; refine kQ 2 15 (pq b) hHeld ?_; refine kQ 3 16 (pq b) hHeld ?_; refine dk 4 (some 17) (pq ρr.wd) rfl rfl (fun w9 hS => by have o := ze (za A.out hS) s0.out; go_simp) hHeld ?_; refine kQ 5 18 (pq ρr.wd) hHeld ?_; refine kQ 6 19 (.pointer (some ⟨ρr.wd,4,none⟩)) hHeld ?_; refine dk 7 (some 20) (.map (some ρr.mo)) rfl rfl (fun w9 hS => by have o := ze (za A.out hS) d9.out; go_simp) hHeld ?_; refine kQ 8 21 (.pointer (some ⟨wr.heap.size,1,none⟩)) hHeld ?_; refine dk 9 (some 22) (.string ⟨v.name.toArray⟩) rfl rfl (fun w9 hS => by have o := ze hS V.out.c1; go_simp) hHeld ?_; refine dk 10 (some 23) (pq (ρr.md q)) rfl rfl (fun w9 hS => by have o := a5.out w9 (za A.out hS); go_simp) hHeld ?_; refine kQ 11 6 (pq (ρr.md q)) hHeld ?_; simp only [qA,qB,qC,qD]; refine wpAnyH_done (by kernel_rfl) ?_ _; clear hHeld; obtain ⟨w3,B⟩ : ∃ z,z = w2.drew := ⟨_,rfl⟩; rw [<- B]
   have C : Hid (wr.grownBy w3 none) := by rw [B]; exact zf A.out
   have X : Hid (Box w3 wr.heap.size v (.slice va v.subs.length vc)) := by rw [B]; exact V.out.kept (zf grn)
   have b4 : wr.heap.size < w3.heap.size := by rw [B]; exact b3
   clear B V A b3; go_wp2_with fail; refine wp_region_held_drew (S := fun w9 => w3.grownBy w9 none) (by kernel_rfl) ?_ (fun hHeld => ?_)
   ·exact zf grn
   refine kQ 0 28 (pq b) hHeld ?_; refine kQ 1 29 (pq b) hHeld ?_; refine kQ 2 30 (pq b) hHeld ?_; refine kQ 3 31 (.pointer (some ⟨b,1,none⟩)) hHeld ?_; refine dk 4 (some 32) (pq (ρr.md m)) rfl rfl (fun w9 hS => by have o := ze (za C.out hS) s1.out; go_simp) hHeld ?_; refine kQ 5 33 (pq (ρr.md m)) hHeld ?_; refine kQ 6 34 (.pointer (some ⟨ρr.md m,8,none⟩)) hHeld ?_; refine dk 7 (some 35) (.map (some (ρr.nm m))) rfl rfl (fun w9 hS => by have o := ze (za C.out hS) m8.out; go_simp) hHeld ?_; refine kQ 8 36 (.pointer (some ⟨wr.heap.size,1,none⟩)) hHeld ?_; refine dk 9 (some 37) (.string ⟨v.name.toArray⟩) rfl rfl (fun w9 hS => by have o := ze hS X.out.c1; go_simp) hHeld ?_; refine dk 10 (some 38) (.pointer none) rfl rfl (fun w9 hS => by have o := a6.out w9 (za C.out hS); go_simp) hHeld ?_; refine kQ 11 39 (.bool false) hHeld ?_; simp only [qA,qB,qC,qD]; refine wpAnyH_done (by kernel_rfl) ?_ _; clear hHeld; obtain ⟨s,D⟩ : ∃ z,z = w3.drew := ⟨_,rfl⟩; rw [<- D]
   have L : Hid (wr.grownBy s none) := by rw [D]; exact zf C.out
   have f2 : Hid (Box s wr.heap.size v (.slice va v.subs.length vc)) := by rw [D]; exact X.out.kept (zf grn)
   have g1 : wr.heap.size < s.heap.size := by rw [D]; exact b4
   clear D X C b4 a5 a6; go_wp2_with fail; refine yk [13] (S := fun w9 => s.grownBy w9 none) (by kernel_rfl) ?_ (fun hHeld => ?_)
   ·exact zf grn
   refine zk 0 (some 42) (pq b) rfl rfl (fun w9 _ => by go_simp) hHeld ?_; refine zk 1 (some 43) (pq b) rfl rfl (fun w9 _ => by go_simp) hHeld ?_; refine zk 2 (some 44) (pq b) rfl rfl (fun w9 _ => by go_simp) hHeld ?_; refine zk 3 (some 45) (.pointer (some ⟨b,1,none⟩)) rfl rfl (fun w9 _ => by go_simp) hHeld ?_; refine zk 4 (some 46) (pq (ρr.md m)) rfl rfl (fun w9 hS => by have o := ze (za L.out hS) s1.out; go_simp) hHeld ?_; refine zk 5 (some 47) (pq (ρr.md m)) rfl rfl (fun w9 _ => by go_simp) hHeld ?_; refine zk 6 (some 48) (.pointer (some ⟨ρr.md m,8,none⟩)) rfl rfl (fun w9 _ => by go_simp) hHeld ?_; refine zk 7 (some 49) (.map (some (ρr.nm m))) rfl rfl (fun w9 hS => by have o := ze (za L.out hS) m8.out; go_simp) hHeld ?_; refine zk 8 (some 50) (.pointer (some ⟨wr.heap.size,1,none⟩)) rfl rfl (fun w9 _ => by go_simp) hHeld ?_; refine zk 9 (some 51) (.string ⟨v.name.toArray⟩) rfl rfl (fun w9 hS => by have o := ze hS f2.out.c1; go_simp) hHeld ?_; refine zk 10 (some 52) (pq (ρr.md q)) rfl rfl (fun w9 _ => by go_simp) hHeld ?_; refine zk 11 (some 53) (.agg #[.int .i64 0,.string ⟨#[]⟩,.bool false,.pointer none,.pointer none,.int .i32 0,.int .i64 0,.bool false,.pointer none,.bool false,pq (ρr.md q)]) rfl rfl (fun w9 _ => by go_simp) hHeld ?_; simp only [qA,qB,qC,qD]; refine zr 12 (by kernel_rfl) rfl (fun KK hKK => ?_)
   go_simp
   refine hKK.out _ _ (zf gan) fun hHeld => ?_
   clear hKK KK; obtain ⟨wa,E⟩ : ∃ z,z = (s.alloc (.cells #[.int .i64 0,.string ⟨#[]⟩,.bool false,.pointer none,.pointer none,.int .i32 0,.int .i64 0,.bool false,.pointer none,.bool false,pq (ρr.md q)] 90)).drew := ⟨_,rfl⟩; rw [<- E] at hHeld ⊢
   have GA : Hid (s.grownBy wa none) := by rw [E]; exact zf gan
   have TA : Hid (Bk wa s.heap.size (thV ρr { th0 with mod := some q })) := by rw [E]; exact Bk.drew (Bk.new s _ _ rfl)
   have g2 : s.heap.size < wa.heap.size := by rw [E]; simp
   clear E; obtain ⟨f,b5,b6,F⟩ := MapAt.put (w := wa) (K.out.kept (za L.out GA.out) (by simp)) Tryz.underlying77 v.name fx s.heap.size (by simp [Lay.ths,maxLen]; have := b2.1.1.2; omega); have f3 : (Instr.mapUpdate 77 (.map (some (ρr.nm m))) (.string ⟨v.name.toArray⟩) (pq s.heap.size)).run Tryz.prog wa = .ok () f := b5; refine zl 13 (by kernel_rfl) rfl rfl (fun KK hKK => ?_)
   go_simp
   refine hKK.out _ _ ?_; clear hKK KK f3; refine zd (by kernel_rfl) ?_ _; clear hHeld; have M5 := zc b6; have GM : Hid (wa.grownBy f (some (ρr.nm m))) := F; have S5 : Hid (Sm wr f (fun g => g ≠ ρr.nm m)) := (Sm.of_none (za L.out GA.out) _).trans ((Sm.grown F).mono (fun g _ d e => d (Option.some.inj e))); have T5 := zc (TA.out.kept F (by intro e; have d := K.out.lt; have := Option.some.inj e; omega)); have g3 := F.size; have b7 := zc (MB.out.sm S5.out b1); have f4 : Hid (AF ρr.tr f (n.md m).acts f0) := MA.out.sm S5.out (fun g hg e => by unfold Lay.tr at hg; rw [e,t] at hg; cases hg); have Y : Hid (RowAt ρr f _ 1 M _ _ (.im m)) := ⟨zR MI.out.1 S5.out (fun g hg e => by have d := MI.out.2 g hg; rw [e,t] at d; cases d),MI.out.2⟩; have Z : Hid (RowAt ρr f _ 1 dv _ _ (.de m)) := ⟨zR MD.out.1 S5.out (fun g hg e => by have d := MD.out.2 g hg; rw [e,t] at d; cases d),MD.out.2⟩; have b8 : Hid _ := S5.out.cell s1.out f1; have m6 : Hid (f.cell? ⟨ρr.md m,6,none⟩ = some M) := b7.out.c 6 _ rfl; clear b5 b6 F; go_wp2_with fail
   skip
   refine yk [18] (S := fun w9 => Sm f w9 (fun g => ρr.col g ≠ some (.im m))) (by kernel_rfl) ?_ (fun hHeld => ?_)
   ·exact (Sm.refl f _).drew
   refine zk 0 (some 55) (pq b) rfl rfl (fun w9 _ => by go_simp) hHeld ?_; refine zk 1 (some 56) (pq b) rfl rfl (fun w9 _ => by go_simp) hHeld ?_; refine zk 2 (some 57) (pq b) rfl rfl (fun w9 _ => by go_simp) hHeld ?_; refine zk 3 (some 58) (.pointer (some ⟨b,1,none⟩)) rfl rfl (fun w9 _ => by go_simp) hHeld ?_; refine zk 4 (some 59) (pq (ρr.md m)) rfl rfl (fun w9 hS => by have o := Sm.cell hS b8.out (by rw [J]; nofun); go_simp) hHeld ?_; refine zk 5 (some 60) (pq b) rfl rfl (fun w9 _ => by go_simp) hHeld ?_; refine zk 6 (some 61) (pq b) rfl rfl (fun w9 _ => by go_simp) hHeld ?_; refine zk 7 (some 62) (pq b) rfl rfl (fun w9 _ => by go_simp) hHeld ?_; refine zk 8 (some 63) (.pointer (some ⟨b,1,none⟩)) rfl rfl (fun w9 _ => by go_simp) hHeld ?_; refine zk 9 (some 64) (pq (ρr.md m)) rfl rfl (fun w9 hS => by have o := Sm.cell hS b8.out (by rw [J]; nofun); go_simp) hHeld ?_; refine zk 10 (some 65) (pq (ρr.md m)) rfl rfl (fun w9 _ => by go_simp) hHeld ?_; refine zk 11 (some 66) (.pointer (some ⟨ρr.md m,6,none⟩)) rfl rfl (fun w9 _ => by go_simp) hHeld ?_; refine zk 12 (some 67) M rfl rfl (fun w9 hS => by have o := Sm.cell hS m6.out (by rw [k]; nofun); go_simp) hHeld ?_; refine zk 13 (some 68) (pq (ρr.md q)) rfl rfl (fun w9 _ => by go_simp) hHeld ?_; simp only [qA,qB,qC,qD]; refine zr 14 (by kernel_rfl) rfl (fun KK hKK => ?_)
   go_simp
   refine hKK.out _ _ (Sm.of_none (zf gan) _) fun hHeld => ?_
   clear hKK KK; obtain ⟨wb,H⟩ : ∃ z,z = (f.alloc (.cells #[pq (ρr.md q)] 51)).drew := ⟨_,rfl⟩; rw [<- H] at hHeld ⊢
   have A7 : Hid (f.grownBy wb none) := by rw [H]; exact zf gan
   have ca : wb.cell? ⟨f.heap.size,0,none⟩ = some (pq (ρr.md q)) := by rw [H]; exact Bk.c (vs := [pq (ρr.md q)]) (Bk.drew (Bk.new f _ _ rfl)) 0 _ rfl
   have g4 : f.heap.size < wb.heap.size := by rw [H]; simp
   clear H; refine zr 15 (by kernel_rfl) rfl (fun KK hKK => ?_); refine kI 44 51 Tryz.underlying44 Tryz.infoModuleP rfl _ _ rfl (v := M) (g := f.heap.size) rfl rfl (zR Y.out.1 (Sm.of_none A7.out (fun _ => True)) (fun _ _ => trivial)) ca (by have := b2.2; omega) ?_; intro v8 w8 I b9 Q; have S8 : Hid (Sm f w8 (fun g => ρr.col g ≠ some (.im m))) := (Sm.of_none A7.out _).gbn b9 (fun g hg d => d (Y.out.2 g hg)); refine hKK.out _ _ S8.out fun hHeld => ?_
   clear hKK KK
   obtain ⟨a8,c8,rfl⟩ : ∃ aa cc,v8 = .slice aa ((n.md m).imps.length + 1) cc := by
    rcases I.2 with ⟨_,d⟩ | ⟨g,g5,g6,d,_⟩
    ·omega
    ·exact ⟨_,_,d⟩
   have O8 := zc I; have f5 := zc Q
   have c5 : ρr.col (ρr.md m) ≠ some (.im m) := by rw [k]; nofun
   have a0 := zc (b7.out.sm S8.out c5); clear I Q b9 ca; refine zr 16 (by kernel_rfl) rfl (fun KK hKK => ?_)
   go_simp
   refine hKK.out _ _ hHeld (fun hHeld => ?_); clear hKK KK; refine zr 17 (by kernel_rfl) rfl (fun KK hKK => ?_)
   go_simp
   refine hKK.out _ _ hHeld (fun hHeld => ?_); clear hKK KK; have e6 := a0.out.c 6 _ rfl; have ez := a0.out.z; refine zl 18 (by kernel_rfl) rfl rfl (fun KK hKK => ?_)
   go_simp
   refine hKK.out _ _ ?_; clear hKK KK; clear e6 ez; refine zd (by kernel_rfl) ?_ _; clear hHeld; go_wp2_with fail
   go_roundw
   case rel =>
    have S9 : Sm f (w8.setCell ⟨ρr.md m,6,none⟩ (.slice a8 ((n.md m).imps.length + 1) c8)) (fun g => g ≠ ρr.md m /\ ρr.col g ≠ some (.im m)) := (S8.out.mono (fun g _ d => d.2)).put (fun d => d.1 rfl) _ _
    have f6 : ∀ g,wr.heap.size <= g -> ρr.col g = none := fun g hg => r.out.km.fr g hg
    have z8 := S8.out.size
    have c6 : ∀ g,(Value.slice a8 ((n.md m).imps.length + 1) c8).ownBlock = some g -> ρr.col g = some (.im m) \/ wr.heap.size <= g /\ g ≠ s.heap.size := fun g hg => by
     rcases f5.out with d | d
     ·exact .inl (Y.out.2 g (d ▸ hg))
     ·rw [d] at hg
      cases hg
      exact .inr (by omega)
    have f7 : ∀ g,(Value.slice a8 ((n.md m).imps.length + 1) c8).ownBlock = some g -> g ≠ ρr.md m := fun g hg e => by
     rcases c6 g hg with d | d
     ·rw [e,k] at d; cases d
     ·have h8 := MB.out.lt
      omega
    have f8 := Stp.imported (x := v.name) r.out.km N.out.ok i d8 (T5.out.sm S9 ⟨by have := MB.out.lt; omega,by rw [f6 _ (by omega)]; nofun⟩) (M5.out.sm S9 ⟨fun e => b1 e.symm,by rw [t]; nofun⟩) (a0.out.set 6 (.slice a8 ((n.md m).imps.length + 1) c8)) (f4.out.sm S9 (fun g hg => ?_)) (zR O8.out ((Sm.refl w8 (fun g => g ≠ ρr.md m)).put (fun d => d rfl) _ _) f7) c6 ⟨zR Z.out.1 S9 (fun g hg => ?_),Z.out.2⟩ (by have := S9.size; omega) (by omega) ?_ d6.out d7.out
    ·exact ⟨j + 1,_,S1,by omega,by go_num,d5,N.out.trans f8⟩
    ·unfold Lay.tr at hg
     exact ⟨fun e => (by rw [e,k] at hg; cases hg),by rw [hg]; nofun⟩
    ·have d := Z.out.2 g hg
     exact ⟨fun e => (by rw [e,k] at d; cases d),by rw [d]; nofun⟩
    ·exact (S5.out.mono (fun g _ d e => d.2.1 (by rw [e]; exact t))).trans (S9.mono (fun g _ d => ⟨fun e => d.2.2.1 (by rw [e]; exact k),d.2.2.2⟩))
   case measure => first | omega | (simp only [intOf]; omega) | (simp; omega)
  ·have hE := uD (by omega) HE.out
   subst hE; go_wp2; refine bodyPost_end (results_none rfl _ _ _) rfl ?_
   exact ⟨rfl,_,N.out⟩
end
end Go.Proofs.YtnmkffjklpfflaaGreatDoor
