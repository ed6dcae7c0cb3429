/- Blocks that were nobody's become somebody's. -/
import Derived.Test.YtnmkffjklpfflaaGreatDoorG28
import Derived.Test.YtnmkffjklpfflaaGreatDoorG39
namespace Go.Proofs.YtnmkffjklpfflaaGreatDoor
open Go.RowKit
set_option maxHeartbeats 1000000
set_option maxRecDepth 100000
section
variable {ρ ρ' : Lay} {w w' : World} {S S' : KS} {k : Prop} {b : Nat}
def Lay.paint (ρ : Lay) (f : Nat -> Option Lb) : Lay := { ρ with col := fun g => match ρ.col g with | some l => some l | none => f g }
theorem tm {f : Nat -> Option Lb} {l : Lb} (h : ρ.col b = some l) : (ρ.paint f).col b = some l := by simp only [Lay.paint]; rw [h]
theorem vn {f : Nat -> Option Lb} (h : ρ.col b = none) : (ρ.paint f).col b = f b := by simp only [Lay.paint]; rw [h]
theorem tA (ρ : Lay) (S : KS) (f : Nat -> Option Lb) : Agr ρ (ρ.paint f) S := ⟨rfl,rfl,rfl,fun _ _ => rfl,fun _ _ => rfl,fun _ _ => rfl,fun _ _ => rfl,fun _ _ => rfl,fun _ _ => rfl,fun _ _ h => tm h⟩
theorem KM.paint (h : KM ρ w S) (hi : KIn S) {f : Nat -> Option Lb} (hf : ∀ g,w.heap.size <= g -> f g = none) : KM (ρ.paint f) w S := by
 have c := tA ρ S f
 exact h.turn (P := fun _ => True) hi c (Sm.refl w _) (fun g hg => (vn (h.fr g hg)).trans (hf g hg)) (fun _ _ => trivial) (fun _ _ => trivial) (h.mo_turn hi c (Sm.refl w (fun _ => True)) (fun _ _ => trivial)) (fun j hj => (h.ty j hj).re hi c hj) (fun j hj => (h.th j hj).re hi c hj) (fun j hj => (h.pr j hj).re hi c hj) (fun j hj => (h.md j hj).re hi c hj)
theorem Stp.paint (h : Stp k ρ w S ρ' w' S') {f : Nat -> Option Lb} (hf : ∀ g,w'.heap.size <= g -> f g = none) (h0 : ∀ g,g < w.heap.size -> f g = none) : Stp k ρ w S (ρ'.paint f) w' S' :=
 ⟨h.km.paint (KS.okIn h.ok) hf,h.ok,h.agr.trans (tA ρ' S' f) h.tys h.ths h.prs h.mds,fun g hg => by
  cases hq : ρ'.col g with
  | some l => rw [tm hq,<- h.col g hg,hq]
  | none => rw [vn hq,h0 g hg,<- h.col g hg,hq],h.sm,h.tys,h.ths,h.prs,h.mds⟩
theorem Stp.addMd (h : KM ρ w S) (hk : S.okB = true) (hg : w.grownBy w' none) {x : Nm} {mb nb : Nat} (hb : Bk w' mb [Go.Proofs.YtnmkffjklpfflaaGreatDoor.ptr (some ρ.wd),pq mb,.map none,.slice none 0 0,.int .i64 0,.string ⟨x.toArray⟩,.slice none 0 0,.slice none 0 0,.map (some nb)]) (hm : MapAt w' nb [])
  (h1 : w.heap.size <= mb) (h2 : w.heap.size <= nb) (hne : nb ≠ mb) (hk' : (S.addMd { md0 with name := x }).okB = true) : Stp k ρ w S (ρ.addMd S.mds.length mb nb) w' (S.addMd { md0 with name := x }) where
 km := (h.up hg).addMd (KS.okIn hk) hb hm (h.fr _ h1) (h.fr _ h2) hne
 ok := hk'
 agr := tc S (h.fr _ h1) (h.fr _ h2)
 col := fun g hl => by
  simp only [Lay.addMd]; rw [if_neg (by omega),if_neg (by omega)]
 sm := Sm.of_none hg _
 tys := Nat.le_refl _
 ths := Nat.le_refl _
 prs := Nat.le_refl _
 mds := by simp [KS.addMd]
theorem nck (h : KM ρ w S) (hk : S.okB = true) (x : Nm) (hk' : (S.addMd { md0 with name := x }).okB = true) : let W := ((w.alloc (.map #[] 0)).alloc (.cells #[pq ρ.wd,pq (w.heap.size + 1),.map none,.slice none 0 0,.int .i64 0,.string ⟨x.toArray⟩,.slice none 0 0,.slice none 0 0,.map (some w.heap.size)] 85)).alloc (.cells #[pq ρ.wd,pq (w.heap.size + 1),.map none,.pointer none] 109)
  w.grownBy W none /\ ∃ ρ',Stp True ρ w S ρ' W (S.addMd { md0 with name := x }) /\ CB ρ' W (S.addMd { md0 with name := x }) (w.heap.size + 1 + 1) ⟨S.mds.length,none⟩ (.pointer none) := by
 intro W; have j : w.grownBy (w.alloc (.map #[] 0)) none := zh (zj w none) _; have i : (w.alloc (.map #[] 0)).grownBy ((w.alloc (.map #[] 0)).alloc (.cells #[pq ρ.wd,pq (w.heap.size + 1),.map none,.slice none 0 0,.int .i64 0,.string ⟨x.toArray⟩,.slice none 0 0,.slice none 0 0,.map (some w.heap.size)] 85)) none := zh (zj _ none) _; have e : ((w.alloc (.map #[] 0)).alloc (.cells #[pq ρ.wd,pq (w.heap.size + 1),.map none,.slice none 0 0,.int .i64 0,.string ⟨x.toArray⟩,.slice none 0 0,.slice none 0 0,.map (some w.heap.size)] 85)).grownBy W none := zh (zj _ none) _; have l : MapAt W w.heap.size [] := ((MapAt.new w).kept i (by simp)).kept e (by simp)
 have m : Bk W (w.heap.size + 1) [pq ρ.wd,pq (w.heap.size + 1),.map none,.slice none 0 0,.int .i64 0,.string ⟨x.toArray⟩,.slice none 0 0,.slice none 0 0,.map (some w.heap.size)] := by
  have c := Bk.new (w.alloc (.map #[] 0)) #[pq ρ.wd,pq (w.heap.size + 1),.map none,.slice none 0 0,.int .i64 0,.string ⟨x.toArray⟩,.slice none 0 0,.slice none 0 0,.map (some w.heap.size)] 85 (vs := [pq ρ.wd,pq (w.heap.size + 1),.map none,.slice none 0 0,.int .i64 0,.string ⟨x.toArray⟩,.slice none 0 0,.slice none 0 0,.map (some w.heap.size)]) rfl; rw [show (w.alloc (.map #[] 0)).heap.size = w.heap.size + 1 by simp] at c
  exact c.kept e (by simp)
 have n : Bk W (w.heap.size + 1 + 1) [pq ρ.wd,pq (w.heap.size + 1),.map none,.pointer none] := by
  have c := Bk.new ((w.alloc (.map #[] 0)).alloc (.cells #[pq ρ.wd,pq (w.heap.size + 1),.map none,.slice none 0 0,.int .i64 0,.string ⟨x.toArray⟩,.slice none 0 0,.slice none 0 0,.map (some w.heap.size)] 85)) #[pq ρ.wd,pq (w.heap.size + 1),.map none,.pointer none] 109 (vs := [pq ρ.wd,pq (w.heap.size + 1),.map none,.pointer none]) rfl; rw [show ((w.alloc (.map #[] 0)).alloc (.cells #[pq ρ.wd,pq (w.heap.size + 1),.map none,.slice none 0 0,.int .i64 0,.string ⟨x.toArray⟩,.slice none 0 0,.slice none 0 0,.map (some w.heap.size)] 85)).heap.size = w.heap.size + 1 + 1 by simp] at c
  exact c
 have G := za (za j i) e
 have q : W.heap.size = w.heap.size + 3 := by simp [W]
 have o := Stp.addMd (k := True) h hk G m l (by omega) (by omega) (by omega) hk'; have d := o.paint (f := fun g => if g = w.heap.size + 1 + 1 then some .ck else none) (fun g hg => if_neg (by omega)) (fun g hg => if_neg (by omega)); refine ⟨G,_,d,CB.of hk' d.km ?_ ?_ (by simp [KS.addMd]) (fun p hp => by cases hp)⟩
 ·show Bk W _ [_,pq ((ρ.addMd S.mds.length (w.heap.size + 1) w.heap.size).md S.mds.length),_,_]
  rw [show (ρ.addMd S.mds.length (w.heap.size + 1) w.heap.size).md S.mds.length = w.heap.size + 1 by simp [Lay.addMd]]
  exact n
 ·rw [vn,if_pos rfl]
  simp only [Lay.addMd]; rw [if_neg (by omega),if_neg (by omega)]
  exact h.fr _ (by omega)
theorem ge (h : KM ρ w S) (hk : S.okB = true) (x : Nm) (hk' : (S.addMd { md0 with name := x }).okB = true) :
  Calls Tryz.prog 39 #[pq ρ.wd,.string ⟨x.toArray⟩] w (fun e w' => ∃ ρ' b,e = .returned (pq b) /\ w.grownBy w' none /\ w.heap.size <= b /\ Stp True ρ w S ρ' w' (S.addMd { md0 with name := x }) /\ CB ρ' w' (S.addMd { md0 with name := x }) b ⟨S.mds.length,none⟩ (.pointer none)) := by
 have d := zc h; have HK := zc hk; have c := zc hk'; have f := @run_makeMap Tryz.prog; clear h hk hk'
 go_enter Tryz.func39,Tryz.ntmps39
 go_wp2
 go_ret
 obtain ⟨g,ρ',i,j⟩ := nck d.out HK.out x c.out
 exact ⟨ρ',w.heap.size + 1 + 1,rfl,g,by omega,i,j⟩
theorem pL (p0 : Addr) (w : World) :
  CallsD Tryz.prog 38 #[.pointer (some p0)] .returning w fun e u' w' => e = .returned (.tuple #[]) /\ u' = .returning /\ w' = w := by
 refine callsD_of_wpS Tryz.func38 rfl fun c₀ cs hu => ?_
 have c := qi
 apply wpS_seq
 apply wpS_region
 simp [wpOpsS,go_sem,recoverD,hu,Tryz.ntmps38,Exit.thenS,c]
 apply wpS_seq
 apply wpS_region
 simp [wpOpsS,go_sem,Array.replicate,Exit.thenS]
 refine wpS_cond (t := false) (by simp [Act.eval]) ?_; simp only [Bool.false_eq_true,if_false]; refine wpS_of_wp (wp_skip ?_); cases c₀
 simp_all [bodyPostS,results,Tryz.results38]
end
end Go.Proofs.YtnmkffjklpfflaaGreatDoor
