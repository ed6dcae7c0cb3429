/- Blocks that were nobody's become somebody's. -/
import Derived.Test.YtnmkffjklpfflaaGreatDoorK10
import Derived.Test.YtnmkffjklpfflaaGreatDoorK14
namespace Go.Proofs.YtnmkffjklpfflaaGreatDoor
open Go.RowKit
set_option maxHeartbeats 1000000
set_option maxRecDepth 100000
section
variable {ρ ρ' : Lay} {w w' : World} {S S' : KS} {k : Prop} {b : Nat}
def Lay.paint (ρ : Lay) (f : Nat -> Option Lb) : Lay := { ρ with col := fun g => match ρ.col g with | some l => some l | none => f g }
theorem fP {f : Nat -> Option Lb} {l : Lb} (h : ρ.col b = some l) : (ρ.paint f).col b = some l := by simp only [Lay.paint]; rw [h]
theorem xJ {f : Nat -> Option Lb} (h : ρ.col b = none) : (ρ.paint f).col b = f b := by simp only [Lay.paint]; rw [h]
theorem fW (ρ : Lay) (S : KS) (f : Nat -> Option Lb) : Agr ρ (ρ.paint f) S := ⟨rfl,rfl,rfl,fun _ _ => rfl,fun _ _ => rfl,fun _ _ => rfl,fun _ _ => rfl,fun _ _ => rfl,fun _ _ => rfl,fun _ _ h => fP h⟩
theorem KM.paint (h : KM ρ w S) (hi : KIn S) {f : Nat -> Option Lb} (hf : ∀ g,w.heap.size <= g -> f g = none) : KM (ρ.paint f) w S := by
 have c := fW ρ S f
 exact h.turn (P := fun _ => True) hi c (Sm.refl w _) (fun g hg => (xJ (h.fr g hg)).trans (hf g hg)) (fun _ _ => trivial) (fun _ _ => trivial) (h.mo_turn hi c (Sm.refl w (fun _ => True)) (fun _ _ => trivial)) (fun j hj => (h.ty j hj).re hi c hj) (fun j hj => (h.th j hj).re hi c hj) (fun j hj => (h.pr j hj).re hi c hj) (fun j hj => (h.md j hj).re hi c hj)
theorem Stp.paint (h : Stp k ρ w S ρ' w' S') {f : Nat -> Option Lb} (hf : ∀ g,w'.heap.size <= g -> f g = none) (h0 : ∀ g,g < w.heap.size -> f g = none) : Stp k ρ w S (ρ'.paint f) w' S' :=
 ⟨h.km.paint (KS.okIn h.ok) hf,h.ok,h.agr.trans (fW ρ' S' f) h.tys h.ths h.prs h.mds,fun g hg => by
  cases hq : ρ'.col g with
  | some l => rw [fP hq,<- h.col g hg,hq]
  | none => rw [xJ hq,h0 g hg,<- h.col g hg,hq],h.sm,h.tys,h.ths,h.prs,h.mds⟩
theorem Stp.addMd (h : KM ρ w S) (hk : S.okB = true) (hg : w.grownBy w' none) {x : Nm} {mb nb : Nat} (hb : Bk w' mb [Go.Proofs.YtnmkffjklpfflaaGreatDoor.ptr (some ρ.wd),.pointer (some ⟨mb,0,none⟩),.map none,.slice none 0 0,.int .i64 0,.string ⟨x.toArray⟩,.slice none 0 0,.slice none 0 0,.map (some nb)]) (hm : MapAt w' nb [])
  (h1 : w.heap.size <= mb) (h2 : w.heap.size <= nb) (hne : nb ≠ mb) (hk' : (S.addMd { md0 with name := x }).okB = true) : Stp k ρ w S (ρ.addMd S.mds.length mb nb) w' (S.addMd { md0 with name := x }) where
 km := (h.up hg).addMd (KS.okIn hk) hb hm (h.fr _ h1) (h.fr _ h2) hne
 ok := hk'
 agr := fH S (h.fr _ h1) (h.fr _ h2)
 col := fun g hl => by
  simp only [Lay.addMd]; rw [if_neg (by omega),if_neg (by omega)]
 sm := Sm.of_none hg _
 tys := Nat.le_refl _
 ths := Nat.le_refl _
 prs := Nat.le_refl _
 mds := by simp [KS.addMd]
theorem nck (h : KM ρ w S) (hk : S.okB = true) (x : Nm) (hk' : (S.addMd { md0 with name := x }).okB = true) : let W := ((w.alloc (.map #[] 0)).alloc (.cells #[.pointer (some ⟨ρ.wd,0,none⟩),.pointer (some ⟨w.heap.size + 1,0,none⟩),.map none,.slice none 0 0,.int .i64 0,.string ⟨x.toArray⟩,.slice none 0 0,.slice none 0 0,.map (some w.heap.size)] 85)).alloc (.cells #[.pointer (some ⟨ρ.wd,0,none⟩),.pointer (some ⟨w.heap.size + 1,0,none⟩),.map none,.pointer none] 109)
  w.grownBy W none /\ ∃ ρ',Stp True ρ w S ρ' W (S.addMd { md0 with name := x }) /\ CB ρ' W (S.addMd { md0 with name := x }) (w.heap.size + 1 + 1) ⟨S.mds.length,none⟩ (.pointer none) := by
 intro W; have j : w.grownBy (w.alloc (.map #[] 0)) none := zf (zc w none) _; have i : (w.alloc (.map #[] 0)).grownBy ((w.alloc (.map #[] 0)).alloc (.cells #[.pointer (some ⟨ρ.wd,0,none⟩),.pointer (some ⟨w.heap.size + 1,0,none⟩),.map none,.slice none 0 0,.int .i64 0,.string ⟨x.toArray⟩,.slice none 0 0,.slice none 0 0,.map (some w.heap.size)] 85)) none := zf (zc _ none) _; have e : ((w.alloc (.map #[] 0)).alloc (.cells #[.pointer (some ⟨ρ.wd,0,none⟩),.pointer (some ⟨w.heap.size + 1,0,none⟩),.map none,.slice none 0 0,.int .i64 0,.string ⟨x.toArray⟩,.slice none 0 0,.slice none 0 0,.map (some w.heap.size)] 85)).grownBy W none := zf (zc _ none) _; have l : MapAt W w.heap.size [] := ((MapAt.new w).kept i (by simp)).kept e (by simp)
 have m : Bk W (w.heap.size + 1) [.pointer (some ⟨ρ.wd,0,none⟩),.pointer (some ⟨w.heap.size + 1,0,none⟩),.map none,.slice none 0 0,.int .i64 0,.string ⟨x.toArray⟩,.slice none 0 0,.slice none 0 0,.map (some w.heap.size)] := by
  have c := Bk.new (w.alloc (.map #[] 0)) #[.pointer (some ⟨ρ.wd,0,none⟩),.pointer (some ⟨w.heap.size + 1,0,none⟩),.map none,.slice none 0 0,.int .i64 0,.string ⟨x.toArray⟩,.slice none 0 0,.slice none 0 0,.map (some w.heap.size)] 85 (vs := [.pointer (some ⟨ρ.wd,0,none⟩),.pointer (some ⟨w.heap.size + 1,0,none⟩),.map none,.slice none 0 0,.int .i64 0,.string ⟨x.toArray⟩,.slice none 0 0,.slice none 0 0,.map (some w.heap.size)]) rfl; rw [show (w.alloc (.map #[] 0)).heap.size = w.heap.size + 1 by simp] at c
  exact c.kept e (by simp)
 have n : Bk W (w.heap.size + 1 + 1) [.pointer (some ⟨ρ.wd,0,none⟩),.pointer (some ⟨w.heap.size + 1,0,none⟩),.map none,.pointer none] := by
  have c := Bk.new ((w.alloc (.map #[] 0)).alloc (.cells #[.pointer (some ⟨ρ.wd,0,none⟩),.pointer (some ⟨w.heap.size + 1,0,none⟩),.map none,.slice none 0 0,.int .i64 0,.string ⟨x.toArray⟩,.slice none 0 0,.slice none 0 0,.map (some w.heap.size)] 85)) #[.pointer (some ⟨ρ.wd,0,none⟩),.pointer (some ⟨w.heap.size + 1,0,none⟩),.map none,.pointer none] 109 (vs := [.pointer (some ⟨ρ.wd,0,none⟩),.pointer (some ⟨w.heap.size + 1,0,none⟩),.map none,.pointer none]) rfl; rw [show ((w.alloc (.map #[] 0)).alloc (.cells #[.pointer (some ⟨ρ.wd,0,none⟩),.pointer (some ⟨w.heap.size + 1,0,none⟩),.map none,.slice none 0 0,.int .i64 0,.string ⟨x.toArray⟩,.slice none 0 0,.slice none 0 0,.map (some w.heap.size)] 85)).heap.size = w.heap.size + 1 + 1 by simp] at c
  exact c
 have G := za (za j i) e
 have q : W.heap.size = w.heap.size + 3 := by simp [W]
 have o := Stp.addMd (k := True) h hk G m l (by omega) (by omega) (by omega) hk'; have d := o.paint (f := fun g => if g = w.heap.size + 1 + 1 then some .ck else none) (fun g hg => if_neg (by omega)) (fun g hg => if_neg (by omega)); refine ⟨G,_,d,CB.of hk' d.km ?_ ?_ (by simp [KS.addMd]) (fun p hp => by cases hp)⟩
 ·show Bk W _ [_,.pointer (some ⟨(ρ.addMd S.mds.length (w.heap.size + 1) w.heap.size).md S.mds.length,0,none⟩),_,_]
  rw [show (ρ.addMd S.mds.length (w.heap.size + 1) w.heap.size).md S.mds.length = w.heap.size + 1 by simp [Lay.addMd]]
  exact n
 ·rw [xJ,if_pos rfl]
  simp only [Lay.addMd]; rw [if_neg (by omega),if_neg (by omega)]
  exact h.fr _ (by omega)
theorem qh (h : KM ρ w S) (hk : S.okB = true) (x : Nm) (hk' : (S.addMd { md0 with name := x }).okB = true) :
  Calls Tryz.prog 39 #[.pointer (some ⟨ρ.wd,0,none⟩),.string ⟨x.toArray⟩] w (fun e w' => ∃ ρ' b,e = .returned (.pointer (some ⟨b,0,none⟩)) /\ w.grownBy w' none /\ w.heap.size <= b /\ Stp True ρ w S ρ' w' (S.addMd { md0 with name := x }) /\ CB ρ' w' (S.addMd { md0 with name := x }) b ⟨S.mds.length,none⟩ (.pointer none)) := by
 have d := ze h; have HK := ze hk; have c := ze hk'; have f := @run_makeMap Tryz.prog; clear h hk hk'
 go_enter Tryz.func39,Tryz.ntmps39
 go_wp2
 go_ret
 obtain ⟨g,ρ',i,j⟩ := nck d.out HK.out x c.out
 exact ⟨ρ',w.heap.size + 1 + 1,rfl,g,by omega,i,j⟩
theorem tK (p0 : Addr) (w : World) :
  CallsD Tryz.prog 38 #[.pointer (some p0)] .returning w fun e u' w' => e = .returned (.tuple #[]) /\ u' = .returning /\ w' = w := by
 refine callsD_of_wpS Tryz.func38 rfl fun c₀ cs hu => ?_
 have c := kN
 apply wpS_seq
 apply wpS_region
 simp [wpOpsS,go_sem,recoverD,hu,Tryz.ntmps38,Exit.thenS,c]
 apply wpS_seq
 apply wpS_region
 simp [wpOpsS,go_sem,Array.replicate,Exit.thenS]
 refine wpS_cond (t := false) (by simp [Act.eval]) ?_; simp only [Bool.false_eq_true,if_false]; refine wpS_of_wp (wp_skip ?_); cases c₀
 simp_all [bodyPostS,results,Tryz.results38]
theorem fS {n : T} (h : S.wholeD n = some S') : lk S.mods n.name = none /\ (S.addMd { md0 with name := n.name }).okB = true /\ ∃ S1,(S.addMd { md0 with name := n.name }).bodyD S.mds.length n = some S1 /\ S' = { S1 with mods := (n.name,S.mds.length) :: S1.mods } /\ S'.okB = true := by
 unfold KS.wholeD at h
 split at h
 ·cases h
 ·rename_i h0
  obtain ⟨S1,c,d⟩ := Option.bind_eq_some_iff.1 h; obtain ⟨e,f,g⟩ := Option.bind_eq_some_iff.1 d; obtain ⟨rfl,i⟩ := yg c; obtain ⟨rfl,j⟩ := yg g
  exact ⟨h0,i,e,f,rfl,j⟩
end
end Go.Proofs.YtnmkffjklpfflaaGreatDoor
