/- Something is thrown while the tables grow; and the tables stay in range as procedures are declared. -/
import Derived.Test.YtnmkffjklpfflaaGreatDoorG19
namespace Go.Proofs.YtnmkffjklpfflaaGreatDoor
open Go.RowKit
def Thw (ρ : Lay) (w : World) (e : Ending) (w' : World) : Prop := (∃ k n,Threw w k n e w') /\ Sm w w' (Kp ρ False)
section
variable {ρ ρ1 : Lay} {w w' w0 w1 : World} {S S' S1 : KS} {k : Prop} {b : Nat} {c : KSc} {e : Ending}
theorem Thw.thrown (h : Thw ρ w e w') : ∃ q,e = .panicked [{ v := .iface 103 (pq q),recovered := false }] := by
 obtain ⟨⟨_,_,q,h,_⟩,_⟩ := h
 exact ⟨q,h⟩
theorem Thw.cy {x : Int × Int} (h : Cy w (.error x) e w') : Thw ρ w e w' := ⟨⟨_,_,h.2⟩,Sm.of_none h.1 _⟩
theorem Thw.ahead (h : Thw ρ w1 e w') (hg : w.grownBy w1 none) : Thw ρ w e w' := by
 obtain ⟨⟨a,n,d⟩,f⟩ := h
 exact ⟨⟨a,n,d.le hg.size⟩,(Sm.of_none hg _).trans f⟩
theorem Thw.step (h : Thw ρ1 w1 e w') (hs : Stp k ρ w S ρ1 w1 S1) : Thw ρ w e w' := by
 obtain ⟨⟨a,n,l⟩,f⟩ := h; have j := hs.sm.size; refine ⟨⟨a,n,l.le j⟩,f.os.trans hs.sm.os,f.tape.trans hs.sm.tape,f.output.trans hs.sm.output,Nat.le_trans j f.size,fun g hg d => (f.block g (by omega) ?_).trans (hs.sm.block g hg ?_)⟩
 ·unfold Kp at d ⊢
  rw [hs.col g hg]
  exact d
 ·rcases d with d | d | ⟨-,d⟩
  ·exact .inl d
  ·exact .inr (.inl d)
  ·cases d
theorem tM (hg : w0.grownBy w none) (h : CK ρ w S b c) (hk : S.okB = true) (n : T) (sv : Value) (hf : Fits n) {tb q : Nat} {t : KTh} (hin : c.inner = some q) (hb : Bk w tb (thV ρ t)) (hc : ρ.col tb = none) (h0 : w0.heap.size <= tb)
  (hok : lk (S.pr q).inner n.name = none -> ((S.addTh { t with kind := 3,name := n.name }).setPr q { S.pr q with inner := (n.name,S.ths.length) :: (S.pr q).inner }).okB = true) :
  Calls Tryz.prog 109 #[pq b,zo n sv,pq tb] w (fun e w' => (S.innerC q n t = none /\ Thw ρ w0 e w') \/ ∃ S',S.innerC q n t = some S' /\ e = .returned (.tuple #[]) /\ ∃ ρ',Stp True ρ w0 S ρ' w' S' /\ ρ'.th S.ths.length = tb /\ Bk w' tb (thV ρ' (S'.th S.ths.length)) /\ Sm w w' (fun g => g ≠ tb /\ ρ.col g ≠ some (.inn q))) := by
 by_cases l : lk (S.pr q).inner n.name = none /\ lk ym n.name = none
 ·obtain ⟨f,o⟩ := l
  obtain ⟨S',j⟩ : ∃ S',S.innerC q n t = some S' := ⟨_,by
   unfold KS.innerC xC
   rw [f,o]
   exact if_pos (hok f)⟩
  exact (sT hg h hk n sv hf hin hb hc h0 j).mono (fun e w' h9 => .inr ⟨_,j,h9⟩)
 ·have j : S.innerC q n t = none := by
   unfold KS.innerC
   split
   ·rename_i f o
    exact absurd ⟨f,o⟩ l
   ·rfl
  refine (ur h n sv hf (KS.okIn hk) hin (Nat.lt_of_le_of_lt ((KS.okP hk).prP (h.hi q hin)).1.2 (by decide)) hb hc).mono ?_; rintro e w' (⟨-,r,d⟩ | ⟨r,d,-⟩)
  ·exact .inl ⟨j,⟨_,_,r.le hg.size⟩,d.os.trans hg.os,d.tape.trans hg.tape,d.output.trans hg.output,Nat.le_trans hg.size d.size,fun g h3 _ => (d.block g (Nat.lt_of_lt_of_le h3 hg.size) (by omega)).trans (hg.block g h3 (by simp))⟩
  ·exact absurd ⟨r,d⟩ l
theorem mz (hg : w0.grownBy w none) (h : CK ρ w S b c) (hk : S.okB = true) (hcb : ρ.col b = some .ck) (n : T) (sv : Value) (hf : Fits n) {tb : Nat} {t : KTh} (hb : Bk w tb (thV ρ t)) (hc : ρ.col tb = none) (h0 : w0.heap.size <= tb)
  (hok : lk (S.md c.home).names n.name = none -> ((S.addTh { t with name := n.name,exp := (n.num == 1),home := some c.home }).setMd c.home { S.md c.home with names := (n.name,S.ths.length) :: (S.md c.home).names,decl := (S.md c.home).decl ++ [S.ths.length] }).okB = true) :
  Calls Tryz.prog 70 #[pq b,zo n sv,pq tb] w (fun e w' => (S.declC c.home n t = none /\ Thw ρ w0 e w') \/ ∃ S',S.declC c.home n t = some S' /\ e = .returned (.tuple #[]) /\ ∃ ρ',Stp True ρ w0 S ρ' w' S' /\ ρ'.th S.ths.length = tb /\ Bk w' tb (thV ρ' (S'.th S.ths.length)) /\ Sm w w' (fun g => Kp ρ True g /\ g ≠ tb)) := by
 by_cases l : lk (S.md c.home).names n.name = none /\ lk ym n.name = none
 ·obtain ⟨f,o⟩ := l
  obtain ⟨S',j⟩ : ∃ S',S.declC c.home n t = some S' := ⟨_,by
   unfold KS.declC xC
   rw [f,o]
   exact if_pos (hok f)⟩
  exact (vB hg h hk hcb n sv hf hb hc h0 j).mono (fun e w' h9 => .inr ⟨_,j,h9⟩)
 ·have j : S.declC c.home n t = none := by
   unfold KS.declC
   split
   ·rename_i f o
    exact absurd ⟨f,o⟩ l
   ·rfl
  have r := (KS.okP hk).mdP h.hc; refine (qb h n sv hf (KS.okIn hk) hcb (Nat.lt_of_le_of_lt r.1.1.2 (by decide)) (Nat.le_trans r.1.2 (by decide)) hb hc).mono ?_; rintro e w' (⟨-,q,d⟩ | ⟨q,d,-⟩)
  ·exact .inl ⟨j,⟨_,_,q.le hg.size⟩,d.os.trans hg.os,d.tape.trans hg.tape,d.output.trans hg.output,Nat.le_trans hg.size d.size,fun g h3 _ => (d.block g (Nat.lt_of_lt_of_le h3 hg.size) (by omega)).trans (hg.block g h3 (by simp))⟩
  ·exact absurd ⟨q,d⟩ l
end
/-! ### In range -/
section
variable {S S' : KS}
theorem OkP.okB (h : OkP S) : S.okB = true := by
 simp only [KS.okB,Bool.and_eq_true,decide_eq_true_eq]
 exact ⟨⟨⟨⟨⟨⟨h.ty,h.th⟩,h.pr⟩,h.md⟩,h.mods⟩,h.two⟩,h.three⟩
theorem xD {α : Type} {l : List α} {f g : α -> Bool} (h : l.all f = true) (k : ∀ x,f x = true -> g x = true) : l.all g = true := List.all_eq_true.2 fun x hx => k x (List.all_eq_true.1 h x hx)
theorem sg {α : Type} {l : List α} {f : α -> Bool} (h : l.all f = true) {i : Nat} {x : α} (hx : f x = true) : (l.set i x).all f = true := List.all_eq_true.2 fun y hy => by
 rcases List.mem_or_eq_of_mem_set hy with h1 | h1
 ·exact List.all_eq_true.1 h y h1
 ·rw [h1]; exact hx
theorem aK {o : Option Nat} {n m : Nat} (h : opB o n = true) (k : n <= m) : opB o m = true := by
 cases o with
 | none => rfl
 | some j => simp only [opB,decide_eq_true_eq] at *; omega
theorem nH {l : List Nat} {n m : Nat} (h : (l.all fun j => decide (j < n)) = true) (k : n <= m) : (l.all fun j => decide (j < m)) = true := xD h fun x hx => by simp only [decide_eq_true_eq] at *; omega
theorem sf {l : List (Nm × Nat)} {n m : Nat} (h : (l.all fun q => decide (q.2 < n)) = true) (k : n <= m) : (l.all fun q => decide (q.2 < m)) = true := xD h fun x hx => by simp only [decide_eq_true_eq] at *; omega
theorem rg {p : KPr} (h : S.okPr p = true) (a : S'.mds.length = S.mds.length) (b : S'.tys.length = S.tys.length) (c : S.ths.length <= S'.ths.length) : S'.okPr p = true := by
 simp only [KS.okPr,Bool.and_eq_true,decide_eq_true_eq] at *; rw [a,b]
 exact ⟨⟨⟨⟨⟨h.1.1.1.1.1,h.1.1.1.1.2⟩,nH h.1.1.1.2 c⟩,sf h.1.1.2 c⟩,h.1.2⟩,h.2⟩
theorem gq {p : KMd} (h : S.okMd p = true) (a : S'.mds.length = S.mds.length) (c : S.ths.length <= S'.ths.length) : S'.okMd p = true := by
 simp only [KS.okMd,Bool.and_eq_true,decide_eq_true_eq] at *; rw [a]
 exact ⟨⟨⟨⟨⟨h.1.1.1.1.1,nH h.1.1.1.1.2 c⟩,sf h.1.1.1.2 c⟩,h.1.1.2⟩,h.1.2⟩,h.2⟩
theorem OkP.addTh (h : OkP S) {t : KTh} (ht : S.okTh t = true) : OkP (S.addTh t) := by
 have e : S.ths.length <= (S.addTh t).ths.length := by simp [KS.addTh]
 refine ⟨h.ty,?_,xD h.pr fun p hp => rg hp rfl rfl e,xD h.md fun p hp => gq hp rfl e,h.mods,Nat.le_trans h.two e,h.three⟩
 show (S.ths ++ [t]).all S.okTh = true
 rw [List.all_append,h.th]
 simpa using ht
theorem OkP.setTh (h : OkP S) {i : Nat} {t : KTh} (ht : S.okTh t = true) : OkP (S.setTh i t) := by
 have e : (S.setTh i t).ths.length = S.ths.length := by simp [KS.setTh]
 exact ⟨h.ty,sg h.th ht,xD h.pr fun p hp => rg hp rfl rfl (Nat.le_of_eq e.symm),xD h.md fun p hp => gq hp rfl (Nat.le_of_eq e.symm),h.mods,by rw [e]; exact h.two,h.three⟩
theorem tX {t : KTh} (h : S.okTh t = true) (a : S'.mds.length = S.mds.length) (b : S'.tys.length = S.tys.length) (c : S.prs.length <= S'.prs.length) : S'.okTh t = true := by
 simp only [KS.okTh,Bool.and_eq_true] at *; rw [a,b]
 exact ⟨⟨⟨⟨⟨h.1.1.1.1.1,h.1.1.1.1.2⟩,aK h.1.1.1.2 c⟩,h.1.1.2⟩,h.1.2⟩,h.2⟩
theorem OkP.setPr (h : OkP S) {i : Nat} {t : KPr} (ht : S.okPr t = true) : OkP (S.setPr i t) := by
 have e : (S.setPr i t).prs.length = S.prs.length := by simp [KS.setPr]
 exact ⟨h.ty,xD h.th fun p hp => tX hp rfl rfl (Nat.le_of_eq e.symm),sg h.pr ht,h.md,h.mods,h.two,h.three⟩
theorem OkP.addPr (h : OkP S) {t : KPr} (ht : S.okPr t = true) : OkP (S.addPr t) := by
 refine ⟨h.ty,xD h.th fun p hp => tX hp rfl rfl (by simp [KS.addPr]),?_,h.md,h.mods,h.two,h.three⟩
 show (S.prs ++ [t]).all S.okPr = true
 rw [List.all_append,h.pr]
 simpa using ht
theorem OkP.setMd (h : OkP S) {i : Nat} {t : KMd} (ht : S.okMd t = true) : OkP (S.setMd i t) := by
 have e : (S.setMd i t).mds.length = S.mds.length := by simp [KS.setMd]
 refine ⟨xD h.ty fun p hp => ?_,xD h.th fun p hp => tX hp e rfl (Nat.le_refl _),xD h.pr fun p hp => rg hp e rfl (Nat.le_refl _),sg (xD h.md fun p hp => gq hp e (Nat.le_refl _)) (gq ht e (Nat.le_refl _)),xD h.mods fun q hq => by rw [e]; exact hq,h.two,h.three⟩; simp only [KS.okTy] at *; rw [e]
 exact hp
structure FuP (S : KS) : Prop where
 ty : S.tysB = true
 cp : (S.tys.all fun t => decide (t.form = 2) || t.complete) = true
 th : (S.ths.all fun t => (decide (t.kind ≠ 3) && decide (t.kind ≠ 1)) || t.ty.isSome) = true
 pr : ∀ p ∈ S.prs,∀ x ∈ p.pars,(S.th x).kind = 3
theorem FuP.full (h : FuP S) : S.fullB = true := by
 simp only [KS.fullB,Bool.and_eq_true]
 exact ⟨⟨⟨h.ty,h.cp⟩,h.th⟩,List.all_eq_true.2 fun p hp => List.all_eq_true.2 fun x hx => by simpa using h.pr p hp x hx⟩
theorem KS.fuP (h : S.fullB = true) : FuP S := by
 simp only [KS.fullB,Bool.and_eq_true] at h
 exact ⟨h.1.1.1,h.1.1.2,h.1.2,fun p hp x hx => by simpa using uk (uk h.2 hp) hx⟩
theorem FuP.step (h : FuP S) (et : S'.tys = S.tys) (hk : ∀ p ∈ S.prs,∀ x ∈ p.pars,(S'.th x).kind = (S.th x).kind) (ht : (S'.ths.all fun t => (decide (t.kind ≠ 3) && decide (t.kind ≠ 1)) || t.ty.isSome) = true) (hp : ∀ q ∈ S'.prs,∀ x ∈ q.pars,(∃ p ∈ S.prs,x ∈ p.pars) \/ (S'.th x).kind = 3) : FuP S' := by
 refine ⟨?_,by rw [et]; exact h.cp,ht,fun q hq x hx => ?_⟩
 ·rw [<- h.ty]
  unfold KS.tysB KS.ty
  rw [et]
 ·rcases hp q hq x hx with ⟨p,d,f⟩ | d
  ·rw [hk p d x f,h.pr p d x f]
  ·exact d
/-! ### Each step in range -/
variable {i p m x : Nat}
theorem fM (h : S.okB = true) (hp : p < S.prs.length) {t : KTh} {y : Nm} (h1 : t.home = none) (h2 : t.proc = none) (h3 : t.mod = none) (h4 : ∀ j,t.ty = some j -> j < S.tys.length) (hl : (S.pr p).inner.length < 100000) :
  ((S.addTh { t with kind := 3,name := y }).setPr p { S.pr p with inner := (y,S.ths.length) :: (S.pr p).inner }).okB = true := by
 have H := KS.okP h; have P := H.prP hp
 have e : S.ths.length <= (S.addTh { t with kind := 3,name := y }).ths.length := by simp [KS.addTh]
 refine ((H.addTh ?_).setPr ?_).okB
 ·simp only [KS.okTh,h1,h2,h3,opB,Bool.true_and,Bool.and_true]
  cases d : t.ty with
  | none => rfl
  | some j => simpa using h4 j d
 ·simp only [KS.okPr,Bool.and_eq_true,decide_eq_true_eq,List.all_cons]
  exact ⟨⟨⟨⟨⟨P.1.1.1.1.1,P.1.1.1.1.2⟩,nH P.1.1.1.2 e⟩,by simp [KS.addTh],sf P.1.1.2 e⟩,by simp only [List.length_cons]; omega⟩,P.2⟩
theorem ak (h : S.okB = true) (hi : i < S.ths.length) (hx : x < S.tys.length) : (S.setTh i { S.th i with ty := some x }).okB = true := by
 have H := KS.okP h; have P := H.thP hi; refine (H.setTh ?_).okB; simp only [KS.okTh,Bool.and_eq_true]
 exact ⟨⟨⟨⟨⟨P.1.1.1.1.1,by simpa [opB] using hx⟩,P.1.1.1.2⟩,P.1.1.2⟩,by simp⟩,P.2⟩
theorem bs (h : S.okB = true) (hp : p < S.prs.length) (hx : x < S.ths.length) (hl : (S.pr p).pars.length < 100000) : (S.setPr p { S.pr p with pars := (S.pr p).pars ++ [x] }).okB = true := by
 have H := KS.okP h; have P := H.prP hp; refine (H.setPr ?_).okB; simp only [KS.okPr,Bool.and_eq_true,decide_eq_true_eq,List.all_append]
 exact ⟨⟨⟨⟨⟨P.1.1.1.1.1,P.1.1.1.1.2⟩,P.1.1.1.2,by simpa using hx⟩,P.1.1.2⟩,P.1.2⟩,by simp only [la,lc,ln]; omega⟩
theorem lP (h : S.okB = true) (hm : m < S.mds.length) (l : List T) : (S.addPr { pr0 with home := m,acts := l }).okB = true := by
 refine ((KS.okP h).addPr ?_).okB
 simp [KS.okPr,pr0,opB,hm]
theorem cT (h : S.okB = true) (hm : m < S.mds.length) {t : KTh} (ht : S.okTh t = true) {y : Nm} (h1 : (S.md m).names.length < 100000) (h2 : (S.md m).decl.length < 100000) :
  ((S.addTh t).setMd m { S.md m with names := (y,S.ths.length) :: (S.md m).names,decl := (S.md m).decl ++ [S.ths.length] }).okB = true := by
 have H := KS.okP h; have P := H.mdP hm
 have e : S.ths.length <= (S.addTh t).ths.length := by simp [KS.addTh]
 refine ((H.addTh ht).setMd ?_).okB; simp only [KS.okMd,Bool.and_eq_true,decide_eq_true_eq,List.all_cons,List.all_append]
 exact ⟨⟨⟨⟨⟨P.1.1.1.1.1,nH P.1.1.1.1.2 e,by simp [KS.addTh]⟩,by simp [KS.addTh],sf P.1.1.1.2 e⟩,by simp only [List.length_cons]; omega⟩,by simp only [la,lc,ln]; omega⟩,P.2⟩
theorem zae (h : S.okB = true) (hp : p < S.prs.length) (hx : x < S.tys.length) : (S.setPr p { S.pr p with result := some x }).okB = true := by
 have H := KS.okP h; have P := H.prP hp; refine (H.setPr ?_).okB; simp only [KS.okPr,Bool.and_eq_true,decide_eq_true_eq]
 exact ⟨⟨⟨⟨⟨P.1.1.1.1.1,by simpa [opB] using hx⟩,P.1.1.1.2⟩,P.1.1.2⟩,P.1.2⟩,P.2⟩
theorem lT (h : S.okB = true) (hp : p < S.prs.length) (z : Int) : (S.setPr p { S.pr p with words := z }).okB = true := by
 have H := KS.okP h; refine (H.setPr ?_).okB; have P : S.okPr (S.pr p) = true := uN H.pr hp pr0
 exact P
end
/-! ### Both ways -/
def Ends {α : Type} (ρ : Lay) (w : World) (r : Option α) (Q : α -> Prop) (e : Ending) (w' : World) : Prop := match r with
 | some q => Q q
 | none => Thw ρ w e w'
section
variable {ρ : Lay} {w w' : World} {e : Ending} {S : KS}
theorem Ends.yes {α : Type} {r : Option α} {Q : α -> Prop} {q : α} (h : r = some q) (h2 : Q q) : Ends ρ w r Q e w' := by rw [h]; exact h2
theorem Ends.no {α : Type} {r : Option α} {Q : α -> Prop} (h : r = none) (h2 : Thw ρ w e w') : Ends ρ w r Q e w' := by rw [h]; exact h2
theorem aX {k : Prop} {g p : Nat} (h : Kp ρ k g) : ρ.col g ≠ some (.inn p) := by
 rcases h with h | h | ⟨h,-⟩ <;> rw [h] <;> nofun
theorem oM {f : KS -> Int -> T -> Option (KS × Int)} {l : List T} {j : Nat} {v : T} {z : Int} {q : KS × Int} {R : Option (KS × Int)} (hv : l[j]? = some v) (h : xm f (l.drop j) S z = R) (hq : f S z v = some q) : xm f (l.drop (j + 1)) q.1 q.2 = R := by
 obtain ⟨d,rfl⟩ := List.getElem?_eq_some_iff.1 hv; rw [List.drop_eq_getElem_cons d,xm,hq] at h
 exact h
theorem oE {f : KS -> Int -> T -> Option (KS × Int)} {l : List T} {j : Nat} {v : T} {z : Int} (hv : l[j]? = some v) (hq : f S z v = none) : xm f (l.drop j) S z = none := by
 obtain ⟨d,rfl⟩ := List.getElem?_eq_some_iff.1 hv; rw [List.drop_eq_getElem_cons d,xm,hq]
 rfl
theorem fJ {f : KS -> T -> Option KS} {l : List T} {j : Nat} {v : T} {q : KS} {R : Option KS} (hv : l[j]? = some v) (h : zX f (l.drop j) S = R) (hq : f S v = some q) : zX f (l.drop (j + 1)) q = R := by
 obtain ⟨d,rfl⟩ := List.getElem?_eq_some_iff.1 hv; rw [List.drop_eq_getElem_cons d,zX,hq] at h
 exact h
theorem gP {f : KS -> T -> Option KS} {l : List T} {j : Nat} {v : T} (hv : l[j]? = some v) (hq : f S v = none) : zX f (l.drop j) S = none := by
 obtain ⟨d,rfl⟩ := List.getElem?_eq_some_iff.1 hv; rw [List.drop_eq_getElem_cons d,zX,hq]
 rfl
def OneSub (v : T) : Prop := ∃ u r,v.subs = u :: r /\ u.kind ≠ 0
def KS.innVarC' (S : KS) (m p : Nat) (k : Int) (n u : T) : Option (KS × Int) := (uS (S.typeName ⟨m,some p⟩ u)).bind fun j => (S.innerC p n { th0 with first := k,ty := some j }).bind fun S1 => if k + (S.ty j).words <= 512 then some (S1,k + (S.ty j).words) else none
theorem qO {m p : Nat} {k : Int} {n u : T} {r : List T} (hs : n.subs = u :: r) (hu : u.kind ≠ 0) : KS.innVarC m p S k n = S.innVarC' m p k n u := by
 unfold KS.innVarC KS.innVarC' KS.typeO
 rw [show Go.Proofs.YtnmkffjklpfflaaGreatDoor.sub n 0 = u by unfold Go.Proofs.YtnmkffjklpfflaaGreatDoor.sub; rw [hs]; rfl,if_neg hu]
def KS.parC' (S : KS) (m p : Nat) (n : T) : Option KS := (S.innerC p n { th0 with first := (S.pr p).inner.length,byVar := (n.num == 1) }).bind fun S1 =>
 (if n.num = 1 then S1.typeO ⟨m,some p⟩ (Go.Proofs.YtnmkffjklpfflaaGreatDoor.sub n 0) else S1.oneO ⟨m,some p⟩ (Go.Proofs.YtnmkffjklpfflaaGreatDoor.sub n 0)).bind fun j => xC (S1.setTh S.ths.length { S1.th S.ths.length with ty := some j })
theorem rf {m p : Nat} {n : T} (h : ndB (S.pr p).inner = true) : KS.parC m p S n = (S.parC' m p n).bind fun S2 => xC (S2.setPr p { S2.pr p with pars := (S2.pr p).pars ++ [S.ths.length] }) := by
 unfold KS.parC KS.parC'
 rw [if_neg (by rw [h]; nofun)]; simp only [Option.bind_assoc]
theorem mR {m p : Nat} {n u : T} {r : List T} (hs : n.subs = u :: r) (hu : u.kind ≠ 0) : S.parC' m p n = (S.innerC p n { th0 with first := (S.pr p).inner.length,byVar := (n.num == 1) }).bind fun S1 =>
  (uS (if n.num = 1 then S1.typeName ⟨m,some p⟩ u else S1.oneWordType ⟨m,some p⟩ u)).bind fun j => xC (S1.setTh S.ths.length { S1.th S.ths.length with ty := some j }) := by
 unfold KS.parC' KS.typeO KS.oneO
 rw [show Go.Proofs.YtnmkffjklpfflaaGreatDoor.sub n 0 = u by unfold Go.Proofs.YtnmkffjklpfflaaGreatDoor.sub; rw [hs]; rfl]; simp only [if_neg hu]
 congr
 funext S1
 split <;> rfl
theorem jB {b : Nat} {c : KSc} (h : CK ρ w S b c) {n : T} {t : Nat} (e : S.oneWordType c n = .ok t) : t < S.tys.length := by
 unfold KS.oneWordType at e
 cases d : S.typeName c n with
 | error x => rw [d] at e; cases e
 | ok q =>
  rw [d] at e; simp only [Except.bind] at e
  split at e
  ·cases e; exact yF h d
  ·cases e
theorem Ends.or {α : Type} {r : Option α} {Q : α -> Prop} (h : Ends ρ w r Q e w') : (r = none /\ Thw ρ w e w') \/ ∃ q,r = some q /\ Q q := by
 cases r with
 | none => exact .inl ⟨rfl,h⟩
 | some q => exact .inr ⟨q,rfl,h⟩
theorem pn {S2 : KS} {m p : Nat} {n : T} (hp : p < S.prs.length) (h : S.parC' m p n = some S2) : S2.pr p = { S.pr p with inner := (n.name,S.ths.length) :: (S.pr p).inner } /\ lk (S.pr p).inner n.name = none /\ S2.okB = true /\ S.ths.length < S2.ths.length /\ S2.prs.length = S.prs.length := by
 obtain ⟨_,d,f⟩ := Option.bind_eq_some_iff.1 h; obtain ⟨j,-,g⟩ := Option.bind_eq_some_iff.1 f; obtain ⟨rfl,l⟩ := yn g; obtain ⟨o,-,rfl,-⟩ := yP d; refine ⟨zY _ _ _ hp,o,l,?_,?_⟩
 ·simp [KS.setTh,KS.setPr,KS.addTh]
 ·simp [KS.setTh,KS.setPr,KS.addTh]
theorem i5 {m : Nat} {n : T} (h : (S.addPr { pr0 with home := m,acts := (Go.Proofs.YtnmkffjklpfflaaGreatDoor.sub n 3).subs }).okB = true) : S.headC m n = ((S.addPr { pr0 with home := m,acts := (Go.Proofs.YtnmkffjklpfflaaGreatDoor.sub n 3).subs }).declC m n { th0 with kind := 4,proc := some S.prs.length }).bind fun S2 =>
  (zX (KS.parC m S.prs.length) (Go.Proofs.YtnmkffjklpfflaaGreatDoor.sub n 0).subs S2).bind fun S3 => if (Go.Proofs.YtnmkffjklpfflaaGreatDoor.sub n 1).kind = 0 then some S3 else (uS (S3.oneWordType ⟨m,some S.prs.length⟩ (Go.Proofs.YtnmkffjklpfflaaGreatDoor.sub n 1))).bind fun j => xC (S3.setPr S.prs.length { S3.pr S.prs.length with result := some j }) := by
 unfold KS.headC KS.oneO
 rw [show xC _ = some _ from if_pos h,Option.bind_some]
 congr
 funext S2
 congr
 funext S3
 split <;> rfl
end
end Go.Proofs.YtnmkffjklpfflaaGreatDoor
