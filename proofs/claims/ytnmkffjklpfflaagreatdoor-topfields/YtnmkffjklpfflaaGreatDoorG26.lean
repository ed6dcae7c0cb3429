/- What procedures leave of the tables: types,names,and what the bodies ask. -/
import Derived.Test.YtnmkffjklpfflaaGreatDoorG20
import Derived.Test.YtnmkffjklpfflaaGreatDoorG25
namespace Go.Proofs.YtnmkffjklpfflaaGreatDoor
section
variable {S S' S1 S2 : KS} {m p i : Nat}
structure Grw (m p : Nat) (S S' : KS) : Prop where
 ok : S'.okB = true
 tys : S'.tys = S.tys
 mods : S'.mods = S.mods
 prs : S.prs.length <= S'.prs.length
 mds : S'.mds.length = S.mds.length
 pr : ∀ i,i ≠ p -> S'.pr i = S.pr i
 md : ∀ i,i ≠ m -> S'.md i = S.md i
 th : ∀ i,i < S.ths.length -> S'.th i = S.th i
 ths : S.ths.length <= S'.ths.length
 nm : ∀ x t,lk (S.md m).names x = some t -> lk (S'.md m).names x = some t
 full : S.okB = true -> FuP S -> FuP S'
theorem Grw.refl (h : S.okB = true) : Grw m p S S := ⟨h,rfl,rfl,Nat.le_refl _,rfl,fun _ _ => rfl,fun _ _ => rfl,fun _ _ => rfl,Nat.le_refl _,fun _ _ h => h,fun _ h => h⟩
theorem Grw.trans (h : Grw m p S S1) (k : Grw m p S1 S2) : Grw m p S S2 := ⟨k.ok,k.tys.trans h.tys,k.mods.trans h.mods,Nat.le_trans h.prs k.prs,k.mds.trans h.mds,fun i hi => (k.pr i hi).trans (h.pr i hi),fun i hi => (k.md i hi).trans (h.md i hi),fun i hi => (k.th i (Nat.lt_of_lt_of_le hi h.ths)).trans (h.th i hi),Nat.le_trans h.ths k.ths,fun x t e => k.nm x t (h.nm x t e),fun a b => k.full h.ok (h.full a b)⟩
theorem nx (h : FuP S) (ho : S.okB = true) {t : KTh} {prs' : List KPr} {mds' : List KMd} (ht : (t.kind ≠ 3 /\ t.kind ≠ 1) \/ t.ty.isSome = true) (hp : ∀ q ∈ prs',∀ x ∈ q.pars,(∃ p ∈ S.prs,x ∈ p.pars) \/ (x = S.ths.length /\ t.kind = 3)) : FuP { S with ths := S.ths ++ [t],prs := prs',mds := mds' } := by
 refine h.step rfl (fun q hq x hx => ?_) ?_ (fun q hq x hx => ?_)
 ·have b := uk (KS.okP ho).pr hq
  simp only [KS.okPr,Bool.and_eq_true] at b; rw [show KS.th { S with ths := S.ths ++ [t],prs := prs',mds := mds' } x = S.th x from vb _ _ _ (ra b.1.1.1.2 hx)]
 ·rw [List.all_append,h.th]
  simp only [List.all_cons,List.all_nil,Bool.and_true,Bool.true_and]
  rcases ht with b | b
  ·simp [b.1,b.2]
  ·simp [b]
 ·rcases hp q hq x hx with b | ⟨rfl,b⟩
  ·exact .inl b
  ·refine .inr ?_
   rw [show KS.th { S with ths := S.ths ++ [t],prs := prs',mds := mds' } S.ths.length = t from xg _ _ _]
   exact b
theorem lM (h : FuP S) {prs' : List KPr} {mds' : List KMd} (hp : ∀ q ∈ prs',∀ x ∈ q.pars,∃ p ∈ S.prs,x ∈ p.pars) : FuP { S with prs := prs',mds := mds' } :=
 h.step rfl (fun _ _ _ _ => rfl) h.th (fun q hq x hx => .inl (hp q hq x hx))
theorem oP (hp : p < S.prs.length) : S.pr p ∈ S.prs := by
 unfold KS.pr
 rw [List.getElem?_eq_getElem hp]
 exact List.getElem_mem hp
theorem sI {α : Type} {l : List α} {x y : α} (h : y ∈ l.set i x) : y ∈ l \/ y = x := List.mem_or_eq_of_mem_set h
theorem ld {n : T} {t : KTh} (hp : p < S.prs.length) (ht : t.ty.isSome = true) (h : S.innerC p n t = some S') : Grw m p S S' := by
 obtain ⟨-,-,rfl,c⟩ := yP h; refine ⟨c,rfl,rfl,by simp [KS.setPr,KS.addTh],rfl,fun i hi => yN _ _ _ hi,fun _ _ => rfl,fun i hi => vb _ _ _ hi,by simp [KS.setPr,KS.addTh],fun _ _ h => h,fun a b => nx b a (.inr ht) (fun q hq x hx => .inl ?_)⟩
 rcases sI hq with d | rfl
 ·exact ⟨q,d,hx⟩
 ·exact ⟨_,oP hp,hx⟩
theorem mj {n : T} (hp : p < S.prs.length) (h : KS.parC m p S n = some S') : Grw m p S S' := by
 unfold KS.parC at h
 split at h
 ·cases h
 obtain ⟨S1,k,l⟩ := Option.bind_eq_some_iff.1 h; obtain ⟨j,-,o⟩ := Option.bind_eq_some_iff.1 l; obtain ⟨S2,r,s⟩ := Option.bind_eq_some_iff.1 o; obtain ⟨d,-⟩ := yn r; obtain ⟨f,g⟩ := yn s; obtain ⟨-,-,e,-⟩ := yP k
 have t : (S1.th S.ths.length).kind = 3 := by rw [e,show ((S.addTh _).setPr p _).th S.ths.length = _ from xg _ _ _]
 have u : (S2.pr p).pars = (S.pr p).pars := by rw [d,e,show (KS.setTh ((S.addTh _).setPr p _) _ _).pr p = _ from zY _ _ _ hp]
 have v : ∀ P,S2.setPr p P = { S with ths := S.ths ++ [{ S1.th S.ths.length with ty := some j }],prs := S.prs.set p P } := fun P => by
  generalize { S1.th S.ths.length with ty := some j } = t2 at d
  rw [d,e]
  simp [KS.setPr,KS.setTh,KS.addTh]
 rw [v] at f g; subst f; refine ⟨g,rfl,rfl,by simp,rfl,fun i hi => yN _ _ _ hi,fun _ _ => rfl,fun i hi => vb _ _ _ hi,by simp,fun _ _ h => h,fun a b => nx b a (.inr rfl) (fun q hq x hx => ?_)⟩
 rcases sI hq with c | rfl
 ·exact .inl ⟨q,c,hx⟩
 ·rcases List.mem_append.1 hx with c | c
  ·rw [u] at c
   exact .inl ⟨_,oP hp,c⟩
  ·exact .inr ⟨by simpa using c,t⟩
theorem pf : ∀ (l : List T) (S S' : KS),p < S.prs.length -> S.okB = true -> zX (KS.parC m p) l S = some S' -> Grw m p S S'
 | [],S,S',_,hk,h => by rw [<- Option.some.inj h]; exact .refl hk
 | x :: r,S,S',hp,hk,h => by
  obtain ⟨S1,h1,h2⟩ := Option.bind_eq_some_iff.1 h; have h3 := mj hp h1
  exact h3.trans (pf r S1 S' (Nat.lt_of_lt_of_le hp h3.prs) h3.ok h2)
theorem fP : ∀ (l : List T) (S : KS) (k : Int) (q : KS × Int),p < S.prs.length -> S.okB = true -> xm (KS.innVarC m p) l S k = some q -> Grw m p S q.1
 | [],S,k,q,_,hk,h => by rw [<- Option.some.inj h]; exact .refl hk
 | x :: r,S,k,q,hp,hk,h => by
  obtain ⟨⟨_,_⟩,h1,h2⟩ := Option.bind_eq_some_iff.1 h; obtain ⟨j,-,h3⟩ := Option.bind_eq_some_iff.1 h1; obtain ⟨_,h4,h5⟩ := Option.bind_eq_some_iff.1 h3
  split at h5
  ·cases h5
   have h6 := ld (m := m) hp rfl h4
   exact h6.trans (fP r _ _ q (Nat.lt_of_lt_of_le hp h6.prs) h6.ok h2)
  ·cases h5
theorem sr {P : KPr} (hp : p < S.prs.length) (he : P.pars = (S.pr p).pars) (h : (S.setPr p P).okB = true) : Grw m p S (S.setPr p P) := by
 refine ⟨h,rfl,rfl,by simp [KS.setPr],rfl,fun i hi => yN _ _ _ hi,fun _ _ => rfl,fun _ _ => rfl,Nat.le_refl _,fun _ _ h => h,fun a b => lM b (fun q hq x hx => ?_)⟩
 rcases sI hq with c | rfl
 ·exact ⟨q,c,hx⟩
 ·exact ⟨_,oP hp,he ▸ hx⟩
structure PrOk (m : Nat) (n : T) (P : KPr) : Prop where
 home : P.home = m
 acts : P.acts = (sub n 3).subs
 inner : P.inner.length = (sub n 0).subs.length
 nd : ndB P.inner = true
theorem cV {n : T} (hp : p < S.prs.length) (h : KS.parC m p S n = some S') : (S'.pr p).home = (S.pr p).home /\ (S'.pr p).acts = (S.pr p).acts /\ (S'.pr p).inner.length = (S.pr p).inner.length + 1 /\ ndB (S'.pr p).inner = true := by
 have b : ndB (S.pr p).inner = true := by
  unfold KS.parC at h
  split at h
  ·cases h
  ·rename_i h0
   simpa using h0
 rw [rf b] at h; obtain ⟨S2,c,d⟩ := Option.bind_eq_some_iff.1 h; obtain ⟨e,f,-,-,g⟩ := pn hp c; obtain ⟨rfl,-⟩ := yn d; rw [show (S2.setPr p _).pr p = _ from zY _ _ _ (by rw [g]; exact hp),e]; refine ⟨rfl,rfl,rfl,?_⟩; simp only [ndB,f,b]
 rfl
theorem pm : ∀ (l : List T) (S S' : KS),p < S.prs.length -> S.okB = true -> ndB (S.pr p).inner = true -> zX (KS.parC m p) l S = some S' -> (S'.pr p).home = (S.pr p).home /\ (S'.pr p).acts = (S.pr p).acts /\ (S'.pr p).inner.length = (S.pr p).inner.length + l.length /\ ndB (S'.pr p).inner = true
 | [],S,S',_,_,hn,h => by rw [<- Option.some.inj h]; exact ⟨rfl,rfl,rfl,hn⟩
 | x :: r,S,S',hp,hk,hn,h => by
  obtain ⟨S1,h1,h2⟩ := Option.bind_eq_some_iff.1 h; have h3 := mj hp h1; obtain ⟨a1,a2,a3,a4⟩ := cV hp h1; obtain ⟨b1,b2,b3,b4⟩ := pm r S1 S' (Nat.lt_of_lt_of_le hp h3.prs) h3.ok a4 h2
  exact ⟨b1.trans a1,b2.trans a2,by rw [b3,a3,List.length_cons]; omega,b4⟩
theorem nQ : ∀ (l : List T) (S S' : KS),zX (KS.parC m p) l S = some S' -> S'.md m = S.md m
 | [],S,S',h => by rw [<- Option.some.inj h]
 | x :: r,S,S',h => by
  obtain ⟨S1,h1,h2⟩ := Option.bind_eq_some_iff.1 h; rw [nQ r S1 S' h2]; obtain ⟨Sa,Sb,t,-,h3,-,h4,rfl,-⟩ := ms h1; obtain ⟨rfl,-⟩ := yn h4; obtain ⟨-,-,rfl,-⟩ := yP h3
  rfl
theorem bS {l : List (Nm × Nat)} {y x : Nm} {k t : Nat} (h0 : lk l y = none) (h : lk l x = some t) : lk ((y,k) :: l) x = some t := by
 unfold lk
 rw [if_neg (fun e => by rw [show y = x from e,h] at h0; cases h0)]
 exact h
theorem pe {n : T} (hm : m < S.mds.length) (_hk : S.okB = true) (h : S.headC m n = some S') : Grw m S.prs.length S S' /\ PrOk m n (S'.pr S.prs.length) /\ S'.prs.length = S.prs.length + 1 /\ (S'.md m).names.length = (S.md m).names.length + 1 /\ (S'.md m).decl.length = (S.md m).decl.length + 1 := by
 obtain ⟨_,S2,k,rfl,_,E,u,F⟩ := iK h; obtain ⟨G,-,c,H⟩ := kJ E
 have g : S.prs.length < S2.prs.length := by rw [c]; simp [KS.setMd,KS.addTh,KS.addPr]
 have l : S2.pr S.prs.length = { pr0 with home := m,acts := (sub n 3).subs } := by rw [c]; exact xg _ _ _
 have d : S2.md m = { S.md m with names := (n.name,S.ths.length) :: (S.md m).names,decl := (S.md m).decl ++ [S.ths.length] } := by rw [c]; exact zY _ _ _ hm
 have v : Grw m S.prs.length S S2 := by
  refine ⟨H,by rw [c]; rfl,by rw [c]; rfl,by omega,by rw [c]; simp [KS.setMd,KS.addTh,KS.addPr],fun i hi => ?_,fun i hi => by rw [c]; exact yN _ _ _ hi,fun i hi => by rw [c]; exact vb _ _ _ hi,by rw [c]; simp [KS.setMd,KS.addTh,KS.addPr],fun x t e => ?_,fun a b => ?_⟩
  ·rw [c]
   show ((S.prs ++ [_])[i]?).getD pr0 = (S.prs[i]?).getD pr0
   by_cases w : i < S.prs.length
   ·exact vb _ _ _ w
   ·rw [List.getElem?_eq_none (by simp; omega),List.getElem?_eq_none (by omega)]
  ·rw [d]
   exact bS G e
  ·rw [c]
   refine nx b a (.inl ⟨by show (4 : Int) ≠ 3; decide,by show (4 : Int) ≠ 1; decide⟩) (fun q hq x hx => ?_)
   rcases List.mem_append.1 hq with z | z
   ·exact .inl ⟨q,z,hx⟩
   ·rw [List.mem_singleton.1 z] at hx
    cases hx
 have A := pf _ _ _ g v.ok u; have o := Nat.lt_of_lt_of_le g A.prs; obtain ⟨B,C,D,I⟩ := pm _ _ _ g v.ok (by rw [l]; rfl) u; rw [l] at B C D; have r : PrOk m n (k.pr S.prs.length) := ⟨B,C,by rw [D]; simp [pr0],I⟩; have f : k.md m = S2.md m := nQ _ _ _ u
 have s : k.prs.length = S.prs.length + 1 := by rw [rX _ _ _ u,c]; simp [KS.setMd,KS.addTh,KS.addPr]
 rcases F with ⟨-,rfl⟩ | ⟨-,j,-,rfl,J⟩
 ·exact ⟨v.trans A,r,s,by rw [f,d]; rfl,by rw [f,d]; simp⟩
 ·refine ⟨(v.trans A).trans (sr o rfl J),?_,by simpa [KS.setPr] using s,?_,?_⟩
  ·rw [show (k.setPr _ _).pr S.prs.length = _ from zY _ _ _ o]
   exact ⟨r.home,r.acts,r.inner,r.nd⟩
  ·show (k.md m).names.length = _
   rw [f,d]; rfl
  ·show (k.md m).decl.length = _
   rw [f,d]; simp
theorem oe : ∀ (l : List T) (S : KS) (k : Int) (q : KS × Int),p < S.prs.length -> xm (KS.innVarC m p) l S k = some q -> (q.1.pr p).acts = (S.pr p).acts /\ (q.1.pr p).result = (S.pr p).result /\ (q.1.pr p).pars = (S.pr p).pars
 | [],S,k,q,_,h => by rw [<- Option.some.inj h]; exact ⟨rfl,rfl,rfl⟩
 | x :: r,S,k,q,hp,h => by
  obtain ⟨⟨_,_⟩,h1,h2⟩ := Option.bind_eq_some_iff.1 h; obtain ⟨j,-,h3⟩ := Option.bind_eq_some_iff.1 h1; obtain ⟨_,h4,h5⟩ := Option.bind_eq_some_iff.1 h3
  split at h5
  ·cases h5
   obtain ⟨-,-,rfl,-⟩ := yP h4; obtain ⟨a1,a2,a3⟩ := oe r _ _ q (by simpa [KS.setPr,KS.addTh] using hp) h2; rw [show ((S.addTh _).setPr p _).pr p = _ from zY _ _ _ hp] at a1 a2 a3
   exact ⟨a1,a2,a3⟩
  ·cases h5
theorem rW {l : List T} {j : Nat} {v : T} {q : KS} {R : Option KS} (hv : l[j]? = some v) (h : xK m (p + j) (l.drop j) S = R) (hq : S.procC m (p + j) v = some q) : xK m (p + (j + 1)) (l.drop (j + 1)) q = R := by
 obtain ⟨b,rfl⟩ := List.getElem?_eq_some_iff.1 hv; rw [List.drop_eq_getElem_cons b,xK,hq] at h
 exact h
theorem pj {l : List T} {j : Nat} {v : T} (hv : l[j]? = some v) (hq : S.procC m (p + j) v = none) : xK m (p + j) (l.drop j) S = none := by
 obtain ⟨b,rfl⟩ := List.getElem?_eq_some_iff.1 hv; rw [List.drop_eq_getElem_cons b,xK,hq]
 rfl
theorem iy {n : T} (hn : ndB (S.pr p).inner = true) (hh : (S.pr p).home = m) : S.procC m p n = (xm (KS.innVarC m p) (sub n 2).subs S (S.pr p).inner.length).bind fun q => (xC (q.1.setPr p { q.1.pr p with words := q.2 })).bind fun S1 => S1.actsO ⟨m,some p⟩ (S1.pr p).result (S1.pr p).acts := by
 unfold KS.procC
 rw [if_neg (by rw [hn,hh]; simp)]
theorem gE {c : KSc} {res : Option Nat} {l : List T} (hf : S.fullB = true) (ha : vR l = true) : S.actsO c res l = (uS (S.actsF c (S.level c 9000) res 9000 l)).bind fun _ => some S := if_pos ⟨hf,ha⟩
structure PW (t : T) : Prop where
 four : 4 <= t.subs.length
 ps : ∀ v ∈ (sub t 0).subs,OneSub v
 vs : ∀ v ∈ (sub t 2).subs,OneSub v
 len : (sub t 0).subs.length + (sub t 2).subs.length <= 90000
 acts : vR (sub t 3).subs = true
end
end Go.Proofs.YtnmkffjklpfflaaGreatDoor
