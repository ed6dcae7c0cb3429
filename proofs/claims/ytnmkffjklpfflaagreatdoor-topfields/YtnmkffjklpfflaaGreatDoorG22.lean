/- A tree that was read,as the checker sees it; and the tables behind steps that turn a type or a procedure. -/
import Derived.Test.YtnmkffjklpfflaaGreatDoorG21
import Derived.Test.YtnmkffjklpfflaaGreatDoorG13
namespace Go.Proofs.YtnmkffjklpfflaaGreatDoor
open Go.RowKit
def fitF : Nat -> T -> Bool
 | 0,_ => false
 | f + 1,t => decide (t.name.length <= 5000) && decide (-5000 <= t.kind) && decide (t.kind <= 5000) && decide (-5000000000 <= t.num) && decide (t.num <= 5000000000) && t.subs.all (fitF f)
theorem dY {f : Nat} {t : T} (h : fitF f t = true) : Fits t := by
 cases f with
 | zero => cases h
 | succ f =>
  simp only [fitF,Bool.and_eq_true,decide_eq_true_eq] at h; obtain ⟨⟨⟨⟨⟨c,d⟩,e⟩,g⟩,j⟩,-⟩ := h
  exact ⟨by unfold maxLen; omega,by omega,by omega,by omega,by omega⟩
theorem pG {f : Nat} {t u : T} (h : fitF f t = true) (hu : u ∈ t.subs) : ∃ g,fitF g u = true := by
 cases f with
 | zero => cases h
 | succ f =>
  simp only [fitF,Bool.and_eq_true] at h
  exact ⟨f,List.all_eq_true.1 h.2 u hu⟩
theorem cj {w : World} {S : Nat -> Prop} {ts : List T} {v : Value} (h : LR w S ts v) (hf : ∀ t ∈ ts,∃ f,fitF f t = true) : AF S w ts v := by
 induction h with
 | mk S ts v svs hl own inS sub ih =>
  rcases own.2 with ⟨rfl,n⟩ | ⟨g,d,o,rfl,l⟩
  ·have : ts = [] := List.eq_nil_of_length_eq_zero n
   subst this
   exact .nil none 0 (Nat.zero_le _)
  ·have m : ∀ (i : Nat) (t : T),ts[i]? = some t -> t ∈ ts := fun i t h => List.mem_of_getElem? h
   refine .mk ts g 0 d svs hl l.2.2.1 l.2.2.2.1 (inS g rfl) (fun i t sv e1 e2 => ⟨?_,?_⟩) (fun i t sv e1 e2 => (ih i t sv e1 e2 (fun u hu => ?_)).weak (fun g hg => hg.1))
   ·have q : i < ts.length := by
     rcases Nat.lt_or_ge i ts.length with e | e
     ·exact e
     ·rw [List.getElem?_eq_none e] at e1; cases e1
    have c : ∀ j,j < 5 -> w.cell? ⟨g,i * 5 + j,none⟩ = (headC t sv)[j]? := fun j hj => (own.cellAt (i * 5 + j) (by omega)).trans (td ts svs i t sv j hl e1 e2 hj)
    rw [Nat.zero_add]
    exact ⟨c 0 (by omega),c 1 (by omega),c 2 (by omega),c 3 (by omega),c 4 (by omega)⟩
   ·obtain ⟨f,hf⟩ := hf t (m i t e1)
    exact dY hf
   ·obtain ⟨f,hf⟩ := hf t (m i t e1)
    exact pG hf hu
section
variable {ρ ρ' ρ1 : Lay} {w w' w1 : World} {S S' S1 : KS} {k : Prop} {i b : Nat}
theorem Kp.less {g : Nat} (h : Kp ρ k g) : Kp ρ True g := by
 rcases h with h | h | h
 ·exact .inl h
 ·exact .inr (.inl h)
 ·exact .inr (.inr ⟨h.1,trivial⟩)
theorem Stp.less (h : Stp True ρ w S ρ' w' S') : Stp k ρ w S ρ' w' S' := ⟨h.km,h.ok,h.agr,h.col,h.sm.mono (fun _ _ hg => hg.less),h.tys,h.ths,h.prs,h.mds⟩
def Lay.gr (ρ : Lay) (G : Option Nat) (lb : Lb) : Lay := { ρ with col := fun b => match ρ.col b with | some l => some l | none => if some b = G then some lb else none }
theorem uZ {G : Option Nat} {lb l : Lb} (h : ρ.col b = some l) : (ρ.gr G lb).col b = some l := by simp only [Lay.gr]; rw [h]
theorem gp {G : Option Nat} {lb : Lb} (h : ρ.col b = none) (h2 : some b ≠ G) : (ρ.gr G lb).col b = none := by
 simp only [Lay.gr]; rw [h]
 simp [h2]
theorem lI {lb : Lb} (h : ρ.col b = none) : (ρ.gr (some b) lb).col b = some lb := by
 simp only [Lay.gr]; rw [h]
 simp
theorem cv (ρ : Lay) (S : KS) (G : Option Nat) (lb : Lb) : Agr ρ (ρ.gr G lb) S :=
 ⟨rfl,rfl,rfl,fun _ _ => rfl,fun _ _ => rfl,fun _ _ => rfl,fun _ _ => rfl,fun _ _ => rfl,fun _ _ => rfl,fun _ _ h => uZ h⟩
theorem Stp.ty (h : KM ρ w S) (hk : S.okB = true) (hl : i < S.tys.length) {t : KTy} (hs : Sm w w' (fun g => g ≠ ρ.ty i)) (hb : ∀ fv,Bk w (ρ.ty i) (tyV ρ (S.ty i) fv) -> Bk w' (ρ.ty i) (tyV ρ t fv)) (hf : t.fields = (S.ty i).fields) (hk' : (S.setTy i t).okB = true) : Stp k ρ w S ρ w' (S.setTy i t) := by
 have M := h.ty i hl; obtain ⟨fv,j,l,d⟩ := M.bk; have c : Sm w w' (fun g => ρ.col g ≠ some (.ty i) /\ ρ.col g ≠ some (.fl i)) := hs.mono (fun g _ hg e => hg.1 (by rw [e]; exact M.col)); refine ⟨h.setTy (KS.okIn hk) (Agr.refl _ _) hl c (h.frs hs) ⟨⟨fv,hb fv j,?_,d⟩,M.col⟩,hk',Agr.refl _ _,fun _ _ => rfl,hs.mono (fun g _ hg => hg.ne M.col nofun nofun),?_,Nat.le_refl _,Nat.le_refl _,Nat.le_refl _⟩
 ·rw [hf]
  exact zR l hs (fun g hg e => by have f := d g hg; rw [e,M.col] at f; cases f)
 ·simp [KS.setTy]
theorem Stp.fld (h : KM ρ w S) (hk : S.okB = true) (hl : i < S.tys.length) {t : KTy} {fv : Value} (hs : Sm w w' (fun g => g ≠ ρ.ty i /\ ρ.col g ≠ some (.fl i))) (hb : Bk w' (ρ.ty i) (tyV ρ t fv)) (hr : w'.ownsRow 0 58 4 fv t.fields.length (t.fields.flatMap (fdV ρ))) (hg : ∀ g,fv.ownBlock = some g -> ρ.col g = some (.fl i) \/ w.heap.size <= g) (hk' : (S.setTy i t).okB = true) : Stp k ρ w S (ρ.gr fv.ownBlock (.fl i)) w' (S.setTy i t) := by
 have M := h.ty i hl; have l := cv ρ S fv.ownBlock (.fl i); have j : Sm w w' (fun g => ρ.col g ≠ some (.ty i) /\ ρ.col g ≠ some (.fl i)) := hs.mono (fun g _ hg => ⟨fun e => hg.1 (by rw [e]; exact M.col),hg.2⟩); refine ⟨h.setTy (KS.okIn hk) l hl j (fun b hb' => ?_) ⟨⟨fv,hb,hr,fun g c => ?_⟩,uZ M.col⟩,hk',l,fun g hl2 => ?_,hs.mono (fun g _ f => ⟨f.ne M.col nofun nofun,fun e => ?_⟩),?_,Nat.le_refl _,Nat.le_refl _,Nat.le_refl _⟩
 ·refine gp (h.frs hs b hb') (fun e => ?_)
  have := qn hr e.symm
  omega
 ·rcases hg g c with d | d
  ·exact uZ d
  ·rw [c]
   exact lI (h.fr g d)
 ·cases f : ρ.col g with
  | some lb => exact uZ f
  | none =>
   refine gp f (fun e => ?_)
   rcases hg g e.symm with d | d
   ·rw [f] at d; cases d
   ·omega
 ·rcases f with c | c | ⟨c,-⟩ <;> rw [e] at c <;> cases c
 ·simp [KS.setTy]
theorem Stp.prq (h : KM ρ w S) (hk : S.okB = true) (hl : i < S.prs.length) {t : KPr} (hs : Sm w w' (fun g => g ≠ ρ.pr i /\ ρ.col g ≠ some (.pa i))) {av pv : Value} (hb : Bk w' (ρ.pr i) (prV ρ i t av pv)) (hav : AF ρ.tr w t.acts av) (hin : t.inner = (S.pr i).inner)
  (hr : w'.ownsRow 0 86 1 pv t.pars.length (t.pars.map fun x => ρ.thP (some x))) (hg : ∀ g,pv.ownBlock = some g -> ρ.col g = some (.pa i) \/ w.heap.size <= g) (hk' : (S.setPr i t).okB = true) : Stp k ρ w S (ρ.gr pv.ownBlock (.pa i)) w' (S.setPr i t) := by
 have M := h.pr i hl; have l := cv ρ S pv.ownBlock (.pa i)
 have N : ∀ lb : Lb,lb ≠ .pr i -> lb ≠ .pa i -> ∀ g,ρ.col g = some lb -> g ≠ ρ.pr i /\ ρ.col g ≠ some (.pa i) := fun lb h1 h2 g c => ⟨fun e => h1 (by rw [e,M.col] at c; exact (Option.some.inj c).symm),by rw [c]; exact fun e => h2 (Option.some.inj e)⟩
 have j : Sm w w' (fun g => ρ.col g ≠ some (.pr i) /\ ρ.col g ≠ some (.pa i) /\ ρ.col g ≠ some (.inn i)) := hs.mono (fun g _ hg => ⟨fun e => hg.1 (by rw [e]; exact M.col),hg.2.1⟩); refine ⟨h.setPr (KS.okIn hk) l hl j (fun b hb' => ?_) ⟨⟨av,pv,hb,(hav.sm hs (N _ nofun nofun)).weak (fun g c => uZ c),hr,fun g c => ?_⟩,?_,uZ M.col,uZ M.coln⟩,hk',l,fun g hl2 => ?_,hs.mono (fun g _ f => ⟨f.ne M.col nofun nofun,fun e => ?_⟩),Nat.le_refl _,Nat.le_refl _,?_,Nat.le_refl _⟩
 ·refine gp (h.frs hs b hb') (fun e => ?_)
  have := qn hr e.symm
  omega
 ·rcases hg g c with d | d
  ·exact uZ d
  ·rw [c]
   exact lI (h.fr g d)
 ·rw [hin]
  exact M.mp.sm hs (N (.inn i) nofun nofun _ M.coln)
 ·cases f : ρ.col g with
  | some lb => exact uZ f
  | none =>
   refine gp f (fun e => ?_)
   rcases hg g e.symm with d | d
   ·rw [f] at d; cases d
   ·omega
 ·rcases f with c | c | ⟨c,-⟩ <;> rw [e] at c <;> cases c
 ·simp [KS.setPr]
end
section
variable {S S' S1 : KS}
theorem iK {m : Nat} {n : T} (h : S.headC m n = some S') : ∃ S1 S2 S3,S1 = S.addPr { pr0 with home := m,acts := (sub n 3).subs } /\ S1.okB = true /\ S1.declC m n { th0 with kind := 4,proc := some S.prs.length } = some S2 /\ zX (KS.parC m S.prs.length) (sub n 0).subs S2 = some S3 /\
  (((sub n 1).kind = 0 /\ S' = S3) \/ ((sub n 1).kind ≠ 0 /\ ∃ j,S3.oneWordType ⟨m,some S.prs.length⟩ (sub n 1) = .ok j /\ S' = S3.setPr S.prs.length { S3.pr S.prs.length with result := some j } /\ S'.okB = true)) := by
 obtain ⟨S1,f,g⟩ := Option.bind_eq_some_iff.1 h; obtain ⟨S2,i,k⟩ := Option.bind_eq_some_iff.1 g; obtain ⟨S3,l,b⟩ := Option.bind_eq_some_iff.1 k; obtain ⟨rfl,o⟩ := yn f; refine ⟨_,S2,S3,rfl,o,i,l,?_⟩
 split at b
 ·exact .inl ⟨by assumption,(Option.some.inj b).symm⟩
 ·obtain ⟨j,q,r⟩ := Option.bind_eq_some_iff.1 b
  obtain ⟨c,d⟩ := ab q; obtain ⟨rfl,e⟩ := yn r
  exact .inr ⟨c,j,d,rfl,e⟩
theorem ms {m p : Nat} {n : T} (h : S.parC m p n = some S') : ∃ S1 S2 t,ndB (S.pr p).inner = true /\ S.innerC p n { th0 with first := (S.pr p).inner.length,byVar := (n.num == 1) } = some S1 /\ (if n.num = 1 then S1.typeO ⟨m,some p⟩ (sub n 0) else S1.oneO ⟨m,some p⟩ (sub n 0)) = some t /\
  xC (S1.setTh S.ths.length { S1.th S.ths.length with ty := some t }) = some S2 /\ S' = S2.setPr p { S2.pr p with pars := (S2.pr p).pars ++ [S.ths.length] } /\ S'.okB = true := by
 unfold KS.parC at h
 split at h
 ·cases h
 ·rename_i h0
  obtain ⟨S1,b,c⟩ := Option.bind_eq_some_iff.1 h; obtain ⟨t,d,e⟩ := Option.bind_eq_some_iff.1 c; obtain ⟨S2,f,g⟩ := Option.bind_eq_some_iff.1 e; obtain ⟨rfl,i⟩ := yn g
  exact ⟨S1,S2,t,by simpa using h0,b,d,f,rfl,i⟩
theorem lW {m p : Nat} {n : T} (h : S.procC m p n = some S') : ∃ q S1,ndB (S.pr p).inner = true /\ (S.pr p).home = m /\ xm (KS.innVarC m p) (sub n 2).subs S (S.pr p).inner.length = some q /\ S1 = q.1.setPr p { q.1.pr p with words := q.2 } /\ S1.okB = true /\ S1.fullB = true /\ vR (S1.pr p).acts = true /\ S1.actsF ⟨m,some p⟩ (S1.level ⟨m,some p⟩ 9000) (S1.pr p).result 9000 (S1.pr p).acts = .ok () /\ S' = S1 := by
 unfold KS.procC at h
 split at h
 ·cases h
 ·rename_i h0
  obtain ⟨q,c,d⟩ := Option.bind_eq_some_iff.1 h; obtain ⟨S1,f,b⟩ := Option.bind_eq_some_iff.1 d; obtain ⟨rfl,g⟩ := yn f
  unfold KS.actsO at b
  split at b
  ·rename_i h6
   obtain ⟨_,i,j⟩ := Option.bind_eq_some_iff.1 b
   exact ⟨q,_,by simpa using fun e => h0 (.inl e),by simpa using fun e => h0 (.inr e),c,rfl,g,h6.1,h6.2,qf i,(Option.some.inj j).symm⟩
  ·cases b
theorem cg {m : Nat} {n : T} (h : S.typeC m n = some S') : (S.addTy { ty0 with form := rx (sub n 0),name := n.name,home := some m }).okB = true /\ (S.addTy { ty0 with form := rx (sub n 0),name := n.name,home := some m }).declC m n { th0 with kind := 2,ty := some S.tys.length } = some S' := by
 obtain ⟨_,b,c⟩ := Option.bind_eq_some_iff.1 h; obtain ⟨rfl,d⟩ := yn b
 exact ⟨d,c⟩
theorem oH {m : Nat} {n : T} (h : S.filledC m n = some S') : ∃ t S1,lk (S.md m).names n.name = some t /\ (S.th t).kind = 2 /\ S.fillC ⟨m,none⟩ ((S.th t).ty.getD 0) (sub n 0) = some S1 /\ (S1.ty ((S.th t).ty.getD 0)).words <= 512 /\ S' = S1.setTy ((S.th t).ty.getD 0) { S1.ty ((S.th t).ty.getD 0) with complete := true } /\ S'.okB = true := by
 unfold KS.filledC at h
 split at h
 ·rename_i t h1
  split at h
  ·rename_i h2
   obtain ⟨S1,c,b⟩ := Option.bind_eq_some_iff.1 h
   split at b
   ·rename_i h5
    obtain ⟨rfl,d⟩ := yn b
    exact ⟨t,S1,h1,h2,c,h5,rfl,d⟩
   ·cases b
  ·cases h
 ·cases h
theorem mU {c : KSc} {i : Nat} {x : T} (h : S.fieldC c i x = some S') : ∃ j u r,S.tysB = true /\ (S.ty i).fields.length <= 1000 /\ S.field i x.name = none /\ x.subs = u :: r /\ S.typeName c u = .ok j /\ S' = S.setTy i { S.ty i with fields := (S.ty i).fields ++ [⟨x.name,x.num == 1,j,(S.ty i).words⟩],words := (S.ty i).words + (S.ty j).words } /\ S'.okB = true := by
 unfold KS.fieldC at h
 split at h
 ·rename_i h0
  split at h
  ·cases h
  ·rename_i h1
   obtain ⟨j,d,e⟩ := Option.bind_eq_some_iff.1 h; obtain ⟨rfl,f⟩ := yn e; obtain ⟨g,b⟩ := kD d; obtain ⟨u,r,k,l⟩ := pd g; rw [l] at b
   exact ⟨j,u,r,h0.1,h0.2,h1,k,b,rfl,f⟩
 ·cases h
theorem dX {n : T} {j t : Nat} (h : uS (S.record n j) = some t) : t = j /\ (S.ty j).form = 4 := by
 have b := qf h
 unfold KS.record at b
 split at b
 ·exact ⟨(Except.ok.inj b).symm,by assumption⟩
 ·cases b
theorem gS {c : KSc} {i : Nat} {n : T} (h : S.fillRecordC c i n = some S') : ∃ S1,zX (KS.fieldC c i) (n.subs.drop 1) S1 = some S' /\ (((sub n 0).kind = 0 /\ S1 = S) \/ ((sub n 0).kind ≠ 0 /\ ∃ j,S.typeName c (sub n 0) = .ok j /\ (S.ty j).form = 4 /\ S1 = S.setTy i { S.ty i with of := some j,words := (S.ty j).words } /\ S1.okB = true)) := by
 obtain ⟨S1,b,e⟩ := Option.bind_eq_some_iff.1 h; refine ⟨S1,e,?_⟩
 split at b
 ·exact .inl ⟨by assumption,(Option.some.inj b).symm⟩
 ·obtain ⟨j,f,g⟩ := Option.bind_eq_some_iff.1 b
  obtain ⟨k,l,m⟩ := Option.bind_eq_some_iff.1 g; obtain ⟨rfl,o⟩ := dX l; obtain ⟨rfl,q⟩ := yn m; obtain ⟨r,d⟩ := kD f
  exact .inr ⟨r,k,d,o,rfl,q⟩
theorem iA {c : KSc} {i : Nat} {n : T} (h : S.fillC c i n = some S') : ((S.ty i).form = 3 /\ 1 <= n.num /\ n.num <= 64 /\ ∃ j,(sub n 0).kind ≠ 0 /\ S.typeName c (sub n 0) = .ok j /\ S' = S.setTy i { S.ty i with of := some j,places := n.num,words := n.num * (S.ty j).words } /\ S'.okB = true) \/
  ((S.ty i).form = 4 /\ 2 <= n.subs.length /\ S.fillRecordC c i n = some S') \/ ((S.ty i).form = 5 /\ ∃ j,(sub n 0).kind ≠ 0 /\ S.namedType c (sub n 0) = .ok j /\ (S.ty j).form = 4 /\ S' = S.setTy i { S.ty i with of := some j,words := 1 } /\ S'.okB = true) := by
 unfold KS.fillC at h
 split at h
 ·rename_i h3
  split at h
  ·rename_i h0
   obtain ⟨j,b,d⟩ := Option.bind_eq_some_iff.1 h; obtain ⟨e,f⟩ := kD b; obtain ⟨rfl,g⟩ := yn d
   exact .inl ⟨h3,h0.1,h0.2,j,e,f,rfl,g⟩
  ·cases h
 ·split at h
  ·rename_i e
   split at h
   ·rename_i h0
    exact .inr (.inl ⟨e,h0,h⟩)
   ·cases h
  ·split at h
   ·rename_i f
    obtain ⟨j,b,d⟩ := Option.bind_eq_some_iff.1 h; obtain ⟨g,m⟩ := mE b; obtain ⟨o,q,r⟩ := Option.bind_eq_some_iff.1 d; obtain ⟨rfl,k⟩ := dX q; obtain ⟨rfl,l⟩ := yn r
    exact .inr (.inr ⟨f,o,g,m,k,rfl,l⟩)
   ·cases h
end
end Go.Proofs.YtnmkffjklpfflaaGreatDoor
