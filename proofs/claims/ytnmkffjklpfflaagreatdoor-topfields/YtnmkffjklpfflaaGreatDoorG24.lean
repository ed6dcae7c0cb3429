/- The checker's own block,which changes where a procedure begins and ends. -/
import Derived.Test.YtnmkffjklpfflaaGreatDoorG22
import Derived.Test.YtnmkffjklpfflaaGreatDoorG23
namespace Go.Proofs.YtnmkffjklpfflaaGreatDoor
open Go.RowKit
structure CB (ρ : Lay) (w : World) (S : KS) (b : Nat) (c : KSc) (r : Value) : Prop where
 ck : CK ρ w S b c
 bk : Bk w b [pq ρ.wd,pq (ρ.md c.home),.map (c.inner.map ρ.inn),r]
 col : ρ.col b = some .ck
section
variable {ρ ρ' : Lay} {w w' : World} {S S' : KS} {b : Nat} {c : KSc} {r : Value} {k : Prop}
theorem CB.up (h : CB ρ w S b c r) (hg : w.grownBy w' none) : CB ρ w' S b c r := ⟨h.ck.up hg,h.bk.kept hg (by simp),h.col⟩
theorem CB.re (h : CB ρ w S b c r) (ha : Agr ρ ρ' S) (hb : Bk w' b [pq ρ.wd,pq (ρ.md c.home),.map (c.inner.map ρ.inn),r]) : Bk w' b [pq ρ'.wd,pq (ρ'.md c.home),.map (c.inner.map ρ'.inn),r] := by
 rw [ha.wd,ha.md _ h.ck.hc,qu (fun i hi => ha.inn i (h.ck.hi i hi))]
 exact hb
theorem CB.step (h : CB ρ w S b c r) (hs : Stp True ρ w S ρ' w' S') : CB ρ' w' S' b c r :=
 ⟨h.ck.step hs h.col,h.re hs.agr (h.bk.sm hs.sm (.inr (.inr ⟨h.col,trivial⟩))),hs.agr.col _ _ h.col⟩
theorem CB.of (hk : S.okB = true) (h : KM ρ w S) (hb : Bk w b [pq ρ.wd,pq (ρ.md c.home),.map (c.inner.map ρ.inn),r]) (hc : ρ.col b = some .ck) (h1 : c.home < S.mds.length) (h2 : ∀ p,c.inner = some p -> p < S.prs.length) : CB ρ w S b c r :=
 ⟨⟨h,KS.okOk hk,hb.c 0 _ rfl,hb.c 1 _ rfl,hb.c 2 _ rfl,h1,h2⟩,hb,hc⟩
theorem Stp.own (h : KM ρ w S) (hk : S.okB = true) (hc : ρ.col b = some .ck) (hs : Sm w w' (fun g => g ≠ b)) : Stp False ρ w S ρ w' S := by
 have N : ∀ lb : Lb,lb ≠ .ck -> ∀ g,ρ.col g = some lb -> g ≠ b := fun lb h1 g hg e => h1 (by rw [e,hc] at hg; exact (Option.some.inj hg).symm)
 refine ⟨h.turn (KS.okIn hk) (Agr.refl ρ S) hs (h.frs hs) (N _ nofun) (N _ nofun) (h.mo_turn (KS.okIn hk) (Agr.refl ρ S) hs (N _ nofun)) (fun j hj => (h.ty j hj).sm hs (N _ nofun) (N _ nofun)) (fun j hj => (h.th j hj).sm hs (N _ nofun)) (fun j hj => (h.pr j hj).sm hs (N _ nofun) (N _ nofun) (N _ nofun) (N _ nofun)) (fun j hj => (h.md j hj).sm hs (N _ nofun) (N _ nofun) (N _ nofun) (N _ nofun) (N _ nofun)),
  hk,Agr.refl ρ S,fun _ _ => rfl,hs.mono (fun g _ hp e => ?_),Nat.le_refl _,Nat.le_refl _,Nat.le_refl _,Nat.le_refl _⟩
 rcases hp with d | d | ⟨-,d⟩
 ·rw [e,hc] at d; cases d
 ·rw [e,hc] at d; cases d
 ·exact d
theorem Sm.comp {P Q : Nat -> Prop} {w1 : World} (h : Sm w w1 P) (h2 : Sm w1 w' Q) (hq : ∀ g,g < w.heap.size -> P g -> Q g) : Sm w w' P := ⟨h2.os.trans h.os,h2.tape.trans h.tape,h2.output.trans h.output,Nat.le_trans h.size h2.size,fun g hg hp => (h2.block g (Nat.lt_of_lt_of_le hg h.size) (hq g hg hp)).trans (h.block g hg hp)⟩
theorem Stp.addPr (h : KM ρ w S) (hk : S.okB = true) (hg : w.grownBy w' none) {t : KPr} {pb ib : Nat} {av : Value} (hb : Bk w' pb [Go.Proofs.YtnmkffjklpfflaaGreatDoor.ptr (some ρ.wd),ρ.mdP (some t.home),.map (some ib),av,.int .i64 t.words,.slice none 0 0,ρ.tyP t.result]) (ha : AF ρ.tr w' t.acts av) (hm : MapAt w' ib []) (hp : t.pars = []) (hn : t.inner = [])
  (h1 : w.heap.size <= pb) (h2 : w.heap.size <= ib) (hne : ib ≠ pb) (hk' : (S.addPr t).okB = true) : Stp k ρ w S (ρ.addPr S.prs.length pb ib) w' (S.addPr t) where
 km := (h.up hg).addPr (KS.okIn hk) hb ha hm hp hn (h.fr _ h1) (h.fr _ h2) hne
 ok := hk'
 agr := tJ S (h.fr _ h1) (h.fr _ h2)
 col := fun g hl => by
  simp only [Lay.addPr]; rw [if_neg (by omega),if_neg (by omega)]
 sm := Sm.of_none hg _
 tys := Nat.le_refl _
 ths := Nat.le_refl _
 prs := by simp [KS.addPr]
 mds := Nat.le_refl _
theorem Stp.addTy (h : KM ρ w S) (hk : S.okB = true) (hg : w.grownBy w' none) {t : KTy} {tb : Nat} (hb : Bk w' tb (tyV ρ t (.slice none 0 0))) (hfl : t.fields = []) (hof : t.of = none) (h1 : w.heap.size <= tb) (hk' : (S.addTy t).okB = true) : Stp k ρ w S (ρ.addTy S.tys.length tb) w' (S.addTy t) where
 km := (h.up hg).addTy (KS.okIn hk) hb (h.fr _ h1) hfl hof
 ok := hk'
 agr := dH S (h.fr _ h1)
 col := fun g hl => by
  simp only [Lay.addTy]; rw [if_neg (by omega)]
 sm := Sm.of_none hg _
 tys := by simp [KS.addTy]
 ths := Nat.le_refl _
 prs := Nat.le_refl _
 mds := Nat.le_refl _
theorem AF.nodes {P : Nat -> Prop} {ts : List T} {a : Option Addr} {n cp : Nat} (h : AF P w ts (.slice a n cp)) (h0 : 0 < ts.length) : ∃ g o,a = some ⟨g,o,none⟩ /\ P g /\ ∀ (j : Nat) (v : T),ts[j]? = some v -> ∃ sw,Node5 w g (o + j * 5) v sw /\ Fits v /\ AF P w v.subs sw := by
 cases h with
 | nil _ _ _ => simp at h0
 | mk _ g o _ svs hl h1 h2 hp cells sub =>
  refine ⟨g,o,rfl,hp,fun j v hv => ?_⟩; obtain ⟨e,-⟩ := List.getElem?_eq_some_iff.1 hv; have d : svs[j]? = some svs[j] := List.getElem?_eq_getElem (by omega)
  exact ⟨svs[j],(cells j v _ hv d).1,(cells j v _ hv d).2,sub j v _ hv d⟩
theorem xr {n v : T} {j : Nat} (h : n.subs[j]? = some v) : Go.Proofs.YtnmkffjklpfflaaGreatDoor.sub n j = v := by
 unfold Go.Proofs.YtnmkffjklpfflaaGreatDoor.sub
 rw [h]
 rfl
theorem Node5.step {g o : Nat} {t : T} {sv : Value} (h : Node5 w g o t sv) (hg : ρ.tr g) (hs : Stp k ρ w S ρ' w' S') : Node5 w' g o t sv :=
 ⟨hs.sm.cell h.c0 (.inr (.inl hg)),hs.sm.cell h.c1 (.inr (.inl hg)),hs.sm.cell h.c2 (.inr (.inl hg)),hs.sm.cell h.c3 (.inr (.inl hg)),hs.sm.cell h.c4 (.inr (.inl hg))⟩
theorem Box.step {x : Nat} {t : T} {sv : Value} (h : Box w x t sv) (hx : ρ.col x = none) (hs : Stp k ρ w S ρ' w' S') : Box w' x t sv := h.sm hs.sm (.inl hx)
end
end Go.Proofs.YtnmkffjklpfflaaGreatDoor
