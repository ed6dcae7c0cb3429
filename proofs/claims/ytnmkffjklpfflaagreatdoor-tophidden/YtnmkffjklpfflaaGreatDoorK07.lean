/- The checker's tables change: what stays,and what turns. -/
import Derived.Test.YtnmkffjklpfflaaGreatDoorG18
import Derived.Test.YtnmkffjklpfflaaGreatDoorK04
import Derived.Test.YtnmkffjklpfflaaGreatDoorK05
import Derived.Deep.RegionLaw
import Derived.Maps.AppendAt
import Derived.Maps.Views
import Derived.OwnWalk
namespace Go.Proofs.YtnmkffjklpfflaaGreatDoor
open Go.RowKit Go.Maps Go.WideMaps Go.WideElems
structure Sm (w w' : World) (P : Nat -> Prop) : Prop where
 os : w'.os = w.os
 tape : w'.tape = w.tape
 output : w'.output = w.output
 size : w.heap.size <= w'.heap.size
 block : ∀ b,b < w.heap.size -> P b -> w'.heap[b]? = w.heap[b]?
section
variable {ρ ρ' ρ1 : Lay} {w w' w1 : World} {S S' : KS} {P Q : Nat -> Prop} {i b : Nat}
theorem Sm.grown {row : Option Nat} (h : w.grownBy w' row) : Sm w w' (fun b => some b ≠ row) := ⟨h.os,h.tape,h.output,h.size,h.block⟩
theorem Sm.mono (h : Sm w w' P) (hq : ∀ b,b < w.heap.size -> Q b -> P b) : Sm w w' Q := ⟨h.os,h.tape,h.output,h.size,fun b hb hB => h.block b hb (hq b hb hB)⟩
theorem Sm.refl (w : World) (P : Nat -> Prop) : Sm w w P := ⟨rfl,rfl,rfl,Nat.le_refl _,fun _ _ _ => rfl⟩
theorem Sm.trans (h : Sm w w1 P) (k : Sm w1 w' P) : Sm w w' P := ⟨k.os.trans h.os,k.tape.trans h.tape,k.output.trans h.output,Nat.le_trans h.size k.size,fun b hb hB => (k.block b (Nat.lt_of_lt_of_le hb h.size) hB).trans (h.block b hb hB)⟩
theorem Sm.cell (h : Sm w w' P) {a : Addr} {v : Value} (hc : w.cell? a = some v) (hp : P a.block) : w'.cell? a = some v := (World.cell?_of_block (h.block a.block (zw hc) hp)).trans hc
theorem Sm.gb (h : Sm w w' (fun _ => True)) : w.grownBy w' none := ⟨h.os,h.tape,h.output,h.size,fun b hb _ => h.block b hb trivial⟩
theorem Bk.sm {vs : List Value} (h : Bk w b vs) (hs : Sm w w' P) (hp : P b) : Bk w' b vs :=
 ⟨fun j v hj => hs.cell (h.c j v hj) hp,fun o => (World.frozen?_of_block (hs.block b h.lt hp)).trans (h.z o),Nat.lt_of_lt_of_le h.lt hs.size,by obtain ⟨cs,t,e⟩ := h.ob; exact ⟨cs,t,(hs.block b h.lt hp).trans e⟩⟩
theorem MapAt.sm {l : List (Nm × Nat)} (h : MapAt w b l) (hs : Sm w w' P) (hp : P b) : MapAt w' b l := by
 have d := h.lt; obtain ⟨e,c,f,F,g,j⟩ := h
 exact ⟨e,c,(hs.block b d hp).trans f,F,g,j⟩
theorem zZ {e : TypeId} {k n : Nat} {v : Value} {cs : List Value} (h : w.ownsRow 0 e k v n cs) (hs : Sm w w' P) (hp : ∀ g,v.ownBlock = some g -> P g) : w'.ownsRow 0 e k v n cs := by
 obtain ⟨l,c⟩ := h; refine ⟨l,?_⟩
 rcases c with c | ⟨g,d,f,rfl,m,j,o⟩
 ·exact .inl c
 ·exact .inr ⟨g,d,f,rfl,m,(hs.block g (Array.getElem?_eq_some_iff.1 j).1 (hp g rfl)).trans j,o⟩
theorem AF.sm {ts : List T} {v : Value} {R : Nat -> Prop} (h : AF R w ts v) (hs : Sm w w' P) (hp : ∀ g,R g -> P g) : AF R w' ts v := by
 induction h with
 | nil a c hc => exact .nil a c hc
 | mk ts g o c svs hl h1 h2 hg cells sub ih =>
  refine .mk ts g o c svs hl h1 h2 hg (fun i t sv e1 e2 => ?_) ih; obtain ⟨d,e⟩ := cells i t sv e1 e2
  exact ⟨⟨hs.cell d.c0 (hp g hg),hs.cell d.c1 (hp g hg),hs.cell d.c2 (hp g hg),hs.cell d.c3 (hp g hg),hs.cell d.c4 (hp g hg)⟩,e⟩
theorem AF.weak {ts : List T} {v : Value} {R R' : Nat -> Prop} (h : AF R w ts v) (hr : ∀ g,R g -> R' g) : AF R' w ts v := by
 induction h with
 | nil a c hc => exact .nil a c hc
 | mk ts g o c svs hl h1 h2 hg cells sub ih => exact .mk ts g o c svs hl h1 h2 (hr g hg) cells ih
theorem TyAt.sm {t : KTy} (h : TyAt ρ w i t) (hs : Sm w w' P) (h1 : ∀ g,ρ.col g = some (.ty i) -> P g) (h2 : ∀ g,ρ.col g = some (.fl i) -> P g) : TyAt ρ w' i t := by
 obtain ⟨d,e,f,c⟩ := h.bk
 exact ⟨⟨d,e.sm hs (h1 _ h.col),zZ f hs (fun g hg => h2 g (c g hg)),c⟩,h.col⟩
theorem ThAt.sm {t : KTh} (h : ThAt ρ w i t) (hs : Sm w w' P) (h1 : ∀ g,ρ.col g = some (.th i) -> P g) : ThAt ρ w' i t := ⟨h.bk.sm hs (h1 _ h.col),h.col⟩
theorem PrAt.sm {p : KPr} (h : PrAt ρ w i p) (hs : Sm w w' P) (h0 : ∀ g,ρ.col g = some .tr -> P g) (h1 : ∀ g,ρ.col g = some (.pr i) -> P g) (h2 : ∀ g,ρ.col g = some (.pa i) -> P g) (h3 : ∀ g,ρ.col g = some (.inn i) -> P g) : PrAt ρ w' i p := by
 obtain ⟨d,e,f,j,k,c⟩ := h.bk
 exact ⟨⟨d,e,f.sm hs (h1 _ h.col),j.sm hs h0,zZ k hs (fun g hg => h2 g (c g hg)),c⟩,h.mp.sm hs (h3 _ h.coln),h.col,h.coln⟩
theorem MdAt.sm {m : KMd} (h : MdAt ρ w i m) (hs : Sm w w' P) (h0 : ∀ g,ρ.col g = some .tr -> P g) (h1 : ∀ g,ρ.col g = some (.md i) -> P g) (h2 : ∀ g,ρ.col g = some (.im i) -> P g) (h3 : ∀ g,ρ.col g = some (.de i) -> P g) (h4 : ∀ g,ρ.col g = some (.nm i) -> P g) : MdAt ρ w' i m := by
 obtain ⟨e,f,j,k,l,⟨n,c⟩,o,d⟩ := h.bk
 exact ⟨⟨e,f,j,k.sm hs (h1 _ h.col),l.sm hs h0,⟨zZ n hs (fun g hg => h2 g (c g hg)),c⟩,zZ o hs (fun g hg => h3 g (d g hg)),d⟩,h.mp.sm hs (h4 _ h.coln),h.col,h.coln⟩
/-! ### Ids in range,and other layouts that agree there -/
structure KIn (S : KS) : Prop where
 tyOf : ∀ i,i < S.tys.length -> ∀ j,(S.ty i).of = some j -> j < S.tys.length
 tyHome : ∀ i,i < S.tys.length -> ∀ j,(S.ty i).home = some j -> j < S.mds.length
 tyFd : ∀ i,i < S.tys.length -> ∀ d ∈ (S.ty i).fields,d.ty < S.tys.length
 thHome : ∀ i,i < S.ths.length -> ∀ j,(S.th i).home = some j -> j < S.mds.length
 thTy : ∀ i,i < S.ths.length -> ∀ j,(S.th i).ty = some j -> j < S.tys.length
 thPr : ∀ i,i < S.ths.length -> ∀ j,(S.th i).proc = some j -> j < S.prs.length
 thMod : ∀ i,i < S.ths.length -> ∀ j,(S.th i).mod = some j -> j < S.mds.length
 prHome : ∀ i,i < S.prs.length -> (S.pr i).home < S.mds.length
 prRes : ∀ i,i < S.prs.length -> ∀ j,(S.pr i).result = some j -> j < S.tys.length
 prPars : ∀ i,i < S.prs.length -> ∀ j ∈ (S.pr i).pars,j < S.ths.length
 prInn : ∀ i,i < S.prs.length -> ∀ q ∈ (S.pr i).inner,q.2 < S.ths.length
 mdImps : ∀ i,i < S.mds.length -> ∀ j ∈ (S.md i).imps,j < S.mds.length
 mdDecl : ∀ i,i < S.mds.length -> ∀ j ∈ (S.md i).decl,j < S.ths.length
 mdNames : ∀ i,i < S.mds.length -> ∀ q ∈ (S.md i).names,q.2 < S.ths.length
 mods : ∀ q ∈ S.mods,q.2 < S.mds.length
 two : 2 <= S.ths.length
 three : 3 <= S.tys.length
structure Agr (ρ ρ' : Lay) (S : KS) : Prop where
 wd : ρ'.wd = ρ.wd
 ba : ρ'.ba = ρ.ba
 mo : ρ'.mo = ρ.mo
 ty : ∀ i,i < S.tys.length -> ρ'.ty i = ρ.ty i
 th : ∀ i,i < S.ths.length -> ρ'.th i = ρ.th i
 pr : ∀ i,i < S.prs.length -> ρ'.pr i = ρ.pr i
 inn : ∀ i,i < S.prs.length -> ρ'.inn i = ρ.inn i
 md : ∀ i,i < S.mds.length -> ρ'.md i = ρ.md i
 nm : ∀ i,i < S.mds.length -> ρ'.nm i = ρ.nm i
 col : ∀ b lb,ρ.col b = some lb -> ρ'.col b = some lb
theorem kP {o : Option Nat} {f g : Nat -> Nat} (h : ∀ i,o = some i -> f i = g i) : o.map f = o.map g := by
 cases o with
 | none => rfl
 | some i => simp [h i rfl]
theorem kM (ha : Agr ρ ρ' S) {o : Option Nat} (h : ∀ i,o = some i -> i < S.mds.length) : ρ'.mdP o = ρ.mdP o := by unfold Lay.mdP; rw [kP (fun i hi => ha.md i (h i hi))]
theorem uR (ha : Agr ρ ρ' S) {o : Option Nat} (h : ∀ i,o = some i -> i < S.tys.length) : ρ'.tyP o = ρ.tyP o := by unfold Lay.tyP; rw [kP (fun i hi => ha.ty i (h i hi))]
theorem mL (ha : Agr ρ ρ' S) {o : Option Nat} (h : ∀ i,o = some i -> i < S.prs.length) : ρ'.prP o = ρ.prP o := by unfold Lay.prP; rw [kP (fun i hi => ha.pr i (h i hi))]
theorem dl (ha : Agr ρ ρ' S) {i : Nat} (h : i < S.ths.length) : ρ'.thP (some i) = ρ.thP (some i) := by unfold Lay.thP; rw [kP (fun j hj => by cases hj; exact ha.th i h)]
theorem gF (ha : Agr ρ ρ' S) {l : List (Nm × Nat)} (h : ∀ q ∈ l,q.2 < S.ths.length) : ρ'.ths l = ρ.ths l := List.map_congr_left (fun q hq => by rw [ha.th _ (h q hq)])
theorem mK (ha : Agr ρ ρ' S) {l : List (Nm × Nat)} (h : ∀ q ∈ l,q.2 < S.mds.length) : ρ'.mds l = ρ.mds l := List.map_congr_left (fun q hq => by rw [ha.md _ (h q hq)])
theorem oC (ha : Agr ρ ρ' S) : ∀ {l : List KFd},(∀ d ∈ l,d.ty < S.tys.length) -> l.flatMap (fdV ρ') = l.flatMap (fdV ρ)
 | [],_ => rfl
 | d :: r,h => by
  rw [List.flatMap_cons,List.flatMap_cons,oC ha (fun e he => h e (by simp [he]))]
  congr 1
  unfold fdV
  rw [uR ha (fun i hi => by cases hi; exact h d (by simp))]
theorem TyAt.re (h : TyAt ρ w i (S.ty i)) (hi : KIn S) (ha : Agr ρ ρ' S) (hl : i < S.tys.length) : TyAt ρ' w i (S.ty i) := by
 obtain ⟨c,d,e,f⟩ := h.bk; refine ⟨⟨c,?_,?_,fun g hg => ha.col _ _ (f g hg)⟩,?_⟩
 ·rw [ha.ty i hl]
  unfold tyV
  rw [kM ha (hi.tyHome i hl),uR ha (hi.tyOf i hl)]
  exact d
 ·rw [oC ha (hi.tyFd i hl)]; exact e
 ·rw [ha.ty i hl]; exact ha.col _ _ h.col
theorem ThAt.re (h : ThAt ρ w i (S.th i)) (hi : KIn S) (ha : Agr ρ ρ' S) (hl : i < S.ths.length) : ThAt ρ' w i (S.th i) := by
 refine ⟨?_,?_⟩
 ·rw [ha.th i hl]
  unfold thV
  rw [kM ha (hi.thHome i hl),uR ha (hi.thTy i hl),mL ha (hi.thPr i hl),kM ha (hi.thMod i hl)]
  exact h.bk
 ·rw [ha.th i hl]; exact ha.col _ _ h.col
theorem PrAt.re (h : PrAt ρ w i (S.pr i)) (hi : KIn S) (ha : Agr ρ ρ' S) (hl : i < S.prs.length) : PrAt ρ' w i (S.pr i) := by
 obtain ⟨c,d,e,f,k,l⟩ := h.bk; refine ⟨⟨c,d,?_,f.weak (fun g hg => ha.col _ _ hg),?_,fun g hg => ha.col _ _ (l g hg)⟩,?_,?_,?_⟩
 ·rw [ha.pr i hl]
  unfold prV
  rw [ha.wd,kM ha (fun j hj => by cases hj; exact hi.prHome i hl),ha.inn i hl,uR ha (hi.prRes i hl)]
  exact e
 ·rw [List.map_congr_left (fun j hj => dl ha (hi.prPars i hl j hj))]; exact k
 ·rw [ha.inn i hl,gF ha (hi.prInn i hl)]; exact h.mp
 ·rw [ha.pr i hl]; exact ha.col _ _ h.col
 ·rw [ha.inn i hl]; exact ha.col _ _ h.coln
theorem MdAt.re (h : MdAt ρ w i (S.md i)) (hi : KIn S) (ha : Agr ρ ρ' S) (hl : i < S.mds.length) : MdAt ρ' w i (S.md i) := by
 obtain ⟨c,d,e,f,k,⟨l,m⟩,n,r⟩ := h.bk; refine ⟨⟨c,d,e,?_,k.weak (fun g hg => ha.col _ _ hg),⟨?_,fun g hg => ha.col _ _ (m g hg)⟩,?_,fun g hg => ha.col _ _ (r g hg)⟩,?_,?_,?_⟩
 ·rw [ha.md i hl]
  unfold mdV
  rw [ha.wd,kM ha (fun j hj => by cases hj; exact hl),ha.nm i hl]
  exact f
 ·rw [List.map_congr_left (fun j hj => kM ha (o := some j) (fun q hq => by cases hq; exact hi.mdImps i hl j hj))]; exact l
 ·rw [List.map_congr_left (fun j hj => dl ha (hi.mdDecl i hl j hj))]; exact n
 ·rw [ha.nm i hl,gF ha (hi.mdNames i hl)]; exact h.mp
 ·rw [ha.md i hl]; exact ha.col _ _ h.col
 ·rw [ha.nm i hl]; exact ha.col _ _ h.coln
theorem lh (hi : KIn S) (ha : Agr ρ ρ' S) : wdV ρ' = wdV ρ := by
 have c := hi.three
 unfold wdV
 rw [uR ha (fun i h => by cases h; omega),uR ha (fun i h => by cases h; omega),uR ha (fun i h => by cases h; omega),ha.ba,ha.mo]
theorem lc (hi : KIn S) (ha : Agr ρ ρ' S) : ρ'.ths yc = ρ.ths yc := gF ha (fun q hq => by have h2 := hi.two; simp [yc] at hq; rcases hq with rfl | rfl <;> simp <;> omega)
theorem KM.turn (h : KM ρ w S) (hi : KIn S) (ha : Agr ρ ρ' S) (hs : Sm w w' P) (hf : ∀ b,w'.heap.size <= b -> ρ'.col b = none) (hw : ∀ g,ρ.col g = some .wd -> P g) (hb : ∀ g,ρ.col g = some .ba -> P g)
  (mo : MapAt w' ρ'.mo (ρ'.mds S'.mods)) (ty : ∀ i,i < S'.tys.length -> TyAt ρ' w' i (S'.ty i)) (th : ∀ i,i < S'.ths.length -> ThAt ρ' w' i (S'.th i)) (pr : ∀ i,i < S'.prs.length -> PrAt ρ' w' i (S'.pr i)) (md : ∀ i,i < S'.mds.length -> MdAt ρ' w' i (S'.md i)) : KM ρ' w' S' where
 wd := by rw [lh hi ha,ha.wd]; exact h.wd.sm hs (hw _ h.wdc)
 wdc := by rw [ha.wd]; exact ha.col _ _ h.wdc
 ba := by rw [ha.ba,lc hi ha]; exact h.ba.sm hs (hb _ h.bac)
 bac := by rw [ha.ba]; exact ha.col _ _ h.bac
 mo := mo
 moc := by rw [ha.mo]; exact ha.col _ _ h.moc
 ty := ty
 th := th
 pr := pr
 md := md
 fr := hf
theorem KM.mo_turn (h : KM ρ w S) (hi : KIn S) (ha : Agr ρ ρ' S) (hs : Sm w w' P) (hp : ∀ g,ρ.col g = some .mo -> P g) : MapAt w' ρ'.mo (ρ'.mds S.mods) := by
 rw [ha.mo,mK ha hi.mods]
 exact h.mo.sm hs (hp _ h.moc)
end
def KS.addTh (S : KS) (t : KTh) : KS := { S with ths := S.ths ++ [t] }
def KS.setTh (S : KS) (i : Nat) (t : KTh) : KS := { S with ths := S.ths.set i t }
def KS.addTy (S : KS) (t : KTy) : KS := { S with tys := S.tys ++ [t] }
def KS.setTy (S : KS) (i : Nat) (t : KTy) : KS := { S with tys := S.tys.set i t }
def KS.addPr (S : KS) (t : KPr) : KS := { S with prs := S.prs ++ [t] }
def KS.setPr (S : KS) (i : Nat) (t : KPr) : KS := { S with prs := S.prs.set i t }
def KS.addMd (S : KS) (t : KMd) : KS := { S with mds := S.mds ++ [t] }
def KS.setMd (S : KS) (i : Nat) (t : KMd) : KS := { S with mds := S.mds.set i t }
theorem kt {α : Type} (l : List α) (a d : α) {i : Nat} (h : i < l.length) : ((l ++ [a])[i]?).getD d = (l[i]?).getD d := by rw [List.getElem?_append_left h]
theorem xF {α : Type} (l : List α) (a d : α) : ((l ++ [a])[l.length]?).getD d = a := by simp
theorem uk {α : Type} {l : List α} {a : α} {i : Nat} (h : i < (l ++ [a]).length) : i < l.length \/ i = l.length := by simp at h; omega
theorem yZ {α : Type} (l : List α) (a d : α) {i : Nat} (h : i < l.length) : ((l.set i a)[i]?).getD d = a := by simp [h]
theorem vu {α : Type} (l : List α) (a d : α) {i j : Nat} (h : j ≠ i) : ((l.set i a)[j]?).getD d = (l[j]?).getD d := by rw [List.getElem?_set,if_neg (fun e => h e.symm)]
section
variable {ρ ρ' ρ1 : Lay} {w w' w1 : World} {S S' : KS} {P Q : Nat -> Prop} {i b : Nat}
theorem Agr.refl (ρ : Lay) (S : KS) : Agr ρ ρ S := ⟨rfl,rfl,rfl,fun _ _ => rfl,fun _ _ => rfl,fun _ _ => rfl,fun _ _ => rfl,fun _ _ => rfl,fun _ _ => rfl,fun _ _ h => h⟩
theorem KM.frs (h : KM ρ w S) (hs : Sm w w' P) : ∀ b,w'.heap.size <= b -> ρ.col b = none := fun b hb => h.fr b (Nat.le_trans hs.size hb)
/-! ### Things -/
theorem KM.setTh (h : KM ρ w S) (hi : KIn S) {t : KTh} (hl : i < S.ths.length) (hs : Sm w w' (fun g => ρ.col g ≠ some (.th i))) (hb : Bk w' (ρ.th i) (thV ρ t)) : KM ρ w' (S.setTh i t) := by
 refine h.turn hi (Agr.refl ρ S) hs (h.frs hs) (fun g hg => by rw [hg]; nofun) (fun g hg => by rw [hg]; nofun) (h.mo_turn hi (Agr.refl ρ S) hs (fun g hg => by rw [hg]; nofun)) (fun j hj => (h.ty j hj).sm hs (fun g hg => by rw [hg]; nofun) (fun g hg => by rw [hg]; nofun)) (fun j hj => ?_)
  (fun j hj => (h.pr j hj).sm hs (fun g hg => by rw [hg]; nofun) (fun g hg => by rw [hg]; nofun) (fun g hg => by rw [hg]; nofun) (fun g hg => by rw [hg]; nofun)) (fun j hj => (h.md j hj).sm hs (fun g hg => by rw [hg]; nofun) (fun g hg => by rw [hg]; nofun) (fun g hg => by rw [hg]; nofun) (fun g hg => by rw [hg]; nofun) (fun g hg => by rw [hg]; nofun))
 by_cases e : j = i
 ·subst e
  rw [show (S.setTh j t).th j = t from yZ _ _ _ hl]
  exact ⟨hb,(h.th j hl).col⟩
 ·rw [show (S.setTh i t).th j = S.th j from vu _ _ _ e]
  have c : j < S.ths.length := by simpa [KS.setTh] using hj
  exact (h.th j c).sm hs (fun g hg => by rw [hg]; intro d; cases d; exact e rfl)
/-! ### Types -/
def Lay.addTy (ρ : Lay) (n tb : Nat) : Lay := { ρ with ty := fun i => if i = n then tb else ρ.ty i,col := fun b => if b = tb then some (.ty n) else ρ.col b }
theorem fK (S : KS) {tb : Nat} (hc : ρ.col tb = none) : Agr ρ (ρ.addTy S.tys.length tb) S :=
 ⟨rfl,rfl,rfl,fun i h => by simp [Lay.addTy]; intro e; omega,fun _ _ => rfl,fun _ _ => rfl,fun _ _ => rfl,fun _ _ => rfl,fun _ _ => rfl,fun b lb h => by
  simp only [Lay.addTy]; rw [if_neg (fun e => by rw [e,hc] at h; cases h)]
  exact h⟩
theorem KM.addTy (h : KM ρ w S) (hi : KIn S) {t : KTy} {tb : Nat} (hb : Bk w tb (tyV ρ t (.slice none 0 0))) (hc : ρ.col tb = none) (hfl : t.fields = []) (hof : t.of = none) : KM (ρ.addTy S.tys.length tb) w (S.addTy t) := by
 have c := fK S hc; refine h.turn (P := fun _ => True) hi c (Sm.refl w _) (fun b d => ?_) (fun _ _ => trivial) (fun _ _ => trivial) (h.mo_turn hi c (Sm.refl w (fun _ => True)) (fun _ _ => trivial)) (fun j hj => ?_) (fun j hj => (h.th j hj).re hi c hj) (fun j hj => (h.pr j hj).re hi c hj) (fun j hj => (h.md j hj).re hi c hj)
 ·have f := hb.lt
  simp only [Lay.addTy]; rw [if_neg (by omega)]
  exact h.fr b d
 ·rcases uk hj with d | rfl
  ·rw [show (S.addTy t).ty j = S.ty j from kt _ _ _ d]
   exact (h.ty j d).re hi c d
  ·rw [show (S.addTy t).ty S.tys.length = t from xF _ _ _]
   refine ⟨⟨.slice none 0 0,?_,?_,nofun⟩,by simp [Lay.addTy]⟩
   ·have e : tyV (ρ.addTy S.tys.length tb) t (.slice none 0 0) = tyV ρ t (.slice none 0 0) := by unfold tyV; rw [hof]; rfl
    rw [e]; simp only [Lay.addTy,if_true]
    exact hb
   ·rw [hfl]; exact World.ownsRow_nil _ _ _ _
theorem KM.setTy (h : KM ρ w S) (hi : KIn S) (ha : Agr ρ ρ' S) {t : KTy} (hl : i < S.tys.length) (hs : Sm w w' (fun g => ρ.col g ≠ some (.ty i) /\ ρ.col g ≠ some (.fl i))) (hf : ∀ b,w'.heap.size <= b -> ρ'.col b = none) (hb : TyAt ρ' w' i t) : KM ρ' w' (S.setTy i t) := by
 refine h.turn hi ha hs hf (fun g hg => by rw [hg]; exact ⟨nofun,nofun⟩) (fun g hg => by rw [hg]; exact ⟨nofun,nofun⟩) (h.mo_turn hi ha hs (fun g hg => by rw [hg]; exact ⟨nofun,nofun⟩)) (fun j hj => ?_) (fun j hj => ((h.th j hj).sm hs (fun g hg => by rw [hg]; exact ⟨nofun,nofun⟩)).re hi ha hj)
  (fun j hj => ((h.pr j hj).sm hs (fun g hg => by rw [hg]; exact ⟨nofun,nofun⟩) (fun g hg => by rw [hg]; exact ⟨nofun,nofun⟩) (fun g hg => by rw [hg]; exact ⟨nofun,nofun⟩) (fun g hg => by rw [hg]; exact ⟨nofun,nofun⟩)).re hi ha hj) (fun j hj => ((h.md j hj).sm hs (fun g hg => by rw [hg]; exact ⟨nofun,nofun⟩) (fun g hg => by rw [hg]; exact ⟨nofun,nofun⟩) (fun g hg => by rw [hg]; exact ⟨nofun,nofun⟩) (fun g hg => by rw [hg]; exact ⟨nofun,nofun⟩) (fun g hg => by rw [hg]; exact ⟨nofun,nofun⟩)).re hi ha hj)
 by_cases e : j = i
 ·subst e
  rw [show (S.setTy j t).ty j = t from yZ _ _ _ hl]
  exact hb
 ·rw [show (S.setTy i t).ty j = S.ty j from vu _ _ _ e]
  have c : j < S.tys.length := by simpa [KS.setTy] using hj
  exact ((h.ty j c).sm hs (fun g hg => by rw [hg]; exact ⟨fun e2 => by cases e2; exact e rfl,nofun⟩) (fun g hg => by rw [hg]; exact ⟨nofun,fun e2 => by cases e2; exact e rfl⟩)).re hi ha c
/-! ### Modules,procedures -/
theorem KM.setMd (h : KM ρ w S) (hi : KIn S) (ha : Agr ρ ρ' S) {t : KMd} (hl : i < S.mds.length) (hs : Sm w w' (fun g => ρ.col g ≠ some (.md i) /\ ρ.col g ≠ some (.im i) /\ ρ.col g ≠ some (.de i) /\ ρ.col g ≠ some (.nm i))) (hf : ∀ b,w'.heap.size <= b -> ρ'.col b = none) (hb : MdAt ρ' w' i t) : KM ρ' w' (S.setMd i t) := by
 have N : ∀ lb : Lb,(∀ j,lb ≠ .md j /\ lb ≠ .im j /\ lb ≠ .de j /\ lb ≠ .nm j) -> ∀ g,ρ.col g = some lb -> ρ.col g ≠ some (.md i) /\ ρ.col g ≠ some (.im i) /\ ρ.col g ≠ some (.de i) /\ ρ.col g ≠ some (.nm i) := fun lb hlb g hg => by
  rw [hg]; obtain ⟨d,f,k,l⟩ := hlb i
  exact ⟨fun e => d (Option.some.inj e),fun e => f (Option.some.inj e),fun e => k (Option.some.inj e),fun e => l (Option.some.inj e)⟩
 refine h.turn hi ha hs hf (N _ (fun _ => ⟨nofun,nofun,nofun,nofun⟩)) (N _ (fun _ => ⟨nofun,nofun,nofun,nofun⟩)) (h.mo_turn hi ha hs (N _ (fun _ => ⟨nofun,nofun,nofun,nofun⟩))) (fun j hj => ((h.ty j hj).sm hs (N _ (fun _ => ⟨nofun,nofun,nofun,nofun⟩)) (N _ (fun _ => ⟨nofun,nofun,nofun,nofun⟩))).re hi ha hj) (fun j hj => ((h.th j hj).sm hs (N _ (fun _ => ⟨nofun,nofun,nofun,nofun⟩))).re hi ha hj)
  (fun j hj => ((h.pr j hj).sm hs (N _ (fun _ => ⟨nofun,nofun,nofun,nofun⟩)) (N _ (fun _ => ⟨nofun,nofun,nofun,nofun⟩)) (N _ (fun _ => ⟨nofun,nofun,nofun,nofun⟩)) (N _ (fun _ => ⟨nofun,nofun,nofun,nofun⟩))).re hi ha hj) (fun j hj => ?_)
 by_cases e : j = i
 ·subst e
  rw [show (S.setMd j t).md j = t from yZ _ _ _ hl]
  exact hb
 ·rw [show (S.setMd i t).md j = S.md j from vu _ _ _ e]
  have c : j < S.mds.length := by simpa [KS.setMd] using hj
  exact ((h.md j c).sm hs (N _ (fun _ => ⟨nofun,nofun,nofun,nofun⟩)) (fun g hg => by rw [hg]; exact ⟨fun e2 => by cases e2; exact e rfl,nofun,nofun,nofun⟩) (fun g hg => by rw [hg]; exact ⟨nofun,fun e2 => by cases e2; exact e rfl,nofun,nofun⟩) (fun g hg => by rw [hg]; exact ⟨nofun,nofun,fun e2 => by cases e2; exact e rfl,nofun⟩) (fun g hg => by rw [hg]; exact ⟨nofun,nofun,nofun,fun e2 => by cases e2; exact e rfl⟩)).re hi ha c
theorem KM.setPr (h : KM ρ w S) (hi : KIn S) (ha : Agr ρ ρ' S) {t : KPr} (hl : i < S.prs.length) (hs : Sm w w' (fun g => ρ.col g ≠ some (.pr i) /\ ρ.col g ≠ some (.pa i) /\ ρ.col g ≠ some (.inn i))) (hf : ∀ b,w'.heap.size <= b -> ρ'.col b = none) (hb : PrAt ρ' w' i t) : KM ρ' w' (S.setPr i t) := by
 have N : ∀ lb : Lb,(∀ j,lb ≠ .pr j /\ lb ≠ .pa j /\ lb ≠ .inn j) -> ∀ g,ρ.col g = some lb -> ρ.col g ≠ some (.pr i) /\ ρ.col g ≠ some (.pa i) /\ ρ.col g ≠ some (.inn i) := fun lb hlb g hg => by
  rw [hg]; obtain ⟨d,f,k⟩ := hlb i
  exact ⟨fun e => d (Option.some.inj e),fun e => f (Option.some.inj e),fun e => k (Option.some.inj e)⟩
 refine h.turn hi ha hs hf (N _ (fun _ => ⟨nofun,nofun,nofun⟩)) (N _ (fun _ => ⟨nofun,nofun,nofun⟩)) (h.mo_turn hi ha hs (N _ (fun _ => ⟨nofun,nofun,nofun⟩))) (fun j hj => ((h.ty j hj).sm hs (N _ (fun _ => ⟨nofun,nofun,nofun⟩)) (N _ (fun _ => ⟨nofun,nofun,nofun⟩))).re hi ha hj) (fun j hj => ((h.th j hj).sm hs (N _ (fun _ => ⟨nofun,nofun,nofun⟩))).re hi ha hj)
  (fun j hj => ?_) (fun j hj => ((h.md j hj).sm hs (N _ (fun _ => ⟨nofun,nofun,nofun⟩)) (N _ (fun _ => ⟨nofun,nofun,nofun⟩)) (N _ (fun _ => ⟨nofun,nofun,nofun⟩)) (N _ (fun _ => ⟨nofun,nofun,nofun⟩)) (N _ (fun _ => ⟨nofun,nofun,nofun⟩))).re hi ha hj)
 by_cases e : j = i
 ·subst e
  rw [show (S.setPr j t).pr j = t from yZ _ _ _ hl]
  exact hb
 ·rw [show (S.setPr i t).pr j = S.pr j from vu _ _ _ e]
  have c : j < S.prs.length := by simpa [KS.setPr] using hj
  exact ((h.pr j c).sm hs (N _ (fun _ => ⟨nofun,nofun,nofun⟩)) (fun g hg => by rw [hg]; exact ⟨fun e2 => by cases e2; exact e rfl,nofun,nofun⟩) (fun g hg => by rw [hg]; exact ⟨nofun,fun e2 => by cases e2; exact e rfl,nofun⟩) (fun g hg => by rw [hg]; exact ⟨nofun,nofun,fun e2 => by cases e2; exact e rfl⟩)).re hi ha c
end
set_option maxHeartbeats 1000000
set_option maxRecDepth 100000
section
variable {ρ : Lay} {w w' w1 : World} {S : KS} {b : Nat} {c : KSc}
theorem sA (h : CK ρ w S b c) (n : T) (sv : Value) (hf : Fits n) {mb tb : Nat} {l0 : List (Nm × Nat)} (hmp : MapAt w mb (ρ.ths l0)) (hml : l0.length < maxLen) (_hmb : mb < w.heap.size) :
  Calls Tryz.prog 99 #[.pointer (some ⟨b,0,none⟩),.map (some mb),zn n sv,.pointer (some ⟨tb,0,none⟩)] w (fun e w' => (((lk l0 n.name ≠ none \/ lk yc n.name ≠ none) /\ Cy w (.error (6,n.at')) e w') \/ (lk l0 n.name = none /\ lk yc n.name = none /\ e = .returned (.tuple #[]) /\ MapAt w' mb ((n.name,tb) :: ρ.ths l0) /\ w.grownBy w' (some mb)))) := by
 have F := hf.name; have X := ze h.km; have N := ze hmp; have s0 : Hid _ := h.s0; have u : Hid _ := h.km.w3; obtain ⟨s,x,m,p,l⟩ := n
 change Calls Tryz.prog 99 #[.pointer (some ⟨b,0,none⟩),.map (some mb),.agg #[.int .i64 s,.string ⟨x.toArray⟩,.int .i64 m,.int .i64 p,sv],.pointer (some ⟨tb,0,none⟩)] w _
 obtain ⟨j,d⟩ : ∃ z,z = w.alloc (.cells #[.int .i64 s,.string ⟨x.toArray⟩,.int .i64 m,.int .i64 p,sv] 100) := ⟨_,rfl⟩
 have g : Hid (w.grownBy j none) := by rw [d]; exact zf (zc w none) _
 have o : Hid (Box j w.heap.size (.mk s x m p l) sv) := by rw [d]; exact Box.new w (.mk s x m p l) sv _
 clear h hf hmp
 change x.length <= maxLen at F
 change Calls Tryz.prog 99 #[.pointer (some ⟨b,0,none⟩),.map (some mb),.agg #[.int .i64 s,.string ⟨x.toArray⟩,.int .i64 m,.int .i64 p,sv],.pointer (some ⟨tb,0,none⟩)] w (fun e w' => (((lk l0 x ≠ none \/ lk yc x ≠ none) /\ Cy w (.error (6,p)) e w') \/ (lk l0 x = none /\ lk yc x = none /\ e = .returned (.tuple #[]) /\ MapAt w' mb ((x,tb) :: ρ.ths l0) /\ w.grownBy w' (some mb))))
 have i := ze (fun w9 (G : w.grownBy w9 none) => xn (ρ := ρ) (N.out.kept G (by simp)) x F); have k := ze (fun w9 (G : w.grownBy w9 none) => xn (ρ := ρ) (X.out.up G).ba x F); cases r : lk l0 x with
 | some t =>
  rw [r,ya] at i; refine Calls.mono ?_ (fun e w' h9 => .inl ⟨.inl nofun,h9⟩)
  go_enter Tryz.func99,Tryz.ntmps99
  go_wp2_with fail; rw [<- d]; clear d; refine wp_region_held_drew (S := fun w9 => j.grownBy w9 none) (by kernel_rfl) ?_ (fun hHeld => ?_)
  ·exact zh (zc j none)
  refine kQ 0 8 (.map (some mb)) hHeld ?_; simp only [qA,qB,qC,qD]; refine kQ 1 9 (.pointer (some ⟨w.heap.size,1,none⟩)) hHeld ?_; simp only [qA,qB,qC,qD]; refine dk 2 (some 10) (.string ⟨x.toArray⟩) rfl rfl (fun w9 hS => by obtain ⟨H,f,I,J,K⟩ := (Box.kept o.out hS).plain; go_simp) hHeld ?_; simp only [qA,qB,qC,qD]; refine dk 3 (some 11) (.pointer (some ⟨ρ.th t,0,none⟩)) rfl rfl (fun w9 hS => by have f := i.out w9 (za g.out hS); go_simp) hHeld ?_; simp only [qA,qB,qC,qD]; refine kQ 4 12 (.bool true) hHeld ?_; simp only [qA,qB,qC,qD]; refine kQ 5 13 (.bool true) hHeld ?_; simp only [qA,qB,qC,qD]; refine dn 6 (some 14) rfl rfl hHeld ?_; simp only [qA,qB,qC,qD]; refine dn 7 (some 15) rfl rfl hHeld ?_; simp only [qA,qB,qC,qD]; refine dn 8 (some 16) rfl rfl hHeld ?_; simp only [qA,qB,qC,qD]; refine dn 9 (some 17) rfl rfl hHeld ?_; simp only [qA,qB,qC,qD]; refine dn 10 (some 18) rfl rfl hHeld ?_; simp only [qA,qB,qC,qD]; refine dn 11 (some 19) rfl rfl hHeld ?_; simp only [qA,qB,qC,qD]; refine dn 12 (some 20) rfl rfl hHeld ?_; simp only [qA,qB,qC,qD]; refine dn 13 (some 21) rfl rfl hHeld ?_; simp only [qA,qB,qC,qD]; refine dn 14 (some 22) rfl rfl hHeld ?_; simp only [qA,qB,qC,qD]; refine dn 15 (some 23) rfl rfl hHeld ?_; simp only [qA,qB,qC,qD]; refine dn 16 (some 24) rfl rfl hHeld ?_; simp only [qA,qB,qC,qD]; refine kQ 17 25 (.bool true) hHeld ?_; simp only [qA,qB,qC,qD]; refine wpAnyH_done (by kernel_rfl) ?_ _; clear hHeld; obtain ⟨v,A,B,C,D⟩ := o.out.plain; go_wp2_with fail; go_at_call 53; refine (zu _ (.mk s x m p l) sv 6).mono ?_; rintro e w1 r; have L := r; obtain ⟨q,rfl⟩ := r.thrown
  exact ⟨rfl,L.err (zh g.out)⟩
 | none =>
  rw [r,zO] at i; cases O : lk yc x with
  | some t =>
   rw [O,ya] at k; refine Calls.mono ?_ (fun e w' h9 => .inl ⟨.inr nofun,h9⟩)
   go_enter Tryz.func99,Tryz.ntmps99
   go_wp2_with fail; rw [<- d]; clear d; refine wp_region_held_drew (S := fun w9 => j.grownBy w9 none) (by kernel_rfl) ?_ (fun hHeld => ?_)
   ·exact zh (zc j none)
   refine kQ 0 8 (.map (some mb)) hHeld ?_; simp only [qA,qB,qC,qD]; refine kQ 1 9 (.pointer (some ⟨w.heap.size,1,none⟩)) hHeld ?_; simp only [qA,qB,qC,qD]; refine dk 2 (some 10) (.string ⟨x.toArray⟩) rfl rfl (fun w9 hS => by obtain ⟨H,f,I,J,K⟩ := (Box.kept o.out hS).plain; go_simp) hHeld ?_; simp only [qA,qB,qC,qD]; refine dk 3 (some 11) (.pointer none) rfl rfl (fun w9 hS => by have f := i.out w9 (za g.out hS); go_simp) hHeld ?_; simp only [qA,qB,qC,qD]; refine kQ 4 12 (.bool false) hHeld ?_; simp only [qA,qB,qC,qD]; refine kQ 5 13 (.bool false) hHeld ?_; simp only [qA,qB,qC,qD]; refine kQ 6 14 (.pointer (some ⟨b,0,none⟩)) hHeld ?_; simp only [qA,qB,qC,qD]; refine kQ 7 15 (.pointer (some ⟨b,0,none⟩)) hHeld ?_; simp only [qA,qB,qC,qD]; refine kQ 8 16 (.pointer (some ⟨b,0,none⟩)) hHeld ?_; simp only [qA,qB,qC,qD]; refine dk 9 (some 17) (.pointer (some ⟨ρ.wd,0,none⟩)) rfl rfl (fun w9 hS => by have f := zi (za g.out hS) s0.out; go_simp) hHeld ?_; simp only [qA,qB,qC,qD]; refine kQ 10 18 (.pointer (some ⟨ρ.wd,0,none⟩)) hHeld ?_; simp only [qA,qB,qC,qD]; refine kQ 11 19 (.pointer (some ⟨ρ.wd,3,none⟩)) hHeld ?_; simp only [qA,qB,qC,qD]; refine dk 12 (some 20) (.map (some ρ.ba)) rfl rfl (fun w9 hS => by have f := zi (za g.out hS) u.out; go_simp) hHeld ?_; simp only [qA,qB,qC,qD]; refine kQ 13 21 (.pointer (some ⟨w.heap.size,1,none⟩)) hHeld ?_; simp only [qA,qB,qC,qD]; refine dk 14 (some 22) (.string ⟨x.toArray⟩) rfl rfl (fun w9 hS => by obtain ⟨H,f,I,J,K⟩ := (Box.kept o.out hS).plain; go_simp) hHeld ?_; simp only [qA,qB,qC,qD]; refine dk 15 (some 23) (.pointer (some ⟨ρ.th t,0,none⟩)) rfl rfl (fun w9 hS => by have f := k.out w9 (za g.out hS); go_simp) hHeld ?_
   simp only [qA,qB,qC,qD]; refine kQ 16 24 (.bool true) hHeld ?_; simp only [qA,qB,qC,qD]; refine kQ 17 25 (.bool true) hHeld ?_; simp only [qA,qB,qC,qD]; refine wpAnyH_done (by kernel_rfl) ?_ _; clear hHeld; obtain ⟨v,A,B,C,D⟩ := o.out.plain; go_wp2_with fail; go_at_call 53; refine (zu _ (.mk s x m p l) sv 6).mono ?_; rintro e w1 r; have L := r; obtain ⟨q,rfl⟩ := r.thrown
   exact ⟨rfl,L.err (zh g.out)⟩
  | none =>
   rw [O,zO] at k; have Q : Hid (w.grownBy j.drew none) := zh g.out; obtain ⟨U,V,E,M⟩ := MapAt.put (N.out.kept Q.out (by simp)) Tryz.underlying77 x F tb (by simpa [Lay.ths] using hml)
   replace V : (Instr.mapUpdate 77 (.map (some mb)) (.string ⟨x.toArray⟩) (.pointer (some ⟨tb,0,none⟩))).run Tryz.prog j.drew = .ok () U := V
   refine Calls.mono (R := fun e w' => e = .returned (.tuple #[]) /\ w' = U) ?_ (fun e w' h9 => .inr ⟨rfl,rfl,h9.1,by rw [h9.2]; exact E,by rw [h9.2]; exact za (zv Q.out _) M⟩)
   go_enter Tryz.func99,Tryz.ntmps99
   go_wp2_with fail; rw [<- d]; clear d; refine wp_region_held_drew (S := fun w9 => j.grownBy w9 none) (by kernel_rfl) ?_ (fun hHeld => ?_)
   ·exact zh (zc j none)
   refine kQ 0 8 (.map (some mb)) hHeld ?_; simp only [qA,qB,qC,qD]; refine kQ 1 9 (.pointer (some ⟨w.heap.size,1,none⟩)) hHeld ?_; simp only [qA,qB,qC,qD]; refine dk 2 (some 10) (.string ⟨x.toArray⟩) rfl rfl (fun w9 hS => by obtain ⟨H,f,I,J,K⟩ := (Box.kept o.out hS).plain; go_simp) hHeld ?_; simp only [qA,qB,qC,qD]; refine dk 3 (some 11) (.pointer none) rfl rfl (fun w9 hS => by have f := i.out w9 (za g.out hS); go_simp) hHeld ?_; simp only [qA,qB,qC,qD]; refine kQ 4 12 (.bool false) hHeld ?_; simp only [qA,qB,qC,qD]; refine kQ 5 13 (.bool false) hHeld ?_; simp only [qA,qB,qC,qD]; refine kQ 6 14 (.pointer (some ⟨b,0,none⟩)) hHeld ?_; simp only [qA,qB,qC,qD]; refine kQ 7 15 (.pointer (some ⟨b,0,none⟩)) hHeld ?_; simp only [qA,qB,qC,qD]; refine kQ 8 16 (.pointer (some ⟨b,0,none⟩)) hHeld ?_; simp only [qA,qB,qC,qD]; refine dk 9 (some 17) (.pointer (some ⟨ρ.wd,0,none⟩)) rfl rfl (fun w9 hS => by have f := zi (za g.out hS) s0.out; go_simp) hHeld ?_; simp only [qA,qB,qC,qD]; refine kQ 10 18 (.pointer (some ⟨ρ.wd,0,none⟩)) hHeld ?_; simp only [qA,qB,qC,qD]; refine kQ 11 19 (.pointer (some ⟨ρ.wd,3,none⟩)) hHeld ?_; simp only [qA,qB,qC,qD]; refine dk 12 (some 20) (.map (some ρ.ba)) rfl rfl (fun w9 hS => by have f := zi (za g.out hS) u.out; go_simp) hHeld ?_; simp only [qA,qB,qC,qD]; refine kQ 13 21 (.pointer (some ⟨w.heap.size,1,none⟩)) hHeld ?_; simp only [qA,qB,qC,qD]; refine dk 14 (some 22) (.string ⟨x.toArray⟩) rfl rfl (fun w9 hS => by obtain ⟨H,f,I,J,K⟩ := (Box.kept o.out hS).plain; go_simp) hHeld ?_; simp only [qA,qB,qC,qD]; refine dk 15 (some 23) (.pointer none) rfl rfl (fun w9 hS => by have f := k.out w9 (za g.out hS); go_simp) hHeld ?_
   simp only [qA,qB,qC,qD]; refine kQ 16 24 (.bool false) hHeld ?_; simp only [qA,qB,qC,qD]; refine kQ 17 25 (.bool false) hHeld ?_; simp only [qA,qB,qC,qD]; refine wpAnyH_done (by kernel_rfl) ?_ _; clear hHeld; obtain ⟨_,_,_,_,_⟩ := (Box.drew o.out).plain; go_wp2; refine bodyPost_end (results_none rfl _ _ _) rfl ?_
   exact ⟨rfl,rfl⟩
end
section
variable {ρ ρ' ρ1 : Lay} {w w' w1 : World} {S S' : KS} {P Q : Nat -> Prop} {i b : Nat}
theorem Sm.put (h : Sm w w' P) (hb : ¬ P b) (o : Nat) (v : Value) : Sm w (w'.setCell ⟨b,o,none⟩ v) P :=
 ⟨h.os,h.tape,h.output,by simpa [World.setCell] using h.size,fun g hg hp => (Below.heap_setCell _ _ _ _ (by intro e; have e2 : g = b := e; exact hb (e2 ▸ hp))).trans (h.block g hg hp)⟩
theorem Sm.drew (h : Sm w w' P) : Sm w w'.drew P := ⟨h.os,h.tape,h.output,h.size,h.block⟩
theorem Sm.gbn {row : Option Nat} (h : Sm w w1 P) (k : w1.grownBy w' row) (hr : ∀ g,row = some g -> ¬ P g) : Sm w w' P :=
 h.trans ((Sm.grown k).mono (fun g _ hp e => hr g e.symm hp))
theorem Sm.of_none (k : w.grownBy w' none) (P : Nat -> Prop) : Sm w w' P := ⟨k.os,k.tape,k.output,k.size,fun g hg _ => k.block g hg (by simp)⟩
theorem KM.sm (h : KM ρ w S) (hi : KIn S) (hs : Sm w w' P) (hp : ∀ g lb,ρ.col g = some lb -> P g) : KM ρ w' S :=
 h.turn hi (Agr.refl ρ S) hs (h.frs hs) (fun g hg => hp g _ hg) (fun g hg => hp g _ hg) (h.mo_turn hi (Agr.refl ρ S) hs (fun g hg => hp g _ hg)) (fun j hj => (h.ty j hj).sm hs (fun g hg => hp g _ hg) (fun g hg => hp g _ hg)) (fun j hj => (h.th j hj).sm hs (fun g hg => hp g _ hg))
  (fun j hj => (h.pr j hj).sm hs (fun g hg => hp g _ hg) (fun g hg => hp g _ hg) (fun g hg => hp g _ hg) (fun g hg => hp g _ hg)) (fun j hj => (h.md j hj).sm hs (fun g hg => hp g _ hg) (fun g hg => hp g _ hg) (fun g hg => hp g _ hg) (fun g hg => hp g _ hg) (fun g hg => hp g _ hg))
theorem Box.sm {t : T} {sv : Value} (h : Box w b t sv) (hs : Sm w w' P) (hp : P b) : Box w' b t sv := ⟨hs.cell h.c0 hp,hs.cell h.c1 hp,hs.cell h.c2 hp,hs.cell h.c3 hp,hs.cell h.c4 hp⟩
theorem Bk.drew {vs : List Value} (h : Bk w b vs) : Bk w.drew b vs := h.sm (Sm.refl w (fun _ => True)).drew trivial
theorem Threw.le {k n : Int} {e : Ending} (h : Threw w1 k n e w') (hs : w.heap.size <= w1.heap.size) : Threw w k n e w' := by
 obtain ⟨q,c,d,f⟩ := h
 exact ⟨q,c,Nat.le_trans hs d,f⟩
theorem MapAt.ne_cell {mb : Nat} {l : List (Nm × Nat)} (h : MapAt w mb l) {a : Addr} {v : Value} (hc : w.cell? a = some v) : a.block ≠ mb := by
 obtain ⟨_,_,c,_⟩ := h; intro e; rw [World.cell?,e,c] at hc
 simp at hc
end
set_option maxHeartbeats 2000000
section
variable {ρ : Lay} {w w' w1 : World} {S : KS} {b : Nat} {c : KSc}
theorem ke (h : CK ρ w S b c) (n : T) (sv : Value) (hf : Fits n) (hi : KIn S) {tb q : Nat} {t : KTh} (hin : c.inner = some q) (hlen : (S.pr q).inner.length < maxLen) (hb : Bk w tb (thV ρ t)) (hc : ρ.col tb = none) :
  Calls Tryz.prog 109 #[.pointer (some ⟨b,0,none⟩),zn n sv,.pointer (some ⟨tb,0,none⟩)] w (fun e w' => (((lk (S.pr q).inner n.name ≠ none \/ lk yc n.name ≠ none) /\ Threw w n.at' 6 e w' /\ Sm w w' (fun g => g ≠ tb)) \/ (lk (S.pr q).inner n.name = none /\ lk yc n.name = none /\ e = .returned (.tuple #[]) /\ Bk w' tb (thV ρ { t with kind := 3,name := n.name }) /\ MapAt w' (ρ.inn q) ((n.name,tb) :: ρ.ths (S.pr q).inner) /\ Sm w w' (fun g => g ≠ tb /\ g ≠ ρ.inn q)))) := by
 have fx := hf.name; have u := h.hi q hin; have HK := ze h; have HI := ze hi; have HB := ze hb; have HF := ze hf
 have s2 : Hid (w.cell? ⟨b,2,none⟩ = some (.map (some (ρ.inn q)))) := by have d := h.s2; rw [hin] at d; exact d
 have i : b ≠ tb := fun e => by
  have U := hb.c 2 _ rfl; rw [<- e,h.s2] at U; cases U
 have a0 := hb.lt; obtain ⟨s,x,m,p,l⟩ := n
 change Calls Tryz.prog 109 #[.pointer (some ⟨b,0,none⟩),.agg #[.int .i64 s,.string ⟨x.toArray⟩,.int .i64 m,.int .i64 p,sv],.pointer (some ⟨tb,0,none⟩)] w _
 obtain ⟨f,j⟩ : ∃ z,z = w.alloc (.cells #[.int .i64 s,.string ⟨x.toArray⟩,.int .i64 m,.int .i64 p,sv] 100) := ⟨_,rfl⟩
 have H : Hid (w.grownBy f none) := by rw [j]; exact zf (zc w none) _
 have V : Hid (Box f w.heap.size (.mk s x m p l) sv) := by rw [j]; exact Box.new w (.mk s x m p l) sv _
 clear h hf hb hi
 change x.length <= maxLen at fx
 change Calls Tryz.prog 109 #[.pointer (some ⟨b,0,none⟩),.agg #[.int .i64 s,.string ⟨x.toArray⟩,.int .i64 m,.int .i64 p,sv],.pointer (some ⟨tb,0,none⟩)] w (fun e w' => (((lk (S.pr q).inner x ≠ none \/ lk yc x ≠ none) /\ Threw w p 6 e w' /\ Sm w w' (fun g => g ≠ tb)) \/ (lk (S.pr q).inner x = none /\ lk yc x = none /\ e = .returned (.tuple #[]) /\ Bk w' tb (thV ρ { t with kind := 3,name := x }) /\ MapAt w' (ρ.inn q) ((x,tb) :: ρ.ths (S.pr q).inner) /\ Sm w w' (fun g => g ≠ tb /\ g ≠ ρ.inn q))))
 have k : Hid (Bk f tb (thV ρ t)) := HB.out.kept H.out (by simp)
 go_enter Tryz.func109,Tryz.ntmps109
 go_wp2_with fail; rw [<- j]; clear j; refine wp_region_held_drew (S := fun w9 => Sm f w9 (fun g => g ≠ tb)) (by kernel_rfl) ?_ (fun hHeld => ?_)
 ·exact (Sm.refl f _).drew
 refine kQ 0 6 (.pointer (some ⟨tb,0,none⟩)) hHeld ?_; simp only [qA,qB,qC,qD]; refine kQ 1 7 (.pointer (some ⟨tb,0,none⟩)) hHeld ?_; simp only [qA,qB,qC,qD]; refine kQ 2 8 (.pointer (some ⟨w.heap.size,1,none⟩)) hHeld ?_; simp only [qA,qB,qC,qD]; refine dk 3 (some 9) (.string ⟨x.toArray⟩) rfl rfl (fun w9 hS => by obtain ⟨q0,X,q2,q3,q4⟩ := (Box.sm V.out hS (show w.heap.size ≠ tb by omega)).plain; go_simp) hHeld ?_; simp only [qA,qB,qC,qD]; refine kQ 4 10 (.pointer (some ⟨tb,0,none⟩)) hHeld ?_; simp only [qA,qB,qC,qD]; refine kQ 5 11 (.pointer (some ⟨tb,0,none⟩)) hHeld ?_; simp only [qA,qB,qC,qD]; have J := k.out.c 0 _ rfl; have ez := k.out.z; refine rd 6 rfl fun KK hKK => ?_
 go_simp
 refine hKK.out _ _ (((Sm.refl f _).put (fun d => d rfl) _ _).drew) fun hHeld => ?_
 clear hKK KK; clear J; refine kQ 7 12 (.pointer (some ⟨tb,0,none⟩)) hHeld ?_; simp only [qA,qB,qC,qD]; refine kQ 8 13 (.pointer (some ⟨tb,1,none⟩)) hHeld ?_; simp only [qA,qB,qC,qD]; have J := k.out.c 1 _ rfl; refine rd 9 rfl fun KK hKK => ?_
 go_simp
 refine hKK.out _ _ ((((Sm.refl f _).put (fun d => d rfl) _ _).put (fun d => d rfl) _ _).drew) fun hHeld => ?_
 clear hKK KK; clear J ez; refine wpAnyH_done (by kernel_rfl) ?_ _; clear hHeld; obtain ⟨w1,o⟩ : ∃ z,z = ((f.setCell ⟨tb,0,none⟩ (.int .i64 3)).setCell ⟨tb,1,none⟩ (.string ⟨x.toArray⟩)).drew := ⟨_,rfl⟩; rw [<- o]
 have v : Hid (Sm f w1 (fun g => g ≠ tb)) := by rw [o]; exact (((Sm.refl f _).put (fun d => d rfl) _ _).put (fun d => d rfl) _ _).drew
 have Y : Hid (Bk w1 tb (thV ρ { t with kind := 3,name := x })) := by rw [o]; exact ((k.out.set 0 _).set 1 _).drew
 clear o; have Z : Hid (Box w1 w.heap.size (.mk s x m p l) sv) := V.out.sm v.out (by omega)
 have I : Hid (CK ρ w1 S b c) := by
  have A := HK.out.up H.out
  exact ⟨A.km.sm HI.out v.out (fun g lb hg e => by rw [e,hc] at hg; cases hg),A.ok,v.out.cell A.s0 i,v.out.cell A.s1 i,v.out.cell A.s2 i,A.hc,A.hi⟩
 have B : Hid _ := v.out.cell (zi H.out s2.out) i; have K : Hid (Sm w w1 (fun g => g ≠ tb)) := (Sm.of_none H.out _).trans v.out; have G1 : Hid (w1.grownBy w1 none) := zc w1 none; have C := ze (fun L (G : w1.grownBy L none) => sA (I.out.up G) (.mk s x m p l) sv HF.out (tb := tb) (MapAt.kept (I.out.km.pr q u).mp G (by simp)) hlen (MapAt.lt (MapAt.kept (I.out.km.pr q u).mp G (by simp)))); have r := (I.out.km.pr q u).mp; have M : b ≠ ρ.inn q := r.ne_cell B.out; have N : w.heap.size ≠ ρ.inn q := r.ne_cell Z.out.c0; have O : tb ≠ ρ.inn q := r.ne_cell (Y.out.c 0 _ rfl); clear r; go_wp2_with fail; refine wp_region_held_drew (S := fun w9 => Sm w1 w9 (fun g => g ≠ ρ.inn q)) (by kernel_rfl) ?_ (fun hHeld => ?_)
 ·exact (Sm.refl w1 _).drew
 refine kQ 0 14 (.pointer (some ⟨b,0,none⟩)) hHeld ?_; simp only [qA,qB,qC,qD]; refine kQ 1 15 (.pointer (some ⟨b,0,none⟩)) hHeld ?_; simp only [qA,qB,qC,qD]; refine kQ 2 16 (.pointer (some ⟨b,0,none⟩)) hHeld ?_; simp only [qA,qB,qC,qD]; refine kQ 3 17 (.pointer (some ⟨b,2,none⟩)) hHeld ?_; simp only [qA,qB,qC,qD]; refine dk 4 (some 18) (.map (some (ρ.inn q))) rfl rfl (fun w9 hS => by have X := Sm.cell hS B.out M; go_simp) hHeld ?_; simp only [qA,qB,qC,qD]; refine dk 5 (some 19) (.agg #[.int .i64 s,.string ⟨x.toArray⟩,.int .i64 m,.int .i64 p,sv]) rfl rfl (fun w9 hS => by obtain ⟨q0,X,q2,q3,q4⟩ := (Box.sm Z.out hS N).plain; go_simp) hHeld ?_; simp only [qA,qB,qC,qD]; refine kQ 6 20 (.pointer (some ⟨tb,0,none⟩)) hHeld ?_; simp only [qA,qB,qC,qD]; refine rd 7 rfl fun KK hKK => ?_
 go_simp
 go_at_call 99; refine (C.out _ (zh G1.out)).mono ?_; rintro e L (⟨hd,D⟩ | ⟨Q,R,rfl,E,F⟩)
 ·have HT := D
  obtain ⟨z,rfl⟩ := D.thrown
  exact ⟨rfl,.inl ⟨hd,HT.2.le K.out.size,K.out.trans (Sm.of_none (za (zh (zc w1 none)) HT.1) _)⟩⟩
 go_simp
 refine hKK.out _ _ ((Sm.grown (za (zv (zh (zc w1 none)) (some (ρ.inn q))) F)).mono (fun g _ d e => d (Option.some.inj e))) fun hHeld => ?_
 clear hKK KK; refine wpAnyH_done (by kernel_rfl) ?_ _; clear hHeld; have S2 : Hid (Sm w1 L (fun g => g ≠ ρ.inn q)) := (Sm.grown (za (zv (zh (zc w1 none)) (some (ρ.inn q))) F)).mono (fun g _ d e => d (Option.some.inj e)); go_wp2; refine bodyPost_end (results_none rfl _ _ _) rfl ?_
 exact .inr ⟨Q,R,rfl,Y.out.sm S2.out O,E,(K.out.mono (fun g _ d => d.1)).trans (S2.out.mono (fun g _ d => d.2))⟩
end
theorem Tryz.infoThingP : (Tryz.prog.info? 86).map (fun i => (i.zero,i.size,i.bytes)) = some (some (.pointer none),1,8) := by kernel_rfl
theorem Tryz.infoModuleP : (Tryz.prog.info? 51).map (fun i => (i.zero,i.size,i.bytes)) = some (some (.pointer none),1,8) := by kernel_rfl
theorem gJ {ops : Array Oper} {o : Oper} {a : Act} {w : World} {K : Act -> World -> Prop} {Q : Exit -> Act -> World -> Prop} {E : Prop} (t e : TypeId) (ht : Tryz.prog.underlying t = some (.slice e)) (hin : (Tryz.prog.info? e).map (fun i => (i.zero,i.size,i.bytes)) = some (some (.pointer none),1,8)) (hgd : o.guard = none) (s x : Operand)
  (ho : o.op = .call { callee := .builtin .append,args := #[s,x],argTypes := #[t,t] })
  {g n : Nat} {v : Value} {q : Option Addr} {cs : List Value} (hs : a.eval s = v) (hx : a.eval x = .slice (some ⟨g,0,none⟩) 1 1) (hl : w.ownsRow 0 e 1 v n cs) (hc : w.cell? ⟨g,0,none⟩ = some (.pointer q)) (hn : n <= 1000000)
  (k : ∀ v' w',w'.ownsRow 0 e 1 v' (n + 1) (cs ++ [.pointer q]) -> w.grownBy w' v.ownBlock -> (v'.ownBlock = v.ownBlock \/ v'.ownBlock = some w.heap.size) -> K (a.put o.dst v') w') :
  if Region.wanted o (yielded ops a.tmps) = true then Oper.wp Tryz.prog o a w K Q else E := by
 have m : Region.wanted o (yielded ops a.tmps) = true := by simp [Region.wanted,hgd]
 rw [if_pos m]; obtain ⟨r,c,d,f,h⟩ := info_parts hin; obtain ⟨v',w',z,b,A,_,l⟩ := run_append_own_at (P := Tryz.prog) w 0 t o.type e r _ 1 8 ht c d f h rfl (by decide) v n cs hl ⟨g,0,none⟩ 1 1 [.pointer q]
  rfl (fun j u hj => by
   match j,hj with
   | 0,hj => simp at hj; subst hj; simpa [Addr.add] using hc) (fun u hu => by simp at hu; subst hu; rfl) (by unfold maxLen; omega) (by omega) (Nat.zero_le _)
 unfold Oper.wp execOp
 simp only [ho,resolve,invoke,builtin,Sem.run_bind,Sem.run_pure,Result.andThen_ok,List.map_toArray,List.map_cons,List.map_nil,hs,hx,z]
 exact k v' w' b A l
set_option maxHeartbeats 4000000
section
variable {ρ : Lay} {w w' w1 : World} {S : KS} {b : Nat} {c : KSc}
theorem dI (h : CK ρ w S b c) (n : T) (sv : Value) (hf : Fits n) (hi : KIn S) {tb : Nat} {t : KTh} (hcb : ρ.col b = some .ck) (hlen : (S.md c.home).names.length < maxLen) (hdl : (S.md c.home).decl.length <= 1000000) (hb : Bk w tb (thV ρ t)) (hc : ρ.col tb = none) :
  Calls Tryz.prog 70 #[.pointer (some ⟨b,0,none⟩),zn n sv,.pointer (some ⟨tb,0,none⟩)] w (fun e w' => (((lk (S.md c.home).names n.name ≠ none \/ lk yc n.name ≠ none) /\ Threw w n.at' 6 e w' /\ Sm w w' (fun g => g ≠ tb)) \/ (lk (S.md c.home).names n.name = none /\ lk yc n.name = none /\ e = .returned (.tuple #[]) /\ Bk w' tb (thV ρ { t with name := n.name,exp := (n.num == 1),home := some c.home }) /\ MapAt w' (ρ.nm c.home) ((n.name,tb) :: ρ.ths (S.md c.home).names) /\
   (∃ av iv dv,Bk w' (ρ.md c.home) (mdV ρ c.home (S.md c.home) av iv dv) /\ AF ρ.tr w' (S.md c.home).acts av /\ RowAt ρ w' 51 1 iv (S.md c.home).imps.length ((S.md c.home).imps.map fun y => ρ.mdP (some y)) (.im c.home) /\ w'.ownsRow 0 86 1 dv ((S.md c.home).decl.length + 1) (((S.md c.home).decl.map fun y => ρ.thP (some y)) ++ [.pointer (some ⟨tb,0,none⟩)]) /\ ∀ g,dv.ownBlock = some g -> ρ.col g = some (.de c.home) \/ w.heap.size <= g) /\
   Sm w w' (fun g => g ≠ tb /\ ρ.col g ≠ some (.nm c.home) /\ ρ.col g ≠ some (.md c.home) /\ ρ.col g ≠ some (.de c.home))))) := by
 have fx := hf.name; have u := h.hc; have HK := ze h; have HI := ze hi; have HB := ze hb; have HF := ze hf; have s1 : Hid (w.cell? ⟨b,1,none⟩ = some (.pointer (some ⟨ρ.md c.home,0,none⟩))) := h.s1
 have C : b ≠ tb := fun e => by rw [<- e,hcb] at hc; cases hc
 have c4 := hb.lt; obtain ⟨X,x,m,p,l⟩ := n
 change Calls Tryz.prog 70 #[.pointer (some ⟨b,0,none⟩),.agg #[.int .i64 X,.string ⟨x.toArray⟩,.int .i64 m,.int .i64 p,sv],.pointer (some ⟨tb,0,none⟩)] w _
 obtain ⟨D,M⟩ : ∃ z,z = w.alloc (.cells #[.int .i64 X,.string ⟨x.toArray⟩,.int .i64 m,.int .i64 p,sv] 100) := ⟨_,rfl⟩
 have G0 : Hid (w.grownBy D none) := by rw [M]; exact zf (zc w none) _
 have B0 : Hid (Box D w.heap.size (.mk X x m p l) sv) := by rw [M]; exact Box.new w (.mk X x m p l) sv _
 clear h hf hb hi
 change x.length <= maxLen at fx
 change Calls Tryz.prog 70 #[.pointer (some ⟨b,0,none⟩),.agg #[.int .i64 X,.string ⟨x.toArray⟩,.int .i64 m,.int .i64 p,sv],.pointer (some ⟨tb,0,none⟩)] w (fun e w' => (((lk (S.md c.home).names x ≠ none \/ lk yc x ≠ none) /\ Threw w p 6 e w' /\ Sm w w' (fun g => g ≠ tb)) \/ (lk (S.md c.home).names x = none /\ lk yc x = none /\ e = .returned (.tuple #[]) /\ Bk w' tb (thV ρ { t with name := x,exp := (m == 1),home := some c.home }) /\ MapAt w' (ρ.nm c.home) ((x,tb) :: ρ.ths (S.md c.home).names) /\
    (∃ av iv dv,Bk w' (ρ.md c.home) (mdV ρ c.home (S.md c.home) av iv dv) /\ AF ρ.tr w' (S.md c.home).acts av /\ RowAt ρ w' 51 1 iv (S.md c.home).imps.length ((S.md c.home).imps.map fun y => ρ.mdP (some y)) (.im c.home) /\ w'.ownsRow 0 86 1 dv ((S.md c.home).decl.length + 1) (((S.md c.home).decl.map fun y => ρ.thP (some y)) ++ [.pointer (some ⟨tb,0,none⟩)]) /\ ∀ g,dv.ownBlock = some g -> ρ.col g = some (.de c.home) \/ w.heap.size <= g) /\
    Sm w w' (fun g => g ≠ tb /\ ρ.col g ≠ some (.nm c.home) /\ ρ.col g ≠ some (.md c.home) /\ ρ.col g ≠ some (.de c.home)))))
 have E : Hid (Bk D tb (thV ρ t)) := HB.out.kept G0.out (by simp)
 obtain ⟨R,hR⟩ : ∃ R : Ending -> World -> Prop,R = fun e w' => (((lk (S.md c.home).names x ≠ none \/ lk yc x ≠ none) /\ Threw w p 6 e w' /\ Sm w w' (fun g => g ≠ tb)) \/ (lk (S.md c.home).names x = none /\ lk yc x = none /\ e = .returned (.tuple #[]) /\ Bk w' tb (thV ρ { t with name := x,exp := (m == 1),home := some c.home }) /\ MapAt w' (ρ.nm c.home) ((x,tb) :: ρ.ths (S.md c.home).names) /\
    (∃ av iv dv,Bk w' (ρ.md c.home) (mdV ρ c.home (S.md c.home) av iv dv) /\ AF ρ.tr w' (S.md c.home).acts av /\ RowAt ρ w' 51 1 iv (S.md c.home).imps.length ((S.md c.home).imps.map fun y => ρ.mdP (some y)) (.im c.home) /\ w'.ownsRow 0 86 1 dv ((S.md c.home).decl.length + 1) (((S.md c.home).decl.map fun y => ρ.thP (some y)) ++ [.pointer (some ⟨tb,0,none⟩)]) /\ ∀ g,dv.ownBlock = some g -> ρ.col g = some (.de c.home) \/ w.heap.size <= g) /\
    Sm w w' (fun g => g ≠ tb /\ ρ.col g ≠ some (.nm c.home) /\ ρ.col g ≠ some (.md c.home) /\ ρ.col g ≠ some (.de c.home)))) := ⟨_,rfl⟩
 rw [<- hR]
 go_enter Tryz.func70,Tryz.ntmps70
 go_wp2_with fail; rw [<- M]; clear M; refine wp_region_held_drew (S := fun w9 => Sm D w9 (fun g => g ≠ tb)) (by kernel_rfl) ?_ (fun hHeld => ?_)
 ·exact (Sm.refl D _).drew
 refine kQ 0 6 (.pointer (some ⟨tb,0,none⟩)) hHeld ?_; simp only [qA,qB,qC,qD]; refine kQ 1 7 (.pointer (some ⟨tb,0,none⟩)) hHeld ?_; simp only [qA,qB,qC,qD]; refine kQ 2 8 (.pointer (some ⟨tb,0,none⟩)) hHeld ?_; simp only [qA,qB,qC,qD]; refine kQ 3 9 (.pointer (some ⟨w.heap.size,1,none⟩)) hHeld ?_; simp only [qA,qB,qC,qD]; refine dk 4 (some 10) (.string ⟨x.toArray⟩) rfl rfl (fun w9 hS => by obtain ⟨q0,q1,q2,q3,q4⟩ := (Box.sm B0.out hS (show w.heap.size ≠ tb by omega)).plain; go_simp) hHeld ?_; simp only [qA,qB,qC,qD]; refine kQ 5 11 (.pointer (some ⟨w.heap.size,2,none⟩)) hHeld ?_; simp only [qA,qB,qC,qD]; refine dk 6 (some 12) (.int .i64 m) rfl rfl (fun w9 hS => by obtain ⟨q0,q1,q2,q3,q4⟩ := (Box.sm B0.out hS (show w.heap.size ≠ tb by omega)).plain; go_simp) hHeld ?_; simp only [qA,qB,qC,qD]; refine kQ 7 13 (.bool (m == 1)) hHeld ?_; simp only [qA,qB,qC,qD]; refine kQ 8 14 (.pointer (some ⟨b,0,none⟩)) hHeld ?_; simp only [qA,qB,qC,qD]; refine kQ 9 15 (.pointer (some ⟨b,0,none⟩)) hHeld ?_; simp only [qA,qB,qC,qD]; refine kQ 10 16 (.pointer (some ⟨b,1,none⟩)) hHeld ?_; simp only [qA,qB,qC,qD]; refine dk 11 (some 17) (.pointer (some ⟨ρ.md c.home,0,none⟩)) rfl rfl (fun w9 hS => by have q1 := Sm.cell hS (zi G0.out s1.out) C; go_simp) hHeld ?_; simp only [qA,qB,qC,qD]; refine kQ 12 18 (.pointer (some ⟨tb,0,none⟩)) hHeld ?_; simp only [qA,qB,qC,qD]; refine kQ 13 19 (.pointer (some ⟨tb,1,none⟩)) hHeld ?_; simp only [qA,qB,qC,qD]; have e0 := E.out.c 1 _ rfl; have ez := E.out.z; refine rd 14 rfl fun KK hKK => ?_
 go_simp
 refine hKK.out _ _ (((Sm.refl D _).put (fun d => d rfl) _ _).drew) fun hHeld => ?_
 clear hKK KK; clear e0; refine kQ 15 20 (.pointer (some ⟨tb,0,none⟩)) hHeld ?_; simp only [qA,qB,qC,qD]; refine kQ 16 21 (.pointer (some ⟨tb,2,none⟩)) hHeld ?_; simp only [qA,qB,qC,qD]; have e0 := E.out.c 2 _ rfl; refine rd 17 rfl fun KK hKK => ?_
 go_simp
 refine hKK.out _ _ ((((Sm.refl D _).put (fun d => d rfl) _ _).put (fun d => d rfl) _ _).drew) fun hHeld => ?_
 clear hKK KK; clear e0; refine kQ 18 22 (.pointer (some ⟨tb,0,none⟩)) hHeld ?_; simp only [qA,qB,qC,qD]; refine kQ 19 23 (.pointer (some ⟨tb,3,none⟩)) hHeld ?_; simp only [qA,qB,qC,qD]; have e0 := E.out.c 3 _ rfl; refine rd 20 rfl fun KK hKK => ?_
 go_simp
 refine hKK.out _ _ (((((Sm.refl D _).put (fun d => d rfl) _ _).put (fun d => d rfl) _ _).put (fun d => d rfl) _ _).drew) fun hHeld => ?_
 clear hKK KK; clear e0 ez; refine wpAnyH_done (by kernel_rfl) ?_ _; clear hHeld; obtain ⟨w1,N⟩ : ∃ z,z = (((D.setCell ⟨tb,1,none⟩ (.string ⟨x.toArray⟩)).setCell ⟨tb,2,none⟩ (.bool (m == 1))).setCell ⟨tb,3,none⟩ (.pointer (some ⟨ρ.md c.home,0,none⟩))).drew := ⟨_,rfl⟩; rw [<- N]
 have S1 : Hid (Sm D w1 (fun g => g ≠ tb)) := by rw [N]; exact ((((Sm.refl D _).put (fun d => d rfl) _ _).put (fun d => d rfl) _ _).put (fun d => d rfl) _ _).drew
 have T1 : Hid (Bk w1 tb (thV ρ { t with name := x,exp := (m == 1),home := some c.home })) := by rw [N]; exact (((E.out.set 1 _).set 2 _).set 3 _).drew
 clear N; have B1 : Hid (Box w1 w.heap.size (.mk X x m p l) sv) := B0.out.sm S1.out (by omega)
 have K1 : Hid (CK ρ w1 S b c) := by
  have k0 := HK.out.up G0.out
  exact ⟨k0.km.sm HI.out S1.out (fun g lb hg e => by rw [e,hc] at hg; cases hg),k0.ok,S1.out.cell k0.s0 C,S1.out.cell k0.s1 C,S1.out.cell k0.s2 C,k0.hc,k0.hi⟩
 have a1 : Hid _ := S1.out.cell (zi G0.out s1.out) C; have SW : Hid (Sm w w1 (fun g => g ≠ tb)) := (Sm.of_none G0.out _).trans S1.out; have G1 : Hid (w1.grownBy w1 none) := zc w1 none; have a6 := ze (fun f (G : w1.grownBy f none) => sA (K1.out.up G) (.mk X x m p l) sv HF.out (tb := tb) (MapAt.kept (K1.out.km.md c.home u).mp G (by simp)) hlen (MapAt.lt (MapAt.kept (K1.out.km.md c.home u).mp G (by simp)))); obtain ⟨av,iv,dv,a2,Y,a7,a8⟩ := (K1.out.km.md c.home u).bk; have MB := ze a2; have MA := ze Y; have MI := ze a7; have MD := ze a8; have m8 : Hid (w1.cell? ⟨ρ.md c.home,8,none⟩ = some (.map (some (ρ.nm c.home)))) := a2.c 8 _ rfl; have i := (K1.out.km.md c.home u).col; have r := (K1.out.km.md c.home u).coln; have F := (K1.out.km.md c.home u).mp; have a9 : b ≠ ρ.nm c.home := F.ne_cell a1.out; have b7 : w.heap.size ≠ ρ.nm c.home := F.ne_cell B1.out.c0; have b8 : tb ≠ ρ.nm c.home := F.ne_cell (T1.out.c 0 _ rfl); have O : ρ.md c.home ≠ ρ.nm c.home := F.ne_cell m8.out
 have b0 : b ≠ ρ.md c.home := fun e => by rw [e,i] at hcb; cases hcb
 have b1 : tb ≠ ρ.md c.home := fun e => by rw [e,i] at hc; cases hc
 clear F a2 Y a7 a8; go_wp2_with fail; refine wp_region_held_drew (S := fun w9 => Sm w1 w9 (fun g => g ≠ ρ.nm c.home)) (by kernel_rfl) ?_ (fun hHeld => ?_)
 ·exact (Sm.refl w1 _).drew
 refine kQ 0 24 (.pointer (some ⟨b,0,none⟩)) hHeld ?_; simp only [qA,qB,qC,qD]; refine kQ 1 25 (.pointer (some ⟨b,0,none⟩)) hHeld ?_; simp only [qA,qB,qC,qD]; refine kQ 2 26 (.pointer (some ⟨b,0,none⟩)) hHeld ?_; simp only [qA,qB,qC,qD]; refine kQ 3 27 (.pointer (some ⟨b,1,none⟩)) hHeld ?_; simp only [qA,qB,qC,qD]; refine dk 4 (some 28) (.pointer (some ⟨ρ.md c.home,0,none⟩)) rfl rfl (fun w9 hS => by have q1 := Sm.cell hS a1.out a9; go_simp) hHeld ?_; simp only [qA,qB,qC,qD]; refine kQ 5 29 (.pointer (some ⟨ρ.md c.home,0,none⟩)) hHeld ?_; simp only [qA,qB,qC,qD]; refine kQ 6 30 (.pointer (some ⟨ρ.md c.home,8,none⟩)) hHeld ?_; simp only [qA,qB,qC,qD]; refine dk 7 (some 31) (.map (some (ρ.nm c.home))) rfl rfl (fun w9 hS => by have q1 := Sm.cell hS m8.out O; go_simp) hHeld ?_; simp only [qA,qB,qC,qD]; refine dk 8 (some 32) (.agg #[.int .i64 X,.string ⟨x.toArray⟩,.int .i64 m,.int .i64 p,sv]) rfl rfl (fun w9 hS => by obtain ⟨q0,q1,q2,q3,q4⟩ := (Box.sm B1.out hS b7).plain; go_simp) hHeld ?_; simp only [qA,qB,qC,qD]; refine kQ 9 33 (.pointer (some ⟨tb,0,none⟩)) hHeld ?_; simp only [qA,qB,qC,qD]; refine rd 10 rfl fun KK hKK => ?_
 go_simp
 go_at_call 99; refine (a6.out _ (zh G1.out)).mono ?_; rintro e f (⟨hd,b2⟩ | ⟨b3,b4,rfl,Z,a4⟩)
 ·have HT := b2
  obtain ⟨z,rfl⟩ := b2.thrown
  try rw [hR]
  exact ⟨rfl,.inl ⟨hd,HT.2.le SW.out.size,SW.out.trans (Sm.of_none (za (zh (zc w1 none)) HT.1) _)⟩⟩
 go_simp
 refine hKK.out _ _ ((Sm.grown (za (zv (zh (zc w1 none)) (some (ρ.nm c.home))) a4)).mono (fun g _ d e => d (Option.some.inj e))) fun hHeld => ?_
 clear hKK KK; refine wpAnyH_done (by kernel_rfl) ?_ _; clear hHeld; have Q : Hid (Sm w1 f (fun g => g ≠ ρ.nm c.home)) := (Sm.grown (za (zv (zh (zc w1 none)) (some (ρ.nm c.home))) a4)).mono (fun g _ d e => d (Option.some.inj e)); have T2 := ze (T1.out.sm Q.out b8); have A := ze (MB.out.sm Q.out O); have b5 : Hid (AF ρ.tr f (S.md c.home).acts av) := MA.out.sm Q.out (fun g hg e => by unfold Lay.tr at hg; rw [e,r] at hg; cases hg); have B : Hid (RowAt ρ f _ 1 iv _ _ (.im c.home)) := ⟨zZ MI.out.1 Q.out (fun g hg e => by have d := MI.out.2 g hg; rw [e,r] at d; cases d),MI.out.2⟩; have o : Hid (RowAt ρ f _ 1 dv _ _ (.de c.home)) := ⟨zZ MD.out.1 Q.out (fun g hg e => by have d := MD.out.2 g hg; rw [e,r] at d; cases d),MD.out.2⟩; have b6 : Hid _ := Q.out.cell a1.out a9; have a0 := ze Z; have c5 := Q.out.size; clear Z a4; have G2 : Hid (f.grownBy f none) := zc f none; go_wp2_with fail; refine wp_region_held_drew (S := fun w9 => Sm f w9 (fun g => g ≠ ρ.md c.home /\ ρ.col g ≠ some (.de c.home))) (by kernel_rfl) ?_ (fun hHeld => ?_)
 ·exact (Sm.refl f _).drew
 refine kQ 0 35 (.pointer (some ⟨b,0,none⟩)) hHeld ?_; simp only [qA,qB,qC,qD]; refine kQ 1 36 (.pointer (some ⟨b,0,none⟩)) hHeld ?_; simp only [qA,qB,qC,qD]; refine kQ 2 37 (.pointer (some ⟨b,1,none⟩)) hHeld ?_; simp only [qA,qB,qC,qD]; refine dk 3 (some 38) (.pointer (some ⟨ρ.md c.home,0,none⟩)) rfl rfl (fun w9 hS => by have q1 := Sm.cell hS b6.out ⟨b0,by rw [hcb]; nofun⟩; go_simp) hHeld ?_; simp only [qA,qB,qC,qD]; refine kQ 4 39 (.pointer (some ⟨b,0,none⟩)) hHeld ?_; simp only [qA,qB,qC,qD]; refine kQ 5 40 (.pointer (some ⟨b,0,none⟩)) hHeld ?_; simp only [qA,qB,qC,qD]; refine kQ 6 41 (.pointer (some ⟨b,1,none⟩)) hHeld ?_; simp only [qA,qB,qC,qD]; refine dk 7 (some 42) (.pointer (some ⟨ρ.md c.home,0,none⟩)) rfl rfl (fun w9 hS => by have q1 := Sm.cell hS b6.out ⟨b0,by rw [hcb]; nofun⟩; go_simp) hHeld ?_; simp only [qA,qB,qC,qD]; refine kQ 8 43 (.pointer (some ⟨ρ.md c.home,0,none⟩)) hHeld ?_; simp only [qA,qB,qC,qD]; refine kQ 9 44 (.pointer (some ⟨ρ.md c.home,7,none⟩)) hHeld ?_; simp only [qA,qB,qC,qD]; refine kQ 11 46 (.pointer (some ⟨tb,0,none⟩)) hHeld ?_; simp only [qA,qB,qC,qD]; have m7 := A.out.c 7 _ rfl; have zm := A.out.lt; refine wpAnyH_ready (rs := [10,12]) (by kernel_rfl) (by simp) ?_; refine AllReadyH.cons rfl (fun KK hKK => ?_) (AllReadyH.cons rfl (fun KK hKK => ?_) AllReadyH.nil)
 ·go_simp
  refine hKK.out _ _ ((Sm.refl f _).drew) fun hHeld => ?_
  clear hKK KK; refine rd 12 rfl fun KK hKK => ?_
  go_simp
  refine hKK.out _ _ (Sm.of_none (zh (zf (zc f none) _)) _) fun hHeld => ?_
  clear hKK KK m7 zm; obtain ⟨wa,j⟩ : ∃ z,z = (f.alloc (Obj.cells #[.pointer (some ⟨tb,0,none⟩)] 86)).drew := ⟨_,rfl⟩; rw [<- j] at hHeld ⊢
  have A3 : Hid (f.grownBy wa none) := by rw [j]; exact zh (zf (zc f none) _)
  have ca : wa.cell? ⟨f.heap.size,0,none⟩ = some (.pointer (some ⟨tb,0,none⟩)) := by rw [j]; exact Bk.c (vs := [.pointer (some ⟨tb,0,none⟩)]) (Bk.drew (Bk.new f _ _ rfl)) 0 _ rfl
  have b9 : wa.heap.size = f.heap.size + 1 := by rw [j]; simp
  clear j; refine rd 13 rfl fun KK hKK => ?_; refine gJ 83 86 Tryz.underlying83 Tryz.infoThingP rfl _ _ rfl (v := dv) (g := f.heap.size) rfl rfl (zZ o.out.1 (Sm.of_none A3.out (fun _ => True)) (fun _ _ => trivial)) ca hdl ?_; intro v3 w3 k H q; have U : Hid (Sm f w3 (fun g => ρ.col g ≠ some (.de c.home))) := (Sm.of_none A3.out _).gbn H (fun g hg d => d (o.out.2 g hg)); refine hKK.out _ _ (U.out.mono (fun g _ d => d.2)) fun hHeld => ?_
  clear hKK KK
  obtain ⟨a3,c3,rfl⟩ : ∃ aa cc,v3 = .slice aa ((S.md c.home).decl.length + 1) cc := by
   rcases k.2 with ⟨_,d⟩ | ⟨g,c1,c2,d,_⟩
   ·omega
   ·exact ⟨_,_,d⟩
  have O3 := ze k; have I := ze q
  have J : ρ.col (ρ.md c.home) ≠ some (.de c.home) := by rw [i]; nofun
  have s := ze (A.out.sm U.out J); have e7 := s.out.c 7 _ rfl; have ez := s.out.z; clear k q H ca; refine kQ 14 49 (.pointer (some ⟨ρ.md c.home,0,none⟩)) hHeld ?_; simp only [Act.put,List.setIfInBounds_toArray]; refine kQ 15 50 (.pointer (some ⟨ρ.md c.home,7,none⟩)) hHeld ?_; simp only [Act.put]; refine rd 16 rfl fun KK hKK => ?_
  go_simp
  refine hKK.out _ _ ((U.out.mono (fun g _ d => d.2)).put (fun d => d.1 rfl) _ _) fun hHeld => ?_
  clear hKK KK e7 ez; refine wpAnyH_done (by kernel_rfl) ?_ _; clear hHeld; go_wp2; refine bodyPost_end (results_none rfl _ _ _) rfl ?_
  try rw [hR]
  have K : Sm f (w3.setCell ⟨ρ.md c.home,7,none⟩ (.slice a3 ((S.md c.home).decl.length + 1) c3)) (fun g => g ≠ ρ.md c.home /\ ρ.col g ≠ some (.de c.home)) := (U.out.mono (fun g _ d => d.2)).put (fun d => d.1 rfl) _ _
  have L : ∀ g,(Value.slice a3 ((S.md c.home).decl.length + 1) c3).ownBlock = some g -> ρ.col g = some (.de c.home) \/ w.heap.size <= g := fun g hg => by
   rcases I.out with d | d
   ·exact .inl (o.out.2 g (d ▸ hg))
   ·have V := SW.out.size
    rw [d] at hg; cases hg
    exact .inr (by omega)
  have a5 : ∀ g,(Value.slice a3 ((S.md c.home).decl.length + 1) c3).ownBlock = some g -> g ≠ ρ.md c.home := fun g hg e => by
   rcases I.out with d | d
   ·have V := o.out.2 g (d ▸ hg)
    rw [e,i] at V; cases V
   ·have V := A.out.lt
    rw [d] at hg; cases hg
    omega
  refine .inr ⟨b3,b4,rfl,T2.out.sm K ⟨b1,by rw [hc]; nofun⟩,a0.out.sm K ⟨fun e => O e.symm,by rw [r]; nofun⟩,⟨av,iv,_,s.out.set 7 _,b5.out.sm K (fun g hg => ?_),⟨zZ B.out.1 K (fun g hg => ?_),B.out.2⟩,zZ O3.out ((Sm.refl w3 (fun g => g ≠ ρ.md c.home)).put (fun d => d rfl) _ _) a5,L⟩,?_⟩
  ·unfold Lay.tr at hg
   exact ⟨fun e => (by rw [e,i] at hg; cases hg),by rw [hg]; nofun⟩
  ·have d := B.out.2 g hg
   exact ⟨fun e => (by rw [e,i] at d; cases d),by rw [d]; nofun⟩
  ·exact ((SW.out.mono (fun g _ d => d.1)).trans (Q.out.mono (fun g _ d e => d.2.1 (by rw [e]; exact r)))).trans (K.mono (fun g _ d => ⟨fun e => d.2.2.1 (by rw [e]; exact i),d.2.2.2⟩))
 ·go_simp
  refine hKK.out _ _ (Sm.of_none (zh (zf (zc f none) _)) _) fun hHeld => ?_
  clear hKK KK; refine rd 10 rfl fun KK hKK => ?_
  go_simp
  refine hKK.out _ _ (Sm.of_none (zh (zf (zc f none) _)) _) fun hHeld => ?_
  clear hKK KK m7 zm; obtain ⟨wa,j⟩ : ∃ z,z = (f.alloc (Obj.cells #[.pointer (some ⟨tb,0,none⟩)] 86)).drew := ⟨_,rfl⟩; rw [<- j] at hHeld ⊢
  have A3 : Hid (f.grownBy wa none) := by rw [j]; exact zh (zf (zc f none) _)
  have ca : wa.cell? ⟨f.heap.size,0,none⟩ = some (.pointer (some ⟨tb,0,none⟩)) := by rw [j]; exact Bk.c (vs := [.pointer (some ⟨tb,0,none⟩)]) (Bk.drew (Bk.new f _ _ rfl)) 0 _ rfl
  have b9 : wa.heap.size = f.heap.size + 1 := by rw [j]; simp
  clear j; refine rd 13 rfl fun KK hKK => ?_; refine gJ 83 86 Tryz.underlying83 Tryz.infoThingP rfl _ _ rfl (v := dv) (g := f.heap.size) rfl rfl (zZ o.out.1 (Sm.of_none A3.out (fun _ => True)) (fun _ _ => trivial)) ca hdl ?_; intro v3 w3 k H q; have U : Hid (Sm f w3 (fun g => ρ.col g ≠ some (.de c.home))) := (Sm.of_none A3.out _).gbn H (fun g hg d => d (o.out.2 g hg)); refine hKK.out _ _ (U.out.mono (fun g _ d => d.2)) fun hHeld => ?_
  clear hKK KK
  obtain ⟨a3,c3,rfl⟩ : ∃ aa cc,v3 = .slice aa ((S.md c.home).decl.length + 1) cc := by
   rcases k.2 with ⟨_,d⟩ | ⟨g,c1,c2,d,_⟩
   ·omega
   ·exact ⟨_,_,d⟩
  have O3 := ze k; have I := ze q
  have J : ρ.col (ρ.md c.home) ≠ some (.de c.home) := by rw [i]; nofun
  have s := ze (A.out.sm U.out J); have e7 := s.out.c 7 _ rfl; have ez := s.out.z; clear k q H ca; refine kQ 14 49 (.pointer (some ⟨ρ.md c.home,0,none⟩)) hHeld ?_; simp only [Act.put,List.setIfInBounds_toArray]; refine kQ 15 50 (.pointer (some ⟨ρ.md c.home,7,none⟩)) hHeld ?_; simp only [Act.put]; refine rd 16 rfl fun KK hKK => ?_
  go_simp
  refine hKK.out _ _ ((U.out.mono (fun g _ d => d.2)).put (fun d => d.1 rfl) _ _) fun hHeld => ?_
  clear hKK KK e7 ez; refine wpAnyH_done (by kernel_rfl) ?_ _; clear hHeld; go_wp2; refine bodyPost_end (results_none rfl _ _ _) rfl ?_
  try rw [hR]
  have K : Sm f (w3.setCell ⟨ρ.md c.home,7,none⟩ (.slice a3 ((S.md c.home).decl.length + 1) c3)) (fun g => g ≠ ρ.md c.home /\ ρ.col g ≠ some (.de c.home)) := (U.out.mono (fun g _ d => d.2)).put (fun d => d.1 rfl) _ _
  have L : ∀ g,(Value.slice a3 ((S.md c.home).decl.length + 1) c3).ownBlock = some g -> ρ.col g = some (.de c.home) \/ w.heap.size <= g := fun g hg => by
   rcases I.out with d | d
   ·exact .inl (o.out.2 g (d ▸ hg))
   ·have V := SW.out.size
    rw [d] at hg; cases hg
    exact .inr (by omega)
  have a5 : ∀ g,(Value.slice a3 ((S.md c.home).decl.length + 1) c3).ownBlock = some g -> g ≠ ρ.md c.home := fun g hg e => by
   rcases I.out with d | d
   ·have V := o.out.2 g (d ▸ hg)
    rw [e,i] at V; cases V
   ·have V := A.out.lt
    rw [d] at hg; cases hg
    omega
  refine .inr ⟨b3,b4,rfl,T2.out.sm K ⟨b1,by rw [hc]; nofun⟩,a0.out.sm K ⟨fun e => O e.symm,by rw [r]; nofun⟩,⟨av,iv,_,s.out.set 7 _,b5.out.sm K (fun g hg => ?_),⟨zZ B.out.1 K (fun g hg => ?_),B.out.2⟩,zZ O3.out ((Sm.refl w3 (fun g => g ≠ ρ.md c.home)).put (fun d => d rfl) _ _) a5,L⟩,?_⟩
  ·unfold Lay.tr at hg
   exact ⟨fun e => (by rw [e,i] at hg; cases hg),by rw [hg]; nofun⟩
  ·have d := B.out.2 g hg
   exact ⟨fun e => (by rw [e,i] at d; cases d),by rw [d]; nofun⟩
  ·exact ((SW.out.mono (fun g _ d => d.1)).trans (Q.out.mono (fun g _ d e => d.2.1 (by rw [e]; exact r)))).trans (K.mono (fun g _ d => ⟨fun e => d.2.2.1 (by rw [e]; exact i),d.2.2.2⟩))
end
section
variable {ρ ρ' ρ1 : Lay} {w w' w1 : World} {S S' : KS} {P Q : Nat -> Prop} {i b : Nat}
def Lay.dr (ρ : Lay) (n tb : Nat) (G : Option Nat) (lb : Lb) : Lay := { ρ with th := fun i => if i = n then tb else ρ.th i,col := fun b => if b = tb then some (.th n) else match ρ.col b with | some l => some l | none => if some b = G then some lb else none }
theorem sZ {n tb : Nat} {G : Option Nat} {lb l : Lb} (h : ρ.col b = some l) (hc : ρ.col tb = none) : (ρ.dr n tb G lb).col b = some l := by
 simp only [Lay.dr]; rw [if_neg (fun e => by rw [e,hc] at h; cases h),h]
theorem dT (S : KS) {tb : Nat} (G : Option Nat) (lb : Lb) (hc : ρ.col tb = none) : Agr ρ (ρ.dr S.ths.length tb G lb) S :=
 ⟨rfl,rfl,rfl,fun _ _ => rfl,fun i h => by simp only [Lay.dr]; rw [if_neg (by omega)],fun _ _ => rfl,fun _ _ => rfl,fun _ _ => rfl,fun _ _ => rfl,fun b lb h => sZ h hc⟩
theorem kl (ρ : Lay) (n tb : Nat) (G : Option Nat) (lb : Lb) : (ρ.dr n tb G lb).th n = tb := by simp [Lay.dr]
theorem qM {n tb : Nat} {G : Option Nat} {lb : Lb} (h : ρ.col b = none) (h1 : b ≠ tb) (h2 : some b ≠ G) : (ρ.dr n tb G lb).col b = none := by
 simp only [Lay.dr]; rw [if_neg h1,h]
 simp [h2]
theorem dR {e : TypeId} {k n : Nat} {v : Value} {cs : List Value} (h : w.ownsRow 0 e k v n cs) {g : Nat} (hg : v.ownBlock = some g) : g < w.heap.size := by
 obtain ⟨_,c⟩ := h
 rcases c with ⟨c,_⟩ | ⟨l,d,f,rfl,m,j,o⟩
 ·rw [c] at hg; cases hg
 ·cases hg
  exact (Array.getElem?_eq_some_iff.1 j).1
theorem KM.declared (h : KM ρ w S) (hi : KIn S) {tb : Nat} (hc : ρ.col tb = none) (hl : i < S.mds.length) {t : KTh} {x : Nm} (hb : Bk w' tb (thV ρ t)) (hm : MapAt w' (ρ.nm i) ((x,tb) :: ρ.ths (S.md i).names)) {av iv dv : Value}
  (k1 : Bk w' (ρ.md i) (mdV ρ i (S.md i) av iv dv)) (k2 : AF ρ.tr w' (S.md i).acts av) (k3 : RowAt ρ w' 51 1 iv (S.md i).imps.length ((S.md i).imps.map fun y => ρ.mdP (some y)) (.im i))
  (k4 : w'.ownsRow 0 86 1 dv ((S.md i).decl.length + 1) (((S.md i).decl.map fun y => ρ.thP (some y)) ++ [.pointer (some ⟨tb,0,none⟩)])) (k5 : ∀ g,dv.ownBlock = some g -> ρ.col g = some (.de i) \/ w.heap.size <= g) (htb : tb < w.heap.size)
  (hs : Sm w w' (fun g => g ≠ tb /\ ρ.col g ≠ some (.nm i) /\ ρ.col g ≠ some (.md i) /\ ρ.col g ≠ some (.de i))) :
  KM (ρ.dr S.ths.length tb dv.ownBlock (.de i)) w' ((S.addTh t).setMd i { S.md i with names := (x,S.ths.length) :: (S.md i).names,decl := (S.md i).decl ++ [S.ths.length] }) := by
 have c := dT S dv.ownBlock (.de i) hc
 have N : ∀ lb : Lb,(lb ≠ .nm i /\ lb ≠ .md i /\ lb ≠ .de i) -> ∀ g,ρ.col g = some lb -> g ≠ tb /\ ρ.col g ≠ some (.nm i) /\ ρ.col g ≠ some (.md i) /\ ρ.col g ≠ some (.de i) := fun lb hlb g hg => by
  refine ⟨fun e => (by rw [e,hc] at hg; cases hg),?_⟩; rw [hg]; obtain ⟨l,m,n⟩ := hlb
  exact ⟨fun e => l (Option.some.inj e),fun e => m (Option.some.inj e),fun e => n (Option.some.inj e)⟩
 have o := hs.size; refine h.turn hi c hs (fun b d => qM (h.fr b (by omega)) (by omega) (fun e => ?_)) (N _ ⟨nofun,nofun,nofun⟩) (N _ ⟨nofun,nofun,nofun⟩) (h.mo_turn hi c hs (N _ ⟨nofun,nofun,nofun⟩)) (fun j hj => ((h.ty j hj).sm hs (N _ ⟨nofun,nofun,nofun⟩) (N _ ⟨nofun,nofun,nofun⟩)).re hi c hj) (fun j hj => ?_)
  (fun j hj => ((h.pr j hj).sm hs (N _ ⟨nofun,nofun,nofun⟩) (N _ ⟨nofun,nofun,nofun⟩) (N _ ⟨nofun,nofun,nofun⟩) (N _ ⟨nofun,nofun,nofun⟩)).re hi c hj) (fun j hj => ?_)
 ·have q := dR k4 e.symm
  omega
 ·rcases uk hj with d | rfl
  ·rw [show ((S.addTh t).setMd i _).th j = S.th j from kt _ _ _ d]
   exact ((h.th j d).sm hs (N _ ⟨nofun,nofun,nofun⟩)).re hi c d
  ·rw [show ((S.addTh t).setMd i _).th S.ths.length = t from xF _ _ _]
   exact ⟨by rw [kl]; exact hb,by rw [kl]; simp [Lay.dr]⟩
 ·have k : j < S.mds.length := by simpa [KS.setMd,KS.addTh] using hj
  by_cases e : j = i
  ·subst e
   rw [show ((S.addTh t).setMd j _).md j = _ from yZ _ _ _ hl]; refine ⟨⟨av,iv,dv,k1,k2.weak (fun g hg => c.col _ _ hg),⟨k3.1,fun g hg => c.col _ _ (k3.2 g hg)⟩,?_,fun g hg => ?_⟩,?_,c.col _ _ (h.md j hl).col,c.col _ _ (h.md j hl).coln⟩
   ·simp only [List.map_append,List.map_cons,List.map_nil,List.length_append,List.length_cons,List.length_nil]
    rw [List.map_congr_left (fun y hy => dl c (hi.mdDecl j hl y hy))]
    unfold Lay.thP at k4 ⊢
    rw [show (Option.map (ρ.dr S.ths.length tb dv.ownBlock (.de j)).th (some S.ths.length)) = some tb by rw [Option.map_some,kl]]
    exact k4
   ·rcases k5 g hg with d | d
    ·exact c.col _ _ d
    ·simp only [Lay.dr]
     rw [if_neg (by omega),h.fr g d]
     simp [hg]
   ·have f : (ρ.dr S.ths.length tb dv.ownBlock (.de j)).ths ((x,S.ths.length) :: (S.md j).names) = (x,tb) :: ρ.ths (S.md j).names := by
     rw [<- gF c (hi.mdNames j hl)]; simp only [Lay.ths,List.map_cons,kl]
    show MapAt w' (ρ.nm j) _
    rw [f]
    exact hm
  ·rw [show ((S.addTh t).setMd i _).md j = S.md j from vu _ _ _ e]
   exact ((h.md j k).sm hs (N _ ⟨nofun,nofun,nofun⟩) (N _ ⟨nofun,fun f => by cases f; exact e rfl,nofun⟩) (N _ ⟨nofun,nofun,nofun⟩) (N _ ⟨nofun,nofun,fun f => by cases f; exact e rfl⟩) (N _ ⟨fun f => by cases f; exact e rfl,nofun,nofun⟩)).re hi c k
theorem KM.declaredInner (h : KM ρ w S) (hi : KIn S) {tb : Nat} (hc : ρ.col tb = none) (hl : i < S.prs.length) {t : KTh} {x : Nm} (hb : Bk w' tb (thV ρ t)) (hm : MapAt w' (ρ.inn i) ((x,tb) :: ρ.ths (S.pr i).inner)) (htb : tb < w.heap.size)
  (hs : Sm w w' (fun g => g ≠ tb /\ ρ.col g ≠ some (.inn i))) :
  KM (ρ.dr S.ths.length tb none (.inn i)) w' ((S.addTh t).setPr i { S.pr i with inner := (x,S.ths.length) :: (S.pr i).inner }) := by
 have c := dT S none (.inn i) hc
 have N : ∀ lb : Lb,lb ≠ .inn i -> ∀ g,ρ.col g = some lb -> g ≠ tb /\ ρ.col g ≠ some (.inn i) := fun lb hlb g hg => by
  refine ⟨fun e => (by rw [e,hc] at hg; cases hg),?_⟩; rw [hg]
  exact fun e => hlb (Option.some.inj e)
 have m := hs.size; refine h.turn hi c hs (fun b f => qM (h.fr b (by omega)) (by omega) nofun) (N _ nofun) (N _ nofun) (h.mo_turn hi c hs (N _ nofun)) (fun j hj => ((h.ty j hj).sm hs (N _ nofun) (N _ nofun)).re hi c hj) (fun j hj => ?_)
  (fun j hj => ?_) (fun j hj => ((h.md j hj).sm hs (N _ nofun) (N _ nofun) (N _ nofun) (N _ nofun) (N _ nofun)).re hi c hj)
 ·rcases uk hj with f | rfl
  ·rw [show ((S.addTh t).setPr i _).th j = S.th j from kt _ _ _ f]
   exact ((h.th j f).sm hs (N _ nofun)).re hi c f
  ·rw [show ((S.addTh t).setPr i _).th S.ths.length = t from xF _ _ _]
   exact ⟨by rw [kl]; exact hb,by rw [kl]; simp [Lay.dr]⟩
 ·have d : j < S.prs.length := by simpa [KS.setPr,KS.addTh] using hj
  by_cases e : j = i
  ·subst e
   rw [show ((S.addTh t).setPr j _).pr j = _ from yZ _ _ _ hl]; obtain ⟨n,o,q,r,s,l⟩ := (h.pr j hl).bk; refine ⟨⟨n,o,q.sm hs (N (.pr j) nofun _ (h.pr j hl).col),(r.sm hs (N _ nofun)).weak (fun g hg => c.col _ _ hg),?_,fun g hg => c.col _ _ (l g hg)⟩,?_,c.col _ _ (h.pr j hl).col,c.col _ _ (h.pr j hl).coln⟩
   ·rw [List.map_congr_left (fun y hy => dl c (hi.prPars j hl y hy))]
    exact zZ s hs (fun g hg => N (.pa j) nofun g (l g hg))
   ·have k : (ρ.dr S.ths.length tb none (.inn j)).ths ((x,S.ths.length) :: (S.pr j).inner) = (x,tb) :: ρ.ths (S.pr j).inner := by
     rw [<- gF c (hi.prInn j hl)]; simp only [Lay.ths,List.map_cons,kl]
    show MapAt w' (ρ.inn j) _
    rw [k]
    exact hm
  ·rw [show ((S.addTh t).setPr i _).pr j = S.pr j from vu _ _ _ e]
   exact ((h.pr j d).sm hs (N _ nofun) (N _ nofun) (N _ nofun) (N _ (fun k => by cases k; exact e rfl))).re hi c d
end
/-! ### Ids in range,and the like,as a question that can be answered -/
def opB (o : Option Nat) (n : Nat) : Bool := match o with | some j => decide (j < n) | none => true
def KS.okTy (S : KS) (t : KTy) : Bool := opB t.of S.tys.length && opB t.home S.mds.length && (t.fields.all fun d => decide (d.ty < S.tys.length)) && (decide (0 <= t.words) && decide (t.words <= 1000000))
def KS.okTh (S : KS) (t : KTh) : Bool := opB t.home S.mds.length && opB t.ty S.tys.length && opB t.proc S.prs.length && opB t.mod S.mds.length && (decide (t.kind ≠ 2) || t.ty.isSome) && (decide (t.kind ≠ 4) || t.proc.isSome)
def KS.okPr (S : KS) (p : KPr) : Bool := decide (p.home < S.mds.length) && opB p.result S.tys.length && (p.pars.all fun j => decide (j < S.ths.length)) && (p.inner.all fun q => decide (q.2 < S.ths.length)) && decide (p.inner.length <= 1000) && decide (p.pars.length <= 1000)
def KS.okMd (S : KS) (m : KMd) : Bool := (m.imps.all fun j => decide (j < S.mds.length)) && (m.decl.all fun j => decide (j < S.ths.length)) && (m.names.all fun q => decide (q.2 < S.ths.length)) && decide (m.names.length <= 1000) && decide (m.decl.length <= 1000) && decide (m.imps.length <= 1000)
def KS.okB (S : KS) : Bool := S.tys.all S.okTy && S.ths.all S.okTh && S.prs.all S.okPr && S.mds.all S.okMd && (S.mods.all fun q => decide (q.2 < S.mds.length)) && decide (2 <= S.ths.length) && decide (3 <= S.tys.length)
def KS.tysB (S : KS) : Bool := (List.range S.tys.length).all fun i => (decide ((S.ty i).form ≠ 4) || ((match (S.ty i).of with | some j => decide (j < i) && decide ((S.ty j).form = 4) | none => true) && (S.ty i).home.isSome)) &&
 (decide ((S.ty i).form ≠ 5) || !(S.ty i).complete || (match (S.ty i).of with | some j => decide ((S.ty j).form = 4) | none => false)) && (decide ((S.ty i).form ≠ 3) || !(S.ty i).complete || (S.ty i).of.isSome)
def KS.fullB (S : KS) : Bool := S.tysB && (S.tys.all fun t => decide (t.form = 2) || t.complete) && (S.ths.all fun t => (decide (t.kind ≠ 3) && decide (t.kind ≠ 1)) || t.ty.isSome) && (S.prs.all fun p => p.pars.all fun x => decide ((S.th x).kind = 3))
section
variable {S : KS}
theorem jN {α : Type} {l : List α} {f : α -> Bool} (h : l.all f = true) {i : Nat} (hi : i < l.length) (d : α) : f ((l[i]?).getD d) = true := by
 rw [List.getElem?_eq_getElem hi]
 exact List.all_eq_true.1 h _ (List.getElem_mem hi)
theorem vR {o : Option Nat} {n j : Nat} (h : opB o n = true) (e : o = some j) : j < n := by
 subst e
 simpa [opB] using h
theorem kp {α : Type} {l : List α} {f : α -> Bool} (h : l.all f = true) {x : α} (hx : x ∈ l) : f x = true := List.all_eq_true.1 h x hx
theorem nH {l : List (Nm × Nat)} {x : Nm} {t : Nat} (h : lk l x = some t) : ∃ q ∈ l,q.2 = t := by
 induction l with
 | nil => cases h
 | cons p r ih =>
  unfold lk at h
  split at h
  ·exact ⟨p,by simp,Option.some.inj h⟩
  ·obtain ⟨q,b,c⟩ := ih h
   exact ⟨q,by simp [b],c⟩
structure OkP (S : KS) : Prop where
 ty : S.tys.all S.okTy = true
 th : S.ths.all S.okTh = true
 pr : S.prs.all S.okPr = true
 md : S.mds.all S.okMd = true
 mods : (S.mods.all fun q => decide (q.2 < S.mds.length)) = true
 two : 2 <= S.ths.length
 three : 3 <= S.tys.length
theorem KS.okP (h : S.okB = true) : OkP S := by
 simp only [KS.okB,Bool.and_eq_true,decide_eq_true_eq] at h; obtain ⟨⟨⟨⟨⟨⟨b,c⟩,d⟩,e⟩,f⟩,g⟩,i⟩ := h
 exact ⟨b,c,d,e,f,g,i⟩
theorem OkP.tyP (h : OkP S) {i : Nat} (hi : i < S.tys.length) : ((opB (S.ty i).of S.tys.length = true /\ opB (S.ty i).home S.mds.length = true) /\ ((S.ty i).fields.all fun d => decide (d.ty < S.tys.length)) = true) /\ (0 <= (S.ty i).words /\ (S.ty i).words <= 1000000) := by
 have : S.okTy (S.ty i) = true := jN h.ty hi ty0
 simpa only [KS.okTy,Bool.and_eq_true,decide_eq_true_eq] using this
theorem OkP.thP (h : OkP S) {i : Nat} (hi : i < S.ths.length) : ((((opB (S.th i).home S.mds.length = true /\ opB (S.th i).ty S.tys.length = true) /\ opB (S.th i).proc S.prs.length = true) /\ opB (S.th i).mod S.mds.length = true) /\ (decide ((S.th i).kind ≠ 2) || (S.th i).ty.isSome) = true) /\ (decide ((S.th i).kind ≠ 4) || (S.th i).proc.isSome) = true := by
 have : S.okTh (S.th i) = true := jN h.th hi th0
 simpa only [KS.okTh,Bool.and_eq_true] using this
theorem OkP.prP (h : OkP S) {i : Nat} (hi : i < S.prs.length) : (((((S.pr i).home < S.mds.length /\ opB (S.pr i).result S.tys.length = true) /\ ((S.pr i).pars.all fun j => decide (j < S.ths.length)) = true) /\ ((S.pr i).inner.all fun q => decide (q.2 < S.ths.length)) = true) /\ (S.pr i).inner.length <= 1000) /\ (S.pr i).pars.length <= 1000 := by
 have : S.okPr (S.pr i) = true := jN h.pr hi pr0
 simpa only [KS.okPr,Bool.and_eq_true,decide_eq_true_eq] using this
theorem OkP.mdP (h : OkP S) {i : Nat} (hi : i < S.mds.length) : (((((((S.md i).imps.all fun j => decide (j < S.mds.length)) = true /\ ((S.md i).decl.all fun j => decide (j < S.ths.length)) = true) /\ ((S.md i).names.all fun q => decide (q.2 < S.ths.length)) = true) /\ (S.md i).names.length <= 1000) /\ (S.md i).decl.length <= 1000) /\ (S.md i).imps.length <= 1000) := by
 have : S.okMd (S.md i) = true := jN h.md hi md0
 simpa only [KS.okMd,Bool.and_eq_true,decide_eq_true_eq] using this
theorem sF {l : List Nat} {n x : Nat} (h : (l.all fun j => decide (j < n)) = true) (hx : x ∈ l) : x < n := by simpa using kp h hx
theorem ko {l : List (Nm × Nat)} {n : Nat} {q : Nm × Nat} (h : (l.all fun q => decide (q.2 < n)) = true) (hx : q ∈ l) : q.2 < n := by simpa using kp h hx
theorem KS.okIn (h : S.okB = true) : KIn S := by
 have h := KS.okP h
 exact ⟨fun i hi j e => vR (h.tyP hi).1.1.1 e,fun i hi j e => vR (h.tyP hi).1.1.2 e,fun i hi d hd => by simpa using kp (h.tyP hi).1.2 hd,
  fun i hi j e => vR (h.thP hi).1.1.1.1.1 e,fun i hi j e => vR (h.thP hi).1.1.1.1.2 e,fun i hi j e => vR (h.thP hi).1.1.1.2 e,fun i hi j e => vR (h.thP hi).1.1.2 e,
  fun i hi => (h.prP hi).1.1.1.1.1,fun i hi j e => vR (h.prP hi).1.1.1.1.2 e,fun i hi j hj => sF (h.prP hi).1.1.1.2 hj,fun i hi q hq => ko (h.prP hi).1.1.2 hq,
  fun i hi j hj => sF (h.mdP hi).1.1.1.1.1 hj,fun i hi j hj => sF (h.mdP hi).1.1.1.1.2 hj,fun i hi q hq => ko (h.mdP hi).1.1.1.2 hq,fun q hq => ko h.mods hq,h.two,h.three⟩
theorem yp {α : Type} {o : Option α} (h : o.isSome = true) : ∃ a,o = some a := Option.isSome_iff_exists.1 h
theorem KS.okOk (h : S.okB = true) : KOk S := by
 have h := KS.okP h; refine ⟨fun m hm x t e => ?_,fun p hp x t e => ?_,fun t ht m e => vR (h.thP ht).1.1.2 e,fun t ht i e => vR (h.thP ht).1.1.1.1.2 e,fun t ht e => ?_,fun t ht e => ?_,h.two,h.three⟩
 ·obtain ⟨q,c,rfl⟩ := nH e
  exact ko (h.mdP hm).1.1.1.2 c
 ·obtain ⟨q,c,rfl⟩ := nH e
  exact ko (h.prP hp).1.1.2 c
 ·have b := (h.thP ht).1.2
  simp only [e,ne_eq,not_true_eq_false,decide_false,Bool.false_or] at b
  exact yp b
 ·have b := (h.thP ht).2
  simp only [e,ne_eq,not_true_eq_false,decide_false,Bool.false_or] at b; obtain ⟨p,d⟩ := yp b
  exact ⟨p,d,vR (h.thP ht).1.1.1.2 d⟩
theorem KS.tysP (h : S.tysB = true) {i : Nat} (hi : i < S.tys.length) : ((decide ((S.ty i).form ≠ 4) || ((match (S.ty i).of with | some j => decide (j < i) && decide ((S.ty j).form = 4) | none => true) && (S.ty i).home.isSome)) = true /\
  (decide ((S.ty i).form ≠ 5) || !(S.ty i).complete || (match (S.ty i).of with | some j => decide ((S.ty j).form = 4) | none => false)) = true) /\ (decide ((S.ty i).form ≠ 3) || !(S.ty i).complete || (S.ty i).of.isSome) = true := by
 have := kp h (List.mem_range.2 hi)
 simpa only [Bool.and_eq_true] using this
theorem KS.tysOk (h : S.okB = true) (h2 : S.tysB = true) : KTys S := by
 have d := KS.okIn h; refine ⟨fun i hi e j ej => ?_,d.tyFd,fun i hi e => ?_,fun i hi e ec => ?_,fun i hi e ec => ?_⟩
 ·have b := (KS.tysP h2 hi).1.1
  rw [ej,e] at b; simp only [ne_eq,not_true_eq_false,decide_false,Bool.false_or,Bool.and_eq_true,decide_eq_true_eq] at b
  exact b.1
 ·have b := (KS.tysP h2 hi).1.1
  rw [e] at b; simp only [ne_eq,not_true_eq_false,decide_false,Bool.false_or,Bool.and_eq_true] at b; obtain ⟨m,c⟩ := yp b.2
  exact ⟨m,c,d.tyHome i hi m c⟩
 ·have b := (KS.tysP h2 hi).1.2
  rw [e,ec] at b; cases f : (S.ty i).of with
  | none => rw [f] at b; simp at b
  | some j => rw [f] at b; exact ⟨j,rfl,d.tyOf i hi j f,by simpa using b⟩
 ·have b := (KS.tysP h2 hi).2
  rw [e,ec] at b; simp only [ne_eq,not_true_eq_false,decide_false,Bool.false_or,Bool.not_true] at b; obtain ⟨m,c⟩ := yp b
  exact ⟨m,c,d.tyOf i hi m c⟩
theorem KS.full (h : S.okB = true) (h2 : S.fullB = true) : KAll S /\ KFull S /\ KPrs S := by
 have d := KS.okIn h; simp only [KS.fullB,Bool.and_eq_true] at h2; obtain ⟨⟨⟨f,g⟩,j⟩,k⟩ := h2; refine ⟨{ KS.tysOk h f with cp := fun i hi e => ?_ },fun t ht e => ?_,⟨fun p hp x hx => ⟨d.prPars p hp x hx,?_⟩,d.prRes⟩⟩
 ·have c : (decide ((S.ty i).form = 2) || (S.ty i).complete) = true := jN g hi ty0
  rcases (Bool.or_eq_true _ _ ▸ c : _ \/ _) with b | b
  ·exact absurd (by simpa using b) e
  ·exact b
 ·have c := jN j ht th0
  rcases (Bool.or_eq_true _ _ ▸ c : _ \/ _) with b | b
  ·simp only [Bool.and_eq_true,decide_eq_true_eq] at b
   rcases e with e | e
   ·exact absurd e b.1
   ·exact absurd e b.2
  ·exact yp b
 ·simpa using kp (jN k hp pr0) hx
end
/-! ### Declarations -/
def ve (S : KS) : Option KS := if S.okB = true then some S else none
theorem yg {S S' : KS} (h : ve S = some S') : S' = S /\ S.okB = true := by
 unfold ve at h
 split at h
 ·exact ⟨(Option.some.inj h).symm,by assumption⟩
 ·cases h
def tS {α : Type} (r : CR α) : Option α := match r with
 | .ok a => some a
 | .error _ => none
theorem jq {α : Type} {r : CR α} {a : α} (h : tS r = some a) : r = .ok a := by
 cases r with
 | ok b => cases h; rfl
 | error e => cases h
def yw (f : KS -> T -> Option KS) : List T -> KS -> Option KS
 | [],S => some S
 | x :: r,S => (f S x).bind (yw f r)
def vP (f : KS -> Int -> T -> Option (KS × Int)) : List T -> KS -> Int -> Option (KS × Int)
 | [],S,k => some (S,k)
 | x :: r,S,k => (f S k x).bind fun p => vP f r p.1 p.2
def KS.typeO (S : KS) (c : KSc) (n : T) : Option Nat := if n.kind = 0 then none else tS (S.typeName c n)
def KS.oneO (S : KS) (c : KSc) (n : T) : Option Nat := if n.kind = 0 then none else tS (S.oneWordType c n)
def KS.namedO (S : KS) (c : KSc) (n : T) : Option Nat := if n.kind = 0 then none else tS (S.namedType c n)
theorem vY {S : KS} {c : KSc} {n : T} {t : Nat} (h : S.typeO c n = some t) : n.kind ≠ 0 /\ S.typeName c n = .ok t := by
 unfold KS.typeO at h
 split at h
 ·cases h
 ·exact ⟨by assumption,jq h⟩
theorem rU {S : KS} {c : KSc} {n : T} {t : Nat} (h : S.oneO c n = some t) : n.kind ≠ 0 /\ S.oneWordType c n = .ok t := by
 unfold KS.oneO at h
 split at h
 ·cases h
 ·exact ⟨by assumption,jq h⟩
theorem pL {S : KS} {c : KSc} {n : T} {t : Nat} (h : S.namedO c n = some t) : n.kind ≠ 0 /\ S.namedType c n = .ok t := by
 unfold KS.namedO at h
 split at h
 ·cases h
 ·exact ⟨by assumption,jq h⟩
def ndB : List (Nm × Nat) -> Bool
 | [] => true
 | p :: r => (lk r p.1).isNone && ndB r
def KS.declC (S : KS) (m : Nat) (n : T) (t : KTh) : Option KS := match lk (S.md m).names n.name,lk yc n.name with
 | none,none => ve ((S.addTh { t with name := n.name,exp := (n.num == 1),home := some m }).setMd m { S.md m with names := (n.name,S.ths.length) :: (S.md m).names,decl := (S.md m).decl ++ [S.ths.length] })
 | _,_ => none
def KS.innerC (S : KS) (p : Nat) (n : T) (t : KTh) : Option KS := match lk (S.pr p).inner n.name,lk yc n.name with
 | none,none => ve ((S.addTh { t with kind := 3,name := n.name }).setPr p { S.pr p with inner := (n.name,S.ths.length) :: (S.pr p).inner })
 | _,_ => none
def KS.importC (m : Nat) (S : KS) (n : T) : Option KS := match lk S.mods n.name,lk (S.md m).names n.name with
 | some q,none => ve ((S.addTh { th0 with mod := some q }).setMd m { S.md m with names := (n.name,S.ths.length) :: (S.md m).names,imps := (S.md m).imps ++ [q] })
 | _,_ => none
def cvF : Nat -> T -> Option Int
 | 0,_ => none
 | f + 1,.mk k x m _ l => match l with
  | [] => if k = 29 /\ x = [] /\ 0 <= m /\ m <= 1000 then some m else none
  | [u,v] => if k = 36 /\ m = 0 then (match cvF f u,cvF f v with
   | some a,some e => if x = [43] /\ a + e <= 1000 then some (a + e) else if x = [42] /\ a * e <= 1000 then some (a * e) else none
   | _,_ => none) else none
  | _ => none
theorem gR : ∀ (f : Nat) (n : T) (a : Int),cvF f n = some a -> CV n a
 | 0,_,_,h => by cases h
 | f + 1,.mk k x m p l,a,h => by
  unfold cvF at h
  split at h
  ·split at h
   ·rename_i h9
    obtain ⟨rfl,rfl,h0,h1⟩ := h9; cases h
    exact .num m p h0 h1
   ·cases h
  ·rename_i u v
   split at h
   ·rename_i h9
    obtain ⟨rfl,rfl⟩ := h9
    split at h
    ·rename_i a e ha he
     split at h
     ·rename_i h8
      obtain ⟨rfl,h8⟩ := h8; cases h
      exact .add p u v a e (gR f u a ha) (gR f v e he) h8
     ·split at h
      ·rename_i h8
       obtain ⟨rfl,h8⟩ := h8; cases h
       exact .mul p u v a e (gR f u a ha) (gR f v e he) h8
      ·cases h
    ·cases h
   ·cases h
  ·cases h
def KS.constC (m : Nat) (S : KS) (n : T) : Option KS := (S.declC m n { th0 with kind := 1 }).bind fun S1 => (cvF 20 (sub n 0)).bind fun a => ve (S1.setTh S.ths.length { S1.th S.ths.length with ty := some 0,value := a,valued := true })
def dZ (n : T) : Int := if n.kind = 9 then 3 else if n.kind = 10 then 4 else 5
def KS.typeC (m : Nat) (S : KS) (n : T) : Option KS := (ve (S.addTy { ty0 with form := dZ (sub n 0),name := n.name,home := some m })).bind fun S1 => S1.declC m n { th0 with kind := 2,ty := some S.tys.length }
def KS.fieldC (c : KSc) (i : Nat) (S : KS) (x : T) : Option KS := if S.tysB = true /\ (S.ty i).fields.length <= 1000 then (match S.field i x.name with
 | some _ => none
 | none => (S.typeO c (sub x 0)).bind fun j => ve (S.setTy i { S.ty i with fields := (S.ty i).fields ++ [⟨x.name,x.num == 1,j,(S.ty i).words⟩],words := (S.ty i).words + (S.ty j).words })) else none
def KS.fillRecordC (S : KS) (c : KSc) (i : Nat) (n : T) : Option KS := (if (sub n 0).kind = 0 then some S else (S.typeO c (sub n 0)).bind fun j => (tS (S.record (sub n 0) j)).bind fun j => ve (S.setTy i { S.ty i with of := some j,words := (S.ty j).words })).bind (yw (KS.fieldC c i) (n.subs.drop 1))
def KS.fillC (S : KS) (c : KSc) (i : Nat) (n : T) : Option KS := if (S.ty i).form = 3 then (if 1 <= n.num /\ n.num <= 64 then (S.typeO c (sub n 0)).bind fun j => ve (S.setTy i { S.ty i with of := some j,places := n.num,words := n.num * (S.ty j).words }) else none)
 else if (S.ty i).form = 4 then (if 2 <= n.subs.length then S.fillRecordC c i n else none)
 else if (S.ty i).form = 5 then (S.namedO c (sub n 0)).bind fun j => (tS (S.record (sub n 0) j)).bind fun j => ve (S.setTy i { S.ty i with of := some j,words := 1 }) else none
def KS.filledC (m : Nat) (S : KS) (n : T) : Option KS := match lk (S.md m).names n.name with
 | some t => if (S.th t).kind = 2 then (S.fillC ⟨m,none⟩ ((S.th t).ty.getD 0) (sub n 0)).bind fun S1 => if (S1.ty ((S.th t).ty.getD 0)).words <= 512 then ve (S1.setTy ((S.th t).ty.getD 0) { S1.ty ((S.th t).ty.getD 0) with complete := true }) else none else none
 | none => none
def KS.varC (m : Nat) (S : KS) (k : Int) (n : T) : Option (KS × Int) := (S.declC m n { th0 with kind := 3,first := k }).bind fun S1 => (S1.typeO ⟨m,none⟩ (sub n 0)).bind fun j => (ve (S1.setTh S.ths.length { S1.th S.ths.length with ty := some j })).bind fun S2 =>
 if k + (S1.ty j).words <= 512 then some (S2,k + (S1.ty j).words) else none
def KS.parC (m p : Nat) (S : KS) (n : T) : Option KS := if ndB (S.pr p).inner = false then none else (S.innerC p n { th0 with first := (S.pr p).inner.length,byVar := (n.num == 1) }).bind fun S1 =>
 (if n.num = 1 then S1.typeO ⟨m,some p⟩ (sub n 0) else S1.oneO ⟨m,some p⟩ (sub n 0)).bind fun j => (ve (S1.setTh S.ths.length { S1.th S.ths.length with ty := some j })).bind fun S2 =>
 ve (S2.setPr p { S2.pr p with pars := (S2.pr p).pars ++ [S.ths.length] })
def KS.headC (m : Nat) (S : KS) (n : T) : Option KS := (ve (S.addPr { pr0 with home := m,acts := (sub n 3).subs })).bind fun S1 => (S1.declC m n { th0 with kind := 4,proc := some S.prs.length }).bind fun S2 =>
 (yw (KS.parC m S.prs.length) (sub n 0).subs S2).bind fun S3 => if (sub n 1).kind = 0 then some S3 else (S3.oneO ⟨m,some S.prs.length⟩ (sub n 1)).bind fun j => ve (S3.setPr S.prs.length { S3.pr S.prs.length with result := some j })
def KS.innVarC (m p : Nat) (S : KS) (k : Int) (n : T) : Option (KS × Int) := (S.typeO ⟨m,some p⟩ (sub n 0)).bind fun j => (S.innerC p n { th0 with first := k,ty := some j }).bind fun S1 => if k + (S.ty j).words <= 512 then some (S1,k + (S.ty j).words) else none
def rM : Nat -> Rule -> T -> Bool
 | 0,_,_ => false
 | f + 1,r,t => match oZ r t with
  | none => false
  | some l => l.all fun p => rM f p.2 p.1
theorem gO : ∀ (f : Nat) (r : Rule) (t : T),rM f r t = true -> Well r t
 | 0,_,_,h => by cases h
 | f + 1,r,t,h => by
  unfold rM at h
  split at h
  ·cases h
  ·rename_i l hl
   exact .mk l hl (fun p hp => gO f p.2 p.1 (List.all_eq_true.1 h p hp))
def dpF : Nat -> T -> Bool
 | 0,_ => false
 | f + 1,t => t.subs.all (dpF f)
theorem fU {f : Nat} : ∀ (l : List T),(∀ u ∈ l,yr u <= f) -> uQ l <= f
 | [],_ => by rw [uQ]; exact Nat.zero_le _
 | t :: l,h => by
  rw [uQ]
  exact Nat.max_le.2 ⟨h t (by simp),fU l (fun u hu => h u (by simp [hu]))⟩
theorem kD : ∀ (f : Nat) (t : T),dpF f t = true -> yr t <= f
 | 0,_,h => by cases h
 | f + 1,.mk k x m p l,h => by
  unfold dpF at h
  have h9 := fU (f := f) l (fun u hu => kD f u (List.all_eq_true.1 h u hu)); rw [yr]
  omega
def rG (l : List T) : Bool := l.all fun n => rM 60 .act n && dpF 30 n
theorem fT {l : List T} (h : rG l = true) : ∀ n ∈ l,Well .act n /\ yr n <= 30 /\ yr n <= 30 := fun n hn => by
 have h9 := List.all_eq_true.1 h n hn; rw [Bool.and_eq_true] at h9
 exact ⟨gO _ _ _ h9.1,kD _ _ h9.2,kD _ _ h9.2⟩
def KS.actsO (S : KS) (c : KSc) (res : Option Nat) (l : List T) : Option KS := if S.fullB = true /\ rG l = true then (tS (S.actsF c (S.level c 30) res 30 l)).bind fun _ => some S else none
def KS.procC (m p : Nat) (S : KS) (n : T) : Option KS := if ndB (S.pr p).inner = false \/ (S.pr p).home ≠ m then none else (vP (KS.innVarC m p) (sub n 2).subs S (S.pr p).inner.length).bind fun q => (ve (q.1.setPr p { q.1.pr p with words := q.2 })).bind fun S1 => S1.actsO ⟨m,some p⟩ (S1.pr p).result (S1.pr p).acts
def uB (m : Nat) : Nat -> List T -> KS -> Option KS
 | _,[],S => some S
 | p,n :: r,S => (S.procC m p n).bind (uB m (p + 1) r)
def ks0 : KS := ⟨[⟨0,zG,none,1,0,none,[],true⟩,⟨1,zH,none,1,0,none,[],true⟩,⟨2,[],none,0,0,none,[],false⟩],[{ th0 with kind := 2,ty := some 0 },{ th0 with kind := 2,ty := some 1 }],[],[],[]⟩
theorem mY : ks0.okB = true := by decide
def Kp (ρ : Lay) (k : Prop) (g : Nat) : Prop := ρ.col g = none \/ ρ.col g = some .tr \/ (ρ.col g = some .ck /\ k)
structure Stp (k : Prop) (ρ : Lay) (w : World) (S : KS) (ρ' : Lay) (w' : World) (S' : KS) : Prop where
 km : KM ρ' w' S'
 ok : S'.okB = true
 agr : Agr ρ ρ' S
 col : ∀ g,g < w.heap.size -> ρ'.col g = ρ.col g
 sm : Sm w w' (Kp ρ k)
 tys : S.tys.length <= S'.tys.length
 ths : S.ths.length <= S'.ths.length
 prs : S.prs.length <= S'.prs.length
 mds : S.mds.length <= S'.mds.length
section
variable {ρ ρ' ρ1 : Lay} {w w' w0 w1 : World} {S S' S1 : KS} {k k' : Prop} {b : Nat} {c : KSc}
theorem Agr.trans (h : Agr ρ ρ1 S) (h2 : Agr ρ1 ρ' S1) (a : S.tys.length <= S1.tys.length) (b : S.ths.length <= S1.ths.length) (c : S.prs.length <= S1.prs.length) (d : S.mds.length <= S1.mds.length) : Agr ρ ρ' S :=
 ⟨h2.wd.trans h.wd,h2.ba.trans h.ba,h2.mo.trans h.mo,fun i hi => (h2.ty i (by omega)).trans (h.ty i hi),fun i hi => (h2.th i (by omega)).trans (h.th i hi),fun i hi => (h2.pr i (by omega)).trans (h.pr i hi),fun i hi => (h2.inn i (by omega)).trans (h.inn i hi),fun i hi => (h2.md i (by omega)).trans (h.md i hi),fun i hi => (h2.nm i (by omega)).trans (h.nm i hi),fun b lb hb => h2.col b lb (h.col b lb hb)⟩
theorem Stp.trans (h : Stp k ρ w S ρ1 w1 S1) (h2 : Stp k ρ1 w1 S1 ρ' w' S') : Stp k ρ w S ρ' w' S' where
 km := h2.km
 ok := h2.ok
 agr := h.agr.trans h2.agr h.tys h.ths h.prs h.mds
 col := fun g hg => (h2.col g (Nat.lt_of_lt_of_le hg h.sm.size)).trans (h.col g hg)
 sm := by
  have d := h.sm.size; refine ⟨h2.sm.os.trans h.sm.os,h2.sm.tape.trans h.sm.tape,h2.sm.output.trans h.sm.output,Nat.le_trans d h2.sm.size,fun b hb hB => ?_⟩; refine (h2.sm.block b (by omega) ?_).trans (h.sm.block b hb hB)
  unfold Kp at hB ⊢
  rw [h.col b hb]
  exact hB
 tys := Nat.le_trans h.tys h2.tys
 ths := Nat.le_trans h.ths h2.ths
 prs := Nat.le_trans h.prs h2.prs
 mds := Nat.le_trans h.mds h2.mds
theorem Stp.refl (h : KM ρ w S) (hk : S.okB = true) : Stp k ρ w S ρ w S := ⟨h,hk,Agr.refl ρ S,fun _ _ => rfl,Sm.refl w _,Nat.le_refl _,Nat.le_refl _,Nat.le_refl _,Nat.le_refl _⟩
theorem Stp.ahead (hg : w0.grownBy w none) (h : Stp k ρ w S ρ' w' S') : Stp k ρ w0 S ρ' w' S' := ⟨h.km,h.ok,h.agr,fun g hl => h.col g (Nat.lt_of_lt_of_le hl hg.size),(Sm.of_none hg _).trans h.sm,h.tys,h.ths,h.prs,h.mds⟩
theorem Stp.behind (h : Stp k ρ w S ρ' w1 S') (hg : w1.grownBy w' none) : Stp k ρ w S ρ' w' S' := ⟨h.km.up hg,h.ok,h.agr,h.col,h.sm.trans (Sm.of_none hg _),h.tys,h.ths,h.prs,h.mds⟩
theorem CK.step (h : CK ρ w S b c) (hs : Stp True ρ w S ρ' w' S') (hb : ρ.col b = some .ck) : CK ρ' w' S' b c := by
 have d : Kp ρ True b := .inr (.inr ⟨hb,trivial⟩); refine ⟨hs.km,KS.okOk hs.ok,?_,?_,?_,Nat.lt_of_lt_of_le h.hc hs.mds,fun p d => Nat.lt_of_lt_of_le (h.hi p d) hs.prs⟩
 ·rw [hs.agr.wd]; exact hs.sm.cell h.s0 d
 ·rw [hs.agr.md _ h.hc]; exact hs.sm.cell h.s1 d
 ·rw [kP (fun i hi => hs.agr.inn i (h.hi i hi))]; exact hs.sm.cell h.s2 d
theorem AF.step {ts : List T} {v : Value} (h : AF ρ.tr w ts v) (hs : Stp k ρ w S ρ' w' S') : AF ρ'.tr w' ts v := (h.sm hs.sm (fun _g hg => .inr (.inl hg))).weak (fun _g hg => hs.agr.col _ _ hg)
theorem jP {m : Nat} {n : T} {t : KTh} (h : S.declC m n t = some S') : lk (S.md m).names n.name = none /\ lk yc n.name = none /\ S' = ((S.addTh { t with name := n.name,exp := (n.num == 1),home := some m }).setMd m { S.md m with names := (n.name,S.ths.length) :: (S.md m).names,decl := (S.md m).decl ++ [S.ths.length] }) /\ S'.okB = true := by
 unfold KS.declC at h
 split at h
 ·rename_i h1 h2
  obtain ⟨rfl,d⟩ := yg h
  exact ⟨h1,h2,rfl,d⟩
 ·cases h
theorem xI {p : Nat} {n : T} {t : KTh} (h : S.innerC p n t = some S') : lk (S.pr p).inner n.name = none /\ lk yc n.name = none /\ S' = ((S.addTh { t with kind := 3,name := n.name }).setPr p { S.pr p with inner := (n.name,S.ths.length) :: (S.pr p).inner }) /\ S'.okB = true := by
 unfold KS.innerC at h
 split at h
 ·rename_i h1 h2
  obtain ⟨rfl,d⟩ := yg h
  exact ⟨h1,h2,rfl,d⟩
 ·cases h
theorem kF {m : Nat} {n : T} {t : KTh} (h : S.declC m n t = some S') : S.ths.length < S'.ths.length := by
 obtain ⟨-,-,rfl,-⟩ := jP h
 simp [KS.addTh,KS.setMd]
theorem gB {p : Nat} {n : T} {t : KTh} (h : S.innerC p n t = some S') : S.ths.length < S'.ths.length := by
 obtain ⟨-,-,rfl,-⟩ := xI h
 simp [KS.addTh,KS.setPr]
theorem xT (hg : w0.grownBy w none) (h : CK ρ w S b c) (hk : S.okB = true) (hcb : ρ.col b = some .ck) (n : T) (sv : Value) (hf : Fits n) {tb : Nat} {t : KTh} (hb : Bk w tb (thV ρ t)) (hc : ρ.col tb = none) (h0 : w0.heap.size <= tb) (hd : S.declC c.home n t = some S') :
  Calls Tryz.prog 70 #[.pointer (some ⟨b,0,none⟩),zn n sv,.pointer (some ⟨tb,0,none⟩)] w (fun e w' => e = .returned (.tuple #[]) /\ ∃ ρ',Stp True ρ w0 S ρ' w' S' /\ ρ'.th S.ths.length = tb /\ Bk w' tb (thV ρ' (S'.th S.ths.length)) /\ Sm w w' (fun g => Kp ρ True g /\ g ≠ tb)) := by
 obtain ⟨r,s,rfl,u⟩ := jP hd; have m := (KS.okP hk).mdP h.hc; refine (dI h n sv hf (KS.okIn hk) hcb (Nat.lt_of_le_of_lt m.1.1.2 (by decide)) (Nat.le_trans m.1.2 (by decide)) hb hc).mono ?_; rintro e w' (⟨f | f,-⟩ | ⟨-,-,rfl,o,v,⟨D,E,F,x,z,A,B,q⟩,i⟩)
 ·exact absurd r f
 ·exact absurd s f
 have j := hb.lt; have K := h.km.declared (KS.okIn hk) hc h.hc o v x z A B q j i; refine ⟨rfl,_,⟨K,u,dT S _ _ hc,fun g hl => ?_,?_,Nat.le_refl _,?_,Nat.le_refl _,?_⟩,kl _ _ _ _ _,?_,?_⟩
 ·have C := hg.size
  cases l : ρ.col g with
  | some lb => exact sZ l hc
  | none =>
   refine qM l (by omega) (fun e => ?_)
   rcases q g e.symm with f | f
   ·rw [l] at f; cases f
   ·omega
 ·refine ⟨i.os.trans hg.os,i.tape.trans hg.tape,i.output.trans hg.output,Nat.le_trans hg.size i.size,fun g hl d => ?_⟩
  have C := hg.size; refine (i.block g (by omega) ⟨by omega,?_⟩).trans (hg.block g hl (by simp))
  rcases d with d | d | ⟨d,-⟩ <;> rw [d] <;> exact ⟨nofun,nofun,nofun⟩
 ·simp [KS.addTh,KS.setMd]
 ·simp [KS.addTh,KS.setMd]
 ·rw [show ((S.addTh _).setMd c.home _).th S.ths.length = _ from xF _ _ _]
  exact o
 ·refine i.mono (fun g _ d => ⟨d.2,?_⟩)
  rcases d.1 with d | d | ⟨d,-⟩ <;> rw [d] <;> exact ⟨nofun,nofun,nofun⟩
theorem uy (hg : w0.grownBy w none) (h : CK ρ w S b c) (hk : S.okB = true) (n : T) (sv : Value) (hf : Fits n) {tb q : Nat} {t : KTh} (hin : c.inner = some q) (hb : Bk w tb (thV ρ t)) (hc : ρ.col tb = none) (h0 : w0.heap.size <= tb) (hd : S.innerC q n t = some S') :
  Calls Tryz.prog 109 #[.pointer (some ⟨b,0,none⟩),zn n sv,.pointer (some ⟨tb,0,none⟩)] w (fun e w' => e = .returned (.tuple #[]) /\ ∃ ρ',Stp True ρ w0 S ρ' w' S' /\ ρ'.th S.ths.length = tb /\ Bk w' tb (thV ρ' (S'.th S.ths.length)) /\ Sm w w' (fun g => g ≠ tb /\ ρ.col g ≠ some (.inn q))) := by
 obtain ⟨o,r,rfl,s⟩ := xI hd; have i := h.hi q hin; have u := (KS.okP hk).prP i; refine (ke h n sv hf (KS.okIn hk) hin (Nat.lt_of_le_of_lt u.1.2 (by decide)) hb hc).mono ?_; rintro e w' (⟨j | j,-⟩ | ⟨-,-,rfl,m,v,x⟩)
 ·exact absurd o j
 ·exact absurd r j
 have l := hb.lt; have f : Sm w w' (fun g => g ≠ tb /\ ρ.col g ≠ some (.inn q)) := x.mono (fun g _ d => ⟨d.1,fun e => d.2 (by rw [e]; exact (h.km.pr q i).coln)⟩); have K := h.km.declaredInner (KS.okIn hk) hc i m v l f; refine ⟨rfl,_,⟨K,s,dT S _ _ hc,fun g hl => ?_,?_,Nat.le_refl _,?_,?_,Nat.le_refl _⟩,kl _ _ _ _ _,?_,?_⟩
 ·have z := hg.size
  cases i : ρ.col g with
  | some lb => exact sZ i hc
  | none => exact qM i (by omega) nofun
 ·refine ⟨f.os.trans hg.os,f.tape.trans hg.tape,f.output.trans hg.output,Nat.le_trans hg.size f.size,fun g hl d => ?_⟩
  have z := hg.size; refine (f.block g (by omega) ⟨by omega,?_⟩).trans (hg.block g hl (by simp))
  rcases d with d | d | ⟨d,-⟩ <;> rw [d] <;> nofun
 ·simp [KS.addTh,KS.setPr]
 ·simp [KS.addTh,KS.setPr]
 ·rw [show ((S.addTh _).setPr q _).th S.ths.length = _ from xF _ _ _]
  exact m
 ·exact f
theorem ss (hg : w0.grownBy w none) (h : CK ρ w S b c) (hk : S.okB = true) (n : T) (sv : Value) (hf : Fits n) {tb q : Nat} {t : KTh} (hin : c.inner = some q) (hb : Bk w tb (thV ρ t)) (hc : ρ.col tb = none) (h0 : w0.heap.size <= tb) (hd : S.innerC q n t = some S') :
  Calls Tryz.prog 109 #[.pointer (some ⟨b,0,none⟩),zn n sv,.pointer (some ⟨tb,0,none⟩)] w (fun e w' => e = .returned (.tuple #[]) /\ ∃ ρ',Stp True ρ w0 S ρ' w' S' /\ ρ'.th S.ths.length = tb /\ Bk w' tb (thV ρ' (S'.th S.ths.length)) /\ Sm w w' (fun g => Kp ρ True g /\ g ≠ tb)) := by
 refine (uy hg h hk n sv hf hin hb hc h0 hd).mono ?_; rintro e w' ⟨f,ρ',i,j,l,m⟩; refine ⟨f,ρ',i,j,l,m.mono (fun g _ d => ⟨d.2,?_⟩)⟩
 rcases d.1 with d | d | ⟨d,-⟩ <;> rw [d] <;> nofun
theorem Stp.setTh (h : Stp k ρ w S ρ' w1 S1) {i : Nat} {t : KTh} (hl : i < S1.ths.length) (hs : Sm w1 w' (fun g => g ≠ ρ'.th i)) (h0 : w.heap.size <= ρ'.th i) (hb : Bk w' (ρ'.th i) (thV ρ' t)) (hk : (S1.setTh i t).okB = true) : Stp k ρ w S ρ' w' (S1.setTh i t) where
 km := h.km.setTh (KS.okIn h.ok) hl (hs.mono (fun g _ hg e => hg (by rw [e]; exact (h.km.th i hl).col))) hb
 ok := hk
 agr := h.agr
 col := h.col
 sm := by
  have d := h.sm.size
  exact ⟨hs.os.trans h.sm.os,hs.tape.trans h.sm.tape,hs.output.trans h.sm.output,Nat.le_trans d hs.size,fun b hb hB => (hs.block b (by omega) (by omega)).trans (h.sm.block b hb hB)⟩
 tys := h.tys
 ths := by simpa [KS.setTh] using h.ths
 prs := h.prs
 mds := h.mds
theorem Kp.ne (h : Kp ρ k b) {g : Nat} {lb : Lb} (hg : ρ.col g = some lb) (h1 : lb ≠ .tr) (h2 : lb ≠ .ck) : b ≠ g := by
 rintro rfl
 rcases h with h | h | ⟨h,-⟩ <;> rw [hg] at h
 ·cases h
 ·exact h1 (Option.some.inj h)
 ·exact h2 (Option.some.inj h)
theorem Stp.smTurn (h : Stp k ρ w S ρ' w1 S1) {g : Nat} {lb : Lb} (hg : ρ'.col g = some lb) (h1 : lb ≠ .tr) (h2 : lb ≠ .ck) (hs : Sm w1 w' (fun b => b ≠ g)) : Sm w w' (Kp ρ k) := by
 have d := h.sm.size; refine ⟨hs.os.trans h.sm.os,hs.tape.trans h.sm.tape,hs.output.trans h.sm.output,Nat.le_trans d hs.size,fun b hb hB => (hs.block b (by omega) ?_).trans (h.sm.block b hb hB)⟩; refine Kp.ne (ρ := ρ') (k := k) ?_ hg h1 h2
 unfold Kp at hB ⊢
 rw [h.col b hb]
 exact hB
theorem Stp.words (h : Stp k ρ w S ρ' w1 S1) {i : Nat} {z : Int} (hl : i < S1.mds.length) (hk : (S1.setMd i { S1.md i with words := z }).okB = true) : Stp k ρ w S ρ' (w1.setCell ⟨ρ'.md i,4,none⟩ (.int .i64 z)) (S1.setMd i { S1.md i with words := z }) := by
 have M := h.km.md i hl; have d : Sm w1 (w1.setCell ⟨ρ'.md i,4,none⟩ (.int .i64 z)) (fun g => g ≠ ρ'.md i) := (Sm.refl w1 _).put (fun h9 => h9 rfl) _ _
 have N : ∀ lb : Lb,lb ≠ .md i -> ∀ g,ρ'.col g = some lb -> g ≠ ρ'.md i := fun lb hlb g hg e => hlb (by rw [e,M.col] at hg; exact (Option.some.inj hg).symm)
 obtain ⟨l,m,n,o,q,f,j⟩ := M.bk
 refine ⟨h.km.setMd (KS.okIn h.ok) (Agr.refl _ _) hl (d.mono (fun g _ hg e => hg.1 (by rw [e]; exact M.col))) (fun b hb => h.km.fr b (Nat.le_trans d.size hb)) ⟨⟨l,m,n,o.set 4 _,q.sm d (N _ nofun),⟨zZ f.1 d (fun g hg => N (.im i) nofun g (f.2 g hg)),f.2⟩,zZ j.1 d (fun g hg => N (.de i) nofun g (j.2 g hg)),j.2⟩,M.mp.sm d (N (.nm i) nofun _ M.coln),M.col,M.coln⟩,
  hk,h.agr,h.col,h.smTurn M.col nofun nofun d,h.tys,h.ths,h.prs,by simpa [KS.setMd] using h.mds⟩
theorem AF.node {P : Nat -> Prop} {ts : List T} {a : Option Addr} {n cp : Nat} (h : AF P w ts (.slice a n cp)) {j : Nat} {v : T} (hv : ts[j]? = some v) : ∃ g o sw,a = some ⟨g,o,none⟩ /\ P g /\ Node5 w g (o + j * 5) v sw /\ Fits v /\ AF P w v.subs sw := by
 cases h with
 | nil _ _ _ => simp at hv
 | mk _ g o _ svs hl h1 h2 hp cells sub =>
  obtain ⟨e,-⟩ := List.getElem?_eq_some_iff.1 hv; have d : svs[j]? = some svs[j] := List.getElem?_eq_getElem (by omega)
  exact ⟨g,o,svs[j],rfl,hp,(cells j v _ hv d).1,(cells j v _ hv d).2,sub j v _ hv d⟩
theorem xH {f : KS -> T -> Option KS} {l : List T} {j : Nat} {v : T} (hv : l[j]? = some v) (h : yw f (l.drop j) S = some S') : ∃ S1,f S v = some S1 /\ yw f (l.drop (j + 1)) S1 = some S' := by
 obtain ⟨d,rfl⟩ := List.getElem?_eq_some_iff.1 hv; rw [List.drop_eq_getElem_cons d] at h
 unfold yw at h
 exact Option.bind_eq_some_iff.1 h
theorem ga {f : KS -> Int -> T -> Option (KS × Int)} {l : List T} {j : Nat} {v : T} {z : Int} {q : KS × Int} (hv : l[j]? = some v) (h : vP f (l.drop j) S z = some q) : ∃ p,f S z v = some p /\ vP f (l.drop (j + 1)) p.1 p.2 = some q := by
 obtain ⟨d,rfl⟩ := List.getElem?_eq_some_iff.1 hv; rw [List.drop_eq_getElem_cons d] at h
 unfold vP at h
 exact Option.bind_eq_some_iff.1 h
theorem fN {f : KS -> Int -> T -> Option (KS × Int)} {l : List T} {j : Nat} {z : Int} {q : KS × Int} (hj : l.length <= j) (h : vP f (l.drop j) S z = some q) : q = (S,z) := by
 rw [List.drop_eq_nil_of_le hj] at h
 exact (Option.some.inj h).symm
theorem uW {n : T} (h : (sub n 0).kind ≠ 0) : ∃ u r,n.subs = u :: r /\ sub n 0 = u := by
 unfold Go.Proofs.YtnmkffjklpfflaaGreatDoor.sub at *
 cases d : n.subs with
 | nil => rw [d] at h; exact absurd rfl h
 | cons u r => exact ⟨u,r,rfl,rfl⟩
theorem mi {m : Nat} {n : T} {z : Int} {p : KS × Int} (h : KS.varC m S z n = some p) : ∃ S1 t u r,S.declC m n { th0 with kind := 3,first := z } = some S1 /\ n.subs = u :: r /\ S1.typeName ⟨m,none⟩ u = .ok t /\ p.1 = S1.setTh S.ths.length { S1.th S.ths.length with ty := some t } /\ p.1.okB = true /\ p.2 = z + (S1.ty t).words /\ p.2 <= 512 := by
 obtain ⟨S1,i,j⟩ := Option.bind_eq_some_iff.1 h; obtain ⟨t,l,o⟩ := Option.bind_eq_some_iff.1 j; obtain ⟨_,q,d⟩ := Option.bind_eq_some_iff.1 o; obtain ⟨s,g⟩ := vY l; obtain ⟨u,r,v,e⟩ := uW s; rw [e] at g; obtain ⟨rfl,f⟩ := yg q
 split at d
 ·rename_i h12
  cases d
  exact ⟨S1,t,u,r,i,v,g,rfl,f,rfl,h12⟩
 ·cases d
theorem vt {f : KS -> T -> Option KS} {l : List T} {j : Nat} (hj : l.length <= j) (h : yw f (l.drop j) S = some S') : S' = S := by
 rw [List.drop_eq_nil_of_le hj] at h
 exact (Option.some.inj h).symm
theorem mW {f : Nat} {n : T} {z : Int} (h : cvF f (sub n 0) = some z) : ∃ u r,n.subs = u :: r /\ CV u z := by
 have d := gR _ _ _ h
 unfold Go.Proofs.YtnmkffjklpfflaaGreatDoor.sub at d
 cases e : n.subs with
 | nil => rw [e] at d; exact absurd d (by intro g; cases g)
 | cons u r => rw [e] at d; exact ⟨u,r,rfl,d⟩
theorem pU {m : Nat} {n : T} (h : S.constC m n = some S') : ∃ S1 z u r,S.declC m n { th0 with kind := 1 } = some S1 /\ n.subs = u :: r /\ CV u z /\ S' = S1.setTh S.ths.length { S1.th S.ths.length with ty := some 0,value := z,valued := true } /\ S'.okB = true := by
 obtain ⟨S1,d,e⟩ := Option.bind_eq_some_iff.1 h; obtain ⟨z,f,g⟩ := Option.bind_eq_some_iff.1 e; obtain ⟨u,r,i,j⟩ := mW f; obtain ⟨rfl,l⟩ := yg g
 exact ⟨S1,z,u,r,d,i,j,rfl,l⟩
end
theorem fL : ∀ l,Tidy (jW l)
 | [] => tidy_empty
 | p :: r => (fL r).put (by constructor) _
theorem oO {x : Nm} {l : List (Nm × Nat)} (h : lk l x = none) : has (jW l) (.string x) = false := has_false_of_atKey (fun z => by rw [dF,h])
theorem fG : ∀ {l : List (Nm × Nat)},ndB l = true -> size (jW l) = l.length
 | [],_ => rfl
 | p :: r,h => by
  simp only [ndB,Bool.and_eq_true,Option.isNone_iff_eq_none] at h
  unfold jW
  rw [size_put (fL r),oO h.1,fG h.2]
  rfl
theorem rf {ρ : Lay} : ∀ {l : List (Nm × Nat)},ndB l = true -> ndB (ρ.ths l) = true
 | [],_ => rfl
 | p :: r,h => by
  simp only [ndB,Bool.and_eq_true,Option.isNone_iff_eq_none] at h; simp only [Lay.ths,List.map_cons,ndB,Bool.and_eq_true,Option.isNone_iff_eq_none]
  exact ⟨by rw [dp,h.1]; rfl,rf h.2⟩
theorem MapAt.len {w : World} {b : Nat} {l : List (Nm × Nat)} (h : MapAt w b l) (hn : ndB l = true) {t e : TypeId} (ht : Tryz.prog.underlying t = some (.map 9 e)) (ty : TypeId) : (Builtin.len_ #[t] ty #[.map (some b)]).run Tryz.prog w = .ok (.int .i64 l.length) w := by
 have c := World.ownsMap.len h ht ty; rwa [fG hn] at c
theorem sI {S : KS} {m p : Nat} {n : T} {z : Int} {q : KS × Int} (h : KS.innVarC m p S z n = some q) : ∃ t u r,S.typeName ⟨m,some p⟩ u = .ok t /\ n.subs = u :: r /\ S.innerC p n { th0 with first := z,ty := some t } = some q.1 /\ q.2 = z + (S.ty t).words /\ q.2 <= 512 := by
 obtain ⟨t,e,f⟩ := Option.bind_eq_some_iff.1 h; obtain ⟨_,g,b⟩ := Option.bind_eq_some_iff.1 f; obtain ⟨i,d⟩ := vY e; obtain ⟨u,r,j,c⟩ := uW i; rw [c] at d
 split at b
 ·rename_i h12
  cases b
  exact ⟨t,u,r,d,j,g,rfl,h12⟩
 ·cases b
section
variable {ρ ρ' : Lay} {w w' : World} {S S' : KS}
def Lay.addPr (ρ : Lay) (n pb ib : Nat) : Lay := { ρ with pr := fun i => if i = n then pb else ρ.pr i,inn := fun i => if i = n then ib else ρ.inn i,col := fun b => if b = pb then some (.pr n) else if b = ib then some (.inn n) else ρ.col b }
theorem dc (S : KS) {pb ib : Nat} (hc : ρ.col pb = none) (hd : ρ.col ib = none) : Agr ρ (ρ.addPr S.prs.length pb ib) S :=
 ⟨rfl,rfl,rfl,fun _ _ => rfl,fun _ _ => rfl,fun i h => by simp only [Lay.addPr]; rw [if_neg (by omega)],fun i h => by simp only [Lay.addPr]; rw [if_neg (by omega)],fun _ _ => rfl,fun _ _ => rfl,fun b lb h => by
  simp only [Lay.addPr]; rw [if_neg (fun e => by rw [e,hc] at h; cases h),if_neg (fun e => by rw [e,hd] at h; cases h)]
  exact h⟩
theorem KM.addPr (h : KM ρ w S) (hi : KIn S) {t : KPr} {pb ib : Nat} {av : Value} (hb : Bk w pb [ptr (some ρ.wd),ρ.mdP (some t.home),.map (some ib),av,.int .i64 t.words,.slice none 0 0,ρ.tyP t.result]) (ha : AF ρ.tr w t.acts av) (hm : MapAt w ib []) (hp : t.pars = []) (hn : t.inner = [])
  (hc : ρ.col pb = none) (hd : ρ.col ib = none) (hne : ib ≠ pb) : KM (ρ.addPr S.prs.length pb ib) w (S.addPr t) := by
 have c := dc S hc hd; refine h.turn (P := fun _ => True) hi c (Sm.refl w _) (fun b d => ?_) (fun _ _ => trivial) (fun _ _ => trivial) (h.mo_turn hi c (Sm.refl w (fun _ => True)) (fun _ _ => trivial)) (fun j hj => (h.ty j hj).re hi c hj) (fun j hj => (h.th j hj).re hi c hj) (fun j hj => ?_) (fun j hj => (h.md j hj).re hi c hj)
 ·have i := hb.lt
  have k := hm.lt; simp only [Lay.addPr]; rw [if_neg (by omega),if_neg (by omega)]
  exact h.fr b d
 ·rcases uk hj with d | rfl
  ·rw [show (S.addPr t).pr j = S.pr j from kt _ _ _ d]
   exact (h.pr j d).re hi c d
  ·rw [show (S.addPr t).pr S.prs.length = t from xF _ _ _]
   have f : (ρ.addPr S.prs.length pb ib).pr S.prs.length = pb := by simp [Lay.addPr]
   have e : (ρ.addPr S.prs.length pb ib).inn S.prs.length = ib := by simp [Lay.addPr]
   refine ⟨⟨av,.slice none 0 0,?_,ha.weak (fun g hq => c.col _ _ hq),?_,nofun⟩,?_,?_,?_⟩
   ·unfold prV
    rw [f,e]
    exact hb
   ·rw [hp]; exact World.ownsRow_nil _ _ _ _
   ·rw [e,hn]; exact hm
   ·rw [f]; simp [Lay.addPr]
   ·rw [e]; simp [Lay.addPr,hne]
end
section
variable {ρ ρ' : Lay} {w w' : World} {S S' : KS}
def Lay.addMd (ρ : Lay) (n mb nb : Nat) : Lay := { ρ with md := fun i => if i = n then mb else ρ.md i,nm := fun i => if i = n then nb else ρ.nm i,col := fun b => if b = mb then some (.md n) else if b = nb then some (.nm n) else ρ.col b }
theorem fH (S : KS) {mb nb : Nat} (hc : ρ.col mb = none) (hd : ρ.col nb = none) : Agr ρ (ρ.addMd S.mds.length mb nb) S :=
 ⟨rfl,rfl,rfl,fun _ _ => rfl,fun _ _ => rfl,fun _ _ => rfl,fun _ _ => rfl,fun i h => by simp only [Lay.addMd]; rw [if_neg (by omega)],fun i h => by simp only [Lay.addMd]; rw [if_neg (by omega)],fun b lb h => by
  simp only [Lay.addMd]; rw [if_neg (fun e => by rw [e,hc] at h; cases h),if_neg (fun e => by rw [e,hd] at h; cases h)]
  exact h⟩
theorem KM.addMd (h : KM ρ w S) (hi : KIn S) {x : Nm} {mb nb : Nat} (hb : Bk w mb [ptr (some ρ.wd),.pointer (some ⟨mb,0,none⟩),.map none,.slice none 0 0,.int .i64 0,.string ⟨x.toArray⟩,.slice none 0 0,.slice none 0 0,.map (some nb)]) (hm : MapAt w nb [])
  (hc : ρ.col mb = none) (hd : ρ.col nb = none) (hne : nb ≠ mb) : KM (ρ.addMd S.mds.length mb nb) w (S.addMd { md0 with name := x }) := by
 have c := fH S hc hd; refine h.turn (P := fun _ => True) hi c (Sm.refl w _) (fun b d => ?_) (fun _ _ => trivial) (fun _ _ => trivial) (h.mo_turn hi c (Sm.refl w (fun _ => True)) (fun _ _ => trivial)) (fun j hj => (h.ty j hj).re hi c hj) (fun j hj => (h.th j hj).re hi c hj) (fun j hj => (h.pr j hj).re hi c hj) (fun j hj => ?_)
 ·have g := hb.lt
  have i := hm.lt; simp only [Lay.addMd]; rw [if_neg (by omega),if_neg (by omega)]
  exact h.fr b d
 ·rcases uk hj with d | rfl
  ·rw [show (S.addMd _).md j = S.md j from kt _ _ _ d]
   exact (h.md j d).re hi c d
  ·rw [show (S.addMd _).md S.mds.length = _ from xF _ _ _]
   have f : (ρ.addMd S.mds.length mb nb).md S.mds.length = mb := by simp [Lay.addMd]
   have e : (ρ.addMd S.mds.length mb nb).nm S.mds.length = nb := by simp [Lay.addMd]
   refine ⟨⟨.slice none 0 0,.slice none 0 0,.slice none 0 0,?_,.nil none 0 (Nat.zero_le _),⟨World.ownsRow_nil _ _ _ _,nofun⟩,World.ownsRow_nil _ _ _ _,nofun⟩,?_,?_,?_⟩
   ·unfold mdV Lay.mdP
    rw [Option.map_some,f,e]
    exact hb
   ·rw [e]; exact hm
   ·rw [f]; simp [Lay.addMd]
   ·rw [e]; simp [Lay.addMd,hne]
theorem KM.setMods (h : KM ρ w S) (hi : KIn S) {x : Nm} {i : Nat} (hs : Sm w w' (fun g => g ≠ ρ.mo)) (hm : MapAt w' ρ.mo ((x,ρ.md i) :: ρ.mds S.mods)) : KM ρ w' { S with mods := (x,i) :: S.mods } := by
 have N : ∀ lb : Lb,lb ≠ .mo -> ∀ g,ρ.col g = some lb -> g ≠ ρ.mo := fun lb hlb g hg e => hlb (by rw [e,h.moc] at hg; exact (Option.some.inj hg).symm)
 exact h.turn hi (Agr.refl ρ S) hs (h.frs hs) (N _ nofun) (N _ nofun) hm (fun j hj => (h.ty j hj).sm hs (N _ nofun) (N _ nofun)) (fun j hj => (h.th j hj).sm hs (N _ nofun)) (fun j hj => (h.pr j hj).sm hs (N _ nofun) (N _ nofun) (N _ nofun) (N _ nofun)) (fun j hj => (h.md j hj).sm hs (N _ nofun) (N _ nofun) (N _ nofun) (N _ nofun) (N _ nofun))
end
theorem fI : ∀ (ts : List T) (svs : List Value) (i : Nat) (t : T) (sv : Value) (j : Nat),svs.length = ts.length -> ts[i]? = some t -> svs[i]? = some sv -> j < 5 -> (xa ts svs)[i * 5 + j]? = (headC t sv)[j]?
 | [],_,i,t,sv,j,_,h,_,_ => by simp at h
 | t0 :: ts,[],i,t,sv,j,h,_,_,_ => by simp at h
 | t0 :: ts,s0 :: svs,0,t,sv,j,h,ht,hs,hj => by
  cases ht; cases hs; rw [xa,Nat.zero_mul,Nat.zero_add,List.getElem?_append_left (by simpa [headC] using hj)]
 | t0 :: ts,s0 :: svs,i + 1,t,sv,j,h,ht,hs,hj => by
  rw [xa,List.getElem?_append_right (by simp [headC]; omega)]; have := fI ts svs i t sv j (by simpa using h) (by simpa using ht) (by simpa using hs) hj; rw [<- this]
  congr 1
  simp [headC]
  omega
def fz : Nat -> T -> Bool
 | 0,_ => false
 | f + 1,t => decide (t.name.length <= 5000) && decide (-5000 <= t.kind) && decide (t.kind <= 5000) && decide (-5000000000 <= t.num) && decide (t.num <= 5000000000) && t.subs.all (fz f)
theorem fZ {f : Nat} {t : T} (h : fz f t = true) : Fits t := by
 cases f with
 | zero => cases h
 | succ f =>
  simp only [fz,Bool.and_eq_true,decide_eq_true_eq] at h; obtain ⟨⟨⟨⟨⟨c,d⟩,e⟩,g⟩,j⟩,-⟩ := h
  exact ⟨by unfold maxLen; omega,by omega,by omega,by omega,by omega⟩
theorem tq {f : Nat} {t u : T} (h : fz f t = true) (hu : u ∈ t.subs) : ∃ g,fz g u = true := by
 cases f with
 | zero => cases h
 | succ f =>
  simp only [fz,Bool.and_eq_true] at h
  exact ⟨f,List.all_eq_true.1 h.2 u hu⟩
theorem oD {w : World} {S : Nat -> Prop} {ts : List T} {v : Value} (h : LR w S ts v) (hf : ∀ t ∈ ts,∃ f,fz f t = true) : AF S w ts v := by
 induction h with
 | mk S ts v svs hl own inS sub ih =>
  rcases own.2 with ⟨rfl,n⟩ | ⟨g,d,o,rfl,l⟩
  ·have : ts = [] := List.eq_nil_of_length_eq_zero n
   subst this
   exact .nil none 0 (Nat.zero_le _)
  ·have m : ∀ (i : Nat) (t : T),ts[i]? = some t -> t ∈ ts := fun i t h => List.mem_of_getElem? h
   refine .mk ts g 0 d svs hl l.2.2.1 l.2.2.2.1 (inS g rfl) (fun i t sv e1 e2 => ⟨?_,?_⟩) (fun i t sv e1 e2 => (ih i t sv e1 e2 (fun u hu => ?_)).weak (fun g hg => hg.1))
   ·have q : i < ts.length := by
     rcases Nat.lt_or_ge i ts.length with e | e
     ·exact e
     ·rw [List.getElem?_eq_none e] at e1; cases e1
    have c : ∀ j,j < 5 -> w.cell? ⟨g,i * 5 + j,none⟩ = (headC t sv)[j]? := fun j hj => (own.cellAt (i * 5 + j) (by omega)).trans (fI ts svs i t sv j hl e1 e2 hj)
    rw [Nat.zero_add]
    exact ⟨c 0 (by omega),c 1 (by omega),c 2 (by omega),c 3 (by omega),c 4 (by omega)⟩
   ·obtain ⟨f,hf⟩ := hf t (m i t e1)
    exact fZ hf
   ·obtain ⟨f,hf⟩ := hf t (m i t e1)
    exact tq hf hu
section
variable {ρ ρ' ρ1 : Lay} {w w' w1 : World} {S S' S1 : KS} {k : Prop} {i b : Nat}
theorem Kp.less {g : Nat} (h : Kp ρ k g) : Kp ρ True g := by
 rcases h with h | h | h
 ·exact .inl h
 ·exact .inr (.inl h)
 ·exact .inr (.inr ⟨h.1,trivial⟩)
theorem Stp.less (h : Stp True ρ w S ρ' w' S') : Stp k ρ w S ρ' w' S' := ⟨h.km,h.ok,h.agr,h.col,h.sm.mono (fun _ _ hg => hg.less),h.tys,h.ths,h.prs,h.mds⟩
def Lay.gr (ρ : Lay) (G : Option Nat) (lb : Lb) : Lay := { ρ with col := fun b => match ρ.col b with | some l => some l | none => if some b = G then some lb else none }
theorem uG {G : Option Nat} {lb l : Lb} (h : ρ.col b = some l) : (ρ.gr G lb).col b = some l := by simp only [Lay.gr]; rw [h]
theorem qG {G : Option Nat} {lb : Lb} (h : ρ.col b = none) (h2 : some b ≠ G) : (ρ.gr G lb).col b = none := by
 simp only [Lay.gr]; rw [h]
 simp [h2]
theorem ng {lb : Lb} (h : ρ.col b = none) : (ρ.gr (some b) lb).col b = some lb := by
 simp only [Lay.gr]; rw [h]
 simp
theorem nh (ρ : Lay) (S : KS) (G : Option Nat) (lb : Lb) : Agr ρ (ρ.gr G lb) S :=
 ⟨rfl,rfl,rfl,fun _ _ => rfl,fun _ _ => rfl,fun _ _ => rfl,fun _ _ => rfl,fun _ _ => rfl,fun _ _ => rfl,fun _ _ h => uG h⟩
theorem Stp.ty (h : KM ρ w S) (hk : S.okB = true) (hl : i < S.tys.length) {t : KTy} (hs : Sm w w' (fun g => g ≠ ρ.ty i)) (hb : ∀ fv,Bk w (ρ.ty i) (tyV ρ (S.ty i) fv) -> Bk w' (ρ.ty i) (tyV ρ t fv)) (hf : t.fields = (S.ty i).fields) (hk' : (S.setTy i t).okB = true) : Stp k ρ w S ρ w' (S.setTy i t) := by
 have M := h.ty i hl; obtain ⟨fv,j,l,d⟩ := M.bk; have c : Sm w w' (fun g => ρ.col g ≠ some (.ty i) /\ ρ.col g ≠ some (.fl i)) := hs.mono (fun g _ hg e => hg.1 (by rw [e]; exact M.col)); refine ⟨h.setTy (KS.okIn hk) (Agr.refl _ _) hl c (h.frs hs) ⟨⟨fv,hb fv j,?_,d⟩,M.col⟩,hk',Agr.refl _ _,fun _ _ => rfl,hs.mono (fun g _ hg => hg.ne M.col nofun nofun),?_,Nat.le_refl _,Nat.le_refl _,Nat.le_refl _⟩
 ·rw [hf]
  exact zZ l hs (fun g hg e => by have f := d g hg; rw [e,M.col] at f; cases f)
 ·simp [KS.setTy]
theorem Stp.fld (h : KM ρ w S) (hk : S.okB = true) (hl : i < S.tys.length) {t : KTy} {fv : Value} (hs : Sm w w' (fun g => g ≠ ρ.ty i /\ ρ.col g ≠ some (.fl i))) (hb : Bk w' (ρ.ty i) (tyV ρ t fv)) (hr : w'.ownsRow 0 58 4 fv t.fields.length (t.fields.flatMap (fdV ρ))) (hg : ∀ g,fv.ownBlock = some g -> ρ.col g = some (.fl i) \/ w.heap.size <= g) (hk' : (S.setTy i t).okB = true) : Stp k ρ w S (ρ.gr fv.ownBlock (.fl i)) w' (S.setTy i t) := by
 have M := h.ty i hl; have l := nh ρ S fv.ownBlock (.fl i); have j : Sm w w' (fun g => ρ.col g ≠ some (.ty i) /\ ρ.col g ≠ some (.fl i)) := hs.mono (fun g _ hg => ⟨fun e => hg.1 (by rw [e]; exact M.col),hg.2⟩); refine ⟨h.setTy (KS.okIn hk) l hl j (fun b hb' => ?_) ⟨⟨fv,hb,hr,fun g c => ?_⟩,uG M.col⟩,hk',l,fun g hl2 => ?_,hs.mono (fun g _ f => ⟨f.ne M.col nofun nofun,fun e => ?_⟩),?_,Nat.le_refl _,Nat.le_refl _,Nat.le_refl _⟩
 ·refine qG (h.frs hs b hb') (fun e => ?_)
  have := dR hr e.symm
  omega
 ·rcases hg g c with d | d
  ·exact uG d
  ·rw [c]
   exact ng (h.fr g d)
 ·cases f : ρ.col g with
  | some lb => exact uG f
  | none =>
   refine qG f (fun e => ?_)
   rcases hg g e.symm with d | d
   ·rw [f] at d; cases d
   ·omega
 ·rcases f with c | c | ⟨c,-⟩ <;> rw [e] at c <;> cases c
 ·simp [KS.setTy]
theorem Stp.prq (h : KM ρ w S) (hk : S.okB = true) (hl : i < S.prs.length) {t : KPr} (hs : Sm w w' (fun g => g ≠ ρ.pr i /\ ρ.col g ≠ some (.pa i))) {av pv : Value} (hb : Bk w' (ρ.pr i) (prV ρ i t av pv)) (hav : AF ρ.tr w t.acts av) (hin : t.inner = (S.pr i).inner)
  (hr : w'.ownsRow 0 86 1 pv t.pars.length (t.pars.map fun x => ρ.thP (some x))) (hg : ∀ g,pv.ownBlock = some g -> ρ.col g = some (.pa i) \/ w.heap.size <= g) (hk' : (S.setPr i t).okB = true) : Stp k ρ w S (ρ.gr pv.ownBlock (.pa i)) w' (S.setPr i t) := by
 have M := h.pr i hl; have l := nh ρ S pv.ownBlock (.pa i)
 have N : ∀ lb : Lb,lb ≠ .pr i -> lb ≠ .pa i -> ∀ g,ρ.col g = some lb -> g ≠ ρ.pr i /\ ρ.col g ≠ some (.pa i) := fun lb h1 h2 g c => ⟨fun e => h1 (by rw [e,M.col] at c; exact (Option.some.inj c).symm),by rw [c]; exact fun e => h2 (Option.some.inj e)⟩
 have j : Sm w w' (fun g => ρ.col g ≠ some (.pr i) /\ ρ.col g ≠ some (.pa i) /\ ρ.col g ≠ some (.inn i)) := hs.mono (fun g _ hg => ⟨fun e => hg.1 (by rw [e]; exact M.col),hg.2.1⟩); refine ⟨h.setPr (KS.okIn hk) l hl j (fun b hb' => ?_) ⟨⟨av,pv,hb,(hav.sm hs (N _ nofun nofun)).weak (fun g c => uG c),hr,fun g c => ?_⟩,?_,uG M.col,uG M.coln⟩,hk',l,fun g hl2 => ?_,hs.mono (fun g _ f => ⟨f.ne M.col nofun nofun,fun e => ?_⟩),Nat.le_refl _,Nat.le_refl _,?_,Nat.le_refl _⟩
 ·refine qG (h.frs hs b hb') (fun e => ?_)
  have := dR hr e.symm
  omega
 ·rcases hg g c with d | d
  ·exact uG d
  ·rw [c]
   exact ng (h.fr g d)
 ·rw [hin]
  exact M.mp.sm hs (N (.inn i) nofun nofun _ M.coln)
 ·cases f : ρ.col g with
  | some lb => exact uG f
  | none =>
   refine qG f (fun e => ?_)
   rcases hg g e.symm with d | d
   ·rw [f] at d; cases d
   ·omega
 ·rcases f with c | c | ⟨c,-⟩ <;> rw [e] at c <;> cases c
 ·simp [KS.setPr]
end
section
variable {S S' S1 : KS}
theorem tu {m : Nat} {n : T} (h : S.headC m n = some S') : ∃ S1 S2 S3,S1 = S.addPr { pr0 with home := m,acts := (sub n 3).subs } /\ S1.okB = true /\ S1.declC m n { th0 with kind := 4,proc := some S.prs.length } = some S2 /\ yw (KS.parC m S.prs.length) (sub n 0).subs S2 = some S3 /\
  (((sub n 1).kind = 0 /\ S' = S3) \/ ((sub n 1).kind ≠ 0 /\ ∃ j,S3.oneWordType ⟨m,some S.prs.length⟩ (sub n 1) = .ok j /\ S' = S3.setPr S.prs.length { S3.pr S.prs.length with result := some j } /\ S'.okB = true)) := by
 obtain ⟨S1,f,g⟩ := Option.bind_eq_some_iff.1 h; obtain ⟨S2,i,k⟩ := Option.bind_eq_some_iff.1 g; obtain ⟨S3,l,b⟩ := Option.bind_eq_some_iff.1 k; obtain ⟨rfl,o⟩ := yg f; refine ⟨_,S2,S3,rfl,o,i,l,?_⟩
 split at b
 ·exact .inl ⟨by assumption,(Option.some.inj b).symm⟩
 ·obtain ⟨j,q,r⟩ := Option.bind_eq_some_iff.1 b
  obtain ⟨c,d⟩ := rU q; obtain ⟨rfl,e⟩ := yg r
  exact .inr ⟨c,j,d,rfl,e⟩
theorem rR {m p : Nat} {n : T} (h : S.parC m p n = some S') : ∃ S1 S2 t,ndB (S.pr p).inner = true /\ S.innerC p n { th0 with first := (S.pr p).inner.length,byVar := (n.num == 1) } = some S1 /\ (if n.num = 1 then S1.typeO ⟨m,some p⟩ (sub n 0) else S1.oneO ⟨m,some p⟩ (sub n 0)) = some t /\
  ve (S1.setTh S.ths.length { S1.th S.ths.length with ty := some t }) = some S2 /\ S' = S2.setPr p { S2.pr p with pars := (S2.pr p).pars ++ [S.ths.length] } /\ S'.okB = true := by
 unfold KS.parC at h
 split at h
 ·cases h
 ·rename_i h0
  obtain ⟨S1,b,c⟩ := Option.bind_eq_some_iff.1 h; obtain ⟨t,d,e⟩ := Option.bind_eq_some_iff.1 c; obtain ⟨S2,f,g⟩ := Option.bind_eq_some_iff.1 e; obtain ⟨rfl,i⟩ := yg g
  exact ⟨S1,S2,t,by simpa using h0,b,d,f,rfl,i⟩
theorem ny {m p : Nat} {n : T} (h : S.procC m p n = some S') : ∃ q S1,ndB (S.pr p).inner = true /\ (S.pr p).home = m /\ vP (KS.innVarC m p) (sub n 2).subs S (S.pr p).inner.length = some q /\ S1 = q.1.setPr p { q.1.pr p with words := q.2 } /\ S1.okB = true /\ S1.fullB = true /\ rG (S1.pr p).acts = true /\ S1.actsF ⟨m,some p⟩ (S1.level ⟨m,some p⟩ 30) (S1.pr p).result 30 (S1.pr p).acts = .ok () /\ S' = S1 := by
 unfold KS.procC at h
 split at h
 ·cases h
 ·rename_i h0
  obtain ⟨q,c,d⟩ := Option.bind_eq_some_iff.1 h; obtain ⟨S1,f,b⟩ := Option.bind_eq_some_iff.1 d; obtain ⟨rfl,g⟩ := yg f
  unfold KS.actsO at b
  split at b
  ·rename_i h6
   obtain ⟨_,i,j⟩ := Option.bind_eq_some_iff.1 b
   exact ⟨q,_,by simpa using fun e => h0 (.inl e),by simpa using fun e => h0 (.inr e),c,rfl,g,h6.1,h6.2,jq i,(Option.some.inj j).symm⟩
  ·cases b
theorem ov {m : Nat} {n : T} (h : S.typeC m n = some S') : (S.addTy { ty0 with form := dZ (sub n 0),name := n.name,home := some m }).okB = true /\ (S.addTy { ty0 with form := dZ (sub n 0),name := n.name,home := some m }).declC m n { th0 with kind := 2,ty := some S.tys.length } = some S' := by
 obtain ⟨_,b,c⟩ := Option.bind_eq_some_iff.1 h; obtain ⟨rfl,d⟩ := yg b
 exact ⟨d,c⟩
theorem rA {m : Nat} {n : T} (h : S.filledC m n = some S') : ∃ t S1,lk (S.md m).names n.name = some t /\ (S.th t).kind = 2 /\ S.fillC ⟨m,none⟩ ((S.th t).ty.getD 0) (sub n 0) = some S1 /\ (S1.ty ((S.th t).ty.getD 0)).words <= 512 /\ S' = S1.setTy ((S.th t).ty.getD 0) { S1.ty ((S.th t).ty.getD 0) with complete := true } /\ S'.okB = true := by
 unfold KS.filledC at h
 split at h
 ·rename_i t h1
  split at h
  ·rename_i h2
   obtain ⟨S1,c,b⟩ := Option.bind_eq_some_iff.1 h
   split at b
   ·rename_i h5
    obtain ⟨rfl,d⟩ := yg b
    exact ⟨t,S1,h1,h2,c,h5,rfl,d⟩
   ·cases b
  ·cases h
 ·cases h
theorem ph {c : KSc} {i : Nat} {x : T} (h : S.fieldC c i x = some S') : ∃ j u r,S.tysB = true /\ (S.ty i).fields.length <= 1000 /\ S.field i x.name = none /\ x.subs = u :: r /\ S.typeName c u = .ok j /\ S' = S.setTy i { S.ty i with fields := (S.ty i).fields ++ [⟨x.name,x.num == 1,j,(S.ty i).words⟩],words := (S.ty i).words + (S.ty j).words } /\ S'.okB = true := by
 unfold KS.fieldC at h
 split at h
 ·rename_i h0
  split at h
  ·cases h
  ·rename_i h1
   obtain ⟨j,d,e⟩ := Option.bind_eq_some_iff.1 h; obtain ⟨rfl,f⟩ := yg e; obtain ⟨g,b⟩ := vY d; obtain ⟨u,r,k,l⟩ := uW g; rw [l] at b
   exact ⟨j,u,r,h0.1,h0.2,h1,k,b,rfl,f⟩
 ·cases h
theorem dd {n : T} {j t : Nat} (h : tS (S.record n j) = some t) : t = j /\ (S.ty j).form = 4 := by
 have b := jq h
 unfold KS.record at b
 split at b
 ·exact ⟨(Except.ok.inj b).symm,by assumption⟩
 ·cases b
theorem gD {c : KSc} {i : Nat} {n : T} (h : S.fillRecordC c i n = some S') : ∃ S1,yw (KS.fieldC c i) (n.subs.drop 1) S1 = some S' /\ (((sub n 0).kind = 0 /\ S1 = S) \/ ((sub n 0).kind ≠ 0 /\ ∃ j,S.typeName c (sub n 0) = .ok j /\ (S.ty j).form = 4 /\ S1 = S.setTy i { S.ty i with of := some j,words := (S.ty j).words } /\ S1.okB = true)) := by
 obtain ⟨S1,b,e⟩ := Option.bind_eq_some_iff.1 h; refine ⟨S1,e,?_⟩
 split at b
 ·exact .inl ⟨by assumption,(Option.some.inj b).symm⟩
 ·obtain ⟨j,f,g⟩ := Option.bind_eq_some_iff.1 b
  obtain ⟨k,l,m⟩ := Option.bind_eq_some_iff.1 g; obtain ⟨rfl,o⟩ := dd l; obtain ⟨rfl,q⟩ := yg m; obtain ⟨r,d⟩ := vY f
  exact .inr ⟨r,k,d,o,rfl,q⟩
theorem nG {c : KSc} {i : Nat} {n : T} (h : S.fillC c i n = some S') : ((S.ty i).form = 3 /\ 1 <= n.num /\ n.num <= 64 /\ ∃ j,(sub n 0).kind ≠ 0 /\ S.typeName c (sub n 0) = .ok j /\ S' = S.setTy i { S.ty i with of := some j,places := n.num,words := n.num * (S.ty j).words } /\ S'.okB = true) \/
  ((S.ty i).form = 4 /\ 2 <= n.subs.length /\ S.fillRecordC c i n = some S') \/ ((S.ty i).form = 5 /\ ∃ j,(sub n 0).kind ≠ 0 /\ S.namedType c (sub n 0) = .ok j /\ (S.ty j).form = 4 /\ S' = S.setTy i { S.ty i with of := some j,words := 1 } /\ S'.okB = true) := by
 unfold KS.fillC at h
 split at h
 ·rename_i h3
  split at h
  ·rename_i h0
   obtain ⟨j,b,d⟩ := Option.bind_eq_some_iff.1 h; obtain ⟨e,f⟩ := vY b; obtain ⟨rfl,g⟩ := yg d
   exact .inl ⟨h3,h0.1,h0.2,j,e,f,rfl,g⟩
  ·cases h
 ·split at h
  ·rename_i e
   split at h
   ·rename_i h0
    exact .inr (.inl ⟨e,h0,h⟩)
   ·cases h
  ·split at h
   ·rename_i f
    obtain ⟨j,b,d⟩ := Option.bind_eq_some_iff.1 h; obtain ⟨g,m⟩ := pL b; obtain ⟨o,q,r⟩ := Option.bind_eq_some_iff.1 d; obtain ⟨rfl,k⟩ := dd q; obtain ⟨rfl,l⟩ := yg r
    exact .inr (.inr ⟨f,o,g,m,k,rfl,l⟩)
   ·cases h
end
structure CB (ρ : Lay) (w : World) (S : KS) (b : Nat) (c : KSc) (r : Value) : Prop where
 ck : CK ρ w S b c
 bk : Bk w b [.pointer (some ⟨ρ.wd,0,none⟩),.pointer (some ⟨ρ.md c.home,0,none⟩),.map (c.inner.map ρ.inn),r]
 col : ρ.col b = some .ck
section
variable {ρ ρ' : Lay} {w w' : World} {S S' : KS} {b : Nat} {c : KSc} {r : Value} {k : Prop}
theorem CB.up (h : CB ρ w S b c r) (hg : w.grownBy w' none) : CB ρ w' S b c r := ⟨h.ck.up hg,h.bk.kept hg (by simp),h.col⟩
theorem CB.re (h : CB ρ w S b c r) (ha : Agr ρ ρ' S) (hb : Bk w' b [.pointer (some ⟨ρ.wd,0,none⟩),.pointer (some ⟨ρ.md c.home,0,none⟩),.map (c.inner.map ρ.inn),r]) : Bk w' b [.pointer (some ⟨ρ'.wd,0,none⟩),.pointer (some ⟨ρ'.md c.home,0,none⟩),.map (c.inner.map ρ'.inn),r] := by
 rw [ha.wd,ha.md _ h.ck.hc,kP (fun i hi => ha.inn i (h.ck.hi i hi))]
 exact hb
theorem CB.step (h : CB ρ w S b c r) (hs : Stp True ρ w S ρ' w' S') : CB ρ' w' S' b c r :=
 ⟨h.ck.step hs h.col,h.re hs.agr (h.bk.sm hs.sm (.inr (.inr ⟨h.col,trivial⟩))),hs.agr.col _ _ h.col⟩
theorem CB.of (hk : S.okB = true) (h : KM ρ w S) (hb : Bk w b [.pointer (some ⟨ρ.wd,0,none⟩),.pointer (some ⟨ρ.md c.home,0,none⟩),.map (c.inner.map ρ.inn),r]) (hc : ρ.col b = some .ck) (h1 : c.home < S.mds.length) (h2 : ∀ p,c.inner = some p -> p < S.prs.length) : CB ρ w S b c r :=
 ⟨⟨h,KS.okOk hk,hb.c 0 _ rfl,hb.c 1 _ rfl,hb.c 2 _ rfl,h1,h2⟩,hb,hc⟩
theorem Stp.own (h : KM ρ w S) (hk : S.okB = true) (hc : ρ.col b = some .ck) (hs : Sm w w' (fun g => g ≠ b)) : Stp False ρ w S ρ w' S := by
 have N : ∀ lb : Lb,lb ≠ .ck -> ∀ g,ρ.col g = some lb -> g ≠ b := fun lb h1 g hg e => h1 (by rw [e,hc] at hg; exact (Option.some.inj hg).symm)
 refine ⟨h.turn (KS.okIn hk) (Agr.refl ρ S) hs (h.frs hs) (N _ nofun) (N _ nofun) (h.mo_turn (KS.okIn hk) (Agr.refl ρ S) hs (N _ nofun)) (fun j hj => (h.ty j hj).sm hs (N _ nofun) (N _ nofun)) (fun j hj => (h.th j hj).sm hs (N _ nofun)) (fun j hj => (h.pr j hj).sm hs (N _ nofun) (N _ nofun) (N _ nofun) (N _ nofun)) (fun j hj => (h.md j hj).sm hs (N _ nofun) (N _ nofun) (N _ nofun) (N _ nofun) (N _ nofun)),
  hk,Agr.refl ρ S,fun _ _ => rfl,hs.mono (fun g _ hp e => ?_),Nat.le_refl _,Nat.le_refl _,Nat.le_refl _,Nat.le_refl _⟩
 rcases hp with d | d | ⟨-,d⟩
 ·rw [e,hc] at d; cases d
 ·rw [e,hc] at d; cases d
 ·exact d
theorem Sm.comp {P Q : Nat -> Prop} {w1 : World} (h : Sm w w1 P) (h2 : Sm w1 w' Q) (hq : ∀ g,g < w.heap.size -> P g -> Q g) : Sm w w' P := ⟨h2.os.trans h.os,h2.tape.trans h.tape,h2.output.trans h.output,Nat.le_trans h.size h2.size,fun g hg hp => (h2.block g (Nat.lt_of_lt_of_le hg h.size) (hq g hg hp)).trans (h.block g hg hp)⟩
theorem Stp.addPr (h : KM ρ w S) (hk : S.okB = true) (hg : w.grownBy w' none) {t : KPr} {pb ib : Nat} {av : Value} (hb : Bk w' pb [Go.Proofs.YtnmkffjklpfflaaGreatDoor.ptr (some ρ.wd),ρ.mdP (some t.home),.map (some ib),av,.int .i64 t.words,.slice none 0 0,ρ.tyP t.result]) (ha : AF ρ.tr w' t.acts av) (hm : MapAt w' ib []) (hp : t.pars = []) (hn : t.inner = [])
  (h1 : w.heap.size <= pb) (h2 : w.heap.size <= ib) (hne : ib ≠ pb) (hk' : (S.addPr t).okB = true) : Stp k ρ w S (ρ.addPr S.prs.length pb ib) w' (S.addPr t) where
 km := (h.up hg).addPr (KS.okIn hk) hb ha hm hp hn (h.fr _ h1) (h.fr _ h2) hne
 ok := hk'
 agr := dc S (h.fr _ h1) (h.fr _ h2)
 col := fun g hl => by
  simp only [Lay.addPr]; rw [if_neg (by omega),if_neg (by omega)]
 sm := Sm.of_none hg _
 tys := Nat.le_refl _
 ths := Nat.le_refl _
 prs := by simp [KS.addPr]
 mds := Nat.le_refl _
theorem Stp.addTy (h : KM ρ w S) (hk : S.okB = true) (hg : w.grownBy w' none) {t : KTy} {tb : Nat} (hb : Bk w' tb (tyV ρ t (.slice none 0 0))) (hfl : t.fields = []) (hof : t.of = none) (h1 : w.heap.size <= tb) (hk' : (S.addTy t).okB = true) : Stp k ρ w S (ρ.addTy S.tys.length tb) w' (S.addTy t) where
 km := (h.up hg).addTy (KS.okIn hk) hb (h.fr _ h1) hfl hof
 ok := hk'
 agr := fK S (h.fr _ h1)
 col := fun g hl => by
  simp only [Lay.addTy]; rw [if_neg (by omega)]
 sm := Sm.of_none hg _
 tys := by simp [KS.addTy]
 ths := Nat.le_refl _
 prs := Nat.le_refl _
 mds := Nat.le_refl _
theorem AF.nodes {P : Nat -> Prop} {ts : List T} {a : Option Addr} {n cp : Nat} (h : AF P w ts (.slice a n cp)) (h0 : 0 < ts.length) : ∃ g o,a = some ⟨g,o,none⟩ /\ P g /\ ∀ (j : Nat) (v : T),ts[j]? = some v -> ∃ sw,Node5 w g (o + j * 5) v sw /\ Fits v /\ AF P w v.subs sw := by
 cases h with
 | nil _ _ _ => simp at h0
 | mk _ g o _ svs hl h1 h2 hp cells sub =>
  refine ⟨g,o,rfl,hp,fun j v hv => ?_⟩; obtain ⟨e,-⟩ := List.getElem?_eq_some_iff.1 hv; have d : svs[j]? = some svs[j] := List.getElem?_eq_getElem (by omega)
  exact ⟨svs[j],(cells j v _ hv d).1,(cells j v _ hv d).2,sub j v _ hv d⟩
theorem xR {n v : T} {j : Nat} (h : n.subs[j]? = some v) : Go.Proofs.YtnmkffjklpfflaaGreatDoor.sub n j = v := by
 unfold Go.Proofs.YtnmkffjklpfflaaGreatDoor.sub
 rw [h]
 rfl
theorem Node5.step {g o : Nat} {t : T} {sv : Value} (h : Node5 w g o t sv) (hg : ρ.tr g) (hs : Stp k ρ w S ρ' w' S') : Node5 w' g o t sv :=
 ⟨hs.sm.cell h.c0 (.inr (.inl hg)),hs.sm.cell h.c1 (.inr (.inl hg)),hs.sm.cell h.c2 (.inr (.inl hg)),hs.sm.cell h.c3 (.inr (.inl hg)),hs.sm.cell h.c4 (.inr (.inl hg))⟩
theorem Box.step {x : Nat} {t : T} {sv : Value} (h : Box w x t sv) (hx : ρ.col x = none) (hs : Stp k ρ w S ρ' w' S') : Box w' x t sv := h.sm hs.sm (.inl hx)
end
theorem Tryz.infoField : (Tryz.prog.info? 58).map (fun i => (i.zero,i.size,i.bytes)) = some (some (.agg #[.string ⟨#[]⟩,.bool false,.pointer none,.int .i64 0]),4,40) := by kernel_rfl
theorem sd {ops : Array Oper} {o : Oper} {a : Act} {w : World} {K : Act -> World -> Prop} {Q : Exit -> Act -> World -> Prop} {E : Prop} (hgd : o.guard = none) (s x : Operand)
  (ho : o.op = .call { callee := .builtin .append,args := #[s,x],argTypes := #[52,52] })
  {g n : Nat} {v : Value} {cs vs : List Value} (hv4 : vs.length = 4) (hone : ∀ u ∈ vs,u.oneCell' = true) (hs : a.eval s = v) (hx : a.eval x = .slice (some ⟨g,0,none⟩) 1 1) (hl : w.ownsRow 0 58 4 v n cs) (hc : ∀ (j : Nat) (u : Value),vs[j]? = some u -> w.cell? ⟨g,j,none⟩ = some u) (hn : n <= 1000000)
  (k : ∀ v' w',w'.ownsRow 0 58 4 v' (n + 1) (cs ++ vs) -> w.grownBy w' v.ownBlock -> (v'.ownBlock = v.ownBlock \/ v'.ownBlock = some w.heap.size) -> K (a.put o.dst v') w') :
  if Region.wanted o (yielded ops a.tmps) = true then Oper.wp Tryz.prog o a w K Q else E := by
 have i : Region.wanted o (yielded ops a.tmps) = true := by simp [Region.wanted,hgd]
 rw [if_pos i]; obtain ⟨l,c,d,e,f⟩ := info_parts Tryz.infoField; obtain ⟨v',w',m,b,q,_,h⟩ := run_append_own_at (P := Tryz.prog) w 0 52 o.type 58 l _ 4 40 Tryz.underlying52 c d e f rfl (by decide) v n cs hl ⟨g,0,none⟩ 1 1 vs
  hv4 (fun j u hj => by rw [mZ]; exact hc j u hj) hone (by unfold maxLen; omega) (by omega) (Nat.zero_le _)
 unfold Oper.wp execOp
 simp only [ho,resolve,invoke,builtin,Sem.run_bind,Sem.run_pure,Result.andThen_ok,List.map_toArray,List.map_cons,List.map_nil,hs,hx,m]
 exact k v' w' b q h
section
variable (S : KS)
def KS.nameT (t : KTy) : Nm := match t.home with
 | none => t.name
 | some m => (S.md m).name ++ [46] ++ t.name
def kS (x : Nm) (e : Bool) : Nm := if e = true then x ++ [42] else x
def KS.fldT (d : KFd) : Nm := [32] ++ kS d.name d.exp ++ [58] ++ S.nameT (S.ty d.ty) ++ [64] ++ vX d.first
def KS.ofT (t : KTy) : Nm := match t.of with
 | none => []
 | some j => [32,40] ++ S.nameT (S.ty j) ++ [41]
def xi : Nm := [82,69,67,79,82,68,32]
def ml : Nm := [65,82,82,65,89,32]
def pF : Nm := [80,79,73,78,84,69,82,32]
def nW : Nm := [67,79,78,83,84,32]
def mI : Nm := [84,89,80,69,32]
def ly : Nm := [86,65,82,32]
def sk : Nm := [80,82,79,67,69,68,85,82,69,32]
def KS.recT (t : KTy) : Nm := xi ++ vX t.words ++ S.ofT t ++ t.fields.flatMap S.fldT
def KS.typeT (t : KTy) : Nm := if t.form = 3 then ml ++ vX t.places ++ [32] ++ S.nameT (S.ty (t.of.getD 0)) else if t.form = 5 then pF ++ S.nameT (S.ty (t.of.getD 0)) else S.recT t
def KS.parT (x : Nat) : Nm := (if (S.th x).byVar = true then [32,86,65,82] else []) ++ ([32] ++ S.nameT (S.ty ((S.th x).ty.getD 0)))
def KS.resT (p : KPr) : Nm := match p.result with
 | none => []
 | some j => [32,58,32] ++ S.nameT (S.ty j)
def KS.headT (p : KPr) : Nm := p.pars.flatMap S.parT ++ S.resT p
def KS.lineT (t : KTh) : Nm := if t.kind = 1 then nW ++ t.name ++ [32] ++ S.nameT (S.ty (t.ty.getD 0)) ++ [32] ++ vX t.value else if t.kind = 2 then mI ++ kS t.name t.exp ++ [32] ++ S.typeT (S.ty (t.ty.getD 0))
 else if t.kind = 3 then ly ++ t.name ++ [32] ++ S.nameT (S.ty (t.ty.getD 0)) ++ [32] ++ vX t.first else sk ++ t.name ++ S.headT (S.pr (t.proc.getD 0))
def KS.showT (i : Nat) : Nm := if ((S.th i).exp || decide ((S.th i).kind = 2)) = true then S.lineT (S.th i) ++ [10] else []
def KS.faceT (m : Nat) : Nm := (S.md m).name ++ [10] ++ (S.md m).decl.flatMap S.showT
def fp (z : Int) : Bool := decide (0 <= z) && decide (z <= 1000000)
def shB (x : Nm) : Bool := decide (x.length <= 5000)
def KS.tyOK (t : KTy) : Bool := shB (S.typeT t) && (if t.form = 3 then t.of.isSome && fp t.places else if t.form = 5 then t.of.isSome else fp t.words && t.fields.all fun d => fp d.first)
def KS.thOK (t : KTh) : Bool := shB (S.lineT t) && (if t.kind = 1 then t.ty.isSome && fp t.value else if t.kind = 2 then t.ty.isSome && S.tyOK (S.ty (t.ty.getD 0)) else if t.kind = 3 then t.ty.isSome && fp t.first else decide (t.kind = 4) && t.proc.isSome && (S.pr (t.proc.getD 0)).pars.all fun x => (S.th x).ty.isSome)
def KS.faceOK (m : Nat) : Bool := decide ((S.faceT m).length <= 100000) && (S.md m).decl.all fun i => !((S.th i).exp || decide ((S.th i).kind = 2)) || S.thOK (S.th i)
end
end Go.Proofs.YtnmkffjklpfflaaGreatDoor
