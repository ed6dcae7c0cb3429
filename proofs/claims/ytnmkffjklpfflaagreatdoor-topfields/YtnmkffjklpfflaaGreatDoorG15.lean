/- The checker's tables in memory: blocks,maps of pointers,and what each of them holds. -/
import Derived.Test.YtnmkffjklpfflaaGreatDoorG14
import Derived.Test.YtnmkffjklpfflaaGreatDoorG05
import Derived.Test.YtnmkffjklpfflaaGreatDoorG02
import Derived.Maps.Own
import Derived.Maps.OwnSet
import Derived.Maps.OwnOps
namespace Go.Proofs.YtnmkffjklpfflaaGreatDoor
open Go.RowKit Go.Maps Go.WideMaps Go.WideElems
/-! ### Maps of pointers -/
def ptr (x : Option Nat) : Value := .pointer (x.map fun b => ⟨b,0,none⟩)
def ptE (v : Value) : Option (DataW Unit × List MemPlace) := match v with
 | .pointer none => some (.nil,[])
 | .pointer (some ⟨b,0,none⟩) => some (.lit (.int .i64 b),[])
 | _ => none
theorem bN {v : Value} {b : Nat} {ps : List MemPlace} (h : ptE v = some (.lit (.int .i64 b),ps)) : v = ptr (some b) := by
 unfold ptE at h
 split at h
 ·cases h
 ·simp only [Option.some.injEq,Prod.mk.injEq,DataW.lit.injEq,Lit.int.injEq] at h
  obtain ⟨⟨_,h⟩,_⟩ := h; obtain rfl : _ = b := Int.ofNat.inj h
  rfl
 ·cases h
theorem bl {v : Value} {ps : List MemPlace} (h : ptE v = some (.nil,ps)) : v = .pointer none := by
 unfold ptE at h
 split at h
 ·rfl
 ·cases h
 ·cases h
def kt : List (Nm × Nat) -> DataW Unit
 | [] => .map []
 | p :: r => (kt r).put (.string p.1) (.lit (.int .i64 p.2))
theorem nD : ∀ l,IsMap (kt l)
 | [] => ⟨_,rfl⟩
 | p :: r => by
  have h := nD r
  unfold kt
  first | exact h.put _ _ | exact IsMap.put h _ _ | (obtain ⟨_,e⟩ := h; rw [e]; exact ⟨_,rfl⟩)
theorem sW (k : Nm) (z : DataW Unit) : ∀ l,(kt l).atKey (.string k) z = (match lk l k with | some b => .lit (.int .i64 b) | none => z)
 | [] => by simp [kt,lk,DataW.atKey]
 | p :: r => by
  unfold kt lk
  by_cases e : p.1 = k
  ·rw [if_pos e,<- e]
   exact atKey_put_same (nD r) (by constructor) _ _
  ·rw [if_neg e,atKey_put_other (by intro e2; injection e2 with e2; exact e e2.symm) _ _]
   exact sW k z r
theorem cB : Keyed Tryz.prog 9 := string_keyed Tryz.underlying9
def MapAt (w : World) (b : Nat) (l : List (Nm × Nat)) : Prop := w.ownsMap Tryz.prog 9 ptE b l.length (kt l)
section
variable {w w' : World} {b : Nat} {l : List (Nm × Nat)}
theorem MapAt.kept {row : Option Nat} (h : MapAt w b l) (hg : w.grownBy w' row) (hr : some b ≠ row) : MapAt w' b l := World.ownsMap.kept h hg hr
theorem MapAt.lt (h : MapAt w b l) : b < w.heap.size := World.ownsMap.lt h
theorem MapAt.new (w : World) : MapAt (w.alloc (.map #[] 0)) w.heap.size [] := World.ownsMap_made w _ _ _
theorem MapAt.look (h : MapAt w b l) {t e : TypeId} (ht : Tryz.prog.underlying t = some (.map 9 e)) (hz : (zeroValue e).run Tryz.prog w = .ok (.pointer none) w) (x : Nm) (hx : x.length <= maxLen) :
  (Instr.lookup t (.map (some b)) (.string ⟨x.toArray⟩) false).run Tryz.prog w = .ok (ptr (lk l x)) w := by
 obtain ⟨_,_,f,c⟩ := World.ownsMap.lookup h cB ht hz (zd := .nil) (zp := []) rfl (keyOf_string_mk (P := Tryz.prog) Tryz.underlying9 (s := ⟨x.toArray⟩) (by simpa [ByteArray.size] using hx)); rw [f]; simp only [] at c; rw [sW] at c; cases d : lk l x with
 | none => rw [d] at c; rw [bl c]; rfl
 | some b => rw [d] at c; rw [bN c]
theorem MapAt.put (h : MapAt w b l) {t e : TypeId} (ht : Tryz.prog.underlying t = some (.map 9 e)) (x : Nm) (hx : x.length <= maxLen) (q : Nat) (hl : l.length < maxLen) :
  ∃ w',(Instr.mapUpdate t (.map (some b)) (.string ⟨x.toArray⟩) (ptr (some q))).run Tryz.prog w = .ok () w' /\ MapAt w' b ((x,q) :: l) /\ w.grownBy w' (some b) := by
 obtain ⟨w',c,f,g⟩ := World.ownsMap.update h cB ht hl (keyOf_string_mk (P := Tryz.prog) Tryz.underlying9 (s := ⟨x.toArray⟩) (by simpa [ByteArray.size] using hx)) (val := ptr (some q)) (d := .lit (.int .i64 q)) (ps := []) rfl
 exact ⟨w',c,by simpa [MapAt,kt] using f,g⟩
theorem qF (f : Nat -> Nat) (x : Nm) : ∀ l,lk (l.map fun p => (p.1,f p.2)) x = (lk l x).map f
 | [] => rfl
 | p :: r => by
  simp only [List.map_cons,lk]
  split
  ·rfl
  ·exact qF f x r
end
/-! ### Blocks -/
structure Bk (w : World) (b : Nat) (vs : List Value) : Prop where
 c : ∀ (j : Nat) (v : Value),vs[j]? = some v -> w.cell? ⟨b,j,none⟩ = some v
 z : ∀ o,w.frozen? ⟨b,o,none⟩ = false
 lt : b < w.heap.size
 ob : ∃ cs t,w.heap[b]? = some (.cells cs t (0,0))
section
variable {w w' : World} {b : Nat} {vs : List Value}
theorem Bk.kept {row : Option Nat} (h : Bk w b vs) (hg : w.grownBy w' row) (hr : some b ≠ row) : Bk w' b vs :=
 ⟨fun j v hj => zE hg (h.c j v hj) hr,fun o => ye hg h.lt (h.z o) hr,Nat.lt_of_lt_of_le h.lt hg.size,by obtain ⟨cs,t,h1⟩ := h.ob; exact ⟨cs,t,(hg.block b h.lt hr).trans h1⟩⟩
theorem Bk.set (h : Bk w b vs) (j : Nat) (v : Value) : Bk (w.setCell ⟨b,j,none⟩ v) b (vs.set j v) := by
 refine ⟨fun k u hk => ?_,fun o => by rw [World.frozen?_setCell]; exact h.z o,by simpa [World.setCell] using h.lt,by obtain ⟨d,t,f⟩ := h.ob; exact ⟨d.setIfInBounds j v,t,by simp [World.setCell,Array.getElem?_modify,f]⟩⟩; rw [List.getElem?_set] at hk
 by_cases e : j = k
 ·subst e
  rw [if_pos rfl] at hk
  split at hk
  ·rename_i hj
   cases hk
   exact World.cell?_setCell_same _ _ _ (h.c j _ (List.getElem?_eq_getElem hj))
  ·cases hk
 ·rw [if_neg e] at hk
  rw [World.cell?_setCell_other _ _ _ _ (by simp)]
  exact h.c k u hk
theorem Bk.new (w : World) (cs : Array Value) (t : TypeId) (h : cs.toList = vs) : Bk (w.alloc (.cells cs t)) w.heap.size vs := by
 subst h; refine ⟨fun j v hj => ?_,fun o => World.frozen?_alloc_at _ _ _ _ rfl,by simp,⟨cs,t,heap_alloc_new w _⟩⟩; rw [World.cell?_alloc_at _ _ _ _ rfl]
 simpa using hj
end
/-! ### What is laid where -/
inductive Lb where
 | wd | ba | mo | tr | ck
 | ty (i : Nat) | fl (i : Nat) | th (i : Nat) | pr (i : Nat) | pa (i : Nat) | inn (i : Nat) | md (i : Nat) | nm (i : Nat) | de (i : Nat) | im (i : Nat)
structure Lay where
 wd : Nat
 ba : Nat
 mo : Nat
 ty : Nat -> Nat
 th : Nat -> Nat
 pr : Nat -> Nat
 md : Nat -> Nat
 nm : Nat -> Nat
 inn : Nat -> Nat
 col : Nat -> Option Lb
section
variable (ρ : Lay)
def Lay.tyP (o : Option Nat) : Value := ptr (o.map ρ.ty)
def Lay.thP (o : Option Nat) : Value := ptr (o.map ρ.th)
def Lay.prP (o : Option Nat) : Value := ptr (o.map ρ.pr)
def Lay.mdP (o : Option Nat) : Value := ptr (o.map ρ.md)
def Lay.ths (l : List (Nm × Nat)) : List (Nm × Nat) := l.map fun p => (p.1,ρ.th p.2)
def Lay.mds (l : List (Nm × Nat)) : List (Nm × Nat) := l.map fun p => (p.1,ρ.md p.2)
def tyV (t : KTy) (fv : Value) : List Value := [.int .i64 t.form,.string ⟨t.name.toArray⟩,ρ.mdP t.home,.int .i64 t.words,.int .i64 t.places,ρ.tyP t.of,fv,.bool t.complete]
def fdV (d : KFd) : List Value := [.string ⟨d.name.toArray⟩,.bool d.exp,ρ.tyP (some d.ty),.int .i64 d.first]
def thV (t : KTh) : List Value := [.int .i64 t.kind,.string ⟨t.name.toArray⟩,.bool t.exp,ρ.mdP t.home,ρ.tyP t.ty,.int .i32 t.value,.int .i64 t.first,.bool t.byVar,ρ.prP t.proc,.bool t.valued,ρ.mdP t.mod]
def prV (i : Nat) (p : KPr) (av pv : Value) : List Value := [ptr (some ρ.wd),ρ.mdP (some p.home),.map (some (ρ.inn i)),av,.int .i64 p.words,pv,ρ.tyP p.result]
def mdV (i : Nat) (m : KMd) (av iv dv : Value) : List Value := [ptr (some ρ.wd),ρ.mdP (some i),.map none,av,.int .i64 m.words,.string ⟨m.name.toArray⟩,iv,dv,.map (some (ρ.nm i))]
def wdV : List Value := [ρ.tyP (some 0),ρ.tyP (some 1),ρ.tyP (some 2),.map (some ρ.ba),.map (some ρ.mo)]
end
def RowAt (ρ : Lay) (w : World) (e : TypeId) (k : Nat) (v : Value) (n : Nat) (cs : List Value) (lb : Lb) : Prop := w.ownsRow 0 e k v n cs /\ ∀ g,v.ownBlock = some g -> ρ.col g = some lb
inductive AF (P : Nat -> Prop) (w : World) : List T -> Value -> Prop
 | nil (a : Option Addr) (c : Nat) (hc : c <= maxLen) : AF P w [] (.slice a 0 c)
 | mk (ts : List T) (g o c : Nat) (svs : List Value) (hl : svs.length = ts.length) (h1 : ts.length <= c) (h2 : c <= maxLen) (hp : P g)
   (cells : ∀ (i : Nat) (t : T) (sv : Value),ts[i]? = some t -> svs[i]? = some sv -> Node5 w g (o + i * 5) t sv /\ Fits t)
   (sub : ∀ (i : Nat) (t : T) (sv : Value),ts[i]? = some t -> svs[i]? = some sv -> AF P w t.subs sv) : AF P w ts (.slice (some ⟨g,o,none⟩) ts.length c)
theorem AF.at {P : Nat -> Prop} {w : World} {ts : List T} {v : Value} (h : AF P w ts v) : AT w ts v := by
 induction h with
 | nil a c hc => exact .nil a c hc
 | mk ts g o c svs hl h1 h2 hp cells sub ih => exact .mk ts g o c svs hl h1 h2 cells ih
theorem Node5.far {w w' : World} {g o : Nat} {t : T} {sv : Value} {row : Option Nat} (h : Node5 w g o t sv) (hg : w.grownBy w' row) (hr : some g ≠ row) : Node5 w' g o t sv :=
 ⟨zE hg h.c0 hr,zE hg h.c1 hr,zE hg h.c2 hr,zE hg h.c3 hr,zE hg h.c4 hr⟩
theorem AF.kept {P : Nat -> Prop} {w w' : World} {ts : List T} {v : Value} {row : Option Nat} (h : AF P w ts v) (hg : w.grownBy w' row) (hr : ∀ b,row = some b -> ¬ P b) : AF P w' ts v := by
 induction h with
 | nil a c hc => exact .nil a c hc
 | mk ts g o c svs hl h1 h2 hp cells sub ih => exact .mk ts g o c svs hl h1 h2 hp (fun i t sv e1 e2 => ⟨(cells i t sv e1 e2).1.far hg (fun e => hr g e.symm hp),(cells i t sv e1 e2).2⟩) ih
def Lay.tr (ρ : Lay) (b : Nat) : Prop := ρ.col b = some .tr
structure TyAt (ρ : Lay) (w : World) (i : Nat) (t : KTy) : Prop where
 bk : ∃ fv,Bk w (ρ.ty i) (tyV ρ t fv) /\ RowAt ρ w 58 4 fv t.fields.length (t.fields.flatMap (fdV ρ)) (.fl i)
 col : ρ.col (ρ.ty i) = some (.ty i)
structure ThAt (ρ : Lay) (w : World) (i : Nat) (t : KTh) : Prop where
 bk : Bk w (ρ.th i) (thV ρ t)
 col : ρ.col (ρ.th i) = some (.th i)
structure PrAt (ρ : Lay) (w : World) (i : Nat) (p : KPr) : Prop where
 bk : ∃ av pv,Bk w (ρ.pr i) (prV ρ i p av pv) /\ AF ρ.tr w p.acts av /\ RowAt ρ w 86 1 pv p.pars.length (p.pars.map fun x => ρ.thP (some x)) (.pa i)
 mp : MapAt w (ρ.inn i) (ρ.ths p.inner)
 col : ρ.col (ρ.pr i) = some (.pr i)
 coln : ρ.col (ρ.inn i) = some (.inn i)
structure MdAt (ρ : Lay) (w : World) (i : Nat) (m : KMd) : Prop where
 bk : ∃ av iv dv,Bk w (ρ.md i) (mdV ρ i m av iv dv) /\ AF ρ.tr w m.acts av /\ RowAt ρ w 51 1 iv m.imps.length (m.imps.map fun x => ρ.mdP (some x)) (.im i) /\
  RowAt ρ w 86 1 dv m.decl.length (m.decl.map fun x => ρ.thP (some x)) (.de i)
 mp : MapAt w (ρ.nm i) (ρ.ths m.names)
 col : ρ.col (ρ.md i) = some (.md i)
 coln : ρ.col (ρ.nm i) = some (.nm i)
structure KM (ρ : Lay) (w : World) (S : KS) : Prop where
 wd : Bk w ρ.wd (wdV ρ)
 wdc : ρ.col ρ.wd = some .wd
 ba : MapAt w ρ.ba (ρ.ths ym)
 bac : ρ.col ρ.ba = some .ba
 mo : MapAt w ρ.mo (ρ.mds S.mods)
 moc : ρ.col ρ.mo = some .mo
 ty : ∀ i,i < S.tys.length -> TyAt ρ w i (S.ty i)
 th : ∀ i,i < S.ths.length -> ThAt ρ w i (S.th i)
 pr : ∀ i,i < S.prs.length -> PrAt ρ w i (S.pr i)
 md : ∀ i,i < S.mds.length -> MdAt ρ w i (S.md i)
 fr : ∀ b,w.heap.size <= b -> ρ.col b = none
section
variable {ρ : Lay} {w w' : World} {S : KS} {i : Nat}
theorem RowAt.kept {e : TypeId} {k n : Nat} {v : Value} {cs : List Value} {lb : Lb} {row : Option Nat} (h : RowAt ρ w e k v n cs lb) (hg : w.grownBy w' row) (hr : ∀ b,row = some b -> ρ.col b ≠ some lb) : RowAt ρ w' e k v n cs lb := by
 refine ⟨h.1.kept hg ?_,h.2⟩; cases c : v.ownBlock with
 | none => exact .inl rfl
 | some b => exact .inr (fun e => hr b e.symm (h.2 b c))
theorem uQ {b : Nat} {row : Option Nat} {x : Option Lb} (h : ρ.col b = x) (hr : ∀ c,row = some c -> ρ.col c ≠ x) : some b ≠ row := fun e => hr b e.symm h
theorem TyAt.kept {t : KTy} {row : Option Nat} (h : TyAt ρ w i t) (hg : w.grownBy w' row) (hr : ∀ b,row = some b -> ρ.col b ≠ some (.ty i) /\ ρ.col b ≠ some (.fl i)) : TyAt ρ w' i t := by
 obtain ⟨c,d,e⟩ := h.bk
 exact ⟨⟨c,d.kept hg (uQ h.col fun b hb => (hr b hb).1),e.kept hg fun b hb => (hr b hb).2⟩,h.col⟩
theorem ThAt.kept {t : KTh} {row : Option Nat} (h : ThAt ρ w i t) (hg : w.grownBy w' row) (hr : ∀ b,row = some b -> ρ.col b ≠ some (.th i)) : ThAt ρ w' i t :=
 ⟨h.bk.kept hg (uQ h.col hr),h.col⟩
theorem PrAt.kept {p : KPr} {row : Option Nat} (h : PrAt ρ w i p) (hg : w.grownBy w' row) (hr : ∀ b,row = some b -> ρ.col b ≠ some .tr /\ ρ.col b ≠ some (.pr i) /\ ρ.col b ≠ some (.pa i) /\ ρ.col b ≠ some (.inn i)) : PrAt ρ w' i p := by
 obtain ⟨c,d,e,f,g⟩ := h.bk
 exact ⟨⟨c,d,e.kept hg (uQ h.col fun b hb => (hr b hb).2.1),f.kept hg fun b hb => (hr b hb).1,g.kept hg fun b hb => (hr b hb).2.2.1⟩,h.mp.kept hg (uQ h.coln fun b hb => (hr b hb).2.2.2),h.col,h.coln⟩
theorem MdAt.kept {m : KMd} {row : Option Nat} (h : MdAt ρ w i m) (hg : w.grownBy w' row) (hr : ∀ b,row = some b -> ρ.col b ≠ some .tr /\ ρ.col b ≠ some (.md i) /\ ρ.col b ≠ some (.im i) /\ ρ.col b ≠ some (.de i) /\ ρ.col b ≠ some (.nm i)) : MdAt ρ w' i m := by
 obtain ⟨c,d,e,f,g,j,k⟩ := h.bk
 exact ⟨⟨c,d,e,f.kept hg (uQ h.col fun b hb => (hr b hb).2.1),g.kept hg fun b hb => (hr b hb).1,j.kept hg fun b hb => (hr b hb).2.2.1,k.kept hg fun b hb => (hr b hb).2.2.2.1⟩,h.mp.kept hg (uQ h.coln fun b hb => (hr b hb).2.2.2.2),h.col,h.coln⟩
theorem KM.kept {row : Option Nat} (h : KM ρ w S) (hg : w.grownBy w' row) (hr : ∀ b,row = some b -> ρ.col b = none) : KM ρ w' S where
 wd := h.wd.kept hg (uQ h.wdc fun b hb e => by rw [hr b hb] at e; cases e)
 wdc := h.wdc
 ba := h.ba.kept hg (uQ h.bac fun b hb e => by rw [hr b hb] at e; cases e)
 bac := h.bac
 mo := h.mo.kept hg (uQ h.moc fun b hb e => by rw [hr b hb] at e; cases e)
 moc := h.moc
 ty := fun i hi => (h.ty i hi).kept hg fun b hb => by rw [hr b hb]; exact ⟨nofun,nofun⟩
 th := fun i hi => (h.th i hi).kept hg fun b hb => by rw [hr b hb]; exact nofun
 pr := fun i hi => (h.pr i hi).kept hg fun b hb => by rw [hr b hb]; exact ⟨nofun,nofun,nofun,nofun⟩
 md := fun i hi => (h.md i hi).kept hg fun b hb => by rw [hr b hb]; exact ⟨nofun,nofun,nofun,nofun,nofun⟩
 fr := fun b hb => h.fr b (Nat.le_trans hg.size hb)
theorem KM.up (h : KM ρ w S) (hg : w.grownBy w' none) : KM ρ w' S := h.kept hg (fun _ e => by cases e)
end
set_option maxHeartbeats 400000
set_option maxRecDepth 100000
structure KOk (S : KS) : Prop where
 nm : ∀ m,m < S.mds.length -> ∀ x t,lk (S.md m).names x = some t -> t < S.ths.length
 inn : ∀ p,p < S.prs.length -> ∀ x t,lk (S.pr p).inner x = some t -> t < S.ths.length
 mod : ∀ t,t < S.ths.length -> ∀ m,(S.th t).mod = some m -> m < S.mds.length
 ty : ∀ t,t < S.ths.length -> ∀ i,(S.th t).ty = some i -> i < S.tys.length
 kty : ∀ t,t < S.ths.length -> (S.th t).kind = 2 -> ∃ i,(S.th t).ty = some i
 kpr : ∀ t,t < S.ths.length -> (S.th t).kind = 4 -> ∃ p,(S.th t).proc = some p /\ p < S.prs.length
 two : 2 <= S.ths.length
 three : 3 <= S.tys.length
structure CK (ρ : Lay) (w : World) (S : KS) (b : Nat) (c : KSc) : Prop where
 km : KM ρ w S
 ok : KOk S
 s0 : w.cell? ⟨b,0,none⟩ = some (pq ρ.wd)
 s1 : w.cell? ⟨b,1,none⟩ = some (pq (ρ.md c.home))
 s2 : w.cell? ⟨b,2,none⟩ = some (.map (c.inner.map ρ.inn))
 hc : c.home < S.mds.length
 hi : ∀ p,c.inner = some p -> p < S.prs.length
section
variable {ρ : Lay} {w w' : World} {S : KS} {b : Nat} {c : KSc}
theorem CK.up (h : CK ρ w S b c) (hg : w.grownBy w' none) : CK ρ w' S b c := ⟨h.km.up hg,h.ok,ze hg h.s0,ze hg h.s1,ze hg h.s2,h.hc,h.hi⟩
theorem dV (w : World) : (zeroValue 86).run Tryz.prog w = .ok (.pointer none) w := by kernel_rfl
theorem dN (w : World) : (zeroValue 51).run Tryz.prog w = .ok (.pointer none) w := by kernel_rfl
theorem xM {mb : Nat} {l : List (Nm × Nat)} (h : MapAt w mb (ρ.ths l)) (x : Nm) (hx : x.length <= maxLen) :
  (Instr.lookup 77 (.map (some mb)) (.string ⟨x.toArray⟩) false).run Tryz.prog w = .ok (ρ.thP (lk l x)) w := by
 rw [h.look Tryz.underlying77 (dV w) x hx]
 unfold Lay.ths Lay.thP
 rw [qF]
theorem iq (x : Nm) : (Instr.lookup 77 (.map none) (.string ⟨x.toArray⟩) false).run Tryz.prog w = .ok (.pointer none) w := by
 kernel_rfl
theorem zW : ρ.thP none = .pointer none := rfl
theorem yj (t : Nat) : ρ.thP (some t) = pq (ρ.th t) := rfl
theorem ql (h : CK ρ w S b c) (x : Nm) (hx : x.length <= maxLen) :
  Calls Tryz.prog 188 #[pq b,.string ⟨x.toArray⟩] w fun e w' => e = .returned (ρ.thP (S.find c x)) /\ w' = w := by
 have m := h.s1; have i := h.s2; obtain ⟨n,o,q,j,-⟩ := (h.km.md c.home h.hc).bk; have r : w.cell? ⟨ρ.md c.home,8,none⟩ = some (.map (some (ρ.nm c.home))) := j.c 8 _ rfl; have s := xM (h.km.md c.home h.hc).mp x hx; have k := zc h.hi; have l := zc h.km; clear j h; obtain ⟨d,inner⟩ := c; cases inner with
 | none =>
  have g := iq (w := w) x; rw [show S.find ⟨d,none⟩ x = lk (S.md d).names x from rfl]; simp only [Option.map_none] at i
  go_enter Tryz.func188,Tryz.ntmps188
  go_wp2
  go_ret
  exact ⟨rfl,rfl⟩
 | some p =>
  have g := xM (l.out.pr p (k.out p rfl)).mp x hx; simp only [Option.map_some] at i; cases f : lk (S.pr p).inner x with
  | none =>
   rw [show S.find ⟨d,some p⟩ x = lk (S.md d).names x by simp [KS.find,KS.innerOf,f]]; rw [f,zW] at g
   go_enter Tryz.func188,Tryz.ntmps188
   go_wp2
   go_ret
   exact ⟨rfl,rfl⟩
  | some t =>
   rw [show S.find ⟨d,some p⟩ x = some t by simp [KS.find,KS.innerOf,f]]; rw [f,yj] at g
   go_enter Tryz.func188,Tryz.ntmps188
   go_wp2
   go_ret
   exact ⟨rfl,rfl⟩
end
end Go.Proofs.YtnmkffjklpfflaaGreatDoor
