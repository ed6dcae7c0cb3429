/- The second text: what is declared ahead of its procedures is known. -/
import Derived.Test.YtnmkffjklpfflaaGreatDoorG27
import Derived.Test.YtnmkffjklpfflaaGreatDoorG51
namespace Go.Proofs.YtnmkffjklpfflaaGreatDoor
open Go.RowKit
set_option maxHeartbeats 400000
set_option maxRecDepth 1000000
def li : List UInt8 := [77,79,68,85,76,69,32,77,97,105,110,59,10,73,77,80,79,82,84,32,76,105,98,59,10,84,89,80,69,32,79,119,110,32,61,32,80,79,73,78,84,69,82,32,84,79,32,82,101,99,59,32,82,101,99,32,61,32,82,69,67,79,82,68,32,40,76,105,98,46,78,111,100,101,41,32,109,105,110,101,58,32,73,78,84,69,71,69,82,59,32,115,101,108,102,58,32,79,119,110,59,32,69,78,68,59,10,86,65,82,32,105,42,58,32,73,78,84,69,71,69,82,59,32,106,58,32,73,78,84,69,71,69,82,59,32,107,58,32,73,78,84,69,71,69,82,59,32,98,58,32,66,79,79,76,69,65,78,59,32,112,42,58,32,76,105,98,46,76,105,115,116,59,32,113,58,32,76,105,98,46,76,105,115,116,59,32,109,58,32,76,105,98,46,66,105,103,76,105,115,116,59,32,97,58,32,76,105,98,46,82,111,119,59,32,114,58,32,76,105,98,46,80,97,105,114,59,32,115,58,32,76,105,98,46,80,97,105,114,59,32,110,58,32,79,119,110,59,10,80,82,79,67,69,68,85,82,69]
def mh : List (List UInt8 × List UInt8) -> Except (Nat × List UInt8) (List (List UInt8 × List UInt8)) -> Except (Nat × List UInt8) (List (List UInt8 × List UInt8))
 | [],x => x
 | p :: ps,x => match mh ps x with
  | .error e => .error e
  | .ok l => .ok (p :: l)
theorem rN : ∀ (ps : List (List UInt8 × List UInt8)) (x : Except (Nat × List UInt8) (List (List UInt8 × List UInt8))) (l : List (List UInt8 × List UInt8)),mh ps x = .ok l -> ∃ l2,l = ps ++ l2
 | [],x,l,_ => ⟨l,rfl⟩
 | p :: ps,x,l,h => by
  unfold mh at h
  split at h
  ·cases h
  ·rename_i l1 h1
   cases h; obtain ⟨l2,rfl⟩ := rN ps x l1 h1
   exact ⟨l2,rfl⟩
def ou (r : List UInt8) : List (List UInt8 × List UInt8) := ((match xS li with | .ok l => l | .error _ => []).dropLast).map fun (x : List UInt8 × List UInt8) => (x.1,x.2 ++ r)
theorem ig (r : List UInt8) : xS (li ++ 32 :: r) = mh (ou (32 :: r)) (vC (r.length + 169) (32 :: r)) := by kernel_rfl
def vN (q : Nat -> Int) : List Tok := ((ou []).map Prod.fst).zipIdx.map fun x => (x.1,q x.2)
def bg (x : Except (Int × Int) (T × Nat)) : T := match x with
 | .ok (t,_) => t
 | .error _ => t00
def bM (q : Nat -> Int) : T := bg (js (vN q) 3)
def cY (q : Nat -> Int) : T := bg (xb (vN q) sC (uE (vN q)) 6)
def tyT (q : Nat -> Int) : T := bg (xb (vN q) mg (vt (vN q)) 6)
def vaT (q : Nat -> Int) : T := bg (xb (vN q) dm (vj (vN q)) 31)
def ug : Nm := [77,97,105,110]
section
variable (q : Nat -> Int) (M : List Tok)
theorem iC : js (vN q ++ M) 3 = .ok (bM q,6) := by kernel_rfl
theorem ce : xb (vN q ++ M) sC (uE (vN q ++ M)) 6 = .ok (cY q,6) := by kernel_rfl
theorem bW : xb (vN q ++ M) mg (vt (vN q ++ M)) 6 = .ok (tyT q,31) := by kernel_rfl
theorem bT : xb (vN q ++ M) dm (vj (vN q ++ M)) 31 = .ok (vaT q,90) := by kernel_rfl
theorem cP : (zB (vN q ++ M) gy 0 = .ok ((),1) /\ vd (vN q ++ M) 1 = .ok (ug,2)) /\ zB (vN q ++ M) yl 2 = .ok ((),3) := ⟨⟨by kernel_rfl,by kernel_rfl⟩,by kernel_rfl⟩
end
theorem si {a b : T} {i j : Nat} (h : (Except.ok (a,i) : Except (Int × Int) (T × Nat)) = .ok (b,j)) : a = b /\ i = j := by
 cases h
 exact ⟨rfl,rfl⟩
def kE (q : Nat -> Int) (p x5 : Int) (l5 : List T) (m6 : T) : T := .mk 2 ug 0 p [bM q,cY q,tyT q,vaT q,.mk 1 [] 0 x5 l5,m6]
theorem oU {q : Nat -> Int} {M : List Tok} (hN : NumL (vN q ++ M)) (hL : (vN q ++ M).length <= 4010) {n : T} {j : Nat} (h : xE (vN q ++ M) 0 = .ok (n,j)) :
  ∃ p x5 l5 m6,n = kE q p x5 l5 m6 /\ (∀ t ∈ l5,PW t /\ FA t) /\ l5.length <= 4020 /\ vR m6.subs = true /\ FA m6 := by
 obtain ⟨L,b⟩ : ∃ z,z = vN q ++ M := ⟨_,rfl⟩; have d := cP q M; have i := iC q M; have k := ce q M; have l := bW q M; have m := bT q M; rw [<- b] at hN hL h d i k l m; clear b; obtain ⟨E,f,F,c⟩ := zi h; have c : (if wd L f = [] then .ok (E,f) else .error (yu L f)) = Except.ok (n,j) := c
 split at c
 ·cases c
  obtain ⟨_,_,r,G⟩ := zi (show P.bind (zB L gy) _ 0 = .ok (n,j) from F); rw [d.1.1] at r; cases r; obtain ⟨_,_,s,H⟩ := zi G; rw [d.1.2] at s; cases s; obtain ⟨_,_,v,I⟩ := zi H; rw [d.2] at v; cases v; obtain ⟨_,_,J,K⟩ := zi I; obtain ⟨rfl,rfl⟩ := si (i.symm.trans J); obtain ⟨_,_,N,O⟩ := zi K; obtain ⟨rfl,rfl⟩ := si (k.symm.trans N); obtain ⟨_,m6,Q,R⟩ := zi O; obtain ⟨rfl,rfl⟩ := si (l.symm.trans Q); obtain ⟨_,_,U,V⟩ := zi R; obtain ⟨rfl,rfl⟩ := si (m.symm.trans U); obtain ⟨X,w,Y,Z⟩ := zi V; obtain ⟨e,g,b6,hC⟩ := zi Z; obtain ⟨_,_,_,hD⟩ := zi hC; obtain ⟨_,_,_,hE⟩ := zi hD; obtain ⟨rfl,_⟩ := zH hE; obtain ⟨l5,_,x,c2⟩ := zi (show P.bind (yv L (L.length + 1) []) _ 90 = .ok (X,w) from Y); obtain ⟨rfl,_⟩ := zH c2; have hl := dP _ x; obtain ⟨a0,A,c3⟩ := ti _ x; rw [List.nil_append] at A; subst A; simp only [List.length_nil] at hl; refine ⟨_,_,l5,e,rfl,fun t ht => ?_,by omega,?_⟩
  ·obtain ⟨_,_,d1⟩ := c3 t ht
   exact cM hN hL d1
  ·obtain ⟨o,B,_,C⟩ := zi (show P.bind (yr L ju) _ w = .ok (e,g) from b6)
   cases o with
   | true =>
    have D := sD hN 20 _ _ _ (Nat.le_refl _) (show uG L 20 B = .ok (e,g) from C)
    exact ⟨og D,D.wf.2⟩
   | false =>
    obtain ⟨rfl,_⟩ := zH (show P.ret _ B = .ok (e,g) from C)
    exact ⟨rfl,.mk (by simp) (by omega) (by omega) fun u hu => by cases hu⟩
 ·cases c
def KS.ofB (S : KS) (k : Nat) (x : Nm) (wd : Int) (pts : List Int) : Bool := match S.typeOf k x with
 | none => false
 | some i => decide (i < S.tys.length) && S.ptB 9 i 0 && decide ((S.ty i).words = wd) && decide (S.ptsF 9 i 0 = pts)
def KS.fdB (S : KS) (k : Nat) (x y : Nm) (a wd : Int) : Bool := match S.typeOf k x with
 | none => false
 | some i => decide (i < S.tys.length) && decide ((S.ty i).form = 4) && match S.field i y with
  | none => false
  | some (d,_) => decide (d.first = a) && decide (d.ty < S.tys.length) && decide ((S.ty d.ty).words = wd)
def aA : Nm := [78,111,100,101]
def ap : Nm := [66,105,103]
def zbb : Nm := [82,101,99]
def cq : List Nm := [[118,97,108],[110,101,120,116],[109,111,114,101],[111,110]]
def KS.factB (S : KS) : Bool := S.ofB 0 aA 2 [1] && S.ofB 0 ap 4 [1] && S.ofB 1 zbb 4 [1,3] && (List.range 4).all fun j => S.fdB 0 ap ((cq[j]?).getD []) j 1
section
variable {S S' : KS}
theorem mu (h : S'.tys = S.tys) : ∀ (f i : Nat) (a : Int),S'.ptB f i a = S.ptB f i a
 | 0,i,a => rfl
 | f + 1,i,a => by
  simp only [KS.ptB,KS.ty,h]; simp only [mu h f]
  try rfl
theorem rG (h : S'.tys = S.tys) : ∀ (f i : Nat) (a : Int),S'.ptsF f i a = S.ptsF f i a
 | 0,i,a => rfl
 | f + 1,i,a => by
  simp only [KS.ptsF,KS.ty,h]; simp only [rG h f]
  try rfl
theorem fW (h : S'.tys = S.tys) : ∀ (f i : Nat) (x : Nm),S'.fieldF f i x = S.fieldF f i x
 | 0,i,x => rfl
 | f + 1,i,x => by
  simp only [KS.fieldF,KS.ty,h]; simp only [fW h f]
  try rfl
theorem qk (h : S'.tys = S.tys) {k : Nat} {x : Nm} (ht : ∀ i,S.typeOf k x = some i -> S'.typeOf k x = some i) {wd : Int} {pts : List Int} (hb : S.ofB k x wd pts = true) : S'.ofB k x wd pts = true := by
 unfold KS.ofB at *
 cases b : S.typeOf k x with
 | none => rw [b] at hb; cases hb
 | some i =>
  rw [b] at hb; rw [ht i b]; simp only [mu h,rG h,KS.ty,h] at hb ⊢
  exact hb
theorem ch (h : S'.tys = S.tys) {k : Nat} {x y : Nm} (ht : ∀ i,S.typeOf k x = some i -> S'.typeOf k x = some i) {a wd : Int} (hb : S.fdB k x y a wd = true) : S'.fdB k x y a wd = true := by
 unfold KS.fdB at *
 cases b : S.typeOf k x with
 | none => rw [b] at hb; cases hb
 | some i =>
  rw [b] at hb; rw [ht i b]; simp only [KS.field,fW h,KS.ty,h] at hb ⊢
  exact hb
theorem tH (hk : S.okB = true) {k : Nat} (hm : k < S.mds.length) {x : Nm} (hn : ∀ t,lk (S.md k).names x = some t -> lk (S'.md k).names x = some t) (ht : ∀ i,i < S.ths.length -> S'.th i = S.th i) {i : Nat} (h : S.typeOf k x = some i) : S'.typeOf k x = some i := by
 unfold KS.typeOf at *
 cases b : lk (S.md k).names x with
 | none => rw [b] at h; cases h
 | some t =>
  rw [b] at h; rw [hn t b]
  have c : t < S.ths.length := by
   obtain ⟨_,d,rfl⟩ := sK b
   exact uU ((KS.okP hk).mdP hm).1.1.1.2 d
  simp only [ht t c]
  exact h
theorem bd (hk : S.okB = true) (hm : S.mds.length = 2) (g : Gro 1 S S') (h : S.factB = true) : S'.factB = true := by
 have b : ∀ x i,S.typeOf 0 x = some i -> S'.typeOf 0 x = some i := fun x i => tH hk (by omega) (fun t e => by rw [g.md 0 (by omega)]; exact e) g.th
 have c : ∀ x i,S.typeOf 1 x = some i -> S'.typeOf 1 x = some i := fun x i => tH hk (by omega) (fun t e => g.nm x t e) g.th
 simp only [KS.factB,Bool.and_eq_true,List.all_eq_true] at h ⊢
 exact ⟨⟨⟨qk g.tys (b _) h.1.1.1,qk g.tys (b _) h.1.1.2⟩,qk g.tys (c _) h.1.2⟩,fun j hj => ch g.tys (b _) (h.2 j hj)⟩
end
/-! ### Texts that are right,as a question -/
def bJ (v : T) : Bool := match v.subs with
 | [] => false
 | u :: _ => decide (u.kind ≠ 0)
theorem pS {v : T} (h : bJ v = true) : OneSub v := by
 unfold bJ at h
 split at h
 ·cases h
 ·rename_i u r e
  exact ⟨u,r,e,by simpa using h⟩
def pwB (t : T) : Bool := decide (4 <= t.subs.length) && (sub t 0).subs.all bJ && (sub t 2).subs.all bJ && decide ((sub t 0).subs.length + (sub t 2).subs.length <= 90000) && vR (sub t 3).subs
theorem aZ {t : T} (h : pwB t = true) : PW t := by
 simp only [pwB,Bool.and_eq_true,decide_eq_true_eq,List.all_eq_true] at h
 exact ⟨h.1.1.1.1,fun v hv => pS (h.1.1.1.2 v hv),fun v hv => pS (h.1.1.2 v hv),h.1.2,h.2⟩
def dc (m : Nat) : Option KS -> Bool
 | none => false
 | some S6 => S6.okB && S6.fullB && decide (m < S6.mds.length) && decide ((S6.md m).names.length <= 1000) && decide ((S6.md m).decl.length <= 1000) && decide (S6.mods.length <= 1000)
theorem tO {m n : Nat} {o : Option KS} (h : dc m o = true) (hn : n <= 9000) : ∃ S6,o = some S6 /\ FuP S6 /\ S6.okB = true /\ m < S6.mds.length /\ (S6.md m).names.length + n <= 100000 /\ (S6.md m).decl.length + n <= 100000 /\ S6.mods.length <= 1000 := by
 cases o with
 | none => cases h
 | some S6 =>
  simp only [dc,Bool.and_eq_true,decide_eq_true_eq] at h
  exact ⟨S6,rfl,KS.fuP h.1.1.1.1.2,h.1.1.1.1.1,h.1.1.1.2,by omega,by omega,h.2⟩
def ir (S : KS) (n : T) : Bool := fitF 60 n && (lk S.mods n.name).isNone && (S.addMd { md0 with name := n.name }).okB && dc S.mds.length ((S.addMd { md0 with name := n.name }).bodyH S.mds.length n) && (decide ((sub n 4).subs.length <= 9000) && (sub n 4).subs.all pwB) && vR (sub n 5).subs
theorem cx {S : KS} {n : T} (h : ir S n = true) : TextOK S n := by
 simp only [ir,Bool.and_eq_true,decide_eq_true_eq,List.all_eq_true,Option.isNone_iff_eq_none] at h; obtain ⟨⟨⟨⟨⟨b,d⟩,e⟩,f⟩,c⟩,g⟩ := h
 exact ⟨fun t ht => pG b ht,dY b,d,e,tO f c.1,fun t ht => aZ (c.2 t ht),g⟩
def co : Option KS -> Bool
 | none => false
 | some S6 => dc 1 (some S6) && decide (S6.mds.length = 2) && S6.factB
structure LibOK (s : ByteArray) (S1 : KS) : Prop where
 n1 : s.size <= 4000
 t1 : ∀ l n j,xS s.data.toList = .ok l -> xE (xG s.data.toList.length l) 0 = .ok (n,j) -> TextOK ks0 n
 e1 : ks0.addE s.data.toList = some S1
 m1 : S1.mds.length = 1
 no : lk S1.mods ug = none
 ok1 : (S1.addMd { md0 with name := ug }).okB = true
 main : ∀ q p x5 l5 m6,co ((S1.addMd { md0 with name := ug }).bodyH 1 (kE q p x5 l5 m6)) = true
def tV (s : ByteArray) : KS := (ks0.addE s.data.toList).getD ks0
def ag (s : ByteArray) : Bool := decide (s.size <= 4000) && (match xS s.data.toList with
 | .error _ => false
 | .ok l => match xE (xG s.data.toList.length l) 0 with
  | .error _ => false
  | .ok (n,_) => ir ks0 n) && (ks0.addE s.data.toList).isSome && decide ((tV s).mds.length = 1) && (lk (tV s).mods ug).isNone && ((tV s).addMd { md0 with name := ug }).okB
theorem zai {s : ByteArray} (h : ag s = true) (hq : ∀ q p x5 l5 m6,co (((tV s).addMd { md0 with name := ug }).bodyH 1 (kE q p x5 l5 m6)) = true) : LibOK s (tV s) := by
 simp only [ag,Bool.and_eq_true,decide_eq_true_eq,Option.isNone_iff_eq_none] at h; obtain ⟨⟨⟨⟨⟨c,b⟩,d⟩,e⟩,f⟩,g⟩ := h; refine ⟨c,fun l n j hl hn => ?_,?_,e,f,g,hq⟩
 ·rw [hl] at b
  simp only [hn] at b
  exact cx b
 ·obtain ⟨_,i⟩ := vk d
  unfold tV
  rw [i]
  rfl
end Go.Proofs.YtnmkffjklpfflaaGreatDoor
