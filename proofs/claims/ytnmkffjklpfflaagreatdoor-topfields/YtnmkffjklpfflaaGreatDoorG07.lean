/- What is written of an expression is read as it was: words,and how the grammar reads them. -/
import Derived.Test.YtnmkffjklpfflaaGreatDoorG06
import Derived.Test.YtnmkffjklpfflaaGreatDoorG02
import Derived.Test.YtnmkffjklpfflaaGreatDoorG03
namespace Go.Proofs.YtnmkffjklpfflaaGreatDoor
/-! ### The words of an expression -/
/-! ### What can be read -/
inductive TyN : T -> Prop
 | own {x : List UInt8} {p : Int} (hx : yh x = true) : TyN (.mk 13 x 0 p [])
 | of {x y : List UInt8} {p q : Int} (hx : yh x = true) (hy : yh y = true) : TyN (.mk 13 x 0 p [.mk 24 y 0 q []])
/-! ### The grammar,taken back -/
theorem zi {α β : Type} {p : P α} {k : α -> P β} {i j : Nat} {b : β} (h : P.bind p k i = .ok (b,j)) : ∃ a m,p i = .ok (a,m) /\ k a m = .ok (b,j) := by
 unfold P.bind at h
 split at h
 ·cases h
 ·rename_i a m e
  exact ⟨a,m,e,h⟩
theorem zH {α : Type} {a b : α} {i j : Nat} (h : P.ret a i = .ok (b,j)) : a = b /\ i = j := by
 unfold P.ret at h
 cases h
 exact ⟨rfl,rfl⟩
theorem sn {L : List Tok} {w : List UInt8} {i j : Nat} {b : Bool} (h : yr L w i = .ok (b,j)) : (b = true /\ wd L i = w /\ j = i + 1) \/ (b = false /\ wd L i ≠ w /\ j = i) := by
 unfold yr at h
 split at h
 ·rename_i e; cases h; exact .inl ⟨rfl,e,rfl⟩
 ·rename_i e; cases h; exact .inr ⟨rfl,e,rfl⟩
theorem kM {L : List Tok} {i j : Nat} {s : List UInt8} (h : vd L i = .ok (s,j)) : yh s = true /\ s = wd L i /\ j = i + 1 := by
 unfold vd at h
 split at h
 ·rename_i e; cases h; exact ⟨e,rfl,rfl⟩
 ·cases h
theorem jT {L : List Tok} {kind : Int} {i j : Nat} {t : T} (h : vo L kind i = .ok (t,j)) : yh (wd L i) = true /\ t = .mk kind (wd L i) 0 (pos L i) [] /\ j = i + 1 := by
 obtain ⟨_,_,b,c⟩ := zi (show P.bind (vd L) _ i = .ok (t,j) from h); obtain ⟨d,rfl,rfl⟩ := kM b; obtain ⟨rfl,rfl⟩ := zH c
 exact ⟨d,rfl,rfl⟩
theorem sd {L : List Tok} {i j : Nat} {t : T} (h : yt L i = .ok (t,j)) : TyN t := by
 obtain ⟨_,m,d,e⟩ := zi h; obtain ⟨c,rfl,rfl⟩ := jT d; obtain ⟨_,m,f,b⟩ := zi e
 rcases sn f with ⟨rfl,_,rfl⟩ | ⟨rfl,_,rfl⟩
 ·rw [if_pos rfl] at b
  obtain ⟨_,m,g,k⟩ := zi b; obtain ⟨l,rfl,rfl⟩ := kM g; obtain ⟨rfl,rfl⟩ := zH k
  exact .of l c
 ·rw [if_neg (by simp)] at b
  obtain ⟨rfl,rfl⟩ := zH b
  exact .own c
def NumL (L : List Tok) : Prop := ∀ i n,ky (wd L i) = some n -> 0 <= n /\ n <= 2147483647
theorem bZ {x : List UInt8} (h : xR x = true) : vv x = 2 := by
 simp only [xR,Bool.or_eq_true,beq_iff_eq] at h
 rcases h with ((rfl | rfl) | rfl) | rfl <;> decide
theorem bC {x : List UInt8} (h : gW x = true) : vv x = 1 := by
 simp only [gW,Bool.or_eq_true,beq_iff_eq] at h
 rcases h with (rfl | rfl) | rfl <;> decide
theorem cX {x : List UInt8} (h : xO x = true) : vv x = 0 := by
 simp only [xO,Bool.or_eq_true,beq_iff_eq] at h
 rcases h with ((((rfl | rfl) | rfl) | rfl) | rfl) | rfl <;> decide
def kB : List (T × T) -> List T
 | [] => []
 | q :: l => q.1 :: q.2 :: kB l
/-! ### An expression's kind -/
/-! ### Acts -/
section
variable {L : List Tok}
theorem kX {part : P T} {sep : List UInt8} : ∀ (f : Nat) {acc l : List T} {i j : Nat},yE L part sep f acc i = .ok (l,j) -> ∃ r,l = acc ++ r /\ ∀ e ∈ r,∃ i j,part i = .ok (e,j)
 | 0,acc,l,i,j,h => by cases h
 | f + 1,acc,l,i,j,h => by
  rw [yE] at h; obtain ⟨_,_,h1,h2⟩ := zi h
  rcases sn h1 with ⟨rfl,_,rfl⟩ | ⟨rfl,_,rfl⟩
  ·rw [if_pos rfl] at h2
   obtain ⟨v,_,h3,h4⟩ := zi h2; obtain ⟨r,rfl,hr⟩ := kX f h4; refine ⟨v :: r,by simp,fun e he => ?_⟩
   rcases List.mem_cons.1 he with rfl | he
   ·exact ⟨_,_,h3⟩
   ·exact hr e he
  ·rw [if_neg (by simp)] at h2
   obtain ⟨rfl,_⟩ := zH h2
   exact ⟨[],by simp,fun e he => by cases he⟩
theorem vZ {part : P T} {sep : List UInt8} {l : List T} {i j : Nat} (h : vm L part sep i = .ok (l,j)) : ∀ e ∈ l,∃ i j,part i = .ok (e,j) := by
 unfold vm at h
 obtain ⟨_,_,_,g⟩ := zi h; obtain ⟨b,k,_,d⟩ := zi g; cases b with
 | true =>
  rw [if_pos rfl] at d; obtain ⟨rfl,_⟩ := zH d; intro e c; cases c
 | false =>
  rw [if_neg (by simp)] at d; obtain ⟨m,n,o,q⟩ := zi d; obtain ⟨_,_,_,r⟩ := zi q; obtain ⟨rfl,_⟩ := zH r; obtain ⟨_,_,s,f⟩ := zi (show P.bind part _ k = .ok (m,n) from o); obtain ⟨_,rfl,t⟩ := kX _ f; intro e c
  rcases List.mem_cons.1 c with rfl | c
  ·exact ⟨_,_,s⟩
  ·exact t e c
theorem fS {E A : P T} {l : List T} {i j : Nat} (h : jf L E A i = .ok (l,j)) : ∃ c a,l = [c,a] /\ (∃ i j,E i = .ok (c,j)) /\ ∃ i j,A i = .ok (a,j) := by
 obtain ⟨c,_,b,d⟩ := zi h; obtain ⟨_,_,_,e⟩ := zi d; obtain ⟨a,_,f,g⟩ := zi e; obtain ⟨rfl,_⟩ := zH g
 exact ⟨c,a,rfl,⟨_,_,b⟩,_,_,f⟩
theorem qM {E A : P T} : ∀ (f : Nat) {acc l : List T} {i j : Nat},yA L E A f acc i = .ok (l,j) -> ∃ ps,l = acc ++ kB ps /\ ∀ q ∈ ps,(∃ i j,E i = .ok (q.1,j)) /\ ∃ i j,A i = .ok (q.2,j)
 | 0,acc,l,i,j,h => by cases h
 | f + 1,acc,l,i,j,h => by
  rw [yA] at h; obtain ⟨_,_,h1,h2⟩ := zi h
  rcases sn h1 with ⟨rfl,_,rfl⟩ | ⟨rfl,_,rfl⟩
  ·rw [if_pos rfl] at h2
   obtain ⟨_,_,h3,h4⟩ := zi h2; obtain ⟨c,a,rfl,hc,ha⟩ := fS h3; obtain ⟨ps,rfl,hr⟩ := qM f h4; refine ⟨(c,a) :: ps,by simp [kB],fun e he => ?_⟩
   rcases List.mem_cons.1 he with rfl | he
   ·exact ⟨hc,ha⟩
   ·exact hr e he
  ·rw [if_neg (by simp)] at h2
   obtain ⟨rfl,_⟩ := zH h2
   exact ⟨[],by simp [kB],fun e he => by cases he⟩
theorem rk {E A : P T} : ∀ (f : Nat) {acc l : List T} {i j : Nat},yw L E A f acc i = .ok (l,j) -> ∃ r,l = acc ++ r /\ ∀ e ∈ r,∃ i j,xu L E A i = .ok (e,j)
 | 0,acc,l,i,j,h => by cases h
 | f + 1,acc,l,i,j,h => by
  rw [yw] at h; obtain ⟨acc2,_,h1,h2⟩ := zi h
  have h1 : ∃ r,acc2 = acc ++ r /\ ∀ e ∈ r,∃ i j,xu L E A i = .ok (e,j) := by
   split at h1
   ·obtain ⟨rfl,_⟩ := zH h1
    exact ⟨[],by simp,fun e c => by cases c⟩
   ·obtain ⟨t,o,m,d⟩ := zi h1
    obtain ⟨rfl,_⟩ := zH d
    exact ⟨[t],rfl,fun e c => by cases List.mem_singleton.1 c; exact ⟨_,_,m⟩⟩
  obtain ⟨n,rfl,g⟩ := h1; obtain ⟨b,o,m,d⟩ := zi h2; cases b with
  | true =>
   rw [if_pos rfl] at d; obtain ⟨q,rfl,k⟩ := rk f d; refine ⟨n ++ q,by simp,fun e c => ?_⟩
   rcases List.mem_append.1 c with c | c
   ·exact g e c
   ·exact k e c
  | false =>
   rw [if_neg (by simp)] at d; obtain ⟨rfl,_⟩ := zH d
   exact ⟨n,rfl,g⟩
end
/-! ### Declarations -/
inductive VL : T -> Prop
 | mk {x : List UInt8} {p : Int} {y : T} (hx : yh x = true) (hy : TyN y) : VL (.mk 6 x 0 p [y])
inductive BT : T -> Prop
 | none {q : Int} : BT (.mk 0 [] 0 q [])
 | some {y : T} (hy : TyN y) : BT y
theorem nI {y : T} (h : TyN y) : y.kind = 13 := by cases h <;> rfl
inductive PD : T -> Prop
 | mk {x : List UInt8} {m p : Int} {y : T} (hx : yh x = true) (hm : m = 0 \/ m = 1) (hy : TyN y) : PD (.mk 8 x m p [y])
section
variable {L : List Tok}
theorem dZ {part : P T} : ∀ (f : Nat) {acc l : List T} {i j : Nat},yc L part f acc i = .ok (l,j) -> ∃ r,l = acc ++ r /\ ∀ e ∈ r,∃ i j,part i = .ok (e,j)
 | 0,acc,l,i,j,h => by cases h
 | f + 1,acc,l,i,j,h => by
  rw [yc] at h; have h : (if yh (wd L i) = true then part.bind (fun t => (zB L yl).bind fun _ => yc L part f (acc ++ [t])) i else .ok (acc,i)) = .ok (l,j) := h
  split at h
  ·obtain ⟨t,_,h1,h2⟩ := zi h
   obtain ⟨_,_,_,h3⟩ := zi h2; obtain ⟨r,rfl,hr⟩ := dZ f h3; refine ⟨t :: r,by simp,fun e he => ?_⟩
   rcases List.mem_cons.1 he with rfl | he
   ·exact ⟨_,_,h1⟩
   ·exact hr e he
  ·cases h
   exact ⟨[],by simp,fun e he => by cases he⟩
theorem ti : ∀ (f : Nat) {acc l : List T} {i j : Nat},yv L f acc i = .ok (l,j) -> ∃ r,l = acc ++ r /\ ∀ e ∈ r,∃ i j,yJ L i = .ok (e,j)
 | 0,acc,l,i,j,h => by cases h
 | f + 1,acc,l,i,j,h => by
  rw [yv] at h; have h : (if wd L i = yV then (yJ L).bind (fun t => (zB L yl).bind fun _ => yv L f (acc ++ [t])) i else .ok (acc,i)) = .ok (l,j) := h
  split at h
  ·obtain ⟨t,_,h1,h2⟩ := zi h
   obtain ⟨_,_,_,h3⟩ := zi h2; obtain ⟨r,rfl,hr⟩ := ti f h3; refine ⟨t :: r,by simp,fun e he => ?_⟩
   rcases List.mem_cons.1 he with rfl | he
   ·exact ⟨_,_,h1⟩
   ·exact hr e he
  ·cases h
   exact ⟨[],by simp,fun e he => by cases he⟩
theorem rR {k : List UInt8} {part : P T} {t : T} {i j : Nat} (h : xb L k part i = .ok (t,j)) : ∃ q l,t = .mk 1 [] 0 q l /\ ∀ e ∈ l,∃ i j,part i = .ok (e,j) := by
 obtain ⟨b,m,_,c⟩ := zi (show P.bind (yr L k) _ i = .ok (t,j) from h); cases b with
 | true =>
  obtain ⟨l,_,f,g⟩ := zi (show P.bind (yc L part (L.length + 1) []) _ m = .ok (t,j) from c); obtain ⟨rfl,_⟩ := zH g; obtain ⟨_,d,n⟩ := dZ _ f; rw [List.nil_append] at d; subst d
  exact ⟨_,_,rfl,n⟩
 | false =>
  obtain ⟨rfl,_⟩ := zH (show P.ret _ m = .ok (t,j) from c)
  exact ⟨_,_,rfl,fun e he => by cases he⟩
theorem nt {kind : Int} {t : T} {i j : Nat} (h : xj L kind i = .ok (t,j)) : ∃ x m p,t = .mk kind x m p [] /\ yh x = true /\ (m = 0 \/ m = 1) := by
 obtain ⟨_,m,d,e⟩ := zi h; obtain ⟨c,rfl,rfl⟩ := jT d; obtain ⟨b,_,_,f⟩ := zi e; obtain ⟨rfl,_⟩ := zH f; cases b with
 | true => exact ⟨_,_,_,rfl,c,.inr rfl⟩
 | false => exact ⟨_,_,_,rfl,c,.inl rfl⟩
theorem tp {k : Int} {x : List UInt8} {m p : Int} {l : List T} {t : T} {i j : Nat} (h : kc L (.mk k x m p l) i = .ok (t,j)) : ∃ y,t = .mk k x m p [y] /\ TyN y := by
 obtain ⟨_,m,_,b⟩ := zi h; obtain ⟨y,_,c,d⟩ := zi b; obtain ⟨rfl,_⟩ := zH d
 exact ⟨y,rfl,sd c⟩
theorem zaf {t : T} {i j : Nat} (h : kr L i = .ok (t,j)) : VL t := by
 obtain ⟨_,_,b,c⟩ := zi h; obtain ⟨d,rfl,rfl⟩ := jT b; obtain ⟨_,rfl,e⟩ := tp c
 exact .mk d e
theorem bI {t : T} {i j : Nat} (h : gu L i = .ok (t,j)) : BT t := by
 obtain ⟨b,m,_,c⟩ := zi (show P.bind (yr L kG) _ i = .ok (t,j) from h); cases b with
 | true => exact .some (sd (show yt L m = .ok (t,j) from c))
 | false =>
  obtain ⟨rfl,_⟩ := zH (show P.ret _ m = .ok (t,j) from c)
  exact .none
theorem cR (hN : NumL L) {n : Int} {i j : Nat} (h : qY L i = .ok (n,j)) : 0 <= n /\ n <= 2147483647 := by
 unfold qY at h
 split at h
 ·rename_i q hq
  cases h
  exact hN _ _ hq
 ·cases h
theorem zak {t : T} {i j : Nat} (h : xw L i = .ok (t,j)) : PD t := by
 obtain ⟨b,m,_,c⟩ := zi (show P.bind (yr L dm) _ i = .ok (t,j) from h); obtain ⟨_,_,d,e⟩ := zi (show P.bind (vd L) _ m = .ok (t,j) from c); obtain ⟨f,_,_⟩ := kM d; obtain ⟨_,rfl,g⟩ := tp e; refine .mk f ?_ g; cases b with
 | true => exact .inr rfl
 | false => exact .inl rfl
end
theorem aS {L : List Tok} (k : Nat) : wd L k = ((L.map Prod.fst)[k]?).getD [] := by
 unfold wd
 rw [List.getElem?_map]
 cases L[k]? <;> rfl
/-! ### The text doesn't hang on places -/
theorem tI : ∀ (l : List UInt8) (v n : Int),0 <= v -> v <= 2147483647 -> l.all (fun c => zx c.toNat) = true -> zU v l = some n -> 0 <= n /\ n <= 2147483647
 | [],v,n,h0,h1,_,h => by
  rw [zU] at h; cases h
  exact ⟨h0,h1⟩
 | c :: l,v,n,h0,h1,ha,h => by
  simp only [List.all_cons,Bool.and_eq_true] at ha; have hd := ha.1
  unfold zx at hd
  rw [decide_eq_true_eq] at hd; rw [zU] at h
  split at h
  ·cases h
  ·exact tI l _ n (by omega) (by omega) ha.2 h
theorem lD (p : Int -> Bool) (r : List UInt8) : (yb p r).all (fun c => p c.toNat) = true := by
 unfold yb
 induction r with
 | nil => rfl
 | cons c r ih =>
  rw [List.takeWhile_cons]
  split
  ·rename_i h; rw [List.all_cons,h,ih]; rfl
  ·rfl
theorem cf {r w : List UInt8} {n : Int} (h : xp r = .ok w) (hn : ky w = some n) : 0 <= n /\ n <= 2147483647 := by
 have g : zx ((w.headD 0).toNat : Int) = true /\ zU 0 w = some n := by
  unfold ky at hn
  split at hn
  ·rename_i d; exact ⟨d.2,hn⟩
  ·cases hn
 unfold xp at h
 split at h
 ·rename_i hl
  split at h
  ·cases h
  ·cases h
   cases r with
   | nil => simp [zG] at hl
   | cons c r =>
    have d : zG (c.toNat : Int) = true := hl
    have f : lod (c.toNat : Int) = true := by unfold lod; rw [d]; rfl
    have e : (yb lod (c :: r)).headD 0 = c := by
     unfold yb
     rw [List.takeWhile_cons,if_pos f]
     rfl
    have b := g.1; rw [e] at b
    unfold zG at d
    unfold zx at b
    rw [decide_eq_true_eq] at d b
    omega
 ·split at h
  ·split at h
   ·cases h
   ·cases h
    exact tI _ 0 n (by omega) (by omega) (lD zx r) g.2
  ·rename_i hl hd
   split at h
   ·cases h
   ·rename_i hs
    cases h
    exfalso
    apply hd
    have b := g.1
    unfold ys at b hs
    cases r with
    | nil => simp [zM] at hs
    | cons c r =>
     split at b
     ·simpa using b
     ·split at b
      ·simpa using b
      ·simp [zx] at b
theorem od : ∀ (k : Nat) (r : List UInt8) (l : List (List UInt8 × List UInt8)),vC k r = .ok l -> ∀ x ∈ l,∀ n,ky x.1 = some n -> 0 <= n /\ n <= 2147483647
 | 0,r,l,h,x,hx,n,hn => by
  rw [vC] at h; cases h; cases hx
 | k + 1,r,l,h,x,hx,n,hn => by
  rw [vC] at h
  split at h
  ·cases h
  ·cases h
   cases List.mem_singleton.1 hx
   simp [ky] at hn
  ·rename_i c r' hk
   split at h
   ·cases h
   ·rename_i w hw
    split at h
    ·cases h
    ·rename_i l1 hl1
     cases h
     rcases List.mem_cons.1 hx with rfl | hx
     ·exact cf hw hn
     ·exact od k _ l1 hl1 x hx n hn
theorem cL {r : List UInt8} {l : List (List UInt8 × List UInt8)} (h : xS r = .ok l) {L : List Tok} (hL : L.map Prod.fst = l.map Prod.fst) : NumL L := by
 intro i n b; rw [aS,hL,List.getElem?_map] at b; cases c : l[i]? with
 | none => rw [c] at b; simp [ky] at b
 | some x =>
  rw [c] at b
  exact od _ r l h x (List.mem_of_getElem? c) n b
abbrev W8 := List UInt8
/-! ### A constant's words -/
/-! ### How many operators -/
/-! ### Pieces -/
/-! ### What it is for -/
end Go.Proofs.YtnmkffjklpfflaaGreatDoor
