/- A text's tree has no more than two nodes a word. -/
import Derived.Test.YtfjgelmllcnokaaGreatDoorG06
import Derived.Test.YtfjgelmllcnokaaGreatDoorG07
namespace Go.Proofs.YtfjgelmllcnokaaGreatDoor
theorem vX (t : T) : zu [t] = zr t := by rw [zu,zu]; omega
theorem lZ (t : T) : zA t <= zr t := by
 have b : ∀ n (t : T),zr t <= n -> zA t <= zr t := by
  intro n
  induction n with
  | zero => intro t h; have := vA t; omega
  | succ n ih =>
   intro t h; obtain ⟨_,_,_,_,l⟩ := t; rw [zr] at h; rw [zr,zA]
   have d : ∀ l : List T,zu l <= n -> yM l <= zu l := by
    intro l
    induction l with
    | nil => intro _; simp [yM]
    | cons u l il =>
     intro e; rw [zu] at e; rw [yM,zu]; have f := ih u (by omega); have g := il (by omega)
     omega
   have := d l (by omega)
   omega
 exact b _ t (Nat.le_refl _)
section
variable {L : List Tok}
theorem rK {i : Nat} (h : wd L i ≠ []) : i < L.length := by
 rcases Nat.lt_or_ge i L.length with b | b
 ·exact b
 ·exact absurd (by unfold wd; rw [List.getElem?_eq_none b]; rfl) h
theorem yp {w : List UInt8} {i j : Nat} {b : Unit} (h : zx L w i = .ok (b,j)) (hw : w ≠ []) : i < L.length /\ j = i + 1 := by
 obtain ⟨d,rfl⟩ := lJ h
 exact ⟨rK (by rw [d]; exact hw),rfl⟩
theorem jt {w : List UInt8} {i j : Nat} {b : Bool} (h : yP L w i = .ok (b,j)) (hw : w ≠ []) : (b = true /\ i < L.length /\ j = i + 1) \/ (b = false /\ j = i) := by
 rcases gG h with ⟨d,e,rfl⟩ | ⟨d,_,rfl⟩
 ·exact .inl ⟨d,rK (by rw [e]; exact hw),rfl⟩
 ·exact .inr ⟨d,rfl⟩
theorem fK {x : List UInt8} (h : zF x = true) : x ≠ [] := fun e => by subst e; revert h; decide
theorem tL {i j : Nat} {s : List UInt8} (h : uo L i = .ok (s,j)) : i < L.length /\ j = i + 1 := by
 obtain ⟨b,rfl,rfl⟩ := jU h
 exact ⟨rK (fK b),rfl⟩
theorem zdf {i j : Nat} {n : Int} (h : qd L i = .ok (n,j)) : i < L.length /\ j = i + 1 := by
 unfold qd at h
 split at h
 ·rename_i q hq
  cases h; refine ⟨rK (fun e => ?_),rfl⟩; rw [e] at hq
  simp [ku] at hq
 ·cases h
theorem gc {kind : Int} {i j : Nat} {t : T} (h : vj L kind i = .ok (t,j)) : i < L.length /\ j = i + 1 /\ zr t = 1 := by
 obtain ⟨b,rfl,rfl⟩ := uH h
 exact ⟨rK (fK b),rfl,gi _ _ _ _⟩
theorem dj {kind : Int} {i j : Nat} {t : T} (h : xq L kind i = .ok (t,j)) : j <= L.length /\ i + 1 <= j := by
 obtain ⟨_,_,b,d⟩ := zc h; obtain ⟨_,_,e,f⟩ := zc d; obtain ⟨_,rfl⟩ := zk f; have l := gc b
 rcases jt e (by decide) with g | g <;> omega
def Cz (L : List Tok) (p : P T) (g : Nat) : Prop := ∀ i t j,p i = .ok (t,j) -> i <= L.length -> j <= L.length /\ zr t + 2 * i + g <= 2 * j
theorem rG : Cz L (yu L) 1 := by
 intro i t j h r; obtain ⟨n,m,d,e⟩ := zc h; obtain ⟨_,_,f,b⟩ := zc e; have s := gc d
 rcases jt f (by decide) with ⟨rfl,u,g⟩ | ⟨rfl,g⟩
 ·rw [if_pos rfl] at b
  obtain ⟨_,_,l,o⟩ := zc b; obtain ⟨rfl,rfl⟩ := zk o; have v := tL l; obtain ⟨_,_,m,_,_⟩ := n; rw [qj,gi]
  omega
 ·rw [if_neg (by simp)] at b
  obtain ⟨rfl,rfl⟩ := zk b
  omega
theorem tZ {u t : T} {i j : Nat} (h : jA L u i = .ok (t,j)) : j <= L.length /\ zr t + 2 * i + 2 <= 2 * j := by
 obtain ⟨_,m,d,e⟩ := zc h; obtain ⟨y,b,f,g⟩ := zc e; obtain ⟨rfl,rfl⟩ := zk g; have l := yp d (by decide); have n := rG _ _ _ f (by omega); obtain ⟨k,x,m,a,_⟩ := u
 show b <= L.length /\ zr (T.mk k x m a [y]) + 2 * i + 2 <= 2 * b
 rw [qj]
 omega
theorem rF {part : P T} {g : Nat} (hp : Cz L part g) {sep : List UInt8} (hs : sep ≠ []) : ∀ (f : Nat) {acc l : List T} {i j : Nat},yG L part sep f acc i = .ok (l,j) -> i <= L.length -> j <= L.length /\ zu l + 2 * i <= 2 * j + zu acc
 | 0,acc,l,i,j,h,hi => by cases h
 | f + 1,acc,l,i,j,h,hi => by
  rw [yG] at h; obtain ⟨_,_,h1,h2⟩ := zc h
  rcases jt h1 hs with ⟨rfl,a2,a3⟩ | ⟨rfl,a3⟩
  ·rw [if_pos rfl] at h2
   obtain ⟨_,_,h3,h4⟩ := zc h2; have a4 := hp _ _ _ h3 (by omega); have a5 := rF hp hs f h4 a4.1; rw [vB,vX] at a5
   omega
  ·rw [if_neg (by simp)] at h2
   obtain ⟨rfl,rfl⟩ := zk h2
   omega
theorem zbx {part : P T} (hp : Cz L part 1) {sep : List UInt8} (hs : sep ≠ []) {l : List T} {i j : Nat} (h : xC L part sep i = .ok (l,j)) (hi : i <= L.length) : j <= L.length /\ zu l + 2 * i + 1 <= 2 * j := by
 obtain ⟨_,_,b,d⟩ := zc h; have e := hp _ _ _ b hi; have f := rF hp hs _ d e.1; rw [vX] at f
 omega
theorem mZ {part : P T} (hp : Cz L part 1) {sep : List UInt8} (hs : sep ≠ []) {l : List T} {i j : Nat} (h : xF L part sep i = .ok (l,j)) : j <= L.length /\ zu l + 2 * i + 4 <= 2 * j := by
 obtain ⟨_,_,d,e⟩ := zc h; obtain ⟨_,_,f,b⟩ := zc e; have s := yp d (by decide)
 rcases jt f (by decide) with ⟨rfl,t,g⟩ | ⟨rfl,g⟩
 ·rw [if_pos rfl] at b
  obtain ⟨rfl,rfl⟩ := zk b; rw [zu]
  omega
 ·rw [if_neg (by simp)] at b
  obtain ⟨u,v,m,n⟩ := zc b; obtain ⟨_,_,o,r⟩ := zc n; obtain ⟨rfl,rfl⟩ := zk r; have w := zbx hp hs m (by omega); have x := yp o (by decide)
  omega
/-! ### Expressions -/
section
variable {E : P T} (hE : Cz L E 1)
include hE
theorem ze0 {u v : T} {i j : Nat} (hi : i < L.length) (h : xH L E u i = .ok (v,j)) : j <= L.length /\ zr v + 2 * i <= 2 * j + zr u := by
 unfold xH at h
 split at h
 ·obtain ⟨_,m,b,d⟩ := zc h
  obtain ⟨rfl,rfl⟩ := zk d; have := tL b; rw [qj]
  omega
 ·split at h
  ·obtain ⟨_,m,b,d⟩ := zc h
   obtain ⟨_,g,e,f⟩ := zc d; obtain ⟨rfl,rfl⟩ := zk f; have l := hE _ _ _ b (by omega); have n := yp e (by decide); rw [fp]
   omega
  ·split at h
   ·cases h
    rw [qj]
    omega
   ·obtain ⟨_,m,b,d⟩ := zc h
    obtain ⟨_,g,e,f⟩ := zc d; obtain ⟨rfl,rfl⟩ := zk f; have l := rG _ _ _ b (by omega); have n := yp e (by decide); rw [fp]
    omega
omit hE in
theorem zej {i : Nat} (h : yb (wd L i) = true) : i < L.length := rK (fun e => by rw [e] at h; revert h; decide)
theorem lG : ∀ (f : Nat) {u t : T} {i j : Nat},zt L E f u i = .ok (t,j) -> i <= L.length -> j <= L.length /\ zr t + 2 * i <= 2 * j + zr u
 | 0,u,t,i,j,h,hi => by
  rw [zt] at h; have h : (if yb (wd L i) = true then (xH L E u).bind (fun _ => vM L) i else .ok (u,i)) = .ok (t,j) := h
  split at h
  ·obtain ⟨_,_,_,h2⟩ := zc h
   cases h2
  ·cases h; omega
 | f + 1,u,t,i,j,h,hi => by
  rw [zt] at h; have h : (if yb (wd L i) = true then (xH L E u).bind (fun n' => zt L E f n') i else .ok (u,i)) = .ok (t,j) := h
  split at h
  ·rename_i hn
   obtain ⟨_,_,h1,h2⟩ := zc h; have a1 := ze0 hE (zej hn) h1; have a2 := lG f h2 a1.1
   omega
  ·cases h; omega
theorem oH : Cz L (zQ L E) 1 := by
 intro i t j h e; obtain ⟨_,_,b,d⟩ := zc h; have f := gc b; have g := lG hE 20 d (by omega)
 omega
theorem bk {l : List T} {i j : Nat} (h : yS L E i = .ok (l,j)) : j <= L.length /\ zu l + 2 * i + 4 <= 2 * j := mZ hE (by decide) h
omit hE in
theorem mM {i : Nat} {w : List UInt8} (h : wd L i = w) (hw : w ≠ []) : i < L.length := rK (by rw [h]; exact hw)
theorem zg4 {F : P T} (hF : Cz L F 1) : Cz L (zV L E F) 1 := by
 intro i t j h n
 unfold zV at h
 split at h
 ·rename_i hw; cases h; have := mM hw (by decide); rw [gi]; omega
 split at h
 ·rename_i hw; cases h; have := mM hw (by decide); rw [gi]; omega
 split at h
 ·rename_i hw; cases h; have := mM hw (by decide); rw [gi]; omega
 split at h
 ·rename_i hw
  obtain ⟨_,m,e,b⟩ := zc h; obtain ⟨rfl,rfl⟩ := zk b; have := mM hw (by decide); have := hF _ _ _ e (by omega); rw [qj]
  omega
 split at h
 ·rename_i hw
  obtain ⟨_,m,e,b⟩ := zc h; obtain ⟨_,o,f,g⟩ := zc b; obtain ⟨rfl,rfl⟩ := zk g; have := mM hw (by decide); have := hE _ _ _ e (by omega); have := yp f (by decide)
  omega
 split at h
 ·unfold yB at h
  obtain ⟨d,m,e,b⟩ := zc h; have b : (if wd L m = yw then (yS L E).bind (fun l => P.ret (.mk 33 [] 0 d.at' (d :: l))) m else .ok (d,m)) = .ok (t,j) := b; have r := oH hE _ _ _ e n
  split at b
  ·obtain ⟨l,o,f,g⟩ := zc b
   obtain ⟨rfl,rfl⟩ := zk g; have s := bk hE f; rw [zr,zu]
   omega
  ·cases b
   omega
 ·obtain ⟨m,_,e,b⟩ := zc h
  obtain ⟨rfl,rfl⟩ := zk b; have := zdf e; rw [gi]
  omega
end
theorem fw {J : List UInt8 -> Bool} {part : P T} (hJ : J [] = false) (hp : Cz L part 1) : ∀ (f : Nat) {u t : T} {i j : Nat},yO L J part f u i = .ok (t,j) -> i <= L.length -> j <= L.length /\ zr t + 2 * i <= 2 * j + zr u
 | 0,u,t,i,j,h,hi => by
  rw [yO] at h; have h : (if J (wd L i) = true then vM L (i + 1) else .ok (u,i)) = .ok (t,j) := h
  split at h
  ·cases h
  ·cases h; omega
 | f + 1,u,t,i,j,h,hi => by
  rw [yO] at h; have h : (if J (wd L i) = true then part.bind (fun r => yO L J part f (opT (wd L i) u r)) (i + 1) else .ok (u,i)) = .ok (t,j) := h
  split at h
  ·rename_i hw
   obtain ⟨_,_,h1,h2⟩ := zc h; have a0 : i < L.length := rK (fun e => by rw [e,hJ] at hw; cases hw); have a1 := hp _ _ _ h1 (by omega); have a2 := fw hJ hp f h2 a1.1
   unfold opT at a2
   rw [fp] at a2
   omega
  ·cases h; omega
theorem nu : ∀ (n : Nat),Cz L (yy L n) 1 /\ Cz L (xf L n) 1
 | 0 => ⟨fun i t j h => (by cases h),fun i t j h => (by cases h)⟩
 | n + 1 => by
  obtain ⟨hE,hF⟩ := nu n; have hfac : Cz L (kP L n) 1 := zg4 hE hF
  have hpro : Cz L (jX L n) 1 := fun i t j h hi => by
   obtain ⟨u,m,h1,h2⟩ := zc (show P.bind (kP L n) _ i = .ok (t,j) from h); have a1 := hfac _ _ _ h1 hi; have a2 := fw (by decide) hfac 20 h2 a1.1
   omega
  have hsum : Cz L (kM L n) 1 := fun i t j h hi => by
   obtain ⟨b,m,h1,h2⟩ := zc (show P.bind (yP L vd) _ i = .ok (t,j) from h); obtain ⟨u,m2,h3,h4⟩ := zc (show P.bind (jX L n) _ m = .ok (t,j) from h2)
   rcases jt h1 (by decide) with ⟨rfl,a2,a3⟩ | ⟨rfl,a3⟩
   ·have a1 := hpro _ _ _ h3 (by omega)
    have a4 := fw (by decide) hpro 20 h4 a1.1; rw [if_pos rfl,qj] at a4
    omega
   ·have a1 := hpro _ _ _ h3 (by omega)
    have a4 := fw (by decide) hpro 20 h4 a1.1; rw [if_neg (by simp)] at a4
    omega
  refine ⟨fun i t j h hi => ?_,hfac⟩; rw [uT] at h; obtain ⟨a,m,h1,h2⟩ := zc (show P.bind (kM L n) _ i = .ok (t,j) from h); have h2 : (if wd L m = kIS then (yu L).bind (fun y => P.ret (.mk 37 [] 0 a.at' [a,y])) (m + 1) else if xE (wd L m) = true then (kM L n).bind (fun b => P.ret (opT (wd L m) a b)) (m + 1) else .ok (a,m)) = .ok (t,j) := h2; have a1 := hsum _ _ _ h1 hi
  split at h2
  ·rename_i hw
   obtain ⟨y,m2,h3,h4⟩ := zc h2; obtain ⟨rfl,rfl⟩ := zk h4; have a0 : m < L.length := rK (by rw [hw]; decide); have a2 := rG _ _ _ h3 (by omega); rw [fp]
   omega
  ·split at h2
   ·rename_i hc
    obtain ⟨b,m2,h3,h4⟩ := zc h2; obtain ⟨rfl,rfl⟩ := zk h4; have a0 : m < L.length := rK (fun e => by rw [e] at hc; revert hc; decide); have a2 := hsum _ _ _ h3 (by omega)
    unfold opT
    rw [fp]
    omega
   ·cases h2
    omega
/-! ### Acts -/
def Az (L : List Tok) (p : P T) : Prop := ∀ i t j,p i = .ok (t,j) -> i <= L.length -> j <= L.length /\ zr t + 2 * i <= 2 * j + 1
section
variable {E A : P T} (hE : Cz L E 1) (hA : Az L A)
include hE hA
theorem pI {l : List T} {i j : Nat} (h : jK L E A i = .ok (l,j)) (hi : i <= L.length) : j <= L.length /\ zu l + 2 * i + 2 <= 2 * j := by
 obtain ⟨_,_,b,d⟩ := zc h; obtain ⟨_,_,e,f⟩ := zc d; obtain ⟨_,_,g,m⟩ := zc f; obtain ⟨rfl,rfl⟩ := zk m; have n := hE _ _ _ b hi; have o := yp e (by decide); have r := hA _ _ _ g (by omega); rw [zu,vX]
 omega
theorem rP : ∀ (f : Nat) {acc l : List T} {i j : Nat},xh L E A f acc i = .ok (l,j) -> i <= L.length -> j <= L.length /\ zu l + 2 * i <= 2 * j + zu acc
 | 0,acc,l,i,j,h,hi => by cases h
 | f + 1,acc,l,i,j,h,hi => by
  rw [xh] at h; obtain ⟨_,_,h1,h2⟩ := zc h
  rcases jt h1 (by decide) with ⟨rfl,a2,a3⟩ | ⟨rfl,a3⟩
  ·rw [if_pos rfl] at h2
   obtain ⟨_,_,h3,h4⟩ := zc h2; have a4 := pI hE hA h3 (by omega); have a5 := rP f h4 a4.1; rw [vB] at a5
   omega
  ·rw [if_neg (by simp)] at h2
   obtain ⟨rfl,rfl⟩ := zk h2
   omega
theorem zgb : Cz L (xQ L E A) 0 := by
 intro i t j h O
 have f : ∀ {M : Int} {k : List UInt8} {o : P T},k ≠ [] -> Cz L o 1 -> vm L M k o i = .ok (t,j) -> j <= L.length /\ zr t + 2 * i + 0 <= 2 * j := by
  intro M k o R U h; obtain ⟨_,m,r,b⟩ := zc (show P.bind (zx L k) _ i = .ok (t,j) from h); obtain ⟨_,C,g,n⟩ := zc b; obtain ⟨e,F,u,v⟩ := zc n; obtain ⟨_,H,w,s⟩ := zc v; obtain ⟨rfl,rfl⟩ := zk s; have D := yp r R; have x := yp g (by decide); have I := U _ _ _ u (by omega); have J := yp w (by decide); rw [qj]
  omega
 unfold xQ at h
 split at h
 ·obtain ⟨_,m,r,b⟩ := zc (show P.bind (zx L kIF) _ i = .ok (t,j) from h)
  obtain ⟨l,C,g,n⟩ := zc b; obtain ⟨_,F,u,v⟩ := zc n; obtain ⟨_,H,w,s⟩ := zc v; have D := yp r (by decide); have x := pI hE hA g (by omega); have I := rP hE hA _ u x.1
  rcases jt w (by decide) with ⟨rfl,J,N⟩ | ⟨rfl,N⟩
  ·rw [if_pos rfl] at s
   obtain ⟨_,V,K,y⟩ := zc s; obtain ⟨_,X,z,B⟩ := zc y; obtain ⟨rfl,rfl⟩ := zk B; have Z := hA _ _ _ K (by omega); have Y := yp z (by decide); rw [zr,vB,vX]
   omega
  ·rw [if_neg (by simp)] at s
   obtain ⟨_,X,z,B⟩ := zc s; obtain ⟨rfl,rfl⟩ := zk B; have Y := yp z (by decide); rw [zr]
   omega
 split at h
 ·obtain ⟨_,m,r,b⟩ := zc (show P.bind (zx L ue) _ i = .ok (t,j) from h)
  obtain ⟨c,C,g,n⟩ := zc b; obtain ⟨_,F,u,v⟩ := zc n; obtain ⟨a,H,w,s⟩ := zc v; obtain ⟨_,V,K,y⟩ := zc s; obtain ⟨rfl,rfl⟩ := zk y; have D := yp r (by decide); have x := hE _ _ _ g (by omega); have I := yp u (by decide); have J := hA _ _ _ w (by omega); have N := yp K (by decide); rw [fp]
  omega
 split at h
 ·obtain ⟨_,m,r,b⟩ := zc (show P.bind (zx L va) _ i = .ok (t,j) from h)
  obtain ⟨a,C,g,n⟩ := zc b; obtain ⟨_,F,u,v⟩ := zc n; obtain ⟨c,H,w,s⟩ := zc v; obtain ⟨rfl,rfl⟩ := zk s; have D := yp r (by decide); have x := hA _ _ _ g (by omega); have I := yp u (by decide); have J := hE _ _ _ w (by omega); rw [fp]
  omega
 split at h
 ·obtain ⟨_,m,r,b⟩ := zc (show P.bind (zx L xK) _ i = .ok (t,j) from h)
  have D := yp r (by decide); have b : (if yF (wd L m) = true then .ok (.mk 19 [] 0 (pos L i) [],m) else E.bind (fun e => P.ret (.mk 19 [] 0 (pos L i) [e])) m) = .ok (t,j) := b
  split at b
  ·cases b
   rw [gi]
   omega
  ·obtain ⟨e,C,g,n⟩ := zc b
   obtain ⟨rfl,rfl⟩ := zk n; have x := hE _ _ _ g (by omega); rw [qj]
   omega
 split at h
 ·exact f (by decide) (oH hE) h
 split at h
 ·exact f (by decide) hE h
 split at h
 ·exact f (by decide) (oH hE) h
 split at h
 ·exact f (by decide) hE h
 ·obtain ⟨d,m,r,b⟩ := zc (show P.bind (zQ L E) _ i = .ok (t,j) from h)
  have D := oH hE _ _ _ r O; have b : (if wd L m = xG then E.bind (fun e => P.ret (.mk 14 [] 0 (pos L i) [d,e])) (m + 1) else if wd L m = yw then (yS L E).bind (fun l => P.ret (.mk 15 [] 0 (pos L i) (d :: l))) m else .ok (.mk 15 [] 0 (pos L i) [d],m)) = .ok (t,j) := b
  split at b
  ·rename_i hw
   obtain ⟨e,C,g,n⟩ := zc b; obtain ⟨rfl,rfl⟩ := zk n; have a0 : m < L.length := rK (by rw [hw]; decide); have x := hE _ _ _ g (by omega); rw [fp]
   omega
  ·split at b
   ·obtain ⟨l,C,g,n⟩ := zc b
    obtain ⟨rfl,rfl⟩ := zk n; have x := bk hE g; rw [zr,zu]
    omega
   ·cases b
    rw [qj]
    omega
theorem rT : ∀ (f : Nat) {acc l : List T} {i j : Nat},xa L E A f acc i = .ok (l,j) -> i <= L.length -> j <= L.length /\ zu l + 2 * i <= 2 * j + zu acc
 | 0,acc,l,i,j,h,hi => by cases h
 | f + 1,acc,l,i,j,h,hi => by
  rw [xa] at h; obtain ⟨acc',m,h1,h2⟩ := zc h; obtain ⟨_,_,h3,h4⟩ := zc h2
  have a1 : m <= L.length /\ zu acc' + 2 * i <= 2 * m + zu acc := by
   split at h1
   ·obtain ⟨rfl,rfl⟩ := zk h1
    omega
   ·obtain ⟨_,_,b,d⟩ := zc h1
    obtain ⟨rfl,rfl⟩ := zk d; have := zgb hE hA _ _ _ b hi; rw [vB,vX]
    omega
  rcases jt h3 (by decide) with ⟨rfl,g,e⟩ | ⟨rfl,e⟩
  ·rw [if_pos rfl] at h4
   have n := rT f h4 (by omega)
   omega
  ·rw [if_neg (by simp)] at h4
   obtain ⟨rfl,rfl⟩ := zk h4
   omega
end
theorem oP : ∀ n : Nat,Az L (vp L n)
 | 0 => fun i t j h => (by cases h)
 | n + 1 => by
  intro i t j h hi; obtain ⟨_,_,h1,h2⟩ := zc (show P.bind (xa L (yy L n) (vp L n) (L.length + 1) []) _ i = .ok (t,j) from h); obtain ⟨rfl,rfl⟩ := zk h2; have := rT (nu n).1 (oP n) _ h1 hi; rw [zu] at this; rw [zr]
  omega
/-! ### Declarations and modules -/
theorem qR {part : P T} (hp : Cz L part 0) : ∀ (f : Nat) {acc l : List T} {i j : Nat},yR L part f acc i = .ok (l,j) -> i <= L.length -> j <= L.length /\ zu l + 2 * i <= 2 * j + zu acc
 | 0,acc,l,i,j,h,hi => by cases h
 | f + 1,acc,l,i,j,h,hi => by
  rw [yR] at h; have h : (if zF (wd L i) = true then part.bind (fun t => (zx L zE).bind fun _ => yR L part f (acc ++ [t])) i else .ok (acc,i)) = .ok (l,j) := h
  split at h
  ·obtain ⟨_,_,h1,h2⟩ := zc h
   obtain ⟨_,_,h3,h4⟩ := zc h2; have a1 := hp _ _ _ h1 hi; have a2 := yp h3 (by decide); have a3 := qR hp f h4 (by omega); rw [vB,vX] at a3
   omega
  ·cases h; omega
theorem qy {k : List UInt8} (hk : k ≠ []) {part : P T} (hp : Cz L part 0) : Az L (jj L k part) := by
 intro i t j h l; obtain ⟨_,_,d,b⟩ := zc (show P.bind (yP L k) _ i = .ok (t,j) from h)
 rcases jt d hk with ⟨rfl,m,e⟩ | ⟨rfl,e⟩
 ·rw [if_pos rfl] at b
  obtain ⟨_,_,f,g⟩ := zc b; obtain ⟨rfl,rfl⟩ := zk g; have := qR hp _ f (by omega); rw [zu] at this; rw [zr]
  omega
 ·rw [if_neg (by simp)] at b
  obtain ⟨rfl,rfl⟩ := zk b; rw [gi]
  omega
theorem iw (n y : T) : zr (kG n y) = 1 + zr y := by
 obtain ⟨_,_,_,_,_⟩ := n
 exact qj _ _ _ _ _
theorem bt {kd : Int} {p : P T} (hp : Cz L p 0) : Cz L ((xq L kd).bind fun n => (zx L qO).bind fun _ => p.bind fun e => P.ret (kG n e)) 0 := by
 intro i t j h o; obtain ⟨n,_,b,d⟩ := zc h; obtain ⟨_,_,f,g⟩ := zc d; obtain ⟨e,_,l,m⟩ := zc g; obtain ⟨rfl,rfl⟩ := zk m; have r := dj b; have s := yp f (by decide); have u := hp _ _ _ l (by omega); rw [iw]
 omega
theorem zb2 {kd : Int} : Cz L ((xq L kd).bind (jA L)) 0 := by
 intro i t j h e; obtain ⟨_,_,b,d⟩ := zc h; have f := dj b; have g := tZ d
 omega
theorem zbu : Cz L (kS L) 0 := by
 intro i t j h e; obtain ⟨_,_,b,d⟩ := zc h; have f := gc b; have g := tZ d
 omega
theorem zeq : Cz L (yh L) 0 := by
 intro i t j h K
 unfold yh at h
 split at h
 ·obtain ⟨_,m,b,d⟩ := zc (show P.bind (zx L jy) _ i = .ok (t,j) from h)
  obtain ⟨_,e,f,g⟩ := zc d; obtain ⟨_,w,l,n⟩ := zc g; obtain ⟨y,z,r,s⟩ := zc n; obtain ⟨rfl,rfl⟩ := zk s; have x := yp b (by decide); have u := zdf f; have v := yp l (by decide); have B := rG _ _ _ r (by omega); rw [qj]
  omega
 ·split at h
  ·obtain ⟨_,m,b,d⟩ := zc (show P.bind (zx L vI) _ i = .ok (t,j) from h)
   obtain ⟨y,e,f,g⟩ := zc d; obtain ⟨_,w,l,n⟩ := zc g; obtain ⟨_,z,r,s⟩ := zc n; obtain ⟨rfl,rfl⟩ := zk s; have x := yp b (by decide)
   have u : e <= L.length /\ zr y + 2 * m <= 2 * e + 1 := by
    obtain ⟨_,_,C,o⟩ := zc (show P.bind (yP L yw) _ m = .ok (y,e) from f)
    rcases jt C (by decide) with ⟨rfl,M,D⟩ | ⟨rfl,D⟩
    ·rw [if_pos rfl] at o
     obtain ⟨N,O,F,H⟩ := zc o; obtain ⟨_,_,I,J⟩ := zc H; obtain ⟨rfl,rfl⟩ := zk J; have R := rG _ _ _ F (by omega); have U := yp I (by decide)
     omega
    ·rw [if_neg (by simp)] at o
     obtain ⟨rfl,rfl⟩ := zk o; rw [gi]
     omega
   have v := qR zb2 _ l u.1; have B := yp r (by decide); rw [zu] at v; rw [zr,zu]
   omega
  ·split at h
   ·obtain ⟨_,m,b,d⟩ := zc (show P.bind (zx L vN) _ i = .ok (t,j) from h)
    obtain ⟨_,e,f,g⟩ := zc d; obtain ⟨y,w,l,n⟩ := zc g; obtain ⟨rfl,rfl⟩ := zk n; have x := yp b (by decide); have u := yp f (by decide); have v := rG _ _ _ l (by omega); rw [qj]
    omega
   ·cases h
theorem zcd : Cz L (vZ L) 1 := by
 intro i t j h l; obtain ⟨_,_,b,d⟩ := zc (show P.bind (yP L vE) _ i = .ok (t,j) from h); obtain ⟨_,_,e,f⟩ := zc d; have m := tL e; have n := tZ f
 rcases jt b (by decide) with g | g <;> omega
theorem aA : Az L (xo L) := by
 intro i t j h e
 unfold xo at h
 split at h
 ·obtain ⟨_,_,b,d⟩ := zc h
  obtain ⟨rfl,rfl⟩ := zk d; have := mZ zcd (by decide) b; rw [zr]
  omega
 ·cases h
  rw [gi]
  omega
theorem aB : Az L (gw L) := by
 intro i t j h f; obtain ⟨_,_,d,b⟩ := zc (show P.bind (yP L xk) _ i = .ok (t,j) from h)
 rcases jt d (by decide) with ⟨rfl,g,e⟩ | ⟨rfl,e⟩
 ·rw [if_pos rfl] at b
  have := rG _ _ _ b (by omega)
  omega
 ·rw [if_neg (by simp)] at b
  obtain ⟨rfl,rfl⟩ := zk b; rw [gi]
  omega
theorem og {s : List UInt8} (hs : s ≠ []) {i j : Nat} {b : Unit} (h : uN L s i = .ok (b,j)) : i + 1 < L.length /\ j = i + 2 := by
 obtain ⟨_,_,d,e⟩ := zc h; have f := yp d (by decide); have g := yp e hs
 omega
theorem lD {kd : Int} {i j : Nat} {t : T} (h : xq L kd i = .ok (t,j)) : t.name ≠ [] := by
 obtain ⟨_,_,d,e⟩ := zc h; obtain ⟨b,_,_,f⟩ := zc e; obtain ⟨rfl,rfl⟩ := zk f; obtain ⟨g,rfl,rfl⟩ := uH d
 show (if b = true then _ else _ : T).name ≠ []
 split <;> exact fK g
theorem ze8 : Cz L (xv L) 0 := by
 intro i t j h I; obtain ⟨_,_,u,v⟩ := zc (show P.bind (zx L yk) _ i = .ok (t,j) from h); obtain ⟨n,_,s,w⟩ := zc v; obtain ⟨_,_,x,y⟩ := zc w; obtain ⟨_,_,z,B⟩ := zc y; obtain ⟨_,_,C,b⟩ := zc B; obtain ⟨_,_,d,e⟩ := zc b; obtain ⟨_,_,f,g⟩ := zc e; obtain ⟨_,_,l,m⟩ := zc g; have D := lD s; have F := dj s; obtain ⟨_,_,_,_,_⟩ := n; obtain ⟨_,_,o,r⟩ := zc m; obtain ⟨rfl,rfl⟩ := zk r; have J := yp u (by decide); have H := aA _ _ _ x F.1; have K := aB _ _ _ z H.1; have M := yp C (by decide); have N := qy (by decide) zbu _ _ _ d (by omega); have O := yp f (by decide); have R := oP 20 _ _ _ l (by omega); have U := og D o; rw [zr,zu,zu,zu,vX]
 omega
theorem dZ : ∀ (f : Nat) {acc l : List T} {i j : Nat},xb L f acc i = .ok (l,j) -> i <= L.length -> j <= L.length /\ zu l + 2 * i <= 2 * j + zu acc
 | 0,acc,l,i,j,h,hi => by cases h
 | f + 1,acc,l,i,j,h,hi => by
  rw [xb] at h; have h : (if wd L i = yk then (xv L).bind (fun t => (zx L zE).bind fun _ => xb L f (acc ++ [t])) i else .ok (acc,i)) = .ok (l,j) := h
  split at h
  ·obtain ⟨_,_,h1,h2⟩ := zc h
   obtain ⟨_,_,h3,h4⟩ := zc h2; have a1 := ze8 _ _ _ h1 hi; have a2 := yp h3 (by decide); have a3 := dZ f h4 (by omega); rw [vB,vX] at a3
   omega
  ·cases h; omega
theorem iq : Az L (qb L) := by
 intro i t j h d; obtain ⟨_,_,e,b⟩ := zc (show P.bind (yP L uJ) _ i = .ok (t,j) from h)
 rcases jt e (by decide) with ⟨rfl,o,f⟩ | ⟨rfl,f⟩
 ·rw [if_pos rfl] at b
  obtain ⟨_,_,g,l⟩ := zc b; obtain ⟨_,_,m,n⟩ := zc l; obtain ⟨rfl,rfl⟩ := zk n; have r := zbx (fun i t j h d => by have := gc h; omega) (by decide) g (by omega); have s := yp m (by decide); rw [zr]
  omega
 ·rw [if_neg (by simp)] at b
  obtain ⟨rfl,rfl⟩ := zk b; rw [gi]
  omega
theorem mz {t : T} {i j : Nat} (h : vr L i = .ok (t,j)) : zr t + 2 * i <= 2 * L.length := by
 obtain ⟨u,k,H,b⟩ := zc h; have b : (if wd L k = [] then .ok (u,k) else .error (xw L k)) = (.ok (t,j) : Except (Int × Int) (T × Nat)) := b
 split at b
 ·cases b
  obtain ⟨_,_,I,J⟩ := zc (show P.bind (zx L jI) _ i = .ok (t,j) from H); obtain ⟨s,_,C,K⟩ := zc J; obtain ⟨_,_,M,N⟩ := zc K; obtain ⟨_,_,O,R⟩ := zc N; obtain ⟨_,_,U,e⟩ := zc R; obtain ⟨_,_,f,g⟩ := zc e; obtain ⟨_,V,l,m⟩ := zc g; obtain ⟨X,Y,n,o⟩ := zc m; obtain ⟨D,r,v,w⟩ := zc o; obtain ⟨_,_,x,y⟩ := zc w; obtain ⟨_,_,z,B⟩ := zc y; obtain ⟨rfl,rfl⟩ := zk B; have Z : s ≠ [] := fK (jU C).1; have a1 := yp I (by decide); have a2 := tL C; have a3 := yp M (by decide); have a4 := iq _ _ _ O (by omega); have a5 := qy (by decide) (bt (fun i t j h hi => by have := (nu 20).1 _ _ _ h hi; omega)) _ _ _ U a4.1; have a6 := qy (by decide) (bt zeq) _ _ _ f a5.1; have a7 := qy (by decide) zb2 _ _ _ l a6.1; obtain ⟨_,F,p1,p2⟩ := zc (show P.bind (xb L (L.length + 1) []) _ V = .ok (X,Y) from n); obtain ⟨rfl,rfl⟩ := zk p2; have a8 := dZ _ p1 a7.1
  have a9 : r <= L.length /\ zr D + 2 * F <= 2 * r + 1 := by
   obtain ⟨_,_,p3,d⟩ := zc (show P.bind (yP L yZ) _ F = .ok (D,r) from v)
   rcases jt p3 (by decide) with ⟨rfl,b4,b5⟩ | ⟨rfl,b5⟩
   ·rw [if_pos rfl] at d
    have := oP 20 _ _ _ d (by omega)
    omega
   ·rw [if_neg (by simp)] at d
    obtain ⟨rfl,rfl⟩ := zk d; rw [gi]
    omega
  have a0 := og Z x; have b0 := yp z (by decide); rw [zu] at a8; rw [zr,zu,zu,zu,zu,zu,vX,zr]
  omega
 ·cases b
end
end Go.Proofs.YtfjgelmllcnokaaGreatDoor
