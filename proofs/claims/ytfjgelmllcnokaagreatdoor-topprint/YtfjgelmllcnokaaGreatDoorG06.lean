/- The text of a tree doesn't hang on places: acts,declarations,the whole. -/
import Derived.Test.YtfjgelmllcnokaaGreatDoorG05
namespace Go.Proofs.YtfjgelmllcnokaaGreatDoor
theorem SameL.empty {l m : List T} (h : SameL l m) : l.isEmpty = m.isEmpty := by cases h <;> rfl
theorem gZ {sep last : List UInt8} {tx : T -> List UInt8} {L : Nat} (htx : ∀ t u,Same t u -> tx t = tx u) {l m : List T} (h : SameL l m) : yC sep last tx L l = yC sep last tx L m := by
 unfold yC
 rw [h.empty,h.map (f := fun t => zR (L + 1) ++ tx t) (fun t u h => by rw [htx t u h])]
theorem pJ {tx : T -> List UInt8} (htx : ∀ t u,Same t u -> tx t = tx u) {l m : List T} (h : SameL l m) : zZ tx l = zZ tx m := by
 induction l generalizing m with
 | nil => cases h; rfl
 | cons t l ih => cases h with | cons h hl => rw [zZ,zZ,htx _ _ h,ih hl]
theorem om {ex ac : T -> List UInt8} {L : Nat} (he : ∀ t u,Same t u -> ex t = ex u) (ha : ∀ t u,Same t u -> ac t = ac u) : ∀ {l m : List T},SameL l m -> yg ex ac L l = yg ex ac L m
 | [],_,h => by cases h; rfl
 | [x],_,h => by
  cases h with
  | cons h hl =>
   cases hl; rw [yg,yg,ha _ _ h]
 | x :: y :: l,_,h => by
  cases h with
  | cons h hl =>
   cases hl with
   | cons h2 hl2 => rw [yg,yg,he _ _ h,ha _ _ h2,om he ha hl2]
theorem mL : ∀ (f L : Nat) (t u : T),Same t u -> yd f L t = yd f L u
 | 0,_,_,_,_ => rfl
 | f + 1,L,t,u,h => by
  have ih := mL f
  have hacts : ∀ t u,Same t u -> yC [59] [] (yd f (L + 1)) L t.subs = yC [59] [] (yd f (L + 1)) L u.subs := fun t u h => gZ (ih (L + 1)) h.parts.2.2.2
  have h0 := h.sub 0; have h1 := h.sub 1; have hl := h.parts.2.2.2.len; have hm := (h.parts.2.2.2.drop 1).map (kf f); have hr := om (ex := zg f) (ac := fun u => yC [59] [] (yd f (L + 1)) L u.subs) (L := L) (kf f) hacts (h.parts.2.2.2.drop 2); obtain ⟨k1,k2,k3,-⟩ := h.parts; rw [yd,yd]; simp only [k1,kf f _ _ h0,kf f _ _ h1,hacts _ _ h0,hacts _ _ h1,hl,hr,qU,hm]
theorem gJ {t u : T} (h : Same t u) : yK t = yK u := by
 obtain ⟨e,b,d,-⟩ := h.parts
 unfold yK
 rw [b,d]
theorem fm (t u : T) (h : Same t u) : zG t = zG u := by
 unfold zG
 rw [gJ h,qi (h.sub 0)]
theorem cK (t u : T) (h : Same t u) : yf t = yf u := by
 obtain ⟨e,b,d,-⟩ := h.parts
 unfold yf
 rw [b,d,qi (h.sub 0)]
theorem ay (t u : T) (h : Same t u) : xN t = xN u := by
 have b := h.sub 0; have d := pJ (tx := fun x => zG x ++ [59,32]) (fun t u h => by rw [fm t u h]) (h.parts.2.2.2.drop 1); obtain ⟨e,g,f,-⟩ := h.parts
 unfold xN
 rw [e,f,qi b,b.parts.1,d]
theorem cq (f : Nat) (t u : T) (h : Same t u) : xJ f t = xJ f u := by
 unfold xJ
 rw [gJ h,kf f _ _ (h.sub 0)]
theorem ie (t u : T) (h : Same t u) : xM t = xM u := by
 unfold xM
 rw [gJ h,ay _ _ (h.sub 0)]
theorem gA {w : List UInt8} {tx : T -> List UInt8} (htx : ∀ t u,Same t u -> tx t = tx u) {l m : List T} (h : SameL l m) : zO w tx l = zO w tx m := by
 unfold zO
 rw [h.empty,gZ htx h]
theorem oh (f L : Nat) {l m : List T} (h : SameL l m) : zW f L l = zW f L m := gZ (mL f (L + 1)) h
theorem aj (f : Nat) (t u : T) (h : Same t u) : vc f t = vc f u := by
 have b := (h.sub 0).parts.2.2.2; have d := h.sub 1; have e := (h.sub 2).parts.2.2.2; have g := (h.sub 3).parts.2.2.2
 unfold vc
 simp only [gJ h,b.empty,b.map cK,d.parts.1,qi d,gA fm e,oh f 0 g,h.parts.2.1]
theorem mT (f : Nat) {t u : T} (h : Same t u) : zP f t = zP f u := by
 have b := (h.sub 0).parts.2.2.2; have e := (h.sub 1).parts.2.2.2; have g := (h.sub 2).parts.2.2.2; have i := (h.sub 3).parts.2.2.2; have j := (h.sub 4).parts.2.2.2; have d := (h.sub 5).parts.2.2.2
 unfold zP xm
 simp only [h.parts.2.1,b.empty,b.map (f := T.name) (fun t u h => h.parts.2.1),gA (cq f) e,gA ie g,gA fm i,pJ (aj f) j,d.empty,oh f 0 d]
def opW (w : List UInt8) : Bool := xp w || kZ w || xE w
def my : List (List UInt8) := [zE,xG,xP,kDO,jq,yD,qM,jf,kIF,ue,va,xK,yZ]
def uu (w : List UInt8) : Bool := my.contains w
def opN (L : List Tok) : Nat -> Nat -> Nat
 | _,0 => 0
 | i,n + 1 => (if opW (wd L i) = true then 1 else 0) + opN L (i + 1) n
theorem ba (L : List Tok) : ∀ (a i b : Nat),opN L i (a + b) = opN L i a + opN L (i + a) b
 | 0,i,b => by simp [opN]
 | a + 1,i,b => by
  rw [show a + 1 + b = (a + b) + 1 by omega,opN,opN,ba L a (i + 1) b,show i + 1 + a = i + (a + 1) by omega]
  omega
def St (L : List Tok) (i j c : Nat) : Prop := ∃ n,j = i + n /\ c <= opN L i n /\ ∀ k,k < n -> uu (wd L (i + k)) = false
theorem St.refl (L : List Tok) (i : Nat) : St L i i 0 := ⟨0,rfl,Nat.zero_le _,fun k hk => by omega⟩
theorem St.trans {L : List Tok} {i j k a b : Nat} (h : St L i j a) (h2 : St L j k b) : St L i k (a + b) := by
 obtain ⟨n,rfl,_,f⟩ := h; obtain ⟨m,rfl,_,g⟩ := h2; refine ⟨n + m,by omega,by rw [ba]; omega,fun q hq => ?_⟩
 rcases Nat.lt_or_ge q n with d | d
 ·exact f q d
 ·have := g (q - n) (by omega)
  rw [show i + n + (q - n) = i + q by omega] at this
  exact this
theorem St.le {L : List Tok} {i j a b : Nat} (h : St L i j b) (hab : a <= b) : St L i j a := by
 obtain ⟨n,e,_,d⟩ := h
 exact ⟨n,e,by omega,d⟩
theorem ou {L : List Tok} {i : Nat} (h : uu (wd L i) = false) : ∀ k,k < 1 -> uu (wd L (i + k)) = false := fun k hk => by
 have e : k = 0 := by omega
 subst e
 exact h
theorem St.one {L : List Tok} {i : Nat} (h : uu (wd L i) = false) : St L i (i + 1) 0 := ⟨1,rfl,Nat.zero_le _,ou h⟩
theorem St.op {L : List Tok} {i : Nat} (h : uu (wd L i) = false) (ho : opW (wd L i) = true) : St L i (i + 1) 1 := ⟨1,rfl,by simp [opN,ho],ou h⟩
theorem St.is {L : List Tok} {i : Nat} {w : List UInt8} (h : wd L i = w) (hw : uu w = false) : St L i (i + 1) 0 := .one (by rw [h]; exact hw)
theorem pU {w : List UInt8} (h : zF w = true) : uu w = false := by
 rw [Bool.eq_false_iff]; intro b
 have f : w ∈ my := by simpa [uu] using b
 have : ∀ d ∈ my,zF d = false := by decide
 rw [this w f] at h; cases h
theorem zcu {w : List UInt8} {n : Int} (h : ku w = some n) : uu w = false := by
 rw [Bool.eq_false_iff]; intro f
 have g : w ∈ my := by simpa [uu] using f
 have b : ∀ d ∈ my,zs ((d.headD 0).toNat : Int) = false := by decide
 unfold ku at h
 split at h
 ·rename_i hc
  rw [b w g] at hc
  simp at hc
 ·cases h
theorem zda {w : List UInt8} (h : xp w = true) : uu w = false /\ opW w = true := by
 rcases zgt (bD h) with rfl | rfl | rfl | rfl <;> decide
theorem zdj {w : List UInt8} (h : kZ w = true) : uu w = false /\ opW w = true := by
 rcases zhk (cZ h) with rfl | rfl | rfl <;> decide
theorem lV {w : List UInt8} (h : xE w = true) : uu w = false /\ opW w = true := by
 rcases zgo (bn h) with rfl | rfl | rfl | rfl | rfl | rfl <;> decide
section
variable {L : List Tok}
theorem fs {w : List UInt8} {i j : Nat} {b : Unit} (h : zx L w i = .ok (b,j)) (hw : uu w = false) : St L i j 0 := by
 obtain ⟨d,rfl⟩ := lJ h
 exact .is d hw
theorem ng {w : List UInt8} {i j : Nat} {b : Bool} (h : yP L w i = .ok (b,j)) (hw : uu w = false) : St L i j 0 := by
 rcases gG h with ⟨_,d,rfl⟩ | ⟨_,_,rfl⟩
 ·exact .is d hw
 ·exact .refl L _
theorem bx {i j : Nat} {s : List UInt8} (h : uo L i = .ok (s,j)) : St L i j 0 := by
 obtain ⟨b,rfl,rfl⟩ := jU h
 exact .one (pU b)
theorem mx {kind : Int} {i j : Nat} {t : T} (h : vj L kind i = .ok (t,j)) : St L i j 0 /\ yW t = (if kind = 36 then 1 else 0) := by
 obtain ⟨b,rfl,rfl⟩ := uH h
 exact ⟨.one (pU b),by simp [yW,jp]⟩
theorem zfy {i j : Nat} {t : T} (h : yu L i = .ok (t,j)) : St L i j 0 /\ yW t = 0 := by
 refine ⟨?_,by cases gs h <;> simp [yW,jp]⟩; obtain ⟨_,_,g,l⟩ := zc h; obtain ⟨b,_,m,d⟩ := zc l; have f := (mx g).1.trans (ng m (by decide)); cases b with
 | true =>
  rw [if_pos rfl] at d; obtain ⟨_,_,n,o⟩ := zc d; obtain ⟨_,rfl⟩ := zk o
  exact f.trans (bx n)
 | false =>
  rw [if_neg (by simp)] at d; obtain ⟨_,rfl⟩ := zk d
  exact f
variable {E : P T} (hE : ∀ i e j,E i = .ok (e,j) -> St L i j (yW e))
include hE
theorem zfd {u v : T} {i j : Nat} (hn : yb (wd L i) = true) (h : xH L E u i = .ok (v,j)) : ∃ c,St L i j c /\ yW v = yW u + c := by
 unfold xH at h
 split at h
 ·rename_i b
  obtain ⟨_,m,f,g⟩ := zc h; obtain ⟨rfl,rfl⟩ := zk g
  exact ⟨0,(St.is b (by decide)).trans (bx f),by rw [mR (by omega)]; omega⟩
 ·split at h
  ·rename_i b
   obtain ⟨e,m,f,g⟩ := zc h; obtain ⟨_,o,l,n⟩ := zc g; obtain ⟨rfl,rfl⟩ := zk n
   exact ⟨yW e,(((St.is b (by decide)).trans (hE _ _ _ f)).trans (fs l (by decide))).le (by omega),by rw [cd (by omega)]⟩
  ·split at h
   ·rename_i b
    cases h
    exact ⟨0,.is b (by decide),by rw [mR (by omega)]; omega⟩
   ·rename_i g1 g2 g3
    have b : wd L i = np := by
     simp only [yb,Bool.or_eq_true,beq_iff_eq] at hn
     rcases hn with ((d | d) | d) | d
     ·exact absurd d g1
     ·exact absurd d g2
     ·exact absurd d g3
     ·exact d
    obtain ⟨_,m,f,g⟩ := zc h; obtain ⟨_,o,l,n⟩ := zc g; obtain ⟨rfl,rfl⟩ := zk n; obtain ⟨r,s⟩ := zfy f
    exact ⟨0,(((St.is b (by decide)).trans r).trans (fs l (by decide))).le (by omega),by rw [cd (by omega),s]⟩
theorem mP : ∀ (f : Nat) {u t : T} {i j : Nat},zt L E f u i = .ok (t,j) -> ∃ c,St L i j c /\ yW t = yW u + c
 | 0,u,t,i,j,h => by
  rw [zt] at h; have h : (if yb (wd L i) = true then (xH L E u).bind (fun _ => vM L) i else .ok (u,i)) = .ok (t,j) := h
  split at h
  ·obtain ⟨_,_,_,h2⟩ := zc h
   cases h2
  ·cases h; exact ⟨0,.refl L _,rfl⟩
 | f + 1,u,t,i,j,h => by
  rw [zt] at h; have h : (if yb (wd L i) = true then (xH L E u).bind (fun n' => zt L E f n') i else .ok (u,i)) = .ok (t,j) := h
  split at h
  ·rename_i hn
   obtain ⟨_,_,h1,h2⟩ := zc h; obtain ⟨c1,a1,_⟩ := zfd hE hn h1; obtain ⟨c2,b1,_⟩ := mP f h2
   exact ⟨c1 + c2,a1.trans b1,by omega⟩
  ·cases h; exact ⟨0,.refl L _,rfl⟩
theorem cu {t : T} {i j : Nat} (h : zQ L E i = .ok (t,j)) : St L i j (yW t) := by
 obtain ⟨_,_,b,d⟩ := zc h; obtain ⟨f,g⟩ := mx b; obtain ⟨_,l,_⟩ := mP hE 20 d; rw [if_neg (by omega)] at g
 exact (f.trans l).le (by omega)
theorem sJ {sep : List UInt8} (hs : uu sep = false) : ∀ (f : Nat) {acc l : List T} {i j : Nat},yG L E sep f acc i = .ok (l,j) -> ∃ r,l = acc ++ r /\ St L i j (jp r)
 | 0,acc,l,i,j,h => by cases h
 | f + 1,acc,l,i,j,h => by
  rw [yG] at h; obtain ⟨b,_,h1,h2⟩ := zc h; have a1 := ng h1 hs; cases b with
  | true =>
   rw [if_pos rfl] at h2; obtain ⟨v,_,h3,h4⟩ := zc h2; obtain ⟨r,rfl,hr⟩ := sJ hs f h4; refine ⟨v :: r,by simp,?_⟩; rw [jp]
   exact ((a1.trans (hE _ _ _ h3)).trans hr).le (by omega)
  | false =>
   rw [if_neg (by simp)] at h2; obtain ⟨rfl,rfl⟩ := zk h2
   exact ⟨[],by simp,a1⟩
theorem zeu {l : List T} {i j : Nat} (h : yS L E i = .ok (l,j)) : St L i j (jp l) := by
 unfold yS xF at h
 obtain ⟨_,_,m,n⟩ := zc h; obtain ⟨b,o,s,d⟩ := zc n; have g := (fs m (by decide)).trans (ng s (by decide)); cases b with
 | true =>
  rw [if_pos rfl] at d; obtain ⟨rfl,rfl⟩ := zk d
  exact g
 | false =>
  rw [if_neg (by simp)] at d; obtain ⟨t,u,w,x⟩ := zc d; obtain ⟨_,y,z,A⟩ := zc x; obtain ⟨rfl,rfl⟩ := zk A; obtain ⟨v,_,B,f⟩ := zc (show P.bind E _ o = .ok (t,u) from w); obtain ⟨r,rfl,C⟩ := sJ hE (by decide) _ f
  show St L i y (jp (v :: r))
  rw [jp]
  exact (((g.trans (hE _ _ _ B)).trans C).trans (fs z (by decide))).le (by omega)
theorem zgd {F : P T} (hF : ∀ i e j,F i = .ok (e,j) -> St L i j (yW e)) {t : T} {i j : Nat} (h : zV L E F i = .ok (t,j)) : St L i j (yW t) := by
 unfold zV at h
 split at h
 ·rename_i hw; cases h; exact (St.is hw (by decide)).le (by simp [yW,jp])
 split at h
 ·rename_i hw; cases h; exact (St.is hw (by decide)).le (by simp [yW,jp])
 split at h
 ·rename_i hw; cases h; exact (St.is hw (by decide)).le (by simp [yW,jp])
 split at h
 ·rename_i hw
  obtain ⟨_,m,b,f⟩ := zc h; obtain ⟨rfl,rfl⟩ := zk f
  exact ((St.is hw (by decide)).trans (hF _ _ _ b)).le (by rw [mR (by omega)]; omega)
 split at h
 ·rename_i hw
  obtain ⟨e,m,b,f⟩ := zc h; obtain ⟨_,o,g,n⟩ := zc f; obtain ⟨rfl,rfl⟩ := zk n
  exact (((St.is hw (by decide)).trans (hE _ _ _ b)).trans (fs g (by decide))).le (by omega)
 split at h
 ·unfold yB at h
  obtain ⟨d,m,b,f⟩ := zc h; have f : (if wd L m = yw then (yS L E).bind (fun l => P.ret (.mk 33 [] 0 d.at' (d :: l))) m else .ok (d,m)) = .ok (t,j) := f
  split at f
  ·obtain ⟨l,o,g,n⟩ := zc f
   obtain ⟨rfl,rfl⟩ := zk n
   exact ((cu hE b).trans (zeu hE g)).le (by simp [yW,jp])
  ·cases f
   exact cu hE b
 ·obtain ⟨m,_,b,f⟩ := zc h
  obtain ⟨rfl,rfl⟩ := zk f
  unfold qd at b
  split at b
  ·rename_i q hq
   cases b
   exact (St.one (zcu hq)).le (by simp [yW,jp])
  ·cases b
end
theorem rh {L : List Tok} {J : List UInt8 -> Bool} {part : P T} (hJ : ∀ w,J w = true -> uu w = false /\ opW w = true) (hp : ∀ i e j,part i = .ok (e,j) -> St L i j (yW e)) : ∀ (f : Nat) {u t : T} {i j : Nat},yO L J part f u i = .ok (t,j) -> ∃ c,St L i j c /\ yW t = yW u + c
 | 0,u,t,i,j,h => by
  rw [yO] at h; have h : (if J (wd L i) = true then vM L (i + 1) else .ok (u,i)) = .ok (t,j) := h
  split at h
  ·cases h
  ·cases h; exact ⟨0,.refl L _,rfl⟩
 | f + 1,u,t,i,j,h => by
  rw [yO] at h; have h : (if J (wd L i) = true then part.bind (fun r => yO L J part f (opT (wd L i) u r)) (i + 1) else .ok (u,i)) = .ok (t,j) := h
  split at h
  ·rename_i hw
   obtain ⟨v,_,h1,h2⟩ := zc h; obtain ⟨c,a1,a2⟩ := rh hJ hp f h2
   unfold opT at a2
   rw [oq] at a2
   exact ⟨1 + yW v + c,(((St.op (hJ _ hw).1 (hJ _ hw).2).trans (hp _ _ _ h1)).trans a1),by omega⟩
  ·cases h; exact ⟨0,.refl L _,rfl⟩
theorem oz {L : List Tok} : ∀ (n : Nat),(∀ i t j,yy L n i = .ok (t,j) -> St L i j (yW t)) /\ (∀ i t j,xf L n i = .ok (t,j) -> St L i j (yW t))
 | 0 => ⟨fun i t j h => (by cases h),fun i t j h => (by cases h)⟩
 | n + 1 => by
  obtain ⟨hE,hF⟩ := oz (L := L) n
  have hfac : ∀ i t j,kP L n i = .ok (t,j) -> St L i j (yW t) := fun i t j h => zgd hE hF h
  have hpro : ∀ i t j,jX L n i = .ok (t,j) -> St L i j (yW t) := fun i t j h => by
   obtain ⟨u,m,h1,h2⟩ := zc (show P.bind (kP L n) _ i = .ok (t,j) from h); obtain ⟨c,a1,a2⟩ := rh (fun w hw => zda hw) hfac 20 h2
   exact ((hfac _ _ _ h1).trans a1).le (by omega)
  have hsum : ∀ i t j,kM L n i = .ok (t,j) -> St L i j (yW t) := fun i t j h => by
   obtain ⟨b,m,h1,h2⟩ := zc (show P.bind (yP L vd) _ i = .ok (t,j) from h); obtain ⟨u,m2,h3,h4⟩ := zc (show P.bind (jX L n) _ m = .ok (t,j) from h2); obtain ⟨c,a1,a2⟩ := rh (fun w hw => zdj hw) hpro 20 h4; refine (((ng h1 (by decide)).trans (hpro _ _ _ h3)).trans a1).le ?_; cases b with
   | true => rw [if_pos rfl,mR (by omega)] at a2; omega
   | false => rw [if_neg (by simp)] at a2; omega
  refine ⟨fun i t j h => ?_,fun i t j h => hfac i t j h⟩; rw [uT] at h; obtain ⟨a,m,h1,h2⟩ := zc (show P.bind (kM L n) _ i = .ok (t,j) from h); have h2 : (if wd L m = kIS then (yu L).bind (fun y => P.ret (.mk 37 [] 0 a.at' [a,y])) (m + 1) else if xE (wd L m) = true then (kM L n).bind (fun b => P.ret (opT (wd L m) a b)) (m + 1) else .ok (a,m)) = .ok (t,j) := h2
  split at h2
  ·rename_i hw
   obtain ⟨y,m2,h3,h4⟩ := zc h2; obtain ⟨rfl,rfl⟩ := zk h4; obtain ⟨b1,_⟩ := zfy h3
   exact (((hsum _ _ _ h1).trans (St.is hw (by decide))).trans b1).le (by rw [cd (by omega)]; omega)
  ·split at h2
   ·rename_i hc
    obtain ⟨b,m2,h3,h4⟩ := zc h2; obtain ⟨rfl,rfl⟩ := zk h4
    exact (((hsum _ _ _ h1).trans (St.op (lV hc).1 (lV hc).2)).trans (hsum _ _ _ h3)).le (by unfold opT; rw [oq]; omega)
   ·cases h2
    exact hsum _ _ _ h1
def SegOK (L : List Tok) : Prop := ∀ i j c,St L i j c -> c <= 20
theorem zak {t : T} (hk : 24 <= t.kind) (ho : yW t <= 20) : smT t := by
 obtain ⟨k,_,_,_,_⟩ := t; rw [smT]; rw [yW] at ho; have hk : 24 <= k := hk
 exact ⟨fun _ => ho,fun h => by omega⟩
theorem vF {k : Int} {x : List UInt8} {n p : Int} {l : List T} (hk : k < 24) (h : ∀ t ∈ l,smT t) : smT (.mk k x n p l) := by
 rw [smT]; refine ⟨fun h9 => by omega,fun _ => ?_⟩; clear hk
 induction l with
 | nil => trivial
 | cons t l ih => rw [smL]; exact ⟨h t (by simp),ih (fun u hu => h u (by simp [hu]))⟩
theorem pY {y : T} (h : TyN y) : smT y := by
 cases h with
 | own hx => exact vF (by omega) (fun t ht => by cases ht)
 | of hx hy => exact vF (by omega) (fun t ht => by cases List.mem_singleton.1 ht; exact zak (by simp [T.kind]) (by simp [yW,jp]))
section
variable {L : List Tok} (hS : SegOK L)
include hS
theorem jN {n i j : Nat} {e : T} (h : yy L n i = .ok (e,j)) : smT e := zak (dA n i e j h) (hS _ _ _ ((oz n).1 i e j h))
theorem rO {n i j : Nat} {e : T} (h : zQ L (yy L n) i = .ok (e,j)) : smT e := zak (gV h) (hS _ _ _ (cu (oz n).1 h))
theorem zgy {n : Nat} (hA : ∀ i t j,vp L n i = .ok (t,j) -> smT t) {t : T} {i j : Nat} (h : xQ L (yy L n) (vp L n) i = .ok (t,j)) : smT t := by
 unfold xQ at h
 split at h
 ·obtain ⟨_,m,_,g⟩ := zc (show P.bind (zx L kIF) _ i = .ok (t,j) from h)
  obtain ⟨l,E,r,s⟩ := zc g; obtain ⟨c,a,rfl,⟨_,_,X⟩,_,_,Y⟩ := fk r; obtain ⟨_,M,v,z⟩ := zc s; obtain ⟨J,rfl,H⟩ := qT _ v
  have N : ∀ x ∈ xc J,smT x := by
   clear v z s r g h
   induction J with
   | nil => intro x f; cases f
   | cons q J ih =>
    intro x f; obtain ⟨⟨Z,j1,O⟩,_,_,k2⟩ := H q (by simp)
    rcases List.mem_cons.1 f with rfl | f
    ·exact jN hS O
    ·rcases List.mem_cons.1 f with rfl | f
     ·exact hA _ _ _ k2
     ·exact ih (fun q hq => H q (by simp [hq])) x f
  have I : ∀ x ∈ [c,a] ++ xc J,smT x := fun x f => by
   rcases List.mem_append.1 f with f | f
   ·rcases List.mem_cons.1 f with rfl | f
    ·exact jN hS X
    ·cases List.mem_singleton.1 f; exact hA _ _ _ Y
   ·exact N x f
  obtain ⟨b,V,K,F⟩ := zc z; cases b with
  | true =>
   rw [if_pos rfl] at F; obtain ⟨_,m5,h9,R⟩ := zc F; obtain ⟨_,m6,_,A⟩ := zc R; obtain ⟨rfl,_⟩ := zk A
   exact vF (by omega) (fun x f => by
    rcases List.mem_append.1 f with f | f
    ·exact I x f
    ·cases List.mem_singleton.1 f; exact hA _ _ _ h9)
  | false =>
   rw [if_neg (by simp)] at F; obtain ⟨_,m6,_,A⟩ := zc F; obtain ⟨rfl,_⟩ := zk A
   exact vF (by omega) I
 have B : ∀ {x y : T},smT x -> smT y -> ∀ t ∈ [x,y],smT t := fun f hy t C => by
  rcases List.mem_cons.1 C with rfl | C
  ·exact f
  ·cases List.mem_singleton.1 C; exact hy
 have D : ∀ {x : T},smT x -> ∀ t ∈ [x],smT t := fun f t C => by cases List.mem_singleton.1 C; exact f
 split at h
 ·obtain ⟨_,m,_,g⟩ := zc (show P.bind (zx L ue) _ i = .ok (t,j) from h)
  obtain ⟨c,E,r,s⟩ := zc g; obtain ⟨_,M,_,v⟩ := zc s; obtain ⟨a,V,z,K⟩ := zc v; obtain ⟨_,m5,_,F⟩ := zc K; obtain ⟨rfl,_⟩ := zk F
  exact vF (by omega) (B (jN hS r) (hA _ _ _ z))
 split at h
 ·obtain ⟨_,m,_,g⟩ := zc (show P.bind (zx L va) _ i = .ok (t,j) from h)
  obtain ⟨a,E,r,s⟩ := zc g; obtain ⟨_,M,_,v⟩ := zc s; obtain ⟨c,V,z,K⟩ := zc v; obtain ⟨rfl,_⟩ := zk K
  exact vF (by omega) (B (hA _ _ _ r) (jN hS z))
 split at h
 ·obtain ⟨_,m,_,g⟩ := zc (show P.bind (zx L xK) _ i = .ok (t,j) from h)
  have g : (if yF (wd L m) = true then .ok (.mk 19 [] 0 (pos L i) [],m) else (yy L n).bind (fun e => P.ret (.mk 19 [] 0 (pos L i) [e])) m) = .ok (t,j) := g
  split at g
  ·cases g; exact vF (by omega) (fun t C => by cases C)
  ·obtain ⟨e,E,r,s⟩ := zc g
   obtain ⟨rfl,_⟩ := zk s
   exact vF (by omega) (D (jN hS r))
 have o : ∀ {k : Int} {w : List UInt8} {u : P T},k < 24 -> (∀ i e j,u i = .ok (e,j) -> smT e) -> vm L k w u i = .ok (t,j) -> smT t := by
  intro k w u hk hp h; obtain ⟨_,m,_,g⟩ := zc (show P.bind (zx L w) _ i = .ok (t,j) from h); obtain ⟨_,_,_,r⟩ := zc (show P.bind (zx L yw) _ m = .ok (t,j) from g); obtain ⟨e,E,s,v⟩ := zc r; obtain ⟨_,M,_,z⟩ := zc v; obtain ⟨rfl,_⟩ := zk z
  exact vF hk (D (hp _ _ _ s))
 split at h
 ·exact o (by omega) (fun i e j h => rO hS h) h
 split at h
 ·exact o (by omega) (fun i e j h => jN hS h) h
 split at h
 ·exact o (by omega) (fun i e j h => rO hS h) h
 split at h
 ·exact o (by omega) (fun i e j h => jN hS h) h
 ·obtain ⟨d,m,U,g⟩ := zc (show P.bind (zQ L (yy L n)) _ i = .ok (t,j) from h)
  have g : (if wd L m = xG then (yy L n).bind (fun e => P.ret (.mk 14 [] 0 (pos L i) [d,e])) (m + 1) else if wd L m = yw then (yS L (yy L n)).bind (fun l => P.ret (.mk 15 [] 0 (pos L i) (d :: l))) m else .ok (.mk 15 [] 0 (pos L i) [d],m)) = .ok (t,j) := g
  split at g
  ·obtain ⟨e,E,r,s⟩ := zc g
   obtain ⟨rfl,_⟩ := zk s
   exact vF (by omega) (B (rO hS U) (jN hS r))
  ·split at g
   ·obtain ⟨l,E,r,s⟩ := zc g
    obtain ⟨rfl,_⟩ := zk s
    exact vF (by omega) (fun x f => by
     rcases List.mem_cons.1 f with rfl | f
     ·exact rO hS U
     ·obtain ⟨Z,j1,O⟩ := jh r x f; exact jN hS O)
   ·cases g
    exact vF (by omega) (D (rO hS U))
theorem nh : ∀ (n : Nat) (i : Nat) (t : T) (j : Nat),vp L n i = .ok (t,j) -> smT t
 | 0,i,t,j,h => by cases h
 | n + 1,i,t,j,h => by
  obtain ⟨_,_,h1,h2⟩ := zc (show P.bind (xa L (yy L n) (vp L n) (L.length + 1) []) _ i = .ok (t,j) from h); obtain ⟨rfl,_⟩ := zk h2; obtain ⟨_,e1,hr⟩ := re _ h1; rw [List.nil_append] at e1; subst e1
  exact vF (by omega) (fun a ha => by obtain ⟨_,_,k1⟩ := hr a ha; exact zgy hS (nh n) k1)
end
theorem fh {k : Int} {x : List UInt8} {n p : Int} {y : T} (hk : k < 24) (h : smT y) : smT (.mk k x n p [y]) := vF hk (fun t ht => by cases List.mem_singleton.1 ht; exact h)
theorem zfk {kd : Int} {t : T} (hk : kd < 24) (h : VD kd t) : smT t := by cases h with | mk _ _ hy => exact fh hk (pY hy)
theorem zi0 {t : T} (h : VL t) : smT t := by cases h with | mk _ hy => exact fh (by omega) (pY hy)
theorem ziv {t : T} (h : PD t) : smT t := by cases h with | mk _ _ hy => exact fh (by omega) (pY hy)
theorem zfq {t : T} (h : BT t) : smT t := by
 cases h with
 | none => exact vF (by omega) (fun t ht => by cases ht)
 | some hy => exact pY hy
theorem zi4 {t : T} (h : TYk t) : smT t := by
 cases h with
 | array _ _ hy => exact fh (by omega) (pY hy)
 | pointer hy => exact fh (by omega) (pY hy)
 | record hb hl => exact vF (by omega) (fun t b => by
   rcases List.mem_cons.1 b with rfl | b
   ·exact zfq hb
   ·exact zfk (by omega) (hl t b))
theorem zi9 {t : T} (h : TD t) : smT t := by cases h with | mk _ _ hy => exact fh (by omega) (zi4 hy)
section
variable {L : List Tok} (hS : SegOK L) (hN : NumL L)
include hS
theorem zid {t : T} {i j : Nat} (h : uZ L i = .ok (t,j)) : smT t := by
 obtain ⟨_,_,b,d⟩ := zc h; obtain ⟨_,_,_,rfl,_,_⟩ := jx b; obtain ⟨_,_,_,e⟩ := zc d; obtain ⟨_,_,f,g⟩ := zc e; obtain ⟨rfl,_⟩ := zk g
 exact fh (by omega) (jN hS f)
theorem zh0 {t : T} {i j : Nat} (h : xv L i = .ok (t,j)) : smT t := by
 obtain ⟨_,m,_,o⟩ := zc (show P.bind (zx L yk) _ i = .ok (t,j) from h); obtain ⟨_,_,r,s⟩ := zc o; obtain ⟨x,_,_,rfl,_,_⟩ := jx r; obtain ⟨u,_,d,v⟩ := zc s; obtain ⟨_,_,w,y⟩ := zc v; obtain ⟨_,_,_,z⟩ := zc y; obtain ⟨_,_,A,B⟩ := zc z; obtain ⟨_,_,_,C⟩ := zc B; obtain ⟨_,D,E,F⟩ := zc C; obtain ⟨_,_,_,H⟩ := zc (show P.bind (uN L x) _ D = .ok (t,j) from F); obtain ⟨rfl,_⟩ := zk H
 have f : smT u := by
  unfold xo at d
  split at d
  ·obtain ⟨l,N,I,J⟩ := zc d
   obtain ⟨rfl,_⟩ := zk J
   exact vF (by omega) (fun e b => by obtain ⟨K,M,g⟩ := jh I e b; exact ziv (zbg g))
  ·cases d
   exact vF (by omega) (fun e b => by cases b)
 obtain ⟨_,_,rfl,n⟩ := vS A; refine vF (by omega) (fun e b => ?_)
 rcases List.mem_cons.1 b with rfl | b
 ·exact f
 rcases List.mem_cons.1 b with rfl | b
 ·exact zfq (cU w)
 rcases List.mem_cons.1 b with rfl | b
 ·exact vF (by omega) (fun e b => by obtain ⟨K,M,g⟩ := n e b; exact zi0 (zc4 g))
 ·cases List.mem_singleton.1 b
  exact nh hS 20 _ _ _ E
include hN
theorem lh {t : T} {i j : Nat} (h : vr L i = .ok (t,j)) : smT t := by
 obtain ⟨B,n,C,g⟩ := zc h; have g : (if wd L n = [] then .ok (B,n) else .error (xw L n)) = Except.ok (t,j) := g
 split at g
 ·cases g
  obtain ⟨_,m,_,D⟩ := zc (show P.bind (zx L jI) _ i = .ok (t,j) from C); obtain ⟨_,_,_,E⟩ := zc D; obtain ⟨_,_,_,F⟩ := zc E; obtain ⟨_,_,H,I⟩ := zc F; obtain ⟨_,_,J,K⟩ := zc I; obtain ⟨_,_,M,N⟩ := zc K; obtain ⟨_,O,R,U⟩ := zc N; obtain ⟨V,y,X,Y⟩ := zc U; obtain ⟨l,o,Z,hC⟩ := zc Y; obtain ⟨_,_,_,hD⟩ := zc hC; obtain ⟨_,_,_,hE⟩ := zc hD; obtain ⟨rfl,_⟩ := zk hE; obtain ⟨_,_,rfl,r⟩ := zbv H; obtain ⟨_,_,rfl,s⟩ := vS J; obtain ⟨_,_,rfl,u⟩ := vS M; obtain ⟨_,_,rfl,v⟩ := vS R; obtain ⟨l5,m',g1,g2⟩ := zc (show P.bind (xb L (L.length + 1) []) _ O = .ok (V,y) from X); obtain ⟨rfl,_⟩ := zk g2; obtain ⟨_,z,hr⟩ := dJ _ g1; rw [List.nil_append] at z; subst z
  have hb : smT l := by
   obtain ⟨b,m,_,A⟩ := zc (show P.bind (yP L yZ) _ y = .ok (l,o) from Z); cases b with
   | true => exact nh hS 20 _ _ _ (show vp L 20 m = .ok (l,o) from A)
   | false =>
    obtain ⟨rfl,_⟩ := zk (show P.ret _ m = .ok (l,o) from A)
    exact vF (by omega) (fun a ha => by cases ha)
  refine vF (by omega) (fun e d => ?_)
  rcases List.mem_cons.1 d with rfl | d
  ·exact vF (by omega) (fun e d => by cases r e d with | mk hx => exact vF (by omega) (fun t ht => by cases ht))
  rcases List.mem_cons.1 d with rfl | d
  ·exact vF (by omega) (fun e d => by obtain ⟨w,x,f⟩ := s e d; exact zid hS f)
  rcases List.mem_cons.1 d with rfl | d
  ·exact vF (by omega) (fun e d => by obtain ⟨w,x,f⟩ := u e d; exact zi9 (zcr hN f))
  rcases List.mem_cons.1 d with rfl | d
  ·exact vF (by omega) (fun e d => by obtain ⟨w,x,f⟩ := v e d; exact zfk (by omega) (iU f))
  rcases List.mem_cons.1 d with rfl | d
  ·exact vF (by omega) (fun e d => by obtain ⟨w,x,f⟩ := hr e d; exact zh0 hS f)
  ·cases List.mem_singleton.1 d
   exact hb
 ·cases g
theorem cg {t : T} {i j : Nat} (h : vr L i = .ok (t,j)) {f : Nat} (hd : zA t <= f + 1) : ∃ l,jm (zP f t) = .ok l /\ ∀ L' : List Tok,L'.map Prod.fst = l.map Prod.fst -> ∃ u j,vr L' 0 = .ok (u,j) /\ Same t u /\ zP f u = zP f t := by
 obtain ⟨l,d,e⟩ := ik (ns hN h (lh hS hN h)) hd; refine ⟨l,d,fun L' hL => ?_⟩; obtain ⟨u,j,g,b⟩ := e L' hL
 exact ⟨u,j,g,b,(mT f b).symm⟩
end
theorem px : ∀ (l : List UInt8) (v n : Int),0 <= v -> v <= 2147483647 -> l.all (fun c => zs c.toNat) = true -> zX v l = some n -> 0 <= n /\ n <= 2147483647
 | [],v,n,h0,h1,_,h => by
  rw [zX] at h; cases h
  exact ⟨h0,h1⟩
 | c :: l,v,n,h0,h1,ha,h => by
  simp only [List.all_cons,Bool.and_eq_true] at ha; have hd := ha.1
  unfold zs at hd
  rw [decide_eq_true_eq] at hd; rw [zX] at h
  split at h
  ·cases h
  ·exact px l _ n (by omega) (by omega) ha.2 h
theorem rV (p : Int -> Bool) (r : List UInt8) : (yi p r).all (fun c => p c.toNat) = true := by
 unfold yi
 induction r with
 | nil => rfl
 | cons c r ih =>
  rw [List.takeWhile_cons]
  split
  ·rename_i h; rw [List.all_cons,h,ih]; rfl
  ·rfl
theorem zcq {r w : List UInt8} {n : Int} (h : ve r = .ok w) (hn : ku w = some n) : 0 <= n /\ n <= 2147483647 := by
 have g : zs ((w.headD 0).toNat : Int) = true /\ zX 0 w = some n := by
  unfold ku at hn
  split at hn
  ·rename_i d; exact ⟨d.2,hn⟩
  ·cases hn
 unfold ve at h
 split at h
 ·rename_i hl
  split at h
  ·cases h
  ·cases h
   cases r with
   | nil => simp [zH] at hl
   | cons c r =>
    have d : zH (c.toNat : Int) = true := hl
    have f : lod (c.toNat : Int) = true := by unfold lod; rw [d]; rfl
    have e : (yi lod (c :: r)).headD 0 = c := by
     unfold yi
     rw [List.takeWhile_cons,if_pos f]
     rfl
    have b := g.1; rw [e] at b
    unfold zH at d
    unfold zs at b
    rw [decide_eq_true_eq] at d b
    omega
 ·split at h
  ·split at h
   ·cases h
   ·cases h
    exact px _ 0 n (by omega) (by omega) (rV zs r) g.2
  ·rename_i hl hd
   split at h
   ·cases h
   ·rename_i hs
    cases h
    exfalso
    apply hd
    have b := g.1
    unfold xn at b hs
    cases r with
    | nil => simp [yr] at hs
    | cons c r =>
     split at b
     ·simpa using b
     ·split at b
      ·simpa using b
      ·simp [zs] at b
theorem nZ : ∀ (k : Nat) (r : List UInt8) (l : List (List UInt8 × List UInt8)),jv k r = .ok l -> ∀ x ∈ l,∀ n,ku x.1 = some n -> 0 <= n /\ n <= 2147483647
 | 0,r,l,h,x,hx,n,hn => by
  rw [jv] at h; cases h; cases hx
 | k + 1,r,l,h,x,hx,n,hn => by
  rw [jv] at h
  split at h
  ·cases h
  ·cases h
   cases List.mem_singleton.1 hx
   simp [ku] at hn
  ·rename_i c r' hk
   split at h
   ·cases h
   ·rename_i w hw
    split at h
    ·cases h
    ·rename_i l1 hl1
     cases h
     rcases List.mem_cons.1 hx with rfl | hx
     ·exact zcq hw hn
     ·exact nZ k _ l1 hl1 x hx n hn
theorem bw {r : List UInt8} {l : List (List UInt8 × List UInt8)} (h : jm r = .ok l) {L : List Tok} (hL : L.map Prod.fst = l.map Prod.fst) : NumL L := by
 intro i n b; rw [rN,hL,List.getElem?_map] at b; cases d : l[i]? with
 | none => rw [d] at b; simp [ku] at b
 | some x =>
  rw [d] at b
  exact nZ _ r l h x (List.mem_of_getElem? d) n b
abbrev W8 := List UInt8
def hdW : List W8 -> Nat
  | [] => 0
  | w :: ws => if uu w = true then 0 else (if opW w = true then 1 else 0) + hdW ws
def okW : List W8 -> Prop
  | [] => True
  | w :: ws => hdW (w :: ws) <= 20 /\ okW ws
def Gd (r : W8) (h : Nat) : Prop := ∃ ws,Lx r ws /\ okW ws /\ hdW ws <= h
theorem Gd.mono {r : W8} {h k : Nat} (g : Gd r h) (hk : h <= k) : Gd r k := by
  obtain ⟨ws,a,b,_⟩ := g
  exact ⟨ws,a,b,by omega⟩
theorem Gd.nil : Gd [] 0 := ⟨[],.nil,trivial,Nat.le_refl _⟩
/-! ### A constant's words -/
def sD : Nat -> W8 -> Option (List W8)
  | 0,_ => none
  | _ + 1,[] => some []
  | n + 1,c :: r =>
    if xR c.toNat = true then sD n r
    else if zH c.toNat = true then
      (if (yi lod (c :: r)).length <= 12 then (sD n ((c :: r).drop (yi lod (c :: r)).length)).map (yi lod (c :: r) :: ·) else none)
    else if zs c.toNat = true then
      (if (zX 0 (yi zs (c :: r))).isSome = true then (sD n ((c :: r).drop (yi zs (c :: r)).length)).map (yi zs (c :: r) :: ·) else none)
    else if (c = 58 \/ c = 60 \/ c = 62) /\ r.headD 0 = 61 then (sD n (r.drop 1)).map ([c,61] :: ·)
    else if kN.contains c = true /\ ¬ (c = 40 /\ r.headD 0 = 42) then (sD n r).map ([c] :: ·)
    else none
def pg : W8 -> Bool
  | [] => false
  | [c] => lod c.toNat
  | _ :: d :: r => pg (d :: r)
theorem qk {c : UInt8} {r : W8} (h : pg r = true) : pg (c :: r) = true := by
  cases r with
  | nil => cases h
  | cons d r => exact h
theorem dm : ∀ (k : Nat) (r : W8),pg (r.drop k) = true -> pg r = true
  | 0,r,h => by simpa using h
  | k + 1,[],h => by simpa using h
  | k + 1,c :: r,h => qk (dm k r (by simpa using h))
theorem rJ : ∀ (w : W8),w ≠ [] -> w.all (fun c => lod c.toNat) = true -> pg w = true
  | [],h,_ => absurd rfl h
  | [c],_,h => by simpa [pg] using h
  | c :: d :: r,_,h => by
    simp only [List.all_cons,Bool.and_eq_true] at h
    exact rJ (d :: r) (by simp) (by simp only [List.all_cons,Bool.and_eq_true]; exact h.2)
theorem dB (p : Int -> Bool) : ∀ (l : W8),yi p l ++ l.drop (yi p l).length = l /\ (l.drop (yi p l).length = [] \/ p (hdB (l.drop (yi p l).length)) = false)
  | [] => ⟨rfl,.inl rfl⟩
  | c :: l => by
    have ih := dB p l
    unfold yi at ih ⊢
    rw [List.takeWhile_cons]; cases hc : p c.toNat with
    | true => simpa using ih
    | false => exact ⟨by simp,.inr (by simpa [hdB] using hc)⟩
def Nx (r : W8) : Prop := hdB r ≠ 42 /\ hdB r ≠ 61
theorem Lx.digits {w r : W8} {ws : List W8} (h : Lx r ws) (hw : w ≠ []) (ha : w.all (fun c => zs c.toNat) = true) (hv : (zX 0 w).isSome = true) (hr : zs (hdB r) = false \/ r = []) : Lx (w ++ r) (w :: ws) := by
  cases w with
  | nil => exact absurd rfl hw
  | cons c w =>
    have hc : zs (c.toNat : Int) = true := by
      simp only [List.all_cons,Bool.and_eq_true] at ha
      exact ha.1
    have hb : xR (c.toNat : Int) = false := by
      unfold zs at hc
      rw [decide_eq_true_eq] at hc
      unfold xR
      rw [decide_eq_false_iff_not]
      omega
    have hlt : zH (c.toNat : Int) = false := by
      unfold zs at hc
      rw [decide_eq_true_eq] at hc
      unfold zH
      rw [decide_eq_false_iff_not]
      omega
    have h40 : c ≠ 40 := by
      intro e; subst e; revert hc; decide
    refine h.word (by simp) (by simpa using hb) (tI h40) ?_
    unfold ve
    have e1 : ((c :: w) ++ r).headD 0 = c := rfl
    obtain ⟨_,hv⟩ := Option.isSome_iff_exists.1 hv; rw [e1,if_neg (by rw [hlt]; simp),if_pos hc,dw ha hr,hv]
theorem cV {x r : W8} (h : x ≠ []) : hdB (x ++ r) = hdB x := by
  cases x with
  | nil => exact absurd rfl h
  | cons c x => rfl
theorem uQ : ∀ (n : Nat) (c : W8) (ws : List W8),sD n c = some ws -> ∀ (r : W8) (ws' : List W8),Lx r ws' -> (pg c = true -> Brk r) -> Nx r -> Lx (c ++ r) (ws ++ ws')
  | 0,c,ws,h => by cases h
  | n + 1,[],ws,h => by
    cases h; intro r ws' hl _ _
    exact hl
  | n + 1,c :: s,ws,h => by
    intro r ws' hl he hn; rw [sD] at h
    split at h
    · rename_i hc
      exact (uQ n s ws h r ws' hl (fun e => he (qk e)) hn).blank hc
    · split at h
      · rename_i _ hc
        split at h
        · rename_i h12
          obtain ⟨ws1,h1,rfl⟩ := Option.map_eq_some_iff.1 h
          have hlod : lod (c.toNat : Int) = true := by unfold lod; rw [hc]; rfl
          have e0 : ∃ w,yi lod (c :: s) = c :: w := by unfold yi; rw [List.takeWhile_cons,if_pos hlod]; exact ⟨_,rfl⟩
          obtain ⟨e1,e2⟩ := dB lod (c :: s); have e3 := rV lod (c :: s)
          generalize hw : yi lod (c :: s) = w at *
          generalize hd : (c :: s).drop w.length = d at *
          obtain ⟨w',rfl⟩ := e0; have ih := uQ n d ws1 h1 r ws' hl (fun e => he (by rw [<- hd] at e; exact dm _ _ e)) hn; rw [<- e1,List.append_assoc]; refine ih.name (by simp only [jE,Bool.and_eq_true,Bool.not_eq_true',decide_eq_true_eq]; exact ⟨⟨⟨rfl,h12⟩,hc⟩,e3⟩) ?_; cases d with
          | nil => exact he (by rw [<- e1,List.append_nil]; exact rJ _ (by simp) e3)
          | cons d0 d =>
            refine .inl ?_
            rcases e2 with e2 | e2
            · cases e2
            · exact e2
        · cases h
      · split at h
        · rename_i _ hl0 hc
          split at h
          · rename_i hv
            obtain ⟨ws1,h1,rfl⟩ := Option.map_eq_some_iff.1 h
            have e0 : ∃ w,yi zs (c :: s) = c :: w := by unfold yi; rw [List.takeWhile_cons,if_pos hc]; exact ⟨_,rfl⟩
            obtain ⟨e1,e2⟩ := dB zs (c :: s); have e3 := rV zs (c :: s)
            generalize hw : yi zs (c :: s) = w at *
            generalize hd : (c :: s).drop w.length = d at *
            obtain ⟨w',rfl⟩ := e0; have ih := uQ n d ws1 h1 r ws' hl (fun e => he (by rw [<- hd] at e; exact dm _ _ e)) hn; rw [<- e1,List.append_assoc]; refine ih.digits (by simp) e3 hv ?_; cases d with
            | nil =>
              refine Brk.digit (he ?_); rw [<- e1,List.append_nil]; refine rJ _ (by simp) ?_; rw [List.all_eq_true] at e3 ⊢; intro x hx; have := e3 x hx
              unfold lod
              rw [this,Bool.or_true]
            | cons d0 d =>
              refine .inl ?_
              rcases e2 with e2 | e2
              · cases e2
              · exact e2
          · cases h
        · split at h
          · rename_i hc
            obtain ⟨ws1,h1,rfl⟩ := Option.map_eq_some_iff.1 h; cases s with
            | nil => have := hc.2; simp at this
            | cons d s =>
              obtain rfl : d = 61 := hc.2
              exact (uQ n s ws1 h1 r ws' hl (fun e => he (qk (qk e))) hn).sign2 hc.1
          · split at h
            · rename_i h2 hc
              obtain ⟨ws1,h1,rfl⟩ := Option.map_eq_some_iff.1 h; have ih := uQ n s ws1 h1 r ws' hl (fun e => he (qk e)) hn; refine ih.sign hc.1 ?_ ?_
              · cases s with
                | nil => exact .inr hn.1
                | cons d s =>
                  by_cases h40 : c = 40
                  · refine .inr (fun e => hc.2 ⟨h40,?_⟩)
                    have e : (d.toNat : Int) = 42 := e
                    show d = 42
                    exact UInt8.toNat_inj.1 (by have : d.toNat = 42 := by omega
                                                exact this)
                  · exact .inl h40
              · cases s with
                | nil => exact .inr hn.2
                | cons d s =>
                  by_cases h9 : c = 58 \/ c = 60 \/ c = 62
                  · refine .inr (fun e => h2 ⟨h9,?_⟩)
                    have e : (d.toNat : Int) = 61 := e
                    show d = 61
                    exact UInt8.toNat_inj.1 (by have : d.toNat = 61 := by omega
                                                exact this)
                  · refine .inl ⟨fun e => h9 (.inl e),fun e => h9 (.inr (.inl e)),fun e => h9 (.inr (.inr e))⟩
            · cases h
/-! ### How many operators -/
def dg : List W8 -> Nat -> Option Nat
  | [],h => some h
  | w :: ws,h => match dg ws h with
    | none => none
    | some k => if uu w = true then some 0 else if opW w = true then (if k < 20 then some (k + 1) else none) else some k
theorem ox : ∀ (ws : List W8) (h k : Nat) (ws' : List W8),dg ws h = some k -> h <= 20 -> okW ws' -> hdW ws' <= h -> okW (ws ++ ws') /\ hdW (ws ++ ws') <= k /\ k <= 20
  | [],h,k,ws',e,h20,ho,hh => by cases e; exact ⟨ho,hh,h20⟩
  | w :: ws,h,k,ws',e,h20,ho,hh => by
    rw [dg] at e; cases hr : dg ws h with
    | none => rw [hr] at e; cases e
    | some m =>
      rw [hr] at e; obtain ⟨i1,_,_⟩ := ox ws h m ws' hr h20 ho hh; simp only at e; rw [List.cons_append,okW,hdW]
      split at e
      · rename_i hs; cases e; rw [if_pos hs]; exact ⟨⟨Nat.zero_le _,i1⟩,Nat.le_refl _,Nat.zero_le _⟩
      · rename_i hs
        rw [if_neg hs]
        split at e
        · rename_i ho'
          rw [if_pos ho']
          split at e
          · cases e; exact ⟨⟨by omega,i1⟩,by omega,by omega⟩
          · cases e
        · rename_i ho'
          rw [if_neg ho']; cases e
          exact ⟨⟨by omega,i1⟩,by omega,by omega⟩
theorem mv : ∀ (ws : List W8) (h k : Nat),ws.all (fun w => !uu w) = true -> dg ws 0 = some k -> h + k <= 20 -> dg ws h = some (h + k)
  | [],h,k,_,e,_ => by cases e; rfl
  | w :: ws,h,k,ha,e,hk => by
    simp only [List.all_cons,Bool.and_eq_true,Bool.not_eq_true'] at ha; rw [dg] at e; cases hr : dg ws 0 with
    | none => rw [hr] at e; cases e
    | some m =>
      rw [hr] at e; simp only [ha.1] at e; rw [if_neg (by simp)] at e
      have hmk : m <= k /\ (if opW w = true then k = m + 1 else k = m) := by
        split at e
        · rename_i ho
          split at e
          · cases e; rw [if_pos ho]; exact ⟨by omega,rfl⟩
          · cases e
        · rename_i ho; cases e; rw [if_neg ho]; exact ⟨Nat.le_refl _,rfl⟩
      have ih := mv ws h m (by simpa using ha.2) hr (by omega); rw [dg,ih]; simp only [ha.1]; rw [if_neg (by simp)]
      split
      · rename_i ho
        rw [if_pos ho] at hmk; rw [if_pos (by omega),hmk.2]
        rfl
      · rename_i ho
        rw [if_neg ho] at hmk; rw [hmk.2]
/-! ### Pieces -/
def Pz (fe : Bool) (a b : Nat) (x : W8) : Prop := ∀ r,Nx r -> (fe = false -> Brk r) -> Gd r a -> Gd (x ++ r) b
structure Hd (bs : Bool) (x : W8) : Prop where
  ne : x ≠ []
  nx : Nx x
  brk : bs = true -> lod (hdB x) = false
theorem Hd.app {bs : Bool} {x : W8} (h : Hd bs x) (y : W8) : Hd bs (x ++ y) := by
  refine ⟨fun e => h.ne (List.append_eq_nil_iff.1 e).1,?_,?_⟩
  · unfold Nx; rw [cV h.ne]; exact h.nx
  · rw [cV h.ne]; exact h.brk
theorem Hd.weak {bs : Bool} {x : W8} (h : Hd bs x) : Hd false x := ⟨h.ne,h.nx,fun e => by cases e⟩
theorem Pz.mono {fe : Bool} {a b a' b' : Nat} {x : W8} (h : Pz fe a b x) (ha : a' <= a) (hb : b <= b') : Pz fe a' b' x := fun r h1 h2 h3 => (h r h1 h2 (h3.mono ha)).mono hb
theorem Pz.join {f1 f2 bs : Bool} {a b c : Nat} {x y : W8} (hx : Pz f1 b c x) (hy : Pz f2 a b y) (hd : Hd bs y) (hb : (f1 || bs) = true) : Pz f2 a c (x ++ y) := fun r h1 h2 h3 => by
  rw [List.append_assoc]; refine hx (y ++ r) (hd.app r).nx (fun e => .inl ?_) (hy r h1 h2 h3); subst e
  exact (hd.app r).brk (by simpa using hb)
theorem Pz.nil (a : Nat) : Pz true a a [] := fun _ _ _ h => h
theorem Pz.end' {fe : Bool} {a : Nat} {x : W8} (h : Pz fe 0 a x) : Gd x a := by
  have := h [] ⟨by decide,by decide⟩ (fun _ => .inr rfl) .nil
  simpa using this
def hdC (bs : Bool) (c : W8) : Bool := !c.isEmpty && hdB c != 42 && hdB c != 61 && (!bs || !lod (hdB c))
theorem zfn {bs : Bool} {c : W8} (h : hdC bs c = true) : Hd bs c := by
  simp only [hdC,Bool.and_eq_true,Bool.not_eq_true',bne_iff_ne,Bool.or_eq_true] at h; obtain ⟨⟨⟨h1,h2⟩,h3⟩,h4⟩ := h; refine ⟨(by intro e; subst e; cases h1),⟨h2,h3⟩,fun e => ?_⟩; subst e
  simpa using h4
def chk (fe : Bool) (a b : Nat) (c : W8) : Bool := match sD (c.length + 1) c with
  | none => false
  | some ws => (match dg ws a with | none => false | some k => decide (k <= b)) && (!fe || !pg c) && decide (a <= 20)
theorem zb0 {fe : Bool} {a b : Nat} {c : W8} (h : chk fe a b c = true) : Pz fe a b c := by
  unfold chk at h
  cases hl : sD (c.length + 1) c with
  | none => rw [hl] at h; cases h
  | some ws =>
    rw [hl] at h; cases hr : dg ws a with
    | none => simp [hr] at h
    | some k =>
      simp only [hr,Bool.and_eq_true,decide_eq_true_eq,Bool.or_eq_true,Bool.not_eq_true'] at h; obtain ⟨⟨_,h2⟩,h3⟩ := h; rintro r hn hb ⟨ws',l1,l2,l3⟩; obtain ⟨k1,_,_⟩ := ox ws a k ws' hr h3 l2 l3; refine ⟨ws ++ ws',uQ _ c ws hl r ws' l1 (fun e => hb ?_) hn,k1,by omega⟩
      rcases h2 with h2 | h2
      · exact h2
      · rw [e] at h2; cases h2
def kO (fe : Bool) (k : Nat) (c : W8) : Bool := match sD (c.length + 1) c with
  | none => false
  | some ws => (match dg ws 0 with | none => false | some m => decide (m <= k)) && (!fe || !pg c) && ws.all (fun w => !uu w)
theorem zkn {fe : Bool} {k : Nat} {c : W8} (h : kO fe k c = true) (a : Nat) (ha : a + k <= 20) : Pz fe a (a + k) c := by
  unfold kO at h
  cases hl : sD (c.length + 1) c with
  | none => rw [hl] at h; cases h
  | some ws =>
    rw [hl] at h; cases hr : dg ws 0 with
    | none => simp [hr] at h
    | some m =>
      simp only [hr,Bool.and_eq_true,decide_eq_true_eq,Bool.or_eq_true,Bool.not_eq_true'] at h; obtain ⟨⟨_,h2⟩,h3⟩ := h; rintro r hn hb ⟨ws',l1,l2,l3⟩; obtain ⟨k1,_,_⟩ := ox ws a (a + m) ws' (mv ws a m h3 hr (by omega)) (by omega) l2 l3; refine ⟨ws ++ ws',uQ _ c ws hl r ws' l1 (fun e => hb ?_) hn,k1,by omega⟩
      rcases h2 with h2 | h2
      · exact h2
      · rw [e] at h2; cases h2
/-! ### What it is for -/
theorem zdo (L : List Tok) : ∀ (n i : Nat),(∀ k,k < n -> uu (wd L (i + k)) = false) -> opN L i n <= hdW ((L.map Prod.fst).drop i)
  | 0,i,_ => Nat.zero_le _
  | n + 1,i,h => by
    rw [opN]; have h0 := h 0 (by omega); have ih := zdo L n (i + 1) (fun k hk => by have := h (k + 1) (by omega); rwa [show i + (k + 1) = i + 1 + k by omega] at this)
    rcases Nat.lt_or_ge i (L.map Prod.fst).length with hi | hi
    · rw [List.drop_eq_getElem_cons hi,hdW]
      have e : (L.map Prod.fst)[i] = wd L i := by
        rw [rN,List.getElem?_eq_getElem hi]; rfl
      rw [e,if_neg (c := uu (wd L i) = true) (by rw [Nat.add_zero] at h0; rw [h0]; simp)]
      omega
    · rw [List.drop_eq_nil_of_le (by omega)] at ih
      have e : wd L i = [] := by rw [rN,List.getElem?_eq_none hi]; rfl
      rw [e,if_neg (by decide)]; rw [List.drop_eq_nil_of_le hi]
      omega
theorem lO : ∀ (i : Nat) (ws : List W8),okW ws -> hdW (ws.drop i) <= 20
  | 0,[],_ => Nat.zero_le _
  | 0,_ :: _,h => h.1
  | _ + 1,[],_ => Nat.zero_le _
  | i + 1,_ :: ws,h => lO i ws h.2
theorem bI : ∀ (ws : List W8),okW ws -> okW (ws ++ [[]]) /\ hdW (ws ++ [[]]) = hdW ws
  | [],_ => ⟨⟨by decide,trivial⟩,by decide⟩
  | w :: ws,h => by
    obtain ⟨a,b⟩ := bI ws h.2
    have e : hdW (w :: ws ++ [[]]) = hdW (w :: ws) := by rw [List.cons_append,hdW,hdW,b]
    exact ⟨⟨Nat.le_trans (Nat.le_of_eq e) h.1,a⟩,e⟩
theorem Gd.seg {r : W8} {h : Nat} (g : Gd r h) : ∃ l,jm r = .ok l /\ ∀ L : List Tok,L.map Prod.fst = l.map Prod.fst -> SegOK L := by
  obtain ⟨ws,a,b,-⟩ := g; obtain ⟨l,e1,e2⟩ := a (r.length + 1) (Nat.lt_succ_self _); refine ⟨l,e1,fun L hL i j c hs => ?_⟩; obtain ⟨n,rfl,_,h2⟩ := hs; have := zdo L n i h2; rw [hL,e2] at this; have := lO i _ (bI ws b).1
  omega
end Go.Proofs.YtfjgelmllcnokaaGreatDoor
