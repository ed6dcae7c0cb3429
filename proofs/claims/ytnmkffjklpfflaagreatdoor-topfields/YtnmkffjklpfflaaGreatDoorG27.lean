/- What is read is well formed,and not too deep. -/
import Derived.Test.YtnmkffjklpfflaaGreatDoorG13
import Derived.Test.YtnmkffjklpfflaaGreatDoorG26
namespace Go.Proofs.YtnmkffjklpfflaaGreatDoor
structure Qd (d : Nat) (r : Rule) (t : T) : Prop where
 wf : WF r t
 dp : yf t <= d
section
variable {L : List Tok} {d b : Nat} {r : Rule} {t u v : T} {i j : Nat}
theorem Qd.mono (h : Qd d r t) {e : Nat} (he : d <= e) : Qd e r t := ⟨h.wf,Nat.le_trans h.dp he⟩
theorem xx {k : Int} {x : List UInt8} {n p : Int} {l : List T} (m : List (T × Rule)) (h : yi r (.mk k x n p l) = some m) (ha : ∀ q ∈ m,Qd d q.2 q.1) (hx : x.length <= 12) (hk : 0 <= k /\ k <= 99) (hn : 0 <= n /\ n <= 2147483647) : Qd (d + 1) r (.mk k x n p l) := by
 refine ⟨dQ m h (fun q c => (ha q c).wf) hx hk hn,?_⟩; have e : m.map (·.1) = l := fG h; have g := qo (f := d) l (fun u hu => by rw [<- e] at hu; obtain ⟨q,c,rfl⟩ := List.mem_map.1 hu; exact (ha q c).dp); rw [yf]
 omega
theorem xa : ∀ q ∈ ([] : List (T × Rule)),Qd d q.2 q.1 := fun q hq => by cases hq
theorem yg {m : List (T × Rule)} (h : Qd d r t) (hm : ∀ q ∈ m,Qd d q.2 q.1) : ∀ q ∈ (t,r) :: m,Qd d q.2 q.1 := fun q hq => by
 rcases List.mem_cons.1 hq with rfl | hq
 ·exact h
 ·exact hm q hq
theorem sG {l : List T} (h : ∀ t ∈ l,Qd d r t) : ∀ q ∈ vD l r,Qd d q.2 q.1 := fun q hq => by
 obtain ⟨t,ht,rfl⟩ := List.mem_map.1 hq
 exact h t ht
theorem zaw (h : Qd d .designator t) : Qd d .expression t := ⟨za5 h.wf,h.dp⟩
theorem ax (h : TyN t) : Qd 2 .typeName t := by
 refine ⟨mi h,?_⟩
 cases h <;> simp [yf,uX]
theorem am {x : List UInt8} {p : Int} (hx : 0 <= vv x) (ha : Qd d .expression u) (hb : Qd d .expression v) : Qd (d + 1) .expression (.mk 36 x 0 p [u,v]) :=
 xx _ (by simp [yi,zV,zA,T.kind,T.name,T.num,T.subs,yY,hx]) (yg ha (yg hb xa)) (zbk hx) (by omega) (by omega)
section
variable {E : P T} (hE : ∀ i e j,E i = .ok (e,j) -> Qd b .expression e) (hb : 2 <= b)
include hE hb
theorem bY (hd : b <= d) (hu : Qd d .designator u) (h : xZ L E u i = .ok (v,j)) : Qd (d + 1) .designator v := by
 unfold xZ at h
 split at h
 ·obtain ⟨_,m,c,f⟩ := zi h
  obtain ⟨k,_,_⟩ := kM c; obtain ⟨rfl,_⟩ := zH f
  exact xx _ (by simp [yi,zZ,zA,zJ,T.kind,T.name,T.num,T.subs,yY,k]) (yg hu xa) (vi k) (by omega) (by omega)
 ·split at h
  ·obtain ⟨_,m,c,f⟩ := zi h
   obtain ⟨_,l,n,g⟩ := zi f; obtain ⟨rfl,_⟩ := zH g
   exact xx _ (by simp [yi,zZ,zA,zJ,T.kind,T.name,T.num,T.subs,yY]) (yg hu (yg ((hE _ _ _ c).mono hd) xa)) (by simp) (by omega) (by omega)
  ·split at h
   ·cases h
    exact xx _ (by simp [yi,zZ,zA,zJ,T.kind,T.name,T.num,T.subs,yY]) (yg hu xa) (by simp) (by omega) (by omega)
   ·obtain ⟨_,m,c,f⟩ := zi h
    obtain ⟨_,l,n,g⟩ := zi f; obtain ⟨rfl,_⟩ := zH g
    exact xx _ (by simp [yi,zZ,zA,zJ,T.kind,T.name,T.num,T.subs,yY]) (yg hu (yg ((ax (sd c)).mono (by omega)) xa)) (by simp) (by omega) (by omega)
theorem rC : ∀ (f : Nat) {d : Nat} {u t : T} {i j : Nat},b <= d -> Qd d .designator u -> zN L E f u i = .ok (t,j) -> Qd (d + f) .designator t
 | 0,d,u,t,i,j,hd,hu,h => by
  have h : (if yy (wd L i) = true then (xZ L E u).bind (fun _ => xX L) i else .ok (u,i)) = .ok (t,j) := h
  split at h
  ·obtain ⟨_,_,_,h2⟩ := zi h
   cases h2
  ·cases h
   exact hu
 | f + 1,d,u,t,i,j,hd,hu,h => by
  have h : (if yy (wd L i) = true then (xZ L E u).bind (fun n' => zN L E f n') i else .ok (u,i)) = .ok (t,j) := h
  split at h
  ·obtain ⟨_,_,h1,h2⟩ := zi h
   exact (rC f (by omega) (bY hE hb hd hu h1) h2).mono (by omega)
  ·cases h
   exact hu.mono (by omega)
theorem lH (h : zQ L E i = .ok (t,j)) : Qd (b + 20) .designator t := by
 obtain ⟨_,_,f,g⟩ := zi h; obtain ⟨c,rfl,rfl⟩ := jT f; refine rC hE hb 20 (Nat.le_refl _) (Qd.mono (d := 1) (xx [] (by simp [yi,zZ,zA,zJ,T.kind,T.name,T.num,T.subs,c]) xa (vi c) (by omega) (by omega)) (by omega)) g
theorem oX (hN : NumL L) {F : P T} (hF : ∀ i e j,F i = .ok (e,j) -> Qd b .expression e) (h : zK L E F i = .ok (t,j)) : Qd (b + 21) .expression t := by
 have c : ∀ {k p : Int},(k = 30 \/ k = 31 \/ k = 32) -> Qd (b + 21) .expression (.mk k [] 0 p []) := fun {k p} hk => Qd.mono (d := 1) (xx [] (by rcases hk with rfl | rfl | rfl <;> simp [yi,zV,zA,zJ,T.kind,T.name,T.num,T.subs]) xa (by simp) (by omega) (by omega)) (by omega)
 unfold zK at h
 split at h
 ·cases h; exact c (.inl rfl)
 split at h
 ·cases h; exact c (.inr (.inl rfl))
 split at h
 ·cases h; exact c (.inr (.inr rfl))
 split at h
 ·obtain ⟨_,m,g,f⟩ := zi h
  obtain ⟨rfl,_⟩ := zH f
  exact (xx _ (by simp [yi,zV,zA,zJ,T.kind,T.name,T.num,T.subs,yY]) (yg (hF _ _ _ g) xa) (by simp) (by omega) (by omega)).mono (by omega)
 split at h
 ·obtain ⟨e,m,g,f⟩ := zi h
  obtain ⟨_,x,o,n⟩ := zi f; obtain ⟨rfl,_⟩ := zH n
  exact (hE _ _ _ g).mono (by omega)
 split at h
 ·unfold yR at h
  obtain ⟨d,m,g,f⟩ := zi h; have q := lH hE hb g; have f : (if wd L m = xA then (vY L E).bind (fun l => P.ret (.mk 33 [] 0 d.at' (d :: l))) m else .ok (d,m)) = .ok (t,j) := f
  split at f
  ·obtain ⟨l,x,o,n⟩ := zi f
   obtain ⟨rfl,_⟩ := zH n
   exact xx ((d,.designator) :: vD l .expression) (by simp [yi,zV,zA,zJ,T.kind,T.name,T.num,T.subs,ut]) (yg q (sG fun e he => by obtain ⟨_,_,z⟩ := vZ o e he; exact (hE _ _ _ z).mono (by omega))) (by simp) (by omega) (by omega)
  ·cases f
   exact (zaw q).mono (by omega)
 ·obtain ⟨m,_,g,f⟩ := zi h
  obtain ⟨rfl,_⟩ := zH f; obtain ⟨s,w⟩ := cR hN g
  exact Qd.mono (d := 1) (xx [] (by simp [yi,zV,zA,zJ,T.kind,T.name,T.num,T.subs,nf,s,w]) xa (by simp) (by omega) ⟨s,w⟩) (by omega)
end
theorem fU {J : List UInt8 -> Bool} {part : P T} (hJ : ∀ x,J x = true -> 0 <= vv x) (hp : ∀ i e j,part i = .ok (e,j) -> Qd b .expression e) : ∀ (f : Nat) {d : Nat} {u t : T} {i j : Nat},b <= d -> Qd d .expression u -> xo L J part f u i = .ok (t,j) -> Qd (d + f) .expression t
 | 0,d,u,t,i,j,hd,hu,h => by
  have h : (if J (wd L i) = true then xX L (i + 1) else .ok (u,i)) = .ok (t,j) := h
  split at h
  ·cases h
  ·cases h; exact hu
 | f + 1,d,u,t,i,j,hd,hu,h => by
  have h : (if J (wd L i) = true then part.bind (fun r => xo L J part f (opT (wd L i) u r)) (i + 1) else .ok (u,i)) = .ok (t,j) := h
  split at h
  ·rename_i hx
   obtain ⟨_,_,h1,h2⟩ := zi h
   exact (fU hJ hp f (d := d + 1) (by omega) (am (hJ _ hx) hu ((hp _ _ _ h1).mono hd)) h2).mono (by omega)
  ·cases h; exact hu.mono (by omega)
theorem aI (hN : NumL L) {E F : P T} (hb : 2 <= b) (hE : ∀ i e j,E i = .ok (e,j) -> Qd b .expression e) (hF : ∀ i e j,F i = .ok (e,j) -> Qd b .expression e) (h : xl L E F i = .ok (t,j)) : Qd (b + 63) .expression t := by
 have g : ∀ i e j,xT L E F i = .ok (e,j) -> Qd (b + 41) .expression e := fun i e j h => by
  obtain ⟨a,m,o,c⟩ := zi h
  exact fU (fun x hx => by rw [bZ hx]; omega) (fun i e j => oX hE hb hN hF) 20 (Nat.le_refl _) (oX hE hb hN hF o) c
 have k : ∀ i e j,sN L E F i = .ok (e,j) -> Qd (b + 62) .expression e := fun i e j h => by
  obtain ⟨_,m,o,c⟩ := zi (show P.bind (yr L kS) _ i = .ok (e,j) from h); obtain ⟨a,q,l,n⟩ := zi c; have f := g _ _ _ l; refine fU (b := b + 41) (d := b + 42) (fun x hx => by rw [bC hx]; omega) g 20 (by omega) ?_ n
  split
  ·exact xx _ (by simp [yi,zV,zA,zJ,T.kind,T.name,T.num,T.subs,yY]) (yg f xa) (by simp) (by omega) (by omega)
  ·exact f.mono (by omega)
 obtain ⟨a,m,o,c⟩ := zi (show P.bind (sN L E F) _ i = .ok (t,j) from h); have f := k _ _ _ o; have c : (if wd L m = kIS then (yt L).bind (fun y => P.ret (.mk 37 [] 0 a.at' [a,y])) (m + 1) else if xO (wd L m) = true then (sN L E F).bind (fun b => P.ret (opT (wd L m) a b)) (m + 1) else .ok (a,m)) = .ok (t,j) := c
 split at c
 ·obtain ⟨y,q,l,n⟩ := zi c
  obtain ⟨rfl,_⟩ := zH n
  exact xx _ (by simp [yi,zV,zA,zJ,T.kind,T.name,T.num,T.subs,yY]) (yg f (yg ((ax (sd l)).mono (by omega)) xa)) (by simp) (by omega) (by omega)
 ·split at c
  ·rename_i hx
   obtain ⟨y,q,l,n⟩ := zi c; obtain ⟨rfl,_⟩ := zH n
   exact am (by rw [cX hx]; omega) f (k _ _ _ l)
  ·cases c
   exact f.mono (by omega)
theorem mq (hN : NumL L) : ∀ (n : Nat),(∀ i e j,uj L n i = .ok (e,j) -> Qd (63 * n + 2) .expression e) /\ (∀ i e j,xq L n i = .ok (e,j) -> Qd (63 * n + 2) .expression e)
 | 0 => ⟨fun i e j h => (by cases h),fun i e j h => (by cases h)⟩
 | n + 1 => by
  obtain ⟨h1,h2⟩ := mq hN n
  exact ⟨fun i e j h => (aI hN (by omega) h1 h2 h).mono (by omega),fun i e j h => (oX h1 (by omega) hN h2 h).mono (by omega)⟩
end
section
variable {L : List Tok} {d a b c : Nat} {t : T} {i j : Nat}
theorem sM : ∀ (ps : List (T × T)) (tail : List T),(∀ q ∈ ps,Qd d .expression q.1 /\ Qd d (.list .act) q.2) -> (∀ q ∈ uL tail,Qd d q.2 q.1) -> ∀ q ∈ uL (kB ps ++ tail),Qd d q.2 q.1
 | [],tail,_,h => h
 | (c,a) :: ps,tail,h1,h => yg (h1 (c,a) (by simp)).1 (yg (h1 (c,a) (by simp)).2 (sM ps tail (fun q hq => h1 q (by simp [hq])) h))
theorem zao {E A : P T} (hb : 2 <= b) (hc : b + 20 <= c) (hE : ∀ i e j,E i = .ok (e,j) -> Qd b .expression e) (hA : ∀ i e j,A i = .ok (e,j) -> Qd c (.list .act) e) (h : xu L E A i = .ok (t,j)) : Qd (c + 1) .act t := by
 have g : ∀ {i e j},E i = .ok (e,j) -> Qd c .expression e := fun h => (hE _ _ _ h).mono (by omega)
 have J : ∀ {i e j},zQ L E i = .ok (e,j) -> Qd c .designator e := fun h => (lH hE hb h).mono hc
 unfold xu at h
 split at h
 ·obtain ⟨_,m,_,f⟩ := zi (show P.bind (zB L kIF) _ i = .ok (t,j) from h)
  obtain ⟨l,F,s,u⟩ := zi f; obtain ⟨x,y,rfl,⟨_,_,X⟩,_,_,Y⟩ := fS s; obtain ⟨_,N,B,C⟩ := zi u; obtain ⟨G,rfl,O⟩ := qM _ B; obtain ⟨o,V,K,H⟩ := zi C; have e := tD G
  have I : ∀ q ∈ (x,y) :: G,Qd c .expression q.1 /\ Qd c (.list .act) q.2 := fun q I => by
   rcases List.mem_cons.1 I with rfl | I
   ·exact ⟨g X,hA _ _ _ Y⟩
   ·obtain ⟨⟨Z,j1,Q⟩,_,_,k2⟩ := O q I
    exact ⟨g Q,hA _ _ _ k2⟩
  cases o with
  | true =>
   rw [if_pos rfl] at H; obtain ⟨z,m5,M,R⟩ := zi H; obtain ⟨_,m6,_,D⟩ := zi R; obtain ⟨rfl,_⟩ := zH D; refine xx (uL (x :: y :: (kB G ++ [z]))) ?_ (sM ((x,y) :: G) [z] I (yg (hA _ _ _ M) xa)) (by simp) (by omega) (by omega); simp only [yi,jq,zA,T.kind,T.name,T.num,T.subs]
   simp [e]
   omega
  | false =>
   rw [if_neg (by simp)] at H; obtain ⟨_,m6,_,D⟩ := zi H; obtain ⟨rfl,_⟩ := zH D; have M := sM ((x,y) :: G) [] I xa; rw [List.append_nil] at M; refine xx (uL (x :: y :: kB G)) ?_ M (by simp) (by omega) (by omega); simp only [yi,jq,zA,T.kind,T.name,T.num,T.subs]
   simp [e]
   omega
 split at h
 ·obtain ⟨_,m,_,f⟩ := zi (show P.bind (zB L qq) _ i = .ok (t,j) from h)
  obtain ⟨x,F,s,u⟩ := zi f; obtain ⟨_,N,_,B⟩ := zi u; obtain ⟨y,V,C,K⟩ := zi B; obtain ⟨_,m5,_,H⟩ := zi K; obtain ⟨rfl,_⟩ := zH H
  exact xx _ (by simp [yi,jq,zA,zJ,T.kind,T.name,T.num,T.subs,yY]) (yg (g s) (yg (hA _ _ _ C) xa)) (by simp) (by omega) (by omega)
 split at h
 ·obtain ⟨_,m,_,f⟩ := zi (show P.bind (zB L jU) _ i = .ok (t,j) from h)
  obtain ⟨y,F,s,u⟩ := zi f; obtain ⟨_,N,_,B⟩ := zi u; obtain ⟨x,V,C,K⟩ := zi B; obtain ⟨rfl,_⟩ := zH K
  exact xx _ (by simp [yi,jq,zA,zJ,T.kind,T.name,T.num,T.subs,yY]) (yg (hA _ _ _ s) (yg (g C) xa)) (by simp) (by omega) (by omega)
 split at h
 ·obtain ⟨_,m,_,f⟩ := zi (show P.bind (zB L jN) _ i = .ok (t,j) from h)
  have f : (if xH (wd L m) = true then .ok (.mk 19 [] 0 (pos L i) [],m) else E.bind (fun e => P.ret (.mk 19 [] 0 (pos L i) [e])) m) = .ok (t,j) := f
  split at f
  ·cases f
   exact xx [] (by simp [yi,jq,zA,zJ,T.kind,T.name,T.num,T.subs,vD]) xa (by simp) (by omega) (by omega)
  ·obtain ⟨e,F,s,u⟩ := zi f
   obtain ⟨rfl,_⟩ := zH u
   exact xx [(e,.expression)] (by simp [yi,jq,zA,zJ,T.kind,T.name,T.num,T.subs,vD]) (yg (g s) xa) (by simp) (by omega) (by omega)
 have n : ∀ {k : Int} {w : List UInt8} {v : P T} {r : Rule},(∀ {i e j},v i = .ok (e,j) -> Qd c r e) -> 0 <= k /\ k <= 99 -> (∀ p e,yi .act (.mk k [] 0 p [e]) = some [(e,r)]) -> xk L k w v i = .ok (t,j) -> Qd (c + 1) .act t := by
  intro k w v r hp hk hs h; obtain ⟨_,m,_,f⟩ := zi (show P.bind (zB L w) _ i = .ok (t,j) from h); obtain ⟨_,_,_,s⟩ := zi (show P.bind (zB L xA) _ m = .ok (t,j) from f); obtain ⟨e,F,u,B⟩ := zi s; obtain ⟨_,N,_,C⟩ := zi B; obtain ⟨rfl,_⟩ := zH C
  exact xx _ (hs _ _) (yg (hp u) xa) (by simp) hk (by omega)
 split at h
 ·exact n (r := .designator) J (by omega) (fun p e => by simp [yi,jq,zA,zJ,T.kind,T.name,T.num,T.subs,yY]) h
 split at h
 ·exact n (r := .expression) g (by omega) (fun p e => by simp [yi,jq,zA,zJ,T.kind,T.name,T.num,T.subs,yY]) h
 split at h
 ·exact n (r := .designator) J (by omega) (fun p e => by simp [yi,jq,zA,zJ,T.kind,T.name,T.num,T.subs,yY]) h
 split at h
 ·exact n (r := .expression) g (by omega) (fun p e => by simp [yi,jq,zA,zJ,T.kind,T.name,T.num,T.subs,yY]) h
 ·obtain ⟨x,m,U,f⟩ := zi (show P.bind (zQ L E) _ i = .ok (t,j) from h)
  have f : (if wd L m = jR then E.bind (fun e => P.ret (.mk 14 [] 0 (pos L i) [x,e])) (m + 1) else if wd L m = xA then (vY L E).bind (fun l => P.ret (.mk 15 [] 0 (pos L i) (x :: l))) m else .ok (.mk 15 [] 0 (pos L i) [x],m)) = .ok (t,j) := f
  split at f
  ·obtain ⟨e,F,s,u⟩ := zi f
   obtain ⟨rfl,_⟩ := zH u
   exact xx _ (by simp [yi,jq,zA,zJ,T.kind,T.name,T.num,T.subs,yY]) (yg (J U) (yg (g s) xa)) (by simp) (by omega) (by omega)
  ·split at f
   ·obtain ⟨l,F,s,u⟩ := zi f
    obtain ⟨rfl,_⟩ := zH u
    exact xx ((x,.designator) :: vD l .expression) (by simp [yi,jq,zA,zJ,T.kind,T.name,T.num,T.subs,ut]) (yg (J U) (sG fun e he => by obtain ⟨Z,j1,Q⟩ := vZ s e he; exact g Q)) (by simp) (by omega) (by omega)
   ·cases f
    exact xx [(x,.designator)] (by simp [yi,jq,zA,zJ,T.kind,T.name,T.num,T.subs,ut,vD]) (yg (J U) xa) (by simp) (by omega) (by omega)
theorem sD (hN : NumL L) : ∀ (n i : Nat) (t : T) (j : Nat),n <= 20 -> uG L n i = .ok (t,j) -> Qd (1400 + 2 * n) (.list .act) t
 | 0,i,t,j,_,h => by cases h
 | n + 1,i,t,j,hn,h => by
  obtain ⟨l,_,h1,h2⟩ := zi (show P.bind (yw L (uj L n) (uG L n) (L.length + 1) []) _ i = .ok (t,j) from h); obtain ⟨rfl,_⟩ := zH h2; obtain ⟨_,e1,hr⟩ := rk _ h1; rw [List.nil_append] at e1; subst e1; refine (xx (d := 1400 + 2 * n + 1) (vD l .act) (by simp [yi,zA,zJ,T.kind,T.name,T.num,T.subs]) (sG fun e he => ?_) (by simp) (by omega) (by omega)).mono (by omega); obtain ⟨_,_,k1⟩ := hr e he
  exact zao (b := 63 * n + 2) (by omega) (by omega) (mq hN n).1 (fun i e j h => sD hN n i e j (by omega) h) k1
/-! ### Lengths -/
theorem qK {part : P T} {sep : List UInt8} : ∀ (f : Nat) {acc l : List T} {i j : Nat},yE L part sep f acc i = .ok (l,j) -> l.length <= acc.length + f
 | 0,acc,l,i,j,h => by cases h
 | f + 1,acc,l,i,j,h => by
  obtain ⟨o,m,_,h2⟩ := zi (show P.bind (yr L sep) _ i = .ok (l,j) from h); cases o with
  | true =>
   obtain ⟨_,_,_,h4⟩ := zi (show P.bind part _ m = .ok (l,j) from h2); have := qK f h4; simp only [la,lc,ln] at this
   omega
  | false =>
   obtain ⟨rfl,_⟩ := zH (show P.ret _ m = .ok (l,j) from h2)
   omega
theorem oh {part : P T} : ∀ (f : Nat) {acc l : List T} {i j : Nat},yc L part f acc i = .ok (l,j) -> l.length <= acc.length + f
 | 0,acc,l,i,j,h => by cases h
 | f + 1,acc,l,i,j,h => by
  have h : (if yh (wd L i) = true then part.bind (fun t => (zB L yl).bind fun _ => yc L part f (acc ++ [t])) i else .ok (acc,i)) = .ok (l,j) := h
  split at h
  ·obtain ⟨t,_,_,h2⟩ := zi h
   obtain ⟨_,_,_,h3⟩ := zi h2; have := oh f h3; simp only [la,lc,ln] at this
   omega
  ·cases h
   omega
theorem dP : ∀ (f : Nat) {acc l : List T} {i j : Nat},yv L f acc i = .ok (l,j) -> l.length <= acc.length + f
 | 0,acc,l,i,j,h => by cases h
 | f + 1,acc,l,i,j,h => by
  have h : (if wd L i = yV then (yJ L).bind (fun t => (zB L yl).bind fun _ => yv L f (acc ++ [t])) i else .ok (acc,i)) = .ok (l,j) := h
  split at h
  ·obtain ⟨t,_,_,h2⟩ := zi h
   obtain ⟨_,_,_,h3⟩ := zi h2; have := dP f h3; simp only [la,lc,ln] at this
   omega
  ·cases h
   omega
theorem dR : ∀ (n : Nat) (r : List UInt8) (l : List (List UInt8 × List UInt8)),vC n r = .ok l -> l.length <= n
 | 0,r,l,h => by cases h; exact Nat.le_refl _
 | n + 1,r,l,h => by
  rw [vC] at h
  split at h
  ·cases h
  ·cases h; simp
  ·split at h
   ·cases h
   ·split at h
    ·cases h
    ·rename_i l' hl
     cases h; have := dR n _ _ hl; simp only [List.length_cons]
     omega
/-! ### Procedures -/
theorem pX : ∀ (f : Nat) (r : Rule) (t : T),Well r t -> yf t <= f -> dI f r t = true
 | 0,r,.mk k x n p l,h,hd => by rw [yf] at hd; omega
 | f + 1,r,t,h,hd => by
  cases h with
  | mk m h1 h2 =>
   unfold dI
   rw [h1]
   refine List.all_eq_true.2 fun q hq => pX f _ _ (h2 q hq) ?_
   have h3 := xP (t := t) (u := q.1) (by rw [<- fG h1]; exact List.mem_map.2 ⟨q,hq,rfl⟩)
   omega
theorem iz : ∀ (f : Nat) (t : T),yf t <= f -> dpF f t = true
 | 0,.mk k x n p l,h => by rw [yf] at h; omega
 | f + 1,t,h => by
  unfold dpF
  exact List.all_eq_true.2 fun u hu => iz f u (by have := xP hu; omega)
theorem og {u : T} (h : Qd 1440 (.list .act) u) : vR u.subs = true := by
 obtain ⟨e,_⟩ := h
 refine List.all_eq_true.2 fun n hn => ?_
 have k := xP hn; obtain ⟨m,f,g⟩ := Well.iff.1 e.1; rw [Bool.and_eq_true]; refine ⟨pX _ _ _ ?_ (by omega),iz _ _ (by omega)⟩; obtain ⟨-,rfl⟩ := yZ (show zA _ (vD u.subs .act) = some m from f)
 exact g (n,.act) (List.mem_map.2 ⟨n,hn,rfl⟩)
theorem FA.fitF {t : T} (h : FA t) : ∃ f,fitF f t = true := by
 refine ⟨yf t,?_⟩
 have e : ∀ (f : Nat) (t : T),FA t -> yf t <= f -> Go.Proofs.YtnmkffjklpfflaaGreatDoor.fitF f t = true := by
  intro f
  induction f with
  | zero => intro t _ g; obtain ⟨_,_,_,_,_⟩ := t; rw [yf] at g; omega
  | succ f ih =>
   intro t h g
   have k := fun u (hu : u ∈ t.subs) => ih u (h.sub hu) (by have := xP hu; omega)
   cases h with
   | mk hx hk hn hl =>
    rw [Go.Proofs.YtnmkffjklpfflaaGreatDoor.fitF]; simp only [Bool.and_eq_true,decide_eq_true_eq]
    refine ⟨⟨⟨⟨⟨?_,?_⟩,?_⟩,?_⟩,?_⟩,List.all_eq_true.2 k⟩ <;> simp only [T.name,T.kind,T.num] <;> omega
 exact e _ t h (Nat.le_refl _)
theorem cM (hN : NumL L) (hL : L.length <= 4010) (h : yJ L i = .ok (t,j)) : PW t /\ FA t := by
 obtain ⟨_,m,_,X⟩ := zi (show P.bind (zB L yV) _ i = .ok (t,j) from h); obtain ⟨_,_,Y,Z⟩ := zi X; obtain ⟨x,k,_,rfl,f,M⟩ := nt Y; obtain ⟨ps,_,w,h6⟩ := zi Z; obtain ⟨_,_,h7,h8⟩ := zi h6; obtain ⟨_,m5,_,h9⟩ := zi h8; obtain ⟨z,D,N,hB⟩ := zi h9; obtain ⟨_,_,_,hC⟩ := zi hB; obtain ⟨_,m8,hD,hE⟩ := zi hC; obtain ⟨_,_,_,hF⟩ := zi (show P.bind (kL L x) _ m8 = .ok (t,j) from hE); obtain ⟨rfl,_⟩ := zH hF
 obtain ⟨q1,O,rfl,n,a0⟩ : ∃ q l,ps = .mk 1 [] 0 q l /\ (∀ e ∈ l,PD e) /\ l.length <= 4020 := by
  unfold xt at w
  split at w
  ·obtain ⟨l,E,Q,A⟩ := zi w
   obtain ⟨rfl,_⟩ := zH A; refine ⟨_,_,rfl,fun e he => by obtain ⟨i1,j1,F⟩ := vZ Q e he; exact zak F,?_⟩; obtain ⟨_,G,_,H⟩ := zi (show P.bind (zB L xA) _ _ = .ok (l,E) from Q); obtain ⟨o,B,_,C⟩ := zi H; cases o with
   | true =>
    obtain ⟨rfl,_⟩ := zH (show P.ret [] B = .ok (l,E) from C)
    simp
   | false =>
    obtain ⟨R,n3,g,g6⟩ := zi (show P.bind (vG L (xw L) yl) _ B = .ok (l,E) from C); obtain ⟨_,_,_,g7⟩ := zi g6; obtain ⟨rfl,_⟩ := zH g7; obtain ⟨_,_,_,g8⟩ := zi (show P.bind (xw L) _ B = .ok (R,n3) from g); have := qK _ g8; simp only [List.length_cons,List.length_nil] at this
    omega
  ·cases w
   exact ⟨_,_,rfl,fun e he => (by cases he),by simp⟩
 obtain ⟨q2,U,rfl,r,a1⟩ : ∃ q l,z = .mk 1 [] 0 q l /\ (∀ e ∈ l,VL e) /\ l.length <= 4020 := by
  obtain ⟨q,l,I,s⟩ := rR N; refine ⟨q,l,I,fun e he => by obtain ⟨i1,j1,F⟩ := s e he; exact zaf F,?_⟩; obtain ⟨o,G,_,A⟩ := zi (show P.bind (yr L dm) _ m5 = .ok (z,D) from N); cases o with
  | true =>
   obtain ⟨R,B,H,C⟩ := zi (show P.bind (yc L (kr L) (L.length + 1) []) _ G = .ok (z,D) from A); obtain ⟨g,_⟩ := zH C; rw [I] at g; cases g; have := oh _ H; simp only [List.length_nil] at this
   omega
  | false =>
   obtain ⟨g,_⟩ := zH (show P.ret _ G = .ok (z,D) from A); rw [I] at g; cases g
   simp
 have V := sD hN 20 _ _ _ (Nat.le_refl _) hD
 have J : ∀ e ∈ O,FA e := fun e he => by
  cases n e he with
  | mk f M hy => exact (nR (k := 8) (most := 1) (by omega) f (by omega) (by omega) (by omega) (mi hy)).2
 have K : ∀ e ∈ U,FA e := fun e he => by
  cases r e he with
  | mk f hy => exact (nR (k := 6) (most := 1) (by omega) f (by omega) (by omega) (by omega) (mi hy)).2
 refine ⟨⟨by simp [T.subs],fun v s => ?_,fun v s => ?_,?_,og V⟩,.mk (vi f) (by omega) (by omega) fun u hu => ?_⟩
 ·cases n v s with
  | mk f M hy => exact ⟨_,_,rfl,by rw [nI hy]; decide⟩
 ·cases r v s with
  | mk f hy => exact ⟨_,_,rfl,by rw [nI hy]; decide⟩
 ·show O.length + U.length <= 90000
  omega
 ·simp only [List.mem_cons,List.not_mem_nil,or_false] at hu
  rcases hu with rfl | rfl | rfl | rfl
  ·exact .mk (by simp) (by omega) (by omega) J
  ·exact (za1 (bI h7)).2
  ·exact .mk (by simp) (by omega) (by omega) K
  ·exact V.wf.2
end
end Go.Proofs.YtnmkffjklpfflaaGreatDoor
