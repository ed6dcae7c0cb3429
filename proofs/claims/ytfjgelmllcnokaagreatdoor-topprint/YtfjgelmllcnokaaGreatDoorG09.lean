/- How long the text of a tree is: of whatever depth a text's tree may have. -/
import Derived.Test.YtfjgelmllcnokaaGreatDoorG07
import Derived.Test.YtfjgelmllcnokaaGreatDoorG04
import Derived.Test.YtfjgelmllcnokaaGreatDoorG08
namespace Go.Proofs.YtfjgelmllcnokaaGreatDoor
theorem zci : ∀ (f L : Nat) (t : T),f + L <= 9000 -> Well .act t -> (yd f L t).length + 18010 <= 63000 * zr t := by
 intro f
 induction f with
 | zero => intro L t _ _; have := vA t; simp [yd]; omega
 | succ f ih =>
  intro L t r h; have H := zfs h; clear h; have n := zo L
  have b : ∀ u,Well (.list .act) u -> (yC [59] [] (yd f (L + 1)) L u.subs).length + 18100 <= 63000 * zr u := by
   intro u d; obtain ⟨p,g,rfl,o⟩ := xL d; have := dF [59] [] (yd f (L + 1)) L 63000 g (by simp) (fun t ht => by have := ih (L + 1) t (by omega) (o t ht); simp; omega); rw [zr]; simp only [List.length_cons,List.length_nil] at this; simp only [T.subs]
   omega
  have i : ∀ g,Turns g -> (yg (zg f) (fun u => yC [59] [] (yd f (L + 1)) L u.subs) L g).length <= 63000 * zu g := by
   intro g j
   induction j with
   | nil => simp [yg]
   | one x hx => have := b x hx; simp only [yg,zu,la,lc,ln]; omega
   | more x y l hx hy _ ihl =>
    have := b y hy; have := uF f x hx; simp only [yg,zu,la,lc,ln]
    omega
  cases H with
  | assign p u v d hv =>
   have := uF f u (vO d); have := uF f v hv; rw [fp]; simp [yd,T.kind,yo,T.subs]; omega
  | call p u g d hs =>
   have := uF f u (vO d); have s := kW [44,32] (zg f) 40 g (fun v hv => by have := uF f v (hs v hv); simp; omega); rw [zdu]
   have e : yd (f + 1) L (.mk 15 [] 0 p (u :: g)) = zg f u ++ (if 1 < (u :: g).length then qU f g else []) := by simp [yd,T.kind,yo,T.subs]
   rw [e]
   unfold qU
   split <;> simp <;> omega
  | choice m p u v g hm d hv hs =>
   have := uF f u d; have := b v hv; have := i g hs
   have e : yd (f + 1) L (.mk 16 [] m p (u :: v :: g)) = [73,70,32] ++ (zg f u ++ ([32,84,72,69,78,10] ++ (yC [59] [] (yd f (L + 1)) L v.subs ++ (yg (zg f) (fun u => yC [59] [] (yd f (L + 1)) L u.subs) L g ++ (zR L ++ [69,78,68]))))) := by simp [yd,T.kind,yo,T.subs]
   rw [e,zdu,zu]; simp only [la,lc,ln]
   omega
  | loop p u v d hv =>
   have := uF f u d; have := b v hv
   have e : yd (f + 1) L (.mk 17 [] 0 p [u,v]) = [87,72,73,76,69,32] ++ (zg f u ++ ([32,68,79,10] ++ (yC [59] [] (yd f (L + 1)) L v.subs ++ (zR L ++ [69,78,68])))) := by simp [yd,T.kind,yo,T.subs]
   rw [e,fp]; simp only [la,lc,ln]
   omega
  | rept p u v d hv =>
   have := uF f v hv; have := b u d
   have e : yd (f + 1) L (.mk 18 [] 0 p [u,v]) = [82,69,80,69,65,84,10] ++ (yC [59] [] (yd f (L + 1)) L u.subs ++ (zR L ++ ([85,78,84,73,76,32] ++ zg f v))) := by simp [yd,T.kind,yo,T.subs]
   rw [e,fp]; simp only [la,lc,ln]
   omega
  | ret0 p => rw [gi]; simp [yd,T.kind,T.subs]
  | ret1 p u d => have := uF f u d; rw [qj]; simp [yd,T.kind,yo,T.subs]; omega
  | word k p u hk d =>
   have := uF f u d; rw [qj]
   have e : yd (f + 1) L (.mk k [] 0 p [u]) = jn k ++ (40 :: (zg f u ++ [41])) := by rcases hk with rfl | rfl | rfl | rfl <;> simp [yd,T.kind,yo,T.subs]
   have o : (jn k).length <= 6 := by unfold jn; (repeat' split) <;> simp
   rw [e]; simp only [la,lc,ln]
   omega
theorem pC {k most : Int} {t : T} (h : Well (.declared k most .typeName) t) : (zG t).length <= 40 := by
 obtain ⟨x,m,p,u,rfl,b,-,-,d⟩ := kK h; have f := qr (t := .mk k x m p [u]) b; have g := uw (fY d)
 have e : yo (.mk k x m p [u]) 0 = u := rfl
 unfold zG
 rw [e]; simp only [la,lc,ln]
 omega
theorem cN {us : List T} (h : ∀ v ∈ us,Well (.declared 11 1 .typeName) v) : (zZ (fun x => zG x ++ [59,32]) us).length <= 50 * zu us := by
 refine tY _ 50 us (fun t ht => ?_); have b := pC (h t ht); have d := vA t; simp only [la,lc,ln]
 omega
theorem ii {t : T} (h : TY t) : (xN t).length <= 50 * zr t + 60 := by
 cases h with
 | array m p u h0 h1 b =>
  have d := uw b; have f := pz m
  have e : xN (.mk 9 [] m p [u]) = [65,82,82,65,89,32] ++ (vy m ++ ([32,79,70,32] ++ zB u)) := by simp [xN,T.kind,T.num,yo,T.subs]
  rw [e]; simp only [la,lc,ln]
  omega
 | pointer p u b =>
  have d := uw b
  have e : xN (.mk 12 [] 0 p [u]) = [80,79,73,78,84,69,82,32,84,79,32] ++ zB u := by simp [xN,T.kind,yo,T.subs]
  rw [e]; simp only [la,lc,ln]
  omega
 | record p u us b hs =>
  have d := cN hs; have f : zr (T.mk 10 [] 0 p (u :: us)) = 1 + zr u + zu us := zdu _ _ _ _ _ _
  have e : xN (.mk 10 [] 0 p (u :: us)) = [82,69,67,79,82,68,32] ++ ((if u.kind = 0 then [] else 40 :: (zB u ++ [41,32])) ++ (zZ (fun x => zG x ++ [59,32]) us ++ [69,78,68])) := by simp [xN,T.kind,yo,T.subs]; rfl
  rw [e]
  rcases b with ⟨q,rfl⟩ | ⟨g,b⟩
  ·rw [if_pos (show (T.mk 0 [] 0 q []).kind = 0 from rfl)]
   simp only [la,lc,ln]
   omega
  ·have i := uw b
   rw [if_neg (by rw [g]; decide)]; simp only [la,lc,ln]
   omega
theorem tW {f L : Nat} (hL : f + L <= 8990) {u : T} (h : Well (.list .act) u) : (zW f L u.subs).length + 18100 <= 63000 * zr u := by
 obtain ⟨_,b,rfl,d⟩ := xL h; have := dF [59] [] (yd f (L + 1)) L 63000 b (by simp) (fun t ht => by have := zci f (L + 1) t (by omega) (d t ht); simp; omega); rw [zr]; simp only [List.length_cons,List.length_nil] at this; simp only [T.subs,zW]
 omega
theorem rx (word : List UInt8) (hw : word.length <= 5) (tx : T -> List UInt8) (c : Nat) (l : List T) (h : ∀ t ∈ l,(tx t).length + 4 <= c * zr t) : (zO word tx l).length <= c * zu l + 10 := by
 unfold zO
 split
 ·simp
 ·have := dF [59] [59] tx 0 c l (by simp) (fun t ht => by have := h t ht; simp; omega)
  simp only [la,lc,ln] at this ⊢
  omega
theorem i6 {us : List T} (h : ∀ t ∈ us,Well (.declared 8 1 .typeName) t) : (zM [59,32] (us.map yf)).length <= 50 * zu us :=
 kW [59,32] yf 50 us (fun t ht => by
  obtain ⟨x,m,p,u,rfl,hx,-,-,hu⟩ := kK (h t ht); have h1 := xj hx; have h2 := uw (fY hu); have h3 := vA u; rw [qj]
  unfold yf
  rw [show yo (T.mk 8 x m p [u]) 0 = u from rfl,show (T.mk 8 x m p [u]).name = x from rfl]
  split <;> simp only [la,lc,ln] <;> omega)
theorem mb {most : Int} {l : List T} (h : ∀ t ∈ l,Well (.declared 6 most .typeName) t) : (zO VARw zG l).length <= 50 * zu l + 10 :=
 rx VARw (by decide) zG 50 l (fun t ht => by have := pC (h t ht); have := vA t; omega)
theorem bX (f : Nat) (x : List UInt8) (m p q qv : Int) (us vl : List T) (rs bs : T) : vc f (.mk 7 x m p [.mk 1 [] 0 q us,rs,.mk 1 [] 0 qv vl,bs]) = [80,82,79,67,69,68,85,82,69,32] ++ (yK (.mk 7 x m p [.mk 1 [] 0 q us,rs,.mk 1 [] 0 qv vl,bs]) ++ ((if us.isEmpty && rs.kind == 0 then [] else [40] ++ (zM [59,32] (us.map yf) ++ [41])) ++ ((if rs.kind = 0 then [] else [58,32] ++ zB rs) ++ ([59,10] ++ (zO VARw zG vl ++ ([66,69,71,73,78,10] ++ (zW f 0 bs.subs ++ ([69,78,68,32] ++ (x ++ [59,10]))))))))) := rfl
theorem zkp (k : Int) (x : List UInt8) (m p : Int) (a b c d : T) : zr (.mk k x m p [a,b,c,d]) = 1 + zr a + zr b + zr c + zr d := by
 rw [zr,zu,zu,zu,zu,zu]; omega
theorem iH (p : Int) (us : List T) : zr (.mk 1 [] 0 p us) = 1 + zu us := by rw [zr]
theorem za1 (f : Nat) (hf : f <= 8900) {t : T} (h : Well .procedure t) : (vc f t).length <= 64000 * zr t := by
 obtain ⟨x,m,p,_,b,_,r,rfl,o,_,_,e,s,g,i⟩ := bg h; obtain ⟨q,d,rfl,j⟩ := xL e; obtain ⟨u,v,rfl,l⟩ := xL g; have z := tW (f := f) (L := 0) (by omega) i; have A := mb l; have B := i6 j; have C := qr (t := .mk 7 x m p [.mk 1 [] 0 q d,b,.mk 1 [] 0 u v,r]) o; have D := xj o
 have w : (if b.kind = 0 then [] else [58,32] ++ zB b).length <= 27 := by
  rcases s with ⟨E,rfl⟩ | ⟨F,n⟩
  ·simp [T.kind]
  ·have := uw n
   rw [if_neg (by omega)]; simp only [la,lc,ln]
   omega
 have y : (if d.isEmpty && b.kind == 0 then [] else [40] ++ (zM [59,32] (d.map yf) ++ [41])).length <= 50 * zu d + 2 := by
  split
  ·simp
  ·simp only [la,lc,ln]
   omega
 have H := vA b; rw [bX,zkp,iH,iH]; simp only [la,lc,ln] at w y ⊢
 omega
theorem mX (f : Nat) (x : List UInt8) (p q1 q2 q3 q4 q5 : Int) (us cl tl vl pl : List T) (bs : T) : zP f (.mk 2 x 0 p [.mk 1 [] 0 q1 us,.mk 1 [] 0 q2 cl,.mk 1 [] 0 q3 tl,.mk 1 [] 0 q4 vl,.mk 1 [] 0 q5 pl,bs]) =
  [77,79,68,85,76,69,32] ++ (x ++ ([59,10] ++ ((if us.isEmpty then [] else [73,77,80,79,82,84,32] ++ (zM [44,32] (us.map T.name) ++ [59,10])) ++ (zO [67,79,78,83,84] (xJ f) cl ++ (zO [84,89,80,69] xM tl ++ (zO VARw zG vl ++
   (zZ (vc f) pl ++ ((if bs.subs.isEmpty then [] else [66,69,71,73,78,10] ++ zW f 0 bs.subs) ++ ([69,78,68,32] ++ (x ++ [46,10])))))))))) := rfl
theorem zji (k : Int) (x : List UInt8) (m p : Int) (a b c d e g : T) : zr (.mk k x m p [a,b,c,d,e,g]) = 1 + zr a + zr b + zr c + zr d + zr e + zr g := by
 rw [zr,zu,zu,zu,zu,zu,zu,zu]; omega
theorem aa (f : Nat) {l : List T} (h : ∀ t ∈ l,Well (.declared 4 1 .expression) t) : (zO [67,79,78,83,84] (xJ f) l).length <= 60 * zu l + 10 :=
 rx _ (by decide) (xJ f) 60 l (fun t ht => by
  obtain ⟨x,m,p,u,rfl,hx,-,-,hu⟩ := kK (h t ht); have h1 := qr (t := .mk 4 x m p [u]) hx; have h4 := uF f u hu; rw [qj]
  unfold xJ
  rw [show yo (T.mk 4 x m p [u]) 0 = u from rfl]; simp only [la,lc,ln]
  omega)
theorem af {l : List T} (h : ∀ t ∈ l,Well (.declared 5 1 .typeItself) t) : (zO [84,89,80,69] xM l).length <= 150 * zu l + 10 :=
 rx _ (by decide) xM 150 l (fun t ht => by
  obtain ⟨x,m,p,u,rfl,hx,-,-,hu⟩ := kK (h t ht); have h1 := qr (t := .mk 5 x m p [u]) hx; have h4 := ii (zfz hu); rw [qj]
  unfold xM
  rw [show yo (T.mk 5 x m p [u]) 0 = u from rfl]; simp only [la,lc,ln]
  omega)
theorem zb9 {l : List T} (h : ∀ t ∈ l,Well .imported t) : (zM [44,32] (l.map T.name)).length <= 14 * zu l :=
 kW [44,32] T.name 14 l (fun t ht => by
  obtain ⟨x,p,rfl,hx⟩ := zhi (h t ht); have h1 := xj hx; have h2 := vA (.mk 3 x 0 p []); simp only [T.name,List.length_cons,List.length_nil]
  omega)
theorem co (f : Nat) (hf : f <= 8900) {t : T} (h : Well .module t) : (zP f t).length <= 64000 * zr t + 200 := by
 obtain ⟨_,_,_,_,_,_,_,b,rfl,v,d,e,g,i,j,l⟩ := zce h; obtain ⟨_,m,rfl,n⟩ := xL d; obtain ⟨_,_,rfl,o⟩ := xL e; obtain ⟨_,_,rfl,r⟩ := xL g; obtain ⟨_,_,rfl,s⟩ := xL i; obtain ⟨_,w,rfl,u⟩ := xL j; have z := tW (f := f) (L := 0) (by omega) l; have A := mb s; have B := aa f o; have C := af r; have D := xj v; have E := tY (vc f) 64000 w (fun t ht => za1 f hf (u t ht)); have F := zb9 n
 have x : (if m.isEmpty then [] else [73,77,80,79,82,84,32] ++ (zM [44,32] (m.map T.name) ++ [59,10])).length <= 14 * zu m + 9 := by
  split
  ·simp
  ·simp only [la,lc,ln]
   omega
 have y : (if b.subs.isEmpty then [] else [66,69,71,73,78,10] ++ zW f 0 b.subs).length <= 63000 * zr b := by
  split
  ·simp
  ·simp only [la,lc,ln]
   omega
 rw [mX,zji,iH,iH,iH,iH,iH]; simp only [la,lc,ln] at x y ⊢
 omega
end Go.Proofs.YtfjgelmllcnokaaGreatDoor
