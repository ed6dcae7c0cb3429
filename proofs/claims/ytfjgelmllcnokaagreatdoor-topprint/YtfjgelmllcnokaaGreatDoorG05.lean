/- What is written of an expression is read as it was: each kind. -/
import Derived.Test.YtfjgelmllcnokaaGreatDoorG03
import Derived.Test.YtfjgelmllcnokaaGreatDoorG04
namespace Go.Proofs.YtfjgelmllcnokaaGreatDoor
section
variable {g : Nat} {x : List UInt8} {m p : Int} {l : List T} {a b d e y : T}
theorem yv {k : Int} : yo (.mk k x m p (a :: l)) 0 = a := rfl
theorem uY {k : Int} : yo (.mk k x m p (a :: b :: l)) 1 = b := rfl
theorem nv : zh (g + 1) (.mk 24 x m p l) = [x] := by simp [zh,T.kind,T.name]
theorem sX : zh (g + 1) (.mk 25 x m p [d]) = zh g d ++ [vG,x] := by simp [zh,T.kind,T.name,yv]
theorem sj : zh (g + 1) (.mk 26 x m p [d,e]) = zh g d ++ (pn :: (zh g e ++ [mw])) := by simp [zh,T.kind,yv,uY]
theorem tV : zh (g + 1) (.mk 27 x m p [d]) = zh g d ++ [gR] := by simp [zh,T.kind,yv]
theorem sq : zh (g + 1) (.mk 28 x m p [d,y]) = zh g d ++ (np :: (xX y ++ [cP])) := by simp [zh,T.kind,yv,uY]
theorem cc : zh (g + 1) (.mk 29 x m p l) = [vy m] := by simp [zh,T.kind,T.num]
theorem ov : zh (g + 1) (.mk 30 x m p l) = [gk] := by simp [zh,T.kind]
theorem rE : zh (g + 1) (.mk 31 x m p l) = [kj] := by simp [zh,T.kind]
theorem iI : zh (g + 1) (.mk 32 x m p l) = [rB] := by simp [zh,T.kind]
theorem oC : zh (g + 1) (.mk 33 x m p (d :: l)) = zh g d ++ (yw :: (xi yq (l.map (zh g)) ++ [xd])) := by simp [zh,T.kind,yv,T.subs]
theorem cy : zh (g + 1) (.mk 34 x m p [a]) = uq :: yJ g a 3 := by simp [zh,T.kind,yv,yJ]; rfl
theorem cj : zh (g + 1) (.mk 35 x m p [a]) = vd :: yJ g a 2 := by simp [zh,T.kind,yv,yJ]; rfl
theorem zcn : zh (g + 1) (.mk 37 x m p [a,y]) = yJ g a 1 ++ (kIS :: xX y) := by simp [zh,T.kind,yv,uY,yJ]; rfl
theorem cJ (hx : zv x = 2) : zh (g + 1) (.mk 36 x m p [a,b]) = yJ g a 2 ++ (x :: yJ g b 3) := by simp [zh,T.kind,T.name,yv,uY,yJ,hx]
theorem ir (hx : zv x = 1) : zh (g + 1) (.mk 36 x m p [a,b]) = yJ g a 1 ++ (x :: yJ g b 2) := by simp [zh,T.kind,T.name,yv,uY,yJ,hx]
theorem cI (hx : zv x = 0) : zh (g + 1) (.mk 36 x m p [a,b]) = yJ g a 1 ++ (x :: yJ g b 1) := by simp [zh,T.kind,T.name,yv,uY,yJ,hx]
theorem qF : yH (.mk 36 x m p l) = zv x := by simp [yH,T.kind,T.name]
end
theorem cz {n : Nat} {x : List UInt8} {p : Int} (hx : zF x = true) : Reads (.des 0) n (.mk 24 x 0 p []) := by
 intro f L i j s _ r h; obtain ⟨g,rfl,-⟩ := xZ s; rw [nv] at r h; obtain ⟨o,-⟩ := AtW.cons.1 r; simp only [List.length_singleton] at h; subst h; refine ⟨.mk 24 x 0 (pos L i) [],?_,.leaf,by rw [o]; exact hx⟩
 unfold zQ
 rw [P.bind_ok (kq (by rw [o]; exact hx)),o]
theorem fg {k : Nat} (h : k + 1 <= 20) : 20 - k = (20 - (k + 1)) + 1 := by omega
theorem nV {n k : Nat} {x : List UInt8} {p : Int} {d : T} (h : Reads (.des k) n d) (hx : zF x = true) : Reads (.des (k + 1)) n (.mk 25 x 0 p [d]) := by
 intro f L i j w z o t; obtain ⟨g,rfl,A⟩ := vk w; rw [sX] at o t; obtain ⟨o,r⟩ := AtW.append.1 o; obtain ⟨r,s⟩ := AtW.cons.1 r; obtain ⟨s,-⟩ := AtW.cons.1 s; obtain ⟨u,B,C,D⟩ := h g L i _ A (by omega) o rfl; simp only [la,lc,ln] at t; refine ⟨.mk 25 x 0 u.at' [u],?_,.one C,D⟩; rw [B,fg z,gF (v := .mk 25 x 0 u.at' [u]) (j' := j) (by rw [r]; decide)]
 unfold xH
 rw [if_pos r,P.bind_ok (gK (by rw [s]; exact hx)),s,t]
 rfl
theorem nH {n k : Nat} {p : Int} {d e : T} (h : Reads (.des k) n d) (he : Reads .exp n e) : Reads (.des (k + 1)) n (.mk 26 [] 0 p [d,e]) := by
 intro f L i j A B r z; obtain ⟨g,rfl,C,t⟩ := xt A; rw [sj] at r z; obtain ⟨r,o⟩ := AtW.append.1 r; obtain ⟨o,w⟩ := AtW.cons.1 o; obtain ⟨w,s⟩ := AtW.append.1 w; obtain ⟨s,-⟩ := AtW.cons.1 s; obtain ⟨u,D,E,F⟩ := h g L i _ C (by omega) r rfl; obtain ⟨v,H,I⟩ := he g L _ _ t w rfl (by rw [s]; unfold Stop0 Stop1 Stop2 Stop3; decide); simp only [la,lc,ln] at z; refine ⟨.mk 26 [] 0 u.at' [u,v],?_,.two E I,F⟩; rw [D,fg B,gF (v := .mk 26 [] 0 u.at' [u,v]) (j' := j) (by rw [o]; decide)]
 unfold xH
 rw [if_neg (by rw [o]; decide),if_pos o,P.bind_ok H,P.bind_ok (ya s)]
 have : j = i + (zh g d).length + 1 + (zh g e).length + 1 := by omega
 rw [this]
 rfl
theorem mE {n k : Nat} {p : Int} {d : T} (h : Reads (.des k) n d) : Reads (.des (k + 1)) n (.mk 27 [] 0 p [d]) := by
 intro f L i j t w r s; obtain ⟨g,rfl,z⟩ := vk t; rw [tV] at r s; obtain ⟨r,o⟩ := AtW.append.1 r; obtain ⟨o,-⟩ := AtW.cons.1 o; obtain ⟨u,A,B,C⟩ := h g L i _ z (by omega) r rfl; simp only [la,lc,ln] at s; refine ⟨.mk 27 [] 0 u.at' [u],?_,.one B,C⟩; rw [A,fg w,gF (v := .mk 27 [] 0 u.at' [u]) (j' := j) (by rw [o]; decide)]
 unfold xH
 rw [if_neg (by rw [o]; decide),if_neg (by rw [o]; decide),if_pos o,s]
 rfl
theorem mf {n k : Nat} {p : Int} {d y : T} (h : Reads (.des k) n d) (hy : TyN y) : Reads (.des (k + 1)) n (.mk 28 [] 0 p [d,y]) := by
 intro f L i j z A r w; obtain ⟨g,rfl,B,-⟩ := xt z; rw [sq] at r w; obtain ⟨r,o⟩ := AtW.append.1 r; obtain ⟨o,t⟩ := AtW.cons.1 o; obtain ⟨t,s⟩ := AtW.append.1 t; obtain ⟨s,-⟩ := AtW.cons.1 s; obtain ⟨u,C,D,E⟩ := h g L i _ B (by omega) r rfl; obtain ⟨v,F,H⟩ := si hy t rfl (by rw [s]; decide); simp only [la,lc,ln] at w; refine ⟨.mk 28 [] 0 u.at' [u,v],?_,.two D H,E⟩; rw [C,fg A,gF (v := .mk 28 [] 0 u.at' [u,v]) (j' := j) (by rw [o]; decide)]
 unfold xH
 rw [if_neg (by rw [o]; decide),if_neg (by rw [o]; decide),if_neg (by rw [o]; decide),P.bind_ok F,P.bind_ok (ya s)]
 have : j = i + (zh g d).length + 1 + (xX y).length + 1 := by omega
 rw [this]
 rfl
theorem kT : ∀ (a b : List UInt8) (v : Int),zX v (a ++ b) = (zX v a).bind fun u => zX u b
 | [],b,v => rfl
 | c :: a,b,v => by
  rw [List.cons_append,zX,zX]
  split
  ·rfl
  ·exact kT a b _
theorem kY {d : Nat} (h : d < 10) : ((UInt8.ofNat (48 + d)).toNat : Int) = 48 + d := by
 rw [UInt8.toNat_ofNat']
 omega
theorem pO : ∀ (f n : Nat),n < 10 ^ f -> n <= 2147483647 -> 0 < f -> zX 0 (kJ f n) = some (n : Int)
 | 0,n,_,_,h => by omega
 | f + 1,n,hn,hm,_ => by
  rw [kJ]
  by_cases h : n < 10
  ·rw [if_pos h,zX,kY h,if_neg (by omega),zX]
   congr 1
   omega
  ·rw [if_neg h,kT,pO f (n / 10) (by rw [Nat.pow_succ] at hn; omega) (by omega) (by
    rcases Nat.eq_zero_or_pos f with h9 | h9
    ·subst h9; simp at hn; omega
    ·exact h9)]
   show zX ((n / 10 : Nat) : Int) [UInt8.ofNat (48 + n % 10)] = _
   rw [zX,kY (by omega),if_neg (by omega),zX]
   congr 1
   omega
theorem lK : ∀ (f n : Nat),0 < f -> ∃ c l,kJ f n = c :: l /\ zs (c.toNat : Int) = true
 | 0,n,h => by omega
 | f + 1,n,_ => by
  rw [kJ]
  by_cases h : n < 10
  ·rw [if_pos h]
   refine ⟨_,_,rfl,?_⟩; rw [kY h]
   unfold zs
   rw [decide_eq_true_eq]
   omega
  ·rw [if_neg h]
   rcases Nat.eq_zero_or_pos f with h9 | h9
   ·subst h9
    refine ⟨_,_,rfl,?_⟩; rw [kY (by omega)]
    unfold zs
    rw [decide_eq_true_eq]
    omega
   ·obtain ⟨c,l,e,hc⟩ := lK f (n / 10) h9
    exact ⟨c,l ++ [UInt8.ofNat (48 + n % 10)],by rw [e]; rfl,hc⟩
theorem hH {m : Int} (h0 : 0 <= m) (h1 : m <= 2147483647) : ku (vy m) = some m /\ ∃ c l,vy m = c :: l /\ zs (c.toNat : Int) = true := by
 obtain ⟨c,l,e,b⟩ := lK 11 m.toNat (by omega); refine ⟨?_,c,l,e,b⟩
 unfold ku vy
 rw [if_pos ⟨by rw [e]; simp,by rw [e]; exact b⟩,pO 11 m.toNat (by omega) (by omega) (by omega)]
 congr 1
 omega
theorem bY {c : UInt8} {l : List UInt8} (h : zs (c.toNat : Int) = true) : zF (c :: l) = false /\ c :: l ≠ gk /\ c :: l ≠ kj /\ c :: l ≠ rB /\ c :: l ≠ uq /\ c :: l ≠ yw /\ c :: l ≠ vd := by
 unfold zs at h
 rw [decide_eq_true_eq] at h; refine ⟨?_,?_,?_,?_,?_,?_,?_⟩
 ·have b : zH (c.toNat : Int) = false := by
   unfold zH
   rw [decide_eq_false_iff_not]
   omega
  simp [zF,jE,b]
 all_goals (intro e; injection e with e1 e2; subst e1; revert h; decide)
theorem bR {n : Nat} {m p : Int} (h0 : 0 <= m) (h1 : m <= 2147483647) : Reads .fac n (.mk 29 [] m p []) := by
 intro f L i j x d b _; obtain ⟨g,rfl,-⟩ := xZ x; rw [cc] at d b; obtain ⟨h,-⟩ := AtW.cons.1 d; simp only [List.length_singleton] at b; subst b; obtain ⟨y,_,l,e,z⟩ := hH h0 h1; obtain ⟨o,r,s,t,u,v,w⟩ := bY (l := l) z; rw [<- e,<- h] at o r s t u v w; refine ⟨.mk 29 [] m (pos L i) [],?_,.leaf,w⟩
 unfold kP zV
 rw [if_neg r,if_neg s,if_neg t,if_neg u,if_neg v,if_neg (by rw [o]; simp)]
 have A : qd L i = .ok (m,i + 1) := by unfold qd; rw [h,y]
 rw [P.bind_ok A]
 rfl
theorem iT {n : Nat} {k p : Int} (h : k = 30 \/ k = 31 \/ k = 32) : Reads .fac n (.mk k [] 0 p []) := by
 intro f L i j l e d _; obtain ⟨g,rfl,-⟩ := xZ l
 rcases h with rfl | rfl | rfl
 ·rw [ov] at e d
  obtain ⟨b,-⟩ := AtW.cons.1 e; simp only [List.length_singleton] at d; subst d; refine ⟨.mk 30 [] 0 (pos L i) [],?_,.leaf,by rw [b]; decide⟩
  unfold kP zV
  rw [if_pos b]
 ·rw [rE] at e d
  obtain ⟨b,-⟩ := AtW.cons.1 e; simp only [List.length_singleton] at d; subst d; refine ⟨.mk 31 [] 0 (pos L i) [],?_,.leaf,by rw [b]; decide⟩
  unfold kP zV
  rw [if_neg (by rw [b]; decide),if_pos b]
 ·rw [iI] at e d
  obtain ⟨b,-⟩ := AtW.cons.1 e; simp only [List.length_singleton] at d; subst d; refine ⟨.mk 32 [] 0 (pos L i) [],?_,.leaf,by rw [b]; decide⟩
  unfold kP zV
  rw [if_neg (by rw [b]; decide),if_neg (by rw [b]; decide),if_pos b]
theorem mr {L : List Tok} {n i : Nat} (h : zF (wd L i) = true) : kP L n i = yB L (yy L n) i := by
 obtain ⟨b,d,e,f,g,-⟩ := sY h
 unfold kP zV
 rw [if_neg b,if_neg d,if_neg e,if_neg f,if_neg g,if_pos h]
theorem nP {n k : Nat} {t : T} (h : Reads (.des k) n t) (hk : k <= 20) : Reads .fac n t := by
 intro f L i j e g l b; obtain ⟨u,m,o,d⟩ := h f L i j e hk g l; refine ⟨u,?_,o,(sY d).2.2.2.2.2.1⟩; rw [mr d]
 unfold yB
 rw [P.bind_ok (m.trans (df b.1)),if_neg b.2]
theorem pZ {n f : Nat} {t : T} (h : Reads .exp n t) {L : List Tok} {i j : Nat} (hd : zA t <= f) (hw : AtW L i (yw :: (zh f t ++ [xd]))) (hj : j = i + (yw :: (zh f t ++ [xd])).length) : ∃ u,kP L n i = .ok (u,j) /\ Same t u /\ wd L i ≠ vd := by
 obtain ⟨b,e⟩ := AtW.cons.1 hw; obtain ⟨e,d⟩ := AtW.append.1 e; obtain ⟨d,-⟩ := AtW.cons.1 d; obtain ⟨u,g,l⟩ := h f L _ _ hd e rfl (by rw [d]; unfold Stop0 Stop1 Stop2 Stop3; decide); simp only [la,lc,ln] at hj; refine ⟨u,?_,l,by rw [b]; decide⟩
 unfold kP zV
 rw [if_neg (by rw [b]; decide),if_neg (by rw [b]; decide),if_neg (by rw [b]; decide),if_neg (by rw [b]; decide),if_pos b,P.bind_ok g,P.bind_ok (ya d)]
 have : j = i + 1 + (zh f t).length + 1 := by omega
 rw [this]
 rfl
theorem lq {n : Nat} {t : T} (h : Reads .fac n t) (hr : 3 <= yH t) : Reads .facp n t := by
 intro f L i j g b d l
 have e : yJ f t 3 = zh f t := by unfold yJ; rw [if_neg (by omega)]
 rw [e] at b d
 exact h f L i j g b d l
theorem ms {n : Nat} {t : T} (h : Reads .exp n t) (hr : yH t < 3) : Reads .facp n t := by
 intro f L i j g b d _
 have e : yJ f t 3 = yw :: (zh f t ++ [xd]) := by unfold yJ; rw [if_pos hr]
 rw [e] at b d
 exact pZ h g b d
theorem oV {n : Nat} {t : T} (h : Reads .fac n t) (hr : 3 <= yH t) : Reads (.pro 0) n t := by
 intro f L i j g _ b d l
 have e : yJ f t 2 = zh f t := by unfold yJ; rw [if_neg (by omega)]
 rw [e] at b d; obtain ⟨u,m,o,r⟩ := h f L i j g b d l; refine ⟨u,?_,o,r⟩
 unfold jX ur
 rw [P.bind_ok m]
theorem fI {n : Nat} {t : T} (h : Reads .exp n t) (hr : yH t < 2) : Reads (.pro 0) n t := by
 intro f L i j g _ b d _
 have e : yJ f t 2 = yw :: (zh f t ++ [xd]) := by unfold yJ; rw [if_pos hr]
 rw [e] at b d; obtain ⟨u,l,m,o⟩ := pZ h g b d; refine ⟨u,?_,m,o⟩
 unfold jX ur
 rw [P.bind_ok l]
theorem aw {n : Nat} {p : Int} {a : T} (h : Reads .facp n a) : Reads .fac (n + 1) (.mk 34 [] 0 p [a]) := by
 intro f L i j l d e m; obtain ⟨g,rfl,o⟩ := vk l; rw [cy] at d e; obtain ⟨b,r⟩ := AtW.cons.1 d; obtain ⟨u,s,t,-⟩ := h g L (i + 1) j o r (by rw [e,List.length_cons]; omega) m; refine ⟨.mk 34 [] 0 (pos L i) [u],?_,.one t,by rw [b]; decide⟩
 unfold kP zV
 rw [if_neg (by rw [b]; decide),if_neg (by rw [b]; decide),if_neg (by rw [b]; decide),if_pos b,dy,P.bind_ok s]
 rfl
theorem zgt {x : List UInt8} (h : zv x = 2) : x = [42] \/ x = [68,73,86] \/ x = [77,79,68] \/ x = [38] := by
 unfold zv at h
 split at h
 ·omega
 ·split at h
  ·omega
  ·split at h
   ·rename_i h9; simpa [inB,zd2] using h9
   ·omega
theorem zhk {x : List UInt8} (h : zv x = 1) : x = [43] \/ x = [45] \/ x = [79,82] := by
 unfold zv at h
 split at h
 ·omega
 ·split at h
  ·rename_i h9; simpa [inB,zdx] using h9
  ·split at h <;> omega
theorem zgo {x : List UInt8} (h : zv x = 0) : x = [61] \/ x = [35] \/ x = [60] \/ x = [60,61] \/ x = [62] \/ x = [62,61] := by
 unfold zv at h
 split at h
 ·rename_i h9; simpa [inB,zfb] using h9
 ·split at h
  ·omega
  ·split at h <;> omega
theorem lz {x : List UInt8} (h : zv x = 2) : xp x = true /\ Stop3 x := by
 rcases zgt h with rfl | rfl | rfl | rfl <;> (unfold Stop3; decide)
theorem mi {x : List UInt8} (h : zv x = 1) : kZ x = true /\ Stop2 x := by
 rcases zhk h with rfl | rfl | rfl <;> (unfold Stop2 Stop3; decide)
theorem zdm {x : List UInt8} (h : zv x = 0) : xE x = true /\ Stop1 x /\ x ≠ kIS := by
 rcases zgo h with rfl | rfl | rfl | rfl | rfl | rfl <;> (unfold Stop1 Stop2 Stop3; decide)
theorem zbm {w : List UInt8} (h : Stop3 w) : w ≠ vG := by
 intro e; have := h.1; rw [e] at this
 revert this
 decide
theorem zab {n k : Nat} {x : List UInt8} {p : Int} {a b : T} (hx : zv x = 2) (ha : Reads (.pro k) n a) (hb : Reads .facp n b) : Reads (.pro (k + 1)) n (.mk 36 x 0 p [a,b]) := by
 intro f L i j o r h m s
 have e : yJ f (.mk 36 x 0 p [a,b]) 2 = zh f (.mk 36 x 0 p [a,b]) := by unfold yJ; rw [if_neg (by rw [qF,hx]; omega)]
 obtain ⟨g,rfl,t,l⟩ := xt o; rw [e,cJ hx] at h m; obtain ⟨h,d⟩ := AtW.append.1 h; obtain ⟨d,w⟩ := AtW.cons.1 d; obtain ⟨u,y,z,A⟩ := ha g L i _ t (by omega) h rfl (by rw [d]; exact (lz hx).2); simp only [List.length_append,List.length_cons] at m; obtain ⟨v,B,C,-⟩ := hb g L _ j l w (by omega) s; refine ⟨opT x u v,?_,.two z C,A⟩; rw [y,fg r,rj (by rw [d]; exact (lz hx).1) B,d]
theorem aU {n k j : Nat} {x : List UInt8} {p : Int} {a b : T} (hx : zv x = 1) (ha : Reads (.sum k) n a) (hb : Reads (.pro j) n b) (hj9 : j <= 20) : Reads (.sum (k + 1)) n (.mk 36 x 0 p [a,b]) := by
 intro f L i r s t h m o
 have e : yJ f (.mk 36 x 0 p [a,b]) 1 = zh f (.mk 36 x 0 p [a,b]) := by unfold yJ; rw [if_neg (by rw [qF,hx]; omega)]
 obtain ⟨g,rfl,w,l⟩ := xt s; rw [e,ir hx] at h m; obtain ⟨h,d⟩ := AtW.append.1 h; obtain ⟨d,y⟩ := AtW.cons.1 d; obtain ⟨u,z,A⟩ := ha g L i _ w (by omega) h rfl (by rw [d]; exact (mi hx).2); simp only [List.length_append,List.length_cons] at m; obtain ⟨v,B,C,-⟩ := hb g L _ r l hj9 y (by omega) o.1; refine ⟨opT x u v,?_,.two A C⟩; rw [z,fg t,rj (by rw [d]; exact (mi hx).1) (B.trans (ux o.2)),d]
theorem py {L : List Tok} {n i j k : Nat} {u : T} (h : jX L n i = yO L xp (kP L n) k u j) (hm : wd L i ≠ vd) (hs : xp (wd L j) = false) : kM L n i = yO L kZ (jX L n) 20 u j := by
 show P.bind (yP L vd) _ i = _
 rw [P.bind_ok (uv hm)]
 show P.bind (jX L n) _ i = _
 rw [P.bind_ok (h.trans (ux hs))]
 rfl
theorem nB {n k : Nat} {t : T} (h : Reads (.pro k) n t) (hk : k <= 20) (hr : 2 <= yH t) : Reads (.sum 0) n t := by
 intro f L i j l _ b d g
 have e : yJ f t 1 = yJ f t 2 := by unfold yJ; rw [if_neg (by omega),if_neg (by omega)]
 rw [e] at b d; obtain ⟨u,m,o,r⟩ := h f L i j l hk b d g.1
 exact ⟨u,py m r g.2,o⟩
theorem oY {n : Nat} {t : T} (h : Reads .exp n t) (hr : yH t < 1) : Reads (.sum 0) n t := by
 intro f L i j l _ b d g
 have e : yJ f t 1 = yJ f t 2 := by unfold yJ; rw [if_pos hr,if_pos (by omega)]
 rw [e] at b d; obtain ⟨u,m,o,r⟩ := fI h (by omega) f L i j l (by omega) b d g.1
 exact ⟨u,py m r g.2,o⟩
theorem nj {n k : Nat} {p : Int} {a : T} (h : Reads (.pro k) n a) (hk : k <= 20) : Reads (.sum 0) n (.mk 35 [] 0 p [a]) := by
 intro f L i j m _ b d l
 have e : yJ f (.mk 35 [] 0 p [a]) 1 = zh f (.mk 35 [] 0 p [a]) := by unfold yJ; rw [if_neg (by simp [yH,T.kind])]
 obtain ⟨g,rfl,o⟩ := vk m; rw [e,cj] at b d; obtain ⟨r,s⟩ := AtW.cons.1 b; obtain ⟨u,t,v,-⟩ := h g L (i + 1) j o hk s (by rw [d,List.length_cons]; omega) l.1; refine ⟨.mk 35 [] 0 (pos L i) [u],?_,.one v⟩
 show P.bind (yP L vd) _ i = _
 rw [P.bind_ok (vV r)]
 show P.bind (jX L n) _ (i + 1) = _
 rw [P.bind_ok (t.trans (ux l.2))]
 rfl
theorem lQ {n k : Nat} {t : T} (h : Reads (.sum k) n t) (hk : k <= 20) (hr : 1 <= yH t) : Reads .exp (n + 1) t := by
 intro f L i j l d g b
 have e : yJ f t 1 = zh f t := by unfold yJ; rw [if_neg (by omega)]
 rw [<- e] at d g; obtain ⟨u,m,o⟩ := h f L i j l hk d g b.1.1; refine ⟨u,?_,o⟩; rw [uT]
 unfold vi
 rw [P.bind_ok (m.trans (ux b.1.2)),if_neg b.2.2,if_neg (by rw [b.2.1]; simp)]
theorem aH {n k j : Nat} {x : List UInt8} {p : Int} {a b : T} (hx : zv x = 0) (ha : Reads (.sum k) n a) (hk : k <= 20) (hb : Reads (.sum j) n b) (hj9 : j <= 20) : Reads .exp (n + 1) (.mk 36 x 0 p [a,b]) := by
 intro f L i r s h m o; obtain ⟨g,rfl,t,l⟩ := xt s; rw [cI hx] at h m; obtain ⟨h,d⟩ := AtW.append.1 h; obtain ⟨d,w⟩ := AtW.cons.1 d; obtain ⟨y,e,z⟩ := zdm hx; obtain ⟨u,A,B⟩ := ha g L i _ t hk h rfl (by rw [d]; exact e.1); simp only [List.length_append,List.length_cons] at m; obtain ⟨v,C,D⟩ := hb g L _ r l hj9 w (by omega) o.1.1; refine ⟨opT x u v,?_,.two B D⟩; rw [uT]
 unfold vi
 rw [P.bind_ok (A.trans (ux (by rw [d]; exact e.2))),d,if_neg z,if_pos y,P.bind_ok (C.trans (ux o.1.2))]
 rfl
theorem za3 {n k : Nat} {p : Int} {a y : T} (ha : Reads (.sum k) n a) (hk : k <= 20) (hy : TyN y) : Reads .exp (n + 1) (.mk 37 [] 0 p [a,y]) := by
 intro f L i j h d e l; obtain ⟨g,rfl,m,-⟩ := xt h; rw [zcn] at d e; obtain ⟨d,b⟩ := AtW.append.1 d; obtain ⟨b,o⟩ := AtW.cons.1 b; obtain ⟨u,r,s⟩ := ha g L i _ m hk d rfl (by rw [b]; unfold Stop2 Stop3; decide); simp only [List.length_append,List.length_cons] at e; obtain ⟨v,t,w⟩ := si (j := j) hy o (by omega) (zbm l.1.1.1); refine ⟨.mk 37 [] 0 u.at' [u,v],?_,.two s w⟩; rw [uT]
 unfold vi
 rw [P.bind_ok (r.trans (ux (by rw [b]; decide))),if_pos b,P.bind_ok t]
 rfl
/-! ### Lists with a sign between -/
def xr (sep : List UInt8) (ws : T -> List (List UInt8)) : List T -> List (List UInt8)
 | [] => []
 | t :: l => sep :: (ws t ++ xr sep ws l)
theorem ge (sep : List UInt8) (ws : T -> List (List UInt8)) (t : T) (l : List T) : xi sep ((t :: l).map ws) = ws t ++ xr sep ws l := by
 induction l generalizing t with
 | nil => simp [xi,xr]
 | cons u l ih =>
  have e : xi sep ((t :: u :: l).map ws) = ws t ++ (sep :: xi sep ((u :: l).map ws)) := rfl
  rw [e,ih u,xr]
theorem fT {L : List Tok} {i : Nat} (h : wd L i ≠ []) : i < L.length := by
 rcases Nat.lt_or_ge i L.length with b | b
 ·exact b
 ·exfalso
  apply h
  unfold wd
  rw [List.getElem?_eq_none b]
  rfl
theorem jo {L : List Tok} {part : P T} {sep : List UInt8} {ws : T -> List (List UInt8)} {St : List UInt8 -> Prop} (hsep : sep ≠ []) (hst : St sep) : ∀ (l : List T),(∀ e ∈ l,∀ i j,AtW L i (ws e) -> j = i + (ws e).length -> St (wd L j) -> ∃ u,part i = .ok (u,j) /\ Same e u) ->
  ∀ (f : Nat) (acc : List T) (i j : Nat),L.length <= f + i -> AtW L i (xr sep ws l) -> j = i + (xr sep ws l).length -> St (wd L j) -> wd L j ≠ sep -> wd L j ≠ [] -> ∃ us,yG L part sep f acc i = .ok (acc ++ us,j) /\ SameL l us
 | [],_,f,acc,i,j,hf,hw,hj,hs,hn,h0 => by
  have e : j = i := by simpa [xr] using hj
  subst e; have := fT h0; obtain ⟨g,rfl⟩ : ∃ g,f = g + 1 := ⟨f - 1,by omega⟩; refine ⟨[],?_,.nil⟩; rw [yG,P.bind_ok (uv hn),List.append_nil]
  rfl
 | e :: l,he,f,acc,i,j,hf,hw,hj,hs,hn,h0 => by
  rw [xr] at hw hj; obtain ⟨h1,h2⟩ := AtW.cons.1 hw; obtain ⟨h2,h3⟩ := AtW.append.1 h2; have hlt := fT (L := L) (i := i) (by rw [h1]; exact hsep); obtain ⟨g,rfl⟩ : ∃ g,f = g + 1 := ⟨f - 1,by omega⟩
  have hnext : St (wd L (i + 1 + (ws e).length)) := by
   cases l with
   | nil =>
    have : j = i + 1 + (ws e).length := by simp [xr] at hj; omega
    rw [<- this]; exact hs
   | cons t l =>
    rw [xr] at h3; rw [(AtW.cons.1 h3).1]
    exact hst
  obtain ⟨u,b,d⟩ := he e (by simp) (i + 1) _ h2 rfl hnext; obtain ⟨us,h,m⟩ := jo hsep hst l (fun x hx => he x (by simp [hx])) g (acc ++ [u]) (i + 1 + (ws e).length) j (by omega) h3 (by simp only [List.length_cons,List.length_append] at hj; omega) hs hn h0; refine ⟨u :: us,?_,.cons d m⟩; rw [yG,P.bind_ok (vV h1),if_pos rfl,P.bind_ok b,h]
  simp
theorem vv {l : List T} {g : Nat} (h : yM l <= g) : ∀ e ∈ l,zA e <= g := by
 induction l with
 | nil => intro e b; cases b
 | cons t l ih =>
  rw [yM] at h; intro e b
  rcases List.mem_cons.1 b with rfl | b
  ·omega
  ·exact ih (by omega) e b
theorem cF {n k : Nat} {p : Int} {d : T} {l : List T} (h : Reads (.des k) n d) (hk : k <= 20) (hl : ∀ e ∈ l,Reads .exp n e) (hne : ∀ e ∈ l,∀ f,zA e <= f -> (zh f e).head? ≠ some xd /\ zh f e ≠ []) : Reads .fac n (.mk 33 [] 0 p (d :: l)) := by
 intro f L i j R E B hs; obtain ⟨g,rfl,U⟩ := xZ R; rw [yM] at U; rw [oC] at E B; obtain ⟨E,C⟩ := AtW.append.1 E; obtain ⟨C,F⟩ := AtW.cons.1 C; obtain ⟨F,m⟩ := AtW.append.1 F; obtain ⟨m,-⟩ := AtW.cons.1 m; obtain ⟨u,V,X,M⟩ := h g L i _ (by omega) hk E rfl; simp only [la,lc,ln] at B
 have H : ∃ x,yS L (yy L n) (i + (zh g d).length) = .ok (x,j) /\ SameL l x := by
  unfold yS xF
  rw [P.bind_ok (ya C)]; cases l with
  | nil =>
   have Y : xi yq (([] : List T).map (zh g)) = [] := rfl
   rw [Y] at m B; refine ⟨[],?_,.nil⟩; rw [P.bind_ok (vV (by simpa using m)),if_pos rfl]
   have : j = i + (zh g d).length + 1 + 1 := by simp at B; omega
   rw [this]
   rfl
  | cons t l =>
   rw [ge] at F m B; obtain ⟨I,J⟩ := AtW.append.1 F; have y := vv (l := t :: l) (g := g) (by omega)
   have o : Stop0 yq := by unfold Stop0 Stop1 Stop2 Stop3; decide
   have D : Stop0 xd := by unfold Stop0 Stop1 Stop2 Stop3; decide
   rw [List.length_append,show ∀ a b c : Nat,a + (b + c) = a + b + c from fun a b c => by omega] at m
   have A : Stop0 (wd L (i + (zh g d).length + 1 + (zh g t).length)) := by
    cases l with
    | nil => simp only [xr,List.length_nil,Nat.add_zero] at m; rw [m]; exact D
    | cons z l => rw [xr] at J; rw [(AtW.cons.1 J).1]; exact o
   obtain ⟨v,Z,f2⟩ := hl t (by simp) g L _ _ (y t (by simp)) I rfl A; obtain ⟨x,f3,f4⟩ := jo (part := yy L n) (ws := zh g) (St := Stop0) (sep := yq) (by decide) o l (fun e he i j a b c => hl e (by simp [he]) g L i j (y e (by simp [he])) a b c) L.length [v] _ _ (by omega) J rfl (by rw [m]; exact D) (by rw [m]; decide) (by rw [m]; decide); refine ⟨v :: x,?_,.cons f2 f4⟩
   have s : wd L (i + (zh g d).length + 1) ≠ xd := by
    obtain ⟨N,q2⟩ := hne t (by simp) g (y t (by simp)); cases O : zh g t with
    | nil => exact absurd O q2
    | cons w r =>
     rw [O] at I N; rw [(AtW.cons.1 I).1]; intro e9
     exact N (by rw [e9]; rfl)
   rw [P.bind_ok (uv s),if_neg (by simp)]
   have K : xC L (yy L n) yq (i + (zh g d).length + 1) = .ok ([v] ++ x,i + (zh g d).length + 1 + (zh g t).length + (xr yq (zh g) l).length) := by
    unfold xC
    exact (P.bind_ok Z).trans f3
   rw [P.bind_ok K,P.bind_ok (ya m)]
   have : j = i + (zh g d).length + 1 + (zh g t).length + (xr yq (zh g) l).length + 1 := by simp only [List.length_append] at B; omega
   rw [this]
   rfl
 obtain ⟨x,k1,k2⟩ := H; refine ⟨.mk 33 [] 0 u.at' (u :: x),?_,.mk (.cons X k2),(sY M).2.2.2.2.2.1⟩; rw [mr M]
 unfold yB
 rw [P.bind_ok (V.trans (df (by rw [C]; decide))),if_pos C,P.bind_ok k1]
 rfl
def First (ws : List (List UInt8)) : Prop := ∃ w r,ws = w :: r /\ w ≠ xd /\ yF w = false
theorem First.app {a b : List (List UInt8)} (h : First a) : First (a ++ b) := by
 obtain ⟨w,r,rfl,d,e⟩ := h
 exact ⟨w,r ++ b,rfl,d,e⟩
theorem First.at9 {f : Nat} {t : T} {r : Int} (h : First (zh f t)) : First (yJ f t r) := by
 unfold yJ
 split
 ·exact ⟨yw,_,rfl,by decide,by decide⟩
 ·exact h
theorem bp {x : List UInt8} (h : zF x = true) : x ≠ xd /\ yF x = false := by
 refine ⟨?_,?_⟩
 ·intro e; subst e; revert h; decide
 ·rw [Bool.eq_false_iff]
  intro b; simp only [yF,Bool.or_eq_true,beq_iff_eq] at b
  rcases b with ((((e | e) | e) | e) | e) | e <;> (subst e; revert h; decide)
theorem Rn.first {g : G} {n : Nat} {t : T} (h : Rn g n t) : ∀ f,zA t <= f -> First (zh f t) := by
 induction h with
 | name hx => intro f b; obtain ⟨g,rfl,-⟩ := xZ b; rw [nv]; exact ⟨_,_,rfl,(bp hx).1,(bp hx).2⟩
 | field h hx ih => intro f b; obtain ⟨g,rfl,d⟩ := vk b; rw [sX]; exact (ih g d).app
 | index h he ih _ => intro f b; obtain ⟨g,rfl,d,-⟩ := xt b; rw [sj]; exact (ih g d).app
 | point h ih => intro f b; obtain ⟨g,rfl,d⟩ := vk b; rw [tV]; exact (ih g d).app
 | guard h hy ih => intro f b; obtain ⟨g,rfl,d,-⟩ := xt b; rw [sq]; exact (ih g d).app
 | num h0 h1 =>
  intro f b; obtain ⟨g,rfl,-⟩ := xZ b; rw [cc]; obtain ⟨-,c,l,e,j⟩ := hH h0 h1; refine ⟨_,_,rfl,?_,?_⟩
  ·rw [e]
   intro i
   injection i with e1 e2
   subst e1
   revert j
   decide
  ·rw [e,Bool.eq_false_iff]
   intro m; simp only [yF,Bool.or_eq_true,beq_iff_eq] at m
   rcases m with ((((i | i) | i) | i) | i) | i
   all_goals first | (cases i; done) | (injection i with e1 e2; subst e1; revert j; decide)
 | word h =>
  intro f b; obtain ⟨g,rfl,-⟩ := xZ b
  rcases h with rfl | rfl | rfl
  ·rw [ov]; exact ⟨_,_,rfl,by decide,by decide⟩
  ·rw [rE]; exact ⟨_,_,rfl,by decide,by decide⟩
  ·rw [iI]; exact ⟨_,_,rfl,by decide,by decide⟩
 | desig h hk ih => exact ih
 | call h hk hl ih _ => intro f b; obtain ⟨g,rfl,d⟩ := xZ b; rw [yM] at d; rw [oC]; exact (ih g (by omega)).app
 | not h ih => intro f b; obtain ⟨g,rfl,d⟩ := vk b; rw [cy]; exact ⟨_,_,rfl,by decide,by decide⟩
 | fpFac h hr ih => exact ih
 | fpPar h hr ih => exact ih
 | proFac h hr ih => exact ih
 | proPar h hr ih => exact ih
 | mul hx ha hb iha _ => intro f b; obtain ⟨g,rfl,d,-⟩ := xt b; rw [cJ hx]; exact (First.at9 (iha g d)).app
 | sumPro h hk hr ih => exact ih
 | sumNeg h hk ih => intro f b; obtain ⟨g,rfl,d⟩ := vk b; rw [cj]; exact ⟨_,_,rfl,by decide,by decide⟩
 | sumPar h hr ih => exact ih
 | add hx ha hb hj iha _ => intro f b; obtain ⟨g,rfl,d,-⟩ := xt b; rw [ir hx]; exact (First.at9 (iha g d)).app
 | plain h hk hr ih => exact ih
 | rel hx ha hk hb hj iha _ => intro f b; obtain ⟨g,rfl,d,-⟩ := xt b; rw [cI hx]; exact (First.at9 (iha g d)).app
 | is ha hk hy iha => intro f b; obtain ⟨g,rfl,d,-⟩ := xt b; rw [zcn]; exact (First.at9 (iha g d)).app
theorem uM {g : G} {n : Nat} {t : T} (h : Rn g n t) : Reads g n t := by
 induction h with
 | name hx => exact cz hx
 | field _ hx ih => exact nV ih hx
 | index _ _ ih ihe => exact nH ih ihe
 | point _ ih => exact mE ih
 | guard _ hy ih => exact mf ih hy
 | num h0 h1 => exact bR h0 h1
 | word h => exact iT h
 | desig _ hk ih => exact nP ih hk
 | call _ hk hl ih ihl => exact cF ih hk ihl (fun e he f hf => by
   obtain ⟨_,_,b,d,_⟩ := (hl e he).first f hf; rw [b]
   exact ⟨by simpa using d,by simp⟩)
 | not _ ih => exact aw ih
 | fpFac _ hr ih => exact lq ih hr
 | fpPar _ hr ih => exact ms ih hr
 | proFac _ hr ih => exact oV ih hr
 | proPar _ hr ih => exact fI ih hr
 | mul hx _ _ iha ihb => exact zab hx iha ihb
 | sumPro _ hk hr ih => exact nB ih hk hr
 | sumNeg _ hk ih => exact nj ih hk
 | sumPar _ hr ih => exact oY ih hr
 | add hx _ _ hj iha ihb => exact aU hx iha ihb hj
 | plain _ hk hr ih => exact lQ ih hk hr
 | rel hx _ hk _ hj iha ihb => exact aH hx iha hk ihb hj
 | is _ hk hy iha => exact za3 iha hk hy
theorem ilt (a b : Int) : a < b \/ b <= a := by omega
mutual
def yW : T -> Nat
 | .mk k _ _ _ l => (if k = 36 then 1 else 0) + jp l
def jp : List T -> Nat
 | [] => 0
 | t :: l => yW t + jp l
end
theorem mR {k : Int} {x : List UInt8} {n p : Int} {a : T} (hk : k ≠ 36) : yW (.mk k x n p [a]) = yW a := by simp [yW,jp,hk]
theorem cd {k : Int} {x : List UInt8} {n p : Int} {a b : T} (hk : k ≠ 36) : yW (.mk k x n p [a,b]) = yW a + yW b := by simp [yW,jp,hk]
theorem oq {x : List UInt8} {n p : Int} {a b : T} : yW (.mk 36 x n p [a,b]) = 1 + (yW a + yW b) := by simp [yW,jp]
theorem Rn.up {g : G} {n : Nat} {t : T} (h : Rn g n t) : Rn g (n + 1) t := by
 induction h with
 | name hx => exact .name hx
 | field _ hx ih => exact .field ih hx
 | index _ _ ih ihe => exact .index ih ihe
 | point _ ih => exact .point ih
 | guard _ hy ih => exact .guard ih hy
 | num h0 h1 => exact .num h0 h1
 | word h => exact .word h
 | desig _ hk ih => exact .desig ih hk
 | call _ hk _ ih ihl => exact .call ih hk ihl
 | not _ ih => exact .not ih
 | fpFac _ hr ih => exact .fpFac ih hr
 | fpPar _ hr ih => exact .fpPar ih hr
 | proFac _ hr ih => exact .proFac ih hr
 | proPar _ hr ih => exact .proPar ih hr
 | mul hx _ _ iha ihb => exact .mul hx iha ihb
 | sumPro _ hk hr ih => exact .sumPro ih hk hr
 | sumNeg _ hk ih => exact .sumNeg ih hk
 | sumPar _ hr ih => exact .sumPar ih hr
 | add hx _ _ hj iha ihb => exact .add hx iha ihb hj
 | plain _ hk hr ih => exact .plain ih hk hr
 | rel hx _ hk _ hj iha ihb => exact .rel hx iha hk ihb hj
 | is _ hk hy iha => exact .is iha hk hy
theorem Rn.chain {g : G} {n : Nat} {t : T} (h : Rn g n t) : match g with | .pro k => k <= yW t | .sum k => k <= yW t | _ => True := by
 induction h with
 | mul hx ha hb iha _ => simp only at iha ⊢; rw [oq]; omega
 | add hx ha hb hj iha _ => simp only at iha ⊢; rw [oq]; omega
 | proFac => exact Nat.zero_le _
 | proPar => exact Nat.zero_le _
 | sumPro => exact Nat.zero_le _
 | sumNeg => exact Nat.zero_le _
 | sumPar => exact Nat.zero_le _
 | _ => trivial
theorem na {k n : Nat} {t : T} (h : Rn (.pro k) n t) : k <= yW t := h.chain
theorem tE {k n : Nat} {t : T} (h : Rn (.sum k) n t) : k <= yW t := h.chain
theorem oL {n : Nat} {t : T} (h : Rn .exp n t) (hr : 1 <= yH t) : ∃ k,k <= 20 /\ Rn (.sum k) n t := by
 cases h with
 | plain h hk _ => exact ⟨_,hk,h.up⟩
 | rel hx _ _ _ _ => rw [qF,hx] at hr; omega
 | is _ _ _ => simp [yH,T.kind] at hr
theorem br {k n : Nat} {t : T} (h : Rn (.sum k) n t) (hr : 2 <= yH t) : ∃ k,k <= 20 /\ Rn (.pro k) n t := by
 cases h with
 | sumPro h hk _ => exact ⟨_,hk,h⟩
 | sumNeg _ _ => simp [yH,T.kind] at hr
 | sumPar _ h9 => omega
 | add hx _ _ _ => rw [qF,hx] at hr; omega
theorem zeh {k n : Nat} {t : T} (h : Rn (.pro k) n t) (hr : 3 <= yH t) : Rn .fac n t := by
 cases h with
 | proFac h _ => exact h
 | proPar _ h9 => omega
 | mul hx _ _ => rw [qF,hx] at hr; omega
theorem zdt {n : Nat} {t : T} (h : Rn .exp n t) : Rn .facp n t := by
 rcases ilt (yH t) 3 with b | b
 ·exact .fpPar h b
 ·obtain ⟨k,_,d⟩ := oL h (by omega)
  obtain ⟨f,_,e⟩ := br d (by omega)
  exact .fpFac (zeh e b) b
theorem zav {n : Nat} {t : T} (h : Rn .facp n t) : ∃ k,Rn (.pro k) n t := by
 cases h with
 | fpFac h hr => exact ⟨0,.proFac h hr⟩
 | fpPar h hr =>
  rcases ilt (yH t) 2 with b | b
  ·exact ⟨0,.proPar h b⟩
  ·obtain ⟨k,_,d⟩ := oL h (by omega)
   obtain ⟨e,_,f⟩ := br d b
   exact ⟨e,f⟩
theorem ze3 {k n : Nat} {t : T} (h : Rn (.pro k) n t) (ho : yW t <= 20) : ∃ k,Rn (.sum k) n t := by
 have g := na h
 rcases ilt (yH t) 2 with b | b
 ·have e : Rn .exp n t := by
   cases h with
   | proFac _ hr => omega
   | proPar h _ => exact h
   | mul hx _ _ => rw [qF,hx] at b; omega
  rcases ilt (yH t) 1 with d | d
  ·exact ⟨0,.sumPar e d⟩
  ·obtain ⟨k,_,f⟩ := oL e d
   exact ⟨k,f⟩
 ·exact ⟨0,.sumPro h (by omega) b⟩
theorem zer {k n : Nat} {t : T} (h : Rn (.sum k) n t) (ho : yW t <= 20) : Rn .exp (n + 1) t := by
 have d := tE h
 rcases ilt (yH t) 1 with b | b
 ·cases h with
  | sumPro _ _ hr => omega
  | sumNeg _ _ => simp [yH,T.kind] at b
  | sumPar h _ => exact h.up
  | add hx _ _ _ => rw [qF,hx] at b; omega
 ·exact .plain h (by omega) b
/-! ### The grammar,taken back -/
theorem zc {α β : Type} {p : P α} {k : α -> P β} {i j : Nat} {b : β} (h : P.bind p k i = .ok (b,j)) : ∃ a m,p i = .ok (a,m) /\ k a m = .ok (b,j) := by
 unfold P.bind at h
 split at h
 ·cases h
 ·rename_i a m e
  exact ⟨a,m,e,h⟩
theorem zk {α : Type} {a b : α} {i j : Nat} (h : P.ret a i = .ok (b,j)) : a = b /\ i = j := by
 unfold P.ret at h
 cases h
 exact ⟨rfl,rfl⟩
theorem gG {L : List Tok} {w : List UInt8} {i j : Nat} {b : Bool} (h : yP L w i = .ok (b,j)) : (b = true /\ wd L i = w /\ j = i + 1) \/ (b = false /\ wd L i ≠ w /\ j = i) := by
 unfold yP at h
 split at h
 ·rename_i e; cases h; exact .inl ⟨rfl,e,rfl⟩
 ·rename_i e; cases h; exact .inr ⟨rfl,e,rfl⟩
theorem lJ {L : List Tok} {w : List UInt8} {i j : Nat} {b : Unit} (h : zx L w i = .ok (b,j)) : wd L i = w /\ j = i + 1 := by
 unfold zx at h
 split at h
 ·rename_i e; cases h; exact ⟨e,rfl⟩
 ·cases h
theorem jU {L : List Tok} {i j : Nat} {s : List UInt8} (h : uo L i = .ok (s,j)) : zF s = true /\ s = wd L i /\ j = i + 1 := by
 unfold uo at h
 split at h
 ·rename_i e; cases h; exact ⟨e,rfl,rfl⟩
 ·cases h
theorem uH {L : List Tok} {kind : Int} {i j : Nat} {t : T} (h : vj L kind i = .ok (t,j)) : zF (wd L i) = true /\ t = .mk kind (wd L i) 0 (pos L i) [] /\ j = i + 1 := by
 obtain ⟨_,_,b,d⟩ := zc (show P.bind (uo L) _ i = .ok (t,j) from h); obtain ⟨e,rfl,rfl⟩ := jU b; obtain ⟨rfl,rfl⟩ := zk d
 exact ⟨e,rfl,rfl⟩
theorem gs {L : List Tok} {i j : Nat} {t : T} (h : yu L i = .ok (t,j)) : TyN t := by
 obtain ⟨_,m,e,f⟩ := zc h; obtain ⟨d,rfl,rfl⟩ := uH e; obtain ⟨_,m,g,b⟩ := zc f
 rcases gG g with ⟨rfl,_,rfl⟩ | ⟨rfl,_,rfl⟩
 ·rw [if_pos rfl] at b
  obtain ⟨_,m,l,n⟩ := zc b; obtain ⟨o,rfl,rfl⟩ := jU l; obtain ⟨rfl,rfl⟩ := zk n
  exact .of o d
 ·rw [if_neg (by simp)] at b
  obtain ⟨rfl,rfl⟩ := zk b
  exact .own d
def NumL (L : List Tok) : Prop := ∀ i n,ku (wd L i) = some n -> 0 <= n /\ n <= 2147483647
theorem bD {x : List UInt8} (h : xp x = true) : zv x = 2 := by
 simp only [xp,Bool.or_eq_true,beq_iff_eq] at h
 rcases h with ((rfl | rfl) | rfl) | rfl <;> decide
theorem cZ {x : List UInt8} (h : kZ x = true) : zv x = 1 := by
 simp only [kZ,Bool.or_eq_true,beq_iff_eq] at h
 rcases h with (rfl | rfl) | rfl <;> decide
theorem bn {x : List UInt8} (h : xE x = true) : zv x = 0 := by
 simp only [xE,Bool.or_eq_true,beq_iff_eq] at h
 rcases h with ((((rfl | rfl) | rfl) | rfl) | rfl) | rfl <;> decide
section
variable {L : List Tok} {E : P T} {n : Nat} (hE : ∀ i e j,E i = .ok (e,j) -> yW e <= 20 -> Rn .exp n e)
include hE
theorem za6 {u v : T} {i j k : Nat} (h : xH L E u i = .ok (v,j)) : yW u <= yW v /\ (yW v <= 20 -> Rn (.des k) n u -> Rn (.des (k + 1)) n v) := by
 unfold xH at h
 split at h
 ·obtain ⟨_,m,b,d⟩ := zc h
  obtain ⟨g,_,_⟩ := jU b; obtain ⟨rfl,_⟩ := zk d
  exact ⟨by rw [mR (by omega)]; omega,fun _ hu => .field hu g⟩
 ·split at h
  ·obtain ⟨_,m,b,d⟩ := zc h
   obtain ⟨_,l,o,f⟩ := zc d; obtain ⟨rfl,_⟩ := zk f
   exact ⟨by rw [cd (by omega)]; omega,fun ho hu => .index hu (hE _ _ _ b (by rw [cd (by omega)] at ho; omega))⟩
  ·split at h
   ·cases h
    exact ⟨by rw [mR (by omega)]; omega,fun _ hu => .point hu⟩
   ·obtain ⟨_,m,b,d⟩ := zc h
    obtain ⟨_,l,o,f⟩ := zc d; obtain ⟨rfl,_⟩ := zk f
    exact ⟨by rw [cd (by omega)]; omega,fun ho hu => .guard hu (gs b)⟩
theorem mN : ∀ (f : Nat) {u t : T} {i j k : Nat},zt L E f u i = .ok (t,j) -> k + f <= 20 -> yW u <= yW t /\ (yW t <= 20 -> Rn (.des k) n u -> ∃ k,k <= 20 /\ Rn (.des k) n t)
 | 0,u,t,i,j,k,h,hk => by
  rw [zt] at h; have h : (if yb (wd L i) = true then (xH L E u).bind (fun _ => vM L) i else .ok (u,i)) = .ok (t,j) := h
  split at h
  ·obtain ⟨_,_,_,h2⟩ := zc h
   cases h2
  ·cases h
   exact ⟨Nat.le_refl _,fun _ hu => ⟨k,by omega,hu⟩⟩
 | f + 1,u,t,i,j,k,h,hk => by
  rw [zt] at h; have h : (if yb (wd L i) = true then (xH L E u).bind (fun n' => zt L E f n') i else .ok (u,i)) = .ok (t,j) := h
  split at h
  ·obtain ⟨_,_,h1,h2⟩ := zc h
   obtain ⟨_,a2⟩ := za6 hE (k := k) h1; obtain ⟨_,b2⟩ := mN f (k := k + 1) h2 (by omega)
   exact ⟨by omega,fun ho hu => b2 ho (a2 (by omega) hu)⟩
  ·cases h
   exact ⟨Nat.le_refl _,fun _ hu => ⟨k,by omega,hu⟩⟩
theorem oK {t : T} {i j : Nat} (h : zQ L E i = .ok (t,j)) (ho : yW t <= 20) : ∃ k,k <= 20 /\ Rn (.des k) n t := by
 obtain ⟨_,_,b,d⟩ := zc h; obtain ⟨f,rfl,rfl⟩ := uH b
 exact (mN hE 20 (k := 0) d (by omega)).2 ho (.name f)
theorem fQ {sep : List UInt8} : ∀ (f : Nat) {acc l : List T} {i j : Nat},yG L E sep f acc i = .ok (l,j) -> ∃ r,l = acc ++ r /\ (jp r <= 20 -> ∀ e ∈ r,Rn .exp n e)
 | 0,acc,l,i,j,h => by cases h
 | f + 1,acc,l,i,j,h => by
  rw [yG] at h; obtain ⟨_,_,h1,h2⟩ := zc h
  rcases gG h1 with ⟨rfl,_,rfl⟩ | ⟨rfl,_,rfl⟩
  ·rw [if_pos rfl] at h2
   obtain ⟨v,_,h3,h4⟩ := zc h2; obtain ⟨r,rfl,hr⟩ := fQ f h4; refine ⟨v :: r,by simp,fun ho e he => ?_⟩; rw [jp] at ho
   rcases List.mem_cons.1 he with rfl | he
   ·exact hE _ _ _ h3 (by omega)
   ·exact hr (by omega) e he
  ·rw [if_neg (by simp)] at h2
   obtain ⟨rfl,_⟩ := zk h2
   exact ⟨[],by simp,fun _ e he => by cases he⟩
theorem zas {l : List T} {i j : Nat} (h : yS L E i = .ok (l,j)) (ho : jp l <= 20) : ∀ e ∈ l,Rn .exp n e := by
 unfold yS xF at h
 obtain ⟨_,_,_,m⟩ := zc h; obtain ⟨b,o,_,f⟩ := zc m; cases b with
 | true =>
  rw [if_pos rfl] at f; obtain ⟨rfl,_⟩ := zk f; intro e d; cases d
 | false =>
  rw [if_neg (by simp)] at f; obtain ⟨s,t,u,w⟩ := zc f; obtain ⟨_,_,_,x⟩ := zc w; obtain ⟨rfl,_⟩ := zk x; obtain ⟨v,_,y,g⟩ := zc (show P.bind E _ o = .ok (s,t) from u); obtain ⟨r,rfl,z⟩ := fQ hE _ g
  have A : [v] ++ r = v :: r := rfl
  rw [A,jp] at ho; intro e d
  rcases List.mem_cons.1 d with rfl | d
  ·exact hE _ _ _ y (by omega)
  ·exact z (by omega) e d
theorem ze6 (hN : NumL L) {F : P T} (hF : ∀ i e j,F i = .ok (e,j) -> yW e <= 20 -> ∃ m,n = m + 1 /\ Rn .facp m e) {t : T} {i j : Nat} (h : zV L E F i = .ok (t,j)) (ho : yW t <= 20) : Rn .facp n t := by
 unfold zV at h
 split at h
 ·cases h; exact .fpFac (.word (.inl rfl)) (by simp [yH,T.kind])
 split at h
 ·cases h; exact .fpFac (.word (.inr (.inl rfl))) (by simp [yH,T.kind])
 split at h
 ·cases h; exact .fpFac (.word (.inr (.inr rfl))) (by simp [yH,T.kind])
 split at h
 ·obtain ⟨_,m,b,f⟩ := zc h
  obtain ⟨rfl,_⟩ := zk f; rw [mR (by omega)] at ho; obtain ⟨m,rfl,g⟩ := hF _ _ _ b ho
  exact .fpFac (.not g) (by simp [yH,T.kind])
 split at h
 ·obtain ⟨e,m,b,f⟩ := zc h
  obtain ⟨_,u,g,r⟩ := zc f; obtain ⟨rfl,_⟩ := zk r
  exact zdt (hE _ _ _ b ho)
 split at h
 ·unfold yB at h
  obtain ⟨d,m,b,f⟩ := zc h; have f : (if wd L m = yw then (yS L E).bind (fun l => P.ret (.mk 33 [] 0 d.at' (d :: l))) m else .ok (d,m)) = .ok (t,j) := f
  split at f
  ·obtain ⟨l,u,g,r⟩ := zc f
   obtain ⟨rfl,_⟩ := zk r
   have v : yW d + jp l <= 20 := by simpa [yW,jp] using ho
   obtain ⟨k,s,o⟩ := oK hE b (by omega)
   exact .fpFac (.call o s (zas hE g (by omega))) (by simp [yH,T.kind])
  ·cases f
   obtain ⟨k,s,o⟩ := oK hE b ho; refine .fpFac (.desig o s) ?_
   cases o <;> simp [yH,T.kind]
 ·obtain ⟨m,_,b,f⟩ := zc h
  obtain ⟨rfl,_⟩ := zk f
  unfold qd at b
  split at b
  ·rename_i q hq
   cases b; obtain ⟨w,x⟩ := hN _ _ hq
   exact .fpFac (.num w x) (by simp [yH,T.kind])
  ·cases b
end
theorem dC {L : List Tok} {J : List UInt8 -> Bool} {part : P T} {K : T -> Prop} (hpart : ∀ i v j,part i = .ok (v,j) -> yW v <= 20 -> ∀ u x,J x = true -> yW u <= 20 -> K u -> K (opT x u v)) : ∀ (f : Nat) {u t : T} {i j : Nat},yO L J part f u i = .ok (t,j) -> yW u <= yW t /\ (yW t <= 20 -> K u -> K t)
 | 0,u,t,i,j,h => by
  rw [yO] at h; have h : (if J (wd L i) = true then vM L (i + 1) else .ok (u,i)) = .ok (t,j) := h
  split at h
  ·cases h
  ·cases h; exact ⟨Nat.le_refl _,fun _ hu => hu⟩
 | f + 1,u,t,i,j,h => by
  rw [yO] at h; have h : (if J (wd L i) = true then part.bind (fun r => yO L J part f (opT (wd L i) u r)) (i + 1) else .ok (u,i)) = .ok (t,j) := h
  split at h
  ·rename_i hJ
   obtain ⟨v,_,h1,h2⟩ := zc h; obtain ⟨a1,a2⟩ := dC hpart f h2
   unfold opT at a1
   rw [oq] at a1
   exact ⟨by omega,fun ho hu => a2 ho (hpart _ _ _ h1 (by omega) u _ hJ (by omega) hu)⟩
  ·cases h; exact ⟨Nat.le_refl _,fun _ hu => hu⟩
theorem oT {L : List Tok} (hN : NumL L) : ∀ (n : Nat),(∀ i t j,yy L n i = .ok (t,j) -> yW t <= 20 -> Rn .exp n t) /\ (∀ i t j,xf L n i = .ok (t,j) -> yW t <= 20 -> ∃ m,n = m + 1 /\ Rn .facp m t)
 | 0 => ⟨fun i t j h => (by cases h),fun i t j h => (by cases h)⟩
 | n + 1 => by
  obtain ⟨hE,hF⟩ := oT hN n
  have hfac : ∀ i t j,kP L n i = .ok (t,j) -> yW t <= 20 -> Rn .facp n t := fun i t j h ho => ze6 hE hN hF h ho
  have hpro : ∀ i t j,jX L n i = .ok (t,j) -> yW t <= 20 -> ∃ k,Rn (.pro k) n t := fun i t j h ho => by
   obtain ⟨u,m,h1,h2⟩ := zc (show P.bind (kP L n) _ i = .ok (t,j) from h); obtain ⟨a1,a2⟩ := dC (K := fun t => ∃ k,Rn (.pro k) n t) (fun i v j hv hvo u x hx huo ⟨k,hu⟩ => ⟨k + 1,.mul (bD hx) hu (hfac i v j hv hvo)⟩) 20 h2
   exact a2 ho (zav (hfac _ _ _ h1 (by omega)))
  have hsum : ∀ i t j,kM L n i = .ok (t,j) -> yW t <= 20 -> ∃ k,Rn (.sum k) n t := fun i t j h ho => by
   obtain ⟨b,m,h1,h2⟩ := zc (show P.bind (yP L vd) _ i = .ok (t,j) from h); obtain ⟨u,m2,h3,h4⟩ := zc (show P.bind (jX L n) _ m = .ok (t,j) from h2)
   obtain ⟨a1,a2⟩ := dC (K := fun t => ∃ k,Rn (.sum k) n t) (fun i v j hv hvo u x hx huo ⟨k,hu⟩ => by
    obtain ⟨k',hv'⟩ := hpro i v j hv hvo; have := na hv'
    exact ⟨k + 1,.add (cZ hx) hu hv' (by omega)⟩) 20 h4
   refine a2 ho ?_; cases b with
   | true =>
    rw [if_pos rfl,mR (by omega)] at a1; obtain ⟨k,hk⟩ := hpro _ _ _ h3 (by omega); have := na hk
    exact ⟨0,.sumNeg hk (by omega)⟩
   | false =>
    rw [if_neg (by simp)] at a1; obtain ⟨k,hk⟩ := hpro _ _ _ h3 (by omega); have := ze3 hk (by omega)
    exact this
  refine ⟨fun i t j h ho => ?_,fun i t j h ho => ⟨n,rfl,hfac i t j h ho⟩⟩; rw [uT] at h; obtain ⟨a,m,h1,h2⟩ := zc (show P.bind (kM L n) _ i = .ok (t,j) from h); have h2 : (if wd L m = kIS then (yu L).bind (fun y => P.ret (.mk 37 [] 0 a.at' [a,y])) (m + 1) else if xE (wd L m) = true then (kM L n).bind (fun b => P.ret (opT (wd L m) a b)) (m + 1) else .ok (a,m)) = .ok (t,j) := h2
  split at h2
  ·obtain ⟨y,m2,h3,h4⟩ := zc h2
   obtain ⟨rfl,_⟩ := zk h4; rw [cd (by omega)] at ho; obtain ⟨k,hk⟩ := hsum _ _ _ h1 (by omega); have := tE hk
   exact .is hk (by omega) (gs h3)
  ·split at h2
   ·rename_i hc
    obtain ⟨b,m2,h3,h4⟩ := zc h2; obtain ⟨rfl,_⟩ := zk h4
    unfold opT at ho
    rw [oq] at ho; obtain ⟨k,hk⟩ := hsum _ _ _ h1 (by omega); obtain ⟨k',hk'⟩ := hsum _ _ _ h3 (by omega); have := tE hk; have := tE hk'
    exact .rel (bn hc) hk (by omega) hk' (by omega)
   ·cases h2
    obtain ⟨k,hk⟩ := hsum _ _ _ h1 ho
    exact zer hk ho
def fc (f : Nat) (l : List T) : List (List UInt8) := yw :: (xi yq (l.map (zh f)) ++ [xd])
def vu (ex ac : T -> List (List UInt8)) : List T -> List (List UInt8)
 | [] => []
 | [x] => qM :: ac x
 | x :: y :: l => jf :: (ex x ++ (xP :: (ac y ++ vu ex ac l)))
def vq : Nat -> T -> List (List UInt8)
 | 0,_ => []
 | f + 1,t =>
  let acts := fun (u : T) => xi zE (u.subs.map (vq f))
  let s0 := yo t 0
  let s1 := yo t 1
  if t.kind = 14 then zh f s0 ++ (xG :: zh f s1) else
  if t.kind = 15 then zh f s0 ++ (if 1 < t.subs.length then fc f (t.subs.drop 1) else []) else
  if t.kind = 16 then kIF :: (zh f s0 ++ (xP :: (acts s1 ++ (vu (zh f) acts (t.subs.drop 2) ++ [yD])))) else
  if t.kind = 17 then ue :: (zh f s0 ++ (kDO :: (acts s1 ++ [yD]))) else
  if t.kind = 18 then va :: (acts s0 ++ (jq :: zh f s1)) else
  if t.kind = 19 then xK :: (if 0 < t.subs.length then zh f s0 else []) else
  jn t.kind :: yw :: (zh f s0 ++ [xd])
def zK (f : Nat) (u : T) : List (List UInt8) := xi zE (u.subs.map (vq f))
def xc : List (T × T) -> List T
 | [] => []
 | q :: l => q.1 :: q.2 :: xc l
inductive RA : Bool -> Nat -> T -> Prop
 | list {n : Nat} {p : Int} {l : List T} (h : ∀ a ∈ l,RA false n a) : RA true (n + 1) (.mk 1 [] 0 p l)
 | assign {n k : Nat} {p : Int} {d e : T} (hd : Rn (.des k) n d) (hk : k <= 20) (he : Rn .exp n e) : RA false n (.mk 14 [] 0 p [d,e])
 | call {n k : Nat} {p : Int} {d : T} {l : List T} (hd : Rn (.des k) n d) (hk : k <= 20) (hl : ∀ e ∈ l,Rn .exp n e) : RA false n (.mk 15 [] 0 p (d :: l))
 | choice {n : Nat} {p : Int} {c a : T} {ps : List (T × T)} (hc : Rn .exp n c) (ha : RA true n a) (hpc : ∀ q ∈ ps,Rn .exp n q.1) (hpa : ∀ q ∈ ps,RA true n q.2) : RA false n (.mk 16 [] 0 p (c :: a :: xc ps))
 | choice1 {n : Nat} {p : Int} {c a b : T} {ps : List (T × T)} (hc : Rn .exp n c) (ha : RA true n a) (hpc : ∀ q ∈ ps,Rn .exp n q.1) (hpa : ∀ q ∈ ps,RA true n q.2) (hb : RA true n b) : RA false n (.mk 16 [] 1 p (c :: a :: (xc ps ++ [b])))
 | while {n : Nat} {p : Int} {c a : T} (hc : Rn .exp n c) (ha : RA true n a) : RA false n (.mk 17 [] 0 p [c,a])
 | repeat {n : Nat} {p : Int} {c a : T} (hc : Rn .exp n c) (ha : RA true n a) : RA false n (.mk 18 [] 0 p [a,c])
 | ret {n : Nat} {p : Int} : RA false n (.mk 19 [] 0 p [])
 | ret1 {n : Nat} {p : Int} {e : T} (he : Rn .exp n e) : RA false n (.mk 19 [] 0 p [e])
 | builtD {n k : Nat} {kd p : Int} {d : T} (hkd : kd = 20 \/ kd = 22) (hd : Rn (.des k) n d) (hk : k <= 20) : RA false n (.mk kd [] 0 p [d])
 | builtE {n : Nat} {kd p : Int} {e : T} (hkd : kd = 21 \/ kd = 23) (he : Rn .exp n e) : RA false n (.mk kd [] 0 p [e])
def StopA (w : List UInt8) : Prop := yF w = true /\ w ≠ []
def StopE (w : List UInt8) : Prop := yF w = true /\ w ≠ [] /\ w ≠ zE
theorem lI {w : List UInt8} (h : StopA w) : w = zE \/ w = yD \/ w = jf \/ w = qM \/ w = jq := by
 obtain ⟨g,i⟩ := h; simp only [yF,Bool.or_eq_true,beq_iff_eq] at g
 rcases g with ((((h | h) | h) | h) | h) | h
 ·exact .inl h
 ·exact .inr (.inl h)
 ·exact .inr (.inr (.inl h))
 ·exact .inr (.inr (.inr (.inl h)))
 ·exact .inr (.inr (.inr (.inr h)))
 ·exact absurd h i
theorem gy {w : List UInt8} (h : StopA w) : Stop0 w /\ w ≠ xG := by
 rcases lI h with rfl | rfl | rfl | rfl | rfl <;> (unfold Stop0 Stop1 Stop2 Stop3; decide)
theorem StopE.a {w : List UInt8} (h : StopE w) : StopA w := ⟨h.1,h.2.1⟩
def ReadsA : Bool -> Nat -> T -> Prop
 | false,n,t => ∀ f L i j,zA t <= f -> AtW L i (vq f t) -> j = i + (vq f t).length -> StopA (wd L j) -> ∃ u,xQ L (yy L n) (vp L n) i = .ok (u,j) /\ Same t u /\ yF (wd L i) = false
 | true,n,t => ∀ f L i j,zA t <= f + 1 -> AtW L i (zK f t) -> j = i + (zK f t).length -> StopE (wd L j) -> ∃ u,vp L n i = .ok (u,j) /\ Same t u
theorem qG {w : List UInt8} (h : zF w = true) : yF w = false /\ w ≠ kIF /\ w ≠ ue /\ w ≠ va /\ w ≠ xK /\ w ≠ lj /\ w ≠ lY /\ w ≠ mp /\ w ≠ kF := by
 refine ⟨?_,?_,?_,?_,?_,?_,?_,?_,?_⟩
 ·rw [Bool.eq_false_iff]
  intro g; simp only [yF,Bool.or_eq_true,beq_iff_eq] at g
  rcases g with ((((e | e) | e) | e) | e) | e <;> (subst e; revert h; decide)
 all_goals (intro e; subst e; revert h; decide)
section
variable {f : Nat} {x : List UInt8} {m p : Int} {l : List T} {a b c d e : T}
theorem ziw : vq (f + 1) (.mk 14 x m p [d,e]) = zh f d ++ (xG :: zh f e) := by simp [vq,T.kind,yv,uY]
theorem zik : vq (f + 1) (.mk 15 x m p [d]) = zh f d := by simp [vq,T.kind,yv,T.subs]
theorem zfm : vq (f + 1) (.mk 15 x m p (d :: e :: l)) = zh f d ++ fc f (e :: l) := by simp [vq,T.kind,yv,T.subs]
theorem zdz : vq (f + 1) (.mk 16 x m p (c :: a :: l)) = kIF :: (zh f c ++ (xP :: (zK f a ++ (vu (zh f) (zK f) l ++ [yD])))) := by simp [vq,T.kind,yv,uY,T.subs,zK]; rfl
theorem zi7 : vq (f + 1) (.mk 17 x m p [c,a]) = ue :: (zh f c ++ (kDO :: (zK f a ++ [yD]))) := by simp [vq,T.kind,yv,uY,zK]
theorem zhz : vq (f + 1) (.mk 18 x m p [a,c]) = va :: (zK f a ++ (jq :: zh f c)) := by simp [vq,T.kind,yv,uY,zK]
theorem zie : vq (f + 1) (.mk 19 x m p []) = [xK] := by simp [vq,T.kind,T.subs]
theorem zfi : vq (f + 1) (.mk 19 x m p [e]) = xK :: zh f e := by simp [vq,T.kind,T.subs,yv]
theorem zgh {k : Int} (hk : k = 20 \/ k = 21 \/ k = 22 \/ k = 23) : vq (f + 1) (.mk k x m p [e]) = jn k :: yw :: (zh f e ++ [xd]) := by
 rcases hk with rfl | rfl | rfl | rfl <;> simp [vq,T.kind,yv]
end
theorem ko : Stop0 xd /\ Stop0 xP /\ Stop0 kDO /\ Stop0 yq /\ Stop0 mw := by unfold Stop0 Stop1 Stop2 Stop3; decide
theorem fP {n k : Nat} {t : T} (h : Rn (.des k) n t) (hk : k <= 20) {f : Nat} {L : List Tok} {i j : Nat} (hd : zA t <= f) (hw : AtW L i (zh f t)) (hj : j = i + (zh f t).length) (hs : yb (wd L j) = false) : ∃ u,zQ L (yy L n) i = .ok (u,j) /\ Same t u /\ zF (wd L i) = true := by
 obtain ⟨u,g,o,r⟩ := uM h f L i j hd hk hw hj
 exact ⟨u,g.trans (df hs),o,r⟩
theorem aG {n g : Nat} {t : T} {l : List T} (hl : ∀ e ∈ t :: l,Rn .exp n e) (hda : ∀ e ∈ t :: l,zA e <= g) {L : List Tok} {i j : Nat} (hw : AtW L i (fc g (t :: l))) (hj : j = i + (fc g (t :: l)).length) : ∃ us,yS L (yy L n) i = .ok (us,j) /\ SameL (t :: l) us := by
 unfold fc at hw hj
 rw [ge] at hw hj; obtain ⟨A,s⟩ := AtW.cons.1 hw; obtain ⟨s,h⟩ := AtW.append.1 s; obtain ⟨h,-⟩ := AtW.cons.1 h; obtain ⟨u,w⟩ := AtW.append.1 s; rw [List.length_append,show ∀ a b c : Nat,a + (b + c) = a + b + c from fun a b c => by omega] at h; simp only [la,lc,ln] at hj
 have r : Stop0 (wd L (i + 1 + (zh g t).length)) := by
  cases l with
  | nil => simp only [xr,List.length_nil,Nat.add_zero] at h; rw [h]; exact ko.1
  | cons z l => rw [xr] at w; rw [(AtW.cons.1 w).1]; exact ko.2.2.2.1
 obtain ⟨v,B,C⟩ := uM (hl t (by simp)) g L _ _ (hda t (by simp)) u rfl r; obtain ⟨us,D,E⟩ := jo (part := yy L n) (ws := zh g) (St := Stop0) (sep := yq) (by decide) ko.2.2.2.1 l (fun e he i j a b c => uM (hl e (by simp [he])) g L i j (hda e (by simp [he])) a b c) L.length [v] _ _ (by omega) w rfl (by rw [h]; exact ko.1) (by rw [h]; decide) (by rw [h]; decide); refine ⟨v :: us,?_,.cons C E⟩
 have o : wd L (i + 1) ≠ xd := by
  obtain ⟨_,_,F,H,_⟩ := (hl t (by simp)).first g (hda t (by simp)); rw [F] at u; rw [(AtW.cons.1 u).1]
  exact H
 unfold yS xF
 have y : xC L (yy L n) yq (i + 1) = .ok ([v] ++ us,i + 1 + (zh g t).length + (xr yq (zh g) l).length) := by
  unfold xC
  exact (P.bind_ok B).trans D
 rw [P.bind_ok (ya A),P.bind_ok (uv o),if_neg (by simp),P.bind_ok y,P.bind_ok (ya h)]
 have : j = i + 1 + (zh g t).length + (xr yq (zh g) l).length + 1 := by omega
 rw [this]
 rfl
theorem aT {n k : Nat} {p : Int} {d e : T} (hd : Rn (.des k) n d) (hk : k <= 20) (he : Rn .exp n e) : ReadsA false n (.mk 14 [] 0 p [d,e]) := by
 intro f L i j l b o r; obtain ⟨g,rfl,s,m⟩ := xt l; rw [ziw] at b o; obtain ⟨b,h⟩ := AtW.append.1 b; obtain ⟨h,t⟩ := AtW.cons.1 h; simp only [List.length_append,List.length_cons] at o; obtain ⟨u,w,x,y⟩ := fP hd hk s b rfl (by rw [h]; decide); obtain ⟨v,z,A⟩ := uM he g L _ j m t (by omega) (gy r).1; obtain ⟨B,C,D,E,F,H,I,J,K⟩ := qG y; refine ⟨.mk 14 [] 0 (pos L i) [u,v],?_,.two x A,B⟩
 unfold xQ
 rw [if_neg C,if_neg D,if_neg E,if_neg F,if_neg H,if_neg I,if_neg J,if_neg K]
 show P.bind (zQ L (yy L n)) _ i = _
 rw [P.bind_ok w]
 show (if wd L (i + (zh g d).length) = xG then _ else _) = _
 rw [if_pos h,P.bind_ok z]
 rfl
theorem zew {n k : Nat} {p : Int} {d : T} {l : List T} (hd : Rn (.des k) n d) (hk : k <= 20) (hl : ∀ e ∈ l,Rn .exp n e) : ReadsA false n (.mk 15 [] 0 p (d :: l)) := by
 intro f L i j m b h o; obtain ⟨g,rfl,I⟩ := xZ m; rw [yM] at I; cases l with
 | nil =>
  rw [zik] at b h; obtain ⟨u,r,s,v⟩ := fP hd hk (by omega) b h (gy o).1.1.1.1.1; obtain ⟨w,x,y,z,A,B,C,D,E⟩ := qG v; refine ⟨.mk 15 [] 0 (pos L i) [u],?_,.one s,w⟩
  unfold xQ
  rw [if_neg x,if_neg y,if_neg z,if_neg A,if_neg B,if_neg C,if_neg D,if_neg E]
  show P.bind (zQ L (yy L n)) _ i = _
  rw [P.bind_ok r]
  show (if wd L j = xG then _ else _) = _
  rw [if_neg (gy o).2,if_neg (gy o).1.1.1.1.2]
 | cons t l =>
  rw [zfm] at b h; obtain ⟨b,F⟩ := AtW.append.1 b; rw [List.length_append] at h
  have H : wd L (i + (zh g d).length) = yw := by unfold fc at F; exact (AtW.cons.1 F).1
  obtain ⟨u,r,s,v⟩ := fP hd hk (by omega) b rfl (by rw [H]; decide); obtain ⟨J,K,M⟩ := aG (j := j) hl (vv (by omega)) F (by omega); obtain ⟨w,x,y,z,A,B,C,D,E⟩ := qG v; refine ⟨.mk 15 [] 0 (pos L i) (u :: J),?_,.mk (.cons s M),w⟩
  unfold xQ
  rw [if_neg x,if_neg y,if_neg z,if_neg A,if_neg B,if_neg C,if_neg D,if_neg E]
  show P.bind (zQ L (yy L n)) _ i = _
  rw [P.bind_ok r]
  show (if wd L (i + (zh g d).length) = xG then _ else _) = _
  rw [if_neg (by rw [H]; decide),if_pos H,P.bind_ok K]
  rfl
theorem zhr {n : Nat} {p : Int} : ReadsA false n (.mk 19 [] 0 p []) := by
 intro f L i j d h e l; obtain ⟨g,rfl,-⟩ := xZ d; rw [zie] at h e; obtain ⟨b,-⟩ := AtW.cons.1 h; simp only [List.length_singleton] at e; subst e; refine ⟨.mk 19 [] 0 (pos L i) [],?_,.leaf,by rw [b]; decide⟩
 unfold xQ
 rw [if_neg (by rw [b]; decide),if_neg (by rw [b]; decide),if_neg (by rw [b]; decide),if_pos b]
 show P.bind (zx L xK) _ i = _
 rw [P.bind_ok (ya b)]
 show (if yF (wd L (i + 1)) = true then _ else _) = _
 rw [if_pos l.1]
theorem pp {n : Nat} {e : T} (he : Rn .exp n e) {f : Nat} {L : List Tok} {i : Nat} (hd : zA e <= f) (hw : AtW L i (zh f e)) : yF (wd L i) = false := by
 obtain ⟨_,_,b,_,d⟩ := he.first f hd; rw [b] at hw; rw [(AtW.cons.1 hw).1]
 exact d
theorem zd7 {n : Nat} {p : Int} {e : T} (he : Rn .exp n e) : ReadsA false n (.mk 19 [] 0 p [e]) := by
 intro f L i j d h l r; obtain ⟨g,rfl,m⟩ := vk d; rw [zfi] at h l; obtain ⟨b,o⟩ := AtW.cons.1 h; rw [List.length_cons] at l; obtain ⟨v,s,t⟩ := uM he g L _ j m o (by omega) (gy r).1; refine ⟨.mk 19 [] 0 (pos L i) [v],?_,.one t,by rw [b]; decide⟩
 unfold xQ
 rw [if_neg (by rw [b]; decide),if_neg (by rw [b]; decide),if_neg (by rw [b]; decide),if_pos b]
 show P.bind (zx L xK) _ i = _
 rw [P.bind_ok (ya b)]
 show (if yF (wd L (i + 1)) = true then _ else _) = _
 rw [if_neg (by rw [pp he m o]; simp),P.bind_ok s]
 rfl
theorem sU {k : Int} (hk : k = 20 \/ k = 21 \/ k = 22 \/ k = 23) : yF (jn k) = false := by
 rcases hk with rfl | rfl | rfl | rfl <;> decide
theorem fG {L : List Tok} {k : Int} {w : List UInt8} {part : P T} {i m : Nat} {u : T} (h1 : wd L i = w) (h2 : wd L (i + 1) = yw) (h3 : part (i + 1 + 1) = .ok (u,m)) (h4 : wd L m = xd) : vm L k w part i = .ok (.mk k [] 0 (pos L i) [u],m + 1) := by
 show P.bind (zx L w) _ i = _
 rw [P.bind_ok (ya h1)]
 show P.bind (zx L yw) _ (i + 1) = _
 rw [P.bind_ok (ya h2),P.bind_ok h3,P.bind_ok (ya h4)]
 rfl
theorem bU {n k : Nat} {kd p : Int} {d : T} (hkd : kd = 20 \/ kd = 22) (hd : Rn (.des k) n d) (hk : k <= 20) : ReadsA false n (.mk kd [] 0 p [d]) := by
 intro f L i j l r hj x; obtain ⟨g,rfl,v⟩ := vk l
 have s : kd = 20 \/ kd = 21 \/ kd = 22 \/ kd = 23 := by omega
 rw [zgh s] at r hj; obtain ⟨h1,h⟩ := AtW.cons.1 r; obtain ⟨h,m⟩ := AtW.cons.1 h; obtain ⟨m,e⟩ := AtW.append.1 m; obtain ⟨e,-⟩ := AtW.cons.1 e; simp only [la,lc,ln] at hj; obtain ⟨u,t,w,-⟩ := fP hd hk v m rfl (by rw [e]; decide); refine ⟨.mk kd [] 0 (pos L i) [u],?_,.one w,by rw [h1]; exact sU s⟩
 have o : j = i + 1 + 1 + (zh g d).length + 1 := by omega
 rw [o]
 unfold xQ
 rcases hkd with rfl | rfl
 ·have b : wd L i = lj := h1
  rw [if_neg (by rw [b]; decide),if_neg (by rw [b]; decide),if_neg (by rw [b]; decide),if_neg (by rw [b]; decide),if_pos b]
  exact fG b h t e
 ·have b : wd L i = mp := h1
  rw [if_neg (by rw [b]; decide),if_neg (by rw [b]; decide),if_neg (by rw [b]; decide),if_neg (by rw [b]; decide),if_neg (by rw [b]; decide),if_neg (by rw [b]; decide),if_pos b]
  exact fG b h t e
theorem bP {n : Nat} {kd p : Int} {e : T} (hkd : kd = 21 \/ kd = 23) (he : Rn .exp n e) : ReadsA false n (.mk kd [] 0 p [e]) := by
 intro f L i j l r hj x; obtain ⟨g,rfl,v⟩ := vk l
 have s : kd = 20 \/ kd = 21 \/ kd = 22 \/ kd = 23 := by omega
 rw [zgh s] at r hj; obtain ⟨h1,h⟩ := AtW.cons.1 r; obtain ⟨h,m⟩ := AtW.cons.1 h; obtain ⟨m,d⟩ := AtW.append.1 m; obtain ⟨d,-⟩ := AtW.cons.1 d; simp only [la,lc,ln] at hj; obtain ⟨u,t,w⟩ := uM he g L _ _ v m rfl (by rw [d]; exact ko.1); refine ⟨.mk kd [] 0 (pos L i) [u],?_,.one w,by rw [h1]; exact sU s⟩
 have o : j = i + 1 + 1 + (zh g e).length + 1 := by omega
 rw [o]
 unfold xQ
 rcases hkd with rfl | rfl
 ·have b : wd L i = lY := h1
  rw [if_neg (by rw [b]; decide),if_neg (by rw [b]; decide),if_neg (by rw [b]; decide),if_neg (by rw [b]; decide),if_neg (by rw [b]; decide),if_pos b]
  exact fG b h t d
 ·have b : wd L i = kF := h1
  rw [if_neg (by rw [b]; decide),if_neg (by rw [b]; decide),if_neg (by rw [b]; decide),if_neg (by rw [b]; decide),if_neg (by rw [b]; decide),if_neg (by rw [b]; decide),if_neg (by rw [b]; decide),if_pos b]
  exact fG b h t d
theorem za4 {n : Nat} {p : Int} {c a : T} (hc : Rn .exp n c) (ha : ReadsA true n a) : ReadsA false n (.mk 17 [] 0 p [c,a]) := by
 intro f L i j h r hj z; obtain ⟨g,rfl,s,_⟩ := xt h; rw [zi7] at r hj; obtain ⟨b,l⟩ := AtW.cons.1 r; obtain ⟨l,d⟩ := AtW.append.1 l; obtain ⟨d,m⟩ := AtW.cons.1 d; obtain ⟨m,e⟩ := AtW.append.1 m; obtain ⟨e,-⟩ := AtW.cons.1 e; simp only [la,lc,ln] at hj; obtain ⟨u,t,w⟩ := uM hc g L _ _ s l rfl (by rw [d]; exact ko.2.2.1); obtain ⟨v,x,y⟩ := ha g L _ _ (by omega) m rfl (by rw [e]; unfold StopE; decide); refine ⟨.mk 17 [] 0 (pos L i) [u,v],?_,.two w y,by rw [b]; decide⟩
 have o : j = i + 1 + (zh g c).length + 1 + (zK g a).length + 1 := by omega
 rw [o]
 unfold xQ
 rw [if_neg (by rw [b]; decide),if_pos b]
 show P.bind (zx L ue) _ i = _
 rw [P.bind_ok (ya b),P.bind_ok t,P.bind_ok (ya d),P.bind_ok x,P.bind_ok (ya e)]
 rfl
theorem ao {n : Nat} {p : Int} {c a : T} (hc : Rn .exp n c) (ha : ReadsA true n a) : ReadsA false n (.mk 18 [] 0 p [a,c]) := by
 intro f L i j e m o r; obtain ⟨g,rfl,_,h⟩ := xt e; rw [zhz] at m o; obtain ⟨b,l⟩ := AtW.cons.1 m; obtain ⟨l,d⟩ := AtW.append.1 l; obtain ⟨d,s⟩ := AtW.cons.1 d; simp only [List.length_append,List.length_cons] at o; obtain ⟨v,t,w⟩ := ha g L _ _ (by omega) l rfl (by rw [d]; unfold StopE; decide); obtain ⟨u,x,y⟩ := uM hc g L _ j h s (by omega) (gy r).1; refine ⟨.mk 18 [] 0 (pos L i) [v,u],?_,.two w y,by rw [b]; decide⟩
 unfold xQ
 rw [if_neg (by rw [b]; decide),if_neg (by rw [b]; decide),if_pos b]
 show P.bind (zx L va) _ i = _
 rw [P.bind_ok (ya b),P.bind_ok t,P.bind_ok (ya d),P.bind_ok x]
 rfl
theorem SameL.app {a b c d : List T} (h : SameL a b) (h2 : SameL c d) : SameL (a ++ c) (b ++ d) := by
 induction a generalizing b with
 | nil => cases h; exact h2
 | cons t a ih => cases h with | cons h hl => exact .cons h (ih hl)
def jl (ex ac : T -> List (List UInt8)) : List (T × T) -> List (List UInt8)
 | [] => []
 | q :: l => jf :: (ex q.1 ++ (xP :: (ac q.2 ++ jl ex ac l)))
theorem lk (ex ac : T -> List (List UInt8)) (ps : List (T × T)) (l : List T) : vu ex ac (xc ps ++ l) = jl ex ac ps ++ vu ex ac l := by
 induction ps with
 | nil => rfl
 | cons q ps ih =>
  show vu ex ac (q.1 :: q.2 :: (xc ps ++ l)) = _
  rw [vu,ih]
  simp [jl,List.append_assoc]
theorem sx (a b : List T) : yM (a ++ b) = max (yM a) (yM b) := by
 induction a with
 | nil => simp [yM]
 | cons t a ih => simp only [List.cons_append,yM,ih]; omega
theorem qt {ps : List (T × T)} {g : Nat} (h : yM (xc ps) <= g) : ∀ q ∈ ps,zA q.1 <= g /\ zA q.2 <= g := by
 induction ps with
 | nil => intro q b; cases b
 | cons p ps ih =>
  simp only [xc,yM] at h; intro q b
  rcases List.mem_cons.1 b with rfl | b
  ·exact ⟨by omega,by omega⟩
  ·exact ih (by omega) q b
theorem dq {n g : Nat} {c a : T} (hc : Rn .exp n c) (ha : ReadsA true n a) (hd : zA c <= g) (hd2 : zA a <= g) {L : List Tok} {i j : Nat} (hw : AtW L i (zh g c ++ (xP :: zK g a))) (hj : j = i + (zh g c ++ (xP :: zK g a)).length) (hs : StopE (wd L j)) : ∃ u v,jK L (yy L n) (vp L n) i = .ok ([u,v],j) /\ Same c u /\ Same a v := by
 obtain ⟨d,b⟩ := AtW.append.1 hw; obtain ⟨b,e⟩ := AtW.cons.1 b; simp only [List.length_append,List.length_cons] at hj; obtain ⟨u,f,h⟩ := uM hc g L _ _ hd d rfl (by rw [b]; exact ko.2.1); obtain ⟨v,l,m⟩ := ha g L _ j (by omega) e (by omega) hs; refine ⟨u,v,?_,h,m⟩
 unfold jK
 rw [P.bind_ok f,P.bind_ok (ya b),P.bind_ok l]
 rfl
theorem qZ {L : List Tok} {n g : Nat} : ∀ (ps : List (T × T)),(∀ q ∈ ps,Rn .exp n q.1) -> (∀ q ∈ ps,ReadsA true n q.2) -> (∀ q ∈ ps,zA q.1 <= g /\ zA q.2 <= g) ->
  ∀ (f : Nat) (acc : List T) (i j : Nat),L.length <= f + i -> AtW L i (jl (zh g) (zK g) ps) -> j = i + (jl (zh g) (zK g) ps).length -> StopE (wd L j) -> wd L j ≠ jf -> ∃ us,xh L (yy L n) (vp L n) f acc i = .ok (acc ++ us,j) /\ SameL (xc ps) us
 | [],_,_,_,f,acc,i,j,hf,hw,hj,hs,hn => by
  have e : j = i := by simpa [jl] using hj
  subst e; have := fT hs.2.1; obtain ⟨g,rfl⟩ : ∃ g,f = g + 1 := ⟨f - 1,by omega⟩; refine ⟨[],?_,.nil⟩; rw [xh,P.bind_ok (uv hn),List.append_nil]
  rfl
 | q :: ps,h1,h2,h3,f,acc,i,j,hf,hw,hj,hs,hn => by
  rw [jl] at hw hj; obtain ⟨w1,w2⟩ := AtW.cons.1 hw
  have e9 : zh g q.1 ++ (xP :: (zK g q.2 ++ jl (zh g) (zK g) ps)) = (zh g q.1 ++ (xP :: zK g q.2)) ++ jl (zh g) (zK g) ps := by simp
  rw [e9] at w2 hj; obtain ⟨w2,w3⟩ := AtW.append.1 w2; rw [List.length_cons,List.length_append] at hj; have hlt := fT (L := L) (i := i) (by rw [w1]; decide); obtain ⟨f,rfl⟩ : ∃ g,f = g + 1 := ⟨f - 1,by omega⟩
  have hnext : StopE (wd L (i + 1 + (zh g q.1 ++ (xP :: zK g q.2)).length)) := by
   cases ps with
   | nil =>
    simp only [jl,List.length_nil,Nat.add_zero] at hj; rw [show i + 1 + (zh g q.1 ++ (xP :: zK g q.2)).length = j by omega]
    exact hs
   | cons r ps =>
    rw [jl] at w3; rw [(AtW.cons.1 w3).1]
    unfold StopE
    decide
  obtain ⟨u,v,b,d,h⟩ := dq (h1 q (by simp)) (h2 q (by simp)) (h3 q (by simp)).1 (h3 q (by simp)).2 w2 rfl hnext; obtain ⟨us,l,m⟩ := qZ ps (fun x hx => h1 x (by simp [hx])) (fun x hx => h2 x (by simp [hx])) (fun x hx => h3 x (by simp [hx])) f (acc ++ [u,v]) _ j (by omega) w3 (by omega) hs hn; refine ⟨u :: v :: us,?_,.cons d (.cons h m)⟩; rw [xh,P.bind_ok (vV w1),if_pos rfl,P.bind_ok b,l]
  simp
theorem aS {n : Nat} {p : Int} {c a : T} {ps : List (T × T)} (hc : Rn .exp n c) (ha : ReadsA true n a) (hpc : ∀ q ∈ ps,Rn .exp n q.1) (hpa : ∀ q ∈ ps,ReadsA true n q.2) : ReadsA false n (.mk 16 [] 0 p (c :: a :: xc ps)) := by
 intro f L i j h l m F; obtain ⟨g,rfl,x⟩ := xZ h; simp only [yM] at x; rw [zdz] at l m; have t := lk (zh g) (zK g) ps []; rw [List.append_nil] at t
 have y : zh g c ++ (xP :: (zK g a ++ (vu (zh g) (zK g) (xc ps) ++ [yD]))) = (zh g c ++ (xP :: zK g a)) ++ (jl (zh g) (zK g) ps ++ [yD]) := by
  rw [t]; simp [vu]
 rw [y] at l m; obtain ⟨o,s⟩ := AtW.cons.1 l; obtain ⟨s,e⟩ := AtW.append.1 s; obtain ⟨e,b⟩ := AtW.append.1 e; obtain ⟨b,-⟩ := AtW.cons.1 b
 have w : StopE yD := by unfold StopE; decide
 have d : StopE (wd L (i + 1 + (zh g c ++ (xP :: zK g a)).length)) := by
  cases ps with
  | nil => simp only [jl,List.length_nil,Nat.add_zero] at b; rw [b]; exact w
  | cons r ps => rw [jl] at e; rw [(AtW.cons.1 e).1]; unfold StopE; decide
 obtain ⟨u,v,z,A,B⟩ := dq hc ha (by omega) (by omega) s rfl d; obtain ⟨C,D,E⟩ := qZ ps hpc hpa (qt (by omega)) L.length [u,v] _ _ (by omega) e rfl (by rw [b]; exact w) (by rw [b]; decide); simp only [List.length_cons,List.length_append,List.length_nil] at m; refine ⟨.mk 16 [] 0 (pos L i) (u :: v :: C),?_,.mk (.cons A (.cons B E)),by rw [o]; decide⟩
 unfold xQ
 rw [if_pos o]
 show P.bind (zx L kIF) _ i = _
 rw [P.bind_ok (ya o),P.bind_ok z,P.bind_ok D,P.bind_ok (uv (by rw [b]; decide)),if_neg (by simp),P.bind_ok (ya b)]; rw [show j = i + 1 + (zh g c ++ (xP :: zK g a)).length + (jl (zh g) (zK g) ps).length + 1 by simp only [List.length_append,List.length_cons]; omega]
 rfl
theorem iF {n : Nat} {p : Int} {c a b : T} {ps : List (T × T)} (hc : Rn .exp n c) (ha : ReadsA true n a) (hpc : ∀ q ∈ ps,Rn .exp n q.1) (hpa : ∀ q ∈ ps,ReadsA true n q.2) (hb : ReadsA true n b) : ReadsA false n (.mk 16 [] 1 p (c :: a :: (xc ps ++ [b]))) := by
 intro f L i j m o s N; obtain ⟨g,rfl,t⟩ := xZ m; simp only [yM] at t; rw [sx] at t; simp only [yM] at t; rw [zdz] at o s
 have B : zh g c ++ (xP :: (zK g a ++ (vu (zh g) (zK g) (xc ps ++ [b]) ++ [yD]))) = (zh g c ++ (xP :: zK g a)) ++ (jl (zh g) (zK g) ps ++ (qM :: (zK g b ++ [yD]))) := by
  rw [lk]; simp [vu]
 rw [B] at o s; obtain ⟨w,x⟩ := AtW.cons.1 o; obtain ⟨x,h⟩ := AtW.append.1 x; obtain ⟨h,d⟩ := AtW.append.1 h; obtain ⟨d,y⟩ := AtW.cons.1 d; obtain ⟨y,l⟩ := AtW.append.1 y; obtain ⟨l,-⟩ := AtW.cons.1 l
 have C : StopE yD := by unfold StopE; decide
 have A : StopE qM := by unfold StopE; decide
 have e : StopE (wd L (i + 1 + (zh g c ++ (xP :: zK g a)).length)) := by
  cases ps with
  | nil => simp only [jl,List.length_nil,Nat.add_zero] at d; rw [d]; exact A
  | cons r ps => rw [jl] at h; rw [(AtW.cons.1 h).1]; unfold StopE; decide
 obtain ⟨u,v,D,E,F⟩ := dq hc ha (by omega) (by omega) x rfl e; obtain ⟨H,I,J⟩ := qZ ps hpc hpa (qt (by omega)) L.length [u,v] _ _ (by omega) h rfl (by rw [d]; exact A) (by rw [d]; decide); obtain ⟨z,K,M⟩ := hb g L _ _ (by omega) y rfl (by rw [l]; exact C); simp only [List.length_cons,List.length_append,List.length_nil] at s; refine ⟨.mk 16 [] 1 (pos L i) (u :: v :: (H ++ [z])),?_,.mk (.cons E (.cons F (J.app (.cons M .nil)))),by rw [w]; decide⟩
 unfold xQ
 rw [if_pos w]
 show P.bind (zx L kIF) _ i = _
 rw [P.bind_ok (ya w),P.bind_ok D,P.bind_ok I,P.bind_ok (vV d),if_pos rfl,P.bind_ok K,P.bind_ok (ya l)]; rw [show j = i + 1 + (zh g c ++ (xP :: zK g a)).length + (jl (zh g) (zK g) ps).length + 1 + (zK g b).length + 1 by simp only [List.length_append,List.length_cons]; omega]
 rfl
theorem mm {L : List Tok} {n g : Nat} : ∀ (l : List T) (t : T),(∀ a ∈ t :: l,ReadsA false n a) -> (∀ a ∈ t :: l,zA a <= g) ->
  ∀ (f : Nat) (acc : List T) (i j : Nat),L.length < f + i -> AtW L i (vq g t ++ xr zE (vq g) l) -> j = i + (vq g t ++ xr zE (vq g) l).length -> StopE (wd L j) -> ∃ us,xa L (yy L n) (vp L n) f acc i = .ok (acc ++ us,j) /\ SameL (t :: l) us
 | l,t,ht,hd,f,acc,i,j,hf,hw,hj,hs => by
  obtain ⟨w1,w2⟩ := AtW.append.1 hw; rw [List.length_append] at hj
  have hnext : StopA (wd L (i + (vq g t).length)) := by
   cases l with
   | nil => simp only [xr,List.length_nil,Nat.add_zero] at hj; rw [<- hj]; exact hs.a
   | cons z l => rw [xr] at w2; rw [(AtW.cons.1 w2).1]; unfold StopA; decide
  obtain ⟨u,h,d,b⟩ := ht t (by simp) g L i _ (hd t (by simp)) w1 rfl hnext; have m := fT (L := L) (i := i) (by intro e; rw [e] at b; revert b; decide); obtain ⟨f,rfl⟩ : ∃ g,f = g + 1 := ⟨f - 1,by omega⟩; rw [xa]
  show ∃ us,P.bind (if yF (wd L i) = true then P.ret acc else (xQ L (yy L n) (vp L n)).bind fun t => P.ret (acc ++ [t])) _ i = _ /\ _
  rw [if_neg (by rw [b]; simp),P.bind_ok (a := acc ++ [u]) (j := i + (vq g t).length) (by rw [P.bind_ok h]; rfl)]; cases l with
  | nil =>
   simp only [xr,List.length_nil,Nat.add_zero] at hj; refine ⟨[u],?_,.cons d .nil⟩; rw [<- hj,P.bind_ok (uv hs.2.2),if_neg (by simp)]
   rfl
  | cons z l =>
   rw [xr] at w2 hj; obtain ⟨w2,o⟩ := AtW.cons.1 w2; rw [List.length_cons] at hj; obtain ⟨us,r,s⟩ := mm l z (fun a ha => ht a (by simp [List.mem_cons.1 ha])) (fun a ha => hd a (by simp [List.mem_cons.1 ha])) f (acc ++ [u]) (i + (vq g t).length + 1) j (by omega) o (by omega) hs; refine ⟨u :: us,?_,.cons d s⟩; rw [P.bind_ok (vV w2),if_pos rfl,r]
   simp
termination_by l => l.length
theorem zei {n : Nat} {p : Int} {l : List T} (h : ∀ a ∈ l,ReadsA false n a) : ReadsA true (n + 1) (.mk 1 [] 0 p l) := by
 intro g L i j f d b m; have o : ∀ a ∈ l,zA a <= g := vv (by rw [zA] at f; omega)
 unfold zK at d b
 have r : (T.mk 1 [] 0 p l).subs = l := rfl
 rw [r] at d b
 show ∃ u,P.bind (xa L (yy L n) (vp L n) (L.length + 1) []) _ i = .ok (u,j) /\ _
 cases l with
 | nil =>
  have e : j = i := by simpa [xi] using b
  subst e; refine ⟨.mk 1 [] 0 (pos L j) [],?_,.leaf⟩
  have s : xa L (yy L n) (vp L n) (L.length + 1) [] j = .ok ([],j) := by
   rw [xa]
   show P.bind (if yF (wd L j) = true then P.ret [] else _) _ j = _
   rw [if_pos m.1,P.bind_ok (a := []) (j := j) rfl,P.bind_ok (uv m.2.2),if_neg (by simp)]
   rfl
  rw [P.bind_ok s]
  rfl
 | cons t l =>
  rw [ge] at d b; obtain ⟨v,w,x⟩ := mm l t h o (L.length + 1) [] i j (by omega) d b m; refine ⟨.mk 1 [] 0 (pos L i) v,?_,.mk x⟩; rw [P.bind_ok w]
  rfl
theorem lW {b : Bool} {n : Nat} {t : T} (h : RA b n t) : ReadsA b n t := by
 induction h with
 | list _ ih => exact zei ih
 | assign hd hk he => exact aT hd hk he
 | call hd hk hl => exact zew hd hk hl
 | choice hc _ hpc _ ih ihp => exact aS hc ih hpc ihp
 | choice1 hc _ hpc _ _ ih ihp ihb => exact iF hc ih hpc ihp ihb
 | «while» hc _ ih => exact za4 hc ih
 | «repeat» hc _ ih => exact ao hc ih
 | ret => exact zhr
 | ret1 he => exact zd7 he
 | builtD hkd hd hk => exact bU hkd hd hk
 | builtE hkd he => exact bP hkd he
mutual
def smT : T -> Prop
 | .mk k _ _ _ l => (24 <= k -> (if k = 36 then 1 else 0) + jp l <= 20) /\ (k < 24 -> smL l)
def smL : List T -> Prop
 | [] => True
 | t :: l => smT t /\ smL l
end
theorem vH {l : List T} {t : T} (h : smL l) (ht : t ∈ l) : smT t := by
 induction l with
 | nil => cases ht
 | cons u l ih =>
  rw [smL] at h
  rcases List.mem_cons.1 ht with rfl | ht
  ·exact h.1
  ·exact ih h.2 ht
theorem zaz {t : T} (h : smT t) (hk : 24 <= t.kind) : yW t <= 20 := by
 obtain ⟨_,_,_,_,_⟩ := t; rw [smT] at h; rw [yW]
 exact h.1 hk
theorem vW {k : Int} {x : List UInt8} {n p : Int} {l : List T} (h : smT (.mk k x n p l)) (hk : k < 24) : smL l := by
 rw [smT] at h
 exact h.2 hk
/-! ### An expression's kind -/
theorem zcc {L : List Tok} {E : P T} : ∀ (f : Nat) {u t : T} {i j : Nat},zt L E f u i = .ok (t,j) -> 24 <= u.kind -> 24 <= t.kind := by
 have d : ∀ {u v : T} {i j : Nat},xH L E u i = .ok (v,j) -> 24 <= v.kind := by
  intro u v i j h
  unfold xH at h
  split at h
  ·obtain ⟨_,m,e,b⟩ := zc h
   obtain ⟨rfl,_⟩ := zk b
   simp [T.kind]
  ·split at h
   ·obtain ⟨_,m,e,b⟩ := zc h
    obtain ⟨_,o,r,g⟩ := zc b; obtain ⟨rfl,_⟩ := zk g
    simp [T.kind]
   ·split at h
    ·cases h; simp [T.kind]
    ·obtain ⟨_,m,e,b⟩ := zc h
     obtain ⟨_,o,r,g⟩ := zc b; obtain ⟨rfl,_⟩ := zk g
     simp [T.kind]
 intro f
 induction f with
 | zero =>
  intro u t i j h l; rw [zt] at h; have h : (if yb (wd L i) = true then (xH L E u).bind (fun _ => vM L) i else .ok (u,i)) = .ok (t,j) := h
  split at h
  ·obtain ⟨_,_,_,b⟩ := zc h
   cases b
  ·cases h; exact l
 | succ f ih =>
  intro u t i j h l; rw [zt] at h; have h : (if yb (wd L i) = true then (xH L E u).bind (fun n' => zt L E f n') i else .ok (u,i)) = .ok (t,j) := h
  split at h
  ·obtain ⟨v,m,e,b⟩ := zc h
   exact ih b (d e)
  ·cases h; exact l
theorem gV {L : List Tok} {E : P T} {t : T} {i j : Nat} (h : zQ L E i = .ok (t,j)) : 24 <= t.kind := by
 obtain ⟨_,_,b,d⟩ := zc h; obtain ⟨_,rfl,rfl⟩ := uH b
 exact zcc 20 d (by simp [T.kind])
theorem gX {L : List Tok} {J : List UInt8 -> Bool} {part : P T} : ∀ (f : Nat) {u t : T} {i j : Nat},yO L J part f u i = .ok (t,j) -> 24 <= u.kind -> 24 <= t.kind
 | 0,u,t,i,j,h,hu => by
  rw [yO] at h; have h : (if J (wd L i) = true then vM L (i + 1) else .ok (u,i)) = .ok (t,j) := h
  split at h
  ·cases h
  ·cases h; exact hu
 | f + 1,u,t,i,j,h,hu => by
  rw [yO] at h; have h : (if J (wd L i) = true then part.bind (fun r => yO L J part f (opT (wd L i) u r)) (i + 1) else .ok (u,i)) = .ok (t,j) := h
  split at h
  ·obtain ⟨_,_,_,h2⟩ := zc h
   exact gX f h2 (by simp [opT,T.kind])
  ·cases h; exact hu
theorem zcw {L : List Tok} {E F : P T} (hE : ∀ i e j,E i = .ok (e,j) -> 24 <= e.kind) {t : T} {i j : Nat} (h : zV L E F i = .ok (t,j)) : 24 <= t.kind := by
 unfold zV at h
 split at h
 ·cases h; simp [T.kind]
 split at h
 ·cases h; simp [T.kind]
 split at h
 ·cases h; simp [T.kind]
 split at h
 ·obtain ⟨_,m,f,b⟩ := zc h
  obtain ⟨rfl,_⟩ := zk b
  simp [T.kind]
 split at h
 ·obtain ⟨e,m,f,b⟩ := zc h
  obtain ⟨_,o,r,g⟩ := zc b; obtain ⟨rfl,_⟩ := zk g
  exact hE _ _ _ f
 split at h
 ·unfold yB at h
  obtain ⟨d,m,f,b⟩ := zc h; have b : (if wd L m = yw then (yS L E).bind (fun l => P.ret (.mk 33 [] 0 d.at' (d :: l))) m else .ok (d,m)) = .ok (t,j) := b
  split at b
  ·obtain ⟨l,o,r,g⟩ := zc b
   obtain ⟨rfl,_⟩ := zk g
   simp [T.kind]
  ·cases b
   exact gV f
 ·obtain ⟨m,_,f,b⟩ := zc h
  obtain ⟨rfl,_⟩ := zk b
  simp [T.kind]
theorem dA {L : List Tok} : ∀ (n : Nat) (i : Nat) (t : T) (j : Nat),yy L n i = .ok (t,j) -> 24 <= t.kind
 | 0,i,t,j,h => by cases h
 | n + 1,i,t,j,h => by
  have hfac : ∀ i t j,kP L n i = .ok (t,j) -> 24 <= t.kind := fun i t j h => zcw (dA n) h
  have hpro : ∀ i t j,jX L n i = .ok (t,j) -> 24 <= t.kind := fun i t j h => by
   obtain ⟨u,m,h1,h2⟩ := zc (show P.bind (kP L n) _ i = .ok (t,j) from h)
   exact gX 20 h2 (hfac _ _ _ h1)
  have hsum : ∀ i t j,kM L n i = .ok (t,j) -> 24 <= t.kind := fun i t j h => by
   obtain ⟨b,m,h1,h2⟩ := zc (show P.bind (yP L vd) _ i = .ok (t,j) from h); obtain ⟨u,m2,h3,h4⟩ := zc (show P.bind (jX L n) _ m = .ok (t,j) from h2); refine gX 20 h4 ?_; cases b with
   | true => simp [T.kind]
   | false => exact hpro _ _ _ h3
  rw [uT] at h; obtain ⟨a,m,h1,h2⟩ := zc (show P.bind (kM L n) _ i = .ok (t,j) from h); have h2 : (if wd L m = kIS then (yu L).bind (fun y => P.ret (.mk 37 [] 0 a.at' [a,y])) (m + 1) else if xE (wd L m) = true then (kM L n).bind (fun b => P.ret (opT (wd L m) a b)) (m + 1) else .ok (a,m)) = .ok (t,j) := h2
  split at h2
  ·obtain ⟨y,m2,h3,h4⟩ := zc h2
   obtain ⟨rfl,_⟩ := zk h4
   simp [T.kind]
  ·split at h2
   ·obtain ⟨b,m2,h3,h4⟩ := zc h2
    obtain ⟨rfl,_⟩ := zk h4
    simp [opT,T.kind]
   ·cases h2
    exact hsum _ _ _ h1
/-! ### Acts -/
section
variable {L : List Tok} {n : Nat} (hN : NumL L)
include hN
theorem qK {i j : Nat} {e : T} (h : yy L n i = .ok (e,j)) (hs : smT e) : Rn .exp n e := (oT hN n).1 i e j h (zaz hs (dA n i e j h))
theorem lB {i j : Nat} {d : T} (h : zQ L (yy L n) i = .ok (d,j)) (hs : smT d) : ∃ k,k <= 20 /\ Rn (.des k) n d := oK (oT hN n).1 h (zaz hs (gV h))
omit hN in
theorem qu {part : P T} {sep : List UInt8} : ∀ (f : Nat) {acc l : List T} {i j : Nat},yG L part sep f acc i = .ok (l,j) -> ∃ r,l = acc ++ r /\ ∀ e ∈ r,∃ i j,part i = .ok (e,j)
 | 0,acc,l,i,j,h => by cases h
 | f + 1,acc,l,i,j,h => by
  rw [yG] at h; obtain ⟨_,_,h1,h2⟩ := zc h
  rcases gG h1 with ⟨rfl,_,rfl⟩ | ⟨rfl,_,rfl⟩
  ·rw [if_pos rfl] at h2
   obtain ⟨v,_,h3,h4⟩ := zc h2; obtain ⟨r,rfl,hr⟩ := qu f h4; refine ⟨v :: r,by simp,fun e he => ?_⟩
   rcases List.mem_cons.1 he with rfl | he
   ·exact ⟨_,_,h3⟩
   ·exact hr e he
  ·rw [if_neg (by simp)] at h2
   obtain ⟨rfl,_⟩ := zk h2
   exact ⟨[],by simp,fun e he => by cases he⟩
omit hN in
theorem jh {part : P T} {sep : List UInt8} {l : List T} {i j : Nat} (h : xF L part sep i = .ok (l,j)) : ∀ e ∈ l,∃ i j,part i = .ok (e,j) := by
 unfold xF at h
 obtain ⟨_,_,_,m⟩ := zc h; obtain ⟨b,o,_,f⟩ := zc m; cases b with
 | true =>
  rw [if_pos rfl] at f; obtain ⟨rfl,_⟩ := zk f; intro e d; cases d
 | false =>
  rw [if_neg (by simp)] at f; obtain ⟨r,s,u,v⟩ := zc f; obtain ⟨_,_,_,w⟩ := zc v; obtain ⟨rfl,_⟩ := zk w; obtain ⟨_,_,x,g⟩ := zc (show P.bind part _ o = .ok (r,s) from u); obtain ⟨_,rfl,y⟩ := qu _ g; intro e d
  rcases List.mem_cons.1 d with rfl | d
  ·exact ⟨_,_,x⟩
  ·exact y e d
variable (hA : ∀ i t j,vp L n i = .ok (t,j) -> smT t -> RA true n t)
include hA
omit hN hA in
theorem fk {E A : P T} {l : List T} {i j : Nat} (h : jK L E A i = .ok (l,j)) : ∃ c a,l = [c,a] /\ (∃ i j,E i = .ok (c,j)) /\ ∃ i j,A i = .ok (a,j) := by
 obtain ⟨c,_,b,d⟩ := zc h; obtain ⟨_,_,_,e⟩ := zc d; obtain ⟨a,_,f,g⟩ := zc e; obtain ⟨rfl,_⟩ := zk g
 exact ⟨c,a,rfl,⟨_,_,b⟩,_,_,f⟩
omit hN hA in
theorem qT {E A : P T} : ∀ (f : Nat) {acc l : List T} {i j : Nat},xh L E A f acc i = .ok (l,j) -> ∃ ps,l = acc ++ xc ps /\ ∀ q ∈ ps,(∃ i j,E i = .ok (q.1,j)) /\ ∃ i j,A i = .ok (q.2,j)
 | 0,acc,l,i,j,h => by cases h
 | f + 1,acc,l,i,j,h => by
  rw [xh] at h; obtain ⟨_,_,h1,h2⟩ := zc h
  rcases gG h1 with ⟨rfl,_,rfl⟩ | ⟨rfl,_,rfl⟩
  ·rw [if_pos rfl] at h2
   obtain ⟨_,_,h3,h4⟩ := zc h2; obtain ⟨c,a,rfl,hc,ha⟩ := fk h3; obtain ⟨ps,rfl,hr⟩ := qT f h4; refine ⟨(c,a) :: ps,by simp [xc],fun e he => ?_⟩
   rcases List.mem_cons.1 he with rfl | he
   ·exact ⟨hc,ha⟩
   ·exact hr e he
  ·rw [if_neg (by simp)] at h2
   obtain ⟨rfl,_⟩ := zk h2
   exact ⟨[],by simp [xc],fun e he => by cases he⟩
omit hN hA in
theorem tM {ps : List (T × T)} {q : T × T} (h : q ∈ ps) : q.1 ∈ xc ps /\ q.2 ∈ xc ps := by
 induction ps with
 | nil => cases h
 | cons r ps ih =>
  rcases List.mem_cons.1 h with rfl | h
  ·simp [xc]
  ·obtain ⟨a,b⟩ := ih h
   simp [xc,a,b]
theorem zec {t : T} {i j : Nat} (h : xQ L (yy L n) (vp L n) i = .ok (t,j)) (hs : smT t) : RA false n t := by
 unfold xQ at h
 split at h
 ·obtain ⟨_,m,_,g⟩ := zc (show P.bind (zx L kIF) _ i = .ok (t,j) from h)
  obtain ⟨l,I,s,u⟩ := zc g; obtain ⟨c,a,rfl,⟨_,_,V⟩,_,_,X⟩ := fk s; obtain ⟨_,N,D,E⟩ := zc u; obtain ⟨K,rfl,y⟩ := qT _ D; obtain ⟨b,Y,M,J⟩ := zc E; cases b with
  | true =>
   rw [if_pos rfl] at J; obtain ⟨z,Z,h9,O⟩ := zc J; obtain ⟨_,m6,_,F⟩ := zc O; obtain ⟨rfl,_⟩ := zk F; have f := vW hs (by omega)
   have R : ([c,a] ++ xc K) ++ [z] = c :: a :: (xc K ++ [z]) := by simp
   rw [R] at f ⊢
   exact .choice1 (qK hN V (vH f (by simp))) (hA _ _ _ X (vH f (by simp)))
    (fun q hq => by obtain ⟨⟨B,C,r⟩,-⟩ := y q hq; exact qK hN r (vH f (by simp [(tM hq).1])))
    (fun q hq => by obtain ⟨-,B,C,r⟩ := y q hq; exact hA _ _ _ r (vH f (by simp [(tM hq).2])))
    (hA _ _ _ h9 (vH f (by simp)))
  | false =>
   rw [if_neg (by simp)] at J; obtain ⟨_,m6,_,F⟩ := zc J; obtain ⟨rfl,_⟩ := zk F; have f := vW hs (by omega)
   have R : [c,a] ++ xc K = c :: a :: xc K := rfl
   rw [R] at f ⊢
   exact .choice (qK hN V (vH f (by simp))) (hA _ _ _ X (vH f (by simp)))
    (fun q hq => by obtain ⟨⟨B,C,r⟩,-⟩ := y q hq; exact qK hN r (vH f (by simp [(tM hq).1])))
    (fun q hq => by obtain ⟨-,B,C,r⟩ := y q hq; exact hA _ _ _ r (vH f (by simp [(tM hq).2])))
 split at h
 ·obtain ⟨_,m,_,g⟩ := zc (show P.bind (zx L ue) _ i = .ok (t,j) from h)
  obtain ⟨c,I,s,u⟩ := zc g; obtain ⟨_,N,_,D⟩ := zc u; obtain ⟨a,Y,E,M⟩ := zc D; obtain ⟨_,Z,_,J⟩ := zc M; obtain ⟨rfl,_⟩ := zk J; have f := vW hs (by omega)
  exact .while (qK hN s (vH f (by simp))) (hA _ _ _ E (vH f (by simp)))
 split at h
 ·obtain ⟨_,m,_,g⟩ := zc (show P.bind (zx L va) _ i = .ok (t,j) from h)
  obtain ⟨a,I,s,u⟩ := zc g; obtain ⟨_,N,_,D⟩ := zc u; obtain ⟨c,Y,E,M⟩ := zc D; obtain ⟨rfl,_⟩ := zk M; have f := vW hs (by omega)
  exact .repeat (qK hN E (vH f (by simp))) (hA _ _ _ s (vH f (by simp)))
 split at h
 ·obtain ⟨_,m,_,g⟩ := zc (show P.bind (zx L xK) _ i = .ok (t,j) from h)
  have g : (if yF (wd L m) = true then .ok (.mk 19 [] 0 (pos L i) [],m) else (yy L n).bind (fun e => P.ret (.mk 19 [] 0 (pos L i) [e])) m) = .ok (t,j) := g
  split at g
  ·cases g; exact .ret
  ·obtain ⟨e,I,s,u⟩ := zc g
   obtain ⟨rfl,_⟩ := zk u; have f := vW hs (by omega)
   exact .ret1 (qK hN s (vH f (by simp)))
 have o : ∀ {k : Int} {w : List UInt8} {v : P T},k < 24 -> vm L k w v i = .ok (t,j) -> ∃ e p,t = .mk k [] 0 p [e] /\ (∃ i j,v i = .ok (e,j)) /\ smT e := by
  intro k w v x h; obtain ⟨_,m,_,g⟩ := zc (show P.bind (zx L w) _ i = .ok (t,j) from h); obtain ⟨_,_,_,s⟩ := zc (show P.bind (zx L yw) _ m = .ok (t,j) from g); obtain ⟨e,I,u,D⟩ := zc s; obtain ⟨_,N,_,E⟩ := zc D; obtain ⟨rfl,_⟩ := zk E
  exact ⟨e,_,rfl,⟨_,_,u⟩,vH (vW hs x) (by simp)⟩
 split at h
 ·obtain ⟨e,p,rfl,⟨B,C,r⟩,H⟩ := o (by omega) h
  obtain ⟨k,x,A⟩ := lB hN r H
  exact .builtD (.inl rfl) A x
 split at h
 ·obtain ⟨e,p,rfl,⟨B,C,r⟩,H⟩ := o (by omega) h
  exact .builtE (.inl rfl) (qK hN r H)
 split at h
 ·obtain ⟨e,p,rfl,⟨B,C,r⟩,H⟩ := o (by omega) h
  obtain ⟨k,x,A⟩ := lB hN r H
  exact .builtD (.inr rfl) A x
 split at h
 ·obtain ⟨e,p,rfl,⟨B,C,r⟩,H⟩ := o (by omega) h
  exact .builtE (.inr rfl) (qK hN r H)
 ·obtain ⟨d,m,U,g⟩ := zc (show P.bind (zQ L (yy L n)) _ i = .ok (t,j) from h)
  have g : (if wd L m = xG then (yy L n).bind (fun e => P.ret (.mk 14 [] 0 (pos L i) [d,e])) (m + 1) else if wd L m = yw then (yS L (yy L n)).bind (fun l => P.ret (.mk 15 [] 0 (pos L i) (d :: l))) m else .ok (.mk 15 [] 0 (pos L i) [d],m)) = .ok (t,j) := g
  split at g
  ·obtain ⟨e,I,s,u⟩ := zc g
   obtain ⟨rfl,_⟩ := zk u; have f := vW hs (by omega); obtain ⟨k,x,A⟩ := lB hN U (vH f (by simp))
   exact .assign A x (qK hN s (vH f (by simp)))
  ·split at g
   ·obtain ⟨l,I,s,u⟩ := zc g
    obtain ⟨rfl,_⟩ := zk u; have f := vW hs (by omega); obtain ⟨k,x,A⟩ := lB hN U (vH f (by simp))
    exact .call A x (fun e he => by obtain ⟨B,C,r⟩ := jh s e he; exact qK hN r (vH f (by simp [he])))
   ·cases g
    have f := vW hs (by omega); obtain ⟨k,x,A⟩ := lB hN U (vH f (by simp))
    exact .call A x (fun e he => by cases he)
omit hN hA in
theorem re {E A : P T} : ∀ (f : Nat) {acc l : List T} {i j : Nat},xa L E A f acc i = .ok (l,j) -> ∃ r,l = acc ++ r /\ ∀ e ∈ r,∃ i j,xQ L E A i = .ok (e,j)
 | 0,acc,l,i,j,h => by cases h
 | f + 1,acc,l,i,j,h => by
  rw [xa] at h; obtain ⟨acc2,_,h1,h2⟩ := zc h
  have h1 : ∃ r,acc2 = acc ++ r /\ ∀ e ∈ r,∃ i j,xQ L E A i = .ok (e,j) := by
   split at h1
   ·obtain ⟨rfl,_⟩ := zk h1
    exact ⟨[],by simp,fun e d => by cases d⟩
   ·obtain ⟨t,v,s,g⟩ := zc h1
    obtain ⟨rfl,_⟩ := zk g
    exact ⟨[t],rfl,fun e d => by cases List.mem_singleton.1 d; exact ⟨_,_,s⟩⟩
  obtain ⟨u,rfl,m⟩ := h1; obtain ⟨b,v,s,g⟩ := zc h2; cases b with
  | true =>
   rw [if_pos rfl] at g; obtain ⟨w,rfl,o⟩ := re f g; refine ⟨u ++ w,by simp,fun e d => ?_⟩
   rcases List.mem_append.1 d with d | d
   ·exact m e d
   ·exact o e d
  | false =>
   rw [if_neg (by simp)] at g; obtain ⟨rfl,_⟩ := zk g
   exact ⟨u,rfl,m⟩
end
theorem oJ {L : List Tok} (hN : NumL L) : ∀ (n : Nat) (i : Nat) (t : T) (j : Nat),vp L n i = .ok (t,j) -> smT t -> RA true n t
 | 0,i,t,j,h,_ => by cases h
 | n + 1,i,t,j,h,hs => by
  obtain ⟨_,_,h1,h2⟩ := zc (show P.bind (xa L (yy L n) (vp L n) (L.length + 1) []) _ i = .ok (t,j) from h); obtain ⟨rfl,_⟩ := zk h2; obtain ⟨_,e1,hr⟩ := re _ h1; rw [List.nil_append] at e1; subst e1; have hl := vW hs (by omega)
  exact .list (fun a ha => by obtain ⟨_,_,k1⟩ := hr a ha; exact zec hN (oJ hN n) k1 (vH hl ha))
def xA (t : T) : List (List UInt8) := if t.num = 1 then [t.name,qz] else [t.name]
def yt (t : T) : List (List UInt8) := xA t ++ (xk :: xX (yo t 0))
def xx (t : T) : List (List UInt8) := (if t.num = 1 then [vE] else []) ++ (t.name :: xk :: xX (yo t 0))
def yT (ws : T -> List (List UInt8)) : List T -> List (List UInt8)
 | [] => []
 | t :: l => ws t ++ yT ws l
def xe (ws : T -> List (List UInt8)) (t : T) : List (List UInt8) := ws t ++ [zE]
def uf (t : T) : List (List UInt8) :=
 if t.kind = 9 then jy :: vy t.num :: kOF :: xX (yo t 0) else
 if t.kind = 12 then vN :: kTO :: xX (yo t 0) else
 vI :: ((if (yo t 0).kind = 0 then [] else yw :: (xX (yo t 0) ++ [xd])) ++ (yT (xe yt) (t.subs.drop 1) ++ [yD]))
def vJ (f : Nat) (t : T) : List (List UInt8) := xA t ++ (qO :: zh f (yo t 0))
def vK (t : T) : List (List UInt8) := xA t ++ (qO :: uf (yo t 0))
def ys (word : List UInt8) (ws : T -> List (List UInt8)) (l : List T) : List (List UInt8) := if l.isEmpty then [] else word :: yT (xe ws) l
def PartZ (L : List Tok) (part : P T) (ws : T -> List (List UInt8)) (St : List UInt8 -> Prop) (e : T) : Prop := ∀ i j,AtW L i (ws e) -> j = i + (ws e).length -> St (wd L j) -> ∃ u,part i = .ok (u,j) /\ Same e u
theorem tJ {L : List Tok} {kind : Int} {x : List UInt8} {m p : Int} {l : List T} {i j : Nat} (hx : zF x = true) (hm : m = 0 \/ m = 1) (hw : AtW L i (xA (.mk kind x m p l))) (hj : j = i + (xA (.mk kind x m p l)).length) (hs : wd L j ≠ qz) : xq L kind i = .ok (.mk kind x m (pos L i) [],j) /\ wd L i = x := by
 rcases hm with rfl | rfl
 ·have e : xA (.mk kind x 0 p l) = [x] := by simp [xA,T.num,T.name]
  rw [e] at hw hj; obtain ⟨b,-⟩ := AtW.cons.1 hw; simp only [List.length_singleton] at hj; subst hj; refine ⟨?_,b⟩
  unfold xq mY
  rw [P.bind_ok (kq (by rw [b]; exact hx)),P.bind_ok (uv hs),b]
  rfl
 ·have e : xA (.mk kind x 1 p l) = [x,qz] := by simp [xA,T.num,T.name]
  rw [e] at hw hj; obtain ⟨b,d⟩ := AtW.cons.1 hw; obtain ⟨d,-⟩ := AtW.cons.1 d; simp only [List.length_cons,List.length_nil] at hj; refine ⟨?_,b⟩
  unfold xq mY
  rw [P.bind_ok (kq (by rw [b]; exact hx)),P.bind_ok (vV d),b,hj]
  rfl
theorem fO {L : List Tok} {k : Int} {x : List UInt8} {m p : Int} {y : T} {l : List T} (hy : TyN y) {i j : Nat} (hw : AtW L i (xk :: xX y)) (hj : j = i + (xk :: xX y).length) (hs : wd L j ≠ vG) : ∃ u,jA L (.mk k x m p l) i = .ok (.mk k x m p [u],j) /\ Same y u := by
 obtain ⟨b,d⟩ := AtW.cons.1 hw; rw [List.length_cons] at hj; obtain ⟨u,e,f⟩ := si (j := j) hy d (by omega) hs; refine ⟨u,?_,f⟩
 unfold jA
 rw [P.bind_ok (ya b),P.bind_ok e]
 rfl
theorem dt {L : List Tok} {part : P T} {ws : T -> List (List UInt8)} : ∀ (l : List T),(∀ e ∈ l,PartZ L part ws (fun w => w = zE) e) -> (∀ e ∈ l,∀ i,AtW L i (ws e) -> zF (wd L i) = true) ->
  ∀ (f : Nat) (acc : List T) (i j : Nat),L.length < f + i -> AtW L i (yT (xe ws) l) -> j = i + (yT (xe ws) l).length -> zF (wd L j) = false -> wd L j ≠ [] -> ∃ us,yR L part f acc i = .ok (acc ++ us,j) /\ SameL l us
 | [],_,_,f,acc,i,j,hf,hw,hj,hn,h0 => by
  have e : j = i := by simpa [yT] using hj
  subst e; have := fT h0; obtain ⟨g,rfl⟩ : ∃ g,f = g + 1 := ⟨f - 1,by omega⟩; refine ⟨[],?_,.nil⟩; rw [yR]
  show (if zF (wd L j) = true then _ else _) = _
  rw [if_neg (by rw [hn]; simp),List.append_nil]
 | e :: l,hp,hb,f,acc,i,j,hf,hw,hj,hn,h0 => by
  rw [yT] at hw hj
  unfold xe at hw hj
  obtain ⟨w1,w2⟩ := AtW.append.1 hw; obtain ⟨w1,w3⟩ := AtW.append.1 w1; obtain ⟨w3,-⟩ := AtW.cons.1 w3; have hname := hb e (by simp) i w1; have hlt := fT (L := L) (i := i) (by intro e9; rw [e9] at hname; revert hname; decide); obtain ⟨f,rfl⟩ : ∃ g,f = g + 1 := ⟨f - 1,by omega⟩; obtain ⟨u,e1,e2⟩ := hp e (by simp) i _ w1 rfl w3; simp only [la,lc,ln] at hj w2; rw [show i + ((ws e).length + (0 + 1)) = i + (ws e).length + 1 by omega] at w2; obtain ⟨us,f1,f2⟩ := dt l (fun x hx => hp x (by simp [hx])) (fun x hx => hb x (by simp [hx])) f (acc ++ [u]) (i + (ws e).length + 1) j (by omega) w2 (by show j = _ + (yT (xe ws) l).length; unfold xe; omega) hn h0; refine ⟨u :: us,?_,.cons e2 f2⟩; rw [yR]
  show (if zF (wd L i) = true then _ else _) = _
  rw [if_pos hname,P.bind_ok e1,P.bind_ok (ya w3),f1]
  simp
theorem qo {L : List Tok} {k : List UInt8} {part : P T} {ws : T -> List (List UInt8)} {q : Int} {l : List T} (hp : ∀ e ∈ l,PartZ L part ws (fun w => w = zE) e) (hb : ∀ e ∈ l,∀ i,AtW L i (ws e) -> zF (wd L i) = true) {i j : Nat} (hw : AtW L i (ys k ws l)) (hj : j = i + (ys k ws l).length) (hn : zF (wd L j) = false) (h0 : wd L j ≠ []) (hk : wd L j ≠ k) : ∃ u,jj L k part i = .ok (u,j) /\ Same (.mk 1 [] 0 q l) u := by
 show ∃ u,P.bind (yP L k) _ i = .ok (u,j) /\ _
 cases l with
 | nil =>
  have e : j = i := by simpa [ys] using hj
  subst e; refine ⟨.mk 1 [] 0 (pos L j) [],?_,.leaf⟩; rw [P.bind_ok (uv hk)]
  rfl
 | cons t l =>
  have e : ys k ws (t :: l) = k :: yT (xe ws) (t :: l) := rfl
  rw [e] at hw hj; obtain ⟨b,d⟩ := AtW.cons.1 hw; rw [List.length_cons] at hj; obtain ⟨f,g,h⟩ := dt (t :: l) hp hb (L.length + 1) [] (i + 1) j (by omega) d (by omega) hn h0; refine ⟨.mk 1 [] 0 (pos L i) f,?_,.mk h⟩; rw [P.bind_ok (vV b)]
  show P.bind (yR L part (L.length + 1) []) _ (i + 1) = _
  rw [P.bind_ok g]
  rfl
/-! ### Declarations -/
inductive VD (kd : Int) : T -> Prop
 | mk {x : List UInt8} {m p : Int} {y : T} (hx : zF x = true) (hm : m = 0 \/ m = 1) (hy : TyN y) : VD kd (.mk kd x m p [y])
inductive VL : T -> Prop
 | mk {x : List UInt8} {p : Int} {y : T} (hx : zF x = true) (hy : TyN y) : VL (.mk 6 x 0 p [y])
inductive CD : T -> Prop
 | mk {x : List UInt8} {m p : Int} {e : T} (hx : zF x = true) (hm : m = 0 \/ m = 1) (he : Rn .exp 20 e) : CD (.mk 4 x m p [e])
inductive BT : T -> Prop
 | none {q : Int} : BT (.mk 0 [] 0 q [])
 | some {y : T} (hy : TyN y) : BT y
inductive TYk : T -> Prop
 | array {m p : Int} {y : T} (h0 : 0 <= m) (h1 : m <= 2147483647) (hy : TyN y) : TYk (.mk 9 [] m p [y])
 | pointer {p : Int} {y : T} (hy : TyN y) : TYk (.mk 12 [] 0 p [y])
 | record {p : Int} {b : T} {l : List T} (hb : BT b) (hl : ∀ e ∈ l,VD 11 e) : TYk (.mk 10 [] 0 p (b :: l))
inductive TD : T -> Prop
 | mk {x : List UInt8} {m p : Int} {y : T} (hx : zF x = true) (hm : m = 0 \/ m = 1) (hy : TYk y) : TD (.mk 5 x m p [y])
theorem gz {L : List Tok} {kind : Int} {x : List UInt8} {m p : Int} {l : List T} {i : Nat} {r : List (List UInt8)} (hx : zF x = true) (hw : AtW L i (xA (.mk kind x m p l) ++ r)) : zF (wd L i) = true := by
 obtain ⟨w,_⟩ := AtW.append.1 hw
 unfold xA at w
 split at w
 ·rw [(AtW.cons.1 w).1]; exact hx
 ·rw [(AtW.cons.1 w).1]; exact hx
theorem fL {L : List Tok} {kd : Int} {e : T} (h : VD kd e) : PartZ L ((xq L kd).bind (jA L)) yt (fun w => w = zE) e /\ ∀ i,AtW L i (yt e) -> zF (wd L i) = true := by
 cases h with
 | @mk x m p y hx hm hy =>
  refine ⟨fun i j hw hj hs => ?_,fun i hw => gz hx hw⟩
  unfold yt at hw hj
  rw [yv] at hw hj; obtain ⟨d,b⟩ := AtW.append.1 hw; rw [List.length_append] at hj; obtain ⟨f,-⟩ := tJ (j := i + (xA (.mk kd x m p [y])).length) hx hm d rfl (by rw [(AtW.cons.1 b).1]; decide); obtain ⟨_,g,n⟩ := fO (k := kd) (x := x) (m := m) (p := pos L i) (l := []) (j := j) hy b (by omega) (by rw [hs]; decide)
  exact ⟨_,by rw [P.bind_ok f,g],.one n⟩
theorem bB {L : List Tok} {e : T} (h : VL e) : PartZ L (kS L) yt (fun w => w = zE) e /\ ∀ i,AtW L i (yt e) -> zF (wd L i) = true := by
 cases h with
 | @mk x p y hx hy =>
  refine ⟨fun i j hw hj hs => ?_,fun i hw => gz hx hw⟩
  have d : yt (.mk 6 x 0 p [y]) = x :: (xk :: xX y) := by simp [yt,xA,T.num,T.name,yv]
  rw [d] at hw hj; obtain ⟨b,f⟩ := AtW.cons.1 hw; rw [List.length_cons] at hj; obtain ⟨u,g,n⟩ := fO (k := 6) (x := x) (m := 0) (p := pos L i) (l := []) (j := j) hy f (by omega) (by rw [hs]; decide); refine ⟨.mk 6 x 0 (pos L i) [u],?_,.one n⟩
  unfold kS
  rw [P.bind_ok (kq (by rw [b]; exact hx)),b,g]
theorem bv {L : List Tok} {f : Nat} {e : T} (h : CD e) (hd : zA e <= f + 1) : PartZ L (uZ L) (vJ f) (fun w => w = zE) e /\ ∀ i,AtW L i (vJ f e) -> zF (wd L i) = true := by
 cases h with
 | @mk x m p y hx hm he =>
  obtain ⟨_,_,_⟩ := vk hd; refine ⟨fun i j hw hj hs => ?_,fun i hw => gz hx hw⟩
  unfold vJ at hw hj
  rw [yv] at hw hj; obtain ⟨d,b⟩ := AtW.append.1 hw; rw [List.length_append,List.length_cons] at hj; obtain ⟨b,g⟩ := AtW.cons.1 b; obtain ⟨l,-⟩ := tJ (j := i + (xA (.mk 4 x m p [y])).length) hx hm d rfl (by rw [b]; decide); obtain ⟨u,n,o⟩ := uM he f L _ j (by omega) g (by omega) (by rw [hs]; unfold Stop0 Stop1 Stop2 Stop3; decide); refine ⟨.mk 4 x m (pos L i) [u],?_,.one o⟩
  unfold uZ
  rw [P.bind_ok l,P.bind_ok (ya b),P.bind_ok n]
  rfl
theorem bG {y : T} (h : TyN y) : y.kind = 13 := by cases h <;> rfl
theorem zey {L : List Tok} {y : T} (h : TYk y) : PartZ L (yh L) uf (fun w => w = zE) y := by
 intro i j x z E; cases h with
 | @array m p y h0 h1 hy =>
  have e : uf (.mk 9 [] m p [y]) = jy :: vy m :: kOF :: xX y := by simp [uf,T.kind,T.num,yv]
  rw [e] at x z; obtain ⟨g,f⟩ := AtW.cons.1 x; obtain ⟨f,n⟩ := AtW.cons.1 f; obtain ⟨n,o⟩ := AtW.cons.1 n; simp only [List.length_cons] at z; obtain ⟨u,r,s⟩ := si (j := j) hy o (by omega) (by rw [E]; decide); refine ⟨.mk 9 [] m (pos L i) [u],?_,.one s⟩
  unfold yh
  rw [if_pos g]
  show P.bind (zx L jy) _ i = _
  have B : qd L (i + 1) = .ok (m,i + 1 + 1) := by unfold qd; rw [f,(hH h0 h1).1]
  rw [P.bind_ok (ya g),P.bind_ok B,P.bind_ok (ya n),P.bind_ok r]
  rfl
 | @pointer p y hy =>
  have e : uf (.mk 12 [] 0 p [y]) = vN :: kTO :: xX y := by simp [uf,T.kind,yv]
  rw [e] at x z; obtain ⟨g,f⟩ := AtW.cons.1 x; obtain ⟨f,n⟩ := AtW.cons.1 f; simp only [List.length_cons] at z; obtain ⟨u,r,s⟩ := si (j := j) hy n (by omega) (by rw [E]; decide); refine ⟨.mk 12 [] 0 (pos L i) [u],?_,.one s⟩
  unfold yh
  rw [if_neg (by rw [g]; decide),if_neg (by rw [g]; decide),if_pos g]
  show P.bind (zx L vN) _ i = _
  rw [P.bind_ok (ya g),P.bind_ok (ya f),P.bind_ok r]
  rfl
 | @record p b l hb hl =>
  have e : uf (.mk 10 [] 0 p (b :: l)) = vI :: ((if b.kind = 0 then [] else yw :: (xX b ++ [xd])) ++ (yT (xe yt) l ++ [yD])) := by simp [uf,T.kind,yv,T.subs]; rfl
  rw [e] at x z; obtain ⟨g,f⟩ := AtW.cons.1 x; obtain ⟨f,n⟩ := AtW.append.1 f; obtain ⟨n,o⟩ := AtW.append.1 n; obtain ⟨o,-⟩ := AtW.cons.1 o; rw [List.length_cons,List.length_append,List.length_append,List.length_singleton] at z
  have d : wd L (i + 1 + (if b.kind = 0 then [] else yw :: (xX b ++ [xd])).length) ≠ yw := by
   cases l with
   | nil => simp only [yT,List.length_nil,Nat.add_zero] at o; rw [o]; decide
   | cons t l =>
    have F := (fL (L := L) (hl t (by simp))).2 _ (AtW.append.1 (AtW.append.1 (by rw [yT] at n; exact n)).1).1; intro B; rw [B] at F
    revert F
    decide
  have v : ∃ u,nY L (i + 1) = .ok (u,i + 1 + (if b.kind = 0 then [] else yw :: (xX b ++ [xd])).length) /\ Same b u := by
   cases hb with
   | @none q =>
    have C : (if (T.mk 0 [] 0 q []).kind = 0 then [] else yw :: (xX (T.mk 0 [] 0 q []) ++ [xd])) = ([] : List (List UInt8)) := by simp [T.kind]
    rw [C] at d ⊢; refine ⟨.mk 0 [] 0 (pos L (i + 1)) [],?_,.leaf⟩
    show P.bind (yP L yw) _ (i + 1) = _
    rw [P.bind_ok (uv (by simpa using d))]
    rfl
   | some hy =>
    have C : (if b.kind = 0 then [] else yw :: (xX b ++ [xd])) = yw :: (xX b ++ [xd]) := by rw [if_neg (by rw [bG hy]; decide)]
    rw [C] at f ⊢; obtain ⟨H,D⟩ := AtW.cons.1 f; obtain ⟨D,A⟩ := AtW.append.1 D; obtain ⟨A,-⟩ := AtW.cons.1 A; obtain ⟨u,r,s⟩ := si hy D rfl (by rw [A]; decide); refine ⟨u,?_,s⟩
    show P.bind (yP L yw) _ (i + 1) = _
    rw [P.bind_ok (vV H)]
    show P.bind (yu L) _ (i + 1 + 1) = _
    rw [P.bind_ok r,P.bind_ok (ya A)]; simp only [List.length_cons,List.length_append,List.length_nil]; rw [show i + 1 + ((xX b).length + (0 + 1) + 1) = i + 1 + 1 + (xX b).length + 1 by omega]
    rfl
  obtain ⟨u,r,s⟩ := v; obtain ⟨I,J,K⟩ := dt (part := du L) l (fun e he => (fL (hl e he)).1) (fun e he => (fL (hl e he)).2) (L.length + 1) [] _ _ (by omega) n rfl (by rw [o]; decide) (by rw [o]; decide); refine ⟨.mk 10 [] 0 (pos L i) (u :: I),?_,.mk (.cons s K)⟩
  unfold yh
  rw [if_neg (by rw [g]; decide),if_pos g]
  show P.bind (zx L vI) _ i = _
  rw [P.bind_ok (ya g),P.bind_ok r,P.bind_ok J,P.bind_ok (ya o)]; rw [show j = i + 1 + (if b.kind = 0 then [] else yw :: (xX b ++ [xd])).length + (yT (xe yt) l).length + 1 by omega]
  rfl
theorem bu {L : List Tok} {e : T} (h : TD e) : PartZ L (uI L) vK (fun w => w = zE) e /\ ∀ i,AtW L i (vK e) -> zF (wd L i) = true := by
 cases h with
 | @mk x m p y hx hm hy =>
  refine ⟨fun i j hw hj hs => ?_,fun i hw => gz hx hw⟩
  unfold vK at hw hj
  rw [yv] at hw hj; obtain ⟨d,b⟩ := AtW.append.1 hw; rw [List.length_append,List.length_cons] at hj; obtain ⟨b,f⟩ := AtW.cons.1 b; obtain ⟨g,-⟩ := tJ (j := i + (xA (.mk 5 x m p [y])).length) hx hm d rfl (by rw [b]; decide); obtain ⟨u,l,n⟩ := zey hy _ j f (by omega) hs; refine ⟨.mk 5 x m (pos L i) [u],?_,.one n⟩
  unfold uI
  rw [P.bind_ok g,P.bind_ok (ya b),P.bind_ok l]
  rfl
inductive PD : T -> Prop
 | mk {x : List UInt8} {m p : Int} {y : T} (hx : zF x = true) (hm : m = 0 \/ m = 1) (hy : TyN y) : PD (.mk 8 x m p [y])
theorem bE {L : List Tok} {e : T} (h : PD e) : PartZ L (vZ L) xx (fun w => w ≠ vG) e /\ ∀ i,AtW L i (xx e) -> wd L i ≠ xd := by
 cases h with
 | @mk x m p y hx hm hy =>
  rcases hm with rfl | rfl
  ·have d : xx (.mk 8 x 0 p [y]) = x :: (xk :: xX y) := by simp [xx,T.num,T.name,yv]
   refine ⟨fun i j hw hj hs => ?_,fun i hw => ?_⟩
   ·rw [d] at hw hj
    obtain ⟨b,f⟩ := AtW.cons.1 hw; rw [List.length_cons] at hj; obtain ⟨u,g,n⟩ := fO (k := 8) (x := x) (m := 0) (p := pos L i) (l := []) (j := j) hy f (by omega) hs; refine ⟨.mk 8 x 0 (pos L i) [u],?_,.one n⟩
    show P.bind (yP L vE) _ i = _
    rw [P.bind_ok (uv (by rw [b]; intro o; subst o; revert hx; decide))]
    show P.bind (uo L) _ i = _
    rw [P.bind_ok (gK (by rw [b]; exact hx)),b]
    exact g
   ·rw [d] at hw
    rw [(AtW.cons.1 hw).1]; intro o; subst o; revert hx; decide
  ·have d : xx (.mk 8 x 1 p [y]) = vE :: x :: (xk :: xX y) := by simp [xx,T.num,T.name,yv]
   refine ⟨fun i j hw hj hs => ?_,fun i hw => ?_⟩
   ·rw [d] at hw hj
    obtain ⟨r,b⟩ := AtW.cons.1 hw; obtain ⟨b,f⟩ := AtW.cons.1 b; rw [List.length_cons,List.length_cons] at hj; obtain ⟨u,g,n⟩ := fO (k := 8) (x := x) (m := 1) (p := pos L i) (l := []) (j := j) hy f (by omega) hs; refine ⟨.mk 8 x 1 (pos L i) [u],?_,.one n⟩
    show P.bind (yP L vE) _ i = _
    rw [P.bind_ok (vV r)]
    show P.bind (uo L) _ (i + 1) = _
    rw [P.bind_ok (gK (by rw [b]; exact hx)),b]
    exact g
   ·rw [d] at hw
    rw [(AtW.cons.1 hw).1]
    decide
theorem nk {L : List Tok} {part : P T} {sep : List UInt8} {ws : T -> List (List UInt8)} {St : List UInt8 -> Prop} (hsep : sep ≠ [] /\ sep ≠ xd) (hst : St sep) (hrp : St xd) {l : List T} (hp : ∀ e ∈ l,PartZ L part ws St e) (hf : ∀ e ∈ l,∀ i,AtW L i (ws e ++ []) -> wd L i ≠ xd) {i j : Nat} (hw : AtW L i (yw :: (xi sep (l.map ws) ++ [xd]))) (hj : j = i + (yw :: (xi sep (l.map ws) ++ [xd])).length) : ∃ us,xF L part sep i = .ok (us,j) /\ SameL l us := by
 obtain ⟨o,g⟩ := AtW.cons.1 hw; obtain ⟨g,d⟩ := AtW.append.1 g; obtain ⟨d,-⟩ := AtW.cons.1 d
 unfold xF
 rw [P.bind_ok (ya o)]; cases l with
 | nil =>
  simp only [List.map_nil,xi,List.length_nil,Nat.add_zero,List.nil_append,List.length_cons] at d hj; refine ⟨[],?_,.nil⟩; rw [P.bind_ok (vV d),if_pos rfl,show j = i + 1 + 1 by omega]
  rfl
 | cons t l =>
  rw [ge] at g d hj; obtain ⟨n,h⟩ := AtW.append.1 g; rw [List.length_append,show ∀ a b c : Nat,a + (b + c) = a + b + c from fun a b c => by omega] at d; simp only [la,lc,ln] at hj
  have f : St (wd L (i + 1 + (ws t).length)) := by
   cases l with
   | nil => simp only [xr,List.length_nil,Nat.add_zero] at d; rw [d]; exact hrp
   | cons z l => rw [xr] at h; rw [(AtW.cons.1 h).1]; exact hst
  obtain ⟨v,r,s⟩ := hp t (by simp) _ _ n rfl f; obtain ⟨us,u,w⟩ := jo (part := part) (ws := ws) (St := St) (sep := sep) hsep.1 hst l (fun e he i j a b c => hp e (by simp [he]) i j a b c) L.length [v] _ _ (by omega) h rfl (by rw [d]; exact hrp) (by rw [d]; exact fun e9 => hsep.2 e9.symm) (by rw [d]; decide); refine ⟨v :: us,?_,.cons s w⟩
  have m : xC L part sep (i + 1) = .ok ([v] ++ us,i + 1 + (ws t).length + (xr sep ws l).length) := by
   unfold xC
   exact (P.bind_ok r).trans u
  rw [P.bind_ok (uv (hf t (by simp) _ (by rw [List.append_nil]; exact n))),if_neg (by simp),P.bind_ok m,P.bind_ok (ya d),show j = i + 1 + (ws t).length + (xr sep ws l).length + 1 by omega]
  rfl
def uE (f : Nat) (t : T) : List (List UInt8) :=
 let ps := (yo t 0).subs
 let r := yo t 1
 yk :: (xA t ++ ((if ps.isEmpty && r.kind == 0 then [] else yw :: (xi zE (ps.map xx) ++ [xd])) ++ ((if r.kind = 0 then [] else xk :: xX r) ++ (zE ::
  (ys vE yt (yo t 2).subs ++ (yZ :: (zK f (yo t 3) ++ [yD,t.name])))))))
inductive PR : T -> Prop
 | mk {x : List UInt8} {m p q1 q2 : Int} {ps vs : List T} {r b : T} (hx : zF x = true) (hm : m = 0 \/ m = 1) (hps : ∀ e ∈ ps,PD e) (hr : BT r) (hvs : ∀ e ∈ vs,VL e) (hb : RA true 20 b) : PR (.mk 7 x m p [.mk 1 [] 0 q1 ps,r,.mk 1 [] 0 q2 vs,b])
theorem nn {r : T} (h : BT r) : r.kind = 0 /\ (∃ q,r = .mk 0 [] 0 q []) \/ r.kind ≠ 0 /\ TyN r := by
 cases h with
 | none => exact .inl ⟨rfl,_,rfl⟩
 | some hy => exact .inr ⟨by rw [bG hy]; decide,hy⟩
theorem bC {L : List Tok} {f : Nat} {e : T} (h : PR e) (hd : zA e <= f + 1) : PartZ L (xv L) (uE f) (fun _ => True) e /\ ∀ i,AtW L i (uE f e) -> wd L i = yk := by
 cases h with
 | @mk x m p q1 q2 ps vs r b hx hm hps hr hvs hb =>
  refine ⟨fun i j hw hj _ => ?_,fun i hw => (AtW.cons.1 hw).1⟩
  have U : zA b <= f := by
   rw [zA] at hd; simp only [yM] at hd
   omega
  have V : uE f (.mk 7 x m p [.mk 1 [] 0 q1 ps,r,.mk 1 [] 0 q2 vs,b]) = yk :: (xA (.mk 7 x m p [.mk 1 [] 0 q1 ps,r,.mk 1 [] 0 q2 vs,b]) ++ ((if ps.isEmpty && r.kind == 0 then [] else yw :: (xi zE (ps.map xx) ++ [xd])) ++ ((if r.kind = 0 then [] else xk :: xX r) ++ (zE ::
   (ys vE yt vs ++ (yZ :: (zK f b ++ [yD,x]))))))) := rfl
  rw [V] at hw hj
  generalize D : xA (.mk 7 x m p [.mk 1 [] 0 q1 ps,r,.mk 1 [] 0 q2 vs,b]) = S at hw hj
  obtain ⟨X,E⟩ := AtW.cons.1 hw; obtain ⟨Y,F⟩ := AtW.append.1 E; obtain ⟨y,H⟩ := AtW.append.1 F; obtain ⟨z,I⟩ := AtW.append.1 H; obtain ⟨d,J⟩ := AtW.cons.1 I; obtain ⟨Z,K⟩ := AtW.append.1 J; obtain ⟨v,M⟩ := AtW.cons.1 K; obtain ⟨w8,N⟩ := AtW.append.1 M; obtain ⟨w9,O⟩ := AtW.cons.1 N; obtain ⟨wA,-⟩ := AtW.cons.1 O; clear hw E F H I J K M N O; simp only [List.length_cons,List.length_append,List.length_nil] at hj
  -- the parameters
  have n : ∃ u,xo L (i + 1 + S.length) = .ok (u,i + 1 + S.length + (if ps.isEmpty && r.kind == 0 then [] else yw :: (xi zE (ps.map xx) ++ [xd])).length) /\ Same (.mk 1 [] 0 q1 ps) u /\ wd L (i + 1 + S.length) ≠ qz := by
   by_cases g : (ps.isEmpty && r.kind == 0) = true
   ·have o : ps = [] := by simp only [Bool.and_eq_true,List.isEmpty_iff] at g; exact g.1
    have A : r.kind = 0 := by simp only [Bool.and_eq_true,beq_iff_eq] at g; exact g.2
    rw [if_pos g] at z d ⊢; rw [if_pos A] at d; simp only [List.length_nil,Nat.add_zero] at d ⊢; subst o; refine ⟨.mk 1 [] 0 (pos L (i + 1 + S.length)) [],?_,.leaf,by rw [d]; decide⟩
    unfold xo
    rw [if_neg (by rw [d]; decide)]
   ·rw [if_neg g] at y ⊢
    obtain ⟨us,f1,f2⟩ := nk (part := vZ L) (ws := xx) (St := fun w => w ≠ vG) (sep := zE) (by decide) (by decide) (by decide) (fun e he => (bE (hps e he)).1) (fun e he i h => (bE (hps e he)).2 i (by rw [List.append_nil] at h; exact h)) y rfl; have R := (AtW.cons.1 y).1; refine ⟨.mk 1 [] 0 (pos L (i + 1 + S.length)) us,?_,.mk f2,by rw [R]; decide⟩
    unfold xo
    rw [if_pos R,P.bind_ok f1]
    rfl
  obtain ⟨u1,e1,e2,B⟩ := n; obtain ⟨eM,-⟩ := tJ (L := L) (kind := 7) (i := i + 1) (j := i + 1 + S.length) (x := x) (m := m) (p := p) (l := [.mk 1 [] 0 q1 ps,r,.mk 1 [] 0 q2 vs,b]) hx hm (by rw [D]; exact Y) (by rw [D]) B
  have s : ∃ u,gw L (i + 1 + S.length + (if ps.isEmpty && r.kind == 0 then [] else yw :: (xi zE (ps.map xx) ++ [xd])).length) = .ok (u,i + 1 + S.length + (if ps.isEmpty && r.kind == 0 then [] else yw :: (xi zE (ps.map xx) ++ [xd])).length + (if r.kind = 0 then [] else xk :: xX r).length) /\ Same r u := by
   rcases nn hr with ⟨C,q,rfl⟩ | ⟨C,hy⟩
   ·rw [if_pos C] at d ⊢
    simp only [List.length_nil,Nat.add_zero] at d ⊢; refine ⟨.mk 0 [] 0 (pos L (i + 1 + S.length + (if ps.isEmpty && (T.mk 0 [] 0 q []).kind == 0 then [] else yw :: (xi zE (ps.map xx) ++ [xd])).length)) [],?_,.leaf⟩
    show P.bind (yP L xk) _ _ = _
    rw [P.bind_ok (uv (by rw [d]; decide))]
    rfl
   ·rw [if_neg C] at z d ⊢
    obtain ⟨v1,v2⟩ := AtW.cons.1 z; rw [List.length_cons] at d ⊢
    obtain ⟨u,k1,k2⟩ := si hy v2 rfl (by
     intro e9
     have h9 : zE = vG := by
      rw [<- d,<- e9]
      congr 1
      omega
     revert h9
     decide)
    refine ⟨u,?_,k2⟩
    show P.bind (yP L xk) _ _ = _
    rw [P.bind_ok (vV v1)]
    show yu L _ = _
    rw [k1]
    show Except.ok _ = Except.ok _
    congr 2
    omega
  obtain ⟨u2,e3,e4⟩ := s; obtain ⟨u3,e5,e6⟩ := qo (q := q2) (part := kS L) (ws := yt) (k := vE) (fun e he => (bB (hvs e he)).1) (fun e he => (bB (hvs e he)).2) Z rfl (by rw [v]; decide) (by rw [v]; decide) (by rw [v]; decide); obtain ⟨u4,e7,e8⟩ := lW hb f L _ _ (by omega) w8 rfl (by rw [w9]; unfold StopE; decide); refine ⟨.mk 7 x m (pos L i) [u1,u2,u3,u4],?_,.mk (.cons e2 (.cons e4 (.cons e6 (.cons e8 .nil))))⟩
  show P.bind (zx L yk) _ i = _
  rw [P.bind_ok (ya X),P.bind_ok eM,P.bind_ok e1,P.bind_ok e3,P.bind_ok (ya d),P.bind_ok e5,P.bind_ok (ya v),P.bind_ok e7]
  show P.bind (uN L x) _ _ = _
  have t : ∀ k,wd L k = yD -> wd L (k + 1) = x -> uN L x k = .ok ((),k + 1 + 1) := fun k a b => by
   unfold uN
   rw [P.bind_ok (ya a),ya b]
  rw [P.bind_ok (t _ w9 wA)]; rw [hj]
  show Except.ok _ = Except.ok _
  congr 2
  omega
theorem pD {L : List Tok} {f : Nat} : ∀ (l : List T),(∀ e ∈ l,PR e) -> (∀ e ∈ l,zA e <= f + 1) ->
  ∀ (fu : Nat) (acc : List T) (i j : Nat),L.length < fu + i -> AtW L i (yT (xe (uE f)) l) -> j = i + (yT (xe (uE f)) l).length -> wd L j ≠ yk -> wd L j ≠ [] -> ∃ us,xb L fu acc i = .ok (acc ++ us,j) /\ SameL l us
 | [],_,_,fu,acc,i,j,hf,hw,hj,hn,h0 => by
  have e : j = i := by simpa [yT] using hj
  subst e; have := fT h0; obtain ⟨g,rfl⟩ : ∃ g,fu = g + 1 := ⟨fu - 1,by omega⟩; refine ⟨[],?_,.nil⟩; rw [xb]
  show (if wd L j = yk then _ else _) = _
  rw [if_neg hn,List.append_nil]
 | e :: l,hp,hd,fu,acc,i,j,hf,hw,hj,hn,h0 => by
  rw [yT] at hw hj
  unfold xe at hw hj
  obtain ⟨w1,w2⟩ := AtW.append.1 hw; obtain ⟨w1,w3⟩ := AtW.append.1 w1; obtain ⟨w3,-⟩ := AtW.cons.1 w3; obtain ⟨hpart,hfirst⟩ := bC (L := L) (hp e (by simp)) (hd e (by simp)); have hw0 := hfirst i w1; have hlt := fT (L := L) (i := i) (by rw [hw0]; decide); obtain ⟨fu,rfl⟩ : ∃ g,fu = g + 1 := ⟨fu - 1,by omega⟩; obtain ⟨u,e1,e2⟩ := hpart i _ w1 rfl trivial; simp only [la,lc,ln] at hj w2; rw [show i + ((uE f e).length + (0 + 1)) = i + (uE f e).length + 1 by omega] at w2; obtain ⟨us,f1,f2⟩ := pD l (fun x hx => hp x (by simp [hx])) (fun x hx => hd x (by simp [hx])) fu (acc ++ [u]) (i + (uE f e).length + 1) j (by omega) w2 (by show j = _ + (yT (xe (uE f)) l).length; unfold xe; omega) hn h0; refine ⟨u :: us,?_,.cons e2 f2⟩; rw [xb]
  show (if wd L i = yk then _ else _) = _
  rw [if_pos hw0,P.bind_ok e1,P.bind_ok (ya w3),f1]
  simp
def xy (l : List T) : List (List UInt8) := if l.isEmpty then [] else uJ :: (xi yq (l.map fun t => [t.name]) ++ [zE])
def qc (f : Nat) (t : T) : List (List UInt8) :=
 jI :: t.name :: zE :: (xy (yo t 0).subs ++ (ys uD (vJ f) (yo t 1).subs ++ (ys jT vK (yo t 2).subs ++ (ys vE yt (yo t 3).subs ++
  (yT (xe (uE f)) (yo t 4).subs ++ ((if (yo t 5).subs.isEmpty then [] else yZ :: zK f (yo t 5)) ++ [yD,t.name,vG]))))))
inductive IM : T -> Prop
 | mk {x : List UInt8} {p : Int} (hx : zF x = true) : IM (.mk 3 x 0 p [])
inductive RM : T -> Prop
 | mk {x : List UInt8} {p q1 q2 q3 q4 q5 : Int} {is cs ts vs ps : List T} {b : T} (hx : zF x = true) (his : ∀ e ∈ is,IM e) (hcs : ∀ e ∈ cs,CD e) (hts : ∀ e ∈ ts,TD e) (hvs : ∀ e ∈ vs,VD 6 e) (hps : ∀ e ∈ ps,PR e) (hb : RA true 20 b) : RM (.mk 2 x 0 p [.mk 1 [] 0 q1 is,.mk 1 [] 0 q2 cs,.mk 1 [] 0 q3 ts,.mk 1 [] 0 q4 vs,.mk 1 [] 0 q5 ps,b])
def S5 : List (List UInt8) := [yZ,yD]
def S4 : List (List UInt8) := yk :: S5
def S3 : List (List UInt8) := vE :: S4
def S2 : List (List UInt8) := jT :: S3
def S1 : List (List UInt8) := uD :: S2
theorem zag : ∀ w ∈ S1,zF w = false /\ w ≠ [] /\ w ≠ uJ := by decide
theorem rU : ∀ w ∈ S2,zF w = false /\ w ≠ [] /\ w ≠ uD := by decide
theorem rS : ∀ w ∈ S3,zF w = false /\ w ≠ [] /\ w ≠ jT := by decide
theorem sE : ∀ w ∈ S4,zF w = false /\ w ≠ [] /\ w ≠ vE := by decide
theorem nM : ∀ w ∈ S5,zF w = false /\ w ≠ [] /\ w ≠ yk := by decide
theorem dc {L : List Tok} {k : List UInt8} {ws : T -> List (List UInt8)} {l : List T} {i : Nat} {S : List (List UInt8)} (hw : AtW L i (ys k ws l)) (hn : wd L (i + (ys k ws l).length) ∈ S) : wd L i ∈ k :: S := by
 cases l with
 | nil => exact List.mem_cons_of_mem _ (by simpa [ys] using hn)
 | cons t l =>
  have e : ys k ws (t :: l) = k :: yT (xe ws) (t :: l) := rfl
  rw [e] at hw; rw [(AtW.cons.1 hw).1]
  exact List.mem_cons_self
theorem iG {L : List Tok} {q : Int} {l : List T} (hl : ∀ e ∈ l,IM e) {i j : Nat} (hw : AtW L i (xy l)) (hj : j = i + (xy l).length) (hs : wd L j ≠ uJ) : ∃ u,qb L i = .ok (u,j) /\ Same (.mk 1 [] 0 q l) u := by
 show ∃ u,P.bind (yP L uJ) _ i = .ok (u,j) /\ _
 cases l with
 | nil =>
  have e : j = i := by simpa [xy] using hj
  subst e; refine ⟨.mk 1 [] 0 (pos L j) [],?_,.leaf⟩; rw [P.bind_ok (uv hs)]
  rfl
 | cons t l =>
  have e : xy (t :: l) = uJ :: (xi yq ((t :: l).map fun t => [t.name]) ++ [zE]) := rfl
  rw [e,ge] at hw hj; obtain ⟨r,h⟩ := AtW.cons.1 hw; obtain ⟨h,s⟩ := AtW.append.1 h; obtain ⟨f,-⟩ := AtW.cons.1 s; obtain ⟨w,n⟩ := AtW.append.1 h; rw [List.length_append,show ∀ a b c : Nat,a + (b + c) = a + b + c from fun a b c => by omega] at f; simp only [la,lc,ln] at hj f n
  have d : ∀ e ∈ t :: l,PartZ L (vj L 3) (fun t => [t.name]) (fun _ => True) e := fun e he i j hw hj _ => by
   cases hl e he with
   | @mk x p hx =>
    obtain ⟨g,-⟩ := AtW.cons.1 hw; have g : wd L i = x := g; simp only [List.length_singleton] at hj; subst hj
    exact ⟨_,kq (by rw [g]; exact hx),by rw [g]; exact .leaf⟩
  obtain ⟨v,y,z⟩ := d t (by simp) _ _ w rfl trivial; obtain ⟨o,A,B⟩ := jo (part := vj L 3) (ws := fun t => [t.name]) (St := fun _ => True) (sep := yq) (by decide) trivial l (fun e he i j a b c => d e (by simp [he]) i j a b c) L.length [v] (i + 1 + 1) _ (by omega) n rfl trivial (by rw [f]; decide) (by rw [f]; decide)
  have m : xC L (vj L 3) yq (i + 1) = .ok ([v] ++ o,i + 1 + 1 + (xr yq (fun t => [t.name]) l).length) := by
   unfold xC
   exact (P.bind_ok y).trans A
  refine ⟨.mk 1 [] 0 (pos L i) (v :: o),?_,.mk (.cons z B)⟩; rw [P.bind_ok (vV r)]
  show P.bind (xC L (vj L 3) yq) _ (i + 1) = _
  rw [P.bind_ok m,P.bind_ok (ya f),show j = i + 1 + 1 + (xr yq (fun t => [t.name]) l).length + 1 by omega]
  rfl
theorem iJ {n : Nat} {b : T} (h : RA true n b) : ∃ q l,b = .mk 1 [] 0 q l := by cases h; exact ⟨_,_,rfl⟩
theorem zd9 {L : List Tok} {f : Nat} {b : T} (hb : RA true 20 b) (hd : zA b <= f + 1) {i j : Nat} (hw : AtW L i (if b.subs.isEmpty then [] else yZ :: zK f b)) (hj : j = i + (if b.subs.isEmpty then [] else yZ :: zK f b).length) (hs : wd L j = yD) : ∃ u,zbw L i = .ok (u,j) /\ Same b u := by
 show ∃ u,P.bind (yP L yZ) _ i = .ok (u,j) /\ _
 by_cases d : b.subs.isEmpty = true
 ·rw [if_pos d] at hj
  have e : j = i := by simpa using hj
  subst e; obtain ⟨_,l,rfl⟩ := iJ hb
  have g : l = [] := by simpa [T.subs,List.isEmpty_iff] using d
  subst g; refine ⟨.mk 1 [] 0 (pos L j) [],?_,.leaf⟩; rw [P.bind_ok (uv (by rw [hs]; decide))]
  rfl
 ·rw [if_neg d] at hw hj
  obtain ⟨h,m⟩ := AtW.cons.1 hw; rw [List.length_cons] at hj; obtain ⟨u,n,o⟩ := lW hb f L _ j hd m (by omega) (by rw [hs]; unfold StopE; decide); refine ⟨u,?_,o⟩; rw [P.bind_ok (vV h)]
  exact n
theorem zca {t : T} (h : RM t) {f : Nat} (hd : zA t <= f + 1) {L : List Tok} {i j : Nat} (hw : AtW L i (qc f t)) (hj : j = i + (qc f t).length) (hs : wd L j = []) : ∃ u,vr L i = .ok (u,j) /\ Same t u := by
 cases h with
 | @mk x p q1 q2 q3 q4 q5 is cs ts vs ps b hx his hcs hts hvs hps hb =>
  have e0 : qc f (.mk 2 x 0 p [.mk 1 [] 0 q1 is,.mk 1 [] 0 q2 cs,.mk 1 [] 0 q3 ts,.mk 1 [] 0 q4 vs,.mk 1 [] 0 q5 ps,b]) = jI :: x :: zE :: (xy is ++ (ys uD (vJ f) cs ++ (ys jT vK ts ++ (ys vE yt vs ++
   (yT (xe (uE f)) ps ++ ((if b.subs.isEmpty then [] else yZ :: zK f b) ++ [yD,x,vG])))))) := rfl
  rw [e0] at hw hj
  have d : yM cs <= f /\ yM ps <= f /\ zA b <= f := by
   simp only [zA,yM] at hd; refine ⟨by omega,by omega,by omega⟩
  obtain ⟨w1,C⟩ := AtW.cons.1 hw; obtain ⟨D,E⟩ := AtW.cons.1 C; obtain ⟨w3,F⟩ := AtW.cons.1 E; obtain ⟨w4,H⟩ := AtW.append.1 F; obtain ⟨I,J⟩ := AtW.append.1 H; obtain ⟨K,M⟩ := AtW.append.1 J; obtain ⟨N,O⟩ := AtW.append.1 M; obtain ⟨y,R⟩ := AtW.append.1 O; obtain ⟨w9,U⟩ := AtW.append.1 R; obtain ⟨n,V⟩ := AtW.cons.1 U; obtain ⟨wB,X⟩ := AtW.cons.1 V; obtain ⟨wC,-⟩ := AtW.cons.1 X; clear hw C E F H J M O R U V X; simp only [List.length_cons,List.length_append,List.length_nil] at hj
  generalize m : (if b.subs.isEmpty then [] else yZ :: zK f b) = BD at *
  have A : wd L (i + 1 + 1 + 1 + (xy is).length + (ys uD (vJ f) cs).length + (ys jT vK ts).length + (ys vE yt vs).length + (yT (xe (uE f)) ps).length) ∈ S5 := by
   rw [<- m] at w9 n
   by_cases Y : b.subs.isEmpty = true
   ·rw [if_pos Y] at n
    simp only [List.length_nil,Nat.add_zero] at n; rw [n]; decide
   ·rw [if_neg Y] at w9
    rw [(AtW.cons.1 w9).1]; decide
  have s : wd L (i + 1 + 1 + 1 + (xy is).length + (ys uD (vJ f) cs).length + (ys jT vK ts).length + (ys vE yt vs).length) ∈ S4 := by
   cases ps with
   | nil => exact List.mem_cons_of_mem _ (by simpa [yT] using A)
   | cons z ps =>
    rw [yT] at y; have h9 := (bC (L := L) (f := f) (hps z (by simp)) (by have := vv d.2.1 z (by simp); omega)).2 _ (AtW.append.1 (AtW.append.1 y).1).1; rw [h9]
    exact List.mem_cons_self
  have v := dc N s; have w := dc K v; have n1 := dc I w; obtain ⟨Z,a1,b1⟩ := iG (q := q1) his w4 rfl (zag _ n1).2.2; obtain ⟨u2,a2,b2⟩ := qo (q := q2) (part := uZ L) (ws := vJ f) (k := uD) (fun e he => (bv (hcs e he) (by have := vv d.1 e he; omega)).1) (fun e he => (bv (hcs e he) (by have := vv d.1 e he; omega)).2) I rfl (rU _ w).1 (rU _ w).2.1 (rU _ w).2.2; obtain ⟨u3,a3,b3⟩ := qo (q := q3) (part := uI L) (ws := vK) (k := jT) (fun e he => (bu (hts e he)).1) (fun e he => (bu (hts e he)).2) K rfl (rS _ v).1 (rS _ v).2.1 (rS _ v).2.2; obtain ⟨u4,a4,b4⟩ := qo (q := q4) (part := kg L) (ws := yt) (k := vE) (fun e he => (fL (hvs e he)).1) (fun e he => (fL (hvs e he)).2) N rfl (sE _ s).1 (sE _ s).2.1 (sE _ s).2.2; obtain ⟨B,a5,b5⟩ := pD ps hps (fun e he => by have := vv d.2.1 e he; omega) (L.length + 1) [] _ _ (by omega) y rfl (nM _ A).2.2 (nM _ A).2.1; rw [<- m] at w9; obtain ⟨u6,a6,b6⟩ := zd9 (f := f) hb (by omega) w9 (by rw [m]) n
  have o : ∀ k,wd L k = yD -> wd L (k + 1) = x -> uN L x k = .ok ((),k + 1 + 1) := fun k a b => by
   unfold uN
   rw [P.bind_ok (ya a),ya b]
  have g : vQ L (i + 1 + 1 + 1 + (xy is).length + (ys uD (vJ f) cs).length + (ys jT vK ts).length + (ys vE yt vs).length) = .ok (.mk 1 [] 0 (pos L (i + 1 + 1 + 1 + (xy is).length + (ys uD (vJ f) cs).length + (ys jT vK ts).length + (ys vE yt vs).length)) B,i + 1 + 1 + 1 + (xy is).length + (ys uD (vJ f) cs).length + (ys jT vK ts).length + (ys vE yt vs).length + (yT (xe (uE f)) ps).length) := by
   show P.bind (xb L (L.length + 1) []) _ _ = _
   rw [P.bind_ok a5]
   rfl
  have r : gH L i = .ok (.mk 2 x 0 (pos L i) [Z,u2,u3,u4,.mk 1 [] 0 (pos L (i + 1 + 1 + 1 + (xy is).length + (ys uD (vJ f) cs).length + (ys jT vK ts).length + (ys vE yt vs).length)) B,u6],j) := by
   show P.bind (zx L jI) _ i = _
   rw [P.bind_ok (ya w1),P.bind_ok (gK (by rw [D]; exact hx)),D,P.bind_ok (ya w3),P.bind_ok a1,P.bind_ok a2,P.bind_ok a3,P.bind_ok a4,P.bind_ok g,P.bind_ok a6,P.bind_ok (o _ n wB),P.bind_ok (ya wC)]; rw [hj]
   show Except.ok _ = Except.ok _
   congr 2
   omega
  have l : vr L i = .ok (.mk 2 x 0 (pos L i) [Z,u2,u3,u4,.mk 1 [] 0 (pos L (i + 1 + 1 + 1 + (xy is).length + (ys uD (vJ f) cs).length + (ys jT vK ts).length + (ys vE yt vs).length)) B,u6],j) := by
   unfold vr
   rw [P.bind_ok r,if_pos hs]
  exact ⟨_,l,.mk (.cons b1 (.cons b2 (.cons b3 (.cons b4 (.cons (.mk b5) (.cons b6 .nil))))))⟩
section
variable {L : List Tok}
theorem dH {part : P T} : ∀ (f : Nat) {acc l : List T} {i j : Nat},yR L part f acc i = .ok (l,j) -> ∃ r,l = acc ++ r /\ ∀ e ∈ r,∃ i j,part i = .ok (e,j)
 | 0,acc,l,i,j,h => by cases h
 | f + 1,acc,l,i,j,h => by
  rw [yR] at h; have h : (if zF (wd L i) = true then part.bind (fun t => (zx L zE).bind fun _ => yR L part f (acc ++ [t])) i else .ok (acc,i)) = .ok (l,j) := h
  split at h
  ·obtain ⟨t,_,h1,h2⟩ := zc h
   obtain ⟨_,_,_,h3⟩ := zc h2; obtain ⟨r,rfl,hr⟩ := dH f h3; refine ⟨t :: r,by simp,fun e he => ?_⟩
   rcases List.mem_cons.1 he with rfl | he
   ·exact ⟨_,_,h1⟩
   ·exact hr e he
  ·cases h
   exact ⟨[],by simp,fun e he => by cases he⟩
theorem dJ : ∀ (f : Nat) {acc l : List T} {i j : Nat},xb L f acc i = .ok (l,j) -> ∃ r,l = acc ++ r /\ ∀ e ∈ r,∃ i j,xv L i = .ok (e,j)
 | 0,acc,l,i,j,h => by cases h
 | f + 1,acc,l,i,j,h => by
  rw [xb] at h; have h : (if wd L i = yk then (xv L).bind (fun t => (zx L zE).bind fun _ => xb L f (acc ++ [t])) i else .ok (acc,i)) = .ok (l,j) := h
  split at h
  ·obtain ⟨t,_,h1,h2⟩ := zc h
   obtain ⟨_,_,_,h3⟩ := zc h2; obtain ⟨r,rfl,hr⟩ := dJ f h3; refine ⟨t :: r,by simp,fun e he => ?_⟩
   rcases List.mem_cons.1 he with rfl | he
   ·exact ⟨_,_,h1⟩
   ·exact hr e he
  ·cases h
   exact ⟨[],by simp,fun e he => by cases he⟩
theorem vS {k : List UInt8} {part : P T} {t : T} {i j : Nat} (h : jj L k part i = .ok (t,j)) : ∃ q l,t = .mk 1 [] 0 q l /\ ∀ e ∈ l,∃ i j,part i = .ok (e,j) := by
 obtain ⟨b,m,_,d⟩ := zc (show P.bind (yP L k) _ i = .ok (t,j) from h); cases b with
 | true =>
  obtain ⟨l,_,g,n⟩ := zc (show P.bind (yR L part (L.length + 1) []) _ m = .ok (t,j) from d); obtain ⟨rfl,_⟩ := zk n; obtain ⟨_,f,o⟩ := dH _ g; rw [List.nil_append] at f; subst f
  exact ⟨_,_,rfl,o⟩
 | false =>
  obtain ⟨rfl,_⟩ := zk (show P.ret _ m = .ok (t,j) from d)
  exact ⟨_,_,rfl,fun e he => by cases he⟩
theorem jx {kind : Int} {t : T} {i j : Nat} (h : xq L kind i = .ok (t,j)) : ∃ x m p,t = .mk kind x m p [] /\ zF x = true /\ (m = 0 \/ m = 1) := by
 obtain ⟨_,m,e,f⟩ := zc h; obtain ⟨d,rfl,rfl⟩ := uH e; obtain ⟨b,_,_,g⟩ := zc f; obtain ⟨rfl,_⟩ := zk g; cases b with
 | true => exact ⟨_,_,_,rfl,d,.inr rfl⟩
 | false => exact ⟨_,_,_,rfl,d,.inl rfl⟩
theorem dp {k : Int} {x : List UInt8} {m p : Int} {l : List T} {t : T} {i j : Nat} (h : jA L (.mk k x m p l) i = .ok (t,j)) : ∃ y,t = .mk k x m p [y] /\ TyN y := by
 obtain ⟨_,m,_,b⟩ := zc h; obtain ⟨y,_,d,e⟩ := zc b; obtain ⟨rfl,_⟩ := zk e
 exact ⟨y,rfl,gs d⟩
theorem iU {kd : Int} {t : T} {i j : Nat} (h : P.bind (xq L kd) (jA L) i = .ok (t,j)) : VD kd t := by
 obtain ⟨_,_,b,d⟩ := zc h; obtain ⟨_,_,_,rfl,e,f⟩ := jx b; obtain ⟨_,rfl,g⟩ := dp d
 exact .mk e f g
theorem zc4 {t : T} {i j : Nat} (h : kS L i = .ok (t,j)) : VL t := by
 obtain ⟨_,_,b,d⟩ := zc h; obtain ⟨e,rfl,rfl⟩ := uH b; obtain ⟨_,rfl,f⟩ := dp d
 exact .mk e f
theorem zhj (hN : NumL L) {t : T} {i j : Nat} (h : uZ L i = .ok (t,j)) (hs : smT t) : CD t := by
 obtain ⟨_,_,b,d⟩ := zc h; obtain ⟨_,_,_,rfl,e,f⟩ := jx b; obtain ⟨_,_,_,g⟩ := zc d; obtain ⟨_,_,l,m⟩ := zc g; obtain ⟨rfl,_⟩ := zk m
 exact .mk e f (qK hN l (vH (vW hs (by omega)) (by simp)))
theorem zhf {t : T} {i j : Nat} (h : nY L i = .ok (t,j)) : BT t := by
 obtain ⟨b,m,_,d⟩ := zc (show P.bind (yP L yw) _ i = .ok (t,j) from h); cases b with
 | true =>
  obtain ⟨_,_,e,f⟩ := zc (show P.bind (yu L) _ m = .ok (t,j) from d); obtain ⟨_,_,_,g⟩ := zc f; obtain ⟨rfl,_⟩ := zk g
  exact .some (gs e)
 | false =>
  obtain ⟨rfl,_⟩ := zk (show P.ret _ m = .ok (t,j) from d)
  exact .none
theorem cU {t : T} {i j : Nat} (h : gw L i = .ok (t,j)) : BT t := by
 obtain ⟨b,m,_,d⟩ := zc (show P.bind (yP L xk) _ i = .ok (t,j) from h); cases b with
 | true => exact .some (gs (show yu L m = .ok (t,j) from d))
 | false =>
  obtain ⟨rfl,_⟩ := zk (show P.ret _ m = .ok (t,j) from d)
  exact .none
theorem zeg (hN : NumL L) {n : Int} {i j : Nat} (h : qd L i = .ok (n,j)) : 0 <= n /\ n <= 2147483647 := by
 unfold qd at h
 split at h
 ·rename_i q hq
  cases h
  exact hN _ _ hq
 ·cases h
theorem zgm (hN : NumL L) {t : T} {i j : Nat} (h : yh L i = .ok (t,j)) : TYk t := by
 unfold yh at h
 split at h
 ·obtain ⟨_,m,_,b⟩ := zc (show P.bind (zx L jy) _ i = .ok (t,j) from h)
  obtain ⟨_,o,d,l⟩ := zc b; obtain ⟨_,u,_,n⟩ := zc l; obtain ⟨y,r,f,g⟩ := zc n; obtain ⟨rfl,_⟩ := zk g; obtain ⟨v,w⟩ := zeg hN d
  exact .array v w (gs f)
 split at h
 ·obtain ⟨_,m,_,b⟩ := zc (show P.bind (zx L vI) _ i = .ok (t,j) from h)
  obtain ⟨_,o,d,l⟩ := zc b; obtain ⟨_,u,n,f⟩ := zc l; obtain ⟨_,r,_,g⟩ := zc f; obtain ⟨rfl,_⟩ := zk g; obtain ⟨_,s,x⟩ := dH _ n; rw [List.nil_append] at s; subst s
  exact .record (zhf d) (fun e he => by obtain ⟨_,_,z⟩ := x e he; exact iU z)
 split at h
 ·obtain ⟨_,m,_,b⟩ := zc (show P.bind (zx L vN) _ i = .ok (t,j) from h)
  obtain ⟨_,o,_,d⟩ := zc b; obtain ⟨y,r,f,g⟩ := zc d; obtain ⟨rfl,_⟩ := zk g
  exact .pointer (gs f)
 ·cases h
theorem zcr (hN : NumL L) {t : T} {i j : Nat} (h : uI L i = .ok (t,j)) : TD t := by
 obtain ⟨_,_,b,d⟩ := zc h; obtain ⟨_,_,_,rfl,e,f⟩ := jx b; obtain ⟨_,_,_,g⟩ := zc d; obtain ⟨_,_,l,m⟩ := zc g; obtain ⟨rfl,_⟩ := zk m
 exact .mk e f (zgm hN l)
theorem zbg {t : T} {i j : Nat} (h : vZ L i = .ok (t,j)) : PD t := by
 obtain ⟨b,m,_,d⟩ := zc (show P.bind (yP L vE) _ i = .ok (t,j) from h); obtain ⟨_,_,e,f⟩ := zc (show P.bind (uo L) _ m = .ok (t,j) from d); obtain ⟨g,_,_⟩ := jU e; obtain ⟨_,rfl,l⟩ := dp f; refine .mk g ?_ l; cases b with
 | true => exact .inr rfl
 | false => exact .inl rfl
theorem zht (hN : NumL L) {t : T} {i j : Nat} (h : xv L i = .ok (t,j)) (hs : smT t) : PR t := by
 obtain ⟨_,m,_,n⟩ := zc (show P.bind (zx L yk) _ i = .ok (t,j) from h); obtain ⟨_,_,o,r⟩ := zc n; obtain ⟨x,_,_,rfl,s,u⟩ := jx o; obtain ⟨v,_,d,w⟩ := zc r; obtain ⟨_,_,y,z⟩ := zc w; obtain ⟨_,_,_,A⟩ := zc z; obtain ⟨_,_,B,C⟩ := zc A; obtain ⟨_,_,_,D⟩ := zc C; obtain ⟨_,E,F,H⟩ := zc D; obtain ⟨_,_,_,I⟩ := zc (show P.bind (uN L x) _ E = .ok (t,j) from H); obtain ⟨rfl,_⟩ := zk I; have J := vW hs (by omega)
 have b : ∃ q l,v = .mk 1 [] 0 q l /\ ∀ e ∈ l,PD e := by
  unfold xo at d
  split at d
  ·obtain ⟨l,R,K,M⟩ := zc d
   obtain ⟨rfl,_⟩ := zk M
   exact ⟨_,_,rfl,fun e he => by obtain ⟨N,O,f⟩ := jh K e he; exact zbg f⟩
  ·cases d
   exact ⟨_,_,rfl,fun e he => by cases he⟩
 obtain ⟨_,_,rfl,b⟩ := b; obtain ⟨_,_,rfl,g⟩ := vS B
 exact .mk s u b (cU y) (fun e he => by obtain ⟨N,O,f⟩ := g e he; exact zc4 f) (oJ hN 20 _ _ _ F (vH J (by simp)))
theorem zbv {t : T} {i j : Nat} (h : qb L i = .ok (t,j)) : ∃ q l,t = .mk 1 [] 0 q l /\ ∀ e ∈ l,IM e := by
 obtain ⟨b,m,_,g⟩ := zc (show P.bind (yP L uJ) _ i = .ok (t,j) from h); cases b with
 | true =>
  obtain ⟨l,o,r,s⟩ := zc (show P.bind (xC L (vj L 3) yq) _ m = .ok (t,j) from g); obtain ⟨_,_,_,u⟩ := zc s; obtain ⟨rfl,_⟩ := zk u; obtain ⟨_,_,v,f⟩ := zc (show P.bind (vj L 3) _ m = .ok (l,o) from r); obtain ⟨_,rfl,w⟩ := qu _ f; refine ⟨_,_,rfl,fun e d => ?_⟩
  have n : ∀ {i j : Nat} {e : T},vj L 3 i = .ok (e,j) -> IM e := fun h => by
   obtain ⟨x,rfl,_⟩ := uH h
   exact .mk x
  rcases List.mem_cons.1 d with rfl | d
  ·exact n v
  ·obtain ⟨_,_,y⟩ := w e d
   exact n y
 | false =>
  obtain ⟨rfl,_⟩ := zk (show P.ret _ m = .ok (t,j) from g)
  exact ⟨_,_,rfl,fun e d => by cases d⟩
theorem ns (hN : NumL L) {t : T} {i j : Nat} (h : vr L i = .ok (t,j)) (hs : smT t) : RM t := by
 obtain ⟨C,l,D,f⟩ := zc h; have f : (if wd L l = [] then .ok (C,l) else .error (xw L l)) = Except.ok (t,j) := f
 split at f
 ·cases f
  obtain ⟨_,m,_,E⟩ := zc (show P.bind (zx L jI) _ i = .ok (t,j) from D); obtain ⟨_,_,F,H⟩ := zc E; obtain ⟨I,_,_⟩ := jU F; obtain ⟨_,_,_,J⟩ := zc H; obtain ⟨_,_,K,M⟩ := zc J; obtain ⟨_,_,N,O⟩ := zc M; obtain ⟨_,_,R,U⟩ := zc O; obtain ⟨_,y,V,X⟩ := zc U; obtain ⟨Y,z,Z,hB⟩ := zc X; obtain ⟨g,n,k6,hC⟩ := zc hB; obtain ⟨_,_,_,hD⟩ := zc hC; obtain ⟨_,_,_,hE⟩ := zc hD; obtain ⟨rfl,_⟩ := zk hE; have o := vW hs (by omega); obtain ⟨_,_,rfl,r⟩ := zbv K; obtain ⟨q2,l2,rfl,s⟩ := vS N; obtain ⟨_,_,rfl,u⟩ := vS R; obtain ⟨_,_,rfl,v⟩ := vS V; obtain ⟨l5,m',g1,g2⟩ := zc (show P.bind (xb L (L.length + 1) []) _ y = .ok (Y,z) from Z); obtain ⟨rfl,_⟩ := zk g2; obtain ⟨_,A,hr⟩ := dJ _ g1; rw [List.nil_append] at A; subst A
  have hb : RA true 20 g := by
   obtain ⟨b,m,_,B⟩ := zc (show P.bind (yP L yZ) _ z = .ok (g,n) from k6); cases b with
   | true => exact oJ hN 20 _ _ _ (show vp L 20 m = .ok (g,n) from B) (vH o (by simp))
   | false =>
    obtain ⟨rfl,_⟩ := zk (show P.ret _ m = .ok (g,n) from B)
    exact .list (fun a ha => by cases ha)
  refine .mk I r (fun e he => ?_) (fun e he => ?_) (fun e he => ?_) (fun e he => ?_) hb
  ·obtain ⟨w,x,d⟩ := s e he
   exact zhj hN d (vH (vW (vH o (by simp : (T.mk 1 [] 0 q2 l2) ∈ _)) (by omega)) he)
  ·obtain ⟨w,x,d⟩ := u e he
   exact zcr hN d
  ·obtain ⟨w,x,d⟩ := v e he
   exact iU d
  ·obtain ⟨w,x,d⟩ := hr e he
   exact zht hN d (vH (vW (vH o (by simp : (T.mk 1 [] 0 (pos L y) l5) ∈ _)) (by omega)) he)
 ·cases f
end
def Lx (r : List UInt8) (ws : List (List UInt8)) : Prop := ∀ n,r.length < n -> ∃ l,jv n r = .ok l /\ l.map Prod.fst = ws ++ [[]]
def hdB (r : List UInt8) : Int := ((r.headD 0).toNat : Int)
theorem Lx.nil : Lx [] [] := fun n h => by
 obtain ⟨m,rfl⟩ : ∃ m,n = m + 1 := ⟨n - 1,by simp at h; omega⟩
 exact ⟨[([],[])],rfl,rfl⟩
theorem Lx.blank {c : UInt8} {r : List UInt8} {ws : List (List UInt8)} (h : Lx r ws) (hc : xR c.toNat = true) : Lx (c :: r) ws := fun n hn => by
 obtain ⟨m,rfl⟩ : ∃ m,n = m + 1 := ⟨n - 1,by simp at hn; omega⟩; obtain ⟨l,e1,e2⟩ := h (m + 1) (by simp at hn; omega); refine ⟨l,?_,e2⟩; rw [<- e1,jv,jv,pA hc]
theorem Lx.word {w r : List UInt8} {ws : List (List UInt8)} (h : Lx r ws) (hw : w ≠ []) (h1 : xR (w.headD 0).toNat = false) (h2 : yr (w ++ r) 40 42 = false) (h3 : ve (w ++ r) = .ok w) : Lx (w ++ r) (w :: ws) := fun n hn => by
 obtain ⟨m,rfl⟩ : ∃ m,n = m + 1 := ⟨n - 1,by omega⟩; cases w with
 | nil => exact absurd rfl hw
 | cons c w =>
  obtain ⟨l,e1,e2⟩ := h m (by simp at hn; omega); refine ⟨(c :: w,c :: w ++ r) :: l,?_,by simp [e2]⟩; rw [jv]; have e3 : skp (c :: w ++ r) = .ok (c :: (w ++ r)) := ia (by simpa using h1) h2; rw [e3]; have h3 : ve (c :: (w ++ r)) = .ok (c :: w) := h3; simp only [h3]
  have e4 : (c :: (w ++ r)).drop (c :: w).length = r := by simp
  rw [e4,e1]
  rfl
theorem dw {p : Int -> Bool} {w r : List UInt8} (h : w.all (fun c => p c.toNat) = true) (hr : p (hdB r) = false \/ r = []) : yi p (w ++ r) = w := by
 unfold yi
 induction w with
 | nil =>
  cases r with
  | nil => rfl
  | cons c r =>
   rcases hr with hr | hr
   ·simp only [hdB,List.headD_cons] at hr
    simp [hr]
   ·cases hr
 | cons c w ih =>
  simp only [List.all_cons,Bool.and_eq_true] at h; rw [List.cons_append,List.takeWhile_cons,if_pos h.1,ih h.2]
theorem tI {c : UInt8} {r : List UInt8} (h : c ≠ 40) : yr (c :: r) 40 42 = false := by
 unfold yr
 cases r with
 | nil => simp
 | cons d r => simp [h]
theorem Lx.name {w r : List UInt8} {ws : List (List UInt8)} (h : Lx r ws) (hs : jE w = true) (hr : lod (hdB r) = false \/ r = []) : Lx (w ++ r) (w :: ws) := by
 simp only [jE,Bool.and_eq_true,Bool.not_eq_true',decide_eq_true_eq] at hs; obtain ⟨⟨⟨f,_⟩,b⟩,g⟩ := hs; cases w with
 | nil => simp at f
 | cons c w =>
  simp only [List.headD_cons] at b
  have i : xR (c.toNat : Int) = false := by
   unfold zH at b
   rw [decide_eq_true_eq] at b
   unfold xR
   rw [decide_eq_false_iff_not]
   omega
  have d : c ≠ 40 := by
   intro e; subst e; revert b; decide
  refine h.word (by simp) (by simpa using i) (tI d) ?_
  unfold ve
  have j : ((c :: w) ++ r).headD 0 = c := rfl
  rw [j,if_pos b,dw g hr,if_neg (by omega)]
theorem Lx.num {m : Int} {r : List UInt8} {ws : List (List UInt8)} (h : Lx r ws) (h0 : 0 <= m) (h1 : m <= 2147483647) (hr : zs (hdB r) = false \/ r = []) : Lx (vy m ++ r) (vy m :: ws) := by
 obtain ⟨j,c,_,e,b⟩ := hH h0 h1
 have g : (vy m).all (fun c => zs c.toNat) = true := by
  unfold vy
  generalize m.toNat = k
  have l : ∀ (f k : Nat),(kJ f k).all (fun c => zs c.toNat) = true := by
   intro f
   induction f with
   | zero => intro k; rfl
   | succ f ih =>
    intro k; rw [kJ]
    have i : ∀ d : Nat,d < 10 -> zs ((UInt8.ofNat (48 + d)).toNat : Int) = true := fun d i => by
     rw [kY i]
     unfold zs
     rw [decide_eq_true_eq]
     omega
    split
    ·rename_i h9
     rw [List.all_cons,i k h9]
     rfl
    ·rw [List.all_append,ih,List.all_cons,i (k % 10) (by omega)]
     rfl
  exact l 11 k
 have s : zX 0 (vy m) = some m := by
  unfold ku at j
  rw [if_pos ⟨by rw [e]; simp,by rw [e]; exact b⟩] at j
  exact j
 have t : xR (c.toNat : Int) = false := by
  unfold zs at b
  rw [decide_eq_true_eq] at b
  unfold xR
  rw [decide_eq_false_iff_not]
  omega
 have n : zH (c.toNat : Int) = false := by
  unfold zs at b
  rw [decide_eq_true_eq] at b
  unfold zH
  rw [decide_eq_false_iff_not]
  omega
 have o : c ≠ 40 := by
  intro e; subst e; revert b; decide
 refine h.word (by rw [e]; simp) (by rw [e]; simpa using t) (by rw [e]; exact tI o) ?_
 unfold ve
 have u : (vy m ++ r).headD 0 = c := by rw [e]; rfl
 rw [u,if_neg (by rw [n]; simp),if_pos b,dw g hr,s]
theorem Lx.sign {c : UInt8} {r : List UInt8} {ws : List (List UInt8)} (h : Lx r ws) (hc : kN.contains c = true) (h1 : c ≠ 40 \/ hdB r ≠ 42) (h2 : (c ≠ 58 /\ c ≠ 60 /\ c ≠ 62) \/ hdB r ≠ 61) : Lx (c :: r) ([c] :: ws) := by
 have i : xR (c.toNat : Int) = false /\ zH (c.toNat : Int) = false /\ zs (c.toNat : Int) = false := by
  simp only [kN,List.contains_cons,Bool.or_eq_true,beq_iff_eq] at hc
  rcases hc with h | h | h | h | h | h | h | h | h | h | h | h | h | h | h | h | h | h | h | h | h
  all_goals first | (subst h; decide) | (simp at h)
 have g : ∀ (a b : UInt8),(c ≠ a \/ hdB r ≠ (b.toNat : Int)) -> yr (c :: r) a b = false := fun a b hab => by
  unfold yr
  cases r with
  | nil => simp
  | cons d r =>
   simp only [List.take_succ_cons,List.take_zero]; rw [beq_eq_false_iff_ne]; intro e
   injection e with j l
   injection l with e3 _
   rcases hab with f | f
   ·exact f j
   ·apply f; simp [hdB,e3]
 refine Lx.word (w := [c]) h (by simp) (by simpa using i.1) (g 40 42 (h1.imp id (fun f => f))) ?_
 unfold ve
 have j : ([c] ++ r).headD 0 = c := rfl
 rw [j,if_neg (by rw [i.2.1]; simp),if_neg (by rw [i.2.2]; simp)]
 have m : xn ([c] ++ r) = [c] := by
  unfold xn
  have l : [c] ++ r = c :: r := rfl
  rw [l,g 58 61 (by rcases h2 with f | f; exact .inl f.1; exact .inr f),g 60 61 (by rcases h2 with f | f; exact .inl f.2.1; exact .inr f),g 62 61 (by rcases h2 with f | f; exact .inl f.2.2; exact .inr f)]; rw [if_neg (by simp),if_pos ⟨by simp,by simpa using hc⟩]
  rfl
 rw [m,if_neg (by simp)]
def Brk (r : List UInt8) : Prop := lod (hdB r) = false \/ r = []
theorem Brk.digit {r : List UInt8} (h : Brk r) : zs (hdB r) = false \/ r = [] := h.imp (fun h => by
 unfold lod at h
 rw [Bool.or_eq_false_iff] at h
 exact h.2) id
theorem ym {c : UInt8} {r : List UInt8} (h : lod (c.toNat : Int) = false) : Brk (c :: r) := .inl h
theorem Lx.sign2 {c : UInt8} {r : List UInt8} {ws : List (List UInt8)} (h : Lx r ws) (hc : c = 58 \/ c = 60 \/ c = 62) : Lx (c :: 61 :: r) ([c,61] :: ws) := by
 have f : xR (c.toNat : Int) = false /\ zH (c.toNat : Int) = false /\ zs (c.toNat : Int) = false /\ c ≠ 40 := by rcases hc with rfl | rfl | rfl <;> decide
 refine Lx.word (w := [c,61]) h (by simp) (by simpa using f.1) (tI f.2.2.2) ?_
 unfold ve
 have j : ([c,61] ++ r).headD 0 = c := rfl
 rw [j,if_neg (by rw [f.2.1]; simp),if_neg (by rw [f.2.2.1]; simp)]
 have i : xn ([c,61] ++ r) = [c,61] := by
  unfold xn
  rw [if_pos (by rcases hc with rfl | rfl | rfl <;> simp [yr])]
  rfl
 rw [i,if_neg (by simp)]
theorem xD {x : List UInt8} (h : zF x = true) : jE x = true := by
 unfold zF at h
 exact (Bool.and_eq_true _ _ ▸ h).1
theorem zh1 {x r : List UInt8} {ws : List (List UInt8)} (hx : zv x = 0 \/ zv x = 1 \/ zv x = 2) (h : Lx (32 :: r) ws) : Lx (x ++ (32 :: r)) (x :: ws) := by
 have j : Brk (32 :: r) := ym (by decide)
 have f : hdB (32 :: r) ≠ 61 := by show ((32 : UInt8).toNat : Int) ≠ 61; decide
 have i : hdB (32 :: r) ≠ 42 := by show ((32 : UInt8).toNat : Int) ≠ 42; decide
 rcases hx with hx | hx | hx
 ·rcases zgo hx with rfl | rfl | rfl | rfl | rfl | rfl
  ·exact h.sign (by decide) (.inr i) (.inr f)
  ·exact h.sign (by decide) (.inr i) (.inr f)
  ·exact h.sign (by decide) (.inr i) (.inr f)
  ·exact h.sign2 (by decide)
  ·exact h.sign (by decide) (.inr i) (.inr f)
  ·exact h.sign2 (by decide)
 ·rcases zhk hx with rfl | rfl | rfl
  ·exact h.sign (by decide) (.inr i) (.inr f)
  ·exact h.sign (by decide) (.inr i) (.inr f)
  ·exact h.name (by decide) j
 ·rcases zgt hx with rfl | rfl | rfl | rfl
  ·exact h.sign (by decide) (.inr i) (.inr f)
  ·exact h.name (by decide) j
  ·exact h.name (by decide) j
  ·exact h.sign (by decide) (.inr i) (.inr f)
def vL (f : Nat) (u : T) (r : Int) : List UInt8 := if yH u < r then 40 :: (zg f u ++ [41]) else zg f u
section
variable {g : Nat} {x : List UInt8} {m p : Int} {l : List T} {a b d e y : T}
theorem bo : zg (g + 1) (.mk 24 x m p l) = x := by simp [zg,T.kind,T.name]
theorem nX : zg (g + 1) (.mk 25 x m p [d]) = zg g d ++ (46 :: x) := by simp [zg,T.kind,T.name,yv]
theorem mI : zg (g + 1) (.mk 26 x m p [d,e]) = zg g d ++ (91 :: (zg g e ++ [93])) := by simp [zg,T.kind,yv,uY]
theorem lM : zg (g + 1) (.mk 27 x m p [d]) = zg g d ++ [94] := by simp [zg,T.kind,yv]
theorem lR : zg (g + 1) (.mk 28 x m p [d,y]) = zg g d ++ (123 :: (zB y ++ [125])) := by simp [zg,T.kind,yv,uY]
theorem za8 : zg (g + 1) (.mk 29 x m p l) = vy m := by simp [zg,T.kind,T.num]
theorem bd : zg (g + 1) (.mk 30 x m p l) = gk := by simp [zg,T.kind,gk]
theorem nS : zg (g + 1) (.mk 31 x m p l) = kj := by simp [zg,T.kind,kj]
theorem zaf : zg (g + 1) (.mk 32 x m p l) = rB := by simp [zg,T.kind,rB]
theorem cT : zg (g + 1) (.mk 33 x m p (d :: l)) = zg g d ++ (40 :: (zM [44,32] (l.map (zg g)) ++ [41])) := by simp [zg,T.kind,yv,T.subs]
theorem zby : zg (g + 1) (.mk 34 x m p [a]) = 126 :: vL g a 3 := by simp [zg,T.kind,yv,vL]; rfl
theorem zdq : zg (g + 1) (.mk 35 x m p [a]) = 45 :: vL g a 2 := by simp [zg,T.kind,yv,vL]; rfl
theorem zf0 : zg (g + 1) (.mk 37 x m p [a,y]) = vL g a 1 ++ (32 :: (kIS ++ (32 :: zB y))) := by simp [zg,T.kind,yv,uY,vL,kIS]; rfl
theorem zb7 (hx : zv x = 2) : zg (g + 1) (.mk 36 x m p [a,b]) = vL g a 2 ++ (32 :: (x ++ (32 :: vL g b 3))) := by simp [zg,T.kind,T.name,yv,uY,vL,hx]
theorem zai (hx : zv x = 1) : zg (g + 1) (.mk 36 x m p [a,b]) = vL g a 1 ++ (32 :: (x ++ (32 :: vL g b 2))) := by simp [zg,T.kind,T.name,yv,uY,vL,hx]
theorem zc9 (hx : zv x = 0) : zg (g + 1) (.mk 36 x m p [a,b]) = vL g a 1 ++ (32 :: (x ++ (32 :: vL g b 1))) := by simp [zg,T.kind,T.name,yv,uY,vL,hx]
end
def FirstC (s : List UInt8) : Prop := ∃ c r,s = c :: r /\ c ≠ 42 /\ c ≠ 61
theorem FirstC.app {a b : List UInt8} (h : FirstC a) : FirstC (a ++ b) := by
 obtain ⟨c,r,rfl,f,i⟩ := h
 exact ⟨c,r ++ b,rfl,f,i⟩
theorem FirstC.at9 {f : Nat} {t : T} {r : Int} (h : FirstC (zg f t)) : FirstC (vL f t r) := by
 unfold vL
 split
 ·exact ⟨40,_,rfl,by decide,by decide⟩
 ·exact h
theorem FirstC.hd {s r : List UInt8} (h : FirstC s) : hdB (s ++ r) ≠ 42 /\ hdB (s ++ r) ≠ 61 := by
 obtain ⟨c,_,rfl,f,i⟩ := h
 show ((c.toNat : Int) ≠ 42) /\ ((c.toNat : Int) ≠ 61)
 refine ⟨fun e => f ?_,fun e => i ?_⟩
 ·apply UInt8.toNat_inj.1; show c.toNat = 42; omega
 ·apply UInt8.toNat_inj.1; show c.toNat = 61; omega
theorem qC {x : List UInt8} (h : zF x = true) : FirstC x := by
 have h := xD h; cases x with
 | nil => exact absurd h (by decide)
 | cons c x =>
  simp only [jE,Bool.and_eq_true,List.headD_cons] at h; have f := h.1.2
  refine ⟨c,x,rfl,?_,?_⟩ <;> (intro e; subst e; revert f; decide)
theorem Rn.firstC {g : G} {n : Nat} {t : T} (h : Rn g n t) : ∀ f,zA t <= f -> FirstC (zg f t) := by
 induction h with
 | name hx => intro f i; obtain ⟨g,rfl,-⟩ := xZ i; rw [bo]; exact qC hx
 | field h hx ih => intro f i; obtain ⟨g,rfl,j⟩ := vk i; rw [nX]; exact (ih g j).app
 | index h he ih _ => intro f i; obtain ⟨g,rfl,j,-⟩ := xt i; rw [mI]; exact (ih g j).app
 | point h ih => intro f i; obtain ⟨g,rfl,j⟩ := vk i; rw [lM]; exact (ih g j).app
 | guard h hy ih => intro f i; obtain ⟨g,rfl,j,-⟩ := xt i; rw [lR]; exact (ih g j).app
 | num h0 h1 =>
  intro f i; obtain ⟨g,rfl,-⟩ := xZ i; rw [za8]; obtain ⟨-,c,l,e,o⟩ := hH h0 h1
  refine ⟨c,l,e,?_,?_⟩ <;> (intro r; subst r; revert o; decide)
 | word h =>
  intro f i; obtain ⟨g,rfl,-⟩ := xZ i
  rcases h with rfl | rfl | rfl
  ·rw [bd]; exact ⟨_,_,rfl,by decide,by decide⟩
  ·rw [nS]; exact ⟨_,_,rfl,by decide,by decide⟩
  ·rw [zaf]; exact ⟨_,_,rfl,by decide,by decide⟩
 | desig h hk ih => exact ih
 | call h hk hl ih _ => intro f i; obtain ⟨g,rfl,j⟩ := xZ i; rw [yM] at j; rw [cT]; exact (ih g (by omega)).app
 | not h ih => intro f i; obtain ⟨g,rfl,j⟩ := vk i; rw [zby]; exact ⟨_,_,rfl,by decide,by decide⟩
 | fpFac h hr ih => exact ih
 | fpPar h hr ih => exact ih
 | proFac h hr ih => exact ih
 | proPar h hr ih => exact ih
 | mul hx ha hb iha _ => intro f i; obtain ⟨g,rfl,j,-⟩ := xt i; rw [zb7 hx]; exact (FirstC.at9 (iha g j)).app
 | sumPro h hk hr ih => exact ih
 | sumNeg h hk ih => intro f i; obtain ⟨g,rfl,j⟩ := vk i; rw [zdq]; exact ⟨_,_,rfl,by decide,by decide⟩
 | sumPar h hr ih => exact ih
 | add hx ha hb hj iha _ => intro f i; obtain ⟨g,rfl,j,-⟩ := xt i; rw [zai hx]; exact (FirstC.at9 (iha g j)).app
 | plain h hk hr ih => exact ih
 | rel hx ha hk hb hj iha _ => intro f i; obtain ⟨g,rfl,j,-⟩ := xt i; rw [zc9 hx]; exact (FirstC.at9 (iha g j)).app
 | is ha hk hy iha => intro f i; obtain ⟨g,rfl,j,-⟩ := xt i; rw [zf0]; exact (FirstC.at9 (iha g j)).app
theorem dU {y : T} (hy : TyN y) {r : List UInt8} {ws : List (List UInt8)} (h : Lx r ws) (hb : Brk r) : Lx (zB y ++ r) (xX y ++ ws) := by
 cases hy with
 | @own x p hx => exact h.name (xD hx) hb
 | @of x z p q hx hz =>
  have b : zB (.mk 13 x 0 p [.mk 24 z 0 q []]) ++ r = z ++ (46 :: (x ++ r)) := by simp [zB,T.subs,T.name]
  have d : xX (.mk 13 x 0 p [.mk 24 z 0 q []]) ++ ws = z :: vG :: (x :: ws) := rfl
  rw [b,d]
  exact ((h.name (xD hx) hb).sign (by decide) (.inl (by decide)) (.inl (by decide))).name (xD hz) (ym (by decide))
def LxE (t : T) : Prop := ∀ (f : Nat) (r : List UInt8) (ws : List (List UInt8)),zA t <= f -> Lx r ws -> Brk r -> Lx (zg f t ++ r) (zh f t ++ ws)
theorem sC {t : T} (h : LxE t) (hf : ∀ f,zA t <= f -> FirstC (zg f t)) {f : Nat} {r : List UInt8} {ws : List (List UInt8)} {k : Int} (hd : zA t <= f) (hr : Lx r ws) (hb : Brk r) : Lx (vL f t k ++ r) (yJ f t k ++ ws) := by
 unfold vL yJ
 split
 ·have b : 40 :: (zg f t ++ [41]) ++ r = 40 :: (zg f t ++ (41 :: r)) := by simp
  have d : yw :: (zh f t ++ [xd]) ++ ws = yw :: (zh f t ++ (xd :: ws)) := by simp
  rw [b,d]
  exact (h f (41 :: r) (xd :: ws) hd (hr.sign (by decide) (.inl (by decide)) (.inl (by decide))) (ym (by decide))).sign (by decide) (.inr (hf f hd).hd.1) (.inl (by decide))
 ·exact h f r ws hd hr hb
theorem cH {a b : T} (ha : LxE a) (hb : LxE b) (fa : ∀ f,zA a <= f -> FirstC (zg f a)) (fb : ∀ f,zA b <= f -> FirstC (zg f b)) {x : List UInt8} (hx : zv x = 0 \/ zv x = 1 \/ zv x = 2) {g : Nat} {k1 k2 : Int} (hg : zA a <= g) (hg2 : zA b <= g) {r : List UInt8} {ws : List (List UInt8)} (hr : Lx r ws) (hbr : Brk r) : Lx ((vL g a k1 ++ (32 :: (x ++ (32 :: vL g b k2)))) ++ r) ((yJ g a k1 ++ (x :: yJ g b k2)) ++ ws) := by
 have d : (vL g a k1 ++ (32 :: (x ++ (32 :: vL g b k2)))) ++ r = vL g a k1 ++ (32 :: (x ++ (32 :: (vL g b k2 ++ r)))) := by simp
 have e : (yJ g a k1 ++ (x :: yJ g b k2)) ++ ws = yJ g a k1 ++ (x :: (yJ g b k2 ++ ws)) := by simp
 rw [d,e]
 exact sC ha fa hg ((zh1 hx ((sC hb fb hg2 hr hbr).blank (by decide))).blank (by decide)) (ym (by decide))
theorem zau {l : List T} {g : Nat} (hl : ∀ e ∈ l,LxE e) (hd : ∀ e ∈ l,zA e <= g) {r : List UInt8} {ws : List (List UInt8)} (hr : Lx r ws) (hb : Brk r) : Lx (zM [44,32] (l.map (zg g)) ++ r) (xi yq (l.map (zh g)) ++ ws) := by
 induction l with
 | nil => exact hr
 | cons t l ih =>
  cases l with
  | nil => exact hl t (by simp) g r ws (hd t (by simp)) hr hb
  | cons u l =>
   have b : zM [44,32] ((t :: u :: l).map (zg g)) ++ r = zg g t ++ (44 :: (32 :: (zM [44,32] ((u :: l).map (zg g)) ++ r))) := by
    show (zg g t ++ ([44,32] ++ zM [44,32] ((u :: l).map (zg g)))) ++ r = _
    simp
   have d : xi yq ((t :: u :: l).map (zh g)) ++ ws = zh g t ++ (yq :: (xi yq ((u :: l).map (zh g)) ++ ws)) := by
    show (zh g t ++ (yq :: xi yq ((u :: l).map (zh g)))) ++ ws = _
    simp
   rw [b,d]
   exact hl t (by simp) g _ _ (hd t (by simp)) (((ih (fun e he => hl e (by simp [List.mem_cons.1 he])) (fun e he => hd e (by simp [List.mem_cons.1 he]))).blank (by decide)).sign (by decide) (.inl (by decide)) (.inl (by decide))) (ym (by decide))
theorem pL {l : List T} {g : Nat} {r : List UInt8} (hf : ∀ e ∈ l,FirstC (zg g e)) (hr : hdB r ≠ 42) : hdB (zM [44,32] (l.map (zg g)) ++ r) ≠ 42 := by
 cases l with
 | nil => exact hr
 | cons t l =>
  cases l with
  | nil => exact (hf t (by simp)).hd.1
  | cons u l =>
   have b : zM [44,32] ((t :: u :: l).map (zg g)) ++ r = zg g t ++ ([44,32] ++ zM [44,32] ((u :: l).map (zg g)) ++ r) := by
    show (zg g t ++ ([44,32] ++ zM [44,32] ((u :: l).map (zg g)))) ++ r = _
    simp
   rw [b]
   exact (hf t (by simp)).hd.1
theorem kx {g : G} {n : Nat} {t : T} (h : Rn g n t) : LxE t := by
 induction h with
 | name hx => intro f r j i b m; obtain ⟨g,rfl,-⟩ := xZ i; rw [bo,nv]; exact b.name (xD hx) m
 | @field n k x p d h hx ih =>
  intro f r j i b m; obtain ⟨g,rfl,o⟩ := vk i; rw [nX,sX,show zg g d ++ (46 :: x) ++ r = zg g d ++ (46 :: (x ++ r)) by simp,show zh g d ++ [vG,x] ++ j = zh g d ++ (vG :: (x :: j)) by simp]
  exact ih g _ _ o ((b.name (xD hx) m).sign (by decide) (.inl (by decide)) (.inl (by decide))) (ym (by decide))
 | @index n k p d e h he ih ihe =>
  intro f r j i b m; obtain ⟨g,rfl,o,s⟩ := xt i; rw [mI,sj,show zg g d ++ (91 :: (zg g e ++ [93])) ++ r = zg g d ++ (91 :: (zg g e ++ (93 :: r))) by simp,show zh g d ++ (pn :: (zh g e ++ [mw])) ++ j = zh g d ++ (pn :: (zh g e ++ (mw :: j))) by simp]
  exact ih g _ _ o ((ihe g _ _ s (b.sign (by decide) (.inl (by decide)) (.inl (by decide))) (ym (by decide))).sign (by decide) (.inl (by decide)) (.inl (by decide))) (ym (by decide))
 | @point n k p d h ih =>
  intro f r j i b m; obtain ⟨g,rfl,o⟩ := vk i; rw [lM,tV,show zg g d ++ [94] ++ r = zg g d ++ (94 :: r) by simp,show zh g d ++ [gR] ++ j = zh g d ++ (gR :: j) by simp]
  exact ih g _ _ o (b.sign (by decide) (.inl (by decide)) (.inl (by decide))) (ym (by decide))
 | @guard n k p d y h hy ih =>
  intro f r j i b m; obtain ⟨g,rfl,o,-⟩ := xt i; rw [lR,sq,show zg g d ++ (123 :: (zB y ++ [125])) ++ r = zg g d ++ (123 :: (zB y ++ (125 :: r))) by simp,show zh g d ++ (np :: (xX y ++ [cP])) ++ j = zh g d ++ (np :: (xX y ++ (cP :: j))) by simp]
  exact ih g _ _ o ((dU hy (b.sign (by decide) (.inl (by decide)) (.inl (by decide))) (ym (by decide))).sign (by decide) (.inl (by decide)) (.inl (by decide))) (ym (by decide))
 | num h0 h1 => intro f r j i b m; obtain ⟨g,rfl,-⟩ := xZ i; rw [za8,cc]; exact b.num h0 h1 m.digit
 | word h =>
  intro f r j i b m; obtain ⟨g,rfl,-⟩ := xZ i
  rcases h with rfl | rfl | rfl
  ·rw [bd,ov]; exact b.name (by decide) m
  ·rw [nS,rE]; exact b.name (by decide) m
  ·rw [zaf,iI]; exact b.name (by decide) m
 | desig h hk ih => exact ih
 | @call n k p d l h hk hl ih ihl =>
  intro f r j i b m; obtain ⟨g,rfl,o⟩ := xZ i; rw [yM] at o; have v := vv (l := l) (g := g) (by omega); rw [cT,oC,show zg g d ++ (40 :: (zM [44,32] (l.map (zg g)) ++ [41])) ++ r = zg g d ++ (40 :: (zM [44,32] (l.map (zg g)) ++ (41 :: r))) by simp,show zh g d ++ (yw :: (xi yq (l.map (zh g)) ++ [xd])) ++ j = zh g d ++ (yw :: (xi yq (l.map (zh g)) ++ (xd :: j))) by simp]
  exact ih g _ _ (by omega) ((zau ihl v (b.sign (by decide) (.inl (by decide)) (.inl (by decide))) (ym (by decide))).sign (by decide) (.inr (pL (fun e he => (hl e he).firstC g (v e he)) (by show ((41 : UInt8).toNat : Int) ≠ 42; decide))) (.inl (by decide))) (ym (by decide))
 | @not n p a h ih =>
  intro f r j i b m; obtain ⟨g,rfl,o⟩ := vk i; rw [zby,cy]
  exact (sC ih h.firstC o b m).sign (by decide) (.inl (by decide)) (.inl (by decide))
 | fpFac h b ih => exact ih
 | fpPar h b ih => exact ih
 | proFac h b ih => exact ih
 | proPar h b ih => exact ih
 | mul hx ha m iha ihb => intro f r j i b u; obtain ⟨g,rfl,o,s⟩ := xt i; rw [zb7 hx,cJ hx]; exact cH iha ihb ha.firstC m.firstC (.inr (.inr hx)) o s b u
 | sumPro h hk b ih => exact ih
 | @sumNeg n k p a h hk ih =>
  intro f r j i b m; obtain ⟨g,rfl,o⟩ := vk i; rw [zdq,cj]
  exact (sC ih h.firstC o b m).sign (by decide) (.inl (by decide)) (.inl (by decide))
 | sumPar h b ih => exact ih
 | add hx ha m hj iha ihb => intro f r j i b u; obtain ⟨g,rfl,o,s⟩ := xt i; rw [zai hx,ir hx]; exact cH iha ihb ha.firstC m.firstC (.inr (.inl hx)) o s b u
 | plain h hk b ih => exact ih
 | rel hx ha hk m hj iha ihb => intro f r j i b u; obtain ⟨g,rfl,o,s⟩ := xt i; rw [zc9 hx,cI hx]; exact cH iha ihb ha.firstC m.firstC (.inl hx) o s b u
 | @is n k p a y ha hk hy iha =>
  intro f r j i b m; obtain ⟨g,rfl,o,-⟩ := xt i; rw [zf0,zcn,show vL g a 1 ++ (32 :: (kIS ++ (32 :: zB y))) ++ r = vL g a 1 ++ (32 :: (kIS ++ (32 :: (zB y ++ r)))) by simp,show yJ g a 1 ++ (kIS :: xX y) ++ j = yJ g a 1 ++ (kIS :: (xX y ++ j)) by simp]
  exact sC iha ha.firstC o ((((dU hy b m).blank (by decide)).name (by decide) (ym (by decide))).blank (by decide)) (ym (by decide))
theorem fo {r : List UInt8} {ws : List (List UInt8)} (h : Lx r ws) (k : Nat) : Lx (zR k ++ r) ws := by
 unfold zR
 induction 2 * k with
 | zero => exact h
 | succ n ih => rw [List.replicate_succ,List.cons_append]; exact ih.blank (by decide)
theorem gN {r : List UInt8} : Brk (10 :: r) := ym (by decide)
theorem vU {r : List UInt8} : Brk (32 :: r) := ym (by decide)
theorem lP {tx : T -> List UInt8} {wf : T -> List (List UInt8)} {L : Nat} : ∀ (l : List T),(∀ t ∈ l,∀ r ws,Lx r ws -> Brk r -> Lx (tx t ++ r) (wf t ++ ws)) -> ∀ {r : List UInt8} {ws : List (List UInt8)},Lx r ws -> Lx (yC [59] [] tx L l ++ r) (xi zE (l.map wf) ++ ws)
 | [],_,r,ws,h => h
 | [t],ht,r,ws,h => by
  have e : yC [59] [] tx L [t] ++ r = zR (L + 1) ++ (tx t ++ (10 :: r)) := by simp [yC,zM]
  rw [e]
  exact fo (ht t (by simp) _ _ (h.blank (by decide)) gN) _
 | t :: u :: l,ht,r,ws,h => by
  have ih := lP (L := L) (u :: l) (fun t' h' => ht t' (by simp [List.mem_cons.1 h'])) h
  have e : yC [59] [] tx L (t :: u :: l) ++ r = zR (L + 1) ++ (tx t ++ (59 :: 10 :: (yC [59] [] tx L (u :: l) ++ r))) := by simp [yC,zM]
  have e2 : xi zE ((t :: u :: l).map wf) ++ ws = wf t ++ (zE :: (xi zE ((u :: l).map wf) ++ ws)) := by
   show (wf t ++ (zE :: xi zE ((u :: l).map wf))) ++ ws = _
   simp
  rw [e,e2]
  exact fo (ht t (by simp) _ _ ((ih.blank (by decide)).sign (by decide) (.inl (by decide)) (.inl (by decide))) (ym (by decide))) _
def LxA : Bool -> T -> Prop
 | false,t => ∀ (f Lv : Nat) (r : List UInt8) (ws : List (List UInt8)),zA t <= f -> Lx r ws -> Brk r -> Lx (yd f Lv t ++ r) (vq f t ++ ws)
 | true,t => ∀ (f Lv : Nat) (r : List UInt8) (ws : List (List UInt8)),zA t <= f + 1 -> Lx r ws -> Lx (zW f Lv t.subs ++ r) (zK f t ++ ws)
section
variable {f Lv : Nat} {x : List UInt8} {m p : Int} {l : List T} {a b c d e : T}
theorem zj0 : yd (f + 1) Lv (.mk 14 x m p [d,e]) = zg f d ++ (32 :: 58 :: 61 :: 32 :: zg f e) := by simp [yd,T.kind,yv,uY]
theorem zjt : yd (f + 1) Lv (.mk 15 x m p [d]) = zg f d := by simp [yd,T.kind,yv,T.subs]
theorem zh8 : yd (f + 1) Lv (.mk 15 x m p (d :: e :: l)) = zg f d ++ qU f (e :: l) := by simp [yd,T.kind,yv,T.subs]
theorem zh9 : yd (f + 1) Lv (.mk 16 x m p (c :: a :: l)) = kIF ++ (32 :: (zg f c ++ (32 :: (xP ++ (10 :: (zW f Lv a.subs ++ (yg (zg f) (fun u => zW f Lv u.subs) Lv l ++ (zR Lv ++ yD)))))))) := by simp [yd,T.kind,yv,uY,T.subs,zW,kIF,xP,yD]
theorem zjg : yd (f + 1) Lv (.mk 17 x m p [c,a]) = ue ++ (32 :: (zg f c ++ (32 :: (kDO ++ (10 :: (zW f Lv a.subs ++ (zR Lv ++ yD))))))) := by simp [yd,T.kind,yv,uY,zW,ue,kDO,yD]
theorem zk2 : yd (f + 1) Lv (.mk 18 x m p [a,c]) = va ++ (10 :: (zW f Lv a.subs ++ (zR Lv ++ (jq ++ (32 :: zg f c))))) := by simp [yd,T.kind,yv,uY,zW,va,jq]
theorem zk1 : yd (f + 1) Lv (.mk 19 x m p []) = xK := by simp [yd,T.kind,T.subs,xK]
theorem zii : yd (f + 1) Lv (.mk 19 x m p [e]) = xK ++ (32 :: zg f e) := by simp [yd,T.kind,T.subs,yv,xK]
theorem zkm {k : Int} (hk : k = 20 \/ k = 21 \/ k = 22 \/ k = 23) : yd (f + 1) Lv (.mk k x m p [e]) = jn k ++ (40 :: (zg f e ++ [41])) := by
 rcases hk with rfl | rfl | rfl | rfl <;> simp [yd,T.kind,yv]
end
theorem bi {f Lv : Nat} {ps : List (T × T)} (hc : ∀ q ∈ ps,LxE q.1) (ha : ∀ q ∈ ps,LxA true q.2) (hd : ∀ q ∈ ps,zA q.1 <= f /\ zA q.2 <= f) {l : List T} {r : List UInt8} {ws : List (List UInt8)} (h : Lx (yg (zg f) (fun u => zW f Lv u.subs) Lv l ++ r) (vu (zh f) (zK f) l ++ ws)) : Lx (yg (zg f) (fun u => zW f Lv u.subs) Lv (xc ps ++ l) ++ r) (vu (zh f) (zK f) (xc ps ++ l) ++ ws) := by
 induction ps with
 | nil => exact h
 | cons q ps ih =>
  have ih := ih (fun x hx => hc x (by simp [hx])) (fun x hx => ha x (by simp [hx])) (fun x hx => hd x (by simp [hx]))
  have g : yg (zg f) (fun u => zW f Lv u.subs) Lv (xc (q :: ps) ++ l) ++ r = zR Lv ++ (jf ++ (32 :: (zg f q.1 ++ (32 :: (xP ++ (10 :: (zW f Lv q.2.subs ++ (yg (zg f) (fun u => zW f Lv u.subs) Lv (xc ps ++ l) ++ r)))))))) := by
   show yg (zg f) (fun u => zW f Lv u.subs) Lv (q.1 :: q.2 :: (xc ps ++ l)) ++ r = _
   rw [yg]
   simp [jf,xP]
  have i : vu (zh f) (zK f) (xc (q :: ps) ++ l) ++ ws = jf :: (zh f q.1 ++ (xP :: (zK f q.2 ++ (vu (zh f) (zK f) (xc ps ++ l) ++ ws)))) := by
   show vu (zh f) (zK f) (q.1 :: q.2 :: (xc ps ++ l)) ++ ws = _
   rw [vu]
   simp
  rw [g,i]
  exact fo ((((hc q (by simp)) f _ _ (hd q (by simp)).1 ((((ha q (by simp)) f Lv _ _ (by have := (hd q (by simp)).2; omega) ih).blank (by decide)).name (by decide) gN |>.blank (by decide)) vU).blank (by decide)).name (by decide) vU) _
theorem cb {r : List UInt8} {ws : List (List UInt8)} (h : Lx r ws) (hb : Brk r) (k : Nat) : Lx (zR k ++ (yD ++ r)) (yD :: ws) := fo (h.name (by decide) hb) k
theorem iD {k : Int} (hk : k = 20 \/ k = 21 \/ k = 22 \/ k = 23) : jE (jn k) = true := by
 rcases hk with rfl | rfl | rfl | rfl <;> decide
theorem lg {k : Int} {x : List UInt8} {m p : Int} {e : T} (hk : k = 20 \/ k = 21 \/ k = 22 \/ k = 23) (he : LxE e) (hf : ∀ f,zA e <= f -> FirstC (zg f e)) : LxA false (.mk k x m p [e]) := by
 intro f Lv r h hd j n; obtain ⟨g,rfl,i⟩ := vk hd; rw [zkm hk,zgh hk,show jn k ++ (40 :: (zg g e ++ [41])) ++ r = jn k ++ (40 :: (zg g e ++ (41 :: r))) by simp,show jn k :: yw :: (zh g e ++ [xd]) ++ h = jn k :: (yw :: (zh g e ++ (xd :: h))) by simp]
 exact ((he g _ _ i (j.sign (by decide) (.inl (by decide)) (.inl (by decide))) (ym (by decide))).sign (by decide) (.inr (hf g i).hd.1) (.inl (by decide))).name (iD hk) (ym (by decide))
theorem zf1 {bb : Bool} {n : Nat} {t : T} (h : RA bb n t) : LxA bb t := by
 induction h with
 | @list n p l h ih =>
  intro f Lv r i hd j; have w : ∀ a ∈ l,zA a <= f := vv (by rw [zA] at hd; omega)
  exact lP l (fun t ht r i j hb => ih t ht f (Lv + 1) r i (w t ht) j hb) j
 | @assign n k p d e hd' hk he =>
  intro f Lv r i hd j hb; obtain ⟨g,rfl,o,s⟩ := xt hd; rw [zj0,ziw,show zg g d ++ (32 :: 58 :: 61 :: 32 :: zg g e) ++ r = zg g d ++ (32 :: 58 :: 61 :: 32 :: (zg g e ++ r)) by simp,show zh g d ++ (xG :: zh g e) ++ i = zh g d ++ (xG :: (zh g e ++ i)) by simp]
  exact kx hd' g _ _ o ((((kx he g _ _ s j hb).blank (by decide)).sign2 (by decide)).blank (by decide)) vU
 | @call n k p d l hd' hk hl =>
  intro f Lv r i hd j hb; obtain ⟨g,rfl,o⟩ := xZ hd; rw [yM] at o; cases l with
  | nil => rw [zjt,zik]; exact kx hd' g _ _ (by omega) j hb
  | cons e l =>
   have v := vv (l := e :: l) (g := g) (by omega)
   unfold qU at *
   rw [zh8,zfm]
   unfold qU fc
   rw [show zg g d ++ (40 :: (zM [44,32] ((e :: l).map (zg g)) ++ [41])) ++ r = zg g d ++ (40 :: (zM [44,32] ((e :: l).map (zg g)) ++ (41 :: r))) by simp,show zh g d ++ (yw :: (xi yq ((e :: l).map (zh g)) ++ [xd])) ++ i = zh g d ++ (yw :: (xi yq ((e :: l).map (zh g)) ++ (xd :: i))) by simp]
   exact kx hd' g _ _ (by omega) ((zau (fun e he => kx (hl e he)) v (j.sign (by decide) (.inl (by decide)) (.inl (by decide))) (ym (by decide))).sign (by decide) (.inr (pL (fun e he => (hl e he).firstC g (v e he)) (by show ((41 : UInt8).toNat : Int) ≠ 42; decide))) (.inl (by decide))) (ym (by decide))
 | @choice n p c a ps hc ha hpc hpa iha ihp =>
  intro f Lv r i hd j hb; obtain ⟨g,rfl,o⟩ := xZ hd; simp only [yM] at o; rw [zh9,zdz]
  have y : kIF ++ (32 :: (zg g c ++ (32 :: (xP ++ (10 :: (zW g Lv a.subs ++ (yg (zg g) (fun u => zW g Lv u.subs) Lv (xc ps) ++ (zR Lv ++ yD)))))))) ++ r = kIF ++ (32 :: (zg g c ++ (32 :: (xP ++ (10 :: (zW g Lv a.subs ++ (yg (zg g) (fun u => zW g Lv u.subs) Lv (xc ps ++ []) ++ (zR Lv ++ (yD ++ r))))))))) := by simp
  have z : kIF :: (zh g c ++ (xP :: (zK g a ++ (vu (zh g) (zK g) (xc ps) ++ [yD])))) ++ i = kIF :: (zh g c ++ (xP :: (zK g a ++ (vu (zh g) (zK g) (xc ps ++ []) ++ (yD :: i))))) := by simp
  rw [y,z]; have A := bi (f := g) (Lv := Lv) (ps := ps) (l := []) (fun q hq => kx (hpc q hq)) ihp (qt (by omega)) (show Lx ([] ++ (zR Lv ++ (yD ++ r))) ([] ++ (yD :: i)) from cb j hb Lv)
  exact ((kx hc g _ _ (by omega) ((((iha g Lv _ _ (by omega) A).blank (by decide)).name (by decide) gN).blank (by decide)) vU).blank (by decide)).name (by decide) vU
 | @choice1 n p c a b ps hc ha hpc hpa hb' iha ihp ihb =>
  intro f Lv r i hd j hb; obtain ⟨g,rfl,o⟩ := xZ hd; simp only [yM] at o; rw [sx] at o; simp only [yM] at o; rw [zh9,zdz]
  have y : kIF ++ (32 :: (zg g c ++ (32 :: (xP ++ (10 :: (zW g Lv a.subs ++ (yg (zg g) (fun u => zW g Lv u.subs) Lv (xc ps ++ [b]) ++ (zR Lv ++ yD)))))))) ++ r = kIF ++ (32 :: (zg g c ++ (32 :: (xP ++ (10 :: (zW g Lv a.subs ++ (yg (zg g) (fun u => zW g Lv u.subs) Lv (xc ps ++ [b]) ++ (zR Lv ++ (yD ++ r))))))))) := by simp
  have z : kIF :: (zh g c ++ (xP :: (zK g a ++ (vu (zh g) (zK g) (xc ps ++ [b]) ++ [yD])))) ++ i = kIF :: (zh g c ++ (xP :: (zK g a ++ (vu (zh g) (zK g) (xc ps ++ [b]) ++ (yD :: i))))) := by simp
  rw [y,z]
  have B : Lx (yg (zg g) (fun u => zW g Lv u.subs) Lv [b] ++ (zR Lv ++ (yD ++ r))) (vu (zh g) (zK g) [b] ++ (yD :: i)) := by
   have C : yg (zg g) (fun u => zW g Lv u.subs) Lv [b] ++ (zR Lv ++ (yD ++ r)) = zR Lv ++ (qM ++ (10 :: (zW g Lv b.subs ++ (zR Lv ++ (yD ++ r))))) := by simp [yg,qM]
   rw [C]
   exact fo ((((ihb g Lv _ _ (by omega) (cb j hb Lv))).blank (by decide)).name (by decide) gN) Lv
  have A := bi (f := g) (Lv := Lv) (ps := ps) (l := [b]) (fun q hq => kx (hpc q hq)) ihp (qt (by omega)) B
  exact ((kx hc g _ _ (by omega) ((((iha g Lv _ _ (by omega) A).blank (by decide)).name (by decide) gN).blank (by decide)) vU).blank (by decide)).name (by decide) vU
 | @«while» n p c a hc ha iha =>
  intro f Lv r i hd j hb; obtain ⟨g,rfl,o,s⟩ := xt hd; rw [zjg,zi7,show ue ++ (32 :: (zg g c ++ (32 :: (kDO ++ (10 :: (zW g Lv a.subs ++ (zR Lv ++ yD))))))) ++ r = ue ++ (32 :: (zg g c ++ (32 :: (kDO ++ (10 :: (zW g Lv a.subs ++ (zR Lv ++ (yD ++ r)))))))) by simp,show ue :: (zh g c ++ (kDO :: (zK g a ++ [yD]))) ++ i = ue :: (zh g c ++ (kDO :: (zK g a ++ (yD :: i)))) by simp]
  exact ((kx hc g _ _ o ((((iha g Lv _ _ (by omega) (cb j hb Lv)).blank (by decide)).name (by decide) gN).blank (by decide)) vU).blank (by decide)).name (by decide) vU
 | @«repeat» n p c a hc ha iha =>
  intro f Lv r i hd j hb; obtain ⟨g,rfl,o,s⟩ := xt hd; rw [zk2,zhz,show va ++ (10 :: (zW g Lv a.subs ++ (zR Lv ++ (jq ++ (32 :: zg g c))))) ++ r = va ++ (10 :: (zW g Lv a.subs ++ (zR Lv ++ (jq ++ (32 :: (zg g c ++ r)))))) by simp,show va :: (zK g a ++ (jq :: zh g c)) ++ i = va :: (zK g a ++ (jq :: (zh g c ++ i))) by simp]
  exact ((iha g Lv _ _ (by omega) (fo (((kx hc g _ _ s j hb).blank (by decide)).name (by decide) vU) Lv)).blank (by decide)).name (by decide) gN
 | ret => intro f Lv r i hd j hb; obtain ⟨g,rfl,-⟩ := xZ hd; rw [zk1,zie]; exact j.name (by decide) hb
 | @ret1 n p e he =>
  intro f Lv r i hd j hb; obtain ⟨g,rfl,o⟩ := vk hd; rw [zii,zfi,show xK ++ (32 :: zg g e) ++ r = xK ++ (32 :: (zg g e ++ r)) by simp]
  exact ((kx he g _ _ o j hb).blank (by decide)).name (by decide) vU
 | builtD hkd hd hk => exact lg (by omega) (kx hd) hd.firstC
 | builtE hkd he => exact lg (by omega) (kx he) he.firstC
theorem Lx.semi {r : List UInt8} {ws : List (List UInt8)} (h : Lx r ws) : Lx (59 :: r) (zE :: ws) := h.sign (by decide) (.inl (by decide)) (.inl (by decide))
theorem rD {r : List UInt8} : Brk (59 :: r) := ym (by decide)
theorem tO {k : Int} {x : List UInt8} {m p : Int} {l : List T} (hx : zF x = true) {r : List UInt8} {ws : List (List UInt8)} (h : Lx r ws) (hb : Brk r) : Lx (yK (.mk k x m p l) ++ r) (xA (.mk k x m p l) ++ ws) := by
 unfold yK xA
 split
 ·have e : (T.mk k x m p l).name ++ [42] ++ r = x ++ (42 :: r) := by simp [T.name]
  rw [e]
  exact (h.sign (by decide) (.inl (by decide)) (.inl (by decide))).name (xD hx) (ym (by decide))
 ·exact h.name (xD hx) hb
theorem sL {r : List UInt8} {ws : List (List UInt8)} (h : Lx r ws) : Lx (58 :: 32 :: r) (xk :: ws) := (h.blank (by decide)).sign (by decide) (.inl (by decide)) (.inr (by show ((32 : UInt8).toNat : Int) ≠ 61; decide))
theorem zfx {r : List UInt8} {ws : List (List UInt8)} (h : Lx r ws) : Lx (32 :: 61 :: 32 :: r) (qO :: ws) := ((h.blank (by decide)).sign (by decide) (.inl (by decide)) (.inl (by decide))).blank (by decide)
def LxP (tx : T -> List UInt8) (wf : T -> List (List UInt8)) (t : T) : Prop := ∀ r ws,Lx r ws -> Brk r -> Lx (tx t ++ r) (wf t ++ ws)
theorem zcv {kd : Int} {t : T} (h : VD kd t) : LxP zG yt t := by
 cases h with
 | @mk x m p y hx hm hy =>
  intro r b d e
  unfold zG yt
  rw [yv,show yK (.mk kd x m p [y]) ++ ([58,32] ++ zB y) ++ r = yK (.mk kd x m p [y]) ++ (58 :: 32 :: (zB y ++ r)) by simp,show xA (.mk kd x m p [y]) ++ (xk :: xX y) ++ b = xA (.mk kd x m p [y]) ++ (xk :: (xX y ++ b)) by simp]
  exact tO hx (sL (dU hy d e)) (ym (by decide))
theorem zia {t : T} (h : VL t) : LxP zG yt t := by
 cases h with
 | mk hx hy => exact zcv (.mk hx (.inl rfl) hy)
theorem zib {t : T} (h : PD t) : LxP yf xx t := by
 cases h with
 | @mk x m p y hx hm hy =>
  intro r b g i; have f := (sL (dU hy g i)).name (xD hx) (ym (by decide))
  rcases hm with rfl | rfl
  ·have d : yf (.mk 8 x 0 p [y]) ++ r = x ++ (58 :: 32 :: (zB y ++ r)) := by simp [yf,T.num,T.name,yv]
   have e : xx (.mk 8 x 0 p [y]) ++ b = x :: (xk :: (xX y ++ b)) := by simp [xx,T.num,T.name,yv]
   rw [d,e]
   exact f
  ·have d : yf (.mk 8 x 1 p [y]) ++ r = vE ++ (32 :: (x ++ (58 :: 32 :: (zB y ++ r)))) := by simp [yf,T.num,T.name,yv,vE]
   have e : xx (.mk 8 x 1 p [y]) ++ b = vE :: (x :: (xk :: (xX y ++ b))) := by simp [xx,T.num,T.name,yv]
   rw [d,e]
   exact (f.blank (by decide)).name (by decide) vU
theorem ziq {f : Nat} {t : T} (h : CD t) (hd : zA t <= f + 1) : LxP (xJ f) (vJ f) t := by
 cases h with
 | @mk x m p e hx hm he =>
  obtain ⟨_,_,_⟩ := vk hd; intro r b d g
  unfold xJ vJ
  rw [yv,show yK (.mk 4 x m p [e]) ++ ([32,61,32] ++ zg f e) ++ r = yK (.mk 4 x m p [e]) ++ (32 :: 61 :: 32 :: (zg f e ++ r)) by simp,show xA (.mk 4 x m p [e]) ++ (qO :: zh f e) ++ b = xA (.mk 4 x m p [e]) ++ (qO :: (zh f e ++ b)) by simp]
  exact tO hx (zfx (kx he f _ _ (by omega) d g)) vU
theorem aC {l : List T} (hl : ∀ e ∈ l,VD 11 e) {r : List UInt8} {ws : List (List UInt8)} (h : Lx r ws) : Lx (zZ (fun x => zG x ++ [59,32]) l ++ r) (yT (xe yt) l ++ ws) := by
 induction l with
 | nil => exact h
 | cons t l ih =>
  have ih := ih (fun e he => hl e (by simp [he]))
  have b : zZ (fun x => zG x ++ [59,32]) (t :: l) ++ r = zG t ++ (59 :: 32 :: (zZ (fun x => zG x ++ [59,32]) l ++ r)) := by simp [zZ]
  have d : yT (xe yt) (t :: l) ++ ws = yt t ++ (zE :: (yT (xe yt) l ++ ws)) := by simp [yT,xe]
  rw [b,d]
  exact zcv (hl t (by simp)) _ _ ((ih.blank (by decide)).semi) rD
theorem zh2 {t : T} (h : TYk t) : LxP xN uf t := by
 intro r d j hb; cases h with
 | @array m p y h0 i g =>
  have e : xN (.mk 9 [] m p [y]) ++ r = jy ++ (32 :: (vy m ++ (32 :: (kOF ++ (32 :: (zB y ++ r)))))) := by simp [xN,T.kind,T.num,yv,jy,kOF]
  have f : uf (.mk 9 [] m p [y]) ++ d = jy :: (vy m :: (kOF :: (xX y ++ d))) := by simp [uf,T.kind,T.num,yv]
  rw [e,f]
  exact (((((((dU g j hb).blank (by decide)).name (by decide) vU).blank (by decide)).num h0 i (vU (r := _)).digit)).blank (by decide)).name (by decide) vU
 | @pointer p y g =>
  have e : xN (.mk 12 [] 0 p [y]) ++ r = vN ++ (32 :: (kTO ++ (32 :: (zB y ++ r)))) := by simp [xN,T.kind,yv,vN,kTO]
  have f : uf (.mk 12 [] 0 p [y]) ++ d = vN :: (kTO :: (xX y ++ d)) := by simp [uf,T.kind,yv]
  rw [e,f]
  exact ((((dU g j hb).blank (by decide)).name (by decide) vU).blank (by decide)).name (by decide) vU
 | @record p b l hb' hl =>
  have i := aC hl (j.name (w := yD) (by decide) hb)
  rcases nn hb' with ⟨n,q,rfl⟩ | ⟨n,g⟩
  ·have e : xN (.mk 10 [] 0 p (.mk 0 [] 0 q [] :: l)) ++ r = vI ++ (32 :: (zZ (fun x => zG x ++ [59,32]) l ++ (yD ++ r))) := by simp [xN,T.kind,yv,T.subs,vI,yD]
   have f : uf (.mk 10 [] 0 p (.mk 0 [] 0 q [] :: l)) ++ d = vI :: (yT (xe yt) l ++ (yD :: d)) := by simp [uf,T.kind,yv,T.subs]
   rw [e,f]
   exact (i.blank (by decide)).name (by decide) vU
  ·have e : xN (.mk 10 [] 0 p (b :: l)) ++ r = vI ++ (32 :: (40 :: (zB b ++ (41 :: 32 :: (zZ (fun x => zG x ++ [59,32]) l ++ (yD ++ r)))))) := by
    unfold xN
    rw [if_neg (by simp [T.kind]),if_neg (by simp [T.kind]),yv,if_neg n]
    simp [T.subs,vI,yD]
   have f : uf (.mk 10 [] 0 p (b :: l)) ++ d = vI :: (yw :: (xX b ++ (xd :: (yT (xe yt) l ++ (yD :: d))))) := by
    unfold uf
    rw [if_neg (by simp [T.kind]),if_neg (by simp [T.kind]),yv,if_neg n]
    simp [T.subs]
   rw [e,f]
   have o : hdB (zB b ++ (41 :: 32 :: (zZ (fun x => zG x ++ [59,32]) l ++ (yD ++ r)))) ≠ 42 := by
    cases g with
    | @own x q hx => exact (qC hx).hd.1
    | @of x z q q' hx hz =>
     have s : zB (.mk 13 x 0 q [.mk 24 z 0 q' []]) = z ++ (46 :: x) := by simp [zB,T.subs,T.name]
     rw [s,List.append_assoc]
     exact (qC hz).hd.1
   exact (((dU g ((i.blank (by decide)).sign (by decide) (.inl (by decide)) (.inl (by decide))) (ym (by decide))).sign (by decide) (.inr o) (.inl (by decide))).blank (by decide)).name (by decide) vU
theorem zjb {t : T} (h : TD t) : LxP xM vK t := by
 cases h with
 | @mk x m p y hx hm hy =>
  intro r b d e
  unfold xM vK
  rw [yv,show yK (.mk 5 x m p [y]) ++ ([32,61,32] ++ xN y) ++ r = yK (.mk 5 x m p [y]) ++ (32 :: 61 :: 32 :: (xN y ++ r)) by simp,show xA (.mk 5 x m p [y]) ++ (qO :: uf y) ++ b = xA (.mk 5 x m p [y]) ++ (qO :: (uf y ++ b)) by simp]
  exact tO hx (zfx (zh2 hy _ _ d e)) vU
theorem tH {k : List UInt8} {tx : T -> List UInt8} {wf : T -> List (List UInt8)} (hk : jE k = true) {l : List T} (hl : ∀ t ∈ l,LxP tx wf t) {r : List UInt8} {ws : List (List UInt8)} (h : Lx r ws) : Lx (zO k tx l ++ r) (ys k wf l ++ ws) := by
 cases l with
 | nil => exact h
 | cons t l =>
  have d : zO k tx (t :: l) ++ r = k ++ (10 :: (zZ (fun t => zR 1 ++ (tx t ++ [59,10])) (t :: l) ++ r)) := by
   unfold zO
   rw [if_neg (by simp),cE]
   simp
  have f : ys k wf (t :: l) ++ ws = k :: (yT (xe wf) (t :: l) ++ ws) := by simp [ys]
  rw [d,f]
  have b : ∀ (l : List T),(∀ t ∈ l,LxP tx wf t) -> Lx (zZ (fun t => zR 1 ++ (tx t ++ [59,10])) l ++ r) (yT (xe wf) l ++ ws) := by
   intro l
   induction l with
   | nil => intro _; exact h
   | cons u l ih =>
    intro hl; have ih := ih (fun e he => hl e (by simp [he]))
    have g : zZ (fun t => zR 1 ++ (tx t ++ [59,10])) (u :: l) ++ r = zR 1 ++ (tx u ++ (59 :: 10 :: (zZ (fun t => zR 1 ++ (tx t ++ [59,10])) l ++ r))) := by simp [zZ]
    have i : yT (xe wf) (u :: l) ++ ws = wf u ++ (zE :: (yT (xe wf) l ++ ws)) := by simp [yT,xe]
    rw [g,i]
    exact fo (hl u (by simp) _ _ ((ih.blank (by decide)).semi) rD) 1
  exact ((b (t :: l) hl).blank (by decide)).name hk gN
theorem bz {c : UInt8} (hc : kN.contains c = true /\ c ≠ 40 /\ c ≠ 58 /\ c ≠ 60 /\ c ≠ 62 /\ lod (c.toNat : Int) = false) {tx : T -> List UInt8} {wf : T -> List (List UInt8)} {l : List T} (hl : ∀ e ∈ l,LxP tx wf e) {r : List UInt8} {ws : List (List UInt8)} (hr : Lx r ws) (hb : Brk r) : Lx (zM [c,32] (l.map tx) ++ r) (xi [c] (l.map wf) ++ ws) := by
 induction l with
 | nil => exact hr
 | cons t l ih =>
  cases l with
  | nil => exact hl t (by simp) r ws hr hb
  | cons u l =>
   have b : zM [c,32] ((t :: u :: l).map tx) ++ r = tx t ++ (c :: (32 :: (zM [c,32] ((u :: l).map tx) ++ r))) := by
    show (tx t ++ ([c,32] ++ zM [c,32] ((u :: l).map tx))) ++ r = _
    simp
   have d : xi [c] ((t :: u :: l).map wf) ++ ws = wf t ++ ([c] :: (xi [c] ((u :: l).map wf) ++ ws)) := by
    show (wf t ++ ([c] :: xi [c] ((u :: l).map wf))) ++ ws = _
    simp
   rw [b,d]
   exact hl t (by simp) _ _ (((ih (fun e he => hl e (by simp [List.mem_cons.1 he]))).blank (by decide)).sign hc.1 (.inl hc.2.1) (.inl ⟨hc.2.2.1,hc.2.2.2.1,hc.2.2.2.2.1⟩)) (ym hc.2.2.2.2.2)
theorem zbj {l : List T} (hl : ∀ e ∈ l,PD e) {r : List UInt8} (hr : hdB r ≠ 42) : hdB (zM [59,32] (l.map yf) ++ r) ≠ 42 := by
 cases l with
 | nil => exact hr
 | cons t l =>
  have b : FirstC (yf t) := by
   cases hl t (by simp) with
   | @mk x m p y hx hm hy =>
    unfold yf
    split
    ·exact ⟨86,_,rfl,by decide,by decide⟩
    ·rw [List.nil_append]; exact (qC hx).app
  cases l with
  | nil => exact b.hd.1
  | cons u l =>
   have d : zM [59,32] ((t :: u :: l).map yf) ++ r = yf t ++ ([59,32] ++ zM [59,32] ((u :: l).map yf) ++ r) := by
    show (yf t ++ ([59,32] ++ zM [59,32] ((u :: l).map yf))) ++ r = _
    simp
   rw [d]
   exact b.hd.1
theorem zfc {f : Nat} {t : T} (h : PR t) (hd : zA t <= f + 1) {r : List UInt8} {ws : List (List UInt8)} (hr : Lx r ws) : Lx (vc f t ++ r) (xe (uE f) t ++ ws) := by
 cases h with
 | @mk x m p q1 q2 ps vs rr b hx hm hps hrr hvs hb =>
  have o : zA b <= f := by
   rw [zA] at hd; simp only [yM] at hd
   omega
  have s : vc f (.mk 7 x m p [.mk 1 [] 0 q1 ps,rr,.mk 1 [] 0 q2 vs,b]) ++ r = yk ++ (32 :: (yK (.mk 7 x m p [.mk 1 [] 0 q1 ps,rr,.mk 1 [] 0 q2 vs,b]) ++ ((if ps.isEmpty && rr.kind == 0 then [] else 40 :: (zM [59,32] (ps.map yf) ++ [41])) ++ ((if rr.kind = 0 then [] else [58,32] ++ zB rr) ++ (59 :: 10 ::
   (zO vE zG vs ++ (yZ ++ (10 :: (zW f 0 b.subs ++ (yD ++ (32 :: (x ++ (59 :: 10 :: r))))))))))))) := by
   show ([80,82,79,67,69,68,85,82,69,32] ++ (yK (.mk 7 x m p [.mk 1 [] 0 q1 ps,rr,.mk 1 [] 0 q2 vs,b]) ++ ((if ps.isEmpty && rr.kind == 0 then [] else 40 :: (zM [59,32] (ps.map yf) ++ [41])) ++ ((if rr.kind = 0 then [] else [58,32] ++ zB rr) ++ ([59,10] ++
    (zO VARw zG vs ++ ([66,69,71,73,78,10] ++ (zW f 0 b.subs ++ ([69,78,68,32] ++ (x ++ [59,10])))))))))) ++ r = _
   simp [yk,yZ,yD,VARw,vE]
  have u : xe (uE f) (.mk 7 x m p [.mk 1 [] 0 q1 ps,rr,.mk 1 [] 0 q2 vs,b]) ++ ws = yk :: (xA (.mk 7 x m p [.mk 1 [] 0 q1 ps,rr,.mk 1 [] 0 q2 vs,b]) ++ ((if ps.isEmpty && rr.kind == 0 then [] else yw :: (xi zE (ps.map xx) ++ [xd])) ++ ((if rr.kind = 0 then [] else xk :: xX rr) ++ (zE ::
   (ys vE yt vs ++ (yZ :: (zK f b ++ (yD :: x :: zE :: ws)))))))) := by
   show (yk :: (xA (.mk 7 x m p [.mk 1 [] 0 q1 ps,rr,.mk 1 [] 0 q2 vs,b]) ++ ((if ps.isEmpty && rr.kind == 0 then [] else yw :: (xi zE (ps.map xx) ++ [xd])) ++ ((if rr.kind = 0 then [] else xk :: xX rr) ++ (zE ::
    (ys vE yt vs ++ (yZ :: (zK f b ++ [yD,x]))))))) ++ [zE]) ++ ws = _
   simp
  rw [s,u]; have v := ((((zf1 hb f 0 _ _ (by omega) ((((hr.blank (c := 10) (by decide)).semi).name (xD hx) rD).blank (c := 32) (by decide) |>.name (w := yD) (by decide) vU)).blank (c := 10) (by decide)).name (w := yZ) (by decide) gN)); have l := ((tH (k := vE) (by decide) (fun e he => zia (hvs e he)) v).blank (c := 10) (by decide)).semi
  have d : Lx ((if rr.kind = 0 then [] else [58,32] ++ zB rr) ++ (59 :: 10 :: (zO vE zG vs ++ (yZ ++ (10 :: (zW f 0 b.subs ++ (yD ++ (32 :: (x ++ (59 :: 10 :: r)))))))))) ((if rr.kind = 0 then [] else xk :: xX rr) ++ (zE :: (ys vE yt vs ++ (yZ :: (zK f b ++ (yD :: x :: zE :: ws)))))) /\ Brk ((if rr.kind = 0 then [] else [58,32] ++ zB rr) ++ (59 :: 10 :: (zO vE zG vs ++ (yZ ++ (10 :: (zW f 0 b.subs ++ (yD ++ (32 :: (x ++ (59 :: 10 :: r)))))))))) := by
   rcases nn hrr with ⟨g,q,rfl⟩ | ⟨g,y⟩
   ·rw [if_pos g,if_pos g]; exact ⟨l,rD⟩
   ·rw [if_neg g,if_neg g]
    exact ⟨by simpa using sL (dU y l rD),ym (by decide)⟩
  generalize C : (if rr.kind = 0 then [] else [58,32] ++ zB rr) ++ (59 :: 10 :: (zO vE zG vs ++ (yZ ++ (10 :: (zW f 0 b.subs ++ (yD ++ (32 :: (x ++ (59 :: 10 :: r))))))))) = X at d ⊢
  obtain ⟨d,j⟩ := d
  have n : Lx ((if ps.isEmpty && rr.kind == 0 then [] else 40 :: (zM [59,32] (ps.map yf) ++ [41])) ++ X) ((if ps.isEmpty && rr.kind == 0 then [] else yw :: (xi zE (ps.map xx) ++ [xd])) ++ ((if rr.kind = 0 then [] else xk :: xX rr) ++ (zE :: (ys vE yt vs ++ (yZ :: (zK f b ++ (yD :: x :: zE :: ws))))))) /\ Brk ((if ps.isEmpty && rr.kind == 0 then [] else 40 :: (zM [59,32] (ps.map yf) ++ [41])) ++ X) := by
   by_cases i : (ps.isEmpty && rr.kind == 0) = true
   ·rw [if_pos i,if_pos i]; exact ⟨d,j⟩
   ·rw [if_neg i,if_neg i]
    refine ⟨?_,ym (by decide)⟩; have z := (bz (c := 59) (by decide) (fun e he => zib (hps e he)) (d.sign (c := 41) (by decide) (.inl (by decide)) (.inl (by decide))) (ym (by decide))).sign (c := 40) (by decide) (.inr (zbj hps (by show ((41 : UInt8).toNat : Int) ≠ 42; decide))) (.inl (by decide))
    have A : 40 :: (zM [59,32] (ps.map yf) ++ [41]) ++ X = 40 :: (zM [59,32] (ps.map yf) ++ (41 :: X)) := by simp
    have B : ∀ W,yw :: (xi zE (ps.map xx) ++ [xd]) ++ W = yw :: (xi zE (ps.map xx) ++ (xd :: W)) := fun W => by simp
    rw [A,B]
    exact z
  exact ((tO hx n.1 n.2).blank (by decide)).name (by decide) vU
theorem zan {f : Nat} {l : List T} (hl : ∀ e ∈ l,PR e) (hd : ∀ e ∈ l,zA e <= f + 1) {r : List UInt8} {ws : List (List UInt8)} (hr : Lx r ws) : Lx (zZ (vc f) l ++ r) (yT (xe (uE f)) l ++ ws) := by
 induction l with
 | nil => exact hr
 | cons t l ih =>
  have ih := ih (fun e he => hl e (by simp [he])) (fun e he => hd e (by simp [he])); rw [zZ,yT,List.append_assoc,List.append_assoc]
  exact zfc (hl t (by simp)) (hd t (by simp)) ih
theorem zje {l : List T} (hl : ∀ e ∈ l,IM e) {r : List UInt8} {ws : List (List UInt8)} (hr : Lx r ws) : Lx (xm l ++ r) (xy l ++ ws) := by
 cases l with
 | nil => exact hr
 | cons t l =>
  have b : xm (t :: l) ++ r = uJ ++ (32 :: (zM [44,32] ((t :: l).map T.name) ++ (59 :: 10 :: r))) := by
   show ([73,77,80,79,82,84,32] ++ (zM [44,32] ((t :: l).map T.name) ++ [59,10])) ++ r = _
   simp [uJ]
  have d : xy (t :: l) ++ ws = uJ :: (xi [44] ((t :: l).map fun t => [t.name]) ++ (zE :: ws)) := by
   show (uJ :: (xi yq ((t :: l).map fun t => [t.name]) ++ [zE])) ++ ws = _
   simp [yq]
  rw [b,d]
  have f : ∀ e ∈ t :: l,LxP T.name (fun t => [t.name]) e := fun e he r ws hr hb => by
   cases hl e he with
   | mk hx => exact hr.name (xD hx) hb
  exact ((bz (c := 44) (by decide) f ((hr.blank (c := 10) (by decide)).semi) rD).blank (by decide)).name (by decide) vU
theorem zhy {f : Nat} {t : T} (h : RM t) (hd : zA t <= f + 1) : Lx (zP f t) (qc f t) := by
 cases h with
 | @mk x p q1 q2 q3 q4 q5 is cs ts vs ps b hx his hcs hts hvs hps hb =>
  have d : yM cs <= f /\ yM ps <= f /\ zA b <= f := by
   simp only [zA,yM] at hd; refine ⟨by omega,by omega,by omega⟩
  have j : zP f (.mk 2 x 0 p [.mk 1 [] 0 q1 is,.mk 1 [] 0 q2 cs,.mk 1 [] 0 q3 ts,.mk 1 [] 0 q4 vs,.mk 1 [] 0 q5 ps,b]) = jI ++ (32 :: (x ++ (59 :: 10 :: (xm is ++ (zO uD (xJ f) cs ++ (zO jT xM ts ++ (zO vE zG vs ++ (zZ (vc f) ps ++ ((if b.subs.isEmpty then [] else yZ ++ (10 :: zW f 0 b.subs)) ++ (yD ++ (32 :: (x ++ [46,10])))))))))))) := rfl
  have l : qc f (.mk 2 x 0 p [.mk 1 [] 0 q1 is,.mk 1 [] 0 q2 cs,.mk 1 [] 0 q3 ts,.mk 1 [] 0 q4 vs,.mk 1 [] 0 q5 ps,b]) = jI :: x :: zE :: (xy is ++ (ys uD (vJ f) cs ++ (ys jT vK ts ++ (ys vE yt vs ++
   (yT (xe (uE f)) ps ++ ((if b.subs.isEmpty then [] else yZ :: zK f b) ++ [yD,x,vG])))))) := rfl
  rw [j,l]; have i : Lx (yD ++ (32 :: (x ++ [46,10]))) [yD,x,vG] := ((((Lx.nil.blank (c := 10) (by decide)).sign (c := 46) (by decide) (.inl (by decide)) (.inl (by decide))).name (xD hx) (ym (by decide))).blank (by decide)).name (by decide) vU
  have m : Lx ((if b.subs.isEmpty then [] else yZ ++ (10 :: zW f 0 b.subs)) ++ (yD ++ (32 :: (x ++ [46,10])))) ((if b.subs.isEmpty then [] else yZ :: zK f b) ++ [yD,x,vG]) := by
   by_cases g : b.subs.isEmpty = true
   ·rw [if_pos g,if_pos g]; exact i
   ·rw [if_neg g,if_neg g]
    have n := ((zf1 hb f 0 _ _ (by omega) i).blank (c := 10) (by decide)).name (w := yZ) (by decide) gN
    have o : yZ ++ (10 :: zW f 0 b.subs) ++ (yD ++ (32 :: (x ++ [46,10]))) = yZ ++ (10 :: (zW f 0 b.subs ++ (yD ++ (32 :: (x ++ [46,10]))))) := by simp
    rw [o]
    exact n
  have r := zje his (tH (k := uD) (by decide) (fun e he => ziq (f := f) (hcs e he) (by have := vv d.1 e he; omega)) (tH (k := jT) (by decide) (fun e he => zjb (hts e he)) (tH (k := vE) (by decide) (fun e he => zcv (hvs e he)) (zan (f := f) hps (fun e he => by have := vv d.2.1 e he; omega) m))))
  exact ((((r.blank (c := 10) (by decide)).semi).name (xD hx) rD).blank (by decide)).name (by decide) vU
theorem rN {L : List Tok} (k : Nat) : wd L k = ((L.map Prod.fst)[k]?).getD [] := by
 unfold wd
 rw [List.getElem?_map]
 cases L[k]? <;> rfl
theorem zg8 {L : List Tok} {ws : List (List UInt8)} (h : L.map Prod.fst = ws ++ [[]]) : AtW L 0 ws /\ wd L ws.length = [] := by
 refine ⟨fun k w hk => ?_,?_⟩
 ·have b : k < ws.length := by
   rcases Nat.lt_or_ge k ws.length with d | d
   ·exact d
   ·rw [List.getElem?_eq_none d] at hk; cases hk
  rw [Nat.zero_add,rN,h,List.getElem?_append_left b,hk]
  rfl
 ·rw [rN,h,List.getElem?_append_right (Nat.le_refl _),Nat.sub_self]
  rfl
theorem ik {t : T} (h : RM t) {f : Nat} (hd : zA t <= f + 1) : ∃ l,jm (zP f t) = .ok l /\ ∀ L : List Tok,L.map Prod.fst = l.map Prod.fst -> ∃ u j,vr L 0 = .ok (u,j) /\ Same t u := by
 obtain ⟨l,b,d⟩ := zhy h hd ((zP f t).length + 1) (Nat.lt_succ_self _); refine ⟨l,b,fun L hL => ?_⟩; obtain ⟨e,g⟩ := zg8 (hL.trans d); obtain ⟨u,m,n⟩ := zca (i := 0) (j := (qc f t).length) h hd e (by omega) g
 exact ⟨u,_,m,n⟩
/-! ### The text doesn't hang on places -/
theorem Same.parts {t u : T} (h : Same t u) : t.kind = u.kind /\ t.name = u.name /\ t.num = u.num /\ SameL t.subs u.subs := by
 cases h with
 | mk h => exact ⟨rfl,rfl,rfl,h⟩
theorem SameL.get {l m : List T} (h : SameL l m) (i : Nat) : Same (l[i]?.getD (.mk 0 [] 0 0 [])) (m[i]?.getD (.mk 0 [] 0 0 [])) := by
 induction l generalizing m i with
 | nil => cases h; exact .mk .nil
 | cons t l ih =>
  cases h with
  | cons h hl =>
   cases i with
   | zero => exact h
   | succ i => simpa using ih hl i
theorem Same.sub {t u : T} (h : Same t u) (i : Nat) : Same (yo t i) (yo u i) := h.parts.2.2.2.get i
theorem SameL.drop {l m : List T} (h : SameL l m) (k : Nat) : SameL (l.drop k) (m.drop k) := by
 induction k generalizing l m with
 | zero => exact h
 | succ k ih =>
  cases h with
  | nil => simpa using SameL.nil
  | cons h hl => simpa using ih hl
theorem SameL.map {α : Type} {l m : List T} (h : SameL l m) {f : T -> α} (hf : ∀ t u,Same t u -> f t = f u) : l.map f = m.map f := by
 induction l generalizing m with
 | nil => cases h; rfl
 | cons t l ih =>
  cases h with
  | cons h hl => rw [List.map_cons,List.map_cons,hf _ _ h,ih hl]
theorem SameL.len {l m : List T} (h : SameL l m) : l.length = m.length := by
 have := congrArg List.length (h.map (f := fun _ => ()) (fun _ _ _ => rfl))
 simpa using this
theorem ot {t u : T} (h : Same t u) : yH t = yH u := by
 obtain ⟨b,d,e,-⟩ := h.parts
 unfold yH
 rw [b,d]
theorem qi {t u : T} (h : Same t u) : zB t = zB u := by
 cases h with
 | @mk k x n p q l m h =>
  cases h with
  | nil => rfl
  | cons h hl =>
   cases hl with
   | nil =>
    show _ ++ (46 :: x) = _ ++ (46 :: x)
    rw [h.parts.2.1]
   | cons h2 hl2 => rfl
theorem kf : ∀ (f : Nat) (t u : T),Same t u -> zg f t = zg f u
 | 0,_,_,_ => rfl
 | f + 1,t,u,h => by
  have ih := kf f; have h0 := h.sub 0; have h1 := h.sub 1; have hm := (h.parts.2.2.2.drop 1).map ih; obtain ⟨k1,k2,k3,-⟩ := h.parts; rw [zg,zg]; simp only [k1,k2,k3,ih _ _ h0,ih _ _ h1,ot h0,ot h1,qi h1,hm]
end Go.Proofs.YtfjgelmllcnokaaGreatDoor
