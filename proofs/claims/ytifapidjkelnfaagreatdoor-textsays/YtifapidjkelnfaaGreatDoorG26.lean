/- The document's texts and the told text: the same lists. -/
import Derived.Test.YtifapidjkelnfaaGreatDoorG23
import Derived.Test.YtifapidjkelnfaaGreatDoorG24
import Derived.Test.YtifapidjkelnfaaGreatDoorG25
import Derived.Test.YtifapidjkelnfaaGreatDoorG02
namespace Go.Proofs.YtifapidjkelnfaaGreatDoor
open Go.RowKit
theorem ks (tx : T -> Bs) (L : Nat) : ∀ l : List T,vx (fun t => zD (L + 1) ++ tx t) l = yz [59] [] tx L l
 | [] => rfl
 | [t] => by simp [vx,yz,zE]
 | t :: u :: l => by
  have ih := ks tx L (u :: l)
  have e : vx (fun t => zD (L + 1) ++ tx t) (t :: u :: l) = (zD (L + 1) ++ tx t) ++ ([59] ++ ([10] ++ vx (fun t => zD (L + 1) ++ tx t) (u :: l))) := rfl
  rw [e,ih]
  simp [yz,zE]
theorem ke (word sep : Bs) (ty : T -> Bs) (l : List T) : (if l.isEmpty then [] else word ++ ([10] ++ zu (fun t => [32,32] ++ (zv t ++ (sep ++ (ty (zI t 0) ++ [59,10])))) l)) = zy word (fun t => zv t ++ (sep ++ ty (zI t 0))) l := by
 unfold zy
 split
 ·rfl
 ·rw [tp]
  simp only [List.append_assoc]
  rfl
theorem re (f : Nat) (l : List T) : (if l.isEmpty then [] else [67,79,78,83,84] ++ ([10] ++ zu (fun t => [32,32] ++ (zv t ++ ([32,61,32] ++ (zl f (zI t 0) ++ [59,10])))) l)) = zy [67,79,78,83,84] (yt f) l := ke _ _ _ _
theorem so (l : List T) : (if l.isEmpty then [] else [84,89,80,69] ++ ([10] ++ zu (fun t => [32,32] ++ (zv t ++ ([32,61,32] ++ (xF (zI t 0) ++ [59,10])))) l)) = zy [84,89,80,69] yu l := ke _ _ _ _
theorem sq (word : Bs) (l : List T) : (if l.isEmpty then [] else word ++ ([10] ++ zu (fun t => [32,32] ++ (zv t ++ ([58,32] ++ (zz (zI t 0) ++ [59,10])))) l)) = zy word zF l := ke _ _ _ _
theorem lh (f L : Nat) (x : Bs) (m p : Int) (u v : T) (us : List T) : uU (zD L) (zl f) (fun u => yr f L u.subs) true (u :: v :: us) ++ (kW (zD L) (fun u => yr f L u.subs) (u :: v :: us) ++ (zD L ++ [69,78,68])) = zD L ++ zZ (f + 1) L (.mk 16 x m p (u :: v :: us)) := by
 rw [bt]; have h := rB L (zl f) (fun u => yr f L u.subs) us; rw [<- h]
 show (zD L ++ ([73,70,32] ++ (zl f u ++ ([32,84,72,69,78,10] ++ (yr f L v.subs ++ uU (zD L) (zl f) (fun u => yr f L u.subs) false us))))) ++ (kW (zD L) (fun u => yr f L u.subs) us ++ (zD L ++ [69,78,68])) = _
 simp
theorem tS (t : T) (u : T) (h : u ∈ t.subs) : zn u <= zn t := by
 obtain ⟨k,x,m,p,l⟩ := t
 have a : zn (T.mk k x m p l) = 1 + zx l := by rw [zn]
 have b := xT (show u ∈ l from h)
 omega
theorem gK {k most : Int} {t : T} (h : Well (.declared k most .typeName) t) : (zF t).length <= 40 := by
 obtain ⟨x,m,p,u,rfl,a,-,-,b⟩ := yO h; have d := xW (t := .mk k x m p [u]) a; have f := xe (vR b)
 have e : zI (.mk k x m p [u]) 0 = u := rfl
 unfold zF
 rw [e]; simp only [la,lc,ln]
 omega
theorem qw {us : List T} (h : ∀ v ∈ us,Well (.declared 11 1 .typeName) v) : (zu (fun x => zF x ++ [59,32]) us).length <= 50 * zx us := by
 refine xV _ 50 us (fun t ht => ?_); have a := gK (h t ht); have b := xc t; simp only [la,lc,ln]
 omega
theorem ji {t : T} (h : TY t) : (xF t).length <= 50 * zn t + 60 := by
 cases h with
 | array m p u h0 h1 a =>
  have b := xe a; have d := jQ m
  have e : xF (.mk 9 [] m p [u]) = [65,82,82,65,89,32] ++ (vC m ++ ([32,79,70,32] ++ zz u)) := by simp [xF,T.kind,T.num,zI,T.subs]
  rw [e]; simp only [la,lc,ln]
  omega
 | pointer p u a =>
  have b := xe a
  have e : xF (.mk 12 [] 0 p [u]) = [80,79,73,78,84,69,82,32,84,79,32] ++ zz u := by simp [xF,T.kind,zI,T.subs]
  rw [e]; simp only [la,lc,ln]
  omega
 | record p u us a hs =>
  have b := qw hs; have d : zn (T.mk 10 [] 0 p (u :: us)) = 1 + zn u + zx us := rJ _ _ _ _ _ _
  have e : xF (.mk 10 [] 0 p (u :: us)) = [82,69,67,79,82,68,32] ++ ((if u.kind = 0 then [] else 40 :: (zz u ++ [41,32])) ++ (zu (fun x => zF x ++ [59,32]) us ++ [69,78,68])) := by simp [xF,T.kind,zI,T.subs]; rfl
  rw [e]
  rcases a with ⟨q,rfl⟩ | ⟨f,a⟩
  ·rw [if_pos (show (T.mk 0 [] 0 q []).kind = 0 from rfl)]
   simp only [la,lc,ln]
   omega
  ·have g := xe a
   rw [if_neg (by rw [f]; decide)]; simp only [la,lc,ln]
   omega
theorem mQ {t : T} (h : TY t) (hc : zn t <= 3000) (w : World) (sv : Value) (ha : AT w t.subs sv) : Calls Tryz.prog 69 #[zq t sv] w (Sy w (.string ⟨(xF t).toArray⟩)) := by
 cases h with
 | array m p u h0 h1 b => exact ty9 m p u sv w ha h0 h1 _ (vY b w)
 | pointer p u b => exact aF p u sv w ha _ (vY b w)
 | record p u us b hs =>
  have l := qw hs; have n : zn (T.mk 10 [] 0 p (u :: us)) = 1 + zn u + zx us := rJ _ _ _ _ _ _
  have f : ∀ t ∈ us,∃ x m q z,t = .mk 11 x m q [z] /\ x.length <= 12 /\ NTx w z (zz z) := fun t ht => by
   obtain ⟨x,m,q,z,e,i,-,-,j⟩ := yO (hs t ht)
   exact ⟨x,m,q,z,e,yi i,vY (vR j) w⟩
  have a : ∀ t,(fun x => zF x ++ [59,32]) t = zv t ++ ([58,32] ++ (zz (zI t 0) ++ [59,32])) := fun t => by simp [zF]
  have e : xF (.mk 10 [] 0 p (u :: us)) = [82,69,67,79,82,68,32] ++ ((if u.kind = 0 then [] else 40 :: (zz u ++ [41,32])) ++ (zu (fun x => zF x ++ [59,32]) us ++ [69,78,68])) := by simp [xF,T.kind,zI,T.subs]; rfl
  rw [e]
  rcases b with ⟨q,rfl⟩ | ⟨d,b⟩
  ·rw [if_pos (show (T.mk 0 [] 0 q []).kind = 0 from rfl)]
   exact cY p _ us sv w ha (fun x => zF x ++ [59,32]) a rfl f (by omega)
  ·rw [if_neg (by rw [d]; decide)]
   have g := bR p u us sv w ha (fun x => zF x ++ [59,32]) a (zz u) (by rw [d]; rfl) (vY b w) f (by omega)
   have k : ([82,69,67,79,82,68,32] ++ [40] ++ zz u ++ [41,32]) ++ (zu (fun x => zF x ++ [59,32]) us ++ [69,78,68]) = [82,69,67,79,82,68,32] ++ (40 :: (zz u ++ [41,32]) ++ (zu (fun x => zF x ++ [59,32]) us ++ [69,78,68])) := by simp
   rw [k] at g
   exact g
theorem xH (k : Int) (x : Bs) (m p : Int) (u : T) : zn (.mk k x m p [u]) = 1 + zn u := rW k x m p u
theorem rU (f : Nat) (l : List T) (H : ∀ v ∈ l,Well (.declared 4 1 .expression) v) (hd : ∀ v ∈ l,zS v <= f) (hc : zx l <= 3000) (w : World) (sl : Value) (ha : AT w l sl) :
  Calls Tryz.prog 40 #[.string ⟨List.toArray [67,79,78,83,84]⟩,sl] w (Sy w (.string ⟨(zy [67,79,78,83,84] (yt f) l).toArray⟩)) := by
 rw [<- re]; refine tr [67,79,78,83,84] 4 l sl (zl f) w ha rfl (fun t ht => ?_) (fun x m p u hm => ?_) (by decide) ?_
 ·obtain ⟨x,m,p,u,e,b,-,-,-⟩ := yO (H t ht)
  exact ⟨x,m,p,u,e,yi b⟩
 ·obtain ⟨i,j,k,n,e,-,-,-,a⟩ := yO (H _ hm)
  cases e; have d := hd _ hm; have r := yp (t := .mk 4 x m p [u]) (u := u) (by simp [T.subs]); have g := xT hm; rw [xH] at g; have h := yU f u a; refine ⟨by omega,fun w' sv _ ha' => (rD f u (by omega) a (by omega) w').2 w' sv (zj w' none) ha'⟩
 ·have s := xV (fun t => [32,32] ++ (zv t ++ ([32,61,32] ++ (zl f (zI t 0) ++ [59,10])))) 60 l (fun t ht => by
   obtain ⟨x,m,p,u,rfl,b,-,-,a⟩ := yO (H t ht); have d := xW (t := .mk 4 x m p [u]) b; have h := yU f u a; rw [xH,show zI (T.mk 4 x m p [u]) 0 = u from rfl]; simp only [la,lc,ln]
   omega)
  omega
theorem pf (l : List T) (H : ∀ v ∈ l,Well (.declared 5 1 .typeItself) v) (hc : zx l <= 3000) (w : World) (sl : Value) (ha : AT w l sl) :
  Calls Tryz.prog 40 #[.string ⟨List.toArray [84,89,80,69]⟩,sl] w (Sy w (.string ⟨(zy [84,89,80,69] yu l).toArray⟩)) := by
 rw [<- so]; refine sA [84,89,80,69] 5 l sl xF w ha rfl (fun t ht => ?_) (fun x m p u hm => ?_) (by decide) ?_
 ·obtain ⟨x,m,p,u,e,b,-,-,-⟩ := yO (H t ht)
  exact ⟨x,m,p,u,e,yi b⟩
 ·obtain ⟨g,h,i,j,e,-,-,-,a⟩ := yO (H _ hm)
  cases e; have d := xT hm; rw [xH] at d; have f := ji (gN a); refine ⟨by omega,fun w' sv _ ha' => mQ (gN a) (by omega) w' sv ha'⟩
 ·have k := xV (fun t => [32,32] ++ (zv t ++ ([32,61,32] ++ (xF (zI t 0) ++ [59,10])))) 150 l (fun t ht => by
   obtain ⟨x,m,p,u,rfl,b,-,-,a⟩ := yO (H t ht); have n := xW (t := .mk 5 x m p [u]) b; have f := ji (gN a); rw [xH,show zI (T.mk 5 x m p [u]) 0 = u from rfl]; simp only [la,lc,ln]
   omega)
  omega
theorem gJ (most : Int) (l : List T) (H : ∀ v ∈ l,Well (.declared 6 most .typeName) v) (hc : zx l <= 3000) (w : World) (sl : Value) (ha : AT w l sl) :
  Calls Tryz.prog 40 #[.string ⟨List.toArray [86,65,82]⟩,sl] w (Sy w (.string ⟨(zy VARw zF l).toArray⟩)) := by
 rw [<- sq]; refine tJ VARw 6 l sl zz w ha rfl (fun t ht => ?_) (fun x m p u hm => ?_) (by decide) ?_
 ·obtain ⟨x,m,p,u,e,b,-,-,-⟩ := yO (H t ht)
  exact ⟨x,m,p,u,e,yi b⟩
 ·obtain ⟨f,g,h,i,e,-,-,-,a⟩ := yO (H _ hm)
  cases e; have d := xe (vR a); refine ⟨by omega,fun w' sv _ ha' => (vY (vR a) w').2 w' sv (zj w' none) ha'⟩
 ·have j := xV (fun t => [32,32] ++ (zv t ++ ([58,32] ++ (zz (zI t 0) ++ [59,10])))) 50 l (fun t ht => by
   obtain ⟨x,m,p,u,rfl,b,-,-,a⟩ := yO (H t ht); have k := xW (t := .mk 6 x m p [u]) b; have d := xe (vR a); have n := xc u; rw [xH,show zI (T.mk 6 x m p [u]) 0 = u from rfl]; simp only [la,lc,ln]
   omega)
  omega
end Go.Proofs.YtifapidjkelnfaaGreatDoor
