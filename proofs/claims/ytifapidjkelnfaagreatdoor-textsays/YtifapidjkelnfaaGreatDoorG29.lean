/- The document's texts: every act. -/
import Derived.Test.YtifapidjkelnfaaGreatDoorG26
import Derived.Test.YtifapidjkelnfaaGreatDoorG02
import Derived.Test.YtifapidjkelnfaaGreatDoorG28
namespace Go.Proofs.YtifapidjkelnfaaGreatDoor
open Go.RowKit
theorem jm {f L : Nat} (hL : f + L <= 90) {u : T} (h : Well (.list .act) u) : (yr f L u.subs).length + 300 <= 700 * zn u := by
 obtain ⟨_,a,rfl,b⟩ := yk h; have := jS [59] [] (zZ f (L + 1)) L 700 a (by simp) (fun t ht => by have := fB f (L + 1) t (by omega) (b t ht); simp; omega); rw [zn]; simp only [List.length_cons,List.length_nil] at this; simp only [T.subs,yr]
 omega
theorem nJ (f L : Nat) (hL : f + L <= 90) (ih : ∀ t,zS t <= f -> Well .act t -> zn t <= 3000 -> ∀ w,CTx w t (zD (L + 1)) (zD (L + 1) ++ zZ f (L + 1) t)) (u : T) (hd : zS u <= f + 1) (h : Well (.list .act) u) (hc : zn u <= 3000) (w : World) : STx w u (zD (L + 1)) (yr f L u.subs) := by
 have g := jm hL h; refine ⟨by omega,fun w' sv hg ha => ?_⟩; obtain ⟨p,a,rfl,d⟩ := yk h
 have b : ∀ v ∈ a,zn v <= 3000 := fun v hv => by
  have i := xT hv; rw [zn] at hc
  omega
 have j := zr (L + 1)
 have k := xV (fun t => (zD (L + 1) ++ zZ f (L + 1) t) ++ ([59] ++ [10])) 700 a (fun t ht => by
  have := fB f (L + 1) t (by omega) (d t ht); simp only [la,lc,ln]
  omega)
 rw [zn] at hc; rw [show yr f L (T.mk _ [] _ p a).subs = vx (fun t => zD (L + 1) ++ zZ f (L + 1) t) a from (ks _ _ _).symm]
 exact fj _ [] _ p a (zD (L + 1)) sv (fun t => zD (L + 1) ++ zZ f (L + 1) t) w' ha (fun v hv => ih v (by have := yp (t := T.mk 1 [] 0 p a) (u := v) hv; omega) (d v hv) (b v hv) w') (by show (zu (fun t => (zD (L + 1) ++ zZ f (L + 1) t) ++ ([59] ++ [10])) a).length <= 4000000; omega)
theorem bh {w : World} {P : Bs} {ex ac : T -> Bs} {us : List T} (h : Turns us) : (∀ x ∈ us,Well .expression x -> ETx w x (ex x)) -> (∀ x ∈ us,Well (.list .act) x -> STx w x (P ++ [32,32]) (ac x)) -> Ch w P ex ac us := by
 induction h with
 | nil => intro _ _; exact .nil
 | one x hx => intro _ a; exact .one x (a x (by simp) hx)
 | more x y l hx hy _ ih => intro b a; exact .more x y l (b x (by simp) hx) (a y (by simp) hy) (ih (fun z hz => b z (by simp [hz])) (fun z hz => a z (by simp [hz])))
theorem cw : ∀ (f L : Nat) (t : T),f + L <= 90 -> zS t <= f -> Well .act t -> zn t <= 3000 -> ∀ w,CTx w t (zD L) (zD L ++ zZ f L t) := by
 intro f
 induction f with
 | zero => intro L t _ h; have := uf t; omega
 | succ f ih =>
  intro L t n r h a w; have j := fB (f + 1) L t (by omega) h; have s := zr L
  have b : (zD L).length <= 1000 := by omega
  have d : (zD L ++ zZ (f + 1) L t).length <= 4000000 := by rw [List.length_append]; omega
  have g : ∀ u,u ∈ t.subs -> zn u <= 3000 := fun u hu => by have := tS t u hu; omega
  have E : ∀ u,u ∈ t.subs -> Well .expression u -> ∀ w,ETx w u (zl f u) := fun u hu hw => rD f u (by have := yp hu; omega) hw (g u hu)
  have A : ∀ u,u ∈ t.subs -> Well (.list .act) u -> ∀ w,STx w u (zD L ++ [32,32]) (yr f L u.subs) := fun u hu hw w => by
   rw [<- dW]
   exact nJ f L (by omega) (fun v h1 l h3 => ih (L + 1) v (by omega) h1 l h3) u (by have := yp hu; omega) hw (g u hu) w
  refine ⟨by omega,fun w' sv hg ha => ?_⟩; have H := rp h; clear h; cases H with
  | assign p u v hu hv =>
   rw [bJ]
   exact zav [] 0 p u v (zD L) sv w' ha b _ _ (E u (by simp [T.subs]) (ye hu) w') (E v (by simp [T.subs]) hv w')
  | call p u us hu hs =>
   cases us with
   | nil =>
    rw [ia]
    exact bN [] 0 p u (zD L) sv w' ha b _ (E u (by simp [T.subs]) (ye hu) w')
   | cons v us =>
    rw [ib (f := f) (L := L) (x := []) (m := 0) (p := p) (u := u) (us := v :: us) (by simp)]; have l := vq [44,32] (zl f) 40 (v :: us) (fun z hz => by have := yU f z (hs z hz); simp; omega); rw [rJ] at a
    exact ak [] 0 p u (v :: us) (zD L) sv w' ha b _ (zl f) (E u (by simp [T.subs]) (ye hu) w') (fun z hz => E z (by simp only [T.subs,List.mem_cons]; exact Or.inr (List.mem_cons.1 hz)) (hs z hz) w') (by simp) (by omega)
  | choice m p u v us hm hu hv hs =>
   have i := lh f L [] m p u v us; rw [<- i] at d ⊢; rw [List.length_append] at d; refine aZ m p u v us (zD L) sv w' ha b (zl f) (fun u => yr f L u.subs) hm (.more u v us (E u (by simp [T.subs]) hu w') (A v (by simp [T.subs]) hv w') (bh hs (fun x hx hw => E x (by simp [T.subs,hx]) hw w') (fun x hx hw => A x (by simp [T.subs,hx]) hw w'))) (by omega)
  | loop p u v hu hv =>
   rw [bp]
   exact za0 [] 0 p u v (zD L) sv w' ha b _ _ (E u (by simp [T.subs]) hu w') (A v (by simp [T.subs]) hv w')
  | rept p u v hu hv =>
   rw [ao]
   exact aB [] 0 p u v (zD L) sv w' ha b _ _ (A u (by simp [T.subs]) hu w') (E v (by simp [T.subs]) hv w')
  | ret0 p =>
   have e : zD L ++ zZ (f + 1) L (.mk 19 [] 0 p []) = zD L ++ [82,69,84,85,82,78] := by simp [zZ,T.kind,T.subs]
   rw [e]
   exact ae [] 0 p (zD L) sv w' ha b
  | ret1 p u hu =>
   have e : zD L ++ zZ (f + 1) L (.mk 19 [] 0 p [u]) = zD L ++ ([82,69,84,85,82,78,32] ++ zl f u) := by simp [zZ,T.kind,T.subs,zI]
   rw [e]
   exact bM [] 0 p u (zD L) sv w' ha b _ (E u (by simp [T.subs]) hu w')
  | word k p u hk hu =>
   have e : zD L ++ zZ (f + 1) L (.mk k [] 0 p [u]) = zD L ++ (vG k ++ ([40] ++ (zl f u ++ [41]))) := by rcases hk with rfl | rfl | rfl | rfl <;> simp [zZ,T.kind,zI,T.subs]
   rw [e]
   exact za2 k [] 0 p u (zD L) sv w' ha b _ (E u (by simp [T.subs]) hu w') hk
theorem gS (f : Nat) (hf : f <= 80) (u : T) (hd : zS u <= f + 1) (h : Well (.list .act) u) (hc : zn u <= 3000) (w : World) : STx w u [32,32] (yr f 0 u.subs) :=
 nJ f 0 (by omega) (fun t h1 h2 h3 => cw f 1 t (by omega) h1 h2 h3) u hd h hc w
end Go.Proofs.YtifapidjkelnfaaGreatDoor
