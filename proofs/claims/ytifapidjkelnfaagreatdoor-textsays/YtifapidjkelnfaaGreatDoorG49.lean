/- What is put for an operator of two numbers: tidy.worked. -/
import Derived.Test.YtifapidjkelnfaaGreatDoorG03
import Derived.Test.YtifapidjkelnfaaGreatDoorG02
import Derived.Deep.CutRange
namespace Go.Proofs.YtifapidjkelnfaaGreatDoor
open Go.RowKit
set_option maxHeartbeats 8000000
set_option maxRecDepth 100000
theorem vJ {w : World} {S S' : Nat -> Prop} {t : T} {e : Ending} {w' : World} (h : NL w S t e w') (hs : ∀ k,S k -> S' k) : NL w S' t e w' := by
 obtain ⟨a,b,l,g⟩ := h
 exact ⟨a,b,l.mono hs,g⟩
theorem xw {w : World} (b : Nat) {v0 v1 v2 v3 v4 : Value} : w.grownBy (((((w.setCell ⟨b,0,none⟩ v0).setCell ⟨b,1,none⟩ v1).setCell ⟨b,2,none⟩ v2).setCell ⟨b,3,none⟩ v3).setCell ⟨b,4,none⟩ v4) (some b) := z6 (z6 (z6 (z6 (z6 gr _ _) _ _) _ _) _ _) _ _
theorem jp (m p : Int) (l : List T) (sv : Value) (S : Nat -> Prop) (u v : Int) (w : World) (ha : LR w S l sv) (hu : -2147483647 <= u /\ u <= 2147483647) (hv : -2147483647 <= v /\ v <= 2147483647) (x : Bs) (z : Int) (hx : x = [43] /\ z = arZ (u + v) \/ x = [45] /\ z = arZ (u - v) \/ x = [42] /\ z = arZ (u * v)) : Calls Tryz.prog 165 #[zq (.mk 36 x m p l) sv,.int .i32 u,.int .i32 v] w (NL w (fun k => S k \/ w.heap.size <= k) (xo (.mk 36 x m p l) u v)) := by
 have N := zb ha; obtain ⟨i,j,rfl⟩ := ha.form; clear ha
 change Calls Tryz.prog 165 #[.agg #[.int .i64 36,.string ⟨x.toArray⟩,.int .i64 m,.int .i64 p,.slice i l.length j],.int .i32 u,.int .i32 v] w _
 have J : Hid (NB (w.alloc (.cells #[.int .i64 36,.string ⟨x.toArray⟩,.int .i64 m,.int .i64 p,.slice i l.length j] 24)) w.heap.size (.int .i64 36) (.string ⟨x.toArray⟩) (.int .i64 m) (.int .i64 p) (.slice i l.length j)) := NB.new _ _; have K : Hid (RB ((w.alloc (.cells #[.int .i64 36,.string ⟨x.toArray⟩,.int .i64 m,.int .i64 p,.slice i l.length j] 24)).alloc (.cells #[.int .i64 0,.string ⟨#[]⟩,.int .i64 0,.int .i64 0,.slice none 0 0] 24)) (w.heap.size + 1)) := RB.new' (by simp)
 have g : ¬ zo (T.mk 36 x m p l).name = 0 := by rcases hx with ⟨rfl,rfl⟩ | ⟨rfl,rfl⟩ | ⟨rfl,rfl⟩ <;> (simp only [T.name]; decide)
 have s : Hid (opZ (T.mk 36 x m p l).name u v = some z) := by show _ = _; rcases hx with ⟨rfl,rfl⟩ | ⟨rfl,rfl⟩ | ⟨rfl,rfl⟩ <;> simp [opZ,T.name]
 have HR := qe hu hv s
 have L : Hid (xo (.mk 36 x m p l) u v = if z = -2147483648 then .mk 36 x m p l else jw z p) := by
  show _ = _
  unfold xo
  rw [if_neg g,s.out]
  rfl
 rw [L.out]
 have M : ∀ w',Hid (Calls Tryz.prog 174 #[.string ⟨x.toArray⟩,.int .i32 u,.int .i32 v] w' (Sy w' (.int .i32 z))) := fun w' => by
  rcases hx with ⟨rfl,rfl⟩ | ⟨rfl,rfl⟩ | ⟨rfl,rfl⟩
  ·exact fN u v w'
  ·exact di u v w'
  ·exact dT u v w'
 clear L g s
 by_cases n : z = -2147483648
 ·rw [if_pos n]
  have y : (z == -2147483648) = true := by rw [n]; rfl
  rcases hx with ⟨rfl,-⟩ | ⟨rfl,-⟩ | ⟨rfl,-⟩
  all_goals
   go_enter Tryz.func165,Tryz.ntmps165
   go_wp2_with fail; go_at_call 174; refine ((M _)).mono ?_; rintro e O ⟨rfl,a⟩; have r := za (zf gan _) a; have h := (J.alloc _).kept a (by simp); have d := K.kept a (by simp); obtain ⟨Q,R,U,V,X,Y⟩ := id h; obtain ⟨_,_,_,_,_,A,B,C,D,E,F⟩ := id d; have Z := h.lt; have rl := d.lt; clear a; go_wp2_with fail; refine zP Tryz.results165 rfl (RB.five d) rfl ?_
   exact vJ (xR (x := _) N (yC r (by omega))) (fun k hk => Or.inl hk)
 ·rw [if_neg n]
  have y : (z == -2147483648) = false := bn n
  have HN := fun w' => zb (uJ z p (by omega) (by omega) w')
  generalize jw z p = t at *
  obtain ⟨_,_,_,_,_⟩ := t
  rcases hx with ⟨rfl,-⟩ | ⟨rfl,-⟩ | ⟨rfl,-⟩
  all_goals
   go_enter Tryz.func165,Tryz.ntmps165
   go_wp2_with fail; go_at_call 174; refine ((M _)).mono ?_; rintro e O ⟨rfl,a⟩; have r := za (zf gan _) a; have h := (J.alloc _).kept a (by simp); have d := K.kept a (by simp); obtain ⟨Q,R,U,V,X,Y⟩ := id h; obtain ⟨_,_,_,_,_,A,B,C,D,E,F⟩ := id d; have Z := h.lt; have rl := d.lt; clear a; go_wp2_with fail; go_at_call 175; refine ((HN _)).mono ?_; rintro e w2 ⟨a0,rfl,G,f⟩; have G2 := za r f; have H := d.kept f (by simp); have L2 := zb G; clear A B C D E F; obtain ⟨_,_,_,_,_,A,B,C,D,E,F⟩ := id H; have a1 := H.lt; have I := r.size; obtain ⟨_,_,rfl⟩ := G.form; clear f G; go_wp2_with fail; refine zP Tryz.results165 rfl (RB.five H) rfl ?_; refine ⟨_,rfl,?_,(yC G2 (by omega))⟩
   exact ((L2.bounded).kept (xw (w.heap.size + 1)) (fun b hb hk => by cases hb; have := hk.1; omega)).mono (fun k hk => Or.inr (Nat.le_trans I hk.1))
theorem gQ (m p : Int) (l : List T) (sv : Value) (S : Nat -> Prop) (u v : Int) (w : World) (ha : LR w S l sv) (hu : -2147483647 <= u /\ u <= 2147483647) (hv : -2147483647 <= v /\ v <= 2147483647) (x : Bs) (z : Int) (hx : x = [68,73,86] /\ z = u / v \/ x = [77,79,68] /\ z = u % v) : Calls Tryz.prog 165 #[zq (.mk 36 x m p l) sv,.int .i32 u,.int .i32 v] w (NL w (fun k => S k \/ w.heap.size <= k) (xo (.mk 36 x m p l) u v)) := by
 have K := zb ha; obtain ⟨j,n,rfl⟩ := ha.form; clear ha
 change Calls Tryz.prog 165 #[.agg #[.int .i64 36,.string ⟨x.toArray⟩,.int .i64 m,.int .i64 p,.slice j l.length n],.int .i32 u,.int .i32 v] w _
 have L : Hid (NB (w.alloc (.cells #[.int .i64 36,.string ⟨x.toArray⟩,.int .i64 m,.int .i64 p,.slice j l.length n] 24)) w.heap.size (.int .i64 36) (.string ⟨x.toArray⟩) (.int .i64 m) (.int .i64 p) (.slice j l.length n)) := NB.new _ _; have M : Hid (RB ((w.alloc (.cells #[.int .i64 36,.string ⟨x.toArray⟩,.int .i64 m,.int .i64 p,.slice j l.length n] 24)).alloc (.cells #[.int .i64 0,.string ⟨#[]⟩,.int .i64 0,.int .i64 0,.slice none 0 0] 24)) (w.heap.size + 1)) := RB.new' (by simp)
 have d : ¬ zo (T.mk 36 x m p l).name = 0 := by rcases hx with ⟨rfl,rfl⟩ | ⟨rfl,rfl⟩ <;> (simp only [T.name]; decide)
 by_cases N : v <= 0
 ·have h : Hid (xo (.mk 36 x m p l) u v = .mk 36 x m p l) := by
   show _ = _
   unfold xo
   rw [if_neg d]
   have : opZ (T.mk 36 x m p l).name u v = none := by rcases hx with ⟨rfl,rfl⟩ | ⟨rfl,rfl⟩ <;> simp [opZ,T.name,N]
   rw [this]
  rw [h.out]; clear h d
  rcases hx with ⟨rfl,-⟩ | ⟨rfl,-⟩
  all_goals
   go_enter Tryz.func165,Tryz.ntmps165
   go_wp2_with fail; refine zP Tryz.results165 rfl (NB.new' (by simp)) rfl ?_
   exact vJ (xR (x := _) K (zf gan _)) (fun k hk => Or.inl hk)
 have y : Hid (opZ (T.mk 36 x m p l).name u v = some z) := by show _ = _; rcases hx with ⟨rfl,rfl⟩ | ⟨rfl,rfl⟩ <;> simp [opZ,T.name,N]
 have HR := qe hu hv y
 have h : Hid (xo (.mk 36 x m p l) u v = if z = -2147483648 then .mk 36 x m p l else jw z p) := by
  show _ = _
  unfold xo
  rw [if_neg d,y.out]
  rfl
 rw [h.out]
 have O : ∀ w',Hid (Calls Tryz.prog 174 #[.string ⟨x.toArray⟩,.int .i32 u,.int .i32 v] w' (Sy w' (.int .i32 z))) := fun w' => by
  rcases hx with ⟨rfl,rfl⟩ | ⟨rfl,rfl⟩
  ·exact dR u v w' hu (by omega) (by omega)
  ·exact dB u v w' hu (by omega) (by omega)
 clear h d y
 by_cases r : z = -2147483648
 ·rw [if_pos r]
  have A : (z == -2147483648) = true := by rw [r]; rfl
  rcases hx with ⟨rfl,-⟩ | ⟨rfl,-⟩
  all_goals
   go_enter Tryz.func165,Tryz.ntmps165
   go_wp2_with fail; go_at_call 174; refine ((O _)).mono ?_; rintro e Q ⟨rfl,a⟩; have s := za (zf gan _) a; have i := (L.alloc _).kept a (by simp); have f := M.kept a (by simp); obtain ⟨R,U,V,X,Y,Z⟩ := id i; obtain ⟨_,_,_,_,_,B,C,D,E,F,G⟩ := id f; have bl := i.lt; have rl := f.lt; clear a; go_wp2_with fail; refine zP Tryz.results165 rfl (RB.five f) rfl ?_
   exact vJ (xR (x := _) K (yC s (by omega))) (fun k hk => Or.inl hk)
 ·rw [if_neg r]
  have A : (z == -2147483648) = false := bn r
  have HN := fun w' => zb (uJ z p (by omega) (by omega) w')
  generalize jw z p = t at *
  obtain ⟨_,_,_,_,_⟩ := t
  rcases hx with ⟨rfl,-⟩ | ⟨rfl,-⟩
  all_goals
   go_enter Tryz.func165,Tryz.ntmps165
   go_wp2_with fail; go_at_call 174; refine ((O _)).mono ?_; rintro e Q ⟨rfl,a⟩; have s := za (zf gan _) a; have i := (L.alloc _).kept a (by simp); have f := M.kept a (by simp); obtain ⟨R,U,V,X,Y,Z⟩ := id i; obtain ⟨_,_,_,_,_,B,C,D,E,F,G⟩ := id f; have bl := i.lt; have rl := f.lt; clear a; go_wp2_with fail; go_at_call 175; refine ((HN _)).mono ?_; rintro e w2 ⟨a0,rfl,H,g⟩; have G2 := za s g; have I := f.kept g (by simp); have L2 := zb H; clear B C D E F G; obtain ⟨_,_,_,_,_,B,C,D,E,F,G⟩ := id I; have a1 := I.lt; have J := s.size; obtain ⟨_,_,rfl⟩ := H.form; clear g H; go_wp2_with fail; refine zP Tryz.results165 rfl (RB.five I) rfl ?_; refine ⟨_,rfl,?_,(yC G2 (by omega))⟩
   exact ((L2.bounded).kept (xw (w.heap.size + 1)) (fun b hb hk => by cases hb; have := hk.1; omega)).mono (fun k hk => Or.inr (Nat.le_trans J hk.1))
theorem sH (m p : Int) (l : List T) (sv : Value) (S : Nat -> Prop) (u v : Int) (w : World) (ha : LR w S l sv) (x : Bs) (hx : x = [61] \/ x = [35] \/ x = [60] \/ x = [60,61] \/ x = [62] \/ x = [62,61]) : Calls Tryz.prog 165 #[zq (.mk 36 x m p l) sv,.int .i32 u,.int .i32 v] w (NL w (fun k => S k \/ w.heap.size <= k) (xo (.mk 36 x m p l) u v)) := by
  have F := zb ha; obtain ⟨f,g,rfl⟩ := ha.form; clear ha
  change Calls Tryz.prog 165 #[.agg #[.int .i64 36,.string ⟨x.toArray⟩,.int .i64 m,.int .i64 p,.slice f l.length g],.int .i32 u,.int .i32 v] w _
  have j : Hid (NB (w.alloc (.cells #[.int .i64 36,.string ⟨x.toArray⟩,.int .i64 m,.int .i64 p,.slice f l.length g] 24)) w.heap.size (.int .i64 36) (.string ⟨x.toArray⟩) (.int .i64 m) (.int .i64 p) (.slice f l.length g)) := NB.new _ _; have n : Hid (RB ((w.alloc (.cells #[.int .i64 36,.string ⟨x.toArray⟩,.int .i64 m,.int .i64 p,.slice f l.length g] 24)).alloc (.cells #[.int .i64 0,.string ⟨#[]⟩,.int .i64 0,.int .i64 0,.slice none 0 0] 24)) (w.heap.size + 1)) := RB.new' (by simp)
  have i : Hid (xo (.mk 36 x m p l) u v = vn (yD x u v) p) := by
    show _ = _
    unfold xo
    rw [if_pos (show zo (T.mk 36 x m p l).name = 0 by rcases hx with rfl | rfl | rfl | rfl | rfl | rfl <;> (simp only [T.name]; decide))]
    rfl
  rw [i.out]
  have s : ∀ w',Hid (Calls Tryz.prog 174 #[.string ⟨x.toArray⟩,.int .i32 u,.int .i32 v] w' (Sy w' (.int .i32 (if yD x u v then 1 else 0)))) := fun w' => by
    rcases hx with rfl | rfl | rfl | rfl | rfl | rfl
    · exact sB u v w'
    · exact sS u v w'
    · exact sZ u v w'
    · exact tF u v w'
    · exact tU u v w'
    · exact sP u v w'
  have y := fun w' => zb (jg (yD x u v) p w')
  have G : ((if yD x u v = true then (1 : Int) else 0) == 1) = yD x u v := by cases yD x u v <;> rfl
  clear i
  generalize (if yD x u v = true then (1 : Int) else 0) = z at *
  generalize d : vn (yD x u v) p = t at *
  generalize yD x u v = r at *
  have A : Hid (t.subs = []) := by rw [<- d]; show (vn r p).subs = []; cases r <;> rfl
  clear d; obtain ⟨_,_,_,_,_⟩ := t
  rcases hx with rfl | rfl | rfl | rfl | rfl | rfl
  all_goals
    go_enter Tryz.func165,Tryz.ntmps165
    go_wp2_with fail
    go_region_with (first
      | (go_at_call 174
         refine ((s _)).mono ?_; rintro e H ⟨rfl,a⟩; have B := za (ze (zf gan _)) a; have C := (n.drewN _).kept a (by simp); have D := zb (((j.alloc _).drewN _).kept a (by simp)); obtain ⟨_,_,_,_,_,_⟩ := id D
         clear a)
      | (go_at_call 135
         refine ((y _)).mono ?_; rintro e I ⟨rfl,b⟩; have E := za B b; have h := (C).kept (za grn b) (by simp); obtain ⟨_,_,_,_,_,_,_,_,_,_,_⟩ := id h; have J := h.lt
         clear b))
  all_goals
    go_wp2_with fail; refine zP Tryz.results165 rfl (RB.five h) rfl ?_; refine ⟨.slice none 0 0,rfl,?_,(yC E (by omega))⟩; rw [A.out]
    exact LR.nil _ _
theorem kl (t : T) (sv : Value) (S : Nat -> Prop) (w : World) (ha : LR w S t.subs sv) (hg : GT t) : Calls Tryz.prog 164 #[zq t sv] w fun e w' => ∃ z,e = .returned (.tuple #[.int .i32 z,.bool (xj t).isSome]) /\ (∀ v,xj t = some v -> z = v) /\ w.grownBy w' none := by
 cases hg with
 | mk k x m p l hl h1 h2 h3 h4 h5 =>
  by_cases i : k = 35
  ·subst i
   obtain ⟨u,rfl⟩ : ∃ u,l = [u] := by
    have := h1 (Or.inr rfl)
    match l,this with
    | [u],_ => exact ⟨u,rfl⟩
   have j := hl u (by simp); obtain ⟨g,c,G,rfl,_,H,D,E⟩ := LR.one (show LR w S [u] sv from ha)
   unfold maxLen at H
   have I := zc D.c0
   obtain ⟨y,J,A,rfl⟩ : ∃ a n c,G = .slice a n c := by obtain ⟨a,c,e⟩ := E.form; exact ⟨_,_,_,e⟩
   have r : Hid (xj (T.mk 35 x m p [u]) = if u.kind = 29 then some (-u.num) else none) := by
    show _ = _
    have e : zI (T.mk 35 x m p [u]) 0 = u := rfl
    unfold xj
    rw [e,if_neg (by simp [T.kind])]
    by_cases h : u.kind = 29
    ·rw [if_pos ⟨rfl,h⟩,if_pos h]
    ·rw [if_neg (fun h9 => h h9.2),if_neg h]
   obtain ⟨s,K,d,L,O⟩ := u
   have F : s = 29 -> 0 <= d /\ d <= 2147483647 := by cases j with | mk _ _ _ _ _ _ _ _ _ h9 _ => exact h9
   have B := zb F; obtain ⟨_,_,_,_,_⟩ := D; clear ha E hl h1 h2 h3 h4 h5 j F
   change Calls Tryz.prog 164 #[.agg #[.int .i64 35,.string ⟨x.toArray⟩,.int .i64 m,.int .i64 p,.slice (some ⟨g,0,none⟩) 1 c]] w _
   go_enter Tryz.func164,Tryz.ntmps164
   go_wp2_with fail; go_at_call 173; refine (jH s K d L y J A _).mono ?_; rintro e M ⟨rfl,b⟩; have C := za gan b; clear b; go_wp2_with fail
   go_ret2
   refine ⟨wrap32 (-wrap32 d),?_,?_,C⟩
   ·show Ending.returned (.tuple #[.int .i32 (wrap32 (-wrap32 d)),.bool (s == 29)]) = _
    rw [r.out]
    change _ = Ending.returned (.tuple #[_,.bool (if s = 29 then some (-d) else none).isSome])
    by_cases h : s = 29
    ·rw [if_pos h]
     subst h
     rfl
    ·rw [if_neg h,beq_eq_false_iff_ne.2 h]
     rfl
   ·intro v f
    rw [r.out] at f
    split at f
    ·rename_i h
     have := B h; cases f; rw [fx (m := d) (by omega) (by omega)]
     exact fx (by show -2147483648 <= -d; omega) (by show -d <= 2147483647; omega)
    ·cases f
  ·obtain ⟨y,A,rfl⟩ := ha.form
   have N : (k == 35) = false := bn i
   have r : Hid (xj (T.mk k x m p l) = if k = 29 then some m else none) := by
    show _ = _
    unfold xj
    by_cases h : k = 29
    ·rw [if_pos (show (T.mk k x m p l).kind = 29 from h),if_pos h]; rfl
    ·rw [if_neg (show ¬ (T.mk k x m p l).kind = 29 from h),if_neg (fun h9 => i h9.1),if_neg h]
   have B := zb h4; clear ha hl h1 h2 h3 h4 h5
   change Calls Tryz.prog 164 #[.agg #[.int .i64 k,.string ⟨x.toArray⟩,.int .i64 m,.int .i64 p,.slice y l.length A]] w _
   go_enter Tryz.func164,Tryz.ntmps164
   go_wp2_with fail; go_at_call 173; refine (jH k x m p y l.length A _).mono ?_; rintro e M ⟨rfl,b⟩; have C := za gan b; clear b; go_wp2_with fail
   go_ret2
   refine ⟨wrap32 m,?_,?_,C⟩
   ·show Ending.returned (.tuple #[.int .i32 (wrap32 m),.bool (k == 29)]) = _
    rw [r.out]
    by_cases h : k = 29
    ·rw [if_pos h]
     subst h
     rfl
    ·rw [if_neg h,beq_eq_false_iff_ne.2 h]
     rfl
   ·intro v f
    rw [r.out] at f
    split at f
    ·rename_i h
     have := B h; cases f
     exact fx (by omega) (by omega)
    ·cases f
theorem lM (t : T) (sv : Value) (S : Nat -> Prop) (w : World) (ha : LR w S t.subs sv) (hg : GT t) {u : Int} (hu : xj t = some u) : Calls Tryz.prog 164 #[zq t sv] w (Sy w (.tuple #[.int .i32 u,.bool true])) := by
 refine (kl t sv S w ha hg).mono ?_; rintro e d ⟨z,rfl,a,b⟩; have := a u hu; subst this; rw [hu]
 exact ⟨rfl,b⟩
theorem nD {x : Bs} (h : 0 <= zo x) : (x = [61] \/ x = [35] \/ x = [60] \/ x = [60,61] \/ x = [62] \/ x = [62,61]) \/ (x = [43] \/ x = [45] \/ x = [79,82]) \/ (x = [42] \/ x = [68,73,86] \/ x = [77,79,68] \/ x = [38]) := by
 unfold zo at h
 split at h
 ·rename_i h9
  left
  simpa [inB,gd] using h9
 ·split at h
  ·rename_i h9
   right; left
   simpa [inB,fe] using h9
  ·split at h
   ·rename_i h9
    right; right
    simpa [inB,fG] using h9
   ·omega
theorem tH {x : Bs} (hx : 0 <= zo x) (h1 : x ≠ [38]) (h2 : x ≠ [79,82]) (m p : Int) (l : List T) (sv : Value) (S : Nat -> Prop) (u v : Int) (w : World) (ha : LR w S l sv) (hu : -2147483647 <= u /\ u <= 2147483647) (hv : -2147483647 <= v /\ v <= 2147483647) : Calls Tryz.prog 165 #[zq (.mk 36 x m p l) sv,.int .i32 u,.int .i32 v] w (NL w (fun k => S k \/ w.heap.size <= k) (xo (.mk 36 x m p l) u v)) := by
 rcases nD hx with h | (rfl | rfl | rfl) | (rfl | rfl | rfl | rfl)
 ·exact sH m p l sv S u v w ha x h
 ·exact jp m p l sv S u v w ha hu hv _ _ (.inl ⟨rfl,rfl⟩)
 ·exact jp m p l sv S u v w ha hu hv _ _ (.inr (.inl ⟨rfl,rfl⟩))
 ·exact absurd rfl h2
 ·exact jp m p l sv S u v w ha hu hv _ _ (.inr (.inr ⟨rfl,rfl⟩))
 ·exact gQ m p l sv S u v w ha hu hv _ _ (.inl ⟨rfl,rfl⟩)
 ·exact gQ m p l sv S u v w ha hu hv _ _ (.inr ⟨rfl,rfl⟩)
 ·exact absurd rfl h1
theorem iJ (x : Bs) (ka : Int) (m p : Int) (xa : Bs) (ma pa : Int) (la : List T) (kb : Int) (xb : Bs) (mb pb : Int) (lb : List T) (sv : Value) (S : Nat -> Prop) (w : World) (ha : LR w S [(.mk ka xa ma pa la),(.mk kb xb mb pb lb)] sv) (hx : 0 <= zo x) (hga : GT (.mk ka xa ma pa la)) (hgb : GT (.mk kb xb mb pb lb)) : Calls Tryz.prog 136 #[zq (.mk 36 x m p [(.mk ka xa ma pa la),(.mk kb xb mb pb lb)]) sv] w (NL w (fun k => S k \/ w.heap.size <= k) (opT (.mk 36 x m p [(.mk ka xa ma pa la),(.mk kb xb mb pb lb)]))) := by
 have HA := zb ha.bounded; obtain ⟨g,c,sa,sb,rfl,b9,a7,na,nb,a1,a2⟩ := LR.two ha
 unfold maxLen at a7
 have c5 := zc na.c0; obtain ⟨aa,ac,rfl⟩ := a1.form; obtain ⟨ba,bc,rfl⟩ := a2.form; have LA := zb a1; have LB := zb a2; obtain ⟨c0,c1,c2,c3,c4⟩ := na; obtain ⟨d0,d1,d2,d3,d4⟩ := nb; clear ha a1 a2; obtain ⟨R,hR⟩ : ∃ R,R = opT (.mk 36 x m p [(.mk ka xa ma pa la),(.mk kb xb mb pb lb)]) := ⟨_,rfl⟩; rw [<- hR]; have HR := zb hR; clear hR
 change Calls Tryz.prog 136 #[.agg #[.int .i64 36,.string ⟨x.toArray⟩,.int .i64 m,.int .i64 p,.slice (some ⟨g,0,none⟩) 2 c]] w _
 go_enter Tryz.func136,Tryz.ntmps136
 go_upto_region 1 with fail
 obtain ⟨wq,i⟩ : ∃ q,q = (w.alloc (.cells #[.int .i64 36,.string ⟨x.toArray⟩,.int .i64 m,.int .i64 p,.slice (some ⟨g,0,none⟩) 2 c] 24)).alloc (.cells #[.int .i64 0,.string ⟨#[]⟩,.int .i64 0,.int .i64 0,.slice none 0 0] 24) := ⟨_,rfl⟩; rw [<- i]
 have GQ : Hid (w.grownBy wq none) := by rw [i]; exact zf gan _
 have BQ : Hid (NB wq w.heap.size (.int .i64 36) (.string ⟨x.toArray⟩) (.int .i64 m) (.int .i64 p) (.slice (some ⟨g,0,none⟩) 2 c)) := by rw [i]; exact NB.alloc (NB.new _ _) _
 have RQ : Hid (RB wq (w.heap.size + 1)) := by rw [i]; exact RB.new' (by simp)
 have a0 : wq.heap.size = w.heap.size + 2 := by rw [i]; simp
 clear i
 have HS : Hid (∀ w',wq.grownBy w' none -> w'.cell? ⟨w.heap.size,4,none⟩ = some (.slice (some ⟨g,0,none⟩) 2 c) /\ w'.cell? ⟨g,0,none⟩ = some (.int .i64 ka) /\ w'.cell? ⟨g,1,none⟩ = some (.string ⟨xa.toArray⟩) /\ w'.cell? ⟨g,2,none⟩ = some (.int .i64 ma) /\ w'.cell? ⟨g,3,none⟩ = some (.int .i64 pa) /\ w'.cell? ⟨g,4,none⟩ = some (.slice aa la.length ac) /\ w'.cell? ⟨g,5,none⟩ = some (.int .i64 kb) /\ w'.cell? ⟨g,6,none⟩ = some (.string ⟨xb.toArray⟩) /\ w'.cell? ⟨g,7,none⟩ = some (.int .i64 mb) /\ w'.cell? ⟨g,8,none⟩ = some (.int .i64 pb) /\ w'.cell? ⟨g,9,none⟩ = some (.slice ba lb.length bc)) := fun w' hg => by
  have Y := za GQ hg
  exact ⟨zg hg BQ.c4,zg Y c0,zg Y c1,zg Y c2,zg Y c3,zg Y c4,zg Y d0,zg Y d1,zg Y d2,zg Y d3,zg Y d4⟩
 clear c0 c1 c2 c3 c4 d0 d1 d2 d3 d4
 go_cut [3,4] from 11 (fun s3 s4 wx => ∃ (P Q : Nat),s3 = .pointer (some ⟨P,0,none⟩) /\ s4 = .pointer (some ⟨Q,0,none⟩) /\ NB wx P (.int .i64 ka) (.string ⟨xa.toArray⟩) (.int .i64 ma) (.int .i64 pa) (.slice aa la.length ac) /\ NB wx Q (.int .i64 kb) (.string ⟨xb.toArray⟩) (.int .i64 mb) (.int .i64 pb) (.slice ba lb.length bc) /\ wq.grownBy wx none)
 case first =>
  go_region_held (fun w' => w'.cell? ⟨w.heap.size,4,none⟩ = some (.slice (some ⟨g,0,none⟩) 2 c) /\ w'.cell? ⟨g,0,none⟩ = some (.int .i64 ka) /\ w'.cell? ⟨g,1,none⟩ = some (.string ⟨xa.toArray⟩) /\ w'.cell? ⟨g,2,none⟩ = some (.int .i64 ma) /\ w'.cell? ⟨g,3,none⟩ = some (.int .i64 pa) /\ w'.cell? ⟨g,4,none⟩ = some (.slice aa la.length ac) /\ w'.cell? ⟨g,5,none⟩ = some (.int .i64 kb) /\ w'.cell? ⟨g,6,none⟩ = some (.string ⟨xb.toArray⟩) /\ w'.cell? ⟨g,7,none⟩ = some (.int .i64 mb) /\ w'.cell? ⟨g,8,none⟩ = some (.int .i64 pb) /\ w'.cell? ⟨g,9,none⟩ = some (.slice ba lb.length bc)) (exact HS _ (by first | with_reducible exact ze grn | with_reducible exact ze gan | with_reducible exact ze (zf gan _))) (fail)
  all_goals
   go_wp2_with fail; go_meet
  case rel => exact ⟨_,_,rfl,rfl,((NB.new' a0.symm).alloc _).drew,(NB.new' (by simp [a0])).drew,(ze (zf gan _))⟩
  case rel => exact ⟨_,_,rfl,rfl,(NB.new' (by simp [a0])).drew,((NB.new' a0.symm).alloc _).drew,(ze (zf gan _))⟩
 case rest =>
  obtain ⟨P,Q,rfl,rfl,nP,nQ,gx⟩ := hcut; have BX := BQ.kept gx (by simp); have RX := RQ.kept gx (by simp); have GX := za GQ gx; have NP := zb nP; have NQ := zb nQ; obtain ⟨l,n,r,s,t,y⟩ := id BX; obtain ⟨z,A,B,C,D,E⟩ := nP; obtain ⟨F,G,H,I,J,K⟩ := nQ; obtain ⟨_,_,_,_,_,L,M,N,O,U,V⟩ := id RX; have rl := RX.lt; clear gx
  by_cases he : x = [38] \/ x = [79,82]
  ·have HT := fun w' => zb (kh ka xa ma pa aa la.length ac w')
   by_cases k1 : ka = 30 \/ ka = 31
   ·have HE : Hid (R = if decide (ka = 30) = decide (x = [38]) then (.mk kb xb mb pb lb) else (.mk ka xa ma pa la)) := HR.trans (by rcases he with rfl | rfl <;> rcases k1 with rfl | rfl <;> rfl)
    have HD := fun (w' : World) (hg : w.grownBy w' none) => zb (dt x m p (.mk ka xa ma pa la) (.mk kb xb mb pb lb) _ _ (decide (ka = 30)) w' (HA.kept hg (fun _ f => by cases f)) he)
    rw [decide_eq_true k1] at HT; clear HR k1
    generalize decide (ka = 30) = v at *
    generalize (if v = decide (x = [38]) then (T.mk kb xb mb pb lb) else (T.mk ka xa ma pa la)) = Z at *
    obtain ⟨kr,xr,mr,pr,lr⟩ := Z
    rcases he with rfl | rfl
    all_goals
     go_wp2_with fail; go_at_call 134; refine ((HT _)).mono ?_; rintro e w1 ⟨rfl,a⟩; have G1 := za GX a; have X := RX.kept a (by simp); have B1 := BX.kept a (by simp); have P1 := NP.kept a (by simp); have Q1 := NQ.kept a (by simp); clear l n r s t y z A B C D E F G H I J K L M N O U V; obtain ⟨l,n,r,s,t,y⟩ := id B1; obtain ⟨z,A,B,C,D,E⟩ := id P1; obtain ⟨F,G,H,I,J,K⟩ := id Q1; obtain ⟨_,_,_,_,_,L,M,N,O,U,V⟩ := id X; have a3 := X.lt; clear a; go_wp2_with fail; go_at_call 163; refine ((HD _ G1)).mono ?_; rintro e w2 ⟨c6,rfl,l2,d⟩; have L2 := zb l2; obtain ⟨_,_,rfl⟩ := l2.form; clear l2; have G2 := za G1 d; have R2 := X.kept d (by simp); have B2 := B1.kept d (by simp); have P2 := P1.kept d (by simp); have Q2 := Q1.kept d (by simp); clear l n r s t y z A B C D E F G H I J K L M N O U V; obtain ⟨l,n,r,s,t,y⟩ := id B2; obtain ⟨z,A,B,C,D,E⟩ := id P2; obtain ⟨F,G,H,I,J,K⟩ := id Q2; obtain ⟨_,_,_,_,_,L,M,N,O,U,V⟩ := id R2; have a8 := R2.lt; clear d; go_wp2_with fail; refine zP Tryz.results136 rfl (RB.five R2) rfl ?_; rw [HE.out]; refine ⟨_,rfl,?_,(yC G2 (by omega))⟩
     exact (L2.kept (xw (w.heap.size + 1)) (fun b hb f => by cases hb; have := f.2; omega)).mono (fun k f => Or.inl f.1)
   ·have a4 : ¬ ka = 30 := fun h => k1 (.inl h)
    have a9 : ¬ ka = 31 := fun h => k1 (.inr h)
    have HE : Hid (R = (.mk 36 x m p [(.mk ka xa ma pa la),(.mk kb xb mb pb lb)])) := by
     show _ = _
     rw [HR.out]
     unfold opT
     rw [if_pos (by rcases he with rfl | rfl <;> simp [T.name]),if_neg (show ¬ (zI (.mk 36 x m p [(.mk ka xa ma pa la),(.mk kb xb mb pb lb)]) 0).kind = 30 from a4),if_neg (show ¬ (zI (.mk 36 x m p [(.mk ka xa ma pa la),(.mk kb xb mb pb lb)]) 0).kind = 31 from a9)]
    rw [decide_eq_false a4,decide_eq_false k1] at HT; clear k1
    rcases he with rfl | rfl
    all_goals
     go_wp2_with fail; go_at_call 134; refine ((HT _)).mono ?_; rintro e w1 ⟨rfl,a⟩; have G1 := za GX a; have X := RX.kept a (by simp); have B1 := BX.kept a (by simp); have P1 := NP.kept a (by simp); have Q1 := NQ.kept a (by simp); clear l n r s t y z A B C D E F G H I J K L M N O U V; obtain ⟨l,n,r,s,t,y⟩ := id B1; obtain ⟨z,A,B,C,D,E⟩ := id P1; obtain ⟨F,G,H,I,J,K⟩ := id Q1; obtain ⟨_,_,_,_,_,L,M,N,O,U,V⟩ := id X; have a3 := X.lt; clear a; go_wp2_with fail; refine zP Tryz.results136 rfl (RB.five X) rfl ?_; rw [HE.out]
     exact vJ (xR HA (yC G1 (by omega))) (fun k f => Or.inl f.1)
  ·have h1 : x ≠ [38] := fun h => he (.inl h)
   have h2 : x ≠ [79,82] := fun h => he (.inr h)
   have c7 : (x == [38]) = false := bn h1
   have c8 : (x == [79,82]) = false := bn h2
   have HP : Hid (opT (.mk 36 x m p [(.mk ka xa ma pa la),(.mk kb xb mb pb lb)]) = match xj (.mk ka xa ma pa la),xj (.mk kb xb mb pb lb) with | some u,some v => xo (.mk 36 x m p [(.mk ka xa ma pa la),(.mk kb xb mb pb lb)]) u v | _,_ => (.mk 36 x m p [(.mk ka xa ma pa la),(.mk kb xb mb pb lb)])) := by
    show _ = _
    unfold opT
    rw [if_neg (show ¬ ((T.mk 36 x m p [(.mk ka xa ma pa la),(.mk kb xb mb pb lb)]).name = [38] \/ (T.mk 36 x m p [(.mk ka xa ma pa la),(.mk kb xb mb pb lb)]).name = [79,82]) from he),show zI (.mk 36 x m p [(.mk ka xa ma pa la),(.mk kb xb mb pb lb)]) 0 = (.mk ka xa ma pa la) from rfl,show zI (.mk 36 x m p [(.mk ka xa ma pa la),(.mk kb xb mb pb lb)]) 1 = (.mk kb xb mb pb lb) from rfl]
    cases xj (.mk ka xa ma pa la) <;> cases xj (.mk kb xb mb pb lb) <;> rfl
   clear he
   have b5 := fun (w' : World) (hg : w.grownBy w' none) => zb (kl (.mk ka xa ma pa la) (.slice aa la.length ac) _ w' (LA.kept hg (fun _ f => by cases f)) hga)
   go_wp2_with fail; go_at_call 164; refine ((b5 _ GX)).mono ?_; rintro e w1 ⟨z1,rfl,a5,a⟩; have b6 := zb a5; clear a5; have G1 := za GX a; have X := RX.kept a (by simp); have B1 := BX.kept a (by simp); have P1 := NP.kept a (by simp); have Q1 := NQ.kept a (by simp); clear l n r s t y z A B C D E F G H I J K L M N O U V; obtain ⟨l,n,r,s,t,y⟩ := id B1; obtain ⟨z,A,B,C,D,E⟩ := id P1; obtain ⟨F,G,H,I,J,K⟩ := id Q1; obtain ⟨_,_,_,_,_,L,M,N,O,U,V⟩ := id X; have a3 := X.lt; clear a
   have b7 := fun (w' : World) (hg : w.grownBy w' none) => zb (kl (.mk kb xb mb pb lb) (.slice ba lb.length bc) _ w' (LB.kept hg (fun _ f => by cases f)) hgb)
   go_wp2_with fail; go_at_call 164; refine ((b7 _ G1)).mono ?_; rintro e w2 ⟨z2,rfl,a6,d⟩; have b8 := zb a6; clear a6; have G2 := za G1 d; have R2 := X.kept d (by simp); have B2 := B1.kept d (by simp); have P2 := P1.kept d (by simp); have Q2 := Q1.kept d (by simp); clear l n r s t y z A B C D E F G H I J K L M N O U V; obtain ⟨l,n,r,s,t,y⟩ := id B2; obtain ⟨z,A,B,C,D,E⟩ := id P2; obtain ⟨F,G,H,I,J,K⟩ := id Q2; obtain ⟨_,_,_,_,_,L,M,N,O,U,V⟩ := id R2; have a8 := R2.lt; clear d; cases hu : xj (.mk ka xa ma pa la) with
   | none =>
    have HE : Hid (R = (.mk 36 x m p [(.mk ka xa ma pa la),(.mk kb xb mb pb lb)])) := HR.trans (HP.trans (by rw [hu])); go_wp2_with fail; refine zP Tryz.results136 rfl (RB.five R2) rfl ?_; rw [HE.out]
    exact vJ (xR HA (yC G2 (by omega))) (fun k f => Or.inl f.1)
   | some u =>
    cases hv : xj (.mk kb xb mb pb lb) with
    | none =>
     have HE : Hid (R = (.mk 36 x m p [(.mk ka xa ma pa la),(.mk kb xb mb pb lb)])) := HR.trans (HP.trans (by rw [hu,hv])); go_wp2_with fail; refine zP Tryz.results136 rfl (RB.five R2) rfl ?_; rw [HE.out]
     exact vJ (xR HA (yC G2 (by omega))) (fun k f => Or.inl f.1)
    | some v =>
     obtain rfl : z1 = u := b6 _ hu; obtain rfl : z2 = v := b8 _ hv; have HE : Hid (R = xo (.mk 36 x m p [(.mk ka xa ma pa la),(.mk kb xb mb pb lb)]) z1 z2) := HR.trans (HP.trans (by rw [hu,hv]))
     have HW := fun (w' : World) (hg : w.grownBy w' none) => zb (tH hx h1 h2 m p [(.mk ka xa ma pa la),(.mk kb xb mb pb lb)] (.slice (some ⟨g,0,none⟩) 2 c) _ z1 z2 w' (HA.kept hg (fun _ f => by cases f)) (vu hga hu) (vu hgb hv))
     generalize xo _ z1 z2 = Z at *
     obtain ⟨kr,xr,mr,pr,lr⟩ := Z; have c9 := G2.size; have d5 := GQ.size; go_wp2_with fail; go_at_call 165; refine ((HW _ G2)).mono ?_; rintro e w3 ⟨d6,rfl,l3,j⟩; have L3 := zb l3; obtain ⟨_,_,rfl⟩ := l3.form; clear l3; have G3 := za G2 j; have R3 := R2.kept j (by simp); have B3 := B2.kept j (by simp); have P3 := P2.kept j (by simp); have Q3 := Q2.kept j (by simp); clear l n r s t y z A B C D E F G H I J K L M N O U V; obtain ⟨l,n,r,s,t,y⟩ := id B3; obtain ⟨z,A,B,C,D,E⟩ := id P3; obtain ⟨F,G,H,I,J,K⟩ := id Q3; obtain ⟨_,_,_,_,_,L,M,N,O,U,V⟩ := id R3; have d7 := R3.lt; clear j; go_wp2_with fail; refine zP Tryz.results136 rfl (RB.five R3) rfl ?_; rw [HE.out]; refine ⟨_,rfl,?_,(yC G3 (by omega))⟩; refine (L3.kept (xw (w.heap.size + 1)) (fun b hb f => ?_)).mono (fun k f => f.elim (fun h => Or.inl h.1) (fun h => Or.inr (by have : w2.heap.size <= k := h; omega))); cases hb
     rcases f with f | f
     ·have := f.2; omega
     ·have := f; omega
set_option maxHeartbeats 1000000
theorem gj (x : Bs) (m p : Int) (l : List T) (sv : Value) (S : Nat -> Prop) (w : World) (ha : LR w S l sv) (hg : GT (.mk 36 x m p l)) : Calls Tryz.prog 136 #[zq (.mk 36 x m p l) sv] w (NL w (fun k => S k \/ w.heap.size <= k) (opT (.mk 36 x m p l))) := by
 cases hg with
 | mk _ _ _ _ _ hl h1 h2 h3 h4 h5 =>
  obtain ⟨d,f⟩ := h2 rfl; obtain ⟨a,b,rfl⟩ := gZ d; have g := hl a (by simp); have h := hl b (by simp); obtain ⟨i,j,n,r,s⟩ := a; obtain ⟨t,u,v,y,z⟩ := b
  exact iJ x i m p j n r s t u v y z sv S w ha f g h
theorem tO (k : Int) (x : Bs) (m p : Int) (l : List T) (sv : Value) (S : Nat -> Prop) (w : World) (ha : LR w S l sv) (h1 : k ≠ 34) (h2 : k ≠ 36) : Calls Tryz.prog 90 #[zq (.mk k x m p l) sv] w (NL w S (.mk k x m p l)) := by
 have a := zb ha; obtain ⟨b,d,rfl⟩ := ha.form
 have f : (k == 34) = false := bn h1
 have g : (k == 36) = false := bn h2
 clear ha
 change Calls Tryz.prog 90 #[.agg #[.int .i64 k,.string ⟨x.toArray⟩,.int .i64 m,.int .i64 p,.slice b l.length d]] w _
 go_enter Tryz.func90,Tryz.ntmps90
 go_wp2_with fail; refine zP Tryz.results90 rfl (NB.new' (by simp)) rfl (xR a ?_)
 exact zf gan _
theorem nu (x : Bs) (m p : Int) (l : List T) (sv : Value) (S : Nat -> Prop) (w : World) (ha : LR w S l sv) (hg : GT (.mk 36 x m p l)) : Calls Tryz.prog 90 #[zq (.mk 36 x m p l) sv] w (NL w (fun k => S k \/ w.heap.size <= k) (opT (.mk 36 x m p l))) := by
 have j := fun (w' : World) (h9 : w.grownBy w' none) => zb (gj x m p l sv _ w' (ha.bounded.kept h9 (fun _ a => by cases a)) hg)
 obtain ⟨h,i,rfl⟩ := ha.form; have n : Hid (RB ((w.alloc (.cells #[.int .i64 36,.string ⟨x.toArray⟩,.int .i64 m,.int .i64 p,.slice h l.length i] 24)).alloc (.cells #[.int .i64 0,.string ⟨#[]⟩,.int .i64 0,.int .i64 0,.slice none 0 0] 24)) (w.heap.size + 1)) := RB.new' (by simp); clear ha hg
 generalize opT _ = R at *
 obtain ⟨_,_,_,_,_⟩ := R
 change Calls Tryz.prog 90 #[.agg #[.int .i64 36,.string ⟨x.toArray⟩,.int .i64 m,.int .i64 p,.slice h l.length i]] w _
 go_enter Tryz.func90,Tryz.ntmps90
 go_wp2_with fail; go_at_call 136; refine ((j _ (zf gan _))).mono ?_; rintro e v ⟨r,rfl,f,d⟩; have s := za (zf gan _) d; have g := n.kept d (by simp); have t := d.size; simp only [World.size_alloc] at t; have u := zb f; obtain ⟨_,_,rfl⟩ := f.form; obtain ⟨_,_,_,_,_,_,_,_,_,_,_⟩ := id g; have y := g.lt; clear d f; go_wp2_with fail; refine zP Tryz.results90 rfl (RB.five g) rfl ?_; refine ⟨_,rfl,?_,(yC s (by omega))⟩; refine (u.kept (xw (w.heap.size + 1)) (fun b hb a => ?_)).mono (fun k a => ?_)
 ·cases hb
  rcases a with a | a
  ·have := a.2; omega
  ·simp only [World.size_alloc] at a; omega
 ·rcases a with a | a
  ·exact Or.inl a.1
  ·simp only [World.size_alloc] at a; exact Or.inr (by omega)
theorem oa (x : Bs) (m p : Int) (a : T) (sv : Value) (S : Nat -> Prop) (w : World) (ha : LR w S [a] sv) : Calls Tryz.prog 90 #[zq (.mk 34 x m p [a]) sv] w (NL w S (yo (.mk 34 x m p [a]))) := by
 have I := zb ha.bounded; obtain ⟨g,c,_,rfl,_,v,C,D⟩ := LR.one ha
 unfold maxLen at v
 have J := zc C.c0; obtain ⟨d,i,j,l,f⟩ := a; obtain ⟨E,F,rfl⟩ := D.form; obtain ⟨_,_,_,_,_⟩ := C; clear ha D
 change Calls Tryz.prog 90 #[.agg #[.int .i64 34,.string ⟨x.toArray⟩,.int .i64 m,.int .i64 p,.slice (some ⟨g,0,none⟩) 1 c]] w _
 have G : Hid (NB ((w.alloc (.cells #[.int .i64 34,.string ⟨x.toArray⟩,.int .i64 m,.int .i64 p,.slice (some ⟨g,0,none⟩) 1 c] 24)).alloc (.cells #[.int .i64 0,.string ⟨#[]⟩,.int .i64 0,.int .i64 0,.slice none 0 0] 24)) w.heap.size (.int .i64 34) (.string ⟨x.toArray⟩) (.int .i64 m) (.int .i64 p) (.slice (some ⟨g,0,none⟩) 1 c)) := NB.alloc (NB.new _ _) _; have H : Hid (RB ((w.alloc (.cells #[.int .i64 34,.string ⟨x.toArray⟩,.int .i64 m,.int .i64 p,.slice (some ⟨g,0,none⟩) 1 c] 24)).alloc (.cells #[.int .i64 0,.string ⟨#[]⟩,.int .i64 0,.int .i64 0,.slice none 0 0] 24)) (w.heap.size + 1)) := RB.new' (by simp)
 by_cases n : d = 30 \/ d = 31
 ·have y : Hid (yo (.mk 34 x m p [.mk d i j l f]) = vn (!decide (d = 30)) p) := by
   rcases n with rfl | rfl <;> rfl
  have K := fun w' => zb (jg (!decide (d = 30)) p w')
  have L : decide (d = 30 \/ d = 31) = true := decide_eq_true n; rw [y.out]
  generalize s : vn (!decide (d = 30)) p = t at *
  have M : Hid (t.subs = []) := by rw [<- s]; show (vn _ p).subs = []; cases (!decide (d = 30)) <;> rfl
  clear s; obtain ⟨_,_,_,_,_⟩ := t
  go_enter Tryz.func90,Tryz.ntmps90
  go_wp2_with fail; go_at_call 134; refine (kh d i j l E f.length F _).mono ?_; rintro e N ⟨rfl,b⟩; have z := za (zf gan _) b; have A := G.kept b (by simp); have u := H.kept b (by simp); obtain ⟨O,Q,R,U,V,X⟩ := id A; clear b; go_wp2_with fail; go_at_call 135; refine ((K _)).mono ?_; rintro e w2 ⟨rfl,r⟩; have Y := za z r; have B := u.kept r (by simp); obtain ⟨_,_,_,_,_,Z,r1,r2,r3,r4,rz⟩ := id B; have rl := B.lt; clear r; go_wp2_with fail; refine zP Tryz.results90 rfl (RB.five B) rfl ?_; refine ⟨.slice none 0 0,rfl,?_,(yC Y (by omega))⟩; rw [M.out]
  exact LR.nil _ _
 ·have y : Hid (yo (.mk 34 x m p [.mk d i j l f]) = .mk 34 x m p [.mk d i j l f]) := by
   show _ = _
   unfold yo
   rw [if_pos (show (T.mk 34 x m p [.mk d i j l f]).kind = 34 from rfl),if_neg (show ¬ (zI (T.mk 34 x m p [.mk d i j l f]) 0).kind = 30 from fun h => n (Or.inl h)),if_neg (show ¬ (zI (T.mk 34 x m p [.mk d i j l f]) 0).kind = 31 from fun h => n (Or.inr h))]
  have L : decide (d = 30 \/ d = 31) = false := decide_eq_false n; rw [y.out]
  go_enter Tryz.func90,Tryz.ntmps90
  go_wp2_with fail; go_at_call 134; refine (kh d i j l E f.length F _).mono ?_; rintro e N ⟨rfl,b⟩; have z := za (zf gan _) b; have A := G.kept b (by simp); have u := H.kept b (by simp); obtain ⟨O,Q,R,U,V,X⟩ := id A; obtain ⟨_,_,_,_,_,Z,r1,r2,r3,r4,rz⟩ := id u; have rl := u.lt; clear b; go_wp2_with fail; refine zP Tryz.results90 rfl (RB.five u) rfl ?_
  exact vJ (xR I (yC z (by omega))) (fun k n => n.1)
theorem jT (t : T) (sv : Value) (S : Nat -> Prop) (w : World) (ha : LR w S t.subs sv) (hg : GT t) : Calls Tryz.prog 90 #[zq t sv] w (NL w (fun k => S k \/ w.heap.size <= k) (yo t)) := by
 obtain ⟨k,x,m,p,l⟩ := t
 by_cases b : k = 34
 ·subst b
  obtain ⟨a,rfl⟩ : ∃ a,l = [a] := by cases hg with | mk _ _ _ _ _ _ h1 => exact tG (h1 (Or.inl rfl))
  exact (oa x m p a sv S w ha).mono (fun e w' h => vJ h (fun k hk => Or.inl hk))
 ·by_cases d : k = 36
  ·subst d
   exact nu x m p l sv S w ha hg
  ·have e : yo (.mk k x m p l) = .mk k x m p l := by
    unfold yo
    rw [if_neg (show ¬ (T.mk k x m p l).kind = 34 from b),if_neg (show ¬ (T.mk k x m p l).kind = 36 from d)]
   rw [e]
   exact (tO k x m p l sv S w ha b d).mono (fun e w' h => vJ h (fun k hk => Or.inl hk))
end Go.Proofs.YtifapidjkelnfaaGreatDoor
