/- What trees that go by a rule look like,case by case; how long their texts can be. -/
import Derived.Test.YtfjgelmllcnokaaGreatDoorG03
import Derived.Test.YtfjgelmllcnokaaGreatDoorG04
namespace Go.Proofs.YtfjgelmllcnokaaGreatDoor
theorem yx {c : Bool} {l m : List (T × Rule)} (h : zq c l = some m) : c = true /\ l = m := by
 unfold zq at h
 split at h
 ·cases h; exact ⟨‹_›,rfl⟩
 ·cases h
theorem yc {k k' : Int} {x : List UInt8} {m p : Int} {ts : List T} {most many : Int} {named : Bool} (h : zD (.mk k x m p ts) k' named most many = true) : k = k' /\ 0 <= m /\ m <= most /\ (0 <= many -> (ts.length : Int) = many) /\ (named = true -> zF x = true) /\ (named = false -> x = []) := by
 unfold zD at h
 rw [Bool.and_eq_true,decide_eq_true_eq] at h; obtain ⟨⟨d,f,g,i⟩,b⟩ := h; refine ⟨d,f,g,i,fun e => ?_,fun e => ?_⟩
 ·subst e; simpa [T.name] using b
 ·subst e
  have : x.isEmpty = true := by simpa [T.name] using b
  exact List.isEmpty_iff.1 this
theorem ag {ts : List T} (h : (ts.length : Int) = 0) : ts = [] := List.eq_nil_of_length_eq_zero (by omega)
theorem lC {ts : List T} (h : (ts.length : Int) = 1) : ∃ u,ts = [u] := List.length_eq_one_iff.1 (by omega)
theorem iy {ts : List T} (h : (ts.length : Int) = 2) : ∃ u v,ts = [u,v] := by
 match ts,h with
 | [u,v],_ => exact ⟨u,v,rfl⟩
 | [],h => simp at h
 | [_],h => simp at h
 | _ :: _ :: _ :: l,h => simp at h; omega
theorem le1 {ts : List T} (h : ts.length <= 1) : ts = [] \/ ∃ u,ts = [u] := by
 match ts,h with
 | [],_ => exact .inl rfl
 | [u],_ => exact .inr ⟨u,rfl⟩
 | _ :: _ :: l,h => simp at h
theorem mh {u : T} {r : Rule} {l : List (T × Rule)} (e : yn [u] [r] = l) (h : ∀ p ∈ l,Well p.2 p.1) : Well r u := by subst e; exact h (u,r) (by simp [yn])
theorem cn {u v : T} {r q : Rule} {l : List (T × Rule)} (e : yn [u,v] [r,q] = l) (h : ∀ p ∈ l,Well p.2 p.1) : Well r u /\ Well q v := by subst e; exact ⟨h (u,r) (by simp [yn]),h (v,q) (by simp [yn])⟩
theorem zgi {us : List T} {r : Rule} {l : List (T × Rule)} (e : vf us r = l) (h : ∀ p ∈ l,Well p.2 p.1) : ∀ u ∈ us,Well r u := by
 subst e; intro u b
 exact h (u,r) (List.mem_map.2 ⟨u,b,rfl⟩)
theorem zhm {u : T} {us : List T} {k m p : Int} {x : List UInt8} {r q : Rule} {l : List (T × Rule)} (e : uC (.mk k x m p (u :: us)) r q = l) (h : ∀ p ∈ l,Well p.2 p.1) : Well r u /\ ∀ v ∈ us,Well q v := by
 subst e; refine ⟨h (u,r) (by simp [uC,T.subs]),fun v hv => h (v,q) (List.mem_cons_of_mem _ (List.mem_map.2 ⟨v,hv,rfl⟩))⟩
theorem sA {ts : List T} (h : 0 < ts.length) : ∃ u us,ts = u :: us := by
 match ts,h with
 | u :: us,_ => exact ⟨u,us,rfl⟩
inductive TN : T -> Prop
 | plain (x : List UInt8) (p : Int) (h : zF x = true) : TN (.mk 13 x 0 p [])
 | dot (x : List UInt8) (p : Int) (y : List UInt8) (q : Int) (h : zF x = true) (hy : zF y = true) : TN (.mk 13 x 0 p [.mk 24 y 0 q []])
theorem zf8 {t : T} (h : Well .ref t) : ∃ y q,t = .mk 24 y 0 q [] /\ zF y = true := by
 obtain ⟨_,b,_⟩ := Well.iff.1 h; obtain ⟨_,x,m,p,_⟩ := t; obtain ⟨e,_⟩ := yx b; obtain ⟨rfl,_,_,c,d,_⟩ := yc e
 obtain rfl : m = 0 := by omega
 obtain rfl := ag (c (by omega))
 exact ⟨x,p,rfl,d rfl⟩
theorem zah {t : T} {l : List (T × Rule)} (hs : jd t = some l) (all : ∀ p ∈ l,Well p.2 p.1) : TN t := by
 obtain ⟨_,x,m,p,f⟩ := t; obtain ⟨b,g⟩ := yx hs; rw [Bool.and_eq_true,decide_eq_true_eq] at b; obtain ⟨rfl,_,_,_,d,_⟩ := yc b.1
 obtain rfl : m = 0 := by omega
 have h := zgi g all
 rcases le1 b.2 with e | ⟨u,e⟩
 ·change f = [] at e; subst e; exact .plain x p (d rfl)
 ·change f = [u] at e
  subst e; obtain ⟨y,q,rfl,i⟩ := zf8 (h u (by simp [T.subs]))
  exact .dot x p y q (d rfl) i
theorem fY {t : T} (h : Well .typeName t) : TN t := by
 obtain ⟨_,d,b⟩ := Well.iff.1 h
 exact zah d b
theorem zaq {t : T} (h : Well .typeNameOrNone t) : (∃ p,t = .mk 0 [] 0 p []) \/ (t.kind = 13 /\ TN t) := by
 obtain ⟨l,hs,b⟩ := Well.iff.1 h; obtain ⟨k,x,m,p,g⟩ := t
 by_cases f : k = 0
 ·subst f
  obtain ⟨i,_⟩ := yx (show zq _ _ = _ from hs); obtain ⟨_,_,_,c,_,d⟩ := yc i
  obtain rfl : m = 0 := by omega
  obtain rfl := ag (c (by omega)); obtain rfl := d rfl
  exact .inl ⟨p,rfl⟩
 ·have e : jd (.mk k x m p g) = some l := by rw [<- hs]; simp [zw,T.kind,f]
  have := zah e b; refine .inr ⟨?_,this⟩
  cases this <;> rfl
inductive EX : T -> Prop
 | ref (x : List UInt8) (p : Int) (h : zF x = true) : EX (.mk 24 x 0 p [])
 | dot (x : List UInt8) (p : Int) (u : T) (h : zF x = true) (hu : Well .designator u) : EX (.mk 25 x 0 p [u])
 | index (p : Int) (u v : T) (hu : Well .designator u) (hv : Well .expression v) : EX (.mk 26 [] 0 p [u,v])
 | deref (p : Int) (u : T) (hu : Well .designator u) : EX (.mk 27 [] 0 p [u])
 | guard (p : Int) (u v : T) (hu : Well .designator u) (hv : TN v) : EX (.mk 28 [] 0 p [u,v])
 | number (m p : Int) (h0 : 0 <= m) (h1 : m <= 2147483647) : EX (.mk 29 [] m p [])
 | word (k p : Int) (hk : k = 30 \/ k = 31 \/ k = 32) : EX (.mk k [] 0 p [])
 | call (p : Int) (u : T) (us : List T) (hu : Well .designator u) (hs : ∀ v ∈ us,Well .expression v) : EX (.mk 33 [] 0 p (u :: us))
 | one (k p : Int) (u : T) (hk : k = 34 \/ k = 35) (hu : Well .expression u) : EX (.mk k [] 0 p [u])
 | is (p : Int) (u v : T) (hu : Well .expression u) (hv : TN v) : EX (.mk 37 [] 0 p [u,v])
 | op (x : List UInt8) (p : Int) (u v : T) (hx : 0 <= zv x) (hu : Well .expression u) (hv : Well .expression v) : EX (.mk 36 x 0 p [u,v])
theorem zde {k : Int} {x : List UInt8} {m p : Int} {ts : List T} {l : List (T × Rule)} (hs : yX (.mk k x m p ts) = some l) (all : ∀ p ∈ l,Well p.2 p.1) : EX (.mk k x m p ts) := by
 unfold yX at hs
 by_cases g : (T.mk k x m p ts).kind = 24
 ·rw [if_pos g] at hs
  obtain ⟨e,-⟩ := yx hs; obtain ⟨rfl,a,b,c,d,_⟩ := yc e
  obtain rfl : m = 0 := by omega
  obtain rfl := ag (c (by omega))
  exact .ref x p (d rfl)
 rw [if_neg g] at hs
 by_cases h : (T.mk k x m p ts).kind = 25
 ·rw [if_pos h] at hs
  obtain ⟨e,f⟩ := yx hs; obtain ⟨rfl,a,b,c,d,_⟩ := yc e
  obtain rfl : m = 0 := by omega
  obtain ⟨u,rfl⟩ := lC (c (by omega))
  exact .dot x p u (d rfl) (mh f all)
 rw [if_neg h] at hs
 by_cases i : (T.mk k x m p ts).kind = 26
 ·rw [if_pos i] at hs
  obtain ⟨e,f⟩ := yx hs; obtain ⟨rfl,a,b,c,_,d⟩ := yc e
  obtain rfl : m = 0 := by omega
  obtain ⟨u,v,rfl⟩ := iy (c (by omega)); obtain rfl := d rfl; obtain ⟨o,r⟩ := cn f all
  exact .index p u v o r
 rw [if_neg i] at hs
 by_cases j : (T.mk k x m p ts).kind = 27
 ·rw [if_pos j] at hs
  obtain ⟨e,f⟩ := yx hs; obtain ⟨rfl,a,b,c,_,d⟩ := yc e
  obtain rfl : m = 0 := by omega
  obtain ⟨u,rfl⟩ := lC (c (by omega)); obtain rfl := d rfl
  exact .deref p u (mh f all)
 rw [if_neg j] at hs
 by_cases n : (T.mk k x m p ts).kind = 28
 ·rw [if_pos n] at hs
  obtain ⟨e,f⟩ := yx hs; obtain ⟨rfl,a,b,c,_,d⟩ := yc e
  obtain rfl : m = 0 := by omega
  obtain ⟨u,v,rfl⟩ := iy (c (by omega)); obtain rfl := d rfl; obtain ⟨o,r⟩ := cn f all
  exact .guard p u v o (fY r)
 ·rw [if_neg n] at hs
  cases hs
theorem zim {t : T} (h : Well .designator t) : EX t := by
 obtain ⟨_,d,b⟩ := Well.iff.1 h; obtain ⟨_,_,_,_,_⟩ := t
 exact zde d b
theorem bK {t : T} (h : Well .designator t) : t.kind = 24 \/ t.kind = 25 \/ t.kind = 26 \/ t.kind = 27 \/ t.kind = 28 := by
 obtain ⟨l,b,_⟩ := Well.iff.1 h
 change yX t = some l at b
 unfold yX at b
 by_cases d : t.kind = 24
 ·exact .inl d
 by_cases e : t.kind = 25
 ·exact .inr (.inl e)
 by_cases f : t.kind = 26
 ·exact .inr (.inr (.inl f))
 by_cases g : t.kind = 27
 ·exact .inr (.inr (.inr (.inl g)))
 by_cases i : t.kind = 28
 ·exact .inr (.inr (.inr (.inr i)))
 ·simp [d,e,f,g,i] at b
theorem vO {t : T} (h : Well .designator t) : Well .expression t := by
 have d := bK h; obtain ⟨l,f,b⟩ := Well.iff.1 h; refine .mk l ?_ b; rw [<- f]
 show yQ t = yX t
 unfold yQ
 rcases d with e | e | e | e | e <;> simp [e]
theorem zct {t : T} (h : Well .expression t) : EX t := by
 obtain ⟨l,e,g⟩ := Well.iff.1 h; obtain ⟨k,x,m,p,ts⟩ := t
 change yQ (.mk k x m p ts) = some l at e
 unfold yQ at e
 by_cases r : (T.mk k x m p ts).kind = 29
 ·rw [if_pos r] at e
  obtain ⟨f,-⟩ := yx e; obtain ⟨rfl,a,b,c,_,d⟩ := yc f; obtain rfl := ag (c (by omega)); obtain rfl := d rfl
  exact .number m p a b
 rw [if_neg r] at e
 by_cases i : (T.mk k x m p ts).kind = 30 \/ (T.mk k x m p ts).kind = 31 \/ (T.mk k x m p ts).kind = 32
 ·rw [if_pos i] at e
  have s : k = 30 \/ k = 31 \/ k = 32 := i; obtain ⟨f,-⟩ := yx e; obtain ⟨-,a,b,c,_,d⟩ := yc f
  obtain rfl : m = 0 := by omega
  obtain rfl := ag (c (by omega)); obtain rfl := d rfl
  exact .word k p s
 rw [if_neg i] at e
 by_cases w : (T.mk k x m p ts).kind = 33
 ·rw [if_pos w] at e
  obtain ⟨f,j⟩ := yx e; rw [Bool.and_eq_true,decide_eq_true_eq] at f; obtain ⟨rfl,a,b,_,_,d⟩ := yc f.1
  obtain rfl : m = 0 := by omega
  obtain ⟨u,B,rfl⟩ := sA (ts := ts) f.2; obtain rfl := d rfl; obtain ⟨y,z⟩ := zhm j g
  exact .call p u B y z
 rw [if_neg w] at e
 by_cases n : (T.mk k x m p ts).kind = 34 \/ (T.mk k x m p ts).kind = 35
 ·rw [if_pos n] at e
  have s : k = 34 \/ k = 35 := n; obtain ⟨f,j⟩ := yx e; obtain ⟨-,a,b,c,_,d⟩ := yc f
  obtain rfl : m = 0 := by omega
  obtain ⟨u,rfl⟩ := lC (c (by omega)); obtain rfl := d rfl
  exact .one k p u s (mh j g)
 rw [if_neg n] at e
 by_cases A : (T.mk k x m p ts).kind = 37
 ·rw [if_pos A] at e
  obtain ⟨f,j⟩ := yx e; obtain ⟨rfl,a,b,c,_,d⟩ := yc f
  obtain rfl : m = 0 := by omega
  obtain ⟨u,v,rfl⟩ := iy (c (by omega)); obtain rfl := d rfl; obtain ⟨y,z⟩ := cn j g
  exact .is p u v y (fY z)
 rw [if_neg A] at e
 by_cases o : (T.mk k x m p ts).kind = 36
 ·rw [if_pos o] at e
  have s : k = 36 := o; subst s; obtain ⟨f,j⟩ := yx e; simp only [Bool.and_eq_true,beq_iff_eq,T.num,T.name,T.subs] at f; obtain ⟨⟨C,rfl⟩,_⟩ := f; obtain ⟨u,v,rfl⟩ := iy (ts := ts) (by omega); obtain ⟨y,z⟩ := cn j g
  exact .op x p u v (of_decide_eq_true C) y z
 ·rw [if_neg o] at e
  exact zde e g
theorem ix {x : List UInt8} (h : 0 <= zv x) : x.length <= 3 := by
 unfold zv at h
 have b : ∀ xs : List (List UInt8),(∀ y ∈ xs,y.length <= 3) -> inB xs x = true -> x.length <= 3 := fun xs hx hb => hx x (by unfold inB at hb; simpa using hb)
 split at h
 ·rename_i h1; exact b _ (by decide) h1
 split at h
 ·rename_i h1; exact b _ (by decide) h1
 split at h
 ·rename_i h1; exact b _ (by decide) h1
 ·omega
theorem xj {x : List UInt8} (h : zF x = true) : x.length <= 12 := by
 rcases Nat.lt_or_ge 12 x.length with b | b
 ·have := sk ⟨x.toArray⟩ (by simpa [ByteArray.size] using b)
  simp at this
  rw [h] at this; cases this
 ·exact b
theorem uw {t : T} (h : TN t) : (zB t).length <= 25 := by
 cases h with
 | plain x p h => have := xj h; simp [zB,T.subs,T.name]; omega
 | dot x p y q h hy => have := xj h; have := xj hy; simp [zB,T.subs,T.name]; omega
theorem aR : ∀ (f n : Nat),(kJ f n).length <= f := by
  intro f
  induction f with
  | zero => intro n; simp [kJ]
  | succ f ih => intro n; unfold kJ; split; · simp
                 · have := ih (n / 10); simp; omega
theorem pz (n : Int) : (vy n).length <= 11 := aR 11 _
theorem vA (t : T) : 1 <= zr t := by obtain ⟨_,_,_,_,_⟩ := t; rw [zr]; omega
theorem qj (k : Int) (x : List UInt8) (m p : Int) (u : T) : zr (.mk k x m p [u]) = 1 + zr u := by rw [zr,zu,zu]; omega
theorem fp (k : Int) (x : List UInt8) (m p : Int) (u v : T) : zr (.mk k x m p [u,v]) = 1 + zr u + zr v := by rw [zr,zu,zu,zu]; omega
theorem zdu (k : Int) (x : List UInt8) (m p : Int) (u : T) (us : List T) : zr (.mk k x m p (u :: us)) = 1 + zr u + zu us := by rw [zr,zu]; omega
theorem gi (k : Int) (x : List UInt8) (m p : Int) : zr (.mk k x m p []) = 1 := by rw [zr,zu]
theorem uF : ∀ (f : Nat) (t : T),Well .expression t -> (zg f t).length + 4 <= 40 * zr t := by
 intro f
 induction f with
 | zero => intro t _; have := vA t; simp [zg]; omega
 | succ f ih =>
  intro t h; have H := zct h; clear h
  have d : ∀ (u : T) (r : Int),Well .expression u -> (if yH u < r then 40 :: (zg f u ++ [41]) else zg f u).length + 2 <= 40 * zr u := by
   intro u r b; have := ih u b
   split
   ·simp; omega
   ·omega
  cases H with
  | ref x p h => have := xj h; rw [gi]; simp [zg,T.kind,T.name]; omega
  | dot x p u h b => have := xj h; have := ih u (vO b); rw [qj]; simp [zg,T.kind,T.name,yo,T.subs]; omega
  | index p u v b hv => have := ih u (vO b); have := ih v hv; rw [fp]; simp [zg,T.kind,yo,T.subs]; omega
  | deref p u b => have := ih u (vO b); rw [qj]; simp [zg,T.kind,yo,T.subs]; omega
  | guard p u v b hv => have := ih u (vO b); have := uw hv; have := vA v; rw [fp]; simp [zg,T.kind,yo,T.subs]; omega
  | number m p h0 g => have := pz m; rw [gi]; simp [zg,T.kind,T.num]; omega
  | word k p hk => rw [gi]; rcases hk with rfl | rfl | rfl <;> simp [zg,T.kind]
  | call p u us b hs =>
   have := ih u (vO b); have i := kW [44,32] (zg f) 40 us (fun v hv => by have := ih v (hs v hv); simp; omega); rw [zdu]
   have e : zg (f + 1) (.mk 33 [] 0 p (u :: us)) = zg f u ++ (40 :: (zM [44,32] (us.map (zg f)) ++ [41])) := by simp [zg,T.kind,yo,T.subs]
   rw [e]
   simp
   omega
  | one k p u hk b =>
   have j := d u 3 b; have i := d u 2 b; rw [qj]
   rcases hk with rfl | rfl
   ·have e : zg (f + 1) (.mk 34 [] 0 p [u]) = 126 :: (if yH u < 3 then 40 :: (zg f u ++ [41]) else zg f u) := by simp [zg,T.kind,yo,T.subs]
    rw [e,List.length_cons]; omega
   ·have e : zg (f + 1) (.mk 35 [] 0 p [u]) = 45 :: (if yH u < 2 then 40 :: (zg f u ++ [41]) else zg f u) := by simp [zg,T.kind,yo,T.subs]
    rw [e,List.length_cons]; omega
  | is p u v b hv =>
   have g := d u 1 b; have := uw hv; have := vA v; rw [fp]
   have e : zg (f + 1) (.mk 37 [] 0 p [u,v]) = (if yH u < 1 then 40 :: (zg f u ++ [41]) else zg f u) ++ ([32,73,83,32] ++ zB v) := by simp [zg,T.kind,yo,T.subs]
   rw [e]; simp only [la,lc,ln]
   omega
  | op x p u v hx b hv =>
   have g := d u (if zv x = 2 then 2 else 1) b; have i := d v (if zv x = 1 then 2 else if zv x = 2 then 3 else 1) hv; have j := ix hx; rw [fp]
   have e : zg (f + 1) (.mk 36 x 0 p [u,v]) = (if yH u < (if zv x = 2 then 2 else 1) then 40 :: (zg f u ++ [41]) else zg f u) ++ (32 :: (x ++ (32 :: (if yH v < (if zv x = 1 then 2 else if zv x = 2 then 3 else 1) then 40 :: (zg f v ++ [41]) else zg f v)))) := by simp [zg,T.kind,yo,T.subs,T.name]; rfl
   rw [e]; simp only [List.length_append,List.length_cons]
   omega
theorem xL {r : Rule} {t : T} (h : Well (.list r) t) : ∃ p us,t = .mk 1 [] 0 p us /\ ∀ u ∈ us,Well r u := by
 obtain ⟨_,e,b⟩ := Well.iff.1 h; obtain ⟨_,_,m,p,f⟩ := t; obtain ⟨g,i⟩ := yx (show zq _ _ = _ from e); obtain ⟨rfl,_,_,_,_,d⟩ := yc g
 obtain rfl : m = 0 := by omega
 obtain rfl := d rfl
 exact ⟨p,f,rfl,zgi i b⟩
inductive Turns : List T -> Prop
 | nil : Turns []
 | one (x : T) (h : Well (.list .act) x) : Turns [x]
 | more (x y : T) (l : List T) (hx : Well .expression x) (hy : Well (.list .act) y) (h : Turns l) : Turns (x :: y :: l)
theorem nQ : ∀ (us : List T),(∀ p ∈ xY us,Well p.2 p.1) -> Turns us
 | [],_ => .nil
 | [x],h => .one x (h (x,.list .act) (by simp [xY]))
 | x :: y :: l,h => .more x y l (h (x,.expression) (by simp [xY])) (h (y,.list .act) (by simp [xY])) (nQ l (fun p hp => h p (by simp [xY,hp])))
inductive AC : T -> Prop
 | assign (p : Int) (u v : T) (hu : Well .designator u) (hv : Well .expression v) : AC (.mk 14 [] 0 p [u,v])
 | call (p : Int) (u : T) (us : List T) (hu : Well .designator u) (hs : ∀ v ∈ us,Well .expression v) : AC (.mk 15 [] 0 p (u :: us))
 | choice (m p : Int) (u v : T) (us : List T) (hm : m = (us.length : Int) % 2) (hu : Well .expression u) (hv : Well (.list .act) v) (hs : Turns us) : AC (.mk 16 [] m p (u :: v :: us))
 | loop (p : Int) (u v : T) (hu : Well .expression u) (hv : Well (.list .act) v) : AC (.mk 17 [] 0 p [u,v])
 | rept (p : Int) (u v : T) (hu : Well (.list .act) u) (hv : Well .expression v) : AC (.mk 18 [] 0 p [u,v])
 | ret0 (p : Int) : AC (.mk 19 [] 0 p [])
 | ret1 (p : Int) (u : T) (hu : Well .expression u) : AC (.mk 19 [] 0 p [u])
 | word (k p : Int) (u : T) (hk : k = 20 \/ k = 21 \/ k = 22 \/ k = 23) (hu : Well .expression u) : AC (.mk k [] 0 p [u])
theorem zfs {t : T} (h : Well .act t) : AC t := by
 obtain ⟨l,f,i⟩ := Well.iff.1 h; obtain ⟨k,x,m,p,ts⟩ := t
 change gL (.mk k x m p ts) = some l at f
 unfold gL at f
 by_cases n : (T.mk k x m p ts).kind = 16
 ·rw [if_pos n] at f
  have y : k = 16 := n; subst y; obtain ⟨g,j⟩ := yx f; simp only [Bool.and_eq_true,T.num,T.name,T.subs,List.isEmpty_iff] at g; obtain ⟨⟨rfl,K⟩,F⟩ := g
  match ts,K,F,j with
  | u :: v :: E,K,F,j =>
   have H := nQ (u :: v :: E) (by intro q I; exact i q (j ▸ I)); cases H with
   | more _ _ _ hx hy H => exact .choice m p u v E (by have J := of_decide_eq_true F; simp only [List.length_cons] at J; omega) hx hy H
 rw [if_neg n] at f
 by_cases z : (T.mk k x m p ts).kind = 14
 ·rw [if_pos z] at f
  obtain ⟨g,j⟩ := yx f; obtain ⟨rfl,a,b,c,_,d⟩ := yc g
  obtain rfl : m = 0 := by omega
  obtain ⟨u,v,rfl⟩ := iy (c (by omega)); obtain rfl := d rfl; obtain ⟨o,r⟩ := cn j i
  exact .assign p u v o r
 rw [if_neg z] at f
 by_cases A : (T.mk k x m p ts).kind = 15
 ·rw [if_pos A] at f
  obtain ⟨g,j⟩ := yx f; rw [Bool.and_eq_true,decide_eq_true_eq] at g; obtain ⟨rfl,a,b,_,_,d⟩ := yc g.1
  obtain rfl : m = 0 := by omega
  obtain ⟨u,E,rfl⟩ := sA (ts := ts) g.2; obtain rfl := d rfl; obtain ⟨o,r⟩ := zhm j i
  exact .call p u E o r
 rw [if_neg A] at f
 by_cases B : (T.mk k x m p ts).kind = 17
 ·rw [if_pos B] at f
  obtain ⟨g,j⟩ := yx f; obtain ⟨rfl,a,b,c,_,d⟩ := yc g
  obtain rfl : m = 0 := by omega
  obtain ⟨u,v,rfl⟩ := iy (c (by omega)); obtain rfl := d rfl; obtain ⟨o,r⟩ := cn j i
  exact .loop p u v o r
 rw [if_neg B] at f
 by_cases C : (T.mk k x m p ts).kind = 18
 ·rw [if_pos C] at f
  obtain ⟨g,j⟩ := yx f; obtain ⟨rfl,a,b,c,_,d⟩ := yc g
  obtain rfl : m = 0 := by omega
  obtain ⟨u,v,rfl⟩ := iy (c (by omega)); obtain rfl := d rfl; obtain ⟨o,r⟩ := cn j i
  exact .rept p u v o r
 rw [if_neg C] at f
 by_cases D : (T.mk k x m p ts).kind = 19
 ·rw [if_pos D] at f
  obtain ⟨g,j⟩ := yx f; rw [Bool.and_eq_true,decide_eq_true_eq] at g; obtain ⟨rfl,a,b,_,_,d⟩ := yc g.1
  obtain rfl : m = 0 := by omega
  obtain rfl := d rfl; have I := zgi j i
  rcases le1 g.2 with e | ⟨u,e⟩
  ·change ts = [] at e; subst e; exact .ret0 p
  ·change ts = [u] at e; subst e; exact .ret1 p u (I u (by simp [T.subs]))
 rw [if_neg D] at f
 by_cases s : (T.mk k x m p ts).kind = 20 \/ (T.mk k x m p ts).kind = 22
 ·rw [if_pos s] at f
  have y : k = 20 \/ k = 22 := s; obtain ⟨g,j⟩ := yx f; obtain ⟨-,a,b,c,_,d⟩ := yc g
  obtain rfl : m = 0 := by omega
  obtain ⟨u,rfl⟩ := lC (c (by omega)); obtain rfl := d rfl
  exact .word k p u (by rcases y with h | h <;> simp [h]) (vO (mh j i))
 rw [if_neg s] at f
 by_cases w : (T.mk k x m p ts).kind = 21 \/ (T.mk k x m p ts).kind = 23
 ·rw [if_pos w] at f
  have y : k = 21 \/ k = 23 := w; obtain ⟨g,j⟩ := yx f; obtain ⟨-,a,b,c,_,d⟩ := yc g
  obtain rfl : m = 0 := by omega
  obtain ⟨u,rfl⟩ := lC (c (by omega)); obtain rfl := d rfl
  exact .word k p u (by rcases y with h | h <;> simp [h]) (mh j i)
 ·rw [if_neg w] at f
  cases f
theorem kK {k most : Int} {r : Rule} {t : T} (h : Well (.declared k most r) t) : ∃ x m p u,t = .mk k x m p [u] /\ zF x = true /\ 0 <= m /\ m <= most /\ Well r u := by
 obtain ⟨_,f,e⟩ := Well.iff.1 h; obtain ⟨j,x,m,p,l⟩ := t; obtain ⟨g,i⟩ := yx (show zq _ _ = _ from f); obtain ⟨rfl,a,b,c,d,_⟩ := yc g; obtain ⟨u,rfl⟩ := lC (c (by omega))
 exact ⟨x,m,p,u,rfl,d rfl,a,b,mh i e⟩
inductive TY : T -> Prop
 | array (m p : Int) (u : T) (h0 : 0 <= m) (h1 : m <= 2147483647) (hu : TN u) : TY (.mk 9 [] m p [u])
 | pointer (p : Int) (u : T) (hu : TN u) : TY (.mk 12 [] 0 p [u])
 | record (p : Int) (u : T) (us : List T) (hu : (∃ q,u = .mk 0 [] 0 q []) \/ (u.kind = 13 /\ TN u)) (hs : ∀ v ∈ us,Well (.declared 11 1 .typeName) v) : TY (.mk 10 [] 0 p (u :: us))
theorem zfz {t : T} (h : Well .typeItself t) : TY t := by
 obtain ⟨_,e,f⟩ := Well.iff.1 h; obtain ⟨k,x,m,p,ts⟩ := t; simp only [zw] at e
 by_cases i : (T.mk k x m p ts).kind = 9
 ·rw [if_pos i] at e
  obtain ⟨g,j⟩ := yx e; obtain ⟨rfl,a,b,c,_,d⟩ := yc g; obtain ⟨u,rfl⟩ := lC (c (by omega)); obtain rfl := d rfl
  exact .array m p u a b (fY (mh j f))
 rw [if_neg i] at e
 by_cases l : (T.mk k x m p ts).kind = 12
 ·rw [if_pos l] at e
  obtain ⟨g,j⟩ := yx e; obtain ⟨rfl,a,b,c,_,d⟩ := yc g
  obtain rfl : m = 0 := by omega
  obtain ⟨u,rfl⟩ := lC (c (by omega)); obtain rfl := d rfl
  exact .pointer p u (fY (mh j f))
 rw [if_neg l] at e
 by_cases n : (T.mk k x m p ts).kind = 10
 ·rw [if_pos n] at e
  obtain ⟨g,j⟩ := yx e; rw [Bool.and_eq_true,decide_eq_true_eq] at g; obtain ⟨rfl,a,b,_,_,d⟩ := yc g.1
  obtain rfl : m = 0 := by omega
  obtain ⟨u,o,rfl⟩ := sA (ts := ts) g.2; obtain rfl := d rfl; obtain ⟨r,s⟩ := zhm j f
  exact .record p u o (zaq r) s
 ·rw [if_neg n] at e
  cases e
theorem zhi {t : T} (h : Well .imported t) : ∃ x p,t = .mk 3 x 0 p [] /\ zF x = true := by
 obtain ⟨_,b,_⟩ := Well.iff.1 h; obtain ⟨_,x,m,p,_⟩ := t; obtain ⟨e,_⟩ := yx (show zq _ _ = _ from b); obtain ⟨rfl,_,_,c,d,_⟩ := yc e
 obtain rfl : m = 0 := by omega
 obtain rfl := ag (c (by omega))
 exact ⟨x,p,rfl,d rfl⟩
theorem zkb {ts : List T} (h : (ts.length : Int) = 4) : ∃ a b c d,ts = [a,b,c,d] := by
 match ts,h with
 | [a,b,c,d],_ => exact ⟨a,b,c,d,rfl⟩
 | [],h => simp at h
 | [_],h => simp at h
 | [_,_],h => simp at h
 | [_,_,_],h => simp at h
 | _ :: _ :: _ :: _ :: _ :: l,h => simp at h; omega
theorem zjo {ts : List T} (h : (ts.length : Int) = 6) : ∃ a b c d e f,ts = [a,b,c,d,e,f] := by
 match ts,h with
 | [a,b,c,d,e,f],_ => exact ⟨a,b,c,d,e,f,rfl⟩
 | [],h => simp at h
 | [_],h => simp at h
 | [_,_],h => simp at h
 | [_,_,_],h => simp at h
 | [_,_,_,_],h => simp at h
 | [_,_,_,_,_],h => simp at h
 | _ :: _ :: _ :: _ :: _ :: _ :: _ :: l,h => simp at h; omega
theorem bg {t : T} (h : Well .procedure t) : ∃ x m p ps rs vs bs,t = .mk 7 x m p [ps,rs,vs,bs] /\ zF x = true /\ 0 <= m /\ m <= 1 /\ Well (.list (.declared 8 1 .typeName)) ps /\ ((∃ q,rs = .mk 0 [] 0 q []) \/ (rs.kind = 13 /\ TN rs)) /\ Well (.list (.declared 6 0 .typeName)) vs /\ Well (.list .act) bs := by
 obtain ⟨_,f,e⟩ := Well.iff.1 h; obtain ⟨_,x,m,p,_⟩ := t; obtain ⟨g,i⟩ := yx (show zq _ _ = _ from f); obtain ⟨rfl,a,b,c,d,_⟩ := yc g; obtain ⟨ps,rs,vs,bs,rfl⟩ := zkb (c (by omega)); subst i
 exact ⟨x,m,p,ps,rs,vs,bs,rfl,d rfl,a,b,e (ps,_) (by simp [yn,T.subs]),zaq (e (rs,.typeNameOrNone) (by simp [yn,T.subs])),e (vs,_) (by simp [yn,T.subs]),e (bs,.list .act) (by simp [yn,T.subs])⟩
theorem zce {t : T} (h : Well .module t) : ∃ x p is cs ts vs ps bs,t = .mk 2 x 0 p [is,cs,ts,vs,ps,bs] /\ zF x = true /\ Well (.list .imported) is /\ Well (.list (.declared 4 1 .expression)) cs /\ Well (.list (.declared 5 1 .typeItself)) ts /\ Well (.list (.declared 6 1 .typeName)) vs /\ Well (.list .procedure) ps /\ Well (.list .act) bs := by
 obtain ⟨_,e,b⟩ := Well.iff.1 h; obtain ⟨_,x,m,p,_⟩ := t; obtain ⟨f,g⟩ := yx (show zq _ _ = _ from e); obtain ⟨rfl,_,_,c,d,_⟩ := yc f
 obtain rfl : m = 0 := by omega
 obtain ⟨is,cs,ts,vs,ps,bs,rfl⟩ := zjo (c (by omega)); subst g
 exact ⟨x,p,is,cs,ts,vs,ps,bs,rfl,d rfl,b (is,.list .imported) (by simp [yn,T.subs]),b (cs,.list (.declared 4 1 .expression)) (by simp [yn,T.subs]),b (ts,.list (.declared 5 1 .typeItself)) (by simp [yn,T.subs]),b (vs,.list (.declared 6 1 .typeName)) (by simp [yn,T.subs]),b (ps,.list .procedure) (by simp [yn,T.subs]),b (bs,.list .act) (by simp [yn,T.subs])⟩
/-! ### Lengths -/
theorem qr {t : T} (h : zF t.name = true) : (yK t).length <= 13 := by
 have := xj h
 unfold yK
 split <;> simp <;> omega
theorem dF (sep last : List UInt8) (tx : T -> List UInt8) (L c : Nat) (l : List T) (h1 : last.length <= sep.length) (h : ∀ t ∈ l,(tx t).length + (2 * L + 2 + sep.length + 1) <= c * zr t) : (yC sep last tx L l).length <= c * zu l + sep.length + 1 := by
 unfold yC
 split
 ·simp
 ·have := kW (sep ++ [10]) (fun t => zR (L + 1) ++ tx t) c l (fun t ht => by have := h t ht; simp [zo]; omega)
  simp only [la,lc,ln]
  omega
end Go.Proofs.YtfjgelmllcnokaaGreatDoor
