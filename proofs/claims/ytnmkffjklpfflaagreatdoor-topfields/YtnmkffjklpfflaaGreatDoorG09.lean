/- What trees that go by a rule look like,case by case; how long their texts can be. -/
import Derived.Test.YtnmkffjklpfflaaGreatDoorG06
namespace Go.Proofs.YtnmkffjklpfflaaGreatDoor
theorem yd {c : Bool} {l m : List (T × Rule)} (h : zA c l = some m) : c = true /\ l = m := by
 unfold zA at h
 split at h
 ·cases h; exact ⟨‹_›,rfl⟩
 ·cases h
theorem zO {k k' : Int} {x : List UInt8} {m p : Int} {ts : List T} {most many : Int} {named : Bool} (h : zJ (.mk k x m p ts) k' named most many = true) : k = k' /\ 0 <= m /\ m <= most /\ (0 <= many -> (ts.length : Int) = many) /\ (named = true -> yh x = true) /\ (named = false -> x = []) := by
 unfold zJ at h
 rw [Bool.and_eq_true,decide_eq_true_eq] at h; obtain ⟨⟨c,d,f,g⟩,b⟩ := h; refine ⟨c,d,f,g,fun e => ?_,fun e => ?_⟩
 ·subst e; simpa [T.name] using b
 ·subst e
  have : x.isEmpty = true := by simpa [T.name] using b
  exact List.isEmpty_iff.1 this
theorem bp {ts : List T} (h : (ts.length : Int) = 0) : ts = [] := List.eq_nil_of_length_eq_zero (by omega)
theorem lX {ts : List T} (h : (ts.length : Int) = 1) : ∃ u,ts = [u] := List.length_eq_one_iff.1 (by omega)
theorem ov {ts : List T} (h : (ts.length : Int) = 2) : ∃ u v,ts = [u,v] := by
 match ts,h with
 | [u,v],_ => exact ⟨u,v,rfl⟩
 | [],h => simp at h
 | [_],h => simp at h
 | _ :: _ :: _ :: l,h => simp at h; omega
theorem le1 {ts : List T} (h : ts.length <= 1) : ts = [] \/ ∃ u,ts = [u] := by
 match ts,h with
 | [],_ => exact .inl rfl
 | [u],_ => exact .inr ⟨u,rfl⟩
 | _ :: _ :: l,h => simp at h
theorem cm {u : T} {r : Rule} {l : List (T × Rule)} (e : yY [u] [r] = l) (h : ∀ p ∈ l,Well p.2 p.1) : Well r u := by subst e; exact h (u,r) (by simp [yY])
theorem oJ {u v : T} {r q : Rule} {l : List (T × Rule)} (e : yY [u,v] [r,q] = l) (h : ∀ p ∈ l,Well p.2 p.1) : Well r u /\ Well q v := by subst e; exact ⟨h (u,r) (by simp [yY]),h (v,q) (by simp [yY])⟩
theorem zaq {us : List T} {r : Rule} {l : List (T × Rule)} (e : vD us r = l) (h : ∀ p ∈ l,Well p.2 p.1) : ∀ u ∈ us,Well r u := by
 subst e; intro u b
 exact h (u,r) (List.mem_map.2 ⟨u,b,rfl⟩)
theorem za3 {u : T} {us : List T} {k m p : Int} {x : List UInt8} {r q : Rule} {l : List (T × Rule)} (e : ut (.mk k x m p (u :: us)) r q = l) (h : ∀ p ∈ l,Well p.2 p.1) : Well r u /\ ∀ v ∈ us,Well q v := by
 subst e; refine ⟨h (u,r) (by simp [ut,T.subs]),fun v hv => h (v,q) (List.mem_cons_of_mem _ (List.mem_map.2 ⟨v,hv,rfl⟩))⟩
theorem ol {ts : List T} (h : 0 < ts.length) : ∃ u us,ts = u :: us := by
 match ts,h with
 | u :: us,_ => exact ⟨u,us,rfl⟩
inductive TN : T -> Prop
 | plain (x : List UInt8) (p : Int) (h : yh x = true) : TN (.mk 13 x 0 p [])
 | dot (x : List UInt8) (p : Int) (y : List UInt8) (q : Int) (h : yh x = true) (hy : yh y = true) : TN (.mk 13 x 0 p [.mk 24 y 0 q []])
theorem zar {t : T} (h : Well .ref t) : ∃ y q,t = .mk 24 y 0 q [] /\ yh y = true := by
 obtain ⟨_,b,_⟩ := Well.iff.1 h; obtain ⟨_,x,m,p,_⟩ := t; obtain ⟨e,_⟩ := yd b; obtain ⟨rfl,_,_,c,d,_⟩ := zO e
 obtain rfl : m = 0 := by omega
 obtain rfl := bp (c (by omega))
 exact ⟨x,p,rfl,d rfl⟩
theorem aL {t : T} {l : List (T × Rule)} (hs : vq t = some l) (all : ∀ p ∈ l,Well p.2 p.1) : TN t := by
 obtain ⟨_,x,m,p,c⟩ := t; obtain ⟨b,f⟩ := yd hs; rw [Bool.and_eq_true,decide_eq_true_eq] at b; obtain ⟨rfl,_,_,_,d,_⟩ := zO b.1
 obtain rfl : m = 0 := by omega
 have g := zaq f all
 rcases le1 b.2 with e | ⟨u,e⟩
 ·change c = [] at e; subst e; exact .plain x p (d rfl)
 ·change c = [u] at e
  subst e; obtain ⟨y,q,rfl,h⟩ := zar (g u (by simp [T.subs]))
  exact .dot x p y q (d rfl) h
theorem ah {t : T} (h : Well .typeName t) : TN t := by
 obtain ⟨_,c,b⟩ := Well.iff.1 h
 exact aL c b
inductive EX : T -> Prop
 | ref (x : List UInt8) (p : Int) (h : yh x = true) : EX (.mk 24 x 0 p [])
 | dot (x : List UInt8) (p : Int) (u : T) (h : yh x = true) (hu : Well .designator u) : EX (.mk 25 x 0 p [u])
 | index (p : Int) (u v : T) (hu : Well .designator u) (hv : Well .expression v) : EX (.mk 26 [] 0 p [u,v])
 | deref (p : Int) (u : T) (hu : Well .designator u) : EX (.mk 27 [] 0 p [u])
 | guard (p : Int) (u v : T) (hu : Well .designator u) (hv : TN v) : EX (.mk 28 [] 0 p [u,v])
 | number (m p : Int) (h0 : 0 <= m) (h1 : m <= 2147483647) : EX (.mk 29 [] m p [])
 | word (k p : Int) (hk : k = 30 \/ k = 31 \/ k = 32) : EX (.mk k [] 0 p [])
 | call (p : Int) (u : T) (us : List T) (hu : Well .designator u) (hs : ∀ v ∈ us,Well .expression v) : EX (.mk 33 [] 0 p (u :: us))
 | one (k p : Int) (u : T) (hk : k = 34 \/ k = 35) (hu : Well .expression u) : EX (.mk k [] 0 p [u])
 | is (p : Int) (u v : T) (hu : Well .expression u) (hv : TN v) : EX (.mk 37 [] 0 p [u,v])
 | op (x : List UInt8) (p : Int) (u v : T) (hx : 0 <= vv x) (hu : Well .expression u) (hv : Well .expression v) : EX (.mk 36 x 0 p [u,v])
theorem cD {k : Int} {x : List UInt8} {m p : Int} {ts : List T} {l : List (T × Rule)} (hs : zZ (.mk k x m p ts) = some l) (all : ∀ p ∈ l,Well p.2 p.1) : EX (.mk k x m p ts) := by
 unfold zZ at hs
 by_cases g : (T.mk k x m p ts).kind = 24
 ·rw [if_pos g] at hs
  obtain ⟨e,-⟩ := yd hs; obtain ⟨rfl,a,b,c,d,_⟩ := zO e
  obtain rfl : m = 0 := by omega
  obtain rfl := bp (c (by omega))
  exact .ref x p (d rfl)
 rw [if_neg g] at hs
 by_cases h : (T.mk k x m p ts).kind = 25
 ·rw [if_pos h] at hs
  obtain ⟨e,f⟩ := yd hs; obtain ⟨rfl,a,b,c,d,_⟩ := zO e
  obtain rfl : m = 0 := by omega
  obtain ⟨u,rfl⟩ := lX (c (by omega))
  exact .dot x p u (d rfl) (cm f all)
 rw [if_neg h] at hs
 by_cases i : (T.mk k x m p ts).kind = 26
 ·rw [if_pos i] at hs
  obtain ⟨e,f⟩ := yd hs; obtain ⟨rfl,a,b,c,_,d⟩ := zO e
  obtain rfl : m = 0 := by omega
  obtain ⟨u,v,rfl⟩ := ov (c (by omega)); obtain rfl := d rfl; obtain ⟨o,q⟩ := oJ f all
  exact .index p u v o q
 rw [if_neg i] at hs
 by_cases j : (T.mk k x m p ts).kind = 27
 ·rw [if_pos j] at hs
  obtain ⟨e,f⟩ := yd hs; obtain ⟨rfl,a,b,c,_,d⟩ := zO e
  obtain rfl : m = 0 := by omega
  obtain ⟨u,rfl⟩ := lX (c (by omega)); obtain rfl := d rfl
  exact .deref p u (cm f all)
 rw [if_neg j] at hs
 by_cases n : (T.mk k x m p ts).kind = 28
 ·rw [if_pos n] at hs
  obtain ⟨e,f⟩ := yd hs; obtain ⟨rfl,a,b,c,_,d⟩ := zO e
  obtain rfl : m = 0 := by omega
  obtain ⟨u,v,rfl⟩ := ov (c (by omega)); obtain rfl := d rfl; obtain ⟨o,q⟩ := oJ f all
  exact .guard p u v o (ah q)
 ·rw [if_neg n] at hs
  cases hs
theorem cA {t : T} (h : Well .designator t) : EX t := by
 obtain ⟨_,c,b⟩ := Well.iff.1 h; obtain ⟨_,_,_,_,_⟩ := t
 exact cD c b
theorem me {t : T} (h : Well .designator t) : t.kind = 24 \/ t.kind = 25 \/ t.kind = 26 \/ t.kind = 27 \/ t.kind = 28 := by
 obtain ⟨l,b,_⟩ := Well.iff.1 h
 change zZ t = some l at b
 unfold zZ at b
 by_cases c : t.kind = 24
 ·exact .inl c
 by_cases d : t.kind = 25
 ·exact .inr (.inl d)
 by_cases e : t.kind = 26
 ·exact .inr (.inr (.inl e))
 by_cases f : t.kind = 27
 ·exact .inr (.inr (.inr (.inl f)))
 by_cases g : t.kind = 28
 ·exact .inr (.inr (.inr (.inr g)))
 ·simp [c,d,e,f,g] at b
theorem uh {t : T} (h : Well .designator t) : Well .expression t := by
 have c := me h; obtain ⟨l,d,b⟩ := Well.iff.1 h; refine .mk l ?_ b; rw [<- d]
 show zV t = zZ t
 unfold zV
 rcases c with e | e | e | e | e <;> simp [e]
theorem aq {t : T} (h : Well .expression t) : EX t := by
 obtain ⟨l,e,g⟩ := Well.iff.1 h; obtain ⟨k,x,m,p,ts⟩ := t
 change zV (.mk k x m p ts) = some l at e
 unfold zV at e
 by_cases q : (T.mk k x m p ts).kind = 29
 ·rw [if_pos q] at e
  obtain ⟨f,-⟩ := yd e; obtain ⟨rfl,a,b,c,_,d⟩ := zO f; obtain rfl := bp (c (by omega)); obtain rfl := d rfl
  exact .number m p a b
 rw [if_neg q] at e
 by_cases i : (T.mk k x m p ts).kind = 30 \/ (T.mk k x m p ts).kind = 31 \/ (T.mk k x m p ts).kind = 32
 ·rw [if_pos i] at e
  have r : k = 30 \/ k = 31 \/ k = 32 := i; obtain ⟨f,-⟩ := yd e; obtain ⟨-,a,b,c,_,d⟩ := zO f
  obtain rfl : m = 0 := by omega
  obtain rfl := bp (c (by omega)); obtain rfl := d rfl
  exact .word k p r
 rw [if_neg i] at e
 by_cases s : (T.mk k x m p ts).kind = 33
 ·rw [if_pos s] at e
  obtain ⟨f,j⟩ := yd e; rw [Bool.and_eq_true,decide_eq_true_eq] at f; obtain ⟨rfl,a,b,_,_,d⟩ := zO f.1
  obtain rfl : m = 0 := by omega
  obtain ⟨u,B,rfl⟩ := ol (ts := ts) f.2; obtain rfl := d rfl; obtain ⟨w,z⟩ := za3 j g
  exact .call p u B w z
 rw [if_neg s] at e
 by_cases n : (T.mk k x m p ts).kind = 34 \/ (T.mk k x m p ts).kind = 35
 ·rw [if_pos n] at e
  have r : k = 34 \/ k = 35 := n; obtain ⟨f,j⟩ := yd e; obtain ⟨-,a,b,c,_,d⟩ := zO f
  obtain rfl : m = 0 := by omega
  obtain ⟨u,rfl⟩ := lX (c (by omega)); obtain rfl := d rfl
  exact .one k p u r (cm j g)
 rw [if_neg n] at e
 by_cases A : (T.mk k x m p ts).kind = 37
 ·rw [if_pos A] at e
  obtain ⟨f,j⟩ := yd e; obtain ⟨rfl,a,b,c,_,d⟩ := zO f
  obtain rfl : m = 0 := by omega
  obtain ⟨u,v,rfl⟩ := ov (c (by omega)); obtain rfl := d rfl; obtain ⟨w,z⟩ := oJ j g
  exact .is p u v w (ah z)
 rw [if_neg A] at e
 by_cases o : (T.mk k x m p ts).kind = 36
 ·rw [if_pos o] at e
  have r : k = 36 := o; subst r; obtain ⟨f,j⟩ := yd e; simp only [Bool.and_eq_true,beq_iff_eq,T.num,T.name,T.subs] at f; obtain ⟨⟨C,rfl⟩,_⟩ := f; obtain ⟨u,v,rfl⟩ := ov (ts := ts) (by omega); obtain ⟨w,z⟩ := oJ j g
  exact .op x p u v (of_decide_eq_true C) w z
 ·rw [if_neg o] at e
  exact cD e g
theorem aY {x : List UInt8} (h : 0 <= vv x) : x.length <= 3 := by
 unfold vv at h
 have b : ∀ xs : List (List UInt8),(∀ y ∈ xs,y.length <= 3) -> inB xs x = true -> x.length <= 3 := fun xs hx hb => hx x (by unfold inB at hb; simpa using hb)
 split at h
 ·rename_i h1; exact b _ (by decide) h1
 split at h
 ·rename_i h1; exact b _ (by decide) h1
 split at h
 ·rename_i h1; exact b _ (by decide) h1
 ·omega
theorem vi {x : List UInt8} (h : yh x = true) : x.length <= 12 := by
 rcases Nat.lt_or_ge 12 x.length with b | b
 ·have := gV ⟨x.toArray⟩ (by simpa [ByteArray.size] using b)
  simp at this
  rw [h] at this; cases this
 ·exact b
theorem nU {r : Rule} {t : T} (h : Well (.list r) t) : ∃ p us,t = .mk 1 [] 0 p us /\ ∀ u ∈ us,Well r u := by
 obtain ⟨_,c,b⟩ := Well.iff.1 h; obtain ⟨_,_,m,p,e⟩ := t; obtain ⟨f,g⟩ := yd (show zA _ _ = _ from c); obtain ⟨rfl,_,_,_,_,d⟩ := zO f
 obtain rfl : m = 0 := by omega
 obtain rfl := d rfl
 exact ⟨p,e,rfl,zaq g b⟩
inductive Turns : List T -> Prop
 | nil : Turns []
 | one (x : T) (h : Well (.list .act) x) : Turns [x]
 | more (x y : T) (l : List T) (hx : Well .expression x) (hy : Well (.list .act) y) (h : Turns l) : Turns (x :: y :: l)
theorem pN : ∀ (us : List T),(∀ p ∈ uL us,Well p.2 p.1) -> Turns us
 | [],_ => .nil
 | [x],h => .one x (h (x,.list .act) (by simp [uL]))
 | x :: y :: l,h => .more x y l (h (x,.expression) (by simp [uL])) (h (y,.list .act) (by simp [uL])) (pN l (fun p hp => h p (by simp [uL,hp])))
inductive AC : T -> Prop
 | assign (p : Int) (u v : T) (hu : Well .designator u) (hv : Well .expression v) : AC (.mk 14 [] 0 p [u,v])
 | call (p : Int) (u : T) (us : List T) (hu : Well .designator u) (hs : ∀ v ∈ us,Well .expression v) : AC (.mk 15 [] 0 p (u :: us))
 | choice (m p : Int) (u v : T) (us : List T) (hm : m = (us.length : Int) % 2) (hu : Well .expression u) (hv : Well (.list .act) v) (hs : Turns us) : AC (.mk 16 [] m p (u :: v :: us))
 | loop (p : Int) (u v : T) (hu : Well .expression u) (hv : Well (.list .act) v) : AC (.mk 17 [] 0 p [u,v])
 | rept (p : Int) (u v : T) (hu : Well (.list .act) u) (hv : Well .expression v) : AC (.mk 18 [] 0 p [u,v])
 | ret0 (p : Int) : AC (.mk 19 [] 0 p [])
 | ret1 (p : Int) (u : T) (hu : Well .expression u) : AC (.mk 19 [] 0 p [u])
 | word (k p : Int) (u : T) (hk : k = 20 \/ k = 21 \/ k = 22 \/ k = 23) (hu : Well .expression u) : AC (.mk k [] 0 p [u])
theorem za4 {t : T} (h : Well .act t) : AC t := by
 obtain ⟨l,f,i⟩ := Well.iff.1 h; obtain ⟨k,x,m,p,ts⟩ := t
 change jq (.mk k x m p ts) = some l at f
 unfold jq at f
 by_cases n : (T.mk k x m p ts).kind = 16
 ·rw [if_pos n] at f
  have z : k = 16 := n; subst z; obtain ⟨g,j⟩ := yd f; simp only [Bool.and_eq_true,T.num,T.name,T.subs,List.isEmpty_iff] at g; obtain ⟨⟨rfl,K⟩,G⟩ := g
  match ts,K,G,j with
  | u :: v :: F,K,G,j =>
   have H := pN (u :: v :: F) (by intro q I; exact i q (j ▸ I)); cases H with
   | more _ _ _ hx hy H => exact .choice m p u v F (by have J := of_decide_eq_true G; simp only [List.length_cons] at J; omega) hx hy H
 rw [if_neg n] at f
 by_cases A : (T.mk k x m p ts).kind = 14
 ·rw [if_pos A] at f
  obtain ⟨g,j⟩ := yd f; obtain ⟨rfl,a,b,c,_,d⟩ := zO g
  obtain rfl : m = 0 := by omega
  obtain ⟨u,v,rfl⟩ := ov (c (by omega)); obtain rfl := d rfl; obtain ⟨o,r⟩ := oJ j i
  exact .assign p u v o r
 rw [if_neg A] at f
 by_cases B : (T.mk k x m p ts).kind = 15
 ·rw [if_pos B] at f
  obtain ⟨g,j⟩ := yd f; rw [Bool.and_eq_true,decide_eq_true_eq] at g; obtain ⟨rfl,a,b,_,_,d⟩ := zO g.1
  obtain rfl : m = 0 := by omega
  obtain ⟨u,F,rfl⟩ := ol (ts := ts) g.2; obtain rfl := d rfl; obtain ⟨o,r⟩ := za3 j i
  exact .call p u F o r
 rw [if_neg B] at f
 by_cases C : (T.mk k x m p ts).kind = 17
 ·rw [if_pos C] at f
  obtain ⟨g,j⟩ := yd f; obtain ⟨rfl,a,b,c,_,d⟩ := zO g
  obtain rfl : m = 0 := by omega
  obtain ⟨u,v,rfl⟩ := ov (c (by omega)); obtain rfl := d rfl; obtain ⟨o,r⟩ := oJ j i
  exact .loop p u v o r
 rw [if_neg C] at f
 by_cases D : (T.mk k x m p ts).kind = 18
 ·rw [if_pos D] at f
  obtain ⟨g,j⟩ := yd f; obtain ⟨rfl,a,b,c,_,d⟩ := zO g
  obtain rfl : m = 0 := by omega
  obtain ⟨u,v,rfl⟩ := ov (c (by omega)); obtain rfl := d rfl; obtain ⟨o,r⟩ := oJ j i
  exact .rept p u v o r
 rw [if_neg D] at f
 by_cases E : (T.mk k x m p ts).kind = 19
 ·rw [if_pos E] at f
  obtain ⟨g,j⟩ := yd f; rw [Bool.and_eq_true,decide_eq_true_eq] at g; obtain ⟨rfl,a,b,_,_,d⟩ := zO g.1
  obtain rfl : m = 0 := by omega
  obtain rfl := d rfl; have I := zaq j i
  rcases le1 g.2 with e | ⟨u,e⟩
  ·change ts = [] at e; subst e; exact .ret0 p
  ·change ts = [u] at e; subst e; exact .ret1 p u (I u (by simp [T.subs]))
 rw [if_neg E] at f
 by_cases s : (T.mk k x m p ts).kind = 20 \/ (T.mk k x m p ts).kind = 22
 ·rw [if_pos s] at f
  have z : k = 20 \/ k = 22 := s; obtain ⟨g,j⟩ := yd f; obtain ⟨-,a,b,c,_,d⟩ := zO g
  obtain rfl : m = 0 := by omega
  obtain ⟨u,rfl⟩ := lX (c (by omega)); obtain rfl := d rfl
  exact .word k p u (by rcases z with h | h <;> simp [h]) (uh (cm j i))
 rw [if_neg s] at f
 by_cases w : (T.mk k x m p ts).kind = 21 \/ (T.mk k x m p ts).kind = 23
 ·rw [if_pos w] at f
  have z : k = 21 \/ k = 23 := w; obtain ⟨g,j⟩ := yd f; obtain ⟨-,a,b,c,_,d⟩ := zO g
  obtain rfl : m = 0 := by omega
  obtain ⟨u,rfl⟩ := lX (c (by omega)); obtain rfl := d rfl
  exact .word k p u (by rcases z with h | h <;> simp [h]) (cm j i)
 ·rw [if_neg w] at f
  cases f
/-! ### Lengths -/
end Go.Proofs.YtnmkffjklpfflaaGreatDoor
