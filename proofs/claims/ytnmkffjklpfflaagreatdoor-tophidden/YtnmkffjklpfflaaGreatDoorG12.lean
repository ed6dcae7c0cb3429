/- What trees that go by a rule look like,case by case; how long their texts can be. -/
import Derived.Test.YtnmkffjklpfflaaGreatDoorG08
namespace Go.Proofs.YtnmkffjklpfflaaGreatDoor
theorem zS {c : Bool} {l m : List (T × Rule)} (h : zT c l = some m) : c = true /\ l = m := by
 unfold zT at h
 split at h
 ·cases h; exact ⟨‹_›,rfl⟩
 ·cases h
theorem zK {k k' : Int} {x : List UInt8} {m p : Int} {ts : List T} {most many : Int} {named : Bool} (h : yx (.mk k x m p ts) k' named most many = true) : k = k' /\ 0 <= m /\ m <= most /\ (0 <= many -> (ts.length : Int) = many) /\ (named = true -> yv x = true) /\ (named = false -> x = []) := by
 unfold yx at h
 rw [Bool.and_eq_true,decide_eq_true_eq] at h; obtain ⟨⟨c,d,f,g⟩,b⟩ := h; refine ⟨c,d,f,g,fun e => ?_,fun e => ?_⟩
 ·subst e; simpa [T.name] using b
 ·subst e
  have : x.isEmpty = true := by simpa [T.name] using b
  exact List.isEmpty_iff.1 this
theorem nV {ts : List T} (h : (ts.length : Int) = 0) : ts = [] := List.eq_nil_of_length_eq_zero (by omega)
theorem nC {ts : List T} (h : (ts.length : Int) = 1) : ∃ u,ts = [u] := List.length_eq_one_iff.1 (by omega)
theorem rl {ts : List T} (h : (ts.length : Int) = 2) : ∃ u v,ts = [u,v] := by
 match ts,h with
 | [u,v],_ => exact ⟨u,v,rfl⟩
 | [],h => simp at h
 | [_],h => simp at h
 | _ :: _ :: _ :: l,h => simp at h; omega
theorem le1 {ts : List T} (h : ts.length <= 1) : ts = [] \/ ∃ u,ts = [u] := by
 match ts,h with
 | [],_ => exact .inl rfl
 | [u],_ => exact .inr ⟨u,rfl⟩
 | _ :: _ :: l,h => simp at h
theorem nx {u : T} {r : Rule} {l : List (T × Rule)} (e : vH [u] [r] = l) (h : ∀ p ∈ l,Well p.2 p.1) : Well r u := by subst e; exact h (u,r) (by simp [vH])
theorem sV {u v : T} {r q : Rule} {l : List (T × Rule)} (e : vH [u,v] [r,q] = l) (h : ∀ p ∈ l,Well p.2 p.1) : Well r u /\ Well q v := by subst e; exact ⟨h (u,r) (by simp [vH]),h (v,q) (by simp [vH])⟩
theorem mG {us : List T} {r : Rule} {l : List (T × Rule)} (e : tc us r = l) (h : ∀ p ∈ l,Well p.2 p.1) : ∀ u ∈ us,Well r u := by
 subst e; intro u b
 exact h (u,r) (List.mem_map.2 ⟨u,b,rfl⟩)
theorem lv {u : T} {us : List T} {k m p : Int} {x : List UInt8} {r q : Rule} {l : List (T × Rule)} (e : qS (.mk k x m p (u :: us)) r q = l) (h : ∀ p ∈ l,Well p.2 p.1) : Well r u /\ ∀ v ∈ us,Well q v := by
 subst e; refine ⟨h (u,r) (by simp [qS,T.subs]),fun v hv => h (v,q) (List.mem_cons_of_mem _ (List.mem_map.2 ⟨v,hv,rfl⟩))⟩
theorem sD {ts : List T} (h : 0 < ts.length) : ∃ u us,ts = u :: us := by
 match ts,h with
 | u :: us,_ => exact ⟨u,us,rfl⟩
inductive TN : T -> Prop
 | plain (x : List UInt8) (p : Int) (h : yv x = true) : TN (.mk 13 x 0 p [])
 | dot (x : List UInt8) (p : Int) (y : List UInt8) (q : Int) (h : yv x = true) (hy : yv y = true) : TN (.mk 13 x 0 p [.mk 24 y 0 q []])
theorem mF {t : T} (h : Well .ref t) : ∃ y q,t = .mk 24 y 0 q [] /\ yv y = true := by
 obtain ⟨_,b,_⟩ := Well.iff.1 h; obtain ⟨_,x,m,p,_⟩ := t; obtain ⟨e,_⟩ := zS b; obtain ⟨rfl,_,_,c,d,_⟩ := zK e
 obtain rfl : m = 0 := by omega
 obtain rfl := nV (c (by omega))
 exact ⟨x,p,rfl,d rfl⟩
theorem mM {t : T} {l : List (T × Rule)} (hs : kR t = some l) (all : ∀ p ∈ l,Well p.2 p.1) : TN t := by
 obtain ⟨_,x,m,p,c⟩ := t; obtain ⟨b,f⟩ := zS hs; rw [Bool.and_eq_true,decide_eq_true_eq] at b; obtain ⟨rfl,_,_,_,d,_⟩ := zK b.1
 obtain rfl : m = 0 := by omega
 have g := mG f all
 rcases le1 b.2 with e | ⟨u,e⟩
 ·change c = [] at e; subst e; exact .plain x p (d rfl)
 ·change c = [u] at e
  subst e; obtain ⟨y,q,rfl,h⟩ := mF (g u (by simp [T.subs]))
  exact .dot x p y q (d rfl) h
theorem ms {t : T} (h : Well .typeName t) : TN t := by
 obtain ⟨_,c,b⟩ := Well.iff.1 h
 exact mM c b
inductive EX : T -> Prop
 | ref (x : List UInt8) (p : Int) (h : yv x = true) : EX (.mk 24 x 0 p [])
 | dot (x : List UInt8) (p : Int) (u : T) (h : yv x = true) (hu : Well .designator u) : EX (.mk 25 x 0 p [u])
 | index (p : Int) (u v : T) (hu : Well .designator u) (hv : Well .expression v) : EX (.mk 26 [] 0 p [u,v])
 | deref (p : Int) (u : T) (hu : Well .designator u) : EX (.mk 27 [] 0 p [u])
 | guard (p : Int) (u v : T) (hu : Well .designator u) (hv : TN v) : EX (.mk 28 [] 0 p [u,v])
 | number (m p : Int) (h0 : 0 <= m) (h1 : m <= 2147483647) : EX (.mk 29 [] m p [])
 | word (k p : Int) (hk : k = 30 \/ k = 31 \/ k = 32) : EX (.mk k [] 0 p [])
 | call (p : Int) (u : T) (us : List T) (hu : Well .designator u) (hs : ∀ v ∈ us,Well .expression v) : EX (.mk 33 [] 0 p (u :: us))
 | one (k p : Int) (u : T) (hk : k = 34 \/ k = 35) (hu : Well .expression u) : EX (.mk k [] 0 p [u])
 | is (p : Int) (u v : T) (hu : Well .expression u) (hv : TN v) : EX (.mk 37 [] 0 p [u,v])
 | op (x : List UInt8) (p : Int) (u v : T) (hx : 0 <= rO x) (hu : Well .expression u) (hv : Well .expression v) : EX (.mk 36 x 0 p [u,v])
theorem ni {k : Int} {x : List UInt8} {m p : Int} {ts : List T} {l : List (T × Rule)} (hs : yN (.mk k x m p ts) = some l) (all : ∀ p ∈ l,Well p.2 p.1) : EX (.mk k x m p ts) := by
 unfold yN at hs
 by_cases g : (T.mk k x m p ts).kind = 24
 ·rw [if_pos g] at hs
  obtain ⟨e,-⟩ := zS hs; obtain ⟨rfl,a,b,c,d,_⟩ := zK e
  obtain rfl : m = 0 := by omega
  obtain rfl := nV (c (by omega))
  exact .ref x p (d rfl)
 rw [if_neg g] at hs
 by_cases h : (T.mk k x m p ts).kind = 25
 ·rw [if_pos h] at hs
  obtain ⟨e,f⟩ := zS hs; obtain ⟨rfl,a,b,c,d,_⟩ := zK e
  obtain rfl : m = 0 := by omega
  obtain ⟨u,rfl⟩ := nC (c (by omega))
  exact .dot x p u (d rfl) (nx f all)
 rw [if_neg h] at hs
 by_cases i : (T.mk k x m p ts).kind = 26
 ·rw [if_pos i] at hs
  obtain ⟨e,f⟩ := zS hs; obtain ⟨rfl,a,b,c,_,d⟩ := zK e
  obtain rfl : m = 0 := by omega
  obtain ⟨u,v,rfl⟩ := rl (c (by omega)); obtain rfl := d rfl; obtain ⟨o,q⟩ := sV f all
  exact .index p u v o q
 rw [if_neg i] at hs
 by_cases j : (T.mk k x m p ts).kind = 27
 ·rw [if_pos j] at hs
  obtain ⟨e,f⟩ := zS hs; obtain ⟨rfl,a,b,c,_,d⟩ := zK e
  obtain rfl : m = 0 := by omega
  obtain ⟨u,rfl⟩ := nC (c (by omega)); obtain rfl := d rfl
  exact .deref p u (nx f all)
 rw [if_neg j] at hs
 by_cases n : (T.mk k x m p ts).kind = 28
 ·rw [if_pos n] at hs
  obtain ⟨e,f⟩ := zS hs; obtain ⟨rfl,a,b,c,_,d⟩ := zK e
  obtain rfl : m = 0 := by omega
  obtain ⟨u,v,rfl⟩ := rl (c (by omega)); obtain rfl := d rfl; obtain ⟨o,q⟩ := sV f all
  exact .guard p u v o (ms q)
 ·rw [if_neg n] at hs
  cases hs
theorem oR {t : T} (h : Well .designator t) : EX t := by
 obtain ⟨_,c,b⟩ := Well.iff.1 h; obtain ⟨_,_,_,_,_⟩ := t
 exact ni c b
theorem rE {t : T} (h : Well .designator t) : t.kind = 24 \/ t.kind = 25 \/ t.kind = 26 \/ t.kind = 27 \/ t.kind = 28 := by
 obtain ⟨l,b,_⟩ := Well.iff.1 h
 change yN t = some l at b
 unfold yN at b
 by_cases c : t.kind = 24
 ·exact .inl c
 by_cases d : t.kind = 25
 ·exact .inr (.inl d)
 by_cases e : t.kind = 26
 ·exact .inr (.inr (.inl e))
 by_cases f : t.kind = 27
 ·exact .inr (.inr (.inr (.inl f)))
 by_cases g : t.kind = 28
 ·exact .inr (.inr (.inr (.inr g)))
 ·simp [c,d,e,f,g] at b
theorem ul {t : T} (h : Well .designator t) : Well .expression t := by
 have c := rE h; obtain ⟨l,d,b⟩ := Well.iff.1 h; refine .mk l ?_ b; rw [<- d]
 show xb t = yN t
 unfold xb
 rcases c with e | e | e | e | e <;> simp [e]
theorem mu {t : T} (h : Well .expression t) : EX t := by
 obtain ⟨l,e,g⟩ := Well.iff.1 h; obtain ⟨k,x,m,p,ts⟩ := t
 change xb (.mk k x m p ts) = some l at e
 unfold xb at e
 by_cases q : (T.mk k x m p ts).kind = 29
 ·rw [if_pos q] at e
  obtain ⟨f,-⟩ := zS e; obtain ⟨rfl,a,b,c,_,d⟩ := zK f; obtain rfl := nV (c (by omega)); obtain rfl := d rfl
  exact .number m p a b
 rw [if_neg q] at e
 by_cases i : (T.mk k x m p ts).kind = 30 \/ (T.mk k x m p ts).kind = 31 \/ (T.mk k x m p ts).kind = 32
 ·rw [if_pos i] at e
  have r : k = 30 \/ k = 31 \/ k = 32 := i; obtain ⟨f,-⟩ := zS e; obtain ⟨-,a,b,c,_,d⟩ := zK f
  obtain rfl : m = 0 := by omega
  obtain rfl := nV (c (by omega)); obtain rfl := d rfl
  exact .word k p r
 rw [if_neg i] at e
 by_cases s : (T.mk k x m p ts).kind = 33
 ·rw [if_pos s] at e
  obtain ⟨f,j⟩ := zS e; rw [Bool.and_eq_true,decide_eq_true_eq] at f; obtain ⟨rfl,a,b,_,_,d⟩ := zK f.1
  obtain rfl : m = 0 := by omega
  obtain ⟨u,B,rfl⟩ := sD (ts := ts) f.2; obtain rfl := d rfl; obtain ⟨w,z⟩ := lv j g
  exact .call p u B w z
 rw [if_neg s] at e
 by_cases n : (T.mk k x m p ts).kind = 34 \/ (T.mk k x m p ts).kind = 35
 ·rw [if_pos n] at e
  have r : k = 34 \/ k = 35 := n; obtain ⟨f,j⟩ := zS e; obtain ⟨-,a,b,c,_,d⟩ := zK f
  obtain rfl : m = 0 := by omega
  obtain ⟨u,rfl⟩ := nC (c (by omega)); obtain rfl := d rfl
  exact .one k p u r (nx j g)
 rw [if_neg n] at e
 by_cases A : (T.mk k x m p ts).kind = 37
 ·rw [if_pos A] at e
  obtain ⟨f,j⟩ := zS e; obtain ⟨rfl,a,b,c,_,d⟩ := zK f
  obtain rfl : m = 0 := by omega
  obtain ⟨u,v,rfl⟩ := rl (c (by omega)); obtain rfl := d rfl; obtain ⟨w,z⟩ := sV j g
  exact .is p u v w (ms z)
 rw [if_neg A] at e
 by_cases o : (T.mk k x m p ts).kind = 36
 ·rw [if_pos o] at e
  have r : k = 36 := o; subst r; obtain ⟨f,j⟩ := zS e; simp only [Bool.and_eq_true,beq_iff_eq,T.num,T.name,T.subs] at f; obtain ⟨⟨C,rfl⟩,_⟩ := f; obtain ⟨u,v,rfl⟩ := rl (ts := ts) (by omega); obtain ⟨w,z⟩ := sV j g
  exact .op x p u v (of_decide_eq_true C) w z
 ·rw [if_neg o] at e
  exact ni e g
end Go.Proofs.YtnmkffjklpfflaaGreatDoor
