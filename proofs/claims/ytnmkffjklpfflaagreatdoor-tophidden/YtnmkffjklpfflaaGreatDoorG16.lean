/- What trees that go by a rule look like: acts,types,declarations,procedures,modules; how long their texts can be. -/
import Derived.Test.YtnmkffjklpfflaaGreatDoorG12
namespace Go.Proofs.YtnmkffjklpfflaaGreatDoor
theorem rS {r : Rule} {t : T} (h : Well (.list r) t) : ∃ p us,t = .mk 1 [] 0 p us /\ ∀ u ∈ us,Well r u := by
 obtain ⟨_,c,b⟩ := Well.iff.1 h; obtain ⟨_,_,m,p,e⟩ := t; obtain ⟨f,g⟩ := zS (show zT _ _ = _ from c); obtain ⟨rfl,_,_,_,_,d⟩ := zK f
 obtain rfl : m = 0 := by omega
 obtain rfl := d rfl
 exact ⟨p,e,rfl,mG g b⟩
inductive Turns : List T -> Prop
 | nil : Turns []
 | one (x : T) (h : Well (.list .act) x) : Turns [x]
 | more (x y : T) (l : List T) (hx : Well .expression x) (hy : Well (.list .act) y) (h : Turns l) : Turns (x :: y :: l)
theorem dX : ∀ (us : List T),(∀ p ∈ gy us,Well p.2 p.1) -> Turns us
 | [],_ => .nil
 | [x],h => .one x (h (x,.list .act) (by simp [gy]))
 | x :: y :: l,h => .more x y l (h (x,.expression) (by simp [gy])) (h (y,.list .act) (by simp [gy])) (dX l (fun p hp => h p (by simp [gy,hp])))
inductive AC : T -> Prop
 | assign (p : Int) (u v : T) (hu : Well .designator u) (hv : Well .expression v) : AC (.mk 14 [] 0 p [u,v])
 | call (p : Int) (u : T) (us : List T) (hu : Well .designator u) (hs : ∀ v ∈ us,Well .expression v) : AC (.mk 15 [] 0 p (u :: us))
 | choice (m p : Int) (u v : T) (us : List T) (hm : m = (us.length : Int) % 2) (hu : Well .expression u) (hv : Well (.list .act) v) (hs : Turns us) : AC (.mk 16 [] m p (u :: v :: us))
 | loop (p : Int) (u v : T) (hu : Well .expression u) (hv : Well (.list .act) v) : AC (.mk 17 [] 0 p [u,v])
 | rept (p : Int) (u v : T) (hu : Well (.list .act) u) (hv : Well .expression v) : AC (.mk 18 [] 0 p [u,v])
 | ret0 (p : Int) : AC (.mk 19 [] 0 p [])
 | ret1 (p : Int) (u : T) (hu : Well .expression u) : AC (.mk 19 [] 0 p [u])
 | word (k p : Int) (u : T) (hk : k = 20 \/ k = 21 \/ k = 22 \/ k = 23) (hu : Well .expression u) : AC (.mk k [] 0 p [u])
theorem la {t : T} (h : Well .act t) : AC t := by
 obtain ⟨l,f,i⟩ := Well.iff.1 h; obtain ⟨k,x,m,p,ts⟩ := t
 change mR (.mk k x m p ts) = some l at f
 unfold mR at f
 by_cases n : (T.mk k x m p ts).kind = 16
 ·rw [if_pos n] at f
  have z : k = 16 := n; subst z; obtain ⟨g,j⟩ := zS f; simp only [Bool.and_eq_true,T.num,T.name,T.subs,List.isEmpty_iff] at g; obtain ⟨⟨rfl,K⟩,G⟩ := g
  match ts,K,G,j with
  | u :: v :: F,K,G,j =>
   have H := dX (u :: v :: F) (by intro q I; exact i q (j ▸ I)); cases H with
   | more _ _ _ hx hy H => exact .choice m p u v F (by have J := of_decide_eq_true G; simp only [List.length_cons] at J; omega) hx hy H
 rw [if_neg n] at f
 by_cases A : (T.mk k x m p ts).kind = 14
 ·rw [if_pos A] at f
  obtain ⟨g,j⟩ := zS f; obtain ⟨rfl,a,b,c,_,d⟩ := zK g
  obtain rfl : m = 0 := by omega
  obtain ⟨u,v,rfl⟩ := rl (c (by omega)); obtain rfl := d rfl; obtain ⟨o,r⟩ := sV j i
  exact .assign p u v o r
 rw [if_neg A] at f
 by_cases B : (T.mk k x m p ts).kind = 15
 ·rw [if_pos B] at f
  obtain ⟨g,j⟩ := zS f; rw [Bool.and_eq_true,decide_eq_true_eq] at g; obtain ⟨rfl,a,b,_,_,d⟩ := zK g.1
  obtain rfl : m = 0 := by omega
  obtain ⟨u,F,rfl⟩ := sD (ts := ts) g.2; obtain rfl := d rfl; obtain ⟨o,r⟩ := lv j i
  exact .call p u F o r
 rw [if_neg B] at f
 by_cases C : (T.mk k x m p ts).kind = 17
 ·rw [if_pos C] at f
  obtain ⟨g,j⟩ := zS f; obtain ⟨rfl,a,b,c,_,d⟩ := zK g
  obtain rfl : m = 0 := by omega
  obtain ⟨u,v,rfl⟩ := rl (c (by omega)); obtain rfl := d rfl; obtain ⟨o,r⟩ := sV j i
  exact .loop p u v o r
 rw [if_neg C] at f
 by_cases D : (T.mk k x m p ts).kind = 18
 ·rw [if_pos D] at f
  obtain ⟨g,j⟩ := zS f; obtain ⟨rfl,a,b,c,_,d⟩ := zK g
  obtain rfl : m = 0 := by omega
  obtain ⟨u,v,rfl⟩ := rl (c (by omega)); obtain rfl := d rfl; obtain ⟨o,r⟩ := sV j i
  exact .rept p u v o r
 rw [if_neg D] at f
 by_cases E : (T.mk k x m p ts).kind = 19
 ·rw [if_pos E] at f
  obtain ⟨g,j⟩ := zS f; rw [Bool.and_eq_true,decide_eq_true_eq] at g; obtain ⟨rfl,a,b,_,_,d⟩ := zK g.1
  obtain rfl : m = 0 := by omega
  obtain rfl := d rfl; have I := mG j i
  rcases le1 g.2 with e | ⟨u,e⟩
  ·change ts = [] at e; subst e; exact .ret0 p
  ·change ts = [u] at e; subst e; exact .ret1 p u (I u (by simp [T.subs]))
 rw [if_neg E] at f
 by_cases s : (T.mk k x m p ts).kind = 20 \/ (T.mk k x m p ts).kind = 22
 ·rw [if_pos s] at f
  have z : k = 20 \/ k = 22 := s; obtain ⟨g,j⟩ := zS f; obtain ⟨-,a,b,c,_,d⟩ := zK g
  obtain rfl : m = 0 := by omega
  obtain ⟨u,rfl⟩ := nC (c (by omega)); obtain rfl := d rfl
  exact .word k p u (by rcases z with h | h <;> simp [h]) (ul (nx j i))
 rw [if_neg s] at f
 by_cases w : (T.mk k x m p ts).kind = 21 \/ (T.mk k x m p ts).kind = 23
 ·rw [if_pos w] at f
  have z : k = 21 \/ k = 23 := w; obtain ⟨g,j⟩ := zS f; obtain ⟨-,a,b,c,_,d⟩ := zK g
  obtain rfl : m = 0 := by omega
  obtain ⟨u,rfl⟩ := nC (c (by omega)); obtain rfl := d rfl
  exact .word k p u (by rcases z with h | h <;> simp [h]) (nx j i)
 ·rw [if_neg w] at f
  cases f
/-! ### Lengths -/
end Go.Proofs.YtnmkffjklpfflaaGreatDoor
