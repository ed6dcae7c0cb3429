/- The words of a text: what the readers lean on. -/
import Derived.Test.YtnmkffjklpfflaaGreatDoorG03
import Derived.Test.YtnmkffjklpfflaaGreatDoorG02
namespace Go.Proofs.YtnmkffjklpfflaaGreatDoor
open Go.RowKit
theorem oO {n : Nat} {l : List (List UInt8 × List UInt8)} {i : Nat} (h : i < l.length) : (jk n l)[i * 2]? = some (.string ⟨(l[i]).1.toArray⟩) /\ (jk n l)[i * 2 + 1]? = some (.int .i64 ((n - (l[i]).2.length : Nat) : Int)) := by
 induction l generalizing i with
 | nil => simp at h
 | cons a l ih =>
  have e : jk n (a :: l) = .string ⟨a.1.toArray⟩ :: .int .i64 ((n - a.2.length : Nat) : Int) :: jk n l := rfl
  cases i with
  | zero => rw [e]; simp
  | succ i =>
   have := ih (i := i) (by simpa using h); rw [e,show (i + 1) * 2 = i * 2 + 1 + 1 from by omega]
   simpa using this
theorem lf {w : World} {base : Nat} {e : TypeId} {size : Nat} {v : Value} {n : Nat} {xs : List Value} (h : w.ownsRow base e size v n xs) (hn : n ≠ 0) : ∃ g cap,v = .slice (some ⟨g,0,none⟩) n cap := by
 rcases h.2 with ⟨_,b⟩ | ⟨g,cap,c,d,_⟩
 ·exact absurd b hn
 ·exact ⟨g,cap,d⟩
theorem fZ : ∀ (n : Nat) (r : List UInt8) (l : List (List UInt8 × List UInt8)),r.length < n -> vC n r = .ok l -> l.length ≠ 0 /\ l.length <= r.length + 1
 | 0,r,l,hn,h => by omega
 | n + 1,r,l,hn,h => by
  rw [vX] at h; cases hk : skp r with
  | error f => rw [hk] at h; cases h
  | ok r1 =>
   rw [hk] at h; obtain ⟨_,hp⟩ := ja hk; have hlen := congrArg List.length hp; simp only [List.length_append] at hlen; cases r1 with
   | nil => cases h; simp
   | cons c r1 =>
    simp only [dA] at h; cases hw : xp (c :: r1) with
    | error e => rw [hw] at h; cases h
    | ok w =>
     rw [hw] at h; simp only at h; obtain ⟨_,_⟩ := vW hw; have hwl := kp hw; have hdl : ((c :: r1).drop w.length).length = (c :: r1).length - w.length := List.length_drop; cases ht : vC n ((c :: r1).drop w.length) with
     | error x => rw [ht] at h; cases h
     | ok l1 =>
      rw [ht] at h; cases h; have := fZ n _ l1 (by omega) ht
      show ([(w,c :: r1)] ++ l1).length ≠ 0 /\ ([(w,c :: r1)] ++ l1).length <= _
      rw [List.length_append,List.length_singleton]
      omega
structure WordLike (w : List UInt8) : Prop where
 ne : w ≠ []
 low : ((w.headD 0).toNat) < 128
 dig : zx ((w.headD 0).toNat : Int) = true -> (∀ c ∈ w,zx (c.toNat : Int) = true) /\ ∃ n,zU 0 w = some n
theorem du {c : UInt8} {r w : List UInt8} (h : (c :: r).take w.length = w) (h1 : 1 <= w.length) : w.headD 0 = c := by
 cases w with
 | nil => simp at h1
 | cons a w => simp at h; simp [h.1]
theorem nv {n : Nat} (h : zG (n : Int) = true) : n < 128 := by simp [zG] at h; omega
theorem mO {n : Nat} (h : zx (n : Int) = true) : n < 128 := by simp [zx] at h; omega
theorem ip : ∀ c ∈ jZ,c.toNat < 128 := by decide
theorem lY {c : UInt8} {r w : List UInt8} (h : xp (c :: r) = .ok w) : WordLike w := by
 obtain ⟨o,j⟩ := vW h; have i := du o j
 have g : w ≠ [] := by intro e; rw [e] at j; simp at j
 unfold xp at h
 rw [show (c :: r).headD 0 = c from rfl] at h
 by_cases k : zG c.toNat = true
 ·exact ⟨g,by rw [i]; exact nv k,fun hd => by rw [i] at hd; simp [zG,zx] at k hd; omega⟩
 ·rw [if_neg k] at h
  by_cases hd : zx c.toNat = true
  ·rw [if_pos hd] at h
   refine ⟨g,by rw [i]; exact mO hd,fun _ => ?_⟩; cases l : zU 0 (yb zx (c :: r)) with
   | none => rw [l] at h; cases h
   | some n =>
    rw [l] at h; cases h
    exact ⟨fun c hc => ks hc,n,l⟩
  ·rw [if_neg hd] at h
   refine ⟨g,?_,fun hd' => by rw [i] at hd'; exact absurd hd' hd⟩; rw [i]
   split at h
   ·cases h
   ·rename_i hs
    unfold ys at hs
    split at hs
    ·rename_i f
     simp only [zM,Bool.or_eq_true,beq_iff_eq] at f
     have m : ∀ (a b : UInt8),(c :: r).take 2 = [a,b] -> c = a := fun a b e => by
      cases r with
      | nil => simp at e
      | cons d r => simp at e; exact e.1
     rcases f with (f | f) | f <;> (rw [m _ _ f]; decide)
    ·split at hs
     ·rename_i f
      exact ip c (by have := f.2; simpa using this)
     ·simp at hs
theorem fA : ∀ (n : Nat) (r : List UInt8) (l : List (List UInt8 × List UInt8)),r.length < n -> vC n r = .ok l -> ∃ l0,l = l0 ++ [([],[])] /\ ∀ x ∈ l0,WordLike x.1 /\ x.1.length <= r.length
 | 0,r,l,hn,h => by omega
 | n + 1,r,l,hn,h => by
  rw [vX] at h; cases hk : skp r with
  | error f => rw [hk] at h; cases h
  | ok r1 =>
   rw [hk] at h; obtain ⟨_,hp⟩ := ja hk; have hlen := congrArg List.length hp; simp only [List.length_append] at hlen; cases r1 with
   | nil => cases h; exact ⟨[],rfl,fun x hx => by simp at hx⟩
   | cons c r1 =>
    simp only [dA] at h; cases hw : xp (c :: r1) with
    | error e => rw [hw] at h; cases h
    | ok w =>
     rw [hw] at h; simp only at h; obtain ⟨_,_⟩ := vW hw; have hwl := kp hw; have hdl : ((c :: r1).drop w.length).length = (c :: r1).length - w.length := List.length_drop; cases ht : vC n ((c :: r1).drop w.length) with
     | error x => rw [ht] at h; cases h
     | ok l1 =>
      rw [ht] at h; cases h; obtain ⟨l0,rfl,h0⟩ := fA n _ l1 (by omega) ht; refine ⟨(w,c :: r1) :: l0,by simp,fun x hx => ?_⟩
      rcases List.mem_cons.1 hx with e | e
      ·rw [e]; exact ⟨lY hw,by show w.length <= _; omega⟩
      ·exact ⟨(h0 x e).1,by have := (h0 x e).2; omega⟩
def xG (n : Nat) (l : List (List UInt8 × List UInt8)) : List Tok := l.map fun x => (x.1,((n - x.2.length : Nat) : Int))
theorem vU (n : Nat) (l : List (List UInt8 × List UInt8)) : (xG n l).length = l.length := by simp [xG]
theorem ri (n : Nat) (l : List (List UInt8 × List UInt8)) (j : Nat) (h : j < l.length) : wd (xG n l) j = l[j].1 := by simp [wd,xG,h]
theorem ie (n : Nat) (l : List (List UInt8 × List UInt8)) (j : Nat) (h : j < l.length) : pos (xG n l) j = ((n - l[j].2.length : Nat) : Int) := by simp [pos,xG,h]
theorem bG (L : List Tok) (j : Nat) (h : L.length <= j) : wd L j = [] := by simp [wd,h]
theorem mK {t : List UInt8} {l : List (List UInt8 × List UInt8)} (h : xS t = .ok l) : ∃ l0,l = l0 ++ [([],[])] /\ ∀ j,j < l0.length -> WordLike (wd (xG t.length l) j) /\ (wd (xG t.length l) j).length <= t.length := by
 obtain ⟨l0,rfl,b⟩ := fA _ _ _ (Nat.lt_succ_self _) h; refine ⟨l0,rfl,fun j hj => ?_⟩; rw [ri _ _ _ (by simp; omega),List.getElem_append_left hj]
 exact b _ (List.getElem_mem hj)
theorem ud {t : List UInt8} {l : List (List UInt8 × List UInt8)} (h : xS t = .ok l) (j : Nat) : (j + 1 < l.length /\ WordLike (wd (xG t.length l) j) /\ (wd (xG t.length l) j).length <= t.length) \/ (l.length <= j + 1 /\ wd (xG t.length l) j = []) := by
 obtain ⟨b,d,g⟩ := mK h
 have f : l.length = b.length + 1 := by rw [d]; simp
 by_cases i : j < b.length
 ·exact .inl ⟨by omega,g j i⟩
 ·refine .inr ⟨by omega,?_⟩
  by_cases c : j < l.length
  ·rw [ri _ _ _ c]
   have e : j = b.length := by omega
   subst e
   simp [d]
  ·exact bG _ _ (by rw [vU]; omega)
theorem zbc {t : List UInt8} {l : List (List UInt8 × List UInt8)} (h : xS t = .ok l) (ht : t.length <= 4000) : GoodL (xG t.length l) where
 last := fun j hj => by
  rw [vU] at hj ⊢
  rcases ud h j with ⟨h1,h2,_⟩ | ⟨h1,h2⟩
  ·exact ⟨fun e => absurd e h2.ne,fun e => by omega⟩
  ·exact ⟨fun _ => by omega,fun _ => h2⟩
 short := fun j => by
  rcases ud h j with ⟨_,_,h3⟩ | ⟨_,h2⟩
  ·omega
  ·rw [h2]; simp
 few := by rw [vU]; have := (fZ _ _ _ (Nat.lt_succ_self _) h).2; omega
 dig := fun j hd => by
  rcases ud h j with ⟨_,h2,_⟩ | ⟨_,h2⟩
  ·exact (h2.dig hd).1
  ·rw [h2] at hd; simp [zx] at hd
 low := fun j => by
  rcases ud h j with ⟨_,h2,_⟩ | ⟨_,h2⟩
  ·exact h2.low
  ·rw [h2]; decide
 val := fun j hn hd => by
  rcases ud h j with ⟨_,h2,_⟩ | ⟨_,h2⟩
  ·exact (h2.dig hd).2
  ·exact absurd h2 hn
end Go.Proofs.YtnmkffjklpfflaaGreatDoor
