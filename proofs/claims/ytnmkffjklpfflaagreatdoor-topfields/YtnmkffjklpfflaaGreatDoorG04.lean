/- Trees in memory: a list of nodes owns a row,five cells a node; what is below a node lies in other rows than the list's own. -/
import Derived.Test.YtnmkffjklpfflaaGreatDoorG03
import Derived.Deep.AppendLies
namespace Go.Proofs.YtnmkffjklpfflaaGreatDoor
open Go.RowKit
def T.kind : T -> Int
 | .mk k _ _ _ _ => k
def T.name : T -> List UInt8
 | .mk _ s _ _ _ => s
def T.num : T -> Int
 | .mk _ _ n _ _ => n
def T.subs : T -> List T
 | .mk _ _ _ _ l => l
def headC (t : T) (sv : Value) : List Value := [.int .i64 t.kind,.string ⟨t.name.toArray⟩,.int .i64 t.num,.int .i64 t.at',sv]
def xy : List T -> List Value -> List Value
 | t :: ts,sv :: svs => headC t sv ++ xy ts svs
 | _,_ => []
theorem yC : ∀ (ts : List T) (svs : List Value),svs.length = ts.length -> (xy ts svs).length = ts.length * 5
 | [],[],_ => rfl
 | t :: ts,sv :: svs,h => by
  have ih := yC ts svs (by simpa using h); simp only [xy,List.length_append,ih,headC,List.length_cons,List.length_nil]
  omega
theorem uP : ∀ (ts : List T) (svs : List Value) (us : List T) (uvs : List Value),svs.length = ts.length -> xy (ts ++ us) (svs ++ uvs) = xy ts svs ++ xy us uvs
 | [],[],_,_,_ => rfl
 | t :: ts,sv :: svs,us,uvs,h => by
  have ih := uP ts svs us uvs (by simpa using h); simp only [xy,List.cons_append,ih,List.append_assoc]
inductive LR (w : World) : (Nat -> Prop) -> List T -> Value -> Prop
 | mk (S : Nat -> Prop) (ts : List T) (v : Value) (svs : List Value) (hl : svs.length = ts.length) (own : w.ownsRow 0 100 5 v ts.length (xy ts svs))
   (inS : ∀ b,v.ownBlock = some b -> S b)
   (sub : ∀ (i : Nat) (t : T) (sv : Value),ts[i]? = some t -> svs[i]? = some sv -> LR w (fun k => S k /\ v.ownBlock ≠ some k) t.subs sv) : LR w S ts v
def In (lo hi : Nat) : Nat -> Prop := fun k => lo <= k /\ k < hi
theorem LR.nil (w : World) (S : Nat -> Prop) : LR w S [] (.slice none 0 0) :=
 .mk S [] _ [] rfl (World.ownsRow_nil _ _ _ _) (by intro b hb; cases hb) (by intro i t sv h; simp at h)
theorem LR.kept {w w' : World} {S : Nat -> Prop} {ts : List T} {v : Value} {row : Option Nat} (h : LR w S ts v) (hg : w.grownBy w' row) (hr : ∀ b,row = some b -> ¬ S b) : LR w' S ts v := by
 induction h with
 | mk S ts v svs hl own inS sub ih =>
  refine .mk S ts v svs hl (own.kept hg ?_) inS (fun i t sv h1 h2 => ih i t sv h1 h2 (fun b hb hs => hr b hb hs.1)); cases c : v.ownBlock with
  | none => exact .inl rfl
  | some b => exact .inr (fun e => hr b e.symm (inS b c))
theorem LR.mono {w : World} {S S' : Nat -> Prop} {ts : List T} {v : Value} (h : LR w S ts v) (hs : ∀ k,S k -> S' k) : LR w S' ts v := by
 induction h generalizing S' with
 | mk S ts v svs hl own inS sub ih =>
  exact .mk S' ts v svs hl own (fun b hb => hs b (inS b hb)) (fun i t sv h1 h2 => ih i t sv h1 h2 (fun k hk => ⟨hs k hk.1,hk.2⟩))
theorem LR.bounded {w : World} {S : Nat -> Prop} {ts : List T} {v : Value} (h : LR w S ts v) : LR w (fun k => S k /\ k < w.heap.size) ts v := by
 induction h with
 | mk S ts v svs hl own inS sub ih =>
  exact .mk _ ts v svs hl own (fun b hb => ⟨inS b hb,(own.lt b hb).2⟩) (fun i t sv h1 h2 => (ih i t sv h1 h2).mono (fun k hk => ⟨⟨hk.1.1,hk.2⟩,hk.1.2⟩))
theorem LR.own {w : World} {S : Nat -> Prop} {ts : List T} {v : Value} (h : LR w S ts v) : ∃ svs,svs.length = ts.length /\ w.ownsRow 0 100 5 v ts.length (xy ts svs) /\ (∀ b,v.ownBlock = some b -> S b) /\
  ∀ (i : Nat) (t : T) (sv : Value),ts[i]? = some t -> svs[i]? = some sv -> LR w (fun k => S k /\ v.ownBlock ≠ some k) t.subs sv := by
 cases h with
 | mk _ _ _ svs hl own inS sub => exact ⟨svs,hl,own,inS,sub⟩
theorem LR.form {w : World} {S : Nat -> Prop} {ts : List T} {v : Value} (h : LR w S ts v) : ∃ a c,v = .slice a ts.length c := by
 obtain ⟨_,_,own,_⟩ := h.own
 rcases own.2 with ⟨rfl,d⟩ | ⟨g,e,f,rfl,_⟩
 ·exact ⟨none,0,by rw [d]⟩
 ·exact ⟨_,_,rfl⟩
def TR (w : World) (lo hi : Nat) (t : T) (v : Value) : Prop := ∃ sv,v = .agg #[.int .i64 t.kind,.string ⟨t.name.toArray⟩,.int .i64 t.num,.int .i64 t.at',sv] /\ LR w (In lo hi) t.subs sv
section
variable {w w' : World} {lo hi lo' hi' b n : Nat} {t : T} {ts : List T} {v : Value}
theorem LR.call (h : LR w (In lo hi) ts v) (hg : w.grownBy w' (some b)) (hb : b < lo \/ hi <= b) : LR w' (In lo hi) ts v :=
 h.kept hg (fun k hk hs => by cases hk; have h1 : lo <= b := hs.1; have h2 : b < hi := hs.2; omega)
theorem LR.put (h : LR w (In lo hi) ts v) (hb : b < lo \/ hi <= b) (o : Nat) (u : Value) : LR (w.setCell ⟨b,o,none⟩ u) (In lo hi) ts v := h.call (zT (zj w (some b)) o u) hb
theorem LR.alloc (h : LR w (In lo hi) ts v) (o : Obj) : LR (w.alloc o) (In lo hi) ts v := h.kept (World.grownBy_alloc w o none) (fun _ hk => by cases hk)
theorem LR.drewN (h : LR w (In lo hi) ts v) (n : Nat) : LR (w.drewN n) (In lo hi) ts v := h.kept (zq (zj w none) n) (fun _ hk => by cases hk)
theorem LR.grown (h : LR w (In lo hi) ts v) (hg : w.grownBy w' none) : LR w' (In lo hi) ts v := h.kept hg (fun _ hk => by cases hk)
theorem LR.wide (h : LR w (In lo hi) ts v) (h1 : lo' <= lo) (h2 : hi <= hi') : LR w (In lo' hi') ts v := h.mono (fun k hk => by have h3 : lo <= k := hk.1; have h4 : k < hi := hk.2; exact ⟨by omega,by omega⟩)
theorem LR.build (w : World) {cs : Array Value} {svs : List Value} {g n : Nat} (hg : g = w.heap.size) (hn : n = ts.length) (hc : cs.toList = xy ts svs) (hl : svs.length = ts.length) (hlen : ts.length <= 5000) (hlo : lo <= g)
  (hs : ∀ (i : Nat) (t : T) (sv : Value),ts[i]? = some t -> svs[i]? = some sv -> LR w (In lo g) t.subs sv) : LR (w.alloc (.cells cs 100)) (In lo (g + 1)) ts (.slice (some ⟨g,0,none⟩) n n) := by
 subst hg hn
 have c : cs.size = ts.length * 5 := by rw [<- Array.length_toList,hc,yC _ _ hl]
 refine .mk _ _ _ svs hl ⟨yC _ _ hl,.inr ⟨w.heap.size,ts.length,cs,rfl,Nat.zero_le _,heap_alloc_new w _,Nat.le_refl _,by unfold maxLen; omega,c,?_⟩⟩ (fun b hb => ?_) (fun i t sv h1 h2 => ?_)
 ·rw [hc,<- yC _ _ hl,List.take_length]
 ·cases hb
  exact ⟨hlo,Nat.lt_succ_self _⟩
 ·refine ((hs i t sv h1 h2).alloc _).mono (fun k hk => ⟨⟨hk.1,Nat.lt_succ_of_lt hk.2⟩,fun e => ?_⟩)
  have d : k < w.heap.size := hk.2
  simp [Value.ownBlock] at e
  omega
theorem LR.build1 (w : World) {t : T} {sv : Value} {g : Nat} {cs : Array Value} (h : LR w (In lo g) t.subs sv) (hg : g = w.heap.size) (hc : cs.toList = headC t sv) (hlo : lo <= g) :
  LR (w.alloc (.cells cs 100)) (In lo (g + 1)) [t] (.slice (some ⟨g,0,none⟩) 1 1) :=
 LR.build w (svs := [sv]) hg rfl hc rfl (by simp) hlo (fun i t' sv' h1 h2 => by
  match i,h1,h2 with
  | 0,h1,h2 => cases h1; cases h2; exact h)
theorem LR.build2 (w : World) {t t2 : T} {sv sv2 : Value} {g : Nat} {cs : Array Value} (h : LR w (In lo g) t.subs sv) (h2 : LR w (In lo g) t2.subs sv2) (hg : g = w.heap.size) (hc : cs.toList = headC t sv ++ headC t2 sv2) (hlo : lo <= g) :
  LR (w.alloc (.cells cs 100)) (In lo (g + 1)) [t,t2] (.slice (some ⟨g,0,none⟩) 2 2) :=
 LR.build w (svs := [sv,sv2]) hg rfl hc rfl (by simp) hlo (fun i t' sv' h3 h4 => by
  match i,h3,h4 with
  | 0,h3,h4 => cases h3; cases h4; exact h
  | 1,h3,h4 => cases h3; cases h4; exact h2)
theorem LR.append {us : List T} {v' : Value} {svs uvs : List Value} {row : Option Nat} {l2 : Nat}
  (h : ∀ b,v.ownBlock = some b -> In lo hi b) (hl : svs.length = ts.length)
  (hs : ∀ (i : Nat) (t : T) (sv : Value),ts[i]? = some t -> svs[i]? = some sv -> LR w (fun k => In lo hi k /\ v.ownBlock ≠ some k) t.subs sv)
  (hu : uvs.length = us.length) (hus : ∀ (i : Nat) (t : T) (sv : Value),us[i]? = some t -> uvs[i]? = some sv -> LR w (In l2 hi') t.subs sv)
  (h2 : lo <= l2) (h3 : hi <= l2) (h5 : l2 <= w.heap.size) (h4 : hi' <= w.heap.size) (hw : w.heap.size <= n) (hw2 : ∀ b,v'.ownBlock = some b -> b < n)
  (own : w'.ownsRow 0 100 5 v' (ts.length + us.length) (xy ts svs ++ xy us uvs)) (hg : w.grownBy w' row) (hrow : row = v.ownBlock)
  (hat : v'.ownBlock = v.ownBlock \/ v'.ownBlock = some w.heap.size) : LR w' (In lo n) (ts ++ us) v' := by
 subst hrow
 have d : ∀ (l : List T) (sv : Value),LR w (fun k => In lo w.heap.size k /\ v.ownBlock ≠ some k) l sv -> LR w' (fun k => In lo n k /\ v'.ownBlock ≠ some k) l sv := by
  intro l sv f; refine (f.kept hg (fun b hb hs' => hs'.2 hb)).mono (fun k hk => ⟨⟨hk.1.1,Nat.lt_of_lt_of_le hk.1.2 hw⟩,fun e => ?_⟩)
  rcases hat with hat | hat
  ·exact hk.2 (hat ▸ e)
  ·have c : k < w.heap.size := hk.1.2
   rw [hat] at e; cases e
   omega
 refine .mk _ _ _ (svs ++ uvs) (by simp [hl,hu]) (by rw [uP _ _ _ _ hl,List.length_append]; exact own) (fun b hb => ?_) (fun i t sv h1 h2' => d _ _ ?_)
 ·rcases hat with hat | hat
  ·have c := h b (hat ▸ hb)
   exact ⟨c.1,hw2 b hb⟩
  ·have c := hw2 b hb
   rw [hat] at hb; cases hb
   exact ⟨by omega,c⟩
 ·rcases Nat.lt_or_ge i ts.length with hi' | hi'
  ·rw [List.getElem?_append_left hi'] at h1
   rw [List.getElem?_append_left (by omega)] at h2'
   exact (hs i t sv h1 h2').mono (fun k hk => ⟨⟨hk.1.1,by have g : k < hi := hk.1.2; omega⟩,hk.2⟩)
  ·rw [List.getElem?_append_right hi'] at h1
   rw [List.getElem?_append_right (by omega),hl] at h2'; refine (hus _ t sv h1 h2').mono (fun k hk => ⟨⟨Nat.le_trans h2 hk.1,Nat.lt_of_lt_of_le hk.2 h4⟩,fun e => ?_⟩); have c := (h k e).2; have g : l2 <= k := hk.1
   omega
end
/-! ### Blocks of one node: a variable,a result -/
theorem zs {a w : World} {row : Option Nat} {b : Nat} (h : a.grownBy w row) (hb : a.heap.size <= b) (o : Nat) (v : Value) : a.grownBy (w.setCell ⟨b,o,none⟩ v) row :=
 ⟨h.os,h.tape,h.output,by simpa [World.setCell] using h.size,fun k hk hne => (Below.heap_setCell _ _ _ _ (by simp; omega)).trans (h.block k hk hne)⟩
def put5 (w : World) (b : Nat) (v0 v1 v2 v3 v4 : Value) : World := ((((w.setCell ⟨b,0,none⟩ v0).setCell ⟨b,1,none⟩ v1).setCell ⟨b,2,none⟩ v2).setCell ⟨b,3,none⟩ v3).setCell ⟨b,4,none⟩ v4
theorem bj {a w : World} {row : Option Nat} {b : Nat} (h : a.grownBy w row) (hb : a.heap.size <= b) (v0 v1 v2 v3 v4 : Value) : a.grownBy (put5 w b v0 v1 v2 v3 v4) row :=
 zs (zs (zs (zs (zs h hb _ _) hb _ _) hb _ _) hb _ _) hb _ _
structure Low (c : PC) (n : Nat) : Prop where
 pb : c.pb < n
 tb : c.tb < n
 lb : c.lb < n
theorem PS.low {c : PC} {w : World} {i d : Nat} (h : PS c w i d) : Low c w.heap.size :=
 ⟨h.lt,zw (h.tk 0 (Nat.lt_of_le_of_lt (Nat.zero_le _) h.il)).1,World.ownsMap.lt h.lx⟩
theorem PS.put {c : PC} {w : World} {i d n b : Nat} (h : PS c w i d) (hl : Low c n) (hb : n <= b) (o : Nat) (v : Value) : PS c (w.setCell ⟨b,o,none⟩ v) i d where
 c0 := by rw [World.cell?_setCell_other _ _ _ _ (by intro e; injection e with e; have := hl.pb; omega)]; exact h.c0
 c1 := by rw [World.cell?_setCell_other _ _ _ _ (by intro e; injection e with e; have := hl.pb; omega)]; exact h.c1
 c2 := by rw [World.cell?_setCell_other _ _ _ _ (by intro e; injection e with e; have := hl.pb; omega)]; exact h.c2
 c3 := by rw [World.cell?_setCell_other _ _ _ _ (by intro e; injection e with e; have := hl.pb; omega)]; exact h.c3
 z1 := by rw [World.frozen?_setCell]; exact h.z1
 z2 := by rw [World.frozen?_setCell]; exact h.z2
 tk := fun j hj => ⟨by rw [World.cell?_setCell_other _ _ _ _ (by intro e; injection e with e; have := hl.tb; omega)]; exact (h.tk j hj).1,by rw [World.cell?_setCell_other _ _ _ _ (by intro e; injection e with e; have := hl.tb; omega)]; exact (h.tk j hj).2⟩
 lx := World.ownsMap.setCell h.lx (a := ⟨b,o,none⟩) (by have := hl.lb; simp; omega) _
 n1 := h.n1
 n2 := h.n2
 il := h.il
 good := h.good
 deep := h.deep
structure NB (w : World) (b : Nat) (v0 v1 v2 v3 v4 : Value) : Prop where
 c0 : w.cell? ⟨b,0,none⟩ = some v0
 c1 : w.cell? ⟨b,1,none⟩ = some v1
 c2 : w.cell? ⟨b,2,none⟩ = some v2
 c3 : w.cell? ⟨b,3,none⟩ = some v3
 c4 : w.cell? ⟨b,4,none⟩ = some v4
 z : ∀ o,w.frozen? ⟨b,o,none⟩ = false
section
variable {w w' : World} {b b' : Nat} {v0 v1 v2 v3 v4 u0 u1 u2 u3 u4 : Value}
theorem NB.lt (h : NB w b v0 v1 v2 v3 v4) : b < w.heap.size := zw h.c0
theorem NB.kept {row : Option Nat} (h : NB w b v0 v1 v2 v3 v4) (hg : w.grownBy w' row) (hr : some b ≠ row) : NB w' b v0 v1 v2 v3 v4 :=
 ⟨zE hg h.c0 hr,zE hg h.c1 hr,zE hg h.c2 hr,zE hg h.c3 hr,zE hg h.c4 hr,fun o => ye hg h.lt (h.z o) hr⟩
theorem NB.new (w : World) (t : TypeId) : NB (w.alloc (.cells #[v0,v1,v2,v3,v4] t)) w.heap.size v0 v1 v2 v3 v4 :=
 ⟨by rw [World.cell?_alloc_at _ _ _ _ rfl]; rfl,by rw [World.cell?_alloc_at _ _ _ _ rfl]; rfl,by rw [World.cell?_alloc_at _ _ _ _ rfl]; rfl,by rw [World.cell?_alloc_at _ _ _ _ rfl]; rfl,by rw [World.cell?_alloc_at _ _ _ _ rfl]; rfl,fun o => World.frozen?_alloc_at _ _ _ _ rfl⟩
theorem NB.new' {b : Nat} {t : TypeId} (hb : b = w.heap.size) : NB (w.alloc (.cells #[v0,v1,v2,v3,v4] t)) b v0 v1 v2 v3 v4 := by
 subst hb
 exact NB.new w t
theorem NB.alloc (h : NB w b v0 v1 v2 v3 v4) (o : Obj) : NB (w.alloc o) b v0 v1 v2 v3 v4 := h.kept (World.grownBy_alloc w o none) (by simp)
theorem NB.drewN (h : NB w b v0 v1 v2 v3 v4) (n : Nat) : NB (w.drewN n) b v0 v1 v2 v3 v4 := h.kept (zq (zj w none) n) (by simp)
theorem NB.far (h : NB w b v0 v1 v2 v3 v4) (hb : b' ≠ b) (o : Nat) (v : Value) : NB (w.setCell ⟨b',o,none⟩ v) b v0 v1 v2 v3 v4 := h.kept (zT (zj w (some b')) o v) (by simp; omega)
theorem NB.put (h : NB w b v0 v1 v2 v3 v4) (o : Nat) (v : Value) : NB (w.setCell ⟨b,o,none⟩ v) b (if o = 0 then v else v0) (if o = 1 then v else v1) (if o = 2 then v else v2) (if o = 3 then v else v3) (if o = 4 then v else v4) := by
 have c : ∀ k u,w.cell? ⟨b,k,none⟩ = some u -> (w.setCell ⟨b,o,none⟩ v).cell? ⟨b,k,none⟩ = some (if o = k then v else u) := by
  intro k u d
  by_cases e : o = k
  ·subst e
   rw [if_pos rfl]
   exact World.cell?_setCell_same _ _ _ d
  ·rw [if_neg e,World.cell?_setCell_other _ _ _ _ (by simp)]
   exact d
 exact ⟨c 0 _ h.c0,c 1 _ h.c1,c 2 _ h.c2,c 3 _ h.c3,c 4 _ h.c4,fun o => by rw [World.frozen?_setCell]; exact h.z o⟩
theorem NB.s0 (h : NB w b v0 v1 v2 v3 v4) (u : Value) : NB (w.setCell ⟨b,0,none⟩ u) b u v1 v2 v3 v4 := h.put 0 u
theorem NB.s1 (h : NB w b v0 v1 v2 v3 v4) (u : Value) : NB (w.setCell ⟨b,1,none⟩ u) b v0 u v2 v3 v4 := h.put 1 u
theorem NB.s2 (h : NB w b v0 v1 v2 v3 v4) (u : Value) : NB (w.setCell ⟨b,2,none⟩ u) b v0 v1 u v3 v4 := h.put 2 u
theorem NB.s3 (h : NB w b v0 v1 v2 v3 v4) (u : Value) : NB (w.setCell ⟨b,3,none⟩ u) b v0 v1 v2 u v4 := h.put 3 u
theorem NB.s4 (h : NB w b v0 v1 v2 v3 v4) (u : Value) : NB (w.setCell ⟨b,4,none⟩ u) b v0 v1 v2 v3 u := h.put 4 u
theorem NB.put5 (h : NB w b v0 v1 v2 v3 v4) : NB (put5 w b u0 u1 u2 u3 u4) b u0 u1 u2 u3 u4 := ((((h.put 0 u0).put 1 u1).put 2 u2).put 3 u3).put 4 u4
def RB (w : World) (b : Nat) : Prop := ∃ v0 v1 v2 v3 v4,NB w b v0 v1 v2 v3 v4
theorem NB.rb (h : NB w b v0 v1 v2 v3 v4) : RB w b := ⟨_,_,_,_,_,h⟩
theorem RB.new (w : World) (t : TypeId) : RB (w.alloc (.cells #[v0,v1,v2,v3,v4] t)) w.heap.size := (NB.new w t).rb
theorem RB.new' {b : Nat} {t : TypeId} (hb : b = w.heap.size) : RB (w.alloc (.cells #[v0,v1,v2,v3,v4] t)) b := (NB.new' hb).rb
theorem RB.kept {row : Option Nat} (h : RB w b) (hg : w.grownBy w' row) (hr : some b ≠ row) : RB w' b := by
 obtain ⟨_,_,_,_,_,h⟩ := h
 exact (h.kept hg hr).rb
theorem RB.lt (h : RB w b) : b < w.heap.size := by
 obtain ⟨_,_,_,_,_,h⟩ := h
 exact h.lt
theorem RB.alloc (h : RB w b) (o : Obj) : RB (w.alloc o) b := h.kept (World.grownBy_alloc w o none) (by simp)
theorem RB.drewN (h : RB w b) (n : Nat) : RB (w.drewN n) b := h.kept (zq (zj w none) n) (by simp)
theorem RB.put (h : RB w b) (b' o : Nat) (v : Value) : RB (w.setCell ⟨b',o,none⟩ v) b := by
 obtain ⟨_,_,_,_,_,h⟩ := h
 by_cases e : b' = b
 ·subst e
  exact (h.put o v).rb
 ·exact (h.far e o v).rb
theorem RB.five (h : RB w b) : NB (((((w.setCell ⟨b,0,none⟩ u0).setCell ⟨b,1,none⟩ u1).setCell ⟨b,2,none⟩ u2).setCell ⟨b,3,none⟩ u3).setCell ⟨b,4,none⟩ u4) b u0 u1 u2 u3 u4 := by
 obtain ⟨_,_,_,_,_,h⟩ := h
 exact h.put5
theorem NB.drew (h : NB w b v0 v1 v2 v3 v4) : NB w.drew b v0 v1 v2 v3 v4 := h.drewN 1
theorem RB.drew (h : RB w b) : RB w.drew b := h.drewN 1
theorem PS.drew {c : PC} {i d : Nat} (h : PS c w i d) : PS c w.drew i d := h.drewN 1
theorem zf {a : World} {row : Option Nat} (h : a.grownBy w row) : a.grownBy w.drew row := zq h 1
theorem LR.drew {lo hi : Nat} {ts : List T} {v : Value} (h : LR w (In lo hi) ts v) : LR w.drew (In lo hi) ts v := h.drewN 1
theorem se {fn : Func} {p : Tmp} (h : fn.results = #[.cell p 100]) {tmps : Array Value} (hp : tmps[p]?.getD undef = pq b) (hn : NB w b v0 v1 v2 v3 v4) :
  (results fn tmps).run Tryz.prog w = .ok (.agg #[v0,v1,v2,v3,v4]) w := by
 simp [results,h,hp,go_sem,hn.c0,hn.c1,hn.c2,hn.c3,hn.c4]
theorem zn {fn : Func} {p : Tmp} {R : Ending -> World -> Prop} {a : Act} (h : fn.results = #[.cell p 100]) (hp : a.tmps[p]?.getD undef = pq b) (hn : NB w b v0 v1 v2 v3 v4) (hd : a.defers = [])
  (hR : R (.returned (.agg #[v0,v1,v2,v3,v4])) w) : bodyPost Tryz.prog fn R .ret a w := bodyPost_ret (se h hp hn) hd hR
end
/-! ### Five stores into one block -/
section
variable {w w' : World} {b b' o0 o1 o2 o3 o4 : Nat} {u0 u1 u2 u3 u4 v0 v1 v2 v3 v4 : Value}
theorem zC {a : World} {row : Option Nat} (h : a.grownBy w row) (hb : a.heap.size <= b) : a.grownBy (((((w.setCell ⟨b,o0,none⟩ u0).setCell ⟨b,o1,none⟩ u1).setCell ⟨b,o2,none⟩ u2).setCell ⟨b,o3,none⟩ u3).setCell ⟨b,o4,none⟩ u4) row := zs (zs (zs (zs (zs h hb _ _) hb _ _) hb _ _) hb _ _) hb _ _
theorem PS.p5 {c : PC} {i d n : Nat} (h : PS c w i d) (hl : Low c n) (hb : n <= b) : PS c (((((w.setCell ⟨b,o0,none⟩ u0).setCell ⟨b,o1,none⟩ u1).setCell ⟨b,o2,none⟩ u2).setCell ⟨b,o3,none⟩ u3).setCell ⟨b,o4,none⟩ u4) i d := PS.put (PS.put (PS.put (PS.put (PS.put h hl hb _ _) hl hb _ _) hl hb _ _) hl hb _ _) hl hb _ _
theorem LR.p5 {lo hi : Nat} {ts : List T} {v : Value} (h : LR w (In lo hi) ts v) (hb : b < lo \/ hi <= b) : LR (((((w.setCell ⟨b,o0,none⟩ u0).setCell ⟨b,o1,none⟩ u1).setCell ⟨b,o2,none⟩ u2).setCell ⟨b,o3,none⟩ u3).setCell ⟨b,o4,none⟩ u4) (In lo hi) ts v := LR.put (LR.put (LR.put (LR.put (LR.put h hb _ _) hb _ _) hb _ _) hb _ _) hb _ _
theorem RB.p5 (h : RB w b') : RB (((((w.setCell ⟨b,o0,none⟩ u0).setCell ⟨b,o1,none⟩ u1).setCell ⟨b,o2,none⟩ u2).setCell ⟨b,o3,none⟩ u3).setCell ⟨b,o4,none⟩ u4) b' := RB.put (RB.put (RB.put (RB.put (h.put _ _ _) _ _ _) _ _ _) _ _ _) _ _ _
theorem NB.p5 (h : NB w b' v0 v1 v2 v3 v4) (hb : b ≠ b') : NB (((((w.setCell ⟨b,o0,none⟩ u0).setCell ⟨b,o1,none⟩ u1).setCell ⟨b,o2,none⟩ u2).setCell ⟨b,o3,none⟩ u3).setCell ⟨b,o4,none⟩ u4) b' v0 v1 v2 v3 v4 := NB.far (NB.far (NB.far (NB.far (NB.far h hb _ _) hb _ _) hb _ _) hb _ _) hb _ _
theorem RB.keep {r : Nat} (h : RB w b) (hg : w.grownBy w' (some r)) (hr : b ≠ r) : RB w' b := h.kept hg (by simpa using hr)
theorem NB.keep {r : Nat} (h : NB w b v0 v1 v2 v3 v4) (hg : w.grownBy w' (some r)) (hr : b ≠ r) : NB w' b v0 v1 v2 v3 v4 := h.kept hg (by simpa using hr)
end
theorem gr {w : World} {row : Option Nat} : w.grownBy w row := zj w row
theorem ga {w : World} {o : Obj} {row : Option Nat} : w.grownBy (w.alloc o) row := zh (zj w row) o
theorem grn {w : World} : w.grownBy w none := zj w none
theorem gan {w : World} {o : Obj} : w.grownBy (w.alloc o) none := zh (zj w none) o
theorem la {α : Type} (l m : List α) : (l ++ m).length = l.length + m.length := List.length_append
theorem lc {α : Type} (a : α) (l : List α) : (a :: l).length = l.length + 1 := List.length_cons
theorem ln {α : Type} : ([] : List α).length = 0 := List.length_nil
section
variable {w w' w1 w2 : World} {lo hi lo' hi' b r n o0 o1 o2 o3 o4 : Nat} {ts : List T} {v u0 u1 u2 u3 u4 v0 v1 v2 v3 v4 : Value} {row : Option Nat}
theorem LR.nm (h : LR w (In lo hi) ts v) : ∃ b, b = lo /\ LR w (In b hi) ts v := ⟨lo, rfl, h⟩
theorem LR.wd (h : LR w (In lo hi) ts v) (h1 : lo' <= lo := by omega) (h2 : hi <= hi' := by first | omega | (simp <;> omega)) : LR w (In lo' hi') ts v := h.wide h1 h2
theorem LR.c (h : LR w (In lo hi) ts v) (hg : w.grownBy w' (some b)) (hb : b < lo \/ hi <= b := by omega) : LR w' (In lo hi) ts v := h.call hg hb
theorem RB.k (h : RB w b) (hg : w.grownBy w' (some r)) (hr : b ≠ r := by omega) : RB w' b := h.keep hg hr
theorem NB.k (h : NB w b v0 v1 v2 v3 v4) (hg : w.grownBy w' (some r)) (hr : b ≠ r := by omega) : NB w' b v0 v1 v2 v3 v4 := h.keep hg hr
end
end Go.Proofs.YtnmkffjklpfflaaGreatDoor
