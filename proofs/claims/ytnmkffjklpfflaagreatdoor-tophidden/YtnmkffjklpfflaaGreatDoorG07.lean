/- Trees in memory: a list of nodes owns a row,five cells a node; what is below a node lies in other rows than the list's own. -/
import Derived.Test.YtnmkffjklpfflaaGreatDoorG06
import Derived.Deep.AppendLies
namespace Go.Proofs.YtnmkffjklpfflaaGreatDoor
open Go.RowKit
def T.kind : T -> Int
 | .mk k _ _ _ _ => k
def T.name : T -> List UInt8
 | .mk _ s _ _ _ => s
def T.num : T -> Int
 | .mk _ _ n _ _ => n
def T.subs : T -> List T
 | .mk _ _ _ _ l => l
def headC (t : T) (sv : Value) : List Value := [.int .i64 t.kind,.string ⟨t.name.toArray⟩,.int .i64 t.num,.int .i64 t.at',sv]
def xa : List T -> List Value -> List Value
 | t :: ts,sv :: svs => headC t sv ++ xa ts svs
 | _,_ => []
theorem yk : ∀ (ts : List T) (svs : List Value),svs.length = ts.length -> (xa ts svs).length = ts.length * 5
 | [],[],_ => rfl
 | t :: ts,sv :: svs,h => by
  have ih := yk ts svs (by simpa using h); simp only [xa,List.length_append,ih,headC,List.length_cons,List.length_nil]
  omega
theorem ur : ∀ (ts : List T) (svs : List Value) (us : List T) (uvs : List Value),svs.length = ts.length -> xa (ts ++ us) (svs ++ uvs) = xa ts svs ++ xa us uvs
 | [],[],_,_,_ => rfl
 | t :: ts,sv :: svs,us,uvs,h => by
  have ih := ur ts svs us uvs (by simpa using h); simp only [xa,List.cons_append,ih,List.append_assoc]
inductive LR (w : World) : (Nat -> Prop) -> List T -> Value -> Prop
 | mk (S : Nat -> Prop) (ts : List T) (v : Value) (svs : List Value) (hl : svs.length = ts.length) (own : w.ownsRow 0 100 5 v ts.length (xa ts svs))
   (inS : ∀ b,v.ownBlock = some b -> S b)
   (sub : ∀ (i : Nat) (t : T) (sv : Value),ts[i]? = some t -> svs[i]? = some sv -> LR w (fun k => S k /\ v.ownBlock ≠ some k) t.subs sv) : LR w S ts v
def In (lo hi : Nat) : Nat -> Prop := fun k => lo <= k /\ k < hi
theorem LR.nil (w : World) (S : Nat -> Prop) : LR w S [] (.slice none 0 0) :=
 .mk S [] _ [] rfl (World.ownsRow_nil _ _ _ _) (by intro b hb; cases hb) (by intro i t sv h; simp at h)
theorem LR.kept {w w' : World} {S : Nat -> Prop} {ts : List T} {v : Value} {row : Option Nat} (h : LR w S ts v) (hg : w.grownBy w' row) (hr : ∀ b,row = some b -> ¬ S b) : LR w' S ts v := by
 induction h with
 | mk S ts v svs hl own inS sub ih =>
  refine .mk S ts v svs hl (own.kept hg ?_) inS (fun i t sv h1 h2 => ih i t sv h1 h2 (fun b hb hs => hr b hb hs.1)); cases c : v.ownBlock with
  | none => exact .inl rfl
  | some b => exact .inr (fun e => hr b e.symm (inS b c))
theorem LR.mono {w : World} {S S' : Nat -> Prop} {ts : List T} {v : Value} (h : LR w S ts v) (hs : ∀ k,S k -> S' k) : LR w S' ts v := by
 induction h generalizing S' with
 | mk S ts v svs hl own inS sub ih =>
  exact .mk S' ts v svs hl own (fun b hb => hs b (inS b hb)) (fun i t sv h1 h2 => ih i t sv h1 h2 (fun k hk => ⟨hs k hk.1,hk.2⟩))
theorem LR.bounded {w : World} {S : Nat -> Prop} {ts : List T} {v : Value} (h : LR w S ts v) : LR w (fun k => S k /\ k < w.heap.size) ts v := by
 induction h with
 | mk S ts v svs hl own inS sub ih =>
  exact .mk _ ts v svs hl own (fun b hb => ⟨inS b hb,(own.lt b hb).2⟩) (fun i t sv h1 h2 => (ih i t sv h1 h2).mono (fun k hk => ⟨⟨hk.1.1,hk.2⟩,hk.1.2⟩))
theorem LR.own {w : World} {S : Nat -> Prop} {ts : List T} {v : Value} (h : LR w S ts v) : ∃ svs,svs.length = ts.length /\ w.ownsRow 0 100 5 v ts.length (xa ts svs) /\ (∀ b,v.ownBlock = some b -> S b) /\
  ∀ (i : Nat) (t : T) (sv : Value),ts[i]? = some t -> svs[i]? = some sv -> LR w (fun k => S k /\ v.ownBlock ≠ some k) t.subs sv := by
 cases h with
 | mk _ _ _ svs hl own inS sub => exact ⟨svs,hl,own,inS,sub⟩
theorem LR.form {w : World} {S : Nat -> Prop} {ts : List T} {v : Value} (h : LR w S ts v) : ∃ a c,v = .slice a ts.length c := by
 obtain ⟨_,_,own,_⟩ := h.own
 rcases own.2 with ⟨rfl,d⟩ | ⟨g,e,f,rfl,_⟩
 ·exact ⟨none,0,by rw [d]⟩
 ·exact ⟨_,_,rfl⟩
def TR (w : World) (lo hi : Nat) (t : T) (v : Value) : Prop := ∃ sv,v = .agg #[.int .i64 t.kind,.string ⟨t.name.toArray⟩,.int .i64 t.num,.int .i64 t.at',sv] /\ LR w (In lo hi) t.subs sv
section
variable {w w' : World} {lo hi lo' hi' b n : Nat} {t : T} {ts : List T} {v : Value}
theorem LR.call (h : LR w (In lo hi) ts v) (hg : w.grownBy w' (some b)) (hb : b < lo \/ hi <= b) : LR w' (In lo hi) ts v :=
 h.kept hg (fun k hk hs => by cases hk; have h1 : lo <= b := hs.1; have h2 : b < hi := hs.2; omega)
theorem LR.put (h : LR w (In lo hi) ts v) (hb : b < lo \/ hi <= b) (o : Nat) (u : Value) : LR (w.setCell ⟨b,o,none⟩ u) (In lo hi) ts v := h.call (zR (zc w (some b)) o u) hb
theorem LR.alloc (h : LR w (In lo hi) ts v) (o : Obj) : LR (w.alloc o) (In lo hi) ts v := h.kept (World.grownBy_alloc w o none) (fun _ hk => by cases hk)
theorem LR.drewN (h : LR w (In lo hi) ts v) (n : Nat) : LR (w.drewN n) (In lo hi) ts v := h.kept (zo (zc w none) n) (fun _ hk => by cases hk)
theorem LR.grown (h : LR w (In lo hi) ts v) (hg : w.grownBy w' none) : LR w' (In lo hi) ts v := h.kept hg (fun _ hk => by cases hk)
theorem LR.wide (h : LR w (In lo hi) ts v) (h1 : lo' <= lo) (h2 : hi <= hi') : LR w (In lo' hi') ts v := h.mono (fun k hk => by have h3 : lo <= k := hk.1; have h4 : k < hi := hk.2; exact ⟨by omega,by omega⟩)
theorem LR.build (w : World) {cs : Array Value} {svs : List Value} {g n : Nat} (hg : g = w.heap.size) (hn : n = ts.length) (hc : cs.toList = xa ts svs) (hl : svs.length = ts.length) (hlen : ts.length <= 5000) (hlo : lo <= g)
  (hs : ∀ (i : Nat) (t : T) (sv : Value),ts[i]? = some t -> svs[i]? = some sv -> LR w (In lo g) t.subs sv) : LR (w.alloc (.cells cs 100)) (In lo (g + 1)) ts (.slice (some ⟨g,0,none⟩) n n) := by
 subst hg hn
 have c : cs.size = ts.length * 5 := by rw [<- Array.length_toList,hc,yk _ _ hl]
 refine .mk _ _ _ svs hl ⟨yk _ _ hl,.inr ⟨w.heap.size,ts.length,cs,rfl,Nat.zero_le _,heap_alloc_new w _,Nat.le_refl _,by unfold maxLen; omega,c,?_⟩⟩ (fun b hb => ?_) (fun i t sv h1 h2 => ?_)
 ·rw [hc,<- yk _ _ hl,List.take_length]
 ·cases hb
  exact ⟨hlo,Nat.lt_succ_self _⟩
 ·refine ((hs i t sv h1 h2).alloc _).mono (fun k hk => ⟨⟨hk.1,Nat.lt_succ_of_lt hk.2⟩,fun e => ?_⟩)
  have d : k < w.heap.size := hk.2
  simp [Value.ownBlock] at e
  omega
theorem LR.build1 (w : World) {t : T} {sv : Value} {g : Nat} {cs : Array Value} (h : LR w (In lo g) t.subs sv) (hg : g = w.heap.size) (hc : cs.toList = headC t sv) (hlo : lo <= g) :
  LR (w.alloc (.cells cs 100)) (In lo (g + 1)) [t] (.slice (some ⟨g,0,none⟩) 1 1) :=
 LR.build w (svs := [sv]) hg rfl hc rfl (by simp) hlo (fun i t' sv' h1 h2 => by
  match i,h1,h2 with
  | 0,h1,h2 => cases h1; cases h2; exact h)
theorem LR.build2 (w : World) {t t2 : T} {sv sv2 : Value} {g : Nat} {cs : Array Value} (h : LR w (In lo g) t.subs sv) (h2 : LR w (In lo g) t2.subs sv2) (hg : g = w.heap.size) (hc : cs.toList = headC t sv ++ headC t2 sv2) (hlo : lo <= g) :
  LR (w.alloc (.cells cs 100)) (In lo (g + 1)) [t,t2] (.slice (some ⟨g,0,none⟩) 2 2) :=
 LR.build w (svs := [sv,sv2]) hg rfl hc rfl (by simp) hlo (fun i t' sv' h3 h4 => by
  match i,h3,h4 with
  | 0,h3,h4 => cases h3; cases h4; exact h
  | 1,h3,h4 => cases h3; cases h4; exact h2)
theorem LR.append {us : List T} {v' : Value} {svs uvs : List Value} {row : Option Nat} {l2 : Nat}
  (h : ∀ b,v.ownBlock = some b -> In lo hi b) (hl : svs.length = ts.length)
  (hs : ∀ (i : Nat) (t : T) (sv : Value),ts[i]? = some t -> svs[i]? = some sv -> LR w (fun k => In lo hi k /\ v.ownBlock ≠ some k) t.subs sv)
  (hu : uvs.length = us.length) (hus : ∀ (i : Nat) (t : T) (sv : Value),us[i]? = some t -> uvs[i]? = some sv -> LR w (In l2 hi') t.subs sv)
  (h2 : lo <= l2) (h3 : hi <= l2) (h5 : l2 <= w.heap.size) (h4 : hi' <= w.heap.size) (hw : w.heap.size <= n) (hw2 : ∀ b,v'.ownBlock = some b -> b < n)
  (own : w'.ownsRow 0 100 5 v' (ts.length + us.length) (xa ts svs ++ xa us uvs)) (hg : w.grownBy w' row) (hrow : row = v.ownBlock)
  (hat : v'.ownBlock = v.ownBlock \/ v'.ownBlock = some w.heap.size) : LR w' (In lo n) (ts ++ us) v' := by
 subst hrow
 have d : ∀ (l : List T) (sv : Value),LR w (fun k => In lo w.heap.size k /\ v.ownBlock ≠ some k) l sv -> LR w' (fun k => In lo n k /\ v'.ownBlock ≠ some k) l sv := by
  intro l sv f; refine (f.kept hg (fun b hb hs' => hs'.2 hb)).mono (fun k hk => ⟨⟨hk.1.1,Nat.lt_of_lt_of_le hk.1.2 hw⟩,fun e => ?_⟩)
  rcases hat with hat | hat
  ·exact hk.2 (hat ▸ e)
  ·have c : k < w.heap.size := hk.1.2
   rw [hat] at e; cases e
   omega
 refine .mk _ _ _ (svs ++ uvs) (by simp [hl,hu]) (by rw [ur _ _ _ _ hl,List.length_append]; exact own) (fun b hb => ?_) (fun i t sv h1 h2' => d _ _ ?_)
 ·rcases hat with hat | hat
  ·have c := h b (hat ▸ hb)
   exact ⟨c.1,hw2 b hb⟩
  ·have c := hw2 b hb
   rw [hat] at hb; cases hb
   exact ⟨by omega,c⟩
 ·rcases Nat.lt_or_ge i ts.length with hi' | hi'
  ·rw [List.getElem?_append_left hi'] at h1
   rw [List.getElem?_append_left (by omega)] at h2'
   exact (hs i t sv h1 h2').mono (fun k hk => ⟨⟨hk.1.1,by have g : k < hi := hk.1.2; omega⟩,hk.2⟩)
  ·rw [List.getElem?_append_right hi'] at h1
   rw [List.getElem?_append_right (by omega),hl] at h2'; refine (hus _ t sv h1 h2').mono (fun k hk => ⟨⟨Nat.le_trans h2 hk.1,Nat.lt_of_lt_of_le hk.2 h4⟩,fun e => ?_⟩); have c := (h k e).2; have g : l2 <= k := hk.1
   omega
end
/-! ### Blocks of one node: a variable,a result -/
theorem zq {a w : World} {row : Option Nat} {b : Nat} (h : a.grownBy w row) (hb : a.heap.size <= b) (o : Nat) (v : Value) : a.grownBy (w.setCell ⟨b,o,none⟩ v) row :=
 ⟨h.os,h.tape,h.output,by simpa [World.setCell] using h.size,fun k hk hne => (Below.heap_setCell _ _ _ _ (by simp; omega)).trans (h.block k hk hne)⟩
def put5 (w : World) (b : Nat) (v0 v1 v2 v3 v4 : Value) : World := ((((w.setCell ⟨b,0,none⟩ v0).setCell ⟨b,1,none⟩ v1).setCell ⟨b,2,none⟩ v2).setCell ⟨b,3,none⟩ v3).setCell ⟨b,4,none⟩ v4
theorem mq {a w : World} {row : Option Nat} {b : Nat} (h : a.grownBy w row) (hb : a.heap.size <= b) (v0 v1 v2 v3 v4 : Value) : a.grownBy (put5 w b v0 v1 v2 v3 v4) row :=
 zq (zq (zq (zq (zq h hb _ _) hb _ _) hb _ _) hb _ _) hb _ _
structure Low (c : PC) (n : Nat) : Prop where
 pb : c.pb < n
 tb : c.tb < n
 lb : c.lb < n
theorem PS.low {c : PC} {w : World} {i d : Nat} (h : PS c w i d) : Low c w.heap.size :=
 ⟨h.lt,zw (h.tk 0 (Nat.lt_of_le_of_lt (Nat.zero_le _) h.il)).1,World.ownsMap.lt h.lx⟩
theorem PS.put {c : PC} {w : World} {i d n b : Nat} (h : PS c w i d) (hl : Low c n) (hb : n <= b) (o : Nat) (v : Value) : PS c (w.setCell ⟨b,o,none⟩ v) i d where
 c0 := by rw [World.cell?_setCell_other _ _ _ _ (by intro e; injection e with e; have := hl.pb; omega)]; exact h.c0
 c1 := by rw [World.cell?_setCell_other _ _ _ _ (by intro e; injection e with e; have := hl.pb; omega)]; exact h.c1
 c2 := by rw [World.cell?_setCell_other _ _ _ _ (by intro e; injection e with e; have := hl.pb; omega)]; exact h.c2
 c3 := by rw [World.cell?_setCell_other _ _ _ _ (by intro e; injection e with e; have := hl.pb; omega)]; exact h.c3
 z1 := by rw [World.frozen?_setCell]; exact h.z1
 z2 := by rw [World.frozen?_setCell]; exact h.z2
 tk := fun j hj => ⟨by rw [World.cell?_setCell_other _ _ _ _ (by intro e; injection e with e; have := hl.tb; omega)]; exact (h.tk j hj).1,by rw [World.cell?_setCell_other _ _ _ _ (by intro e; injection e with e; have := hl.tb; omega)]; exact (h.tk j hj).2⟩
 lx := World.ownsMap.setCell h.lx (a := ⟨b,o,none⟩) (by have := hl.lb; simp; omega) _
 n1 := h.n1
 n2 := h.n2
 il := h.il
 good := h.good
 deep := h.deep
structure NB (w : World) (b : Nat) (v0 v1 v2 v3 v4 : Value) : Prop where
 c0 : w.cell? ⟨b,0,none⟩ = some v0
 c1 : w.cell? ⟨b,1,none⟩ = some v1
 c2 : w.cell? ⟨b,2,none⟩ = some v2
 c3 : w.cell? ⟨b,3,none⟩ = some v3
 c4 : w.cell? ⟨b,4,none⟩ = some v4
 z : ∀ o,w.frozen? ⟨b,o,none⟩ = false
section
variable {w w' : World} {b b' : Nat} {v0 v1 v2 v3 v4 u0 u1 u2 u3 u4 : Value}
theorem NB.lt (h : NB w b v0 v1 v2 v3 v4) : b < w.heap.size := zw h.c0
theorem NB.kept {row : Option Nat} (h : NB w b v0 v1 v2 v3 v4) (hg : w.grownBy w' row) (hr : some b ≠ row) : NB w' b v0 v1 v2 v3 v4 :=
 ⟨zC hg h.c0 hr,zC hg h.c1 hr,zC hg h.c2 hr,zC hg h.c3 hr,zC hg h.c4 hr,fun o => zV hg h.lt (h.z o) hr⟩
theorem NB.new (w : World) (t : TypeId) : NB (w.alloc (.cells #[v0,v1,v2,v3,v4] t)) w.heap.size v0 v1 v2 v3 v4 :=
 ⟨by rw [World.cell?_alloc_at _ _ _ _ rfl]; rfl,by rw [World.cell?_alloc_at _ _ _ _ rfl]; rfl,by rw [World.cell?_alloc_at _ _ _ _ rfl]; rfl,by rw [World.cell?_alloc_at _ _ _ _ rfl]; rfl,by rw [World.cell?_alloc_at _ _ _ _ rfl]; rfl,fun o => World.frozen?_alloc_at _ _ _ _ rfl⟩
theorem NB.new' {b : Nat} {t : TypeId} (hb : b = w.heap.size) : NB (w.alloc (.cells #[v0,v1,v2,v3,v4] t)) b v0 v1 v2 v3 v4 := by
 subst hb
 exact NB.new w t
theorem NB.alloc (h : NB w b v0 v1 v2 v3 v4) (o : Obj) : NB (w.alloc o) b v0 v1 v2 v3 v4 := h.kept (World.grownBy_alloc w o none) (by simp)
theorem NB.drewN (h : NB w b v0 v1 v2 v3 v4) (n : Nat) : NB (w.drewN n) b v0 v1 v2 v3 v4 := h.kept (zo (zc w none) n) (by simp)
theorem NB.far (h : NB w b v0 v1 v2 v3 v4) (hb : b' ≠ b) (o : Nat) (v : Value) : NB (w.setCell ⟨b',o,none⟩ v) b v0 v1 v2 v3 v4 := h.kept (zR (zc w (some b')) o v) (by simp; omega)
theorem NB.put (h : NB w b v0 v1 v2 v3 v4) (o : Nat) (v : Value) : NB (w.setCell ⟨b,o,none⟩ v) b (if o = 0 then v else v0) (if o = 1 then v else v1) (if o = 2 then v else v2) (if o = 3 then v else v3) (if o = 4 then v else v4) := by
 have c : ∀ k u,w.cell? ⟨b,k,none⟩ = some u -> (w.setCell ⟨b,o,none⟩ v).cell? ⟨b,k,none⟩ = some (if o = k then v else u) := by
  intro k u d
  by_cases e : o = k
  ·subst e
   rw [if_pos rfl]
   exact World.cell?_setCell_same _ _ _ d
  ·rw [if_neg e,World.cell?_setCell_other _ _ _ _ (by simp)]
   exact d
 exact ⟨c 0 _ h.c0,c 1 _ h.c1,c 2 _ h.c2,c 3 _ h.c3,c 4 _ h.c4,fun o => by rw [World.frozen?_setCell]; exact h.z o⟩
theorem NB.s0 (h : NB w b v0 v1 v2 v3 v4) (u : Value) : NB (w.setCell ⟨b,0,none⟩ u) b u v1 v2 v3 v4 := h.put 0 u
theorem NB.s1 (h : NB w b v0 v1 v2 v3 v4) (u : Value) : NB (w.setCell ⟨b,1,none⟩ u) b v0 u v2 v3 v4 := h.put 1 u
theorem NB.s2 (h : NB w b v0 v1 v2 v3 v4) (u : Value) : NB (w.setCell ⟨b,2,none⟩ u) b v0 v1 u v3 v4 := h.put 2 u
theorem NB.s3 (h : NB w b v0 v1 v2 v3 v4) (u : Value) : NB (w.setCell ⟨b,3,none⟩ u) b v0 v1 v2 u v4 := h.put 3 u
theorem NB.s4 (h : NB w b v0 v1 v2 v3 v4) (u : Value) : NB (w.setCell ⟨b,4,none⟩ u) b v0 v1 v2 v3 u := h.put 4 u
theorem NB.put5 (h : NB w b v0 v1 v2 v3 v4) : NB (put5 w b u0 u1 u2 u3 u4) b u0 u1 u2 u3 u4 := ((((h.put 0 u0).put 1 u1).put 2 u2).put 3 u3).put 4 u4
def RB (w : World) (b : Nat) : Prop := ∃ v0 v1 v2 v3 v4,NB w b v0 v1 v2 v3 v4
theorem NB.rb (h : NB w b v0 v1 v2 v3 v4) : RB w b := ⟨_,_,_,_,_,h⟩
theorem RB.new (w : World) (t : TypeId) : RB (w.alloc (.cells #[v0,v1,v2,v3,v4] t)) w.heap.size := (NB.new w t).rb
theorem RB.new' {b : Nat} {t : TypeId} (hb : b = w.heap.size) : RB (w.alloc (.cells #[v0,v1,v2,v3,v4] t)) b := (NB.new' hb).rb
theorem RB.kept {row : Option Nat} (h : RB w b) (hg : w.grownBy w' row) (hr : some b ≠ row) : RB w' b := by
 obtain ⟨_,_,_,_,_,h⟩ := h
 exact (h.kept hg hr).rb
theorem RB.lt (h : RB w b) : b < w.heap.size := by
 obtain ⟨_,_,_,_,_,h⟩ := h
 exact h.lt
theorem RB.alloc (h : RB w b) (o : Obj) : RB (w.alloc o) b := h.kept (World.grownBy_alloc w o none) (by simp)
theorem RB.drewN (h : RB w b) (n : Nat) : RB (w.drewN n) b := h.kept (zo (zc w none) n) (by simp)
theorem RB.put (h : RB w b) (b' o : Nat) (v : Value) : RB (w.setCell ⟨b',o,none⟩ v) b := by
 obtain ⟨_,_,_,_,_,h⟩ := h
 by_cases e : b' = b
 ·subst e
  exact (h.put o v).rb
 ·exact (h.far e o v).rb
theorem RB.five (h : RB w b) : NB (((((w.setCell ⟨b,0,none⟩ u0).setCell ⟨b,1,none⟩ u1).setCell ⟨b,2,none⟩ u2).setCell ⟨b,3,none⟩ u3).setCell ⟨b,4,none⟩ u4) b u0 u1 u2 u3 u4 := by
 obtain ⟨_,_,_,_,_,h⟩ := h
 exact h.put5
theorem NB.drew (h : NB w b v0 v1 v2 v3 v4) : NB w.drew b v0 v1 v2 v3 v4 := h.drewN 1
theorem RB.drew (h : RB w b) : RB w.drew b := h.drewN 1
theorem PS.drew {c : PC} {i d : Nat} (h : PS c w i d) : PS c w.drew i d := h.drewN 1
theorem zh {a : World} {row : Option Nat} (h : a.grownBy w row) : a.grownBy w.drew row := zo h 1
theorem LR.drew {lo hi : Nat} {ts : List T} {v : Value} (h : LR w (In lo hi) ts v) : LR w.drew (In lo hi) ts v := h.drewN 1
theorem dM {fn : Func} {p : Tmp} (h : fn.results = #[.cell p 100]) {tmps : Array Value} (hp : tmps[p]?.getD undef = .pointer (some ⟨b,0,none⟩)) (hn : NB w b v0 v1 v2 v3 v4) :
  (results fn tmps).run Tryz.prog w = .ok (.agg #[v0,v1,v2,v3,v4]) w := by
 simp [results,h,hp,go_sem,hn.c0,hn.c1,hn.c2,hn.c3,hn.c4]
theorem zj {fn : Func} {p : Tmp} {R : Ending -> World -> Prop} {a : Act} (h : fn.results = #[.cell p 100]) (hp : a.tmps[p]?.getD undef = .pointer (some ⟨b,0,none⟩)) (hn : NB w b v0 v1 v2 v3 v4) (hd : a.defers = [])
  (hR : R (.returned (.agg #[v0,v1,v2,v3,v4])) w) : bodyPost Tryz.prog fn R .ret a w := bodyPost_ret (dM h hp hn) hd hR
end
/-! ### Five stores into one block -/
section
variable {w w' : World} {b b' o0 o1 o2 o3 o4 : Nat} {u0 u1 u2 u3 u4 v0 v1 v2 v3 v4 : Value}
theorem zy {a : World} {row : Option Nat} (h : a.grownBy w row) (hb : a.heap.size <= b) : a.grownBy (((((w.setCell ⟨b, o0, none⟩ u0).setCell ⟨b, o1, none⟩ u1).setCell ⟨b, o2, none⟩ u2).setCell ⟨b, o3, none⟩ u3).setCell ⟨b, o4, none⟩ u4) row := zq (zq (zq (zq (zq h hb _ _) hb _ _) hb _ _) hb _ _) hb _ _
theorem PS.p5 {c : PC} {i d n : Nat} (h : PS c w i d) (hl : Low c n) (hb : n <= b) : PS c (((((w.setCell ⟨b, o0, none⟩ u0).setCell ⟨b, o1, none⟩ u1).setCell ⟨b, o2, none⟩ u2).setCell ⟨b, o3, none⟩ u3).setCell ⟨b, o4, none⟩ u4) i d := PS.put (PS.put (PS.put (PS.put (PS.put h hl hb _ _) hl hb _ _) hl hb _ _) hl hb _ _) hl hb _ _
theorem LR.p5 {lo hi : Nat} {ts : List T} {v : Value} (h : LR w (In lo hi) ts v) (hb : b < lo \/ hi <= b) : LR (((((w.setCell ⟨b, o0, none⟩ u0).setCell ⟨b, o1, none⟩ u1).setCell ⟨b, o2, none⟩ u2).setCell ⟨b, o3, none⟩ u3).setCell ⟨b, o4, none⟩ u4) (In lo hi) ts v := LR.put (LR.put (LR.put (LR.put (LR.put h hb _ _) hb _ _) hb _ _) hb _ _) hb _ _
theorem RB.p5 (h : RB w b') : RB (((((w.setCell ⟨b, o0, none⟩ u0).setCell ⟨b, o1, none⟩ u1).setCell ⟨b, o2, none⟩ u2).setCell ⟨b, o3, none⟩ u3).setCell ⟨b, o4, none⟩ u4) b' := RB.put (RB.put (RB.put (RB.put (h.put _ _ _) _ _ _) _ _ _) _ _ _) _ _ _
theorem NB.p5 (h : NB w b' v0 v1 v2 v3 v4) (hb : b ≠ b') : NB (((((w.setCell ⟨b, o0, none⟩ u0).setCell ⟨b, o1, none⟩ u1).setCell ⟨b, o2, none⟩ u2).setCell ⟨b, o3, none⟩ u3).setCell ⟨b, o4, none⟩ u4) b' v0 v1 v2 v3 v4 := NB.far (NB.far (NB.far (NB.far (NB.far h hb _ _) hb _ _) hb _ _) hb _ _) hb _ _
theorem RB.keep {r : Nat} (h : RB w b) (hg : w.grownBy w' (some r)) (hr : b ≠ r) : RB w' b := h.kept hg (by simpa using hr)
theorem NB.keep {r : Nat} (h : NB w b v0 v1 v2 v3 v4) (hg : w.grownBy w' (some r)) (hr : b ≠ r) : NB w' b v0 v1 v2 v3 v4 := h.kept hg (by simpa using hr)
end
abbrev Nm := List UInt8
structure KFd where
 name : Nm
 exp : Bool
 ty : Nat
 first : Int
structure KTy where
 form : Int
 name : Nm
 home : Option Nat
 words : Int
 places : Int
 of : Option Nat
 fields : List KFd
 complete : Bool
structure KTh where
 kind : Int
 name : Nm
 exp : Bool
 home : Option Nat
 ty : Option Nat
 value : Int
 first : Int
 byVar : Bool
 proc : Option Nat
 valued : Bool
 mod : Option Nat
structure KPr where
 home : Nat
 inner : List (Nm × Nat)
 acts : List T
 words : Int
 pars : List Nat
 result : Option Nat
structure KMd where
 name : Nm
 names : List (Nm × Nat)
 acts : List T
 words : Int
 imps : List Nat
 decl : List Nat
structure KS where
 tys : List KTy
 ths : List KTh
 prs : List KPr
 mds : List KMd
 mods : List (Nm × Nat)
structure KSc where
 home : Nat
 inner : Option Nat
def ty0 : KTy := ⟨0,[],none,0,0,none,[],false⟩
def th0 : KTh := ⟨0,[],false,none,none,0,0,false,none,false,none⟩
def pr0 : KPr := ⟨0,[],[],0,[],none⟩
def md0 : KMd := ⟨[],[],[],0,[],[]⟩
def KS.ty (S : KS) (i : Nat) : KTy := S.tys[i]?.getD ty0
def KS.th (S : KS) (i : Nat) : KTh := S.ths[i]?.getD th0
def KS.pr (S : KS) (i : Nat) : KPr := S.prs[i]?.getD pr0
def KS.md (S : KS) (i : Nat) : KMd := S.mds[i]?.getD md0
def KS.of (S : KS) (i : Nat) : Nat := (S.ty i).of.getD 0
def lk : List (Nm × Nat) -> Nm -> Option Nat
 | [],_ => none
 | p :: r,x => if p.1 = x then some p.2 else lk r x
def t00 : T := .mk 0 [] 0 0 []
def sub (n : T) (i : Nat) : T := n.subs[i]?.getD t00
/-! ### What names mean -/
def KS.innerOf (S : KS) : Option Nat -> Nm -> Option Nat
 | none,_ => none
 | some p,x => lk (S.pr p).inner x
def KS.find (S : KS) (c : KSc) (x : Nm) : Option Nat := match S.innerOf c.inner x with
 | some t => some t
 | none => lk (S.md c.home).names x
def KS.imported (S : KS) (c : KSc) (x : Nm) : Option Nat := match S.find c x with
 | some t => (S.th t).mod
 | none => none
def KS.shown (S : KS) (m : Nat) (x : Nm) : Option Nat := match lk (S.md m).names x with
 | some t => if (S.th t).exp = true then some t else none
 | none => none
def KS.ahead (S : KS) (c : KSc) (n : T) : Option Nat := if n.kind = 25 then (if (sub n 0).kind = 24 then S.imported c (sub n 0).name else none) else none
def KS.shownIn (S : KS) : Option Nat -> Nm -> Option Nat
 | some m,x => S.shown m x
 | none,_ => none
def KS.meaning (S : KS) (c : KSc) (n : T) : Option Nat := if n.kind = 24 then S.find c n.name else S.shownIn (S.ahead c n) n.name
def zG : Nm := [73,78,84,69,71,69,82]
def zH : Nm := [66,79,79,76,69,65,78]
def yc : List (Nm × Nat) := [(zG,0),(zH,1)]
def KS.typeThing (S : KS) (c : KSc) (n : T) : Option Nat := if 0 < n.subs.length then S.shownIn (S.imported c (sub n 0).name) n.name else match lk yc n.name with
 | some t => some t
 | none => S.find c n.name
/-! ### What is thrown -/
abbrev CR (α : Type) := Except (Int × Int) α
def thr {α : Type} (n : T) (e : Int) : CR α := .error (e,n.at')
def yE (n : T) (t want : Nat) : CR Unit := if t = want then .ok () else thr n 7
/-! ### Types -/
def KS.namedType (S : KS) (c : KSc) (n : T) : CR Nat := match S.typeThing c n with
 | none => thr n 5
 | some t => if (S.th t).kind = 2 then .ok ((S.th t).ty.getD 0) else thr n 8
def KS.typeName (S : KS) (c : KSc) (n : T) : CR Nat := (S.namedType c n).bind fun t => if (S.ty t).complete = true then .ok t else thr n 5
def KS.oneWord (S : KS) (t : Nat) : Bool := (S.ty t).form != 3 && (S.ty t).form != 4
def KS.oneWordType (S : KS) (c : KSc) (n : T) : CR Nat := (S.typeName c n).bind fun t => if S.oneWord t = true then .ok t else thr n 7
def KS.record (S : KS) (n : T) (t : Nat) : CR Nat := if (S.ty t).form = 4 then .ok t else thr n 7
def KS.extF (S : KS) : Nat -> Nat -> Nat -> Bool
 | 0,_,_ => false
 | f + 1,r,o => if r = o then true else match (S.ty r).of with
  | none => false
  | some q => S.extF f q o
def KS.ext (S : KS) (r o : Nat) : Bool := S.extF (r + 1) r o
def kr : List KFd -> Nm -> Option KFd
 | [],_ => none
 | d :: r,x => if d.name = x then some d else kr r x
def KS.fieldF (S : KS) : Nat -> Nat -> Nm -> Option (KFd × Nat)
 | 0,_,_ => none
 | f + 1,r,x => match kr (S.ty r).fields x with
  | some d => some (d,r)
  | none => match (S.ty r).of with
   | none => none
   | some q => S.fieldF f q x
def KS.field (S : KS) (r : Nat) (x : Nm) : Option (KFd × Nat) := S.fieldF (r + 1) r x
def KS.takes (S : KS) (t o : Nat) : Bool := if t = o then true else if (S.ty t).form = 5 then (if (S.ty o).form = 5 then S.ext (S.of o) (S.of t) else decide ((S.ty o).form = 2)) else false
def KS.mayEq (S : KS) (a b : Nat) : Bool := if S.oneWord a = true then (if S.oneWord b = true then (if a = 2 /\ b = 2 then false else S.takes a b || S.takes b a) else false) else false
/-! ### Operators -/
def oI : Nm := [38]
def mP : Nm := [79,82]
def dA : Nm := [35]
def vn : Nm := [61]
def yj (x : Nm) : Nat := if x = oI \/ x = mP then 1 else 0
def yL (x : Nm) : Nat := if x = [43] \/ x = [45] \/ x = [42] \/ x = [68,73,86] \/ x = [77,79,68] then 0 else 1
/-! ### Expressions -/
def KS.meaningC (S : KS) (c : KSc) (n : T) : CR (Option Nat) := match S.meaning c n with
 | some t => .ok (some t)
 | none => if n.kind = 24 then thr n 5 else match S.ahead c n with
  | some _ => thr n 5
  | none => .ok none
structure KR where
 ex : T -> CR Nat
 de : T -> CR Nat
def yP (r : KR) (n : T) (t : Nat) : CR Unit := (r.ex n).bind fun a => yE n a t
def KS.pointerC (S : KS) (r : KR) (n : T) : CR Nat := (r.ex (sub n 0)).bind fun t => if (S.ty t).form = 5 then .ok t else thr n 7
def KS.guardedC (S : KS) (c : KSc) (r : KR) (n : T) : CR Nat := (S.pointerC r n).bind fun f => (S.typeName c (sub n 1)).bind fun t =>
 if (S.ty t).form = 5 then (if S.ext (S.of t) (S.of f) = true then .ok t else thr n 7) else thr n 7
def KS.dotC (S : KS) (c : KSc) (r : KR) (n : T) : CR Nat := (r.de (sub n 0)).bind fun t =>
 let q := if (S.ty t).form = 5 then S.of t else t
 if (S.ty q).form = 4 then (match S.field q n.name with
  | none => thr n 5
  | some (d,o) => if d.exp = true then .ok d.ty else if (S.ty o).home = some c.home then .ok d.ty else thr n 5) else thr n 7
def KS.indexC (S : KS) (r : KR) (n : T) : CR Nat := (r.de (sub n 0)).bind fun t => (r.ex (sub n 1)).bind fun i =>
 if (S.ty t).form = 3 then (yE (sub n 1) i 0).bind fun _ => .ok (S.of t) else thr n 7
def KS.desigC (S : KS) (c : KSc) (r : KR) (n : T) : CR Nat := (S.meaningC c n).bind fun m => match m with
 | some t => if (S.th t).kind = 3 \/ (S.th t).kind = 1 then .ok ((S.th t).ty.getD 0) else thr n 8
 | none => if n.kind = 25 then S.dotC c r n else if n.kind = 26 then S.indexC r n else if n.kind = 27 then (S.pointerC r n).bind fun t => .ok (S.of t) else S.guardedC c r n
def zF (n : T) : Bool := decide (24 <= n.kind) && decide (n.kind <= 28)
def KS.variableC (S : KS) (c : KSc) (de : T -> CR Nat) (n : T) : CR Nat := if zF n = true then (S.meaningC c n).bind fun m =>
 if (match m with | some t => decide ((S.th t).kind ≠ 3) | none => false) = true then thr n 8 else (de n).bind fun t => if n.kind = 28 then thr n 8 else .ok t else thr n 8
def KS.calledC (S : KS) (c : KSc) (r : KR) (n : T) : CR Nat := (S.meaningC c n).bind fun m => match m with
 | none => (r.de n).bind fun _ => thr n 8
 | some t => if (S.th t).kind = 4 then .ok ((S.th t).proc.getD 0) else thr n 8
def KS.fitsC (S : KS) (c : KSc) (r : KR) (n : T) (p : Nat) : CR Bool := if (S.th p).byVar = true then (S.variableC c r.de n).bind fun t =>
  .ok (if some t = (S.th p).ty then true else if (S.ty t).form = 4 then S.ext t ((S.th p).ty.getD 0) else false)
 else (r.ex n).bind fun t => .ok (S.takes ((S.th p).ty.getD 0) t)
def KS.argsC (S : KS) (c : KSc) (r : KR) : List T -> List Nat -> CR Unit
 | x :: xs,p :: ps => (S.fitsC c r x p).bind fun b => if b = true then S.argsC c r xs ps else thr x 7
 | _,_ => .ok ()
def KS.callC (S : KS) (c : KSc) (r : KR) (n : T) : CR (Option Nat) := (S.calledC c r (sub n 0)).bind fun p =>
 if (n.subs.drop 1).length = (S.pr p).pars.length then (S.argsC c r (n.subs.drop 1) (S.pr p).pars).bind fun _ => .ok (S.pr p).result else thr n 7
def KS.operatorC (S : KS) (r : KR) (n : T) : CR Nat := (r.ex (sub n 0)).bind fun a => (r.ex (sub n 1)).bind fun b =>
 (if n.name = vn \/ n.name = dA then (if S.mayEq a b = true then .ok () else thr n 7) else (yE (sub n 0) a (yj n.name)).bind fun _ => yE (sub n 1) b (yj n.name)).bind fun _ => .ok (yL n.name)
def KS.exprC (S : KS) (c : KSc) (r : KR) (n : T) : CR Nat :=
 if n.kind = 29 then .ok 0 else if n.kind = 30 \/ n.kind = 31 then .ok 1 else if n.kind = 32 then .ok 2
 else if n.kind = 34 then (yP r (sub n 0) 1).bind fun _ => .ok 1 else if n.kind = 35 then (yP r (sub n 0) 0).bind fun _ => .ok 0
 else if n.kind = 36 then S.operatorC r n else if n.kind = 37 then (S.guardedC c r n).bind fun _ => .ok 1
 else if n.kind = 33 then (S.callC c r n).bind fun t => (match t with | some t => .ok t | none => thr n 7) else S.desigC c r n
def KS.level (S : KS) (c : KSc) : Nat -> KR
 | 0 => ⟨fun n => thr n 0,fun n => thr n 0⟩
 | f + 1 => ⟨S.exprC c (S.level c f),S.desigC c (S.level c f)⟩
/-! ### Acts -/
def yD {α : Type} (f : α -> CR Unit) : List α -> CR Unit
 | [] => .ok ()
 | x :: r => (f x).bind fun _ => yD f r
def KS.returnC (S : KS) (r : KR) (res : Option Nat) (n : T) : CR Unit := if n.subs.length = 0 then (match res with | none => .ok () | some _ => thr n 7) else (r.ex (sub n 0)).bind fun t => match res with
 | none => thr n 7
 | some q => if S.takes q t = true then .ok () else thr (sub n 0) 7
def KS.actC (S : KS) (c : KSc) (r : KR) (res : Option Nat) (acts : List T -> CR Unit) (n : T) : CR Unit :=
 if n.kind = 14 then (S.variableC c r.de (sub n 0)).bind fun t => (r.ex (sub n 1)).bind fun u => if S.takes t u = true then .ok () else thr (sub n 1) 7
 else if n.kind = 15 then (S.callC c r n).bind fun t => (match t with | none => .ok () | some _ => thr n 7)
 else if n.kind = 16 \/ n.kind = 17 \/ n.kind = 18 then yD (fun x => if x.kind = 1 then acts x.subs else yP r x 1) n.subs
 else if n.kind = 19 then S.returnC r res n
 else if n.kind = 20 then (S.variableC c r.de (sub n 0)).bind fun t => if (S.ty t).form = 5 then .ok () else thr (sub n 0) 7
 else if n.kind = 22 then (S.variableC c r.de (sub n 0)).bind fun t => yE (sub n 0) t 0
 else if n.kind = 21 then yP r (sub n 0) 0
 else if n.kind = 23 then yP r (sub n 0) 1 else .ok ()
def KS.actsF (S : KS) (c : KSc) (r : KR) (res : Option Nat) : Nat -> List T -> CR Unit
 | 0,_ => .ok ()
 | f + 1,l => yD (S.actC c r res (S.actsF c r res f)) l
end Go.Proofs.YtnmkffjklpfflaaGreatDoor
