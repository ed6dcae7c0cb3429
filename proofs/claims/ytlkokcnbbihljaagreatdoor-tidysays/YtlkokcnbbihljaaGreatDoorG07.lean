/- Trees in memory that are made: a list of nodes owns a row, five cells a node; what is below a node lies in other rows than the list's own. -/
import Derived.Test.YtlkokcnbbihljaaGreatDoorG05
import Derived.Deep.AppendLies
import Derived.Deep.RegionLaw
namespace Go.Proofs.YtlkokcnbbihljaaGreatDoor
open Go.RowKit

def headC (t : T) (sv : Value) : List Value := [.int .i64 t.kind, .string ⟨t.name.toArray⟩, .int .i64 t.num, .int .i64 t.at', sv]
def flatN : List T → List Value → List Value
  | t :: ts, sv :: svs => headC t sv ++ flatN ts svs
  | _, _ => []

theorem flatN_length : ∀ (ts : List T) (svs : List Value), svs.length = ts.length → (flatN ts svs).length = ts.length * 5
  | [], [], _ => rfl
  | t :: ts, sv :: svs, h => by
    have ih := flatN_length ts svs (by simpa using h)
    simp only [flatN, List.length_append, ih, headC, List.length_cons, List.length_nil]
    omega
theorem flatN_append : ∀ (ts : List T) (svs : List Value) (us : List T) (uvs : List Value), svs.length = ts.length → flatN (ts ++ us) (svs ++ uvs) = flatN ts svs ++ flatN us uvs
  | [], [], _, _, _ => rfl
  | t :: ts, sv :: svs, us, uvs, h => by
    have ih := flatN_append ts svs us uvs (by simpa using h)
    simp only [flatN, List.cons_append, ih, List.append_assoc]

/-- A list of trees in memory, all of it in rows of S. -/
inductive LR (w : World) : (Nat → Prop) → List T → Value → Prop
  | mk (S : Nat → Prop) (ts : List T) (v : Value) (svs : List Value) (hl : svs.length = ts.length) (own : w.ownsRow 0 24 5 v ts.length (flatN ts svs))
      (inS : ∀ b, v.ownBlock = some b → S b)
      (sub : ∀ (i : Nat) (t : T) (sv : Value), ts[i]? = some t → svs[i]? = some sv → LR w (fun k => S k ∧ v.ownBlock ≠ some k) t.subs sv) : LR w S ts v

/-- Rows from lo on, and below hi. -/
def In (lo hi : Nat) : Nat → Prop := fun k => lo ≤ k ∧ k < hi

theorem LR.nil (w : World) (S : Nat → Prop) : LR w S [] (.slice none 0 0) :=
  .mk S [] _ [] rfl (World.ownsRow_nil _ _ _ _) (by intro b hb; cases hb) (by intro i t sv h; simp at h)

theorem LR.kept {w w' : World} {S : Nat → Prop} {ts : List T} {v : Value} {row : Option Nat} (h : LR w S ts v) (hg : w.grownBy w' row) (hr : ∀ b, row = some b → ¬ S b) : LR w' S ts v := by
  induction h with
  | mk S ts v svs hl own inS sub ih =>
    refine .mk S ts v svs hl (own.kept hg ?_) inS (fun i t sv h1 h2 => ih i t sv h1 h2 (fun b hb hs => hr b hb hs.1))
    cases hv : v.ownBlock with
    | none => exact .inl rfl
    | some b => exact .inr (fun e => hr b e.symm (inS b hv))

theorem LR.mono {w : World} {S S' : Nat → Prop} {ts : List T} {v : Value} (h : LR w S ts v) (hs : ∀ k, S k → S' k) : LR w S' ts v := by
  induction h generalizing S' with
  | mk S ts v svs hl own inS sub ih =>
    exact .mk S' ts v svs hl own (fun b hb => hs b (inS b hb)) (fun i t sv h1 h2 => ih i t sv h1 h2 (fun k hk => ⟨hs k hk.1, hk.2⟩))

theorem LR.bounded {w : World} {S : Nat → Prop} {ts : List T} {v : Value} (h : LR w S ts v) : LR w (fun k => S k ∧ k < w.heap.size) ts v := by
  induction h with
  | mk S ts v svs hl own inS sub ih =>
    exact .mk _ ts v svs hl own (fun b hb => ⟨inS b hb, (own.lt b hb).2⟩) (fun i t sv h1 h2 => (ih i t sv h1 h2).mono (fun k hk => ⟨⟨hk.1.1, hk.2⟩, hk.1.2⟩))

theorem LR.own {w : World} {S : Nat → Prop} {ts : List T} {v : Value} (h : LR w S ts v) : ∃ svs, svs.length = ts.length ∧ w.ownsRow 0 24 5 v ts.length (flatN ts svs) ∧ (∀ b, v.ownBlock = some b → S b) ∧
    ∀ (i : Nat) (t : T) (sv : Value), ts[i]? = some t → svs[i]? = some sv → LR w (fun k => S k ∧ v.ownBlock ≠ some k) t.subs sv := by
  cases h with
  | mk _ _ _ svs hl own inS sub => exact ⟨svs, hl, own, inS, sub⟩

theorem LR.form {w : World} {S : Nat → Prop} {ts : List T} {v : Value} (h : LR w S ts v) : ∃ a c, v = .slice a ts.length c := by
  obtain ⟨svs, _, own, _⟩ := h.own
  rcases own.2 with ⟨rfl, h0⟩ | ⟨g, cap, cur, rfl, _⟩
  · exact ⟨none, 0, by rw [h0]⟩
  · exact ⟨_, _, rfl⟩

/-- A tree in memory, in rows from lo on and below hi. -/
def TR (w : World) (lo hi : Nat) (t : T) (v : Value) : Prop := ∃ sv, v = .agg #[.int .i64 t.kind, .string ⟨t.name.toArray⟩, .int .i64 t.num, .int .i64 t.at', sv] ∧ LR w (In lo hi) t.subs sv

section
variable {w w' : World} {lo hi lo' hi' b n : Nat} {t : T} {ts : List T} {v : Value}
theorem LR.call (h : LR w (In lo hi) ts v) (hg : w.grownBy w' (some b)) (hb : b < lo ∨ hi ≤ b) : LR w' (In lo hi) ts v :=
  h.kept hg (fun k hk hs => by cases hk; have h1 : lo ≤ b := hs.1; have h2 : b < hi := hs.2; omega)
theorem LR.put (h : LR w (In lo hi) ts v) (hb : b < lo ∨ hi ≤ b) (o : Nat) (u : Value) : LR (w.setCell ⟨b, o, none⟩ u) (In lo hi) ts v := h.call (gb_set (gb_refl w (some b)) o u) hb
theorem LR.alloc (h : LR w (In lo hi) ts v) (o : Obj) : LR (w.alloc o) (In lo hi) ts v := h.kept (World.grownBy_alloc w o none) (fun _ hk => by cases hk)
theorem LR.drewN (h : LR w (In lo hi) ts v) (n : Nat) : LR (w.drewN n) (In lo hi) ts v := h.kept (gb_drewN (gb_refl w none) n) (fun _ hk => by cases hk)
theorem LR.grown (h : LR w (In lo hi) ts v) (hg : w.grownBy w' none) : LR w' (In lo hi) ts v := h.kept hg (fun _ hk => by cases hk)
theorem LR.wide (h : LR w (In lo hi) ts v) (h1 : lo' ≤ lo) (h2 : hi ≤ hi') : LR w (In lo' hi') ts v := h.mono (fun k hk => by have h3 : lo ≤ k := hk.1; have h4 : k < hi := hk.2; exact ⟨by omega, by omega⟩)
theorem TR.call (h : TR w lo hi t v) (hg : w.grownBy w' (some b)) (hb : b < lo ∨ hi ≤ b) : TR w' lo hi t v := by
  obtain ⟨sv, rfl, h⟩ := h
  exact ⟨sv, rfl, h.call hg hb⟩
theorem TR.put (h : TR w lo hi t v) (hb : b < lo ∨ hi ≤ b) (o : Nat) (u : Value) : TR (w.setCell ⟨b, o, none⟩ u) lo hi t v := h.call (gb_set (gb_refl w (some b)) o u) hb
theorem TR.grown (h : TR w lo hi t v) (hg : w.grownBy w' none) : TR w' lo hi t v := by
  obtain ⟨sv, rfl, h⟩ := h
  exact ⟨sv, rfl, h.grown hg⟩
theorem TR.alloc (h : TR w lo hi t v) (o : Obj) : TR (w.alloc o) lo hi t v := h.grown (World.grownBy_alloc w o none)
theorem TR.drewN (h : TR w lo hi t v) (n : Nat) : TR (w.drewN n) lo hi t v := h.grown (gb_drewN (gb_refl w none) n)
theorem TR.wide (h : TR w lo hi t v) (h1 : lo' ≤ lo) (h2 : hi ≤ hi') : TR w lo' hi' t v := by
  obtain ⟨sv, rfl, h⟩ := h
  exact ⟨sv, rfl, h.wide h1 h2⟩

/-- A new row of nodes. -/
theorem LR.build (w : World) {cs : Array Value} {svs : List Value} {g n : Nat} (hg : g = w.heap.size) (hn : n = ts.length) (hc : cs.toList = flatN ts svs) (hl : svs.length = ts.length) (hlen : ts.length ≤ 5000) (hlo : lo ≤ g)
    (hs : ∀ (i : Nat) (t : T) (sv : Value), ts[i]? = some t → svs[i]? = some sv → LR w (In lo g) t.subs sv) : LR (w.alloc (.cells cs 24)) (In lo (g + 1)) ts (.slice (some ⟨g, 0, none⟩) n n) := by
  subst hg hn
  have hsz : cs.size = ts.length * 5 := by rw [← Array.length_toList, hc, flatN_length _ _ hl]
  refine .mk _ _ _ svs hl ⟨flatN_length _ _ hl, .inr ⟨w.heap.size, ts.length, cs, rfl, Nat.zero_le _, heap_alloc_new w _, Nat.le_refl _, by unfold maxLen; omega, hsz, ?_⟩⟩ (fun b hb => ?_) (fun i t sv h1 h2 => ?_)
  · rw [hc, ← flatN_length _ _ hl, List.take_length]
  · cases hb
    exact ⟨hlo, Nat.lt_succ_self _⟩
  · refine ((hs i t sv h1 h2).alloc _).mono (fun k hk => ⟨⟨hk.1, Nat.lt_succ_of_lt hk.2⟩, fun e => ?_⟩)
    have h3 : k < w.heap.size := hk.2
    simp [Value.ownBlock] at e
    omega
theorem LR.build1 (w : World) {t : T} {sv : Value} {g : Nat} {cs : Array Value} (h : LR w (In lo g) t.subs sv) (hg : g = w.heap.size) (hc : cs.toList = headC t sv) (hlo : lo ≤ g) :
    LR (w.alloc (.cells cs 24)) (In lo (g + 1)) [t] (.slice (some ⟨g, 0, none⟩) 1 1) :=
  LR.build w (svs := [sv]) hg rfl hc rfl (by simp) hlo (fun i t' sv' h1 h2 => by
    match i, h1, h2 with
    | 0, h1, h2 => cases h1; cases h2; exact h)
theorem LR.build2 (w : World) {t t2 : T} {sv sv2 : Value} {g : Nat} {cs : Array Value} (h : LR w (In lo g) t.subs sv) (h2 : LR w (In lo g) t2.subs sv2) (hg : g = w.heap.size) (hc : cs.toList = headC t sv ++ headC t2 sv2) (hlo : lo ≤ g) :
    LR (w.alloc (.cells cs 24)) (In lo (g + 1)) [t, t2] (.slice (some ⟨g, 0, none⟩) 2 2) :=
  LR.build w (svs := [sv, sv2]) hg rfl hc rfl (by simp) hlo (fun i t' sv' h3 h4 => by
    match i, h3, h4 with
    | 0, h3, h4 => cases h3; cases h4; exact h
    | 1, h3, h4 => cases h3; cases h4; exact h2)

/-- One list behind another one, in the first one's row or in a new one. -/
theorem LR.append {us : List T} {v' : Value} {svs uvs : List Value} {row : Option Nat} {l2 : Nat}
    (h : ∀ b, v.ownBlock = some b → In lo hi b) (hl : svs.length = ts.length)
    (hs : ∀ (i : Nat) (t : T) (sv : Value), ts[i]? = some t → svs[i]? = some sv → LR w (fun k => In lo hi k ∧ v.ownBlock ≠ some k) t.subs sv)
    (hu : uvs.length = us.length) (hus : ∀ (i : Nat) (t : T) (sv : Value), us[i]? = some t → uvs[i]? = some sv → LR w (In l2 hi') t.subs sv)
    (h2 : lo ≤ l2) (h3 : hi ≤ l2) (h5 : l2 ≤ w.heap.size) (h4 : hi' ≤ w.heap.size) (hw : w.heap.size ≤ n) (hw2 : ∀ b, v'.ownBlock = some b → b < n)
    (own : w'.ownsRow 0 24 5 v' (ts.length + us.length) (flatN ts svs ++ flatN us uvs)) (hg : w.grownBy w' row) (hrow : row = v.ownBlock)
    (hat : v'.ownBlock = v.ownBlock ∨ v'.ownBlock = some w.heap.size) : LR w' (In lo n) (ts ++ us) v' := by
  subst hrow
  have key : ∀ (l : List T) (sv : Value), LR w (fun k => In lo w.heap.size k ∧ v.ownBlock ≠ some k) l sv → LR w' (fun k => In lo n k ∧ v'.ownBlock ≠ some k) l sv := by
    intro l sv hlr
    refine (hlr.kept hg (fun b hb hs' => hs'.2 hb)).mono (fun k hk => ⟨⟨hk.1.1, Nat.lt_of_lt_of_le hk.1.2 hw⟩, fun e => ?_⟩)
    rcases hat with hat | hat
    · exact hk.2 (hat ▸ e)
    · have h6 : k < w.heap.size := hk.1.2
      rw [hat] at e
      cases e
      omega
  refine .mk _ _ _ (svs ++ uvs) (by simp [hl, hu]) (by rw [flatN_append _ _ _ _ hl, List.length_append]; exact own) (fun b hb => ?_) (fun i t sv h1 h2' => key _ _ ?_)
  · rcases hat with hat | hat
    · have h6 := h b (hat ▸ hb)
      exact ⟨h6.1, hw2 b hb⟩
    · have h6 := hw2 b hb
      rw [hat] at hb
      cases hb
      exact ⟨by omega, h6⟩
  · rcases Nat.lt_or_ge i ts.length with hi' | hi'
    · rw [List.getElem?_append_left hi'] at h1
      rw [List.getElem?_append_left (by omega)] at h2'
      exact (hs i t sv h1 h2').mono (fun k hk => ⟨⟨hk.1.1, by have h7 : k < hi := hk.1.2; omega⟩, hk.2⟩)
    · rw [List.getElem?_append_right hi'] at h1
      rw [List.getElem?_append_right (by omega), hl] at h2'
      refine (hus _ t sv h1 h2').mono (fun k hk => ⟨⟨Nat.le_trans h2 hk.1, Nat.lt_of_lt_of_le hk.2 h4⟩, fun e => ?_⟩)
      have h6 := (h k e).2
      have h7 : l2 ≤ k := hk.1
      omega
end

def put5 (w : World) (b : Nat) (v0 v1 v2 v3 v4 : Value) : World := ((((w.setCell ⟨b, 0, none⟩ v0).setCell ⟨b, 1, none⟩ v1).setCell ⟨b, 2, none⟩ v2).setCell ⟨b, 3, none⟩ v3).setCell ⟨b, 4, none⟩ v4
theorem gb_put5 {a w : World} {row : Option Nat} {b : Nat} (h : a.grownBy w row) (hb : a.heap.size ≤ b) (v0 v1 v2 v3 v4 : Value) : a.grownBy (put5 w b v0 v1 v2 v3 v4) row :=
  gb_put (gb_put (gb_put (gb_put (gb_put h hb _ _) hb _ _) hb _ _) hb _ _) hb _ _

/-- A block that holds one node. -/
structure NB (w : World) (b : Nat) (v0 v1 v2 v3 v4 : Value) : Prop where
  c0 : w.cell? ⟨b, 0, none⟩ = some v0
  c1 : w.cell? ⟨b, 1, none⟩ = some v1
  c2 : w.cell? ⟨b, 2, none⟩ = some v2
  c3 : w.cell? ⟨b, 3, none⟩ = some v3
  c4 : w.cell? ⟨b, 4, none⟩ = some v4
  z : ∀ o, w.frozen? ⟨b, o, none⟩ = false
section
variable {w w' : World} {b b' : Nat} {v0 v1 v2 v3 v4 u0 u1 u2 u3 u4 : Value}
theorem NB.lt (h : NB w b v0 v1 v2 v3 v4) : b < w.heap.size := block_lt h.c0
theorem NB.kept {row : Option Nat} (h : NB w b v0 v1 v2 v3 v4) (hg : w.grownBy w' row) (hr : some b ≠ row) : NB w' b v0 v1 v2 v3 v4 :=
  ⟨cell_far hg h.c0 hr, cell_far hg h.c1 hr, cell_far hg h.c2 hr, cell_far hg h.c3 hr, cell_far hg h.c4 hr, fun o => frozen_far hg h.lt (h.z o) hr⟩
theorem NB.new (w : World) (t : TypeId) : NB (w.alloc (.cells #[v0, v1, v2, v3, v4] t)) w.heap.size v0 v1 v2 v3 v4 :=
  ⟨by rw [World.cell?_alloc_at _ _ _ _ rfl]; rfl, by rw [World.cell?_alloc_at _ _ _ _ rfl]; rfl, by rw [World.cell?_alloc_at _ _ _ _ rfl]; rfl, by rw [World.cell?_alloc_at _ _ _ _ rfl]; rfl, by rw [World.cell?_alloc_at _ _ _ _ rfl]; rfl, fun o => World.frozen?_alloc_at _ _ _ _ rfl⟩
theorem NB.new' {b : Nat} {t : TypeId} (hb : b = w.heap.size) : NB (w.alloc (.cells #[v0, v1, v2, v3, v4] t)) b v0 v1 v2 v3 v4 := by
  subst hb
  exact NB.new w t
theorem NB.alloc (h : NB w b v0 v1 v2 v3 v4) (o : Obj) : NB (w.alloc o) b v0 v1 v2 v3 v4 := h.kept (World.grownBy_alloc w o none) (by simp)
theorem NB.drewN (h : NB w b v0 v1 v2 v3 v4) (n : Nat) : NB (w.drewN n) b v0 v1 v2 v3 v4 := h.kept (gb_drewN (gb_refl w none) n) (by simp)
theorem NB.far (h : NB w b v0 v1 v2 v3 v4) (hb : b' ≠ b) (o : Nat) (v : Value) : NB (w.setCell ⟨b', o, none⟩ v) b v0 v1 v2 v3 v4 := h.kept (gb_set (gb_refl w (some b')) o v) (by simp; omega)
theorem NB.far5 (h : NB w b v0 v1 v2 v3 v4) (hb : b' ≠ b) : NB (put5 w b' u0 u1 u2 u3 u4) b v0 v1 v2 v3 v4 := ((((h.far hb _ _).far hb _ _).far hb _ _).far hb _ _).far hb _ _
theorem NB.put (h : NB w b v0 v1 v2 v3 v4) (o : Nat) (v : Value) : NB (w.setCell ⟨b, o, none⟩ v) b (if o = 0 then v else v0) (if o = 1 then v else v1) (if o = 2 then v else v2) (if o = 3 then v else v3) (if o = 4 then v else v4) := by
  have key : ∀ k u, w.cell? ⟨b, k, none⟩ = some u → (w.setCell ⟨b, o, none⟩ v).cell? ⟨b, k, none⟩ = some (if o = k then v else u) := by
    intro k u hu
    by_cases e : o = k
    · subst e
      rw [if_pos rfl]
      exact World.cell?_setCell_same _ _ _ hu
    · rw [if_neg e, World.cell?_setCell_other _ _ _ _ (by simp)]
      exact hu
  exact ⟨key 0 _ h.c0, key 1 _ h.c1, key 2 _ h.c2, key 3 _ h.c3, key 4 _ h.c4, fun o => by rw [World.frozen?_setCell]; exact h.z o⟩
theorem NB.s0 (h : NB w b v0 v1 v2 v3 v4) (u : Value) : NB (w.setCell ⟨b, 0, none⟩ u) b u v1 v2 v3 v4 := h.put 0 u
theorem NB.s1 (h : NB w b v0 v1 v2 v3 v4) (u : Value) : NB (w.setCell ⟨b, 1, none⟩ u) b v0 u v2 v3 v4 := h.put 1 u
theorem NB.s2 (h : NB w b v0 v1 v2 v3 v4) (u : Value) : NB (w.setCell ⟨b, 2, none⟩ u) b v0 v1 u v3 v4 := h.put 2 u
theorem NB.s3 (h : NB w b v0 v1 v2 v3 v4) (u : Value) : NB (w.setCell ⟨b, 3, none⟩ u) b v0 v1 v2 u v4 := h.put 3 u
theorem NB.s4 (h : NB w b v0 v1 v2 v3 v4) (u : Value) : NB (w.setCell ⟨b, 4, none⟩ u) b v0 v1 v2 v3 u := h.put 4 u
theorem NB.put5 (h : NB w b v0 v1 v2 v3 v4) : NB (put5 w b u0 u1 u2 u3 u4) b u0 u1 u2 u3 u4 := ((((h.put 0 u0).put 1 u1).put 2 u2).put 3 u3).put 4 u4
/-- A block for one node, whatever it holds. -/
def RB (w : World) (b : Nat) : Prop := ∃ v0 v1 v2 v3 v4, NB w b v0 v1 v2 v3 v4
theorem NB.rb (h : NB w b v0 v1 v2 v3 v4) : RB w b := ⟨_, _, _, _, _, h⟩
theorem RB.new (w : World) (t : TypeId) : RB (w.alloc (.cells #[v0, v1, v2, v3, v4] t)) w.heap.size := (NB.new w t).rb
theorem RB.new' {b : Nat} {t : TypeId} (hb : b = w.heap.size) : RB (w.alloc (.cells #[v0, v1, v2, v3, v4] t)) b := (NB.new' hb).rb
theorem RB.kept {row : Option Nat} (h : RB w b) (hg : w.grownBy w' row) (hr : some b ≠ row) : RB w' b := by
  obtain ⟨_, _, _, _, _, h⟩ := h
  exact (h.kept hg hr).rb
theorem RB.lt (h : RB w b) : b < w.heap.size := by
  obtain ⟨_, _, _, _, _, h⟩ := h
  exact h.lt
theorem RB.alloc (h : RB w b) (o : Obj) : RB (w.alloc o) b := h.kept (World.grownBy_alloc w o none) (by simp)
theorem RB.drewN (h : RB w b) (n : Nat) : RB (w.drewN n) b := h.kept (gb_drewN (gb_refl w none) n) (by simp)
theorem RB.put (h : RB w b) (b' o : Nat) (v : Value) : RB (w.setCell ⟨b', o, none⟩ v) b := by
  obtain ⟨_, _, _, _, _, h⟩ := h
  by_cases e : b' = b
  · subst e
    exact (h.put o v).rb
  · exact (h.far e o v).rb
theorem RB.five (h : RB w b) : NB (((((w.setCell ⟨b, 0, none⟩ u0).setCell ⟨b, 1, none⟩ u1).setCell ⟨b, 2, none⟩ u2).setCell ⟨b, 3, none⟩ u3).setCell ⟨b, 4, none⟩ u4) b u0 u1 u2 u3 u4 := by
  obtain ⟨_, _, _, _, _, h⟩ := h
  exact h.put5
theorem NB.drew (h : NB w b v0 v1 v2 v3 v4) : NB w.drew b v0 v1 v2 v3 v4 := h.drewN 1
theorem RB.drew (h : RB w b) : RB w.drew b := h.drewN 1
theorem LR.drew {lo hi : Nat} {ts : List T} {v : Value} (h : LR w (In lo hi) ts v) : LR w.drew (In lo hi) ts v := h.drewN 1
theorem results_node {fn : Func} {p : Tmp} (h : fn.results = #[.cell p 24]) {tmps : Array Value} (hp : tmps[p]?.getD undef = .pointer (some ⟨b, 0, none⟩)) (hn : NB w b v0 v1 v2 v3 v4) :
    (results fn tmps).run Tryz.prog w = .ok (.agg #[v0, v1, v2, v3, v4]) w := by
  simp [results, h, hp, go_sem, hn.c0, hn.c1, hn.c2, hn.c3, hn.c4]
theorem node_ret {fn : Func} {p : Tmp} {R : Ending → World → Prop} {a : Act} (h : fn.results = #[.cell p 24]) (hp : a.tmps[p]?.getD undef = .pointer (some ⟨b, 0, none⟩)) (hn : NB w b v0 v1 v2 v3 v4) (hd : a.defers = [])
    (hR : R (.returned (.agg #[v0, v1, v2, v3, v4])) w) : bodyPost Tryz.prog fn R .ret a w := bodyPost_ret (results_node h hp hn) hd hR
end

theorem Tryz.infoNode : (Tryz.prog.info? 24).map (fun i => (i.zero, i.size, i.bytes)) = some (some (.agg #[.int .i64 0, .string ⟨#[]⟩, .int .i64 0, .int .i64 0, .slice none 0 0]), 5, 64) := by kernel_rfl

/-- Where a growing list writes: its own row, which lies in the rows of the list. -/
theorem LR.rows {w : World} {lo hi : Nat} {ts : List T} {v : Value} (h : LR w (In lo hi) ts v) : ∀ b, v.ownBlock = some b → lo ≤ b ∧ b < hi := by
  obtain ⟨_, _, _, h, _⟩ := h.own
  exact h

theorem flat_one : ∀ (ts : List T) (svs : List Value), svs.length = ts.length → (∀ (i : Nat) (t : T) (sv : Value), ts[i]? = some t → svs[i]? = some sv → ∃ a c, sv = .slice a t.subs.length c) → ∀ u ∈ flatN ts svs, u.oneCell' = true
  | [], [], _, _, u, hu => by cases hu
  | t :: ts, sv :: svs, hl, hs, u, hu => by
    rcases List.mem_append.1 hu with h | h
    · obtain ⟨a, c, rfl⟩ := hs 0 t sv rfl rfl
      simp only [headC, List.mem_cons, List.not_mem_nil, or_false] at h
      rcases h with rfl | rfl | rfl | rfl | rfl <;> rfl
    · exact flat_one ts svs (by simpa using hl) (fun i t' sv' h1 h2 => hs (i + 1) t' sv' (by simpa using h1) (by simpa using h2)) u h

/-- 'append' of a list that is not nil. -/
theorem wpList_appLR {ops : Array Oper} {rest : List Oper} {o : Oper} {a : Act} {w : World} {Q : Exit → Act → World → Prop} (hgd : o.guard = none) (s x : Operand)
    (ho : o.op = .call { callee := .builtin .append, args := #[s, x], argTypes := #[22, 22] })
    {lo hi l2 hi2 g m c : Nat} {ts us : List T} {v : Value} (hs : a.eval s = v) (hx : a.eval x = .slice (some ⟨g, 0, none⟩) m c) (hl : LR w (In lo hi) ts v) (hu : LR w (In l2 hi2) us (.slice (some ⟨g, 0, none⟩) m c))
    (h1 : lo ≤ l2) (h2 : hi ≤ l2) (h3 : l2 ≤ w.heap.size) (h4 : hi2 ≤ w.heap.size) (hlen : ts.length + us.length ≤ 20000)
    (k : ∀ v' w', LR w' (In lo w'.heap.size) (ts ++ us) v' → w.grownBy w' v.ownBlock → wpList Tryz.prog ops Q rest (a.put o.dst v') w') : wpList Tryz.prog ops Q (o :: rest) a w := by
  obtain ⟨i0, hi0, hz0, hz1, hz2⟩ := info_parts Tryz.infoNode
  obtain ⟨svs, hl1, own, hin, hsub⟩ := hl.own
  obtain ⟨uvs, hu1, uown, uin, usub⟩ := hu.own
  have hm : m = us.length := by
    rcases uown.2 with ⟨h0, _⟩ | ⟨_, _, _, h0, _⟩
    · cases h0
    · cases h0; rfl
  subst hm
  refine wpList_append_own_at w hgd s x 22 ho 0 24 i0 _ 5 64 Tryz.underlying22 hi0 hz0 hz1 hz2 rfl (by decide) v ts.length (flatN ts svs) hs own ⟨g, 0, none⟩ us.length c (flatN us uvs) hx
    (flatN_length _ _ hu1) (uown.cells rfl) ?_ (by unfold maxLen; omega) (by omega) (Nat.zero_le _) ?_
  · intro u hu'
    exact flat_one us uvs hu1 (fun i t sv ht hsv => (usub i t sv ht hsv).form) u hu'
  · intro v' w' hown hg _ hat
    refine k v' w' (LR.append hin hl1 hsub hu1 (fun i t sv ht hsv => (usub i t sv ht hsv).mono (fun k hk => hk.1)) h1 h2 h3 h4 hg.size (fun b hb => (hown.lt b hb).2) hown hg rfl hat) hg
section
variable {w w' : World} {S S2 S' : Nat → Prop} {ts us : List T} {v v' : Value} {svs uvs : List Value} {row : Option Nat}
theorem LR.appendS (h : ∀ b, v.ownBlock = some b → S b) (hl : svs.length = ts.length)
    (hs : ∀ (i : Nat) (t : T) (sv : Value), ts[i]? = some t → svs[i]? = some sv → LR w (fun k => S k ∧ v.ownBlock ≠ some k) t.subs sv)
    (hu : uvs.length = us.length) (hus : ∀ (i : Nat) (t : T) (sv : Value), us[i]? = some t → uvs[i]? = some sv → LR w S2 t.subs sv)
    (hd : ∀ k, S2 k → v.ownBlock ≠ some k) (h1 : ∀ k, S k → S' k) (h2 : ∀ k, S2 k → S' k) (h3 : S' w.heap.size)
    (own : w'.ownsRow 0 24 5 v' (ts.length + us.length) (flatN ts svs ++ flatN us uvs)) (hg : w.grownBy w' row) (hrow : row = v.ownBlock)
    (hat : v'.ownBlock = v.ownBlock ∨ v'.ownBlock = some w.heap.size) : LR w' S' (ts ++ us) v' := by
  subst hrow
  have key : ∀ (l : List T) (sv : Value), LR w (fun k => S' k ∧ v.ownBlock ≠ some k) l sv → LR w' (fun k => S' k ∧ v'.ownBlock ≠ some k) l sv := by
    intro l sv hlr
    refine (hlr.bounded.kept hg (fun b hb hs' => hs'.1.2 hb)).mono (fun k hk => ⟨hk.1.1, fun e => ?_⟩)
    rcases hat with hat | hat
    · exact hk.1.2 (hat ▸ e)
    · have h6 := hk.2
      rw [hat] at e
      cases e
      omega
  refine .mk _ _ _ (svs ++ uvs) (by simp [hl, hu]) (by rw [flatN_append _ _ _ _ hl, List.length_append]; exact own) (fun b hb => ?_) (fun i t sv h1' h2' => key _ _ ?_)
  · rcases hat with hat | hat
    · exact h1 b (h b (hat ▸ hb))
    · rw [hat] at hb
      cases hb
      exact h3
  · rcases Nat.lt_or_ge i ts.length with hi' | hi'
    · rw [List.getElem?_append_left hi'] at h1'
      rw [List.getElem?_append_left (by omega)] at h2'
      exact (hs i t sv h1' h2').mono (fun k hk => ⟨h1 k hk.1, hk.2⟩)
    · rw [List.getElem?_append_right hi'] at h1'
      rw [List.getElem?_append_right (by omega), hl] at h2'
      exact (hus _ t sv h1' h2').mono (fun k hk => ⟨h2 k hk, hd k hk⟩)
end

/-- 'append' of a list that is not nil, at a step of a region that draws its order. -/
theorem step_appS {ops : Array Oper} {o : Oper} {a : Act} {w : World} {K : Act → World → Prop} {Q : Exit → Act → World → Prop} {E : Prop} (hgd : o.guard = none) (s x : Operand)
    (ho : o.op = .call { callee := .builtin .append, args := #[s, x], argTypes := #[22, 22] })
    {S S2 : Nat → Prop} (S' : Nat → Prop) {g m c : Nat} {ts us : List T} {v : Value} (hs : a.eval s = v) (hx : a.eval x = .slice (some ⟨g, 0, none⟩) m c) (hl : LR w S ts v) (hu : LR w S2 us (.slice (some ⟨g, 0, none⟩) m c))
    (hd : ∀ k, S2 k → v.ownBlock ≠ some k) (h1 : ∀ k, S k → S' k) (h2 : ∀ k, S2 k → S' k) (h3 : S' w.heap.size) (hlen : ts.length + us.length ≤ 20000)
    (k : ∀ v' w', LR w' S' (ts ++ us) v' → w.grownBy w' v.ownBlock → K (a.put o.dst v') w') :
    if Region.wanted o (yielded ops a.tmps) = true then Oper.wp Tryz.prog o a w K Q else E := by
  have hw : Region.wanted o (yielded ops a.tmps) = true := by simp [Region.wanted, hgd]
  rw [if_pos hw]
  obtain ⟨i0, hi0, hz0, hz1, hz2⟩ := info_parts Tryz.infoNode
  obtain ⟨svs, hl1, own, hin, hsub⟩ := hl.own
  obtain ⟨uvs, hu1, uown, uin, usub⟩ := hu.own
  have hm : m = us.length := by
    rcases uown.2 with ⟨h0, _⟩ | ⟨_, _, _, h0, _⟩
    · cases h0
    · cases h0; rfl
  subst hm
  obtain ⟨v', w', hr, hown, hg, _, hat⟩ := run_append_own_at (P := Tryz.prog) w 0 22 o.type 24 i0 _ 5 64 Tryz.underlying22 hi0 hz0 hz1 hz2 rfl (by decide) v ts.length (flatN ts svs) own ⟨g, 0, none⟩ us.length c (flatN us uvs)
    (flatN_length _ _ hu1) (uown.cells rfl) (fun u hu' => flat_one us uvs hu1 (fun i t sv ht hsv => (usub i t sv ht hsv).form) u hu') (by unfold maxLen; omega) (by omega) (Nat.zero_le _)
  unfold Oper.wp execOp
  simp only [ho, resolve, invoke, builtin, Sem.run_bind, Sem.run_pure, Result.andThen_ok, List.map_toArray, List.map_cons, List.map_nil, hs, hx, hr]
  exact k v' w' (LR.appendS hin hl1 hsub hu1 (fun i t sv ht hsv => (usub i t sv ht hsv).mono (fun k hk => hk.1)) hd h1 h2 h3 hown hg rfl hat) hg

/-- 'append' of nil to a row. -/
theorem step_appNil {ops : Array Oper} {o : Oper} {a : Act} {w : World} {K : Act → World → Prop} {Q : Exit → Act → World → Prop} {E : Prop} (hgd : o.guard = none) (s x : Operand)
    (ho : o.op = .call { callee := .builtin .append, args := #[s, x], argTypes := #[22, 22] })
    {g n c : Nat} (hs : a.eval s = .slice (some ⟨g, 0, none⟩) n c) (hx : a.eval x = .slice none 0 0) (hn : n ≤ c)
    (k : K (a.put o.dst (.slice (some ⟨g, 0, none⟩) n c)) w) :
    if Region.wanted o (yielded ops a.tmps) = true then Oper.wp Tryz.prog o a w K Q else E := by
  have hw : Region.wanted o (yielded ops a.tmps) = true := by simp [Region.wanted, hgd]
  rw [if_pos hw]
  obtain ⟨i0, hi0, hz0, hz1, hz2⟩ := info_parts Tryz.infoNode
  have hr : (Builtin.append_ #[22, 22] o.type #[.slice (some ⟨g, 0, none⟩) n c, .slice none 0 0]).run Tryz.prog w = .ok (.slice (some ⟨g, 0, none⟩) n c) w := by
    simp [Builtin.append_, run_underlying Tryz.underlying22, sizeOf, typeInfo, hi0, Builtin.lenOf, Builtin.firstCells, loadCells, hn]
    rfl
  unfold Oper.wp execOp
  simp only [ho, resolve, invoke, builtin, Sem.run_bind, Sem.run_pure, Result.andThen_ok, List.map_toArray, List.map_cons, List.map_nil, hs, hx, hr]
  exact k
/-- 'append' of a list, nil or not, at a step of a region that draws its order. -/
theorem step_appAny {ops : Array Oper} {o : Oper} {a : Act} {w : World} {K : Act → World → Prop} {Q : Exit → Act → World → Prop} {E : Prop} (hgd : o.guard = none) (s x : Operand)
    (ho : o.op = .call { callee := .builtin .append, args := #[s, x], argTypes := #[22, 22] })
    {S S2 : Nat → Prop} (S' : Nat → Prop) {ts us : List T} {v u : Value} (hs : a.eval s = v) (hx : a.eval x = u) (hl : LR w S ts v) (hu : LR w S2 us u)
    (hd : ∀ k, S2 k → v.ownBlock ≠ some k) (h1 : ∀ k, S k → S' k) (h2 : ∀ k, S2 k → S' k) (h3 : S' w.heap.size) (hlen : ts.length + us.length ≤ 20000)
    (k : ∀ v' w', LR w' S' (ts ++ us) v' → w.grownBy w' v.ownBlock → K (a.put o.dst v') w') :
    if Region.wanted o (yielded ops a.tmps) = true then Oper.wp Tryz.prog o a w K Q else E := by
  obtain ⟨uvs, hu1, uown, uin, usub⟩ := hu.own
  rcases uown.2 with ⟨rfl, h0⟩ | ⟨g, cap, cur, rfl, _⟩
  · have hus : us = [] := List.eq_nil_of_length_eq_zero h0
    subst hus
    have hk := k v w (by rw [List.append_nil]; exact hl.mono h1) (gb_refl _ _)
    have hw : Region.wanted o (yielded ops a.tmps) = true := by simp [Region.wanted, hgd]
    obtain ⟨svs, hl1, own, hin, hsub⟩ := hl.own
    rcases own.2 with ⟨rfl, h00⟩ | ⟨g, cap, cur, rfl, _, _, hnc, _⟩
    · rw [if_pos hw]
      obtain ⟨i0, hi0, hz0, hz1, hz2⟩ := info_parts Tryz.infoNode
      have hr : (Builtin.append_ #[22, 22] o.type #[.slice none 0 0, .slice none 0 0]).run Tryz.prog w = .ok (.slice none 0 0) w := by
        simp [Builtin.append_, run_underlying Tryz.underlying22, sizeOf, typeInfo, hi0, Builtin.lenOf, Builtin.firstCells]
      unfold Oper.wp execOp
      simp only [ho, resolve, invoke, builtin, Sem.run_bind, Sem.run_pure, Result.andThen_ok, List.map_toArray, List.map_cons, List.map_nil, hs, hx, hr]
      exact hk
    · exact step_appNil hgd s x ho hs hx hnc hk
  · exact step_appS hgd s x ho S' hs hx hl hu hd h1 h2 h3 hlen k

end Go.Proofs.YtlkokcnbbihljaaGreatDoor
