/- The program's reader of words: what it holds in memory, and its smallest steps. -/
import Derived.Test.YtbphiiaoncakfaaGreatDoorG03
import Derived.Test.YtbphiiaoncakfaaGreatDoorG02
import Derived.Deep.RegionWith
import Derived.Deep.AppendLies
namespace Go.Proofs.YtbphiiaoncakfaaGreatDoor
open Go.RowKit

/-- Where a reader lies, where its words, its lexicon; the words. -/
structure PC where
  pb : Nat
  tb : Nat
  cap : Nat
  lb : Nat
  L : List Tok

/-- Words as a text has them: the last is empty, and no other. -/
structure GoodL (L : List Tok) : Prop where
  last : ∀ j, j < L.length → (wd L j = [] ↔ j + 1 = L.length)
  short : ∀ j, (wd L j).length ≤ 4000
  few : L.length ≤ 5000
  dig : ∀ j, isDigit (((wd L j).headD 0).toNat : Int) = true → ∀ c ∈ wd L j, isDigit (c.toNat : Int) = true
  low : ∀ j, ((wd L j).headD 0).toNat < 128
  val : ∀ j, wd L j ≠ [] → isDigit (((wd L j).headD 0).toNat : Int) = true → ∃ n, valueFrom 0 (wd L j) = some n

theorem GoodL.next {L : List Tok} (h : GoodL L) {i : Nat} (hi : i < L.length) (hn : wd L i ≠ []) : i + 1 < L.length := by
  rcases Nat.lt_or_ge (i + 1) L.length with h1 | h1
  · exact h1
  · exact absurd ((h.last i hi).2 (by omega)) hn

structure PS (c : PC) (w : World) (i d : Nat) : Prop where
  c0 : w.cell? ⟨c.pb, 0, none⟩ = some (.slice (some ⟨c.tb, 0, none⟩) c.L.length c.cap)
  c1 : w.cell? ⟨c.pb, 1, none⟩ = some (.int .i64 i)
  c2 : w.cell? ⟨c.pb, 2, none⟩ = some (.int .i64 d)
  c3 : w.cell? ⟨c.pb, 3, none⟩ = some (.map (some c.lb))
  z1 : w.frozen? ⟨c.pb, 1, none⟩ = false
  z2 : w.frozen? ⟨c.pb, 2, none⟩ = false
  tk : ∀ j, j < c.L.length → w.cell? ⟨c.tb, j * 2, none⟩ = some (.string ⟨(wd c.L j).toArray⟩) ∧ w.cell? ⟨c.tb, j * 2 + 1, none⟩ = some (.int .i64 (pos c.L j))
  lx : IsLex w c.lb
  n1 : c.tb ≠ c.pb
  n2 : c.lb ≠ c.pb
  il : i < c.L.length
  good : GoodL c.L
  deep : d ≤ 21

theorem block_lt {w : World} {a : Addr} {v : Value} (h : w.cell? a = some v) : a.block < w.heap.size := World.block_lt_of_cell? w a h

theorem PS.lt {c : PC} {w : World} {i d : Nat} (h : PS c w i d) : c.pb < w.heap.size := block_lt h.c0

theorem PS.kept {c : PC} {w w' : World} {i d : Nat} (h : PS c w i d) (hg : w.grownBy w' none) : PS c w' i d where
  c0 := cell_far hg h.c0 (by simp)
  c1 := cell_far hg h.c1 (by simp)
  c2 := cell_far hg h.c2 (by simp)
  c3 := cell_far hg h.c3 (by simp)
  z1 := frozen_far hg h.lt h.z1 (by simp)
  z2 := frozen_far hg h.lt h.z2 (by simp)
  tk := fun j hj => ⟨cell_far hg (h.tk j hj).1 (by simp), cell_far hg (h.tk j hj).2 (by simp)⟩
  lx := World.ownsMap.kept h.lx hg (by simp)
  n1 := h.n1
  n2 := h.n2
  il := h.il
  good := h.good
  deep := h.deep

theorem PS.drewN {c : PC} {w : World} {i d : Nat} (h : PS c w i d) (n : Nat) : PS c (w.drewN n) i d := h.kept (gb_drewN (gb_refl _ _) n)
theorem PS.alloc {c : PC} {w : World} {i d : Nat} (h : PS c w i d) (o : Obj) : PS c (w.alloc o) i d := h.kept (World.grownBy_alloc w o none)

theorem PS.set1 {c : PC} {w : World} {i d : Nat} (h : PS c w i d) (v : Int) (k : Nat) (hv : v = k) (hk : k < c.L.length) : PS c (w.setCell ⟨c.pb, 1, none⟩ (.int .i64 v)) k d where
  c0 := by rw [World.cell?_setCell_other _ _ _ _ (by simp)]; exact h.c0
  c1 := by subst hv; exact World.cell?_setCell_same _ _ _ h.c1
  c2 := by rw [World.cell?_setCell_other _ _ _ _ (by simp)]; exact h.c2
  c3 := by rw [World.cell?_setCell_other _ _ _ _ (by simp)]; exact h.c3
  z1 := by rw [World.frozen?_setCell]; exact h.z1
  z2 := by rw [World.frozen?_setCell]; exact h.z2
  tk := fun j hj => ⟨by rw [World.cell?_setCell_other _ _ _ _ (by intro e; injection e with e; exact h.n1 e.symm)]; exact (h.tk j hj).1, by rw [World.cell?_setCell_other _ _ _ _ (by intro e; injection e with e; exact h.n1 e.symm)]; exact (h.tk j hj).2⟩
  lx := World.ownsMap.setCell h.lx (a := ⟨c.pb, 1, none⟩) (by simp; exact h.n2) _
  n1 := h.n1
  n2 := h.n2
  il := hk
  good := h.good
  deep := h.deep

theorem PS.set2 {c : PC} {w : World} {i d : Nat} (h : PS c w i d) (v : Int) (k : Nat) (hv : v = k) (hk : k ≤ 21) : PS c (w.setCell ⟨c.pb, 2, none⟩ (.int .i64 v)) i k where
  c0 := by rw [World.cell?_setCell_other _ _ _ _ (by simp)]; exact h.c0
  c1 := by rw [World.cell?_setCell_other _ _ _ _ (by simp)]; exact h.c1
  c2 := by subst hv; exact World.cell?_setCell_same _ _ _ h.c2
  c3 := by rw [World.cell?_setCell_other _ _ _ _ (by simp)]; exact h.c3
  z1 := by rw [World.frozen?_setCell]; exact h.z1
  z2 := by rw [World.frozen?_setCell]; exact h.z2
  tk := fun j hj => ⟨by rw [World.cell?_setCell_other _ _ _ _ (by intro e; injection e with e; exact h.n1 e.symm)]; exact (h.tk j hj).1, by rw [World.cell?_setCell_other _ _ _ _ (by intro e; injection e with e; exact h.n1 e.symm)]; exact (h.tk j hj).2⟩
  lx := World.ownsMap.setCell h.lx (a := ⟨c.pb, 2, none⟩) (by simp; exact h.n2) _
  n1 := h.n1
  n2 := h.n2
  il := h.il
  good := h.good
  deep := hk

set_option maxRecDepth 100000 in
set_option maxHeartbeats 400000 in
theorem pword_any (c : PC) (w : World) (i d : Nat) (h : PS c w i d) :
    Calls Tryz.prog 38 #[.pointer (some ⟨c.pb, 0, none⟩)] w fun e w' => e = .returned (.string ⟨(wd c.L i).toArray⟩) ∧ ∃ n, w' = w.drewN n := by
  have c0 := h.c0; have c1 := h.c1; have t0 := (h.tk i h.il).1; have hl := h.il; have hf := h.good.few; clear h
  go_enter Tryz.func38, Tryz.ntmps38
  go_wp2
  go_quiet (fail)
  go_wp2
  go_ret
  exact ⟨rfl, _, rfl⟩

set_option maxRecDepth 100000 in
set_option maxHeartbeats 400000 in
theorem pat_any (c : PC) (w : World) (i d : Nat) (h : PS c w i d) :
    Calls Tryz.prog 84 #[.pointer (some ⟨c.pb, 0, none⟩)] w fun e w' => e = .returned (.int .i64 (pos c.L i)) ∧ ∃ n, w' = w.drewN n := by
  have c0 := h.c0; have c1 := h.c1; have t0 := (h.tk i h.il).2; have hl := h.il; have hf := h.good.few; clear h
  go_enter Tryz.func84, Tryz.ntmps84
  go_wp2
  go_quiet (fail)
  go_wp2
  go_ret
  exact ⟨rfl, _, rfl⟩

theorem bl_gb {w w' : World} (h : Below w.heap.size w w') (row : Option Nat) : w.grownBy w' row := ⟨h.os, h.tape, h.output, h.size, fun i hi _ => h.block i hi⟩

theorem isEmpty_false {l : List UInt8} (h : l ≠ []) : l.isEmpty = false := by cases l <;> simp_all

set_option maxRecDepth 100000 in
set_option maxHeartbeats 400000 in
theorem ptake_any (c : PC) (w : World) (i d : Nat) (h : PS c w i d) (hne : wd c.L i ≠ []) :
    Calls Tryz.prog 87 #[.pointer (some ⟨c.pb, 0, none⟩)] w fun e w' => e = .returned (.string ⟨(wd c.L i).toArray⟩) ∧ w.grownBy w' (some c.pb) ∧ PS c w' (i + 1) d := by
  have hx := isEmpty_false hne; have HP := hide h; have hf := h.good.few; have hl := h.il; have HN := hide (h.good.next h.il hne); clear h hne
  go_enter Tryz.func87, Tryz.ntmps87
  go_wp2_with (go_at_call 38; refine (pword_any c _ i d HP.out).mono ?_; rintro e w1 ⟨rfl, n, rfl⟩; have c1 := (HP.out.drewN n).c1; have z1 := (HP.out.drewN n).z1)
  go_ret
  exact ⟨rfl, gb_set (gb_drewN (gb_refl _ _) _) _ _, (HP.out.drewN n).set1 _ _ (by simp) HN.out⟩

theorem Threw.up {w w1 w' : World} {k n : Int} {e : Ending} {row : Option Nat} (h : Threw w1 k n e w') (hg : w.grownBy w1 row) : Threw w k n e w' := by
  obtain ⟨q, he, hq, h0⟩ := h
  exact ⟨q, he, Nat.le_trans hg.size hq, h0⟩

set_option maxRecDepth 100000 in
set_option maxHeartbeats 400000 in
theorem pthrow_any (c : PC) (w : World) (i d : Nat) (n : Int) (h : PS c w i d) :
    Calls Tryz.prog 62 #[.pointer (some ⟨c.pb, 0, none⟩), .int .i64 n] w fun e w' => Threw w (pos c.L i) n e w' ∧ w.grownBy w' none := by
  have HP := hide h; clear h
  go_enter Tryz.func62, Tryz.ntmps62
  go_wp2_with (go_at_call 84; refine (pat_any c _ i d HP.out).mono ?_; rintro e w1 ⟨rfl, m, rfl⟩)
  exact ⟨rfl, threw_new (Nat.le_refl _), gb_alloc (gb_drewN (gb_refl _ _) _) _⟩

set_option maxRecDepth 100000 in
set_option maxHeartbeats 400000 in
theorem prefuse_any (c : PC) (w : World) (i d : Nat) (h : PS c w i d) :
    Calls Tryz.prog 39 #[.pointer (some ⟨c.pb, 0, none⟩)] w fun e w' => Threw w (refuseAt c.L i).2 (refuseAt c.L i).1 e w' ∧ w.grownBy w' none := by
  have HP := hide h; clear h
  by_cases hx : wd c.L i = []
  · have hxe : (wd c.L i).isEmpty = true := by rw [hx]; rfl
    have HR : Hid (refuseAt c.L i = (2, pos c.L i)) := by unfold refuseAt; rw [if_pos hx]; exact rfl
    clear hx
    go_enter Tryz.func39, Tryz.ntmps39
    go_wp2_with (first
      | (go_at_call 38; refine (pword_any c _ i d HP.out).mono ?_; rintro e w1 ⟨rfl, n, rfl⟩)
      | (go_at_call 62; refine (pthrow_any c _ i d 2 (HP.out.drewN n)).mono ?_; rintro e w2 ⟨ht, hg⟩; have HT := hide ht; obtain ⟨q, rfl, -⟩ := ht))
    rw [HR.out]
    exact ⟨rfl, HT.out.up (gb_drewN (gb_refl w none) _), gb_trans (gb_drewN (gb_refl _ _) _) hg⟩
  · have hxe := isEmpty_false hx
    have HR : Hid (refuseAt c.L i = (4, pos c.L i)) := by unfold refuseAt; rw [if_neg hx]; exact rfl
    clear hx
    go_enter Tryz.func39, Tryz.ntmps39
    go_wp2_with (first
      | (go_at_call 38; refine (pword_any c _ i d HP.out).mono ?_; rintro e w1 ⟨rfl, n, rfl⟩)
      | (go_at_call 62; refine (pthrow_any c _ i d 4 (HP.out.drewN n)).mono ?_; rintro e w2 ⟨ht, hg⟩; have HT := hide ht; obtain ⟨q, rfl, -⟩ := ht))
    rw [HR.out]
    exact ⟨rfl, HT.out.up (gb_drewN (gb_refl w none) _), gb_trans (gb_drewN (gb_refl _ _) _) hg⟩

/-- A step that throws, or answers and goes on. -/
def Steps {α : Type} (c : PC) (w : World) (i d : Nat) (enc : World → α → Value → Prop) (r : Except (Int × Int) (α × Nat)) (e : Ending) (w' : World) : Prop :=
  (∃ x, r = .error x ∧ Threw w x.2 x.1 e w' ∧ w.grownBy w' (some c.pb)) ∨ (∃ a j v, r = .ok (a, j) ∧ e = .returned v ∧ enc w' a v ∧ w.grownBy w' (some c.pb) ∧ PS c w' j d ∧ i ≤ j)

section
variable {α : Type} {c : PC} {w w1 w' : World} {i d j : Nat} {enc : World → α → Value → Prop} {r : Except (Int × Int) (α × Nat)} {e : Ending}
theorem Steps.err {x : Int × Int} (h : r = .error x) (ht : Threw w1 x.2 x.1 e w') (hg : w.grownBy w1 (some c.pb)) (hg' : w1.grownBy w' (some c.pb)) : Steps c w i d enc r e w' :=
  .inl ⟨x, h, ht.up hg, gb_trans hg hg'⟩
theorem Steps.ok {a : α} {v : Value} (h : r = .ok (a, j)) (he : enc w' a v) (hg : w.grownBy w' (some c.pb)) (hp : PS c w' j d) (hi : i ≤ j) : Steps c w i d enc r (.returned v) w' :=
  .inr ⟨a, j, v, h, rfl, he, hg, hp, hi⟩
/-- One way alone, where it is known what comes out. -/
theorem Steps.getErr (h : Steps c w i d enc r e w') {x : Int × Int} (hr : r = .error x) : Threw w x.2 x.1 e w' ∧ w.grownBy w' (some c.pb) := by
  rcases h with ⟨y, hy, ht, hg⟩ | ⟨a, j, v, hy, _⟩
  · rw [hr] at hy; cases hy; exact ⟨ht, hg⟩
  · rw [hr] at hy; cases hy
theorem Steps.getOk (h : Steps c w i d enc r e w') {a : α} (hr : r = .ok (a, j)) : ∃ v, e = .returned v ∧ enc w' a v ∧ w.grownBy w' (some c.pb) ∧ PS c w' j d ∧ i ≤ j := by
  rcases h with ⟨y, hy, _⟩ | ⟨a, j, v, hy, he, h1, h2, h3, h4⟩
  · rw [hr] at hy; cases hy
  · rw [hr] at hy; cases hy; exact ⟨v, he, h1, h2, h3, h4⟩
end

set_option maxRecDepth 100000 in
set_option maxHeartbeats 400000 in
theorem phas_any (c : PC) (w : World) (i d : Nat) (x : List UInt8) (sb : ByteArray) (hsb : sb.data.toList = x) (hx : x ≠ []) (h : PS c w i d) :
    Calls Tryz.prog 85 #[.pointer (some ⟨c.pb, 0, none⟩), .string sb] w fun e w' => ∃ b j, hasP c.L x i = .ok (b, j) ∧ e = .returned (.bool b) ∧ w.grownBy w' (some c.pb) ∧ PS c w' j d ∧ i ≤ j := by
  have HP := hide h; clear h
  obtain rfl : sb = ⟨x.toArray⟩ := by subst hsb; simp
  by_cases hq : wd c.L i = x
  · have hb : (wd c.L i == x) = true := by rw [hq]; simp
    have HR : Hid (hasP c.L x i = .ok (true, i + 1)) := by unfold hasP; rw [if_pos hq]; exact rfl
    have HN : Hid (wd c.L i ≠ []) := by show _ ≠ _; rw [hq]; exact hx
    clear hq hx
    go_enter Tryz.func85, Tryz.ntmps85
    go_wp2_with (first
      | (go_at_call 38; refine (pword_any c _ i d HP.out).mono ?_; rintro e w1 ⟨rfl, n, rfl⟩)
      | (go_at_call 87; refine (ptake_any c _ i d (HP.out.drewN n) HN.out).mono ?_; rintro e w2 ⟨rfl, hg, hp⟩))
    go_ret
    exact ⟨true, i + 1, HR.out, rfl, gb_trans (gb_drewN (gb_refl _ _) _) hg, hp, by omega⟩
  · have hb : (wd c.L i == x) = false := by simpa using hq
    have HR : Hid (hasP c.L x i = .ok (false, i)) := by unfold hasP; rw [if_neg hq]; exact rfl
    clear hq hx
    go_enter Tryz.func85, Tryz.ntmps85
    go_wp2_with (first
      | (go_at_call 38; refine (pword_any c _ i d HP.out).mono ?_; rintro e w1 ⟨rfl, n, rfl⟩))
    go_ret
    exact ⟨false, i, HR.out, rfl, gb_drewN (gb_refl _ _) _, HP.out.drewN n, Nat.le_refl _⟩

set_option maxRecDepth 100000 in
set_option maxHeartbeats 400000 in
theorem pwant_any (c : PC) (w : World) (i d : Nat) (x : List UInt8) (sb : ByteArray) (hsb : sb.data.toList = x) (hx : x ≠ []) (h : PS c w i d) :
    Calls Tryz.prog 52 #[.pointer (some ⟨c.pb, 0, none⟩), .string sb] w (Steps c w i d (fun _ _ _ => True) (wantP c.L x i)) := by
  have HP := hide h; clear h
  by_cases hq : wd c.L i = x
  · have HR : Hid (wantP c.L x i = .ok ((), i + 1)) := by unfold wantP; rw [if_pos hq]; exact rfl
    have HH : Hid (hasP c.L x i = .ok (true, i + 1)) := by unfold hasP; rw [if_pos hq]; exact rfl
    clear hq
    go_enter Tryz.func52, Tryz.ntmps52
    go_wp2_with (first
      | (go_at_call 85; refine (phas_any c _ i d x _ hsb hx HP.out).mono ?_; rintro e w1 ⟨b, j, hh, rfl, hg, hp, hij⟩; rw [HH.out] at hh; cases hh))
    refine bodyPost_end (results_none rfl _ _ _) rfl ?_
    exact Steps.ok HR.out trivial hg hp (by omega)
  · have HR : Hid (wantP c.L x i = .error (refuseAt c.L i)) := by unfold wantP; rw [if_neg hq]; exact rfl
    have HH : Hid (hasP c.L x i = .ok (false, i)) := by unfold hasP; rw [if_neg hq]; exact rfl
    clear hq
    go_enter Tryz.func52, Tryz.ntmps52
    go_wp2_with (first
      | (go_at_call 85; refine (phas_any c _ i d x _ hsb hx HP.out).mono ?_; rintro e w1 ⟨b, j, hh, rfl, hg, hp, hij⟩; rw [HH.out] at hh; cases hh)
      | (go_at_call 39; refine (prefuse_any c _ i d hp).mono ?_; rintro e w2 ⟨ht, hg2⟩; have HT := hide ht; obtain ⟨q, rfl, -⟩ := ht))
    exact ⟨rfl, Steps.err HR.out HT.out hg (gb_some hg2 _)⟩

set_option maxRecDepth 100000 in
set_option maxHeartbeats 400000 in
theorem pnameIsNext_any (c : PC) (w : World) (i d : Nat) (h : PS c w i d) :
    Calls Tryz.prog 86 #[.pointer (some ⟨c.pb, 0, none⟩)] w fun e w' => e = .returned (.bool (nameB (wd c.L i))) ∧ w.grownBy w' none := by
  have HP := hide h; have c3 := h.c3; have hs := h.good.short i; clear h
  go_enter Tryz.func86, Tryz.ntmps86
  go_wp2
  go_region_with (first
    | (go_at_call 38; refine (pword_any c _ i d (HP.out.drewN _)).mono ?_; rintro e w1 ⟨rfl, n, rfl⟩)
    | (go_at_call 108; refine (lexName_any c.lb ⟨(wd c.L i).toArray⟩ _ (by unfold maxLen; simp [ByteArray.size]; omega) (HP.out.drewN _).lx).mono ?_; rintro e w2 ⟨rfl, hb⟩))
  all_goals
    go_wp2
    go_ret
    exact ⟨rfl, gb_trans (gb_drewN (gb_refl _ _) _) (bl_gb hb none)⟩

set_option maxRecDepth 100000 in
set_option maxHeartbeats 400000 in
theorem pname_any (c : PC) (w : World) (i d : Nat) (h : PS c w i d) :
    Calls Tryz.prog 53 #[.pointer (some ⟨c.pb, 0, none⟩)] w (Steps c w i d (fun _ s v => v = .string ⟨s.toArray⟩ ∧ s ≠ [] ∧ s.length ≤ 4000) (nameP c.L i)) := by
  have HP := hide h; clear h; cases hq : nameB (wd c.L i)
  · have HR : Hid (nameP c.L i = .error (refuseAt c.L i)) := by unfold nameP; rw [hq]; exact rfl
    go_enter Tryz.func53, Tryz.ntmps53
    go_wp2_with (first
      | (go_at_call 86; refine (pnameIsNext_any c _ i d HP.out).mono ?_; rintro e w1 ⟨rfl, hg⟩; simp only [hq])
      | (go_at_call 39; refine (prefuse_any c _ i d (HP.out.kept hg)).mono ?_; rintro e w2 ⟨ht, hg2⟩; have HT := hide ht; obtain ⟨q, rfl, -⟩ := ht))
    exact ⟨rfl, Steps.err HR.out HT.out (gb_some hg _) (gb_some hg2 _)⟩
  · have HR : Hid (nameP c.L i = .ok (wd c.L i, i + 1)) := by unfold nameP; rw [hq]; exact rfl
    have HE : Hid (wd c.L i ≠ []) := by
      show _ ≠ _
      intro e; rw [e] at hq
      revert hq
      decide
    go_enter Tryz.func53, Tryz.ntmps53
    go_wp2_with (first
      | (go_at_call 86; refine (pnameIsNext_any c _ i d HP.out).mono ?_; rintro e w1 ⟨rfl, hg⟩; simp only [hq])
      | (go_at_call 87; refine (ptake_any c _ i d (HP.out.kept hg) HE.out).mono ?_; rintro e w2 ⟨rfl, hg2, hp⟩))
    go_ret
    exact Steps.ok HR.out ⟨rfl, HE.out, hp.good.short i⟩ (gb_trans (gb_some hg _) hg2) hp (by omega)
end Go.Proofs.YtbphiiaoncakfaaGreatDoor

/- Trees in memory: a list of nodes owns a row, five cells a node; what is below a node lies in other rows than the list's own. -/
namespace Go.Proofs.YtbphiiaoncakfaaGreatDoor
open Go.RowKit

def T.kind : T → Int
  | .mk k _ _ _ _ => k
def T.name : T → List UInt8
  | .mk _ s _ _ _ => s
def T.num : T → Int
  | .mk _ _ n _ _ => n
def T.subs : T → List T
  | .mk _ _ _ _ l => l

def headC (t : T) (sv : Value) : List Value := [.int .i64 t.kind, .string ⟨t.name.toArray⟩, .int .i64 t.num, .int .i64 t.at', sv]
def flatN : List T → List Value → List Value
  | t :: ts, sv :: svs => headC t sv ++ flatN ts svs
  | _, _ => []

theorem flatN_length : ∀ (ts : List T) (svs : List Value), svs.length = ts.length → (flatN ts svs).length = ts.length * 5
  | [], [], _ => rfl
  | t :: ts, sv :: svs, h => by
    have ih := flatN_length ts svs (by simpa using h); simp only [flatN, List.length_append, ih, headC, List.length_cons, List.length_nil]
    omega
theorem flatN_append : ∀ (ts : List T) (svs : List Value) (us : List T) (uvs : List Value), svs.length = ts.length → flatN (ts ++ us) (svs ++ uvs) = flatN ts svs ++ flatN us uvs
  | [], [], _, _, _ => rfl
  | t :: ts, sv :: svs, us, uvs, h => by
    have ih := flatN_append ts svs us uvs (by simpa using h); simp only [flatN, List.cons_append, ih, List.append_assoc]

/-- A list of trees in memory, all of it in rows of S. -/
inductive LR (w : World) : (Nat → Prop) → List T → Value → Prop
  | mk (S : Nat → Prop) (ts : List T) (v : Value) (svs : List Value) (hl : svs.length = ts.length) (own : w.ownsRow 0 25 5 v ts.length (flatN ts svs))
      (inS : ∀ b, v.ownBlock = some b → S b)
      (sub : ∀ (i : Nat) (t : T) (sv : Value), ts[i]? = some t → svs[i]? = some sv → LR w (fun k => S k ∧ v.ownBlock ≠ some k) t.subs sv) : LR w S ts v

/-- Rows from lo on, and below hi. -/
def In (lo hi : Nat) : Nat → Prop := fun k => lo ≤ k ∧ k < hi

theorem LR.nil (w : World) (S : Nat → Prop) : LR w S [] (.slice none 0 0) :=
  .mk S [] _ [] rfl (World.ownsRow_nil _ _ _ _) (by intro b hb; cases hb) (by intro i t sv h; simp at h)

theorem LR.kept {w w' : World} {S : Nat → Prop} {ts : List T} {v : Value} {row : Option Nat} (h : LR w S ts v) (hg : w.grownBy w' row) (hr : ∀ b, row = some b → ¬ S b) : LR w' S ts v := by
  induction h with
  | mk S ts v svs hl own inS sub ih =>
    refine .mk S ts v svs hl (own.kept hg ?_) inS (fun i t sv h1 h2 => ih i t sv h1 h2 (fun b hb hs => hr b hb hs.1)); cases hv : v.ownBlock with
    | none => exact .inl rfl
    | some b => exact .inr (fun e => hr b e.symm (inS b hv))

theorem LR.mono {w : World} {S S' : Nat → Prop} {ts : List T} {v : Value} (h : LR w S ts v) (hs : ∀ k, S k → S' k) : LR w S' ts v := by
  induction h generalizing S' with
  | mk S ts v svs hl own inS sub ih =>
    exact .mk S' ts v svs hl own (fun b hb => hs b (inS b hb)) (fun i t sv h1 h2 => ih i t sv h1 h2 (fun k hk => ⟨hs k hk.1, hk.2⟩))

theorem LR.bounded {w : World} {S : Nat → Prop} {ts : List T} {v : Value} (h : LR w S ts v) : LR w (fun k => S k ∧ k < w.heap.size) ts v := by
  induction h with
  | mk S ts v svs hl own inS sub ih =>
    exact .mk _ ts v svs hl own (fun b hb => ⟨inS b hb, (own.lt b hb).2⟩) (fun i t sv h1 h2 => (ih i t sv h1 h2).mono (fun k hk => ⟨⟨hk.1.1, hk.2⟩, hk.1.2⟩))

theorem LR.own {w : World} {S : Nat → Prop} {ts : List T} {v : Value} (h : LR w S ts v) : ∃ svs, svs.length = ts.length ∧ w.ownsRow 0 25 5 v ts.length (flatN ts svs) ∧ (∀ b, v.ownBlock = some b → S b) ∧
    ∀ (i : Nat) (t : T) (sv : Value), ts[i]? = some t → svs[i]? = some sv → LR w (fun k => S k ∧ v.ownBlock ≠ some k) t.subs sv := by
  cases h with
  | mk _ _ _ svs hl own inS sub => exact ⟨svs, hl, own, inS, sub⟩

theorem LR.form {w : World} {S : Nat → Prop} {ts : List T} {v : Value} (h : LR w S ts v) : ∃ a c, v = .slice a ts.length c := by
  obtain ⟨svs, _, own, _⟩ := h.own
  rcases own.2 with ⟨rfl, h0⟩ | ⟨g, cap, cur, rfl, _⟩
  · exact ⟨none, 0, by rw [h0]⟩
  · exact ⟨_, _, rfl⟩

/-- A tree in memory, in rows from lo on and below hi. -/
def TR (w : World) (lo hi : Nat) (t : T) (v : Value) : Prop := ∃ sv, v = .agg #[.int .i64 t.kind, .string ⟨t.name.toArray⟩, .int .i64 t.num, .int .i64 t.at', sv] ∧ LR w (In lo hi) t.subs sv

section
variable {w w' : World} {lo hi lo' hi' b n : Nat} {t : T} {ts : List T} {v : Value}
theorem LR.call (h : LR w (In lo hi) ts v) (hg : w.grownBy w' (some b)) (hb : b < lo ∨ hi ≤ b) : LR w' (In lo hi) ts v :=
  h.kept hg (fun k hk hs => by cases hk; have h1 : lo ≤ b := hs.1; have h2 : b < hi := hs.2; omega)
theorem LR.put (h : LR w (In lo hi) ts v) (hb : b < lo ∨ hi ≤ b) (o : Nat) (u : Value) : LR (w.setCell ⟨b, o, none⟩ u) (In lo hi) ts v := h.call (gb_set (gb_refl w (some b)) o u) hb
theorem LR.alloc (h : LR w (In lo hi) ts v) (o : Obj) : LR (w.alloc o) (In lo hi) ts v := h.kept (World.grownBy_alloc w o none) (fun _ hk => by cases hk)
theorem LR.drewN (h : LR w (In lo hi) ts v) (n : Nat) : LR (w.drewN n) (In lo hi) ts v := h.kept (gb_drewN (gb_refl w none) n) (fun _ hk => by cases hk)
theorem LR.grown (h : LR w (In lo hi) ts v) (hg : w.grownBy w' none) : LR w' (In lo hi) ts v := h.kept hg (fun _ hk => by cases hk)
theorem LR.wide (h : LR w (In lo hi) ts v) (h1 : lo' ≤ lo) (h2 : hi ≤ hi') : LR w (In lo' hi') ts v := h.mono (fun k hk => by have h3 : lo ≤ k := hk.1; have h4 : k < hi := hk.2; exact ⟨by omega, by omega⟩)
theorem TR.call (h : TR w lo hi t v) (hg : w.grownBy w' (some b)) (hb : b < lo ∨ hi ≤ b) : TR w' lo hi t v := by
  obtain ⟨sv, rfl, h⟩ := h
  exact ⟨sv, rfl, h.call hg hb⟩
theorem TR.put (h : TR w lo hi t v) (hb : b < lo ∨ hi ≤ b) (o : Nat) (u : Value) : TR (w.setCell ⟨b, o, none⟩ u) lo hi t v := h.call (gb_set (gb_refl w (some b)) o u) hb
theorem TR.grown (h : TR w lo hi t v) (hg : w.grownBy w' none) : TR w' lo hi t v := by
  obtain ⟨sv, rfl, h⟩ := h
  exact ⟨sv, rfl, h.grown hg⟩
theorem TR.alloc (h : TR w lo hi t v) (o : Obj) : TR (w.alloc o) lo hi t v := h.grown (World.grownBy_alloc w o none)
theorem TR.drewN (h : TR w lo hi t v) (n : Nat) : TR (w.drewN n) lo hi t v := h.grown (gb_drewN (gb_refl w none) n)
theorem TR.wide (h : TR w lo hi t v) (h1 : lo' ≤ lo) (h2 : hi ≤ hi') : TR w lo' hi' t v := by
  obtain ⟨sv, rfl, h⟩ := h
  exact ⟨sv, rfl, h.wide h1 h2⟩

/-- A new row of nodes. -/
theorem LR.build (w : World) {cs : Array Value} {svs : List Value} {g n : Nat} (hg : g = w.heap.size) (hn : n = ts.length) (hc : cs.toList = flatN ts svs) (hl : svs.length = ts.length) (hlen : ts.length ≤ 5000) (hlo : lo ≤ g)
    (hs : ∀ (i : Nat) (t : T) (sv : Value), ts[i]? = some t → svs[i]? = some sv → LR w (In lo g) t.subs sv) : LR (w.alloc (.cells cs 25)) (In lo (g + 1)) ts (.slice (some ⟨g, 0, none⟩) n n) := by
  subst hg hn
  have hsz : cs.size = ts.length * 5 := by rw [← Array.length_toList, hc, flatN_length _ _ hl]
  refine .mk _ _ _ svs hl ⟨flatN_length _ _ hl, .inr ⟨w.heap.size, ts.length, cs, rfl, Nat.zero_le _, heap_alloc_new w _, Nat.le_refl _, by unfold maxLen; omega, hsz, ?_⟩⟩ (fun b hb => ?_) (fun i t sv h1 h2 => ?_)
  · rw [hc, ← flatN_length _ _ hl, List.take_length]
  · cases hb
    exact ⟨hlo, Nat.lt_succ_self _⟩
  · refine ((hs i t sv h1 h2).alloc _).mono (fun k hk => ⟨⟨hk.1, Nat.lt_succ_of_lt hk.2⟩, fun e => ?_⟩)
    have h3 : k < w.heap.size := hk.2
    simp [Value.ownBlock] at e
    omega
theorem LR.build1 (w : World) {t : T} {sv : Value} {g : Nat} {cs : Array Value} (h : LR w (In lo g) t.subs sv) (hg : g = w.heap.size) (hc : cs.toList = headC t sv) (hlo : lo ≤ g) :
    LR (w.alloc (.cells cs 25)) (In lo (g + 1)) [t] (.slice (some ⟨g, 0, none⟩) 1 1) :=
  LR.build w (svs := [sv]) hg rfl hc rfl (by simp) hlo (fun i t' sv' h1 h2 => by
    match i, h1, h2 with
    | 0, h1, h2 => cases h1; cases h2; exact h)
theorem LR.build2 (w : World) {t t2 : T} {sv sv2 : Value} {g : Nat} {cs : Array Value} (h : LR w (In lo g) t.subs sv) (h2 : LR w (In lo g) t2.subs sv2) (hg : g = w.heap.size) (hc : cs.toList = headC t sv ++ headC t2 sv2) (hlo : lo ≤ g) :
    LR (w.alloc (.cells cs 25)) (In lo (g + 1)) [t, t2] (.slice (some ⟨g, 0, none⟩) 2 2) :=
  LR.build w (svs := [sv, sv2]) hg rfl hc rfl (by simp) hlo (fun i t' sv' h3 h4 => by
    match i, h3, h4 with
    | 0, h3, h4 => cases h3; cases h4; exact h
    | 1, h3, h4 => cases h3; cases h4; exact h2)

/-- One list behind another one, in the first one's row or in a new one. -/
theorem LR.append {us : List T} {v' : Value} {svs uvs : List Value} {row : Option Nat} {l2 : Nat}
    (h : ∀ b, v.ownBlock = some b → In lo hi b) (hl : svs.length = ts.length)
    (hs : ∀ (i : Nat) (t : T) (sv : Value), ts[i]? = some t → svs[i]? = some sv → LR w (fun k => In lo hi k ∧ v.ownBlock ≠ some k) t.subs sv)
    (hu : uvs.length = us.length) (hus : ∀ (i : Nat) (t : T) (sv : Value), us[i]? = some t → uvs[i]? = some sv → LR w (In l2 hi') t.subs sv)
    (h2 : lo ≤ l2) (h3 : hi ≤ l2) (h5 : l2 ≤ w.heap.size) (h4 : hi' ≤ w.heap.size) (hw : w.heap.size ≤ n) (hw2 : ∀ b, v'.ownBlock = some b → b < n)
    (own : w'.ownsRow 0 25 5 v' (ts.length + us.length) (flatN ts svs ++ flatN us uvs)) (hg : w.grownBy w' row) (hrow : row = v.ownBlock)
    (hat : v'.ownBlock = v.ownBlock ∨ v'.ownBlock = some w.heap.size) : LR w' (In lo n) (ts ++ us) v' := by
  subst hrow
  have key : ∀ (l : List T) (sv : Value), LR w (fun k => In lo w.heap.size k ∧ v.ownBlock ≠ some k) l sv → LR w' (fun k => In lo n k ∧ v'.ownBlock ≠ some k) l sv := by
    intro l sv hlr; refine (hlr.kept hg (fun b hb hs' => hs'.2 hb)).mono (fun k hk => ⟨⟨hk.1.1, Nat.lt_of_lt_of_le hk.1.2 hw⟩, fun e => ?_⟩)
    rcases hat with hat | hat
    · exact hk.2 (hat ▸ e)
    · have h6 : k < w.heap.size := hk.1.2
      rw [hat] at e; cases e
      omega
  refine .mk _ _ _ (svs ++ uvs) (by simp [hl, hu]) (by rw [flatN_append _ _ _ _ hl, List.length_append]; exact own) (fun b hb => ?_) (fun i t sv h1 h2' => key _ _ ?_)
  · rcases hat with hat | hat
    · have h6 := h b (hat ▸ hb)
      exact ⟨h6.1, hw2 b hb⟩
    · have h6 := hw2 b hb
      rw [hat] at hb; cases hb
      exact ⟨by omega, h6⟩
  · rcases Nat.lt_or_ge i ts.length with hi' | hi'
    · rw [List.getElem?_append_left hi'] at h1
      rw [List.getElem?_append_left (by omega)] at h2'
      exact (hs i t sv h1 h2').mono (fun k hk => ⟨⟨hk.1.1, by have h7 : k < hi := hk.1.2; omega⟩, hk.2⟩)
    · rw [List.getElem?_append_right hi'] at h1
      rw [List.getElem?_append_right (by omega), hl] at h2'; refine (hus _ t sv h1 h2').mono (fun k hk => ⟨⟨Nat.le_trans h2 hk.1, Nat.lt_of_lt_of_le hk.2 h4⟩, fun e => ?_⟩); have h6 := (h k e).2; have h7 : l2 ≤ k := hk.1
      omega
end

/-! ### Blocks of one node: a variable, a result -/
theorem gb_put {a w : World} {row : Option Nat} {b : Nat} (h : a.grownBy w row) (hb : a.heap.size ≤ b) (o : Nat) (v : Value) : a.grownBy (w.setCell ⟨b, o, none⟩ v) row :=
  ⟨h.os, h.tape, h.output, by simpa [World.setCell] using h.size, fun k hk hne => (Below.heap_setCell _ _ _ _ (by simp; omega)).trans (h.block k hk hne)⟩
def put5 (w : World) (b : Nat) (v0 v1 v2 v3 v4 : Value) : World := ((((w.setCell ⟨b, 0, none⟩ v0).setCell ⟨b, 1, none⟩ v1).setCell ⟨b, 2, none⟩ v2).setCell ⟨b, 3, none⟩ v3).setCell ⟨b, 4, none⟩ v4
theorem gb_put5 {a w : World} {row : Option Nat} {b : Nat} (h : a.grownBy w row) (hb : a.heap.size ≤ b) (v0 v1 v2 v3 v4 : Value) : a.grownBy (put5 w b v0 v1 v2 v3 v4) row :=
  gb_put (gb_put (gb_put (gb_put (gb_put h hb _ _) hb _ _) hb _ _) hb _ _) hb _ _

/-- What the reader has lies below this block. -/
structure Low (c : PC) (n : Nat) : Prop where
  pb : c.pb < n
  tb : c.tb < n
  lb : c.lb < n
theorem Low.up {c : PC} {n m : Nat} (h : Low c n) (hm : n ≤ m) : Low c m := ⟨Nat.lt_of_lt_of_le h.pb hm, Nat.lt_of_lt_of_le h.tb hm, Nat.lt_of_lt_of_le h.lb hm⟩
theorem PS.low {c : PC} {w : World} {i d : Nat} (h : PS c w i d) : Low c w.heap.size :=
  ⟨h.lt, block_lt (h.tk 0 (Nat.lt_of_le_of_lt (Nat.zero_le _) h.il)).1, World.ownsMap.lt h.lx⟩
theorem PS.put {c : PC} {w : World} {i d n b : Nat} (h : PS c w i d) (hl : Low c n) (hb : n ≤ b) (o : Nat) (v : Value) : PS c (w.setCell ⟨b, o, none⟩ v) i d where
  c0 := by rw [World.cell?_setCell_other _ _ _ _ (by intro e; injection e with e; have := hl.pb; omega)]; exact h.c0
  c1 := by rw [World.cell?_setCell_other _ _ _ _ (by intro e; injection e with e; have := hl.pb; omega)]; exact h.c1
  c2 := by rw [World.cell?_setCell_other _ _ _ _ (by intro e; injection e with e; have := hl.pb; omega)]; exact h.c2
  c3 := by rw [World.cell?_setCell_other _ _ _ _ (by intro e; injection e with e; have := hl.pb; omega)]; exact h.c3
  z1 := by rw [World.frozen?_setCell]; exact h.z1
  z2 := by rw [World.frozen?_setCell]; exact h.z2
  tk := fun j hj => ⟨by rw [World.cell?_setCell_other _ _ _ _ (by intro e; injection e with e; have := hl.tb; omega)]; exact (h.tk j hj).1, by rw [World.cell?_setCell_other _ _ _ _ (by intro e; injection e with e; have := hl.tb; omega)]; exact (h.tk j hj).2⟩
  lx := World.ownsMap.setCell h.lx (a := ⟨b, o, none⟩) (by have := hl.lb; simp; omega) _
  n1 := h.n1
  n2 := h.n2
  il := h.il
  good := h.good
  deep := h.deep
theorem PS.put5 {c : PC} {w : World} {i d n b : Nat} (h : PS c w i d) (hl : Low c n) (hb : n ≤ b) (v0 v1 v2 v3 v4 : Value) : PS c (put5 w b v0 v1 v2 v3 v4) i d :=
  ((((h.put hl hb _ _).put hl hb _ _).put hl hb _ _).put hl hb _ _).put hl hb _ _

/-- A block that holds one node. -/
structure NB (w : World) (b : Nat) (v0 v1 v2 v3 v4 : Value) : Prop where
  c0 : w.cell? ⟨b, 0, none⟩ = some v0
  c1 : w.cell? ⟨b, 1, none⟩ = some v1
  c2 : w.cell? ⟨b, 2, none⟩ = some v2
  c3 : w.cell? ⟨b, 3, none⟩ = some v3
  c4 : w.cell? ⟨b, 4, none⟩ = some v4
  z : ∀ o, w.frozen? ⟨b, o, none⟩ = false
section
variable {w w' : World} {b b' : Nat} {v0 v1 v2 v3 v4 u0 u1 u2 u3 u4 : Value}
theorem NB.lt (h : NB w b v0 v1 v2 v3 v4) : b < w.heap.size := block_lt h.c0
theorem NB.kept {row : Option Nat} (h : NB w b v0 v1 v2 v3 v4) (hg : w.grownBy w' row) (hr : some b ≠ row) : NB w' b v0 v1 v2 v3 v4 :=
  ⟨cell_far hg h.c0 hr, cell_far hg h.c1 hr, cell_far hg h.c2 hr, cell_far hg h.c3 hr, cell_far hg h.c4 hr, fun o => frozen_far hg h.lt (h.z o) hr⟩
theorem NB.new (w : World) (t : TypeId) : NB (w.alloc (.cells #[v0, v1, v2, v3, v4] t)) w.heap.size v0 v1 v2 v3 v4 :=
  ⟨by rw [World.cell?_alloc_at _ _ _ _ rfl]; rfl, by rw [World.cell?_alloc_at _ _ _ _ rfl]; rfl, by rw [World.cell?_alloc_at _ _ _ _ rfl]; rfl, by rw [World.cell?_alloc_at _ _ _ _ rfl]; rfl, by rw [World.cell?_alloc_at _ _ _ _ rfl]; rfl, fun o => World.frozen?_alloc_at _ _ _ _ rfl⟩
theorem NB.new' {b : Nat} {t : TypeId} (hb : b = w.heap.size) : NB (w.alloc (.cells #[v0, v1, v2, v3, v4] t)) b v0 v1 v2 v3 v4 := by
  subst hb
  exact NB.new w t
theorem NB.alloc (h : NB w b v0 v1 v2 v3 v4) (o : Obj) : NB (w.alloc o) b v0 v1 v2 v3 v4 := h.kept (World.grownBy_alloc w o none) (by simp)
theorem NB.drewN (h : NB w b v0 v1 v2 v3 v4) (n : Nat) : NB (w.drewN n) b v0 v1 v2 v3 v4 := h.kept (gb_drewN (gb_refl w none) n) (by simp)
theorem NB.far (h : NB w b v0 v1 v2 v3 v4) (hb : b' ≠ b) (o : Nat) (v : Value) : NB (w.setCell ⟨b', o, none⟩ v) b v0 v1 v2 v3 v4 := h.kept (gb_set (gb_refl w (some b')) o v) (by simp; omega)
theorem NB.far5 (h : NB w b v0 v1 v2 v3 v4) (hb : b' ≠ b) : NB (put5 w b' u0 u1 u2 u3 u4) b v0 v1 v2 v3 v4 := ((((h.far hb _ _).far hb _ _).far hb _ _).far hb _ _).far hb _ _
theorem NB.put (h : NB w b v0 v1 v2 v3 v4) (o : Nat) (v : Value) : NB (w.setCell ⟨b, o, none⟩ v) b (if o = 0 then v else v0) (if o = 1 then v else v1) (if o = 2 then v else v2) (if o = 3 then v else v3) (if o = 4 then v else v4) := by
  have key : ∀ k u, w.cell? ⟨b, k, none⟩ = some u → (w.setCell ⟨b, o, none⟩ v).cell? ⟨b, k, none⟩ = some (if o = k then v else u) := by
    intro k u hu
    by_cases e : o = k
    · subst e
      rw [if_pos rfl]
      exact World.cell?_setCell_same _ _ _ hu
    · rw [if_neg e, World.cell?_setCell_other _ _ _ _ (by simp)]
      exact hu
  exact ⟨key 0 _ h.c0, key 1 _ h.c1, key 2 _ h.c2, key 3 _ h.c3, key 4 _ h.c4, fun o => by rw [World.frozen?_setCell]; exact h.z o⟩
theorem NB.s0 (h : NB w b v0 v1 v2 v3 v4) (u : Value) : NB (w.setCell ⟨b, 0, none⟩ u) b u v1 v2 v3 v4 := h.put 0 u
theorem NB.s1 (h : NB w b v0 v1 v2 v3 v4) (u : Value) : NB (w.setCell ⟨b, 1, none⟩ u) b v0 u v2 v3 v4 := h.put 1 u
theorem NB.s2 (h : NB w b v0 v1 v2 v3 v4) (u : Value) : NB (w.setCell ⟨b, 2, none⟩ u) b v0 v1 u v3 v4 := h.put 2 u
theorem NB.s3 (h : NB w b v0 v1 v2 v3 v4) (u : Value) : NB (w.setCell ⟨b, 3, none⟩ u) b v0 v1 v2 u v4 := h.put 3 u
theorem NB.s4 (h : NB w b v0 v1 v2 v3 v4) (u : Value) : NB (w.setCell ⟨b, 4, none⟩ u) b v0 v1 v2 v3 u := h.put 4 u
theorem NB.put5 (h : NB w b v0 v1 v2 v3 v4) : NB (put5 w b u0 u1 u2 u3 u4) b u0 u1 u2 u3 u4 := ((((h.put 0 u0).put 1 u1).put 2 u2).put 3 u3).put 4 u4
/-- A block for one node, whatever it holds. -/
def RB (w : World) (b : Nat) : Prop := ∃ v0 v1 v2 v3 v4, NB w b v0 v1 v2 v3 v4
theorem NB.rb (h : NB w b v0 v1 v2 v3 v4) : RB w b := ⟨_, _, _, _, _, h⟩
theorem RB.new (w : World) (t : TypeId) : RB (w.alloc (.cells #[v0, v1, v2, v3, v4] t)) w.heap.size := (NB.new w t).rb
theorem RB.new' {b : Nat} {t : TypeId} (hb : b = w.heap.size) : RB (w.alloc (.cells #[v0, v1, v2, v3, v4] t)) b := (NB.new' hb).rb
theorem RB.kept {row : Option Nat} (h : RB w b) (hg : w.grownBy w' row) (hr : some b ≠ row) : RB w' b := by
  obtain ⟨_, _, _, _, _, h⟩ := h
  exact (h.kept hg hr).rb
theorem RB.lt (h : RB w b) : b < w.heap.size := by
  obtain ⟨_, _, _, _, _, h⟩ := h
  exact h.lt
theorem RB.alloc (h : RB w b) (o : Obj) : RB (w.alloc o) b := h.kept (World.grownBy_alloc w o none) (by simp)
theorem RB.drewN (h : RB w b) (n : Nat) : RB (w.drewN n) b := h.kept (gb_drewN (gb_refl w none) n) (by simp)
theorem RB.put (h : RB w b) (b' o : Nat) (v : Value) : RB (w.setCell ⟨b', o, none⟩ v) b := by
  obtain ⟨_, _, _, _, _, h⟩ := h
  by_cases e : b' = b
  · subst e
    exact (h.put o v).rb
  · exact (h.far e o v).rb
theorem RB.five (h : RB w b) : NB (((((w.setCell ⟨b, 0, none⟩ u0).setCell ⟨b, 1, none⟩ u1).setCell ⟨b, 2, none⟩ u2).setCell ⟨b, 3, none⟩ u3).setCell ⟨b, 4, none⟩ u4) b u0 u1 u2 u3 u4 := by
  obtain ⟨_, _, _, _, _, h⟩ := h
  exact h.put5
theorem NB.drew (h : NB w b v0 v1 v2 v3 v4) : NB w.drew b v0 v1 v2 v3 v4 := h.drewN 1
theorem RB.drew (h : RB w b) : RB w.drew b := h.drewN 1
theorem PS.drew {c : PC} {i d : Nat} (h : PS c w i d) : PS c w.drew i d := h.drewN 1
theorem gb_drew {a : World} {row : Option Nat} (h : a.grownBy w row) : a.grownBy w.drew row := gb_drewN h 1
theorem LR.drew {lo hi : Nat} {ts : List T} {v : Value} (h : LR w (In lo hi) ts v) : LR w.drew (In lo hi) ts v := h.drewN 1
theorem results_node {fn : Func} {p : Tmp} (h : fn.results = #[.cell p 25]) {tmps : Array Value} (hp : tmps[p]?.getD undef = .pointer (some ⟨b, 0, none⟩)) (hn : NB w b v0 v1 v2 v3 v4) :
    (results fn tmps).run Tryz.prog w = .ok (.agg #[v0, v1, v2, v3, v4]) w := by
  simp [results, h, hp, go_sem, hn.c0, hn.c1, hn.c2, hn.c3, hn.c4]
theorem node_ret {fn : Func} {p : Tmp} {R : Ending → World → Prop} {a : Act} (h : fn.results = #[.cell p 25]) (hp : a.tmps[p]?.getD undef = .pointer (some ⟨b, 0, none⟩)) (hn : NB w b v0 v1 v2 v3 v4) (hd : a.defers = [])
    (hR : R (.returned (.agg #[v0, v1, v2, v3, v4])) w) : bodyPost Tryz.prog fn R .ret a w := bodyPost_ret (results_node h hp hn) hd hR
end

/-! ### Five stores into one block -/
section
variable {w w' : World} {b b' o0 o1 o2 o3 o4 : Nat} {u0 u1 u2 u3 u4 v0 v1 v2 v3 v4 : Value}
theorem gb_p5 {a : World} {row : Option Nat} (h : a.grownBy w row) (hb : a.heap.size ≤ b) : a.grownBy (((((w.setCell ⟨b, o0, none⟩ u0).setCell ⟨b, o1, none⟩ u1).setCell ⟨b, o2, none⟩ u2).setCell ⟨b, o3, none⟩ u3).setCell ⟨b, o4, none⟩ u4) row := gb_put (gb_put (gb_put (gb_put (gb_put h hb _ _) hb _ _) hb _ _) hb _ _) hb _ _
theorem PS.p5 {c : PC} {i d n : Nat} (h : PS c w i d) (hl : Low c n) (hb : n ≤ b) : PS c (((((w.setCell ⟨b, o0, none⟩ u0).setCell ⟨b, o1, none⟩ u1).setCell ⟨b, o2, none⟩ u2).setCell ⟨b, o3, none⟩ u3).setCell ⟨b, o4, none⟩ u4) i d := PS.put (PS.put (PS.put (PS.put (PS.put h hl hb _ _) hl hb _ _) hl hb _ _) hl hb _ _) hl hb _ _
theorem LR.p5 {lo hi : Nat} {ts : List T} {v : Value} (h : LR w (In lo hi) ts v) (hb : b < lo ∨ hi ≤ b) : LR (((((w.setCell ⟨b, o0, none⟩ u0).setCell ⟨b, o1, none⟩ u1).setCell ⟨b, o2, none⟩ u2).setCell ⟨b, o3, none⟩ u3).setCell ⟨b, o4, none⟩ u4) (In lo hi) ts v := LR.put (LR.put (LR.put (LR.put (LR.put h hb _ _) hb _ _) hb _ _) hb _ _) hb _ _
theorem RB.p5 (h : RB w b') : RB (((((w.setCell ⟨b, o0, none⟩ u0).setCell ⟨b, o1, none⟩ u1).setCell ⟨b, o2, none⟩ u2).setCell ⟨b, o3, none⟩ u3).setCell ⟨b, o4, none⟩ u4) b' := RB.put (RB.put (RB.put (RB.put (h.put _ _ _) _ _ _) _ _ _) _ _ _) _ _ _
theorem NB.p5 (h : NB w b' v0 v1 v2 v3 v4) (hb : b ≠ b') : NB (((((w.setCell ⟨b, o0, none⟩ u0).setCell ⟨b, o1, none⟩ u1).setCell ⟨b, o2, none⟩ u2).setCell ⟨b, o3, none⟩ u3).setCell ⟨b, o4, none⟩ u4) b' v0 v1 v2 v3 v4 := NB.far (NB.far (NB.far (NB.far (NB.far h hb _ _) hb _ _) hb _ _) hb _ _) hb _ _
theorem RB.keep {r : Nat} (h : RB w b) (hg : w.grownBy w' (some r)) (hr : b ≠ r) : RB w' b := h.kept hg (by simpa using hr)
theorem NB.keep {r : Nat} (h : NB w b v0 v1 v2 v3 v4) (hg : w.grownBy w' (some r)) (hr : b ≠ r) : NB w' b v0 v1 v2 v3 v4 := h.kept hg (by simpa using hr)
end
end Go.Proofs.YtbphiiaoncakfaaGreatDoor

/- The document's reader, told as functions of a state (the place, and what is wrong already), and that it reads what the grammar says. -/
namespace Go.Proofs.YtbphiiaoncakfaaGreatDoor

abbrev QS := Nat × Option (Int × Int)
abbrev Q (α : Type) := QS → α × QS
def Q.bind {α β : Type} (q : Q α) (k : α → Q β) : Q β := fun s => k (q s).1 (q s).2
def Q.ret {α : Type} (a : α) : Q α := fun s => (a, s)
def atQ {α : Type} (g : Nat → Q α) : Q α := fun s => g s.1 s
/-- No such many rounds. -/
def stuckQ {α : Type} (a : α) : Q α := fun s => match s.2 with
  | none => (a, (s.1, some (0, 0)))
  | some _ => (a, s)

section
variable (L : List Tok)
def stopQ (e : Int) : Q Unit := fun s => match s.2 with
  | none => ((), (s.1, some (e, pos L s.1)))
  | some _ => ((), s)
def otherQ : Q Unit := fun s => stopQ L (if wd L s.1 = [] then 2 else 4) s
def isQ (x : List UInt8) : Q Bool := fun s => if s.2 = none ∧ wd L s.1 = x then (true, (s.1 + 1, none)) else (false, s)
def needQ (x : List UInt8) : Q Unit := (isQ L x).bind fun b => if b = true then Q.ret () else otherQ L
def nameQ : Q (List UInt8) := fun s => if s.2 = none ∧ nameB (wd L s.1) = true then (wd L s.1, (s.1 + 1, none)) else ([], (otherQ L s).2)
def valueQ : Q Int := fun s => match s.2, numOf (wd L s.1) with
  | none, some n => (n, (s.1 + 1, none))
  | _, _ => (0, (otherQ L s).2)
def namedQ (kind : Int) : Q T := atQ fun i => (nameQ L).bind (fun x => Q.ret (.mk kind x 0 (pos L i) []))
def starQ (t : T) : Q T := (isQ L s_star).bind fun b => Q.ret (match t with | .mk k s n a l => if b then .mk k s 1 a l else .mk k s n a l)
def markedQ (kind : Int) : Q T := (namedQ L kind).bind (starQ L)
def typeNameQ : Q T := (namedQ L 13).bind fun n => (isQ L s_dot).bind fun b => if b = true then (nameQ L).bind fun s2 => Q.ret (match n with | .mk k s m a _ => .mk k s2 m a [.mk 24 s 0 a []]) else Q.ret n
def typedQ (t : T) : Q T := (needQ L s_colon).bind fun _ => (typeNameQ L).bind fun y => Q.ret (match t with | .mk k s n a _ => .mk k s n a [y])
/-- One part, and more as long as the sign stands behind it. -/
def severalQ (part : Q T) (sep : List UInt8) : Nat → List T → Q (List T)
  | 0, acc => part.bind fun t => stuckQ (acc ++ [t])
  | f + 1, acc => part.bind fun t => (isQ L sep).bind fun b => if b = true then severalQ part sep f (acc ++ [t]) else Q.ret (acc ++ [t])
def limitQ (kind : Int) : Q T := fun s => (.mk kind [] 0 (pos L s.1) [], (stopQ L 3 s).2)

def givenQ (E : Q T) : Q (List T) := (isQ L s_lp).bind fun b => if b = true then (isQ L s_rp).bind fun b2 => if b2 = true then Q.ret [] else (severalQ L E s_comma L.length []).bind fun l => (needQ L s_rp).bind fun _ => Q.ret l else Q.ret []
def desigStepQ (E : Q T) (K : T → Q T) (d : T) : Q T :=
  (isQ L s_dot).bind (fun b => if b = true then (nameQ L).bind fun x => K (.mk 25 x 0 d.at' [d]) else
  (isQ L s_lb).bind fun b => if b = true then E.bind fun e => (needQ L s_rb).bind fun _ => K (.mk 26 [] 0 d.at' [d, e]) else
  (isQ L s_hat).bind fun b => if b = true then K (.mk 27 [] 0 d.at' [d]) else
  (isQ L s_lc).bind fun b => if b = true then (typeNameQ L).bind fun y => (needQ L s_rc).bind fun _ => K (.mk 28 [] 0 d.at' [d, y]) else Q.ret d)
def desigLoopQ (E : Q T) : Nat → T → Q T
  | 0, d => (stopQ L 3).bind fun _ => Q.ret d
  | f + 1, d => fun s => if s.2 = none then desigStepQ L E (desigLoopQ E f) d s else (d, s)
def desigQ (E : Q T) : Q T := (namedQ L 24).bind fun n => desigLoopQ L E 21 n
def chainQ (joins : List UInt8 → Bool) (part : Q T) : Nat → T → Q T
  | 0, left => fun s => if s.2 = none ∧ joins (wd L s.1) = true then ((stopQ L 3).bind fun _ => part.bind fun r => Q.ret (opT (wd L s.1) left r)) (s.1 + 1, none) else (left, s)
  | f + 1, left => fun s => if s.2 = none ∧ joins (wd L s.1) = true then (part.bind fun r => chainQ joins part f (opT (wd L s.1) left r)) (s.1 + 1, none) else (left, s)
def callQ (E : Q T) : Q T := (desigQ L E).bind fun n s => if s.2 = none ∧ wd L s.1 = s_lp then (givenQ L E).bind (fun l => Q.ret (.mk 33 [] 0 n.at' (n :: l))) s else (n, s)
def factorQ (E F : Q T) : Q T := fun s =>
  if s.2 = none then
    if wd L s.1 = kTRUE then (.mk 30 [] 0 (pos L s.1) [], (s.1 + 1, none))
    else if wd L s.1 = kFALSE then (.mk 31 [] 0 (pos L s.1) [], (s.1 + 1, none))
    else if wd L s.1 = kNIL then (.mk 32 [] 0 (pos L s.1) [], (s.1 + 1, none))
    else if wd L s.1 = s_tilde then F.bind (fun f => Q.ret (.mk 34 [] 0 (pos L s.1) [f])) (s.1 + 1, none)
    else if wd L s.1 = s_lp then E.bind (fun e => (needQ L s_rp).bind fun _ => Q.ret e) (s.1 + 1, none)
    else match numOf (wd L s.1) with
      | some n => (.mk 29 [] n (pos L s.1) [], (s.1 + 1, none))
      | none => callQ L E s
  else (.mk 0 [] 0 (pos L s.1) [], s)
def productQ (E F : Q T) : Q T := (factorQ L E F).bind fun a => chainQ L multipliesB (factorQ L E F) 20 a
def sumQ (E F : Q T) : Q T := atQ fun i => (isQ L s_minus).bind (fun b => (productQ L E F).bind fun a => chainQ L addsB (productQ L E F) 20 (if b then .mk 35 [] 0 (pos L i) [a] else a))
def relationQ (E F : Q T) : Q T := (sumQ L E F).bind fun a s =>
  if s.2 = none then
    if wd L s.1 = kIS then (typeNameQ L).bind (fun y => Q.ret (.mk 37 [] 0 a.at' [a, y])) (s.1 + 1, none)
    else if comparesB (wd L s.1) = true then (sumQ L E F).bind (fun b => Q.ret (opT (wd L s.1) a b)) (s.1 + 1, none)
    else (a, s)
  else (a, s)
def exprFactorQ : Nat → Q T × Q T
  | 0 => (limitQ L 0, limitQ L 0)
  | n + 1 => (relationQ L (exprFactorQ n).1 (exprFactorQ n).2, factorQ L (exprFactorQ n).1 (exprFactorQ n).2)
def exprQ (n : Nat) : Q T := (exprFactorQ L n).1
def deepFactorQ (n : Nat) : Q T := (exprFactorQ L n).2
theorem exprQ_succ (n : Nat) : exprQ L (n + 1) = relationQ L (exprQ L n) (deepFactorQ L n) := rfl
theorem deepFactorQ_succ (n : Nat) : deepFactorQ L (n + 1) = factorQ L (exprQ L n) (deepFactorQ L n) := rfl

def branchQ (E A : Q T) : Q (List T) := E.bind fun c => (needQ L kTHEN).bind fun _ => A.bind fun a => Q.ret [c, a]
def choiceLoopQ (E A : Q T) : Nat → List T → Q (List T)
  | 0, acc => stuckQ acc
  | f + 1, acc => (isQ L kELSIF).bind fun b => if b = true then (branchQ L E A).bind fun l => choiceLoopQ E A f (acc ++ l) else Q.ret acc
def choiceQ (E A : Q T) : Q T := atQ fun i => (needQ L kIF).bind fun _ => (branchQ L E A).bind fun l => (choiceLoopQ L E A L.length l).bind fun l => (isQ L kELSE).bind fun b => if b = true then A.bind fun a => (needQ L kEND).bind fun _ => Q.ret (.mk 16 [] 1 (pos L i) (l ++ [a])) else (needQ L kEND).bind fun _ => Q.ret (.mk 16 [] 0 (pos L i) l)
def whileQ (E A : Q T) : Q T := atQ fun i => (needQ L kWHILE).bind fun _ => E.bind fun c => (needQ L kDO).bind fun _ => A.bind fun a => (needQ L kEND).bind fun _ => Q.ret (.mk 17 [] 0 (pos L i) [c, a])
def repeatQ (E A : Q T) : Q T := atQ fun i => (needQ L kREPEAT).bind fun _ => A.bind fun a => (needQ L kUNTIL).bind fun _ => E.bind fun c => Q.ret (.mk 18 [] 0 (pos L i) [a, c])
def returnQ (E : Q T) : Q T := atQ fun i => (needQ L kRETURN).bind fun _ s => if nothingB (wd L s.1) = true then (.mk 19 [] 0 (pos L i) [], s) else E.bind (fun e => Q.ret (.mk 19 [] 0 (pos L i) [e])) s
def builtInQ (kind : Int) (k : List UInt8) (part : Q T) : Q T := atQ fun i => (needQ L k).bind fun _ => (needQ L s_lp).bind fun _ => part.bind fun e => (needQ L s_rp).bind fun _ => Q.ret (.mk kind [] 0 (pos L i) [e])
def assignQ (E : Q T) : Q T := atQ fun i => (desigQ L E).bind fun d => (isQ L s_becomes).bind fun b => if b = true then E.bind fun e => Q.ret (.mk 14 [] 0 (pos L i) [d, e]) else (givenQ L E).bind fun l => Q.ret (.mk 15 [] 0 (pos L i) (d :: l))
/-- An act, of a state in which nothing is wrong. -/
def actQ (E A : Q T) : Q T := fun s =>
  if wd L s.1 = kIF then choiceQ L E A s
  else if wd L s.1 = kWHILE then whileQ L E A s
  else if wd L s.1 = kREPEAT then repeatQ L E A s
  else if wd L s.1 = kRETURN then returnQ L E s
  else if wd L s.1 = kNEW then builtInQ L 20 kNEW (desigQ L E) s
  else if wd L s.1 = kOUT then builtInQ L 21 kOUT E s
  else if wd L s.1 = kGET then builtInQ L 22 kGET (desigQ L E) s
  else if wd L s.1 = kASSERT then builtInQ L 23 kASSERT E s
  else assignQ L E s
def actLoopQ (E A : Q T) : Nat → List T → Q (List T)
  | 0, acc => stuckQ acc
  | f + 1, acc => fun s => if s.2 = none then (if nothingB (wd L s.1) = true then Q.ret acc else (actQ L E A).bind fun t => Q.ret (acc ++ [t])).bind (fun acc => (isQ L s_semi).bind fun b => if b = true then actLoopQ E A f acc else Q.ret acc) s else (acc, s)
def actListQ (E A : Q T) : Q T := atQ fun i => (actLoopQ L E A (L.length + 1) []).bind (fun l => Q.ret (.mk 1 [] 0 (pos L i) l))
def actsQ : Nat → Q T
  | 0 => limitQ L 1
  | n + 1 => actListQ L (exprQ L n) (actsQ n)

def declLoopQ (part : Q T) : Nat → List T → Q (List T)
  | 0, acc => stuckQ acc
  | f + 1, acc => fun s => if s.2 = none ∧ nameB (wd L s.1) = true then part.bind (fun t => (needQ L s_semi).bind fun _ => declLoopQ part f (acc ++ [t])) s else (acc, s)
def sectionQ (k : List UInt8) (part : Q T) : Q T := atQ fun i => (isQ L k).bind (fun b => if b = true then (declLoopQ L part (L.length + 1) []).bind fun l => Q.ret (.mk 1 [] 0 (pos L i) l) else Q.ret (.mk 1 [] 0 (pos L i) []))
def constantQ : Q T := (markedQ L 4).bind fun n => (needQ L s_eq).bind fun _ => (exprQ L 20).bind fun e => Q.ret (withSub n e)
def variableQ : Q T := (markedQ L 6).bind (typedQ L)
def fieldQ : Q T := (markedQ L 11).bind (typedQ L)
def localQ : Q T := (namedQ L 6).bind (typedQ L)
def baseQ : Q T := atQ fun i => (isQ L s_lp).bind (fun b => if b = true then (typeNameQ L).bind fun y => (needQ L s_rp).bind fun _ => Q.ret y else Q.ret (.mk 0 [] 0 (pos L i) []))
def recLoopQ : Nat → List T → Q (List T)
  | 0, acc => stuckQ acc
  | f + 1, acc => fun s => if s.2 = none then ((isQ L kEND).bind fun b => if b = true then Q.ret acc else (fieldQ L).bind fun t => (needQ L s_semi).bind fun _ => recLoopQ f (acc ++ [t])) s else (acc, s)
def kindQ : Q T := atQ fun i => ((isQ L kARRAY).bind fun b => if b = true then (valueQ L).bind fun n => (needQ L kOF).bind fun _ => (typeNameQ L).bind fun y => Q.ret (.mk 9 [] n (pos L i) [y]) else
  (isQ L kPOINTER).bind fun b => if b = true then (needQ L kTO).bind fun _ => (typeNameQ L).bind fun y => Q.ret (.mk 12 [] 0 (pos L i) [y]) else
  (needQ L kRECORD).bind fun _ => (baseQ L).bind fun y => (recLoopQ L (L.length + 1) [y]).bind fun l => Q.ret (.mk 10 [] 0 (pos L i) l))
def typeDeclQ : Q T := (markedQ L 5).bind fun n => (needQ L s_eq).bind fun _ => (kindQ L).bind fun e => Q.ret (withSub n e)
def parameterQ : Q T := atQ fun i => (isQ L kVAR).bind (fun b => (nameQ L).bind fun x => typedQ L (.mk 8 x (if b then 1 else 0) (pos L i) []))
def parametersQ : Q T := atQ fun i => (isQ L s_lp).bind (fun b => if b = true then (isQ L s_rp).bind fun b2 => if b2 = true then Q.ret (.mk 1 [] 0 (pos L i) []) else (severalQ L (parameterQ L) s_semi L.length []).bind fun l => (needQ L s_rp).bind fun _ => Q.ret (.mk 1 [] 0 (pos L i) l) else Q.ret (.mk 1 [] 0 (pos L i) []))
def resultQ : Q T := atQ fun i => (isQ L s_colon).bind (fun b => if b = true then typeNameQ L else Q.ret (.mk 0 [] 0 (pos L i) []))
def endingQ (x : List UInt8) : Q Unit := (needQ L kEND).bind fun _ => needQ L x
def procedureQ : Q T := atQ fun i => ((needQ L kPROCEDURE).bind fun _ => (markedQ L 7).bind fun h => (parametersQ L).bind fun ps => (resultQ L).bind fun r => (needQ L s_semi).bind fun _ => (sectionQ L kVAR (localQ L)).bind fun vs => (needQ L kBEGIN).bind fun _ => (actsQ L 20).bind fun b =>
  match h with | .mk _ x n _ _ => (endingQ L x).bind fun _ => Q.ret (.mk 7 x n (pos L i) [ps, r, vs, b]))
def procLoopQ : Nat → List T → Q (List T)
  | 0, acc => stuckQ acc
  | f + 1, acc => fun s => if s.2 = none ∧ wd L s.1 = kPROCEDURE then (procedureQ L).bind (fun t => (needQ L s_semi).bind fun _ => procLoopQ f (acc ++ [t])) s else (acc, s)
def proceduresQ : Q T := atQ fun i => (procLoopQ L (L.length + 1) []).bind (fun l => Q.ret (.mk 1 [] 0 (pos L i) l))
def importsQ : Q T := atQ fun i => (isQ L kIMPORT).bind (fun b => if b = true then (severalQ L (namedQ L 3) s_comma L.length []).bind fun l => (needQ L s_semi).bind fun _ => Q.ret (.mk 1 [] 0 (pos L i) l) else Q.ret (.mk 1 [] 0 (pos L i) []))
def bodyQ : Q T := atQ fun i => (isQ L kBEGIN).bind (fun b => if b = true then actsQ L 20 else Q.ret (.mk 1 [] 0 (pos L i) []))
def moduleQ : Q T := atQ fun i => ((needQ L kMODULE).bind fun _ => (nameQ L).bind fun x => (needQ L s_semi).bind fun _ => (importsQ L).bind fun m1 => (sectionQ L kCONST (constantQ L)).bind fun m2 => (sectionQ L kTYPE (typeDeclQ L)).bind fun m3 =>
  (sectionQ L kVAR (variableQ L)).bind fun m4 => (proceduresQ L).bind fun m5 => (bodyQ L).bind fun m6 => (endingQ L x).bind fun _ => (needQ L s_dot).bind fun _ => Q.ret (.mk 2 x 0 (pos L i) [m1, m2, m3, m4, m5, m6]))
end
end Go.Proofs.YtbphiiaoncakfaaGreatDoor
