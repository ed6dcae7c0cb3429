/- The document's reader of words: what it holds in memory, and its smallest steps. -/
import Derived.Test.YtbphiiaoncakfaaGreatDoorG04
import Derived.Test.YtbphiiaoncakfaaGreatDoorG05
import Derived.BigRegion
namespace Go.Proofs.YtbphiiaoncakfaaGreatDoor
open Go.RowKit

/-- Where a reader lies, where its words; where the kept words lie; the words. -/
structure RC where
  rb : Nat
  tb : Nat
  cap : Nat
  ka : Addr
  kc : Nat
  L : List Tok

def badE : Option (Int × Int) → Int
  | none => 0
  | some x => x.1
def badT : Option (Int × Int) → Int
  | none => -1
  | some _ => 0
def badA : Option (Int × Int) → Int
  | none => -1
  | some x => x.2

structure RS0 (c : RC) (w : World) (s : QS) (d : Nat) : Prop where
  c0 : w.cell? ⟨c.rb, 0, none⟩ = some (.slice (some ⟨c.tb, 0, none⟩) c.L.length c.cap)
  c1 : w.cell? ⟨c.rb, 1, none⟩ = some (.int .i64 s.1)
  c2 : w.cell? ⟨c.rb, 2, none⟩ = some (.int .i64 d)
  c3 : w.cell? ⟨c.rb, 3, none⟩ = some (.int .i64 (badE s.2))
  c4 : w.cell? ⟨c.rb, 4, none⟩ = some (.int .i64 (badT s.2))
  c5 : w.cell? ⟨c.rb, 5, none⟩ = some (.int .i64 (badA s.2))
  z : ∀ o, w.frozen? ⟨c.rb, o, none⟩ = false
  tk : ∀ j, j < c.L.length → w.cell? ⟨c.tb, j * 2, none⟩ = some (.string ⟨(wd c.L j).toArray⟩) ∧ w.cell? ⟨c.tb, j * 2 + 1, none⟩ = some (.int .i64 (pos c.L j))
  kp : Kept33 w c.ka c.kc
  n1 : c.tb ≠ c.rb
  n2 : c.ka.block ≠ c.rb
  n3 : 3 ≠ c.rb
  il : s.1 < c.L.length
  good : GoodL c.L
  deep : d ≤ 21
  nz : ∀ x, s.2 = some x → x.1 ≠ 0
/-- At the last level something is wrong already. -/
structure RS (c : RC) (w : World) (s : QS) (d : Nat) : Prop extends RS0 c w s d where
  dz : d = 21 → s.2 ≠ none

theorem RS.lt {c : RC} {w : World} {s : QS} {d : Nat} (h : RS c w s d) : c.rb < w.heap.size := block_lt h.c0

theorem Kept33.far {w w' : World} {a : Addr} {cap : Nat} {row : Option Nat} (h : Kept33 w a cap) (hg : w.grownBy w' row) (h1 : some a.block ≠ row) (h2 : some 3 ≠ row) : Kept33 w' a cap where
  lt := Nat.lt_of_lt_of_le h.lt hg.size
  head := cell_far hg h.head h2
  room := h.room
  cell := fun k hk => cell_far hg (h.cell k hk) (by rw [show (a.add k).block = a.block by unfold Addr.add; split <;> rfl]; exact h1)

theorem RS0.kept {c : RC} {w w' : World} {s : QS} {d : Nat} {row : Option Nat} (h : RS0 c w s d) (hg : w.grownBy w' row) (h1 : some c.rb ≠ row) (h2 : some c.tb ≠ row) (h3 : some c.ka.block ≠ row) (h4 : some 3 ≠ row) : RS0 c w' s d where
  c0 := cell_far hg h.c0 h1
  c1 := cell_far hg h.c1 h1
  c2 := cell_far hg h.c2 h1
  c3 := cell_far hg h.c3 h1
  c4 := cell_far hg h.c4 h1
  c5 := cell_far hg h.c5 h1
  z := fun o => frozen_far hg (show c.rb < w.heap.size from block_lt h.c0) (h.z o) h1
  tk := fun j hj => ⟨cell_far hg (h.tk j hj).1 h2, cell_far hg (h.tk j hj).2 h2⟩
  kp := h.kp.far hg h3 h4
  n1 := h.n1
  n2 := h.n2
  n3 := h.n3
  il := h.il
  good := h.good
  deep := h.deep
  nz := h.nz
theorem RS0.grown {c : RC} {w w' : World} {s : QS} {d : Nat} (h : RS0 c w s d) (hg : w.grownBy w' none) : RS0 c w' s d := h.kept hg (by simp) (by simp) (by simp) (by simp)
theorem RS.kept {c : RC} {w w' : World} {s : QS} {d : Nat} {row : Option Nat} (h : RS c w s d) (hg : w.grownBy w' row) (h1 : some c.rb ≠ row) (h2 : some c.tb ≠ row) (h3 : some c.ka.block ≠ row) (h4 : some 3 ≠ row) : RS c w' s d := ⟨h.toRS0.kept hg h1 h2 h3 h4, h.dz⟩
theorem RS.grown {c : RC} {w w' : World} {s : QS} {d : Nat} (h : RS c w s d) (hg : w.grownBy w' none) : RS c w' s d := h.kept hg (by simp) (by simp) (by simp) (by simp)
theorem RS.drewN {c : RC} {w : World} {s : QS} {d : Nat} (h : RS c w s d) (n : Nat) : RS c (w.drewN n) s d := h.grown (gb_drewN (gb_refl _ _) n)
theorem RS.drew {c : RC} {w : World} {s : QS} {d : Nat} (h : RS c w s d) : RS c w.drew s d := h.drewN 1
theorem RS.alloc {c : RC} {w : World} {s : QS} {d : Nat} (h : RS c w s d) (o : Obj) : RS c (w.alloc o) s d := h.grown (World.grownBy_alloc w o none)

/-- What the reader has lies below this block. -/
structure LowR (c : RC) (n : Nat) : Prop where
  rb : c.rb < n
  tb : c.tb < n
  ka : c.ka.block < n
  kg : 3 < n
theorem LowR.up {c : RC} {n m : Nat} (h : LowR c n) (hm : n ≤ m) : LowR c m := ⟨Nat.lt_of_lt_of_le h.rb hm, Nat.lt_of_lt_of_le h.tb hm, Nat.lt_of_lt_of_le h.ka hm, Nat.lt_of_lt_of_le h.kg hm⟩
theorem RS.low {c : RC} {w : World} {s : QS} {d : Nat} (h : RS c w s d) : LowR c w.heap.size :=
  ⟨h.lt, block_lt (h.tk 0 (Nat.lt_of_le_of_lt (Nat.zero_le _) h.il)).1, h.kp.lt, block_lt h.kp.head⟩
theorem RS.own {c : RC} {w w' : World} {s : QS} {d n : Nat} {row : Option Nat} (h : RS c w s d) (hl : LowR c n) (hg : w.grownBy w' row) (hb : ∀ b, row = some b → n ≤ b) : RS c w' s d := by
  have h1 := hl.rb; have h2 := hl.tb; have h3 := hl.ka; have h4 := hl.kg
  exact h.kept hg (fun e => by have := hb _ e.symm; omega) (fun e => by have := hb _ e.symm; omega) (fun e => by have := hb _ e.symm; omega) (fun e => by have := hb _ e.symm; omega)
theorem RS.put {c : RC} {w : World} {s : QS} {d n b : Nat} (h : RS c w s d) (hl : LowR c n) (hb : n ≤ b) (o : Nat) (v : Value) : RS c (w.setCell ⟨b, o, none⟩ v) s d :=
  h.own hl (gb_set (gb_refl w (some b)) o v) (fun k hk => by cases hk; exact hb)

/-- A cell of the reader's own block is written. -/
theorem RS.own_cell {w : World} {b o o' : Nat} {v u : Value} (h : w.cell? ⟨b, o', none⟩ = some u) : (w.setCell ⟨b, o, none⟩ v).cell? ⟨b, o', none⟩ = some (if o = o' then v else u) := by
  by_cases e : o = o'
  · subst e
    rw [if_pos rfl]
    exact World.cell?_setCell_same _ _ _ h
  · rw [if_neg e, World.cell?_setCell_other _ _ _ _ (by simp)]
    exact h
theorem RS.set1 {c : RC} {w : World} {s : QS} {d : Nat} (h : RS c w s d) (v : Int) (k : Nat) (hv : v = k) (hk : k < c.L.length) : RS c (w.setCell ⟨c.rb, 1, none⟩ (.int .i64 v)) (k, s.2) d := by
  subst hv; have hg : w.grownBy (w.setCell ⟨c.rb, 1, none⟩ (.int .i64 (k : Int))) (some c.rb) := gb_set (gb_refl w _) _ _
  exact ⟨⟨RS.own_cell h.c0, RS.own_cell h.c1, RS.own_cell h.c2, RS.own_cell h.c3, RS.own_cell h.c4, RS.own_cell h.c5, fun o => by rw [World.frozen?_setCell]; exact h.z o,
    fun j hj => ⟨cell_far hg (h.tk j hj).1 (by simpa using h.n1), cell_far hg (h.tk j hj).2 (by simpa using h.n1)⟩, h.kp.far hg (by simpa using h.n2) (by simpa using h.n3), h.n1, h.n2, h.n3, hk, h.good, h.deep, h.nz⟩, h.dz⟩
theorem RS.set2 {c : RC} {w : World} {s : QS} {d : Nat} (h : RS c w s d) (v : Int) (k : Nat) (hv : v = k) (hk : k ≤ 21) : RS0 c (w.setCell ⟨c.rb, 2, none⟩ (.int .i64 v)) s k := by
  subst hv; have hg : w.grownBy (w.setCell ⟨c.rb, 2, none⟩ (.int .i64 (k : Int))) (some c.rb) := gb_set (gb_refl w _) _ _
  exact ⟨RS.own_cell h.c0, RS.own_cell h.c1, RS.own_cell h.c2, RS.own_cell h.c3, RS.own_cell h.c4, RS.own_cell h.c5, fun o => by rw [World.frozen?_setCell]; exact h.z o,
    fun j hj => ⟨cell_far hg (h.tk j hj).1 (by simpa using h.n1), cell_far hg (h.tk j hj).2 (by simpa using h.n1)⟩, h.kp.far hg (by simpa using h.n2) (by simpa using h.n3), h.n1, h.n2, h.n3, h.il, h.good, hk, h.nz⟩
theorem RS0.setBad {c : RC} {w : World} {s : QS} {d : Nat} (h : RS0 c w s d) (e p : Int) (he : e ≠ 0) : RS0 c (((w.setCell ⟨c.rb, 3, none⟩ (.int .i64 e)).setCell ⟨c.rb, 4, none⟩ (.int .i64 0)).setCell ⟨c.rb, 5, none⟩ (.int .i64 p)) (s.1, some (e, p)) d := by
  have hg : w.grownBy (((w.setCell ⟨c.rb, 3, none⟩ (.int .i64 e)).setCell ⟨c.rb, 4, none⟩ (.int .i64 0)).setCell ⟨c.rb, 5, none⟩ (.int .i64 p)) (some c.rb) := gb_set (gb_set (gb_set (gb_refl w _) _ _) _ _) _ _
  exact ⟨RS.own_cell (RS.own_cell (RS.own_cell h.c0)), RS.own_cell (RS.own_cell (RS.own_cell h.c1)), RS.own_cell (RS.own_cell (RS.own_cell h.c2)), RS.own_cell (RS.own_cell (RS.own_cell h.c3)), RS.own_cell (RS.own_cell (RS.own_cell h.c4)), RS.own_cell (RS.own_cell (RS.own_cell h.c5)), fun o => by rw [World.frozen?_setCell, World.frozen?_setCell, World.frozen?_setCell]; exact h.z o,
    fun j hj => ⟨cell_far hg (h.tk j hj).1 (by simpa using h.n1), cell_far hg (h.tk j hj).2 (by simpa using h.n1)⟩, h.kp.far hg (by simpa using h.n2) (by simpa using h.n3), h.n1, h.n2, h.n3, h.il, h.good, h.deep, fun x hx => by cases hx; exact he⟩

/-- A step of the document's reader: it answers, and goes on. -/
def QSt {α : Type} (c : RC) (w : World) (s : QS) (d : Nat) (enc : World → α → Value → Prop) (r : α × QS) (e : Ending) (w' : World) : Prop :=
  ∃ a s' v, r = (a, s') ∧ e = .returned v ∧ enc w' a v ∧ w.grownBy w' (some c.rb) ∧ RS c w' s' d ∧ s.1 ≤ s'.1
theorem QSt.ok {α : Type} {c : RC} {w w' : World} {s s' : QS} {d : Nat} {enc : World → α → Value → Prop} {r : α × QS} {a : α} {v : Value} (h : r = (a, s')) (he : enc w' a v) (hg : w.grownBy w' (some c.rb)) (hp : RS c w' s' d) (hi : s.1 ≤ s'.1) : QSt c w s d enc r (.returned v) w' :=
  ⟨a, s', v, h, rfl, he, hg, hp, hi⟩

set_option maxRecDepth 100000 in
set_option maxHeartbeats 400000 in
theorem rword_any (c : RC) (w : World) (s : QS) (d : Nat) (h : RS c w s d) :
    Calls Tryz.prog 13 #[.pointer (some ⟨c.rb, 0, none⟩)] w fun e w' => e = .returned (.string ⟨(wd c.L s.1).toArray⟩) ∧ w.grownBy w' none := by
  have c0 := h.c0; have c1 := h.c1; have t0 := (h.tk s.1 h.il).1; have hl := h.il; have hf := h.good.few; clear h
  go_enter Tryz.func13, Tryz.ntmps13
  go_wp2
  go_quiet (fail)
  go_wp2
  go_ret
  exact ⟨rfl, gb_drewN (gb_refl _ _) _⟩

set_option maxRecDepth 100000 in
set_option maxHeartbeats 400000 in
theorem rat_any (c : RC) (w : World) (s : QS) (d : Nat) (h : RS c w s d) :
    Calls Tryz.prog 26 #[.pointer (some ⟨c.rb, 0, none⟩)] w fun e w' => e = .returned (.int .i64 (pos c.L s.1)) ∧ w.grownBy w' none := by
  have c0 := h.c0; have c1 := h.c1; have t0 := (h.tk s.1 h.il).2; have hl := h.il; have hf := h.good.few; clear h
  go_enter Tryz.func26, Tryz.ntmps26
  go_wp2
  go_quiet (fail)
  go_wp2
  go_ret
  exact ⟨rfl, gb_drewN (gb_refl _ _) _⟩

set_option maxRecDepth 100000 in
set_option maxHeartbeats 400000 in
theorem rok0_any (c : RC) (w : World) (s : QS) (d : Nat) (h : RS0 c w s d) :
    Calls Tryz.prog 12 #[.pointer (some ⟨c.rb, 0, none⟩)] w fun e w' => e = .returned (.bool (decide (s.2 = none))) ∧ w.grownBy w' none := by
  have c3 := h.c3; have hz := h.nz; clear h; obtain ⟨i, b⟩ := s; cases b with
  | none =>
    simp only [badE] at c3
    go_enter Tryz.func12, Tryz.ntmps12
    go_wp2
    go_ret
    exact ⟨rfl, gb_refl _ _⟩
  | some x =>
    have hx : (x.1 == 0) = false := by simpa using hz x rfl
    simp only [badE] at c3; clear hz
    go_enter Tryz.func12, Tryz.ntmps12
    go_wp2
    go_ret
    exact ⟨rfl, gb_refl _ _⟩

theorem rok_any (c : RC) (w : World) (s : QS) (d : Nat) (h : RS c w s d) :
    Calls Tryz.prog 12 #[.pointer (some ⟨c.rb, 0, none⟩)] w fun e w' => e = .returned (.bool (decide (s.2 = none))) ∧ w.grownBy w' none := rok0_any c w s d h.toRS0

set_option maxRecDepth 100000 in
set_option maxHeartbeats 400000 in
theorem rstop0_any (c : RC) (w : World) (s : QS) (d : Nat) (n : Int) (hn : n ≠ 0) (h : RS0 c w s d) :
    Calls Tryz.prog 33 #[.pointer (some ⟨c.rb, 0, none⟩), .int .i64 n] w fun e w' => e = .returned (.tuple #[]) ∧ w.grownBy w' (some c.rb) ∧ RS0 c w' (stopQ c.L n s).2 d := by
  have HP := hide h; clear h; obtain ⟨i, b⟩ := s; cases b with
  | none =>
    go_enter Tryz.func33, Tryz.ntmps33
    go_wp2_with fail; go_at_call 12; refine (rok0_any c _ (i, none) d HP.out).mono ?_; rintro e w1 ⟨rfl, hg1⟩; have p1 := HP.out.grown hg1; have c0 := p1.c0; have c1 := p1.c1; have z := p1.z; have c3 : w1.cell? ⟨c.rb, 3, none⟩ = some (.int .i64 0) := p1.c3; have c4 : w1.cell? ⟨c.rb, 4, none⟩ = some (.int .i64 (-1)) := p1.c4; have c5 : w1.cell? ⟨c.rb, 5, none⟩ = some (.int .i64 (-1)) := p1.c5; have t0 := (p1.tk i p1.il).2; have hl : i < c.L.length := p1.il; have hf := p1.good.few; have HP1 := hide p1; clear p1; go_wp2
    go_region
    go_wp2; refine bodyPost_end (results_none rfl _ _ _) rfl ?_
    exact ⟨rfl, gb_set (gb_set (gb_set (gb_drewN (gb_some hg1 _) _) _ _) _ _) _ _, (HP1.out.grown (gb_drewN (gb_refl _ _) _)).setBad n _ hn⟩
  | some x =>
    go_enter Tryz.func33, Tryz.ntmps33
    go_wp2_with (go_at_call 12; refine (rok0_any c _ (i, some x) d HP.out).mono ?_; rintro e w1 ⟨rfl, hg1⟩)
    refine bodyPost_end (results_none rfl _ _ _) rfl ?_
    exact ⟨rfl, gb_some hg1 _, HP.out.grown hg1⟩

theorem stopQ_some (L : List Tok) (n : Int) (s : QS) : (stopQ L n s).2.2 ≠ none ∧ (stopQ L n s).2.1 = s.1 := by
  obtain ⟨i, b⟩ := s
  cases b <;> exact ⟨(by intro h; cases h), rfl⟩
theorem rstop_any (c : RC) (w : World) (s : QS) (d : Nat) (n : Int) (hn : n ≠ 0) (h : RS c w s d) :
    Calls Tryz.prog 33 #[.pointer (some ⟨c.rb, 0, none⟩), .int .i64 n] w (QSt c w s d (fun _ _ _ => True) (stopQ c.L n s)) :=
  (rstop0_any c w s d n hn h.toRS0).mono fun _e _w' ⟨he, hg, hp⟩ => ⟨_, _, _, rfl, he, trivial, hg, ⟨hp, fun _ => (stopQ_some c.L n s).1⟩, Nat.le_of_eq (stopQ_some c.L n s).2.symm⟩

set_option maxRecDepth 100000 in
set_option maxHeartbeats 400000 in
theorem rother_any (c : RC) (w : World) (s : QS) (d : Nat) (h : RS c w s d) :
    Calls Tryz.prog 14 #[.pointer (some ⟨c.rb, 0, none⟩)] w (QSt c w s d (fun _ _ _ => True) (otherQ c.L s)) := by
  have HP := hide h; clear h
  by_cases hx : wd c.L s.1 = []
  · have hxe : (wd c.L s.1).isEmpty = true := by rw [hx]; rfl
    have HR : Hid (otherQ c.L s = stopQ c.L 2 s) := by show otherQ c.L s = _; unfold otherQ; rw [if_pos hx]
    clear hx
    go_enter Tryz.func14, Tryz.ntmps14
    go_wp2_with (first
      | (go_at_call 13; refine (rword_any c _ s d HP.out).mono ?_; rintro e w1 ⟨rfl, hg1⟩)
      | (go_at_call 33; refine (rstop_any c _ s d 2 (by decide) (HP.out.grown hg1)).mono ?_; rintro e w2 ⟨a2, s2, v2, hr2, rfl, -, hg2, p2, hi2⟩))
    refine bodyPost_end (results_none rfl _ _ _) rfl ?_
    exact QSt.ok (HR.out.trans hr2) trivial (gb_trans (gb_some hg1 _) hg2) p2 hi2
  · have hxe := isEmpty_false hx
    have HR : Hid (otherQ c.L s = stopQ c.L 4 s) := by show otherQ c.L s = _; unfold otherQ; rw [if_neg hx]
    clear hx
    go_enter Tryz.func14, Tryz.ntmps14
    go_wp2_with (first
      | (go_at_call 13; refine (rword_any c _ s d HP.out).mono ?_; rintro e w1 ⟨rfl, hg1⟩)
      | (go_at_call 33; refine (rstop_any c _ s d 4 (by decide) (HP.out.grown hg1)).mono ?_; rintro e w2 ⟨a2, s2, v2, hr2, rfl, -, hg2, p2, hi2⟩))
    refine bodyPost_end (results_none rfl _ _ _) rfl ?_
    exact QSt.ok (HR.out.trans hr2) trivial (gb_trans (gb_some hg1 _) hg2) p2 hi2

set_option maxRecDepth 100000 in
set_option maxHeartbeats 400000 in
theorem ris_any (c : RC) (w : World) (s : QS) (d : Nat) (x : List UInt8) (sb : ByteArray) (hsb : sb.data.toList = x) (hx : x ≠ []) (h : RS c w s d) :
    Calls Tryz.prog 29 #[.pointer (some ⟨c.rb, 0, none⟩), .string sb] w (QSt c w s d (fun _ b v => v = .bool b) (isQ c.L x s)) := by
  have HP := hide h; have HG := hide (fun hn => h.good.next h.il hn); clear h
  obtain rfl : sb = ⟨x.toArray⟩ := by subst hsb; simp
  obtain ⟨i, b⟩ := s; cases b with
  | none =>
    by_cases hq : wd c.L i = x
    · have hb : (wd c.L i == x) = true := by rw [hq]; simp
      have HR : Hid (isQ c.L x (i, none) = (true, (i + 1, none))) := by show isQ c.L x (i, none) = _; unfold isQ; rw [if_pos ⟨rfl, hq⟩]
      have HN : Hid (i + 1 < c.L.length) := HG.out (by show wd c.L i ≠ []; rw [hq]; exact hx); clear hq hx HG
      go_enter Tryz.func29, Tryz.ntmps29
      go_wp2_with (first
        | (go_at_call 12; refine (rok_any c _ (i, none) d HP.out).mono ?_; rintro e w1 ⟨rfl, hg1⟩; have HP1 := hide (HP.out.grown hg1))
        | (go_at_call 13; refine (rword_any c _ (i, none) d HP1.out).mono ?_; rintro e w2 ⟨rfl, hg2⟩; have HP2 := hide (HP1.out.grown hg2); have c1 : w2.cell? ⟨c.rb, 1, none⟩ = some (.int .i64 (i : Int)) := HP2.out.c1; have z := HP2.out.z; have hl : i < c.L.length := HP2.out.il; have hf := HP2.out.good.few))
      go_ret
      exact QSt.ok (s' := (i + 1, none)) HR.out rfl (gb_set (gb_some (gb_trans hg1 hg2) _) _ _) (HP2.out.set1 _ _ (by simp) HN.out) (by simp)
    · have hb : (wd c.L i == x) = false := by simpa using hq
      have HR : Hid (isQ c.L x (i, none) = (false, (i, none))) := by show isQ c.L x (i, none) = _; unfold isQ; rw [if_neg (fun h => hq h.2)]
      clear hq hx HG
      go_enter Tryz.func29, Tryz.ntmps29
      go_wp2_with (first
        | (go_at_call 12; refine (rok_any c _ (i, none) d HP.out).mono ?_; rintro e w1 ⟨rfl, hg1⟩; have HP1 := hide (HP.out.grown hg1))
        | (go_at_call 13; refine (rword_any c _ (i, none) d HP1.out).mono ?_; rintro e w2 ⟨rfl, hg2⟩; have HP2 := hide (HP1.out.grown hg2)))
      go_ret
      exact QSt.ok HR.out rfl (gb_some (gb_trans hg1 hg2) _) HP2.out (Nat.le_refl _)
  | some y =>
    have HR : Hid (isQ c.L x (i, some y) = (false, (i, some y))) := by show isQ c.L x (i, some y) = _; unfold isQ; rw [if_neg (fun h => by cases h.1)]
    clear hx HG
    go_enter Tryz.func29, Tryz.ntmps29
    go_wp2_with (go_at_call 12; refine (rok_any c _ (i, some y) d HP.out).mono ?_; rintro e w1 ⟨rfl, hg1⟩; have HP1 := hide (HP.out.grown hg1))
    go_ret
    exact QSt.ok HR.out rfl (gb_some hg1 _) HP1.out (Nat.le_refl _)

set_option maxRecDepth 100000 in
set_option maxHeartbeats 400000 in
theorem rneed_any (c : RC) (w : World) (s : QS) (d : Nat) (x : List UInt8) (sb : ByteArray) (hsb : sb.data.toList = x) (hx : x ≠ []) (h : RS c w s d) :
    Calls Tryz.prog 27 #[.pointer (some ⟨c.rb, 0, none⟩), .string sb] w (QSt c w s d (fun _ _ _ => True) (needQ c.L x s)) := by
  have HP := hide h; clear h
  go_enter Tryz.func27, Tryz.ntmps27
  go_wp2_with fail; go_at_call 29; refine (ris_any c _ s d x _ hsb hx HP.out).mono ?_; rintro e w1 ⟨a1, s1, v1, hr1, rfl, rfl, hg1, p1, hi1⟩; have HR1 : needQ c.L x s = _ := Q.bind_eq hr1; cases a1
  · go_wp2_with (go_at_call 14; refine (rother_any c _ s1 d p1).mono ?_; rintro e w2 ⟨a2, s2, v2, hr2, rfl, -, hg2, p2, hi2⟩)
    refine bodyPost_end (results_none rfl _ _ _) rfl ?_
    exact QSt.ok (HR1.trans hr2) trivial (gb_trans hg1 hg2) p2 (Nat.le_trans hi1 hi2)
  · go_wp2
    refine bodyPost_end (results_none rfl _ _ _) rfl ?_
    exact QSt.ok (HR1.trans rfl) trivial hg1 p1 hi1

set_option maxRecDepth 100000 in
set_option maxHeartbeats 400000 in
theorem rname_any (c : RC) (w : World) (s : QS) (d : Nat) (h : RS c w s d) :
    Calls Tryz.prog 28 #[.pointer (some ⟨c.rb, 0, none⟩)] w (QSt c w s d (fun _ x v => v = .string ⟨x.toArray⟩ ∧ x.length ≤ 4000) (nameQ c.L s)) := by
  have HP := hide h; have HS := hide (h.good.short s.1); have HG := hide (fun hn => h.good.next h.il hn); clear h; obtain ⟨i, b⟩ := s; cases b with
  | none =>
    cases hq : nameB (wd c.L i)
    · have HR : Hid (nameQ c.L (i, none) = ([], (otherQ c.L (i, none)).2)) := by show nameQ c.L (i, none) = _; unfold nameQ; rw [if_neg (fun h => by rw [hq] at h; cases h.2)]
      go_enter Tryz.func28, Tryz.ntmps28
      go_wp2_with (first
        | (go_at_call 12; refine (rok_any c _ (i, none) d HP.out).mono ?_; rintro e w1 ⟨rfl, hg1⟩; have HP1 := hide (HP.out.grown hg1))
        | (go_at_call 13; refine (rword_any c _ (i, none) d HP1.out).mono ?_; rintro e w2 ⟨rfl, hg2⟩; have HP2 := hide (HP1.out.grown hg2))
        | (go_at_call 41; refine (nameRef_any ⟨(wd c.L i).toArray⟩ c.ka c.kc _ (by have := HS.out; unfold maxLen; simp [ByteArray.size]; omega) HP2.out.kp).mono ?_; rintro e _ ⟨rfl, rfl⟩; simp only [hq])
        | (go_at_call 14; refine (rother_any c _ (i, none) d HP2.out).mono ?_; rintro e w3 ⟨a3, s3, v3, hr3, rfl, -, hg3, p3, hi3⟩))
      go_ret
      exact QSt.ok (HR.out.trans (by rw [hr3])) ⟨rfl, by simp⟩ (gb_trans (gb_some (gb_trans hg1 hg2) _) hg3) p3 hi3
    · have HR : Hid (nameQ c.L (i, none) = (wd c.L i, (i + 1, none))) := by show nameQ c.L (i, none) = _; unfold nameQ; rw [if_pos ⟨rfl, hq⟩]
      have HN : Hid (i + 1 < c.L.length) := HG.out (by
        show wd c.L i ≠ []
        intro e; rw [e] at hq
        revert hq
        decide)
      clear HG
      go_enter Tryz.func28, Tryz.ntmps28
      go_wp2_with (first
        | (go_at_call 12; refine (rok_any c _ (i, none) d HP.out).mono ?_; rintro e w1 ⟨rfl, hg1⟩; have HP1 := hide (HP.out.grown hg1))
        | (go_at_call 13; refine (rword_any c _ (i, none) d HP1.out).mono ?_; rintro e w2 ⟨rfl, hg2⟩; have HP2 := hide (HP1.out.grown hg2); have c1 : w2.cell? ⟨c.rb, 1, none⟩ = some (.int .i64 (i : Int)) := HP2.out.c1; have c0 := HP2.out.c0; have z := HP2.out.z; have t0 := (HP2.out.tk i HP2.out.il).1; have hl : i < c.L.length := HP2.out.il; have hf := HP2.out.good.few)
        | (go_at_call 41; refine (nameRef_any ⟨(wd c.L i).toArray⟩ c.ka c.kc _ (by have := HS.out; unfold maxLen; simp [ByteArray.size]; omega) HP2.out.kp).mono ?_; rintro e _ ⟨rfl, rfl⟩; simp only [hq]))
      go_quiet (fail)
      go_wp2
      go_ret
      exact QSt.ok (s' := (i + 1, none)) HR.out ⟨rfl, HS.out⟩ (gb_drewN (gb_set (gb_some (gb_trans hg1 hg2) _) _ _) _) ((HP2.out.set1 _ _ (by simp) HN.out).drewN _) (by simp)
  | some y =>
    have HR : Hid (nameQ c.L (i, some y) = ([], (otherQ c.L (i, some y)).2)) := by show nameQ c.L (i, some y) = _; unfold nameQ; rw [if_neg (fun h => by cases h.1)]
    clear HG
    go_enter Tryz.func28, Tryz.ntmps28
    go_wp2_with (first
      | (go_at_call 12; refine (rok_any c _ (i, some y) d HP.out).mono ?_; rintro e w1 ⟨rfl, hg1⟩; have HP1 := hide (HP.out.grown hg1))
      | (go_at_call 14; refine (rother_any c _ (i, some y) d HP1.out).mono ?_; rintro e w3 ⟨a3, s3, v3, hr3, rfl, -, hg3, p3, hi3⟩))
    go_ret
    exact QSt.ok (HR.out.trans (by rw [hr3])) ⟨rfl, by simp⟩ (gb_trans (gb_some hg1 _) hg3) p3 hi3

set_option maxRecDepth 100000 in
set_option maxHeartbeats 400000 in
theorem rdeeper_any (c : RC) (w : World) (s : QS) (d : Nat) (hd : d ≤ 20) (h : RS c w s d) :
    Calls Tryz.prog 44 #[.pointer (some ⟨c.rb, 0, none⟩)] w fun e w' => e = .returned (.tuple #[]) ∧ w.grownBy w' (some c.rb) ∧ RS c w' (if d < 20 then s else (stopQ c.L 3 s).2) (d + 1) := by
  have c2 := h.c2; have z := h.z; have HP1 := hide (h.set2 ((d : Int) + 1) (d + 1) (by simp) (by omega)); have c2' := HP1.out.c2; clear h
  by_cases hq : d < 20
  · rw [if_pos hq]
    have hx : decide ((20 : Int) < (d : Int) + 1) = false := by simp; omega
    go_enter Tryz.func44, Tryz.ntmps44
    go_wp2; refine bodyPost_end (results_none rfl _ _ _) rfl ?_
    exact ⟨rfl, gb_set (gb_refl _ _) _ _, HP1.out, fun e => by omega⟩
  · rw [if_neg hq]
    have hx : decide ((20 : Int) < (d : Int) + 1) = true := by simp; omega
    go_enter Tryz.func44, Tryz.ntmps44
    go_wp2_with (go_at_call 33; refine (rstop0_any c _ s (d + 1) 3 (by decide) HP1.out).mono ?_; rintro e w2 ⟨rfl, hg2, p2⟩)
    refine bodyPost_end (results_none rfl _ _ _) rfl ?_
    exact ⟨rfl, gb_trans (gb_set (gb_refl _ _) _ _) hg2, p2, fun _ => (stopQ_some c.L 3 s).1⟩
theorem RS.p5 {c : RC} {w : World} {s : QS} {d n b o0 o1 o2 o3 o4 : Nat} {u0 u1 u2 u3 u4 : Value} (h : RS c w s d) (hl : LowR c n) (hb : n ≤ b) : RS c (((((w.setCell ⟨b, o0, none⟩ u0).setCell ⟨b, o1, none⟩ u1).setCell ⟨b, o2, none⟩ u2).setCell ⟨b, o3, none⟩ u3).setCell ⟨b, o4, none⟩ u4) s d := RS.put (RS.put (RS.put (RS.put (RS.put h hl hb _ _) hl hb _ _) hl hb _ _) hl hb _ _) hl hb _ _
end Go.Proofs.YtbphiiaoncakfaaGreatDoor

/- The document's reader: names with a kind, type names. -/
namespace Go.Proofs.YtbphiiaoncakfaaGreatDoor
open Go.RowKit

theorem namedQ_eq {L : List Tok} {k : Int} {s s' : QS} {x : List UInt8} (h : nameQ L s = (x, s')) : namedQ L k s = (.mk k x 0 (pos L s.1) [], s') := by
  show Q.bind (nameQ L) (fun x => Q.ret (T.mk k x 0 (pos L s.1) [])) s = _
  rw [Q.bind_eq h]
  rfl

set_option maxRecDepth 100000 in
set_option maxHeartbeats 400000 in
theorem rtypeName_any (c : RC) (w : World) (s : QS) (d : Nat) (h : RS c w s d) :
    Calls Tryz.prog 43 #[.pointer (some ⟨c.rb, 0, none⟩)] w (QSt c w s d (fun w' t v => TR w' w.heap.size w'.heap.size t v) (typeNameQ c.L s)) := by
  have HP := hide h; have HL := hide h.low; have hb := h.lt; clear h
  go_enter Tryz.func43, Tryz.ntmps43
  go_wp2_with fail; go_at_call 26; refine (rat_any c _ s d (by exact RS.alloc HP.out _)).mono ?_; rintro e w1 ⟨rfl, hg1⟩; have p1 : RS c w1 s d := RS.grown (by exact RS.alloc HP.out _) hg1; have G1 : w.grownBy w1 (some c.rb) := gb_trans (by exact gb_alloc (gb_refl w (some c.rb)) _) (gb_some hg1 (some c.rb)); have sz1 := hg1.size
  try simp at sz1
  have r_1 : RB w1 (w.heap.size) := RB.kept (RB.new' (by simp)) hg1 (by simp); have r_lt1 := r_1.lt; obtain ⟨_,_,_,_,_,_,_,_,_,_,_⟩ := id r_1; go_wp2_with fail; go_at_call 28; refine (rname_any c _ s d (by exact RS.alloc p1 _)).mono ?_; rintro e w2 ⟨a2, s2, v2, hr2, rfl, ⟨rfl, hl2⟩, hg2, p2, hi2⟩; have G2 : w.grownBy w2 (some c.rb) := gb_trans (by exact gb_alloc G1 _) hg2; have sz2 := hg2.size
  try simp at sz2
  have r_2 : RB w2 (w.heap.size) := RB.keep (by exact RB.alloc r_1 _) hg2 (by omega); have n_2 : NB w2 (w1.heap.size) (.int .i64 13) (.string ⟨#[]⟩) (.int .i64 0) (.int .i64 (pos c.L s.1)) (.slice none 0 0) := NB.keep (NB.new' (by simp)) hg2 (by omega); have r_lt2 := r_2.lt; have n_lt2 := n_2.lt; obtain ⟨_,_,_,_,_,_,_,_,_,_,_⟩ := id r_2; obtain ⟨_,_,_,_,_,_⟩ := id n_2; have HRx1 : typeNameQ c.L s = _ := Q.bind_eq (namedQ_eq hr2); go_wp2_with fail; go_at_call 29; refine (ris_any c _ s2 d s_dot _ rfl (by decide) (by exact RS.put p2 HL.out (by omega) _ _)).mono ?_; rintro e w3 ⟨a3, s3, v3, hr3, rfl, rfl, hg3, p3, hi3⟩; have HR3 : typeNameQ c.L s = _ := HRx1.trans (Q.bind_eq hr3); have G3 : w.grownBy w3 (some c.rb) := gb_trans (by exact gb_put G2 (by omega) _ _) hg3; have sz3 := hg3.size
  try simp at sz3
  have r_3 : RB w3 (w.heap.size) := RB.keep (by exact RB.put r_2 _ _ _) hg3 (by omega); have n_3 : NB w3 (w1.heap.size) (.int .i64 13) (.string ⟨a2.toArray⟩) (.int .i64 0) (.int .i64 (pos c.L s.1)) (.slice none 0 0) := NB.keep (by exact NB.s1 n_2 _) hg3 (by omega); have r_lt3 := r_3.lt; have n_lt3 := n_3.lt; obtain ⟨_,_,_,_,_,_,_,_,_,_,_⟩ := id r_3; obtain ⟨_,_,_,_,_,_⟩ := id n_3; cases a3
  · rw [if_neg (by decide)] at HR3
    go_wp2; refine node_ret Tryz.results43 rfl (RB.five ?_) rfl ?_
    · exact r_3
    refine QSt.ok (a := (T.mk 13 a2 0 (pos c.L s.1) [])) (HR3) ⟨_, rfl, ?_⟩ ?_ ?_ (by omega)
    · exact LR.nil _ _
    · exact gb_p5 G3 (by omega)
    · exact RS.p5 p3 HL.out (by omega)
  · rw [if_pos rfl] at HR3
    go_wp2_with fail; go_at_call 28; refine (rname_any c _ s3 d (by exact RS.alloc (RS.put p3 HL.out (by omega) _ _) _)).mono ?_; rintro e w4 ⟨a4, s4, v4, hr4, rfl, ⟨rfl, hl4⟩, hg4, p4, hi4⟩; have HR4 : typeNameQ c.L s = _ := HR3.trans (Q.bind_eq hr4); have G4 : w.grownBy w4 (some c.rb) := gb_trans (by exact gb_alloc (gb_put G3 (by omega) _ _) _) hg4; have sz4 := hg4.size
    try simp at sz4
    have r_4 : RB w4 (w.heap.size) := RB.keep (by exact RB.alloc (RB.put r_3 _ _ _) _) hg4 (by omega); have n_4 : NB w4 (w1.heap.size) (.int .i64 13) (.string ⟨a2.toArray⟩) (.int .i64 0) (.int .i64 (pos c.L s.1)) (.slice (some ⟨w3.heap.size, 0, none⟩) 1 1) := NB.keep (by exact NB.alloc (NB.s4 n_3 _) _) hg4 (by omega); have y_4 : LR w4 (In (w3.heap.size) (w3.heap.size + 1)) ([(T.mk 24 a2 0 (pos c.L s.1) [])]) (.slice (some ⟨w3.heap.size, 0, none⟩) 1 1) := LR.call (LR.build1 _ (t := (T.mk 24 a2 0 (pos c.L s.1) [])) (sv := .slice none 0 0) (LR.nil _ _) (by simp) rfl (by omega)) hg4 (by omega); have r_lt4 := r_4.lt; have n_lt4 := n_4.lt; obtain ⟨_,_,_,_,_,_,_,_,_,_,_⟩ := id r_4; obtain ⟨_,_,_,_,_,_⟩ := id n_4; go_wp2; refine node_ret Tryz.results43 rfl (RB.five ?_) rfl ?_
    · exact RB.put r_4 _ _ _
    refine QSt.ok (a := (T.mk 13 a4 0 (pos c.L s.1) [(T.mk 24 a2 0 (pos c.L s.1) [])])) (HR4) ⟨_, rfl, ?_⟩ ?_ ?_ (by omega)
    · refine LR.wide (lo := w3.heap.size) (hi := w3.heap.size + 1) (ts := [(T.mk 24 a2 0 (pos c.L s.1) [])]) ?_ (by omega) (by first | omega | (simp <;> omega))
      exact LR.p5 (LR.put y_4 (by omega) _ _) (by omega)
    · exact gb_p5 (gb_put G4 (by omega) _ _) (by omega)
    · exact RS.p5 (RS.put p4 HL.out (by omega) _ _) HL.out (by omega)
end Go.Proofs.YtbphiiaoncakfaaGreatDoor

/- The reader's small parts: a node, a name with its node, numbers. -/
namespace Go.Proofs.YtbphiiaoncakfaaGreatDoor
open Go.RowKit

set_option maxRecDepth 100000 in
set_option maxHeartbeats 400000 in
theorem pnode_any (c : PC) (w : World) (i d : Nat) (k : Int) (h : PS c w i d) :
    Calls Tryz.prog 51 #[.pointer (some ⟨c.pb, 0, none⟩), .int .i64 k] w fun e w' => e = .returned (.agg #[.int .i64 k, .string ⟨#[]⟩, .int .i64 0, .int .i64 (pos c.L i), .slice none 0 0]) ∧ w.grownBy w' none := by
  have HP := hide h; clear h
  go_enter Tryz.func51, Tryz.ntmps51
  go_wp2_with (go_at_call 84; refine (pat_any c _ i d (HP.out.alloc _)).mono ?_; rintro e w1 ⟨rfl, m, rfl⟩)
  exact node_ret Tryz.results51 rfl ((NB.new w _).drewN m).put5 rfl ⟨rfl, gb_put5 (gb_drewN (gb_alloc (gb_refl _ _) _) _) (Nat.le_refl _) _ _ _ _ _⟩

set_option maxRecDepth 100000 in
set_option maxHeartbeats 400000 in
theorem pnamed_any (c : PC) (w : World) (i d : Nat) (k : Int) (h : PS c w i d) :
    Calls Tryz.prog 90 #[.pointer (some ⟨c.pb, 0, none⟩), .int .i64 k] w (Steps c w i d (fun w' t v => TR w' w.heap.size w'.heap.size t v) (namedP c.L k i)) := by
  have HP := hide h; have HL := hide h.low; have hb := h.lt; clear h
  go_enter Tryz.func90, Tryz.ntmps90
  go_wp2_with fail; go_at_call 51; refine (pnode_any c _ i d k (by exact PS.alloc HP.out _)).mono ?_; rintro e w1 ⟨rfl, hg⟩; have G1 : w.grownBy w1 (some c.pb) := gb_trans (by exact gb_alloc (gb_refl w (some c.pb)) _) (gb_some hg (some c.pb)); have s1 := hg.size
  simp at s1
  have p1 : PS c w1 i d := PS.kept (by exact PS.alloc HP.out _) hg; have r1 : RB w1 w.heap.size := RB.kept (RB.new w _) hg (by simp); go_wp2_with fail; go_at_call 53; refine (pname_any c _ i d (by exact PS.alloc p1 _)).mono ?_; rintro e w2 (⟨x, hr, ht, hg⟩ | ⟨s, j, v, hr, rfl, ⟨rfl, hs1, hs2⟩, hg, p2, hij⟩)
  · have HT := ht
    obtain ⟨q, rfl, -⟩ := ht
    exact ⟨rfl, Steps.err (P.bind_err hr) HT (by exact gb_alloc G1 _) hg⟩
  have G2 : w.grownBy w2 (some c.pb) := gb_trans (by exact gb_alloc G1 _) hg; have s2 := hg.size
  simp at s2
  have r2 : RB w2 w.heap.size := RB.kept (by exact RB.alloc r1 _) hg (by simp; omega); have n2 := NB.kept (NB.new w1 25) hg (by simp; omega); obtain ⟨_, _, _, _, _, y0, y1, y2, y3, y4, yz⟩ := id r2; obtain ⟨x0, x1, x2, x3, x4, xz⟩ := id n2; go_wp2; refine node_ret Tryz.results90 rfl (RB.five ?_) rfl ?_
  · exact RB.put r2 _ _ _
  exact Steps.ok (P.bind_ok hr) ⟨_, rfl, LR.nil _ _⟩ (by exact gb_p5 (gb_put G2 (by omega) _ _) (by omega)) (by exact PS.p5 (PS.put p2 HL.out (by omega) _ _) HL.out (by omega)) hij
end Go.Proofs.YtbphiiaoncakfaaGreatDoor

/- The reader's small parts: names with a star, type names, what has a type. -/
namespace Go.Proofs.YtbphiiaoncakfaaGreatDoor
open Go.RowKit

set_option maxRecDepth 100000 in
set_option maxHeartbeats 400000 in
theorem pmarked_any (c : PC) (w : World) (i d : Nat) (k : Int) (h : PS c w i d) :
    Calls Tryz.prog 92 #[.pointer (some ⟨c.pb, 0, none⟩), .int .i64 k] w (Steps c w i d (fun w' t v => TR w' w.heap.size w'.heap.size t v) (markedP c.L k i)) := by
  have HP := hide h; have HL := hide h.low; have hb := h.lt; clear h
  go_enter Tryz.func92, Tryz.ntmps92
  go_wp2_with fail; go_at_call 90; refine (pnamed_any c _ i d k (by exact PS.alloc HP.out _)).mono ?_; rintro e w1 (⟨x1, hr1, ht1, hg1⟩ | ⟨⟨k1, n1, m1, q1, l1⟩, j1, v1, hr1, rfl, ⟨sv1, rfl, lr1⟩, hg1, p1, hi1⟩)
  · have HT := ht1
    obtain ⟨q, rfl, -⟩ := ht1
    exact ⟨rfl, Steps.err (P.bind_err hr1) HT (by exact gb_alloc (gb_refl w (some c.pb)) _) hg1⟩
  have HR1 : markedP c.L k i = _ := P.bind_ok hr1; simp only [T.kind, T.name, T.num, T.at', T.subs] at lr1 ⊢; obtain ⟨ad1, cp1, rfl⟩ := lr1.form; obtain ⟨b1, hb1, lr1⟩ : ∃ b, b = _ ∧ LR w1 (In b w1.heap.size) l1 (.slice ad1 l1.length cp1) := ⟨_, rfl, lr1⟩
  try simp at hb1
  have G1 : w.grownBy w1 (some c.pb) := gb_trans (by exact gb_alloc (gb_refl w (some c.pb)) _) hg1; have s1 := hg1.size
  try simp at s1
  have r_1 : RB w1 (w.heap.size) := RB.keep (RB.new' (by simp)) hg1 (by omega); have r_lt1 := r_1.lt; obtain ⟨_,_,_,_,_,_,_,_,_,_,_⟩ := id r_1; go_wp2_with fail; go_at_call 85; refine (phas_any c _ j1 d s_star _ rfl (by decide) (by exact PS.alloc p1 _)).mono ?_; rintro e w2 ⟨b2, j2, hr2, rfl, hg2, p2, hi2⟩; have HR2 : markedP c.L k i = _ := HR1.trans (P.bind_ok hr2); have G2 : w.grownBy w2 (some c.pb) := gb_trans (by exact gb_alloc G1 _) hg2; have s2 := hg2.size
  try simp at s2
  have r_2 : RB w2 (w.heap.size) := RB.keep (by exact RB.alloc r_1 _) hg2 (by omega); have n_2 : NB w2 (w1.heap.size) (.int .i64 k1) (.string ⟨n1.toArray⟩) (.int .i64 m1) (.int .i64 q1) (.slice ad1 l1.length cp1) := NB.keep (NB.new' (by simp)) hg2 (by omega); have t_2 : LR w2 (In (b1) (w1.heap.size)) (l1) (.slice ad1 l1.length cp1) := LR.call (by exact LR.alloc lr1 _) hg2 (by omega); have r_lt2 := r_2.lt; have n_lt2 := n_2.lt; obtain ⟨_,_,_,_,_,_,_,_,_,_,_⟩ := id r_2; obtain ⟨_,_,_,_,_,_⟩ := id n_2; cases b2
  · go_wp2
    refine node_ret Tryz.results92 rfl (RB.five ?_) rfl ?_
    · exact r_2
    refine Steps.ok (a := (T.mk k1 n1 m1 q1 l1)) (HR2) ⟨_, rfl, ?_⟩ ?_ ?_ (by omega)
    · refine LR.wide (lo := b1) (hi := w1.heap.size) (ts := l1) ?_ (by omega) (by first | omega | (simp <;> omega))
      exact LR.p5 t_2 (by omega)
    · exact gb_p5 G2 (by omega)
    · exact PS.p5 p2 HL.out (by omega)
  · go_wp2
    refine node_ret Tryz.results92 rfl (RB.five ?_) rfl ?_
    · exact RB.put r_2 _ _ _
    refine Steps.ok (a := (T.mk k1 n1 1 q1 l1)) (HR2) ⟨_, rfl, ?_⟩ ?_ ?_ (by omega)
    · refine LR.wide (lo := b1) (hi := w1.heap.size) (ts := l1) ?_ (by omega) (by first | omega | (simp <;> omega))
      exact LR.p5 (LR.put t_2 (by omega) _ _) (by omega)
    · exact gb_p5 (gb_put G2 (by omega) _ _) (by omega)
    · exact PS.p5 (PS.put p2 HL.out (by omega) _ _) HL.out (by omega)

set_option maxRecDepth 100000 in
set_option maxHeartbeats 400000 in
theorem ptypeName_any (c : PC) (w : World) (i d : Nat) (h : PS c w i d) :
    Calls Tryz.prog 114 #[.pointer (some ⟨c.pb, 0, none⟩)] w (Steps c w i d (fun w' t v => TR w' w.heap.size w'.heap.size t v) (typeNameP c.L i)) := by
  have HP := hide h; have HL := hide h.low; have hb := h.lt; clear h
  go_enter Tryz.func114, Tryz.ntmps114
  go_wp2_with fail; go_at_call 90; refine (pnamed_any c _ i d 13 (by exact PS.alloc HP.out _)).mono ?_; rintro e w1 (⟨x1, hr1, ht1, hg1⟩ | ⟨⟨k1, n1, m1, q1, l1⟩, j1, v1, hr1, rfl, ⟨sv1, rfl, lr1⟩, hg1, p1, hi1⟩)
  · have HT := ht1
    obtain ⟨q, rfl, -⟩ := ht1
    exact ⟨rfl, Steps.err (P.bind_err hr1) HT (by exact gb_alloc (gb_refl w (some c.pb)) _) hg1⟩
  have HR1 : typeNameP c.L i = _ := P.bind_ok hr1; simp only [T.kind, T.name, T.num, T.at', T.subs] at lr1 ⊢; obtain ⟨ad1, cp1, rfl⟩ := lr1.form; obtain ⟨b1, hb1, lr1⟩ : ∃ b, b = _ ∧ LR w1 (In b w1.heap.size) l1 (.slice ad1 l1.length cp1) := ⟨_, rfl, lr1⟩
  try simp at hb1
  have G1 : w.grownBy w1 (some c.pb) := gb_trans (by exact gb_alloc (gb_refl w (some c.pb)) _) hg1; have s1 := hg1.size
  try simp at s1
  have r_1 : RB w1 (w.heap.size) := RB.keep (RB.new' (by simp)) hg1 (by omega); have r_lt1 := r_1.lt; obtain ⟨_,_,_,_,_,_,_,_,_,_,_⟩ := id r_1; go_wp2_with fail; go_at_call 85; refine (phas_any c _ j1 d s_dot _ rfl (by decide) (by exact PS.alloc p1 _)).mono ?_; rintro e w2 ⟨b2, j2, hr2, rfl, hg2, p2, hi2⟩; have HR2 : typeNameP c.L i = _ := HR1.trans (P.bind_ok hr2); have G2 : w.grownBy w2 (some c.pb) := gb_trans (by exact gb_alloc G1 _) hg2; have s2 := hg2.size
  try simp at s2
  have r_2 : RB w2 (w.heap.size) := RB.keep (by exact RB.alloc r_1 _) hg2 (by omega); have n_2 : NB w2 (w1.heap.size) (.int .i64 k1) (.string ⟨n1.toArray⟩) (.int .i64 m1) (.int .i64 q1) (.slice ad1 l1.length cp1) := NB.keep (NB.new' (by simp)) hg2 (by omega); have t_2 : LR w2 (In (b1) (w1.heap.size)) (l1) (.slice ad1 l1.length cp1) := LR.call (by exact LR.alloc lr1 _) hg2 (by omega); have r_lt2 := r_2.lt; have n_lt2 := n_2.lt; obtain ⟨_,_,_,_,_,_,_,_,_,_,_⟩ := id r_2; obtain ⟨_,_,_,_,_,_⟩ := id n_2; cases b2
  · go_wp2
    refine node_ret Tryz.results114 rfl (RB.five ?_) rfl ?_
    · exact r_2
    refine Steps.ok (a := (T.mk k1 n1 m1 q1 l1)) (HR2) ⟨_, rfl, ?_⟩ ?_ ?_ (by omega)
    · refine LR.wide (lo := b1) (hi := w1.heap.size) (ts := l1) ?_ (by omega) (by first | omega | (simp <;> omega))
      exact LR.p5 t_2 (by omega)
    · exact gb_p5 G2 (by omega)
    · exact PS.p5 p2 HL.out (by omega)
  · go_wp2_with fail
    go_at_call 53; refine (pname_any c _ j2 d (by exact PS.alloc (PS.put p2 HL.out (by omega) _ _) _)).mono ?_; rintro e w3 (⟨x3, hr3, ht3, hg3⟩ | ⟨a3, j3, v3, hr3, rfl, ⟨rfl, hn3, hl3⟩, hg3, p3, hi3⟩)
    · have HT := ht3
      obtain ⟨q, rfl, -⟩ := ht3
      exact ⟨rfl, Steps.err (HR2.trans (P.bind_err hr3)) HT (by exact gb_alloc (gb_put G2 (by omega) _ _) _) hg3⟩
    have HR3 : typeNameP c.L i = _ := HR2.trans (P.bind_ok hr3); have G3 : w.grownBy w3 (some c.pb) := gb_trans (by exact gb_alloc (gb_put G2 (by omega) _ _) _) hg3; have s3 := hg3.size
    try simp at s3
    have r_3 : RB w3 (w.heap.size) := RB.keep (by exact RB.alloc (RB.put r_2 _ _ _) _) hg3 (by omega); have n_3 : NB w3 (w1.heap.size) (.int .i64 k1) (.string ⟨n1.toArray⟩) (.int .i64 m1) (.int .i64 q1) (.slice (some ⟨w2.heap.size, 0, none⟩) 1 1) := NB.keep (by exact NB.alloc (NB.s4 n_2 _) _) hg3 (by omega); have t_3 : LR w3 (In (b1) (w1.heap.size)) (l1) (.slice ad1 l1.length cp1) := LR.call (by exact LR.alloc (LR.put t_2 (by omega) _ _) _) hg3 (by omega); have y_3 : LR w3 (In (w2.heap.size) (w2.heap.size + 1)) ([(T.mk 24 n1 0 q1 [])]) (.slice (some ⟨w2.heap.size, 0, none⟩) 1 1) := LR.call (LR.build1 _ (t := (T.mk 24 n1 0 q1 [])) (sv := .slice none 0 0) (LR.nil _ _) (by simp) rfl (by omega)) hg3 (by omega); have r_lt3 := r_3.lt; have n_lt3 := n_3.lt; obtain ⟨_,_,_,_,_,_,_,_,_,_,_⟩ := id r_3; obtain ⟨_,_,_,_,_,_⟩ := id n_3; go_wp2; refine node_ret Tryz.results114 rfl (RB.five ?_) rfl ?_
    · exact RB.put r_3 _ _ _
    refine Steps.ok (a := (T.mk k1 a3 m1 q1 [(T.mk 24 n1 0 q1 [])])) (HR3) ⟨_, rfl, ?_⟩ ?_ ?_ (by omega)
    · refine LR.wide (lo := w2.heap.size) (hi := w2.heap.size + 1) (ts := [(T.mk 24 n1 0 q1 [])]) ?_ (by omega) (by first | omega | (simp <;> omega))
      exact LR.p5 (LR.put y_3 (by omega) _ _) (by omega)
    · exact gb_p5 (gb_put G3 (by omega) _ _) (by omega)
    · exact PS.p5 (PS.put p3 HL.out (by omega) _ _) HL.out (by omega)

set_option maxRecDepth 100000 in
set_option maxHeartbeats 400000 in
theorem ptyped_any (c : PC) (w : World) (i d : Nat) (t : T) (lo hi : Nat) (v : Value) (h : PS c w i d) (ht : TR w lo hi t v) :
    Calls Tryz.prog 95 #[.pointer (some ⟨c.pb, 0, none⟩), v] w (Steps c w i d (fun w' t v => TR w' w.heap.size w'.heap.size t v) (typedP c.L t i)) := by
  have HP := hide h; have HL := hide h.low; have hb := h.lt; obtain ⟨tk, tn, tm, ta, tl⟩ := t; obtain ⟨sv, rfl, lt⟩ := ht; obtain ⟨ad, cp, rfl⟩ := lt.form; simp only [T.kind, T.name, T.num, T.at', T.subs] at lt ⊢; clear lt; clear h
  go_enter Tryz.func95, Tryz.ntmps95
  go_wp2_with fail; go_at_call 52; refine (pwant_any c _ i d s_colon _ rfl (by decide) (by exact PS.alloc (PS.alloc HP.out _) _)).mono ?_; rintro e w1 (⟨x1, hr1, ht1, hg1⟩ | ⟨a1, j1, v1, hr1, rfl, -, hg1, p1, hi1⟩)
  · have HT := ht1
    obtain ⟨q, rfl, -⟩ := ht1
    exact ⟨rfl, Steps.err (P.bind_err hr1) HT (by exact gb_alloc (gb_alloc (gb_refl w (some c.pb)) _) _) hg1⟩
  have HR1 : typedP c.L (T.mk tk tn tm ta tl) i = _ := P.bind_ok hr1; have G1 : w.grownBy w1 (some c.pb) := gb_trans (by exact gb_alloc (gb_alloc (gb_refl w (some c.pb)) _) _) hg1; have s1 := hg1.size
  try simp at s1
  have n_1 : NB w1 (w.heap.size) (.int .i64 tk) (.string ⟨tn.toArray⟩) (.int .i64 tm) (.int .i64 ta) (.slice ad tl.length cp) := NB.keep (by exact NB.alloc (NB.new' (by simp)) _) hg1 (by omega); have r_1 : RB w1 (w.heap.size + 1) := RB.keep (RB.new' (by simp)) hg1 (by omega); have r_lt1 := r_1.lt; have n_lt1 := n_1.lt; obtain ⟨_,_,_,_,_,_,_,_,_,_,_⟩ := id r_1; obtain ⟨_,_,_,_,_,_⟩ := id n_1; go_wp2_with fail; go_at_call 114; refine (ptypeName_any c _ j1 d p1).mono ?_; rintro e w2 (⟨x2, hr2, ht2, hg2⟩ | ⟨⟨k2, n2, m2, q2, l2⟩, j2, v2, hr2, rfl, ⟨sv2, rfl, lr2⟩, hg2, p2, hi2⟩)
  · have HT := ht2
    obtain ⟨q, rfl, -⟩ := ht2
    exact ⟨rfl, Steps.err (HR1.trans (P.bind_err hr2)) HT G1 hg2⟩
  have HR2 : typedP c.L (T.mk tk tn tm ta tl) i = _ := HR1.trans (P.bind_ok hr2); simp only [T.kind, T.name, T.num, T.at', T.subs] at lr2 ⊢; obtain ⟨ad2, cp2, rfl⟩ := lr2.form; obtain ⟨b2, hb2, lr2⟩ : ∃ b, b = _ ∧ LR w2 (In b w2.heap.size) l2 (.slice ad2 l2.length cp2) := ⟨_, rfl, lr2⟩
  try simp at hb2
  have G2 : w.grownBy w2 (some c.pb) := gb_trans G1 hg2; have s2 := hg2.size
  try simp at s2
  have r_2 : RB w2 (w.heap.size + 1) := RB.keep r_1 hg2 (by omega); have n_2 : NB w2 (w.heap.size) (.int .i64 tk) (.string ⟨tn.toArray⟩) (.int .i64 tm) (.int .i64 ta) (.slice ad tl.length cp) := NB.keep n_1 hg2 (by omega); have r_lt2 := r_2.lt; have n_lt2 := n_2.lt; obtain ⟨_,_,_,_,_,_,_,_,_,_,_⟩ := id r_2; obtain ⟨_,_,_,_,_,_⟩ := id n_2; go_wp2; refine node_ret Tryz.results95 rfl (NB.alloc (RB.five ?_) _) rfl ?_
  · exact RB.put r_2 _ _ _
  refine Steps.ok (a := (T.mk tk tn tm ta [(T.mk k2 n2 m2 q2 l2)])) (HR2) ⟨_, rfl, ?_⟩ ?_ ?_ (by omega)
  · refine LR.wide (lo := b2) (hi := w2.heap.size + 1) (ts := [(T.mk k2 n2 m2 q2 l2)]) ?_ (by omega) (by first | omega | (simp <;> omega))
    exact (LR.build1 _ (t := (T.mk k2 n2 m2 q2 l2)) (sv := .slice ad2 l2.length cp2) (LR.wide (lo := b2) (hi := w2.heap.size) (ts := l2) (by exact LR.p5 (LR.put lr2 (by omega) _ _) (by omega)) (by omega) (by first | omega | (simp <;> omega))) (by simp) rfl (by omega))
  · exact gb_alloc (gb_p5 (gb_put G2 (by omega) _ _) (by omega)) _
  · exact PS.alloc (PS.p5 (PS.put p2 HL.out (by omega) _ _) HL.out (by omega)) _
end Go.Proofs.YtbphiiaoncakfaaGreatDoor

/- A part that stands one level deeper. -/
namespace Go.Proofs.YtbphiiaoncakfaaGreatDoor
open Go.RowKit

/-- What a part comes to, at this level. -/
def PartOK (c : PC) (d : Nat) (g : Nat) (p : P T) : Prop :=
  ∀ (w : World) (i : Nat), PS c w i d → Calls Tryz.prog g #[.pointer (some ⟨c.pb, 0, none⟩)] w (Steps c w i d (fun w' t v => TR w' w.heap.size w'.heap.size t v) (p i))

set_option maxRecDepth 100000 in
set_option maxHeartbeats 400000 in
theorem pwithin_any (c : PC) (w : World) (i d : Nat) (g : Nat) (p : P T) (h : PS c w i d) (hd20 : d ≤ 20) (hp : d < 20 → PartOK c (d + 1) g p) (hent : ∀ (args : Array Value) (w : World), (callFunc g args).run Tryz.prog w = .ok (.enter g args) w) :
    Calls Tryz.prog 109 #[.pointer (some ⟨c.pb, 0, none⟩), .func (.func g) #[.pointer (some ⟨c.pb, 0, none⟩)] #[]] w (Steps c w i d (fun w' t v => TR w' w.heap.size w'.heap.size t v) ((if d < 20 then p else limitP c.L) i)) := by
  have HP := hide h; have HL := hide h.low; have hb := h.lt; have hde := h.deep; have c2 := h.c2; have z2 := h.z2; clear h
  by_cases hd : d < 20
  · rw [if_pos hd]
    have hx : decide ((20 : Int) < (d : Int) + 1) = false := by simp; omega
    go_enter Tryz.func109, Tryz.ntmps109
    go_wp2_with fail; refine (hp hd _ i ((HP.out.set2 _ (d + 1) (by simp) (by omega)).alloc _)).mono ?_; rintro e w1 (⟨x1, hr1, ht1, hg1⟩ | ⟨⟨k1, n1, m1, q1, l1⟩, j1, v1, hr1, rfl, ⟨sv1, rfl, lr1⟩, hg1, p1, hi1⟩)
    · have HT := ht1
      obtain ⟨q, rfl, -⟩ := ht1
      exact ⟨rfl, Steps.err hr1 HT (gb_alloc (gb_set (gb_refl _ _) _ _) _) hg1⟩
    simp only [T.kind, T.name, T.num, T.at', T.subs] at lr1 ⊢; obtain ⟨ad1, cp1, rfl⟩ := lr1.form; obtain ⟨b1, hb1', lr1⟩ : ∃ b, b = _ ∧ LR w1 (In b w1.heap.size) l1 (.slice ad1 l1.length cp1) := ⟨_, rfl, lr1⟩
    try simp at hb1'
    have G1 : w.grownBy w1 (some c.pb) := gb_trans (gb_alloc (gb_set (gb_refl _ _) _ _) _) hg1; have s1 := hg1.size
    try simp at s1
    have c21 : w1.cell? ⟨c.pb, 2, none⟩ = some (.int .i64 ((d : Int) + 1)) := by have := p1.c2; simpa using this
    have z21 := p1.z2; have hb1 := p1.lt; have r_1 : RB w1 w.heap.size := RB.kept (RB.new' (by simp)) hg1 (by simp; omega); have r_lt := r_1.lt; obtain ⟨_, _, _, _, _, r0, r1, r2, r3, r4, r5⟩ := id r_1; go_wp2; refine node_ret Tryz.results109 rfl (NB.alloc (RB.five ?_) _) rfl ?_
    · exact RB.put r_1 _ _ _
    refine Steps.ok (a := T.mk k1 n1 m1 q1 l1) hr1 ⟨_, rfl, ?_⟩ ?_ ?_ (by omega)
    · refine LR.wide (ts := l1) (hi := w1.heap.size) (lo := b1) ?_ (by omega) (by first | omega | (simp <;> omega))
      exact LR.alloc (LR.p5 (LR.put lr1 (by omega) _ _) (by omega)) _
    · exact gb_alloc (gb_p5 (gb_set G1 _ _) (by omega)) _
    · exact PS.alloc (PS.p5 (p1.set2 _ d (by simp) (by omega)) HL.out (by omega)) _
  · rw [if_neg hd]
    have hx : decide ((20 : Int) < (d : Int) + 1) = true := by simp; omega
    go_enter Tryz.func109, Tryz.ntmps109
    go_wp2_with fail; go_at_call 62; refine (pthrow_any c _ i (d + 1) 3 ((HP.out.set2 _ (d + 1) (by simp) (by omega)).alloc _)).mono ?_; rintro e w1 ⟨ht1, hg1⟩; have HT := ht1; obtain ⟨q, rfl, -⟩ := ht1
    exact ⟨rfl, Steps.err rfl HT (gb_alloc (gb_set (gb_refl _ _) _ _) _) (gb_some hg1 _)⟩
end Go.Proofs.YtbphiiaoncakfaaGreatDoor

/- Lists of trees that grow. -/
namespace Go.Proofs.YtbphiiaoncakfaaGreatDoor
open Go.RowKit

theorem PS.own {c : PC} {w w' : World} {i d n : Nat} {row : Option Nat} (h : PS c w i d) (hl : Low c n) (hg : w.grownBy w' row) (hr : ∀ b, row = some b → n ≤ b) : PS c w' i d where
  c0 := cell_far hg h.c0 (fun e => absurd (hr _ e.symm) (Nat.not_le.2 hl.pb))
  c1 := cell_far hg h.c1 (fun e => absurd (hr _ e.symm) (Nat.not_le.2 hl.pb))
  c2 := cell_far hg h.c2 (fun e => absurd (hr _ e.symm) (Nat.not_le.2 hl.pb))
  c3 := cell_far hg h.c3 (fun e => absurd (hr _ e.symm) (Nat.not_le.2 hl.pb))
  z1 := frozen_far hg h.lt h.z1 (fun e => absurd (hr _ e.symm) (Nat.not_le.2 hl.pb))
  z2 := frozen_far hg h.lt h.z2 (fun e => absurd (hr _ e.symm) (Nat.not_le.2 hl.pb))
  tk := fun j hj => ⟨cell_far hg (h.tk j hj).1 (fun e => absurd (hr _ e.symm) (Nat.not_le.2 hl.tb)), cell_far hg (h.tk j hj).2 (fun e => absurd (hr _ e.symm) (Nat.not_le.2 hl.tb))⟩
  lx := World.ownsMap.kept h.lx hg (fun e => absurd (hr _ e.symm) (Nat.not_le.2 hl.lb))
  n1 := h.n1
  n2 := h.n2
  il := h.il
  good := h.good
  deep := h.deep

theorem PS.atOf {c : PC} {w : World} {i d : Nat} (h : PS c w i d) : atOf w c.pb = i := by unfold Proofs.YtbphiiaoncakfaaGreatDoor.atOf; rw [h.c1]; simp [intOf]

theorem Tryz.infoNode : (Tryz.prog.info? 25).map (fun i => (i.zero, i.size, i.bytes)) = some (some (.agg #[.int .i64 0, .string ⟨#[]⟩, .int .i64 0, .int .i64 0, .slice none 0 0]), 5, 64) := by kernel_rfl

/-- Where a growing list writes: its own row, which lies in the rows of the list. -/
theorem LR.rows {w : World} {lo hi : Nat} {ts : List T} {v : Value} (h : LR w (In lo hi) ts v) : ∀ b, v.ownBlock = some b → lo ≤ b ∧ b < hi := by
  obtain ⟨_, _, _, h, _⟩ := h.own
  exact h

theorem flat_one : ∀ (ts : List T) (svs : List Value), svs.length = ts.length → (∀ (i : Nat) (t : T) (sv : Value), ts[i]? = some t → svs[i]? = some sv → ∃ a c, sv = .slice a t.subs.length c) → ∀ u ∈ flatN ts svs, u.oneCell' = true
  | [], [], _, _, u, hu => by cases hu
  | t :: ts, sv :: svs, hl, hs, u, hu => by
    rcases List.mem_append.1 hu with h | h
    · obtain ⟨a, c, rfl⟩ := hs 0 t sv rfl rfl
      simp only [headC, List.mem_cons, List.not_mem_nil, or_false] at h
      rcases h with rfl | rfl | rfl | rfl | rfl <;> rfl
    · exact flat_one ts svs (by simpa using hl) (fun i t' sv' h1 h2 => hs (i + 1) t' sv' (by simpa using h1) (by simpa using h2)) u h

/-- 'append' of a list that is not nil. -/
theorem wpList_appLR {ops : Array Oper} {rest : List Oper} {o : Oper} {a : Act} {w : World} {Q : Exit → Act → World → Prop} (hgd : o.guard = none) (s x : Operand)
    (ho : o.op = .call { callee := .builtin .append, args := #[s, x], argTypes := #[23, 23] })
    {lo hi l2 hi2 g m c : Nat} {ts us : List T} {v : Value} (hs : a.eval s = v) (hx : a.eval x = .slice (some ⟨g, 0, none⟩) m c) (hl : LR w (In lo hi) ts v) (hu : LR w (In l2 hi2) us (.slice (some ⟨g, 0, none⟩) m c))
    (h1 : lo ≤ l2) (h2 : hi ≤ l2) (h3 : l2 ≤ w.heap.size) (h4 : hi2 ≤ w.heap.size) (hlen : ts.length + us.length ≤ 20000)
    (k : ∀ v' w', LR w' (In lo w'.heap.size) (ts ++ us) v' → w.grownBy w' v.ownBlock → wpList Tryz.prog ops Q rest (a.put o.dst v') w') : wpList Tryz.prog ops Q (o :: rest) a w := by
  obtain ⟨i0, hi0, hz0, hz1, hz2⟩ := info_parts Tryz.infoNode; obtain ⟨svs, hl1, own, hin, hsub⟩ := hl.own; obtain ⟨uvs, hu1, uown, uin, usub⟩ := hu.own
  have hm : m = us.length := by
    rcases uown.2 with ⟨h0, _⟩ | ⟨_, _, _, h0, _⟩
    · cases h0
    · cases h0; rfl
  subst hm; refine wpList_append_own_at w hgd s x 23 ho 0 25 i0 _ 5 64 Tryz.underlying23 hi0 hz0 hz1 hz2 rfl (by decide) v ts.length (flatN ts svs) hs own ⟨g, 0, none⟩ us.length c (flatN us uvs) hx
    (flatN_length _ _ hu1) (uown.cells rfl) ?_ (by unfold maxLen; omega) (by omega) (Nat.zero_le _) ?_
  · intro u hu'
    exact flat_one us uvs hu1 (fun i t sv ht hsv => (usub i t sv ht hsv).form) u hu'
  · intro v' w' hown hg _ hat
    refine k v' w' (LR.append hin hl1 hsub hu1 (fun i t sv ht hsv => (usub i t sv ht hsv).mono (fun k hk => hk.1)) h1 h2 h3 h4 hg.size (fun b hb => (hown.lt b hb).2) hown hg rfl hat) hg
end Go.Proofs.YtbphiiaoncakfaaGreatDoor
