/- The program's judge of shapes: whatever rule a part has; how the last part is taken off the list. -/
import Derived.Test.YtlkokcnbbihljaaGreatDoorG24
import Derived.Test.YtlkokcnbbihljaaGreatDoorG25
import Derived.Test.YtlkokcnbbihljaaGreatDoorG26
import Derived.Shelf.Abstract
namespace Go.Proofs.YtlkokcnbbihljaaGreatDoor
open Go.RowKit Go.Maps Go.WideMaps Go.WideElems

/-- All that stands of the judge's methods, but for two. -/
structure Two : Prop where
  module : RuleSays 49 .module
  procedure : RuleSays 85 .procedure

theorem rule_call (H : Two) (w0 : World) (jb lb ob : Nat) (w : World) (l : List (T × Rule)) (v : Value) (t : T) (sv : Value) (r : Rule) (g : Nat) (fa ca : Array Value) (h : JS w0 jb lb ob w l v) (hlen : l.length + t.subs.length ≤ 20000) (hf : Fits t) (ha : AT w0 t.subs sv) (hr : RV w jb (free jb v) r (.func (.func g) fa ca)) :
    Calls Tryz.prog g (fa ++ #[nodeV t sv] ++ ca) w (JR w0 jb lb ob l v w r t) := by
  cases hr with
  | meth r g hg =>
    cases r <;> simp only [ruleFn, Option.some.injEq, reduceCtorEq] at hg <;> subst hg
    · exact H.module w0 jb lb ob w l v t sv h hlen hf ha
    · exact imported_says w0 jb lb ob w l v t sv h hlen hf ha
    · exact H.procedure w0 jb lb ob w l v t sv h hlen hf ha
    · exact typeItself_says w0 jb lb ob w l v t sv h hlen hf ha
    · exact typeName_says w0 jb lb ob w l v t sv h hlen hf ha
    · exact typeNameOrNone_says w0 jb lb ob w l v t sv h hlen hf ha
    · exact ref_says w0 jb lb ob w l v t sv h hlen hf ha
    · exact act_says w0 jb lb ob w l v t sv h hlen hf ha
    · exact expression_says w0 jb lb ob w l v t sv h hlen hf ha
    · exact designator_says w0 jb lb ob w l v t sv h hlen hf ha
  | list r rv b1 b2 s1 s2 c1 c2 hq => exact jlist_any w0 jb lb ob w l v t sv r rv b1 b2 h hlen hf ha c1 c2 hq
  | declared k m r rv b1 b2 b3 b4 s1 s2 s3 s4 c1 c2 c3 c4 hq => exact jdeclared_any w0 jb lb ob w l v t sv k m r rv b1 b2 b3 b4 h hlen hf ha c1 c2 c3 c4 hq
theorem rule_enters {w : World} {jb : Nat} {S : Nat → Prop} {r : Rule} {g : Nat} {fa ca : Array Value} (hr : RV w jb S r (.func (.func g) fa ca)) : ∀ (args : Array Value) (w : World), (callFunc g args).run Tryz.prog w = .ok (.enter g args) w := by
  cases hr with
  | meth r g hg =>
    cases r <;> simp only [ruleFn, Option.some.injEq, reduceCtorEq] at hg <;> subst hg
    · exact enters_of Tryz.func49 (by kernel_rfl) rfl
    · exact enters_of Tryz.func80 (by kernel_rfl) rfl
    · exact enters_of Tryz.func85 (by kernel_rfl) rfl
    · exact enters_of Tryz.func83 (by kernel_rfl) rfl
    · exact enters_of Tryz.func84 (by kernel_rfl) rfl
    · exact enters_of Tryz.func120 (by kernel_rfl) rfl
    · exact enters_of Tryz.func121 (by kernel_rfl) rfl
    · exact enters_of Tryz.func86 (by kernel_rfl) rfl
    · exact enters_of Tryz.func82 (by kernel_rfl) rfl
    · exact enters_of Tryz.func119 (by kernel_rfl) rfl
  | list r rv b1 b2 s1 s2 c1 c2 hq => exact enters_of Tryz.func114 (by kernel_rfl) rfl
  | declared k m r rv b1 b2 b3 b4 s1 s2 s3 s4 c1 c2 c3 c4 hq => exact enters_of Tryz.func117 (by kernel_rfl) rfl

theorem flatP_snoc_get (l : List (T × Rule)) (svs rvs : List Value) (p : T × Rule) (sv rv : Value) (h1 : svs.length = l.length) (h2 : rvs.length = l.length) (j : Nat) : (flatP (l ++ [p]) (svs ++ [sv]) (rvs ++ [rv]))[l.length * 6 + j]? = [Value.int .i64 p.1.kind, .string ⟨p.1.name.toArray⟩, .int .i64 p.1.num, .int .i64 p.1.at', sv, rv][j]? := by
  rw [flatP_append _ _ _ _ _ _ h1 h2, List.getElem?_append_right (by rw [flatP_length _ _ _ h1 h2]; omega), flatP_length _ _ _ h1 h2]
  simp [flatP]
theorem snoc_of_len {α : Type} : ∀ (l : List α) (n : Nat), l.length = n + 1 → ∃ l' a, l = l' ++ [a] ∧ l'.length = n := by
  intro l n h
  refine ⟨l.take n, l[n]'(by omega), ?_, by simp; omega⟩
  rw [← List.take_succ_eq_append_getElem (by omega), List.take_of_length_le (by omega)]

/-- The last part: its cells, and the judge without it. -/
theorem JS.pop {w0 : World} {jb lb ob : Nat} {w : World} {l : List (T × Rule)} {v : Value} {t : T} {r : Rule} (h : JS w0 jb lb ob w (l ++ [(t, r)]) v) : ∃ g c sv rv, v = .slice (some ⟨g, 0, none⟩) (l.length + 1) c ∧ l.length + 1 ≤ c ∧ c ≤ 9223372036854775807 ∧
    w.cell? ⟨g, l.length * 6, none⟩ = some (.int .i64 t.kind) ∧ w.cell? ⟨g, l.length * 6 + 1, none⟩ = some (.string ⟨t.name.toArray⟩) ∧ w.cell? ⟨g, l.length * 6 + 2, none⟩ = some (.int .i64 t.num) ∧ w.cell? ⟨g, l.length * 6 + 3, none⟩ = some (.int .i64 t.at') ∧ w.cell? ⟨g, l.length * 6 + 4, none⟩ = some sv ∧ w.cell? ⟨g, l.length * 6 + 5, none⟩ = some rv ∧
    Fits t ∧ AT w0 t.subs sv ∧ RV w jb (free jb v) r rv ∧ g ≠ jb ∧
    JS w0 jb lb ob (w.setCell ⟨jb, 2, none⟩ (.slice (some ⟨g, 0, none⟩) l.length c)) l (.slice (some ⟨g, 0, none⟩) l.length c) ∧ RV (w.setCell ⟨jb, 2, none⟩ (.slice (some ⟨g, 0, none⟩) l.length c)) jb (free jb (.slice (some ⟨g, 0, none⟩) l.length c)) r rv := by
  obtain ⟨svs0, rvs0, h1, h2, own, hp⟩ := h.row
  rw [List.length_append, List.length_singleton] at h1 h2 own
  obtain ⟨svs, sv, rfl, h1'⟩ := snoc_of_len svs0 _ h1
  obtain ⟨rvs, rv, rfl, h2'⟩ := snoc_of_len rvs0 _ h2
  rcases id own.2 with ⟨_, h9⟩ | ⟨g, c, cur, rfl, hb, hh, hc1, hc2, hsz, htk⟩
  · omega
  have key : ∀ j, j < 6 → w.cell? ⟨g, l.length * 6 + j, none⟩ = [Value.int .i64 t.kind, .string ⟨t.name.toArray⟩, .int .i64 t.num, .int .i64 t.at', sv, rv][j]? := fun j hj => (own.cellAt (l.length * 6 + j) (by omega)).trans (flatP_snoc_get l svs rvs (t, r) sv rv h1' h2' j)
  obtain ⟨q1, q2, q3⟩ := hp l.length (t, r) sv rv (by simp) (by rw [← h1']; simp) (by rw [← h2']; simp)
  have hgj : g ≠ jb := fun e => h.rne (by rw [e]; rfl)
  have hset : KB (fun k => k ≠ jb) w (w.setCell ⟨jb, 2, none⟩ (.slice (some ⟨g, 0, none⟩) l.length c)) := ⟨rfl, rfl, rfl, by simp [World.setCell], fun k _ hk => Below.heap_setCell _ _ _ _ (by simpa using hk)⟩
  have hfr : ∀ k, k < w.heap.size → free jb (.slice (some ⟨g, 0, none⟩) (l.length + 1) c) k → free jb (.slice (some ⟨g, 0, none⟩) l.length c) k := fun k _ hk => hk
  have hkb : KB (free jb (.slice (some ⟨g, 0, none⟩) (l.length + 1) c)) w (w.setCell ⟨jb, 2, none⟩ (.slice (some ⟨g, 0, none⟩) l.length c)) := ⟨hset.os, hset.tape, hset.output, hset.size, fun k hk hs => hset.block k hk hs.1⟩
  unfold maxLen at hc2
  refine ⟨g, c, sv, rv, rfl, hc1, by omega, key 0 (by omega), key 1 (by omega), key 2 (by omega), key 3 (by omega), key 4 (by omega), key 5 (by omega), q1, q2, q3, hgj, ?_, q3.kept hkb hfr⟩
  exact {
    gb := ⟨hset.os.trans h.gb.os, hset.tape.trans h.gb.tape, hset.output.trans h.gb.output, Nat.le_trans h.gb.size hset.size, fun k hk _ => (hset.block k (Nat.lt_of_lt_of_le hk h.gb.size) (by have := h.jlo; omega)).trans (h.gb.block k hk (by simp))⟩
    jlo := h.jlo
    c0 := by rw [World.cell?_setCell_other _ _ _ _ (by simp)]; exact h.c0
    c1 := by rw [World.cell?_setCell_other _ _ _ _ (by simp)]; exact h.c1
    c2 := World.cell?_setCell_same _ _ _ h.c2
    z2 := by rw [World.frozen?_setCell]; exact h.z2
    lex := map_block h.lex (hset.block _ (World.ownsMap.lt h.lex) h.lne)
    ops := map_block h.ops (hset.block _ (World.ownsMap.lt h.ops) h.one)
    lne := h.lne
    one := h.one
    rne := fun e => hgj (by simpa [Value.ownBlock] using e)
    row := by
      refine ⟨svs, rvs, h1', h2', ⟨flatP_length _ _ _ h1' h2', .inr ⟨g, c, cur, rfl, hb, (hset.block g (World.block_lt_of_cell? w ⟨g, _, none⟩ (key 0 (by omega))) hgj).trans hh, by omega, by unfold maxLen; omega, hsz, ?_⟩⟩, fun i p sv' rv' e1 e2 e3 => ?_⟩
      · have e9 : flatP l svs rvs = (cur.toList.take ((l.length + 1) * 6)).take (l.length * 6) := by
          rw [htk, flatP_append _ _ _ _ _ _ h1' h2', List.take_append_of_le_length (by rw [flatP_length _ _ _ h1' h2']; omega), List.take_of_length_le (by rw [flatP_length _ _ _ h1' h2']; omega)]
        rw [e9, List.take_take]
        congr 1
        omega
      · have hi : i < l.length := by
          rcases Nat.lt_or_ge i l.length with h9 | h9
          · exact h9
          · rw [List.getElem?_eq_none h9] at e1; cases e1
        obtain ⟨z1, z2, z3⟩ := hp i p sv' rv' (by rw [List.getElem?_append_left hi]; exact e1) (by rw [List.getElem?_append_left (by omega)]; exact e2) (by rw [List.getElem?_append_left (by omega)]; exact e3)
        exact ⟨z1, z2, z3.kept hkb hfr⟩ }
end Go.Proofs.YtlkokcnbbihljaaGreatDoor
