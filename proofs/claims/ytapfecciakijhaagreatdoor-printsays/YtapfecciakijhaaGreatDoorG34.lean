/- The program's writer: made anew; its length, its text. -/
import Derived.Test.YtapfecciakijhaaGreatDoorG23
namespace Go.Proofs.YtapfecciakijhaaGreatDoor
open Go.RowKit Go.Maps Go.WideMaps Go.WideElems
set_option maxHeartbeats 2000000
set_option maxRecDepth 1000000

theorem words_any (w : World) : Calls Tryz.prog 50 #[] w fun e w' => e = .returned (.map (some w.heap.size)) ∧ IsWds w' w.heap.size ∧ w.grownBy w' none := by
  have hmm := @run_makeMap Tryz.prog; have m0 := World.ownsMap_made (H := Unit) w Tryz.prog 3 wordR; obtain ⟨_,_,o0,gm0⟩ := m0.update lawInt Tryz.underlying57 (by unfold maxLen; omega) (keyOf_int_mk (P := Tryz.prog) Tryz.underlying3 (q := .i64) (a := 30) (by decide)) (val := .agg #[.string ⟨#[84, 82, 85, 69]⟩]) (d := .lit (.string [84, 82, 85, 69])) (ps := []) rfl; obtain ⟨_,_,o1,gm1⟩ := o0.update lawInt Tryz.underlying57 (by unfold maxLen; omega) (keyOf_int_mk (P := Tryz.prog) Tryz.underlying3 (q := .i64) (a := 31) (by decide)) (val := .agg #[.string ⟨#[70, 65, 76, 83, 69]⟩]) (d := .lit (.string [70, 65, 76, 83, 69])) (ps := []) rfl; obtain ⟨_,_,o2,gm2⟩ := o1.update lawInt Tryz.underlying57 (by unfold maxLen; omega) (keyOf_int_mk (P := Tryz.prog) Tryz.underlying3 (q := .i64) (a := 32) (by decide)) (val := .agg #[.string ⟨#[78, 73, 76]⟩]) (d := .lit (.string [78, 73, 76])) (ps := []) rfl; obtain ⟨_,_,o3,gm3⟩ := o2.update lawInt Tryz.underlying57 (by unfold maxLen; omega) (keyOf_int_mk (P := Tryz.prog) Tryz.underlying3 (q := .i64) (a := 20) (by decide)) (val := .agg #[.string ⟨#[78, 69, 87]⟩]) (d := .lit (.string [78, 69, 87])) (ps := []) rfl; obtain ⟨_,_,o4,gm4⟩ := o3.update lawInt Tryz.underlying57 (by unfold maxLen; omega) (keyOf_int_mk (P := Tryz.prog) Tryz.underlying3 (q := .i64) (a := 21) (by decide)) (val := .agg #[.string ⟨#[79, 85, 84]⟩]) (d := .lit (.string [79, 85, 84])) (ps := []) rfl; obtain ⟨_,_,o5,gm5⟩ := o4.update lawInt Tryz.underlying57 (by unfold maxLen; omega) (keyOf_int_mk (P := Tryz.prog) Tryz.underlying3 (q := .i64) (a := 22) (by decide)) (val := .agg #[.string ⟨#[71, 69, 84]⟩]) (d := .lit (.string [71, 69, 84])) (ps := []) rfl; obtain ⟨wm6,_,o6,gm6⟩ := o5.update lawInt Tryz.underlying57 (by unfold maxLen; omega) (keyOf_int_mk (P := Tryz.prog) Tryz.underlying3 (q := .i64) (a := 23) (by decide)) (val := .agg #[.string ⟨#[65, 83, 83, 69, 82, 84]⟩]) (d := .lit (.string [65, 83, 83, 69, 82, 84])) (ps := []) rfl; have HM : Hid (IsWds wm6 w.heap.size) := o6
  have HG : Hid (w.grownBy wm6 none) := by
    have g9 : (w.alloc (.map #[] 0)).grownBy wm6 (some w.heap.size) := gb_trans (gb_trans (gb_trans (gb_trans (gb_trans (gb_trans (gm0) gm1) gm2) gm3) gm4) gm5) gm6
    exact ⟨g9.os, g9.tape, g9.output, by have := g9.size; simp at this; omega, fun k hk _ => (g9.block k (by simp; omega) (by simp; omega)).trans (by have := (World.grownBy_alloc w (.map #[] 0) none).block k hk (by simp); exact this)⟩
  clear m0 o0 o1 o2 o3 o4 o5 o6 gm0 gm1 gm2 gm3 gm4 gm5 gm6
  go_enter Tryz.func50, Tryz.ntmps50
  go_wp2
  go_ret
  exact ⟨rfl, HM.out, HG.out⟩

theorem newWriter_any (w : World) : Calls Tryz.prog 23 #[] w fun e w' => ∃ wb, e = .returned (ptr wb) ∧ Wr w wb w' [] 0 := by
  go_enter Tryz.func23, Tryz.ntmps23
  go_wp2_with fail; go_at_call 47; refine (operators_any w).mono ?_; rintro e w1 ⟨rfl, o1, g1⟩; have O1 := hide o1; have G1 := hide g1; clear o1 g1; go_wp2_with fail; go_at_call 50; refine (words_any w1).mono ?_; rintro e w2 ⟨rfl, o2, g2⟩; have O2 := hide o2; have G2 := hide g2; clear o2 g2; go_wp2_with fail
  go_ret
  have l1 := World.ownsMap.lt O1.out; have l2 := World.ownsMap.lt O2.out; have s1 := G1.out.size; have s2 := G2.out.size; have hg : w2.grownBy (w2.alloc (.cells #[.pointer none, .slice none 0 0, .int .i64 0, .map (some w.heap.size), .map (some w1.heap.size)] WT)) none := gb_alloc (gb_refl w2 none) _; refine ⟨w2.heap.size, rfl, gb_trans G1.out (gb_trans G2.out hg), by omega, .pointer none, .slice none 0 0, w.heap.size, w1.heap.size, .inl rfl, ?_, World.ownsRow_nil _ _ _ _, by simp [Value.ownBlock], ?_, ?_, by omega, by omega⟩
  · exact heap_alloc_new w2 _
  · exact map_block O1.out ((hg.block _ (by omega) (by simp)).trans (G2.out.block _ l1 (by simp)))
  · exact map_block O2.out (hg.block _ l2 (by simp))
theorem len_any (w0 : World) (wb : Nat) (w : World) (S : List UInt8) (L : Nat) (h : Wr w0 wb w S L) : Calls Tryz.prog 25 #[ptr wb] w fun e w' => e = .returned (.int .i64 S.length) ∧ w' = w := by
  obtain ⟨_,v,_,_,_,hb,own,_⟩ := h.st
  obtain ⟨ao, cap, rfl⟩ : ∃ ao cap, v = .slice ao S.length cap := by
    rcases own.2 with ⟨hv, h0⟩ | ⟨g, cap, cur, hv, _⟩
    · exact ⟨none, 0, by rw [hv, h0]⟩
    · exact ⟨_, _, hv⟩
  have c1 : w.cell? ⟨wb, 1, none⟩ = some (.slice ao S.length cap) := by rw [Lib.cell_of_heap hb]; rfl
  clear own hb h
  go_enter Tryz.func25, Tryz.ntmps25
  go_wp2
  go_ret
  exact ⟨rfl, rfl⟩
theorem cellsU8 : Tryz.prog.cellsOf U8 = 1 := by kernel_rfl
theorem string_any (w0 : World) (wb : Nat) (w : World) (S : List UInt8) (L : Nat) (h : Wr w0 wb w S L) (h0 : S ≠ []) : Calls Tryz.prog 26 #[ptr wb] w fun e w' => e = .returned (.string ⟨S.toArray⟩) ∧ w0.grownBy w' none := by
  obtain ⟨p,v,ob,db,_,hb,own,_⟩ := h.st
  have hl0 : S.length ≠ 0 := by simpa using h0
  obtain ⟨g, cap, cur, rfl, hbg, hg, hnc, hcm, hcs, htake⟩ : ∃ g cap cur, v = .slice (some ⟨g, 0, none⟩) S.length cap ∧ w0.heap.size ≤ g ∧ w.heap[g]? = some (.cells cur U8 (0, 0)) ∧ S.length ≤ cap ∧ cap ≤ maxLen ∧ cur.size = cap * 1 ∧ cur.toList.take (S.length * 1) = Lib.byteCells S := by
    rcases own.2 with ⟨_, hz⟩ | ⟨g, cap, cur, hv, r⟩
    · exact absurd hz hl0
    · exact ⟨g, cap, cur, hv, r⟩
  have c1 : w.drew.cell? ⟨wb, 1, none⟩ = some (.slice (some ⟨g, 0, none⟩) S.length cap) := by
    have : w.drew.heap[wb]? = some (.cells #[p, .slice (some ⟨g, 0, none⟩) S.length cap, .int .i64 L, .map (some ob), .map (some db)] WT (0, 0)) := hb; rw [Lib.cell_of_heap this]; rfl
  have c2 : w.cell? ⟨wb, 1, none⟩ = some (.slice (some ⟨g, 0, none⟩) S.length cap) := c1
  have hSD : (Builtin.unsafeSliceData_ #[53] 88 #[.slice (some ⟨g, 0, none⟩) S.length cap]).run Tryz.prog w.drew = .ok (.pointer (some ⟨g, 0, none⟩)) w.drew :=
    Lib.run_unsafeSliceData_row _ _ _ _ _ _ (by omega)
  have hUS : (Builtin.unsafeString_ #[88, 3] 9 #[.pointer (some ⟨g, 0, none⟩), .int .i64 S.length]).run Tryz.prog w.drew = .ok (.string ⟨S.toArray⟩) (w.drew.freeze ⟨g, 0, none⟩ S.length) := by
    refine Lib.run_unsafeString_row w.drew 88 3 9 U8 Tryz.underlying88 cellsU8 g cur.size (by have hg' : w.drew.heap[g]? = some (.cells cur U8 (0, 0)) := hg; simp [World.shape?, hg']) S h0 (by omega) (by unfold maxLen at hcm; omega) ?_; intro j x hx; have := own.cells (g := g) rfl j (.int .u8 x.toNat) (by simp [Lib.byteCells, hx])
    exact this
  have HG : Hid (w0.grownBy (w.drew.freeze ⟨g, 0, none⟩ S.length) none) := by
    have hb9 := Lib.below_freeze (Below.drew (Below.refl w0.heap.size w)) (p := ⟨g, 0, none⟩) hbg S.length; have hg9 := h.gb
    exact ⟨hb9.os.trans hg9.os, hb9.tape.trans hg9.tape, hb9.output.trans hg9.output, Nat.le_trans hg9.size hb9.size, fun k hk _ => (hb9.block k hk).trans (hg9.block k hk (by simp))⟩
  clear own hb h hg
  go_enter Tryz.func26, Tryz.ntmps26
  go_wp2
  go_region
  all_goals (go_wp2; go_ret; exact ⟨rfl, HG.out⟩)
end Go.Proofs.YtapfecciakijhaaGreatDoor
