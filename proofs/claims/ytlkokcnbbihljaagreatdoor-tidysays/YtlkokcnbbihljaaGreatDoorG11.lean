/- What the document works out of a tree: Folded. -/
import Derived.Test.YtlkokcnbbihljaaGreatDoorG09
import Derived.Test.YtlkokcnbbihljaaGreatDoorG10
namespace Go.Proofs.YtlkokcnbbihljaaGreatDoor
open Go.RowKit

theorem foldL_take {l : List T} {i : Nat} {u : T} (h : l[i]? = some u) : foldL (l.take (i + 1)) = foldL (l.take i) ++ (if idleB (foldT u) then [] else [foldT u]) := by
  induction l generalizing i with
  | nil => simp at h
  | cons t l ih =>
    cases i with
    | zero =>
      simp at h
      subst h
      rw [List.take_succ_cons, List.take_zero, List.take_zero, foldL, foldL]
      split <;> rfl
    | succ i =>
      have := ih (i := i) (by simpa using h)
      rw [List.take_succ_cons, List.take_succ_cons, foldL, foldL, this]
      split <;> rfl
theorem foldL_le (l : List T) : (foldL l).length ≤ l.length := by
  induction l with
  | nil => rw [foldL]; exact Nat.le_refl _
  | cons t l ih => rw [foldL]; split <;> simp <;> omega
theorem gb_own {a w w' : World} {row row2 : Option Nat} (h : a.grownBy w row) (hg : w.grownBy w' row2) (hr : ∀ b, row2 = some b → a.heap.size ≤ b) : a.grownBy w' row := by
  refine ⟨hg.os.trans h.os, hg.tape.trans h.tape, hg.output.trans h.output, Nat.le_trans h.size hg.size, fun k hk hne => ?_⟩
  rw [hg.block k (Nat.lt_of_lt_of_le hk h.size) (fun e => by have := hr k e.symm; omega), h.block k hk hne]
theorem lr_put {w : World} {S : Nat → Prop} {l : List T} {v : Value} (h : LR w S l v) (b o : Nat) (u : Value) (hb : ¬ S b) : LR (w.setCell ⟨b, o, none⟩ u) S l v := h.kept (gb_set (gb_refl w (some b)) o u) (fun k hk => by cases hk; exact hb)
theorem lr_five {wr wk : World} {S : Nat → Prop} {l : List T} {v v0 v1 v2 v3 v4 : Value} {b : Nat} (h : LR wr S l v) (hg : wr.grownBy wk none) (hb : ¬ S b) : LR (((((wk.setCell ⟨b, 0, none⟩ v0).setCell ⟨b, 1, none⟩ v1).setCell ⟨b, 2, none⟩ v2).setCell ⟨b, 3, none⟩ v3).setCell ⟨b, 4, none⟩ v4) S l v :=
  (h.kept hg (fun _ hk => by cases hk)).kept (gb_set (gb_set (gb_set (gb_set (gb_set (gb_refl wk (some b)) _ _) _ _) _ _) _ _) _ _) (fun k hk => by cases hk; exact hb)
theorem numberOf_some (t : T) (sv : Value) (S : Nat → Prop) (w : World) (ha : LR w S t.subs sv) (hg : GT t) {u : Int} (hu : numOf t = some u) : Calls Tryz.prog 32 #[nodeV t sv] w (Sy w (.tuple #[.int .i64 u, .bool true])) := by
  have := numberOf_any t sv S w ha hg
  rw [hu] at this
  exact this
theorem numberOf_none (t : T) (sv : Value) (S : Nat → Prop) (w : World) (ha : LR w S t.subs sv) (hg : GT t) (hu : numOf t = none) : Calls Tryz.prog 32 #[nodeV t sv] w (Sy w (.tuple #[.int .i64 0, .bool false])) := by
  have := numberOf_any t sv S w ha hg
  rw [hu] at this
  exact this
theorem rlevel_x (x : List UInt8) (w : World) : Calls Tryz.prog 33 #[.string ⟨x.toArray⟩] w (Sy w (.int .i64 (levelOf x))) := rlevel_any ⟨x.toArray⟩ w
theorem relates_eq {x : List UInt8} (hx : levelOf x = 0) (a b : Int) {r : Bool} (hr : relZ x a b = r) (w : World) : Calls Tryz.prog 34 #[.string ⟨x.toArray⟩, .int .i64 a, .int .i64 b] w (Sy w (.bool r)) := hr ▸ relates_any hx a b w
theorem rworked_some {x : List UInt8} (hx : x = [43] ∨ x = [45] ∨ x = [42] ∨ x = [68, 73, 86] ∨ x = [77, 79, 68]) (a b : Int) (ha : -2147483647 ≤ a ∧ a ≤ 2147483647) (hb : -2147483647 ≤ b ∧ b ≤ 2147483647) {z : Int} (ho : opZ x a b = some z) (w : World) : Calls Tryz.prog 35 #[.string ⟨x.toArray⟩, .int .i64 a, .int .i64 b] w (Sy w (.tuple #[.int .i64 z, .bool true])) := by
  have := rworked_any hx a b w ha hb
  rw [ho] at this
  exact this
theorem rworked_none {x : List UInt8} (hx : x = [43] ∨ x = [45] ∨ x = [42] ∨ x = [68, 73, 86] ∨ x = [77, 79, 68]) (a b : Int) (ha : -2147483647 ≤ a ∧ a ≤ 2147483647) (hb : -2147483647 ≤ b ∧ b ≤ 2147483647) (ho : opZ x a b = none) (w : World) : Calls Tryz.prog 35 #[.string ⟨x.toArray⟩, .int .i64 a, .int .i64 b] w (Sy w (.tuple #[.int .i64 0, .bool false])) := by
  have := rworked_any hx a b w ha hb
  rw [ho] at this
  exact this
theorem op_five {x : List UInt8} (h : 0 ≤ levelOf x) (h0 : levelOf x ≠ 0) (h1 : x ≠ [38]) (h2 : x ≠ [79, 82]) : x = [43] ∨ x = [45] ∨ x = [42] ∨ x = [68, 73, 86] ∨ x = [77, 79, 68] := by
  unfold levelOf at h h0
  split at h
  · rename_i h9
    rw [if_pos h9] at h0
    exact absurd rfl h0
  · split at h
    · rename_i h9
      have : x = [43] ∨ x = [45] ∨ x = [79, 82] := by simpa [inB, sumL] using h9
      rcases this with h | h | h
      · exact Or.inl h
      · exact Or.inr (Or.inl h)
      · exact absurd h h2
    · split at h
      · rename_i h9
        have : x = [42] ∨ x = [68, 73, 86] ∨ x = [77, 79, 68] ∨ x = [38] := by simpa [inB, proL] using h9
        rcases this with h | h | h | h
        · exact Or.inr (Or.inr (Or.inl h))
        · exact Or.inr (Or.inr (Or.inr (Or.inl h)))
        · exact Or.inr (Or.inr (Or.inr (Or.inr h)))
        · exact absurd h h1
      · omega
/-- What the loop has: the tree's node, the result's block, what is put together. -/
structure FS (w wr : World) (k : Int) (x : List UInt8) (m p : Int) (sv : Value) (acc : List T) (v : Value) : Prop where
  n : NB wr w.heap.size (.int .i64 k) (.string ⟨x.toArray⟩) (.int .i64 m) (.int .i64 p) sv
  r : RB wr (w.heap.size + 1)
  o : NB wr (w.heap.size + 2) (.int .i64 k) (.string ⟨x.toArray⟩) (.int .i64 m) (.int .i64 p) v
  l : LR wr (In (w.heap.size + 3) wr.heap.size) acc v
  g : w.grownBy wr none
set_option maxRecDepth 100000 in
set_option maxHeartbeats 4000000 in
theorem folded_step (k : Int) (x : List UInt8) (m p : Int) (l : List T) (hg : GT (.mk k x m p l)) (hlen : l.length ≤ 3000) (ih : ∀ u ∈ l, ∀ (w : World) (sv : Value), AT w u.subs sv → Calls Tryz.prog 13 #[nodeV u sv] w (NL w (fun b => w.heap.size ≤ b) (foldT u)))
    (w : World) (sv : Value) (ha : AT w l sv) : Calls Tryz.prog 13 #[nodeV (.mk k x m p l) sv] w (NL w (fun b => w.heap.size ≤ b) (foldT (.mk k x m p l))) := by
  have HA := hide ha
  have IH := hide ih
  have HG := hide hg
  have HF := hide (gt_fold hg).1
  obtain ⟨sa, sc, rfl, hs1, hs2⟩ := ha.form
  unfold maxLen at hs2
  clear ha ih
  change Calls Tryz.prog 13 #[.agg #[.int .i64 k, .string ⟨x.toArray⟩, .int .i64 m, .int .i64 p, .slice sa l.length sc]] w _
  go_enter Tryz.func13, Tryz.ntmps13
  go_wp2_with fail
  go_loopw [4] (fun iv wr => ∃ (j : Nat) (v : Value), j ≤ l.length ∧ iv = .int .i64 ↑j ∧ Hid (FS w wr k x m p (.slice sa l.length sc) (foldL (l.take j)) v)) (fun iv _ => l.length - (intOf iv).toNat)
  case atStart =>
    refine ⟨0, .slice none 0 0, Nat.zero_le _, rfl, ?_⟩
    exact ⟨((NB.new _ _).alloc _).alloc _, (RB.new' (by simp)).alloc _, NB.new' (by simp), by rw [List.take_zero, foldL]; exact LR.nil _ _, (by repeat (first | with_reducible exact gb_refl w none | with_reducible refine gb_put ?_ (by omega) _ _ | with_reducible refine gb_alloc ?_ _ | with_reducible refine gb_drewN ?_ _ | with_reducible refine gb_drew ?_))⟩
  case round =>
    obtain ⟨j, v, hj, rfl, FR⟩ := hrel
    obtain ⟨n0, n1, n2, n3, n4, nz⟩ := FR.out.n
    obtain ⟨o0, o1, o2, o3, o4, oz⟩ := FR.out.o
    have nl := FR.out.n.lt
    have ol := FR.out.o.lt
    by_cases hlt : j < l.length
    · obtain ⟨u, hu⟩ : ∃ u, l[j]? = some u := ⟨_, List.getElem?_eq_getElem hlt⟩
      have hmem := List.mem_of_getElem? hu
      obtain ⟨gg, oo, su, e1, n5, -, au⟩ := HA.out.node j u hu
      cases e1
      obtain ⟨c0, c1, c2, c3, c4⟩ := n5.kept FR.out.g
      have HI := fun (w' : World) (h9 : w.grownBy w' none) => hide (IH.out u hmem w' su (au.kept h9))
      have HT := hide (foldL_take hu)
      have hgu : GT u := hg.sub hmem
      have hgf := (gt_fold hgu).2
      have hk17 : k ≠ 1 → (foldT u).kind ≠ 17 := by
        intro hk1
        cases hg with | mk _ _ _ _ _ _ _ _ _ _ h5 => exact hgf.2 (h5 hk1 u hmem)
      have hal := foldL_le (l.take j)
      rw [List.length_take] at hal
      clear hu n5 au
      generalize foldT u = X at *
      obtain ⟨kx, xx, mx, px, lx⟩ := X
      go_wp2_with fail
      go_at_call 13
      refine ((HI _ (by repeat (first | with_reducible exact FR.out.g | with_reducible refine gb_put ?_ (by omega) _ _ | with_reducible refine gb_alloc ?_ _ | with_reducible refine gb_drewN ?_ _ | with_reducible refine gb_drew ?_))).out).mono ?_
      rintro e w1 ⟨sx, rfl, l1, hg1⟩
      change LR w1 _ lx sx at l1
      have hs9 := hg1.size
      have N1 := hide (FR.out.n.kept hg1 (by simp))
      have R1 := hide (FR.out.r.kept hg1 (by simp))
      have O1 := hide (FR.out.o.kept hg1 (by simp))
      have L1 := hide (FR.out.l.kept hg1 (fun _ hk => by cases hk))
      have G1 : Hid (w.grownBy w1 none) := gb_trans FR.out.g hg1
      have LX : Hid (LR w1 (In wr.heap.size w1.heap.size) lx sx) := l1.bounded
      obtain ⟨ax, cx, rfl⟩ := l1.form
      clear hg1 l1 n0 n1 n2 n3 n4 nz o0 o1 o2 o3 o4 oz c0 c1 c2 c3 c4
      obtain ⟨n0, n1, n2, n3, n4, nz⟩ := N1.out
      obtain ⟨o0, o1, o2, o3, o4, oz⟩ := O1.out
      have nl1 := N1.out.lt
      have ol1 := O1.out.lt
      have hL2 := hide ((L1.out.alloc (.cells #[.int .i64 kx, .string ⟨xx.toArray⟩, .int .i64 mx, .int .i64 px, .slice ax lx.length cx] 24)).alloc (.cells #[.int .i64 kx, .string ⟨xx.toArray⟩, .int .i64 mx, .int .i64 px, .slice ax lx.length cx] 24))
      have hL4 := hide (LR.build1 (w1.alloc (.cells #[.int .i64 kx, .string ⟨xx.toArray⟩, .int .i64 mx, .int .i64 px, .slice ax lx.length cx] 24)) (cs := #[.int .i64 kx, .string ⟨xx.toArray⟩, .int .i64 mx, .int .i64 px, .slice ax lx.length cx]) (t := T.mk kx xx mx px lx) (sv := .slice ax lx.length cx) (g := w1.heap.size + 1) (lo := wr.heap.size) ((LX.out.alloc _).wide (Nat.le_refl _) (by omega)) (by simp) rfl (by omega))
      by_cases hk1 : k = 1
      · subst hk1
        by_cases hk3 : kx = 17
        · subst hk3
          have hglx : lx.length = 2 := by
            have := hgf.1
            cases this with | mk _ _ _ _ _ _ _ _ h3 => exact h3 rfl
          obtain ⟨a, b, rfl⟩ := two_of hglx
          obtain ⟨gx, cx2, sxa, sxb, e9, hcx1, hcx2, nxa, -, -, -⟩ := LR.two LX.out
          cases e9
          unfold maxLen at hcx2
          have hgxl := block_lt nxa.c0
          obtain ⟨y0, -, -, -, -⟩ := nxa
          by_cases hk5 : a.kind = 31
          · have hk6 : (a.kind != 31) = false := by rw [hk5]; rfl
            have hid9 : idleB (T.mk 17 xx mx px [a, b]) = true := by
              unfold idleB
              rw [decide_eq_true (show (T.mk 17 xx mx px [a, b]).kind = 17 from rfl), decide_eq_true (show (subT (T.mk 17 xx mx px [a, b]) 0).kind = 31 from hk5)]
              rfl
            go_wp2_with fail
            refine ⟨⟨j + 1, v, by omega, by go_num, ?_⟩, by simp [intOf]; omega⟩
            refine ⟨(by repeat (first | with_reducible exact N1.out | with_reducible refine NB.far ?_ (by omega) _ _ | with_reducible apply NB.s0 | with_reducible apply NB.s1 | with_reducible apply NB.s2 | with_reducible apply NB.s3 | with_reducible apply NB.s4 | with_reducible refine NB.alloc ?_ _ | with_reducible refine NB.drewN ?_ _ | with_reducible refine NB.drew ?_)), (by repeat (first | with_reducible exact R1.out | with_reducible refine RB.put ?_ _ _ _ | with_reducible refine RB.alloc ?_ _ | with_reducible refine RB.drewN ?_ _ | with_reducible refine RB.drew ?_)), (by repeat (first | with_reducible exact O1.out | with_reducible refine NB.far ?_ (by omega) _ _ | with_reducible apply NB.s0 | with_reducible apply NB.s1 | with_reducible apply NB.s2 | with_reducible apply NB.s3 | with_reducible apply NB.s4 | with_reducible refine NB.alloc ?_ _ | with_reducible refine NB.drewN ?_ _ | with_reducible refine NB.drew ?_)), ?_, (by repeat (first | with_reducible exact G1.out | with_reducible refine gb_put ?_ (by omega) _ _ | with_reducible refine gb_alloc ?_ _ | with_reducible refine gb_drewN ?_ _ | with_reducible refine gb_drew ?_))⟩
            rw [HT.out, if_pos hid9, List.append_nil]
            exact (L1.out.alloc _).wide (Nat.le_refl _) (by simp; omega)
          · have hk6 : (a.kind != 31) = true := by rw [bne_iff_ne]; exact hk5
            have hid9 : idleB (T.mk 17 xx mx px [a, b]) = false := by
              unfold idleB
              rw [decide_eq_false (show ¬ (subT (T.mk 17 xx mx px [a, b]) 0).kind = 31 from hk5), Bool.and_false]
            go_wp2_with (at_builtin
                         refine wpList_appLR rfl _ _ rfl rfl rfl hL2.out hL4.out (by omega) (by omega) (by simp; omega) (by simp) (by simp; omega) ?_
                         intro v5 w5 lr5 hg5
                         have hrow := hL2.out.rows
                         have hs5 := hg5.size
                         simp at hs5
                         have N5 := hide (((N1.out.alloc _).alloc _).kept hg5 (fun e => by have := hrow _ e.symm; omega))
                         have R5 := hide (((R1.out.alloc _).alloc _).kept hg5 (fun e => by have := hrow _ e.symm; omega))
                         have O5 := hide (((O1.out.alloc _).alloc _).kept hg5 (fun e => by have := hrow _ e.symm; omega))
                         have G5 : Hid (w.grownBy w5 none) := gb_own (gb_alloc (gb_alloc G1.out _) _) hg5 (fun b hb => by have := hrow b hb; omega)
                         have L5 := hide lr5
                         have ol5 := O5.out.lt
                         obtain ⟨q0, q1, q2, q3, q4, qz⟩ := O5.out
                         obtain ⟨av, cv, rfl⟩ := lr5.form
                         clear lr5 hg5)
            refine ⟨⟨j + 1, .slice av ((foldL (l.take j)).length + 1) cv, by omega, by go_num, ?_⟩, by simp [intOf]; omega⟩
            have L6 := L5.out
            rw [List.length_append, List.length_singleton] at L6
            refine ⟨N5.out.far (by omega) _ _, R5.out.put _ _ _, O5.out.s4 _, ?_, (by repeat (first | with_reducible exact G5.out | with_reducible refine gb_put ?_ (by omega) _ _ | with_reducible refine gb_alloc ?_ _ | with_reducible refine gb_drewN ?_ _ | with_reducible refine gb_drew ?_))⟩
            rw [HT.out, if_neg (by rw [hid9]; decide)]
            exact (lr_put L6 _ _ _ (fun h => by have := h.1; omega)).mono (fun b hb => ⟨hb.1, by simpa [World.setCell] using hb.2⟩)
        · have hk4 : (kx != 17) = true := by rw [bne_iff_ne]; exact hk3
          have hid9 : idleB (T.mk kx xx mx px lx) = false := not_idle (show (T.mk kx xx mx px lx).kind ≠ 17 from hk3)
          go_wp2_with (at_builtin
                       refine wpList_appLR rfl _ _ rfl rfl rfl hL2.out hL4.out (by omega) (by omega) (by simp; omega) (by simp) (by simp; omega) ?_
                       intro v5 w5 lr5 hg5
                       have hrow := hL2.out.rows
                       have hs5 := hg5.size
                       simp at hs5
                       have N5 := hide (((N1.out.alloc _).alloc _).kept hg5 (fun e => by have := hrow _ e.symm; omega))
                       have R5 := hide (((R1.out.alloc _).alloc _).kept hg5 (fun e => by have := hrow _ e.symm; omega))
                       have O5 := hide (((O1.out.alloc _).alloc _).kept hg5 (fun e => by have := hrow _ e.symm; omega))
                       have G5 : Hid (w.grownBy w5 none) := gb_own (gb_alloc (gb_alloc G1.out _) _) hg5 (fun b hb => by have := hrow b hb; omega)
                       have L5 := hide lr5
                       have ol5 := O5.out.lt
                       obtain ⟨q0, q1, q2, q3, q4, qz⟩ := O5.out
                       obtain ⟨av, cv, rfl⟩ := lr5.form
                       clear lr5 hg5)
          refine ⟨⟨j + 1, .slice av ((foldL (l.take j)).length + 1) cv, by omega, by go_num, ?_⟩, by simp [intOf]; omega⟩
          have L6 := L5.out
          rw [List.length_append, List.length_singleton] at L6
          refine ⟨N5.out.far (by omega) _ _, R5.out.put _ _ _, O5.out.s4 _, ?_, (by repeat (first | with_reducible exact G5.out | with_reducible refine gb_put ?_ (by omega) _ _ | with_reducible refine gb_alloc ?_ _ | with_reducible refine gb_drewN ?_ _ | with_reducible refine gb_drew ?_))⟩
          rw [HT.out, if_neg (by rw [hid9]; decide)]
          exact (lr_put L6 _ _ _ (fun h => by have := h.1; omega)).mono (fun b hb => ⟨hb.1, by simpa [World.setCell] using hb.2⟩)
      · have hk2 : (k != 1) = true := by rw [bne_iff_ne]; exact hk1
        have hid9 : idleB (T.mk kx xx mx px lx) = false := not_idle (hk17 hk1)
        go_wp2_with (at_builtin
                     refine wpList_appLR rfl _ _ rfl rfl rfl hL2.out hL4.out (by omega) (by omega) (by simp; omega) (by simp) (by simp; omega) ?_
                     intro v5 w5 lr5 hg5
                     have hrow := hL2.out.rows
                     have hs5 := hg5.size
                     simp at hs5
                     have N5 := hide (((N1.out.alloc _).alloc _).kept hg5 (fun e => by have := hrow _ e.symm; omega))
                     have R5 := hide (((R1.out.alloc _).alloc _).kept hg5 (fun e => by have := hrow _ e.symm; omega))
                     have O5 := hide (((O1.out.alloc _).alloc _).kept hg5 (fun e => by have := hrow _ e.symm; omega))
                     have G5 : Hid (w.grownBy w5 none) := gb_own (gb_alloc (gb_alloc G1.out _) _) hg5 (fun b hb => by have := hrow b hb; omega)
                     have L5 := hide lr5
                     have ol5 := O5.out.lt
                     obtain ⟨q0, q1, q2, q3, q4, qz⟩ := O5.out
                     obtain ⟨av, cv, rfl⟩ := lr5.form
                     clear lr5 hg5)
        refine ⟨⟨j + 1, .slice av ((foldL (l.take j)).length + 1) cv, by omega, by go_num, ?_⟩, by simp [intOf]; omega⟩
        have L6 := L5.out
        rw [List.length_append, List.length_singleton] at L6
        refine ⟨N5.out.far (by omega) _ _, R5.out.put _ _ _, O5.out.s4 _, ?_, (by repeat (first | with_reducible exact G5.out | with_reducible refine gb_put ?_ (by omega) _ _ | with_reducible refine gb_alloc ?_ _ | with_reducible refine gb_drewN ?_ _ | with_reducible refine gb_drew ?_))⟩
        rw [HT.out, if_neg (by rw [hid9]; decide)]
        exact (lr_put L6 _ _ _ (fun h => by have := h.1; omega)).mono (fun b hb => ⟨hb.1, by simpa [World.setCell] using hb.2⟩)
    · have HX : Hid (foldL (l.take j) = foldL l) := by show _ = _; rw [List.take_of_length_le (by omega)]
      have LF : Hid (LR wr (In (w.heap.size + 3) wr.heap.size) (foldL l) v) := by
        have := FR.out.l
        rw [HX.out] at this
        exact this
      have HE0 : Hid (foldT (.mk k x m p l) = plainT (.mk k x m p (foldL l))) := fold_node
      have HFF : Hid (GT (.mk k x m p (foldL l))) := HF.out
      generalize foldL l = fl at *
      have RG : Hid (wr.grownBy wr none) := gb_refl wr none
      have R0 := hide FR.out.r
      have G0 := hide FR.out.g
      obtain ⟨va, vc, rfl⟩ := LF.out.form
      obtain ⟨_, _, _, _, _, r0, r1, r2, r3, r4, rz⟩ := R0.out
      have rl := R0.out.lt
      clear HX HG HF IH HA
      by_cases h34 : k = 34
      · subst h34
        obtain ⟨a, rfl⟩ : ∃ a, fl = [a] := by
          have := HFF.out
          cases this with | mk _ _ _ _ _ _ h1 => exact one_of (h1 (Or.inl rfl))
        obtain ⟨ka, xa, ma, pa, la⟩ := a
        obtain ⟨g, c, sa9, e9, hc1, hc2, na, la9⟩ := LR.one LF.out
        cases e9
        unfold maxLen at hc2
        obtain ⟨a0, -, -, -, -⟩ := na
        change wr.cell? ⟨g, 0, none⟩ = some (.int .i64 ka) at a0
        have hgl := block_lt a0
        clear la9
        by_cases hk1 : ka = 30
        · subst hk1
          have HE : Hid (foldT (.mk 34 x m p l) = boolT false p) := HE0.out.trans rfl
          go_wp2_with fail
          refine node_ret Tryz.results13 rfl (RB.five R0.out) rfl ?_
          rw [HE.out]
          exact ⟨.slice none 0 0, rfl, LR.nil _ _, (by repeat (first | with_reducible exact G0.out | with_reducible refine gb_put ?_ (by omega) _ _ | with_reducible refine gb_alloc ?_ _ | with_reducible refine gb_drewN ?_ _ | with_reducible refine gb_drew ?_))⟩
        · by_cases hk2 : ka = 31
          · subst hk2
            have HE : Hid (foldT (.mk 34 x m p l) = boolT true p) := HE0.out.trans rfl
            go_wp2_with fail
            refine node_ret Tryz.results13 rfl (RB.five R0.out) rfl ?_
            rw [HE.out]
            exact ⟨.slice none 0 0, rfl, LR.nil _ _, (by repeat (first | with_reducible exact G0.out | with_reducible refine gb_put ?_ (by omega) _ _ | with_reducible refine gb_alloc ?_ _ | with_reducible refine gb_drewN ?_ _ | with_reducible refine gb_drew ?_))⟩
          · have hq1 : (ka == 30) = false := by rw [beq_eq_false_iff_ne]; exact hk1
            have hq2 : (ka == 31) = false := by rw [beq_eq_false_iff_ne]; exact hk2
            have HE : Hid (foldT (.mk 34 x m p l) = .mk 34 x m p [.mk ka xa ma pa la]) := by
              refine HE0.out.trans ?_
              unfold plainT
              rw [if_pos (show (T.mk 34 x m p [.mk ka xa ma pa la]).kind = 34 from rfl), if_neg (show ¬ (subT (T.mk 34 x m p [.mk ka xa ma pa la]) 0).kind = 30 from hk1), if_neg (show ¬ (subT (T.mk 34 x m p [.mk ka xa ma pa la]) 0).kind = 31 from hk2)]
            go_wp2_with fail
            refine node_ret Tryz.results13 rfl (RB.five R0.out) rfl ?_
            rw [HE.out]
            refine ⟨_, rfl, LR.mono (lr_five LF.out ?_ ?_) ?_, ?_⟩
            · exact (by repeat (first | with_reducible exact RG.out | with_reducible refine gb_put ?_ (by omega) _ _ | with_reducible refine gb_alloc ?_ _ | with_reducible refine gb_drewN ?_ _ | with_reducible refine gb_drew ?_))
            · intro h9; have := h9.1; omega
            · intro b hb; have := hb.1; show w.heap.size ≤ b; omega
            · exact (by repeat (first | with_reducible exact G0.out | with_reducible refine gb_put ?_ (by omega) _ _ | with_reducible refine gb_alloc ?_ _ | with_reducible refine gb_drewN ?_ _ | with_reducible refine gb_drew ?_))
      · have hq34 : (k == 34) = false := by rw [beq_eq_false_iff_ne]; exact h34
        by_cases h36 : k = 36
        · subst h36
          obtain ⟨hlen2, hx⟩ : fl.length = 2 ∧ 0 ≤ levelOf x := by
            have := HFF.out
            cases this with | mk _ _ _ _ _ _ _ h2 => exact h2 rfl
          obtain ⟨a, b, rfl⟩ := two_of hlen2
          have ga := HFF.out.sub (u := a) (by simp [T.subs])
          have gb := HFF.out.sub (u := b) (by simp [T.subs])
          obtain ⟨ka, xa, ma, pa, la⟩ := a
          obtain ⟨kb, xb, mb, pb, lb⟩ := b
          obtain ⟨g, c, sa9, sb9, e9, hc1, hc2, na, nb, la9, lb9⟩ := LR.two LF.out
          cases e9
          unfold maxLen at hc2
          obtain ⟨aa, ac, rfl⟩ := la9.form
          obtain ⟨ba, bc, rfl⟩ := lb9.form
          have LA := hide la9
          have LB := hide lb9
          obtain ⟨a0, a1, a2, a3, a4⟩ := na
          obtain ⟨b0, b1, b2, b3, b4⟩ := nb
          change wr.cell? ⟨g, 0, none⟩ = some (.int .i64 ka) at a0
          change wr.cell? ⟨g, 1, none⟩ = some (.string ⟨xa.toArray⟩) at a1
          change wr.cell? ⟨g, 2, none⟩ = some (.int .i64 ma) at a2
          change wr.cell? ⟨g, 3, none⟩ = some (.int .i64 pa) at a3
          change wr.cell? ⟨g, 4, none⟩ = some (.slice aa la.length ac) at a4
          change wr.cell? ⟨g, 5, none⟩ = some (.int .i64 kb) at b0
          change wr.cell? ⟨g, 6, none⟩ = some (.string ⟨xb.toArray⟩) at b1
          change wr.cell? ⟨g, 7, none⟩ = some (.int .i64 mb) at b2
          change wr.cell? ⟨g, 8, none⟩ = some (.int .i64 pb) at b3
          change wr.cell? ⟨g, 9, none⟩ = some (.slice ba lb.length bc) at b4
          have hgl := block_lt a0
          clear la9 lb9
          by_cases e1 : x = [38]
          · subst e1
            by_cases hk1 : ka = 30
            · subst hk1
              have HE : Hid (foldT (.mk 36 [38] m p l) = (.mk kb xb mb pb lb)) := HE0.out.trans rfl
              go_wp2_with fail
              refine node_ret Tryz.results13 rfl (NB.alloc (NB.alloc (RB.five R0.out) _) _) rfl ?_
              rw [HE.out]
              refine ⟨_, rfl, LR.mono (((lr_five LB.out (gb_refl wr none) ?_).alloc _).alloc _) ?_, ?_⟩
              · intro h9; have := h9.1; omega
              · intro b hb; have := hb.1; show w.heap.size ≤ b; omega
              · exact (by repeat (first | with_reducible exact G0.out | with_reducible refine gb_put ?_ (by omega) _ _ | with_reducible refine gb_alloc ?_ _ | with_reducible refine gb_drewN ?_ _ | with_reducible refine gb_drew ?_))
            · by_cases hk2 : ka = 31
              · subst hk2
                have HE : Hid (foldT (.mk 36 [38] m p l) = (.mk 31 xa ma pa la)) := HE0.out.trans rfl
                go_wp2_with fail
                refine node_ret Tryz.results13 rfl (NB.alloc (NB.alloc (RB.five R0.out) _) _) rfl ?_
                rw [HE.out]
                refine ⟨_, rfl, LR.mono (((lr_five LA.out (gb_refl wr none) ?_).alloc _).alloc _) ?_, ?_⟩
                · intro h9; have := h9.1; omega
                · intro b hb; have := hb.1; show w.heap.size ≤ b; omega
                · exact (by repeat (first | with_reducible exact G0.out | with_reducible refine gb_put ?_ (by omega) _ _ | with_reducible refine gb_alloc ?_ _ | with_reducible refine gb_drewN ?_ _ | with_reducible refine gb_drew ?_))
              · have hq1 : (ka == 30) = false := by rw [beq_eq_false_iff_ne]; exact hk1
                have hq2 : (ka == 31) = false := by rw [beq_eq_false_iff_ne]; exact hk2
                have HE : Hid (foldT (.mk 36 [38] m p l) = (.mk 36 [38] m p [(.mk ka xa ma pa la), (.mk kb xb mb pb lb)])) := by
                  refine HE0.out.trans (show opT (.mk 36 [38] m p [(.mk ka xa ma pa la), (.mk kb xb mb pb lb)]) = (.mk 36 [38] m p [(.mk ka xa ma pa la), (.mk kb xb mb pb lb)]) from ?_)
                  unfold opT
                  rw [if_pos (by simp [T.name]), if_neg (show ¬ (subT (.mk 36 [38] m p [(.mk ka xa ma pa la), (.mk kb xb mb pb lb)]) 0).kind = 30 from hk1), if_neg (show ¬ (subT (.mk 36 [38] m p [(.mk ka xa ma pa la), (.mk kb xb mb pb lb)]) 0).kind = 31 from hk2)]
                go_wp2_with fail
                refine node_ret Tryz.results13 rfl (NB.alloc (NB.alloc (RB.five R0.out) _) _) rfl ?_
                rw [HE.out]
                refine ⟨_, rfl, LR.mono (((lr_five LF.out (gb_refl wr none) ?_).alloc _).alloc _) ?_, ?_⟩
                · intro h9; have := h9.1; omega
                · intro b hb; have := hb.1; show w.heap.size ≤ b; omega
                · exact (by repeat (first | with_reducible exact G0.out | with_reducible refine gb_put ?_ (by omega) _ _ | with_reducible refine gb_alloc ?_ _ | with_reducible refine gb_drewN ?_ _ | with_reducible refine gb_drew ?_))
          · by_cases e2 : x = [79, 82]
            · subst e2
              by_cases hk1 : ka = 30
              · subst hk1
                have HE : Hid (foldT (.mk 36 [79, 82] m p l) = (.mk 30 xa ma pa la)) := HE0.out.trans rfl
                go_wp2_with fail
                refine node_ret Tryz.results13 rfl (NB.alloc (NB.alloc (RB.five R0.out) _) _) rfl ?_
                rw [HE.out]
                refine ⟨_, rfl, LR.mono (((lr_five LA.out (gb_refl wr none) ?_).alloc _).alloc _) ?_, ?_⟩
                · intro h9; have := h9.1; omega
                · intro b hb; have := hb.1; show w.heap.size ≤ b; omega
                · exact (by repeat (first | with_reducible exact G0.out | with_reducible refine gb_put ?_ (by omega) _ _ | with_reducible refine gb_alloc ?_ _ | with_reducible refine gb_drewN ?_ _ | with_reducible refine gb_drew ?_))
              · by_cases hk2 : ka = 31
                · subst hk2
                  have HE : Hid (foldT (.mk 36 [79, 82] m p l) = (.mk kb xb mb pb lb)) := HE0.out.trans rfl
                  go_wp2_with fail
                  refine node_ret Tryz.results13 rfl (NB.alloc (NB.alloc (RB.five R0.out) _) _) rfl ?_
                  rw [HE.out]
                  refine ⟨_, rfl, LR.mono (((lr_five LB.out (gb_refl wr none) ?_).alloc _).alloc _) ?_, ?_⟩
                  · intro h9; have := h9.1; omega
                  · intro b hb; have := hb.1; show w.heap.size ≤ b; omega
                  · exact (by repeat (first | with_reducible exact G0.out | with_reducible refine gb_put ?_ (by omega) _ _ | with_reducible refine gb_alloc ?_ _ | with_reducible refine gb_drewN ?_ _ | with_reducible refine gb_drew ?_))
                · have hq1 : (ka == 30) = false := by rw [beq_eq_false_iff_ne]; exact hk1
                  have hq2 : (ka == 31) = false := by rw [beq_eq_false_iff_ne]; exact hk2
                  have HE : Hid (foldT (.mk 36 [79, 82] m p l) = (.mk 36 [79, 82] m p [(.mk ka xa ma pa la), (.mk kb xb mb pb lb)])) := by
                    refine HE0.out.trans (show opT (.mk 36 [79, 82] m p [(.mk ka xa ma pa la), (.mk kb xb mb pb lb)]) = (.mk 36 [79, 82] m p [(.mk ka xa ma pa la), (.mk kb xb mb pb lb)]) from ?_)
                    unfold opT
                    rw [if_pos (by simp [T.name]), if_neg (show ¬ (subT (.mk 36 [79, 82] m p [(.mk ka xa ma pa la), (.mk kb xb mb pb lb)]) 0).kind = 30 from hk1), if_neg (show ¬ (subT (.mk 36 [79, 82] m p [(.mk ka xa ma pa la), (.mk kb xb mb pb lb)]) 0).kind = 31 from hk2)]
                  go_wp2_with fail
                  refine node_ret Tryz.results13 rfl (NB.alloc (NB.alloc (RB.five R0.out) _) _) rfl ?_
                  rw [HE.out]
                  refine ⟨_, rfl, LR.mono (((lr_five LF.out (gb_refl wr none) ?_).alloc _).alloc _) ?_, ?_⟩
                  · intro h9; have := h9.1; omega
                  · intro b hb; have := hb.1; show w.heap.size ≤ b; omega
                  · exact (by repeat (first | with_reducible exact G0.out | with_reducible refine gb_put ?_ (by omega) _ _ | with_reducible refine gb_alloc ?_ _ | with_reducible refine gb_drewN ?_ _ | with_reducible refine gb_drew ?_))
            · have hx1 : (x == [38]) = false := by rw [beq_eq_false_iff_ne]; exact e1
              have hx2 : (x == [79, 82]) = false := by rw [beq_eq_false_iff_ne]; exact e2
              have N0 : Hid (NB ((wr.alloc (.cells #[.int .i64 ka, .string ⟨xa.toArray⟩, .int .i64 ma, .int .i64 pa, .slice aa la.length ac] 24)).alloc (.cells #[.int .i64 kb, .string ⟨xb.toArray⟩, .int .i64 mb, .int .i64 pb, .slice ba lb.length bc] 24)) w.heap.size (.int .i64 36) (.string ⟨x.toArray⟩) (.int .i64 m) (.int .i64 p) (.slice sa l.length sc)) := (FR.out.n.alloc _).alloc _
              have O0 : Hid (NB ((wr.alloc (.cells #[.int .i64 ka, .string ⟨xa.toArray⟩, .int .i64 ma, .int .i64 pa, .slice aa la.length ac] 24)).alloc (.cells #[.int .i64 kb, .string ⟨xb.toArray⟩, .int .i64 mb, .int .i64 pb, .slice ba lb.length bc] 24)) (w.heap.size + 2) (.int .i64 36) (.string ⟨x.toArray⟩) (.int .i64 m) (.int .i64 p) (.slice (some ⟨g, 0, none⟩) 2 vc)) := (FR.out.o.alloc _).alloc _
              have R00 : Hid (RB ((wr.alloc (.cells #[.int .i64 ka, .string ⟨xa.toArray⟩, .int .i64 ma, .int .i64 pa, .slice aa la.length ac] 24)).alloc (.cells #[.int .i64 kb, .string ⟨xb.toArray⟩, .int .i64 mb, .int .i64 pb, .slice ba lb.length bc] 24)) (w.heap.size + 1)) := (FR.out.r.alloc _).alloc _
              have C0 : Hid (NB ((wr.alloc (.cells #[.int .i64 ka, .string ⟨xa.toArray⟩, .int .i64 ma, .int .i64 pa, .slice aa la.length ac] 24)).alloc (.cells #[.int .i64 kb, .string ⟨xb.toArray⟩, .int .i64 mb, .int .i64 pb, .slice ba lb.length bc] 24)) wr.heap.size (.int .i64 ka) (.string ⟨xa.toArray⟩) (.int .i64 ma) (.int .i64 pa) (.slice aa la.length ac)) := (NB.new wr _).alloc _
              have D0 : Hid (NB ((wr.alloc (.cells #[.int .i64 ka, .string ⟨xa.toArray⟩, .int .i64 ma, .int .i64 pa, .slice aa la.length ac] 24)).alloc (.cells #[.int .i64 kb, .string ⟨xb.toArray⟩, .int .i64 mb, .int .i64 pb, .slice ba lb.length bc] 24)) (wr.heap.size + 1) (.int .i64 kb) (.string ⟨xb.toArray⟩) (.int .i64 mb) (.int .i64 pb) (.slice ba lb.length bc)) := NB.new' (by simp)
              have G00 : Hid (w.grownBy ((wr.alloc (.cells #[.int .i64 ka, .string ⟨xa.toArray⟩, .int .i64 ma, .int .i64 pa, .slice aa la.length ac] 24)).alloc (.cells #[.int .i64 kb, .string ⟨xb.toArray⟩, .int .i64 mb, .int .i64 pb, .slice ba lb.length bc] 24)) none) := gb_alloc (gb_alloc FR.out.g _) _
              have RG0 : Hid (wr.grownBy ((wr.alloc (.cells #[.int .i64 ka, .string ⟨xa.toArray⟩, .int .i64 ma, .int .i64 pa, .slice aa la.length ac] 24)).alloc (.cells #[.int .i64 kb, .string ⟨xb.toArray⟩, .int .i64 mb, .int .i64 pb, .slice ba lb.length bc] 24)) none) := gb_alloc (gb_alloc (gb_refl wr none) _) _
              cases hu : numOf (.mk ka xa ma pa la) with
              | none =>
                have HE : Hid (foldT (.mk 36 x m p l) = (.mk 36 x m p [(.mk ka xa ma pa la), (.mk kb xb mb pb lb)])) := by
                  refine HE0.out.trans (show opT (.mk 36 x m p [(.mk ka xa ma pa la), (.mk kb xb mb pb lb)]) = _ from ?_)
                  unfold opT
                  rw [if_neg (show ¬ ((T.mk 36 x m p [(.mk ka xa ma pa la), (.mk kb xb mb pb lb)]).name = [38] ∨ (T.mk 36 x m p [(.mk ka xa ma pa la), (.mk kb xb mb pb lb)]).name = [79, 82]) from fun h => h.elim e1 e2), show subT (.mk 36 x m p [(.mk ka xa ma pa la), (.mk kb xb mb pb lb)]) 0 = (.mk ka xa ma pa la) from rfl, show subT (.mk 36 x m p [(.mk ka xa ma pa la), (.mk kb xb mb pb lb)]) 1 = (.mk kb xb mb pb lb) from rfl, hu]
                cases hv : numOf (.mk kb xb mb pb lb) with
                | none =>
                  have HC1 := fun (w' : World) (hg : wr.grownBy w' none) => hide (numberOf_none (.mk ka xa ma pa la) (.slice aa la.length ac) _ w' (LA.out.kept hg (fun _ hk => by cases hk)) ga hu)
                  go_wp2_with fail
                  go_at_call 32
                  refine ((HC1 _ (by repeat (first | with_reducible exact RG.out | with_reducible refine gb_put ?_ (by omega) _ _ | with_reducible refine gb_alloc ?_ _ | with_reducible refine gb_drewN ?_ _ | with_reducible refine gb_drew ?_))).out).mono ?_
                  rintro e w1 ⟨rfl, hg1⟩
                  have N1 := hide (N0.out.kept hg1 (by simp))
                  have O1 := hide (O0.out.kept hg1 (by simp))
                  have C1 := hide (C0.out.kept hg1 (by simp))
                  have D1 := hide (D0.out.kept hg1 (by simp))
                  have R1 := hide (R00.out.kept hg1 (by simp))
                  have G1 : Hid (w.grownBy w1 none) := gb_trans G00.out hg1
                  have RG1 : Hid (wr.grownBy w1 none) := gb_trans RG0.out hg1
                  have nl1 := N1.out.lt
                  have dl1 := D1.out.lt
                  have rsz1 := RG1.out.size
                  have rl1 := R1.out.lt
                  clear hg1
                  clear n0 n1 n2 n3 n4 nz o0 o1 o2 o3 o4 oz r0 r1 r2 r3 r4 rz
                  obtain ⟨n0, n1, n2, n3, n4, nz⟩ := N1.out
                  obtain ⟨o0, o1, o2, o3, o4, oz⟩ := O1.out
                  obtain ⟨c0, c1, c2, c3, c4, cz⟩ := C1.out
                  obtain ⟨d0, d1, d2, d3, d4, dz⟩ := D1.out
                  obtain ⟨_, _, _, _, _, r0, r1, r2, r3, r4, rz⟩ := R1.out
                  have HC2 := fun (w' : World) (hg : wr.grownBy w' none) => hide (numberOf_none (.mk kb xb mb pb lb) (.slice ba lb.length bc) _ w' (LB.out.kept hg (fun _ hk => by cases hk)) gb hv)
                  go_wp2_with fail
                  go_at_call 32
                  refine ((HC2 _ (by repeat (first | with_reducible exact RG1.out | with_reducible refine gb_put ?_ (by omega) _ _ | with_reducible refine gb_alloc ?_ _ | with_reducible refine gb_drewN ?_ _ | with_reducible refine gb_drew ?_))).out).mono ?_
                  rintro e w2 ⟨rfl, hg2⟩
                  have N2 := hide (N1.out.kept hg2 (by simp))
                  have O2 := hide (O1.out.kept hg2 (by simp))
                  have C2 := hide (C1.out.kept hg2 (by simp))
                  have D2 := hide (D1.out.kept hg2 (by simp))
                  have R2 := hide (R1.out.kept hg2 (by simp))
                  have G2 : Hid (w.grownBy w2 none) := gb_trans G1.out hg2
                  have RG2 : Hid (wr.grownBy w2 none) := gb_trans RG1.out hg2
                  have nl2 := N2.out.lt
                  have dl2 := D2.out.lt
                  have rsz2 := RG2.out.size
                  have rl2 := R2.out.lt
                  clear hg2
                  clear n0 n1 n2 n3 n4 nz o0 o1 o2 o3 o4 oz r0 r1 r2 r3 r4 rz
                  clear c0 c1 c2 c3 c4 cz d0 d1 d2 d3 d4 dz
                  obtain ⟨n0, n1, n2, n3, n4, nz⟩ := N2.out
                  obtain ⟨o0, o1, o2, o3, o4, oz⟩ := O2.out
                  obtain ⟨c0, c1, c2, c3, c4, cz⟩ := C2.out
                  obtain ⟨d0, d1, d2, d3, d4, dz⟩ := D2.out
                  obtain ⟨_, _, _, _, _, r0, r1, r2, r3, r4, rz⟩ := R2.out
                  go_wp2_with fail
                  refine node_ret Tryz.results13 rfl (RB.five R2.out) rfl ?_
                  rw [HE.out]
                  refine ⟨_, rfl, LR.mono (lr_five LF.out ?_ ?_) ?_, ?_⟩
                  · exact (by repeat (first | with_reducible exact RG2.out | with_reducible refine gb_put ?_ (by omega) _ _ | with_reducible refine gb_alloc ?_ _ | with_reducible refine gb_drewN ?_ _ | with_reducible refine gb_drew ?_))
                  · intro h9; have := h9.1; omega
                  · intro b hb; have := hb.1; show w.heap.size ≤ b; omega
                  · exact (by repeat (first | with_reducible exact G2.out | with_reducible refine gb_put ?_ (by omega) _ _ | with_reducible refine gb_alloc ?_ _ | with_reducible refine gb_drewN ?_ _ | with_reducible refine gb_drew ?_))
                | some v =>
                  have HC1 := fun (w' : World) (hg : wr.grownBy w' none) => hide (numberOf_none (.mk ka xa ma pa la) (.slice aa la.length ac) _ w' (LA.out.kept hg (fun _ hk => by cases hk)) ga hu)
                  go_wp2_with fail
                  go_at_call 32
                  refine ((HC1 _ (by repeat (first | with_reducible exact RG.out | with_reducible refine gb_put ?_ (by omega) _ _ | with_reducible refine gb_alloc ?_ _ | with_reducible refine gb_drewN ?_ _ | with_reducible refine gb_drew ?_))).out).mono ?_
                  rintro e w1 ⟨rfl, hg1⟩
                  have N1 := hide (N0.out.kept hg1 (by simp))
                  have O1 := hide (O0.out.kept hg1 (by simp))
                  have C1 := hide (C0.out.kept hg1 (by simp))
                  have D1 := hide (D0.out.kept hg1 (by simp))
                  have R1 := hide (R00.out.kept hg1 (by simp))
                  have G1 : Hid (w.grownBy w1 none) := gb_trans G00.out hg1
                  have RG1 : Hid (wr.grownBy w1 none) := gb_trans RG0.out hg1
                  have nl1 := N1.out.lt
                  have dl1 := D1.out.lt
                  have rsz1 := RG1.out.size
                  have rl1 := R1.out.lt
                  clear hg1
                  clear n0 n1 n2 n3 n4 nz o0 o1 o2 o3 o4 oz r0 r1 r2 r3 r4 rz
                  obtain ⟨n0, n1, n2, n3, n4, nz⟩ := N1.out
                  obtain ⟨o0, o1, o2, o3, o4, oz⟩ := O1.out
                  obtain ⟨c0, c1, c2, c3, c4, cz⟩ := C1.out
                  obtain ⟨d0, d1, d2, d3, d4, dz⟩ := D1.out
                  obtain ⟨_, _, _, _, _, r0, r1, r2, r3, r4, rz⟩ := R1.out
                  have HC2 := fun (w' : World) (hg : wr.grownBy w' none) => hide (numberOf_some (.mk kb xb mb pb lb) (.slice ba lb.length bc) _ w' (LB.out.kept hg (fun _ hk => by cases hk)) gb hv)
                  go_wp2_with fail
                  go_at_call 32
                  refine ((HC2 _ (by repeat (first | with_reducible exact RG1.out | with_reducible refine gb_put ?_ (by omega) _ _ | with_reducible refine gb_alloc ?_ _ | with_reducible refine gb_drewN ?_ _ | with_reducible refine gb_drew ?_))).out).mono ?_
                  rintro e w2 ⟨rfl, hg2⟩
                  have N2 := hide (N1.out.kept hg2 (by simp))
                  have O2 := hide (O1.out.kept hg2 (by simp))
                  have C2 := hide (C1.out.kept hg2 (by simp))
                  have D2 := hide (D1.out.kept hg2 (by simp))
                  have R2 := hide (R1.out.kept hg2 (by simp))
                  have G2 : Hid (w.grownBy w2 none) := gb_trans G1.out hg2
                  have RG2 : Hid (wr.grownBy w2 none) := gb_trans RG1.out hg2
                  have nl2 := N2.out.lt
                  have dl2 := D2.out.lt
                  have rsz2 := RG2.out.size
                  have rl2 := R2.out.lt
                  clear hg2
                  clear n0 n1 n2 n3 n4 nz o0 o1 o2 o3 o4 oz r0 r1 r2 r3 r4 rz
                  clear c0 c1 c2 c3 c4 cz d0 d1 d2 d3 d4 dz
                  obtain ⟨n0, n1, n2, n3, n4, nz⟩ := N2.out
                  obtain ⟨o0, o1, o2, o3, o4, oz⟩ := O2.out
                  obtain ⟨c0, c1, c2, c3, c4, cz⟩ := C2.out
                  obtain ⟨d0, d1, d2, d3, d4, dz⟩ := D2.out
                  obtain ⟨_, _, _, _, _, r0, r1, r2, r3, r4, rz⟩ := R2.out
                  go_wp2_with fail
                  refine node_ret Tryz.results13 rfl (RB.five R2.out) rfl ?_
                  rw [HE.out]
                  refine ⟨_, rfl, LR.mono (lr_five LF.out ?_ ?_) ?_, ?_⟩
                  · exact (by repeat (first | with_reducible exact RG2.out | with_reducible refine gb_put ?_ (by omega) _ _ | with_reducible refine gb_alloc ?_ _ | with_reducible refine gb_drewN ?_ _ | with_reducible refine gb_drew ?_))
                  · intro h9; have := h9.1; omega
                  · intro b hb; have := hb.1; show w.heap.size ≤ b; omega
                  · exact (by repeat (first | with_reducible exact G2.out | with_reducible refine gb_put ?_ (by omega) _ _ | with_reducible refine gb_alloc ?_ _ | with_reducible refine gb_drewN ?_ _ | with_reducible refine gb_drew ?_))
              | some u =>
                cases hv : numOf (.mk kb xb mb pb lb) with
                | none =>
                  have HE : Hid (foldT (.mk 36 x m p l) = (.mk 36 x m p [(.mk ka xa ma pa la), (.mk kb xb mb pb lb)])) := by
                    refine HE0.out.trans (show opT (.mk 36 x m p [(.mk ka xa ma pa la), (.mk kb xb mb pb lb)]) = _ from ?_)
                    unfold opT
                    rw [if_neg (show ¬ ((T.mk 36 x m p [(.mk ka xa ma pa la), (.mk kb xb mb pb lb)]).name = [38] ∨ (T.mk 36 x m p [(.mk ka xa ma pa la), (.mk kb xb mb pb lb)]).name = [79, 82]) from fun h => h.elim e1 e2), show subT (.mk 36 x m p [(.mk ka xa ma pa la), (.mk kb xb mb pb lb)]) 0 = (.mk ka xa ma pa la) from rfl, show subT (.mk 36 x m p [(.mk ka xa ma pa la), (.mk kb xb mb pb lb)]) 1 = (.mk kb xb mb pb lb) from rfl, hu, hv]
                  have HC1 := fun (w' : World) (hg : wr.grownBy w' none) => hide (numberOf_some (.mk ka xa ma pa la) (.slice aa la.length ac) _ w' (LA.out.kept hg (fun _ hk => by cases hk)) ga hu)
                  go_wp2_with fail
                  go_at_call 32
                  refine ((HC1 _ (by repeat (first | with_reducible exact RG.out | with_reducible refine gb_put ?_ (by omega) _ _ | with_reducible refine gb_alloc ?_ _ | with_reducible refine gb_drewN ?_ _ | with_reducible refine gb_drew ?_))).out).mono ?_
                  rintro e w1 ⟨rfl, hg1⟩
                  have N1 := hide (N0.out.kept hg1 (by simp))
                  have O1 := hide (O0.out.kept hg1 (by simp))
                  have C1 := hide (C0.out.kept hg1 (by simp))
                  have D1 := hide (D0.out.kept hg1 (by simp))
                  have R1 := hide (R00.out.kept hg1 (by simp))
                  have G1 : Hid (w.grownBy w1 none) := gb_trans G00.out hg1
                  have RG1 : Hid (wr.grownBy w1 none) := gb_trans RG0.out hg1
                  have nl1 := N1.out.lt
                  have dl1 := D1.out.lt
                  have rsz1 := RG1.out.size
                  have rl1 := R1.out.lt
                  clear hg1
                  clear n0 n1 n2 n3 n4 nz o0 o1 o2 o3 o4 oz r0 r1 r2 r3 r4 rz
                  obtain ⟨n0, n1, n2, n3, n4, nz⟩ := N1.out
                  obtain ⟨o0, o1, o2, o3, o4, oz⟩ := O1.out
                  obtain ⟨c0, c1, c2, c3, c4, cz⟩ := C1.out
                  obtain ⟨d0, d1, d2, d3, d4, dz⟩ := D1.out
                  obtain ⟨_, _, _, _, _, r0, r1, r2, r3, r4, rz⟩ := R1.out
                  have HC2 := fun (w' : World) (hg : wr.grownBy w' none) => hide (numberOf_none (.mk kb xb mb pb lb) (.slice ba lb.length bc) _ w' (LB.out.kept hg (fun _ hk => by cases hk)) gb hv)
                  go_wp2_with fail
                  go_at_call 32
                  refine ((HC2 _ (by repeat (first | with_reducible exact RG1.out | with_reducible refine gb_put ?_ (by omega) _ _ | with_reducible refine gb_alloc ?_ _ | with_reducible refine gb_drewN ?_ _ | with_reducible refine gb_drew ?_))).out).mono ?_
                  rintro e w2 ⟨rfl, hg2⟩
                  have N2 := hide (N1.out.kept hg2 (by simp))
                  have O2 := hide (O1.out.kept hg2 (by simp))
                  have C2 := hide (C1.out.kept hg2 (by simp))
                  have D2 := hide (D1.out.kept hg2 (by simp))
                  have R2 := hide (R1.out.kept hg2 (by simp))
                  have G2 : Hid (w.grownBy w2 none) := gb_trans G1.out hg2
                  have RG2 : Hid (wr.grownBy w2 none) := gb_trans RG1.out hg2
                  have nl2 := N2.out.lt
                  have dl2 := D2.out.lt
                  have rsz2 := RG2.out.size
                  have rl2 := R2.out.lt
                  clear hg2
                  clear n0 n1 n2 n3 n4 nz o0 o1 o2 o3 o4 oz r0 r1 r2 r3 r4 rz
                  clear c0 c1 c2 c3 c4 cz d0 d1 d2 d3 d4 dz
                  obtain ⟨n0, n1, n2, n3, n4, nz⟩ := N2.out
                  obtain ⟨o0, o1, o2, o3, o4, oz⟩ := O2.out
                  obtain ⟨c0, c1, c2, c3, c4, cz⟩ := C2.out
                  obtain ⟨d0, d1, d2, d3, d4, dz⟩ := D2.out
                  obtain ⟨_, _, _, _, _, r0, r1, r2, r3, r4, rz⟩ := R2.out
                  go_wp2_with fail
                  refine node_ret Tryz.results13 rfl (RB.five R2.out) rfl ?_
                  rw [HE.out]
                  refine ⟨_, rfl, LR.mono (lr_five LF.out ?_ ?_) ?_, ?_⟩
                  · exact (by repeat (first | with_reducible exact RG2.out | with_reducible refine gb_put ?_ (by omega) _ _ | with_reducible refine gb_alloc ?_ _ | with_reducible refine gb_drewN ?_ _ | with_reducible refine gb_drew ?_))
                  · intro h9; have := h9.1; omega
                  · intro b hb; have := hb.1; show w.heap.size ≤ b; omega
                  · exact (by repeat (first | with_reducible exact G2.out | with_reducible refine gb_put ?_ (by omega) _ _ | with_reducible refine gb_alloc ?_ _ | with_reducible refine gb_drewN ?_ _ | with_reducible refine gb_drew ?_))
                | some v =>
                  have hru := numOf_rng ga hu
                  have hrv := numOf_rng gb hv
                  have HE1 : Hid (foldT (.mk 36 x m p l) = workT (.mk 36 x m p [(.mk ka xa ma pa la), (.mk kb xb mb pb lb)]) u v) := by
                    refine HE0.out.trans (show opT (.mk 36 x m p [(.mk ka xa ma pa la), (.mk kb xb mb pb lb)]) = _ from ?_)
                    unfold opT
                    rw [if_neg (show ¬ ((T.mk 36 x m p [(.mk ka xa ma pa la), (.mk kb xb mb pb lb)]).name = [38] ∨ (T.mk 36 x m p [(.mk ka xa ma pa la), (.mk kb xb mb pb lb)]).name = [79, 82]) from fun h => h.elim e1 e2), show subT (.mk 36 x m p [(.mk ka xa ma pa la), (.mk kb xb mb pb lb)]) 0 = (.mk ka xa ma pa la) from rfl, show subT (.mk 36 x m p [(.mk ka xa ma pa la), (.mk kb xb mb pb lb)]) 1 = (.mk kb xb mb pb lb) from rfl, hu, hv]
                  by_cases hl0 : levelOf x = 0
                  · have hl1 : (levelOf x == 0) = true := by rw [hl0]; rfl
                    cases hr : relZ x u v with
                    | true =>
                      have HE : Hid (foldT (.mk 36 x m p l) = boolT true p) := by
                        refine HE1.out.trans ?_
                        unfold workT
                        rw [if_pos (show levelOf (T.mk 36 x m p [(.mk ka xa ma pa la), (.mk kb xb mb pb lb)]).name = 0 from hl0), show relZ (T.mk 36 x m p [(.mk ka xa ma pa la), (.mk kb xb mb pb lb)]).name u v = true from hr]
                        rfl
                      have HC1 := fun (w' : World) (hg : wr.grownBy w' none) => hide (numberOf_some (.mk ka xa ma pa la) (.slice aa la.length ac) _ w' (LA.out.kept hg (fun _ hk => by cases hk)) ga hu)
                      go_wp2_with fail
                      go_at_call 32
                      refine ((HC1 _ (by repeat (first | with_reducible exact RG.out | with_reducible refine gb_put ?_ (by omega) _ _ | with_reducible refine gb_alloc ?_ _ | with_reducible refine gb_drewN ?_ _ | with_reducible refine gb_drew ?_))).out).mono ?_
                      rintro e w1 ⟨rfl, hg1⟩
                      have N1 := hide (N0.out.kept hg1 (by simp))
                      have O1 := hide (O0.out.kept hg1 (by simp))
                      have C1 := hide (C0.out.kept hg1 (by simp))
                      have D1 := hide (D0.out.kept hg1 (by simp))
                      have R1 := hide (R00.out.kept hg1 (by simp))
                      have G1 : Hid (w.grownBy w1 none) := gb_trans G00.out hg1
                      have RG1 : Hid (wr.grownBy w1 none) := gb_trans RG0.out hg1
                      have nl1 := N1.out.lt
                      have dl1 := D1.out.lt
                      have rsz1 := RG1.out.size
                      have rl1 := R1.out.lt
                      clear hg1
                      clear n0 n1 n2 n3 n4 nz o0 o1 o2 o3 o4 oz r0 r1 r2 r3 r4 rz
                      obtain ⟨n0, n1, n2, n3, n4, nz⟩ := N1.out
                      obtain ⟨o0, o1, o2, o3, o4, oz⟩ := O1.out
                      obtain ⟨c0, c1, c2, c3, c4, cz⟩ := C1.out
                      obtain ⟨d0, d1, d2, d3, d4, dz⟩ := D1.out
                      obtain ⟨_, _, _, _, _, r0, r1, r2, r3, r4, rz⟩ := R1.out
                      have HC2 := fun (w' : World) (hg : wr.grownBy w' none) => hide (numberOf_some (.mk kb xb mb pb lb) (.slice ba lb.length bc) _ w' (LB.out.kept hg (fun _ hk => by cases hk)) gb hv)
                      go_wp2_with fail
                      go_at_call 32
                      refine ((HC2 _ (by repeat (first | with_reducible exact RG1.out | with_reducible refine gb_put ?_ (by omega) _ _ | with_reducible refine gb_alloc ?_ _ | with_reducible refine gb_drewN ?_ _ | with_reducible refine gb_drew ?_))).out).mono ?_
                      rintro e w2 ⟨rfl, hg2⟩
                      have N2 := hide (N1.out.kept hg2 (by simp))
                      have O2 := hide (O1.out.kept hg2 (by simp))
                      have C2 := hide (C1.out.kept hg2 (by simp))
                      have D2 := hide (D1.out.kept hg2 (by simp))
                      have R2 := hide (R1.out.kept hg2 (by simp))
                      have G2 : Hid (w.grownBy w2 none) := gb_trans G1.out hg2
                      have RG2 : Hid (wr.grownBy w2 none) := gb_trans RG1.out hg2
                      have nl2 := N2.out.lt
                      have dl2 := D2.out.lt
                      have rsz2 := RG2.out.size
                      have rl2 := R2.out.lt
                      clear hg2
                      clear n0 n1 n2 n3 n4 nz o0 o1 o2 o3 o4 oz r0 r1 r2 r3 r4 rz
                      clear c0 c1 c2 c3 c4 cz d0 d1 d2 d3 d4 dz
                      obtain ⟨n0, n1, n2, n3, n4, nz⟩ := N2.out
                      obtain ⟨o0, o1, o2, o3, o4, oz⟩ := O2.out
                      obtain ⟨c0, c1, c2, c3, c4, cz⟩ := C2.out
                      obtain ⟨d0, d1, d2, d3, d4, dz⟩ := D2.out
                      obtain ⟨_, _, _, _, _, r0, r1, r2, r3, r4, rz⟩ := R2.out
                      have HC3 := fun (w' : World) (hg : wr.grownBy w' none) => hide (rlevel_x x w')
                      go_wp2_with fail
                      go_at_call 33
                      refine ((HC3 _ (by repeat (first | with_reducible exact RG2.out | with_reducible refine gb_put ?_ (by omega) _ _ | with_reducible refine gb_alloc ?_ _ | with_reducible refine gb_drewN ?_ _ | with_reducible refine gb_drew ?_))).out).mono ?_
                      rintro e w3 ⟨rfl, hg3⟩
                      have N3 := hide (N2.out.kept hg3 (by simp))
                      have O3 := hide (O2.out.kept hg3 (by simp))
                      have C3 := hide (C2.out.kept hg3 (by simp))
                      have D3 := hide (D2.out.kept hg3 (by simp))
                      have R3 := hide (R2.out.kept hg3 (by simp))
                      have G3 : Hid (w.grownBy w3 none) := gb_trans G2.out hg3
                      have RG3 : Hid (wr.grownBy w3 none) := gb_trans RG2.out hg3
                      have nl3 := N3.out.lt
                      have dl3 := D3.out.lt
                      have rsz3 := RG3.out.size
                      have rl3 := R3.out.lt
                      clear hg3
                      clear n0 n1 n2 n3 n4 nz o0 o1 o2 o3 o4 oz r0 r1 r2 r3 r4 rz
                      clear c0 c1 c2 c3 c4 cz d0 d1 d2 d3 d4 dz
                      obtain ⟨n0, n1, n2, n3, n4, nz⟩ := N3.out
                      obtain ⟨o0, o1, o2, o3, o4, oz⟩ := O3.out
                      obtain ⟨c0, c1, c2, c3, c4, cz⟩ := C3.out
                      obtain ⟨d0, d1, d2, d3, d4, dz⟩ := D3.out
                      obtain ⟨_, _, _, _, _, r0, r1, r2, r3, r4, rz⟩ := R3.out
                      have HC4 := fun (w' : World) (hg : wr.grownBy w' none) => hide (relates_eq hl0 u v hr w')
                      go_wp2_with fail
                      go_at_call 34
                      refine ((HC4 _ (by repeat (first | with_reducible exact RG3.out | with_reducible refine gb_put ?_ (by omega) _ _ | with_reducible refine gb_alloc ?_ _ | with_reducible refine gb_drewN ?_ _ | with_reducible refine gb_drew ?_))).out).mono ?_
                      rintro e w4 ⟨rfl, hg4⟩
                      have N4 := hide (N3.out.kept hg4 (by simp))
                      have O4 := hide (O3.out.kept hg4 (by simp))
                      have C4 := hide (C3.out.kept hg4 (by simp))
                      have D4 := hide (D3.out.kept hg4 (by simp))
                      have R4 := hide (R3.out.kept hg4 (by simp))
                      have G4 : Hid (w.grownBy w4 none) := gb_trans G3.out hg4
                      have RG4 : Hid (wr.grownBy w4 none) := gb_trans RG3.out hg4
                      have nl4 := N4.out.lt
                      have dl4 := D4.out.lt
                      have rsz4 := RG4.out.size
                      have rl4 := R4.out.lt
                      clear hg4
                      clear n0 n1 n2 n3 n4 nz o0 o1 o2 o3 o4 oz r0 r1 r2 r3 r4 rz
                      clear c0 c1 c2 c3 c4 cz d0 d1 d2 d3 d4 dz
                      obtain ⟨n0, n1, n2, n3, n4, nz⟩ := N4.out
                      obtain ⟨o0, o1, o2, o3, o4, oz⟩ := O4.out
                      obtain ⟨c0, c1, c2, c3, c4, cz⟩ := C4.out
                      obtain ⟨d0, d1, d2, d3, d4, dz⟩ := D4.out
                      obtain ⟨_, _, _, _, _, r0, r1, r2, r3, r4, rz⟩ := R4.out
                      go_wp2_with fail
                      refine node_ret Tryz.results13 rfl (RB.five R4.out) rfl ?_
                      rw [HE.out]
                      exact ⟨.slice none 0 0, rfl, LR.nil _ _, (by repeat (first | with_reducible exact G4.out | with_reducible refine gb_put ?_ (by omega) _ _ | with_reducible refine gb_alloc ?_ _ | with_reducible refine gb_drewN ?_ _ | with_reducible refine gb_drew ?_))⟩
                    | false =>
                      have HE : Hid (foldT (.mk 36 x m p l) = boolT false p) := by
                        refine HE1.out.trans ?_
                        unfold workT
                        rw [if_pos (show levelOf (T.mk 36 x m p [(.mk ka xa ma pa la), (.mk kb xb mb pb lb)]).name = 0 from hl0), show relZ (T.mk 36 x m p [(.mk ka xa ma pa la), (.mk kb xb mb pb lb)]).name u v = false from hr]
                        rfl
                      have HC1 := fun (w' : World) (hg : wr.grownBy w' none) => hide (numberOf_some (.mk ka xa ma pa la) (.slice aa la.length ac) _ w' (LA.out.kept hg (fun _ hk => by cases hk)) ga hu)
                      go_wp2_with fail
                      go_at_call 32
                      refine ((HC1 _ (by repeat (first | with_reducible exact RG.out | with_reducible refine gb_put ?_ (by omega) _ _ | with_reducible refine gb_alloc ?_ _ | with_reducible refine gb_drewN ?_ _ | with_reducible refine gb_drew ?_))).out).mono ?_
                      rintro e w1 ⟨rfl, hg1⟩
                      have N1 := hide (N0.out.kept hg1 (by simp))
                      have O1 := hide (O0.out.kept hg1 (by simp))
                      have C1 := hide (C0.out.kept hg1 (by simp))
                      have D1 := hide (D0.out.kept hg1 (by simp))
                      have R1 := hide (R00.out.kept hg1 (by simp))
                      have G1 : Hid (w.grownBy w1 none) := gb_trans G00.out hg1
                      have RG1 : Hid (wr.grownBy w1 none) := gb_trans RG0.out hg1
                      have nl1 := N1.out.lt
                      have dl1 := D1.out.lt
                      have rsz1 := RG1.out.size
                      have rl1 := R1.out.lt
                      clear hg1
                      clear n0 n1 n2 n3 n4 nz o0 o1 o2 o3 o4 oz r0 r1 r2 r3 r4 rz
                      obtain ⟨n0, n1, n2, n3, n4, nz⟩ := N1.out
                      obtain ⟨o0, o1, o2, o3, o4, oz⟩ := O1.out
                      obtain ⟨c0, c1, c2, c3, c4, cz⟩ := C1.out
                      obtain ⟨d0, d1, d2, d3, d4, dz⟩ := D1.out
                      obtain ⟨_, _, _, _, _, r0, r1, r2, r3, r4, rz⟩ := R1.out
                      have HC2 := fun (w' : World) (hg : wr.grownBy w' none) => hide (numberOf_some (.mk kb xb mb pb lb) (.slice ba lb.length bc) _ w' (LB.out.kept hg (fun _ hk => by cases hk)) gb hv)
                      go_wp2_with fail
                      go_at_call 32
                      refine ((HC2 _ (by repeat (first | with_reducible exact RG1.out | with_reducible refine gb_put ?_ (by omega) _ _ | with_reducible refine gb_alloc ?_ _ | with_reducible refine gb_drewN ?_ _ | with_reducible refine gb_drew ?_))).out).mono ?_
                      rintro e w2 ⟨rfl, hg2⟩
                      have N2 := hide (N1.out.kept hg2 (by simp))
                      have O2 := hide (O1.out.kept hg2 (by simp))
                      have C2 := hide (C1.out.kept hg2 (by simp))
                      have D2 := hide (D1.out.kept hg2 (by simp))
                      have R2 := hide (R1.out.kept hg2 (by simp))
                      have G2 : Hid (w.grownBy w2 none) := gb_trans G1.out hg2
                      have RG2 : Hid (wr.grownBy w2 none) := gb_trans RG1.out hg2
                      have nl2 := N2.out.lt
                      have dl2 := D2.out.lt
                      have rsz2 := RG2.out.size
                      have rl2 := R2.out.lt
                      clear hg2
                      clear n0 n1 n2 n3 n4 nz o0 o1 o2 o3 o4 oz r0 r1 r2 r3 r4 rz
                      clear c0 c1 c2 c3 c4 cz d0 d1 d2 d3 d4 dz
                      obtain ⟨n0, n1, n2, n3, n4, nz⟩ := N2.out
                      obtain ⟨o0, o1, o2, o3, o4, oz⟩ := O2.out
                      obtain ⟨c0, c1, c2, c3, c4, cz⟩ := C2.out
                      obtain ⟨d0, d1, d2, d3, d4, dz⟩ := D2.out
                      obtain ⟨_, _, _, _, _, r0, r1, r2, r3, r4, rz⟩ := R2.out
                      have HC3 := fun (w' : World) (hg : wr.grownBy w' none) => hide (rlevel_x x w')
                      go_wp2_with fail
                      go_at_call 33
                      refine ((HC3 _ (by repeat (first | with_reducible exact RG2.out | with_reducible refine gb_put ?_ (by omega) _ _ | with_reducible refine gb_alloc ?_ _ | with_reducible refine gb_drewN ?_ _ | with_reducible refine gb_drew ?_))).out).mono ?_
                      rintro e w3 ⟨rfl, hg3⟩
                      have N3 := hide (N2.out.kept hg3 (by simp))
                      have O3 := hide (O2.out.kept hg3 (by simp))
                      have C3 := hide (C2.out.kept hg3 (by simp))
                      have D3 := hide (D2.out.kept hg3 (by simp))
                      have R3 := hide (R2.out.kept hg3 (by simp))
                      have G3 : Hid (w.grownBy w3 none) := gb_trans G2.out hg3
                      have RG3 : Hid (wr.grownBy w3 none) := gb_trans RG2.out hg3
                      have nl3 := N3.out.lt
                      have dl3 := D3.out.lt
                      have rsz3 := RG3.out.size
                      have rl3 := R3.out.lt
                      clear hg3
                      clear n0 n1 n2 n3 n4 nz o0 o1 o2 o3 o4 oz r0 r1 r2 r3 r4 rz
                      clear c0 c1 c2 c3 c4 cz d0 d1 d2 d3 d4 dz
                      obtain ⟨n0, n1, n2, n3, n4, nz⟩ := N3.out
                      obtain ⟨o0, o1, o2, o3, o4, oz⟩ := O3.out
                      obtain ⟨c0, c1, c2, c3, c4, cz⟩ := C3.out
                      obtain ⟨d0, d1, d2, d3, d4, dz⟩ := D3.out
                      obtain ⟨_, _, _, _, _, r0, r1, r2, r3, r4, rz⟩ := R3.out
                      have HC4 := fun (w' : World) (hg : wr.grownBy w' none) => hide (relates_eq hl0 u v hr w')
                      go_wp2_with fail
                      go_at_call 34
                      refine ((HC4 _ (by repeat (first | with_reducible exact RG3.out | with_reducible refine gb_put ?_ (by omega) _ _ | with_reducible refine gb_alloc ?_ _ | with_reducible refine gb_drewN ?_ _ | with_reducible refine gb_drew ?_))).out).mono ?_
                      rintro e w4 ⟨rfl, hg4⟩
                      have N4 := hide (N3.out.kept hg4 (by simp))
                      have O4 := hide (O3.out.kept hg4 (by simp))
                      have C4 := hide (C3.out.kept hg4 (by simp))
                      have D4 := hide (D3.out.kept hg4 (by simp))
                      have R4 := hide (R3.out.kept hg4 (by simp))
                      have G4 : Hid (w.grownBy w4 none) := gb_trans G3.out hg4
                      have RG4 : Hid (wr.grownBy w4 none) := gb_trans RG3.out hg4
                      have nl4 := N4.out.lt
                      have dl4 := D4.out.lt
                      have rsz4 := RG4.out.size
                      have rl4 := R4.out.lt
                      clear hg4
                      clear n0 n1 n2 n3 n4 nz o0 o1 o2 o3 o4 oz r0 r1 r2 r3 r4 rz
                      clear c0 c1 c2 c3 c4 cz d0 d1 d2 d3 d4 dz
                      obtain ⟨n0, n1, n2, n3, n4, nz⟩ := N4.out
                      obtain ⟨o0, o1, o2, o3, o4, oz⟩ := O4.out
                      obtain ⟨c0, c1, c2, c3, c4, cz⟩ := C4.out
                      obtain ⟨d0, d1, d2, d3, d4, dz⟩ := D4.out
                      obtain ⟨_, _, _, _, _, r0, r1, r2, r3, r4, rz⟩ := R4.out
                      go_wp2_with fail
                      refine node_ret Tryz.results13 rfl (RB.five R4.out) rfl ?_
                      rw [HE.out]
                      exact ⟨.slice none 0 0, rfl, LR.nil _ _, (by repeat (first | with_reducible exact G4.out | with_reducible refine gb_put ?_ (by omega) _ _ | with_reducible refine gb_alloc ?_ _ | with_reducible refine gb_drewN ?_ _ | with_reducible refine gb_drew ?_))⟩
                  · have hl1 : (levelOf x == 0) = false := by rw [beq_eq_false_iff_ne]; exact hl0
                    have hx5 : x = [43] ∨ x = [45] ∨ x = [42] ∨ x = [68, 73, 86] ∨ x = [77, 79, 68] := op_five hx hl0 e1 e2
                    cases ho : opZ x u v with
                    | none =>
                      have HE : Hid (foldT (.mk 36 x m p l) = (.mk 36 x m p [(.mk ka xa ma pa la), (.mk kb xb mb pb lb)])) := by
                        refine HE1.out.trans ?_
                        unfold workT
                        rw [if_neg (show ¬ levelOf (T.mk 36 x m p [(.mk ka xa ma pa la), (.mk kb xb mb pb lb)]).name = 0 from hl0), show opZ (T.mk 36 x m p [(.mk ka xa ma pa la), (.mk kb xb mb pb lb)]).name u v = _ from ho]
                      have HC1 := fun (w' : World) (hg : wr.grownBy w' none) => hide (numberOf_some (.mk ka xa ma pa la) (.slice aa la.length ac) _ w' (LA.out.kept hg (fun _ hk => by cases hk)) ga hu)
                      go_wp2_with fail
                      go_at_call 32
                      refine ((HC1 _ (by repeat (first | with_reducible exact RG.out | with_reducible refine gb_put ?_ (by omega) _ _ | with_reducible refine gb_alloc ?_ _ | with_reducible refine gb_drewN ?_ _ | with_reducible refine gb_drew ?_))).out).mono ?_
                      rintro e w1 ⟨rfl, hg1⟩
                      have N1 := hide (N0.out.kept hg1 (by simp))
                      have O1 := hide (O0.out.kept hg1 (by simp))
                      have C1 := hide (C0.out.kept hg1 (by simp))
                      have D1 := hide (D0.out.kept hg1 (by simp))
                      have R1 := hide (R00.out.kept hg1 (by simp))
                      have G1 : Hid (w.grownBy w1 none) := gb_trans G00.out hg1
                      have RG1 : Hid (wr.grownBy w1 none) := gb_trans RG0.out hg1
                      have nl1 := N1.out.lt
                      have dl1 := D1.out.lt
                      have rsz1 := RG1.out.size
                      have rl1 := R1.out.lt
                      clear hg1
                      clear n0 n1 n2 n3 n4 nz o0 o1 o2 o3 o4 oz r0 r1 r2 r3 r4 rz
                      obtain ⟨n0, n1, n2, n3, n4, nz⟩ := N1.out
                      obtain ⟨o0, o1, o2, o3, o4, oz⟩ := O1.out
                      obtain ⟨c0, c1, c2, c3, c4, cz⟩ := C1.out
                      obtain ⟨d0, d1, d2, d3, d4, dz⟩ := D1.out
                      obtain ⟨_, _, _, _, _, r0, r1, r2, r3, r4, rz⟩ := R1.out
                      have HC2 := fun (w' : World) (hg : wr.grownBy w' none) => hide (numberOf_some (.mk kb xb mb pb lb) (.slice ba lb.length bc) _ w' (LB.out.kept hg (fun _ hk => by cases hk)) gb hv)
                      go_wp2_with fail
                      go_at_call 32
                      refine ((HC2 _ (by repeat (first | with_reducible exact RG1.out | with_reducible refine gb_put ?_ (by omega) _ _ | with_reducible refine gb_alloc ?_ _ | with_reducible refine gb_drewN ?_ _ | with_reducible refine gb_drew ?_))).out).mono ?_
                      rintro e w2 ⟨rfl, hg2⟩
                      have N2 := hide (N1.out.kept hg2 (by simp))
                      have O2 := hide (O1.out.kept hg2 (by simp))
                      have C2 := hide (C1.out.kept hg2 (by simp))
                      have D2 := hide (D1.out.kept hg2 (by simp))
                      have R2 := hide (R1.out.kept hg2 (by simp))
                      have G2 : Hid (w.grownBy w2 none) := gb_trans G1.out hg2
                      have RG2 : Hid (wr.grownBy w2 none) := gb_trans RG1.out hg2
                      have nl2 := N2.out.lt
                      have dl2 := D2.out.lt
                      have rsz2 := RG2.out.size
                      have rl2 := R2.out.lt
                      clear hg2
                      clear n0 n1 n2 n3 n4 nz o0 o1 o2 o3 o4 oz r0 r1 r2 r3 r4 rz
                      clear c0 c1 c2 c3 c4 cz d0 d1 d2 d3 d4 dz
                      obtain ⟨n0, n1, n2, n3, n4, nz⟩ := N2.out
                      obtain ⟨o0, o1, o2, o3, o4, oz⟩ := O2.out
                      obtain ⟨c0, c1, c2, c3, c4, cz⟩ := C2.out
                      obtain ⟨d0, d1, d2, d3, d4, dz⟩ := D2.out
                      obtain ⟨_, _, _, _, _, r0, r1, r2, r3, r4, rz⟩ := R2.out
                      have HC3 := fun (w' : World) (hg : wr.grownBy w' none) => hide (rlevel_x x w')
                      go_wp2_with fail
                      go_at_call 33
                      refine ((HC3 _ (by repeat (first | with_reducible exact RG2.out | with_reducible refine gb_put ?_ (by omega) _ _ | with_reducible refine gb_alloc ?_ _ | with_reducible refine gb_drewN ?_ _ | with_reducible refine gb_drew ?_))).out).mono ?_
                      rintro e w3 ⟨rfl, hg3⟩
                      have N3 := hide (N2.out.kept hg3 (by simp))
                      have O3 := hide (O2.out.kept hg3 (by simp))
                      have C3 := hide (C2.out.kept hg3 (by simp))
                      have D3 := hide (D2.out.kept hg3 (by simp))
                      have R3 := hide (R2.out.kept hg3 (by simp))
                      have G3 : Hid (w.grownBy w3 none) := gb_trans G2.out hg3
                      have RG3 : Hid (wr.grownBy w3 none) := gb_trans RG2.out hg3
                      have nl3 := N3.out.lt
                      have dl3 := D3.out.lt
                      have rsz3 := RG3.out.size
                      have rl3 := R3.out.lt
                      clear hg3
                      clear n0 n1 n2 n3 n4 nz o0 o1 o2 o3 o4 oz r0 r1 r2 r3 r4 rz
                      clear c0 c1 c2 c3 c4 cz d0 d1 d2 d3 d4 dz
                      obtain ⟨n0, n1, n2, n3, n4, nz⟩ := N3.out
                      obtain ⟨o0, o1, o2, o3, o4, oz⟩ := O3.out
                      obtain ⟨c0, c1, c2, c3, c4, cz⟩ := C3.out
                      obtain ⟨d0, d1, d2, d3, d4, dz⟩ := D3.out
                      obtain ⟨_, _, _, _, _, r0, r1, r2, r3, r4, rz⟩ := R3.out
                      have HC4 := fun (w' : World) (hg : wr.grownBy w' none) => hide (rworked_none hx5 u v hru hrv ho w')
                      go_wp2_with fail
                      go_at_call 35
                      refine ((HC4 _ (by repeat (first | with_reducible exact RG3.out | with_reducible refine gb_put ?_ (by omega) _ _ | with_reducible refine gb_alloc ?_ _ | with_reducible refine gb_drewN ?_ _ | with_reducible refine gb_drew ?_))).out).mono ?_
                      rintro e w4 ⟨rfl, hg4⟩
                      have N4 := hide (N3.out.kept hg4 (by simp))
                      have O4 := hide (O3.out.kept hg4 (by simp))
                      have C4 := hide (C3.out.kept hg4 (by simp))
                      have D4 := hide (D3.out.kept hg4 (by simp))
                      have R4 := hide (R3.out.kept hg4 (by simp))
                      have G4 : Hid (w.grownBy w4 none) := gb_trans G3.out hg4
                      have RG4 : Hid (wr.grownBy w4 none) := gb_trans RG3.out hg4
                      have nl4 := N4.out.lt
                      have dl4 := D4.out.lt
                      have rsz4 := RG4.out.size
                      have rl4 := R4.out.lt
                      clear hg4
                      clear n0 n1 n2 n3 n4 nz o0 o1 o2 o3 o4 oz r0 r1 r2 r3 r4 rz
                      clear c0 c1 c2 c3 c4 cz d0 d1 d2 d3 d4 dz
                      obtain ⟨n0, n1, n2, n3, n4, nz⟩ := N4.out
                      obtain ⟨o0, o1, o2, o3, o4, oz⟩ := O4.out
                      obtain ⟨c0, c1, c2, c3, c4, cz⟩ := C4.out
                      obtain ⟨d0, d1, d2, d3, d4, dz⟩ := D4.out
                      obtain ⟨_, _, _, _, _, r0, r1, r2, r3, r4, rz⟩ := R4.out
                      go_wp2_with fail
                      refine node_ret Tryz.results13 rfl (RB.five R4.out) rfl ?_
                      rw [HE.out]
                      refine ⟨_, rfl, LR.mono (lr_five LF.out ?_ ?_) ?_, ?_⟩
                      · exact (by repeat (first | with_reducible exact RG4.out | with_reducible refine gb_put ?_ (by omega) _ _ | with_reducible refine gb_alloc ?_ _ | with_reducible refine gb_drewN ?_ _ | with_reducible refine gb_drew ?_))
                      · intro h9; have := h9.1; omega
                      · intro b hb; have := hb.1; show w.heap.size ≤ b; omega
                      · exact (by repeat (first | with_reducible exact G4.out | with_reducible refine gb_put ?_ (by omega) _ _ | with_reducible refine gb_alloc ?_ _ | with_reducible refine gb_drewN ?_ _ | with_reducible refine gb_drew ?_))
                    | some z =>
                      have hrz := opZ_rng hru hrv ho
                      by_cases hz : z = -2147483648
                      · have hz1 : (z == -2147483648) = true := by rw [hz]; rfl
                        have HE : Hid (foldT (.mk 36 x m p l) = (.mk 36 x m p [(.mk ka xa ma pa la), (.mk kb xb mb pb lb)])) := by
                          refine HE1.out.trans ?_
                          unfold workT
                          rw [if_neg (show ¬ levelOf (T.mk 36 x m p [(.mk ka xa ma pa la), (.mk kb xb mb pb lb)]).name = 0 from hl0), show opZ (T.mk 36 x m p [(.mk ka xa ma pa la), (.mk kb xb mb pb lb)]).name u v = _ from ho]
                          exact if_pos hz
                        have HC1 := fun (w' : World) (hg : wr.grownBy w' none) => hide (numberOf_some (.mk ka xa ma pa la) (.slice aa la.length ac) _ w' (LA.out.kept hg (fun _ hk => by cases hk)) ga hu)
                        go_wp2_with fail
                        go_at_call 32
                        refine ((HC1 _ (by repeat (first | with_reducible exact RG.out | with_reducible refine gb_put ?_ (by omega) _ _ | with_reducible refine gb_alloc ?_ _ | with_reducible refine gb_drewN ?_ _ | with_reducible refine gb_drew ?_))).out).mono ?_
                        rintro e w1 ⟨rfl, hg1⟩
                        have N1 := hide (N0.out.kept hg1 (by simp))
                        have O1 := hide (O0.out.kept hg1 (by simp))
                        have C1 := hide (C0.out.kept hg1 (by simp))
                        have D1 := hide (D0.out.kept hg1 (by simp))
                        have R1 := hide (R00.out.kept hg1 (by simp))
                        have G1 : Hid (w.grownBy w1 none) := gb_trans G00.out hg1
                        have RG1 : Hid (wr.grownBy w1 none) := gb_trans RG0.out hg1
                        have nl1 := N1.out.lt
                        have dl1 := D1.out.lt
                        have rsz1 := RG1.out.size
                        have rl1 := R1.out.lt
                        clear hg1
                        clear n0 n1 n2 n3 n4 nz o0 o1 o2 o3 o4 oz r0 r1 r2 r3 r4 rz
                        obtain ⟨n0, n1, n2, n3, n4, nz⟩ := N1.out
                        obtain ⟨o0, o1, o2, o3, o4, oz⟩ := O1.out
                        obtain ⟨c0, c1, c2, c3, c4, cz⟩ := C1.out
                        obtain ⟨d0, d1, d2, d3, d4, dz⟩ := D1.out
                        obtain ⟨_, _, _, _, _, r0, r1, r2, r3, r4, rz⟩ := R1.out
                        have HC2 := fun (w' : World) (hg : wr.grownBy w' none) => hide (numberOf_some (.mk kb xb mb pb lb) (.slice ba lb.length bc) _ w' (LB.out.kept hg (fun _ hk => by cases hk)) gb hv)
                        go_wp2_with fail
                        go_at_call 32
                        refine ((HC2 _ (by repeat (first | with_reducible exact RG1.out | with_reducible refine gb_put ?_ (by omega) _ _ | with_reducible refine gb_alloc ?_ _ | with_reducible refine gb_drewN ?_ _ | with_reducible refine gb_drew ?_))).out).mono ?_
                        rintro e w2 ⟨rfl, hg2⟩
                        have N2 := hide (N1.out.kept hg2 (by simp))
                        have O2 := hide (O1.out.kept hg2 (by simp))
                        have C2 := hide (C1.out.kept hg2 (by simp))
                        have D2 := hide (D1.out.kept hg2 (by simp))
                        have R2 := hide (R1.out.kept hg2 (by simp))
                        have G2 : Hid (w.grownBy w2 none) := gb_trans G1.out hg2
                        have RG2 : Hid (wr.grownBy w2 none) := gb_trans RG1.out hg2
                        have nl2 := N2.out.lt
                        have dl2 := D2.out.lt
                        have rsz2 := RG2.out.size
                        have rl2 := R2.out.lt
                        clear hg2
                        clear n0 n1 n2 n3 n4 nz o0 o1 o2 o3 o4 oz r0 r1 r2 r3 r4 rz
                        clear c0 c1 c2 c3 c4 cz d0 d1 d2 d3 d4 dz
                        obtain ⟨n0, n1, n2, n3, n4, nz⟩ := N2.out
                        obtain ⟨o0, o1, o2, o3, o4, oz⟩ := O2.out
                        obtain ⟨c0, c1, c2, c3, c4, cz⟩ := C2.out
                        obtain ⟨d0, d1, d2, d3, d4, dz⟩ := D2.out
                        obtain ⟨_, _, _, _, _, r0, r1, r2, r3, r4, rz⟩ := R2.out
                        have HC3 := fun (w' : World) (hg : wr.grownBy w' none) => hide (rlevel_x x w')
                        go_wp2_with fail
                        go_at_call 33
                        refine ((HC3 _ (by repeat (first | with_reducible exact RG2.out | with_reducible refine gb_put ?_ (by omega) _ _ | with_reducible refine gb_alloc ?_ _ | with_reducible refine gb_drewN ?_ _ | with_reducible refine gb_drew ?_))).out).mono ?_
                        rintro e w3 ⟨rfl, hg3⟩
                        have N3 := hide (N2.out.kept hg3 (by simp))
                        have O3 := hide (O2.out.kept hg3 (by simp))
                        have C3 := hide (C2.out.kept hg3 (by simp))
                        have D3 := hide (D2.out.kept hg3 (by simp))
                        have R3 := hide (R2.out.kept hg3 (by simp))
                        have G3 : Hid (w.grownBy w3 none) := gb_trans G2.out hg3
                        have RG3 : Hid (wr.grownBy w3 none) := gb_trans RG2.out hg3
                        have nl3 := N3.out.lt
                        have dl3 := D3.out.lt
                        have rsz3 := RG3.out.size
                        have rl3 := R3.out.lt
                        clear hg3
                        clear n0 n1 n2 n3 n4 nz o0 o1 o2 o3 o4 oz r0 r1 r2 r3 r4 rz
                        clear c0 c1 c2 c3 c4 cz d0 d1 d2 d3 d4 dz
                        obtain ⟨n0, n1, n2, n3, n4, nz⟩ := N3.out
                        obtain ⟨o0, o1, o2, o3, o4, oz⟩ := O3.out
                        obtain ⟨c0, c1, c2, c3, c4, cz⟩ := C3.out
                        obtain ⟨d0, d1, d2, d3, d4, dz⟩ := D3.out
                        obtain ⟨_, _, _, _, _, r0, r1, r2, r3, r4, rz⟩ := R3.out
                        have HC4 := fun (w' : World) (hg : wr.grownBy w' none) => hide (rworked_some hx5 u v hru hrv ho w')
                        go_wp2_with fail
                        go_at_call 35
                        refine ((HC4 _ (by repeat (first | with_reducible exact RG3.out | with_reducible refine gb_put ?_ (by omega) _ _ | with_reducible refine gb_alloc ?_ _ | with_reducible refine gb_drewN ?_ _ | with_reducible refine gb_drew ?_))).out).mono ?_
                        rintro e w4 ⟨rfl, hg4⟩
                        have N4 := hide (N3.out.kept hg4 (by simp))
                        have O4 := hide (O3.out.kept hg4 (by simp))
                        have C4 := hide (C3.out.kept hg4 (by simp))
                        have D4 := hide (D3.out.kept hg4 (by simp))
                        have R4 := hide (R3.out.kept hg4 (by simp))
                        have G4 : Hid (w.grownBy w4 none) := gb_trans G3.out hg4
                        have RG4 : Hid (wr.grownBy w4 none) := gb_trans RG3.out hg4
                        have nl4 := N4.out.lt
                        have dl4 := D4.out.lt
                        have rsz4 := RG4.out.size
                        have rl4 := R4.out.lt
                        clear hg4
                        clear n0 n1 n2 n3 n4 nz o0 o1 o2 o3 o4 oz r0 r1 r2 r3 r4 rz
                        clear c0 c1 c2 c3 c4 cz d0 d1 d2 d3 d4 dz
                        obtain ⟨n0, n1, n2, n3, n4, nz⟩ := N4.out
                        obtain ⟨o0, o1, o2, o3, o4, oz⟩ := O4.out
                        obtain ⟨c0, c1, c2, c3, c4, cz⟩ := C4.out
                        obtain ⟨d0, d1, d2, d3, d4, dz⟩ := D4.out
                        obtain ⟨_, _, _, _, _, r0, r1, r2, r3, r4, rz⟩ := R4.out
                        go_wp2_with fail
                        refine node_ret Tryz.results13 rfl (RB.five R4.out) rfl ?_
                        rw [HE.out]
                        refine ⟨_, rfl, LR.mono (lr_five LF.out ?_ ?_) ?_, ?_⟩
                        · exact (by repeat (first | with_reducible exact RG4.out | with_reducible refine gb_put ?_ (by omega) _ _ | with_reducible refine gb_alloc ?_ _ | with_reducible refine gb_drewN ?_ _ | with_reducible refine gb_drew ?_))
                        · intro h9; have := h9.1; omega
                        · intro b hb; have := hb.1; show w.heap.size ≤ b; omega
                        · exact (by repeat (first | with_reducible exact G4.out | with_reducible refine gb_put ?_ (by omega) _ _ | with_reducible refine gb_alloc ?_ _ | with_reducible refine gb_drewN ?_ _ | with_reducible refine gb_drew ?_))
                      · have hz1 : (z == -2147483648) = false := by rw [beq_eq_false_iff_ne]; exact hz
                        by_cases hz0 : z < 0
                        · have HE : Hid (foldT (.mk 36 x m p l) = .mk 35 [] 0 p [.mk 29 [] (-z) p []]) := by
                            refine HE1.out.trans ?_
                            unfold workT
                            rw [if_neg (show ¬ levelOf (T.mk 36 x m p [(.mk ka xa ma pa la), (.mk kb xb mb pb lb)]).name = 0 from hl0), show opZ (T.mk 36 x m p [(.mk ka xa ma pa la), (.mk kb xb mb pb lb)]).name u v = _ from ho]
                            exact (if_neg hz).trans (if_pos hz0)
                          have HC1 := fun (w' : World) (hg : wr.grownBy w' none) => hide (numberOf_some (.mk ka xa ma pa la) (.slice aa la.length ac) _ w' (LA.out.kept hg (fun _ hk => by cases hk)) ga hu)
                          go_wp2_with fail
                          go_at_call 32
                          refine ((HC1 _ (by repeat (first | with_reducible exact RG.out | with_reducible refine gb_put ?_ (by omega) _ _ | with_reducible refine gb_alloc ?_ _ | with_reducible refine gb_drewN ?_ _ | with_reducible refine gb_drew ?_))).out).mono ?_
                          rintro e w1 ⟨rfl, hg1⟩
                          have N1 := hide (N0.out.kept hg1 (by simp))
                          have O1 := hide (O0.out.kept hg1 (by simp))
                          have C1 := hide (C0.out.kept hg1 (by simp))
                          have D1 := hide (D0.out.kept hg1 (by simp))
                          have R1 := hide (R00.out.kept hg1 (by simp))
                          have G1 : Hid (w.grownBy w1 none) := gb_trans G00.out hg1
                          have RG1 : Hid (wr.grownBy w1 none) := gb_trans RG0.out hg1
                          have nl1 := N1.out.lt
                          have dl1 := D1.out.lt
                          have rsz1 := RG1.out.size
                          have rl1 := R1.out.lt
                          clear hg1
                          clear n0 n1 n2 n3 n4 nz o0 o1 o2 o3 o4 oz r0 r1 r2 r3 r4 rz
                          obtain ⟨n0, n1, n2, n3, n4, nz⟩ := N1.out
                          obtain ⟨o0, o1, o2, o3, o4, oz⟩ := O1.out
                          obtain ⟨c0, c1, c2, c3, c4, cz⟩ := C1.out
                          obtain ⟨d0, d1, d2, d3, d4, dz⟩ := D1.out
                          obtain ⟨_, _, _, _, _, r0, r1, r2, r3, r4, rz⟩ := R1.out
                          have HC2 := fun (w' : World) (hg : wr.grownBy w' none) => hide (numberOf_some (.mk kb xb mb pb lb) (.slice ba lb.length bc) _ w' (LB.out.kept hg (fun _ hk => by cases hk)) gb hv)
                          go_wp2_with fail
                          go_at_call 32
                          refine ((HC2 _ (by repeat (first | with_reducible exact RG1.out | with_reducible refine gb_put ?_ (by omega) _ _ | with_reducible refine gb_alloc ?_ _ | with_reducible refine gb_drewN ?_ _ | with_reducible refine gb_drew ?_))).out).mono ?_
                          rintro e w2 ⟨rfl, hg2⟩
                          have N2 := hide (N1.out.kept hg2 (by simp))
                          have O2 := hide (O1.out.kept hg2 (by simp))
                          have C2 := hide (C1.out.kept hg2 (by simp))
                          have D2 := hide (D1.out.kept hg2 (by simp))
                          have R2 := hide (R1.out.kept hg2 (by simp))
                          have G2 : Hid (w.grownBy w2 none) := gb_trans G1.out hg2
                          have RG2 : Hid (wr.grownBy w2 none) := gb_trans RG1.out hg2
                          have nl2 := N2.out.lt
                          have dl2 := D2.out.lt
                          have rsz2 := RG2.out.size
                          have rl2 := R2.out.lt
                          clear hg2
                          clear n0 n1 n2 n3 n4 nz o0 o1 o2 o3 o4 oz r0 r1 r2 r3 r4 rz
                          clear c0 c1 c2 c3 c4 cz d0 d1 d2 d3 d4 dz
                          obtain ⟨n0, n1, n2, n3, n4, nz⟩ := N2.out
                          obtain ⟨o0, o1, o2, o3, o4, oz⟩ := O2.out
                          obtain ⟨c0, c1, c2, c3, c4, cz⟩ := C2.out
                          obtain ⟨d0, d1, d2, d3, d4, dz⟩ := D2.out
                          obtain ⟨_, _, _, _, _, r0, r1, r2, r3, r4, rz⟩ := R2.out
                          have HC3 := fun (w' : World) (hg : wr.grownBy w' none) => hide (rlevel_x x w')
                          go_wp2_with fail
                          go_at_call 33
                          refine ((HC3 _ (by repeat (first | with_reducible exact RG2.out | with_reducible refine gb_put ?_ (by omega) _ _ | with_reducible refine gb_alloc ?_ _ | with_reducible refine gb_drewN ?_ _ | with_reducible refine gb_drew ?_))).out).mono ?_
                          rintro e w3 ⟨rfl, hg3⟩
                          have N3 := hide (N2.out.kept hg3 (by simp))
                          have O3 := hide (O2.out.kept hg3 (by simp))
                          have C3 := hide (C2.out.kept hg3 (by simp))
                          have D3 := hide (D2.out.kept hg3 (by simp))
                          have R3 := hide (R2.out.kept hg3 (by simp))
                          have G3 : Hid (w.grownBy w3 none) := gb_trans G2.out hg3
                          have RG3 : Hid (wr.grownBy w3 none) := gb_trans RG2.out hg3
                          have nl3 := N3.out.lt
                          have dl3 := D3.out.lt
                          have rsz3 := RG3.out.size
                          have rl3 := R3.out.lt
                          clear hg3
                          clear n0 n1 n2 n3 n4 nz o0 o1 o2 o3 o4 oz r0 r1 r2 r3 r4 rz
                          clear c0 c1 c2 c3 c4 cz d0 d1 d2 d3 d4 dz
                          obtain ⟨n0, n1, n2, n3, n4, nz⟩ := N3.out
                          obtain ⟨o0, o1, o2, o3, o4, oz⟩ := O3.out
                          obtain ⟨c0, c1, c2, c3, c4, cz⟩ := C3.out
                          obtain ⟨d0, d1, d2, d3, d4, dz⟩ := D3.out
                          obtain ⟨_, _, _, _, _, r0, r1, r2, r3, r4, rz⟩ := R3.out
                          have HC4 := fun (w' : World) (hg : wr.grownBy w' none) => hide (rworked_some hx5 u v hru hrv ho w')
                          go_wp2_with fail
                          go_at_call 35
                          refine ((HC4 _ (by repeat (first | with_reducible exact RG3.out | with_reducible refine gb_put ?_ (by omega) _ _ | with_reducible refine gb_alloc ?_ _ | with_reducible refine gb_drewN ?_ _ | with_reducible refine gb_drew ?_))).out).mono ?_
                          rintro e w4 ⟨rfl, hg4⟩
                          have N4 := hide (N3.out.kept hg4 (by simp))
                          have O4 := hide (O3.out.kept hg4 (by simp))
                          have C4 := hide (C3.out.kept hg4 (by simp))
                          have D4 := hide (D3.out.kept hg4 (by simp))
                          have R4 := hide (R3.out.kept hg4 (by simp))
                          have G4 : Hid (w.grownBy w4 none) := gb_trans G3.out hg4
                          have RG4 : Hid (wr.grownBy w4 none) := gb_trans RG3.out hg4
                          have nl4 := N4.out.lt
                          have dl4 := D4.out.lt
                          have rsz4 := RG4.out.size
                          have rl4 := R4.out.lt
                          clear hg4
                          clear n0 n1 n2 n3 n4 nz o0 o1 o2 o3 o4 oz r0 r1 r2 r3 r4 rz
                          clear c0 c1 c2 c3 c4 cz d0 d1 d2 d3 d4 dz
                          obtain ⟨n0, n1, n2, n3, n4, nz⟩ := N4.out
                          obtain ⟨o0, o1, o2, o3, o4, oz⟩ := O4.out
                          obtain ⟨c0, c1, c2, c3, c4, cz⟩ := C4.out
                          obtain ⟨d0, d1, d2, d3, d4, dz⟩ := D4.out
                          obtain ⟨_, _, _, _, _, r0, r1, r2, r3, r4, rz⟩ := R4.out
                          go_wp2_with fail
                          refine node_ret Tryz.results13 rfl (NB.alloc (RB.five R4.out) _) rfl ?_
                          rw [HE.out]
                          refine ⟨.slice (some ⟨w4.heap.size, 0, none⟩) 1 1, rfl, ?_, (by repeat (first | with_reducible exact G4.out | with_reducible refine gb_put ?_ (by omega) _ _ | with_reducible refine gb_alloc ?_ _ | with_reducible refine gb_drewN ?_ _ | with_reducible refine gb_drew ?_))⟩
                          exact (LR.build1 _ (t := .mk 29 [] (-z) p []) (lo := w.heap.size) (LR.nil _ _) (by simp) rfl (by omega)).mono (fun k hk => hk.1)
                        · have HE : Hid (foldT (.mk 36 x m p l) = .mk 29 [] z p []) := by
                            refine HE1.out.trans ?_
                            unfold workT
                            rw [if_neg (show ¬ levelOf (T.mk 36 x m p [(.mk ka xa ma pa la), (.mk kb xb mb pb lb)]).name = 0 from hl0), show opZ (T.mk 36 x m p [(.mk ka xa ma pa la), (.mk kb xb mb pb lb)]).name u v = _ from ho]
                            exact (if_neg hz).trans (if_neg hz0)
                          have HC1 := fun (w' : World) (hg : wr.grownBy w' none) => hide (numberOf_some (.mk ka xa ma pa la) (.slice aa la.length ac) _ w' (LA.out.kept hg (fun _ hk => by cases hk)) ga hu)
                          go_wp2_with fail
                          go_at_call 32
                          refine ((HC1 _ (by repeat (first | with_reducible exact RG.out | with_reducible refine gb_put ?_ (by omega) _ _ | with_reducible refine gb_alloc ?_ _ | with_reducible refine gb_drewN ?_ _ | with_reducible refine gb_drew ?_))).out).mono ?_
                          rintro e w1 ⟨rfl, hg1⟩
                          have N1 := hide (N0.out.kept hg1 (by simp))
                          have O1 := hide (O0.out.kept hg1 (by simp))
                          have C1 := hide (C0.out.kept hg1 (by simp))
                          have D1 := hide (D0.out.kept hg1 (by simp))
                          have R1 := hide (R00.out.kept hg1 (by simp))
                          have G1 : Hid (w.grownBy w1 none) := gb_trans G00.out hg1
                          have RG1 : Hid (wr.grownBy w1 none) := gb_trans RG0.out hg1
                          have nl1 := N1.out.lt
                          have dl1 := D1.out.lt
                          have rsz1 := RG1.out.size
                          have rl1 := R1.out.lt
                          clear hg1
                          clear n0 n1 n2 n3 n4 nz o0 o1 o2 o3 o4 oz r0 r1 r2 r3 r4 rz
                          obtain ⟨n0, n1, n2, n3, n4, nz⟩ := N1.out
                          obtain ⟨o0, o1, o2, o3, o4, oz⟩ := O1.out
                          obtain ⟨c0, c1, c2, c3, c4, cz⟩ := C1.out
                          obtain ⟨d0, d1, d2, d3, d4, dz⟩ := D1.out
                          obtain ⟨_, _, _, _, _, r0, r1, r2, r3, r4, rz⟩ := R1.out
                          have HC2 := fun (w' : World) (hg : wr.grownBy w' none) => hide (numberOf_some (.mk kb xb mb pb lb) (.slice ba lb.length bc) _ w' (LB.out.kept hg (fun _ hk => by cases hk)) gb hv)
                          go_wp2_with fail
                          go_at_call 32
                          refine ((HC2 _ (by repeat (first | with_reducible exact RG1.out | with_reducible refine gb_put ?_ (by omega) _ _ | with_reducible refine gb_alloc ?_ _ | with_reducible refine gb_drewN ?_ _ | with_reducible refine gb_drew ?_))).out).mono ?_
                          rintro e w2 ⟨rfl, hg2⟩
                          have N2 := hide (N1.out.kept hg2 (by simp))
                          have O2 := hide (O1.out.kept hg2 (by simp))
                          have C2 := hide (C1.out.kept hg2 (by simp))
                          have D2 := hide (D1.out.kept hg2 (by simp))
                          have R2 := hide (R1.out.kept hg2 (by simp))
                          have G2 : Hid (w.grownBy w2 none) := gb_trans G1.out hg2
                          have RG2 : Hid (wr.grownBy w2 none) := gb_trans RG1.out hg2
                          have nl2 := N2.out.lt
                          have dl2 := D2.out.lt
                          have rsz2 := RG2.out.size
                          have rl2 := R2.out.lt
                          clear hg2
                          clear n0 n1 n2 n3 n4 nz o0 o1 o2 o3 o4 oz r0 r1 r2 r3 r4 rz
                          clear c0 c1 c2 c3 c4 cz d0 d1 d2 d3 d4 dz
                          obtain ⟨n0, n1, n2, n3, n4, nz⟩ := N2.out
                          obtain ⟨o0, o1, o2, o3, o4, oz⟩ := O2.out
                          obtain ⟨c0, c1, c2, c3, c4, cz⟩ := C2.out
                          obtain ⟨d0, d1, d2, d3, d4, dz⟩ := D2.out
                          obtain ⟨_, _, _, _, _, r0, r1, r2, r3, r4, rz⟩ := R2.out
                          have HC3 := fun (w' : World) (hg : wr.grownBy w' none) => hide (rlevel_x x w')
                          go_wp2_with fail
                          go_at_call 33
                          refine ((HC3 _ (by repeat (first | with_reducible exact RG2.out | with_reducible refine gb_put ?_ (by omega) _ _ | with_reducible refine gb_alloc ?_ _ | with_reducible refine gb_drewN ?_ _ | with_reducible refine gb_drew ?_))).out).mono ?_
                          rintro e w3 ⟨rfl, hg3⟩
                          have N3 := hide (N2.out.kept hg3 (by simp))
                          have O3 := hide (O2.out.kept hg3 (by simp))
                          have C3 := hide (C2.out.kept hg3 (by simp))
                          have D3 := hide (D2.out.kept hg3 (by simp))
                          have R3 := hide (R2.out.kept hg3 (by simp))
                          have G3 : Hid (w.grownBy w3 none) := gb_trans G2.out hg3
                          have RG3 : Hid (wr.grownBy w3 none) := gb_trans RG2.out hg3
                          have nl3 := N3.out.lt
                          have dl3 := D3.out.lt
                          have rsz3 := RG3.out.size
                          have rl3 := R3.out.lt
                          clear hg3
                          clear n0 n1 n2 n3 n4 nz o0 o1 o2 o3 o4 oz r0 r1 r2 r3 r4 rz
                          clear c0 c1 c2 c3 c4 cz d0 d1 d2 d3 d4 dz
                          obtain ⟨n0, n1, n2, n3, n4, nz⟩ := N3.out
                          obtain ⟨o0, o1, o2, o3, o4, oz⟩ := O3.out
                          obtain ⟨c0, c1, c2, c3, c4, cz⟩ := C3.out
                          obtain ⟨d0, d1, d2, d3, d4, dz⟩ := D3.out
                          obtain ⟨_, _, _, _, _, r0, r1, r2, r3, r4, rz⟩ := R3.out
                          have HC4 := fun (w' : World) (hg : wr.grownBy w' none) => hide (rworked_some hx5 u v hru hrv ho w')
                          go_wp2_with fail
                          go_at_call 35
                          refine ((HC4 _ (by repeat (first | with_reducible exact RG3.out | with_reducible refine gb_put ?_ (by omega) _ _ | with_reducible refine gb_alloc ?_ _ | with_reducible refine gb_drewN ?_ _ | with_reducible refine gb_drew ?_))).out).mono ?_
                          rintro e w4 ⟨rfl, hg4⟩
                          have N4 := hide (N3.out.kept hg4 (by simp))
                          have O4 := hide (O3.out.kept hg4 (by simp))
                          have C4 := hide (C3.out.kept hg4 (by simp))
                          have D4 := hide (D3.out.kept hg4 (by simp))
                          have R4 := hide (R3.out.kept hg4 (by simp))
                          have G4 : Hid (w.grownBy w4 none) := gb_trans G3.out hg4
                          have RG4 : Hid (wr.grownBy w4 none) := gb_trans RG3.out hg4
                          have nl4 := N4.out.lt
                          have dl4 := D4.out.lt
                          have rsz4 := RG4.out.size
                          have rl4 := R4.out.lt
                          clear hg4
                          clear n0 n1 n2 n3 n4 nz o0 o1 o2 o3 o4 oz r0 r1 r2 r3 r4 rz
                          clear c0 c1 c2 c3 c4 cz d0 d1 d2 d3 d4 dz
                          obtain ⟨n0, n1, n2, n3, n4, nz⟩ := N4.out
                          obtain ⟨o0, o1, o2, o3, o4, oz⟩ := O4.out
                          obtain ⟨c0, c1, c2, c3, c4, cz⟩ := C4.out
                          obtain ⟨d0, d1, d2, d3, d4, dz⟩ := D4.out
                          obtain ⟨_, _, _, _, _, r0, r1, r2, r3, r4, rz⟩ := R4.out
                          go_wp2_with fail
                          refine node_ret Tryz.results13 rfl (RB.five R4.out) rfl ?_
                          rw [HE.out]
                          exact ⟨.slice none 0 0, rfl, LR.nil _ _, (by repeat (first | with_reducible exact G4.out | with_reducible refine gb_put ?_ (by omega) _ _ | with_reducible refine gb_alloc ?_ _ | with_reducible refine gb_drewN ?_ _ | with_reducible refine gb_drew ?_))⟩
        · have hq36 : (k != 36) = true := by rw [bne_iff_ne]; exact h36
          have HE : Hid (foldT (.mk k x m p l) = .mk k x m p fl) := by
            refine HE0.out.trans ?_
            unfold plainT
            rw [if_neg (show ¬ (T.mk k x m p fl).kind = 34 from h34), if_neg (show ¬ (T.mk k x m p fl).kind = 36 from h36)]
          go_wp2_with fail
          refine node_ret Tryz.results13 rfl (RB.five R0.out) rfl ?_
          rw [HE.out]
          refine ⟨_, rfl, LR.mono (lr_five LF.out ?_ ?_) ?_, ?_⟩
          · exact (by repeat (first | with_reducible exact RG.out | with_reducible refine gb_put ?_ (by omega) _ _ | with_reducible refine gb_alloc ?_ _ | with_reducible refine gb_drewN ?_ _ | with_reducible refine gb_drew ?_))
          · intro h9; have := h9.1; omega
          · intro b hb; have := hb.1; show w.heap.size ≤ b; omega
          · exact (by repeat (first | with_reducible exact G0.out | with_reducible refine gb_put ?_ (by omega) _ _ | with_reducible refine gb_alloc ?_ _ | with_reducible refine gb_drewN ?_ _ | with_reducible refine gb_drew ?_))
theorem flen_count (l : List T) : l.length ≤ countL l := by
  induction l with
  | nil => exact Nat.zero_le _
  | cons t l ih => rw [countL]; have := countT_pos t; simp; omega
theorem fcount_in {l : List T} {u : T} (h : u ∈ l) : countT u ≤ countL l := by
  induction l with
  | nil => cases h
  | cons t l ih =>
    rw [countL]
    rcases List.mem_cons.1 h with rfl | h
    · omega
    · have := ih h; omega
/-- The document's answer for every tree that can be worked out. -/
theorem folded_any (t : T) (hg : GT t) (hc : countT t ≤ 3000) (w : World) (sv : Value) (ha : AT w t.subs sv) : Calls Tryz.prog 13 #[nodeV t sv] w (NL w (fun b => w.heap.size ≤ b) (foldT t)) := by
  match t, hg, hc, ha with
  | .mk k x m p l, hg, hc, ha =>
    rw [countT] at hc
    have hl := flen_count l
    exact folded_step k x m p l hg (by omega) (fun u hu w' sv' ha' => folded_any u (hg.sub hu) (by have := fcount_in hu; omega) w' sv' ha') w sv ha
termination_by SizeOf.sizeOf t
decreasing_by
  have h9 := List.sizeOf_lt_of_mem hu
  simp only [T.mk.sizeOf_spec]
  omega
end Go.Proofs.YtlkokcnbbihljaaGreatDoor
