/- parse.Parse: the tree of a text, or what is wrong; what is thrown is caught. -/
import Derived.Test.YtbphiiaoncakfaaGreatDoorG16
import Derived.Test.YtbphiiaoncakfaaGreatDoorG11
import Derived.Test.YtbphiiaoncakfaaGreatDoorG12
import Derived.Test.YtbphiiaoncakfaaGreatDoorG06
namespace Go.Proofs.YtbphiiaoncakfaaGreatDoor
open Go.RowKit

abbrev zeroNode : Array Value := #[.int .i64 0, .string ⟨#[]⟩, .int .i64 0, .int .i64 0, .slice none 0 0]

theorem pcatch_panicking (b0 : Nat) (p1 q : Addr) (v1 : Value) (older : List PanicEntry) (w : World) (hne : b0 ≠ p1.block) (h0 : RB w b0) (h1 : w.cell? p1 = some v1) (z1 : w.frozen? p1 = false) :
    CallsD Tryz.prog 16 #[.pointer (some ⟨b0, 0, none⟩), .pointer (some p1)] (.panicking ({ v := .iface 49 (.pointer (some q)), recovered := false } :: older)) w fun e u' w' =>
      e = .returned (.tuple #[]) ∧ u' = .panicking ({ v := .iface 49 (.pointer (some q)), recovered := true } :: older) ∧ w' = (put5 w b0 (.int .i64 0) (.string ⟨#[]⟩) (.int .i64 0) (.int .i64 0) (.slice none 0 0)).setCell p1 (.iface 49 (.pointer (some q))) := by
  refine callsD_of_wpS Tryz.func16 rfl fun c₀ cs hu => ?_
  have hta := assertFault (.pointer (some q))
  obtain ⟨_, _, _, _, _, x0, x1, x2, x3, x4, xz⟩ := h0
  have hc1 : (put5 w b0 (.int .i64 0) (.string ⟨#[]⟩) (.int .i64 0) (.int .i64 0) (.slice none 0 0)).cell? p1 = some v1 := by
    unfold put5
    rw [World.cell?_setCell_other _ _ _ _ (by intro e; exact hne (congrArg Addr.block e)), World.cell?_setCell_other _ _ _ _ (by intro e; exact hne (congrArg Addr.block e)), World.cell?_setCell_other _ _ _ _ (by intro e; exact hne (congrArg Addr.block e)), World.cell?_setCell_other _ _ _ _ (by intro e; exact hne (congrArg Addr.block e)), World.cell?_setCell_other _ _ _ _ (by intro e; exact hne (congrArg Addr.block e))]
    exact h1
  unfold put5 at hc1 ⊢
  apply wpS_seq
  apply wpS_region
  simp [wpOpsS, go_sem, recoverD, hu, Tryz.ntmps16, Exit.thenS, hta]
  apply wpS_seq
  apply wpS_region
  simp [wpOpsS, go_sem, Array.replicate, Exit.thenS]
  refine wpS_cond (t := true) (by simp [Act.eval]) ?_
  simp only [if_true]
  apply wpS_region
  simp [wpOpsS, go_sem, x0, x1, x2, x3, x4, xz, hc1, z1, bodyPostS, results, Tryz.results16]

theorem pcatch_idle (p0 p1 : Addr) (w : World) :
    CallsD Tryz.prog 16 #[.pointer (some p0), .pointer (some p1)] .returning w fun e u' w' => e = .returned (.tuple #[]) ∧ u' = .returning ∧ w' = w := by
  refine callsD_of_wpS Tryz.func16 rfl fun c₀ cs hu => ?_
  have hta := assertNil
  apply wpS_seq
  apply wpS_region
  simp [wpOpsS, go_sem, recoverD, hu, Tryz.ntmps16, Exit.thenS, hta]
  apply wpS_seq
  apply wpS_region
  simp [wpOpsS, go_sem, Array.replicate, Exit.thenS]
  refine wpS_cond (t := false) (by simp [Act.eval]) ?_
  simp only [Bool.false_eq_true, if_false]
  refine wpS_of_wp (wp_skip ?_)
  cases c₀
  simp_all [bodyPostS, results, Tryz.results16]

/-- A fault in memory: in text 0, at a place, with a number. -/
def FaultAt (w : World) (q : Nat) (at' n : Int) : Prop :=
  w.cell? ⟨q, 0, none⟩ = some (.int .i64 0) ∧ w.cell? ⟨q, 1, none⟩ = some (.int .i64 at') ∧ w.cell? ⟨q, 2, none⟩ = some (.iface 26 (.int .i64 n))

/-- What parse.Parse answers, and what memory it leaves. -/
def ParsePost (t : List UInt8) (w : World) (e : Ending) (w' : World) : Prop :=
  Below w.heap.size w w' ∧
  ((4000 < t.length ∧ e = .returned (.tuple #[.agg zeroNode, .iface 26 (.int .i64 3)])) ∨
   (t.length ≤ 4000 ∧ ∃ n f q, toks t = .error (n, f) ∧ e = .returned (.tuple #[.agg zeroNode, .iface 49 (.pointer (some ⟨q, 0, none⟩))]) ∧ FaultAt w' q ((t.length - f.length : Nat) : Int) n) ∨
   (t.length ≤ 4000 ∧ ∃ l x q, toks t = .ok l ∧ wholeP (tokL t.length l) 0 = .error x ∧ e = .returned (.tuple #[.agg zeroNode, .iface 49 (.pointer (some ⟨q, 0, none⟩))]) ∧ FaultAt w' q x.2 x.1) ∨
   (t.length ≤ 4000 ∧ ∃ l x j v, toks t = .ok l ∧ wholeP (tokL t.length l) 0 = .ok (x, j) ∧ e = .returned (.tuple #[v, .nilIface]) ∧ TR w' w.heap.size w'.heap.size x v))

theorem presults {W : World} {b : Nat} {v0 v1 v2 v3 v4 ev : Value} {tmps : Array Value} (hn : NB W b v0 v1 v2 v3 v4) (he : W.cell? ⟨b + 1, 0, none⟩ = some ev) (t2 : tmps[2]?.getD undef = .pointer (some ⟨b, 0, none⟩)) (t3 : tmps[3]?.getD undef = .pointer (some ⟨b + 1, 0, none⟩)) :
    (results Tryz.f6 tmps).run Tryz.prog W = .ok (.tuple #[.agg #[v0, v1, v2, v3, v4], ev]) W := by
  simp [results, Tryz.results6, t2, t3, go_sem, hn.c0, hn.c1, hn.c2, hn.c3, hn.c4, he]
theorem end_nb {W : World} {b : Nat} {v0 v1 v2 v3 v4 ev x : Value} (hr : RB W b) (he : W.cell? ⟨b + 1, 0, none⟩ = some x) :
    NB ((((((W.setCell ⟨b, 0, none⟩ v0).setCell ⟨b, 1, none⟩ v1).setCell ⟨b, 2, none⟩ v2).setCell ⟨b, 3, none⟩ v3).setCell ⟨b, 4, none⟩ v4).setCell ⟨b + 1, 0, none⟩ ev) b v0 v1 v2 v3 v4 ∧
    ((((((W.setCell ⟨b, 0, none⟩ v0).setCell ⟨b, 1, none⟩ v1).setCell ⟨b, 2, none⟩ v2).setCell ⟨b, 3, none⟩ v3).setCell ⟨b, 4, none⟩ v4).setCell ⟨b + 1, 0, none⟩ ev).cell? ⟨b + 1, 0, none⟩ = some ev := by
  refine ⟨NB.far (RB.five hr) (by omega) _ _, World.cell?_setCell_same _ _ (u := x) _ ?_⟩
  rw [World.cell?_setCell_other _ _ _ _ (by simp), World.cell?_setCell_other _ _ _ _ (by simp), World.cell?_setCell_other _ _ _ _ (by simp), World.cell?_setCell_other _ _ _ _ (by simp), World.cell?_setCell_other _ _ _ _ (by simp)]
  exact he
theorem end_heap {W : World} {b : Nat} {v0 v1 v2 v3 v4 ev : Value} {k : Nat} (h1 : k ≠ b) (h2 : k ≠ b + 1) :
    ((((((W.setCell ⟨b, 0, none⟩ v0).setCell ⟨b, 1, none⟩ v1).setCell ⟨b, 2, none⟩ v2).setCell ⟨b, 3, none⟩ v3).setCell ⟨b, 4, none⟩ v4).setCell ⟨b + 1, 0, none⟩ ev).heap[k]? = W.heap[k]? := by
  rw [Below.heap_setCell _ _ _ _ (by simp; omega), Below.heap_setCell _ _ _ _ (by simp; omega), Below.heap_setCell _ _ _ _ (by simp; omega), Below.heap_setCell _ _ _ _ (by simp; omega), Below.heap_setCell _ _ _ _ (by simp; omega), Below.heap_setCell _ _ _ _ (by simp; omega)]
theorem end_below {w W : World} {b : Nat} {v0 v1 v2 v3 v4 ev : Value} (h : Below b w W) :
    Below b w ((((((W.setCell ⟨b, 0, none⟩ v0).setCell ⟨b, 1, none⟩ v1).setCell ⟨b, 2, none⟩ v2).setCell ⟨b, 3, none⟩ v3).setCell ⟨b, 4, none⟩ v4).setCell ⟨b + 1, 0, none⟩ ev) :=
  (((((h.setCell (by simp) _).setCell (by simp) _).setCell (by simp) _).setCell (by simp) _).setCell (by simp) _).setCell (by simp) _
theorem heap_drew (W : World) (k : Nat) : W.drew.heap[k]? = W.heap[k]? := rfl
theorem cell_al {w : World} {a : Addr} {v : Value} (h : w.cell? a = some v) (o : Obj) : (w.alloc o).cell? a = some v := cell_far (World.grownBy_alloc w o none) h (by simp)

set_option maxRecDepth 100000 in
set_option maxHeartbeats 1000000 in
theorem parse_any (s : ByteArray) (w : World) (hs : s.size ≤ maxLen) (htab : Lib.TabIs Tryz.prog w "strings.asciiSpace" .u8 Lib.asciiSpaceTab)
    (hWh : ∀ c : PC, PartOK c 0 18 (wholeP c.L)) :
    Calls Tryz.prog 6 #[.string s] w (ParsePost s.data.toList w) := by
  have hmf : ∀ (fn : Fn) (first cap : Array Value) (w : World), (Instr.makeFunc fn first cap).run Tryz.prog w = .ok (.func fn first cap) w := fun _ _ _ _ => rfl
  have HT := hide htab
  have HW := hide hWh
  have hn := bs_size s
  clear htab hWh
  go_enter_defers Tryz.func6, Tryz.ntmps6
  go_wp2_with fail
  go_at_call 15
  refine (tokens_any s _ hs).mono ?_
  rintro e w1 ⟨hlong, hok, herr, hb1⟩
  have hg1 := bl_gb hb1 none
  have n1 : NB w1 w.heap.size (.int .i64 0) (.string ⟨#[]⟩) (.int .i64 0) (.int .i64 0) (.slice none 0 0) := NB.kept (by repeat (first | with_reducible exact NB.new' (by simp) | with_reducible refine NB.far ?_ (by omega) _ _ | with_reducible apply NB.s0 | with_reducible apply NB.s1 | with_reducible apply NB.s2 | with_reducible apply NB.s3 | with_reducible apply NB.s4 | with_reducible refine NB.alloc ?_ _ | with_reducible refine NB.drewN ?_ _ | with_reducible refine NB.drew ?_)) hg1 (by simp)
  have r1 : RB w1 w.heap.size := n1.rb
  have e1 : w1.cell? ⟨w.heap.size + 1, 0, none⟩ = some .nilIface := cell_far hg1 (by simp) (by simp)
  have z1 : w1.frozen? ⟨w.heap.size + 1, 0, none⟩ = false := frozen_far hg1 (by simp) (by simp) (by simp)
  have hbb : Below w.heap.size w w1 := (((Below.refl _ _).alloc (Nat.le_refl _) _).alloc (by simp) _).trans (hb1.mono (by simp; omega))
  have sz1 := hb1.size
  simp at sz1
  have hlow := hb1.size
  rcases (show (4000 < s.size ∨ ∃ x, toks s.data.toList = .error x ∧ s.size ≤ 4000) ∨ ∃ l, toks s.data.toList = .ok l ∧ s.size ≤ 4000 by
    by_cases hl : 4000 < s.size
    · exact .inl (.inl hl)
    · cases ht : toks s.data.toList with
      | error x => exact .inl (.inr ⟨x, rfl, by omega⟩)
      | ok l => exact .inr ⟨l, rfl, by omega⟩) with hbad | ⟨l, ht, hl⟩
  · obtain ⟨ty, ev, rfl, HQ⟩ : ∃ ty ev, e = .returned (.tuple #[.slice none 0 0, .iface ty ev]) ∧ Hid (∀ w', Below w.heap.size w w' → (∀ k, k ≠ w.heap.size → k ≠ w.heap.size + 1 → k < w1.heap.size → w'.heap[k]? = w1.heap[k]?) → ParsePost s.data.toList w (.returned (.tuple #[.agg zeroNode, .iface ty ev])) w') := by
      rcases hbad with hl | ⟨⟨n, f⟩, ht, hl⟩
      · exact ⟨_, _, hlong (by omega), fun w' hb _ => ⟨hb, .inl ⟨by omega, rfl⟩⟩⟩
      · obtain ⟨q, he, q0, q1, q2⟩ := herr (by omega) n f ht
        refine ⟨_, _, he, fun w' hb hk => ⟨hb, .inr (.inl ⟨by omega, n, f, q, ht, rfl, ?_⟩)⟩⟩
        have hq := block_lt q0
        simp only at hq
        have hq2 : q ≠ w.heap.size := by
          intro e
          subst e
          have := n1.c1
          rw [q1] at this
          cases this
        have hq3 : q ≠ w.heap.size + 1 := by
          intro e
          subst e
          rw [q0] at e1
          cases e1
        have hqk := hk q hq2 hq3 hq
        exact ⟨by rw [World.cell?_of_block (w := w1) hqk]; exact q0, by rw [World.cell?_of_block (w := w1) hqk, ← hn] ; rw [← hn] at q1; exact q1, by rw [World.cell?_of_block (w := w1) hqk]; exact q2⟩
    clear hok herr hlong hbad
    obtain ⟨_, _, _, _, _, x0, x1, x2, x3, x4, xz⟩ := id r1
    go_wp2
    go_region
    all_goals
      go_wp2
    simp only [bodyPostD, Leaves]
    refine ⟨_, presults (b := w.heap.size) (v0 := .int .i64 0) (v1 := .string ⟨#[]⟩) (v2 := .int .i64 0) (v3 := .int .i64 0) (v4 := .slice none 0 0) (ev := .iface ty ev) ?_ ?_ rfl rfl, ?_⟩
    · with_reducible refine NB.drew ?_
      with_reducible exact (end_nb (RB.put r1 _ _ _) (World.cell?_setCell_same _ _ _ e1)).1
    · refine cell_far (gb_drew (gb_refl _ none)) ?_ (by simp)
      with_reducible exact (end_nb (RB.put r1 _ _ _) (World.cell?_setCell_same _ _ _ e1)).2
    · have hbE := end_below (v0 := .int .i64 0) (v1 := .string ⟨#[]⟩) (v2 := .int .i64 0) (v3 := .int .i64 0) (v4 := .slice none 0 0) (ev := .iface ty ev) (show Below w.heap.size w (w1.setCell ⟨w.heap.size + 1, 0, none⟩ (.iface ty ev)) from hbb.setCell (by simp) _)
      refine HQ.out _ (hbE.grown (gb_drew (gb_refl _ none)) hbE.size (fun k hk => by cases hk)) (fun k h1 h2 h3 => ?_)
      rw [heap_drew, end_heap h1 h2, Below.heap_setCell _ _ _ _ (by simp; omega)]
  · have hne := (toksN_ne _ _ _ (Nat.lt_succ_self _) ht).1
    have hGL : GoodL (tokL s.size l) := by rw [hn]; exact goodL ht (by omega)
    obtain ⟨v, rfl, hown⟩ := hok (by omega) l ht
    clear hlong herr
    obtain ⟨gg, cap, rfl⟩ := own_shape hown hne
    have hgl := hown.lt gg (by simp [Value.ownBlock])
    simp at hgl
    have ho2 := hown.kept (gb_set (gb_refl w1 (some (w.heap.size + 1))) 0 .nilIface) (.inr (by simp [Value.ownBlock]; omega))
    have hb2 : Below w.heap.size w (w1.setCell ⟨w.heap.size + 1, 0, none⟩ .nilIface) := hbb.setCell (by simp) _
    have HT2 := hide (tab_below HT.out hb2)
    have r2 : RB (w1.setCell ⟨w.heap.size + 1, 0, none⟩ .nilIface) w.heap.size := RB.put r1 _ _ _
    have e2 : (w1.setCell ⟨w.heap.size + 1, 0, none⟩ .nilIface).cell? ⟨w.heap.size + 1, 0, none⟩ = some .nilIface := World.cell?_setCell_same _ _ _ e1
    have z2 : (w1.setCell ⟨w.heap.size + 1, 0, none⟩ .nilIface).frozen? ⟨w.heap.size + 1, 0, none⟩ = false := by rw [World.frozen?_setCell]; exact z1
    clear hok hown
    obtain ⟨_, _, _, _, _, x0, x1, x2, x3, x4, xz⟩ := id r1
    go_wp2_with fail
    go_at_call 17
    refine (lexicon_any _ HT2.out).mono ?_
    rintro e w3 ⟨rfl, hlx, hb3⟩
    have hg3 := bl_gb hb3 none
    have r3 : RB w3 w.heap.size := r2.kept hg3 (by simp)
    have e3 := cell_far hg3 e2 (by simp)
    have z3 : w3.frozen? ⟨w.heap.size + 1, 0, none⟩ = false := frozen_far hg3 (by simp; omega) z2 (by simp)
    have ho3 := ho2.kept hg3 (.inr (by simp [Value.ownBlock]))
    have hbb3 : Below w.heap.size w w3 := hb2.trans (hb3.mono (by simp; omega))
    have sz3 := hb3.size
    have hlt := World.ownsMap.lt hlx
    simp at sz3 hlt
    clear x0 x1 x2 x3 x4 xz r1 e1 z1
    obtain ⟨_, _, _, _, _, x0, x1, x2, x3, x4, xz⟩ := id r3
    obtain ⟨c, hc⟩ : ∃ c : PC, c = ⟨w3.heap.size, gg, cap, w1.heap.size + 1, tokL s.size l⟩ := ⟨_, rfl⟩
    have hps : PS c (w3.alloc (.cells #[.slice (some ⟨gg, 0, none⟩) l.length cap, .int .i64 0, .int .i64 0, .map (some (w1.heap.size + 1))] 56)) 0 0 := by
      subst hc
      have ho4 := ho3.alloc (.cells #[.slice (some ⟨gg, 0, none⟩) l.length cap, .int .i64 0, .int .i64 0, .map (some (w1.heap.size + 1))] 56)
      refine ⟨?_, ?_, ?_, ?_, ?_, ?_, ?_, ?_, ?_, ?_, ?_, hGL, by omega⟩
      · rw [World.cell?_alloc_at _ _ _ _ rfl, tokL_len]; rfl
      · rw [World.cell?_alloc_at _ _ _ _ rfl]; rfl
      · rw [World.cell?_alloc_at _ _ _ _ rfl]; rfl
      · rw [World.cell?_alloc_at _ _ _ _ rfl]; rfl
      · exact World.frozen?_alloc_at _ _ _ _ rfl
      · exact World.frozen?_alloc_at _ _ _ _ rfl
      · intro j hj
        rw [tokL_len] at hj
        have hf := flatT_word (n := s.data.toList.length) (l := l) hj
        rw [wd_tokL _ _ _ hj, pos_tokL _ _ _ hj]
        refine ⟨(ho4.cellAt (j * 2) (by omega)).trans hf.1, (ho4.cellAt (j * 2 + 1) (by omega)).trans (by rw [hn]; exact hf.2)⟩
      · have hx : IsLex w3 (w1.heap.size + 1) := by simpa [IsLex] using hlx
        exact hx.below ((Below.refl _ _).alloc (Nat.le_refl _) _)
      · show gg ≠ w3.heap.size
        omega
      · show w1.heap.size + 1 ≠ w3.heap.size
        omega
      · show 0 < _
        rw [tokL_len]
        omega
    have hcb : c.pb = w3.heap.size := by rw [hc]
    have hcL : c.L = tokL s.size l := by rw [hc]
    go_wp2_with fail
    go_at_call 18
    rw [← hcb]
    refine (HW.out c _ 0 hps).mono ?_
    rw [hcb]
    rintro e w5 (⟨x, hr, ht5, hg5⟩ | ⟨a, j, v, hr, rfl, htr, hg5, p5, hi5⟩)
    · rw [hcb] at hg5
      have sz5 := hg5.size
      simp at sz5
      have r5 : RB w5 w.heap.size := (r3.alloc _).kept hg5 (by simp; omega)
      have e5 := cell_far hg5 (cell_al e3 _) (by simp; omega)
      have z5 : w5.frozen? ⟨w.heap.size + 1, 0, none⟩ = false := frozen_far hg5 (by simp; omega) (by rw [World.frozen?_alloc_old _ _ _ (by simp; omega)]; exact z3) (by simp; omega)
      have hb5 : Below w.heap.size w w5 := (hbb3.alloc (by omega) _).grown hg5 (by simp; omega) (fun k hk => by cases hk; omega)
      obtain ⟨q, rfl, hq, q0, q1, q2⟩ := ht5
      simp at hq
      show Leaves _ _ _ _ _ _ _
      refine leaves_cons (f := 16) (args := #[.pointer (some ⟨w.heap.size, 0, none⟩), .pointer (some ⟨w.heap.size + 1, 0, none⟩)]) (by simp) (by simp [go_sem]) ?_
      refine (pcatch_panicking w.heap.size ⟨w.heap.size + 1, 0, none⟩ ⟨q, 0, none⟩ _ [] _ (by simp) r5 e5 z5).mono ?_
      rintro e u' w6 ⟨rfl, rfl, hw6⟩
      show ∃ v, _ ∧ _
      unfold put5 at hw6
      have hN := end_nb (v0 := .int .i64 0) (v1 := .string ⟨#[]⟩) (v2 := .int .i64 0) (v3 := .int .i64 0) (v4 := .slice none 0 0) (ev := .iface 49 (.pointer (some ⟨q, 0, none⟩))) r5 e5
      have hB := end_below (v0 := .int .i64 0) (v1 := .string ⟨#[]⟩) (v2 := .int .i64 0) (v3 := .int .i64 0) (v4 := .slice none 0 0) (ev := .iface 49 (.pointer (some ⟨q, 0, none⟩))) hb5
      have hqk := end_heap (W := w5) (b := w.heap.size) (k := q) (v0 := .int .i64 0) (v1 := .string ⟨#[]⟩) (v2 := .int .i64 0) (v3 := .int .i64 0) (v4 := .slice none 0 0) (ev := .iface 49 (.pointer (some ⟨q, 0, none⟩))) (by omega) (by omega)
      rw [← hw6] at hN hB hqk
      clear hw6
      refine ⟨_, presults (b := w.heap.size) hN.1 hN.2 rfl rfl, hB, .inr (.inr (.inl ⟨by omega, l, x, q, ht, by rw [← hn, ← hcL]; exact hr, rfl, ?_⟩))⟩
      exact ⟨by rw [World.cell?_of_block (w := w5) hqk]; exact q0, by rw [World.cell?_of_block (w := w5) hqk]; exact q1, by rw [World.cell?_of_block (w := w5) hqk]; exact q2⟩
    · rw [hcb] at hg5
      have sz5 := hg5.size
      simp at sz5
      have r5 : RB w5 w.heap.size := (r3.alloc _).kept hg5 (by simp; omega)
      have e5 := cell_far hg5 (cell_al e3 _) (by simp; omega)
      have z5 : w5.frozen? ⟨w.heap.size + 1, 0, none⟩ = false := frozen_far hg5 (by simp; omega) (by rw [World.frozen?_alloc_old _ _ _ (by simp; omega)]; exact z3) (by simp; omega)
      have hb5 : Below w.heap.size w w5 := (hbb3.alloc (by omega) _).grown hg5 (by simp; omega) (fun k hk => by cases hk; omega)
      obtain ⟨sv, rfl, hlr⟩ := htr
      obtain ⟨ad, cp, rfl⟩ := hlr.form
      clear x0 x1 x2 x3 x4 xz
      obtain ⟨_, _, _, _, _, x0, x1, x2, x3, x4, xz⟩ := id r5
      go_wp2
      refine leaves_cons (f := 16) (args := #[.pointer (some ⟨w.heap.size, 0, none⟩), .pointer (some ⟨w.heap.size + 1, 0, none⟩)]) (by simp) (by simp [go_sem]) ?_
      refine (pcatch_idle _ _ _).mono ?_
      rintro e u' w6 ⟨rfl, rfl, hw6⟩
      simp only [Leaves, settle]
      have hN := end_nb (v0 := .int .i64 a.kind) (v1 := .string ⟨a.name.toArray⟩) (v2 := .int .i64 a.num) (v3 := .int .i64 a.at') (v4 := .slice ad a.subs.length cp) (ev := .nilIface) r5 e5
      have hB := end_below (v0 := .int .i64 a.kind) (v1 := .string ⟨a.name.toArray⟩) (v2 := .int .i64 a.num) (v3 := .int .i64 a.at') (v4 := .slice ad a.subs.length cp) (ev := .nilIface) hb5
      have hL : LR w6 (In (w3.heap.size + 1) w5.heap.size) a.subs (.slice ad a.subs.length cp) := by
        rw [hw6]
        have h9 : LR w5 (In (w3.heap.size + 1) w5.heap.size) a.subs (.slice ad a.subs.length cp) := by simpa using hlr
        exact LR.put (LR.put (LR.put (LR.put (LR.put (LR.put h9 (by omega) _ _) (by omega) _ _) (by omega) _ _) (by omega) _ _) (by omega) _ _) (by omega) _ _
      have hZ : w6.heap.size = w5.heap.size := by rw [hw6]; simp [World.setCell]
      rw [← hw6] at hN hB
      clear hw6
      refine ⟨_, presults (b := w.heap.size) hN.1 hN.2 rfl rfl, hB, .inr (.inr (.inr ⟨by omega, l, a, j, _, ht, by rw [← hn, ← hcL]; exact hr, rfl, _, rfl, hL.wide (by omega) (by omega)⟩))⟩
end Go.Proofs.YtbphiiaoncakfaaGreatDoor

/- oberlinref.Tree: the document's tree of a text, or what is wrong. -/
namespace Go.Proofs.YtbphiiaoncakfaaGreatDoor
open Go.RowKit

/-- What oberlinref.Tree answers, and what memory it leaves. -/
def TreePost (t : List UInt8) (w : World) (e : Ending) (w' : World) : Prop :=
  Below w.heap.size w w' ∧
  ((4000 < t.length ∧ e = .returned (.tuple #[.agg zeroNode, badV 3 (-1) (-1)])) ∨
   (t.length ≤ 4000 ∧ ∃ n f, toks t = .error (n, f) ∧ e = .returned (.tuple #[.agg zeroNode, badV n 0 ((t.length - f.length : Nat) : Int)])) ∨
   (t.length ≤ 4000 ∧ ∃ l x, toks t = .ok l ∧ wholeP (tokL t.length l) 0 = .error x ∧ e = .returned (.tuple #[.agg zeroNode, badV x.1 0 x.2])) ∨
   (t.length ≤ 4000 ∧ ∃ l x j v, toks t = .ok l ∧ wholeP (tokL t.length l) 0 = .ok (x, j) ∧ e = .returned (.tuple #[v, badV 0 (-1) (-1)]) ∧ TR w' w.heap.size w'.heap.size x v))

theorem toksN_err : ∀ (k : Nat) (r : List UInt8) (n : Nat) (f : List UInt8), toksN k r = .error (n, f) → n ≠ 0
  | 0, r, n, f, h => by cases h
  | k + 1, r, n, f, h => by
    rw [toksN_succ] at h
    cases hk : skp r with
    | error g => rw [hk] at h; cases h; decide
    | ok r1 =>
      rw [hk] at h
      cases r1 with
      | nil => cases h
      | cons c r1 =>
        simp only [tokA] at h
        cases hw : wordOf (c :: r1) with
        | error e =>
          rw [hw] at h
          cases h
          unfold wordOf at hw
          split at hw
          · split at hw <;> cases hw
            decide
          · split at hw
            · split at hw <;> cases hw
              decide
            · split at hw <;> cases hw
              decide
        | ok w =>
          rw [hw] at h
          simp only at h
          cases ht : toksN k ((c :: r1).drop w.length) with
          | error x => rw [ht] at h; cases h; exact toksN_err k _ n f ht
          | ok l1 => rw [ht] at h; cases h

/-- A block of three cells. -/
structure B3 (w : World) (b : Nat) (v0 v1 v2 : Value) : Prop where
  c0 : w.cell? ⟨b, 0, none⟩ = some v0
  c1 : w.cell? ⟨b, 1, none⟩ = some v1
  c2 : w.cell? ⟨b, 2, none⟩ = some v2
  z : ∀ o, w.frozen? ⟨b, o, none⟩ = false
section
variable {w w' : World} {b b' : Nat} {v0 v1 v2 u0 u1 u2 : Value}
theorem B3.lt (h : B3 w b v0 v1 v2) : b < w.heap.size := block_lt h.c0
theorem B3.kept {row : Option Nat} (h : B3 w b v0 v1 v2) (hg : w.grownBy w' row) (hr : some b ≠ row) : B3 w' b v0 v1 v2 := ⟨cell_far hg h.c0 hr, cell_far hg h.c1 hr, cell_far hg h.c2 hr, fun o => frozen_far hg h.lt (h.z o) hr⟩
theorem B3.new (w : World) (t : TypeId) : B3 (w.alloc (.cells #[v0, v1, v2] t)) w.heap.size v0 v1 v2 :=
  ⟨by rw [World.cell?_alloc_at _ _ _ _ rfl]; rfl, by rw [World.cell?_alloc_at _ _ _ _ rfl]; rfl, by rw [World.cell?_alloc_at _ _ _ _ rfl]; rfl, fun o => World.frozen?_alloc_at _ _ _ _ rfl⟩
theorem B3.three (h : B3 w b v0 v1 v2) : B3 (((w.setCell ⟨b, 0, none⟩ u0).setCell ⟨b, 1, none⟩ u1).setCell ⟨b, 2, none⟩ u2) b u0 u1 u2 :=
  ⟨RS.own_cell (RS.own_cell (RS.own_cell h.c0)), RS.own_cell (RS.own_cell (RS.own_cell h.c1)), RS.own_cell (RS.own_cell (RS.own_cell h.c2)), fun o => by rw [World.frozen?_setCell, World.frozen?_setCell, World.frozen?_setCell]; exact h.z o⟩
end
theorem tresults {W : World} {b : Nat} {v0 v1 v2 v3 v4 u0 u1 u2 : Value} {tmps : Array Value} (hn : NB W b v0 v1 v2 v3 v4) (he : B3 W (b + 1) u0 u1 u2) (t2 : tmps[2]?.getD undef = .pointer (some ⟨b, 0, none⟩)) (t3 : tmps[3]?.getD undef = .pointer (some ⟨b + 1, 0, none⟩)) :
    (results Tryz.f5 tmps).run Tryz.prog W = .ok (.tuple #[.agg #[v0, v1, v2, v3, v4], .agg #[u0, u1, u2]]) W := by
  simp [results, Tryz.results5, t2, t3, go_sem, hn.c0, hn.c1, hn.c2, hn.c3, hn.c4, he.c0, he.c1, he.c2]
/-- The end: both results are written. -/
theorem tree_end {w W : World} {b : Nat} {v0 v1 v2 v3 v4 u0 u1 u2 x0 x1 x2 : Value} (hr : RB W b) (he : B3 W (b + 1) x0 x1 x2) (hb : Below b w W) :
    ∃ W', W' = ((((((((W.setCell ⟨b, 0, none⟩ v0).setCell ⟨b, 1, none⟩ v1).setCell ⟨b, 2, none⟩ v2).setCell ⟨b, 3, none⟩ v3).setCell ⟨b, 4, none⟩ v4).setCell ⟨b + 1, 0, none⟩ u0).setCell ⟨b + 1, 1, none⟩ u1).setCell ⟨b + 1, 2, none⟩ u2) ∧
      NB W' b v0 v1 v2 v3 v4 ∧ B3 W' (b + 1) u0 u1 u2 ∧ Below b w W' ∧ W'.heap.size = W.heap.size ∧ ∀ k, k ≠ b → k ≠ b + 1 → W'.heap[k]? = W.heap[k]? := by
  refine ⟨_, rfl, ?_, ?_, ?_, by simp [World.setCell], fun k h1 h2 => ?_⟩
  · exact NB.far (NB.far (NB.far (RB.five hr) (by omega) _ _) (by omega) _ _) (by omega) _ _
  · have h5 : w.heap.size ≤ w.heap.size := Nat.le_refl _
    refine B3.three (v0 := x0) (v1 := x1) (v2 := x2) ?_
    have hg : W.grownBy ((((W.setCell ⟨b, 0, none⟩ v0).setCell ⟨b, 1, none⟩ v1).setCell ⟨b, 2, none⟩ v2).setCell ⟨b, 3, none⟩ v3 |>.setCell ⟨b, 4, none⟩ v4) (some b) := gb_set (gb_set (gb_set (gb_set (gb_set (gb_refl W (some b)) _ _) _ _) _ _) _ _) _ _
    exact he.kept hg (by simp)
  · exact (((((((hb.setCell (by simp) _).setCell (by simp) _).setCell (by simp) _).setCell (by simp) _).setCell (by simp) _).setCell (by simp) _).setCell (by simp) _).setCell (by simp) _
  · rw [Below.heap_setCell _ _ _ _ (by simp; omega), Below.heap_setCell _ _ _ _ (by simp; omega), Below.heap_setCell _ _ _ _ (by simp; omega), Below.heap_setCell _ _ _ _ (by simp; omega), Below.heap_setCell _ _ _ _ (by simp; omega), Below.heap_setCell _ _ _ _ (by simp; omega), Below.heap_setCell _ _ _ _ (by simp; omega), Below.heap_setCell _ _ _ _ (by simp; omega)]

set_option maxRecDepth 100000 in
set_option maxHeartbeats 2000000 in
theorem tree_any (s : ByteArray) (w : World) (a : Addr) (kc : Nat) (hs : s.size ≤ maxLen) (hk : Kept33 w a kc) (hM : ∀ c : RC, QOK c 0 11 (moduleQ c.L)) :
    Calls Tryz.prog 5 #[.string s] w (TreePost s.data.toList w) := by
  have HK := hide hk
  have HM := hide hM
  have hn := bs_size s
  clear hk hM
  go_enter Tryz.func5, Tryz.ntmps5
  go_wp2_with fail
  go_at_call 9
  refine (words_any s _ hs).mono ?_
  rintro e w1 ⟨hlong, hok, herr, hb1⟩
  have hg1 := bl_gb hb1 none
  have r1 : RB w1 w.heap.size := RB.kept (by repeat (first | with_reducible exact RB.new' (by simp) | with_reducible refine RB.put ?_ _ _ _ | with_reducible refine RB.alloc ?_ _ | with_reducible refine RB.drewN ?_ _ | with_reducible refine RB.drew ?_)) hg1 (by simp)
  have e1 : B3 w1 (w.heap.size + 1) (.int .i64 0) (.int .i64 0) (.int .i64 0) := by
    have h9 := B3.new (v0 := .int .i64 0) (v1 := .int .i64 0) (v2 := .int .i64 0) (w.alloc (.cells #[.int .i64 0, .string ⟨#[]⟩, .int .i64 0, .int .i64 0, .slice none 0 0] 25)) 28
    simp only [World.size_alloc] at h9
    exact h9.kept hg1 (by simp)
  have hbb : Below w.heap.size w w1 := (((Below.refl _ _).alloc (Nat.le_refl _) _).alloc (by simp) _).trans (hb1.mono (by simp; omega))
  have sz1 := hb1.size
  simp at sz1
  rcases (show (∃ n t9 a9 : Int, n ≠ 0 ∧ e = .returned (.tuple #[.slice none 0 0, badV n t9 a9]) ∧ Hid (∀ w', Below w.heap.size w w' → TreePost s.data.toList w (.returned (.tuple #[.agg zeroNode, badV n t9 a9])) w')) ∨ ∃ l, toks s.data.toList = .ok l ∧ s.size ≤ 4000 by
    by_cases hl : 4000 < s.size
    · exact .inl ⟨3, -1, -1, by decide, hlong (by omega), fun w' hb => ⟨hb, .inl ⟨by omega, rfl⟩⟩⟩
    · cases ht : toks s.data.toList with
      | error x =>
        obtain ⟨n, f⟩ := x
        have hne := toksN_err _ _ n f ht
        exact .inl ⟨n, 0, _, by omega, herr (by omega) n f ht, fun w' hb => ⟨hb, .inr (.inl ⟨by omega, n, f, ht, rfl⟩)⟩⟩
      | ok l => exact .inr ⟨l, rfl, by omega⟩) with ⟨n, t9, a9, hne, rfl, HQ⟩ | ⟨l, ht, hl⟩
  · clear hlong hok herr
    have hnb : (n == 0) = false := by simpa using hne
    obtain ⟨_, _, _, _, _, x0, x1, x2, x3, x4, xz⟩ := id r1
    obtain ⟨y0, y1, y2, yz⟩ := id e1
    have el := e1.lt
    unfold badV
    go_wp2_with fail
    obtain ⟨w2, hw2⟩ : ∃ x, x = w1.alloc (.cells #[.int .i64 n, .int .i64 t9, .int .i64 a9] 28) := ⟨_, rfl⟩
    rw [← hw2]
    have hg2 : w1.grownBy w2 none := by rw [hw2]; exact World.grownBy_alloc _ _ none
    have b2 : B3 w2 w1.heap.size (.int .i64 n) (.int .i64 t9) (.int .i64 a9) := by rw [hw2]; exact B3.new w1 _
    have r2 := r1.kept hg2 (by simp)
    have e2 := e1.kept hg2 (by simp)
    have hb2 : Below w.heap.size w w2 := by rw [hw2]; exact hbb.alloc (by omega) _
    clear hw2 x0 x1 x2 x3 x4 xz y0 y1 y2 yz
    have b2l := b2.lt
    have r2l := r2.lt
    obtain ⟨_, _, _, _, _, x0, x1, x2, x3, x4, xz⟩ := id r2
    obtain ⟨y0, y1, y2, yz⟩ := id e2
    obtain ⟨z0, z1, z2, zz⟩ := id b2
    go_region
    all_goals
      go_wp2
    obtain ⟨W, hW, q1, q2, q3, q4, q5⟩ := tree_end (v0 := .int .i64 0) (v1 := .string ⟨#[]⟩) (v2 := .int .i64 0) (v3 := .int .i64 0) (v4 := .slice none 0 0) (u0 := .int .i64 n) (u1 := .int .i64 t9) (u2 := .int .i64 a9) r2 e2 hb2
    rw [← hW]
    clear hW
    refine bodyPost_ret (tresults (b := w.heap.size) (NB.drew q1) (q2.kept (gb_drew (gb_refl W none)) (by simp)) rfl rfl) rfl ?_
    exact HQ.out _ (q3.grown (gb_drew (gb_refl W none)) q3.size (fun _ hk => by cases hk))
  · have hne := (toksN_ne _ _ _ (Nat.lt_succ_self _) ht).1
    obtain ⟨v, rfl, hown⟩ := hok (by omega) l ht
    clear hlong herr
    obtain ⟨gg, cap, rfl⟩ := own_shape hown hne
    have hgl := hown.lt gg (by simp [Value.ownBlock])
    simp at hgl
    clear hok
    unfold badV
    go_wp2_with fail
    go_at_call 10
    refine (fine_any _).mono ?_
    rintro e w2 ⟨rfl, hb2⟩
    have hg2 : w1.grownBy w2 none := gb_trans (World.grownBy_alloc _ _ none) (bl_gb hb2 none)
    have r2 := r1.kept hg2 (by simp)
    have e2 := e1.kept hg2 (by simp)
    have sz2 := hg2.size
    have hbb2 : Below w.heap.size w w2 := hbb.grown hg2 (by omega) (fun _ hk => by cases hk)
    have ho2 := hown.kept hg2 (.inr (by simp [Value.ownBlock]))
    have hk2 : Kept33 w2 a kc := (HK.out.far (bl_gb hbb none) (by simp) (by simp)).far hg2 (by simp) (by simp)
    have hkl := HK.out.lt
    have hkg := block_lt HK.out.head
    simp only at hkg
    have hGL : GoodL (tokL s.size l) := by rw [hn]; exact goodL ht (by omega)
    obtain ⟨c, hc⟩ : ∃ c : RC, c = ⟨w2.heap.size, gg, cap, a, kc, tokL s.size l⟩ := ⟨_, rfl⟩
    have hps : RS c (w2.alloc (.cells #[.slice (some ⟨gg, 0, none⟩) l.length cap, .int .i64 0, .int .i64 0, .int .i64 0, .int .i64 (-1), .int .i64 (-1)] 43)) (0, none) 0 := by
      subst hc
      have ho4 := ho2.alloc (.cells #[.slice (some ⟨gg, 0, none⟩) l.length cap, .int .i64 0, .int .i64 0, .int .i64 0, .int .i64 (-1), .int .i64 (-1)] 43)
      refine ⟨⟨?_, ?_, ?_, ?_, ?_, ?_, fun o => World.frozen?_alloc_at _ _ _ _ rfl, ?_, hk2.far (World.grownBy_alloc _ _ none) (by simp) (by simp), ?_, ?_, ?_, ?_, hGL, by omega, fun x hx => by cases hx⟩, fun h9 => by omega⟩
      · rw [World.cell?_alloc_at _ _ _ _ rfl, tokL_len]; rfl
      · rw [World.cell?_alloc_at _ _ _ _ rfl]; rfl
      · rw [World.cell?_alloc_at _ _ _ _ rfl]; rfl
      · rw [World.cell?_alloc_at _ _ _ _ rfl]; rfl
      · rw [World.cell?_alloc_at _ _ _ _ rfl]; rfl
      · rw [World.cell?_alloc_at _ _ _ _ rfl]; rfl
      · intro j hj
        rw [tokL_len] at hj
        have hf := flatT_word (n := s.data.toList.length) (l := l) hj
        rw [wd_tokL _ _ _ hj, pos_tokL _ _ _ hj]
        exact ⟨(ho4.cellAt (j * 2) (by omega)).trans hf.1, (ho4.cellAt (j * 2 + 1) (by omega)).trans (by rw [hn]; exact hf.2)⟩
      · show gg ≠ w2.heap.size
        omega
      · show a.block ≠ w2.heap.size
        omega
      · show 3 ≠ w2.heap.size
        omega
      · show 0 < _
        rw [tokL_len]
        omega
    have hcb : c.rb = w2.heap.size := by rw [hc]
    have hcL : c.L = tokL s.data.toList.length l := by rw [hc, hn]
    have hsim := (sim_module c.L (goodW c.L)).1 0
    unfold badV
    go_wp2_with fail
    go_at_call 11
    rw [← hcb]
    have hcb1 : w2.heap.size ≤ c.rb := by omega
    have hcb2 : c.rb ≤ w2.heap.size := by omega
    have HCL := hide hcL
    clear hcb hcL hc
    refine (HM.out c _ (0, none) hps).mono ?_
    rintro e w3 ⟨⟨k4, n4, m4, q4, l4⟩, s3, v3, hr3, rfl, ⟨sv4, rfl, lr4⟩, hg3, p3, hi3⟩
    rw [hr3] at hsim
    simp only [T.kind, T.name, T.num, T.at', T.subs] at lr4 ⊢
    obtain ⟨ad4, cp4, rfl⟩ := lr4.form
    have sz3 := hg3.size
    simp at sz3
    have r3 : RB w3 w.heap.size := (r2.alloc _).kept hg3 (by simp; omega)
    have e3 : B3 w3 (w.heap.size + 1) (.int .i64 0) (.int .i64 0) (.int .i64 0) := (e2.kept (World.grownBy_alloc _ _ none) (by simp)).kept hg3 (by simp; omega)
    have hb3 : Below w.heap.size w w3 := (hbb2.alloc (by omega) _).grown hg3 (by simp; omega) (fun _ hk => by cases hk; omega)
    have lr4 : LR w3 (In (w2.heap.size + 1) w3.heap.size) l4 (.slice ad4 l4.length cp4) := by simpa using lr4
    obtain ⟨w4, hw4⟩ : ∃ x, x = w3.alloc (.cells #[.int .i64 k4, .string ⟨n4.toArray⟩, .int .i64 m4, .int .i64 q4, .slice ad4 l4.length cp4] 25) := ⟨_, rfl⟩
    have hg4 : w3.grownBy w4 none := by rw [hw4]; exact World.grownBy_alloc _ _ none
    have sz4 := hg4.size
    have nb4 : NB w4 w3.heap.size (.int .i64 k4) (.string ⟨n4.toArray⟩) (.int .i64 m4) (.int .i64 q4) (.slice ad4 l4.length cp4) := by rw [hw4]; exact NB.new w3 _
    have r4 := r3.kept hg4 (by simp)
    have e4 := e3.kept hg4 (by simp)
    have hb4 : Below w.heap.size w w4 := hb3.grown hg4 (by omega) (fun _ hk => by cases hk)
    have p4 := p3.grown hg4
    have lr4 := lr4.grown hg4
    go_wp2_with fail
    rw [← hw4]
    clear hw4
    go_at_call 12
    refine (rok_any c _ s3 0 p4).mono ?_
    rintro e w5 ⟨rfl, hg5⟩
    have sz5 := hg5.size
    have n5 := nb4.kept hg5 (by simp)
    have r5 := r4.kept hg5 (by simp)
    have e5 := e4.kept hg5 (by simp)
    have hb5 : Below w.heap.size w w5 := hb4.grown hg5 (by omega) (fun _ hk => by cases hk)
    have p5 := p4.grown hg5
    have lr5 := lr4.grown hg5
    cases hm : moduleP c.L 0 with
    | error x =>
      rw [hm] at hsim
      obtain ⟨_, j, hx⟩ := hsim
      cases hx
      have hwp : wholeP c.L 0 = .error x := P.bind_err hm
      go_wp2_with fail
      go_at_call 12
      refine (rok_any c _ (j, some x) 0 p5).mono ?_
      rintro e w6 ⟨rfl, hg6⟩
      have sz6 := hg6.size
      have r6 := r5.kept hg6 (by simp)
      have e6 := e5.kept hg6 (by simp)
      have hb6 : Below w.heap.size w w6 := hb5.grown hg6 (by omega) (fun _ hk => by cases hk)
      have p6 := p5.grown hg6
      have d3 : w6.cell? ⟨c.rb, 3, none⟩ = some (.int .i64 x.1) := p6.c3
      have d4 : w6.cell? ⟨c.rb, 4, none⟩ = some (.int .i64 0) := p6.c4
      have d5 : w6.cell? ⟨c.rb, 5, none⟩ = some (.int .i64 x.2) := p6.c5
      have rl := r6.lt
      have el := e6.lt
      have pl := p6.lt
      obtain ⟨_, _, _, _, _, x0, x1, x2, x3, x4, xz⟩ := id r6
      obtain ⟨y0, y1, y2, yz⟩ := id e6
      go_wp2_with fail
      go_region
      all_goals
        go_wp2
      obtain ⟨W, hW, q1, q2, q3, q4, q5⟩ := tree_end (v0 := .int .i64 0) (v1 := .string ⟨#[]⟩) (v2 := .int .i64 0) (v3 := .int .i64 0) (v4 := .slice none 0 0) (u0 := .int .i64 x.1) (u1 := .int .i64 0) (u2 := .int .i64 x.2) r6 e6 hb6
      rw [← hW]
      clear hW
      refine bodyPost_ret (tresults (b := w.heap.size) (NB.drew q1) (q2.kept (gb_drew (gb_refl W none)) (by simp)) rfl rfl) rfl ?_
      exact ⟨q3.grown (gb_drew (gb_refl W none)) q3.size (fun _ hk => by cases hk), .inr (.inr (.inl ⟨by omega, l, x, ht, by rw [← HCL.out]; exact hwp, rfl⟩))⟩
    | ok y =>
      obtain ⟨t, j⟩ := y
      rw [hm] at hsim
      cases hsim
      go_wp2_with fail
      go_at_call 13
      refine (rword_any c _ (j, none) 0 p5).mono ?_
      rintro e w6 ⟨rfl, hg6⟩
      have sz6 := hg6.size
      have n6 := n5.kept hg6 (by simp)
      have r6 := r5.kept hg6 (by simp)
      have e6 := e5.kept hg6 (by simp)
      have hb6 : Below w.heap.size w w6 := hb5.grown hg6 (by omega) (fun _ hk => by cases hk)
      have p6 := p5.grown hg6
      have lr6 := lr5.grown hg6
      by_cases hwd : wd c.L j = []
      · have hxe : (wd c.L j).isEmpty = true := by rw [hwd]; rfl
        have hwp : wholeP c.L 0 = .ok (T.mk k4 n4 m4 q4 l4, j) := (P.bind_ok hm).trans (if_pos hwd)
        go_wp2_with fail
        go_at_call 12
        refine (rok_any c _ (j, none) 0 p6).mono ?_
        rintro e w7 ⟨rfl, hg7⟩
        have sz7 := hg7.size
        have n7 := n6.kept hg7 (by simp)
        have r7 := r6.kept hg7 (by simp)
        have e7 := e6.kept hg7 (by simp)
        have hb7 : Below w.heap.size w w7 := hb6.grown hg7 (by omega) (fun _ hk => by cases hk)
        have lr7 := lr6.grown hg7
        have nl := n7.lt
        obtain ⟨x0, x1, x2, x3, x4, xz⟩ := id n7
        go_wp2_with fail
        go_region_with (go_at_call 10
                        refine (fine_any _).mono ?_
                        unfold badV
                        rintro e w8 ⟨rfl, hb8⟩
                        have hg8 : w7.grownBy w8 none := gb_trans (gb_drewN (gb_refl w7 none) _) (bl_gb hb8 none)
                        have sz8 := hg8.size
                        have n8 := n7.kept hg8 (by simp)
                        have r8 := r7.kept hg8 (by simp)
                        have e8 := e7.kept hg8 (by simp)
                        have rl := r8.lt
                        have el := e8.lt
                        have nl8 := n8.lt
                        obtain ⟨z0, z1, z2, z3, z4, zz⟩ := id n8
                        obtain ⟨_, _, _, _, _, u0, u1, u2, u3, u4, uz⟩ := id r8
                        obtain ⟨y0, y1, y2, yz⟩ := id e8)
        all_goals
          go_wp2
        all_goals
          have hb9 : Below w.heap.size w w8 := hb7.grown hg8 (by omega) (fun _ hk => by cases hk)
          obtain ⟨W, hW, E1, E2, E3, E4, E5⟩ := tree_end (v0 := .int .i64 k4) (v1 := .string ⟨n4.toArray⟩) (v2 := .int .i64 m4) (v3 := .int .i64 q4) (v4 := .slice ad4 l4.length cp4) (u0 := .int .i64 0) (u1 := .int .i64 (-1)) (u2 := .int .i64 (-1)) r8 e8 hb9
          have hL : LR W (In (w2.heap.size + 1) w3.heap.size) l4 (.slice ad4 l4.length cp4) := by
            rw [hW]
            exact LR.put (LR.put (LR.put (LR.put (LR.put (LR.put (LR.put (LR.put (lr7.grown hg8) (by omega) _ _) (by omega) _ _) (by omega) _ _) (by omega) _ _) (by omega) _ _) (by omega) _ _) (by omega) _ _) (by omega) _ _
          rw [← hW]
          clear hW
          refine bodyPost_ret (tresults (b := w.heap.size) E1 E2 rfl rfl) rfl ?_
          exact ⟨E3, .inr (.inr (.inr ⟨by omega, l, T.mk k4 n4 m4 q4 l4, j, _, ht, by rw [← HCL.out]; exact hwp, rfl, _, rfl, hL.wide (by omega) (by omega)⟩))⟩
      · have hxe := isEmpty_false hwd
        have hwp : wholeP c.L 0 = .error (refuseAt c.L j) := (P.bind_ok hm).trans (if_neg hwd)
        go_wp2_with fail
        go_at_call 14
        refine (rother_any c _ (j, none) 0 p6).mono ?_
        rw [other_at]
        rintro e w7 ⟨a7, s7, v7, hr7, rfl, -, hg7, p7, hi7⟩
        cases hr7
        have sz7 := hg7.size
        have hcw := p6.lt
        have r7 := r6.kept hg7 (by simp; omega)
        have e7 := e6.kept hg7 (by simp; omega)
        have hb7 : Below w.heap.size w w7 := hb6.grown hg7 (by omega) (fun _ hk => by cases hk; omega)
        go_wp2_with fail
        go_at_call 12
        refine (rok_any c _ (j, some (refuseAt c.L j)) 0 p7).mono ?_
        rintro e w8 ⟨rfl, hg8⟩
        have sz8 := hg8.size
        have r8 := r7.kept hg8 (by simp)
        have e8 := e7.kept hg8 (by simp)
        have hb8 : Below w.heap.size w w8 := hb7.grown hg8 (by omega) (fun _ hk => by cases hk)
        have p8 := p7.grown hg8
        have d3 : w8.cell? ⟨c.rb, 3, none⟩ = some (.int .i64 (refuseAt c.L j).1) := p8.c3
        have d4 : w8.cell? ⟨c.rb, 4, none⟩ = some (.int .i64 0) := p8.c4
        have d5 : w8.cell? ⟨c.rb, 5, none⟩ = some (.int .i64 (refuseAt c.L j).2) := p8.c5
        have rl := r8.lt
        have el := e8.lt
        have pl := p8.lt
        obtain ⟨_, _, _, _, _, x0, x1, x2, x3, x4, xz⟩ := id r8
        obtain ⟨y0, y1, y2, yz⟩ := id e8
        go_wp2_with fail
        go_region
        all_goals
          go_wp2
        obtain ⟨W, hW, q1, q2, q3, q4, q5⟩ := tree_end (v0 := .int .i64 0) (v1 := .string ⟨#[]⟩) (v2 := .int .i64 0) (v3 := .int .i64 0) (v4 := .slice none 0 0) (u0 := .int .i64 (refuseAt c.L j).1) (u1 := .int .i64 0) (u2 := .int .i64 (refuseAt c.L j).2) r8 e8 hb8
        rw [← hW]
        clear hW
        refine bodyPost_ret (tresults (b := w.heap.size) (NB.drew q1) (q2.kept (gb_drew (gb_refl W none)) (by simp)) rfl rfl) rfl ?_
        exact ⟨q3.grown (gb_drew (gb_refl W none)) q3.size (fun _ hk => by cases hk), .inr (.inr (.inl ⟨by omega, l, (refuseAt c.L j), ht, by rw [← HCL.out]; exact hwp, rfl⟩))⟩
end Go.Proofs.YtbphiiaoncakfaaGreatDoor

/- Two trees in memory of one tree are equal. -/
namespace Go.Proofs.YtbphiiaoncakfaaGreatDoor
open Go.RowKit

theorem flatN_get : ∀ (ts : List T) (svs : List Value) (i : Nat) (t : T) (sv : Value) (j : Nat), svs.length = ts.length → ts[i]? = some t → svs[i]? = some sv → j < 5 → (flatN ts svs)[i * 5 + j]? = (headC t sv)[j]?
  | [], _, i, t, sv, j, _, h, _, _ => by simp at h
  | t0 :: ts, [], i, t, sv, j, h, _, _, _ => by simp at h
  | t0 :: ts, s0 :: svs, 0, t, sv, j, h, ht, hs, hj => by
    cases ht
    cases hs
    rw [flatN, Nat.zero_mul, Nat.zero_add, List.getElem?_append_left (by simpa [headC] using hj)]
  | t0 :: ts, s0 :: svs, i + 1, t, sv, j, h, ht, hs, hj => by
    rw [flatN, List.getElem?_append_right (by simp [headC]; omega)]
    have := flatN_get ts svs i t sv j (by simpa using h) (by simpa using ht) (by simpa using hs) hj
    rw [← this]
    congr 1
    simp [headC]
    omega

/-- The cells of one of a list's trees, and what is below it. -/
theorem LR.node {w : World} {S : Nat → Prop} {ts : List T} {v : Value} (h : LR w S ts v) (i : Nat) (t : T) (ht : ts[i]? = some t) : ∃ g cap sv, v = .slice (some ⟨g, 0, none⟩) ts.length cap ∧ ts.length ≤ maxLen ∧ LR w (fun _ => True) t.subs sv ∧
    w.cell? ⟨g, i * 5, none⟩ = some (.int .i64 t.kind) ∧ w.cell? ⟨g, i * 5 + 1, none⟩ = some (.string ⟨t.name.toArray⟩) ∧ w.cell? ⟨g, i * 5 + 2, none⟩ = some (.int .i64 t.num) ∧ w.cell? ⟨g, i * 5 + 3, none⟩ = some (.int .i64 t.at') ∧ w.cell? ⟨g, i * 5 + 4, none⟩ = some sv := by
  obtain ⟨svs, hl, own, hin, hsub⟩ := h.own
  have hi : i < ts.length := by
    rcases Nat.lt_or_ge i ts.length with h9 | h9
    · exact h9
    · rw [List.getElem?_eq_none h9] at ht; cases ht
  obtain ⟨sv, hsv⟩ : ∃ sv, svs[i]? = some sv := ⟨_, List.getElem?_eq_getElem (by omega)⟩
  rcases own.2 with ⟨_, h0⟩ | ⟨g, cap, cur, rfl, hx⟩
  · omega
  · have key : ∀ j, j < 5 → w.cell? ⟨g, i * 5 + j, none⟩ = (headC t sv)[j]? := fun j hj => (own.cellAt (i * 5 + j) (by omega)).trans (flatN_get ts svs i t sv j hl ht hsv hj)
    exact ⟨g, cap, sv, rfl, by omega, (hsub i t sv ht hsv).mono (fun _ _ => trivial), key 0 (by omega), key 1 (by omega), key 2 (by omega), key 3 (by omega), key 4 (by omega)⟩
abbrev nodeV (t : T) (sv : Value) : Value := .agg #[.int .i64 t.kind, .string ⟨t.name.toArray⟩, .int .i64 t.num, .int .i64 t.at', sv]

set_option maxRecDepth 100000 in
set_option maxHeartbeats 1000000 in
theorem equal_step (t : T) (ih : ∀ u, u ∈ t.subs → ∀ (w : World) (sv1 sv2 : Value), LR w (fun _ => True) u.subs sv1 → LR w (fun _ => True) u.subs sv2 → Calls Tryz.prog 8 #[nodeV u sv1, nodeV u sv2] w fun e w' => e = .returned (.bool true) ∧ w.grownBy w' none)
    (w : World) (sv1 sv2 : Value) (h1 : LR w (fun _ => True) t.subs sv1) (h2 : LR w (fun _ => True) t.subs sv2) :
    Calls Tryz.prog 8 #[nodeV t sv1, nodeV t sv2] w fun e w' => e = .returned (.bool true) ∧ w.grownBy w' none := by
  obtain ⟨k, x, m, a, l⟩ := t
  simp only [T.subs] at h1 h2 ih
  obtain ⟨ad1, cp1, rfl⟩ := h1.form
  obtain ⟨ad2, cp2, rfl⟩ := h2.form
  have H1 := hide h1
  have H2 := hide h2
  have IH := hide ih
  have hml : l.length ≤ maxLen := by
    cases l with
    | nil => simp
    | cons u us =>
      obtain ⟨_, _, _, _, h9, _⟩ := h1.node 0 u rfl
      exact h9
  unfold maxLen at hml
  clear h1 h2 ih
  show Calls Tryz.prog 8 #[.agg #[.int .i64 k, .string ⟨x.toArray⟩, .int .i64 m, .int .i64 a, .slice ad1 l.length cp1], .agg #[.int .i64 k, .string ⟨x.toArray⟩, .int .i64 m, .int .i64 a, .slice ad2 l.length cp2]] w _
  go_enter Tryz.func8, Tryz.ntmps8
  go_wp2
  go_loopw [5] (fun iv wr => ∃ j : Nat, j ≤ l.length ∧ iv = .int .i64 j ∧ NB wr w.heap.size (.int .i64 k) (.string ⟨x.toArray⟩) (.int .i64 m) (.int .i64 a) (.slice ad1 l.length cp1) ∧ NB wr (w.heap.size + 1) (.int .i64 k) (.string ⟨x.toArray⟩) (.int .i64 m) (.int .i64 a) (.slice ad2 l.length cp2) ∧ Hid (w.grownBy wr none)) (fun iv _ => l.length - (intOf iv).toNat)
  case atStart => exact ⟨0, Nat.zero_le _, rfl, (by repeat (first | with_reducible exact NB.new' (by simp) | with_reducible refine NB.far ?_ (by omega) _ _ | with_reducible apply NB.s0 | with_reducible apply NB.s1 | with_reducible apply NB.s2 | with_reducible apply NB.s3 | with_reducible apply NB.s4 | with_reducible refine NB.alloc ?_ _ | with_reducible refine NB.drewN ?_ _ | with_reducible refine NB.drew ?_)), (by repeat (first | with_reducible exact NB.new' (by simp) | with_reducible refine NB.far ?_ (by omega) _ _ | with_reducible apply NB.s0 | with_reducible apply NB.s1 | with_reducible apply NB.s2 | with_reducible apply NB.s3 | with_reducible apply NB.s4 | with_reducible refine NB.alloc ?_ _ | with_reducible refine NB.drewN ?_ _ | with_reducible refine NB.drew ?_)), gb_alloc (gb_alloc (gb_refl w none) _) _⟩
  case round =>
    obtain ⟨j, hj, rfl, na, nb, HG⟩ := hrel
    have nal := na.lt
    have nbl := nb.lt
    have NA := hide na
    have NBB := hide nb
    obtain ⟨x0, x1, x2, x3, x4, xz⟩ := id na
    obtain ⟨y0, y1, y2, y3, y4, yz⟩ := id nb
    by_cases hlt : j < l.length
    · obtain ⟨u, hu⟩ : ∃ u, l[j]? = some u := ⟨_, List.getElem?_eq_getElem hlt⟩
      have hmem : u ∈ l := List.mem_of_getElem? hu
      have lr1 := H1.out.kept HG.out (fun _ hk => by cases hk)
      have lr2 := H2.out.kept HG.out (fun _ hk => by cases hk)
      obtain ⟨g1, c1, sv1, e1, _, L1, p0, p1, p2, p3, p4⟩ := lr1.node j u hu
      obtain ⟨g2, c2, sv2, e2, _, L2, q0, q1, q2, q3, q4⟩ := lr2.node j u hu
      cases e1
      cases e2
      have IHu := fun w9 s1 s2 hl1 hl2 => IH.out u hmem w9 s1 s2 hl1 hl2
      clear lr1 lr2 hu
      have HL1 := hide L1
      have HL2 := hide L2
      have HI := hide IHu
      clear L1 L2 IHu
      go_wp2_with fail
      go_region_with (go_at_call 8
                      refine (HI.out _ sv1 sv2 (HL1.out.kept (gb_drewN (gb_refl wr none) _) (fun _ hk => by cases hk)) (HL2.out.kept (gb_drewN (gb_refl wr none) _) (fun _ hk => by cases hk))).mono ?_
                      rintro e w9 ⟨rfl, hg9⟩)
      all_goals
        go_wp2
        have G9 : wr.grownBy w9 none := gb_trans (gb_drewN (gb_refl wr none) _) hg9
        exact ⟨⟨j + 1, by omega, by go_num, NA.out.kept G9 (by simp), NBB.out.kept G9 (by simp), gb_trans HG.out G9⟩, by simp [intOf]; omega⟩
    · go_wp2
      go_ret
      exact ⟨rfl, HG.out⟩

theorem equal_any (t : T) (w : World) (sv1 sv2 : Value) (h1 : LR w (fun _ => True) t.subs sv1) (h2 : LR w (fun _ => True) t.subs sv2) :
    Calls Tryz.prog 8 #[nodeV t sv1, nodeV t sv2] w fun e w' => e = .returned (.bool true) ∧ w.grownBy w' none :=
  equal_step t (fun u _hu w sv1 sv2 h1 h2 => equal_any u w sv1 sv2 h1 h2) w sv1 sv2 h1 h2
  termination_by SizeOf.sizeOf t
  decreasing_by
    obtain ⟨k, x, m, a, l⟩ := t
    have h9 := List.sizeOf_lt_of_mem (show u ∈ l from _hu)
    simp only [T.mk.sizeOf_spec]
    omega
end Go.Proofs.YtbphiiaoncakfaaGreatDoor
