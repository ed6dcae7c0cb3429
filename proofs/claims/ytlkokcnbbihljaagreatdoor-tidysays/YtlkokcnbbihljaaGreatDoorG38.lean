/- The program's Fold, for every tree that is not huge. -/
import Derived.Test.YtlkokcnbbihljaaGreatDoorG33
import Derived.Test.YtlkokcnbbihljaaGreatDoorG37
namespace Go.Proofs.YtlkokcnbbihljaaGreatDoor
open Go.RowKit

theorem formed_is (t : T) (sv : Value) (w : World) (hf : Fits t) (ha : AT w t.subs sv) (hcount : countT t ≤ 10000) (htab : Lib.TabIs Tryz.prog w "strings.asciiSpace" .u8 Lib.asciiSpaceTab) :
    Calls Tryz.prog 28 #[nodeV t sv] w (Sy w (.bool (wellB .module t))) := by
  have HT : Hid (∀ w', w.grownBy w' none → Calls Tryz.prog 22 #[nodeV t sv] w' fun e w'' => w'.grownBy w'' none ∧ ((wellB .module t = true ∧ e = .returned (.tuple #[.int .i64 (countT t), .bool true])) ∨ (wellB .module t = false ∧ e = .returned (.tuple #[.int .i64 0, .bool false])))) := fun w' hg => formed_says t sv w' hf (ha.kept hg) hcount (tab_below htab ⟨hg.os, hg.tape, hg.output, hg.size, fun i hi => hg.block i hi (by simp)⟩)
  obtain ⟨a, n, c, rfl, hn, hc, hl⟩ := ha.any
  obtain ⟨kd, x, m, p, l⟩ := t
  clear ha hf htab hl hcount
  change Calls Tryz.prog 28 #[.agg #[.int .i64 kd, .string ⟨x.toArray⟩, .int .i64 m, .int .i64 p, .slice a n c]] w _
  generalize HC : countT (.mk kd x m p l) = C at *
  generalize HB : wellB .module (.mk kd x m p l) = B at *
  clear HC HB
  go_enter Tryz.func28, Tryz.ntmps28
  go_wp2_with fail
  go_at_call 22
  refine (HT.out _ (by repeat (first | with_reducible exact gb_refl w none | with_reducible refine gb_put ?_ (by omega) _ _ | with_reducible refine gb_alloc ?_ _ | with_reducible refine gb_drewN ?_ _ | with_reducible refine gb_drew ?_))).mono ?_
  rintro e w1 ⟨g1, ⟨rfl, rfl⟩ | ⟨rfl, rfl⟩⟩
  · have G1 : Hid (w.grownBy w1 none) := gb_trans (by repeat (first | with_reducible exact gb_refl w none | with_reducible refine gb_put ?_ (by omega) _ _ | with_reducible refine gb_alloc ?_ _ | with_reducible refine gb_drewN ?_ _ | with_reducible refine gb_drew ?_)) g1
    clear g1
    go_wp2
    go_ret
    exact ⟨rfl, G1.out⟩
  · have G1 : Hid (w.grownBy w1 none) := gb_trans (by repeat (first | with_reducible exact gb_refl w none | with_reducible refine gb_put ?_ (by omega) _ _ | with_reducible refine gb_alloc ?_ _ | with_reducible refine gb_drewN ?_ _ | with_reducible refine gb_drew ?_)) g1
    clear g1
    go_wp2
    go_ret
    exact ⟨rfl, G1.out⟩

/-- The folder at a round's beginning, with so many steps left at most. -/
def FJ (w0 : World) (fb : Nat) (r : T) (n : Nat) (w : World) : Prop := ∃ l v, VS w0 fb w l v ∧ Stk r l ∧ leftL l ≤ n
set_option maxRecDepth 100000 in
set_option maxHeartbeats 2000000 in
theorem fold_any (t : T) (sv : Value) (w : World) (hf : Fits t) (ha : AT w t.subs sv) (hcount : countT t ≤ 3000) (htab : Lib.TabIs Tryz.prog w "strings.asciiSpace" .u8 Lib.asciiSpaceTab) :
    Calls Tryz.prog 11 #[nodeV t sv] w fun e w' => w.grownBy w' none ∧ ((wellB .module t = false ∧ e = .returned (.tuple #[zeroN, .iface 26 (.int .i64 10)])) ∨ (wellB .module t = true ∧ ∃ sv', e = .returned (.tuple #[nodeV (foldT t) sv', .nilIface]) ∧ LR w' (fun k => w.heap.size ≤ k) (foldT t).subs sv')) := by
  have HFO : Hid (∀ w', w.grownBy w' none → Calls Tryz.prog 28 #[nodeV t sv] w' (Sy w' (.bool (wellB .module t)))) := fun w' hg => formed_is t sv w' hf (ha.kept hg) (by omega) (tab_below htab ⟨hg.os, hg.tape, hg.output, hg.size, fun i hi => hg.block i hi (by simp)⟩)
  have HF := hide hf
  have HA := hide ha
  have HC := hide hcount
  have HGT : Hid (wellB .module t = true → GT t) := fun h => gt_module (wellB_true.1 h)
  obtain ⟨a, n, c, rfl, hn, hc, hl⟩ := ha.any
  obtain ⟨kd, x, m, p, ls⟩ := t
  have B0 : Hid (Box (w.alloc (.cells #[.int .i64 kd, .string ⟨x.toArray⟩, .int .i64 m, .int .i64 p, .slice a n c] 24)) w.heap.size (.mk kd x m p ls) (.slice a n c)) := Box.new w (.mk kd x m p ls) (.slice a n c) 24
  clear hf ha htab hl hcount
  obtain ⟨X, hX⟩ : ∃ X, X = foldT (.mk kd x m p ls) := ⟨_, rfl⟩
  rw [← hX]
  obtain ⟨kr, xr, mr, pr, lr⟩ := X
  have HXX := hide hX
  clear hX
  change Calls Tryz.prog 11 #[.agg #[.int .i64 kd, .string ⟨x.toArray⟩, .int .i64 m, .int .i64 p, .slice a n c]] w _
  go_enter Tryz.func11, Tryz.ntmps11
  go_wp2_with fail
  go_at_call 28
  refine (HFO.out _ (by repeat (first | with_reducible exact gb_refl w none | with_reducible refine gb_put ?_ (by omega) _ _ | with_reducible refine gb_alloc ?_ _ | with_reducible refine gb_drewN ?_ _ | with_reducible refine gb_drew ?_))).mono ?_
  rintro e w1 ⟨rfl, g1⟩
  have G1 : Hid (w.grownBy w1 none) := gb_trans (by repeat (first | with_reducible exact gb_refl w none | with_reducible refine gb_put ?_ (by omega) _ _ | with_reducible refine gb_alloc ?_ _ | with_reducible refine gb_drewN ?_ _ | with_reducible refine gb_drew ?_)) g1
  have B1 := hide (B0.out.kept (gb_trans (by repeat (first | with_reducible exact gb_refl _ none | with_reducible refine gb_put ?_ (by omega) _ _ | with_reducible refine gb_alloc ?_ _ | with_reducible refine gb_drewN ?_ _ | with_reducible refine gb_drew ?_)) g1))
  have R1 : Hid (RB w1 (w.heap.size + 1)) := (RB.new' (by simp)).kept g1 (by simp)
  obtain ⟨b0, b1, b2, b3, b4⟩ := B1.out
  have hbl := block_lt b0
  have h1l : w.heap.size + 1 < w1.heap.size := R1.out.lt
  clear g1 B0
  cases hwell : wellB .module (.mk kd x m p ls)
  case false =>
    obtain ⟨_, _, _, _, _, r0, r1, r2, r3, r4, rz⟩ := R1.out
    have rl := R1.out.lt
    go_wp2_with fail
    refine node2_ret Tryz.results11 rfl rfl (RB.five R1.out) rfl ?_
    exact ⟨(by repeat (first | with_reducible exact G1.out | with_reducible refine gb_put ?_ (by omega) _ _ | with_reducible refine gb_alloc ?_ _ | with_reducible refine gb_drewN ?_ _ | with_reducible refine gb_drew ?_)), .inl ⟨hwell, rfl⟩⟩
  case true =>
  have HG := hide (HGT.out hwell)
  have HA1 := hide (HA.out.kept G1.out)
  go_wp2_with fail
  go_at_call 29
  refine (open_any w1 w1.heap.size _ [] (.slice none 0 0) (.mk kd x m p ls) _ (VS.init (gb_refl w1 none) rfl) (by simp) HF.out HA1.out (by have := subs_le (.mk kd x m p ls); have := HC.out; omega)).mono ?_
  rintro e w2 ⟨v2, rfl, V2⟩
  have J2 : Hid (FJ w1 w1.heap.size (.mk kd x m p ls) 6001 w2) := ⟨_, v2, V2, Stk.one 0 (Nat.zero_le _), by
    have h8 := HC.out
    rw [count_subs] at h8
    show leftL [⟨T.mk kd x m p ls, 0, _⟩] ≤ 6001
    simp only [leftL, Lv.left, List.drop_zero]
    omega⟩
  clear V2 b0 b1 b2 b3 b4
  go_wp2_with fail
  go_loopw [] (fun wr => Hid (∃ n, FJ w1 w1.heap.size (.mk kd x m p ls) n wr ∧ n ≤ 6001)) (fun wr => ghost (FJ w1 w1.heap.size (.mk kd x m p ls)) wr)
  case atStart => exact ⟨_, J2.out, by omega⟩
  case round =>
    obtain ⟨n9, hJ, hn9⟩ := hrel.out
    have hgl := ghost_le hJ
    obtain ⟨l, v, V0, S0, hle⟩ := ghost_is hJ
    have GH : ∀ w', (∃ l2 v2, VS w1 w1.heap.size w' l2 v2 ∧ Stk (.mk kd x m p ls) l2 ∧ leftL l2 < leftL l) → Hid (∃ n, FJ w1 w1.heap.size (.mk kd x m p ls) n w' ∧ n ≤ 6001) ∧ ghost (FJ w1 w1.heap.size (.mk kd x m p ls)) w' < ghost (FJ w1 w1.heap.size (.mk kd x m p ls)) wr := fun w' h => by
      obtain ⟨l2, v2, a1, a2, a3⟩ := h
      have hj2 : FJ w1 w1.heap.size (.mk kd x m p ls) (leftL l2) w' := ⟨l2, v2, a1, a2, Nat.le_refl _⟩
      have := ghost_le hj2
      exact ⟨⟨leftL l2, hj2, by omega⟩, by omega⟩
    have HGH := hide GH
    have hll := len_left l
    have HLL : Hid (l.length ≤ 6001) := by show _ ≤ _; omega
    clear GH hJ hgl hle hll hrel hn9
    generalize ghost (FJ w1 w1.heap.size (.mk kd x m p ls)) wr = gh at *
    obtain ⟨l, x9, rfl⟩ := S0.snoc
    have VV := hide V0
    have SS := hide S0
    have RR : Hid (RB wr (w.heap.size + 1)) := R1.out.kept V0.gb (by simp)
    have fbl := V0.lt
    clear V0 S0
    obtain ⟨t9, i9, acc9⟩ := x9
    rcases Nat.lt_or_ge i9 t9.subs.length with hi | hi
    · obtain ⟨u9, hu⟩ : ∃ u, t9.subs[i9]? = some u := ⟨_, List.getElem?_eq_getElem hi⟩
      go_wp2_with fail
      go_at_call 30
      refine (next_yes w1 w1.heap.size wr l t9 u9 i9 acc9 v VV.out hu).mono ?_
      rintro e w4 ⟨su, rfl, fu, au, V4⟩
      have HU := hide hu
      have FU := hide fu
      have AU := hide au
      have V4 := hide V4
      have fl4 := V4.out.lt
      obtain ⟨ua, uc, rfl, hu1, hu2⟩ := au.form
      obtain ⟨ku, xu, mu, pu, lu⟩ := u9
      clear fu au hu hu1 hu2
      go_wp2_with fail
      go_at_call 29
      refine (open_any w1 w1.heap.size _ (l ++ [⟨t9, i9 + 1, acc9⟩]) v (.mk ku xu mu pu lu) _ (V4.out.grown (by repeat (first | with_reducible exact gb_refl w4 none | with_reducible refine gb_put ?_ (by omega) _ _ | with_reducible refine gb_alloc ?_ _ | with_reducible refine gb_drewN ?_ _ | with_reducible refine gb_drew ?_))) (by have := HLL.out; simp at this ⊢; omega) FU.out AU.out ?_).mono ?_
      · have h1 := SS.out.next HU.out
        have h2 := h1.small HC.out ⟨.mk ku xu mu pu lu, 0, []⟩ (by simp)
        have h3 := subs_le (.mk ku xu mu pu lu)
        simp only at h2
        omega
      rintro e w5 ⟨v5, rfl, V5⟩
      have H5 := hide (HGH.out w5 ⟨_, v5, V5, SS.out.next HU.out, left_next HU.out⟩)
      clear V5
      go_wp2_with fail
      exact H5.out
    · have hi9 : i9 = t9.subs.length := by have := SS.out.top.2; simp only at this; omega
      subst hi9
      clear hi
      go_wp2_with fail
      go_at_call 30
      refine (next_no w1 w1.heap.size wr l t9 acc9 v VV.out).mono ?_
      rintro e w4 ⟨he4, g4⟩
      unfold zeroN at he4
      subst he4
      have V4 := hide (VV.out.grown g4)
      have R4 : Hid (RB w4 (w.heap.size + 1)) := RR.out.kept g4 (by simp)
      have fl4 := V4.out.lt
      clear g4
      go_wp2_with fail
      go_at_call 31
      refine (close_any _ HG.out HC.out w1 w1.heap.size _ l ⟨t9, t9.subs.length, acc9⟩ v (V4.out.grown (by repeat (first | with_reducible exact gb_refl w4 none | with_reducible refine gb_put ?_ (by omega) _ _ | with_reducible refine gb_alloc ?_ _ | with_reducible refine gb_drewN ?_ _ | with_reducible refine gb_drew ?_))) SS.out rfl).mono ?_
      rintro e w5 (⟨sx, he5, lx, g5⟩ | ⟨l2, v2, he5, V5, S5, hlt5⟩)
      · rw [← HXX.out] at he5 lx
        subst he5
        obtain ⟨ax, cx, rfl⟩ := lx.form
        have R5 : Hid (RB w5 (w.heap.size + 1)) := R1.out.kept g5 (by simp)
        have G5 : Hid (w.grownBy w5 none) := gb_trans G1.out g5
        have L5 : Hid (LR w5 (fun k => w1.heap.size ≤ k) (T.mk kr xr mr pr lr).subs (.slice ax lr.length cx)) := lx
        obtain ⟨_, _, _, _, _, r0, r1, r2, r3, r4, rz⟩ := R5.out
        have rl := R5.out.lt
        clear lx g5 HGH
        go_wp2_with fail
        refine node2_ret Tryz.results11 rfl rfl ((RB.five R5.out).alloc _) rfl ?_
        refine ⟨(by repeat (first | with_reducible exact G5.out | with_reducible refine gb_put ?_ (by omega) _ _ | with_reducible refine gb_alloc ?_ _ | with_reducible refine gb_drewN ?_ _ | with_reducible refine gb_drew ?_)), .inr ⟨hwell, .slice ax lr.length cx, rfl, ?_⟩⟩
        refine ((L5.out.kept (lr_put5 (w.heap.size + 1)) (fun b hb hk => ?_)).kept (gb_alloc (gb_refl _ none) _) (fun _ hk => by cases hk)).mono (fun k hk => ?_)
        · cases hb; have h8 : w1.heap.size ≤ w.heap.size + 1 := hk; omega
        · have := G1.out.size; have h8 : w1.heap.size ≤ k := hk; omega
      · unfold zeroN at he5
        subst he5
        have H5 := hide (fun o => HGH.out (w5.alloc o) ⟨l2, v2, V5.grown (gb_alloc (gb_refl w5 none) o), S5, hlt5⟩)
        clear V5 S5 hlt5
        go_wp2_with fail
        exact H5.out _
end Go.Proofs.YtlkokcnbbihljaaGreatDoor
