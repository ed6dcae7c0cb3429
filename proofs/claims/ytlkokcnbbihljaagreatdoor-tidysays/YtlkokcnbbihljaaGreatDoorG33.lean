/- The program's levels: close, of one whose node is put where it stood. -/
import Derived.Test.YtlkokcnbbihljaaGreatDoorG32
import Derived.Deep.RegionHeld
namespace Go.Proofs.YtlkokcnbbihljaaGreatDoor
open Go.RowKit

set_option maxRecDepth 100000 in
set_option maxHeartbeats 2000000 in
theorem close_put (w0 : World) (fb : Nat) (w : World) (l9 : List Lv) (t9 : T) (i9 : Nat) (acc9 : List T) (t : T) (i : Nat) (acc : List T) (v : Value) (h : VS w0 fb w ((l9 ++ [⟨t9, i9, acc9⟩]) ++ [⟨t, i, acc⟩]) v) (hacc : acc9.length ≤ 3000) (hg : GT (.mk t.kind t.name t.num t.at' acc)) (hid : idleB (plainT (.mk t.kind t.name t.num t.at' acc)) = false) :
    Calls Tryz.prog 31 #[.pointer (some ⟨fb, 0, none⟩)] w fun e w' => ∃ v', e = .returned (.tuple #[zeroN, .bool false]) ∧ VS w0 fb w' (l9 ++ [⟨t9, i9, acc9 ++ [plainT (.mk t.kind t.name t.num t.at' acc)]⟩]) v' := by
  obtain ⟨l, hl⟩ : ∃ q, q = l9 ++ [(⟨t9, i9, acc9⟩ : Lv)] := ⟨_, rfl⟩
  rw [← hl] at h
  have HLL : Hid (l.length = l9.length + 1) := by show _ = _; rw [hl]; simp
  have HLE := hide hl
  clear hl
  obtain ⟨g, c, sv, pv, svs, pvs, rfl, hc1, hc2, hgf, hg0, n5, c6, hf, ha, hm, hl⟩ := VS.pop h
  have fc := h.c0
  have fz := h.z0
  have fl := h.lt
  have hgl := block_lt n5.c0
  obtain ⟨pa, pc, rfl⟩ := hl.form
  obtain ⟨sa, sc, rfl, hs1, hs2⟩ := ha.form
  obtain ⟨k, x, m, p, ls⟩ := t
  obtain ⟨k0, k1, k2, k3, k4⟩ := n5
  change w.cell? ⟨g, l.length * 7, none⟩ = some (.int .i64 k) at k0
  change w.cell? ⟨g, l.length * 7 + 1, none⟩ = some (.string ⟨x.toArray⟩) at k1
  change w.cell? ⟨g, l.length * 7 + 2, none⟩ = some (.int .i64 m) at k2
  change w.cell? ⟨g, l.length * 7 + 3, none⟩ = some (.int .i64 p) at k3
  have HM := hide hm
  have hgX := (gt_plain hg).1
  change GT (plainT (.mk k x m p acc)) at hgX
  change idleB (plainT (.mk k x m p acc)) = false at hid
  change Calls _ _ _ _ (fun e w' => ∃ v', e = .returned (.tuple #[zeroN, .bool false]) ∧ VS w0 fb w' (l9 ++ [⟨t9, i9, acc9 ++ [plainT (.mk k x m p acc)]⟩]) v')
  have HP := fun (w' : World) (h9 : (w.setCell ⟨fb, 0, none⟩ (.slice (some ⟨g, 0, none⟩) l.length c)).grownBy w' none) => hide (plain_any (.mk k x m p acc) _ _ w' (hl.kept h9 (fun _ hk => by cases hk)) hg)
  have hl1 : ((l.length : Int) == 0) = false := by rw [beq_eq_false_iff_ne]; have := HLL.out; omega
  clear h hf ha hl hm hg
  generalize plainT (.mk k x m p acc) = X at *
  have HI := fun (sx : Value) (S : Nat → Prop) (w' : World) (h9 : LR w' S X.subs sx) => hide (idle_any X sx S w' h9 hgX)
  rw [hid] at HI
  obtain ⟨kr, xr, mr, pr, lr⟩ := X
  go_enter Tryz.func31, Tryz.ntmps31
  go_wp2_with fail
  go_at_call 64
  refine ((HP _ (by repeat (first | with_reducible exact gb_refl (w.setCell ⟨fb, 0, none⟩ (.slice (some ⟨g, 0, none⟩) l.length c)) none | with_reducible refine gb_put ?_ (by omega) _ _ | with_reducible refine gb_alloc ?_ _ | with_reducible refine gb_drewN ?_ _ | with_reducible refine gb_drew ?_))).out).mono ?_
  rintro e w1 ⟨sx, rfl, l1, hg1⟩
  have hs9 := hg1.size
  simp at hs9
  have L1 := hide l1
  obtain ⟨ax, cx, rfl⟩ := l1.form
  have R1 : Hid (RB w1 w.heap.size) := ((RB.new' (by simp)).alloc _).kept hg1 (by simp)
  have N1 : Hid (RB w1 (w.heap.size + 1)) := (RB.new' (by simp)).kept hg1 (by simp)
  obtain ⟨ws, hws⟩ : ∃ q, q = w.setCell ⟨fb, 0, none⟩ (.slice (some ⟨g, 0, none⟩) l.length c) := ⟨_, rfl⟩
  have szs : ws.heap.size = w.heap.size := by rw [hws]; simp [World.setCell]
  have V1 : Hid (VM w0 fb w.heap.size ws l (.slice (some ⟨g, 0, none⟩) l.length c) svs pvs) := by rw [hws]; exact HM.out
  have G1 : Hid (ws.grownBy w1 none) := by rw [hws]; exact gb_trans (gb_alloc (gb_alloc (gb_refl _ none) _) _) hg1
  clear hws
  have hw0 : w0.heap.size ≤ w.heap.size := by omega
  obtain ⟨_, _, _, _, _, r0, r1, r2, r3, r4, rz⟩ := R1.out
  obtain ⟨_, _, _, _, _, n0, n1, n2, n3, n4, nz⟩ := N1.out
  have rl := R1.out.lt
  have nl := N1.out.lt
  clear l1 hg1
  go_wp2_with fail
  go_at_call 65
  refine ((HI _ _ _ (L1.out.kept (lr_put5 (w.heap.size + 1)) (fun b hb hk => by
    cases hb
    rcases hk with hk | hk
    · have := hk.2; omega
    · simp at hk; omega))).out).mono ?_
  rintro e w2 ⟨rfl, hg2⟩
  have G2 : Hid (ws.grownBy w2 none) := gb_trans (by repeat (first | with_reducible exact G1.out | with_reducible refine gb_put ?_ (by omega) _ _ | with_reducible refine gb_alloc ?_ _ | with_reducible refine gb_drewN ?_ _ | with_reducible refine gb_drew ?_)) hg2
  have R2 := hide ((((((R1.out.put _ _ _).put _ _ _).put _ _ _).put _ _ _).put _ _ _).kept hg2 (by simp))
  have N2 := hide ((RB.five N1.out (u0 := .int .i64 kr) (u1 := .string ⟨xr.toArray⟩) (u2 := .int .i64 mr) (u3 := .int .i64 pr) (u4 := .slice ax lr.length cx)).kept hg2 (by simp))
  have L2 := hide ((L1.out.kept (lr_put5 (w.heap.size + 1)) (fun b hb hk => by
    cases hb
    rcases hk with hk | hk
    · have := hk.2; omega
    · simp at hk; omega)).kept hg2 (fun _ hk => by cases hk))
  clear hg2 r0 r1 r2 r3 r4 rz
  obtain ⟨_, _, _, _, _, r0, r1, r2, r3, r4, rz⟩ := R2.out
  have rl2 := R2.out.lt
  obtain ⟨svs9, sv9, rfl, hs9a⟩ := snoc_of_len svs l9.length (by rw [V1.out.h1, HLL.out])
  obtain ⟨pvs9, pv9, rfl, hs9b⟩ := snoc_of_len pvs l9.length (by rw [V1.out.h2, HLL.out])
  have hle := HLE.out
  subst hle
  have c9 : ws.cell? ⟨g, l9.length * 7 + 6, none⟩ = some pv9 := by
    have ho := V1.out.own
    rw [List.length_append, List.length_singleton] at ho
    exact (ho.cellAt (l9.length * 7 + 6) (by omega)).trans (flatV_snoc_get l9 svs9 pvs9 ⟨t9, i9, acc9⟩ sv9 pv9 hs9a hs9b 6)
  have c9b := gb_cell G2.out c9
  have fc2 := (V1.out.grown G2.out).c0
  rw [List.length_append, List.length_singleton] at fc2
  have hb9 : l9.length ≤ 9223372036854775807 := by have := HLL.out; omega
  go_wp2_with fail
  have LX : Hid (LR w2 (fun k => (Apart w0 fb g (pvs9 ++ [pv9]) k ∧ k ≠ w.heap.size) ∧ k < w2.heap.size) lr (.slice ax lr.length cx)) := L2.out.bounded.mono (fun k hk => ⟨by
    rcases hk.1 with h | h
    · exact ⟨h.1, by have := h.2; omega⟩
    · have h9 : w.heap.size + 2 ≤ k := by simpa using h
      exact ⟨VM.new (pvs' := []) (by rw [List.append_nil]; exact V1.out) (by omega), by omega⟩, hk.2⟩)
  obtain ⟨la9, lp9⟩ := VM.last V1.out hs9a hs9b
  have LA := hide la9
  have LP := hide lp9
  obtain ⟨p9, q9, rfl⟩ := la9.form
  have hgm := (V1.out.hvr g rfl).2
  have hfz : ∀ o, w2.frozen? ⟨g, o, none⟩ = false := fun o => (V1.out.grown G2.out).own.frozenAt o
  have hpg : ∀ b, (Value.slice p9 acc9.length q9).ownBlock = some b → b ≠ g ∧ b < w.heap.size := fun b hb => by
    obtain ⟨_, _, _, hin, _⟩ := LA.out.own
    have h8 := hin b hb
    exact ⟨h8.1.2.2.1, h8.2⟩
  have HPG := hide hpg
  clear hpg
  clear la9 lp9 L1 L2 HP HI HM
  refine wp_region_held_drew (S := (fun w' => NB w' (w.heap.size + 1) (.int .i64 kr) (.string ⟨xr.toArray⟩) (.int .i64 mr) (.int .i64 pr) (.slice ax lr.length cx))) (by kernel_rfl) ?_ (fun hHeld => ?_)
  · exact N2.out.drew
  refine wpAnyH_take (i := 0) (v := .pointer (some ⟨g, l9.length * 7, none⟩)) rfl (by kernel_rfl) (by kernel_rfl) (by kernel_rfl) (fun _ _ _ h => h) (Or.inl ⟨by kernel_rfl, fun w9 _ => by go_simp⟩) hHeld ?_
  simp only [Act.put, List.setIfInBounds_toArray]
  refine wpAnyH_take (i := 1) (v := .pointer (some ⟨g, l9.length * 7, none⟩)) rfl (by kernel_rfl) (by kernel_rfl) (by kernel_rfl) (fun _ _ _ h => h) (Or.inl ⟨by kernel_rfl, fun w9 _ => by go_simp⟩) hHeld ?_
  simp only [Act.put]
  refine wpAnyH_take (i := 2) (v := .pointer (some ⟨g, l9.length * 7 + 6, none⟩)) rfl (by kernel_rfl) (by kernel_rfl) (by kernel_rfl) (fun _ _ _ h => h) (Or.inl ⟨by kernel_rfl, fun w9 _ => by go_simp⟩) hHeld ?_
  simp only [Act.put]
  refine wpAnyH_take (i := 4) (v := .agg #[.int .i64 kr, .string ⟨xr.toArray⟩, .int .i64 mr, .int .i64 pr, .slice ax lr.length cx]) rfl (by kernel_rfl) (by kernel_rfl) (by kernel_rfl) (fun _ _ _ h => h) (Or.inl ⟨by kernel_rfl, by intro w9 hSw; obtain ⟨y0, y1, y2, y3, y4, _⟩ := hSw; go_simp⟩) hHeld ?_
  simp only [Act.put]
  refine wpAnyH_ready (rs := [3, 6]) (by kernel_rfl) (by simp) ?_
  refine AllReadyH.cons rfl (fun KK hKK => ?_) (AllReadyH.cons rfl (fun KK hKK => ?_) AllReadyH.nil)
  · go_simp
    refine hKK.out _ _ ?_ (fun hHeld => ?_)
    · exact hHeld
    clear hKK KK
    refine wpAnyH_take (i := 5) (v := .int .i64 (acc9.length : Int)) rfl (by kernel_rfl) (by kernel_rfl) (by kernel_rfl) (fun _ _ _ h => h) (Or.inl ⟨by kernel_rfl, fun w9 _ => by go_simp⟩) hHeld ?_
    simp only [Act.put, List.setIfInBounds_toArray]
    refine wpAnyH_ready (rs := [6]) (by kernel_rfl) (by simp) ?_
    refine AllReadyH.cons rfl (fun KK hKK => ?_) AllReadyH.nil
    go_simp
    refine hKK.out _ _ ?_ (fun hHeld => ?_)
    · exact (N2.out.alloc _).drew
    clear hKK KK
    refine wpAnyH_ready (rs := [7]) (by kernel_rfl) (by simp) ?_
    refine AllReadyH.cons rfl (fun KK hKK => ?_) AllReadyH.nil
    obtain ⟨wa, hwa⟩ : ∃ q, q = (w2.alloc (.cells #[.int .i64 0, .string ⟨#[]⟩, .int .i64 0, .int .i64 0, .slice none 0 0] 24)).drew := ⟨_, rfl⟩
    rw [← hwa] at hHeld ⊢
    have GW : Hid (w2.grownBy wa none) := by rw [hwa]; exact gb_drew (gb_alloc (gb_refl _ none) _)
    have sza : wa.heap.size = w2.heap.size + 1 := by rw [hwa]; simp [World.drew]
    have UA : Hid (LR wa (fun k => w2.heap.size ≤ k) [zeroT] (.slice (some ⟨w2.heap.size, 0, none⟩) 1 1)) := by rw [hwa]; exact ((LR.build1 w2 (lo := w2.heap.size) (t := zeroT) (sv := .slice none 0 0) (LR.nil w2 _) rfl rfl (Nat.le_refl _)).mono (fun k hk => hk.1)).kept (gb_drew (gb_refl _ none)) (fun _ hk => by cases hk)
    clear hwa
    have GA : Hid (ws.grownBy wa none) := gb_trans G2.out GW.out
    refine step_appH (S' := fun k => Apart w0 fb g pvs9 k ∧ k ≠ w.heap.size) (ts := acc9) (us := [zeroT]) (v := .slice p9 acc9.length q9) (g := w2.heap.size) (m := 1) (c := 1) rfl (.tmp 57) (.tmp 60) rfl (by simp [Act.eval]) (by simp [Act.eval]) (LA.out.kept GA.out (fun _ hk => by cases hk)) UA.out (fun k hk e => by have := (HPG.out k e).2; omega) (fun k hk => ⟨hk.1, by have := hk.2; omega⟩) (fun k hk => ⟨VM.new V1.out (by omega), by omega⟩) ⟨VM.new V1.out (by omega), by omega⟩ (by simp; omega) ?_
    intro v5 w5 lr5 hg5 hat5
    obtain ⟨g5, c5, sz5, e5, hn5a, hc5, hS5, ⟨z0, z1, z2, z3, z4⟩, -⟩ := lr5.nodeS acc9.length zeroT (by simp)
    have HZ5 : ∀ o, w5.frozen? ⟨g5, o, none⟩ = false := fun o => by
      obtain ⟨_, _, own, _⟩ := lr5.own
      rw [e5] at own
      exact own.frozenAt o
    rw [List.length_append, List.length_singleton] at e5 hn5a
    subst e5
    have hat6 : (Value.slice p9 acc9.length q9).ownBlock = some g5 ∨ w2.heap.size + 1 = g5 := by
      rcases hat5 with e | e
      · exact .inl e.symm
      · right
        have : g5 = wa.heap.size := by simpa [Value.ownBlock] using e
        omega
    have hlt5 : g5 < w.heap.size ∨ w2.heap.size < g5 := by
      rcases hat6 with e | e
      · exact .inl (HPG.out g5 e).2
      · right; omega
    have hn5 : g5 ≠ w.heap.size + 1 := by omega
    have hr5 : g5 ≠ w.heap.size := by omega
    have hgg5 : g5 ≠ g := by
      rcases hat6 with e | e
      · exact (HPG.out g5 e).1
      · omega
    have G5 : Hid (ws.grownBy w5 (Value.slice p9 acc9.length q9).ownBlock) := gb_trans ⟨GA.out.os, GA.out.tape, GA.out.output, GA.out.size, fun k hk _ => GA.out.block k hk (by simp)⟩ hg5
    have hpr : ∀ b, w.heap.size ≤ b → some b ≠ (Value.slice p9 acc9.length q9).ownBlock := fun b hb e => by have := (HPG.out b e.symm).2; omega
    have c6w : w5.cell? ⟨g, l9.length * 7 + 6, none⟩ = some (.slice p9 acc9.length q9) := cell_far G5.out c9 (fun e => (HPG.out g e.symm).1 rfl)
    have f6w : ∀ o, w5.frozen? ⟨g, o, none⟩ = false := fun o => frozen_far G5.out (by show g < _; omega) (V1.out.own.frozenAt o) (fun e => (HPG.out g e.symm).1 rfl)
    have R5 : Hid (RB w5 w.heap.size) := (R2.out.kept GW.out (by simp)).kept hg5 (hpr _ (Nat.le_refl _))
    have N5 : Hid (NB w5 (w.heap.size + 1) (.int .i64 kr) (.string ⟨xr.toArray⟩) (.int .i64 mr) (.int .i64 pr) (.slice ax lr.length cx)) := hHeld.kept hg5 (hpr _ (by omega))
    have VF : Hid (∀ y0 y1 y2 y3 y4, VS w0 fb (put5 (closed w5 g5 (acc9.length * 5) (.mk kr xr mr pr lr) (.slice ax lr.length cx) ⟨g, l9.length * 7 + 6, none⟩ (.slice (some ⟨g5, 0, none⟩) (acc9.length + 1) c5)) w.heap.size y0 y1 y2 y3 y4) (l9 ++ [⟨t9, i9, acc9 ++ [(.mk kr xr mr pr lr)]⟩]) (.slice (some ⟨g, 0, none⟩) (l9 ++ [(⟨t9, i9, acc9⟩ : Lv)]).length c)) := fun y0 y1 y2 y3 y4 => by
      rw [closed_put5 _ _ _ _ _ _ _ _ _ _ _ _ _ (fun e => hr5 e.symm) (by show w.heap.size ≠ g; omega)]
      refine VM.close (S1 := fun k => Apart w0 fb g pvs9 k ∧ k ≠ w.heap.size) (S2 := fun k => (Apart w0 fb g (pvs9 ++ [.slice p9 acc9.length q9]) k ∧ k ≠ w.heap.size) ∧ k < w2.heap.size) V1.out hs9a hs9b (gb_put5 G5.out (by omega) _ _ _ _ _) (lr5.kept (lr_put5 w.heap.size) (fun b hb hk => hk.2 (by cases hb; rfl))) (fun k hk => hk.1) (hat6.imp id (fun e => by omega)) ?_ ?_ ?_
      · intro k hk e
        rw [e] at hk
        rcases hat6 with e | e
        · exact hk.1.1.2.2.2 pvs9.length _ (by simp) e
        · have := hk.2; omega
      · refine ((LX.out.kept GW.out (fun _ hk => by cases hk)).kept hg5 (fun b hb hk => hk.1.1.2.2.2 pvs9.length _ (by simp) hb)).kept (lr_put5 w.heap.size) (fun b hb hk => hk.1.2 (by cases hb; rfl))
      · intro k hk
        obtain ⟨a1, a2, a3, a4⟩ := hk.1.1
        refine ⟨a1, a2, a3, fun j q hq => a4 j q ?_⟩
        have hj : j < pvs9.length := by
          rcases Nat.lt_or_ge j pvs9.length with h9 | h9
          · exact h9
          · rw [List.getElem?_eq_none h9] at hq; cases hq
        rw [List.getElem?_append_left hj]; exact hq
    have VG : Hid (∀ y0 y1 y2 y3 y4, VS w0 fb (put5 (put5at (w5.setCell ⟨g, l9.length * 7 + 6, none⟩ (.slice (some ⟨g5, 0, none⟩) (acc9.length + 1) c5)) g5 (acc9.length * 5) (.mk kr xr mr pr lr) (.slice ax lr.length cx)) w.heap.size y0 y1 y2 y3 y4) (l9 ++ [⟨t9, i9, acc9 ++ [.mk kr xr mr pr lr]⟩]) (.slice (some ⟨g, 0, none⟩) (l9 ++ [(⟨t9, i9, acc9⟩ : Lv)]).length c)) := fun y0 y1 y2 y3 y4 => by
      have h8 := VF.out y0 y1 y2 y3 y4
      rw [closed, ← put5at_comm w5 g5 (acc9.length * 5) (.mk kr xr mr pr lr) (.slice ax lr.length cx) ⟨g, l9.length * 7 + 6, none⟩ (.slice (some ⟨g5, 0, none⟩) (acc9.length + 1) c5) (fun e => hgg5 e.symm)] at h8
      exact h8
    have VFu := VF.out
    have VGu := VG.out
    simp only [put5, closed, put5at, T.kind, T.name, T.num, T.at'] at VFu VGu
    have VFu := hide VFu
    have VGu := hide VGu
    clear VF VG
    have hgn : g ≠ w.heap.size + 1 := by omega
    have hgr : g ≠ w.heap.size := by omega
    obtain ⟨_, _, _, _, _, r0, r1, r2, r3, r4, rz⟩ := R5.out
    have rl5 := R5.out.lt
    refine hKK.out _ _ ?_ (fun hHeld => ?_)
    · exact N5.out
    clear hKK KK hg5 lr5 hpr hat5 hat6 hlt5 sza hn5a hc5 hS5 c9 c9b hfz fc2
    refine wpAnyH_take (i := 8) (v := .pointer (some ⟨g5, acc9.length * 5, none⟩)) rfl (by kernel_rfl) (by kernel_rfl) (by kernel_rfl) (fun _ _ _ h => h) (Or.inl ⟨by kernel_rfl, fun w9 _ => by go_simp; intro h9; omega⟩) hHeld ?_
    simp only [Act.put, List.setIfInBounds_toArray]
    refine wpAnyH_take (i := 10) (v := .pointer (some ⟨g, l9.length * 7, none⟩)) rfl (by kernel_rfl) (by kernel_rfl) (by kernel_rfl) (fun _ _ _ h => h) (Or.inl ⟨by kernel_rfl, fun w9 _ => by go_simp⟩) hHeld ?_
    simp only [Act.put]
    refine wpAnyH_take (i := 11) (v := .pointer (some ⟨g, l9.length * 7 + 6, none⟩)) rfl (by kernel_rfl) (by kernel_rfl) (by kernel_rfl) (fun _ _ _ h => h) (Or.inl ⟨by kernel_rfl, fun w9 _ => by go_simp⟩) hHeld ?_
    simp only [Act.put]
    refine wpAnyH_ready (rs := [9, 12]) (by kernel_rfl) (by simp) ?_
    refine AllReadyH.cons rfl (fun KK hKK => ?_) (AllReadyH.cons rfl (fun KK hKK => ?_) AllReadyH.nil)
    · go_simp
      refine hKK.out _ _ ?_ (fun hHeld => ?_)
      · exact ((((hHeld.far hn5 _ _).far hn5 _ _).far hn5 _ _).far hn5 _ _).far hn5 _ _
      clear hKK KK
      refine wpAnyH_ready (rs := [12]) (by kernel_rfl) (by simp) ?_
      refine AllReadyH.cons rfl (fun KK hKK => ?_) AllReadyH.nil
      go_simp
      refine hKK.out _ _ ?_ (fun hHeld => ?_)
      · exact hHeld.far hgn _ _
      clear hKK KK
      refine wpAnyH_done (by kernel_rfl) ?_ _
      clear hHeld
      go_wp2_with fail
      refine node2_ret Tryz.results31 rfl rfl (RB.five ((((((R5.out.put _ _ _).put _ _ _).put _ _ _).put _ _ _).put _ _ _).put _ _ _)) rfl ?_
      exact ⟨_, rfl, VFu.out _ _ _ _ _⟩
    · go_simp
      refine hKK.out _ _ ?_ (fun hHeld => ?_)
      · exact hHeld.far hgn _ _
      clear hKK KK
      refine wpAnyH_ready (rs := [9]) (by kernel_rfl) (by simp) ?_
      refine AllReadyH.cons rfl (fun KK hKK => ?_) AllReadyH.nil
      go_simp
      refine hKK.out _ _ ?_ (fun hHeld => ?_)
      · exact ((((hHeld.far hn5 _ _).far hn5 _ _).far hn5 _ _).far hn5 _ _).far hn5 _ _
      clear hKK KK
      refine wpAnyH_done (by kernel_rfl) ?_ _
      clear hHeld
      go_wp2_with fail
      refine node2_ret Tryz.results31 rfl rfl (RB.five ((((((R5.out.put _ _ _).put _ _ _).put _ _ _).put _ _ _).put _ _ _).put _ _ _)) rfl ?_
      exact ⟨_, rfl, VGu.out _ _ _ _ _⟩
  · go_simp
    refine hKK.out _ _ ?_ (fun hHeld => ?_)
    · exact (N2.out.alloc _).drew
    clear hKK KK
    have c9a := fun o => gb_cell (gb_alloc (gb_refl w2 none) o) c9b
    refine wpAnyH_ready (rs := [3]) (by kernel_rfl) (by simp) ?_
    refine AllReadyH.cons rfl (fun KK hKK => ?_) AllReadyH.nil
    go_simp
    refine hKK.out _ _ ?_ (fun hHeld => ?_)
    · exact hHeld
    clear hKK KK
    refine wpAnyH_take (i := 5) (v := .int .i64 (acc9.length : Int)) rfl (by kernel_rfl) (by kernel_rfl) (by kernel_rfl) (fun _ _ _ h => h) (Or.inl ⟨by kernel_rfl, fun w9 _ => by go_simp⟩) hHeld ?_
    simp only [Act.put, List.setIfInBounds_toArray]
    refine wpAnyH_ready (rs := [7]) (by kernel_rfl) (by simp) ?_
    refine AllReadyH.cons rfl (fun KK hKK => ?_) AllReadyH.nil
    obtain ⟨wa, hwa⟩ : ∃ q, q = (w2.alloc (.cells #[.int .i64 0, .string ⟨#[]⟩, .int .i64 0, .int .i64 0, .slice none 0 0] 24)).drew := ⟨_, rfl⟩
    rw [← hwa] at hHeld ⊢
    have GW : Hid (w2.grownBy wa none) := by rw [hwa]; exact gb_drew (gb_alloc (gb_refl _ none) _)
    have sza : wa.heap.size = w2.heap.size + 1 := by rw [hwa]; simp [World.drew]
    have UA : Hid (LR wa (fun k => w2.heap.size ≤ k) [zeroT] (.slice (some ⟨w2.heap.size, 0, none⟩) 1 1)) := by rw [hwa]; exact ((LR.build1 w2 (lo := w2.heap.size) (t := zeroT) (sv := .slice none 0 0) (LR.nil w2 _) rfl rfl (Nat.le_refl _)).mono (fun k hk => hk.1)).kept (gb_drew (gb_refl _ none)) (fun _ hk => by cases hk)
    clear hwa
    have GA : Hid (ws.grownBy wa none) := gb_trans G2.out GW.out
    refine step_appH (S' := fun k => Apart w0 fb g pvs9 k ∧ k ≠ w.heap.size) (ts := acc9) (us := [zeroT]) (v := .slice p9 acc9.length q9) (g := w2.heap.size) (m := 1) (c := 1) rfl (.tmp 57) (.tmp 60) rfl (by simp [Act.eval]) (by simp [Act.eval]) (LA.out.kept GA.out (fun _ hk => by cases hk)) UA.out (fun k hk e => by have := (HPG.out k e).2; omega) (fun k hk => ⟨hk.1, by have := hk.2; omega⟩) (fun k hk => ⟨VM.new V1.out (by omega), by omega⟩) ⟨VM.new V1.out (by omega), by omega⟩ (by simp; omega) ?_
    intro v5 w5 lr5 hg5 hat5
    obtain ⟨g5, c5, sz5, e5, hn5a, hc5, hS5, ⟨z0, z1, z2, z3, z4⟩, -⟩ := lr5.nodeS acc9.length zeroT (by simp)
    have HZ5 : ∀ o, w5.frozen? ⟨g5, o, none⟩ = false := fun o => by
      obtain ⟨_, _, own, _⟩ := lr5.own
      rw [e5] at own
      exact own.frozenAt o
    rw [List.length_append, List.length_singleton] at e5 hn5a
    subst e5
    have hat6 : (Value.slice p9 acc9.length q9).ownBlock = some g5 ∨ w2.heap.size + 1 = g5 := by
      rcases hat5 with e | e
      · exact .inl e.symm
      · right
        have : g5 = wa.heap.size := by simpa [Value.ownBlock] using e
        omega
    have hlt5 : g5 < w.heap.size ∨ w2.heap.size < g5 := by
      rcases hat6 with e | e
      · exact .inl (HPG.out g5 e).2
      · right; omega
    have hn5 : g5 ≠ w.heap.size + 1 := by omega
    have hr5 : g5 ≠ w.heap.size := by omega
    have hgg5 : g5 ≠ g := by
      rcases hat6 with e | e
      · exact (HPG.out g5 e).1
      · omega
    have G5 : Hid (ws.grownBy w5 (Value.slice p9 acc9.length q9).ownBlock) := gb_trans ⟨GA.out.os, GA.out.tape, GA.out.output, GA.out.size, fun k hk _ => GA.out.block k hk (by simp)⟩ hg5
    have hpr : ∀ b, w.heap.size ≤ b → some b ≠ (Value.slice p9 acc9.length q9).ownBlock := fun b hb e => by have := (HPG.out b e.symm).2; omega
    have c6w : w5.cell? ⟨g, l9.length * 7 + 6, none⟩ = some (.slice p9 acc9.length q9) := cell_far G5.out c9 (fun e => (HPG.out g e.symm).1 rfl)
    have f6w : ∀ o, w5.frozen? ⟨g, o, none⟩ = false := fun o => frozen_far G5.out (by show g < _; omega) (V1.out.own.frozenAt o) (fun e => (HPG.out g e.symm).1 rfl)
    have R5 : Hid (RB w5 w.heap.size) := (R2.out.kept GW.out (by simp)).kept hg5 (hpr _ (Nat.le_refl _))
    have N5 : Hid (NB w5 (w.heap.size + 1) (.int .i64 kr) (.string ⟨xr.toArray⟩) (.int .i64 mr) (.int .i64 pr) (.slice ax lr.length cx)) := hHeld.kept hg5 (hpr _ (by omega))
    have VF : Hid (∀ y0 y1 y2 y3 y4, VS w0 fb (put5 (closed w5 g5 (acc9.length * 5) (.mk kr xr mr pr lr) (.slice ax lr.length cx) ⟨g, l9.length * 7 + 6, none⟩ (.slice (some ⟨g5, 0, none⟩) (acc9.length + 1) c5)) w.heap.size y0 y1 y2 y3 y4) (l9 ++ [⟨t9, i9, acc9 ++ [(.mk kr xr mr pr lr)]⟩]) (.slice (some ⟨g, 0, none⟩) (l9 ++ [(⟨t9, i9, acc9⟩ : Lv)]).length c)) := fun y0 y1 y2 y3 y4 => by
      rw [closed_put5 _ _ _ _ _ _ _ _ _ _ _ _ _ (fun e => hr5 e.symm) (by show w.heap.size ≠ g; omega)]
      refine VM.close (S1 := fun k => Apart w0 fb g pvs9 k ∧ k ≠ w.heap.size) (S2 := fun k => (Apart w0 fb g (pvs9 ++ [.slice p9 acc9.length q9]) k ∧ k ≠ w.heap.size) ∧ k < w2.heap.size) V1.out hs9a hs9b (gb_put5 G5.out (by omega) _ _ _ _ _) (lr5.kept (lr_put5 w.heap.size) (fun b hb hk => hk.2 (by cases hb; rfl))) (fun k hk => hk.1) (hat6.imp id (fun e => by omega)) ?_ ?_ ?_
      · intro k hk e
        rw [e] at hk
        rcases hat6 with e | e
        · exact hk.1.1.2.2.2 pvs9.length _ (by simp) e
        · have := hk.2; omega
      · refine ((LX.out.kept GW.out (fun _ hk => by cases hk)).kept hg5 (fun b hb hk => hk.1.1.2.2.2 pvs9.length _ (by simp) hb)).kept (lr_put5 w.heap.size) (fun b hb hk => hk.1.2 (by cases hb; rfl))
      · intro k hk
        obtain ⟨a1, a2, a3, a4⟩ := hk.1.1
        refine ⟨a1, a2, a3, fun j q hq => a4 j q ?_⟩
        have hj : j < pvs9.length := by
          rcases Nat.lt_or_ge j pvs9.length with h9 | h9
          · exact h9
          · rw [List.getElem?_eq_none h9] at hq; cases hq
        rw [List.getElem?_append_left hj]; exact hq
    have VG : Hid (∀ y0 y1 y2 y3 y4, VS w0 fb (put5 (put5at (w5.setCell ⟨g, l9.length * 7 + 6, none⟩ (.slice (some ⟨g5, 0, none⟩) (acc9.length + 1) c5)) g5 (acc9.length * 5) (.mk kr xr mr pr lr) (.slice ax lr.length cx)) w.heap.size y0 y1 y2 y3 y4) (l9 ++ [⟨t9, i9, acc9 ++ [.mk kr xr mr pr lr]⟩]) (.slice (some ⟨g, 0, none⟩) (l9 ++ [(⟨t9, i9, acc9⟩ : Lv)]).length c)) := fun y0 y1 y2 y3 y4 => by
      have h8 := VF.out y0 y1 y2 y3 y4
      rw [closed, ← put5at_comm w5 g5 (acc9.length * 5) (.mk kr xr mr pr lr) (.slice ax lr.length cx) ⟨g, l9.length * 7 + 6, none⟩ (.slice (some ⟨g5, 0, none⟩) (acc9.length + 1) c5) (fun e => hgg5 e.symm)] at h8
      exact h8
    have VFu := VF.out
    have VGu := VG.out
    simp only [put5, closed, put5at, T.kind, T.name, T.num, T.at'] at VFu VGu
    have VFu := hide VFu
    have VGu := hide VGu
    clear VF VG
    have hgn : g ≠ w.heap.size + 1 := by omega
    have hgr : g ≠ w.heap.size := by omega
    obtain ⟨_, _, _, _, _, r0, r1, r2, r3, r4, rz⟩ := R5.out
    have rl5 := R5.out.lt
    refine hKK.out _ _ ?_ (fun hHeld => ?_)
    · exact N5.out
    clear hKK KK hg5 lr5 hpr hat5 hat6 hlt5 sza hn5a hc5 hS5 c9 c9b hfz fc2
    refine wpAnyH_take (i := 8) (v := .pointer (some ⟨g5, acc9.length * 5, none⟩)) rfl (by kernel_rfl) (by kernel_rfl) (by kernel_rfl) (fun _ _ _ h => h) (Or.inl ⟨by kernel_rfl, fun w9 _ => by go_simp; intro h9; omega⟩) hHeld ?_
    simp only [Act.put]
    refine wpAnyH_take (i := 10) (v := .pointer (some ⟨g, l9.length * 7, none⟩)) rfl (by kernel_rfl) (by kernel_rfl) (by kernel_rfl) (fun _ _ _ h => h) (Or.inl ⟨by kernel_rfl, fun w9 _ => by go_simp⟩) hHeld ?_
    simp only [Act.put]
    refine wpAnyH_take (i := 11) (v := .pointer (some ⟨g, l9.length * 7 + 6, none⟩)) rfl (by kernel_rfl) (by kernel_rfl) (by kernel_rfl) (fun _ _ _ h => h) (Or.inl ⟨by kernel_rfl, fun w9 _ => by go_simp⟩) hHeld ?_
    simp only [Act.put]
    refine wpAnyH_ready (rs := [9, 12]) (by kernel_rfl) (by simp) ?_
    refine AllReadyH.cons rfl (fun KK hKK => ?_) (AllReadyH.cons rfl (fun KK hKK => ?_) AllReadyH.nil)
    · go_simp
      refine hKK.out _ _ ?_ (fun hHeld => ?_)
      · exact ((((hHeld.far hn5 _ _).far hn5 _ _).far hn5 _ _).far hn5 _ _).far hn5 _ _
      clear hKK KK
      refine wpAnyH_ready (rs := [12]) (by kernel_rfl) (by simp) ?_
      refine AllReadyH.cons rfl (fun KK hKK => ?_) AllReadyH.nil
      go_simp
      refine hKK.out _ _ ?_ (fun hHeld => ?_)
      · exact hHeld.far hgn _ _
      clear hKK KK
      refine wpAnyH_done (by kernel_rfl) ?_ _
      clear hHeld
      go_wp2_with fail
      refine node2_ret Tryz.results31 rfl rfl (RB.five ((((((R5.out.put _ _ _).put _ _ _).put _ _ _).put _ _ _).put _ _ _).put _ _ _)) rfl ?_
      exact ⟨_, rfl, VFu.out _ _ _ _ _⟩
    · go_simp
      refine hKK.out _ _ ?_ (fun hHeld => ?_)
      · exact hHeld.far hgn _ _
      clear hKK KK
      refine wpAnyH_ready (rs := [9]) (by kernel_rfl) (by simp) ?_
      refine AllReadyH.cons rfl (fun KK hKK => ?_) AllReadyH.nil
      go_simp
      refine hKK.out _ _ ?_ (fun hHeld => ?_)
      · exact ((((hHeld.far hn5 _ _).far hn5 _ _).far hn5 _ _).far hn5 _ _).far hn5 _ _
      clear hKK KK
      refine wpAnyH_done (by kernel_rfl) ?_ _
      clear hHeld
      go_wp2_with fail
      refine node2_ret Tryz.results31 rfl rfl (RB.five ((((((R5.out.put _ _ _).put _ _ _).put _ _ _).put _ _ _).put _ _ _).put _ _ _)) rfl ?_
      exact ⟨_, rfl, VGu.out _ _ _ _ _⟩
end Go.Proofs.YtlkokcnbbihljaaGreatDoor

/- The program's levels: close, whichever way; the folder as it begins. -/
namespace Go.Proofs.YtlkokcnbbihljaaGreatDoor
open Go.RowKit

theorem least {P : Nat → Prop} (h : ∃ n, P n) : ∃ n, P n ∧ ∀ m, P m → n ≤ m := by
  obtain ⟨n, hn⟩ := h
  induction n using Nat.strongRecOn with
  | _ n ih =>
    by_cases h9 : ∃ m, m < n ∧ P m
    · obtain ⟨m, hm, hp⟩ := h9
      exact ih m hm hp
    · refine ⟨n, hn, fun m hm => ?_⟩
      rcases Nat.lt_or_ge m n with h8 | h8
      · exact absurd ⟨m, h8, hm⟩ h9
      · exact h8
open Classical in
/-- The least number for which something is so in a world. -/
noncomputable def ghost (J : Nat → World → Prop) (w : World) : Nat := if h : ∃ n, J n w then Classical.choose (least h) else 0
theorem ghost_is {J : Nat → World → Prop} {w : World} {n : Nat} (h : J n w) : J (ghost J w) w := by
  have h9 : ∃ n, J n w := ⟨n, h⟩
  unfold ghost
  rw [dif_pos h9]
  exact (Classical.choose_spec (least h9)).1
theorem ghost_le {J : Nat → World → Prop} {w : World} {n : Nat} (h : J n w) : ghost J w ≤ n := by
  have h9 : ∃ n, J n w := ⟨n, h⟩
  unfold ghost
  rw [dif_pos h9]
  exact (Classical.choose_spec (least h9)).2 n h
theorem len_left (l : List Lv) : l.length ≤ leftL l := by
  induction l with
  | nil => simp [leftL]
  | cons v l ih => simp only [leftL, Lv.left, List.length_cons]; omega
theorem Stk.accs {r : T} {l : List Lv} (h : Stk r l) : ∀ v ∈ l, v.acc.length ≤ v.t.subs.length := by
  have key : ∀ (ts : List T) (i : Nat), (foldL (ts.take i)).length ≤ ts.length := fun ts i => by
    have h1 := foldL_le (ts.take i)
    rw [List.length_take] at h1
    omega
  induction h with
  | one i hi => intro v hv; rw [List.mem_singleton] at hv; subst hv; exact key _ _
  | more l t i u j h hu hj ih =>
    intro v hv
    rcases List.mem_append.1 hv with hv | hv
    · rcases List.mem_append.1 hv with hv | hv
      · exact ih v (List.mem_append.2 (Or.inl hv))
      · rw [List.mem_singleton] at hv
        subst hv
        exact key _ _
    · rw [List.mem_singleton] at hv
      subst hv
      exact key _ _
theorem Stk.snoc {r : T} {l : List Lv} (h : Stk r l) : ∃ l' x, l = l' ++ [x] := by
  cases h with
  | one i hi => exact ⟨[], _, rfl⟩
  | more l t i u j h hu hj => exact ⟨_, _, rfl⟩
theorem count_subs (t : T) : countT t = 1 + countL t.subs := by obtain ⟨k, x, n, p, s⟩ := t; rw [countT]; rfl
theorem subs_le (t : T) : t.subs.length ≤ countT t := by
  have := count_subs t
  have := flen_count t.subs
  omega
theorem Stk.small {r : T} {l : List Lv} (h : Stk r l) (hc : countT r ≤ 3000) : ∀ v ∈ l, countT v.t ≤ 3000 :=
  h.all (P := fun t => countT t ≤ 3000) hc (fun t u h1 h2 => by
    have h3 := count_subs t
    have h4 := fcount_in h2
    show countT u ≤ 3000
    have h5 : countT t ≤ 3000 := h1
    omega)
/-- How many levels there may be. -/
theorem VS.init {w0 w : World} {ty : TypeId} {fb : Nat} (hg : w0.grownBy w none) (hfb : fb = w.heap.size) : VS w0 fb (w.alloc (.cells #[.slice none 0 0] ty)) [] (.slice none 0 0) := by
  subst hfb
  exact {
    gb := gb_alloc hg _
    flo := hg.size
    c0 := by rw [World.cell?_alloc_at _ _ _ _ rfl]; rfl
    z0 := World.frozen?_alloc_at _ _ _ _ rfl
    rne := by simp [Value.ownBlock]
    row := ⟨[], [], rfl, rfl, ⟨rfl, .inl ⟨rfl, rfl⟩⟩, fun i lv sv pv h _ _ => by simp at h⟩ }
/-- close, of levels whose last one is done. -/
theorem close_any (r : T) (hr : GT r) (hc : countT r ≤ 3000) (w0 : World) (fb : Nat) (w : World) (l : List Lv) (x : Lv) (v : Value) (h : VS w0 fb w (l ++ [x]) v) (hs : Stk r (l ++ [x])) (hi : x.i = x.t.subs.length) :
    Calls Tryz.prog 31 #[.pointer (some ⟨fb, 0, none⟩)] w fun e w' => (∃ sv', e = .returned (.tuple #[nodeV (foldT r) sv', .bool true]) ∧ LR w' (fun k => w0.heap.size ≤ k) (foldT r).subs sv' ∧ w0.grownBy w' none) ∨
      (∃ l2 v2, e = .returned (.tuple #[zeroN, .bool false]) ∧ VS w0 fb w' l2 v2 ∧ Stk r l2 ∧ leftL l2 < leftL (l ++ [x])) := by
  have hgn : GT x.node := hs.gtNode hr hi
  rcases List.eq_nil_or_concat l with rfl | ⟨l9, x9, rfl⟩
  · have e := Stk.root (v := x) hs hi
    obtain ⟨t, i, acc⟩ := x
    refine (close_root w0 fb w t i acc v h hgn).mono ?_
    rintro e' w' ⟨sv', rfl, h2, h3⟩
    refine .inl ⟨sv', ?_, ?_, h3⟩
    · rw [← e]; rfl
    · rw [← e]; exact h2
  · rw [List.concat_eq_append] at h hs ⊢
    have hcl := Stk.close hs hi
    have hsm := (hs.small hc) x9 (by simp)
    have hac := hs.accs x9 (by simp)
    have hsl := subs_le x9.t
    obtain ⟨t, i, acc⟩ := x
    obtain ⟨t9, i9, acc9⟩ := x9
    simp only at hsm hac hsl
    cases hid : idleB (plainT (Lv.node ⟨t, i, acc⟩))
    · rw [hid] at hcl
      refine (close_put w0 fb w l9 t9 i9 acc9 t i acc v h (by omega) hgn hid).mono ?_
      rintro e' w' ⟨v', rfl, h2⟩
      exact .inr ⟨_, v', rfl, h2, hcl, left_close (v' := ⟨t9, i9, acc9⟩)⟩
    · rw [hid] at hcl
      refine (close_idle w0 fb w (l9 ++ [⟨t9, i9, acc9⟩]) t i acc v h (by simp) hgn hid).mono ?_
      rintro e' w' ⟨v', rfl, h2⟩
      exact .inr ⟨_, v', rfl, h2, hcl, left_close (v' := ⟨t9, i9, acc9⟩)⟩
end Go.Proofs.YtlkokcnbbihljaaGreatDoor
