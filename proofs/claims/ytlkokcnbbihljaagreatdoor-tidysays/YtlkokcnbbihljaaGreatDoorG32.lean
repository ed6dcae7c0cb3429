/- The program's levels: close, of the last one. -/
import Derived.Test.YtlkokcnbbihljaaGreatDoorG29
import Derived.Test.YtlkokcnbbihljaaGreatDoorG31
namespace Go.Proofs.YtlkokcnbbihljaaGreatDoor
open Go.RowKit

set_option maxRecDepth 100000 in
set_option maxHeartbeats 2000000 in
theorem close_root (w0 : World) (fb : Nat) (w : World) (t : T) (i : Nat) (acc : List T) (v : Value) (h : VS w0 fb w [⟨t, i, acc⟩] v) (hg : GT (.mk t.kind t.name t.num t.at' acc)) :
    Calls Tryz.prog 31 #[.pointer (some ⟨fb, 0, none⟩)] w fun e w' => ∃ sv', e = .returned (.tuple #[nodeV (plainT (.mk t.kind t.name t.num t.at' acc)) sv', .bool true]) ∧ LR w' (fun k => w0.heap.size ≤ k) (plainT (.mk t.kind t.name t.num t.at' acc)).subs sv' ∧ w0.grownBy w' none := by
  obtain ⟨g, c, sv, pv, svs, pvs, rfl, hc1, hc2, hgf, hg0, n5, c6, hf, ha, hm, hl⟩ := VS.pop (l := []) h
  have fc := h.c0
  have fz := h.z0
  have fl := h.lt
  have hgl := block_lt n5.c0
  obtain ⟨pa, pc, rfl⟩ := hl.form
  obtain ⟨sa, sc, rfl, hs1, hs2⟩ := ha.form
  obtain ⟨k, x, m, p, ls⟩ := t
  obtain ⟨k0, k1, k2, k3, k4⟩ := n5
  simp only [List.length_nil, Nat.zero_mul, Nat.zero_add] at k0 k1 k2 k3 k4 c6 hc1 hm hl fc ⊢
  change w.cell? ⟨g, 0, none⟩ = some (.int .i64 k) at k0
  change w.cell? ⟨g, 1, none⟩ = some (.string ⟨x.toArray⟩) at k1
  change w.cell? ⟨g, 2, none⟩ = some (.int .i64 m) at k2
  change w.cell? ⟨g, 3, none⟩ = some (.int .i64 p) at k3
  have HM := hide hm
  have HP := fun (w' : World) (h9 : (w.setCell ⟨fb, 0, none⟩ (.slice (some ⟨g, 0, none⟩) 0 c)).grownBy w' none) => hide (plain_any (.mk k x m p acc) _ _ w' (hl.kept h9 (fun _ hk => by cases hk)) hg)
  change Calls _ _ _ _ (fun e w' => ∃ sv', e = .returned (.tuple #[nodeV (plainT (.mk k x m p acc)) sv', .bool true]) ∧ LR w' (fun k => w0.heap.size ≤ k) (plainT (.mk k x m p acc)).subs sv' ∧ w0.grownBy w' none)
  clear h hf ha hl hm hg
  generalize plainT (.mk k x m p acc) = X at *
  obtain ⟨kr, xr, mr, pr, lr⟩ := X
  go_enter Tryz.func31, Tryz.ntmps31
  go_wp2_with fail
  go_at_call 64
  refine ((HP _ (by repeat (first | with_reducible exact gb_refl (w.setCell ⟨fb, 0, none⟩ (.slice (some ⟨g, 0, none⟩) 0 c)) none | with_reducible refine gb_put ?_ (by omega) _ _ | with_reducible refine gb_alloc ?_ _ | with_reducible refine gb_drewN ?_ _ | with_reducible refine gb_drew ?_))).out).mono ?_
  rintro e w1 ⟨sx, rfl, l1, hg1⟩
  have hs9 := hg1.size
  simp at hs9
  have L1 := hide l1
  obtain ⟨ax, cx, rfl⟩ := l1.form
  have R1 : Hid (RB w1 w.heap.size) := ((RB.new' (by simp)).alloc _).kept hg1 (by simp)
  have N1 : Hid (RB w1 (w.heap.size + 1)) := (RB.new' (by simp)).kept hg1 (by simp)
  have G1 : Hid (w0.grownBy w1 none) := gb_trans (gb_alloc (gb_alloc HM.out.gb _) _) hg1
  have hw0 : w0.heap.size ≤ w.heap.size := by omega
  obtain ⟨_, _, _, _, _, r0, r1, r2, r3, r4, rz⟩ := R1.out
  obtain ⟨_, _, _, _, _, n0, n1, n2, n3, n4, nz⟩ := N1.out
  have rl := R1.out.lt
  have nl := N1.out.lt
  clear l1 hg1
  go_wp2_with fail
  refine node2_ret Tryz.results31 rfl rfl (RB.five (((((R1.out.put _ _ _).put _ _ _).put _ _ _).put _ _ _).put _ _ _)) rfl ?_
  refine ⟨.slice ax lr.length cx, rfl, ?_, (by repeat (first | with_reducible exact G1.out | with_reducible refine gb_put ?_ (by omega) _ _ | with_reducible refine gb_alloc ?_ _ | with_reducible refine gb_drewN ?_ _ | with_reducible refine gb_drew ?_))⟩
  refine ((L1.out.kept (lr_put5 (w.heap.size + 1)) (fun b hb hk => ?_)).kept (lr_put5 w.heap.size) (fun b hb hk => ?_)).mono (fun k hk => ?_)
  · cases hb
    rcases hk with hk | hk
    · have := hk.2; omega
    · simp at hk; omega
  · cases hb
    rcases hk with hk | hk
    · have := hk.2; omega
    · simp at hk; omega
  · rcases hk with hk | hk
    · exact hk.1.1
    · simp at hk; omega
end Go.Proofs.YtlkokcnbbihljaaGreatDoor

/- The program's levels: close, of one that is idle. -/
namespace Go.Proofs.YtlkokcnbbihljaaGreatDoor
open Go.RowKit

set_option maxRecDepth 100000 in
set_option maxHeartbeats 2000000 in
theorem close_idle (w0 : World) (fb : Nat) (w : World) (l : List Lv) (t : T) (i : Nat) (acc : List T) (v : Value) (h : VS w0 fb w (l ++ [⟨t, i, acc⟩]) v) (hl0 : 0 < l.length) (hg : GT (.mk t.kind t.name t.num t.at' acc)) (hid : idleB (plainT (.mk t.kind t.name t.num t.at' acc)) = true) :
    Calls Tryz.prog 31 #[.pointer (some ⟨fb, 0, none⟩)] w fun e w' => ∃ v', e = .returned (.tuple #[zeroN, .bool false]) ∧ VS w0 fb w' l v' := by
  obtain ⟨g, c, sv, pv, svs, pvs, rfl, hc1, hc2, hgf, hg0, n5, c6, hf, ha, hm, hl⟩ := VS.pop h
  have fc := h.c0
  have fz := h.z0
  have fl := h.lt
  have hgl := block_lt n5.c0
  obtain ⟨pa, pc, rfl⟩ := hl.form
  obtain ⟨sa, sc, rfl, hs1, hs2⟩ := ha.form
  obtain ⟨k, x, m, p, ls⟩ := t
  obtain ⟨k0, k1, k2, k3, k4⟩ := n5
  change w.cell? ⟨g, l.length * 7, none⟩ = some (.int .i64 k) at k0
  change w.cell? ⟨g, l.length * 7 + 1, none⟩ = some (.string ⟨x.toArray⟩) at k1
  change w.cell? ⟨g, l.length * 7 + 2, none⟩ = some (.int .i64 m) at k2
  change w.cell? ⟨g, l.length * 7 + 3, none⟩ = some (.int .i64 p) at k3
  have HM := hide hm
  have hgX := (gt_plain hg).1
  change GT (plainT (.mk k x m p acc)) at hgX
  change idleB (plainT (.mk k x m p acc)) = true at hid
  have HP := fun (w' : World) (h9 : (w.setCell ⟨fb, 0, none⟩ (.slice (some ⟨g, 0, none⟩) l.length c)).grownBy w' none) => hide (plain_any (.mk k x m p acc) _ _ w' (hl.kept h9 (fun _ hk => by cases hk)) hg)
  have hl1 : ((l.length : Int) == 0) = false := by rw [beq_eq_false_iff_ne]; omega
  clear h hf ha hl hm hg
  generalize plainT (.mk k x m p acc) = X at *
  have HI := fun (sx : Value) (S : Nat → Prop) (w' : World) (h9 : LR w' S X.subs sx) => hide (idle_any X sx S w' h9 hgX)
  rw [hid] at HI
  obtain ⟨kr, xr, mr, pr, lr⟩ := X
  go_enter Tryz.func31, Tryz.ntmps31
  go_wp2_with fail
  go_at_call 64
  refine ((HP _ (by repeat (first | with_reducible exact gb_refl (w.setCell ⟨fb, 0, none⟩ (.slice (some ⟨g, 0, none⟩) l.length c)) none | with_reducible refine gb_put ?_ (by omega) _ _ | with_reducible refine gb_alloc ?_ _ | with_reducible refine gb_drewN ?_ _ | with_reducible refine gb_drew ?_))).out).mono ?_
  rintro e w1 ⟨sx, rfl, l1, hg1⟩
  have hs9 := hg1.size
  simp at hs9
  have L1 := hide l1
  obtain ⟨ax, cx, rfl⟩ := l1.form
  have R1 : Hid (RB w1 w.heap.size) := ((RB.new' (by simp)).alloc _).kept hg1 (by simp)
  have N1 : Hid (RB w1 (w.heap.size + 1)) := (RB.new' (by simp)).kept hg1 (by simp)
  obtain ⟨ws, hws⟩ : ∃ q, q = w.setCell ⟨fb, 0, none⟩ (.slice (some ⟨g, 0, none⟩) l.length c) := ⟨_, rfl⟩
  have szs : ws.heap.size = w.heap.size := by rw [hws]; simp [World.setCell]
  have V1 : Hid (VM w0 fb w.heap.size ws l (.slice (some ⟨g, 0, none⟩) l.length c) svs pvs) := by rw [hws]; exact HM.out
  have G1 : Hid (ws.grownBy w1 none) := by rw [hws]; exact gb_trans (gb_alloc (gb_alloc (gb_refl _ none) _) _) hg1
  clear hws
  have hw0 : w0.heap.size ≤ w.heap.size := by omega
  obtain ⟨_, _, _, _, _, r0, r1, r2, r3, r4, rz⟩ := R1.out
  obtain ⟨_, _, _, _, _, n0, n1, n2, n3, n4, nz⟩ := N1.out
  have rl := R1.out.lt
  have nl := N1.out.lt
  clear l1 hg1
  go_wp2_with fail
  go_at_call 65
  refine ((HI _ _ _ (L1.out.kept (lr_put5 (w.heap.size + 1)) (fun b hb hk => by
    cases hb
    rcases hk with hk | hk
    · have := hk.2; omega
    · simp at hk; omega))).out).mono ?_
  rintro e w2 ⟨rfl, hg2⟩
  have G2 : Hid (ws.grownBy w2 none) := gb_trans (by repeat (first | with_reducible exact G1.out | with_reducible refine gb_put ?_ (by omega) _ _ | with_reducible refine gb_alloc ?_ _ | with_reducible refine gb_drewN ?_ _ | with_reducible refine gb_drew ?_)) hg2
  have R2 := hide ((((((R1.out.put _ _ _).put _ _ _).put _ _ _).put _ _ _).put _ _ _).kept hg2 (by simp))
  clear hg2 r0 r1 r2 r3 r4 rz
  obtain ⟨_, _, _, _, _, r0, r1, r2, r3, r4, rz⟩ := R2.out
  have rl2 := R2.out.lt
  go_wp2_with fail
  refine node2_ret Tryz.results31 rfl rfl (RB.five R2.out) rfl ?_
  exact ⟨_, rfl, (V1.out.grown (by repeat (first | with_reducible exact G2.out | with_reducible refine gb_put ?_ (by omega) _ _ | with_reducible refine gb_alloc ?_ _ | with_reducible refine gb_drewN ?_ _ | with_reducible refine gb_drew ?_))).vs⟩
end Go.Proofs.YtlkokcnbbihljaaGreatDoor

/- Made trees: the last of a list becomes another one. -/
namespace Go.Proofs.YtlkokcnbbihljaaGreatDoor
open Go.RowKit

theorem flatN_set (ts : List T) (svs : List Value) (z X : T) (sz sx : Value) (h : svs.length = ts.length) : ((((((flatN (ts ++ [z]) (svs ++ [sz])).set (ts.length * 5) (.int .i64 X.kind)).set (ts.length * 5 + 1) (.string ⟨X.name.toArray⟩)).set (ts.length * 5 + 2) (.int .i64 X.num)).set (ts.length * 5 + 3) (.int .i64 X.at')).set (ts.length * 5 + 4) sx) = flatN (ts ++ [X]) (svs ++ [sx]) := by
  rw [flatN_append _ _ _ _ h, flatN_append _ _ _ _ h]
  have hl := flatN_length ts svs h
  rw [List.set_append_right _ _ (by omega), List.set_append_right _ _ (by omega), List.set_append_right _ _ (by omega), List.set_append_right _ _ (by omega), List.set_append_right _ _ (by omega), hl]
  simp [flatN, headC]
/-- Five stores into the last place of a list. -/
theorem LR.setLast {w : World} {S S2 S' : Nat → Prop} {ts : List T} {z X : T} {g n c : Nat} {sx : Value} (h : LR w S (ts ++ [z]) (.slice (some ⟨g, 0, none⟩) n c)) (hx : LR w S2 X.subs sx) (hd : ∀ k, S2 k → k ≠ g) (h1 : ∀ k, S k → S' k) (h2 : ∀ k, S2 k → S' k) :
    LR (((((w.setCell ⟨g, ts.length * 5, none⟩ (.int .i64 X.kind)).setCell ⟨g, ts.length * 5 + 1, none⟩ (.string ⟨X.name.toArray⟩)).setCell ⟨g, ts.length * 5 + 2, none⟩ (.int .i64 X.num)).setCell ⟨g, ts.length * 5 + 3, none⟩ (.int .i64 X.at')).setCell ⟨g, ts.length * 5 + 4, none⟩ sx) S' (ts ++ [X]) (.slice (some ⟨g, 0, none⟩) n c) := by
  obtain ⟨svs0, hl, own, hin, hsub⟩ := h.own
  rw [List.length_append, List.length_singleton] at hl own
  obtain ⟨svs, sz, rfl, hl'⟩ := snoc_of_len svs0 _ hl
  have hn : n = ts.length + 1 := by
    rcases own.2 with ⟨e, _⟩ | ⟨_, _, _, e, _⟩
    · cases e
    · cases e; rfl
  subst hn
  have o5 := ((((((own.stored (ts.length * 5) (.int .i64 X.kind)).1).stored (ts.length * 5 + 1) (.string ⟨X.name.toArray⟩)).1).stored (ts.length * 5 + 2) (.int .i64 X.num)).1.stored (ts.length * 5 + 3) (.int .i64 X.at')).1.stored (ts.length * 5 + 4) sx
  rw [flatN_set ts svs z X sz sx hl'] at o5
  have hgs : w.grownBy (((((w.setCell ⟨g, ts.length * 5, none⟩ (.int .i64 X.kind)).setCell ⟨g, ts.length * 5 + 1, none⟩ (.string ⟨X.name.toArray⟩)).setCell ⟨g, ts.length * 5 + 2, none⟩ (.int .i64 X.num)).setCell ⟨g, ts.length * 5 + 3, none⟩ (.int .i64 X.at')).setCell ⟨g, ts.length * 5 + 4, none⟩ sx) (some g) := gb_set (gb_set (gb_set (gb_set (gb_set (gb_refl w (some g)) _ _) _ _) _ _) _ _) _ _
  refine .mk _ _ _ (svs ++ [sx]) (by simp [hl']) (by rw [List.length_append, List.length_singleton]; exact o5.1) (fun b hb => h1 b (hin b hb)) (fun i t sv e1 e2 => ?_)
  rcases Nat.lt_or_ge i ts.length with hi | hi
  · rw [List.getElem?_append_left hi] at e1
    rw [List.getElem?_append_left (by omega)] at e2
    have := hsub i t sv (by rw [List.getElem?_append_left hi]; exact e1) (by rw [List.getElem?_append_left (by omega)]; exact e2)
    exact (this.kept hgs (fun b hb hk => hk.2 (by cases hb; rfl))).mono (fun k hk => ⟨h1 k hk.1, hk.2⟩)
  · rw [List.getElem?_append_right hi] at e1
    rw [List.getElem?_append_right (by omega)] at e2
    have hi0 : i - ts.length = 0 := by
      rcases Nat.eq_zero_or_pos (i - ts.length) with h9 | h9
      · exact h9
      · rw [List.getElem?_eq_none (by simp; omega)] at e1; cases e1
    rw [hi0] at e1
    rw [hl', hi0] at e2
    cases e1
    cases e2
    exact (hx.kept hgs (fun b hb hk => by cases hb; exact hd g hk rfl)).mono (fun k hk => ⟨h2 k hk, fun e => by cases e; exact hd g hk rfl⟩)
end Go.Proofs.YtlkokcnbbihljaaGreatDoor

/- The program's levels: the last one's parts become others. -/
namespace Go.Proofs.YtlkokcnbbihljaaGreatDoor
open Go.RowKit

theorem flatV_set6 (l : List Lv) (svs pvs : List Value) (x y : Lv) (sv pv pv' : Value) (h1 : svs.length = l.length) (h2 : pvs.length = l.length) (ht : x.t = y.t) (hi : x.i = y.i) : (flatV (l ++ [x]) (svs ++ [sv]) (pvs ++ [pv])).set (l.length * 7 + 6) pv' = flatV (l ++ [y]) (svs ++ [sv]) (pvs ++ [pv']) := by
  rw [flatV_append _ _ _ _ _ _ h1 h2, flatV_append _ _ _ _ _ _ h1 h2]
  have hl := flatV_length l svs pvs h1 h2
  rw [List.set_append_right _ _ (by omega), hl]
  simp [flatV, ht, hi]
theorem VM.put {w0 : World} {fb m : Nat} {w w1 : World} {l : List Lv} {t : T} {i : Nat} {acc acc2 : List T} {g n c : Nat} {sv pv pv2 : Value} {svs pvs : List Value} (h : VM w0 fb m w (l ++ [⟨t, i, acc⟩]) (.slice (some ⟨g, 0, none⟩) n c) (svs ++ [sv]) (pvs ++ [pv])) (hl1 : svs.length = l.length) (hl2 : pvs.length = l.length)
    (hg : w.grownBy w1 pv.ownBlock) (hr : LR w1 (Apart w0 fb g pvs) acc2 pv2) (hat : pv2.ownBlock = pv.ownBlock ∨ ∀ b, pv2.ownBlock = some b → m ≤ b) : VS w0 fb (w1.setCell ⟨g, l.length * 7 + 6, none⟩ pv2) (l ++ [⟨t, i, acc2⟩]) (.slice (some ⟨g, 0, none⟩) n c) := by
  obtain ⟨q1, q2, q3⟩ := h.hp l.length ⟨t, i, acc⟩ sv pv (by simp) (by rw [← hl1]; simp) (by rw [← hl2]; simp)
  have hpz : ∀ b, pv.ownBlock = some b → Zone w0 fb (.slice (some ⟨g, 0, none⟩) n c) (pvs ++ [pv]) l.length b ∧ b < m := by
    obtain ⟨_, _, _, hin, _⟩ := q3.own
    exact hin
  have hgf : g ≠ fb := fun e => h.rne (by rw [e]; rfl)
  have hg0 : w0.heap.size ≤ g ∧ g < m := h.hvr g rfl
  have hgs : w1.grownBy (w1.setCell ⟨g, l.length * 7 + 6, none⟩ pv2) (some g) := gb_set (gb_refl w1 (some g)) _ _
  have hn : n = l.length + 1 := by
    rcases h.own.2 with ⟨e, _⟩ | ⟨_, _, _, e, _⟩
    · cases e
    · cases e; simp
  subst hn
  have pfb : some fb ≠ pv.ownBlock := fun e => (hpz fb e.symm).1.2.1 rfl
  have pg : some g ≠ pv.ownBlock := fun e => (hpz g e.symm).1.2.2.1 rfl
  have own1 := h.own.kept hg (.inr (fun e => pg (by rw [← e]; rfl)))
  rw [List.length_append, List.length_singleton] at own1
  refine ⟨gb_put (gb_own h.gb hg (fun b hb => (hpz b hb).1.1)) hg0.1 _ _, h.flo, cell_far hgs (cell_far hg h.c0 pfb) (by simpa using fun e => hgf e.symm), frozen_far hgs (Nat.lt_of_lt_of_le (block_lt h.c0) hg.size) (frozen_far hg (block_lt h.c0) h.z0 pfb) (by simpa using fun e => hgf e.symm), h.rne, svs ++ [sv], pvs ++ [pv2], by simp [hl1], by simp [hl2], ?_, fun j lv sv' pv' e1 e2 e3 => ?_⟩
  · have hst := (own1.stored (l.length * 7 + 6) pv2).1
    rw [flatV_set6 l svs pvs ⟨t, i, acc⟩ ⟨t, i, acc2⟩ sv pv pv2 hl1 hl2 rfl rfl] at hst
    rw [List.length_append, List.length_singleton]
    exact hst
  · have inr : ∀ (j : Nat) (q a : Value), j < pvs.length → ((pvs ++ [a])[j]? = some q ↔ pvs[j]? = some q) := fun j q a hj => by rw [List.getElem?_append_left hj]
    rcases Nat.lt_or_ge j l.length with hj | hj
    · rw [List.getElem?_append_left hj] at e1
      rw [List.getElem?_append_left (by omega)] at e2 e3
      obtain ⟨r1, r2, r3⟩ := h.hp j lv sv' pv' (by rw [List.getElem?_append_left hj]; exact e1) (by rw [List.getElem?_append_left (by omega)]; exact e2) (by rw [List.getElem?_append_left (by omega)]; exact e3)
      refine ⟨r1, r2, ?_⟩
      have last : (pvs ++ [pv])[l.length]? = some pv := by rw [← hl2]; simp
      have r4 := r3.kept hg (fun b hb hk => hk.1.2.2.2 l.length pv last (by omega) hb)
      have r5 := r4.kept hgs (fun b hb hk => hk.1.2.2.1 (by cases hb; rfl))
      refine r5.mono (fun k hk => ⟨hk.1.1, hk.1.2.1, hk.1.2.2.1, fun j' q hq hjj => ?_⟩)
      rcases Nat.lt_or_ge j' pvs.length with h9 | h9
      · rw [inr j' q pv2 h9] at hq
        exact hk.1.2.2.2 j' q ((inr j' q pv h9).2 hq) hjj
      · rw [List.getElem?_append_right h9] at hq
        have h0 : j' - pvs.length = 0 := by
          rcases Nat.eq_zero_or_pos (j' - pvs.length) with h8 | h8
          · exact h8
          · rw [List.getElem?_eq_none (by simp; omega)] at hq; cases hq
        rw [h0] at hq
        cases hq
        intro e
        rcases hat with e' | e'
        · exact hk.1.2.2.2 l.length pv last (by omega) (e' ▸ e)
        · have := e' k e; have := hk.2; omega
    · rw [List.getElem?_append_right hj] at e1
      rw [List.getElem?_append_right (by omega)] at e2 e3
      have h0 : j - l.length = 0 := by
        rcases Nat.eq_zero_or_pos (j - l.length) with h8 | h8
        · exact h8
        · rw [List.getElem?_eq_none (by simp; omega)] at e1; cases e1
      rw [h0] at e1
      rw [hl1, h0] at e2
      rw [hl2, h0] at e3
      cases e1
      cases e2
      cases e3
      refine ⟨q1, q2, (hr.kept hgs (fun b hb hk => by cases hb; exact hk.2.2.1 rfl)).mono (fun k hk => ⟨hk.1, hk.2.1, fun e => hk.2.2.1 (by cases e; rfl), fun j' q hq hjj => ?_⟩)⟩
      rcases Nat.lt_or_ge j' pvs.length with h9 | h9
      · rw [inr j' q pv2 h9] at hq
        exact hk.2.2.2 j' q hq
      · rw [List.getElem?_append_right h9] at hq
        have h7 : j' - pvs.length = 0 := by
          rcases Nat.eq_zero_or_pos (j' - pvs.length) with h8 | h8
          · exact h8
          · rw [List.getElem?_eq_none (by simp; omega)] at hq; cases hq
        omega
end Go.Proofs.YtlkokcnbbihljaaGreatDoor

/- The program's levels: what close wants where it puts a node. -/
namespace Go.Proofs.YtlkokcnbbihljaaGreatDoor
open Go.RowKit

theorem setCell_comm (w : World) (a b : Addr) (u v : Value) (h : a.block ≠ b.block) : (w.setCell a u).setCell b v = (w.setCell b v).setCell a u := by
  simp only [World.setCell]
  congr 1
  apply Array.ext
  · simp
  · intro i h1 h2
    simp only [Array.getElem_modify]
    by_cases e1 : a.block = i
    · by_cases e2 : b.block = i
      · exact absurd (e1.trans e2.symm) h
      · simp [e1, e2]
    · by_cases e2 : b.block = i <;> simp [e1, e2]
/-- Rows that are new lie apart from all. -/
theorem VM.new {w0 : World} {fb m : Nat} {w : World} {l : List Lv} {g n c : Nat} {svs pvs pvs' : List Value} (h : VM w0 fb m w l (.slice (some ⟨g, 0, none⟩) n c) svs (pvs ++ pvs')) {k : Nat} (hk : m ≤ k) : Apart w0 fb g pvs k := by
  have h1 := h.hvr g rfl
  have h2 := h.hfm
  have h3 := h.flo
  refine ⟨by omega, by omega, by omega, fun j q hq e => ?_⟩
  have hj : j < pvs.length := by
    rcases Nat.lt_or_ge j pvs.length with h9 | h9
    · exact h9
    · rw [List.getElem?_eq_none h9] at hq; cases hq
  have := h.hpm j q (by rw [List.getElem?_append_left hj]; exact hq) k e
  omega
/-- The last level's parts lie apart from the others'. -/
theorem VM.last {w0 : World} {fb m : Nat} {w : World} {l : List Lv} {t : T} {i : Nat} {acc : List T} {g n c : Nat} {sv pv : Value} {svs pvs : List Value} (h : VM w0 fb m w (l ++ [⟨t, i, acc⟩]) (.slice (some ⟨g, 0, none⟩) n c) (svs ++ [sv]) (pvs ++ [pv])) (hl1 : svs.length = l.length) (hl2 : pvs.length = l.length) : LR w (fun k => Apart w0 fb g pvs k ∧ k < m) acc pv ∧ ∀ b, pv.ownBlock = some b → b < m := by
  obtain ⟨q1, q2, q3⟩ := h.hp l.length ⟨t, i, acc⟩ sv pv (by simp) (by rw [← hl1]; simp) (by rw [← hl2]; simp)
  refine ⟨q3.mono (fun k hk => ⟨⟨hk.1.1, hk.1.2.1, fun e => hk.1.2.2.1 (by rw [e]; rfl), fun j q hq => ?_⟩, hk.2⟩), fun b hb => h.hpm l.length pv (by rw [← hl2]; simp) b hb⟩
  have hj : j < pvs.length := by
    rcases Nat.lt_or_ge j pvs.length with h9 | h9
    · exact h9
    · rw [List.getElem?_eq_none h9] at hq; cases hq
  exact hk.1.2.2.2 j q (by rw [List.getElem?_append_left hj]; exact hq) (by omega)
def zeroT : T := .mk 0 [] 0 0 []
/-- 'append' of a list that is not nil, at a step of a region that draws its order; and where the new one lies. -/
theorem step_appH {ops : Array Oper} {o : Oper} {a : Act} {w : World} {K : Act → World → Prop} {Q : Exit → Act → World → Prop} {E : Prop} (hgd : o.guard = none) (s x : Operand)
    (ho : o.op = .call { callee := .builtin .append, args := #[s, x], argTypes := #[22, 22] })
    {S S2 : Nat → Prop} (S' : Nat → Prop) {g m c : Nat} {ts us : List T} {v : Value} (hs : a.eval s = v) (hx : a.eval x = .slice (some ⟨g, 0, none⟩) m c) (hl : LR w S ts v) (hu : LR w S2 us (.slice (some ⟨g, 0, none⟩) m c))
    (hd : ∀ k, S2 k → v.ownBlock ≠ some k) (h1 : ∀ k, S k → S' k) (h2 : ∀ k, S2 k → S' k) (h3 : S' w.heap.size) (hlen : ts.length + us.length ≤ 20000)
    (k : ∀ v' w', LR w' S' (ts ++ us) v' → w.grownBy w' v.ownBlock → (v'.ownBlock = v.ownBlock ∨ v'.ownBlock = some w.heap.size) → K (a.put o.dst v') w') :
    if Region.wanted o (yielded ops a.tmps) = true then Oper.wp Tryz.prog o a w K Q else E := by
  have hw : Region.wanted o (yielded ops a.tmps) = true := by simp [Region.wanted, hgd]
  rw [if_pos hw]
  obtain ⟨i0, hi0, hz0, hz1, hz2⟩ := info_parts Tryz.infoNode
  obtain ⟨svs, hl1, own, hin, hsub⟩ := hl.own
  obtain ⟨uvs, hu1, uown, uin, usub⟩ := hu.own
  have hm : m = us.length := by
    rcases uown.2 with ⟨h0, _⟩ | ⟨_, _, _, h0, _⟩
    · cases h0
    · cases h0; rfl
  subst hm
  obtain ⟨v', w', hr, hown, hg, _, hat⟩ := run_append_own_at (P := Tryz.prog) w 0 22 o.type 24 i0 _ 5 64 Tryz.underlying22 hi0 hz0 hz1 hz2 rfl (by decide) v ts.length (flatN ts svs) own ⟨g, 0, none⟩ us.length c (flatN us uvs)
    (flatN_length _ _ hu1) (uown.cells rfl) (fun u hu' => flat_one us uvs hu1 (fun i t sv ht hsv => (usub i t sv ht hsv).form) u hu') (by unfold maxLen; omega) (by omega) (Nat.zero_le _)
  unfold Oper.wp execOp
  simp only [ho, resolve, invoke, builtin, Sem.run_bind, Sem.run_pure, Result.andThen_ok, List.map_toArray, List.map_cons, List.map_nil, hs, hx, hr]
  exact k v' w' (LR.appendS hin hl1 hsub hu1 (fun i t sv ht hsv => (usub i t sv ht hsv).mono (fun k hk => hk.1)) hd h1 h2 h3 hown hg rfl hat) hg hat
def put5at (w : World) (g o : Nat) (X : T) (sx : Value) : World := ((((w.setCell ⟨g, o, none⟩ (.int .i64 X.kind)).setCell ⟨g, o + 1, none⟩ (.string ⟨X.name.toArray⟩)).setCell ⟨g, o + 2, none⟩ (.int .i64 X.num)).setCell ⟨g, o + 3, none⟩ (.int .i64 X.at')).setCell ⟨g, o + 4, none⟩ sx
theorem put5at_comm (w : World) (g o : Nat) (X : T) (sx : Value) (a : Addr) (u : Value) (h : a.block ≠ g) : put5at (w.setCell a u) g o X sx = (put5at w g o X sx).setCell a u := by
  unfold put5at
  rw [setCell_comm w a _ u _ h, setCell_comm _ a _ u _ h, setCell_comm _ a _ u _ h, setCell_comm _ a _ u _ h, setCell_comm _ a _ u _ h]
/-- The levels behind: the last one's list appended by a new place, into which the node is laid, and the list laid down again. -/
theorem VM.close {w0 : World} {fb m : Nat} {ws w5 : World} {l : List Lv} {t : T} {i : Nat} {acc : List T} {g n c g5 n5 c5 : Nat} {sv pv : Value} {svs pvs : List Value} {X : T} {sx : Value} {S1 S2 : Nat → Prop}
    (h : VM w0 fb m ws (l ++ [⟨t, i, acc⟩]) (.slice (some ⟨g, 0, none⟩) n c) (svs ++ [sv]) (pvs ++ [pv])) (hl1 : svs.length = l.length) (hl2 : pvs.length = l.length)
    (g5b : ws.grownBy w5 pv.ownBlock) (hr : LR w5 S1 (acc ++ [zeroT]) (.slice (some ⟨g5, 0, none⟩) n5 c5)) (hs1 : ∀ k, S1 k → Apart w0 fb g pvs k)
    (hat : pv.ownBlock = some g5 ∨ ws.heap.size ≤ g5) (hd : ∀ k, S2 k → k ≠ g5)
    (hx : LR w5 S2 X.subs sx) (hs2 : ∀ k, S2 k → Apart w0 fb g pvs k) :
    VS w0 fb ((put5at w5 g5 (acc.length * 5) X sx).setCell ⟨g, l.length * 7 + 6, none⟩ (.slice (some ⟨g5, 0, none⟩) n5 c5)) (l ++ [⟨t, i, acc ++ [X]⟩]) (.slice (some ⟨g, 0, none⟩) n c) := by
  have hms := h.hm
  have r6 := LR.setLast (S' := Apart w0 fb g pvs) hr hx hd hs1 hs2
  refine VM.put (w1 := put5at w5 g5 (acc.length * 5) X sx) h hl1 hl2 ?_ r6 ?_
  · unfold put5at
    rcases hat with e | hb
    · rw [e] at g5b ⊢
      exact gb_set (gb_set (gb_set (gb_set (gb_set g5b _ _) _ _) _ _) _ _) _ _
    · exact gb_put (gb_put (gb_put (gb_put (gb_put g5b hb _ _) hb _ _) hb _ _) hb _ _) hb _ _
  · rcases hat with e | hb
    · exact .inl e.symm
    · exact .inr (fun b hb' => by have : g5 = b := by simpa [Value.ownBlock] using hb'
                                  omega)
def closed (w : World) (g5 o : Nat) (X : T) (sx : Value) (a : Addr) (v : Value) : World := (put5at w g5 o X sx).setCell a v
theorem closed_comm (w : World) (g5 o : Nat) (X : T) (sx : Value) (a : Addr) (v : Value) (b : Addr) (u : Value) (h1 : b.block ≠ g5) (h2 : b.block ≠ a.block) : (closed w g5 o X sx a v).setCell b u = closed (w.setCell b u) g5 o X sx a v := by
  unfold closed
  rw [setCell_comm _ a b v u (fun e => h2 e.symm), put5at_comm w g5 o X sx b u h1]
theorem closed_put5 (w : World) (g5 o : Nat) (X : T) (sx : Value) (a : Addr) (v : Value) (rb : Nat) (z0 z1 z2 z3 z4 : Value) (h1 : rb ≠ g5) (h2 : rb ≠ a.block) : put5 (closed w g5 o X sx a v) rb z0 z1 z2 z3 z4 = closed (put5 w rb z0 z1 z2 z3 z4) g5 o X sx a v := by
  unfold put5
  rw [closed_comm _ _ _ _ _ _ _ ⟨rb, 0, none⟩ z0 h1 h2, closed_comm _ _ _ _ _ _ _ ⟨rb, 1, none⟩ z1 h1 h2, closed_comm _ _ _ _ _ _ _ ⟨rb, 2, none⟩ z2 h1 h2, closed_comm _ _ _ _ _ _ _ ⟨rb, 3, none⟩ z3 h1 h2, closed_comm _ _ _ _ _ _ _ ⟨rb, 4, none⟩ z4 h1 h2]
end Go.Proofs.YtlkokcnbbihljaaGreatDoor
