/- The program's levels in memory. -/
import Derived.Test.YtlkokcnbbihljaaGreatDoorG12
import Derived.Test.YtlkokcnbbihljaaGreatDoorG27
import Derived.Laws.OwnMore
namespace Go.Proofs.YtlkokcnbbihljaaGreatDoor
open Go.RowKit

def flatV : List Lv → List Value → List Value → List Value
  | v :: l, sv :: svs, pv :: pvs => [.int .i64 v.t.kind, .string ⟨v.t.name.toArray⟩, .int .i64 v.t.num, .int .i64 v.t.at', sv, .int .i64 v.i, pv] ++ flatV l svs pvs
  | _, _, _ => []
theorem flatV_length : ∀ (l : List Lv) (svs pvs : List Value), svs.length = l.length → pvs.length = l.length → (flatV l svs pvs).length = l.length * 7
  | [], [], [], _, _ => rfl
  | v :: l, sv :: svs, pv :: pvs, h1, h2 => by
    have ih := flatV_length l svs pvs (by simpa using h1) (by simpa using h2)
    simp only [flatV, List.length_append, ih, List.length_cons, List.length_nil]
    omega
theorem flatV_append : ∀ (l : List Lv) (svs pvs : List Value) (m : List Lv) (svs' pvs' : List Value), svs.length = l.length → pvs.length = l.length → flatV (l ++ m) (svs ++ svs') (pvs ++ pvs') = flatV l svs pvs ++ flatV m svs' pvs'
  | [], [], [], _, _, _, _, _ => rfl
  | v :: l, sv :: svs, pv :: pvs, m, svs', pvs', h1, h2 => by
    have ih := flatV_append l svs pvs m svs' pvs' (by simpa using h1) (by simpa using h2)
    simp only [flatV, List.cons_append, ih, List.append_assoc]
theorem flatV_snoc_get (l : List Lv) (svs pvs : List Value) (v : Lv) (sv pv : Value) (h1 : svs.length = l.length) (h2 : pvs.length = l.length) (j : Nat) : (flatV (l ++ [v]) (svs ++ [sv]) (pvs ++ [pv]))[l.length * 7 + j]? = [Value.int .i64 v.t.kind, .string ⟨v.t.name.toArray⟩, .int .i64 v.t.num, .int .i64 v.t.at', sv, .int .i64 v.i, pv][j]? := by
  rw [flatV_append _ _ _ _ _ _ h1 h2, List.getElem?_append_right (by rw [flatV_length _ _ _ h1 h2]; omega), flatV_length _ _ _ h1 h2]
  simp [flatV]
/-- Rows that a level's parts may lie in: new ones, neither the folder's block nor the levels' row nor another level's. -/
def Zone (w0 : World) (fb : Nat) (v : Value) (pvs : List Value) (i : Nat) : Nat → Prop := fun k => w0.heap.size ≤ k ∧ k ≠ fb ∧ v.ownBlock ≠ some k ∧ ∀ (j : Nat) (pv : Value), pvs[j]? = some pv → j ≠ i → pv.ownBlock ≠ some k
/-- The folder in memory: its levels. -/
structure VS (w0 : World) (fb : Nat) (w : World) (l : List Lv) (v : Value) : Prop where
  gb : w0.grownBy w none
  flo : w0.heap.size ≤ fb
  c0 : w.cell? ⟨fb, 0, none⟩ = some v
  z0 : w.frozen? ⟨fb, 0, none⟩ = false
  rne : v.ownBlock ≠ some fb
  row : ∃ svs pvs, svs.length = l.length ∧ pvs.length = l.length ∧ w.ownsRow w0.heap.size 97 7 v l.length (flatV l svs pvs) ∧
    ∀ (i : Nat) (lv : Lv) (sv pv : Value), l[i]? = some lv → svs[i]? = some sv → pvs[i]? = some pv → Fits lv.t ∧ AT w0 lv.t.subs sv ∧ LR w (Zone w0 fb v pvs i) lv.acc pv
section
variable {w0 : World} {fb : Nat} {w w' : World} {l : List Lv} {v : Value}
theorem VS.lt (h : VS w0 fb w l v) : fb < w.heap.size := block_lt h.c0
theorem VS.grown (h : VS w0 fb w l v) (hg : w.grownBy w' none) : VS w0 fb w' l v where
  gb := gb_trans h.gb hg
  flo := h.flo
  c0 := gb_cell hg h.c0
  z0 := frozen_far hg h.lt h.z0 (by simp)
  rne := h.rne
  row := by
    obtain ⟨svs, pvs, h1, h2, own, hp⟩ := h.row
    refine ⟨svs, pvs, h1, h2, own.kept hg ?_, fun i lv sv pv e1 e2 e3 => ?_⟩
    · cases hv : v.ownBlock with
      | none => exact .inl rfl
      | some b => exact .inr (by simp)
    · obtain ⟨q1, q2, q3⟩ := hp i lv sv pv e1 e2 e3
      exact ⟨q1, q2, q3.kept hg (fun _ hk => by cases hk)⟩
/-- The last level: its cells, and what is known of it. -/
theorem VS.last {t : T} {i : Nat} {acc : List T} (h : VS w0 fb w (l ++ [⟨t, i, acc⟩]) v) : ∃ g c sv pv, v = .slice (some ⟨g, 0, none⟩) (l.length + 1) c ∧ l.length + 1 ≤ c ∧ c ≤ 9223372036854775807 ∧ g ≠ fb ∧
    Node5 w g (l.length * 7) t sv ∧ w.cell? ⟨g, l.length * 7 + 5, none⟩ = some (.int .i64 i) ∧ w.cell? ⟨g, l.length * 7 + 6, none⟩ = some pv ∧ Fits t ∧ AT w0 t.subs sv ∧ LR w (fun k => w0.heap.size ≤ k ∧ k ≠ fb ∧ k ≠ g) acc pv ∧ (∀ o, w.frozen? ⟨g, o, none⟩ = false) := by
  obtain ⟨svs0, pvs0, h1, h2, own, hp⟩ := h.row
  rw [List.length_append, List.length_singleton] at h1 h2 own
  obtain ⟨svs, sv, rfl, h1'⟩ := snoc_of_len svs0 _ h1
  obtain ⟨pvs, pv, rfl, h2'⟩ := snoc_of_len pvs0 _ h2
  rcases id own.2 with ⟨_, h9⟩ | ⟨g, c, cur, rfl, hb, hh, hc1, hc2, hsz, htk⟩
  · omega
  have key : ∀ j, j < 7 → w.cell? ⟨g, l.length * 7 + j, none⟩ = [Value.int .i64 t.kind, .string ⟨t.name.toArray⟩, .int .i64 t.num, .int .i64 t.at', sv, .int .i64 i, pv][j]? := fun j hj => (own.cellAt (l.length * 7 + j) (by omega)).trans (flatV_snoc_get l svs pvs ⟨t, i, acc⟩ sv pv h1' h2' j)
  obtain ⟨q1, q2, q3⟩ := hp l.length ⟨t, i, acc⟩ sv pv (by simp) (by rw [← h1']; simp) (by rw [← h2']; simp)
  have hgj : g ≠ fb := fun e => h.rne (by rw [e]; rfl)
  unfold maxLen at hc2
  refine ⟨g, c, sv, pv, rfl, hc1, by omega, hgj, ⟨key 0 (by omega), key 1 (by omega), key 2 (by omega), key 3 (by omega), key 4 (by omega)⟩, key 5 (by omega), key 6 (by omega), q1, q2, q3.mono (fun k hk => ⟨hk.1, hk.2.1, fun e => hk.2.2.1 (by rw [e]; rfl)⟩), fun o => ?_⟩
  exact own.frozenAt o
theorem flatV_set5 (l : List Lv) (svs pvs : List Value) (x y : Lv) (sv pv : Value) (h1 : svs.length = l.length) (h2 : pvs.length = l.length) (ht : x.t = y.t) : (flatV (l ++ [x]) (svs ++ [sv]) (pvs ++ [pv])).set (l.length * 7 + 5) (.int .i64 y.i) = flatV (l ++ [y]) (svs ++ [sv]) (pvs ++ [pv]) := by
  rw [flatV_append _ _ _ _ _ _ h1 h2, flatV_append _ _ _ _ _ _ h1 h2]
  have hl := flatV_length l svs pvs h1 h2
  rw [List.set_append_right _ _ (by omega), hl]
  simp [flatV, ht]
theorem flatV_set (l : List Lv) (svs pvs : List Value) (x y : Lv) (sv pv pv' : Value) (h1 : svs.length = l.length) (h2 : pvs.length = l.length) (ht : x.t = y.t) : (((flatV (l ++ [x]) (svs ++ [sv]) (pvs ++ [pv])).set (l.length * 7 + 5) (.int .i64 y.i)).set (l.length * 7 + 6) pv') = flatV (l ++ [y]) (svs ++ [sv]) (pvs ++ [pv']) := by
  rw [flatV_append _ _ _ _ _ _ h1 h2, flatV_append _ _ _ _ _ _ h1 h2]
  have hl := flatV_length l svs pvs h1 h2
  rw [List.set_append_right _ _ (by omega), List.set_append_right _ _ (by omega), hl]
  simp [flatV, ht]
/-- A part is begun: the last level's number is one more. -/
theorem VS.bump {t : T} {i : Nat} {acc : List T} {g c n : Nat} (h : VS w0 fb w (l ++ [⟨t, i, acc⟩]) (.slice (some ⟨g, 0, none⟩) n c)) : VS w0 fb (w.setCell ⟨g, l.length * 7 + 5, none⟩ (.int .i64 ((i + 1 : Nat) : Int))) (l ++ [⟨t, i + 1, acc⟩]) (.slice (some ⟨g, 0, none⟩) n c) := by
  obtain ⟨svs0, pvs0, h1, h2, own, hp⟩ := h.row
  have h1a := h1
  have h2a := h2
  rw [List.length_append, List.length_singleton] at h1 h2
  obtain ⟨svs, sv, rfl, h1'⟩ := snoc_of_len svs0 _ h1
  obtain ⟨pvs, pv, rfl, h2'⟩ := snoc_of_len pvs0 _ h2
  have hgj : g ≠ fb := fun e => h.rne (by rw [e]; rfl)
  have hg0 : w0.heap.size ≤ g := (own.lt g rfl).1
  have hgs : w.grownBy (w.setCell ⟨g, l.length * 7 + 5, none⟩ (.int .i64 ((i + 1 : Nat) : Int))) (some g) := gb_set (gb_refl w (some g)) _ _
  have hn : n = l.length + 1 := by
    rcases own.2 with ⟨e, _⟩ | ⟨_, _, _, e, _⟩
    · cases e
    · cases e; simp
  subst hn
  refine ⟨gb_put h.gb hg0 _ _, h.flo, cell_far hgs h.c0 (by simpa using fun e => hgj e.symm), frozen_far hgs h.lt h.z0 (by simpa using fun e => hgj e.symm), h.rne, svs ++ [sv], pvs ++ [pv], by simpa using h1a, by simpa using h2a, ?_, fun j lv sv' pv' e1 e2 e3 => ?_⟩
  · rw [List.length_append, List.length_singleton] at own ⊢
    have hst := (own.stored (l.length * 7 + 5) (.int .i64 ((i + 1 : Nat) : Int))).1
    rw [flatV_set5 l svs pvs ⟨t, i, acc⟩ ⟨t, i + 1, acc⟩ sv pv h1' h2' rfl] at hst
    exact hst
  · have old : ∃ lv0, (l ++ [⟨t, i, acc⟩])[j]? = some lv0 ∧ lv0.t = lv.t ∧ lv0.acc = lv.acc := by
      rcases Nat.lt_or_ge j l.length with hj | hj
      · rw [List.getElem?_append_left hj] at e1
        exact ⟨lv, by rw [List.getElem?_append_left hj]; exact e1, rfl, rfl⟩
      · rw [List.getElem?_append_right hj] at e1
        refine ⟨⟨t, i, acc⟩, ?_, ?_⟩
        · rw [List.getElem?_append_right hj]
          have : j - l.length = 0 := by
            rcases Nat.eq_zero_or_pos (j - l.length) with h9 | h9
            · exact h9
            · rw [List.getElem?_eq_none (by simp; omega)] at e1; cases e1
          rw [this]; rfl
        · have : j - l.length = 0 := by
            rcases Nat.eq_zero_or_pos (j - l.length) with h9 | h9
            · exact h9
            · rw [List.getElem?_eq_none (by simp; omega)] at e1; cases e1
          rw [this] at e1
          cases e1
          exact ⟨rfl, rfl⟩
    obtain ⟨lv0, f1, f2, f3⟩ := old
    obtain ⟨q1, q2, q3⟩ := hp j lv0 sv' pv' f1 e2 e3
    rw [f2] at q1 q2
    rw [f3] at q3
    exact ⟨q1, q2, q3.kept hgs (fun b hb hz => hz.2.2.1 (by rw [← hb]; rfl))⟩
end
end Go.Proofs.YtlkokcnbbihljaaGreatDoor

/- The program's levels: next. -/
namespace Go.Proofs.YtlkokcnbbihljaaGreatDoor
open Go.RowKit

def zeroN : Value := .agg #[.int .i64 0, .string ⟨#[]⟩, .int .i64 0, .int .i64 0, .slice none 0 0]
theorem node2_ret {fn : Func} {p q : Tmp} {R : Ending → World → Prop} {a : Act} {w : World} {b : Nat} {v0 v1 v2 v3 v4 u : Value} (h : fn.results = #[.cell p 24, .tmp q]) (hp : a.tmps[p]?.getD undef = .pointer (some ⟨b, 0, none⟩)) (hq : a.tmps[q]?.getD undef = u) (hn : NB w b v0 v1 v2 v3 v4) (hd : a.defers = [])
    (hR : R (.returned (.tuple #[.agg #[v0, v1, v2, v3, v4], u])) w) : bodyPost Tryz.prog fn R .ret a w :=
  bodyPost_ret (by simp [results, h, hp, hq, go_sem, hn.c0, hn.c1, hn.c2, hn.c3, hn.c4]) hd hR
set_option maxRecDepth 100000 in
set_option maxHeartbeats 2000000 in
/-- All parts of the last level are begun: there is none. -/
theorem next_no (w0 : World) (fb : Nat) (w : World) (l : List Lv) (t : T) (acc : List T) (v : Value) (h : VS w0 fb w (l ++ [⟨t, t.subs.length, acc⟩]) v) :
    Calls Tryz.prog 30 #[.pointer (some ⟨fb, 0, none⟩)] w (Sy w (.tuple #[zeroN, .bool false])) := by
  obtain ⟨g, c, sv, pv, rfl, hc1, hc2, hgf, n5, c5, c6, hf, ha, hl, hz⟩ := h.last
  obtain ⟨sa, sc, rfl, hs1, hs2⟩ := ha.form
  unfold maxLen at hs2
  have HV := hide h
  have fc := h.c0
  have fl := h.lt
  have hgl := block_lt n5.c0
  obtain ⟨k0, k1, k2, k3, k4⟩ := n5
  clear h hf ha hl
  go_enter Tryz.func30, Tryz.ntmps30
  go_wp2_with fail
  go_region
  go_wp2_with fail
  go_region
  go_wp2_with fail
  refine node2_ret Tryz.results30 rfl rfl (by repeat (first | with_reducible exact NB.new' (by simp) | with_reducible refine NB.far ?_ (by omega) _ _ | with_reducible apply NB.s0 | with_reducible apply NB.s1 | with_reducible apply NB.s2 | with_reducible apply NB.s3 | with_reducible apply NB.s4 | with_reducible refine NB.alloc ?_ _ | with_reducible refine NB.drewN ?_ _ | with_reducible refine NB.drew ?_)) rfl ⟨rfl, (by repeat (first | with_reducible exact gb_refl w none | with_reducible refine gb_put ?_ (by omega) _ _ | with_reducible refine gb_alloc ?_ _ | with_reducible refine gb_drewN ?_ _ | with_reducible refine gb_drew ?_))⟩
set_option maxRecDepth 100000 in
set_option maxHeartbeats 2000000 in
/-- The next part of the last level. -/
theorem next_yes (w0 : World) (fb : Nat) (w : World) (l : List Lv) (t u : T) (i : Nat) (acc : List T) (v : Value) (h : VS w0 fb w (l ++ [⟨t, i, acc⟩]) v) (hu : t.subs[i]? = some u) :
    Calls Tryz.prog 30 #[.pointer (some ⟨fb, 0, none⟩)] w fun e w' => ∃ su, e = .returned (.tuple #[nodeV u su, .bool true]) ∧ Fits u ∧ AT w0 u.subs su ∧ VS w0 fb w' (l ++ [⟨t, i + 1, acc⟩]) v := by
  have hlt : i < t.subs.length := by
    rcases Nat.lt_or_ge i t.subs.length with h9 | h9
    · exact h9
    · rw [List.getElem?_eq_none h9] at hu; cases hu
  obtain ⟨g, c, sv, pv, rfl, hc1, hc2, hgf, n5, c5, c6, hf, ha, hl, hz⟩ := h.last
  obtain ⟨sa, sc, rfl, hs1, hs2⟩ := ha.form
  unfold maxLen at hs2
  obtain ⟨ga, oa, su, e1, nu, fu, au⟩ := ha.node i u hu
  cases e1
  obtain ⟨ua, uc, rfl, hu1, hu2⟩ := au.form
  obtain ⟨m0, m1, m2, m3, m4⟩ := nu.kept h.gb
  have hga : ga < w0.heap.size := block_lt nu.c0
  have NU0 := hide nu
  have hgal := block_lt m0
  have hg0 : w0.heap.size ≤ g := by
    obtain ⟨_, _, _, _, own, _⟩ := h.row
    exact (own.lt g rfl).1
  have hne : ga ≠ g := by omega
  have hbm := h.bump
  rw [show ((i + 1 : Nat) : Int) = (i : Int) + 1 from rfl] at hbm
  have HV := hide hbm
  clear hbm
  have HV0 := hide h
  have fc := h.c0
  have fl := h.lt
  have hgl := block_lt n5.c0
  have FU := hide fu
  have AU := hide au
  have hi0 : (i == t.subs.length) = false := by rw [beq_eq_false_iff_ne]; omega
  have hi1 : ((i : Int) == (t.subs.length : Int)) = false := by rw [beq_eq_false_iff_ne]; omega
  obtain ⟨k0, k1, k2, k3, k4⟩ := n5
  clear h hf ha hl nu fu au hu
  go_enter Tryz.func30, Tryz.ntmps30
  go_wp2_with fail
  go_region
  go_wp2_with fail
  go_region
  go_wp2_with fail
  obtain ⟨ws, hws⟩ : ∃ q, q = w.setCell ⟨g, l.length * 7 + 5, none⟩ (.int .i64 ((i : Int) + 1)) := ⟨_, rfl⟩
  rw [← hws]
  have VW : Hid (VS w0 fb ws (l ++ [⟨t, i + 1, acc⟩]) (.slice (some ⟨g, 0, none⟩) (l.length + 1) c)) := by rw [hws]; exact HV.out
  have szs : ws.heap.size = w.heap.size := by rw [hws]; simp [World.setCell]
  have S0 : Hid (ws.cell? ⟨g, l.length * 7 + 4, none⟩ = some (.slice (some ⟨ga, oa, none⟩) t.subs.length sc)) := by
    show _ = _
    rw [hws, World.cell?_setCell_other _ _ _ _ (by simp)]
    exact k4
  have S5 : Hid (ws.cell? ⟨g, l.length * 7 + 5, none⟩ = some (.int .i64 ((i : Int) + 1))) := by
    show _ = _
    rw [hws]
    exact World.cell?_setCell_same _ _ _ c5
  clear hws HV HV0 fc k0 k1 k2 k3 k4 c5 c6 hz m0 m1 m2 m3 m4
  have NU := fun (w' : World) (hg : ws.grownBy w' none) => NU0.out.kept (gb_trans VW.out.gb hg)
  obtain ⟨wq, hwq⟩ : ∃ q, q = (ws.alloc (.cells #[.int .i64 0, .string ⟨#[]⟩, .int .i64 0, .int .i64 0, .slice none 0 0] 24)).drew.drew := ⟨_, rfl⟩
  rw [← hwq]
  have GS : Hid (ws.grownBy wq none) := by rw [hwq]; exact gb_drew (gb_drew (gb_alloc (gb_refl _ none) _))
  have RQ : Hid (RB wq w.heap.size) := by rw [hwq]; exact ((RB.new' szs.symm).drew).drew
  clear hwq
  have HS : Hid (∀ w', ws.grownBy w' none → w'.cell? ⟨g, l.length * 7 + 4, none⟩ = some (.slice (some ⟨ga, oa, none⟩) t.subs.length sc) ∧ w'.cell? ⟨g, l.length * 7 + 5, none⟩ = some (.int .i64 ((i : Int) + 1)) ∧ Node5 w' ga (oa + i * 5) u (.slice ua u.subs.length uc)) := fun w' hg => ⟨gb_cell hg S0.out, gb_cell hg S5.out, NU w' hg⟩
  obtain ⟨_, _, _, _, _, r0, r1, r2, r3, r4, rz⟩ := RQ.out
  have rl := RQ.out.lt
  have hsub : (i : Int) + 1 - 1 = (i : Int) := by omega
  have hlt1 : (i : Int) < (t.subs.length : Int) := by omega
  have hlt2 : (i : Int) + 1 - 1 < (t.subs.length : Int) := by omega
  have hnn : ¬ ((i : Int) + 1 - 1 < 0) := by omega
  have hnn2 : (0 : Int) ≤ (i : Int) + 1 - 1 := by omega
  have hwr : IntKind.i64.wrap ((i : Int) + 1 - 1) = (i : Int) := by rw [IntKind.wrap_i64]; omega
  have hwr3 : IntKind.i64.wrap (i : Int) = (i : Int) := by rw [IntKind.wrap_i64]; omega
  have hwr2 : wrap64 ((i : Int) + 1 - 1) = (i : Int) := by unfold wrap64; omega
  refine wp_region_held_drew (S := (fun w' => w'.cell? ⟨g, l.length * 7 + 4, none⟩ = some (.slice (some ⟨ga, oa, none⟩) t.subs.length sc) ∧ w'.cell? ⟨g, l.length * 7 + 5, none⟩ = some (.int .i64 ((i : Int) + 1)) ∧ Node5 w' ga (oa + i * 5) u (.slice ua u.subs.length uc))) (by kernel_rfl) ?_ (fun hHeld => ?_)
  · exact HS.out _ (by repeat (first | with_reducible exact GS.out | with_reducible refine gb_put ?_ (by omega) _ _ | with_reducible refine gb_alloc ?_ _ | with_reducible refine gb_drewN ?_ _ | with_reducible refine gb_drew ?_))
  refine wpAnyH_take (i := 0) (v := .pointer (some ⟨g, l.length * 7, none⟩)) rfl (by kernel_rfl) (by kernel_rfl) (by kernel_rfl) (fun _ _ _ h => h) (Or.inl ⟨by kernel_rfl, fun w9 _ => by go_simp⟩) hHeld ?_
  simp only [Act.put, List.setIfInBounds_toArray]
  refine wpAnyH_take (i := 1) (v := .pointer (some ⟨g, l.length * 7, none⟩)) rfl (by kernel_rfl) (by kernel_rfl) (by kernel_rfl) (fun _ _ _ h => h) (Or.inl ⟨by kernel_rfl, fun w9 _ => by go_simp⟩) hHeld ?_
  simp only [Act.put]
  refine wpAnyH_take (i := 2) (v := .pointer (some ⟨g, l.length * 7, none⟩)) rfl (by kernel_rfl) (by kernel_rfl) (by kernel_rfl) (fun _ _ _ h => h) (Or.inl ⟨by kernel_rfl, fun w9 _ => by go_simp⟩) hHeld ?_
  simp only [Act.put]
  refine wpAnyH_take (i := 3) (v := .pointer (some ⟨g, l.length * 7 + 4, none⟩)) rfl (by kernel_rfl) (by kernel_rfl) (by kernel_rfl) (fun _ _ _ h => h) (Or.inl ⟨by kernel_rfl, fun w9 _ => by go_simp⟩) hHeld ?_
  simp only [Act.put]
  refine wpAnyH_take (i := 4) (v := .slice (some ⟨ga, oa, none⟩) t.subs.length sc) rfl (by kernel_rfl) (by kernel_rfl) (by kernel_rfl) (fun _ _ _ h => h) (Or.inl ⟨by kernel_rfl, by intro w9 hSw; obtain ⟨z4, z5, ⟨y0, y1, y2, y3, y4⟩⟩ := hSw; go_simp⟩) hHeld ?_
  simp only [Act.put]
  refine wpAnyH_take (i := 5) (v := .pointer (some ⟨g, l.length * 7, none⟩)) rfl (by kernel_rfl) (by kernel_rfl) (by kernel_rfl) (fun _ _ _ h => h) (Or.inl ⟨by kernel_rfl, fun w9 _ => by go_simp⟩) hHeld ?_
  simp only [Act.put]
  refine wpAnyH_take (i := 6) (v := .pointer (some ⟨g, l.length * 7, none⟩)) rfl (by kernel_rfl) (by kernel_rfl) (by kernel_rfl) (fun _ _ _ h => h) (Or.inl ⟨by kernel_rfl, fun w9 _ => by go_simp⟩) hHeld ?_
  simp only [Act.put]
  refine wpAnyH_take (i := 7) (v := .pointer (some ⟨g, l.length * 7 + 5, none⟩)) rfl (by kernel_rfl) (by kernel_rfl) (by kernel_rfl) (fun _ _ _ h => h) (Or.inl ⟨by kernel_rfl, fun w9 _ => by go_simp⟩) hHeld ?_
  simp only [Act.put]
  refine wpAnyH_take (i := 8) (v := .int .i64 ((i : Int) + 1)) rfl (by kernel_rfl) (by kernel_rfl) (by kernel_rfl) (fun _ _ _ h => h) (Or.inl ⟨by kernel_rfl, by intro w9 hSw; obtain ⟨z4, z5, ⟨y0, y1, y2, y3, y4⟩⟩ := hSw; go_simp⟩) hHeld ?_
  simp only [Act.put]
  refine wpAnyH_take (i := 9) (v := .int .i64 (i : Int)) rfl (by kernel_rfl) (by kernel_rfl) (by kernel_rfl) (fun _ _ _ h => h) (Or.inl ⟨by kernel_rfl, fun w9 _ => by go_simp⟩) hHeld ?_
  simp only [Act.put]
  refine wpAnyH_take (i := 10) (v := .pointer (some ⟨ga, oa + i * 5, none⟩)) rfl (by kernel_rfl) (by kernel_rfl) (by kernel_rfl) (fun _ _ _ h => h) (Or.inl ⟨by kernel_rfl, fun w9 _ => by go_simp⟩) hHeld ?_
  simp only [Act.put]
  refine wpAnyH_take (i := 11) (v := nodeV u (.slice ua u.subs.length uc)) rfl (by kernel_rfl) (by kernel_rfl) (by kernel_rfl) (fun _ _ _ h => h) (Or.inl ⟨by kernel_rfl, by intro w9 hSw; obtain ⟨z4, z5, ⟨y0, y1, y2, y3, y4⟩⟩ := hSw; go_simp⟩) hHeld ?_
  simp only [Act.put]
  refine wpAnyH_ready (rs := [12]) (by kernel_rfl) (by simp) ?_
  refine AllReadyH.cons rfl (fun KK hKK => ?_) AllReadyH.nil
  go_simp
  refine hKK.out _ _ ?_ (fun hHeld => ?_)
  · exact HS.out _ (by repeat (first | with_reducible exact GS.out | with_reducible refine gb_put ?_ (by omega) _ _ | with_reducible refine gb_alloc ?_ _ | with_reducible refine gb_drewN ?_ _ | with_reducible refine gb_drew ?_))
  clear hKK KK
  refine wpAnyH_ready (rs := [13]) (by kernel_rfl) (by simp) ?_
  refine AllReadyH.cons rfl (fun KK hKK => ?_) AllReadyH.nil
  go_simp
  refine hKK.out _ _ ?_ (fun hHeld => ?_)
  · exact hHeld
  clear hKK KK
  refine wpAnyH_done (by kernel_rfl) ?_ _
  clear hHeld
  go_wp2_with fail
  refine node2_ret Tryz.results30 rfl rfl (NB.drew (RB.five RQ.out)) rfl ?_
  exact ⟨.slice ua u.subs.length uc, rfl, FU.out, AU.out, VW.out.grown (by repeat (first | with_reducible exact GS.out | with_reducible refine gb_put ?_ (by omega) _ _ | with_reducible refine gb_alloc ?_ _ | with_reducible refine gb_drewN ?_ _ | with_reducible refine gb_drew ?_))⟩
end Go.Proofs.YtlkokcnbbihljaaGreatDoor

/- The program's levels: one more. -/
namespace Go.Proofs.YtlkokcnbbihljaaGreatDoor
open Go.RowKit

/-- A level is put behind the others, by an append, and the list is laid down again. m: all that the levels have lies below it. -/
theorem VS.push {w0 : World} {fb m : Nat} {w w1 : World} {l : List Lv} {v v' : Value} {t : T} {sv pv : Value} {svs pvs : List Value} (gb : w0.grownBy w none) (flo : w0.heap.size ≤ fb) (c0 : w.cell? ⟨fb, 0, none⟩ = some v) (z0 : w.frozen? ⟨fb, 0, none⟩ = false) (rne : v.ownBlock ≠ some fb)
    (h1 : svs.length = l.length) (h2 : pvs.length = l.length) (hm : m ≤ w.heap.size)
    (hp : ∀ (i : Nat) (lv : Lv) (sv pv : Value), l[i]? = some lv → svs[i]? = some sv → pvs[i]? = some pv → Fits lv.t ∧ AT w0 lv.t.subs sv ∧ LR w (fun k => Zone w0 fb v pvs i k ∧ k < m) lv.acc pv)
    (hvr : ∀ b, v.ownBlock = some b → w0.heap.size ≤ b ∧ b < m) (hfm : fb < m) (hpm : ∀ (j : Nat) (q : Value), pvs[j]? = some q → ∀ b, q.ownBlock = some b → b < m)
    (hf : Fits t) (ha : AT w0 t.subs sv) (hr : LR w (fun k => m ≤ k ∧ k < w.heap.size) [] pv)
    (own : w1.ownsRow w0.heap.size 97 7 v' (l.length + 1) (flatV l svs pvs ++ flatV [⟨t, 0, []⟩] [sv] [pv])) (hg : w.grownBy w1 v.ownBlock)
    (hat : v'.ownBlock = v.ownBlock ∨ v'.ownBlock = some w.heap.size) : VS w0 fb (w1.setCell ⟨fb, 0, none⟩ v') (l ++ [⟨t, 0, []⟩]) v' := by
  have hlt : fb < w.heap.size := block_lt c0
  have hw0m : w0.heap.size ≤ m := by omega
  have hne : v'.ownBlock ≠ some fb := by
    rcases hat with e | e
    · rw [e]; exact rne
    · rw [e]; simp; omega
  have hset : w1.grownBy (w1.setCell ⟨fb, 0, none⟩ v') (some fb) := gb_set (gb_refl w1 (some fb)) _ _
  have g1 : w0.grownBy w1 none := gb_own gb hg (fun b hb => (hvr b hb).1)
  have pvm : ∀ b, pv.ownBlock = some b → m ≤ b ∧ b < w.heap.size := by
    obtain ⟨_, _, _, hin, _⟩ := hr.own
    exact hin
  have hv'm : ∀ k, k < m → v.ownBlock ≠ some k → v'.ownBlock ≠ some k := fun k hk hv e => by
    rcases hat with e' | e'
    · exact hv (e' ▸ e)
    · rw [e'] at e; cases e; omega
  refine ⟨gb_put g1 flo _ _, flo, World.cell?_setCell_same _ _ _ (cell_far hg c0 (fun e => rne e.symm)), by rw [World.frozen?_setCell]; exact frozen_far hg hlt z0 (fun e => rne e.symm), hne, svs ++ [sv], pvs ++ [pv], by simp [h1], by simp [h2], ?_, fun i lv sv' pv' e1 e2 e3 => ?_⟩
  · rw [flatV_append _ _ _ _ _ _ h1 h2, List.length_append, List.length_singleton]
    exact own.kept hset (by
      cases hv : v'.ownBlock with
      | none => exact .inl rfl
      | some b => exact .inr (fun e => hne (hv.trans e)))
  · have hother : ∀ (i : Nat) (k : Nat), k < m → (∀ (j : Nat) (q : Value), pvs[j]? = some q → j ≠ i → q.ownBlock ≠ some k) → ∀ (j : Nat) (q : Value), (pvs ++ [pv])[j]? = some q → j ≠ i → q.ownBlock ≠ some k := by
      intro i k hk hz j q hq hji
      rcases Nat.lt_or_ge j pvs.length with hj | hj
      · rw [List.getElem?_append_left hj] at hq
        exact hz j q hq hji
      · rw [List.getElem?_append_right hj] at hq
        have : j - pvs.length = 0 := by
          rcases Nat.eq_zero_or_pos (j - pvs.length) with h9 | h9
          · exact h9
          · rw [List.getElem?_eq_none (by simp; omega)] at hq; cases hq
        rw [this] at hq
        cases hq
        intro e
        have := (pvm k e).1
        omega
    rcases Nat.lt_or_ge i l.length with hi | hi
    · rw [List.getElem?_append_left hi] at e1
      rw [List.getElem?_append_left (by omega)] at e2 e3
      obtain ⟨q1, q2, q3⟩ := hp i lv sv' pv' e1 e2 e3
      refine ⟨q1, q2, ?_⟩
      have q4 := q3.kept hg (fun b hb hz => hz.1.2.2.1 hb)
      have q5 := q4.kept hset (fun b hb hz => by cases hb; exact hz.1.2.1 rfl)
      exact q5.mono (fun k hk => ⟨hk.1.1, hk.1.2.1, hv'm k hk.2 hk.1.2.2.1, hother i k hk.2 hk.1.2.2.2⟩)
    · rw [List.getElem?_append_right hi] at e1
      rw [List.getElem?_append_right (by omega)] at e2 e3
      have hi0 : i = l.length := by
        rcases Nat.lt_or_ge (i - l.length) 1 with h9 | h9
        · omega
        · rw [List.getElem?_eq_none (by simpa using h9)] at e1; cases e1
      subst hi0
      rw [h1, Nat.sub_self] at e2
      rw [h2, Nat.sub_self] at e3
      rw [Nat.sub_self] at e1
      cases e1
      cases e2
      cases e3
      refine ⟨hf, ha, ?_⟩
      have q4 := hr.kept hg (fun b hb hz => by have := (hvr b hb).2; have := hz.1; omega)
      have q5 := q4.kept hset (fun b hb hz => by cases hb; have := hz.1; omega)
      refine q5.mono (fun k hk => ⟨by omega, by have := hk.1; omega, fun e => ?_, fun j q hq hji e => ?_⟩)
      · rcases hat with e' | e'
        · have := (hvr k (e' ▸ e)).2; have := hk.1; omega
        · rw [e'] at e; cases e; have := hk.2; omega
      · rcases Nat.lt_or_ge j pvs.length with hj | hj
        · rw [List.getElem?_append_left hj] at hq
          have := hpm j q hq k e
          have := hk.1
          omega
        · rw [List.getElem?_append_right hj] at hq
          have : j - pvs.length = 0 := by
            rcases Nat.eq_zero_or_pos (j - pvs.length) with h9 | h9
            · exact h9
            · rw [List.getElem?_eq_none (by simp; omega)] at hq; cases hq
          omega
theorem Tryz.infoLevel : (Tryz.prog.info? 97).map (fun i => (i.zero, i.size, i.bytes)) = some (some (.agg #[.int .i64 0, .string ⟨#[]⟩, .int .i64 0, .int .i64 0, .slice none 0 0, .int .i64 0, .slice none 0 0]), 7, 96) := by kernel_rfl
/-- 'append' of one level to the list, at a step of a region that draws its order. -/
theorem step_appV {ops : Array Oper} {o : Oper} {a : Act} {w : World} {K : Act → World → Prop} {Q : Exit → Act → World → Prop} {E : Prop} (hgd : o.guard = none) (s x : Operand)
    (ho : o.op = .call { callee := .builtin .append, args := #[s, x], argTypes := #[63, 63] })
    {w0 : World} {l : List Lv} {v : Value} {g : Nat} {t : T} {sv pv : Value} {svs pvs : List Value} (hs : a.eval s = v) (hx : a.eval x = .slice (some ⟨g, 0, none⟩) 1 1) (own : w.ownsRow w0.heap.size 97 7 v l.length (flatV l svs pvs)) (hlen : l.length ≤ 20000) (hsz : w0.heap.size ≤ w.heap.size)
    (h1 : sv.oneCell' = true) (h2 : pv.oneCell' = true)
    (hc : ∀ (j : Nat) (u : Value), (flatV [⟨t, 0, []⟩] [sv] [pv])[j]? = some u → w.cell? ⟨g, j, none⟩ = some u)
    (k : ∀ g' c' w1, w1.ownsRow w0.heap.size 97 7 (.slice (some ⟨g', 0, none⟩) (l.length + 1) c') (l.length + 1) (flatV l svs pvs ++ flatV [⟨t, 0, []⟩] [sv] [pv]) → w.grownBy w1 v.ownBlock →
      ((Value.slice (some ⟨g', 0, none⟩) (l.length + 1) c').ownBlock = v.ownBlock ∨ (Value.slice (some ⟨g', 0, none⟩) (l.length + 1) c').ownBlock = some w.heap.size) → K (a.put o.dst (.slice (some ⟨g', 0, none⟩) (l.length + 1) c')) w1) :
    if Region.wanted o (yielded ops a.tmps) = true then Oper.wp Tryz.prog o a w K Q else E := by
  have hw : Region.wanted o (yielded ops a.tmps) = true := by simp [Region.wanted, hgd]
  rw [if_pos hw]
  obtain ⟨i0, hi0, hz0, hz1, hz2⟩ := info_parts Tryz.infoLevel
  obtain ⟨v', w', hrun, hown, hg, _, hat⟩ := run_append_own_at (P := Tryz.prog) w w0.heap.size 63 o.type 97 i0 _ 7 96 Tryz.underlying63 hi0 hz0 hz1 hz2 rfl (by decide) v l.length (flatV l svs pvs) own ⟨g, 0, none⟩ 1 1 (flatV [⟨t, 0, []⟩] [sv] [pv])
    rfl (fun j u hu => by
      have := hc j u hu
      unfold Addr.add
      split
      · rename_i h9; subst h9; exact this
      · simpa using this) (fun u hu => by
      simp [flatV] at hu
      rcases hu with rfl | rfl | rfl | rfl | rfl | rfl | rfl
      · rfl
      · rfl
      · rfl
      · rfl
      · exact h1
      · rfl
      · exact h2) (by unfold maxLen; omega) (by omega) hsz
  obtain ⟨g', c', rfl⟩ : ∃ g' c', v' = .slice (some ⟨g', 0, none⟩) (l.length + 1) c' := by
    rcases hown.2 with ⟨_, h⟩ | ⟨g', c', _, h, _⟩
    · omega
    · exact ⟨g', c', h⟩
  unfold Oper.wp execOp
  simp only [ho, resolve, invoke, builtin, Sem.run_bind, Sem.run_pure, Result.andThen_ok, List.map_toArray, List.map_cons, List.map_nil, hs, hx, hrun]
  exact k g' c' w' hown hg hat
end Go.Proofs.YtlkokcnbbihljaaGreatDoor
