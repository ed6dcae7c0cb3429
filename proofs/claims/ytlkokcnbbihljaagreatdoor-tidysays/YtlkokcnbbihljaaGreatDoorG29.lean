/- The program's levels: open. -/
import Derived.Test.YtlkokcnbbihljaaGreatDoorG28
import Derived.Laws.MakeOwn
namespace Go.Proofs.YtlkokcnbbihljaaGreatDoor
open Go.RowKit

/-- The levels in memory, all that they have below m. -/
structure VM (w0 : World) (fb m : Nat) (w : World) (l : List Lv) (v : Value) (svs pvs : List Value) : Prop where
  gb : w0.grownBy w none
  flo : w0.heap.size ≤ fb
  c0 : w.cell? ⟨fb, 0, none⟩ = some v
  z0 : w.frozen? ⟨fb, 0, none⟩ = false
  rne : v.ownBlock ≠ some fb
  h1 : svs.length = l.length
  h2 : pvs.length = l.length
  hm : m ≤ w.heap.size
  own : w.ownsRow w0.heap.size 97 7 v l.length (flatV l svs pvs)
  hp : ∀ (i : Nat) (lv : Lv) (sv pv : Value), l[i]? = some lv → svs[i]? = some sv → pvs[i]? = some pv → Fits lv.t ∧ AT w0 lv.t.subs sv ∧ LR w (fun k => Zone w0 fb v pvs i k ∧ k < m) lv.acc pv
  hvr : ∀ b, v.ownBlock = some b → w0.heap.size ≤ b ∧ b < m
  hfm : fb < m
  hpm : ∀ (j : Nat) (q : Value), pvs[j]? = some q → ∀ b, q.ownBlock = some b → b < m
theorem VS.vm {w0 : World} {fb : Nat} {we : World} {l : List Lv} {v : Value} (h : VS w0 fb we l v) : ∃ svs pvs, ∀ w, we.grownBy w none → VM w0 fb we.heap.size w l v svs pvs := by
  have hh := h
  obtain ⟨svs, pvs, h1, h2, own, hp⟩ := h.row
  refine ⟨svs, pvs, fun w hg => ?_⟩
  have hk := hh.grown hg
  refine ⟨hk.gb, hk.flo, hk.c0, hk.z0, hk.rne, h1, h2, hg.size, own.kept hg ?_, fun i lv sv pv e1 e2 e3 => ?_, fun b hb => own.lt b hb, hh.lt, fun j q hq b hb => ?_⟩
  · cases hv : v.ownBlock with
    | none => exact .inl rfl
    | some b => exact .inr (by simp)
  · obtain ⟨q1, q2, q3⟩ := hp i lv sv pv e1 e2 e3
    exact ⟨q1, q2, q3.bounded.kept hg (fun _ hk => by cases hk)⟩
  · have hj : j < pvs.length := by
      rcases Nat.lt_or_ge j pvs.length with h9 | h9
      · exact h9
      · rw [List.getElem?_eq_none h9] at hq; cases hq
    obtain ⟨lv, hlv⟩ : ∃ lv, l[j]? = some lv := ⟨_, List.getElem?_eq_getElem (by omega)⟩
    obtain ⟨sv, hsv⟩ : ∃ sv, svs[j]? = some sv := ⟨_, List.getElem?_eq_getElem (by omega)⟩
    obtain ⟨_, _, q3⟩ := hp j lv sv q hlv hsv hq
    obtain ⟨_, _, qo, _⟩ := q3.own
    exact (qo.lt b hb).2
/-- 'append' of one level, and the levels behind it. -/
theorem step_open {ops : Array Oper} {o : Oper} {a : Act} {w : World} {K : Act → World → Prop} {Q : Exit → Act → World → Prop} {E : Prop} (hgd : o.guard = none) (s x : Operand)
    (ho : o.op = .call { callee := .builtin .append, args := #[s, x], argTypes := #[63, 63] })
    {w0 : World} {fb m : Nat} {l : List Lv} {v : Value} {g : Nat} {t : T} {sv pv : Value} {svs pvs : List Value} (hs : a.eval s = v) (hx : a.eval x = .slice (some ⟨g, 0, none⟩) 1 1) (hl : VM w0 fb m w l v svs pvs) (hlen : l.length ≤ 20000)
    (hf : Fits t) (ha : AT w0 t.subs sv) (hr : LR w (fun k => m ≤ k ∧ k < w.heap.size) [] pv)
    (hc : ∀ (j : Nat) (u : Value), (flatV [⟨t, 0, []⟩] [sv] [pv])[j]? = some u → w.cell? ⟨g, j, none⟩ = some u)
    (k : ∀ g' c' w1, VS w0 fb (w1.setCell ⟨fb, 0, none⟩ (.slice (some ⟨g', 0, none⟩) (l.length + 1) c')) (l ++ [⟨t, 0, []⟩]) (.slice (some ⟨g', 0, none⟩) (l.length + 1) c') → w1.cell? ⟨fb, 0, none⟩ = some v → w1.frozen? ⟨fb, 0, none⟩ = false → K (a.put o.dst (.slice (some ⟨g', 0, none⟩) (l.length + 1) c')) w1) :
    if Region.wanted o (yielded ops a.tmps) = true then Oper.wp Tryz.prog o a w K Q else E := by
  have o1 : sv.oneCell' = true := by obtain ⟨a9, c9, e9, _, _⟩ := ha.form; rw [e9]; rfl
  have o2 : pv.oneCell' = true := by obtain ⟨a9, c9, rfl⟩ := hr.form; rfl
  refine step_appV hgd s x ho hs hx hl.own hlen hl.gb.size o1 o2 hc (fun g' c' w1 hown hg hat => k g' c' w1 ?_ ?_ ?_)
  · exact VS.push hl.gb hl.flo hl.c0 hl.z0 hl.rne hl.h1 hl.h2 hl.hm hl.hp hl.hvr hl.hfm hl.hpm hf ha hr hown hg hat
  · exact cell_far hg hl.c0 (fun e => hl.rne e.symm)
  · exact frozen_far hg (block_lt hl.c0) hl.z0 (fun e => hl.rne e.symm)
theorem level_cells (w : World) (ty : TypeId) (kd : Int) (x : List UInt8) (m p : Int) (ls : List T) {sv pv : Value} : ∀ (j : Nat) (u : Value), (flatV [⟨T.mk kd x m p ls, 0, []⟩] [sv] [pv])[j]? = some u → (w.alloc (.cells #[.int .i64 kd, .string ⟨x.toArray⟩, .int .i64 m, .int .i64 p, sv, .int .i64 0, pv] ty)).cell? ⟨w.heap.size, j, none⟩ = some u := by
  intro j u hu
  rw [World.cell?_alloc_at _ _ _ _ rfl]
  simpa [flatV, T.kind, T.name, T.num, T.at'] using hu
theorem lr_made (w : World) (cur : Array Value) (cap m : Nat) (hm : cap ≤ maxLen) (hs : cur.size = cap * 5) (h : m ≤ w.heap.size) : LR (w.alloc (.cells cur 24)) (fun k => m ≤ k ∧ k < w.heap.size + 1) [] (.slice (some ⟨w.heap.size, 0, none⟩) 0 cap) :=
  .mk _ _ _ [] rfl (World.ownsRow_made w cur cap (Nat.zero_le _) hm hs) (fun b hb => by cases hb; exact ⟨h, Nat.lt_succ_self _⟩) (fun i t sv h1 => by simp at h1)
theorem lr_made' (w : World) (cur : Array Value) (cap m g : Nat) (hm : cap ≤ maxLen) (hs : cur.size = cap * 5) (h : m ≤ w.heap.size) (hg : g = w.heap.size) : LR (w.alloc (.cells cur 24)) (fun k => m ≤ k ∧ k < w.heap.size + 1) [] (.slice (some ⟨g, 0, none⟩) 0 cap) := by
  subst hg
  exact lr_made w cur cap m hm hs h
set_option maxRecDepth 1000000 in
set_option maxHeartbeats 2000000 in
theorem open_any (w0 : World) (fb : Nat) (w : World) (l : List Lv) (v : Value) (t : T) (sv : Value) (h : VS w0 fb w l v) (hlen : l.length ≤ 20000) (hf : Fits t) (ha : AT w0 t.subs sv) (hls : t.subs.length ≤ 3000) :
    Calls Tryz.prog 29 #[.pointer (some ⟨fb, 0, none⟩), nodeV t sv] w fun e w' => ∃ v', e = .returned (.tuple #[]) ∧ VS w0 fb w' (l ++ [⟨t, 0, []⟩]) v' := by
  obtain ⟨sa, sc, rfl, hs1, hs2⟩ := ha.form
  unfold maxLen at hs2
  obtain ⟨svs, pvs, hvm⟩ := h.vm
  have HV := hide hvm
  have HF := hide hf
  have HA := hide ha
  have c0 := h.c0
  have z0 := h.z0
  have hlt := h.lt
  clear h hf ha hvm
  obtain ⟨kd, x, m, p, ls⟩ := t
  change ls.length ≤ sc at hs1
  change ls.length ≤ 3000 at hls
  obtain ⟨i0, hi0, hz0, hz1, hz2⟩ := info_parts Tryz.infoNode
  have hmk : ∀ w', (Instr.makeSlice 22 (.int .i64 0) (.int .i64 (ls.length : Int))).run Tryz.prog w' = .ok (.slice (some ⟨w'.heap.size, 0, none⟩) 0 ls.length) (w'.alloc (.cells (madeCells #[.int .i64 0, .string ⟨#[]⟩, .int .i64 0, .int .i64 0, .slice none 0 0] (ls.length * 5)) 24)) := fun w' => by
    have := run_make (P := Tryz.prog) (w := w') 22 24 i0 _ Tryz.underlying22 hi0 hz0 .i64 .i64 0 (ls.length : Int) (by omega) (by omega) (by rw [hz2]; omega) (by omega)
    rw [hz1] at this
    simpa [Value.cells] using this
  have hmz : (madeCells #[.int .i64 0, .string ⟨#[]⟩, .int .i64 0, .int .i64 0, .slice none 0 0] (ls.length * 5)).size = ls.length * 5 := by simp [madeCells]
  clear hi0 hz0 hz1 hz2
  generalize madeCells #[.int .i64 0, .string ⟨#[]⟩, .int .i64 0, .int .i64 0, .slice none 0 0] (ls.length * 5) = mc at *
  change Calls Tryz.prog 29 #[.pointer (some ⟨fb, 0, none⟩), .agg #[.int .i64 kd, .string ⟨x.toArray⟩, .int .i64 m, .int .i64 p, .slice sa ls.length sc]] w _
  have f1 := fun o => gb_cell (World.grownBy_alloc w o none) c0
  have f2 := fun o o2 => gb_cell (gb_alloc (World.grownBy_alloc w o none) o2) c0
  have f3 := fun o o2 o3 => gb_cell (gb_alloc (gb_alloc (World.grownBy_alloc w o none) o2) o3) c0
  go_enter Tryz.func29, Tryz.ntmps29
  go_wp2_with fail
  go_region_law (focus (
    refine step_open rfl (.tmp 8) (.tmp 15) rfl (w0 := w0) (fb := fb) (l := l) (v := v) (t := .mk kd x m p ls) (sv := .slice sa ls.length sc) (by simp [Act.eval]) (by simp [Act.eval]) (HV.out _ (by repeat (first | with_reducible exact gb_refl w none | with_reducible refine gb_put ?_ (by omega) _ _ | with_reducible refine gb_alloc ?_ _ | with_reducible refine gb_drewN ?_ _ | with_reducible refine gb_drew ?_))) hlen HF.out HA.out ?_ (level_cells _ _ _ _ _ _ _) ?_
    · exact ((lr_made' _ mc ls.length w.heap.size (w.heap.size + 1) (by unfold maxLen; omega) hmz (by simp) (by simp)).kept (gb_drew (gb_alloc (gb_refl _ none) _)) (fun _ hk => by cases hk)).mono (fun k hk => ⟨hk.1, by have := hk.2; simp at this ⊢; omega⟩)
    intro g1 n1 w1 V1 cc zz))
  all_goals
    go_wp2
    go_end0
    exact ⟨_, rfl, V1⟩
end Go.Proofs.YtlkokcnbbihljaaGreatDoor

/- The program's levels: one less. -/
namespace Go.Proofs.YtlkokcnbbihljaaGreatDoor
open Go.RowKit

theorem VM.vs {w0 : World} {fb m : Nat} {w : World} {l : List Lv} {v : Value} {svs pvs : List Value} (h : VM w0 fb m w l v svs pvs) : VS w0 fb w l v :=
  ⟨h.gb, h.flo, h.c0, h.z0, h.rne, svs, pvs, h.h1, h.h2, h.own, fun i lv sv pv e1 e2 e3 => ⟨(h.hp i lv sv pv e1 e2 e3).1, (h.hp i lv sv pv e1 e2 e3).2.1, (h.hp i lv sv pv e1 e2 e3).2.2.mono (fun _ hk => hk.1)⟩⟩
theorem VM.grown {w0 : World} {fb m : Nat} {w w' : World} {l : List Lv} {v : Value} {svs pvs : List Value} (h : VM w0 fb m w l v svs pvs) (hg : w.grownBy w' none) : VM w0 fb m w' l v svs pvs := by
  refine ⟨gb_trans h.gb hg, h.flo, gb_cell hg h.c0, frozen_far hg (block_lt h.c0) h.z0 (by simp), h.rne, h.h1, h.h2, Nat.le_trans h.hm hg.size, h.own.kept hg ?_, fun i lv sv pv e1 e2 e3 => ?_, h.hvr, h.hfm, h.hpm⟩
  · cases hv : v.ownBlock with
    | none => exact .inl rfl
    | some b => exact .inr (by simp)
  · obtain ⟨q1, q2, q3⟩ := h.hp i lv sv pv e1 e2 e3
    exact ⟨q1, q2, q3.kept hg (fun _ hk => by cases hk)⟩
/-- Rows that are no level's, nor the folder's. -/
def Apart (w0 : World) (fb g : Nat) (pvs : List Value) : Nat → Prop := fun k => w0.heap.size ≤ k ∧ k ≠ fb ∧ k ≠ g ∧ ∀ (j : Nat) (q : Value), pvs[j]? = some q → q.ownBlock ≠ some k
/-- The last level is taken off: what it has lies apart from all others. -/
theorem VS.pop {w0 : World} {fb : Nat} {w : World} {l : List Lv} {v : Value} {t : T} {i : Nat} {acc : List T} (h : VS w0 fb w (l ++ [⟨t, i, acc⟩]) v) : ∃ g c sv pv svs pvs, v = .slice (some ⟨g, 0, none⟩) (l.length + 1) c ∧ l.length + 1 ≤ c ∧ c ≤ 9223372036854775807 ∧ g ≠ fb ∧ w0.heap.size ≤ g ∧
    Node5 w g (l.length * 7) t sv ∧ w.cell? ⟨g, l.length * 7 + 6, none⟩ = some pv ∧ Fits t ∧ AT w0 t.subs sv ∧
    VM w0 fb w.heap.size (w.setCell ⟨fb, 0, none⟩ (.slice (some ⟨g, 0, none⟩) l.length c)) l (.slice (some ⟨g, 0, none⟩) l.length c) svs pvs ∧
    LR (w.setCell ⟨fb, 0, none⟩ (.slice (some ⟨g, 0, none⟩) l.length c)) (fun k => Apart w0 fb g pvs k ∧ k < w.heap.size) acc pv := by
  obtain ⟨svs0, pvs0, h1, h2, own, hp⟩ := h.row
  rw [List.length_append, List.length_singleton] at h1 h2 own
  obtain ⟨svs, sv, rfl, h1'⟩ := snoc_of_len svs0 _ h1
  obtain ⟨pvs, pv, rfl, h2'⟩ := snoc_of_len pvs0 _ h2
  have own0 := own
  rcases id own.2 with ⟨_, h9⟩ | ⟨g, c, cur, rfl, hb, hh, hc1, hc2, hsz, htk⟩
  · omega
  have key : ∀ j, j < 7 → w.cell? ⟨g, l.length * 7 + j, none⟩ = [Value.int .i64 t.kind, .string ⟨t.name.toArray⟩, .int .i64 t.num, .int .i64 t.at', sv, .int .i64 i, pv][j]? := fun j hj => (own.cellAt (l.length * 7 + j) (by omega)).trans (flatV_snoc_get l svs pvs ⟨t, i, acc⟩ sv pv h1' h2' j)
  obtain ⟨q1, q2, q3⟩ := hp l.length ⟨t, i, acc⟩ sv pv (by simp) (by rw [← h1']; simp) (by rw [← h2']; simp)
  have hgj : g ≠ fb := fun e => h.rne (by rw [e]; rfl)
  have hset : w.grownBy (w.setCell ⟨fb, 0, none⟩ (.slice (some ⟨g, 0, none⟩) l.length c)) (some fb) := gb_set (gb_refl w (some fb)) _ _
  have hgl : g < w.heap.size := (own.lt g rfl).2
  have pin : ∀ (j : Nat) (q : Value), pvs[j]? = some q → j ≠ l.length ∧ (pvs ++ [pv])[j]? = some q := by
    intro j q hq
    have hj : j < pvs.length := by
      rcases Nat.lt_or_ge j pvs.length with h9 | h9
      · exact h9
      · rw [List.getElem?_eq_none h9] at hq; cases hq
    exact ⟨by omega, by rw [List.getElem?_append_left hj]; exact hq⟩
  have lrp : ∀ (j : Nat) (q : Value), pvs[j]? = some q → ∃ lv sv, l[j]? = some lv ∧ svs[j]? = some sv ∧ Fits lv.t ∧ AT w0 lv.t.subs sv ∧ LR w (Zone w0 fb (.slice (some ⟨g, 0, none⟩) (l.length + 1) c) (pvs ++ [pv]) j) lv.acc q := by
    intro j q hq
    have hj : j < pvs.length := by
      rcases Nat.lt_or_ge j pvs.length with h9 | h9
      · exact h9
      · rw [List.getElem?_eq_none h9] at hq; cases hq
    obtain ⟨lv, hlv⟩ : ∃ lv, l[j]? = some lv := ⟨_, List.getElem?_eq_getElem (by omega)⟩
    obtain ⟨sv9, hsv⟩ : ∃ sv9, svs[j]? = some sv9 := ⟨_, List.getElem?_eq_getElem (by omega)⟩
    have := hp j lv sv9 q (by rw [List.getElem?_append_left (by omega)]; exact hlv) (by rw [List.getElem?_append_left (by omega)]; exact hsv) (pin j q hq).2
    exact ⟨lv, sv9, hlv, hsv, this⟩
  unfold maxLen at hc2
  refine ⟨g, c, sv, pv, svs, pvs, rfl, hc1, by omega, hgj, hb, ⟨key 0 (by omega), key 1 (by omega), key 2 (by omega), key 3 (by omega), key 4 (by omega)⟩, key 6 (by omega), q1, q2, ⟨?_, h.flo, ?_, ?_, ?_, h1', h2', ?_, ?_, ?_, ?_, h.lt, ?_⟩, ?_⟩
  · exact gb_put h.gb h.flo _ _
  · exact World.cell?_setCell_same _ _ _ h.c0
  · rw [World.frozen?_setCell]; exact h.z0
  · intro e; cases e; exact hgj rfl
  · simp [World.setCell]
  · have o2 : w.ownsRow w0.heap.size 97 7 (.slice (some ⟨g, 0, none⟩) l.length c) l.length (flatV l svs pvs) := by
      refine ⟨flatV_length l svs pvs h1' h2', .inr ⟨g, c, cur, rfl, hb, hh, by omega, by unfold maxLen; omega, hsz, ?_⟩⟩
      have e1 := congrArg (List.take (l.length * 7)) htk
      have e2 : ∀ X : List Value, List.take (l.length * 7) (flatV l svs pvs ++ X) = flatV l svs pvs := fun X => by
        rw [← flatV_length l svs pvs h1' h2', List.take_append_of_le_length (Nat.le_refl _), List.take_length]
      rw [List.take_take, Nat.min_eq_left (by omega), flatV_append _ _ _ _ _ _ h1' h2', e2] at e1
      exact e1
    exact o2.kept hset (.inr (fun e => by cases e; exact hgj rfl))
  · intro j lv sv9 q e1 e2 e3
    obtain ⟨lv', sv', f1, f2, r1, r2, r3⟩ := lrp j q e3
    rw [f1] at e1
    rw [f2] at e2
    cases e1
    cases e2
    refine ⟨r1, r2, ((r3.bounded).kept hset (fun b hb9 hz => by cases hb9; exact hz.1.2.1 rfl)).mono (fun k hk => ⟨⟨hk.1.1, hk.1.2.1, hk.1.2.2.1, fun j' q' hq' hjj => hk.1.2.2.2 j' q' (pin j' q' hq').2 hjj⟩, hk.2⟩)⟩
  · intro b hb9
    cases hb9
    exact ⟨hb, hgl⟩
  · intro j q hq b hb9
    obtain ⟨lv', sv', f1, f2, r1, r2, r3⟩ := lrp j q hq
    obtain ⟨_, _, qo, _⟩ := r3.own
    exact (qo.lt b hb9).2
  · exact (q3.bounded.kept hset (fun b hb9 hz => by cases hb9; exact hz.1.2.1 rfl)).mono (fun k hk => ⟨⟨hk.1.1, hk.1.2.1, fun e => hk.1.2.2.1 (by rw [e]; rfl), fun j q hq => hk.1.2.2.2 j q (pin j q hq).2 (pin j q hq).1⟩, hk.2⟩)
end Go.Proofs.YtlkokcnbbihljaaGreatDoor
