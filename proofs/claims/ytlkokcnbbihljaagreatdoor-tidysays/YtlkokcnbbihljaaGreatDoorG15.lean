/- The program's judge of shapes: its state, and how a further part is put down. -/
import Derived.Test.YtlkokcnbbihljaaGreatDoorG13
import Derived.Test.YtlkokcnbbihljaaGreatDoorG14
import Derived.Maps.AppendAt
namespace Go.Proofs.YtlkokcnbbihljaaGreatDoor
open Go.RowKit Go.Maps Go.WideMaps Go.WideElems

theorem own_block {w w' : World} {base n : Nat} {e : TypeId} {size : Nat} {v : Value} {xs : List Value} (h : w.ownsRow base e size v n xs) (hb : ∀ g, v.ownBlock = some g → w'.heap[g]? = w.heap[g]?) : w'.ownsRow base e size v n xs := by
  obtain ⟨hl, h⟩ := h
  rcases h with h | ⟨g, cap, cur, rfl, h1, h2, h3⟩
  · exact ⟨hl, .inl h⟩
  · exact ⟨hl, .inr ⟨g, cap, cur, rfl, h1, (hb g rfl).trans h2, h3⟩⟩
theorem map_block {P : Program} {k : TypeId} {R : Value → Option (DataW Unit × List MemPlace)} {w w' : World} {b n : Nat} {D : DataW Unit} (h : w.ownsMap P k R b n D) (hb : w'.heap[b]? = w.heap[b]?) : w'.ownsMap P k R b n D := by
  obtain ⟨es, clock, h1, h2⟩ := h
  exact ⟨es, clock, hb.trans h1, h2⟩
theorem map_row {P : Program} {k : TypeId} {R : Value → Option (DataW Unit × List MemPlace)} {w : World} {b n m : Nat} {D : DataW Unit} {base : Nat} {e : TypeId} {size : Nat} {v : Value} {xs : List Value} (h : w.ownsMap P k R b n D) (ho : w.ownsRow base e size v m xs) : v.ownBlock ≠ some b := by
  obtain ⟨es, clock, h1, _⟩ := h
  obtain ⟨_, h⟩ := ho
  rcases h with ⟨rfl, _⟩ | ⟨g, cap, cur, rfl, _, h2, _⟩
  · simp [Value.ownBlock]
  · intro e
    simp [Value.ownBlock] at e
    subst e
    rw [h1] at h2
    cases h2

/-- A judge in memory: jb its block, lb its lexicon, ob its operators; w0: the world of which it reads; l: the parts still to be looked at, v: their list. -/
structure JS (w0 : World) (jb lb ob : Nat) (w : World) (l : List (T × Rule)) (v : Value) : Prop where
  gb : w0.grownBy w none
  jlo : w0.heap.size ≤ jb
  c0 : w.cell? ⟨jb, 0, none⟩ = some (.map (some lb))
  c1 : w.cell? ⟨jb, 1, none⟩ = some (.map (some ob))
  c2 : w.cell? ⟨jb, 2, none⟩ = some v
  z2 : w.frozen? ⟨jb, 2, none⟩ = false
  lex : IsLex w lb
  ops : IsOps w ob
  lne : lb ≠ jb
  one : ob ≠ jb
  rne : v.ownBlock ≠ some jb
  row : ∃ svs rvs, svs.length = l.length ∧ rvs.length = l.length ∧ w.ownsRow w0.heap.size 83 6 v l.length (flatP l svs rvs) ∧
    ∀ (i : Nat) (p : T × Rule) (sv rv : Value), l[i]? = some p → svs[i]? = some sv → rvs[i]? = some rv → Fits p.1 ∧ AT w0 p.1.subs sv ∧ RV w jb (fun k => k ≠ jb ∧ v.ownBlock ≠ some k) p.2 rv
/-- What a step of the judge leaves as it was: all but its block and its list's row; the list is where it was, or in new memory. -/
structure JK (jb : Nat) (v : Value) (w w' : World) (v' : Value) : Prop where
  kb : KB (fun k => k ≠ jb ∧ v.ownBlock ≠ some k) w w'
  at' : v'.ownBlock = v.ownBlock ∨ ∀ b, v'.ownBlock = some b → w.heap.size ≤ b
section
variable {w0 : World} {jb lb ob : Nat} {w w' w1 w2 : World} {l : List (T × Rule)} {v v' v'' : Value}
theorem JS.lt (h : JS w0 jb lb ob w l v) : jb < w.heap.size := block_lt h.c0
theorem JK.refl (jb : Nat) (v : Value) (w : World) : JK jb v w w v := ⟨KB.refl _ _, .inl rfl⟩
theorem JK.trans (h1 : JK jb v w w1 v') (h2 : JK jb v' w1 w2 v'') : JK jb v w w2 v'' := by
  refine ⟨h1.kb.trans h2.kb (fun k hk hs => ⟨hs.1, fun e => ?_⟩), ?_⟩
  · rcases h1.at' with h | h
    · exact hs.2 (h ▸ e)
    · have := h k e
      omega
  · rcases h2.at' with h | h
    · rcases h1.at' with h' | h'
      · exact .inl (h.trans h')
      · exact .inr (fun b hb => h' b (h ▸ hb))
    · exact .inr (fun b hb => Nat.le_trans h1.kb.size (h b hb))
theorem JK.grown (h : w.grownBy w' none) : JK jb v w w' v := ⟨KB.of h (fun _ _ => by simp), .inl rfl⟩
/-- New memory, and nothing else. -/
theorem JS.grown (h : JS w0 jb lb ob w l v) (hg : w.grownBy w' none) : JS w0 jb lb ob w' l v where
  gb := gb_trans h.gb hg
  jlo := h.jlo
  c0 := gb_cell hg h.c0
  c1 := gb_cell hg h.c1
  c2 := gb_cell hg h.c2
  z2 := frozen_far hg h.lt h.z2 (by simp)
  lex := map_block h.lex (hg.block _ (World.ownsMap.lt h.lex) (by simp))
  ops := map_block h.ops (hg.block _ (World.ownsMap.lt h.ops) (by simp))
  lne := h.lne
  one := h.one
  rne := h.rne
  row := by
    obtain ⟨svs, rvs, h1, h2, own, hp⟩ := h.row
    refine ⟨svs, rvs, h1, h2, own_block own (fun g hgb => hg.block g (own.lt g hgb).2 (by simp)), fun i p sv rv e1 e2 e3 => ?_⟩
    obtain ⟨q1, q2, q3⟩ := hp i p sv rv e1 e2 e3
    exact ⟨q1, q2, q3.kept (KB.of hg (fun _ _ => by simp)) (fun _ _ hs => hs)⟩
theorem JS.room (h : JS w0 jb lb ob w l v) {b : Nat} (hb : v.ownBlock = some b) : w0.heap.size ≤ b ∧ b < w.heap.size := by
  obtain ⟨svs, rvs, h1, h2, own, hp⟩ := h.row
  exact own.lt b hb
/-- The list becomes another one, by an append, and is laid down again. -/
theorem JS.push {t : T} {r : Rule} {sv rv : Value} {svs rvs : List Value} (h : JS w0 jb lb ob w l v) (h1 : svs.length = l.length) (h2 : rvs.length = l.length)
    (hp : ∀ (i : Nat) (p : T × Rule) (sv rv : Value), l[i]? = some p → svs[i]? = some sv → rvs[i]? = some rv → Fits p.1 ∧ AT w0 p.1.subs sv ∧ RV w jb (fun k => k ≠ jb ∧ v.ownBlock ≠ some k) p.2 rv)
    (hf : Fits t) (ha : AT w0 t.subs sv) (hr : RV w jb (fun k => k ≠ jb ∧ v.ownBlock ≠ some k) r rv)
    (own : w1.ownsRow w0.heap.size 83 6 v' (l.length + 1) (flatP l svs rvs ++ flatP [(t, r)] [sv] [rv])) (hg : w.grownBy w1 v.ownBlock)
    (hat : v'.ownBlock = v.ownBlock ∨ v'.ownBlock = some w.heap.size) : JS w0 jb lb ob (w1.setCell ⟨jb, 2, none⟩ v') (l ++ [(t, r)]) v' ∧ JK jb v w (w1.setCell ⟨jb, 2, none⟩ v') v' := by
  have hlt := h.lt
  have hne : v'.ownBlock ≠ some jb := by
    rcases hat with e | e
    · rw [e]; exact h.rne
    · rw [e]; simp; omega
  have hkb1 : KB (fun k => v.ownBlock ≠ some k) w w1 := KB.of hg (fun k hk e => hk e.symm)
  have hset : KB (fun k => k ≠ jb) w1 (w1.setCell ⟨jb, 2, none⟩ v') := ⟨rfl, rfl, rfl, by simp [World.setCell], fun k _ hk => Below.heap_setCell _ _ _ _ (by simpa using hk)⟩
  have hkb : KB (fun k => k ≠ jb ∧ v.ownBlock ≠ some k) w (w1.setCell ⟨jb, 2, none⟩ v') :=
    ⟨hset.os.trans hkb1.os, hset.tape.trans hkb1.tape, hset.output.trans hkb1.output, Nat.le_trans hkb1.size hset.size, fun k hk hs => (hset.block k (Nat.lt_of_lt_of_le hk hkb1.size) hs.1).trans (hkb1.block k hk hs.2)⟩
  have hlv : v.ownBlock ≠ some lb := by
    obtain ⟨_, _, _, _, own, _⟩ := h.row
    exact map_row h.lex own
  have hov : v.ownBlock ≠ some ob := by
    obtain ⟨_, _, _, _, own, _⟩ := h.row
    exact map_row h.ops own
  have c01 : w1.cell? ⟨jb, 0, none⟩ = some (.map (some lb)) := cell_far hg h.c0 (fun e => h.rne e.symm)
  have c11 : w1.cell? ⟨jb, 1, none⟩ = some (.map (some ob)) := cell_far hg h.c1 (fun e => h.rne e.symm)
  have c21 : w1.cell? ⟨jb, 2, none⟩ = some v := cell_far hg h.c2 (fun e => h.rne e.symm)
  have hw0 : ∀ k, k < w0.heap.size → k ≠ jb ∧ v.ownBlock ≠ some k := fun k hk => ⟨by have := h.jlo; omega, fun e => by have := (h.room e).1; omega⟩
  refine ⟨⟨?_, h.jlo, ?_, ?_, ?_, ?_, ?_, ?_, h.lne, h.one, hne, ?_⟩, ⟨hkb, ?_⟩⟩
  · exact ⟨hkb.os.trans h.gb.os, hkb.tape.trans h.gb.tape, hkb.output.trans h.gb.output, Nat.le_trans h.gb.size hkb.size, fun k hk _ => (hkb.block k (Nat.lt_of_lt_of_le hk h.gb.size) (hw0 k hk)).trans (h.gb.block k hk (by simp))⟩
  · rw [World.cell?_setCell_other _ _ _ _ (by simp)]; exact c01
  · rw [World.cell?_setCell_other _ _ _ _ (by simp)]; exact c11
  · exact World.cell?_setCell_same _ _ _ c21
  · rw [World.frozen?_setCell]; exact frozen_far hg hlt h.z2 (fun e => h.rne e.symm)
  · exact map_block h.lex (hkb.block _ (World.ownsMap.lt h.lex) ⟨h.lne, hlv⟩)
  · exact map_block h.ops (hkb.block _ (World.ownsMap.lt h.ops) ⟨h.one, hov⟩)
  · refine ⟨svs ++ [sv], rvs ++ [rv], by simp [h1], by simp [h2], ?_, ?_⟩
    · rw [flatP_append _ _ _ _ _ _ h1 h2, List.length_append, List.length_singleton]
      exact own_block own (fun g hgb => hset.block g (own.lt g hgb).2 (fun e => hne (e ▸ hgb)))
    · intro i p sv' rv' e1 e2 e3
      have hS : ∀ k, k < w.heap.size → (k ≠ jb ∧ v.ownBlock ≠ some k) → (k ≠ jb ∧ v'.ownBlock ≠ some k) := fun k hk hs => ⟨hs.1, fun e => by
        rcases hat with e' | e'
        · exact hs.2 (e' ▸ e)
        · rw [e'] at e; simp at e; omega⟩
      rcases Nat.lt_or_ge i l.length with hi | hi
      · rw [List.getElem?_append_left hi] at e1
        rw [List.getElem?_append_left (by omega)] at e2 e3
        obtain ⟨q1, q2, q3⟩ := hp i p sv' rv' e1 e2 e3
        exact ⟨q1, q2, q3.kept hkb hS⟩
      · rw [List.getElem?_append_right hi] at e1
        rw [List.getElem?_append_right (by omega)] at e2 e3
        have hi0 : i = l.length := by
          rcases Nat.lt_or_ge (i - l.length) 1 with h9 | h9
          · omega
          · rw [List.getElem?_eq_none (by simpa using h9)] at e1; cases e1
        subst hi0
        simp [h1, h2] at e1 e2 e3
        subst e1 e2 e3
        exact ⟨hf, ha, hr.kept hkb hS⟩
  · rcases hat with e | e
    · exact .inl e
    · exact .inr (fun b hb => by rw [e] at hb; cases hb; exact Nat.le_refl _)
end
end Go.Proofs.YtlkokcnbbihljaaGreatDoor

/- The program's judge of shapes: put. -/
namespace Go.Proofs.YtlkokcnbbihljaaGreatDoor
open Go.RowKit Go.Maps Go.WideMaps Go.WideElems

theorem Tryz.infoPart : (Tryz.prog.info? 83).map (fun i => (i.zero, i.size, i.bytes)) = some (some (.agg #[.int .i64 0, .string ⟨#[]⟩, .int .i64 0, .int .i64 0, .slice none 0 0, .nilFunc]), 6, 72) := by kernel_rfl
theorem RV.form {w : World} {jb : Nat} {S : Nat → Prop} {r : Rule} {v : Value} (h : RV w jb S r v) : ∃ g fa ca, v = .func (.func g) fa ca := by cases h <;> exact ⟨_, _, _, rfl⟩
theorem func_one {w : World} {jb : Nat} {S : Nat → Prop} {r : Rule} {v : Value} (h : RV w jb S r v) : v.oneCell' = true := by cases h <;> rfl
theorem at_one {w : World} {l : List T} {v : Value} (h : AT w l v) : v.oneCell' = true := by cases h <;> rfl

/-- 'append' of one part to the list, at a step of a region that draws its order. -/
theorem step_appP {ops : Array Oper} {o : Oper} {a : Act} {w : World} {K : Act → World → Prop} {Q : Exit → Act → World → Prop} {E : Prop} (hgd : o.guard = none) (s x : Operand)
    (ho : o.op = .call { callee := .builtin .append, args := #[s, x], argTypes := #[77, 77] })
    {w0 : World} {jb lb ob : Nat} {l : List (T × Rule)} {v : Value} {g : Nat} {t : T} {r : Rule} {sv rv : Value} (hs : a.eval s = v) (hx : a.eval x = .slice (some ⟨g, 0, none⟩) 1 1) (hl : JS w0 jb lb ob w l v) (hlen : l.length ≤ 20000)
    (hf : Fits t) (ha : AT w0 t.subs sv) (hr : RV w jb (fun k => k ≠ jb ∧ v.ownBlock ≠ some k) r rv)
    (hc : ∀ (j : Nat) (u : Value), (flatP [(t, r)] [sv] [rv])[j]? = some u → w.cell? ⟨g, j, none⟩ = some u)
    (k : ∀ g' c' w1, JS w0 jb lb ob (w1.setCell ⟨jb, 2, none⟩ (.slice (some ⟨g', 0, none⟩) (l.length + 1) c')) (l ++ [(t, r)]) (.slice (some ⟨g', 0, none⟩) (l.length + 1) c') → JK jb v w (w1.setCell ⟨jb, 2, none⟩ (.slice (some ⟨g', 0, none⟩) (l.length + 1) c')) (.slice (some ⟨g', 0, none⟩) (l.length + 1) c') →
      w.grownBy w1 v.ownBlock → w1.cell? ⟨jb, 2, none⟩ = some v → w1.frozen? ⟨jb, 2, none⟩ = false → K (a.put o.dst (.slice (some ⟨g', 0, none⟩) (l.length + 1) c')) w1) :
    if Region.wanted o (yielded ops a.tmps) = true then Oper.wp Tryz.prog o a w K Q else E := by
  have hw : Region.wanted o (yielded ops a.tmps) = true := by simp [Region.wanted, hgd]
  rw [if_pos hw]
  obtain ⟨i0, hi0, hz0, hz1, hz2⟩ := info_parts Tryz.infoPart
  obtain ⟨svs, rvs, h1, h2, own, hp⟩ := hl.row
  obtain ⟨v', w', hrun, hown, hg, _, hat⟩ := run_append_own_at (P := Tryz.prog) w w0.heap.size 77 o.type 83 i0 _ 6 72 Tryz.underlying77 hi0 hz0 hz1 hz2 rfl (by decide) v l.length (flatP l svs rvs) own ⟨g, 0, none⟩ 1 1 (flatP [(t, r)] [sv] [rv])
    rfl (fun j u hu => by
      have := hc j u hu
      unfold Addr.add
      split
      · rename_i h9; subst h9; exact this
      · simpa using this) (fun u hu => by
      simp [flatP] at hu
      rcases hu with rfl | rfl | rfl | rfl | rfl | rfl
      · rfl
      · rfl
      · rfl
      · rfl
      · exact at_one ha
      · exact func_one hr) (by unfold maxLen; omega) (by omega) hl.gb.size
  obtain ⟨g', c', rfl⟩ : ∃ g' c', v' = .slice (some ⟨g', 0, none⟩) (l.length + 1) c' := by
    rcases hown.2 with ⟨_, h⟩ | ⟨g', c', _, h, _⟩
    · omega
    · exact ⟨g', c', h⟩
  unfold Oper.wp execOp
  simp only [ho, resolve, invoke, builtin, Sem.run_bind, Sem.run_pure, Result.andThen_ok, List.map_toArray, List.map_cons, List.map_nil, hs, hx, hrun]
  obtain ⟨q1, q2⟩ := hl.push h1 h2 hp hf ha hr hown hg hat
  exact k g' c' w' q1 q2 hg (cell_far hg hl.c2 (fun e => hl.rne e.symm)) (frozen_far hg hl.lt hl.z2 (fun e => hl.rne e.symm))

theorem part_cells (w : World) (ty : TypeId) (kd : Int) (x : List UInt8) (m p : Int) (ls : List T) (r : Rule) {sv rv : Value} : ∀ (j : Nat) (u : Value), (flatP [(T.mk kd x m p ls, r)] [sv] [rv])[j]? = some u → (w.alloc (.cells #[.int .i64 kd, .string ⟨x.toArray⟩, .int .i64 m, .int .i64 p, sv, rv] ty)).cell? ⟨w.heap.size, j, none⟩ = some u := by
  intro j u hu
  rw [World.cell?_alloc_at _ _ _ _ rfl]
  simpa [flatP, T.kind, T.name, T.num, T.at'] using hu
set_option maxRecDepth 1000000 in
set_option maxHeartbeats 2000000 in
theorem put_any (w0 : World) (jb lb ob : Nat) (w : World) (l : List (T × Rule)) (v : Value) (t : T) (r : Rule) (sv rv : Value) (h : JS w0 jb lb ob w l v) (hlen : l.length ≤ 20000) (hf : Fits t) (ha : AT w0 t.subs sv) (hr : RV w jb (fun k => k ≠ jb ∧ v.ownBlock ≠ some k) r rv) :
    Calls Tryz.prog 48 #[ptr jb, nodeV t sv, rv] w fun e w' => ∃ v', e = .returned (.tuple #[]) ∧ JS w0 jb lb ob w' (l ++ [(t, r)]) v' ∧ JK jb v w w' v' := by
  obtain ⟨sa, sc, rfl, hs1, hs2⟩ := ha.form
  obtain ⟨gn, fa, ca, rfl⟩ := hr.form
  have HJ := hide h
  have HF := hide hf
  have HA := hide ha
  have HR := hide hr
  have c2 := h.c2
  have z2 := h.z2
  have hlt := h.lt
  obtain ⟨kd, x, m, p, ls⟩ := t
  clear h hf ha hr
  change Calls Tryz.prog 48 #[ptr jb, .agg #[.int .i64 kd, .string ⟨x.toArray⟩, .int .i64 m, .int .i64 p, .slice sa ls.length sc], .func (.func gn) fa ca] w _
  go_enter Tryz.func48, Tryz.ntmps48
  go_wp2_with fail
  go_region_law (focus (
    refine step_appP rfl (.tmp 10) (.tmp 14) rfl (w0 := w0) (jb := jb) (lb := lb) (ob := ob) (l := l) (v := v) (t := .mk kd x m p ls) (r := r) (sv := .slice sa ls.length sc) (rv := .func (.func gn) fa ca) (by simp [Act.eval]) (by simp [Act.eval]) (HJ.out.grown (by repeat (first | with_reducible exact gb_refl w none | with_reducible refine gb_put ?_ (by omega) _ _ | with_reducible refine gb_alloc ?_ _ | with_reducible refine gb_drewN ?_ _ | with_reducible refine gb_drew ?_))) hlen HF.out HA.out (HR.out.kept (KB.of (row := none) (by repeat (first | with_reducible exact gb_refl w none | with_reducible refine gb_put ?_ (by omega) _ _ | with_reducible refine gb_alloc ?_ _ | with_reducible refine gb_drewN ?_ _ | with_reducible refine gb_drew ?_)) (fun _ _ => by simp)) (fun _ _ h => h)) (part_cells _ _ _ _ _ _ _ _) ?_
    intro g1 n1 w1 J1 K1 hg1 cc zz))
  all_goals
    go_wp2
    go_end0
    exact ⟨_, rfl, J1, JK.trans (JK.grown (by repeat (first | with_reducible exact gb_refl w none | with_reducible refine gb_put ?_ (by omega) _ _ | with_reducible refine gb_alloc ?_ _ | with_reducible refine gb_drewN ?_ _ | with_reducible refine gb_drew ?_))) K1⟩
end Go.Proofs.YtlkokcnbbihljaaGreatDoor
