/- The program's writer: what it holds in memory, and what a step of it leaves as it was. -/
import Derived.Test.YtapfecciakijhaaGreatDoorG02
import Derived.Test.YtapfecciakijhaaGreatDoorG08
import Derived.Lib.Builder
import Derived.Lib.AppendStr
import Derived.Lib.UnsafeStr
import Derived.Laws.Externs
import Derived.Test.YtapfecciakijhaaGreatDoorG03
namespace Go.Proofs.YtapfecciakijhaaGreatDoor
open Go.RowKit Go.Maps Go.WideMaps Go.WideElems

/-- How a word reads: a struct of one text. -/
def wordR (v : Value) : Option (DataW Unit × List MemPlace) := match v with
  | .agg a => match a.toList with
    | [.string s] => some (.lit (.string s.data.toList), [])
    | _ => none
  | _ => none
theorem wordR_inv {v : Value} {s : List UInt8} {ps : List MemPlace} (h : wordR v = some (.lit (.string s), ps)) : v = .agg #[.string ⟨s.toArray⟩] := by
  unfold wordR at h
  split at h
  · split at h
    · rename_i a _ s' e
      simp at h
      obtain ⟨rfl, -⟩ := h
      have : a = #[Value.string s'] := by rw [← Array.toList_inj, e]
      subst this
      simp
    · cases h
  · cases h
def wdsL : List (Int × List UInt8) := [(30, [84, 82, 85, 69]), (31, [70, 65, 76, 83, 69]), (32, [78, 73, 76]), (20, [78, 69, 87]), (21, [79, 85, 84]), (22, [71, 69, 84]), (23, [65, 83, 83, 69, 82, 84])]
def mapWds : DataW Unit := wdsL.foldl (fun m p => m.put (.int .i64 p.1) (.lit (.string p.2))) (.map [])
def IsWds (w : World) (b : Nat) : Prop := w.ownsMap Tryz.prog 3 wordR b 7 mapWds

abbrev WT : TypeId := 59
abbrev U8 : TypeId := 5
/-- The block in which what is written lies. -/
def rowB (w : World) (wb : Nat) : Option Nat := (w.cell? ⟨wb, 1, none⟩).bind Value.ownBlock

/-- A writer in memory: wb its block; w0: the world of which it reads; S: what is written; L: its level. -/
structure Wr (w0 : World) (wb : Nat) (w : World) (S : List UInt8) (L : Nat) : Prop where
  gb : w0.grownBy w none
  lo : w0.heap.size ≤ wb
  st : ∃ p v ob db, (p = .pointer none ∨ p = ptr wb) ∧ w.heap[wb]? = some (.cells #[p, v, .int .i64 L, .map (some ob), .map (some db)] WT (0, 0)) ∧ w.ownsRow w0.heap.size U8 1 v S.length (Lib.byteCells S) ∧ v.ownBlock ≠ some wb ∧ IsOps w ob ∧ IsWds w db ∧ ob ≠ wb ∧ db ≠ wb
/-- A block that the writer does not write into. -/
structure Fr (wb : Nat) (w : World) (b : Nat) : Prop where
  lt : b < w.heap.size
  ne : b ≠ wb
  row : rowB w wb ≠ some b
/-- What a step of the writer leaves as it was. -/
structure WK (wb : Nat) (w w' : World) : Prop where
  kb : KB (fun k => k ≠ wb ∧ rowB w wb ≠ some k) w w'
  at' : rowB w' wb = rowB w wb ∨ ∀ b, rowB w' wb = some b → w.heap.size ≤ b
/-- What a call of one of its methods comes to: X is written. -/
def WP (w0 : World) (wb : Nat) (w : World) (S : List UInt8) (L : Nat) (X : List UInt8) : Ending → World → Prop := fun e w' => e = .returned (.tuple #[]) ∧ Wr w0 wb w' (S ++ X) L ∧ WK wb w w'

section
variable {w0 : World} {wb : Nat} {w w' w1 w2 : World} {S X Y : List UInt8} {L b : Nat}
theorem Wr.lt (h : Wr w0 wb w S L) : wb < w.heap.size := by
  obtain ⟨_,_,_,_,_,hb,_⟩ := h.st
  exact (Array.getElem?_eq_some_iff.1 hb).1
theorem row_of {p v a c d : Value} {fr : Nat × Nat} (hb : w.heap[wb]? = some (.cells #[p, v, a, c, d] WT fr)) : rowB w wb = v.ownBlock := by
  unfold rowB
  rw [Lib.cell_of_heap hb]
  rfl
theorem Wr.row (h : Wr w0 wb w S L) {k : Nat} (hk : rowB w wb = some k) : w0.heap.size ≤ k ∧ k < w.heap.size := by
  obtain ⟨_,_,_,_,_,hb,own,_⟩ := h.st; rw [row_of hb] at hk
  exact own.lt k hk
theorem WK.refl (wb : Nat) (w : World) : WK wb w w := ⟨KB.refl _ _, .inl rfl⟩
theorem WK.trans (h1 : WK wb w w1) (h2 : WK wb w1 w2) : WK wb w w2 := by
  refine ⟨h1.kb.trans h2.kb (fun k hk hs => ⟨hs.1, fun e => ?_⟩), ?_⟩
  · rcases h1.at' with h | h
    · exact hs.2 (h ▸ e)
    · have := h k e
      omega
  · rcases h2.at' with h | h
    · rcases h1.at' with h' | h'
      · exact .inl (h.trans h')
      · exact .inr (fun b hb => h' b (h ▸ hb))
    · exact .inr (fun b hb => Nat.le_trans h1.kb.size (h b hb))
theorem row_grown (hlt : wb < w.heap.size) (hg : w.grownBy w' none) : rowB w' wb = rowB w wb := by
  unfold rowB
  have hb := hg.block wb hlt (by simp)
  unfold World.cell?
  rw [hb]
theorem WK.grown (h : Wr w0 wb w S L) (hg : w.grownBy w' none) : WK wb w w' := ⟨KB.of hg (fun _ _ => by simp), .inl (row_grown h.lt hg)⟩
theorem Wr.grown (h : Wr w0 wb w S L) (hg : w.grownBy w' none) : Wr w0 wb w' S L := by
  refine ⟨gb_trans h.gb hg, h.lo, ?_⟩; obtain ⟨p,v,ob,db,hp,hb,own,vne,ho,hd,on,dn⟩ := h.st
  exact ⟨p, v, ob, db, hp, (hg.block wb h.lt (by simp)).trans hb, own_block own (fun g hgb => hg.block g (own.lt g hgb).2 (by simp)), vne, map_block ho (hg.block _ (World.ownsMap.lt ho) (by simp)), map_block hd (hg.block _ (World.ownsMap.lt hd) (by simp)), on, dn⟩
theorem Fr.step (h : Fr wb w b) (hk : WK wb w w') : Fr wb w' b := ⟨Nat.lt_of_lt_of_le h.lt hk.kb.size, h.ne, fun e => by
  rcases hk.at' with h' | h'
  · exact h.row (h' ▸ e)
  · have := h' b e
    have := h.lt
    omega⟩
theorem Fr.new (h : Wr w0 wb w S L) (hg : w.grownBy w' none) (hb : w.heap.size ≤ b) (hlt : b < w'.heap.size) : Fr wb w' b := ⟨hlt, by have := h.lt; omega, fun e => by
  rw [row_grown h.lt hg] at e; have := (h.row e).2
  omega⟩
theorem Fr.old (h : Wr w0 wb w S L) (hb : b < w0.heap.size) : Fr wb w b := ⟨Nat.lt_of_lt_of_le hb h.gb.size, by have := h.lo; omega, fun e => by have := (h.row e).1; omega⟩
theorem WK.cell (h : WK wb w w') {o : Nat} {v : Value} (hf : Fr wb w b) (hc : w.cell? ⟨b, o, none⟩ = some v) : w'.cell? ⟨b, o, none⟩ = some v := h.kb.cell hc ⟨hf.ne, hf.row⟩
/-- A node in a block of its own that the writer does not write into. -/
structure FB (wb : Nat) (w : World) (b : Nat) (t : T) (sv : Value) : Prop where
  fr : Fr wb w b
  box : Box w b t sv
theorem FB.step {t : T} {sv : Value} (h : FB wb w b t sv) (hk : WK wb w w') : FB wb w' b t sv :=
  ⟨h.fr.step hk, hk.cell h.fr h.box.c0, hk.cell h.fr h.box.c1, hk.cell h.fr h.box.c2, hk.cell h.fr h.box.c3, hk.cell h.fr h.box.c4⟩
theorem FB.new (h : Wr w0 wb w S L) (t : T) (sv : Value) (ty : TypeId) (hg : w.grownBy w1 none) : FB wb (w1.alloc (.cells #[.int .i64 t.kind, .string ⟨t.name.toArray⟩, .int .i64 t.num, .int .i64 t.at', sv] ty)) w1.heap.size t sv :=
  ⟨Fr.new h (gb_alloc hg _) hg.size (by simp), Box.new w1 t sv ty⟩
theorem FB.newX (h : Wr w0 wb w S L) (kd : Int) (x : List UInt8) (m p : Int) (ts : List T) (sv : Value) (ty : TypeId) (hg : w.grownBy w1 none) : FB wb (w1.alloc (.cells #[.int .i64 kd, .string ⟨x.toArray⟩, .int .i64 m, .int .i64 p, sv] ty)) w1.heap.size (.mk kd x m p ts) sv := FB.new h (.mk kd x m p ts) sv ty hg
theorem FB.grown {t : T} {sv : Value} (h : FB wb w b t sv) (hW : Wr w0 wb w S L) (hg : w.grownBy w' none) : FB wb w' b t sv := h.step (WK.grown hW hg)
end
end Go.Proofs.YtapfecciakijhaaGreatDoor

/- The program's writer: the builder that it embeds. -/
namespace Go.Proofs.YtapfecciakijhaaGreatDoor
open Go.RowKit Go.Maps Go.WideMaps Go.WideElems
set_option maxHeartbeats 1000000
set_option maxRecDepth 1000000

theorem sizeB : (Tryz.prog.info? 55).map (·.size) = some 2 := by kernel_rfl
theorem liesB : liesAt Tryz.prog Tryz.prog.depth WT (5 / Tryz.prog.cellsOf WT) 0 55 1 = true := by kernel_rfl
theorem infoU8 : (Tryz.prog.info? U8).map (fun i => (i.zero, i.size, i.bytes)) = some (some (.int .u8 0), 1, 1) := by kernel_rfl
theorem WT_ne : WT ≠ U8 := by decide

section
variable {w0 : World} {wb ob db : Nat} {w w' : World} {S S' : List UInt8} {L L' : Nat} {p v : Value}
/-- Another block of the writer, all else as it was. -/
theorem Wr.put (gb : w0.grownBy w none) (lo : w0.heap.size ≤ wb) (ho : IsOps w ob) (hd : IsWds w db) (on : ob ≠ wb) (dn : db ≠ wb) (own : w.ownsRow w0.heap.size U8 1 v S'.length (Lib.byteCells S')) (vne : v.ownBlock ≠ some wb) (hp : p = .pointer none ∨ p = ptr wb)
    (hb : w'.heap[wb]? = some (.cells #[p, v, .int .i64 L', .map (some ob), .map (some db)] WT (0, 0))) (hk : KB (fun k => k ≠ wb) w w') : Wr w0 wb w' S' L' :=
  ⟨⟨hk.os.trans gb.os, hk.tape.trans gb.tape, hk.output.trans gb.output, Nat.le_trans gb.size hk.size, fun k hk' _ => (hk.block k (Nat.lt_of_lt_of_le hk' gb.size) (by omega)).trans (gb.block k hk' (by simp))⟩, lo,
    p, v, ob, db, hp, hb, own_block own (fun g hg => hk.block g (own.lt g hg).2 (fun e => vne (e ▸ hg))), vne, map_block ho (hk.block _ (World.ownsMap.lt ho) on), map_block hd (hk.block _ (World.ownsMap.lt hd) dn), on, dn⟩
theorem kb_set (w : World) (wb o : Nat) (v : Value) : KB (fun k => k ≠ wb) w (w.setCell ⟨wb, o, none⟩ v) := ⟨rfl, rfl, rfl, by simp [World.setCell], fun k _ hk => Below.heap_setCell _ _ _ _ (by simpa using hk)⟩
theorem WK.set (_h : Wr w0 wb w S L) (o : Nat) (x : Value) (ho : o ≠ 1) : WK wb w (w.setCell ⟨wb, o, none⟩ x) := by
  refine ⟨⟨rfl, rfl, rfl, by simp [World.setCell], fun k _ hk => Below.heap_setCell _ _ _ _ (by simpa using hk.1)⟩, .inl ?_⟩
  unfold rowB
  rw [World.cell?_setCell_other _ _ _ _ (by simp <;> omega)]
/-- A level more or less. -/
theorem Wr.level (h : Wr w0 wb w S L) (L' : Nat) : Wr w0 wb (w.setCell ⟨wb, 2, none⟩ (.int .i64 L')) S L' := by
  obtain ⟨_,_,_,_,hp,hb,own,vne,ho,hd,on,dn⟩ := h.st
  exact Wr.put h.gb h.lo ho hd on dn own vne hp (by simp [World.setCell, Array.getElem?_modify, hb]) (kb_set w wb 2 _)
theorem Wr.lcell (h : Wr w0 wb w S L) : w.cell? ⟨wb, 2, none⟩ = some (.int .i64 L) ∧ w.frozen? ⟨wb, 2, none⟩ = false := by
  obtain ⟨_,_,_,_,_,hb,_⟩ := h.st
  exact ⟨by rw [Lib.cell_of_heap hb]; rfl, Lib.frozen_of_heap hb 2⟩
end

theorem copyCheck_any (w0 : World) (wb : Nat) (w : World) (S : List UInt8) (L : Nat) (h : Wr w0 wb w S L) :
    Calls Tryz.prog 123 #[ptr wb] w fun e w' => e = .returned (.tuple #[]) ∧ Wr w0 wb w' S L ∧ WK wb w w' ∧ w'.cell? ⟨wb, 0, none⟩ = some (ptr wb) := by
  have HW := hide h; obtain ⟨p,_,_,_,hp,hb,own,vne,ho,hd,on,dn⟩ := h.st; obtain ⟨_,hj,hjs⟩ := Option.map_eq_some_iff.1 sizeB
  have c0 : w.cell? ⟨wb, 0, none⟩ = some p := by rw [Lib.cell_of_heap hb]; rfl
  have z0 : w.frozen? ⟨wb, 0, none⟩ = false := Lib.frozen_of_heap hb 0
  have hsh : w.shape? wb = some (WT, 5) := by simp [World.shape?, hb]
  have HP : Hid (Wr w0 wb (w.setCell ⟨wb, 0, none⟩ (ptr wb)) S L) := Wr.put h.gb h.lo ho hd on dn own vne (.inr rfl) (by simp [World.setCell, Array.getElem?_modify, hb]) (kb_set w wb 0 _); have HK := hide (WK.set h 0 (ptr wb) (by omega)); have HC : Hid ((w.setCell ⟨wb, 0, none⟩ (ptr wb)).cell? ⟨wb, 0, none⟩ = some (ptr wb)) := World.cell?_setCell_same _ _ _ c0; clear own vne ho hd on dn h hb
  rcases hp with rfl | rfl
  · go_enter Tryz.func123, Tryz.ntmps123
    go_wp2; rw [Lib.run_to_unsafe w ⟨wb, 0, none⟩ Tryz.underlying52 Tryz.underlying123 hj (by rw [hjs]; decide) hsh (Nat.zero_lt_succ 4)]; simp only [Result.andThen]; rw [Oper.upon_value]; go_wp2; rw [run_callFunc_extern Tryz.func140 (by kernel_rfl) (by kernel_rfl) (by kernel_rfl) (e := Extern.AbiNoEscape.same) (by kernel_rfl)]; rw [Lib.run_noEscape]; simp only [Result.andThen]; rw [Oper.upon_value]; go_wp2; rw [Lib.run_from_unsafe w ⟨wb, 0, none⟩ Tryz.underlying123 Tryz.underlying52 hj hsh liesB]; simp only [Result.andThen]; rw [Oper.upon_value]; go_wp2
    go_end0
    exact ⟨rfl, HP.out, HK.out, HC.out⟩
  · go_enter Tryz.func123, Tryz.ntmps123
    go_wp2; rw [Lib.run_neq_ptr_same w _ Tryz.underlying52 hj]; go_wp2
    go_end0
    exact ⟨rfl, HW.out, WK.refl _ _, c0⟩

/-- The buffer becomes another one, by an append, and is laid down again. -/
theorem Wr.push {w0 : World} {wb ob db : Nat} {w w2 : World} {S X : List UInt8} {L : Nat} {p v v' : Value} (h : Wr w0 wb w S L) (hp : p = .pointer none ∨ p = ptr wb) (hb : w.heap[wb]? = some (.cells #[p, v, .int .i64 L, .map (some ob), .map (some db)] WT (0, 0)))
    (own : w.ownsRow w0.heap.size U8 1 v S.length (Lib.byteCells S)) (vne : v.ownBlock ≠ some wb) (ho : IsOps w ob) (hd : IsWds w db) (on : ob ≠ wb) (dn : db ≠ wb)
    (own' : w2.ownsRow w0.heap.size U8 1 v' (S ++ X).length (Lib.byteCells (S ++ X))) (hg : w.grownBy w2 v.ownBlock) (hat : v'.ownBlock = v.ownBlock ∨ ∀ b, v'.ownBlock = some b → w.heap.size ≤ b) :
    Wr w0 wb (w2.setCell ⟨wb, 1, none⟩ v') (S ++ X) L ∧ WK wb w (w2.setCell ⟨wb, 1, none⟩ v') := by
  have hlt := h.lt; have hb2 : w2.heap[wb]? = some (.cells #[p, v, .int .i64 L, .map (some ob), .map (some db)] WT (0, 0)) := (hg.block wb hlt (fun e => vne e.symm)).trans hb; have vne' : v'.ownBlock ≠ some wb := Lib.ownBlock_ne own' hb2 WT_ne; have hkb1 : KB (fun k => v.ownBlock ≠ some k) w w2 := KB.of hg (fun k hk e => hk e.symm); have hset := kb_set w2 wb 1 v'; have hrow := row_of hb
  have hkb : KB (fun k => k ≠ wb ∧ rowB w wb ≠ some k) w (w2.setCell ⟨wb, 1, none⟩ v') := by
    rw [hrow]
    exact ⟨hset.os.trans hkb1.os, hset.tape.trans hkb1.tape, hset.output.trans hkb1.output, Nat.le_trans hkb1.size hset.size, fun k hk hs => (hset.block k (Nat.lt_of_lt_of_le hk hkb1.size) hs.1).trans (hkb1.block k hk hs.2)⟩
  have hov : v.ownBlock ≠ some ob := map_row ho own; have hdv : v.ownBlock ≠ some db := map_row hd own; have hgb2 : w0.grownBy w2 none := ⟨hg.os.trans h.gb.os, hg.tape.trans h.gb.tape, hg.output.trans h.gb.output, Nat.le_trans h.gb.size hg.size, fun k hk _ => (hg.block k (Nat.lt_of_lt_of_le hk h.gb.size) (fun e => by have := (own.lt k e.symm).1; omega)).trans (h.gb.block k hk (by simp))⟩; have hw := Wr.put (w' := w2.setCell ⟨wb, 1, none⟩ v') (L' := L) hgb2 h.lo (map_block ho (hg.block _ (World.ownsMap.lt ho) (fun e => hov e.symm))) (map_block hd (hg.block _ (World.ownsMap.lt hd) (fun e => hdv e.symm))) on dn own' vne' hp (by simp [World.setCell, Array.getElem?_modify, hb2]) hset
  have hrow2 : rowB (w2.setCell ⟨wb, 1, none⟩ v') wb = v'.ownBlock := by
    obtain ⟨_,_,_⟩ := hw
    unfold rowB
    rw [World.cell?_setCell_same _ _ _ (show w2.cell? ⟨wb, 1, none⟩ = some v by rw [Lib.cell_of_heap hb2]; rfl)]
    rfl
  exact ⟨hw, hkb, by rw [hrow, hrow2]; exact hat⟩

/-- What a call of one of the builder's methods comes to: X is written, and v answered. -/
def WPv (w0 : World) (wb : Nat) (w : World) (S : List UInt8) (L : Nat) (X : List UInt8) (v : Value) : Ending → World → Prop := fun e w' => e = .returned v ∧ Wr w0 wb w' (S ++ X) L ∧ WK wb w w'

theorem byteCells_append (a b : List UInt8) : Lib.byteCells (a ++ b) = Lib.byteCells a ++ Lib.byteCells b := by simp [Lib.byteCells]

/-- Where the row lies behind an append of a text. -/
theorem append_str_at (w : World) (base : Nat) (t u ty e : TypeId) (i : TypeInfo) (ht : Tryz.prog.underlying t = some (.slice e)) (hu : Tryz.prog.underlying u = some .string) (hi : Tryz.prog.info? e = some i) (hz : i.zero = some (.int .u8 0)) (hsize : i.size = 1) (hby : i.bytes = 1)
    (v : Value) (n : Nat) (xs : List Value) (hown : w.ownsRow base e 1 v n xs) (s : ByteArray) (h63 : n + s.size ≤ maxLen) (hbytes : n + s.size ≤ 140737488355328) {v' : Value} {w' : World}
    (hr : (Builtin.append_ #[t, u] ty #[v, .string s]).run Tryz.prog w = .ok v' w') : v'.ownBlock = v.ownBlock ∨ v'.ownBlock = some w.heap.size := by
  have hsmall : n + s.size ≤ 9223372036854775807 := by simp only [maxLen] at h63; omega
  have hxl : xs.length = n := by simpa using hown.1
  rcases hown.2 with ⟨rfl, rfl⟩ | ⟨g, cap, cur, rfl, hbg, hg, hnc, hcm, hcs, htake⟩
  · by_cases hm : s.size = 0
    · have hf := Lib.run_firstCells_string (P := Tryz.prog) w 1 s
      rw [hm] at hf
      have h9 : (Builtin.append_ #[t, u] ty #[.slice none 0 0, .string s]).run Tryz.prog w = .ok (.slice none 0 0) w := by simp [Builtin.append_, run_underlying ht, run_underlying hu, sizeOf, typeInfo, hi, hsize, Builtin.lenOf, hm, hf]
      rw [h9] at hr
      injection hr with e1 _
      subst e1
      exact .inl rfl
    · have h9 := run_append_nil_string (P := Tryz.prog) w t u ty e i (.int .u8 0) ht hu hi hz s (by omega) (by omega) (by rw [hby]; omega)
      rw [h9] at hr
      injection hr with e1 _
      subst e1
      exact .inr rfl
  · by_cases hroom : n + s.size ≤ cap
    · have hcs' : cur.size = cap := by simpa using hcs
      have h9 := Lib.run_append_room_string (P := Tryz.prog) w t u ty e i ht hu hi hsize g n cap cur hg s hroom (by omega); rw [h9] at hr
      injection hr with e1 _
      subst e1
      exact .inl rfl
    · have holds : ∀ j u, xs[j]? = some u → w.cell? ((⟨g, 0, none⟩ : Addr).add j) = some u := hown.cells (g := g) rfl
      have h9 := Lib.run_append_grow_string (P := Tryz.prog) w t u ty e i (.int .u8 0) ht hu hi hz ⟨g, 0, none⟩ n cap xs (by rw [hsize]; simpa using hxl) holds s (by omega) (by omega) (by rw [hby]; exact growslice_fits (by omega) (by omega)); rw [h9] at hr
      injection hr with e1 _
      subst e1
      exact .inr rfl
/-- 'append' of a text to what is written, at its step. -/
theorem wp_push {w : World} {ops : Array Oper} {rest : List Oper} {o : Oper} {a : Act} {Q : Exit → Act → World → Prop} (hgd : o.guard = none) (sl x : Operand)
    (ho : o.op = .call { callee := .builtin .append, args := #[sl, x], argTypes := #[53, 9] }) {w0 : World} {wb : Nat} {S : List UInt8} {L : Nat} (h : Wr w0 wb w S L) (hc : w.cell? ⟨wb, 1, none⟩ = some (a.eval sl)) (s : List UInt8) (hx : a.eval x = .string ⟨s.toArray⟩) (hlen : S.length + s.length ≤ 1000000000)
    (k : ∀ q n c w' z, Wr w0 wb (w'.setCell ⟨wb, 1, none⟩ (.slice q n c)) (S ++ s) L → WK wb w (w'.setCell ⟨wb, 1, none⟩ (.slice q n c)) → w'.frozen? ⟨wb, 1, none⟩ = false → w'.cell? ⟨wb, 1, none⟩ = some z → wpList Tryz.prog ops Q rest (a.put o.dst (.slice q n c)) w') : wpList Tryz.prog ops Q (o :: rest) a w := by
  obtain ⟨i0,hi,hz0,hz1,hz2⟩ := info_parts infoU8; obtain ⟨p,v,ob,db,hp,hb,own,vne,ho2,hd,on,dn⟩ := h.st
  have hv : a.eval sl = v := by
    rw [Lib.cell_of_heap hb] at hc
    simpa using hc.symm
  have hss : ByteArray.size ⟨s.toArray⟩ = s.length := by simp [ByteArray.size]
  refine wpList_plain hgd fun K hK => ?_
  obtain ⟨v', w', hr, h2, h3, h4⟩ := Lib.run_append_own_string (P := Tryz.prog) w w0.heap.size 53 9 o.type U8 i0 Tryz.underlying53 Tryz.underlying9 hi hz0 hz1 hz2 v S.length _ own ⟨s.toArray⟩ (by rw [hss]; unfold maxLen; omega) (by rw [hss]; omega) h.gb.size; have hat := append_str_at w w0.heap.size 53 9 o.type U8 i0 Tryz.underlying53 Tryz.underlying9 hi hz0 hz1 hz2 v S.length _ own ⟨s.toArray⟩ (by rw [hss]; unfold maxLen; omega) (by rw [hss]; omega) hr
  have own' : w'.ownsRow w0.heap.size U8 1 v' (S ++ s).length (Lib.byteCells (S ++ s)) := by
    rw [List.length_append, byteCells_append, ← hss]
    exact h2
  obtain ⟨q1,q2⟩ := Wr.push h hp hb own vne ho2 hd on dn own' h3 (by rcases hat with e | e; exact .inl e; exact .inr (fun b hb' => by rw [e] at hb'; cases hb'; exact Nat.le_refl _)); have hb2 : w'.heap[wb]? = some (.cells #[p, v, .int .i64 L, .map (some ob), .map (some db)] WT (0, 0)) := (h3.block wb h.lt (fun e => vne e.symm)).trans hb
  unfold Oper.wp execOp
  simp only [ho, resolve, invoke, builtin, Sem.run_bind, Sem.run_pure, Result.andThen_ok, List.map_toArray, List.map_cons, List.map_nil, hv, hx, hr]
  obtain ⟨q, n, c, rfl⟩ : ∃ q n c, v' = .slice q n c := by
    rcases h2.2 with ⟨e, _⟩ | ⟨g, cap, cur, e, _⟩
    · exact ⟨_, _, _, e⟩
    · exact ⟨_, _, _, e⟩
  exact hK _ _ (k q n c w' v q1 q2 (Lib.frozen_of_heap hb2 1) (by rw [Lib.cell_of_heap hb2]; rfl))

end Go.Proofs.YtapfecciakijhaaGreatDoor

/- The program's writer: the builder's methods, one text, several texts, blanks. -/
namespace Go.Proofs.YtapfecciakijhaaGreatDoor
open Go.RowKit Go.Maps Go.WideMaps Go.WideElems
set_option maxHeartbeats 2000000
set_option maxRecDepth 1000000

theorem writeString_any (w0 : World) (wb : Nat) (w : World) (S : List UInt8) (L : Nat) (s : List UInt8) (h : Wr w0 wb w S L) (hlen : S.length + s.length ≤ 1000000000) :
    Calls Tryz.prog 92 #[ptr wb, .string ⟨s.toArray⟩] w (WPv w0 wb w S L s (.tuple #[.int .i64 s.length, .nilIface])) := by
  have HC := hide (copyCheck_any w0 wb w S L h); have HW := hide h; clear h
  go_enter Tryz.func92, Tryz.ntmps92
  go_wp2_with fail; go_at_call 123; refine HC.out.mono ?_; rintro e w1 ⟨rfl, W1, K1, c0⟩
  obtain ⟨z, c1⟩ : ∃ z, w1.cell? ⟨wb, 1, none⟩ = some z := by
    obtain ⟨_,v,_,_,_,hb,_⟩ := W1.st
    exact ⟨v, by rw [Lib.cell_of_heap hb]; rfl⟩
  have W1 := hide W1; have K1 := hide K1
  go_wp2_with (at_builtin; refine wp_push rfl _ _ rfl W1.out c1 s rfl hlen ?_)
  intro q n c w2 y W2 K2 z2 c2; have W2 := hide W2; have K2 := hide K2; go_wp2_with fail
  go_ret2
  exact ⟨rfl, W2.out, K1.out.trans K2.out⟩

theorem byte_cells (w : World) (ty : TypeId) (c : Int) : ∀ (j : Nat) (u : Value), [Value.int .u8 c][j]? = some u → (w.alloc (.cells #[.int .u8 c] ty)).cell? (Addr.add ⟨w.heap.size, 0, none⟩ j) = some u := by
  intro j u hu
  have hj : j = 0 := by
    rcases Nat.lt_or_ge j 1 with h9 | h9
    · omega
    · rw [List.getElem?_eq_none (by simpa using h9)] at hu; cases hu
  subst hj; rw [Addr.add_lit, World.cell?_alloc_at (hn := rfl)]
  simpa using hu
/-- 'append' of a byte. -/
theorem wp_pushB {w : World} {ops : Array Oper} {rest : List Oper} {o : Oper} {a : Act} {Q : Exit → Act → World → Prop} (hgd : o.guard = none) (sl x : Operand)
    (ho : o.op = .call { callee := .builtin .append, args := #[sl, x], argTypes := #[53, 53] }) {w0 : World} {wb : Nat} {S : List UInt8} {L : Nat} (c : UInt8) (ty : TypeId) (h : Wr w0 wb (w.alloc (.cells #[.int .u8 c.toNat] ty)) S L) (hc : (w.alloc (.cells #[.int .u8 c.toNat] ty)).cell? ⟨wb, 1, none⟩ = some (a.eval sl)) (hx : a.eval x = .slice (some ⟨w.heap.size, 0, none⟩) 1 1) (hlen : S.length + 1 ≤ 1000000000)
    (k : ∀ q n m w' z, Wr w0 wb (w'.setCell ⟨wb, 1, none⟩ (.slice q n m)) (S ++ [c]) L → WK wb (w.alloc (.cells #[.int .u8 c.toNat] ty)) (w'.setCell ⟨wb, 1, none⟩ (.slice q n m)) → w'.frozen? ⟨wb, 1, none⟩ = false → w'.cell? ⟨wb, 1, none⟩ = some z → wpList Tryz.prog ops Q rest (a.put o.dst (.slice q n m)) w') : wpList Tryz.prog ops Q (o :: rest) a (w.alloc (.cells #[.int .u8 c.toNat] ty)) := by
  obtain ⟨i0,hi,hz0,hz1,hz2⟩ := info_parts infoU8; obtain ⟨p,v,ob,db,hp,hb,own,vne,ho2,hd,on,dn⟩ := h.st
  have hv : a.eval sl = v := by
    rw [Lib.cell_of_heap hb] at hc
    simpa using hc.symm
  refine wpList_plain hgd fun K hK => ?_
  obtain ⟨v', w', hr, h2, h3, h4, hat⟩ := run_append_own_at (P := Tryz.prog) (w.alloc (.cells #[.int .u8 c.toNat] ty)) w0.heap.size 53 o.type U8 i0 _ 1 1 Tryz.underlying53 hi hz0 hz1 hz2 rfl (by decide) v S.length _ own ⟨w.heap.size, 0, none⟩ 1 1 [.int .u8 c.toNat]
    rfl (byte_cells w ty c.toNat) (fun u hu => by simp at hu; subst hu; rfl) (by unfold maxLen; omega) (by omega) h.gb.size
  have own' : w'.ownsRow w0.heap.size U8 1 v' (S ++ [c]).length (Lib.byteCells (S ++ [c])) := by
    rw [List.length_append, byteCells_append]
    exact h2
  obtain ⟨q1,q2⟩ := Wr.push h hp hb own vne ho2 hd on dn own' h3 (by rcases hat with e | e; exact .inl e; exact .inr (fun b hb' => by rw [e] at hb'; cases hb'; exact Nat.le_refl _)); have hb2 : w'.heap[wb]? = some (.cells #[p, v, .int .i64 L, .map (some ob), .map (some db)] WT (0, 0)) := (h3.block wb h.lt (fun e => vne e.symm)).trans hb
  unfold Oper.wp execOp
  simp only [ho, resolve, invoke, builtin, Sem.run_bind, Sem.run_pure, Result.andThen_ok, List.map_toArray, List.map_cons, List.map_nil, hv, hx, hr]
  obtain ⟨q, n, m, rfl⟩ : ∃ q n m, v' = .slice q n m := by
    rcases h2.2 with ⟨e, _⟩ | ⟨g, cap, cur, e, _⟩
    · exact ⟨_, _, _, e⟩
    · exact ⟨_, _, _, e⟩
  exact hK _ _ (k q n m w' v q1 q2 (Lib.frozen_of_heap hb2 1) (by rw [Lib.cell_of_heap hb2]; rfl))
theorem writeByte_any (w0 : World) (wb : Nat) (w : World) (S : List UInt8) (L : Nat) (h : Wr w0 wb w S L) (hlen : S.length + 1 ≤ 1000000000) :
    Calls Tryz.prog 88 #[ptr wb, .int .u8 10] w (WPv w0 wb w S L [10] .nilIface) := by
  have HC := hide (copyCheck_any w0 wb w S L h); have HW := hide h; clear h
  go_enter Tryz.func88, Tryz.ntmps88
  go_wp2_with fail; go_at_call 123; refine HC.out.mono ?_; rintro e w1 ⟨rfl, W1, K1, c0⟩; have hlt := W1.lt
  obtain ⟨z, c1⟩ : ∃ z, w1.cell? ⟨wb, 1, none⟩ = some z := by
    obtain ⟨_,v,_,_,_,hb,_⟩ := W1.st
    exact ⟨v, by rw [Lib.cell_of_heap hb]; rfl⟩
  have W1 := hide W1; have K1 := hide K1
  go_wp2_with (at_builtin; refine wp_pushB rfl _ _ rfl (10 : UInt8) _ (W1.out.grown (gb_alloc (gb_refl w1 none) _)) (by rw [World.cell?_alloc_lt _ _ _ (by simpa using hlt)]; exact c1) rfl hlen ?_)
  intro q n c w2 y W2 K2 z2 c2; have W2 := hide W2; have K2 := hide K2; go_wp2_with fail
  go_ret
  exact ⟨rfl, W2.out, K1.out.trans ((WK.grown W1.out (gb_alloc (gb_refl w1 none) _)).trans K2.out)⟩

/-- Texts in a row. -/
structure SL (wb : Nat) (w : World) (ss : List (List UInt8)) (g c : Nat) : Prop where
  fr : Fr wb w g
  n1 : ss.length ≤ c
  n2 : c ≤ 9223372036854775807
  cell : ∀ (k : Nat) (s : List UInt8), ss[k]? = some s → w.cell? ⟨g, k, none⟩ = some (.string ⟨s.toArray⟩)
theorem SL.step {wb : Nat} {w w' : World} {ss : List (List UInt8)} {g c : Nat} (h : SL wb w ss g c) (hk : WK wb w w') : SL wb w' ss g c := ⟨h.fr.step hk, h.n1, h.n2, fun k s e => hk.cell h.fr (h.cell k s e)⟩
theorem flatten_take {ss : List (List UInt8)} {i : Nat} {s : List UInt8} (h : ss[i]? = some s) : (ss.take (i + 1)).flatten = (ss.take i).flatten ++ s := by
  rw [List.take_add_one, h]
  simp
theorem flatten_le (ss : List (List UInt8)) (i : Nat) : (ss.take i).flatten.length ≤ ss.flatten.length := by
  have h : (ss.take i ++ ss.drop i).flatten = (ss.take i).flatten ++ (ss.drop i).flatten := List.flatten_append; rw [List.take_append_drop] at h; rw [h, List.length_append]
  omega
theorem write_any (w0 : World) (wb : Nat) (w : World) (S : List UInt8) (L : Nat) (ss : List (List UInt8)) (g c : Nat) (h : Wr w0 wb w S L) (hs : SL wb w ss g c) (hlen : S.length + ss.flatten.length ≤ 1000000000) (hn : ss.length ≤ 1000) :
    Calls Tryz.prog 56 #[ptr wb, .slice (some ⟨g, 0, none⟩) ss.length c] w (WP w0 wb w S L ss.flatten) := by
  have HW := hide h; have HS := hide hs; have hn2 := hs.n2; clear h hs
  go_enter Tryz.func56, Tryz.ntmps56
  go_wp2_with fail
  go_loopw [8] (fun iv wr => ∃ i : Nat, i ≤ ss.length ∧ iv = .int .i64 ↑i ∧ Hid (Wr w0 wb wr (S ++ (ss.take i).flatten) L) ∧ Hid (WK wb w wr)) (fun iv _ => ss.length - (intOf iv).toNat)
  case atStart => exact ⟨0, Nat.zero_le _, rfl, by show Wr _ _ _ _ _; simpa using HW.out, WK.refl _ _⟩
  case round =>
    obtain ⟨i,_,rfl,J1,K1⟩ := hrel
    by_cases hlt : i < ss.length
    · obtain ⟨s, hu⟩ : ∃ s, ss[i]? = some s := ⟨_, List.getElem?_eq_getElem hlt⟩
      have c0 := (HS.out.step K1.out).cell i s hu; have HE : Hid ((ss.take (i + 1)).flatten = (ss.take i).flatten ++ s) := flatten_take hu; have hle := flatten_le ss (i + 1); rw [HE.out, List.length_append] at hle; clear hu; go_wp2_with fail; go_at_call 92; refine (writeString_any w0 wb _ _ L s J1.out (by rw [List.length_append]; omega)).mono ?_; rintro e w2 ⟨rfl, j2, k2⟩
      have J2 : Hid (Wr w0 wb w2 (S ++ (ss.take (i + 1)).flatten) L) := by show Wr _ _ _ _ _; rw [HE.out, ← List.append_assoc]; exact j2
      have K2 : Hid (WK wb w w2) := K1.out.trans k2; clear j2 k2; go_wp2_with fail
      exact ⟨⟨i + 1, by omega, by go_num, J2, K2⟩, by simp [intOf]; omega⟩
    · have J2 : Hid (Wr w0 wb wr (S ++ ss.flatten) L) := by
        have := J1.out; rw [List.take_of_length_le (by omega)] at this
        exact this
      go_wp2_with fail
      go_end0
      exact ⟨rfl, J2.out, K1.out⟩
theorem SL.new {w0 : World} {wb : Nat} {W : World} {S : List UInt8} {L : Nat} (h : Wr w0 wb W S L) (ss : List (List UInt8)) (cs : Array Value) (ty : TypeId) (hcs : cs = (ss.map fun l => Value.string ⟨l.toArray⟩).toArray) (hn : ss.length ≤ 1000) : SL wb (W.alloc (.cells cs ty)) ss W.heap.size ss.length := by
  subst hcs; refine ⟨Fr.new h (gb_alloc (gb_refl W none) _) (Nat.le_refl _) (by simp), Nat.le_refl _, by omega, fun k s e => ?_⟩; rw [World.cell?_alloc_at _ _ _ _ rfl]
  simp [e]
theorem write1 (w0 : World) (wb : Nat) (W : World) (S : List UInt8) (L : Nat) (s : List UInt8) (ty : TypeId) (b : Nat) (hb : b = W.heap.size) (h : Wr w0 wb W S L) (hlen : S.length + s.length ≤ 1000000000) :
    Calls Tryz.prog 56 #[ptr wb, .slice (some ⟨b, 0, none⟩) 1 1] (W.alloc (.cells #[.string ⟨s.toArray⟩] ty)) fun e w' => e = .returned (.tuple #[]) ∧ Wr w0 wb w' (S ++ s) L ∧ WK wb W w' := by
  subst hb; refine (write_any w0 wb _ S L [s] _ 1 (h.grown (gb_alloc (gb_refl W none) _)) (SL.new h [s] _ ty rfl (by simp)) (by simpa using hlen) (by simp)).mono ?_; rintro e w' ⟨rfl, q, r⟩
  exact ⟨rfl, by simpa using q, (WK.grown h (gb_alloc (gb_refl W none) _)).trans r⟩
theorem write2 (w0 : World) (wb : Nat) (W : World) (S : List UInt8) (L : Nat) (s t : List UInt8) (ty : TypeId) (b : Nat) (hb : b = W.heap.size) (h : Wr w0 wb W S L) (hlen : S.length + s.length + t.length ≤ 1000000000) :
    Calls Tryz.prog 56 #[ptr wb, .slice (some ⟨b, 0, none⟩) 2 2] (W.alloc (.cells #[.string ⟨s.toArray⟩, .string ⟨t.toArray⟩] ty)) fun e w' => e = .returned (.tuple #[]) ∧ Wr w0 wb w' (S ++ (s ++ t)) L ∧ WK wb W w' := by
  subst hb; refine (write_any w0 wb _ S L [s, t] _ 2 (h.grown (gb_alloc (gb_refl W none) _)) (SL.new h [s, t] _ ty rfl (by simp)) (by simp; omega) (by simp)).mono ?_; rintro e w' ⟨rfl, q, r⟩
  exact ⟨rfl, by simpa using q, (WK.grown h (gb_alloc (gb_refl W none) _)).trans r⟩
theorem write3 (w0 : World) (wb : Nat) (W : World) (S : List UInt8) (L : Nat) (s t u : List UInt8) (ty : TypeId) (b : Nat) (hb : b = W.heap.size) (h : Wr w0 wb W S L) (hlen : S.length + s.length + t.length + u.length ≤ 1000000000) :
    Calls Tryz.prog 56 #[ptr wb, .slice (some ⟨b, 0, none⟩) 3 3] (W.alloc (.cells #[.string ⟨s.toArray⟩, .string ⟨t.toArray⟩, .string ⟨u.toArray⟩] ty)) fun e w' => e = .returned (.tuple #[]) ∧ Wr w0 wb w' (S ++ (s ++ (t ++ u))) L ∧ WK wb W w' := by
  subst hb; refine (write_any w0 wb _ S L [s, t, u] _ 3 (h.grown (gb_alloc (gb_refl W none) _)) (SL.new h [s, t, u] _ ty rfl (by simp)) (by simp; omega) (by simp)).mono ?_; rintro e w' ⟨rfl, q, r⟩
  exact ⟨rfl, by simpa using q, (WK.grown h (gb_alloc (gb_refl W none) _)).trans r⟩
end Go.Proofs.YtapfecciakijhaaGreatDoor

/- The program's writer: lines; several nodes. -/
namespace Go.Proofs.YtapfecciakijhaaGreatDoor
open Go.RowKit Go.Maps Go.WideMaps Go.WideElems
set_option maxHeartbeats 2000000
set_option maxRecDepth 1000000

theorem pad_succ (i : Nat) : padTx (i + 1) = padTx i ++ [32, 32] := by
  unfold padTx
  rw [show 2 * (i + 1) = 2 * i + 1 + 1 by omega, List.replicate_succ', List.replicate_succ']
  simp
theorem begin_any (w0 : World) (wb : Nat) (w : World) (S : List UInt8) (L : Nat) (h : Wr w0 wb w S L) (hlen : S.length + 2 * L ≤ 1000000000) :
    Calls Tryz.prog 87 #[ptr wb] w (WP w0 wb w S L (padTx L)) := by
  have HW := hide h; have lc := h.lcell.1; clear h
  go_enter Tryz.func87, Tryz.ntmps87
  go_wp2_with fail
  go_loopw [6] (fun iv wr => ∃ i : Nat, i ≤ L ∧ iv = .int .i64 ↑i ∧ Hid (Wr w0 wb wr (S ++ padTx i) L) ∧ Hid (WK wb w wr)) (fun iv _ => L - (intOf iv).toNat)
  case atStart => exact ⟨0, Nat.zero_le _, rfl, by show Wr _ _ _ _ _; simpa [padTx] using HW.out, WK.refl _ _⟩
  case round =>
    obtain ⟨i,_,rfl,J1,K1⟩ := hrel
    by_cases hlt : i < L
    · go_wp2_with fail
      go_at_call 92; refine (writeString_any w0 wb _ _ L [32, 32] J1.out (by simp [padTx_len]; omega)).mono ?_; rintro e w2 ⟨rfl, j2, k2⟩
      have J2 : Hid (Wr w0 wb w2 (S ++ padTx (i + 1)) L) := by show Wr _ _ _ _ _; rw [pad_succ, ← List.append_assoc]; exact j2
      have K2 : Hid (WK wb w w2) := K1.out.trans k2; clear j2 k2; go_wp2_with fail
      exact ⟨⟨i + 1, by omega, by go_num, J2, K2⟩, by simp [intOf]; omega⟩
    · obtain rfl : i = L := by omega
      go_wp2_with fail
      go_end0
      exact ⟨rfl, J1.out, K1.out⟩
theorem line_any (w0 : World) (wb : Nat) (w : World) (S : List UInt8) (L : Nat) (ss : List (List UInt8)) (g c : Nat) (h : Wr w0 wb w S L) (hs : SL wb w ss g c) (hlen : S.length + 2 * L + ss.flatten.length + 1 ≤ 1000000000) (hn : ss.length ≤ 1000) :
    Calls Tryz.prog 51 #[ptr wb, .slice (some ⟨g, 0, none⟩) ss.length c] w (WP w0 wb w S L (padTx L ++ (ss.flatten ++ [10]))) := by
  have HW := hide h; have HS := hide hs; clear h hs
  go_enter Tryz.func51, Tryz.ntmps51
  go_wp2_with fail; go_at_call 87; refine (begin_any w0 wb _ S L HW.out (by omega)).mono ?_; rintro e w1 ⟨rfl, j1, k1⟩; have J1 := hide j1; have K1 := hide k1; clear j1 k1; go_wp2_with fail; go_at_call 56; refine (write_any w0 wb _ _ L ss g c J1.out (HS.out.step K1.out) (by rw [List.length_append, padTx_len]; omega) hn).mono ?_; rintro e w2 ⟨rfl, j2, k2⟩; have J2 := hide j2; have K2 := hide (K1.out.trans k2); clear j2 k2; go_wp2_with fail; go_at_call 88; refine (writeByte_any w0 wb _ _ L J2.out (by rw [List.length_append, List.length_append, padTx_len]; omega)).mono ?_; rintro e w3 ⟨rfl, j3, k3⟩
  have J3 : Hid (Wr w0 wb w3 (S ++ (padTx L ++ (ss.flatten ++ [10]))) L) := by show Wr _ _ _ _ _; simpa only [List.append_assoc] using j3
  have K3 := hide (K2.out.trans k3); clear j3 k3; go_wp2_with fail
  go_end0
  exact ⟨rfl, J3.out, K3.out⟩
theorem line1 (w0 : World) (wb : Nat) (W : World) (S : List UInt8) (L : Nat) (s : List UInt8) (ty : TypeId) (b : Nat) (hb : b = W.heap.size) (h : Wr w0 wb W S L) (hlen : S.length + 2 * L + s.length + 1 ≤ 1000000000) :
    Calls Tryz.prog 51 #[ptr wb, .slice (some ⟨b, 0, none⟩) 1 1] (W.alloc (.cells #[.string ⟨s.toArray⟩] ty)) fun e w' => e = .returned (.tuple #[]) ∧ Wr w0 wb w' (S ++ (padTx L ++ (s ++ [10]))) L ∧ WK wb W w' := by
  subst hb; refine (line_any w0 wb _ S L [s] _ 1 (h.grown (gb_alloc (gb_refl W none) _)) (SL.new h [s] _ ty rfl (by simp)) (by simpa using hlen) (by simp)).mono ?_; rintro e w' ⟨rfl, q, r⟩
  exact ⟨rfl, by simpa using q, (WK.grown h (gb_alloc (gb_refl W none) _)).trans r⟩
theorem line3 (w0 : World) (wb : Nat) (W : World) (S : List UInt8) (L : Nat) (s t u : List UInt8) (ty : TypeId) (b : Nat) (hb : b = W.heap.size) (h : Wr w0 wb W S L) (hlen : S.length + 2 * L + s.length + t.length + u.length + 1 ≤ 1000000000) :
    Calls Tryz.prog 51 #[ptr wb, .slice (some ⟨b, 0, none⟩) 3 3] (W.alloc (.cells #[.string ⟨s.toArray⟩, .string ⟨t.toArray⟩, .string ⟨u.toArray⟩] ty)) fun e w' => e = .returned (.tuple #[]) ∧ Wr w0 wb w' (S ++ (padTx L ++ (s ++ (t ++ (u ++ [10]))))) L ∧ WK wb W w' := by
  subst hb; refine (line_any w0 wb _ S L [s, t, u] _ 3 (h.grown (gb_alloc (gb_refl W none) _)) (SL.new h [s, t, u] _ ty rfl (by simp)) (by simp; omega) (by simp)).mono ?_; rintro e w' ⟨rfl, q, r⟩
  exact ⟨rfl, by simpa using q, (WK.grown h (gb_alloc (gb_refl W none) _)).trans r⟩

/-- A function value that writes each node of a list. -/
def EW (w0 : World) (wb : Nat) (w : World) (L : Nat) (g : Nat) (fa ca : Array Value) (l : List T) (tx : T → List UInt8) : Prop :=
  ∀ (t : T) (sv : Value) (w1 : World) (S : List UInt8), t ∈ l → AT w0 t.subs sv → Wr w0 wb w1 S L → WK wb w w1 → S.length + (tx t).length ≤ 1000000000 → Calls Tryz.prog g (fa ++ #[nodeV t sv] ++ ca) w1 (WP w0 wb w1 S L (tx t))
theorem EW.step {w0 : World} {wb : Nat} {w w' : World} {L g : Nat} {fa ca : Array Value} {l : List T} {tx : T → List UInt8} (h : EW w0 wb w L g fa ca l tx) (hk : WK wb w w') : EW w0 wb w' L g fa ca l tx := fun t sv w1 S hm ha hw hk1 hl => h t sv w1 S hm ha hw (hk.trans hk1) hl
/-- A function that is entered where it is called. -/
def EN (g : Nat) : Prop := ∀ (args : Array Value) (w : World), (callFunc g args).run Tryz.prog w = .ok (.enter g args) w
theorem sepTx_take (sep : List UInt8) (l : List (List UInt8)) (i : Nat) (x : List UInt8) (h : l[i]? = some x) : sepTx sep (l.take (i + 1)) = sepTx sep (l.take i) ++ ((if i = 0 then [] else sep) ++ x) := by
  have hi : i < l.length := by
    rcases Nat.lt_or_ge i l.length with h9 | h9
    · exact h9
    · rw [List.getElem?_eq_none h9] at h; cases h
  rw [List.take_add_one, h]; simp only [Option.toList_some]; rw [sepTx_snoc]
  congr 2
  by_cases h0 : i = 0
  · subst h0; simp
  · rw [if_neg h0, if_neg]
    simp only [List.isEmpty_iff]; intro e; have h8 := congrArg List.length e; rw [List.length_take, List.length_nil] at h8
    omega
theorem sepTx_mono (sep : List UInt8) (l : List (List UInt8)) (i k : Nat) : (sepTx sep (l.take i)).length ≤ (sepTx sep (l.take (i + k))).length := by
  induction k with
  | zero => exact Nat.le_refl _
  | succ k ih =>
    rcases Nat.lt_or_ge (i + k) l.length with h | h
    · rw [← Nat.add_assoc, sepTx_take sep l (i + k) _ (List.getElem?_eq_getElem h), List.length_append]
      omega
    · rw [← Nat.add_assoc, List.take_of_length_le (show l.length ≤ i + k + 1 by omega)]
      rw [List.take_of_length_le h] at ih
      exact ih
theorem sepTx_le (sep : List UInt8) (l : List (List UInt8)) (i : Nat) : (sepTx sep (l.take i)).length ≤ (sepTx sep l).length := by
  have := sepTx_mono sep l i l.length; rw [List.take_of_length_le (show l.length ≤ i + l.length by omega)] at this
  exact this

theorem several_any (w0 : World) (wb : Nat) (w : World) (S : List UInt8) (L : Nat) (ts : List T) (sl : Value) (sep : List UInt8) (g : Nat) (fa ca : Array Value) (tx : T → List UInt8) (h : Wr w0 wb w S L) (ha : AT w0 ts sl) (he : EW w0 wb w L g fa ca ts tx) (hn : EN g) (hlen : S.length + (sepTx sep (ts.map tx)).length ≤ 1000000000) :
    Calls Tryz.prog 89 #[ptr wb, sl, .string ⟨sep.toArray⟩, .func (.func g) fa ca] w (WP w0 wb w S L (sepTx sep (ts.map tx))) := by
  obtain ⟨_,_,rfl,_,hs2⟩ := ha.form
  unfold maxLen at hs2
  have HW := hide h; have HA := hide ha; have HE := hide he; have hen : ∀ (args : Array Value) (w : World), (callFunc g args).run Tryz.prog w = .ok (.enter g args) w := hn; clear h ha he hn
  go_enter Tryz.func89, Tryz.ntmps89
  go_wp2_with fail
  go_loopw [12] (fun iv wr => ∃ i : Nat, i ≤ ts.length ∧ iv = .int .i64 ↑i ∧ Hid (Wr w0 wb wr (S ++ sepTx sep ((ts.map tx).take i)) L) ∧ Hid (WK wb w wr)) (fun iv _ => ts.length - (intOf iv).toNat)
  case atStart => exact ⟨0, Nat.zero_le _, rfl, by show Wr _ _ _ _ _; simpa [sepTx] using HW.out, WK.refl _ _⟩
  case round =>
    obtain ⟨i,_,rfl,J1,K1⟩ := hrel
    by_cases hlt : i < ts.length
    · obtain ⟨u, hu⟩ : ∃ u, ts[i]? = some u := ⟨_, List.getElem?_eq_getElem hlt⟩
      obtain ⟨_,_,_,e1,n5,fu,au⟩ := HA.out.node i u hu; cases e1; obtain ⟨ua,uc,rfl,_,_⟩ := au.form; obtain ⟨_,_,_,_,_⟩ := n5.kept J1.out.gb; have AU := hide au; have HU := hide hu; have hlu := J1.out.lt; clear hu fu au n5
      have htx : (ts.map tx)[i]? = some (tx u) := by rw [List.getElem?_map, HU.out]; rfl
      have hle := sepTx_le sep (ts.map tx) (i + 1); have HT := hide (sepTx_take sep (ts.map tx) i (tx u) htx); clear htx; have hb := FB.new J1.out u (.slice ua u.subs.length uc) 24 (gb_refl wr none); have hmem := List.mem_of_getElem? HU.out
      by_cases h0 : 0 < i
      · have h0' : (0 : Int) < (i : Int) := by omega
        rw [HT.out, if_neg (show ¬ i = 0 by omega)] at hle; simp only [List.length_append] at hle; have HB := hide hb; clear hb; go_wp2_with fail; go_at_call 92; refine (writeString_any w0 wb _ _ L sep (J1.out.grown (by exact gb_alloc (gb_refl wr none) _)) (by rw [List.length_append]; omega)).mono ?_; rintro e w2 ⟨rfl, j2, k2⟩; have J2 := hide j2; have K2 := hide (K1.out.trans ((WK.grown J1.out (by exact gb_alloc (gb_refl wr none) _)).trans k2)); obtain ⟨_,_,_,_,_⟩ := (HB.out.step k2).box; clear j2 k2; go_wp2_with fail; refine (HE.out u _ _ _ hmem AU.out J2.out K2.out (by rw [List.length_append, List.length_append]; omega)).mono ?_; rintro e w3 ⟨rfl, j3, k3⟩
        have J3 : Hid (Wr w0 wb w3 (S ++ sepTx sep ((ts.map tx).take (i + 1))) L) := by show Wr _ _ _ _ _; rw [HT.out, if_neg (show ¬ i = 0 by omega)]; simpa only [List.append_assoc] using j3
        have K3 : Hid (WK wb w w3) := K2.out.trans k3; clear j3 k3; go_wp2_with fail
        exact ⟨⟨i + 1, by omega, by go_num, J3, K3⟩, by simp [intOf]; omega⟩
      · have h0' : ¬ (0 : Int) < (i : Int) := by omega
        rw [HT.out, if_pos (show i = 0 by omega)] at hle; simp only [List.length_append, List.nil_append] at hle; clear hb; go_wp2_with fail; refine (HE.out u _ _ _ hmem AU.out (J1.out.grown (by exact gb_alloc (gb_refl wr none) _)) (K1.out.trans (WK.grown J1.out (by exact gb_alloc (gb_refl wr none) _))) (by rw [List.length_append]; omega)).mono ?_; rintro e w3 ⟨rfl, j3, k3⟩
        have J3 : Hid (Wr w0 wb w3 (S ++ sepTx sep ((ts.map tx).take (i + 1))) L) := by show Wr _ _ _ _ _; rw [HT.out, if_pos (show i = 0 by omega)]; simpa only [List.append_assoc, List.nil_append] using j3
        have K3 : Hid (WK wb w w3) := K1.out.trans ((WK.grown J1.out (by exact gb_alloc (gb_refl wr none) _)).trans k3); clear j3 k3; go_wp2_with fail
        exact ⟨⟨i + 1, by omega, by go_num, J3, K3⟩, by simp [intOf]; omega⟩
    · have J2 : Hid (Wr w0 wb wr (S ++ sepTx sep (ts.map tx)) L) := by
        have := J1.out; rw [List.take_of_length_le (by simp; omega)] at this
        exact this
      go_wp2_with fail
      go_end0
      exact ⟨rfl, J2.out, K1.out⟩
end Go.Proofs.YtapfecciakijhaaGreatDoor

/- The program's writer: lines of several nodes; sections. -/
namespace Go.Proofs.YtapfecciakijhaaGreatDoor
open Go.RowKit Go.Maps Go.WideMaps Go.WideElems
set_option maxHeartbeats 4000000
set_option maxRecDepth 1000000

theorem linesC_any (w0 : World) (wb : Nat) (w : World) (S : List UInt8) (L : Nat) (t : T) (sv : Value) (X : List UInt8) (b1 b2 g : Nat) (fa ca : Array Value) (h : Wr w0 wb w S L) (ha : AT w0 t.subs sv) (d1 : w.cell? ⟨b1, 0, none⟩ = some (ptr wb)) (d2 : w.cell? ⟨b2, 0, none⟩ = some (.func (.func g) fa ca)) (f2 : Fr wb w b2) (hn : EN g)
    (he : ∀ w1 S', Wr w0 wb w1 S' L → WK wb w w1 → S'.length + X.length ≤ 1000000000 → Calls Tryz.prog g (fa ++ #[nodeV t sv] ++ ca) w1 (WP w0 wb w1 S' L X)) (hlen : S.length + 2 * L + X.length ≤ 1000000000) :
    Calls Tryz.prog 124 #[nodeV t sv, ptr b1, ptr b2] w (WP w0 wb w S L (padTx L ++ X)) := by
  obtain ⟨sa,sc,rfl,_,_⟩ := ha.form; have HW := hide h; have HE := hide he; have hen : ∀ (args : Array Value) (w : World), (callFunc g args).run Tryz.prog w = .ok (.enter g args) w := hn; have hb := FB.new h t (.slice sa t.subs.length sc) 24 (gb_refl w none); have HB := hide hb; have F2 := hide f2; have hl2 := f2.lt; have hl1 := block_lt d1; obtain ⟨kd,x,m,p,l⟩ := t; clear h ha he hn hb f2
  change Calls Tryz.prog 124 #[.agg #[.int .i64 kd, .string ⟨x.toArray⟩, .int .i64 m, .int .i64 p, .slice sa l.length sc], ptr b1, ptr b2] w _
  go_enter Tryz.func124, Tryz.ntmps124
  go_wp2_with fail; go_at_call 87; refine (begin_any w0 wb _ S L (HW.out.grown (by exact gb_alloc (gb_refl w none) _)) (by omega)).mono ?_; rintro e w1 ⟨rfl, j1, k1⟩; have J1 := hide j1; have K1 := hide ((WK.grown HW.out (by exact gb_alloc (gb_refl w none) _)).trans k1); obtain ⟨_,_,_,_,_⟩ := ((HB.out.step k1).box).p
  have d3 := K1.out.cell F2.out d2; clear j1 k1; go_wp2_with fail; refine (HE.out _ _ J1.out K1.out (by rw [List.length_append, padTx_len]; omega)).mono ?_; rintro e w2 ⟨rfl, j2, k2⟩
  have J2 : Hid (Wr w0 wb w2 (S ++ (padTx L ++ X)) L) := by show Wr _ _ _ _ _; simpa only [List.append_assoc] using j2
  have K2 := hide (K1.out.trans k2); clear j2 k2; go_wp2_with fail
  go_end0
  exact ⟨rfl, J2.out, K2.out⟩

theorem Wr.levelI {w0 : World} {wb : Nat} {w : World} {S : List UInt8} {L : Nat} (h : Wr w0 wb w S L) (L' : Nat) (z : Int) (hz : z = L') : Wr w0 wb (w.setCell ⟨wb, 2, none⟩ (.int .i64 z)) S L' := by subst hz; exact h.level L'
theorem en_lines : EN 124 := enters_of Tryz.func124 (by kernel_rfl) rfl
theorem cell_new1 (w : World) (v : Value) (ty : TypeId) : (w.alloc (.cells #[v] ty)).cell? ⟨w.heap.size, 0, none⟩ = some v := by rw [World.cell?_alloc_at _ _ _ _ rfl]; rfl

theorem EW.lines {w0 : World} {wb : Nat} {w : World} {S : List UInt8} {L g : Nat} {fa ca : Array Value} {ts : List T} {tx : T → List UInt8} (h : Wr w0 wb w S L) (he : EW w0 wb w L g fa ca ts tx) (hn : EN g) (t1 t2 : TypeId) :
    EW w0 wb ((w.alloc (.cells #[ptr wb] t1)).alloc (.cells #[.func (.func g) fa ca] t2)) L 124 #[] #[ptr w.heap.size, ptr (w.heap.size + 1)] ts (fun t => padTx L ++ tx t) := by
  have hg1 : w.grownBy (w.alloc (.cells #[ptr wb] t1)) none := gb_alloc (gb_refl w none) _; have hg2 : w.grownBy ((w.alloc (.cells #[ptr wb] t1)).alloc (.cells #[.func (.func g) fa ca] t2)) none := gb_alloc hg1 _; have f1 : Fr wb ((w.alloc (.cells #[ptr wb] t1)).alloc (.cells #[.func (.func g) fa ca] t2)) w.heap.size := Fr.new h hg2 (Nat.le_refl _) (by simp; omega); have f2 : Fr wb ((w.alloc (.cells #[ptr wb] t1)).alloc (.cells #[.func (.func g) fa ca] t2)) (w.heap.size + 1) := Fr.new h hg2 (by omega) (by simp)
  have d1 : ((w.alloc (.cells #[ptr wb] t1)).alloc (.cells #[.func (.func g) fa ca] t2)).cell? ⟨w.heap.size, 0, none⟩ = some (ptr wb) := by
    rw [World.cell?_alloc_lt _ _ _ (by simp)]; exact cell_new1 w _ t1
  have d2 : ((w.alloc (.cells #[ptr wb] t1)).alloc (.cells #[.func (.func g) fa ca] t2)).cell? ⟨w.heap.size + 1, 0, none⟩ = some (.func (.func g) fa ca) := by
    simp
  intro t sv w1 S' hm ha hw hk hl; simp only [List.length_append, padTx_len] at hl
  exact linesC_any w0 wb w1 S' L t sv (tx t) _ _ g fa ca hw ha (hk.cell f1 d1) (hk.cell f2 d2) (f2.step hk) hn (fun w2 S2 hw2 hk2 hl2 => he t sv w2 S2 hm ha hw2 ((WK.grown h hg2).trans (hk.trans hk2)) hl2) (by omega)
theorem lines_box {w0 : World} {wb : Nat} {w : World} {S : List UInt8} {L : Nat} (h : Wr w0 wb w S L) (v : Value) (t1 t2 : TypeId) : Fr wb ((w.alloc (.cells #[ptr wb] t1)).alloc (.cells #[v] t2)) w.heap.size ∧ ((w.alloc (.cells #[ptr wb] t1)).alloc (.cells #[v] t2)).cell? ⟨w.heap.size, 0, none⟩ = some (ptr wb) :=
  ⟨Fr.new h (gb_alloc (gb_alloc (gb_refl w none) _) _) (Nat.le_refl _) (by simp; omega), by rw [World.cell?_alloc_lt _ _ _ (by simp)]; exact cell_new1 w _ t1⟩
theorem several_b (w0 : World) (wb : Nat) (w : World) (S : List UInt8) (L : Nat) (ts : List T) (sl : Value) (sep : List UInt8) (sb : ByteArray) (hsb : sb = ⟨sep.toArray⟩) (g : Nat) (fa ca : Array Value) (tx : T → List UInt8) (h : Wr w0 wb w S L) (ha : AT w0 ts sl) (he : EW w0 wb w L g fa ca ts tx) (hn : EN g) (hlen : S.length + (sepTx sep (ts.map tx)).length ≤ 1000000000) :
    Calls Tryz.prog 89 #[ptr wb, sl, .string sb, .func (.func g) fa ca] w (WP w0 wb w S L (sepTx sep (ts.map tx))) := by
  subst hsb
  exact several_any w0 wb w S L ts sl sep g fa ca tx h ha he hn hlen
theorem lines_any (w0 : World) (wb : Nat) (w : World) (S : List UInt8) (L : Nat) (ts : List T) (sl : Value) (sep last : List UInt8) (g : Nat) (fa ca : Array Value) (tx : T → List UInt8) (h : Wr w0 wb w S L) (ha : AT w0 ts sl) (he : EW w0 wb w (L + 1) g fa ca ts tx) (hn : EN g) (hsep : sep.length ≤ 100) (hL : L ≤ 1000) (hlen : S.length + (linesTx sep last tx L ts).length ≤ 1000000000) :
    Calls Tryz.prog 91 #[ptr wb, sl, .string ⟨sep.toArray⟩, .string ⟨last.toArray⟩, .func (.func g) fa ca] w (WP w0 wb w S L (linesTx sep last tx L ts)) := by
  have HA := hide ha; have hlt := h.lt; obtain ⟨_,_,rfl,_,hs2⟩ := ha.form; have HW := hide h; have HE := hide he; have HN := hide hn; have lc := h.lcell.1; have lz := h.lcell.2; clear h ha he hn
  unfold maxLen at hs2
  by_cases h0 : ts.length = 0
  · obtain rfl : ts = [] := List.eq_nil_of_length_eq_zero h0
    have HX : Hid (linesTx sep last tx L [] = []) := rfl
    go_enter Tryz.func91, Tryz.ntmps91
    go_wp2_with fail
    go_end0
    exact ⟨rfl, by rw [HX.out, List.append_nil]; exact HW.out.grown (by exact gb_alloc (gb_alloc (gb_refl w none) _) _), WK.grown HW.out (by exact gb_alloc (gb_alloc (gb_refl w none) _) _)⟩
  · have HX : Hid (linesTx sep last tx L ts = sepTx (sep ++ [10]) (ts.map fun t => padTx (L + 1) ++ tx t) ++ (last ++ [10])) := by
      show _ = _
      unfold linesTx
      rw [if_neg (by simpa [List.isEmpty_iff] using fun e => h0 (by rw [e]; rfl))]
    rw [HX.out] at hlen; simp only [List.length_append, List.length_cons, List.length_nil] at hlen
    have hb0 : ((ts.length : Int) == 0) = false := by rw [beq_eq_false_iff_ne]; omega
    have hq : ¬ (9223372036854775807 < sep.length + 1) := by omega
    go_enter Tryz.func91, Tryz.ntmps91
    go_wp2_with fail; have HL : Hid (Wr w0 wb (w.setCell ⟨wb, 2, none⟩ (.int .i64 ((L : Int) + 1))) S (L + 1)) := HW.out.levelI (L + 1) _ (by omega); have KL : Hid (WK wb w (w.setCell ⟨wb, 2, none⟩ (.int .i64 ((L : Int) + 1)))) := WK.set HW.out 2 _ (by omega)
    have hsz : (w.setCell ⟨wb, 2, none⟩ (.int .i64 ((L : Int) + 1))).heap.size = w.heap.size := by simp [World.setCell]
    have HEE := hide (EW.lines HL.out (HE.out.step KL.out) HN.out 48 50); have HBX := hide (lines_box HL.out (.func (.func g) fa ca) 48 50); rw [hsz] at HEE HBX; clear hsz
    generalize w.setCell ⟨wb, 2, none⟩ (.int .i64 ((L : Int) + 1)) = wl at *
    go_at_call 89; refine (several_b w0 wb _ S (L + 1) ts _ (sep ++ [10]) _ (ba_app sep [10]) _ _ _ (fun t => padTx (L + 1) ++ tx t) (HL.out.grown (by exact gb_alloc (gb_alloc (gb_refl wl none) _) _)) HA.out HEE.out en_lines (by omega)).mono ?_; rintro e w1 ⟨rfl, j1, k1⟩; have J1 := hide j1; have K1 := hide (KL.out.trans ((WK.grown HL.out (by exact gb_alloc (gb_alloc (gb_refl wl none) _) _)).trans k1)); have F1 := hide (HBX.out.1.step k1); have d1 := k1.cell HBX.out.1 HBX.out.2; clear j1 k1; go_wp2_with fail; go_at_call 56; refine (write2 w0 wb w1 _ (L + 1) last [10] _ _ rfl J1.out (by simp only [List.length_append, List.length_cons, List.length_nil]; omega)).mono ?_; rintro e w2 ⟨rfl, j2, k2⟩; have J2 := hide j2; have K2 := hide (K1.out.trans k2); have d2 := k2.cell F1.out d1; have lc2 := j2.lcell.1; have lz2 := j2.lcell.2; have hlt2 := j2.lt; clear j2 k2; go_wp2_with fail
    go_end0
    refine ⟨rfl, ?_, K2.out.trans (WK.set J2.out 2 _ (by omega))⟩; rw [HX.out, ← List.append_assoc]
    exact J2.out.levelI L _ (by omega)

theorem section_any (w0 : World) (wb : Nat) (w : World) (S : List UInt8) (word : List UInt8) (ts : List T) (sl : Value) (g : Nat) (fa ca : Array Value) (tx : T → List UInt8) (h : Wr w0 wb w S 0) (ha : AT w0 ts sl) (he : EW w0 wb w 1 g fa ca ts tx) (hn : EN g) (hlen : S.length + (sectTx word tx ts).length ≤ 1000000000) :
    Calls Tryz.prog 53 #[ptr wb, .string ⟨word.toArray⟩, sl, .func (.func g) fa ca] w (WP w0 wb w S 0 (sectTx word tx ts)) := by
  have HA := hide ha; obtain ⟨_,_,rfl,_,hs2⟩ := ha.form; have HW := hide h; have HE := hide he; have HN := hide hn; clear h ha he hn
  unfold maxLen at hs2
  by_cases h0 : ts.length = 0
  · obtain rfl : ts = [] := List.eq_nil_of_length_eq_zero h0
    have HX : Hid (sectTx word tx [] = []) := rfl
    go_enter Tryz.func53, Tryz.ntmps53
    go_wp2_with fail
    go_end0
    exact ⟨rfl, by rw [HX.out, List.append_nil]; exact HW.out, WK.refl _ _⟩
  · have HX : Hid (sectTx word tx ts = word ++ ([10] ++ linesTx [59] [59] tx 0 ts)) := by
      show _ = _
      unfold sectTx
      rw [if_neg (by simpa [List.isEmpty_iff] using fun e => h0 (by rw [e]; rfl))]
      rfl
    rw [HX.out] at hlen; simp only [List.length_append, List.length_cons, List.length_nil] at hlen
    have hb0 : (0 : Int) < (ts.length : Int) := by omega
    go_enter Tryz.func53, Tryz.ntmps53
    go_wp2_with fail; go_at_call 51; refine (line1 w0 wb w _ 0 word _ _ rfl HW.out (by omega)).mono ?_; rintro e w1 ⟨rfl, j1, k1⟩; have J1 := hide j1; have K1 := hide k1; clear j1 k1; go_wp2_with fail; go_at_call 91; refine (lines_any w0 wb _ _ 0 ts _ [59] [59] g fa ca tx J1.out HA.out (HE.out.step K1.out) HN.out (by decide) (by decide) (by simp only [List.length_append, List.length_cons, List.length_nil, padTx_len]; omega)).mono ?_; rintro e w2 ⟨rfl, j2, k2⟩
    have J2 : Hid (Wr w0 wb w2 (S ++ sectTx word tx ts) 0) := by
      show Wr _ _ _ _ _
      rw [HX.out]
      simpa only [List.append_assoc, show padTx 0 = [] from rfl, List.nil_append] using j2
    have K2 := hide (K1.out.trans k2); clear j2 k2; go_wp2_with fail
    go_end0
    exact ⟨rfl, J2.out, K2.out⟩
end Go.Proofs.YtapfecciakijhaaGreatDoor

/- The program's writer: names, types. -/
namespace Go.Proofs.YtapfecciakijhaaGreatDoor
open Go.RowKit Go.Maps Go.WideMaps Go.WideElems
set_option maxHeartbeats 4000000
set_option maxRecDepth 1000000

theorem marked_any (w0 : World) (wb : Nat) (w : World) (S : List UInt8) (L : Nat) (kd : Int) (x : List UInt8) (m p : Int) (ts : List T) (sv : Value) (h : Wr w0 wb w S L) (ha : AT w0 (T.mk kd x m p ts).subs sv) (hlen : S.length + (starTx (.mk kd x m p ts)).length ≤ 1000000000) :
    Calls Tryz.prog 55 #[ptr wb, nodeV (.mk kd x m p ts) sv] w (WP w0 wb w S L (starTx (.mk kd x m p ts))) := by
  have HA := hide ha; have HW := hide h; have hwl := h.lt; obtain ⟨a,n,c,rfl,_,_,hl⟩ := ha.any
  change ts.length = n at hl
  subst hl; clear h ha
  change Calls Tryz.prog 55 #[ptr wb, .agg #[.int .i64 kd, .string ⟨x.toArray⟩, .int .i64 m, .int .i64 p, .slice a ts.length c]] w _
  by_cases h1 : m = 1
  · subst h1
    have HX : Hid (starTx (.mk kd x 1 p ts) = x ++ [42]) := rfl
    rw [HX.out] at hlen; simp only [List.length_append, List.length_cons, List.length_nil] at hlen
    go_enter Tryz.func55, Tryz.ntmps55
    go_wp2_with fail; go_at_call 56; refine (write1 w0 wb _ _ L x _ _ (by simp) (HW.out.grown (by exact gb_alloc (gb_refl w none) _)) (by first | omega | (simp only [List.length_append, List.length_cons, List.length_nil, padTx_len]; omega))).mono ?_; rintro e w1 ⟨rfl, j1, k1⟩; have W1 := hide j1; have K1 := hide ((WK.grown HW.out (by exact gb_alloc (gb_refl w none) _)).trans k1); have B1 := hide ((FB.newX HW.out kd x 1 p ts (.slice a ts.length c) 24 (gb_refl w none)).step ((WK.grown (HW.out.grown (gb_alloc (gb_refl w none) _)) (gb_refl _ none)).trans k1)); obtain ⟨b0_1,b1_1,b2_1,b3_1,b4_1⟩ := B1.out.box.p; have bl_1 := B1.out.fr.lt
    clear j1 k1; go_wp2_with fail; go_at_call 56; refine (write1 w0 wb _ _ L [42] _ _ (by simp) (W1.out.grown (gb_refl w1 none)) (by first | omega | (simp only [List.length_append, List.length_cons, List.length_nil]; omega))).mono ?_; rintro e w2 ⟨rfl, j2, k2⟩; have W2 := hide j2; have K2 := hide (K1.out.trans ((WK.grown W1.out (gb_refl w1 none)).trans k2)); have B2 := hide (B1.out.step ((WK.grown W1.out (gb_refl w1 none)).trans k2)); obtain ⟨_,_,_,_,_⟩ := B2.out.box.p; have bl_2 := B2.out.fr.lt
    clear j2 k2; go_wp2_with fail
    go_end0
    rw [HX.out]; refine ⟨rfl, ?_, K2.out⟩; have J9 := W2.out
    try simp only [List.append_assoc] at J9 ⊢
    exact J9
  · have HX : Hid (starTx (.mk kd x m p ts) = x) := by show _ = _; simp [starTx, T.num, T.name, h1]
    rw [HX.out] at hlen
    go_enter Tryz.func55, Tryz.ntmps55
    go_wp2_with fail; go_at_call 56; refine (write1 w0 wb _ _ L x _ _ (by simp) (HW.out.grown (by exact gb_alloc (gb_refl w none) _)) (by first | omega | (simp only [List.length_append, List.length_cons, List.length_nil, padTx_len]; omega))).mono ?_; rintro e w1 ⟨rfl, j1, k1⟩; have W1 := hide j1; have K1 := hide ((WK.grown HW.out (by exact gb_alloc (gb_refl w none) _)).trans k1); have B1 := hide ((FB.newX HW.out kd x m p ts (.slice a ts.length c) 24 (gb_refl w none)).step ((WK.grown (HW.out.grown (gb_alloc (gb_refl w none) _)) (gb_refl _ none)).trans k1)); obtain ⟨b0_1,b1_1,b2_1,b3_1,b4_1⟩ := B1.out.box.p; have bl_1 := B1.out.fr.lt
    clear j1 k1; go_wp2_with fail
    go_end0
    rw [HX.out]; refine ⟨rfl, ?_, K1.out⟩; have J9 := W1.out
    try simp only [List.append_assoc, List.nil_append, List.append_nil] at J9 ⊢
    exact J9
def dotsTx (ts : List T) : List UInt8 := flatTx (fun u => u.name ++ [46]) ts
theorem dots_take {ts : List T} {i : Nat} {u : T} (h : ts[i]? = some u) : dotsTx (ts.take (i + 1)) = dotsTx (ts.take i) ++ (u.name ++ [46]) := by
  unfold dotsTx
  rw [List.take_add_one, h, flatTx_append]
  simp [flatTx]
theorem dots_le (ts : List T) (i : Nat) : (dotsTx (ts.take i)).length ≤ (dotsTx ts).length := by
  have h : dotsTx (ts.take i ++ ts.drop i) = dotsTx (ts.take i) ++ dotsTx (ts.drop i) := flatTx_append _ _ _; rw [List.take_append_drop] at h; rw [h, List.length_append]
  omega

theorem typeName_w (w0 : World) (wb : Nat) (w : World) (S : List UInt8) (L : Nat) (kd : Int) (x : List UInt8) (m p : Int) (ts : List T) (sv : Value) (h : Wr w0 wb w S L) (ha : AT w0 (T.mk kd x m p ts).subs sv) (hlen : S.length + (dotsTx ts ++ x).length ≤ 1000000000) :
    Calls Tryz.prog 96 #[ptr wb, nodeV (.mk kd x m p ts) sv] w (WP w0 wb w S L (dotsTx ts ++ x)) := by
  have HA := hide ha; have HW := hide h; have hwl := h.lt; obtain ⟨a,n,c,rfl,_,_,hl⟩ := ha.any
  change ts.length = n at hl
  subst hl; clear h ha
  change Calls Tryz.prog 96 #[ptr wb, .agg #[.int .i64 kd, .string ⟨x.toArray⟩, .int .i64 m, .int .i64 p, .slice a ts.length c]] w _
  simp only [List.length_append] at hlen
  go_enter Tryz.func96, Tryz.ntmps96
  go_wp2_with fail
  go_loopw [9] (fun iv wr => ∃ i : Nat, i ≤ ts.length ∧ iv = .int .i64 ↑i ∧ Hid (Wr w0 wb wr (S ++ dotsTx (ts.take i)) L) ∧ Hid (WK wb w wr) ∧ Hid (FB wb wr w.heap.size (.mk kd x m p ts) (.slice a ts.length c))) (fun iv _ => ts.length - (intOf iv).toNat)
  case atStart => exact ⟨0, Nat.zero_le _, rfl, by show Wr _ _ _ _ _; simpa [dotsTx, flatTx] using HW.out.grown (gb_alloc (gb_refl w none) _), WK.grown HW.out (gb_alloc (gb_refl w none) _), FB.new HW.out (.mk kd x m p ts) (.slice a ts.length c) 24 (gb_refl w none)⟩
  case round =>
    obtain ⟨i,_,rfl,J1,K1,B1⟩ := hrel; obtain ⟨_,_,_,_,_⟩ := B1.out.box.p
    by_cases hlt : i < ts.length
    · obtain ⟨u, hu⟩ : ∃ u, ts[i]? = some u := ⟨_, List.getElem?_eq_getElem hlt⟩
      obtain ⟨_,_,_,e1,n5,fu,au⟩ := HA.out.node i u hu; cases e1; obtain ⟨ua,uc,rfl,_,_⟩ := au.form; obtain ⟨_,_,_,_,_⟩ := n5.kept J1.out.gb; have HT := hide (dots_take hu); have hle := dots_le ts (i + 1); rw [HT.out] at hle; simp only [List.length_append, List.length_cons, List.length_nil] at hle; clear hu fu au n5; have hb := FB.new J1.out u (.slice ua u.subs.length uc) 24 (gb_refl wr none); have HB := hide hb; clear hb; go_wp2_with fail; go_at_call 56; refine (write2 w0 wb _ _ L u.name [46] _ _ (by simp) (J1.out.grown (by exact gb_alloc (gb_refl wr none) _)) (by simp only [List.length_append, List.length_cons, List.length_nil]; omega)).mono ?_; rintro e w2 ⟨rfl, j2, k2⟩
      have J2 : Hid (Wr w0 wb w2 (S ++ dotsTx (ts.take (i + 1))) L) := by show Wr _ _ _ _ _; rw [HT.out]; simpa only [List.append_assoc] using j2
      have K2 := hide (K1.out.trans ((WK.grown J1.out (by exact gb_alloc (gb_refl wr none) _)).trans k2)); have B2 := hide (B1.out.step ((WK.grown J1.out (by exact gb_alloc (gb_refl wr none) _)).trans k2)); clear j2 k2; go_wp2_with fail
      exact ⟨⟨i + 1, by omega, by go_num, J2, K2, B2⟩, by simp [intOf]; omega⟩
    · have J2 : Hid (Wr w0 wb wr (S ++ dotsTx ts) L) := by
        have := J1.out; rw [List.take_of_length_le (by omega)] at this
        exact this
      go_wp2_with fail; go_at_call 56; refine (write1 w0 wb _ _ L x _ _ (by simp) (J2.out.grown (gb_refl wr none)) (by simp only [List.length_append]; omega)).mono ?_; rintro e w2 ⟨rfl, j2, k2⟩
      have J3 : Hid (Wr w0 wb w2 (S ++ (dotsTx ts ++ x)) L) := by show Wr _ _ _ _ _; simpa only [List.append_assoc] using j2
      have K3 := hide (K1.out.trans ((WK.grown J2.out (gb_refl wr none)).trans k2)); clear j2 k2; go_wp2_with fail
      go_end0
      exact ⟨rfl, J3.out, K3.out⟩
theorem tn_dots {t : T} (h : TN t) : nameTx t = dotsTx t.subs ++ t.name := by
  cases h with
  | plain x p h => rfl
  | dot x p y q h hy => simp [nameTx, dotsTx, flatTx, T.subs, T.name]
theorem typeName_any (w0 : World) (wb : Nat) (w : World) (S : List UInt8) (L : Nat) (t : T) (sv : Value) (h : Wr w0 wb w S L) (ha : AT w0 t.subs sv) (ht : TN t) (hlen : S.length + (nameTx t).length ≤ 1000000000) :
    Calls Tryz.prog 96 #[ptr wb, nodeV t sv] w (WP w0 wb w S L (nameTx t)) := by
  have e := tn_dots ht; obtain ⟨kd,x,m,p,ts⟩ := t; rw [e] at hlen ⊢
  exact typeName_w w0 wb w S L kd x m p ts sv h ha hlen

end Go.Proofs.YtapfecciakijhaaGreatDoor
