/- The document's reader: what is kept while a module's three sections are read. -/
import Derived.Test.YtbphiiaoncakfaaGreatDoorG24
import Derived.Test.YtbphiiaoncakfaaGreatDoorG19
import Derived.Test.YtbphiiaoncakfaaGreatDoorG11
import Derived.Deep.Cut
import Derived.Deep.CutBlock
import Derived.Deep.RegionHeldLaw
namespace Go.Proofs.YtbphiiaoncakfaaGreatDoor
open Go.RowKit

theorem Stays.keeps {α : Type} {q : Q α} (h : Stays q) {s s' : QS} {a : α} (hr : q s = (a, s')) (hs : s.2 ≠ none) : s'.2 ≠ none := by
  obtain ⟨i, b⟩ := s; cases b with
  | none => exact absurd rfl hs
  | some e =>
    obtain ⟨x, hx⟩ := h i e; rw [hx] at hr; cases hr
    exact hs
theorem nameQ_nil {L : List Tok} {s s' : QS} {x : List UInt8} (h : nameQ L s = (x, s')) (hx : x = []) : s'.2 ≠ none := by
  unfold nameQ at h
  split at h
  · rename_i hn
    have h1 : wd L s.1 = x := congrArg Prod.fst h; have h2 := hn.2; rw [h1, hx] at h2
    exact absurd h2 (by decide)
  · cases h
    unfold otherQ
    exact (stopQ_some L _ s).1
set_option maxRecDepth 100000 in
set_option maxHeartbeats 400000 in
theorem ris_bad (c : RC) (w : World) (s : QS) (d : Nat) (x : List UInt8) (sb : ByteArray) (hs : s.2 ≠ none) (h : RS c w s d) :
    Calls Tryz.prog 29 #[.pointer (some ⟨c.rb, 0, none⟩), .string sb] w (QSt c w s d (fun _ b v => v = .bool b) (isQ c.L x s)) := by
  have HP := hide h; clear h; obtain ⟨i, b⟩ := s; cases b with
  | none => exact absurd rfl hs
  | some y =>
    have HR : Hid (isQ c.L x (i, some y) = (false, (i, some y))) := by show isQ c.L x (i, some y) = _; unfold isQ; rw [if_neg (fun h => by cases h.1)]
    clear hs
    go_enter Tryz.func29, Tryz.ntmps29
    go_wp2_with (go_at_call 12; refine (rok_any c _ (i, some y) d HP.out).mono ?_; rintro e w1 ⟨rfl, hg1⟩; have HP1 := hide (HP.out.grown hg1))
    go_ret
    exact QSt.ok HR.out rfl (gb_some hg1 _) HP1.out (Nat.le_refl _)
set_option maxRecDepth 100000 in
set_option maxHeartbeats 400000 in
theorem rneed_name (c : RC) (w : World) (s : QS) (d : Nat) (x : List UInt8) (sb : ByteArray) (hsb : sb.data.toList = x) (hx : x = [] → s.2 ≠ none) (h : RS c w s d) :
    Calls Tryz.prog 27 #[.pointer (some ⟨c.rb, 0, none⟩), .string sb] w (QSt c w s d (fun _ _ _ => True) (needQ c.L x s)) := by
  by_cases hn : x = []
  · have HP := hide h
    have HS := hide (hx hn); clear h hx hsb hn
    go_enter Tryz.func27, Tryz.ntmps27
    go_wp2_with fail; go_at_call 29; refine (ris_bad c _ s d x _ HS.out HP.out).mono ?_; rintro e w1 ⟨a1, s1, v1, hr1, rfl, rfl, hg1, p1, hi1⟩; have HR1 : needQ c.L x s = _ := Q.bind_eq hr1; cases a1
    · go_wp2_with (go_at_call 14; refine (rother_any c _ s1 d p1).mono ?_; rintro e w2 ⟨a2, s2, v2, hr2, rfl, -, hg2, p2, hi2⟩)
      refine bodyPost_end (results_none rfl _ _ _) rfl ?_
      exact QSt.ok (HR1.trans hr2) trivial (gb_trans hg1 hg2) p2 (Nat.le_trans hi1 hi2)
    · go_wp2
      refine bodyPost_end (results_none rfl _ _ _) rfl ?_
      exact QSt.ok (HR1.trans rfl) trivial hg1 p1 hi1
  · exact rneed_any c w s d x sb hsb hn h
section
variable {L : List Tok} {f : Nat} {acc : List T} {s : QS}
theorem procLoopQ_no (h : ¬ (s.2 = none ∧ wd L s.1 = kPROCEDURE)) (hf : s.2 = none → 0 < f) : procLoopQ L f acc s = (acc, s) := by
  cases f with
  | zero =>
    rw [procLoopQ]; obtain ⟨i, b⟩ := s; cases b with
    | none => exact absurd (hf rfl) (by omega)
    | some x => rfl
  | succ f => rw [procLoopQ]; exact if_neg h
theorem procLoopQ_yes (h : s.2 = none) (h2 : wd L s.1 = kPROCEDURE) (hf : 0 < f) : procLoopQ L f acc s = ((procedureQ L).bind fun t => (needQ L s_semi).bind fun _ => procLoopQ L (f - 1) (acc ++ [t])) s := by
  obtain ⟨f', rfl⟩ : ∃ f', f = f' + 1 := ⟨f - 1, by omega⟩; rw [procLoopQ]
  exact if_pos ⟨h, h2⟩
end

theorem NB.cells {w : World} {b : Nat} {v0 v1 v2 v3 v4 : Value} (h : NB w b v0 v1 v2 v3 v4) : w.cell? ⟨b, 0, none⟩ = some v0 ∧ w.cell? ⟨b, 1, none⟩ = some v1 ∧ w.cell? ⟨b, 2, none⟩ = some v2 ∧ w.cell? ⟨b, 3, none⟩ = some v3 ∧ w.cell? ⟨b, 4, none⟩ = some v4 :=
  ⟨h.c0, h.c1, h.c2, h.c3, h.c4⟩

/-- Where the three blocks lie, and what is kept while sections are read. -/
structure MQ (c : RC) (w : World) (d ib nb rb lo : Nat) (i0 i1 i2 i3 i4 n0 n1 n2 n3 n4 : Value) (Ls : List (List T × Value)) (wk : World) (s : QS) : Prop where
  im : NB wk ib i0 i1 i2 i3 i4
  n : NB wk nb n0 n1 n2 n3 n4
  r : RB wk rb
  lr : ∀ x ∈ Ls, LR wk (In lo wk.heap.size) x.1 x.2
  ps : RS c wk s d
  gb : w.grownBy wk (some c.rb)
  lo1 : lo ≤ wk.heap.size
  lo2 : ib < lo ∧ nb < lo ∧ rb < lo ∧ c.rb < lo
  ne : ib ≠ c.rb ∧ nb ≠ c.rb ∧ rb ≠ c.rb ∧ w.heap.size ≤ nb

section
variable {c : RC} {w wk : World} {d ib nb rb lo : Nat} {i0 i1 i2 i3 i4 n0 n1 n2 n3 n4 : Value} {Ls : List (List T × Value)} {s : QS}
theorem MQ.grown {w' : World} (h : MQ c w d ib nb rb lo i0 i1 i2 i3 i4 n0 n1 n2 n3 n4 Ls wk s) (hg : wk.grownBy w' none) : MQ c w d ib nb rb lo i0 i1 i2 i3 i4 n0 n1 n2 n3 n4 Ls w' s where
  im := h.im.kept hg (by simp)
  n := h.n.kept hg (by simp)
  r := h.r.kept hg (by simp)
  lr := fun x hx => ((h.lr x hx).grown hg).wide (Nat.le_refl _) hg.size
  ps := h.ps.grown hg
  gb := gb_trans h.gb (gb_some hg _)
  lo1 := Nat.le_trans h.lo1 hg.size
  lo2 := h.lo2
  ne := h.ne
theorem MQ.drewN (h : MQ c w d ib nb rb lo i0 i1 i2 i3 i4 n0 n1 n2 n3 n4 Ls wk s) (k : Nat) : MQ c w d ib nb rb lo i0 i1 i2 i3 i4 n0 n1 n2 n3 n4 Ls (wk.drewN k) s := h.grown (gb_drewN (gb_refl _ _) k)
theorem MQ.drew (h : MQ c w d ib nb rb lo i0 i1 i2 i3 i4 n0 n1 n2 n3 n4 Ls wk s) : MQ c w d ib nb rb lo i0 i1 i2 i3 i4 n0 n1 n2 n3 n4 Ls wk.drew s := h.drewN 1

theorem MQ.part (h : MQ c w d ib nb rb lo i0 i1 i2 i3 i4 n0 n1 n2 n3 n4 Ls wk s) (k : List UInt8) (sb : ByteArray) (hsb : sb.data.toList = k) (hk : k ≠ []) (kd : Int) (q : Q T) (hq : ∀ (w : World) (s : QS), RS c w s d → Calls Tryz.prog 42 #[.pointer (some ⟨c.rb, 0, none⟩), .int .i64 kd] w (QSt c w s d (fun w' t v => TR w' w.heap.size w'.heap.size t v) (q s))) :
    Calls Tryz.prog 30 #[.pointer (some ⟨c.rb, 0, none⟩), .string sb, .int .i64 kd] wk fun e w' => ∃ (k1 : Int) (x1 : List UInt8) (m1 a1 : Int) (l1 : List T) (ad : Option Addr) (cp : Nat) (s1 : QS),
      e = .returned (.agg #[.int .i64 k1, .string ⟨x1.toArray⟩, .int .i64 m1, .int .i64 a1, .slice ad l1.length cp]) ∧ sectionQ c.L k q s = (T.mk k1 x1 m1 a1 l1, s1) ∧ MQ c w d ib nb rb lo i0 i1 i2 i3 i4 n0 n1 n2 n3 n4 (Ls ++ [(l1, .slice ad l1.length cp)]) w' s1 ∧ s.1 ≤ s1.1 := by
  refine (rpart_any c wk s d k sb hsb hk kd q h.ps hq).mono ?_; rintro e w' ⟨⟨k1, x1, m1, a1, l1⟩, s1, v1, hr, rfl, ⟨sv, rfl, lr⟩, hg, p, hi⟩; simp only [T.kind, T.name, T.num, T.at', T.subs] at lr ⊢; obtain ⟨ad, cp, rfl⟩ := lr.form; have sz := hg.size; obtain ⟨e1, e2, e3, e4⟩ := h.lo2; obtain ⟨f1, f2, f3, f4⟩ := h.ne; refine ⟨k1, x1, m1, a1, l1, ad, cp, s1, rfl, hr, ?_, hi⟩
  exact ⟨h.im.kept hg (by simp; omega), h.n.kept hg (by simp; omega), h.r.kept hg (by simp; omega), fun x hx => by
      rcases List.mem_append.1 hx with hx | hx
      · exact ((h.lr x hx).call hg (.inl e4)).wide (Nat.le_refl _) sz
      · cases List.mem_singleton.1 hx
        exact lr.wide h.lo1 (Nat.le_refl _), p, gb_trans h.gb hg, Nat.le_trans h.lo1 sz, h.lo2, h.ne⟩

/-- A module's node with its lists so far. -/
structure MR (c : RC) (w : World) (d nb rb lo : Nat) (n0 n1 n2 n3 : Value) (ts : List T) (v : Value) (wx : World) (s : QS) : Prop where
  n : NB wx nb n0 n1 n2 n3 v
  r : RB wx rb
  lr : LR wx (In lo wx.heap.size) ts v
  ps : RS c wx s d
  gb : w.grownBy wx (some c.rb)
  lo1 : lo ≤ wx.heap.size

theorem MQ.fin {w' : World} {cs : Array Value} {t : TypeId} {ts : List T} {v : Value} {S : Nat → Prop} (h : MQ c w d ib nb rb lo i0 i1 i2 i3 i4 n0 n1 n2 n3 n4 Ls wk s) (hl : LowR c w.heap.size) (hg : (wk.alloc (.cells cs t)).grownBy w' none) (hS : ∀ k, S k → lo ≤ k) (lr : LR w' S ts v) :
    MR c w d nb rb lo n0 n1 n2 n3 ts v (w'.setCell ⟨nb, 4, none⟩ v) s := by
  have sz := hg.size
  simp at sz
  obtain ⟨e1, e2, e3, e4⟩ := h.lo2; obtain ⟨f1, f2, f3, f4⟩ := h.ne; have h1 := h.lo1; have lz : LR w' (In lo w'.heap.size) ts v := lr.bounded.mono (fun k hk => ⟨hS k hk.1, hk.2⟩)
  have hs : (w'.setCell ⟨nb, 4, none⟩ v).heap.size = w'.heap.size := by simp [World.setCell]
  refine ⟨NB.s4 (NB.kept (NB.alloc h.n _) hg (by simp)) v, RB.put (RB.kept (RB.alloc h.r _) hg (by simp)) _ _ _, ?_, RS.put (RS.grown (RS.alloc h.ps _) hg) hl f4 _ _, gb_put (gb_trans (gb_alloc h.gb _) (gb_some hg _)) ?_ _ _, ?_⟩
  · rw [hs]
    exact LR.put lz (.inl e2) _ _
  · omega
  · omega
end
end Go.Proofs.YtbphiiaoncakfaaGreatDoor
