/- scan.Tokens: the words of a text, or what is wrong; what is thrown is caught. -/
import Derived.Test.YtiphmnffjdgdmaaDoorTokens
import Derived.Defers
import Derived.Recover
namespace Go.Proofs.YtiphmnffjdgdmaaDoor
open Go.RowKit

theorem assertFault (v : Value) (x : TypeId) (w : World) : (Instr.typeAssert (.iface 25 v) x 25 true).run Tryd.prog w = .ok (.tuple #[v, .bool true]) w := by kernel_rfl
theorem assertNil (x : TypeId) (w : World) : (Instr.typeAssert .nilIface x 25 true).run Tryd.prog w = .ok (.tuple #[.pointer none, .bool false]) w := by kernel_rfl

theorem catch_panicking (p0 p1 q : Addr) (v0 v1 : Value) (older : List PanicEntry) (w : World) (hne : p0 ≠ p1) (h0 : w.cell? p0 = some v0) (h1 : w.cell? p1 = some v1) (z0 : w.frozen? p0 = false) (z1 : w.frozen? p1 = false) :
    CallsD Tryd.prog 23 #[.pointer (some p0), .pointer (some p1)] (.panicking ({ v := .iface 25 (.pointer (some q)), recovered := false } :: older)) w fun e u' w' =>
      e = .returned (.tuple #[]) ∧ u' = .panicking ({ v := .iface 25 (.pointer (some q)), recovered := true } :: older) ∧ w' = (w.setCell p0 (.slice none 0 0)).setCell p1 (.iface 25 (.pointer (some q))) := by
  refine callsD_of_wpS Tryd.func23 rfl fun c₀ cs hu => ?_
  have hta := assertFault (.pointer (some q))
  have hc1 : (w.setCell p0 (.slice none 0 0)).cell? p1 = some v1 := by rw [World.cell?_setCell_other _ _ _ _ hne]; exact h1
  apply wpS_seq
  apply wpS_region
  simp [wpOpsS, go_sem, recoverD, hu, Tryd.ntmps23, Exit.thenS, hta]
  apply wpS_seq
  apply wpS_region
  simp [wpOpsS, go_sem, Array.replicate, Exit.thenS]
  refine wpS_cond (t := true) (by simp [Act.eval]) ?_
  simp only [if_true]
  apply wpS_region
  simp [wpOpsS, go_sem, h0, z0, hc1, z1, bodyPostS, results, Tryd.results23]

theorem catch_idle (p0 p1 : Addr) (w : World) :
    CallsD Tryd.prog 23 #[.pointer (some p0), .pointer (some p1)] .returning w fun e u' w' => e = .returned (.tuple #[]) ∧ u' = .returning ∧ w' = w := by
  refine callsD_of_wpS Tryd.func23 rfl fun c₀ cs hu => ?_
  have hta := assertNil
  apply wpS_seq
  apply wpS_region
  simp [wpOpsS, go_sem, recoverD, hu, Tryd.ntmps23, Exit.thenS, hta]
  apply wpS_seq
  apply wpS_region
  simp [wpOpsS, go_sem, Array.replicate, Exit.thenS]
  refine wpS_cond (t := false) (by simp [Act.eval]) ?_
  simp only [Bool.false_eq_true, if_false]
  refine wpS_of_wp (wp_skip ?_)
  cases c₀
  simp_all [bodyPostS, results, Tryd.results23]

/-- What scan.Tokens answers, and what memory it leaves. -/
def TokensPost (t : List UInt8) (w : World) (e : Ending) (w' : World) : Prop :=
  (4000 < t.length → e = .returned (.tuple #[.slice none 0 0, .iface 22 (.int .i64 3)])) ∧
  (t.length ≤ 4000 → ∀ l, toks t = .ok l → ∃ v, e = .returned (.tuple #[v, .nilIface]) ∧ w'.ownsRow w.heap.size 41 2 v l.length (flatT t.length l)) ∧
  (t.length ≤ 4000 → ∀ n f, toks t = .error (n, f) → ∃ q, e = .returned (.tuple #[.slice none 0 0, .iface 25 (.pointer (some ⟨q, 0, none⟩))]) ∧
    w'.cell? ⟨q, 0, none⟩ = some (.int .i64 0) ∧ w'.cell? ⟨q, 1, none⟩ = some (.int .i64 ((t.length - f.length : Nat) : Int)) ∧ w'.cell? ⟨q, 2, none⟩ = some (.iface 22 (.int .i64 n))) ∧
  Below w.heap.size w w'

set_option maxHeartbeats 1000000 in
theorem tokens_long (s : ByteArray) (w : World) (hs : s.size ≤ maxLen) (hl : 4000 < s.size) :
    Calls Tryd.prog 9 #[.string s] w fun e w' => TokensPost s.data.toList w e w' := by
  unfold maxLen at hs
  go_enter_defers Tryd.func9, Tryd.ntmps9
  go_wp2
  simp only [bodyPostD, Leaves]
  refine ⟨.tuple #[.slice none 0 0, .iface 22 (.int .i64 3)], by simp [results, Tryd.results9, go_sem], fun _ => rfl, fun h => ?_, fun h => ?_, ((Below.refl _ _).alloc (Nat.le_refl _) _).alloc (by simp) _⟩
  · rw [← bs_size] at h; omega
  · rw [← bs_size] at h; omega

theorem own_base {w : World} {base base' : Nat} {e : TypeId} {size : Nat} {v : Value} {n : Nat} {xs : List Value} (h : w.ownsRow base e size v n xs) (hb : base' ≤ base) : w.ownsRow base' e size v n xs := by
  obtain ⟨h1, h2⟩ := h
  refine ⟨h1, ?_⟩
  rcases h2 with h2 | ⟨g, cap, cur, a, b, c⟩
  · exact .inl h2
  · exact .inr ⟨g, cap, cur, a, Nat.le_trans hb b, c⟩

theorem cell_far {w w' : World} {row : Option Nat} (hg : w.grownBy w' row) {a : Addr} {v : Value} (h : w.cell? a = some v) (hne : some a.block ≠ row) : w'.cell? a = some v := by
  have hlt : a.block < w.heap.size := by
    rcases Nat.lt_or_ge a.block w.heap.size with h' | h'
    · exact h'
    · simp [World.cell?, Array.getElem?_eq_none h'] at h
  rw [World.cell?_of_block (w := w) (hg.block _ hlt hne)]; exact h
theorem frozen_far {w w' : World} {row : Option Nat} (hg : w.grownBy w' row) {a : Addr} {x : Bool} (hlt : a.block < w.heap.size) (h : w.frozen? a = x) (hne : some a.block ≠ row) : w'.frozen? a = x := by
  rw [World.frozen?_of_block (w := w) (hg.block _ hlt hne)]; exact h

set_option maxHeartbeats 1000000 in
theorem tokens_short (s : ByteArray) (w : World) (hl : s.size ≤ 4000) :
    Calls Tryd.prog 9 #[.string s] w fun e w' => TokensPost s.data.toList w e w' := by
  have hmf : ∀ (fn : Fn) (first cap : Array Value) (w : World), (Instr.makeFunc fn first cap).run Tryd.prog w = .ok (.func fn first cap) w := fun _ _ _ _ => rfl
  obtain ⟨W, hW⟩ : ∃ W, W = ((w.alloc (.cells #[.slice none 0 0] 32)).alloc (.cells #[.nilIface] 27)).alloc (.cells #[.string s, .int .i64 0] 51) := ⟨_, rfl⟩
  have hWs : W.heap.size = w.heap.size + 3 := by rw [hW]; simp
  have hsc : Sc W (w.heap.size + 1 + 1) s 0 := by
    rw [hW]
    exact ⟨by rw [World.cell?_alloc_at _ _ _ _ (by simp)]; rfl, by rw [World.cell?_alloc_at _ _ _ _ (by simp)]; rfl, World.frozen?_alloc_at _ _ _ _ (by simp)⟩
  have a0 : W.cell? ⟨w.heap.size, 0, none⟩ = some (.slice none 0 0) := by
    rw [hW, World.cell?_alloc_lt _ _ _ (by simp; omega), World.cell?_alloc_lt _ _ _ (by simp)]; simp
  have a1 : W.cell? ⟨w.heap.size + 1, 0, none⟩ = some .nilIface := by
    rw [hW, World.cell?_alloc_lt _ _ _ (by simp)]; simp
  have b0 : W.frozen? ⟨w.heap.size, 0, none⟩ = false := by
    rw [hW, World.frozen?_alloc_old _ _ _ (by simp; omega), World.frozen?_alloc_old _ _ _ (by simp)]; simp
  have b1 : W.frozen? ⟨w.heap.size + 1, 0, none⟩ = false := by
    rw [hW, World.frozen?_alloc_old _ _ _ (by simp)]; simp
  have hbW : Below w.heap.size w W := by
    rw [hW]; exact (((Below.refl _ _).alloc (Nat.le_refl _) _).alloc (by simp) _).alloc (by simp; omega) _
  have HW := hide hW
  have HSC := hide hsc
  have HA0 := hide a0
  have HA1 := hide a1
  have HB0 := hide b0
  have HB1 := hide b1
  have HBW := hide hbW
  have HWS := hide hWs
  clear hW hsc a0 a1 b0 b1 hbW hWs
  go_enter_defers Tryd.func9, Tryd.ntmps9
  go_wp2_with fail
  rw [← HW.out]
  refine (gather_any _ s W (by omega) HSC.out).mono ?_
  rintro e w4 ⟨hA, hB⟩
  cases ht : toks s.data.toList with
  | ok l =>
    clear hB
    obtain ⟨v, hv, hown, hg⟩ := hA l ht
    obtain ⟨va, vn, vc, rfl⟩ : ∃ a n c, v = .slice a n c := by
      rcases hown.2 with ⟨h, _⟩ | ⟨g, cap, cur, h, _⟩
      · exact ⟨_, _, _, h⟩
      · exact ⟨_, _, _, h⟩
    subst hv
    have hWS := HWS.out
    have c0 := cell_far hg HA0.out (by simp; omega)
    have c1 := cell_far hg HA1.out (by simp)
    have z0 := frozen_far hg (by simp; omega) HB0.out (by simp; omega)
    have z1 := frozen_far hg (by simp; omega) HB1.out (by simp)
    have hbb : Below w.heap.size w w4 := HBW.out.grown hg (by omega) (fun k hk => by cases hk; omega)
    have hne : ∀ j, j < w.heap.size + 3 → (Value.slice va vn vc).ownBlock = none ∨ (Value.slice va vn vc).ownBlock ≠ some j := fun j hj => .inr (fun e => by have := (hown.lt j e).1; omega)
    have ho := ((hown.kept (gb_set (gb_refl w4 (some w.heap.size)) 0 (.slice va vn vc)) (hne _ (by omega))).kept (gb_set (gb_refl _ (some (w.heap.size + 1))) 0 .nilIface) (hne _ (by omega)))
    have HO := hide (own_base ho (show w.heap.size ≤ W.heap.size from by omega))
    have HT := hide ht
    have HBB := hide hbb
    clear hA hown hg ht hbb hne ho hWS HW HSC HA0 HA1 HB0 HB1 HBW HWS
    go_wp2
    refine leaves_cons (f := 23) (args := #[.pointer (some ⟨w.heap.size, 0, none⟩), .pointer (some ⟨w.heap.size + 1, 0, none⟩)]) (by simp) (by simp [go_sem]) ?_
    refine (catch_idle _ _ _).mono ?_
    rintro e u' w5 ⟨rfl, rfl, rfl⟩
    simp only [Leaves, settle]
    refine ⟨.tuple #[.slice va vn vc, .nilIface], ?_, ?_⟩
    · have g0 : ((w4.setCell ⟨w.heap.size, 0, none⟩ (.slice va vn vc)).setCell ⟨w.heap.size + 1, 0, none⟩ .nilIface).cell? ⟨w.heap.size, 0, none⟩ = some (.slice va vn vc) := by
        rw [World.cell?_setCell_other _ _ _ _ (by simp)]; exact World.cell?_setCell_same _ _ _ c0
      have g1 : ((w4.setCell ⟨w.heap.size, 0, none⟩ (.slice va vn vc)).setCell ⟨w.heap.size + 1, 0, none⟩ .nilIface).cell? ⟨w.heap.size + 1, 0, none⟩ = some .nilIface :=
        World.cell?_setCell_same _ _ _ (show (w4.setCell ⟨w.heap.size, 0, none⟩ (.slice va vn vc)).cell? ⟨w.heap.size + 1, 0, none⟩ = some .nilIface by rw [World.cell?_setCell_other _ _ _ _ (by simp)]; exact c1)
      simp [results, Tryd.results9, go_sem, g0, g1]
    · refine ⟨fun h => ?_, fun _ l' hl' => ?_, fun _ n f hf => ?_, (HBB.out.setCell (by simp) _).setCell (by simp) _⟩
      · rw [← bs_size] at h; omega
      · rw [HT.out] at hl'
        cases hl'
        exact ⟨_, rfl, by rw [← bs_size]; exact HO.out⟩
      · rw [HT.out] at hf; cases hf
  | error x =>
    clear hA
    obtain ⟨n, f⟩ := x
    obtain ⟨⟨q, rfl, hq, q0, q1, q2⟩, hg⟩ := hB n f ht
    have hWS := HWS.out
    have c0 := cell_far hg HA0.out (by simp; omega)
    have c1 := cell_far hg HA1.out (by simp)
    have z0 := frozen_far hg (by simp; omega) HB0.out (by simp; omega)
    have z1 := frozen_far hg (by simp; omega) HB1.out (by simp)
    have hbb : Below w.heap.size w w4 := HBW.out.grown hg (by omega) (fun k hk => by cases hk; omega)
    show Leaves _ _ _ _ _ _ _
    refine leaves_cons (f := 23) (args := #[.pointer (some ⟨w.heap.size, 0, none⟩), .pointer (some ⟨w.heap.size + 1, 0, none⟩)]) (by simp) (by simp [go_sem]) ?_
    refine (catch_panicking ⟨w.heap.size, 0, none⟩ ⟨w.heap.size + 1, 0, none⟩ ⟨q, 0, none⟩ _ _ [] _ (by simp) c0 c1 z0 z1).mono ?_
    rintro e u' w5 ⟨rfl, rfl, rfl⟩
    show ∃ v, _ ∧ _
    obtain ⟨w5, hw5⟩ : ∃ w5, w5 = (w4.setCell ⟨w.heap.size, 0, none⟩ (.slice none 0 0)).setCell ⟨w.heap.size + 1, 0, none⟩ (.iface 25 (.pointer (some ⟨q, 0, none⟩))) := ⟨_, rfl⟩
    have g0 : w5.cell? ⟨w.heap.size, 0, none⟩ = some (.slice none 0 0) := by
      rw [hw5, World.cell?_setCell_other _ _ _ _ (by simp)]; exact World.cell?_setCell_same _ _ _ c0
    have g1 : w5.cell? ⟨w.heap.size + 1, 0, none⟩ = some (.iface 25 (.pointer (some ⟨q, 0, none⟩))) := by
      rw [hw5]
      exact World.cell?_setCell_same _ _ _ (show (w4.setCell ⟨w.heap.size, 0, none⟩ (.slice none 0 0)).cell? ⟨w.heap.size + 1, 0, none⟩ = some .nilIface by rw [World.cell?_setCell_other _ _ _ _ (by simp)]; exact c1)
    have hqo : ∀ (o : Nat) (x : Value), w4.cell? ⟨q, o, none⟩ = some x → w5.cell? ⟨q, o, none⟩ = some x := fun o x hx => by
      rw [hw5, World.cell?_setCell_other _ _ _ _ (by intro e; have := congrArg Addr.block e; simp only at this; omega), World.cell?_setCell_other _ _ _ _ (by intro e; have := congrArg Addr.block e; simp only at this; omega)]; exact hx
    have hb5 : Below w.heap.size w w5 := by rw [hw5]; exact (hbb.setCell (by simp) _).setCell (by simp) _
    rw [← hw5]
    refine ⟨.tuple #[.slice none 0 0, .iface 25 (.pointer (some ⟨q, 0, none⟩))], ?_, fun h => ?_, fun _ l' hl' => ?_, fun _ n' f' hf => ?_, hb5⟩
    · simp [results, Tryd.results9, go_sem, g0, g1]
    · rw [← bs_size] at h; omega
    · rw [ht] at hl'; cases hl'
    · rw [ht] at hf
      cases hf
      exact ⟨q, rfl, hqo _ _ q0, by rw [← bs_size]; exact hqo _ _ q1, hqo _ _ q2⟩

/-- scan.Tokens at every text. -/
theorem tokens_any (s : ByteArray) (w : World) (hs : s.size ≤ maxLen) :
    Calls Tryd.prog 9 #[.string s] w fun e w' => TokensPost s.data.toList w e w' := by
  by_cases hl : 4000 < s.size
  · exact tokens_long s w hs hl
  · exact tokens_short s w (by omega)
end Go.Proofs.YtiphmnffjdgdmaaDoor
