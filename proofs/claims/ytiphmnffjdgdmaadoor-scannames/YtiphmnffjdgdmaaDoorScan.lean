/- The scanner as it lies in memory, a comment that is skipped, and all that is skipped ahead of a word. -/
import Derived.Test.YtiphmnffjdgdmaaDoorLeaf3
namespace Go.Proofs.YtiphmnffjdgdmaaDoor
open Go.RowKit

/-- Block b is a scanner of the text s that stands at byte k. -/
structure Sc (w : World) (b : Nat) (s : ByteArray) (k : Nat) : Prop where
  c0 : w.cell? ⟨b, 0, none⟩ = some (.string s)
  c1 : w.cell? ⟨b, 1, none⟩ = some (.int .i64 k)
  f1 : w.frozen? ⟨b, 1, none⟩ = false

def atOf (w : World) (b : Nat) : Nat := match w.cell? ⟨b, 1, none⟩ with | some v => (intOf v).toNat | none => 0

theorem Sc.atOf {w : World} {b : Nat} {s : ByteArray} {k : Nat} (h : Sc w b s k) : atOf w b = k := by
  unfold Proofs.YtiphmnffjdgdmaaDoor.atOf; rw [h.c1]; rfl

theorem Sc.drewN {w : World} {b : Nat} {s : ByteArray} {k : Nat} (h : Sc w b s k) (n : Nat) : Sc (w.drewN n) b s k := ⟨by simpa using h.c0, by simpa using h.c1, by simpa using h.f1⟩

theorem Sc.set {w : World} {b : Nat} {s : ByteArray} {k : Nat} (h : Sc w b s k) (k' : Nat) : Sc (w.setCell ⟨b, 1, none⟩ (.int .i64 k')) b s k' :=
  ⟨by rw [World.cell?_setCell_other _ _ _ _ (by simp)]; exact h.c0, World.cell?_setCell_same _ _ _ h.c1, by rw [World.frozen?_setCell]; exact h.f1⟩

theorem Sc.setI {w : World} {b : Nat} {s : ByteArray} {k : Nat} (h : Sc w b s k) (v : Int) (k' : Nat) (hv : v = k') : Sc (w.setCell ⟨b, 1, none⟩ (.int .i64 v)) b s k' := by
  subst hv; exact h.set k'

theorem Sc.lt {w : World} {b : Nat} {s : ByteArray} {k : Nat} (h : Sc w b s k) : b < w.heap.size := by
  rcases Nat.lt_or_ge b w.heap.size with h' | h'
  · exact h'
  · have := h.c0
    simp [World.cell?, Array.getElem?_eq_none h'] at this

theorem Sc.kept {w w' : World} {b : Nat} {s : ByteArray} {k : Nat} {row : Option Nat} (h : Sc w b s k) (hg : w.grownBy w' row) (hr : row ≠ some b) : Sc w' b s k :=
  ⟨by rw [World.cell?_of_block (w := w) (hg.block b h.lt (fun e => hr e.symm))]; exact h.c0,
   by rw [World.cell?_of_block (w := w) (hg.block b h.lt (fun e => hr e.symm))]; exact h.c1,
   by rw [World.frozen?_of_block (w := w) (hg.block b h.lt (fun e => hr e.symm))]; exact h.f1⟩

theorem gb_refl (w : World) (row : Option Nat) : w.grownBy w row := ⟨rfl, rfl, rfl, Nat.le_refl _, fun _ _ _ => rfl⟩
theorem gb_drewN {a w : World} {row : Option Nat} (h : a.grownBy w row) (n : Nat) : a.grownBy (w.drewN n) row := ⟨h.os, h.tape, h.output, h.size, h.block⟩
theorem gb_trans {a b c : World} {row : Option Nat} (h : a.grownBy b row) (k : b.grownBy c row) : a.grownBy c row :=
  ⟨k.os.trans h.os, k.tape.trans h.tape, k.output.trans h.output, Nat.le_trans h.size k.size, fun i hi hr => (k.block i (Nat.lt_of_lt_of_le hi h.size) hr).trans (h.block i hi hr)⟩
theorem gb_set {a w : World} {b : Nat} (h : a.grownBy w (some b)) (o : Nat) (v : Value) : a.grownBy (w.setCell ⟨b, o, none⟩ v) (some b) :=
  gb_trans h ⟨rfl, rfl, rfl, by simp [World.setCell], fun i _ hr => Below.heap_setCell _ _ _ _ (fun e => hr (by rw [e]))⟩
theorem gb_alloc {a w : World} {row : Option Nat} (h : a.grownBy w row) (o : Obj) : a.grownBy (w.alloc o) row := gb_trans h (World.grownBy_alloc w o row)
theorem gb_some {a w : World} (h : a.grownBy w none) (row : Option Nat) : a.grownBy w row := ⟨h.os, h.tape, h.output, h.size, fun i hi _ => h.block i hi (by simp)⟩

/-- A fault at byte k with error number n was thrown; it lies in a new block. -/
def Threw (w : World) (k n : Int) (e : Ending) (w' : World) : Prop :=
  ∃ q, e = .panicked [{ v := .iface 25 (.pointer (some ⟨q, 0, none⟩)), recovered := false }] ∧ w.heap.size ≤ q ∧
    w'.cell? ⟨q, 0, none⟩ = some (.int .i64 0) ∧ w'.cell? ⟨q, 1, none⟩ = some (.int .i64 k) ∧ w'.cell? ⟨q, 2, none⟩ = some (.iface 22 (.int .i64 n))

theorem threw_new {w wr : World} {nq : Nat} {k n : Int} (h : w.heap.size ≤ wr.heap.size) :
    Threw w k n (.panicked [{ v := .iface 25 (.pointer (some ⟨wr.heap.size, 0, none⟩)), recovered := false }]) ((wr.drewN nq).alloc (.cells #[.int .i64 0, .int .i64 k, .iface 22 (.int .i64 n)] 29)) :=
  ⟨wr.heap.size, rfl, h, by rw [World.cell?_alloc_at _ _ _ _ (by simp)]; rfl, by rw [World.cell?_alloc_at _ _ _ _ (by simp)]; rfl, by rw [World.cell?_alloc_at _ _ _ _ (by simp)]; rfl⟩

theorem cmt_hit {d : Nat} {r : List UInt8} (h : starts r 40 42 = true) : cmt d r = cmt (d + 1) (r.drop 2) := by
  match r, h with
  | [], h => simp [starts] at h
  | [a], h => simp [starts] at h
  | a :: b :: r, h =>
    simp [starts] at h
    rw [cmt_two, if_pos h]; rfl
theorem cmt_end {d : Nat} {r : List UInt8} (h1 : starts r 40 42 = false) (h : starts r 42 41 = true) : cmt d r = if d ≤ 1 then some (r.drop 2) else cmt (d - 1) (r.drop 2) := by
  match r, h with
  | [], h => simp [starts] at h
  | [a], h => simp [starts] at h
  | a :: b :: r, h =>
    simp [starts] at h h1
    rw [cmt_two, if_neg (by intro e; exact h1 e.1 e.2), if_pos h]; rfl
theorem cmt_on {d : Nat} {r : List UInt8} (h1 : starts r 40 42 = false) (h : starts r 42 41 = false) : cmt d r = cmt d (r.drop 1) := by
  match r with
  | [] => rfl
  | [a] => simp [cmt]
  | a :: b :: r =>
    simp [starts] at h h1
    rw [cmt_two, if_neg (by intro e; exact h1 e.1 e.2), if_neg (by intro e; exact h e.1 e.2)]; rfl

theorem starts_len {r : List UInt8} {a b : UInt8} (h : starts r a b = true) : 2 ≤ r.length := by
  match r, h with
  | [], h => simp [starts] at h
  | [a], h => simp [starts] at h
  | a :: b :: r, h => simp

set_option maxRecDepth 1000000 in
set_option maxHeartbeats 1000000 in
theorem comment_any (b : Nat) (s : ByteArray) (k0 : Nat) (w : World) (hs : s.size ≤ 1000000000) (hk0 : k0 ≤ s.size) (hsc : Sc w b s k0) (hst : starts (s.data.toList.drop k0) 40 42 = true) :
    Calls Tryd.prog 44 #[.pointer (some ⟨b, 0, none⟩)] w fun e w' =>
      (∀ r', cmt 0 (s.data.toList.drop k0) = some r' → e = .returned (.tuple #[]) ∧ Sc w' b s (s.size - r'.length) ∧ w.grownBy w' (some b)) ∧
      (cmt 0 (s.data.toList.drop k0) = none → Threw w k0 2 e w' ∧ w.grownBy w' (some b)) := by
  have c0 := hsc.c0
  have c1 := hsc.c1
  have HST := hide hst
  clear hst
  go_enter Tryd.func44, Tryd.ntmps44
  go_wp2
  clear c0 c1
  go_loopw [3] (fun d wr => ∃ dn k : Nat, d = .int .i64 dn ∧ k ≤ s.size ∧ Sc wr b s k ∧ w.grownBy wr (some b) ∧ Hid (cmt dn (s.data.toList.drop k) = cmt 0 (s.data.toList.drop k0)) ∧ (dn = 0 → k = k0) ∧ dn ≤ k) (fun _ wr => s.size - atOf wr b)
  case atStart => exact ⟨0, k0, rfl, hk0, hsc, gb_refl _ _, rfl, fun _ => rfl, Nat.zero_le _⟩
  case round =>
    obtain ⟨dn, k, rfl, hk, hsr, hgr, HC, HZ, hdk⟩ := hrel
    have c0 := hsr.c0
    have c1 := hsr.c1
    have f1 := hsr.f1
    have HZ' := hide HZ
    clear HZ
    have hxs : (s.extract k s.size).size ≤ maxLen := by unfold maxLen; rw [bs_size, bs_drop, List.length_drop, ← bs_size]; omega
    have hsm : s.size ≤ maxLen := by unfold maxLen; omega
    have hea := hsr.atOf
    have HSR := hide hsr
    have HGR := hide hgr
    clear hsr hgr
    by_cases hlt : k < s.size
    · cases h1 : starts (s.data.toList.drop k) 40 42
      · have hd1 : 1 ≤ dn := by
          rcases Nat.eq_zero_or_pos dn with h | h
          · rw [unhide HZ' h, HST.out] at h1; cases h1
          · exact h
        cases h3 : starts (s.data.toList.drop k) 42 41
        · have HN : Hid (cmt dn (s.data.toList.drop (k + 1)) = cmt 0 (s.data.toList.drop k0)) := by
            rw [← HC.out, cmt_on h1 h3, List.drop_drop]; rfl
          have hz : ((dn : Int) == 0) = false := by rw [beq_eq_false_iff_ne]; omega
          go_wp2_with fail
          go_quiet (fail)
          go_wp2_with (first | (go_at_call 43; refine (rest_any b s k _ hsm hk (by simpa using c0) (by simpa using c1)).mono ?_; rintro e w' ⟨rfl, nr, rfl⟩) | (go_at_call 42; refine (hp_any _ _ _ _ hxs).mono ?_; rintro e w' ⟨rfl, rfl⟩; simp only [bs_drop, h1, h3]))
          all_goals
            have hS := fun n => (HSR.out.drewN n).setI ((k : Int) + 1) (k + 1) (by omega)
            exact ⟨⟨dn, k + 1, rfl, by omega, hS _, gb_set (gb_drewN HGR.out _) _ _, HN, fun e => by omega, by omega⟩, by rw [(hS _).atOf, hea]; omega⟩
        · have h2 := starts_len h3
          rw [List.length_drop, ← bs_size] at h2
          by_cases hd2 : dn = 1
          · have HN : Hid (cmt 0 (s.data.toList.drop k0) = some (s.data.toList.drop (k + 2))) := by
              rw [← HC.out, cmt_end h1 h3, if_pos (by omega), List.drop_drop]; rfl
            have hz : ((dn : Int) - 1 == 0) = true := by rw [beq_iff_eq]; omega
            clear hd2
            go_wp2_with fail
            go_quiet (fail)
            go_wp2_with (first | (go_at_call 43; refine (rest_any b s k _ hsm hk (by simpa using c0) (by simpa using c1)).mono ?_; rintro e w' ⟨rfl, nr, rfl⟩) | (go_at_call 42; refine (hp_any _ _ _ _ hxs).mono ?_; rintro e w' ⟨rfl, rfl⟩; simp only [bs_drop, h1, h3]))
            have hS := fun n => (HSR.out.drewN n).setI ((k : Int) + 2) (k + 2) (by omega)
            refine bodyPost_ret (results_none rfl _ _ _) rfl ⟨fun r' hr => ?_, fun hr => ?_⟩
            · rw [HN.out] at hr
              cases hr
              refine ⟨rfl, ?_, gb_set (gb_drewN HGR.out _) _ _⟩
              rw [List.length_drop, ← bs_size, show s.size - (s.size - (k + 2)) = k + 2 from by omega]
              exact hS _
            · rw [HN.out] at hr; cases hr
          · have HN : Hid (cmt (dn - 1) (s.data.toList.drop (k + 2)) = cmt 0 (s.data.toList.drop k0)) := by
              rw [← HC.out, cmt_end h1 h3, if_neg (by omega), List.drop_drop]; rfl
            have hz : ((dn : Int) - 1 == 0) = false := by rw [beq_eq_false_iff_ne]; omega
            have hd3 : 2 ≤ dn := by omega
            clear hd2
            go_wp2_with fail
            go_quiet (fail)
            go_wp2_with (first | (go_at_call 43; refine (rest_any b s k _ hsm hk (by simpa using c0) (by simpa using c1)).mono ?_; rintro e w' ⟨rfl, nr, rfl⟩) | (go_at_call 42; refine (hp_any _ _ _ _ hxs).mono ?_; rintro e w' ⟨rfl, rfl⟩; simp only [bs_drop, h1, h3]))
            have hS := fun n => (HSR.out.drewN n).setI ((k : Int) + 2) (k + 2) (by omega)
            exact ⟨⟨dn - 1, k + 2, by rw [show ((dn : Int) - 1) = ((dn - 1 : Nat) : Int) from by omega], by omega, hS _, gb_set (gb_drewN HGR.out _) _ _, HN, fun e => by omega, by omega⟩, by rw [(hS _).atOf, hea]; omega⟩
      · have h2 := starts_len h1
        rw [List.length_drop, ← bs_size] at h2
        have HN : Hid (cmt (dn + 1) (s.data.toList.drop (k + 2)) = cmt 0 (s.data.toList.drop k0)) := by
          rw [← HC.out, cmt_hit h1, List.drop_drop]; rfl
        have hz : ((dn : Int) + 1 == 0) = false := by rw [beq_eq_false_iff_ne]; omega
        go_wp2_with fail
        go_quiet (fail)
        go_wp2_with (first | (go_at_call 43; refine (rest_any b s k _ hsm hk (by simpa using c0) (by simpa using c1)).mono ?_; rintro e w' ⟨rfl, nr, rfl⟩) | (go_at_call 42; refine (hp_any _ _ _ _ hxs).mono ?_; rintro e w' ⟨rfl, rfl⟩; simp only [bs_drop, h1]))
        have hS := fun n => (HSR.out.drewN n).setI ((k : Int) + 2) (k + 2) (by omega)
        exact ⟨⟨dn + 1, k + 2, by go_num, by omega, hS _, gb_set (gb_drewN HGR.out _) _ _, HN, fun e => by omega, by omega⟩, by rw [(hS _).atOf, hea]; omega⟩
    · have HN : Hid (cmt 0 (s.data.toList.drop k0) = none) := by
        rw [← HC.out, List.drop_eq_nil_of_le (by rw [← bs_size]; omega), cmt_nil]; rfl
      go_wp2_with fail
      go_quiet (fail)
      go_wp2_with (go_at_call 47; refine (throw_any _ _ _ _).mono ?_; rintro e w' ⟨rfl, rfl⟩)
      refine ⟨rfl, fun r' hr => ?_, fun _ => ⟨threw_new HGR.out.size, gb_alloc (gb_drewN HGR.out _) _⟩⟩
      rw [HN.out] at hr; cases hr

end Go.Proofs.YtiphmnffjdgdmaaDoor
