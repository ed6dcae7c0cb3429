/- The next word of a text. -/
import Derived.Test.YtiphmnffjdgdmaaDoorScan2
namespace Go.Proofs.YtiphmnffjdgdmaaDoor
open Go.RowKit

theorem headD_drop (s : ByteArray) (k : Nat) (h : k < s.size) : (s.data.toList.drop k).headD 0 = s[k] := by rw [drop_at s k h]; rfl

theorem leadOf_all {p : Int → Bool} {l : List UInt8} {c : UInt8} (h : c ∈ leadOf p l) : p c.toNat = true := by
  induction l with
  | nil => simp [leadOf] at h
  | cons a l ih =>
    unfold leadOf at h ih
    rw [List.takeWhile_cons] at h
    cases hp : p a.toNat
    · simp [hp] at h
    · simp only [hp, if_true, List.mem_cons] at h
      rcases h with rfl | h
      · exact hp
      · exact ih h

theorem mem_get (x : ByteArray) (j : Nat) (h : j < x.size) : x[j] ∈ x.data.toList := by
  have : x[j] = x.data.toList[j]'(by rw [← bs_size]; exact h) := rfl
  rw [this]; exact List.getElem_mem _

theorem leadOf_ne {p : Int → Bool} {l : List UInt8} {c : UInt8} (h : p c.toNat = true) : (leadOf p (c :: l)).isEmpty = false := by
  unfold leadOf; simp [h]

theorem leadOf_len (p : Int → Bool) (l : List UInt8) : (leadOf p l).length ≤ l.length := by
  unfold leadOf
  induction l with
  | nil => simp
  | cons a l ih => rw [List.takeWhile_cons]; split <;> simp <;> omega

theorem threw_new' {w wr : World} {k n : Int} (h : w.heap.size ≤ wr.heap.size) :
    Threw w k n (.panicked [{ v := .iface 25 (.pointer (some ⟨wr.heap.size, 0, none⟩)), recovered := false }]) (wr.alloc (.cells #[.int .i64 0, .int .i64 k, .iface 22 (.int .i64 n)] 29)) :=
  ⟨wr.heap.size, rfl, h, by rw [World.cell?_alloc_at _ _ _ _ (by simp)]; rfl, by rw [World.cell?_alloc_at _ _ _ _ (by simp)]; rfl, by rw [World.cell?_alloc_at _ _ _ _ (by simp)]; rfl⟩

theorem wrap32_byte (c : UInt8) : wrap32 (c.toNat : Int) = c.toNat := by
  have := c.toNat_lt
  simp only [wrap32]
  omega

theorem ext_get0 (s : ByteArray) (k : Nat) (h : k < s.size) (h0 : 0 < (s.extract k s.size).size) : (s.extract k s.size)[0] = s[k] := by
  have h1 := (take_head (s.extract k s.size) h0).1
  rw [bs_drop, headD_drop s k h] at h1
  exact h1.symm

set_option maxRecDepth 1000000 in
set_option maxHeartbeats 2000000 in
theorem word_any (b : Nat) (s : ByteArray) (k : Nat) (w : World) (hs : s.size ≤ 1000000000) (hk : k < s.size) (hsc : Sc w b s k) :
    Calls Tryd.prog 34 #[.pointer (some ⟨b, 0, none⟩)] w fun e w' =>
      (∀ x, wordOf (s.data.toList.drop k) = .ok x → ∃ y : ByteArray, e = .returned (.string y) ∧ y.data.toList = x ∧ w.grownBy w' none) ∧
      (∀ n, wordOf (s.data.toList.drop k) = .error n → Threw w k n e w' ∧ w.grownBy w' none) := by
  have c0 := hsc.c0
  have c1 := hsc.c1
  have hsm : s.size ≤ maxLen := by unfold maxLen; omega
  have hk' : k ≤ s.size := by omega
  have hxs : (s.extract k s.size).size = s.size - k := by rw [bs_size, bs_drop, List.length_drop, ← bs_size]
  have hx0 : 0 < (s.extract k s.size).size := by omega
  have hxm : (s.extract k s.size).size ≤ maxLen := by unfold maxLen; omega
  have hget := ext_get0 s k hk hx0
  have hw : wordOf (s.data.toList.drop k) = if isLetter (s[k]'hk).toNat then (if 12 < (leadOf lod (s.data.toList.drop k)).length then .error 3 else .ok (leadOf lod (s.data.toList.drop k)))
      else if isDigit (s[k]'hk).toNat then (match valueFrom 0 (leadOf isDigit (s.data.toList.drop k)) with | none => .error 3 | some _ => .ok (leadOf isDigit (s.data.toList.drop k)))
      else if signOf (s.data.toList.drop k) = [] then .error 1 else .ok (signOf (s.data.toList.drop k)) := by
    unfold wordOf; rw [headD_drop s k hk]; rfl
  have hw32 := wrap32_byte (s[k]'hk)
  have HSC := hide hsc
  clear hsc
  cases hl : isLetter (s[k]'hk).toNat
  · rw [hl, if_neg (by simp)] at hw
    cases hd : isDigit (s[k]'hk).toNat
    · rw [hd, if_neg (by simp)] at hw
      cases hsg : (signOf (s.data.toList.drop k)).isEmpty
      · have hne : signOf (s.data.toList.drop k) ≠ [] := by intro e; rw [e] at hsg; cases hsg
        rw [if_neg hne] at hw
        have HW := hide hw
        have HG := hide hsg
        clear hw hxs hsg hne
        go_enter Tryd.func34, Tryd.ntmps34
        go_wp2_with (first | (go_at_call 43; refine (rest_any b s k _ hsm hk' c0 c1).mono ?_; rintro e w1 ⟨rfl, nr, rfl⟩) | (go_at_call 36; refine (letter_any _ _).mono ?_; rintro e w' ⟨rfl, rfl⟩; simp only [hl]) | (go_at_call 37; refine (digit_any _ _).mono ?_; rintro e w' ⟨rfl, rfl⟩; simp only [hd]))
        refine (sign_any _ _ hxm hx0).mono ?_
        rintro e w2 ⟨y, rfl, hy, rfl⟩
        have hemp : y.toList.isEmpty = false := by rw [bs_toList, hy, bs_drop]; exact HG.out
        have HY := hide hy
        clear hy
        go_wp2
        go_ret
        refine ⟨fun x hx => ?_, fun n hn => ?_⟩
        · rw [HW.out] at hx
          cases hx
          exact ⟨y, rfl, by rw [HY.out, bs_drop], gb_drewN (gb_refl _ _) _⟩
        · rw [HW.out] at hn; cases hn
      · have hne : signOf (s.data.toList.drop k) = [] := by simpa using hsg
        rw [if_pos hne] at hw
        have HW := hide hw
        have HG := hide hsg
        clear hw hxs hsg hne
        go_enter Tryd.func34, Tryd.ntmps34
        go_wp2_with (first | (go_at_call 43; refine (rest_any b s k _ hsm hk' c0 c1).mono ?_; rintro e w1 ⟨rfl, nr, rfl⟩) | (go_at_call 36; refine (letter_any _ _).mono ?_; rintro e w' ⟨rfl, rfl⟩; simp only [hl]) | (go_at_call 37; refine (digit_any _ _).mono ?_; rintro e w' ⟨rfl, rfl⟩; simp only [hd]))
        refine (sign_any _ _ hxm hx0).mono ?_
        rintro e w2 ⟨y, rfl, hy, rfl⟩
        have hemp : y.toList.isEmpty = true := by rw [bs_toList, hy, bs_drop]; exact HG.out
        clear hy
        go_wp2_with (go_at_call 47; refine (throw_any _ _ _ _).mono ?_; rintro e w' ⟨rfl, rfl⟩)
        refine ⟨rfl, fun x hx => ?_, fun n hn => ?_⟩
        · rw [HW.out] at hx; cases hx
        · rw [HW.out] at hn
          cases hn
          exact ⟨threw_new (Nat.le_refl _), gb_alloc (gb_drewN (gb_refl _ _) _) _⟩
    · rw [hd, if_pos rfl] at hw
      have hne : (leadOf isDigit (s.data.toList.drop k)).isEmpty = false := by rw [drop_at s k hk]; exact leadOf_ne hd
      cases hv : valueFrom 0 (leadOf isDigit (s.data.toList.drop k)) with
      | none =>
        rw [hv] at hw
        have HW := hide hw
        have HV := hide hv
        have HN := hide hne
        clear hw hxs hv hne
        go_enter Tryd.func34, Tryd.ntmps34
        go_wp2_with (first | (go_at_call 43; refine (rest_any b s k _ hsm hk' c0 c1).mono ?_; rintro e w1 ⟨rfl, nr, rfl⟩) | (go_at_call 36; refine (letter_any _ _).mono ?_; rintro e w' ⟨rfl, rfl⟩; simp only [hl]) | (go_at_call 37; refine (digit_any _ _).mono ?_; rintro e w' ⟨rfl, rfl⟩; simp only [hd]))
        refine (lead_digit _ _ hxm).mono ?_
        rintro e w2 ⟨x, rfl, hx, hg⟩
        rw [bs_drop] at hx
        have hs2 := (HSC.out.drewN nr).kept hg (by simp)
        have HG := hide hg
        have HX := hide hx
        have HS2 := hide hs2
        clear hx hg hs2 c0 c1
        go_wp2_with fail
        refine (value_any x _ (by unfold maxLen; have := congrArg List.length HX.out; rw [← bs_size] at this; have h2 := leadOf_len isDigit (s.data.toList.drop k); rw [List.length_drop, ← bs_size] at h2; omega) (by rw [HX.out]; exact HN.out) (fun j h => by have := mem_get x j h; rw [HX.out] at this; exact leadOf_all this)).mono ?_
        rintro e w3 ⟨he, hg3⟩
        rw [HX.out, HV.out] at he
        simp only [valueAns] at he
        subst he
        have d1 := (HS2.out.kept hg3 (by simp)).c1
        have HG3 := hide hg3
        clear hg3
        go_wp2_with (go_at_call 47; refine (throw_any _ _ _ _).mono ?_; rintro e w' ⟨rfl, rfl⟩)
        have hgg := gb_trans (gb_trans (gb_drewN (gb_refl w none) nr) HG.out) HG3.out
        refine ⟨rfl, fun x hx => ?_, fun n hn => ?_⟩
        · rw [HW.out] at hx; cases hx
        · rw [HW.out] at hn
          cases hn
          exact ⟨threw_new' hgg.size, gb_alloc hgg _⟩
      | some v =>
        rw [hv] at hw
        have HW := hide hw
        have HV := hide hv
        have HN := hide hne
        clear hw hxs hv hne
        go_enter Tryd.func34, Tryd.ntmps34
        go_wp2_with (first | (go_at_call 43; refine (rest_any b s k _ hsm hk' c0 c1).mono ?_; rintro e w1 ⟨rfl, nr, rfl⟩) | (go_at_call 36; refine (letter_any _ _).mono ?_; rintro e w' ⟨rfl, rfl⟩; simp only [hl]) | (go_at_call 37; refine (digit_any _ _).mono ?_; rintro e w' ⟨rfl, rfl⟩; simp only [hd]))
        refine (lead_digit _ _ hxm).mono ?_
        rintro e w2 ⟨x, rfl, hx, hg⟩
        rw [bs_drop] at hx
        have HG := hide hg
        have HX := hide hx
        clear hx hg c0 c1
        go_wp2_with fail
        refine (value_any x _ (by unfold maxLen; have := congrArg List.length HX.out; rw [← bs_size] at this; have h2 := leadOf_len isDigit (s.data.toList.drop k); rw [List.length_drop, ← bs_size] at h2; omega) (by rw [HX.out]; exact HN.out) (fun j h => by have := mem_get x j h; rw [HX.out] at this; exact leadOf_all this)).mono ?_
        rintro e w3 ⟨he, hg3⟩
        rw [HX.out, HV.out] at he
        simp only [valueAns] at he
        subst he
        have HG3 := hide hg3
        clear hg3
        go_wp2
        go_ret
        have hgg := gb_trans (gb_trans (gb_drewN (gb_refl w none) nr) HG.out) HG3.out
        refine ⟨fun y hy => ?_, fun n hn => ?_⟩
        · rw [HW.out] at hy
          cases hy
          exact ⟨x, rfl, HX.out, hgg⟩
        · rw [HW.out] at hn; cases hn
  · rw [hl, if_pos rfl] at hw
    obtain ⟨m, hm⟩ : ∃ m, m = (leadOf lod (s.data.toList.drop k)).length := ⟨_, rfl⟩
    have HM := hide hm
    rw [← hm] at hw
    clear hm
    by_cases hlen : 12 < m
    · rw [if_pos hlen] at hw
      have HW := hide hw
      clear hw hxs
      go_enter Tryd.func34, Tryd.ntmps34
      go_wp2_with (first | (go_at_call 43; refine (rest_any b s k _ hsm hk' c0 c1).mono ?_; rintro e w1 ⟨rfl, nr, rfl⟩) | (go_at_call 36; refine (letter_any _ _).mono ?_; rintro e w' ⟨rfl, rfl⟩; simp only [hl]))
      refine (lead_lod _ _ hxm).mono ?_
      rintro e w2 ⟨x, rfl, hx, hg⟩
      rw [bs_drop] at hx
      have hxl : x.size = m := by rw [bs_size, hx]; exact HM.out.symm
      have d1 := ((HSC.out.drewN nr).kept hg (by simp)).c1
      have HG := hide hg
      clear hx hg c0 c1
      go_wp2_with (go_at_call 47; refine (throw_any _ _ _ _).mono ?_; rintro e w' ⟨rfl, rfl⟩)
      have hgg := gb_trans (gb_drewN (gb_refl w none) nr) HG.out
      refine ⟨rfl, fun x hx => ?_, fun n hn => ?_⟩
      · rw [HW.out] at hx; cases hx
      · rw [HW.out] at hn
        cases hn
        exact ⟨threw_new' hgg.size, gb_alloc hgg _⟩
    · rw [if_neg hlen] at hw
      have HW := hide hw
      clear hw hxs
      go_enter Tryd.func34, Tryd.ntmps34
      go_wp2_with (first | (go_at_call 43; refine (rest_any b s k _ hsm hk' c0 c1).mono ?_; rintro e w1 ⟨rfl, nr, rfl⟩) | (go_at_call 36; refine (letter_any _ _).mono ?_; rintro e w' ⟨rfl, rfl⟩; simp only [hl]))
      refine (lead_lod _ _ hxm).mono ?_
      rintro e w2 ⟨x, rfl, hx, hg⟩
      rw [bs_drop] at hx
      have hxl : x.size = m := by rw [bs_size, hx]; exact HM.out.symm
      have HG := hide hg
      have HX := hide hx
      clear hx hg c0 c1
      go_wp2
      go_ret
      have hgg := gb_trans (gb_drewN (gb_refl w none) nr) HG.out
      refine ⟨fun y hy => ?_, fun n hn => ?_⟩
      · rw [HW.out] at hy
        cases hy
        exact ⟨x, rfl, HX.out, hgg⟩
      · rw [HW.out] at hn; cases hn

end Go.Proofs.YtiphmnffjdgdmaaDoor
