/- The law TopWords: its one call answers true, whatever the text, and memory that was there stays as it was. -/
import Derived.Test.YtiphmnffjdgdmaaScan3
import Derived.Test.YtiphmnffjdgdmaaTopSpec
namespace Go.Proofs.Ytiphmnffjdgdmaa
open Go.RowKit

def smallT : List UInt8 := [77, 79, 68, 85, 76, 69, 32, 77, 59, 32, 66, 69, 71, 73, 78, 32, 79, 85, 84, 40, 49, 41, 32, 69, 78, 68, 32, 77, 46]
theorem small_toks : ∃ l, toks smallT = .ok l ∧ l.length = 12 := by
  have h : (match toks smallT with | .ok l => l.length | .error _ => 0) = 12 := by decide +kernel
  cases ht : toks smallT with
  | error x => rw [ht] at h; cases h
  | ok l => rw [ht] at h; exact ⟨l, rfl, h⟩

theorem below_gb {w w' : World} (h : Below w.heap.size w w') (row : Option Nat) : w.grownBy w' row := ⟨h.os, h.tape, h.output, h.size, fun i hi _ => h.block i hi⟩

theorem own_shape {w : World} {base : Nat} {e : TypeId} {size : Nat} {v : Value} {n : Nat} {xs : List Value} (h : w.ownsRow base e size v n xs) (hn : n ≠ 0) : ∃ g cap, v = .slice (some ⟨g, 0, none⟩) n cap := by
  rcases h.2 with ⟨_, h0⟩ | ⟨g, cap, cur, hv, _⟩
  · exact absurd h0 hn
  · exact ⟨g, cap, hv⟩

theorem toks_ne {t : List UInt8} {l : List (List UInt8 × List UInt8)} (h : toks t = .ok l) : l.length ≠ 0 := by
  obtain ⟨⟨ws, h1, _⟩, _⟩ := toksN_good (t.length + 1) t l (by omega) h
  have := congrArg List.length h1
  simp at this
  omega

set_option maxRecDepth 1000000 in
set_option maxHeartbeats 2000000 in
theorem top_error (s : ByteArray) (cm : Bool) (w : World) (hs : s.size ≤ 1000) (n : Nat) (f : List UInt8) (ht : toks s.data.toList = .error (n, f)) :
    Calls Try.prog 3 #[.string s, .bool cm] w fun e w' => e = .returned (.bool true) ∧ Below w.heap.size w w' := by
  have HT := hide ht
  clear ht
  go_enter Try.func3, Try.ntmps3
  go_wp2_with fail
  refine (tokens_any s _ (by unfold maxLen; omega)).mono ?_
  rintro e w1 ⟨h1, h2, hE, hb1⟩
  clear h1 h2
  obtain ⟨q, rfl, h1⟩ := hE (by rw [← bs_size]; omega) n f HT.out
  clear hE h1
  have HB1 := hide hb1
  clear hb1
  go_wp2_with fail
  refine (tokens_any _ _ (by unfold maxLen; decide)).mono ?_
  rintro e w2 ⟨h1, hO, h2, hb2⟩
  clear h1 h2
  obtain ⟨l0, hl0, hn0⟩ := small_toks
  obtain ⟨v0, rfl, hown0⟩ := hO (by decide) l0 hl0
  rw [hn0] at hown0
  obtain ⟨g0, cap0, rfl⟩ := own_shape hown0 (by decide)
  have HB2 := hide hb2
  clear hb2 hO hown0 hl0 hn0
  go_wp2
  go_ret
  exact ⟨rfl, HB1.out.trans (HB2.out.mono HB1.out.size)⟩

theorem flatT_word {n : Nat} {l : List (List UInt8 × List UInt8)} {i : Nat} (h : i < l.length) : (flatT n l)[i * 2]? = some (.string ⟨(l[i]).1.toArray⟩) ∧ (flatT n l)[i * 2 + 1]? = some (.int .i64 ((n - (l[i]).2.length : Nat) : Int)) := by
  induction l generalizing i with
  | nil => simp at h
  | cons a l ih =>
    have e : flatT n (a :: l) = .string ⟨a.1.toArray⟩ :: .int .i64 ((n - a.2.length : Nat) : Int) :: flatT n l := rfl
    cases i with
    | zero => rw [e]; simp
    | succ i =>
      have := ih (i := i) (by simpa using h)
      rw [e, show (i + 1) * 2 = i * 2 + 1 + 1 from by omega]
      simpa using this

theorem ba_append (x y : ByteArray) : (x ++ y).data.toList = x.data.toList ++ y.data.toList := by simp

theorem same_first {l l' : List (List UInt8 × List UInt8)} (h : l'.map (·.1) = l.map (·.1)) (k : Nat) (h1 : k < l'.length) (h2 : k < l.length) : (l'[k]).1 = (l[k]).1 := by
  have e1 : (l'.map (·.1))[k]'(by simpa using h1) = (l'[k]).1 := by simp
  have e2 : (l.map (·.1))[k]'(by simpa using h2) = (l[k]).1 := by simp
  rw [← e1, ← e2]
  simp only [h]

theorem joinW_snoc (sep : List UInt8) (ws : List (List UInt8)) (w : List UInt8) : joinW sep (ws ++ [w]) = joinW sep ws ++ w ++ sep := by simp [joinW]

theorem map_take_snoc {l : List (List UInt8 × List UInt8)} {k : Nat} (h : k < l.length) : (l.take (k + 1)).map (·.1) = (l.take k).map (·.1) ++ [(l[k]).1] := by
  rw [List.take_succ_eq_append_getElem h, List.map_append]; rfl

set_option maxRecDepth 1000000 in
set_option maxHeartbeats 2000000 in
theorem top_blank (s : ByteArray) (w : World) (hs : s.size ≤ 1000) (l : List (List UInt8 × List UInt8)) (ht : toks s.data.toList = .ok l) :
    Calls Try.prog 3 #[.string s, .bool false] w fun e w' => e = .returned (.bool true) ∧ Below w.heap.size w w' := by
  have HT := hide ht
  have hne := toks_ne ht
  have hcnt := toks_count ht
  rw [← bs_size] at hcnt
  have HIN := hide (toks_in ht)
  clear ht
  go_enter Try.func3, Try.ntmps3
  go_wp2_with fail
  refine (tokens_any s _ (by unfold maxLen; omega)).mono ?_
  rintro e w1 ⟨h1, hO, h2, hb1⟩
  clear h1 h2
  obtain ⟨v1, hv1, hown1⟩ := hO (by rw [← bs_size]; omega) l HT.out
  obtain ⟨g1, cap1, rfl⟩ := own_shape hown1 hne
  subst hv1
  have HB1 := hide hb1
  have HO1 := hide hown1
  clear hO hb1 hown1
  go_wp2_with fail
  refine (tokens_any _ _ (by unfold maxLen; decide)).mono ?_
  rintro e w2 ⟨h1, hO, h2, hb2⟩
  clear h1 h2
  obtain ⟨l0, hl0, hn0⟩ := small_toks
  obtain ⟨v0, rfl, hown0⟩ := hO (by decide) l0 hl0
  rw [hn0] at hown0
  obtain ⟨g0, cap0, rfl⟩ := own_shape hown0 (by decide)
  have HO2 := hide (HO1.out.kept (below_gb hb2 none) (.inr (by simp [Value.ownBlock])))
  have HB2 := hide (HB1.out.trans (hb2.mono HB1.out.size))
  clear hb2 hO hown0 hl0 hn0 HB1 HO1
  go_wp2
  go_loopw [10, 11] (fun sv iv wr => ∃ (k : Nat) (x : ByteArray), k ≤ l.length ∧ iv = .int .i64 k ∧ sv = .string x ∧ Hid (x.data.toList = joinW blankSep ((l.take k).map (·.1))) ∧ x.size ≤ k * 1010 ∧ ∃ n, wr = w2.drewN n) (fun _ iv _ => l.length - (intOf iv).toNat)
  case atStart => exact ⟨0, ⟨#[]⟩, Nat.zero_le _, rfl, rfl, rfl, Nat.zero_le _, 0, rfl⟩
  case round =>
    obtain ⟨k, x, hk, rfl, rfl, HX, hxs, nd, rfl⟩ := hrel
    by_cases hlt : k < l.length
    · obtain ⟨c0, c1⟩ := flatT_word (n := s.data.toList.length) hlt
      have d0 := (HO2.out.cellAt (k * 2) (by omega)).trans c0
      have d1 := (HO2.out.cellAt (k * 2 + 1) (by omega)).trans c1
      have hin := HIN.out _ (List.getElem_mem hlt)
      obtain ⟨p, hp⟩ : ∃ p, p = s.data.toList.length - (l[k]).2.length := ⟨_, rfl⟩
      obtain ⟨y, hy⟩ : ∃ y : ByteArray, y = ⟨(l[k]).1.toArray⟩ := ⟨_, rfl⟩
      rw [← hp] at d1
      rw [← hy] at d0
      have hyl : y.size = (l[k]).1.length := by rw [hy]; simp [ByteArray.size]
      have hpy : p + y.size ≤ s.size := by rw [bs_size s, hyl]; omega
      have HY := hide hy
      clear c0 c1 hp hy hyl hin
      have hx2 : x.size ≤ 2000000 := by omega
      have hy2 : y.size ≤ 1000 := by omega
      have HN : Hid ((x ++ y ++ (⟨#[32]⟩ : ByteArray)).data.toList = joinW blankSep ((l.take (k + 1)).map (·.1))) := by
        rw [map_take_snoc hlt, joinW_snoc, ← HX.out]
        show ((x ++ y) ++ (⟨#[32]⟩ : ByteArray)).data.toList = _
        rw [ba_append, ba_append, HY.out]
        rfl
      have hns : (x ++ y ++ (⟨#[32]⟩ : ByteArray)).size ≤ (k + 1) * 1010 := by
        rw [ByteArray.size_append, ByteArray.size_append]
        have : ((⟨#[32]⟩ : ByteArray)).size ≤ 10 := by decide
        omega
      have HNS := hide hns
      clear hns
      by_cases hat : 0 < p
      all_goals
        go_wp2_with fail
        go_quiet (fail)
        go_wp2
        exact ⟨⟨k + 1, _, by omega, by go_num, rfl, HN, HNS.out, _, rfl⟩, by simp [intOf]; omega⟩
    · have hk2 : k = l.length := by omega
      have hmt : (l.take k).map (fun x : List UInt8 × List UInt8 => x.1) = l.map (·.1) := by rw [hk2, List.take_length]
      have HF : Hid (x.data.toList = joinW blankSep (l.map (·.1))) := by
        rw [← hmt]; exact HX.out
      clear hk2 hmt HX
      by_cases hbig : 4000 < x.size
      · go_wp2
        go_ret
        exact ⟨rfl, below_drewN HB2.out _⟩
      · have hx4 : x.size ≤ 4000 := by omega
        clear hbig
        go_wp2_with fail
        refine (tokens_any x _ (by unfold maxLen; omega)).mono ?_
        rintro e w3 ⟨h1, hO, h2, hb3⟩
        clear h1 h2
        obtain ⟨l', hl', hm'⟩ := toks_join blank_sep HT.out
        have hlen : l'.length = l.length := by have := congrArg List.length hm'; simpa using this
        obtain ⟨v3, hv3, hown3⟩ := hO (by rw [← bs_size]; exact hx4) l' (by rw [HF.out]; exact hl')
        rw [hlen] at hown3
        obtain ⟨g3, cap3, rfl⟩ := own_shape hown3 hne
        subst hv3
        have HO4 := hide ((owns_drewN HO2.out nd).kept (below_gb hb3 none) (.inr (by simp [Value.ownBlock])))
        have HB4 := hide ((below_drewN HB2.out nd).trans (hb3.mono (below_drewN HB2.out nd).size))
        have HO3 := hide hown3
        have HM := hide hm'
        have HL := hide hlen
        clear hO hb3 hl' hm' hlen hown3 HO2 HB2 HF HT
        go_wp2
        go_loopw [13] (fun iv wr => ∃ k : Nat, k ≤ l.length ∧ iv = .int .i64 k ∧ ∃ n, wr = w3.drewN n) (fun iv _ => l.length - (intOf iv).toNat)
        case atStart => exact ⟨0, Nat.zero_le _, rfl, 0, rfl⟩
        case round =>
          obtain ⟨k2, hkk, rfl, n2, rfl⟩ := hrel
          by_cases hl2 : k2 < l.length
          · obtain ⟨c0, c1⟩ := flatT_word (n := s.data.toList.length) hl2
            obtain ⟨c2, c3⟩ := flatT_word (n := x.data.toList.length) (l := l') (i := k2) (by rw [HL.out]; exact hl2)
            have d0 := (HO4.out.cellAt (k2 * 2) (by omega)).trans c0
            have d2 := (HO3.out.cellAt (k2 * 2) (by omega)).trans c2
            have hsame : (l'[k2]'(by rw [HL.out]; exact hl2)).1 = (l[k2]).1 := same_first HM.out k2 _ hl2
            rw [hsame] at d2
            obtain ⟨y, hy⟩ : ∃ y : ByteArray, y = ⟨(l[k2]).1.toArray⟩ := ⟨_, rfl⟩
            rw [← hy] at d0 d2
            clear c0 c1 c2 c3 hsame hy
            go_wp2_with fail
            go_quiet (fail)
            go_wp2
            exact ⟨⟨k2 + 1, by omega, by go_num, _, rfl⟩, by simp [intOf]; omega⟩
          · go_wp2
            go_ret
            exact ⟨rfl, below_drewN HB4.out _⟩

set_option maxRecDepth 1000000 in
set_option maxHeartbeats 2000000 in
theorem top_comment (s : ByteArray) (w : World) (hs : s.size ≤ 1000) (l : List (List UInt8 × List UInt8)) (ht : toks s.data.toList = .ok l) :
    Calls Try.prog 3 #[.string s, .bool true] w fun e w' => e = .returned (.bool true) ∧ Below w.heap.size w w' := by
  have HT := hide ht
  have hne := toks_ne ht
  have hcnt := toks_count ht
  rw [← bs_size] at hcnt
  have HIN := hide (toks_in ht)
  clear ht
  go_enter Try.func3, Try.ntmps3
  go_wp2_with fail
  refine (tokens_any s _ (by unfold maxLen; omega)).mono ?_
  rintro e w1 ⟨h1, hO, h2, hb1⟩
  clear h1 h2
  obtain ⟨v1, hv1, hown1⟩ := hO (by rw [← bs_size]; omega) l HT.out
  obtain ⟨g1, cap1, rfl⟩ := own_shape hown1 hne
  subst hv1
  have HB1 := hide hb1
  have HO1 := hide hown1
  clear hO hb1 hown1
  go_wp2_with fail
  refine (tokens_any _ _ (by unfold maxLen; decide)).mono ?_
  rintro e w2 ⟨h1, hO, h2, hb2⟩
  clear h1 h2
  obtain ⟨l0, hl0, hn0⟩ := small_toks
  obtain ⟨v0, rfl, hown0⟩ := hO (by decide) l0 hl0
  rw [hn0] at hown0
  obtain ⟨g0, cap0, rfl⟩ := own_shape hown0 (by decide)
  have HO2 := hide (HO1.out.kept (below_gb hb2 none) (.inr (by simp [Value.ownBlock])))
  have HB2 := hide (HB1.out.trans (hb2.mono HB1.out.size))
  clear hb2 hO hown0 hl0 hn0 HB1 HO1
  go_wp2
  go_loopw [10, 11] (fun sv iv wr => ∃ (k : Nat) (x : ByteArray), k ≤ l.length ∧ iv = .int .i64 k ∧ sv = .string x ∧ Hid (x.data.toList = joinW commentSep ((l.take k).map (·.1))) ∧ x.size ≤ k * 1010 ∧ ∃ n, wr = w2.drewN n) (fun _ iv _ => l.length - (intOf iv).toNat)
  case atStart => exact ⟨0, ⟨#[]⟩, Nat.zero_le _, rfl, rfl, rfl, Nat.zero_le _, 0, rfl⟩
  case round =>
    obtain ⟨k, x, hk, rfl, rfl, HX, hxs, nd, rfl⟩ := hrel
    by_cases hlt : k < l.length
    · obtain ⟨c0, c1⟩ := flatT_word (n := s.data.toList.length) hlt
      have d0 := (HO2.out.cellAt (k * 2) (by omega)).trans c0
      have d1 := (HO2.out.cellAt (k * 2 + 1) (by omega)).trans c1
      have hin := HIN.out _ (List.getElem_mem hlt)
      obtain ⟨p, hp⟩ : ∃ p, p = s.data.toList.length - (l[k]).2.length := ⟨_, rfl⟩
      obtain ⟨y, hy⟩ : ∃ y : ByteArray, y = ⟨(l[k]).1.toArray⟩ := ⟨_, rfl⟩
      rw [← hp] at d1
      rw [← hy] at d0
      have hyl : y.size = (l[k]).1.length := by rw [hy]; simp [ByteArray.size]
      have hpy : p + y.size ≤ s.size := by rw [bs_size s, hyl]; omega
      have HY := hide hy
      clear c0 c1 hp hy hyl hin
      have hx2 : x.size ≤ 2000000 := by omega
      have hy2 : y.size ≤ 1000 := by omega
      have HN : Hid ((x ++ y ++ (⟨#[40, 42, 32, 40, 42, 42, 41, 32, 42, 41]⟩ : ByteArray)).data.toList = joinW commentSep ((l.take (k + 1)).map (·.1))) := by
        rw [map_take_snoc hlt, joinW_snoc, ← HX.out]
        show ((x ++ y) ++ (⟨#[40, 42, 32, 40, 42, 42, 41, 32, 42, 41]⟩ : ByteArray)).data.toList = _
        rw [ba_append, ba_append, HY.out]
        rfl
      have hns : (x ++ y ++ (⟨#[40, 42, 32, 40, 42, 42, 41, 32, 42, 41]⟩ : ByteArray)).size ≤ (k + 1) * 1010 := by
        rw [ByteArray.size_append, ByteArray.size_append]
        have : ((⟨#[40, 42, 32, 40, 42, 42, 41, 32, 42, 41]⟩ : ByteArray)).size ≤ 10 := by decide
        omega
      have HNS := hide hns
      clear hns
      by_cases hat : 0 < p
      all_goals
        go_wp2_with fail
        go_quiet (fail)
        go_wp2
        exact ⟨⟨k + 1, _, by omega, by go_num, rfl, HN, HNS.out, _, rfl⟩, by simp [intOf]; omega⟩
    · have hk2 : k = l.length := by omega
      have hmt : (l.take k).map (fun x : List UInt8 × List UInt8 => x.1) = l.map (·.1) := by rw [hk2, List.take_length]
      have HF : Hid (x.data.toList = joinW commentSep (l.map (·.1))) := by
        rw [← hmt]; exact HX.out
      clear hk2 hmt HX
      by_cases hbig : 4000 < x.size
      · go_wp2
        go_ret
        exact ⟨rfl, below_drewN HB2.out _⟩
      · have hx4 : x.size ≤ 4000 := by omega
        clear hbig
        go_wp2_with fail
        refine (tokens_any x _ (by unfold maxLen; omega)).mono ?_
        rintro e w3 ⟨h1, hO, h2, hb3⟩
        clear h1 h2
        obtain ⟨l', hl', hm'⟩ := toks_join comment_sep HT.out
        have hlen : l'.length = l.length := by have := congrArg List.length hm'; simpa using this
        obtain ⟨v3, hv3, hown3⟩ := hO (by rw [← bs_size]; exact hx4) l' (by rw [HF.out]; exact hl')
        rw [hlen] at hown3
        obtain ⟨g3, cap3, rfl⟩ := own_shape hown3 hne
        subst hv3
        have HO4 := hide ((owns_drewN HO2.out nd).kept (below_gb hb3 none) (.inr (by simp [Value.ownBlock])))
        have HB4 := hide ((below_drewN HB2.out nd).trans (hb3.mono (below_drewN HB2.out nd).size))
        have HO3 := hide hown3
        have HM := hide hm'
        have HL := hide hlen
        clear hO hb3 hl' hm' hlen hown3 HO2 HB2 HF HT
        go_wp2
        go_loopw [13] (fun iv wr => ∃ k : Nat, k ≤ l.length ∧ iv = .int .i64 k ∧ ∃ n, wr = w3.drewN n) (fun iv _ => l.length - (intOf iv).toNat)
        case atStart => exact ⟨0, Nat.zero_le _, rfl, 0, rfl⟩
        case round =>
          obtain ⟨k2, hkk, rfl, n2, rfl⟩ := hrel
          by_cases hl2 : k2 < l.length
          · obtain ⟨c0, c1⟩ := flatT_word (n := s.data.toList.length) hl2
            obtain ⟨c2, c3⟩ := flatT_word (n := x.data.toList.length) (l := l') (i := k2) (by rw [HL.out]; exact hl2)
            have d0 := (HO4.out.cellAt (k2 * 2) (by omega)).trans c0
            have d2 := (HO3.out.cellAt (k2 * 2) (by omega)).trans c2
            have hsame : (l'[k2]'(by rw [HL.out]; exact hl2)).1 = (l[k2]).1 := same_first HM.out k2 _ hl2
            rw [hsame] at d2
            obtain ⟨y, hy⟩ : ∃ y : ByteArray, y = ⟨(l[k2]).1.toArray⟩ := ⟨_, rfl⟩
            rw [← hy] at d0 d2
            clear c0 c1 c2 c3 hsame hy
            go_wp2_with fail
            go_quiet (fail)
            go_wp2
            exact ⟨⟨k2 + 1, by omega, by go_num, _, rfl⟩, by simp [intOf]; omega⟩
          · go_wp2
            go_ret
            exact ⟨rfl, below_drewN HB4.out _⟩


set_option maxHeartbeats 400000 in
theorem top_long (s : ByteArray) (cm : Bool) (w : World) (hs : s.size ≤ maxLen) (hl : 1000 < s.size) :
    Calls Try.prog 3 #[.string s, .bool cm] w fun e w' => e = .returned (.bool true) ∧ Below w.heap.size w w' := by
  unfold maxLen at hs
  go_enter Try.func3, Try.ntmps3
  go_wp2
  go_ret
  exact ⟨rfl, Below.refl _ _⟩

/-- TopWords at every text. -/
theorem top_any (s : ByteArray) (cm : Bool) (w : World) (hs : s.size ≤ maxLen) :
    Calls Try.prog 3 #[.string s, .bool cm] w fun e w' => e = .returned (.bool true) ∧ Below w.heap.size w w' := by
  by_cases hl : 1000 < s.size
  · exact top_long s cm w hs hl
  · cases ht : toks s.data.toList with
    | error x => exact top_error s cm w (by omega) x.1 x.2 ht
    | ok l =>
      cases cm
      · exact top_blank s w (by omega) l ht
      · exact top_comment s w (by omega) l ht

end Go.Proofs.Ytiphmnffjdgdmaa
