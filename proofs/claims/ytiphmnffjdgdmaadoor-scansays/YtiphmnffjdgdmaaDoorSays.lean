/- The law ScanSays: its one call answers true, whatever the text, and memory that was there stays as it was. -/
import Derived.Test.YtiphmnffjdgdmaaDoorWords
import Derived.Test.YtiphmnffjdgdmaaDoorIs
import Derived.Laws.StructEq
namespace Go.Proofs.YtiphmnffjdgdmaaDoor
open Go.RowKit

theorem flatT_word {n : Nat} {l : List (List UInt8 × List UInt8)} {i : Nat} (h : i < l.length) : (flatT n l)[i * 2]? = some (.string ⟨(l[i]).1.toArray⟩) ∧ (flatT n l)[i * 2 + 1]? = some (.int .i64 ((n - (l[i]).2.length : Nat) : Int)) := by
  induction l generalizing i with
  | nil => simp at h
  | cons a l ih =>
    have e : flatT n (a :: l) = .string ⟨a.1.toArray⟩ :: .int .i64 ((n - a.2.length : Nat) : Int) :: flatT n l := rfl
    cases i with
    | zero => rw [e]; simp
    | succ i =>
      have := ih (i := i) (by simpa using h)
      rw [e, show (i + 1) * 2 = i * 2 + 1 + 1 from by omega]
      simpa using this

theorem below_gb {w w' : World} (h : Below w.heap.size w w') (row : Option Nat) : w.grownBy w' row := ⟨h.os, h.tape, h.output, h.size, fun i hi _ => h.block i hi⟩

theorem own_shape {w : World} {base : Nat} {e : TypeId} {size : Nat} {v : Value} {n : Nat} {xs : List Value} (h : w.ownsRow base e size v n xs) (hn : n ≠ 0) : ∃ g cap, v = .slice (some ⟨g, 0, none⟩) n cap := by
  rcases h.2 with ⟨_, h0⟩ | ⟨g, cap, cur, hv, _⟩
  · exact absurd h0 hn
  · exact ⟨g, cap, hv⟩

theorem toksN_ne : ∀ (n : Nat) (r : List UInt8) (l : List (List UInt8 × List UInt8)), r.length < n → toksN n r = .ok l → l.length ≠ 0 ∧ l.length ≤ r.length + 1
  | 0, r, l, hn, h => by omega
  | n + 1, r, l, hn, h => by
    rw [toksN_succ] at h
    cases hk : skp r with
    | error f => rw [hk] at h; cases h
    | ok r1 =>
      rw [hk] at h
      obtain ⟨p, hp⟩ := skp_suffix hk
      have hlen := congrArg List.length hp
      simp only [List.length_append] at hlen
      cases r1 with
      | nil => cases h; simp
      | cons c r1 =>
        simp only [tokA] at h
        cases hw : wordOf (c :: r1) with
        | error e => rw [hw] at h; cases h
        | ok w =>
          rw [hw] at h
          simp only at h
          obtain ⟨_, hpos⟩ := wordOf_pre hw
          have hwl := wordOf_len hw
          have hdl : ((c :: r1).drop w.length).length = (c :: r1).length - w.length := List.length_drop
          cases ht : toksN n ((c :: r1).drop w.length) with
          | error x => rw [ht] at h; cases h
          | ok l1 =>
            rw [ht] at h
            cases h
            have := toksN_ne n _ l1 (by omega) ht
            show ([(w, c :: r1)] ++ l1).length ≠ 0 ∧ ([(w, c :: r1)] ++ l1).length ≤ _
            rw [List.length_append, List.length_singleton]
            omega

theorem huge_no (s : ByteArray) (w : World) (hs : s.size ≤ maxLen) (hl : ¬ 4200 < s.size) :
    Calls Tryd.prog 7 #[.string s] w fun e w' => e = .returned (.bool false) ∧ w' = w := by
  unfold maxLen at hs
  go_enter Tryd.func7, Tryd.ntmps7
  go_wp2
  go_ret
  exact ⟨by simp; omega, rfl⟩
theorem huge_yes (s : ByteArray) (w : World) (hs : s.size ≤ maxLen) (hl : 4200 < s.size) :
    Calls Tryd.prog 7 #[.string s] w fun e w' => e = .returned (.bool true) ∧ w' = w := by
  unfold maxLen at hs
  go_enter Tryd.func7, Tryd.ntmps7
  go_wp2
  go_ret
  exact ⟨by simp; omega, rfl⟩

def WordsSaid : Prop := ∀ (s : ByteArray) (w : World), s.size ≤ maxLen → Calls Tryd.prog 8 #[.string s] w fun e w' => WordsPost s.data.toList w e w'

set_option maxHeartbeats 400000 in
theorem says_huge (s : ByteArray) (w : World) (hs : s.size ≤ maxLen) (hl : 4200 < s.size) :
    Calls Tryd.prog 4 #[.string s] w fun e w' => e = .returned (.bool true) ∧ Below w.heap.size w w' := by
  go_enter Tryd.func4, Tryd.ntmps4
  go_wp2_with (go_at_call 7; refine (huge_yes _ _ hs hl).mono ?_; rintro e w' ⟨rfl, rfl⟩)
  go_ret
  exact ⟨rfl, Below.refl _ _⟩

set_option maxRecDepth 1000000 in
set_option maxHeartbeats 1000000 in
theorem says_long (hwd : WordsSaid) (s : ByteArray) (w : World) (hg : HasErr w) (hs : s.size ≤ maxLen) (hl : 4000 < s.size) (hl2 : ¬ 4200 < s.size) :
    Calls Tryd.prog 4 #[.string s] w fun e w' => e = .returned (.bool true) ∧ Below w.heap.size w w' := by
  have hG := lt_of_cell hg
  simp only at hG
  have HG := hide hg
  clear hg
  go_enter Tryd.func4, Tryd.ntmps4
  go_wp2_with (go_at_call 7; refine (huge_no _ _ hs hl2).mono ?_; rintro e w' ⟨rfl, rfl⟩)
  refine (hwd s _ hs).mono ?_
  rintro e w1 ⟨hA, h1, h2, hb1⟩
  have hA' := hA (by rw [← bs_size]; exact hl)
  subst hA'
  clear hA h1 h2
  have hg1 : HasErr w1 := HG.out.below hb1 hG
  have hG1 := Nat.lt_of_lt_of_le hG hb1.size
  have HG1 := fun o => hide (hg1.alloc o)
  have HB1 := hide hb1
  clear hb1 hg1 HG
  unfold badV
  go_wp2_with fail
  refine (tokens_any s _ hs).mono ?_
  rintro e w2 ⟨hA, h1, h2, hb2⟩
  have hA' := hA (by rw [← bs_size]; exact hl)
  subst hA'
  clear hA h1 h2
  have d0 : w2.cell? ⟨w1.heap.size, 0, none⟩ = some (.int .i64 (3)) := by rw [hb2.cell (by simp)]; simp
  have d1 : w2.cell? ⟨w1.heap.size, 1, none⟩ = some (.int .i64 (-1)) := by rw [hb2.cell (by simp), World.cell?_alloc_at _ _ _ _ rfl]; rfl
  have d2 : w2.cell? ⟨w1.heap.size, 2, none⟩ = some (.int .i64 (-1)) := by rw [hb2.cell (by simp), World.cell?_alloc_at _ _ _ _ rfl]; rfl
  have hg2 : HasErr w2 := (HG1 _).out.below hb2 (by simp; omega)
  have HB2 := hide (HB1.out.trans (((Below.refl _ w1).alloc (Nat.le_refl _) _).trans (hb2.mono (by simp)) |>.mono HB1.out.size))
  clear hb2 HB1 HG1
  go_wp2_with fail
  refine (is_errno 3 _ hg2).mono ?_
  rintro e w3 ⟨rfl, hb3⟩
  have HB3 := hide (HB2.out.trans (hb3.mono HB2.out.size))
  clear hb3 HB2
  go_wp2
  go_loopw [7] (fun iv wr => iv = .int .i64 0 ∧ wr = w3) (fun _ _ => 0)
  case atStart => exact ⟨rfl, rfl⟩
  case round =>
    obtain ⟨rfl, rfl⟩ := hrel
    go_wp2
    go_ret
    exact ⟨rfl, HB3.out⟩

set_option maxRecDepth 1000000 in
set_option maxHeartbeats 1000000 in
theorem says_error (hwd : WordsSaid) (s : ByteArray) (w : World) (hg : HasErr w) (hs : s.size ≤ maxLen) (hl : s.size ≤ 4000) (n : Nat) (f : List UInt8) (ht : toks s.data.toList = .error (n, f)) :
    Calls Tryd.prog 4 #[.string s] w fun e w' => e = .returned (.bool true) ∧ Below w.heap.size w w' := by
  have hl2 : ¬ 4200 < s.size := by omega
  have HT := hide ht
  clear ht
  have hG := lt_of_cell hg
  simp only at hG
  have HG := hide hg
  clear hg
  go_enter Tryd.func4, Tryd.ntmps4
  go_wp2_with (go_at_call 7; refine (huge_no _ _ hs hl2).mono ?_; rintro e w' ⟨rfl, rfl⟩)
  refine (hwd s _ hs).mono ?_
  rintro e w1 ⟨h1, h2, hA, hb1⟩
  have hA' := hA (by rw [← bs_size]; exact hl) n f HT.out
  subst hA'
  clear hA h1 h2
  have hg1 : HasErr w1 := HG.out.below hb1 hG
  have hG1 := Nat.lt_of_lt_of_le hG hb1.size
  have HG1 := fun o => hide (hg1.alloc o)
  have HB1 := hide hb1
  clear hb1 hg1 HG
  unfold badV
  go_wp2_with fail
  refine (tokens_any s _ hs).mono ?_
  rintro e w2 ⟨h1, h2, hA, hb2⟩
  obtain ⟨q, rfl, q0, q1, q2⟩ := hA (by rw [← bs_size]; exact hl) n f HT.out
  clear hA h1 h2
  have d0 : w2.cell? ⟨w1.heap.size, 0, none⟩ = some (.int .i64 (n)) := by rw [hb2.cell (by simp)]; simp
  have d1 : w2.cell? ⟨w1.heap.size, 1, none⟩ = some (.int .i64 (0)) := by rw [hb2.cell (by simp), World.cell?_alloc_at _ _ _ _ rfl]; rfl
  have d2 : w2.cell? ⟨w1.heap.size, 2, none⟩ = some (.int .i64 (((s.data.toList.length - f.length : Nat) : Int))) := by rw [hb2.cell (by simp), World.cell?_alloc_at _ _ _ _ rfl]; rfl
  have hg2 : HasErr w2 := (HG1 _).out.below hb2 (by simp; omega)
  have HB2 := hide (HB1.out.trans (((Below.refl _ w1).alloc (Nat.le_refl _) _).trans (hb2.mono (by simp)) |>.mono HB1.out.size))
  have Q0 := hide q0
  have Q1 := hide q1
  have Q2 := hide q2
  clear hb2 HB1 HG1 q0 q1 q2
  generalize hp : s.data.toList.length - f.length = p at *
  clear hp
  go_wp2_with fail
  refine (is_fault q n 0 p _ hg2 Q0.out Q1.out Q2.out).mono ?_
  rintro e w3 ⟨rfl, hb3⟩
  have HB3 := hide (HB2.out.trans (hb3.mono HB2.out.size))
  clear hb3 HB2 Q0 Q1 Q2
  go_wp2
  go_loopw [7] (fun iv wr => iv = .int .i64 0 ∧ wr = w3) (fun _ _ => 0)
  case atStart => exact ⟨rfl, rfl⟩
  case round =>
    obtain ⟨rfl, rfl⟩ := hrel
    go_wp2
    go_ret
    exact ⟨rfl, HB3.out⟩

set_option maxRecDepth 1000000 in
set_option maxHeartbeats 1000000 in
theorem says_ok (hwd : WordsSaid) (s : ByteArray) (w : World) (hg : HasErr w) (hs : s.size ≤ maxLen) (hl : s.size ≤ 4000) (l : List (List UInt8 × List UInt8)) (ht : toks s.data.toList = .ok l) :
    Calls Tryd.prog 4 #[.string s] w fun e w' => e = .returned (.bool true) ∧ Below w.heap.size w w' := by
  have hl2 : ¬ 4200 < s.size := by omega
  have HT := hide ht
  obtain ⟨hne, hcnt⟩ := toksN_ne _ _ l (by omega) ht
  rw [← bs_size] at hcnt
  clear ht
  have hG := lt_of_cell hg
  simp only at hG
  have HG := hide hg
  clear hg
  go_enter Tryd.func4, Tryd.ntmps4
  go_wp2_with (go_at_call 7; refine (huge_no _ _ hs hl2).mono ?_; rintro e w' ⟨rfl, rfl⟩)
  refine (hwd s _ hs).mono ?_
  rintro e w1 ⟨h1, hA, h2, hb1⟩
  obtain ⟨v1, hv1, hown1⟩ := hA (by rw [← bs_size]; exact hl) l HT.out
  obtain ⟨g1, cap1, rfl⟩ := own_shape hown1 hne
  subst hv1
  have HO1 := fun o => hide (hown1.alloc o)
  clear hA h1 h2 hown1
  have hg1 : HasErr w1 := HG.out.below hb1 hG
  have hG1 := Nat.lt_of_lt_of_le hG hb1.size
  have HG1 := fun o => hide (hg1.alloc o)
  have HB1 := hide hb1
  clear hb1 hg1 HG
  unfold badV
  go_wp2_with fail
  refine (tokens_any s _ hs).mono ?_
  rintro e w2 ⟨h1, hA, h2, hb2⟩
  obtain ⟨v2, hv2, hown2⟩ := hA (by rw [← bs_size]; exact hl) l HT.out
  obtain ⟨g2, cap2, rfl⟩ := own_shape hown2 hne
  subst hv2
  clear hA h1 h2
  have d0 : w2.cell? ⟨w1.heap.size, 0, none⟩ = some (.int .i64 (0)) := by rw [hb2.cell (by simp)]; simp
  have d1 : w2.cell? ⟨w1.heap.size, 1, none⟩ = some (.int .i64 (-1)) := by rw [hb2.cell (by simp), World.cell?_alloc_at _ _ _ _ rfl]; rfl
  have d2 : w2.cell? ⟨w1.heap.size, 2, none⟩ = some (.int .i64 (-1)) := by rw [hb2.cell (by simp), World.cell?_alloc_at _ _ _ _ rfl]; rfl
  have hg2 : HasErr w2 := (HG1 _).out.below hb2 (by simp; omega)
  have HB2 := hide (HB1.out.trans (((Below.refl _ w1).alloc (Nat.le_refl _) _).trans (hb2.mono (by simp)) |>.mono HB1.out.size))
  have HO2 := hide ((HO1 _).out.kept (below_gb hb2 none) (.inr (by simp [Value.ownBlock])))
  have HO3 := hide hown2
  clear hb2 HB1 HG1 HO1 hown2
  go_wp2_with fail
  refine (is_nil _).mono ?_
  rintro e w3 ⟨rfl, hb3⟩
  have HB3 := hide (HB2.out.trans (hb3.mono HB2.out.size))
  have HO4 := hide (HO2.out.kept (below_gb hb3 none) (.inr (by simp [Value.ownBlock])))
  have HO5 := hide (HO3.out.kept (below_gb hb3 none) (.inr (by simp [Value.ownBlock])))
  clear hb3 HB2 HO2 HO3 d0 d1 d2 hg2
  go_wp2
  go_loopw [7] (fun iv wr => ∃ k : Nat, k ≤ l.length ∧ iv = .int .i64 k ∧ ∃ n, wr = w3.drewN n) (fun iv _ => l.length - (intOf iv).toNat)
  case atStart => exact ⟨0, Nat.zero_le _, rfl, 0, rfl⟩
  case round =>
    obtain ⟨k, hk, rfl, nd, rfl⟩ := hrel
    by_cases hlt : k < l.length
    · obtain ⟨c0, c1⟩ := flatT_word (n := s.data.toList.length) hlt
      have a0 := (HO4.out.cellAt (k * 2) (by omega)).trans c0
      have a1 := (HO4.out.cellAt (k * 2 + 1) (by omega)).trans c1
      have b0 := (HO5.out.cellAt (k * 2) (by omega)).trans c0
      have b1 := (HO5.out.cellAt (k * 2 + 1) (by omega)).trans c1
      generalize (⟨(l[k]).1.toArray⟩ : ByteArray) = y at a0 b0
      generalize s.data.toList.length - (l[k]).2.length = p at a1 b1
      clear c0 c1
      go_wp2_with fail
      go_quiet (fail)
      go_wp2
      exact ⟨⟨k + 1, by omega, by go_num, _, rfl⟩, by simp [intOf]; omega⟩
    · go_wp2
      go_ret
      exact ⟨rfl, below_drewN HB3.out _⟩

/-- ScanSays at every text. -/
theorem says_any (hwd : WordsSaid) (s : ByteArray) (w : World) (hg : HasErr w) (hs : s.size ≤ maxLen) :
    Calls Tryd.prog 4 #[.string s] w fun e w' => e = .returned (.bool true) ∧ Below w.heap.size w w' := by
  by_cases h1 : 4200 < s.size
  · exact says_huge s w hs h1
  · by_cases h2 : 4000 < s.size
    · exact says_long hwd s w hg hs h2 h1
    · cases ht : toks s.data.toList with
      | error x => exact says_error hwd s w hg hs (by omega) x.1 x.2 ht
      | ok l => exact says_ok hwd s w hg hs (by omega) l ht

end Go.Proofs.YtiphmnffjdgdmaaDoor
