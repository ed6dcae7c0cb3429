/- All that is skipped ahead of a word: blanks and comments. -/
import Derived.Test.YtiphmnffjdgdmaaDoorScan
namespace Go.Proofs.YtiphmnffjdgdmaaDoor
open Go.RowKit

theorem skp_len {r r' : List UInt8} (h : skp r = .ok r') : r'.length ≤ r.length := by
  obtain ⟨p, hp⟩ := skp_suffix h
  rw [hp]; simp

theorem drop_of_suffix {l p r : List UInt8} {k : Nat} (h : l.drop k = p ++ r) (hk : k ≤ l.length) : l.drop (l.length - r.length) = r := by
  have hl : l.length = k + p.length + r.length := by
    have := congrArg List.length h
    simp only [List.length_drop, List.length_append] at this
    omega
  rw [show l.length - r.length = k + p.length from by omega, ← List.drop_drop, h, List.drop_left]

set_option maxRecDepth 1000000 in
set_option maxHeartbeats 2000000 in
theorem skip_any (b : Nat) (s : ByteArray) (k0 : Nat) (w : World) (hs : s.size ≤ 1000000000) (hk0 : k0 ≤ s.size) (hsc : Sc w b s k0) :
    Calls Tryd.prog 33 #[.pointer (some ⟨b, 0, none⟩)] w fun e w' =>
      (∀ r', skp (s.data.toList.drop k0) = .ok r' → e = .returned (.tuple #[]) ∧ Sc w' b s (s.size - r'.length) ∧ w.grownBy w' (some b)) ∧
      (∀ f, skp (s.data.toList.drop k0) = .error f → Threw w ((s.size - f.length : Nat) : Int) 2 e w' ∧ w.grownBy w' (some b)) := by
  go_enter Tryd.func33, Tryd.ntmps33
  go_wp2
  go_loopw [12] (fun _ wr => ∃ k : Nat, k ≤ s.size ∧ Sc wr b s k ∧ w.grownBy wr (some b) ∧ Hid (skp (s.data.toList.drop k) = skp (s.data.toList.drop k0))) (fun _ wr => s.size - atOf wr b)
  case atStart => exact ⟨k0, hk0, hsc, gb_refl _ _, rfl⟩
  case round =>
    obtain ⟨k, hk, hsr, hgr, HC⟩ := hrel
    have c0 := hsr.c0
    have c1 := hsr.c1
    have f1 := hsr.f1
    have hxs : (s.extract k s.size).size ≤ maxLen := by unfold maxLen; rw [bs_size, bs_drop, List.length_drop, ← bs_size]; omega
    have hsm : s.size ≤ maxLen := by unfold maxLen; omega
    have hea := hsr.atOf
    have HSR := hide hsr
    have HGR := hide hgr
    clear hsr hgr
    by_cases hlt : k < s.size
    · have hdr := drop_at s k hlt
      cases hb : isBlank (s[k]'hlt).toNat
      · cases h1 : starts (s.data.toList.drop k) 40 42
        · have HN : Hid (skp (s.data.toList.drop k0) = .ok (s.data.toList.drop k)) := by
            rw [← HC.out]; rw [hdr] at h1 ⊢; exact skp_word hb h1
          clear hdr HC
          go_wp2_with fail
          go_quiet (fail)
          obtain ⟨w1, hw1⟩ : ∃ w1, w1 = wr.drewN nq := ⟨_, rfl⟩
          rw [← hw1]
          have hs1 : Sc w1 b s k := by rw [hw1]; exact HSR.out.drewN nq
          have hg1 : w.grownBy w1 (some b) := by rw [hw1]; exact gb_drewN HGR.out nq
          clear c0 c1 f1
          have c0 := hs1.c0
          have c1 := hs1.c1
          have f1 := hs1.f1
          have HS1 := hide hs1
          have HG1 := hide hg1
          clear hw1 hs1 hg1 HSR HGR
          go_wp2_with fail
          go_quiet ((go_at_call 41; exact Calls.quiet_of_same (blank_any _ _)))
          simp only [hb]
          go_wp2_with (first | (go_at_call 43; refine (rest_any b s k _ hsm hk (by simpa using c0) (by simpa using c1)).mono ?_; rintro e w' ⟨rfl, nr, rfl⟩) | (go_at_call 42; refine (hp_any _ _ _ _ hxs).mono ?_; rintro e w' ⟨rfl, rfl⟩; simp only [bs_drop, h1]))
          refine bodyPost_ret (results_none rfl _ _ _) rfl ⟨fun r' hr => ?_, fun f hf => ?_⟩
          · rw [HN.out] at hr
            cases hr
            refine ⟨rfl, ?_, gb_drewN HG1.out _⟩
            rw [List.length_drop, ← bs_size, show s.size - (s.size - k) = k from by omega]
            exact HS1.out.drewN _
          · rw [HN.out] at hf; cases hf
        · cases hcm : cmt 0 (s.data.toList.drop k) with
          | none =>
            have HN : Hid (skp (s.data.toList.drop k0) = .error (s.data.toList.drop k)) := by
              rw [← HC.out]; rw [hdr] at h1 hcm ⊢; exact skp_open hb h1 hcm
            have HM := hide hcm
            have H1 := hide h1
            clear hdr HC hcm
            go_wp2_with fail
            go_quiet (fail)
            obtain ⟨w1, hw1⟩ : ∃ w1, w1 = wr.drewN nq := ⟨_, rfl⟩
            rw [← hw1]
            have hs1 : Sc w1 b s k := by rw [hw1]; exact HSR.out.drewN nq
            have hg1 : w.grownBy w1 (some b) := by rw [hw1]; exact gb_drewN HGR.out nq
            clear c0 c1 f1
            have c0 := hs1.c0
            have c1 := hs1.c1
            have f1 := hs1.f1
            have HS1 := hide hs1
            have HG1 := hide hg1
            clear hw1 hs1 hg1 HSR HGR
            go_wp2_with fail
            go_quiet ((go_at_call 41; exact Calls.quiet_of_same (blank_any _ _)))
            simp only [hb]
            go_wp2_with (first | (go_at_call 43; refine (rest_any b s k _ hsm hk (by simpa using c0) (by simpa using c1)).mono ?_; rintro e w' ⟨rfl, nr, rfl⟩) | (go_at_call 42; refine (hp_any _ _ _ _ hxs).mono ?_; rintro e w' ⟨rfl, rfl⟩; simp only [bs_drop, h1]) | (go_at_call 44; refine (comment_any b s k _ hs hk (HS1.out.drewN _) H1.out).mono ?_; rintro e w' ⟨hA, hB⟩; obtain ⟨⟨q, rfl, hq, q0, q1, q2⟩, hG2⟩ := hB HM.out))
            refine ⟨rfl, fun r' hr => ?_, fun f hf => ?_⟩
            · rw [HN.out] at hr; cases hr
            · rw [HN.out] at hf
              cases hf
              refine ⟨⟨q, rfl, Nat.le_trans (gb_drewN HG1.out _).size hq, q0, ?_, q2⟩, gb_trans (gb_drewN HG1.out _) hG2⟩
              rw [List.length_drop, ← bs_size, show s.size - (s.size - k) = k from by omega]
              exact q1
          | some r1 =>
            have HN : Hid (skp r1 = skp (s.data.toList.drop k0)) := by
              rw [← HC.out]; rw [hdr] at h1 hcm ⊢; exact (skp_shut hb h1 hcm).symm
            obtain ⟨p, hp, hp2⟩ := cmt_suffix' hcm
            have hd2 := drop_of_suffix hp (by rw [← bs_size]; exact hk)
            rw [← bs_size] at hd2
            have hl1 : s.size - k = p.length + r1.length := by rw [bs_size, ← List.length_drop, hp, List.length_append]
            have HM := hide hcm
            have H1 := hide h1
            have HD2 := hide hd2
            clear hdr HC hcm hp hd2
            go_wp2_with fail
            go_quiet (fail)
            obtain ⟨w1, hw1⟩ : ∃ w1, w1 = wr.drewN nq := ⟨_, rfl⟩
            rw [← hw1]
            have hs1 : Sc w1 b s k := by rw [hw1]; exact HSR.out.drewN nq
            have hg1 : w.grownBy w1 (some b) := by rw [hw1]; exact gb_drewN HGR.out nq
            clear c0 c1 f1
            have c0 := hs1.c0
            have c1 := hs1.c1
            have f1 := hs1.f1
            have HS1 := hide hs1
            have HG1 := hide hg1
            clear hw1 hs1 hg1 HSR HGR
            go_wp2_with fail
            go_quiet ((go_at_call 41; exact Calls.quiet_of_same (blank_any _ _)))
            simp only [hb]
            go_wp2_with (first | (go_at_call 43; refine (rest_any b s k _ hsm hk (by simpa using c0) (by simpa using c1)).mono ?_; rintro e w' ⟨rfl, nr, rfl⟩) | (go_at_call 42; refine (hp_any _ _ _ _ hxs).mono ?_; rintro e w' ⟨rfl, rfl⟩; simp only [bs_drop, h1]) | (go_at_call 44; refine (comment_any b s k _ hs hk (HS1.out.drewN _) H1.out).mono ?_; rintro e w' ⟨hA, hB⟩; obtain ⟨rfl, hS2, hG2⟩ := hA _ HM.out))
            exact ⟨⟨s.size - r1.length, by omega, hS2, gb_trans (gb_drewN HG1.out _) hG2, by rw [HD2.out]; exact HN⟩, by rw [hS2.atOf, hea]; omega⟩
      · have HN : Hid (skp (s.data.toList.drop (k + 1)) = skp (s.data.toList.drop k0)) := by
          rw [← HC.out, hdr]; exact (skp_blank hb).symm
        clear hdr HC
        go_wp2_with fail
        go_quiet (fail)
        obtain ⟨w1, hw1⟩ : ∃ w1, w1 = wr.drewN nq := ⟨_, rfl⟩
        rw [← hw1]
        have hs1 : Sc w1 b s k := by rw [hw1]; exact HSR.out.drewN nq
        have hg1 : w.grownBy w1 (some b) := by rw [hw1]; exact gb_drewN HGR.out nq
        clear c0 c1 f1
        have c0 := hs1.c0
        have c1 := hs1.c1
        have f1 := hs1.f1
        have HS1 := hide hs1
        have HG1 := hide hg1
        clear hw1 hs1 hg1 HSR HGR
        go_wp2_with fail
        go_quiet ((go_at_call 41; exact Calls.quiet_of_same (blank_any _ _)))
        simp only [hb]
        go_wp2
        have hS := fun n => (HS1.out.drewN n).setI ((k : Int) + 1) (k + 1) (by omega)
        exact ⟨⟨k + 1, by omega, hS _, gb_set (gb_drewN HG1.out _) _ _, HN⟩, by rw [(hS _).atOf, hea]; omega⟩
    · have HN : Hid (skp (s.data.toList.drop k0) = .ok []) := by
        rw [← HC.out, List.drop_eq_nil_of_le (by rw [← bs_size]; omega)]; rfl
      clear HC
      go_wp2_with fail
      go_quiet (fail)
      go_wp2
      first | go_end0 | refine bodyPost_end (results_none rfl _ _ _) rfl ?_
      refine ⟨fun r' hr => ?_, fun f hf => ?_⟩
      · rw [HN.out] at hr
        cases hr
        refine ⟨rfl, ?_, gb_drewN HGR.out _⟩
        have : s.size - ([] : List UInt8).length = k := by simp; omega
        rw [this]
        exact HSR.out.drewN _
      · rw [HN.out] at hf; cases hf

end Go.Proofs.YtiphmnffjdgdmaaDoor
