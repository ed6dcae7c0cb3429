/- The document's texts: ranks, numbers. -/
import Derived.Test.YtapfecciakijhaaGreatDoorG03
namespace Go.Proofs.YtapfecciakijhaaGreatDoor
open Go.RowKit
set_option maxHeartbeats 1000000
set_option maxRecDepth 1000000

theorem rank_any (t : T) (sv : Value) (w : World) (ha : ∃ a n c, sv = .slice a n c) :
    Calls Tryz.prog 109 #[nodeV t sv] w (Sy w (.int .i64 (rankT t))) := by
  obtain ⟨a,n,c,rfl⟩ := ha; obtain ⟨kd,x,m,p,l⟩ := t
  change Calls Tryz.prog 109 #[.agg #[.int .i64 kd, .string ⟨x.toArray⟩, .int .i64 m, .int .i64 p, .slice a n c]] w _
  by_cases h36 : kd = 36
  · subst h36
    rw [show rankT (.mk 36 x m p l) = levelOf x from rfl]
    go_enter Tryz.func109, Tryz.ntmps109
    go_wp2_with fail; go_at_call 33; refine (rlevel_any ⟨x.toArray⟩ _).mono ?_; rintro e w1 ⟨rfl, hg1⟩; have G1 := hide (gb_trans (gb_alloc (gb_refl w none) _) hg1); go_wp2_with fail
    go_ret
    exact ⟨rfl, G1.out⟩
  · by_cases h37 : kd = 37
    · subst h37
      go_enter Tryz.func109, Tryz.ntmps109
      go_wp2_with fail
      go_ret
      exact ⟨rfl, gb_alloc (gb_refl w none) _⟩
    · by_cases h35 : kd = 35
      · subst h35
        go_enter Tryz.func109, Tryz.ntmps109
        go_wp2_with fail
        go_ret
        exact ⟨rfl, gb_alloc (gb_refl w none) _⟩
      · have HE : Hid (rankT (.mk kd x m p l) = 3) := by show _ = _; simp [rankT, T.kind, h36, h37, h35]
        rw [HE.out]
        go_enter Tryz.func109, Tryz.ntmps109
        go_wp2_with fail
        go_ret
        exact ⟨rfl, gb_alloc (gb_refl w none) _⟩

def decN (n : Nat) : List UInt8 := if n < 10 then [UInt8.ofNat (48 + n)] else decN (n / 10) ++ [UInt8.ofNat (48 + n % 10)]
theorem decN_small {n : Nat} (h : n < 10) : decN n = [UInt8.ofNat (48 + n)] := by rw [decN, if_pos h]
theorem decN_big {n : Nat} (h : ¬ n < 10) : decN n = decN (n / 10) ++ [UInt8.ofNat (48 + n % 10)] := by rw [decN, if_neg h]
theorem decN_len (n : Nat) : ∀ f, n < 10 ^ (f + 1) → (decN n).length ≤ f + 1 := by
  intro f
  induction f generalizing n with
  | zero => intro h; rw [decN_small (by simpa using h)]; simp
  | succ f ih =>
    intro h
    by_cases h10 : n < 10
    · rw [decN_small h10]; simp
    · rw [decN_big h10]
      have := ih (n / 10) (by rw [Nat.pow_succ] at h; omega)
      simp
      omega

end Go.Proofs.YtapfecciakijhaaGreatDoor

/- The document's texts: numbers. -/
namespace Go.Proofs.YtapfecciakijhaaGreatDoor
open Go.RowKit
set_option maxHeartbeats 1000000
set_option maxRecDepth 1000000

theorem cv_one (w : World) (n : Nat) (cap : Nat) :
    (convert 53 9 (.slice (some ⟨w.heap.size, 0, none⟩) 1 cap)).run Tryz.prog (w.alloc (.cells #[.int .u8 (48 + (n : Int) % 10)] 5)) = .ok (.string ⟨#[UInt8.ofNat (48 + n % 10)]⟩) (w.alloc (.cells #[.int .u8 (48 + (n : Int) % 10)] 5)) := by
  refine run_convert_bytes_back (P := Tryz.prog) _ 53 9 5 ⟨w.heap.size, 0, none⟩ cap [UInt8.ofNat (48 + n % 10)] Tryz.underlying53 Tryz.underlying5 Tryz.underlying9 (fun j hj => ?_)
  have hj0 : j = 0 := by simp at hj; omega
  subst hj0
  have : (UInt8.ofNat (48 + n % 10)).toNat = 48 + n % 10 := by rw [UInt8.toNat_ofNat']; omega
  rw [Addr.add_lit, World.cell?_alloc_at (hn := rfl)]; simp only [List.getElem_cons_zero, this]
  simp

theorem dec_any (n : Nat) (hn : n ≤ 2147483647) (w : World) : Calls Tryz.prog 73 #[.int .i64 n] w (Sy w (.string ⟨(decN n).toArray⟩)) := by
  induction n using Nat.strongRecOn generalizing w with
  | ind n ih =>
    have hcv := cv_one w n 1
    by_cases h10 : n < 10
    · have hd : ((n : Int) / 10 != 0) = false := by simp; omega
      go_enter Tryz.func73, Tryz.ntmps73
      go_wp2_with fail
      go_ret
      refine ⟨ret_str ?_, gb_alloc (gb_refl w none) _⟩; rw [decN_small h10]
      simp [Nat.mod_eq_of_lt h10, UInt8.ofNat_add]
    · have hd : ((n : Int) / 10 != 0) = true := by simp; omega
      have hq := ih (n / 10) (by omega) (by omega); have hlen := decN_len (n / 10) 9 (by omega); have hdec := decN_big h10
      generalize decN (n / 10) = D at hq hlen hdec
      go_enter Tryz.func73, Tryz.ntmps73
      go_wp2_with fail; refine (hq _).mono ?_; rintro e w1 ⟨rfl, hg1⟩; have G1 := hide (gb_trans (gb_alloc (gb_refl w none) _) hg1); go_wp2_with fail
      go_ret
      refine ⟨ret_str ?_, G1.out⟩; rw [hdec]; refine (ba_app D _).trans ?_
      simp [UInt8.ofNat_add]
end Go.Proofs.YtapfecciakijhaaGreatDoor

/- The document's texts: a number's text; brackets. -/
namespace Go.Proofs.YtapfecciakijhaaGreatDoor
open Go.RowKit
set_option maxHeartbeats 1000000
set_option maxRecDepth 1000000

theorem decTx_eq : ∀ (f n : Nat), n < 10 ^ f → 0 < f → decTx f n = decN n := by
  intro f
  induction f with
  | zero => intro n _ h; omega
  | succ f ih =>
    intro n h _
    by_cases h10 : n < 10
    · rw [decN_small h10]; simp [decTx, h10]
    · rw [decN_big h10]
      have h1 : n / 10 < 10 ^ f := by rw [Nat.pow_succ] at h; omega
      have h0 : 0 < f := by
        rcases Nat.eq_zero_or_pos f with h0 | h0
        · subst h0; simp at h; omega
        · exact h0
      simp [decTx, h10, ih _ h1 h0]
theorem numTx_eq (n : Nat) (hn : n ≤ 2147483647) : numTx n = decN n := decTx_eq 11 n (by omega) (by omega)
theorem num_any (m : Int) (h0 : 0 ≤ m) (h1 : m ≤ 2147483647) (w : World) : Calls Tryz.prog 73 #[.int .i64 m] w (Sy w (.string ⟨(numTx m).toArray⟩)) := by
  obtain ⟨n,rfl⟩ := Int.eq_ofNat_of_zero_le h0
  have hn : n ≤ 2147483647 := by omega
  rw [numTx_eq n hn]
  exact dec_any n hn w

/-- In brackets, if the rank is less. -/
def atTx (t : T) (r : Int) (E : List UInt8) : List UInt8 := if rankT t < r then 40 :: (E ++ [41]) else E

theorem atLeast_of (t : T) (sv : Value) (r : Int) (E : List UInt8) (w : World) (ha : ∃ a n c, sv = .slice a n c) (hl : E.length ≤ 1000000)
    (he : ∀ w', w.grownBy w' none → Calls Tryz.prog 42 #[nodeV t sv] w' (Sy w' (.string ⟨E.toArray⟩))) :
    Calls Tryz.prog 75 #[nodeV t sv, .int .i64 r] w (Sy w (.string ⟨(atTx t r E).toArray⟩)) := by
  have hr := fun w => rank_any t sv w ha
  unfold atTx
  obtain ⟨a,n,c,rfl⟩ := ha; obtain ⟨kd,x,m,p,l⟩ := t
  change ∀ w', _ → Calls Tryz.prog 42 #[.agg #[.int .i64 kd, .string ⟨x.toArray⟩, .int .i64 m, .int .i64 p, .slice a n c]] w' _ at he
  change ∀ w, Calls Tryz.prog 109 #[.agg #[.int .i64 kd, .string ⟨x.toArray⟩, .int .i64 m, .int .i64 p, .slice a n c]] w _ at hr
  change Calls Tryz.prog 75 #[.agg #[.int .i64 kd, .string ⟨x.toArray⟩, .int .i64 m, .int .i64 p, .slice a n c], .int .i64 r] w _
  generalize rankT (.mk kd x m p l) = R at hr ⊢
  by_cases hR : R < r
  · rw [if_pos hR]
    go_enter Tryz.func75, Tryz.ntmps75
    go_wp2_with fail; go_at_call 109; refine (hr _).mono ?_; rintro e w1 ⟨rfl, hg1⟩; have G1 := hide (gb_trans (gb_alloc (gb_refl w none) _) hg1); have B1 := hide ((Box.new w (.mk kd x m p l) (.slice a n c) 24).kept hg1); obtain ⟨b0_1,b1_1,b2_1,b3_1,b4_1⟩ := B1.out; go_wp2_with fail; go_at_call 42; refine (he _ G1.out).mono ?_; rintro e w2 ⟨rfl, hg2⟩; have G2 := hide (gb_trans G1.out hg2); go_wp2_with fail
    go_ret
    refine ⟨ret_str ?_, G2.out⟩; rw [show (⟨#[40]⟩ : ByteArray) = ⟨[40].toArray⟩ from rfl, show (⟨#[41]⟩ : ByteArray) = ⟨[41].toArray⟩ from rfl, ba_app, ba_app]
    simp
  · rw [if_neg hR]
    go_enter Tryz.func75, Tryz.ntmps75
    go_wp2_with fail; go_at_call 109; refine (hr _).mono ?_; rintro e w1 ⟨rfl, hg1⟩; have G1 := hide (gb_trans (gb_alloc (gb_refl w none) _) hg1); have B1 := hide ((Box.new w (.mk kd x m p l) (.slice a n c) 24).kept hg1); obtain ⟨b0_1,b1_1,b2_1,b3_1,b4_1⟩ := B1.out; go_wp2_with fail; go_at_call 42; refine (he _ G1.out).mono ?_; rintro e w2 ⟨rfl, hg2⟩; have G2 := hide (gb_trans G1.out hg2); go_wp2_with fail
    go_ret
    exact ⟨rfl, G2.out⟩
end Go.Proofs.YtapfecciakijhaaGreatDoor

/- The document's texts: expressions, kind by kind. -/
namespace Go.Proofs.YtapfecciakijhaaGreatDoor
open Go.RowKit
set_option maxHeartbeats 1000000
set_option maxRecDepth 1000000

/-- exprText answers E for t, wherever its parts lie. -/
def ETx (w : World) (t : T) (E : List UInt8) : Prop := E.length ≤ 1000000 ∧ ∀ w' sv, w.grownBy w' none → AT w' t.subs sv → Calls Tryz.prog 42 #[nodeV t sv] w' (Sy w' (.string ⟨E.toArray⟩))

theorem ex24 (x : List UInt8) (m p : Int) (sv : Value) (w : World) (ha : ∃ a n c, sv = .slice a n c) :
    Calls Tryz.prog 42 #[.agg #[.int .i64 24, .string ⟨x.toArray⟩, .int .i64 m, .int .i64 p, sv]] w (Sy w (.string ⟨x.toArray⟩)) := by
  obtain ⟨a,n,c,rfl⟩ := ha
  go_enter Tryz.func42, Tryz.ntmps42
  go_wp2_with fail
  go_ret
  exact ⟨rfl, gb_alloc (gb_refl w none) _⟩

theorem ex29 (x : List UInt8) (m p : Int) (sv : Value) (w : World) (ha : ∃ a n c, sv = .slice a n c) (h0 : 0 ≤ m) (h1 : m ≤ 2147483647) :
    Calls Tryz.prog 42 #[.agg #[.int .i64 29, .string ⟨x.toArray⟩, .int .i64 m, .int .i64 p, sv]] w (Sy w (.string ⟨(numTx m).toArray⟩)) := by
  obtain ⟨a,n,c,rfl⟩ := ha
  go_enter Tryz.func42, Tryz.ntmps42
  go_wp2_with fail; go_at_call 73; refine (num_any m h0 h1 _).mono ?_; rintro e w1 ⟨rfl, hg1⟩; have G1 := hide (gb_trans (gb_alloc (gb_refl w none) _) hg1); go_wp2_with fail
  go_ret
  exact ⟨rfl, G1.out⟩

theorem ex30 (x : List UInt8) (m p : Int) (sv : Value) (w : World) (ha : ∃ a n c, sv = .slice a n c) :
    Calls Tryz.prog 42 #[.agg #[.int .i64 30, .string ⟨x.toArray⟩, .int .i64 m, .int .i64 p, sv]] w (Sy w (.string ⟨[84, 82, 85, 69].toArray⟩)) := by
  obtain ⟨a,n,c,rfl⟩ := ha
  go_enter Tryz.func42, Tryz.ntmps42
  go_wp2_with fail
  go_ret
  exact ⟨rfl, gb_alloc (gb_refl w none) _⟩

theorem ex31 (x : List UInt8) (m p : Int) (sv : Value) (w : World) (ha : ∃ a n c, sv = .slice a n c) :
    Calls Tryz.prog 42 #[.agg #[.int .i64 31, .string ⟨x.toArray⟩, .int .i64 m, .int .i64 p, sv]] w (Sy w (.string ⟨[70, 65, 76, 83, 69].toArray⟩)) := by
  obtain ⟨a,n,c,rfl⟩ := ha
  go_enter Tryz.func42, Tryz.ntmps42
  go_wp2_with fail
  go_ret
  exact ⟨rfl, gb_alloc (gb_refl w none) _⟩

theorem ex32 (x : List UInt8) (m p : Int) (sv : Value) (w : World) (ha : ∃ a n c, sv = .slice a n c) :
    Calls Tryz.prog 42 #[.agg #[.int .i64 32, .string ⟨x.toArray⟩, .int .i64 m, .int .i64 p, sv]] w (Sy w (.string ⟨[78, 73, 76].toArray⟩)) := by
  obtain ⟨a,n,c,rfl⟩ := ha
  go_enter Tryz.func42, Tryz.ntmps42
  go_wp2_with fail
  go_ret
  exact ⟨rfl, gb_alloc (gb_refl w none) _⟩

end Go.Proofs.YtapfecciakijhaaGreatDoor
