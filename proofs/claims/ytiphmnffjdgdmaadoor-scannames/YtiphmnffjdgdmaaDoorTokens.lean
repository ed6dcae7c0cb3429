/- All words of a text, gathered. -/
import Derived.Test.YtiphmnffjdgdmaaDoorWord
import Derived.Test.YtiphmnffjdgdmaaDoorSpec2
namespace Go.Proofs.YtiphmnffjdgdmaaDoor
open Go.RowKit

/-- The cells of words, each with its place in a text of n bytes. -/
def flatT (n : Nat) (l : List (List UInt8 × List UInt8)) : List Value := l.flatMap fun x => [.string ⟨x.1.toArray⟩, .int .i64 ((n - x.2.length : Nat) : Int)]

theorem flatT_length (n : Nat) (l : List (List UInt8 × List UInt8)) : (flatT n l).length = l.length * 2 := by
  unfold flatT
  induction l with
  | nil => rfl
  | cons a l ih => simp only [List.flatMap_cons, List.length_append, List.length_cons, List.length_nil, ih]; omega
theorem flatT_snoc (n : Nat) (l : List (List UInt8 × List UInt8)) (x : List UInt8 × List UInt8) : flatT n (l ++ [x]) = flatT n l ++ [.string ⟨x.1.toArray⟩, .int .i64 ((n - x.2.length : Nat) : Int)] := by
  simp [flatT]

theorem ba_of {y : ByteArray} {l : List UInt8} (h : y.data.toList = l) : y = ⟨l.toArray⟩ := by
  subst h; cases y; simp

theorem Tryd.infoTok : (Tryd.prog.info? 41).map (fun i => (i.zero, i.size, i.bytes)) = some (some (.agg #[.string ⟨#[]⟩, .int .i64 0]), 2, 24) := by kernel_rfl

theorem gb_own {a w w' : World} {b : Nat} {row : Option Nat} (h : a.grownBy w (some b)) (hg : w.grownBy w' row) (hr : ∀ j, row = some j → a.heap.size ≤ j) : a.grownBy w' (some b) :=
  ⟨hg.os.trans h.os, hg.tape.trans h.tape, hg.output.trans h.output, Nat.le_trans h.size hg.size, fun i hi hne => (hg.block i (Nat.lt_of_lt_of_le hi h.size) (fun e => by have := hr i e.symm; omega)).trans (h.block i hi hne)⟩

theorem owns_drewN {w : World} {base : Nat} {e : TypeId} {size : Nat} {v : Value} {n : Nat} {xs : List Value} (h : w.ownsRow base e size v n xs) (m : Nat) : (w.drewN m).ownsRow base e size v n xs := h

theorem own_snoc {w : World} {base : Nat} {e : TypeId} {v : Value} {acc : List (List UInt8 × List UInt8)} {x r : List UInt8} {n k : Nat} {y : ByteArray}
    (h : w.ownsRow base e 2 v (acc.length + 1) (flatT n acc ++ [.string y, .int .i64 (k : Int)])) (hy : y.data.toList = x) (hk : n - r.length = k) :
    w.ownsRow base e 2 v (acc ++ [(x, r)]).length (flatT n (acc ++ [(x, r)])) := by
  rw [flatT_snoc, List.length_append]
  simp only
  rw [hk, ← ba_of hy]
  exact h

/-- What holds when the next word is to be looked for. -/
structure TI (w : World) (b : Nat) (s : ByteArray) (v : Value) (wr : World) (r : List UInt8) (acc : List (List UInt8 × List UInt8)) (n : Nat) : Prop where
  len : r.length ≤ s.size
  drop : s.data.toList.drop (s.size - r.length) = r
  sc : Sc wr b s (s.size - r.length)
  own : wr.ownsRow w.heap.size 41 2 v acc.length (flatT s.size acc)
  gb : w.grownBy wr (some b)
  same : pre acc (tokA n r) = toks s.data.toList
  fuel : r.length ≤ n
  count : acc.length + r.length ≤ s.size

theorem skp_drop {s : ByteArray} {k : Nat} {r : List UInt8} (h : skp (s.data.toList.drop k) = .ok r) (hk : k ≤ s.size) : r.length ≤ s.size - k ∧ s.data.toList.drop (s.size - r.length) = r := by
  obtain ⟨p, hp⟩ := skp_suffix h
  refine ⟨?_, ?_⟩
  · have := skp_len h
    rw [List.length_drop, ← bs_size] at this; exact this
  · have := drop_of_suffix hp (by rw [← bs_size]; exact hk)
    rw [← bs_size] at this; exact this

set_option maxRecDepth 1000000 in
set_option maxHeartbeats 2000000 in
theorem gather_any (b : Nat) (s : ByteArray) (w : World) (hs : s.size ≤ 1000000000) (hsc : Sc w b s 0) :
    Calls Tryd.prog 24 #[.pointer (some ⟨b, 0, none⟩)] w fun e w' =>
      (∀ l, toks s.data.toList = .ok l → ∃ v, e = .returned v ∧ w'.ownsRow w.heap.size 41 2 v l.length (flatT s.size l) ∧ w.grownBy w' (some b)) ∧
      (∀ n f, toks s.data.toList = .error (n, f) → Threw w ((s.size - f.length : Nat) : Int) n e w' ∧ w.grownBy w' (some b)) := by
  obtain ⟨i0, hi, hz0, hz1, hz2⟩ := info_parts Tryd.infoTok
  have hbl := hsc.lt
  have HSC := hide hsc
  clear hsc
  have ht0 : toks s.data.toList = match skp s.data.toList with | .error f => .error (2, f) | .ok r' => tokA s.data.toList.length r' := toksN_succ _ _
  cases hk0 : skp s.data.toList with
  | error f0 =>
    rw [hk0] at ht0
    have HT := hide ht0
    have HK := hide hk0
    clear ht0 hk0
    go_enter Tryd.func24, Tryd.ntmps24
    go_wp2_with fail
    refine (skip_any b s 0 _ hs (Nat.zero_le _) HSC.out).mono ?_
    rintro e w1 ⟨_, hB⟩
    obtain ⟨⟨q, rfl, hq, q0, q1, q2⟩, hG⟩ := hB f0 (by rw [List.drop_zero]; exact HK.out)
    refine ⟨rfl, fun l hl => ?_, fun n f hf => ?_⟩
    · rw [HT.out] at hl; cases hl
    · rw [HT.out] at hf
      cases hf
      exact ⟨⟨q, rfl, hq, q0, q1, q2⟩, hG⟩
  | ok r0 =>
    rw [hk0] at ht0
    have HT := hide ht0
    have HK := hide hk0
    clear ht0 hk0
    go_enter Tryd.func24, Tryd.ntmps24
    go_wp2_with fail
    refine (skip_any b s 0 _ hs (Nat.zero_le _) HSC.out).mono ?_
    rintro e w1 ⟨hA, hB⟩
    clear hB
    obtain ⟨rfl, hs1, hg1⟩ := hA r0 (by rw [List.drop_zero]; exact HK.out)
    obtain ⟨hr1, hr2⟩ := skp_drop (s := s) (k := 0) (r := r0) (by rw [List.drop_zero]; exact HK.out) (Nat.zero_le _)
    have hT0 : TI w b s (.slice none 0 0) w1 r0 [] s.data.toList.length := ⟨by omega, hr2, hs1, World.ownsRow_nil _ _ _ _, hg1, by rw [pre_nil]; exact HT.out.symm, by rw [← bs_size]; omega, by simp; omega⟩
    clear hs1 hg1 hr1 hr2 HSC hA
    go_wp2_with fail
    go_loopw [3] (fun v wr => ∃ r acc n, Hid (TI w b s v wr r acc n)) (fun _ wr => s.size - atOf wr b)
    case atStart => exact ⟨r0, [], _, hT0⟩
    case round =>
      obtain ⟨r, acc, n, HI⟩ := hrel
      clear hT0
      cases r with
      | nil =>
        have hI := HI.out
        have c0 := hI.sc.c0
        have c1 := hI.sc.c1
        simp only [List.length_nil, Nat.sub_zero] at c1
        have hown := hI.own
        have hgr := hI.gb
        have hcnt := hI.count
        simp only [List.length_nil, Nat.add_zero] at hcnt
        have hT : Hid (toks s.data.toList = .ok (acc ++ [([], [])])) := by rw [← hI.same]; rfl
        have hwz := hgr.size
        clear hI HI HT HK
        have HGR := hide hgr
        clear hgr
        go_wp2_with fail
        go_quiet (fail)
        go_wp2_with (first | (at_builtin; refine wpList_append_own _ rfl _ _ 32 rfl w.heap.size 41 i0 (.agg #[.string ⟨#[]⟩, .int .i64 0]) 2 24 Tryd.underlying32 hi hz0 hz1 hz2 rfl (by decide) _ _ _ rfl ((owns_drewN hown nq).alloc _) ⟨wr.heap.size, 0, none⟩ 1 1 [.string ⟨#[]⟩, .int .i64 (s.size : Int)] rfl rfl (cell_two_new _ _ _ _) (fun x hx => by simp at hx; rcases hx with rfl | rfl <;> rfl) (by unfold maxLen; omega) (by omega) (by simp; omega) ?_; intro v' w3 hown3 hg3 hnil))
        go_ret
        refine ⟨fun l hl => ?_, fun m f hf => ?_⟩
        · rw [hT.out] at hl
          cases hl
          refine ⟨v', rfl, ?_, gb_own (gb_alloc (gb_drewN HGR.out nq) _) hg3 (fun j hj => (hown.lt j hj).1)⟩
          rw [flatT_snoc, List.length_append]
          exact hown3
        · rw [hT.out] at hf; cases hf
      | cons c r =>
        have hI := HI.out
        have hlen := hI.len
        have hdrop := hI.drop
        have hsk := hI.sc
        have hown := hI.own
        have hgr := hI.gb
        have hcnt := hI.count
        have hfu := hI.fuel
        have hsame := hI.same
        simp only [List.length_cons] at hlen hdrop hsk hcnt hfu
        obtain ⟨k, hk⟩ : ∃ k, k = s.size - (r.length + 1) := ⟨_, rfl⟩
        rw [← hk] at hdrop hsk
        have hlt : k < s.size := by omega
        have hk1 : k + (r.length + 1) ≤ s.size := by omega
        have hk2 : s.size ≤ k + (r.length + 1) := by omega
        obtain ⟨m, rfl⟩ : ∃ m, n = m + 1 := ⟨n - 1, by omega⟩
        have c0 := hsk.c0
        have c1 := hsk.c1
        have f1 := hsk.f1
        have hea := hsk.atOf
        have hwz := hgr.size
        have HD := hide hdrop
        have HSK := hide hsk
        have HGR := hide hgr
        have HSA := hide hsame
        have HOW := hide hown
        clear hI HI HT HK hdrop hsk hgr hsame hown hk
        cases hx : wordOf (c :: r) with
        | error m1 =>
          have hT : Hid (toks s.data.toList = .error (m1, c :: r)) := by
            rw [← HSA.out, tokA, hx]; rfl
          have HX := hide hx
          clear hx
          go_wp2_with fail
          go_quiet (fail)
          go_wp2_with fail
          refine (word_any b s k _ hs hlt (HSK.out.drewN nq)).mono ?_
          rintro e w1 ⟨hA, hB⟩
          obtain ⟨⟨q, rfl, hq, q0, q1, q2⟩, hG⟩ := hB m1 (by rw [HD.out]; exact HX.out)
          refine ⟨rfl, fun l hl => ?_, fun n f hf => ?_⟩
          · rw [hT.out] at hl; cases hl
          · rw [hT.out] at hf
            cases hf
            have hgg := gb_trans (gb_drewN HGR.out nq) (gb_some hG _)
            refine ⟨⟨q, rfl, Nat.le_trans (gb_drewN HGR.out nq).size hq, q0, ?_, q2⟩, hgg⟩
            rw [List.length_cons, show s.size - (r.length + 1) = k from by omega]
            exact q1
        | ok x =>
          obtain ⟨hpre, hpos⟩ := wordOf_pre hx
          have hxl := wordOf_len hx
          simp only [List.length_cons] at hxl
          have hdk : s.data.toList.drop (k + x.length) = (c :: r).drop x.length := by rw [← List.drop_drop, HD.out]
          have HDK := hide hdk
          have HX := hide hx
          have hTA : tokA (m + 1) (c :: r) = pre [(x, c :: r)] (toksN (m + 1) ((c :: r).drop x.length)) := by rw [tokA, hx]
          clear hpre hdk hx
          cases hz : skp ((c :: r).drop x.length) with
          | error f2 =>
            have hT : Hid (toks s.data.toList = .error (2, f2)) := by
              rw [← HSA.out, hTA, toksN_succ, hz]; rfl
            have HZ := hide hz
            clear hz hTA
            go_wp2_with fail
            go_quiet (fail)
            go_wp2_with fail
            refine (word_any b s k _ hs hlt (HSK.out.drewN nq)).mono ?_
            rintro e w1 ⟨hA, hB⟩
            clear hB
            obtain ⟨y, rfl, hy, hg1⟩ := hA x (by rw [HD.out]; exact HX.out)
            have hyl : y.size = x.length := by rw [bs_size, hy]
            have hs1 := (HSK.out.drewN nq).kept hg1 (by simp)
            have hown1 := (owns_drewN HOW.out nq).kept hg1 (by cases h : Value.ownBlock _ <;> simp)
            have hgw := gb_trans (gb_drewN HGR.out nq) (gb_some hg1 (some b))
            have hw1z := hgw.size
            have d0 := hs1.c0
            have d1 := hs1.c1
            have e1 := hs1.f1
            have HY := hide hy
            have HYL := hide hyl
            have HS1 := hide hs1
            have HGW := hide hgw
            have hyb : y.size ≤ s.size := by omega
            clear hA hy hyl hs1 hgw hg1 c0 c1 f1
            go_wp2_with (first | (at_builtin; refine wpList_append_own _ rfl _ _ 32 rfl w.heap.size 41 i0 (.agg #[.string ⟨#[]⟩, .int .i64 0]) 2 24 Tryd.underlying32 hi hz0 hz1 hz2 rfl (by decide) _ _ _ rfl (hown1.alloc _) ⟨w1.heap.size, 0, none⟩ 1 1 [.string y, .int .i64 (k : Int)] rfl rfl (cell_two_new _ _ _ _) (fun x hx => by simp at hx; rcases hx with rfl | rfl <;> rfl) (by unfold maxLen; omega) (by omega) (by simp; omega) ?_; intro v' w3 hown3 hg3 hnil; have hs3 := (HS1.out.kept (World.grownBy_alloc _ _ none) (by simp)).kept hg3 (fun e => by have := (hown1.lt b e).1; omega); have k0 := hs3.c0; have k1 := hs3.c1; have k2 := hs3.f1; have HG3 := hide (gb_own (gb_alloc HGW.out _) hg3 (fun j hj => (hown1.lt j hj).1)); have HS3 := hide hs3; have HO3 := hide hown3; clear hs3 hown3 hg3 hnil))
            refine (skip_any b s (k + x.length) _ hs (by omega) (HS3.out.setI ((k : Int) + (y.size : Int)) (k + x.length) (by have := HYL.out; omega))).mono ?_
            rintro e w5 ⟨hA, hB⟩
            obtain ⟨⟨q, rfl, hq, q0, q1, q2⟩, hG⟩ := hB f2 (by rw [HDK.out]; exact HZ.out)
            have hgg := gb_trans (gb_set HG3.out 1 (.int .i64 ((k : Int) + (y.size : Int)))) hG
            refine ⟨rfl, fun l hl => ?_, fun n f hf => ?_⟩
            · rw [hT.out] at hl; cases hl
            · rw [hT.out] at hf
              cases hf
              exact ⟨⟨q, rfl, Nat.le_trans (gb_set HG3.out 1 (.int .i64 ((k : Int) + (y.size : Int)))).size hq, q0, q1, q2⟩, hgg⟩
          | ok r2 =>
            obtain ⟨hr1, hr2⟩ := skp_drop (s := s) (k := k + x.length) (r := r2) (by rw [HDK.out]; exact hz) (by omega)
            have hT : Hid (pre (acc ++ [(x, c :: r)]) (tokA m r2) = toks s.data.toList) := by
              rw [← HSA.out, hTA, toksN_succ, hz, pre_pre]; rfl
            have HZ := hide hz
            have HR2 := hide hr2
            clear hz hTA hr2
            go_wp2_with fail
            go_quiet (fail)
            go_wp2_with fail
            refine (word_any b s k _ hs hlt (HSK.out.drewN nq)).mono ?_
            rintro e w1 ⟨hA, hB⟩
            clear hB
            obtain ⟨y, rfl, hy, hg1⟩ := hA x (by rw [HD.out]; exact HX.out)
            have hyl : y.size = x.length := by rw [bs_size, hy]
            have hs1 := (HSK.out.drewN nq).kept hg1 (by simp)
            have hown1 := (owns_drewN HOW.out nq).kept hg1 (by cases h : Value.ownBlock _ <;> simp)
            have hgw := gb_trans (gb_drewN HGR.out nq) (gb_some hg1 (some b))
            have hw1z := hgw.size
            have d0 := hs1.c0
            have d1 := hs1.c1
            have e1 := hs1.f1
            have HY := hide hy
            have HYL := hide hyl
            have HS1 := hide hs1
            have HGW := hide hgw
            have hyb : y.size ≤ s.size := by omega
            clear hA hy hyl hs1 hgw hg1 c0 c1 f1
            go_wp2_with (first | (at_builtin; refine wpList_append_own _ rfl _ _ 32 rfl w.heap.size 41 i0 (.agg #[.string ⟨#[]⟩, .int .i64 0]) 2 24 Tryd.underlying32 hi hz0 hz1 hz2 rfl (by decide) _ _ _ rfl (hown1.alloc _) ⟨w1.heap.size, 0, none⟩ 1 1 [.string y, .int .i64 (k : Int)] rfl rfl (cell_two_new _ _ _ _) (fun x hx => by simp at hx; rcases hx with rfl | rfl <;> rfl) (by unfold maxLen; omega) (by omega) (by simp; omega) ?_; intro v' w3 hown3 hg3 hnil; have hs3 := (HS1.out.kept (World.grownBy_alloc _ _ none) (by simp)).kept hg3 (fun e => by have := (hown1.lt b e).1; omega); have k0 := hs3.c0; have k1 := hs3.c1; have k2 := hs3.f1; have HG3 := hide (gb_own (gb_alloc HGW.out _) hg3 (fun j hj => (hown1.lt j hj).1)); have HS3 := hide hs3; have HO3 := hide hown3; clear hs3 hown3 hg3 hnil))
            refine (skip_any b s (k + x.length) _ hs (by omega) (HS3.out.setI ((k : Int) + (y.size : Int)) (k + x.length) (by have := HYL.out; omega))).mono ?_
            rintro e w5 ⟨hA, hB⟩
            clear hB
            obtain ⟨rfl, hs5, hg5⟩ := hA r2 (by rw [HDK.out]; exact HZ.out)
            have hgg := gb_trans (gb_set HG3.out 1 (.int .i64 ((k : Int) + (y.size : Int)))) hg5
            have hnb : v'.ownBlock = none ∨ v'.ownBlock ≠ some b := .inr (fun e => by have := (HO3.out.lt b e).1; omega)
            have ho5 := (HO3.out.kept (gb_set (gb_refl w3 (some b)) 1 (.int .i64 ((k : Int) + (y.size : Int)))) hnb).kept hg5 hnb
            have HG5 := hide hgg
            have HO5 := hide ho5
            have HS5 := hide hs5
            clear hA hgg ho5 hs5 hg5 hnb k0 k1 k2 d0 d1 e1
            go_wp2
            refine ⟨⟨r2, acc ++ [(x, c :: r)], m, ⟨by omega, HR2.out, HS5.out, ?_, HG5.out, hT.out, by omega, by simp; omega⟩⟩, by rw [HS5.out.atOf, hea]; omega⟩
            exact own_snoc HO5.out HY.out (by rw [List.length_cons]; omega)

end Go.Proofs.YtiphmnffjdgdmaaDoor
