/- The document's texts: choices. -/
import Derived.Test.YtapfecciakijhaaGreatDoorG18
namespace Go.Proofs.YtapfecciakijhaaGreatDoor
open Go.RowKit
set_option maxHeartbeats 4000000
set_option maxRecDepth 1000000

/-- Conditions and lists in turn, with what the document answers for each. -/
inductive Ch (w : World) (P : List UInt8) (ex ac : T → List UInt8) : List T → Prop
  | nil : Ch w P ex ac []
  | one (x : T) (h : STx w x (P ++ [32, 32]) (ac x)) : Ch w P ex ac [x]
  | more (x y : T) (l : List T) (hx : ETx w x (ex x)) (hy : STx w y (P ++ [32, 32]) (ac y)) (h : Ch w P ex ac l) : Ch w P ex ac (x :: y :: l)
def chTx (P : List UInt8) (ex ac : T → List UInt8) : Bool → List T → List UInt8
  | b, x :: y :: l => P ++ ((if b then [73, 70, 32] else [69, 76, 83, 73, 70, 32]) ++ (ex x ++ ([32, 84, 72, 69, 78, 10] ++ (ac y ++ chTx P ex ac false l))))
  | _, _ => []
theorem ch_nil (P : List UInt8) (ex ac : T → List UInt8) (b : Bool) : chTx P ex ac b [] = [] := by cases b <;> rfl
theorem ch_one (P : List UInt8) (ex ac : T → List UInt8) (b : Bool) (x : T) : chTx P ex ac b [x] = [] := by cases b <;> rfl
def elTx (P : List UInt8) (ac : T → List UInt8) : List T → List UInt8
  | [] => []
  | [x] => P ++ ([69, 76, 83, 69, 10] ++ ac x)
  | _ :: _ :: l => elTx P ac l
theorem ch_rest (L : Nat) (ex ac : T → List UInt8) : ∀ (l : List T), chTx (padTx L) ex ac false l ++ elTx (padTx L) ac l = restTx ex ac L l
  | [] => rfl
  | [x] => rfl
  | x :: y :: l => by
    have ih := ch_rest L ex ac l
    show (padTx L ++ ([69, 76, 83, 73, 70, 32] ++ (ex x ++ ([32, 84, 72, 69, 78, 10] ++ (ac y ++ chTx (padTx L) ex ac false l))))) ++ elTx (padTx L) ac l = _
    rw [restTx, ← ih]; simp only [List.append_assoc]
theorem el_drop (P : List UInt8) (ac : T → List UInt8) : ∀ (k : Nat) (l : List T), 2 * k ≤ l.length → elTx P ac (l.drop (2 * k)) = elTx P ac l
  | 0, l, _ => rfl
  | k + 1, l, h => by
    match l, h with
    | x :: y :: l, h =>
      have := el_drop P ac k l (by simp at h; omega); rw [show 2 * (k + 1) = 2 * k + 1 + 1 by omega, List.drop_succ_cons, List.drop_succ_cons, this]
      rfl
    | [x], h => simp at h; omega
    | [], h => simp at h

theorem st16 (m p : Int) (u v : T) (us : List T) (P : List UInt8) (sv : Value) (w : World) (ha : AT w (T.mk 16 [] m p (u :: v :: us)).subs sv) (lP : P.length ≤ 1000) (ex ac : T → List UInt8) (hm : m = (us.length : Int) % 2) (hc : Ch w P ex ac (u :: v :: us)) (hlen : (chTx P ex ac true (u :: v :: us)).length ≤ 4000000) :
    Calls Tryz.prog 45 #[.agg #[.int .i64 16, .string ⟨List.toArray []⟩, .int .i64 m, .int .i64 p, sv], .string ⟨P.toArray⟩] w (Sy w (.string ⟨(chTx P ex ac true (u :: v :: us) ++ (elTx P ac (u :: v :: us) ++ (P ++ [69, 78, 68]))).toArray⟩)) := by
  have HA := hide ha; have HC := hide hc; obtain ⟨a,c,rfl,hn,hcc0⟩ := ha.form
  have hcc : c ≤ 9223372036854775807 := by unfold maxLen at hcc0; omega
  clear hcc0; obtain ⟨g, o, su0, e0, n50, -, -⟩ := ha.node 0 u rfl; subst e0; have hgl : g < w.heap.size := block_lt n50.c0; have B0 : Hid (Box (w.alloc (.cells #[.int .i64 16, .string ⟨List.toArray []⟩, .int .i64 m, .int .i64 p, .slice (some ⟨g, o, none⟩) (us.length + 1 + 1) c] 24)) w.heap.size (.mk 16 [] m p (u :: v :: us)) (.slice (some ⟨g, o, none⟩) (us.length + 1 + 1) c)) := Box.new w (.mk 16 [] m p (u :: v :: us)) (.slice (some ⟨g, o, none⟩) (us.length + 1 + 1) c) 24
  have qp : ¬ (9223372036854775807 < P.length + 2) := by omega
  have hn2 : us.length + 1 + 1 ≤ c := hn; have HM := hide hm; clear hm; clear ha hc n50 hn
  change Calls Tryz.prog 45 #[.agg #[.int .i64 16, .string ⟨List.toArray []⟩, .int .i64 m, .int .i64 p, .slice (some ⟨g, o, none⟩) (us.length + 1 + 1) c], .string ⟨P.toArray⟩] w _
  go_enter Tryz.func45, Tryz.ntmps45
  go_wp2_with fail
  go_loopw [7, 8] (fun sv iv wr => ∃ (i : Nat) (Y : List UInt8) (l : List T), i ≤ us.length + 2 ∧ i % 2 = 0 ∧ iv = .int .i64 ↑i ∧ sv = .string ⟨Y.toArray⟩ ∧ Hid (l = (u :: v :: us).drop i) ∧ Hid (Y ++ chTx P ex ac (i == 0) l = chTx P ex ac true (u :: v :: us)) ∧ Hid (Ch w P ex ac l) ∧ Hid (w.grownBy wr none) ∧ Hid (Box wr w.heap.size (.mk 16 [] m p (u :: v :: us)) (.slice (some ⟨g, o, none⟩) (us.length + 1 + 1) c))) (fun _ iv _ => us.length + 2 - (intOf iv).toNat)
  case atStart => exact ⟨0, [], u :: v :: us, by omega, rfl, rfl, rfl, rfl, by show _ = _; rfl, HC, gb_alloc (gb_refl w none) _, B0.out⟩
  case round =>
    obtain ⟨i,Y,l,_,hi2,rfl,rfl,HD,HY,HL,G0,BR⟩ := hrel; obtain ⟨b0,_,_,_,_⟩ := BR.out.p
    have bl := block_lt b0
    have hll : l.length = us.length + 2 - i := by rw [HD.out]; simp
    have hY : Y.length ≤ 4000000 := by
      have := congrArg List.length HY.out; rw [List.length_append] at this
      omega
    rcases Nat.lt_or_ge (i + 1) (us.length + 2) with hlt | hlt
    · match l, hll, HD, HY, HL with
      | [], hll, _, _, _ => simp at hll; omega
      | [_], hll, _, _, _ => simp at hll; omega
      | y :: z :: l, hll, HD, HY, HL =>
        obtain ⟨hy, hz, hl⟩ : ETx w y (ex y) ∧ STx w z (P ++ [32, 32]) (ac z) ∧ Ch w P ex ac l := by cases HL.out with | more _ _ _ a b c => exact ⟨a, b, c⟩
        have HL2 := hide hl
        have ty : (u :: v :: us)[i]? = some y := by
          have := congrArg (fun q => q[0]?) HD.out
          simpa [List.getElem?_drop] using this.symm
        have tz : (u :: v :: us)[i + 1]? = some z := by
          have := congrArg (fun q => q[1]?) HD.out
          simpa [List.getElem?_drop] using this.symm
        have HD2 : Hid (l = (u :: v :: us).drop (i + 2)) := by
          show _ = _
          have := congrArg (fun q => q.drop 2) HD.out
          simpa [List.drop_drop] using this
        obtain ⟨g1, o1, sy, e1, ny, -, ay⟩ := HA.out.node i y ty; cases e1; obtain ⟨g1, o1, sz, e1, nz, -, az⟩ := HA.out.node (i + 1) z tz; cases e1; have NT := hide (ny.kept G0.out); have NZ := hide (nz.kept G0.out); have AY := hide ay; have AZ := hide az; have lY := hy.1; have lZ := hz.1; have HEY := hide hy.2; have HSZ := hide (stx_app hz); have gl1 := block_lt NT.out.c0
        have hib : (i : Int) + 1 < (us.length : Int) + 1 + 1 := by omega
        have hia : (i : Int) < (us.length : Int) + 1 + 1 := by omega
        have hwr : IntKind.i64.wrap ((i : Int) + 1) = (i : Int) + 1 := by rw [IntKind.wrap_i64]; omega
        have hng : ¬ ((i : Int) + 1 < 0) := by omega
        clear ty tz hy hz hl ny nz ay az HL HD
        rcases Nat.eq_zero_or_pos i with hz0 | hp0
        · have hib0 : ((i : Int) == 0) = true := by rw [hz0]; rfl
          have HW9 : Hid (chTx P ex ac (i == 0) (y :: z :: l) = P ++ ([73, 70, 32] ++ (ex y ++ ([32, 84, 72, 69, 78, 10] ++ (ac z ++ chTx P ex ac false l))))) := by
            show _ = _
            rw [hz0]; rfl
          have HZ0 := hide hz0; clear hz0
          have q1 : ¬ (9223372036854775807 < Y.length + P.length) := by omega
          have q2 : ¬ (9223372036854775807 < Y.length + P.length + 3) := by omega
          have HI2 := hide hi2
          have qq1 : ¬ (9223372036854775807 < Y.length + P.length + 3 + ((ex y)).length) := by omega
          have qq2 : ¬ (9223372036854775807 < Y.length + P.length + 3 + ((ex y)).length + 6) := by omega
          have qq3 : ¬ (9223372036854775807 < Y.length + P.length + 3 + ((ex y)).length + 6 + ((ac z)).length) := by omega
          go_wp2_with fail; refine wp_region_held_drew (S := (fun w' => w'.cell? ⟨w.heap.size, 4, none⟩ = some (.slice (some ⟨g, o, none⟩) (us.length + 1 + 1) c) ∧ Node5 w' g (o + i * 5) y sy ∧ Node5 w' g (o + (i + 1) * 5) z sz)) (by kernel_rfl) ?_ (fun hHeld => ?_)
          · exact ⟨gb_cell (gb_drew (gb_refl wr none)) BR.out.c4, NT.out.kept (gb_drew (gb_refl wr none)), NZ.out.kept (gb_drew (gb_refl wr none))⟩
          refine tk 0 (.string (((⟨List.toArray Y⟩ : ByteArray) ++ (⟨List.toArray P⟩ : ByteArray)) ++ (⟨List.toArray [73, 70, 32]⟩ : ByteArray))) rfl (fun _ _ => by go_simp) hHeld ?_; simp only [Act.put, List.setIfInBounds_toArray]; refine tk 1 (.pointer (some ⟨w.heap.size, 4, none⟩)) rfl (fun _ _ => by go_simp) hHeld ?_; simp only [Act.put]; refine tk 2 (.slice (some ⟨g, o, none⟩) (us.length + 1 + 1) c) rfl (fun _ ⟨_,⟨_,_,_,_,_⟩,⟨_,_,_,_,_⟩⟩ => by go_simp) hHeld ?_; simp only [Act.put]; refine tk 3 (.int .i64 ↑i) rfl (fun _ _ => by go_simp) hHeld ?_; simp only [Act.put]; refine tk 4 (.pointer (some ⟨g, o + i * 5, none⟩)) rfl (fun _ _ => by go_simp) hHeld ?_; simp only [Act.put]; refine tk 5 (nodeV y sy) rfl (fun _ ⟨_,⟨_,_,_,_,_⟩,⟨_,_,_,_,_⟩⟩ => by go_simp) hHeld ?_; simp only [Act.put]; refine tk 9 (.pointer (some ⟨w.heap.size, 4, none⟩)) rfl (fun _ _ => by go_simp) hHeld ?_; simp only [Act.put]; refine tk 10 (.slice (some ⟨g, o, none⟩) (us.length + 1 + 1) c) rfl (fun _ ⟨_,⟨_,_,_,_,_⟩,⟨_,_,_,_,_⟩⟩ => by go_simp) hHeld ?_; simp only [Act.put]; refine tk 11 (.int .i64 ↑i) rfl (fun _ _ => by go_simp) hHeld ?_; simp only [Act.put]; refine tk 12 (.int .i64 (↑i + 1)) rfl (fun _ _ => by go_simp) hHeld ?_; simp only [Act.put]; refine tk 13 (.pointer (some ⟨g, o + (i + 1) * 5, none⟩)) rfl (fun _ _ => by go_simp) hHeld ?_; simp only [Act.put]; refine tk 14 (nodeV z sz) rfl (fun _ ⟨_,⟨_,_,_,_,_⟩,⟨_,_,_,_,_⟩⟩ => by go_simp) hHeld ?_; simp only [Act.put]; refine tk 15 (.string ((⟨List.toArray P⟩ : ByteArray) ++ (⟨List.toArray [32, 32]⟩ : ByteArray))) rfl (fun _ _ => by go_simp) hHeld ?_
          simp only [Act.put]; refine rd 6 rfl fun KK hKK => ?_
          go_simp
          go_at_call 42; refine (HEY.out _ _ (by exact gb_drew G0.out) (AY.out.kept (by exact gb_drew G0.out))).mono ?_; rintro e w1 ⟨rfl, hg1⟩; have G1 := hide (gb_trans (by exact gb_drew G0.out) hg1); have B1 := hide (BR.out.kept (gb_trans (by exact gb_drew (gb_refl wr none)) hg1)); have R1 := hide (gb_trans (by exact gb_drew (gb_refl wr none)) hg1); clear hg1
          go_simp
          refine hKK.out _ _ ⟨B1.out.c4, NT.out.kept R1.out, NZ.out.kept R1.out⟩ fun hHeld => ?_
          clear hKK KK; refine tk 7 (.string ((((⟨List.toArray Y⟩ : ByteArray) ++ (⟨List.toArray P⟩ : ByteArray)) ++ (⟨List.toArray [73, 70, 32]⟩ : ByteArray)) ++ (⟨List.toArray (ex y)⟩ : ByteArray))) rfl (fun _ _ => by go_simp) hHeld ?_; simp only [Act.put, List.setIfInBounds_toArray]; refine tk 8 (.string (((((⟨List.toArray Y⟩ : ByteArray) ++ (⟨List.toArray P⟩ : ByteArray)) ++ (⟨List.toArray [73, 70, 32]⟩ : ByteArray)) ++ (⟨List.toArray (ex y)⟩ : ByteArray)) ++ (⟨List.toArray [32, 84, 72, 69, 78, 10]⟩ : ByteArray))) rfl (fun _ _ => by go_simp) hHeld ?_; simp only [Act.put]; refine rd 16 rfl fun KK hKK => ?_
          go_simp
          go_at_call 21; refine (HSZ.out _ _ G1.out (AZ.out.kept G1.out)).mono ?_; rintro e w2 ⟨rfl, hg2⟩; have G2 := hide (gb_trans G1.out hg2); have B2 := hide (B1.out.kept (gb_trans (gb_refl w1 none) hg2)); have R2 := hide (gb_trans R1.out hg2); clear hg2
          go_simp
          refine hKK.out _ _ ⟨B2.out.c4, NT.out.kept R2.out, NZ.out.kept R2.out⟩ fun hHeld => ?_
          clear hKK KK; refine rd 17 rfl fun KK hKK => ?_
          go_simp
          refine hKK.out _ _ hHeld fun hHeld => ?_
          clear hKK KK; refine rd 18 rfl fun KK hKK => ?_
          go_simp
          refine hKK.out _ _ hHeld fun hHeld => ?_
          clear hKK KK; refine wpAnyH_done (by kernel_rfl) ?_ _; clear hHeld; go_wp2_with fail; refine ⟨⟨i + 2, Y ++ P ++ [73, 70, 32] ++ ex y ++ [32, 84, 72, 69, 78, 10] ++ ac z, l, by omega, by omega, by go_num, strA_eq (by repeat rw [ba_app]), HD2, ?_, HL2, G2, B2⟩, by simp [intOf]; omega⟩
          show _ = _
          rw [show (i + 2 == 0) = false by rw [beq_eq_false_iff_ne]; omega, ← HY.out, HW9.out]; simp only [List.append_assoc]
        · have hib0 : ((i : Int) == 0) = false := by rw [beq_eq_false_iff_ne]; omega
          have HW9 : Hid (chTx P ex ac (i == 0) (y :: z :: l) = P ++ ([69, 76, 83, 73, 70, 32] ++ (ex y ++ ([32, 84, 72, 69, 78, 10] ++ (ac z ++ chTx P ex ac false l))))) := by
            show _ = _
            rw [show (i == 0) = false by rw [beq_eq_false_iff_ne]; omega]; rfl
          have q1 : ¬ (9223372036854775807 < Y.length + P.length) := by omega
          have q2 : ¬ (9223372036854775807 < Y.length + P.length + 6) := by omega
          have HI2 := hide hi2
          have qq1 : ¬ (9223372036854775807 < Y.length + P.length + 6 + ((ex y)).length) := by omega
          have qq2 : ¬ (9223372036854775807 < Y.length + P.length + 6 + ((ex y)).length + 6) := by omega
          have qq3 : ¬ (9223372036854775807 < Y.length + P.length + 6 + ((ex y)).length + 6 + ((ac z)).length) := by omega
          go_wp2_with fail; refine wp_region_held_drew (S := (fun w' => w'.cell? ⟨w.heap.size, 4, none⟩ = some (.slice (some ⟨g, o, none⟩) (us.length + 1 + 1) c) ∧ Node5 w' g (o + i * 5) y sy ∧ Node5 w' g (o + (i + 1) * 5) z sz)) (by kernel_rfl) ?_ (fun hHeld => ?_)
          · exact ⟨gb_cell (gb_drew (gb_refl wr none)) BR.out.c4, NT.out.kept (gb_drew (gb_refl wr none)), NZ.out.kept (gb_drew (gb_refl wr none))⟩
          refine tk 0 (.string (((⟨List.toArray Y⟩ : ByteArray) ++ (⟨List.toArray P⟩ : ByteArray)) ++ (⟨List.toArray [69, 76, 83, 73, 70, 32]⟩ : ByteArray))) rfl (fun _ _ => by go_simp) hHeld ?_; simp only [Act.put, List.setIfInBounds_toArray]; refine tk 1 (.pointer (some ⟨w.heap.size, 4, none⟩)) rfl (fun _ _ => by go_simp) hHeld ?_; simp only [Act.put]; refine tk 2 (.slice (some ⟨g, o, none⟩) (us.length + 1 + 1) c) rfl (fun _ ⟨_,⟨_,_,_,_,_⟩,⟨_,_,_,_,_⟩⟩ => by go_simp) hHeld ?_; simp only [Act.put]; refine tk 3 (.int .i64 ↑i) rfl (fun _ _ => by go_simp) hHeld ?_; simp only [Act.put]; refine tk 4 (.pointer (some ⟨g, o + i * 5, none⟩)) rfl (fun _ _ => by go_simp) hHeld ?_; simp only [Act.put]; refine tk 5 (nodeV y sy) rfl (fun _ ⟨_,⟨_,_,_,_,_⟩,⟨_,_,_,_,_⟩⟩ => by go_simp) hHeld ?_; simp only [Act.put]; refine tk 9 (.pointer (some ⟨w.heap.size, 4, none⟩)) rfl (fun _ _ => by go_simp) hHeld ?_; simp only [Act.put]; refine tk 10 (.slice (some ⟨g, o, none⟩) (us.length + 1 + 1) c) rfl (fun _ ⟨_,⟨_,_,_,_,_⟩,⟨_,_,_,_,_⟩⟩ => by go_simp) hHeld ?_; simp only [Act.put]; refine tk 11 (.int .i64 ↑i) rfl (fun _ _ => by go_simp) hHeld ?_; simp only [Act.put]; refine tk 12 (.int .i64 (↑i + 1)) rfl (fun _ _ => by go_simp) hHeld ?_; simp only [Act.put]; refine tk 13 (.pointer (some ⟨g, o + (i + 1) * 5, none⟩)) rfl (fun _ _ => by go_simp) hHeld ?_; simp only [Act.put]; refine tk 14 (nodeV z sz) rfl (fun _ ⟨_,⟨_,_,_,_,_⟩,⟨_,_,_,_,_⟩⟩ => by go_simp) hHeld ?_; simp only [Act.put]; refine tk 15 (.string ((⟨List.toArray P⟩ : ByteArray) ++ (⟨List.toArray [32, 32]⟩ : ByteArray))) rfl (fun _ _ => by go_simp) hHeld ?_
          simp only [Act.put]; refine rd 6 rfl fun KK hKK => ?_
          go_simp
          go_at_call 42; refine (HEY.out _ _ (by exact gb_drew G0.out) (AY.out.kept (by exact gb_drew G0.out))).mono ?_; rintro e w1 ⟨rfl, hg1⟩; have G1 := hide (gb_trans (by exact gb_drew G0.out) hg1); have B1 := hide (BR.out.kept (gb_trans (by exact gb_drew (gb_refl wr none)) hg1)); have R1 := hide (gb_trans (by exact gb_drew (gb_refl wr none)) hg1); clear hg1
          go_simp
          refine hKK.out _ _ ⟨B1.out.c4, NT.out.kept R1.out, NZ.out.kept R1.out⟩ fun hHeld => ?_
          clear hKK KK; refine tk 7 (.string ((((⟨List.toArray Y⟩ : ByteArray) ++ (⟨List.toArray P⟩ : ByteArray)) ++ (⟨List.toArray [69, 76, 83, 73, 70, 32]⟩ : ByteArray)) ++ (⟨List.toArray (ex y)⟩ : ByteArray))) rfl (fun _ _ => by go_simp) hHeld ?_; simp only [Act.put, List.setIfInBounds_toArray]; refine tk 8 (.string (((((⟨List.toArray Y⟩ : ByteArray) ++ (⟨List.toArray P⟩ : ByteArray)) ++ (⟨List.toArray [69, 76, 83, 73, 70, 32]⟩ : ByteArray)) ++ (⟨List.toArray (ex y)⟩ : ByteArray)) ++ (⟨List.toArray [32, 84, 72, 69, 78, 10]⟩ : ByteArray))) rfl (fun _ _ => by go_simp) hHeld ?_; simp only [Act.put]; refine rd 16 rfl fun KK hKK => ?_
          go_simp
          go_at_call 21; refine (HSZ.out _ _ G1.out (AZ.out.kept G1.out)).mono ?_; rintro e w2 ⟨rfl, hg2⟩; have G2 := hide (gb_trans G1.out hg2); have B2 := hide (B1.out.kept (gb_trans (gb_refl w1 none) hg2)); have R2 := hide (gb_trans R1.out hg2); clear hg2
          go_simp
          refine hKK.out _ _ ⟨B2.out.c4, NT.out.kept R2.out, NZ.out.kept R2.out⟩ fun hHeld => ?_
          clear hKK KK; refine rd 17 rfl fun KK hKK => ?_
          go_simp
          refine hKK.out _ _ hHeld fun hHeld => ?_
          clear hKK KK; refine rd 18 rfl fun KK hKK => ?_
          go_simp
          refine hKK.out _ _ hHeld fun hHeld => ?_
          clear hKK KK; refine wpAnyH_done (by kernel_rfl) ?_ _; clear hHeld; go_wp2_with fail; refine ⟨⟨i + 2, Y ++ P ++ [69, 76, 83, 73, 70, 32] ++ ex y ++ [32, 84, 72, 69, 78, 10] ++ ac z, l, by omega, by omega, by go_num, strA_eq (by repeat rw [ba_app]), HD2, ?_, HL2, G2, B2⟩, by simp [intOf]; omega⟩
          show _ = _
          rw [show (i + 2 == 0) = false by rw [beq_eq_false_iff_ne]; omega, ← HY.out, HW9.out]; simp only [List.append_assoc]
    · have hnb : ¬ ((i : Int) + 1 < (us.length : Int) + 1 + 1) := by omega
      have HE9 : Hid (elTx P ac (u :: v :: us) = elTx P ac l) := by
        show _ = _
        rw [HD.out]; have := el_drop P ac (i / 2) (u :: v :: us) (by simp; omega); rw [show 2 * (i / 2) = i by omega] at this
        exact this.symm
      have HY9 : Hid (Y = chTx P ex ac true (u :: v :: us)) := by
        have := HY.out
        match l, hll with
        | [], _ => rw [ch_nil, List.append_nil] at this; exact this
        | [_], _ => rw [ch_one, List.append_nil] at this; exact this
        | _ :: _ :: _, hll => simp at hll; omega
      match l, hll, HD, HL, HE9 with
      | _ :: _ :: _, hll, _, _, _ => simp at hll; omega
      | [], hll, HD, HL, HE9 =>
        have hm0 : (m == 1) = false := by
          rw [HM.out, beq_eq_false_iff_ne]
          simp at hll
          omega
        have q1 : ¬ (9223372036854775807 < Y.length + P.length) := by omega
        have q2 : ¬ (9223372036854775807 < Y.length + P.length + 3) := by omega
        clear HY; go_wp2_with fail
        go_ret
        refine ⟨ret_str ?_, G0.out⟩; rw [show (⟨#[69, 78, 68]⟩ : ByteArray) = ⟨List.toArray [69, 78, 68]⟩ from rfl, ba_app, ba_app, HY9.out, HE9.out]; simp only [List.append_assoc, elTx, List.nil_append]
      | [z], hll, HD, HL, HE9 =>
        have hz : STx w z (P ++ [32, 32]) (ac z) := by cases HL.out with | one _ h => exact h
        have hiu : i = us.length + 1 := by simp at hll; omega
        have hm0 : (m == 1) = true := by
          rw [HM.out, beq_iff_eq]
          omega
        have tz : (u :: v :: us)[us.length + 1]? = some z := by
          have := congrArg (fun q => q[0]?) HD.out; rw [hiu] at this
          simpa [List.getElem?_drop] using this.symm
        obtain ⟨g1, o1, sz, e1, nz, -, az⟩ := HA.out.node (us.length + 1) z tz; cases e1; obtain ⟨_,_,_,_,_⟩ := nz.kept G0.out; have AZ := hide az; have lZ := hz.1; have HSZ := hide (stx_app hz)
        have q1 : ¬ (9223372036854775807 < Y.length + P.length) := by omega
        have q2 : ¬ (9223372036854775807 < Y.length + P.length + 5) := by omega
        have q3 : ¬ (9223372036854775807 < Y.length + P.length + 5 + (ac z).length) := by omega
        have q4 : ¬ (9223372036854775807 < Y.length + P.length + 5 + (ac z).length + P.length) := by omega
        have q5 : ¬ (9223372036854775807 < Y.length + P.length + 5 + (ac z).length + P.length + 3) := by omega
        have HIU := hide hiu; clear HY hz tz az nz hiu HD HL; go_wp2_with fail; go_at_call 21; refine (HSZ.out _ _ G0.out (AZ.out.kept G0.out)).mono ?_; rintro e w9 ⟨rfl, hg9⟩; have G9 := hide (gb_trans G0.out hg9); clear hg9; go_wp2_with fail
        go_ret
        refine ⟨ret_str ?_, G9.out⟩; rw [show (⟨#[69, 78, 68]⟩ : ByteArray) = ⟨List.toArray [69, 78, 68]⟩ from rfl, show (⟨#[69, 76, 83, 69, 10]⟩ : ByteArray) = ⟨List.toArray [69, 76, 83, 69, 10]⟩ from rfl]
        repeat rw [ba_app]
        rw [HY9.out, HE9.out]; simp only [List.append_assoc, elTx]
end Go.Proofs.YtapfecciakijhaaGreatDoor
