/- Several parts with a sign between them; in brackets; declarations. -/
import Derived.Test.YtbphiiaoncakfaaGreatDoorG06
namespace Go.Proofs.YtbphiiaoncakfaaGreatDoor
open Go.RowKit

/-- What a part that is handed on comes to, at this level, while Inv holds. -/
structure Part (c : PC) (d : Nat) (Inv : World → Prop) (g : Nat) (av : Array Value) (p : P T) : Prop where
  call : ∀ (w : World) (i : Nat), PS c w i d → Inv w → Calls Tryz.prog g av w (Steps c w i d (fun w' t v => TR w' w.heap.size w'.heap.size t v) (p i))
  inv : ∀ w w', Inv w → w.grownBy w' (some c.pb) → Inv w'
  ent : ∀ (args : Array Value) (w : World), (callFunc g args).run Tryz.prog w = .ok (.enter g args) w

theorem severalLoop_no {L : List Tok} {p : P T} {sep : List UInt8} {f j : Nat} {acc : List T} (h : hasP L sep j = .ok (false, j)) (hf : 0 < f) : severalLoop L p sep f acc j = .ok (acc, j) := by
  obtain ⟨f', rfl⟩ : ∃ f', f = f' + 1 := ⟨f - 1, by omega⟩
  exact P.bind_ok h
theorem severalLoop_yes {L : List Tok} {p : P T} {sep : List UInt8} {f j j2 : Nat} {acc : List T} (h : hasP L sep j = .ok (true, j2)) (hf : 0 < f) : severalLoop L p sep f acc j = (p.bind fun t => severalLoop L p sep (f - 1) (acc ++ [t])) j2 := by
  obtain ⟨f', rfl⟩ : ∃ f', f = f' + 1 := ⟨f - 1, by omega⟩
  exact P.bind_ok h
theorem hasP_no {L : List Tok} {x : List UInt8} {i j : Nat} (h : hasP L x i = .ok (false, j)) : j = i := by
  unfold hasP at h
  split at h
  · cases h
  · cases h; rfl
theorem hasP_yes {L : List Tok} {x : List UInt8} {i j : Nat} (h : hasP L x i = .ok (true, j)) : j = i + 1 := by
  unfold hasP at h
  split at h
  · cases h; rfl
  · cases h

/-- What holds at the head of the loop. -/
structure SI (c : PC) (w : World) (i d : Nat) (r : Except (Int × Int) (List T × Nat)) (q : Nat → List T → P (List T)) (v : Value) (wr : World) (acc : List T) (j f lo : Nat) : Prop where
  lr : LR wr (In lo wr.heap.size) acc v
  ps : PS c wr j d
  gb : w.grownBy wr (some c.pb)
  same : r = q f acc j
  fuel : c.L.length ≤ f + j
  len : acc.length + f ≤ c.L.length + 1
  le : i ≤ j
  low : w.heap.size ≤ lo
  low2 : lo ≤ wr.heap.size

set_option maxRecDepth 100000 in
set_option maxHeartbeats 1000000 in
theorem pseveral_any (c : PC) (w : World) (i d : Nat) (Inv : World → Prop) (g : Nat) (fa ca : Array Value) (p : P T) (sep : List UInt8) (sb : ByteArray) (hsb : sb.data.toList = sep) (hsep : sep ≠ []) (h : PS c w i d) (hI : Inv w) (hp : Part c d Inv g (fa ++ ca) p) :
    Calls Tryz.prog 88 #[.pointer (some ⟨c.pb, 0, none⟩), .func (.func g) fa ca, .string sb] w (Steps c w i d (fun w' ts v => LR w' (In w.heap.size w'.heap.size) ts v ∧ ts.length ≤ 5001) (severalP c.L p sep i)) := by
  have HP := hide h; have HL := hide h.low; have hb := h.lt; have hfew := h.good.few; have hent := hp.ent; have HPT := hide hp; have HI := hide hI; clear h hp hI
  go_enter Tryz.func88, Tryz.ntmps88
  go_wp2_with fail; refine (HPT.out.call _ i HP.out HI.out).mono ?_; rintro e w1 (⟨x1, hr1, ht1, hg1⟩ | ⟨⟨k1, n1, m1, q1, l1⟩, j1, v1, hr1, rfl, ⟨sv1, rfl, lr1⟩, hg1, p1, hi1⟩)
  · have HT := ht1
    obtain ⟨q, rfl, -⟩ := ht1
    exact ⟨rfl, Steps.err (P.bind_err hr1) HT (gb_refl _ _) hg1⟩
  simp only [T.kind, T.name, T.num, T.at', T.subs] at lr1 ⊢; obtain ⟨ad1, cp1, rfl⟩ := lr1.form; have HR1 : severalP c.L p sep i = _ := P.bind_ok hr1; have s1 := hg1.size
  have S0 := hide (SI.mk (c := c) (w := w) (i := i) (d := d) (r := severalP c.L p sep i) (q := severalLoop c.L p sep) (f := c.L.length) (j := j1) (acc := [T.mk k1 n1 m1 q1 l1]) (lo := w.heap.size)
    (wr := w1.alloc (.cells #[.int .i64 k1, .string ⟨n1.toArray⟩, .int .i64 m1, .int .i64 q1, .slice ad1 l1.length cp1] 25)) (v := .slice (some ⟨w1.heap.size, 0, none⟩) 1 1)
    (LR.wide (LR.build1 w1 (cs := #[.int .i64 k1, .string ⟨n1.toArray⟩, .int .i64 m1, .int .i64 q1, .slice ad1 l1.length cp1]) (t := T.mk k1 n1 m1 q1 l1) (sv := .slice ad1 l1.length cp1) lr1 rfl rfl s1) (Nat.le_refl _) (by simp)) (p1.alloc _) (gb_alloc hg1 _) HR1 (by omega) (by simp only [List.length_singleton]; omega) hi1 (Nat.le_refl _) (by simp; omega))
  clear lr1 p1 hg1 HR1 hr1 hi1 s1; go_wp2_with fail
  go_loopw [7] (fun v wr => ∃ acc j f lo, Hid (SI c w i d (severalP c.L p sep i) (severalLoop c.L p sep) v wr acc j f lo)) (fun _ wr => c.L.length - atOf wr c.pb)
  case atStart => exact ⟨_, _, _, _, S0⟩
  case round =>
    obtain ⟨acc, j, f, lo, HS⟩ := hrel; clear S0; have hI := HS.out; have hps := hI.ps; have hlo := hI.low; have hlo2 := hI.low2; have hlen := hI.len; have hfu := hI.fuel; have hij := hI.le; have hjl := hI.ps.il; obtain ⟨ad, cp, rfl⟩ := hI.lr.form; have HLR := hide hI.lr; have HG := hide hI.gb; have HSM := hide hI.same; have HPS := hide hps; clear hI HS hps; go_wp2_with fail; go_at_call 85; refine (phas_any c _ j d sep _ hsb hsep HPS.out).mono ?_; rintro e w2 ⟨b2, j2, hr2, rfl, hg2, p2, hi2⟩; have s2 := hg2.size; have G2 : w.grownBy w2 (some c.pb) := gb_trans HG.out hg2; have lr2 : LR w2 (In lo wr.heap.size) acc (.slice ad acc.length cp) := HLR.out.call hg2 (by omega); cases b2
    · have hj := hasP_no hr2
      subst hj; go_wp2
      go_ret
      exact Steps.ok (HSM.out.trans (severalLoop_no hr2 (by omega))) ⟨lr2.wide hlo s2, by omega⟩ G2 p2 (by omega)
    · have hj := hasP_yes hr2
      go_wp2_with fail; refine (HPT.out.call _ j2 p2 (HPT.out.inv _ _ HI.out G2)).mono ?_; rintro e w3 (⟨x3, hr3, ht3, hg3⟩ | ⟨⟨k3, n3, m3, q3, l3⟩, j3, v3, hr3, rfl, ⟨sv3, rfl, lr3⟩, hg3, p3, hi3⟩)
      · have HT := ht3
        obtain ⟨q, rfl, -⟩ := ht3
        exact ⟨rfl, Steps.err ((HSM.out.trans (severalLoop_yes hr2 (by omega))).trans (P.bind_err hr3)) HT G2 hg3⟩
      simp only [T.kind, T.name, T.num, T.at', T.subs] at lr3 ⊢; obtain ⟨ad3, cp3, rfl⟩ := lr3.form; have s3 := hg3.size; have G3 : w.grownBy w3 (some c.pb) := gb_trans G2 hg3; have lr2 : LR w3 (In lo wr.heap.size) acc (.slice ad acc.length cp) := lr2.call hg3 (by omega); have lr4 := LR.build1 w3 (cs := #[.int .i64 k3, .string ⟨n3.toArray⟩, .int .i64 m3, .int .i64 q3, .slice ad3 l3.length cp3]) (t := T.mk k3 n3 m3 q3 l3) (sv := .slice ad3 l3.length cp3) lr3 rfl rfl s3; have HSM3 : severalP c.L p sep i = _ := (HSM.out.trans (severalLoop_yes hr2 (by omega))).trans (P.bind_ok hr3); have hL2 := hide (lr2.alloc (.cells #[.int .i64 k3, .string ⟨n3.toArray⟩, .int .i64 m3, .int .i64 q3, .slice ad3 l3.length cp3] 25)); have hL4 := hide lr4; have hL3 := p3.il; clear lr2 lr3 lr4
      go_wp2_with (at_builtin; refine wpList_appLR rfl _ _ rfl rfl rfl hL2.out hL4.out (by omega) (by omega) (by simp; omega) (by simp) (by simp; omega) ?_; intro v5 w5 lr5 hg5)
      have hrow := hL2.out.rows; have p5 : PS c w5 j3 d := PS.own (p3.alloc _) HL.out hg5 (fun b hb => by have := hrow b hb; omega); have G5 : w.grownBy w5 (some c.pb) := gb_own (gb_alloc G3 _) hg5 (fun b hb => by have := hrow b hb; omega); have s5 := hg5.size
      simp at s5
      refine ⟨⟨_, j3, f - 1, lo, SI.mk lr5 p5 G5 HSM3 (by omega) (by simp only [List.length_append, List.length_singleton]; omega) (by omega) hlo (by omega)⟩, ?_⟩; rw [p5.atOf, HPS.out.atOf]
      omega

set_option maxRecDepth 100000 in
set_option maxHeartbeats 400000 in
theorem pbracketed_any (c : PC) (w : World) (i d : Nat) (g : Nat) (p : P T) (sep : List UInt8) (sb : ByteArray) (hsb : sb.data.toList = sep) (hsep : sep ≠ []) (h : PS c w i d) (hp : Part c d (fun _ => True) g #[.pointer (some ⟨c.pb, 0, none⟩)] p) :
    Calls Tryz.prog 127 #[.pointer (some ⟨c.pb, 0, none⟩), .func (.func g) #[.pointer (some ⟨c.pb, 0, none⟩)] #[], .string sb] w (Steps c w i d (fun w' ts v => LR w' (In w.heap.size w'.heap.size) ts v ∧ ts.length ≤ 5001) (bracketedP c.L p sep i)) := by
  have HP := hide h; have HL := hide h.low; have hb := h.lt; have HPT := hide hp; clear h hp
  go_enter Tryz.func127, Tryz.ntmps127
  go_wp2_with fail; go_at_call 52; refine (pwant_any c _ i d s_lp _ rfl (by decide) HP.out).mono ?_; rintro e w1 (⟨x1, hr1, ht1, hg1⟩ | ⟨a1, j1, v1, hr1, rfl, -, hg1, p1, hi1⟩)
  · have HT := ht1
    obtain ⟨q, rfl, -⟩ := ht1
    exact ⟨rfl, Steps.err (P.bind_err hr1) HT (gb_refl _ _) hg1⟩
  have HR1 : bracketedP c.L p sep i = _ := P.bind_ok hr1; have s1 := hg1.size; go_wp2_with fail; go_at_call 85; refine (phas_any c _ j1 d s_rp _ rfl (by decide) p1).mono ?_; rintro e w2 ⟨b2, j2, hr2, rfl, hg2, p2, hi2⟩; have HR2 : bracketedP c.L p sep i = _ := HR1.trans (P.bind_ok hr2); have G2 : w.grownBy w2 (some c.pb) := gb_trans hg1 hg2; have s2 := hg2.size; cases b2
  · go_wp2_with fail
    go_at_call 88; refine (pseveral_any c _ j2 d (fun _ => True) g #[.pointer (some ⟨c.pb, 0, none⟩)] #[] p sep sb hsb hsep p2 trivial (by simpa using HPT.out)).mono ?_; rintro e w3 (⟨x3, hr3, ht3, hg3⟩ | ⟨a3, j3, v3, hr3, rfl, ⟨lr3, len3⟩, hg3, p3, hi3⟩)
    · have HT := ht3
      obtain ⟨q, rfl, -⟩ := ht3
      exact ⟨rfl, Steps.err (HR2.trans (P.bind_err hr3)) HT G2 hg3⟩
    have HR3 : bracketedP c.L p sep i = _ := HR2.trans (P.bind_ok hr3); have G3 : w.grownBy w3 (some c.pb) := gb_trans G2 hg3; have s3 := hg3.size; go_wp2_with fail; go_at_call 52; refine (pwant_any c _ j3 d s_rp _ rfl (by decide) p3).mono ?_; rintro e w4 (⟨x4, hr4, ht4, hg4⟩ | ⟨a4, j4, v4, hr4, rfl, -, hg4, p4, hi4⟩)
    · have HT := ht4
      obtain ⟨q, rfl, -⟩ := ht4
      exact ⟨rfl, Steps.err (HR3.trans (P.bind_err hr4)) HT G3 hg4⟩
    have HR4 : bracketedP c.L p sep i = _ := HR3.trans (P.bind_ok hr4); have s4 := hg4.size; have lr4 := lr3.call hg4 (by omega); go_wp2
    go_ret
    exact Steps.ok (a := a3) HR4 ⟨lr4.wide (by omega) (by omega), len3⟩ (gb_trans G3 hg4) p4 (by omega)
  · go_wp2
    go_ret
    exact Steps.ok (a := []) HR2 ⟨LR.nil _ _, by simp⟩ G2 p2 (by omega)

theorem declLoop_no {L : List Tok} {p : P T} {f j : Nat} {acc : List T} (h : nameB (wd L j) = false) (hf : 0 < f) : declLoop L p f acc j = .ok (acc, j) := by
  obtain ⟨f', rfl⟩ : ∃ f', f = f' + 1 := ⟨f - 1, by omega⟩; rw [declLoop]
  exact if_neg (by rw [h]; decide)
theorem declLoop_yes {L : List Tok} {p : P T} {f j : Nat} {acc : List T} (h : nameB (wd L j) = true) (hf : 0 < f) : declLoop L p f acc j = (p.bind fun t => (wantP L s_semi).bind fun _ => declLoop L p (f - 1) (acc ++ [t])) j := by
  obtain ⟨f', rfl⟩ : ∃ f', f = f' + 1 := ⟨f - 1, by omega⟩; rw [declLoop]
  exact if_pos h
theorem wantP_yes {L : List Tok} {x : List UInt8} {i j : Nat} {u : Unit} (h : wantP L x i = .ok (u, j)) : j = i + 1 := by
  unfold wantP at h
  split at h
  · cases h; rfl
  · cases h

set_option maxRecDepth 100000 in
set_option maxHeartbeats 1000000 in
theorem pdeclarations_any (c : PC) (w : World) (i d : Nat) (g : Nat) (p : P T) (h : PS c w i d) (hp : Part c d (fun _ => True) g #[.pointer (some ⟨c.pb, 0, none⟩)] p) :
    Calls Tryz.prog 91 #[.pointer (some ⟨c.pb, 0, none⟩), .func (.func g) #[.pointer (some ⟨c.pb, 0, none⟩)] #[]] w (Steps c w i d (fun w' ts v => LR w' (In w.heap.size w'.heap.size) ts v ∧ ts.length ≤ 5001) (declLoop c.L p (c.L.length + 1) [] i)) := by
  have HP := hide h; have HL := hide h.low; have hb := h.lt; have hfew := h.good.few; have hent := hp.ent; have HPT := hide hp; have S0 := hide (SI.mk (c := c) (w := w) (i := i) (d := d) (r := declLoop c.L p (c.L.length + 1) [] i) (q := declLoop c.L p) (f := c.L.length + 1) (j := i) (acc := []) (lo := w.heap.size) (wr := w) (v := .slice none 0 0) (LR.nil _ _) h (gb_refl _ _) rfl (by omega) (by simp) (Nat.le_refl _) (Nat.le_refl _) (Nat.le_refl _)); clear h hp
  go_enter Tryz.func91, Tryz.ntmps91
  go_wp2_with fail
  go_loopw [5] (fun v wr => ∃ acc j f lo, Hid (SI c w i d (declLoop c.L p (c.L.length + 1) [] i) (declLoop c.L p) v wr acc j f lo)) (fun _ wr => c.L.length - atOf wr c.pb)
  case atStart => exact ⟨_, _, _, _, S0⟩
  case round =>
    obtain ⟨acc, j, f, lo, HS⟩ := hrel; clear S0; have hI := HS.out; have hps := hI.ps; have hlo := hI.low; have hlo2 := hI.low2; have hlen := hI.len; have hfu := hI.fuel; have hij := hI.le; have hjl := hI.ps.il; obtain ⟨ad, cp, rfl⟩ := hI.lr.form; have HLR := hide hI.lr; have HG := hide hI.gb; have HSM := hide hI.same; have HPS := hide hps; clear hI HS hps; go_wp2_with fail; go_at_call 86; refine (pnameIsNext_any c _ j d HPS.out).mono ?_; rintro e w2 ⟨rfl, hg2⟩; have s2 := hg2.size; have G2 : w.grownBy w2 (some c.pb) := gb_trans HG.out (gb_some hg2 _); have lr2 : LR w2 (In lo wr.heap.size) acc (.slice ad acc.length cp) := HLR.out.grown hg2; have p2 : PS c w2 j d := HPS.out.kept hg2; cases hnm : nameB (wd c.L j)
    · go_wp2
      go_ret
      exact Steps.ok (HSM.out.trans (declLoop_no hnm (by omega))) ⟨lr2.wide hlo s2, by omega⟩ G2 p2 (by omega)
    · go_wp2_with fail
      refine (HPT.out.call _ j p2 trivial).mono ?_; rintro e w3 (⟨x3, hr3, ht3, hg3⟩ | ⟨⟨k3, n3, m3, q3, l3⟩, j3, v3, hr3, rfl, ⟨sv3, rfl, lr3⟩, hg3, p3, hi3⟩)
      · have HT := ht3
        obtain ⟨q, rfl, -⟩ := ht3
        exact ⟨rfl, Steps.err ((HSM.out.trans (declLoop_yes hnm (by omega))).trans (P.bind_err hr3)) HT G2 hg3⟩
      simp only [T.kind, T.name, T.num, T.at', T.subs] at lr3 ⊢; obtain ⟨ad3, cp3, rfl⟩ := lr3.form; have s3 := hg3.size; have G3 : w.grownBy w3 (some c.pb) := gb_trans G2 hg3; have lr2 : LR w3 (In lo wr.heap.size) acc (.slice ad acc.length cp) := lr2.call hg3 (by omega); have lr4 := LR.build1 w3 (cs := #[.int .i64 k3, .string ⟨n3.toArray⟩, .int .i64 m3, .int .i64 q3, .slice ad3 l3.length cp3]) (t := T.mk k3 n3 m3 q3 l3) (sv := .slice ad3 l3.length cp3) lr3 rfl rfl s3; have HSM3 : declLoop c.L p (c.L.length + 1) [] i = _ := (HSM.out.trans (declLoop_yes hnm (by omega))).trans (P.bind_ok hr3); have hL2 := hide (lr2.alloc (.cells #[.int .i64 k3, .string ⟨n3.toArray⟩, .int .i64 m3, .int .i64 q3, .slice ad3 l3.length cp3] 25)); have hL4 := hide lr4; have hL3 := p3.il; clear lr2 lr3 lr4
      go_wp2_with (at_builtin; refine wpList_appLR rfl _ _ rfl rfl rfl hL2.out hL4.out (by omega) (by omega) (by simp; omega) (by simp) (by simp; omega) ?_; intro v5 w5 lr5 hg5)
      have hrow := hL2.out.rows; have p5 : PS c w5 j3 d := PS.own (p3.alloc _) HL.out hg5 (fun b hb => by have := hrow b hb; omega); have G5 : w.grownBy w5 (some c.pb) := gb_own (gb_alloc G3 _) hg5 (fun b hb => by have := hrow b hb; omega); have s5 := hg5.size
      simp at s5
      go_at_call 52; refine (pwant_any c _ j3 d s_semi _ rfl (by decide) p5).mono ?_; rintro e w6 (⟨x6, hr6, ht6, hg6⟩ | ⟨a6, j6, v6, hr6, rfl, -, hg6, p6, hi6⟩)
      · have HT := ht6
        obtain ⟨q, rfl, -⟩ := ht6
        exact ⟨rfl, Steps.err (HSM3.trans (P.bind_err hr6)) HT G5 hg6⟩
      have HSM6 : declLoop c.L p (c.L.length + 1) [] i = _ := HSM3.trans (P.bind_ok hr6); have hj6 := wantP_yes hr6; have s6 := hg6.size; have lr6 := lr5.call hg6 (by omega); go_wp2; refine ⟨⟨_, j6, f - 1, lo, SI.mk (lr6.wide (Nat.le_refl _) (by omega)) p6 (gb_trans G5 hg6) HSM6 (by omega) (by simp only [List.length_append, List.length_singleton]; omega) (by omega) hlo (by omega)⟩, ?_⟩; rw [p6.atOf, HPS.out.atOf]
      omega
end Go.Proofs.YtbphiiaoncakfaaGreatDoor

/- Numbers, and the ends of what is named. -/
namespace Go.Proofs.YtbphiiaoncakfaaGreatDoor
open Go.RowKit

set_option maxRecDepth 1000000 in
set_option maxHeartbeats 1000000 in
theorem value_no (s : ByteArray) (w : World) (hs : s.size ≤ maxLen) (hd : ∀ h : 0 < s.size, isDigit ((s[0]'h).toNat : Int) = false ∧ (s[0]'h).toNat < 128) :
    Calls Tryz.prog 81 #[.string s] w fun e w' => e = .returned (.tuple #[.int .i64 0, .bool false]) ∧ w.grownBy w' none := by
  unfold maxLen at hs
  have HD := hide hd; clear hd
  go_enter Tryz.func81, Tryz.ntmps81
  go_wp2
  go_loopw [2] (fun v wr => wr = w.iter s 0 ∧ v = .int .i64 0) (fun _ _ => 0)
  case atStart => exact ⟨rfl, rfl⟩
  case round =>
    obtain ⟨rfl, rfl⟩ := hrel
    by_cases hlt : 0 < s.size
    · obtain ⟨hdk, h128⟩ := unhide HD hlt
      have hnx : ∀ ty, (Instr.next (.pointer (some ⟨w.heap.size, 0, none⟩)) true ty).run Tryz.prog (w.iter s 0) = _ := fun ty => run_next_ascii w s 0 ty hlt (by omega)
      clear HD
      go_wp2_with (go_at_call 80; refine (digit_any _ _).mono ?_; rintro e w' ⟨rfl, rfl⟩; simp only [hdk])
      go_ret2
      exact ⟨rfl, grownBy_iter w s _⟩
    · have hnx : ∀ ty, (Instr.next (.pointer (some ⟨w.heap.size, 0, none⟩)) true ty).run Tryz.prog (w.iter s 0) = _ := fun ty => run_next_end w s 0 ty hlt
      have hemp : (s.toList == []) = true := by
        rw [bs_toList]
        have : s.data.toList.length = 0 := by rw [← bs_size]; omega
        cases h : s.data.toList with
        | nil => rfl
        | cons a l => rw [h] at this; simp at this
      clear HD; go_wp2
      go_ret2
      exact ⟨rfl, grownBy_iter w s _⟩

theorem headD_at (s : ByteArray) (h : 0 < s.size) : s.data.toList.headD 0 = s[0] := (take_head s h).1

set_option maxRecDepth 100000 in
set_option maxHeartbeats 400000 in
theorem pnumber_any (c : PC) (w : World) (i d : Nat) (h : PS c w i d) :
    Calls Tryz.prog 125 #[.pointer (some ⟨c.pb, 0, none⟩)] w (Steps c w i d (fun _ n v => v = .int .i64 n) (numP c.L i)) := by
  have HP := hide h; have hsh := h.good.short i
  by_cases hq : wd c.L i ≠ [] ∧ isDigit (((wd c.L i).headD 0).toNat : Int) = true
  · obtain ⟨n, hn⟩ := h.good.val i hq.1 hq.2
    have HD := hide (h.good.dig i hq.2)
    have HR : Hid (numP c.L i = .ok (n, i + 1)) := by
      show numP c.L i = _
      unfold numP numOf
      rw [if_pos hq, hn]
    have HE := hide hq.1; have HN := hide hn; have hne : (wd c.L i).isEmpty = false := isEmpty_false hq.1; clear h hq hn
    go_enter Tryz.func125, Tryz.ntmps125
    go_wp2_with (first
      | (go_at_call 38; refine (pword_any c _ i d HP.out).mono ?_; rintro e w1 ⟨rfl, m, rfl⟩)
      | (go_at_call 81; refine (value_any ⟨(wd c.L i).toArray⟩ _ (by unfold maxLen; simp [ByteArray.size]; omega) (by simpa using hne) (fun j hj => HD.out _ (by simp [ByteArray.getElem_eq_getElem_data]))).mono ?_; rintro e w2 ⟨he, hg⟩; rw [show (ByteArray.mk (wd c.L i).toArray).data.toList = wd c.L i from by simp, HN.out] at he; subst he; simp only [valueAns])
      | (go_at_call 87; refine (ptake_any c _ i d ((HP.out.drewN _).kept hg) HE.out).mono ?_; rintro e w3 ⟨rfl, hg3, p3⟩))
    go_ret
    exact Steps.ok HR.out rfl (gb_trans (gb_some (gb_trans (gb_drewN (gb_refl _ _) _) hg) _) hg3) p3 (by omega)
  · have HR : Hid (numP c.L i = .error (refuseAt c.L i)) := by
      show numP c.L i = _
      unfold numP numOf
      rw [if_neg hq]
    have HD : Hid (∀ h : 0 < (ByteArray.mk (wd c.L i).toArray).size, isDigit (((ByteArray.mk (wd c.L i).toArray)[0]'h).toNat : Int) = false ∧ ((ByteArray.mk (wd c.L i).toArray)[0]'h).toNat < 128) := by
      intro hz; have e := headD_at _ hz; have hl := h.good.low i; simp only [] at e; rw [← e]; refine ⟨?_, by simpa using hl⟩; cases hx : isDigit (((wd c.L i).headD 0).toNat : Int)
      · simp only
      · refine absurd ⟨?_, hx⟩ hq
        intro e2; rw [e2] at hz
        simp [ByteArray.size] at hz
    clear h hq
    go_enter Tryz.func125, Tryz.ntmps125
    go_wp2_with (first
      | (go_at_call 38; refine (pword_any c _ i d HP.out).mono ?_; rintro e w1 ⟨rfl, m, rfl⟩)
      | (go_at_call 81; refine (value_no ⟨(wd c.L i).toArray⟩ _ (by unfold maxLen; simp [ByteArray.size]; omega) HD.out).mono ?_; rintro e w2 ⟨rfl, hg⟩)
      | (go_at_call 39; refine (prefuse_any c _ i d ((HP.out.drewN _).kept hg)).mono ?_; rintro e w3 ⟨ht, hg3⟩; have HT := hide ht; obtain ⟨q, rfl, -⟩ := ht))
    exact ⟨rfl, Steps.err HR.out HT.out (gb_some (gb_trans (gb_drewN (gb_refl _ _) _) hg) _) (gb_some hg3 _)⟩

set_option maxRecDepth 100000 in
set_option maxHeartbeats 400000 in
theorem pending_any (c : PC) (w : World) (i d : Nat) (x : List UInt8) (sb : ByteArray) (hsb : sb.data.toList = x) (hx : x ≠ []) (h : PS c w i d) :
    Calls Tryz.prog 61 #[.pointer (some ⟨c.pb, 0, none⟩), .string sb] w (Steps c w i d (fun _ _ _ => True) (endingP c.L x i)) := by
  have HP := hide h; clear h
  go_enter Tryz.func61, Tryz.ntmps61
  go_wp2_with fail; go_at_call 52; refine (pwant_any c _ i d kEND _ rfl (by decide) HP.out).mono ?_; rintro e w1 (⟨x1, hr1, ht1, hg1⟩ | ⟨a1, j1, v1, hr1, rfl, -, hg1, p1, hi1⟩)
  · have HT := ht1
    obtain ⟨q, rfl, -⟩ := ht1
    exact ⟨rfl, Steps.err (P.bind_err hr1) HT (gb_refl _ _) hg1⟩
  have HR1 : endingP c.L x i = _ := P.bind_ok hr1; go_wp2_with fail; go_at_call 52; refine (pwant_any c _ j1 d x _ hsb hx p1).mono ?_; rintro e w2 (⟨x2, hr2, ht2, hg2⟩ | ⟨a2, j2, v2, hr2, rfl, -, hg2, p2, hi2⟩)
  · have HT := ht2
    obtain ⟨q, rfl, -⟩ := ht2
    exact ⟨rfl, Steps.err (HR1.trans hr2) HT hg1 hg2⟩
  go_wp2; refine bodyPost_end (results_none rfl _ _ _) rfl ?_
  exact Steps.ok (HR1.trans hr2) trivial (gb_trans hg1 hg2) p2 (by omega)
end Go.Proofs.YtbphiiaoncakfaaGreatDoor

/- The document's reader: numbers. -/
namespace Go.Proofs.YtbphiiaoncakfaaGreatDoor
open Go.RowKit

set_option maxRecDepth 1000000 in
set_option maxHeartbeats 1000000 in
theorem rvalue_yes (c : RC) (w : World) (i d : Nat) (sb : ByteArray) (hsb : sb = ⟨(wd c.L i).toArray⟩) (n : Int) (h : RS c w (i, none) d) (h0 : 0 < sb.size) (hs : sb.size ≤ 4000) (hn : valueFrom 0 sb.data.toList = some n) (hd : ∀ (j : Nat) (h : j < sb.size), isDigit (sb[j]'h).toNat = true) (hi : i + 1 < c.L.length) :
    Calls Tryz.prog 103 #[.pointer (some ⟨c.rb, 0, none⟩)] w (QSt c w (i, none) d (fun _ n v => v = .int .i64 n) (n, (i + 1, none))) := by
  have HP := hide h; have HSB := hide hsb; have HN := hide hn; have HD := hide hd; have hd0 := hd 0 h0
  have hemp : sb.toList.isEmpty = false := by rw [empty_form]; simp only [decide_eq_false_iff_not]; omega
  clear h hn hd hsb
  go_enter Tryz.func103, Tryz.ntmps103
  go_wp2_with (first
    | (go_at_call 13; refine (rword_any c _ (i, none) d HP.out).mono ?_; rw [show (wd c.L (i, (none : Option (Int × Int))).1) = wd c.L i from rfl, ← HSB.out]; rintro e w1 ⟨rfl, hg1⟩; have HP1 := hide (HP.out.grown hg1))
    | (go_at_call 12; refine (rok_any c _ (i, none) d (by first | exact HP1.out | exact HP1.out.drew | exact HP1.out.drewN _)).mono ?_; rintro e w2 ⟨rfl, hg2⟩; have HP2 := hide ((show RS c _ (i, none) d by first | exact HP1.out | exact HP1.out.drew | exact HP1.out.drewN _).grown hg2); have c1 : w2.cell? ⟨c.rb, 1, none⟩ = some (.int .i64 (i : Int)) := HP2.out.c1; have z := HP2.out.z; have hl : i < c.L.length := HP2.out.il; have hf := HP2.out.good.few)
    | (go_at_call 23; refine (rDigit_any _ _).mono ?_; rintro e _ ⟨rfl, rfl⟩; simp only [hd0]))
  clear hd0
  go_loop [4, 5] (fun nv iv => ∃ (k : Nat) (m : Int), k ≤ sb.size ∧ iv = .int .i64 k ∧ nv = .int .i64 m ∧ 0 ≤ m ∧ m ≤ 2147483647 ∧ Hid (valueFrom m (sb.data.toList.drop k) = some n)) (fun _ iv => sb.size - (intOf iv).toNat)
  case atStart => exact ⟨0, 0, Nat.zero_le _, rfl, rfl, by omega, by omega, HN⟩
  case round =>
    obtain ⟨k, m, hk, rfl, rfl, h1, h2, HB⟩ := hrel
    by_cases hlt : k < sb.size
    · have hdk := HD.out k hlt
      have hb1 : 48 ≤ ((sb[k]'hlt).toNat : Int) := by simp [isDigit] at hdk; omega
      have hb2 : ((sb[k]'hlt).toNat : Int) ≤ 57 := by simp [isDigit] at hdk; omega
      have HX := HB.out; rw [drop_at sb k hlt] at HX
      have hv : ¬ (2147483647 - (((sb[k]'hlt).toNat : Int) - 48)) / 10 < m := fun hv => by rw [valueFrom_too hv] at HX; cases HX
      rw [valueFrom_on hv] at HX; have H2 := hide HX; clear HX HB hdk; go_wp2
      exact ⟨⟨k + 1, m * 10 + (((sb[k]'hlt).toNat : Int) - 48), by omega, by go_num, by go_num, by omega, by omega, H2⟩, by simp [intOf]; omega⟩
    · have HX := HB.out
      rw [List.drop_eq_nil_of_le (by rw [← bs_size]; omega)] at HX; obtain rfl : m = n := Option.some.inj HX; clear HX HB; go_wp2
      go_ret
      exact QSt.ok (s' := (i + 1, none)) rfl rfl (gb_set (gb_some (gb_trans hg1 hg2) _) _ _) (HP2.out.set1 _ _ (by simp) hi) (by simp)

set_option maxRecDepth 1000000 in
set_option maxHeartbeats 1000000 in
theorem rvalue_any (c : RC) (w : World) (s : QS) (d : Nat) (h : RS c w s d) :
    Calls Tryz.prog 103 #[.pointer (some ⟨c.rb, 0, none⟩)] w (QSt c w s d (fun _ n v => v = .int .i64 n) (valueQ c.L s)) := by
  obtain ⟨i, b⟩ := s; have hsh := h.good.short i; cases b with
  | some y =>
    have HP := hide h
    have HR : Hid (valueQ c.L (i, some y) = (0, (otherQ c.L (i, some y)).2)) := by show valueQ c.L (i, some y) = _; unfold valueQ; rfl
    clear h
    go_enter Tryz.func103, Tryz.ntmps103
    go_wp2_with (first
      | (go_at_call 13; refine (rword_any c _ (i, some y) d HP.out).mono ?_; rintro e w1 ⟨rfl, hg1⟩; have HP1 := hide (HP.out.grown hg1))
      | (go_at_call 12; refine (rok_any c _ (i, some y) d HP1.out).mono ?_; rintro e w2 ⟨rfl, hg2⟩; have HP2 := hide (HP1.out.grown hg2))
      | (go_at_call 14; refine (rother_any c _ (i, some y) d HP2.out).mono ?_; rintro e w3 ⟨a3, s3, v3, hr3, rfl, -, hg3, p3, hi3⟩))
    go_ret
    exact QSt.ok (HR.out.trans (by rw [hr3])) rfl (gb_trans (gb_some (gb_trans hg1 hg2) _) hg3) p3 hi3
  | none =>
    by_cases hne : wd c.L i = []
    · have HP := hide h
      have hx : (wd c.L i).isEmpty = true := by rw [hne]; rfl
      have HR : Hid (valueQ c.L (i, none) = (0, (otherQ c.L (i, none)).2)) := by
        show valueQ c.L (i, none) = _
        unfold valueQ numOf
        dsimp only
        rw [if_neg (fun h => h.1 hne)]
      clear h hne
      go_enter Tryz.func103, Tryz.ntmps103
      go_wp2_with (first
        | (go_at_call 13; refine (rword_any c _ (i, none) d HP.out).mono ?_; rintro e w1 ⟨rfl, hg1⟩; have HP1 := hide (HP.out.grown hg1))
        | (go_at_call 12; refine (rok_any c _ (i, none) d HP1.out).mono ?_; rintro e w2 ⟨rfl, hg2⟩; have HP2 := hide (HP1.out.grown hg2))
        | (go_at_call 14; refine (rother_any c _ (i, none) d HP2.out).mono ?_; rintro e w3 ⟨a3, s3, v3, hr3, rfl, -, hg3, p3, hi3⟩))
      go_ret
      exact QSt.ok (HR.out.trans (by rw [hr3])) rfl (gb_trans (gb_some (gb_trans hg1 hg2) _) hg3) p3 hi3
    · obtain ⟨sb, hsb⟩ : ∃ sb : ByteArray, sb = ⟨(wd c.L i).toArray⟩ := ⟨_, rfl⟩
      have hl : sb.data.toList = wd c.L i := by rw [hsb]
      have hz : sb.size = (wd c.L i).length := by rw [bs_size, hl]
      have h0 : 0 < sb.size := by rw [hz]; exact List.length_pos_iff.2 hne
      have hh : (wd c.L i).headD 0 = sb[0] := by rw [← hl]; exact headD_at sb h0
      cases hd : isDigit (((wd c.L i).headD 0).toNat : Int) with
      | true =>
        obtain ⟨n, hn⟩ := h.good.val i hne hd; have hdg := h.good.dig i hd
        have e : valueQ c.L (i, none) = (n, (i + 1, none)) := by
          unfold valueQ numOf
          dsimp only
          rw [if_pos ⟨hne, hd⟩, hn]
        rw [e]; refine rvalue_yes c w i d sb hsb n h h0 (by omega) (by rw [hl]; exact hn) (fun j hj => hdg _ ?_) (h.good.next h.il hne); rw [← hl]
        simp [ByteArray.getElem_eq_getElem_data]
      | false =>
        have HP := hide h
        have hd0 : isDigit ((sb[0]'h0).toNat : Int) = false := by rw [← hh]; exact hd
        have hemp : sb.toList.isEmpty = false := by rw [empty_form]; simp only [decide_eq_false_iff_not]; omega
        have HSB := hide hsb
        have HR : Hid (valueQ c.L (i, none) = (0, (otherQ c.L (i, none)).2)) := by
          show valueQ c.L (i, none) = _
          unfold valueQ numOf
          dsimp only
          rw [if_neg (fun h => by rw [hd] at h; cases h.2)]
        clear h hne hd hh hl hsb
        go_enter Tryz.func103, Tryz.ntmps103
        go_wp2_with (first
          | (go_at_call 13; refine (rword_any c _ (i, none) d HP.out).mono ?_; rw [show (wd c.L (i, (none : Option (Int × Int))).1) = wd c.L i from rfl, ← HSB.out]; rintro e w1 ⟨rfl, hg1⟩; have HP1 := hide (HP.out.grown hg1))
          | (go_at_call 12; refine (rok_any c _ (i, none) d HP1.out).mono ?_; rintro e w2 ⟨rfl, hg2⟩; have HP2 := hide (HP1.out.grown hg2))
          | (go_at_call 23; refine (rDigit_any _ _).mono ?_; rintro e _ ⟨rfl, rfl⟩; simp only [hd0])
          | (go_at_call 14; refine (rother_any c _ (i, none) d HP2.out).mono ?_; rintro e w3 ⟨a3, s3, v3, hr3, rfl, -, hg3, p3, hi3⟩))
        go_ret
        exact QSt.ok (HR.out.trans (by rw [hr3])) rfl (gb_trans (gb_some (gb_trans hg1 hg2) _) hg3) p3 hi3
end Go.Proofs.YtbphiiaoncakfaaGreatDoor

/- The document's reader: lists of words, and what ends acts. -/
namespace Go.Proofs.YtbphiiaoncakfaaGreatDoor
open Go.RowKit

def inB (xs : List (List UInt8)) (x : List UInt8) : Bool := xs.contains x
set_option maxRecDepth 1000000 in
set_option maxHeartbeats 1000000 in
theorem rin_any (x : List UInt8) (xs : List (List UInt8)) (g n : Nat) (w : World) (hn : n = xs.length) (hs : xs.length ≤ 100) (hc : ∀ (k : Nat) (h : k < xs.length), w.cell? ⟨g, k, none⟩ = some (.string ⟨(xs[k]'h).toArray⟩)) :
    Calls Tryz.prog 101 #[.string ⟨x.toArray⟩, .slice (some ⟨g, 0, none⟩) n n] w fun e w' => e = .returned (.bool (inB xs x)) ∧ w' = w := by
  have HC := hide hc; clear hc
  go_enter Tryz.func101, Tryz.ntmps101
  go_wp2
  go_loop [5] (fun i => ∃ k : Nat, k ≤ xs.length ∧ i = .int .i64 k ∧ Hid (x ∉ xs.take k)) (fun i => xs.length - (intOf i).toNat)
  case atStart => exact ⟨0, by omega, rfl, by show _ ∉ _; simp⟩
  case round =>
    obtain ⟨k, hk, rfl, HB⟩ := hrel
    by_cases hlt : k < xs.length
    · have hc := HC.out k hlt
      cases he : (xs[k]'hlt == x)
      · have HN : Hid (x ∉ xs.take (k + 1)) := mem_take_succ hlt HB.out (fun h => by rw [h] at he; simp at he)
        go_wp2
        exact ⟨⟨k + 1, by omega, by go_num, HN⟩, by simp [intOf]; omega⟩
      · have HN : Hid (inB xs x = true) := by
          have e : xs[k]'hlt = x := by simpa using he
          show xs.contains x = true
          rw [List.contains_iff_mem, ← e]
          exact List.getElem_mem hlt
        go_wp2
        go_ret
        exact ⟨by rw [HN.out]; rfl, rfl⟩
    · have hc : Hid (inB xs x = false) := by
        have e : xs.take k = xs := List.take_of_length_le (by omega); have := HB.out; rw [e] at this
        show xs.contains x = false
        rw [Bool.eq_false_iff, ne_eq, List.contains_iff_mem]
        exact this
      go_wp2
      go_ret
      exact ⟨by rw [hc.out]; rfl, rfl⟩

def behindB (w : List UInt8) : Bool := w == [] || w == kEND || w == kELSIF || w == kELSE || w == kUNTIL
set_option maxRecDepth 100000 in
set_option maxHeartbeats 400000 in
theorem rbehind_any (x : List UInt8) (w : World) : Calls Tryz.prog 45 #[.string ⟨x.toArray⟩] w fun e w' => e = .returned (.bool (behindB x)) ∧ w' = w := by
  unfold behindB
  go_enter Tryz.func45, Tryz.ntmps45
  go_wp2
  all_goals go_ret
  all_goals
    refine ⟨?_, rfl⟩
    simp_all [kEND, kELSIF, kELSE, kUNTIL]
theorem nothingB_eq (x : List UInt8) : nothingB x = (x == s_semi || behindB x) := by
  unfold nothingB behindB
  cases x == s_semi <;> cases x == kEND <;> cases x == kELSIF <;> cases x == kELSE <;> cases x == kUNTIL <;> cases x == [] <;> rfl
end Go.Proofs.YtbphiiaoncakfaaGreatDoor

/- The document's reader: declarations. -/
namespace Go.Proofs.YtbphiiaoncakfaaGreatDoor
open Go.RowKit

/-- A part that is read by a function of the reader's. -/
def QOK (c : RC) (d : Nat) (g : Nat) (q : Q T) : Prop :=
  ∀ (w : World) (s : QS), RS c w s d → Calls Tryz.prog g #[.pointer (some ⟨c.rb, 0, none⟩)] w (QSt c w s d (fun w' t v => TR w' w.heap.size w'.heap.size t v) (q s))
theorem markedQ_eq {L : List Tok} {k : Int} {s s1 s2 : QS} {x : List UInt8} {b : Bool} (h : nameQ L s = (x, s1)) (h2 : isQ L s_star s1 = (b, s2)) : markedQ L k s = (.mk k x (if b = true then 1 else 0) (pos L s.1) [], s2) := by
  show Q.bind (namedQ L k) (starQ L) s = _
  rw [Q.bind_eq (namedQ_eq h)]
  show Q.bind (isQ L s_star) _ s1 = _
  rw [Q.bind_eq h2]
  cases b <;> rfl
theorem Q.bind_bind {α β γ : Type} (q : Q α) (k : α → Q β) (m : β → Q γ) : (q.bind k).bind m = q.bind fun a => (k a).bind m := rfl

set_option maxRecDepth 100000 in
set_option maxHeartbeats 1000000 in
theorem rdecl_const (c : RC) (w : World) (s : QS) (d : Nat) (E : Q T) (h : RS c w s d) (hE : QOK c d 68 E) :
    Calls Tryz.prog 42 #[.pointer (some ⟨c.rb, 0, none⟩), .int .i64 4] w (QSt c w s d (fun w' t v => TR w' w.heap.size w'.heap.size t v) (((markedQ c.L 4).bind fun n => (needQ c.L s_eq).bind fun _ => E.bind fun e => Q.ret (withSub n e)) s)) := by
  have HP := hide h; have HL := hide h.low; have hb := h.lt; clear h
  go_enter Tryz.func42, Tryz.ntmps42
  go_wp2_with fail; go_at_call 26; refine (rat_any c _ s d (by exact RS.alloc HP.out _)).mono ?_; rintro e w1 ⟨rfl, hg1⟩; have p1 : RS c w1 s d := RS.grown (by exact RS.alloc HP.out _) hg1; have G1 : w.grownBy w1 (some c.rb) := gb_trans (by exact gb_alloc (gb_refl w (some c.rb)) _) (gb_some hg1 (some c.rb)); have sz1 := hg1.size
  try simp at sz1
  have r_1 : RB w1 (w.heap.size) := RB.kept (RB.new' (by simp)) hg1 (by simp); have r_lt1 := r_1.lt; obtain ⟨_,_,_,_,_,_,_,_,_,_,_⟩ := id r_1; go_wp2_with fail; go_at_call 28; refine (rname_any c _ s d (by exact RS.alloc p1 _)).mono ?_; rintro e w2 ⟨a2, s2, v2, hr2, rfl, ⟨rfl, hl2⟩, hg2, p2, hi2⟩; have G2 : w.grownBy w2 (some c.rb) := gb_trans (by exact gb_alloc G1 _) hg2; have sz2 := hg2.size
  try simp at sz2
  have r_2 : RB w2 (w.heap.size) := RB.keep (by exact RB.alloc r_1 _) hg2 (by omega); have n_2 : NB w2 (w1.heap.size) (.int .i64 4) (.string ⟨#[]⟩) (.int .i64 0) (.int .i64 (pos c.L s.1)) (.slice none 0 0) := NB.keep (NB.new' (by simp)) hg2 (by omega); have r_lt2 := r_2.lt; have n_lt2 := n_2.lt; obtain ⟨_,_,_,_,_,_,_,_,_,_,_⟩ := id r_2; obtain ⟨_,_,_,_,_,_⟩ := id n_2; go_wp2_with fail; go_at_call 29; refine (ris_any c _ s2 d s_star _ rfl (by decide) (by exact RS.put p2 HL.out (by omega) _ _)).mono ?_; rintro e w3 ⟨a3, s3, v3, hr3, rfl, rfl, hg3, p3, hi3⟩; have G3 : w.grownBy w3 (some c.rb) := gb_trans (by exact gb_put G2 (by omega) _ _) hg3; have sz3 := hg3.size
  try simp at sz3
  have r_3 : RB w3 (w.heap.size) := RB.keep (by exact RB.put r_2 _ _ _) hg3 (by omega); have n_3 : NB w3 (w1.heap.size) (.int .i64 4) (.string ⟨a2.toArray⟩) (.int .i64 0) (.int .i64 (pos c.L s.1)) (.slice none 0 0) := NB.keep (by exact NB.s1 n_2 _) hg3 (by omega); have r_lt3 := r_3.lt; have n_lt3 := n_3.lt; obtain ⟨_,_,_,_,_,_,_,_,_,_,_⟩ := id r_3; obtain ⟨_,_,_,_,_,_⟩ := id n_3; have HRx1 : ((markedQ c.L 4).bind fun n => (needQ c.L s_eq).bind fun _ => E.bind fun e => Q.ret (withSub n e)) s = _ := Q.bind_eq (markedQ_eq hr2 hr3); cases a3
  · go_wp2_with fail
    go_at_call 27; refine (rneed_any c _ s3 d s_eq _ rfl (by decide) p3).mono ?_; rintro e w4 ⟨a4, s4, v4, hr4, rfl, -, hg4, p4, hi4⟩; have HR4 : ((markedQ c.L 4).bind fun n => (needQ c.L s_eq).bind fun _ => E.bind fun e => Q.ret (withSub n e)) s = _ := HRx1.trans (Q.bind_eq hr4); have G4 : w.grownBy w4 (some c.rb) := gb_trans G3 hg4; have sz4 := hg4.size
    try simp at sz4
    have r_4 : RB w4 (w.heap.size) := RB.keep r_3 hg4 (by omega); have n_4 : NB w4 (w1.heap.size) (.int .i64 4) (.string ⟨a2.toArray⟩) (.int .i64 0) (.int .i64 (pos c.L s.1)) (.slice none 0 0) := NB.keep n_3 hg4 (by omega); have r_lt4 := r_4.lt; have n_lt4 := n_4.lt; obtain ⟨_,_,_,_,_,_,_,_,_,_,_⟩ := id r_4; obtain ⟨_,_,_,_,_,_⟩ := id n_4; go_wp2_with fail; go_at_call 68; refine (hE _ s4 p4).mono ?_; rintro e w5 ⟨⟨k5, n5, m5, q5, l5⟩, s5, v5, hr5, rfl, ⟨sv5, rfl, lr5⟩, hg5, p5, hi5⟩; have HR5 : ((markedQ c.L 4).bind fun n => (needQ c.L s_eq).bind fun _ => E.bind fun e => Q.ret (withSub n e)) s = _ := HR4.trans (Q.bind_eq hr5); simp only [T.kind, T.name, T.num, T.at', T.subs] at lr5 ⊢; obtain ⟨ad5, cp5, rfl⟩ := lr5.form; obtain ⟨b5, hb5, lr5⟩ : ∃ b, b = _ ∧ LR w5 (In b w5.heap.size) l5 (.slice ad5 l5.length cp5) := ⟨_, rfl, lr5⟩
    try simp at hb5
    have G5 : w.grownBy w5 (some c.rb) := gb_trans G4 hg5; have sz5 := hg5.size
    try simp at sz5
    have r_5 : RB w5 (w.heap.size) := RB.keep r_4 hg5 (by omega); have n_5 : NB w5 (w1.heap.size) (.int .i64 4) (.string ⟨a2.toArray⟩) (.int .i64 0) (.int .i64 (pos c.L s.1)) (.slice none 0 0) := NB.keep n_4 hg5 (by omega); have r_lt5 := r_5.lt; have n_lt5 := n_5.lt; obtain ⟨_,_,_,_,_,_,_,_,_,_,_⟩ := id r_5; obtain ⟨_,_,_,_,_,_⟩ := id n_5; go_wp2; refine node_ret Tryz.results42 rfl (NB.alloc (RB.five ?_) _) rfl ?_
    · exact RB.put r_5 _ _ _
    refine QSt.ok (a := (T.mk 4 a2 0 (pos c.L s.1) [(T.mk k5 n5 m5 q5 l5)])) (HR5) ⟨_, rfl, ?_⟩ ?_ ?_ (by omega)
    · refine LR.wide (lo := b5) (hi := w5.heap.size + 1) (ts := [(T.mk k5 n5 m5 q5 l5)]) ?_ (by omega) (by first | omega | (simp <;> omega))
      exact (LR.build1 _ (t := (T.mk k5 n5 m5 q5 l5)) (sv := .slice ad5 l5.length cp5) (LR.wide (lo := b5) (hi := w5.heap.size) (ts := l5) (by exact LR.p5 (LR.put lr5 (by omega) _ _) (by omega)) (by omega) (by first | omega | (simp <;> omega))) (by simp) rfl (by omega))
    · exact gb_alloc (gb_p5 (gb_put G5 (by omega) _ _) (by omega)) _
    · exact RS.alloc (RS.p5 (RS.put p5 HL.out (by omega) _ _) HL.out (by omega)) _
  · go_wp2_with fail
    go_at_call 27; refine (rneed_any c _ s3 d s_eq _ rfl (by decide) (by exact RS.put p3 HL.out (by omega) _ _)).mono ?_; rintro e w4 ⟨a4, s4, v4, hr4, rfl, -, hg4, p4, hi4⟩; have HR4 : ((markedQ c.L 4).bind fun n => (needQ c.L s_eq).bind fun _ => E.bind fun e => Q.ret (withSub n e)) s = _ := HRx1.trans (Q.bind_eq hr4); have G4 : w.grownBy w4 (some c.rb) := gb_trans (by exact gb_put G3 (by omega) _ _) hg4; have sz4 := hg4.size
    try simp at sz4
    have r_4 : RB w4 (w.heap.size) := RB.keep (by exact RB.put r_3 _ _ _) hg4 (by omega); have n_4 : NB w4 (w1.heap.size) (.int .i64 4) (.string ⟨a2.toArray⟩) (.int .i64 1) (.int .i64 (pos c.L s.1)) (.slice none 0 0) := NB.keep (by exact NB.s2 n_3 _) hg4 (by omega); have r_lt4 := r_4.lt; have n_lt4 := n_4.lt; obtain ⟨_,_,_,_,_,_,_,_,_,_,_⟩ := id r_4; obtain ⟨_,_,_,_,_,_⟩ := id n_4; go_wp2_with fail; go_at_call 68; refine (hE _ s4 p4).mono ?_; rintro e w5 ⟨⟨k5, n5, m5, q5, l5⟩, s5, v5, hr5, rfl, ⟨sv5, rfl, lr5⟩, hg5, p5, hi5⟩; have HR5 : ((markedQ c.L 4).bind fun n => (needQ c.L s_eq).bind fun _ => E.bind fun e => Q.ret (withSub n e)) s = _ := HR4.trans (Q.bind_eq hr5); simp only [T.kind, T.name, T.num, T.at', T.subs] at lr5 ⊢; obtain ⟨ad5, cp5, rfl⟩ := lr5.form; obtain ⟨b5, hb5, lr5⟩ : ∃ b, b = _ ∧ LR w5 (In b w5.heap.size) l5 (.slice ad5 l5.length cp5) := ⟨_, rfl, lr5⟩
    try simp at hb5
    have G5 : w.grownBy w5 (some c.rb) := gb_trans G4 hg5; have sz5 := hg5.size
    try simp at sz5
    have r_5 : RB w5 (w.heap.size) := RB.keep r_4 hg5 (by omega); have n_5 : NB w5 (w1.heap.size) (.int .i64 4) (.string ⟨a2.toArray⟩) (.int .i64 1) (.int .i64 (pos c.L s.1)) (.slice none 0 0) := NB.keep n_4 hg5 (by omega); have r_lt5 := r_5.lt; have n_lt5 := n_5.lt; obtain ⟨_,_,_,_,_,_,_,_,_,_,_⟩ := id r_5; obtain ⟨_,_,_,_,_,_⟩ := id n_5; go_wp2; refine node_ret Tryz.results42 rfl (NB.alloc (RB.five ?_) _) rfl ?_
    · exact RB.put r_5 _ _ _
    refine QSt.ok (a := (T.mk 4 a2 1 (pos c.L s.1) [(T.mk k5 n5 m5 q5 l5)])) (HR5) ⟨_, rfl, ?_⟩ ?_ ?_ (by omega)
    · refine LR.wide (lo := b5) (hi := w5.heap.size + 1) (ts := [(T.mk k5 n5 m5 q5 l5)]) ?_ (by omega) (by first | omega | (simp <;> omega))
      exact (LR.build1 _ (t := (T.mk k5 n5 m5 q5 l5)) (sv := .slice ad5 l5.length cp5) (LR.wide (lo := b5) (hi := w5.heap.size) (ts := l5) (by exact LR.p5 (LR.put lr5 (by omega) _ _) (by omega)) (by omega) (by first | omega | (simp <;> omega))) (by simp) rfl (by omega))
    · exact gb_alloc (gb_p5 (gb_put G5 (by omega) _ _) (by omega)) _
    · exact RS.alloc (RS.p5 (RS.put p5 HL.out (by omega) _ _) HL.out (by omega)) _

set_option maxRecDepth 100000 in
set_option maxHeartbeats 1000000 in
theorem rdecl_type (c : RC) (w : World) (s : QS) (d : Nat) (E : Q T) (h : RS c w s d) (hE : QOK c d 69 E) :
    Calls Tryz.prog 42 #[.pointer (some ⟨c.rb, 0, none⟩), .int .i64 5] w (QSt c w s d (fun w' t v => TR w' w.heap.size w'.heap.size t v) (((markedQ c.L 5).bind fun n => (needQ c.L s_eq).bind fun _ => E.bind fun e => Q.ret (withSub n e)) s)) := by
  have HP := hide h; have HL := hide h.low; have hb := h.lt; clear h
  go_enter Tryz.func42, Tryz.ntmps42
  go_wp2_with fail; go_at_call 26; refine (rat_any c _ s d (by exact RS.alloc HP.out _)).mono ?_; rintro e w1 ⟨rfl, hg1⟩; have p1 : RS c w1 s d := RS.grown (by exact RS.alloc HP.out _) hg1; have G1 : w.grownBy w1 (some c.rb) := gb_trans (by exact gb_alloc (gb_refl w (some c.rb)) _) (gb_some hg1 (some c.rb)); have sz1 := hg1.size
  try simp at sz1
  have r_1 : RB w1 (w.heap.size) := RB.kept (RB.new' (by simp)) hg1 (by simp); have r_lt1 := r_1.lt; obtain ⟨_,_,_,_,_,_,_,_,_,_,_⟩ := id r_1; go_wp2_with fail; go_at_call 28; refine (rname_any c _ s d (by exact RS.alloc p1 _)).mono ?_; rintro e w2 ⟨a2, s2, v2, hr2, rfl, ⟨rfl, hl2⟩, hg2, p2, hi2⟩; have G2 : w.grownBy w2 (some c.rb) := gb_trans (by exact gb_alloc G1 _) hg2; have sz2 := hg2.size
  try simp at sz2
  have r_2 : RB w2 (w.heap.size) := RB.keep (by exact RB.alloc r_1 _) hg2 (by omega); have n_2 : NB w2 (w1.heap.size) (.int .i64 5) (.string ⟨#[]⟩) (.int .i64 0) (.int .i64 (pos c.L s.1)) (.slice none 0 0) := NB.keep (NB.new' (by simp)) hg2 (by omega); have r_lt2 := r_2.lt; have n_lt2 := n_2.lt; obtain ⟨_,_,_,_,_,_,_,_,_,_,_⟩ := id r_2; obtain ⟨_,_,_,_,_,_⟩ := id n_2; go_wp2_with fail; go_at_call 29; refine (ris_any c _ s2 d s_star _ rfl (by decide) (by exact RS.put p2 HL.out (by omega) _ _)).mono ?_; rintro e w3 ⟨a3, s3, v3, hr3, rfl, rfl, hg3, p3, hi3⟩; have G3 : w.grownBy w3 (some c.rb) := gb_trans (by exact gb_put G2 (by omega) _ _) hg3; have sz3 := hg3.size
  try simp at sz3
  have r_3 : RB w3 (w.heap.size) := RB.keep (by exact RB.put r_2 _ _ _) hg3 (by omega); have n_3 : NB w3 (w1.heap.size) (.int .i64 5) (.string ⟨a2.toArray⟩) (.int .i64 0) (.int .i64 (pos c.L s.1)) (.slice none 0 0) := NB.keep (by exact NB.s1 n_2 _) hg3 (by omega); have r_lt3 := r_3.lt; have n_lt3 := n_3.lt; obtain ⟨_,_,_,_,_,_,_,_,_,_,_⟩ := id r_3; obtain ⟨_,_,_,_,_,_⟩ := id n_3; have HRx1 : ((markedQ c.L 5).bind fun n => (needQ c.L s_eq).bind fun _ => E.bind fun e => Q.ret (withSub n e)) s = _ := Q.bind_eq (markedQ_eq hr2 hr3); cases a3
  · go_wp2_with fail
    go_at_call 27; refine (rneed_any c _ s3 d s_eq _ rfl (by decide) p3).mono ?_; rintro e w4 ⟨a4, s4, v4, hr4, rfl, -, hg4, p4, hi4⟩; have HR4 : ((markedQ c.L 5).bind fun n => (needQ c.L s_eq).bind fun _ => E.bind fun e => Q.ret (withSub n e)) s = _ := HRx1.trans (Q.bind_eq hr4); have G4 : w.grownBy w4 (some c.rb) := gb_trans G3 hg4; have sz4 := hg4.size
    try simp at sz4
    have r_4 : RB w4 (w.heap.size) := RB.keep r_3 hg4 (by omega); have n_4 : NB w4 (w1.heap.size) (.int .i64 5) (.string ⟨a2.toArray⟩) (.int .i64 0) (.int .i64 (pos c.L s.1)) (.slice none 0 0) := NB.keep n_3 hg4 (by omega); have r_lt4 := r_4.lt; have n_lt4 := n_4.lt; obtain ⟨_,_,_,_,_,_,_,_,_,_,_⟩ := id r_4; obtain ⟨_,_,_,_,_,_⟩ := id n_4; go_wp2_with fail; go_at_call 69; refine (hE _ s4 p4).mono ?_; rintro e w5 ⟨⟨k5, n5, m5, q5, l5⟩, s5, v5, hr5, rfl, ⟨sv5, rfl, lr5⟩, hg5, p5, hi5⟩; have HR5 : ((markedQ c.L 5).bind fun n => (needQ c.L s_eq).bind fun _ => E.bind fun e => Q.ret (withSub n e)) s = _ := HR4.trans (Q.bind_eq hr5); simp only [T.kind, T.name, T.num, T.at', T.subs] at lr5 ⊢; obtain ⟨ad5, cp5, rfl⟩ := lr5.form; obtain ⟨b5, hb5, lr5⟩ : ∃ b, b = _ ∧ LR w5 (In b w5.heap.size) l5 (.slice ad5 l5.length cp5) := ⟨_, rfl, lr5⟩
    try simp at hb5
    have G5 : w.grownBy w5 (some c.rb) := gb_trans G4 hg5; have sz5 := hg5.size
    try simp at sz5
    have r_5 : RB w5 (w.heap.size) := RB.keep r_4 hg5 (by omega); have n_5 : NB w5 (w1.heap.size) (.int .i64 5) (.string ⟨a2.toArray⟩) (.int .i64 0) (.int .i64 (pos c.L s.1)) (.slice none 0 0) := NB.keep n_4 hg5 (by omega); have r_lt5 := r_5.lt; have n_lt5 := n_5.lt; obtain ⟨_,_,_,_,_,_,_,_,_,_,_⟩ := id r_5; obtain ⟨_,_,_,_,_,_⟩ := id n_5; go_wp2; refine node_ret Tryz.results42 rfl (NB.alloc (RB.five ?_) _) rfl ?_
    · exact RB.put r_5 _ _ _
    refine QSt.ok (a := (T.mk 5 a2 0 (pos c.L s.1) [(T.mk k5 n5 m5 q5 l5)])) (HR5) ⟨_, rfl, ?_⟩ ?_ ?_ (by omega)
    · refine LR.wide (lo := b5) (hi := w5.heap.size + 1) (ts := [(T.mk k5 n5 m5 q5 l5)]) ?_ (by omega) (by first | omega | (simp <;> omega))
      exact (LR.build1 _ (t := (T.mk k5 n5 m5 q5 l5)) (sv := .slice ad5 l5.length cp5) (LR.wide (lo := b5) (hi := w5.heap.size) (ts := l5) (by exact LR.p5 (LR.put lr5 (by omega) _ _) (by omega)) (by omega) (by first | omega | (simp <;> omega))) (by simp) rfl (by omega))
    · exact gb_alloc (gb_p5 (gb_put G5 (by omega) _ _) (by omega)) _
    · exact RS.alloc (RS.p5 (RS.put p5 HL.out (by omega) _ _) HL.out (by omega)) _
  · go_wp2_with fail
    go_at_call 27; refine (rneed_any c _ s3 d s_eq _ rfl (by decide) (by exact RS.put p3 HL.out (by omega) _ _)).mono ?_; rintro e w4 ⟨a4, s4, v4, hr4, rfl, -, hg4, p4, hi4⟩; have HR4 : ((markedQ c.L 5).bind fun n => (needQ c.L s_eq).bind fun _ => E.bind fun e => Q.ret (withSub n e)) s = _ := HRx1.trans (Q.bind_eq hr4); have G4 : w.grownBy w4 (some c.rb) := gb_trans (by exact gb_put G3 (by omega) _ _) hg4; have sz4 := hg4.size
    try simp at sz4
    have r_4 : RB w4 (w.heap.size) := RB.keep (by exact RB.put r_3 _ _ _) hg4 (by omega); have n_4 : NB w4 (w1.heap.size) (.int .i64 5) (.string ⟨a2.toArray⟩) (.int .i64 1) (.int .i64 (pos c.L s.1)) (.slice none 0 0) := NB.keep (by exact NB.s2 n_3 _) hg4 (by omega); have r_lt4 := r_4.lt; have n_lt4 := n_4.lt; obtain ⟨_,_,_,_,_,_,_,_,_,_,_⟩ := id r_4; obtain ⟨_,_,_,_,_,_⟩ := id n_4; go_wp2_with fail; go_at_call 69; refine (hE _ s4 p4).mono ?_; rintro e w5 ⟨⟨k5, n5, m5, q5, l5⟩, s5, v5, hr5, rfl, ⟨sv5, rfl, lr5⟩, hg5, p5, hi5⟩; have HR5 : ((markedQ c.L 5).bind fun n => (needQ c.L s_eq).bind fun _ => E.bind fun e => Q.ret (withSub n e)) s = _ := HR4.trans (Q.bind_eq hr5); simp only [T.kind, T.name, T.num, T.at', T.subs] at lr5 ⊢; obtain ⟨ad5, cp5, rfl⟩ := lr5.form; obtain ⟨b5, hb5, lr5⟩ : ∃ b, b = _ ∧ LR w5 (In b w5.heap.size) l5 (.slice ad5 l5.length cp5) := ⟨_, rfl, lr5⟩
    try simp at hb5
    have G5 : w.grownBy w5 (some c.rb) := gb_trans G4 hg5; have sz5 := hg5.size
    try simp at sz5
    have r_5 : RB w5 (w.heap.size) := RB.keep r_4 hg5 (by omega); have n_5 : NB w5 (w1.heap.size) (.int .i64 5) (.string ⟨a2.toArray⟩) (.int .i64 1) (.int .i64 (pos c.L s.1)) (.slice none 0 0) := NB.keep n_4 hg5 (by omega); have r_lt5 := r_5.lt; have n_lt5 := n_5.lt; obtain ⟨_,_,_,_,_,_,_,_,_,_,_⟩ := id r_5; obtain ⟨_,_,_,_,_,_⟩ := id n_5; go_wp2; refine node_ret Tryz.results42 rfl (NB.alloc (RB.five ?_) _) rfl ?_
    · exact RB.put r_5 _ _ _
    refine QSt.ok (a := (T.mk 5 a2 1 (pos c.L s.1) [(T.mk k5 n5 m5 q5 l5)])) (HR5) ⟨_, rfl, ?_⟩ ?_ ?_ (by omega)
    · refine LR.wide (lo := b5) (hi := w5.heap.size + 1) (ts := [(T.mk k5 n5 m5 q5 l5)]) ?_ (by omega) (by first | omega | (simp <;> omega))
      exact (LR.build1 _ (t := (T.mk k5 n5 m5 q5 l5)) (sv := .slice ad5 l5.length cp5) (LR.wide (lo := b5) (hi := w5.heap.size) (ts := l5) (by exact LR.p5 (LR.put lr5 (by omega) _ _) (by omega)) (by omega) (by first | omega | (simp <;> omega))) (by simp) rfl (by omega))
    · exact gb_alloc (gb_p5 (gb_put G5 (by omega) _ _) (by omega)) _
    · exact RS.alloc (RS.p5 (RS.put p5 HL.out (by omega) _ _) HL.out (by omega)) _

set_option maxRecDepth 100000 in
set_option maxHeartbeats 1000000 in
theorem rdecl_typed (c : RC) (w : World) (s : QS) (d : Nat) (kd : Int) (h : RS c w s d) (h4 : (kd == 4) = false) (h5 : (kd == 5) = false) :
    Calls Tryz.prog 42 #[.pointer (some ⟨c.rb, 0, none⟩), .int .i64 kd] w (QSt c w s d (fun w' t v => TR w' w.heap.size w'.heap.size t v) (((markedQ c.L kd).bind (typedQ c.L)) s)) := by
  have HP := hide h; have HL := hide h.low; have hb := h.lt; clear h
  go_enter Tryz.func42, Tryz.ntmps42
  go_wp2_with fail; go_at_call 26; refine (rat_any c _ s d (by exact RS.alloc HP.out _)).mono ?_; rintro e w1 ⟨rfl, hg1⟩; have p1 : RS c w1 s d := RS.grown (by exact RS.alloc HP.out _) hg1; have G1 : w.grownBy w1 (some c.rb) := gb_trans (by exact gb_alloc (gb_refl w (some c.rb)) _) (gb_some hg1 (some c.rb)); have sz1 := hg1.size
  try simp at sz1
  have r_1 : RB w1 (w.heap.size) := RB.kept (RB.new' (by simp)) hg1 (by simp); have r_lt1 := r_1.lt; obtain ⟨_,_,_,_,_,_,_,_,_,_,_⟩ := id r_1; go_wp2_with fail; go_at_call 28; refine (rname_any c _ s d (by exact RS.alloc p1 _)).mono ?_; rintro e w2 ⟨a2, s2, v2, hr2, rfl, ⟨rfl, hl2⟩, hg2, p2, hi2⟩; have G2 : w.grownBy w2 (some c.rb) := gb_trans (by exact gb_alloc G1 _) hg2; have sz2 := hg2.size
  try simp at sz2
  have r_2 : RB w2 (w.heap.size) := RB.keep (by exact RB.alloc r_1 _) hg2 (by omega); have n_2 : NB w2 (w1.heap.size) (.int .i64 kd) (.string ⟨#[]⟩) (.int .i64 0) (.int .i64 (pos c.L s.1)) (.slice none 0 0) := NB.keep (NB.new' (by simp)) hg2 (by omega); have r_lt2 := r_2.lt; have n_lt2 := n_2.lt; obtain ⟨_,_,_,_,_,_,_,_,_,_,_⟩ := id r_2; obtain ⟨_,_,_,_,_,_⟩ := id n_2; go_wp2_with fail; go_at_call 29; refine (ris_any c _ s2 d s_star _ rfl (by decide) (by exact RS.put p2 HL.out (by omega) _ _)).mono ?_; rintro e w3 ⟨a3, s3, v3, hr3, rfl, rfl, hg3, p3, hi3⟩; have G3 : w.grownBy w3 (some c.rb) := gb_trans (by exact gb_put G2 (by omega) _ _) hg3; have sz3 := hg3.size
  try simp at sz3
  have r_3 : RB w3 (w.heap.size) := RB.keep (by exact RB.put r_2 _ _ _) hg3 (by omega); have n_3 : NB w3 (w1.heap.size) (.int .i64 kd) (.string ⟨a2.toArray⟩) (.int .i64 0) (.int .i64 (pos c.L s.1)) (.slice none 0 0) := NB.keep (by exact NB.s1 n_2 _) hg3 (by omega); have r_lt3 := r_3.lt; have n_lt3 := n_3.lt; obtain ⟨_,_,_,_,_,_,_,_,_,_,_⟩ := id r_3; obtain ⟨_,_,_,_,_,_⟩ := id n_3; have HRx1 : ((markedQ c.L kd).bind (typedQ c.L)) s = _ := Q.bind_eq (markedQ_eq hr2 hr3); cases a3
  · go_wp2_with fail
    go_at_call 27; refine (rneed_any c _ s3 d s_colon _ rfl (by decide) p3).mono ?_; rintro e w4 ⟨a4, s4, v4, hr4, rfl, -, hg4, p4, hi4⟩; have HR4 : ((markedQ c.L kd).bind (typedQ c.L)) s = _ := HRx1.trans (Q.bind_eq hr4); have G4 : w.grownBy w4 (some c.rb) := gb_trans G3 hg4; have sz4 := hg4.size
    try simp at sz4
    have r_4 : RB w4 (w.heap.size) := RB.keep r_3 hg4 (by omega); have n_4 : NB w4 (w1.heap.size) (.int .i64 kd) (.string ⟨a2.toArray⟩) (.int .i64 0) (.int .i64 (pos c.L s.1)) (.slice none 0 0) := NB.keep n_3 hg4 (by omega); have r_lt4 := r_4.lt; have n_lt4 := n_4.lt; obtain ⟨_,_,_,_,_,_,_,_,_,_,_⟩ := id r_4; obtain ⟨_,_,_,_,_,_⟩ := id n_4; go_wp2_with fail; go_at_call 43; refine (rtypeName_any c _ s4 d p4).mono ?_; rintro e w5 ⟨⟨k5, n5, m5, q5, l5⟩, s5, v5, hr5, rfl, ⟨sv5, rfl, lr5⟩, hg5, p5, hi5⟩; have HR5 : ((markedQ c.L kd).bind (typedQ c.L)) s = _ := HR4.trans (Q.bind_eq hr5); simp only [T.kind, T.name, T.num, T.at', T.subs] at lr5 ⊢; obtain ⟨ad5, cp5, rfl⟩ := lr5.form; obtain ⟨b5, hb5, lr5⟩ : ∃ b, b = _ ∧ LR w5 (In b w5.heap.size) l5 (.slice ad5 l5.length cp5) := ⟨_, rfl, lr5⟩
    try simp at hb5
    have G5 : w.grownBy w5 (some c.rb) := gb_trans G4 hg5; have sz5 := hg5.size
    try simp at sz5
    have r_5 : RB w5 (w.heap.size) := RB.keep r_4 hg5 (by omega); have n_5 : NB w5 (w1.heap.size) (.int .i64 kd) (.string ⟨a2.toArray⟩) (.int .i64 0) (.int .i64 (pos c.L s.1)) (.slice none 0 0) := NB.keep n_4 hg5 (by omega); have r_lt5 := r_5.lt; have n_lt5 := n_5.lt; obtain ⟨_,_,_,_,_,_,_,_,_,_,_⟩ := id r_5; obtain ⟨_,_,_,_,_,_⟩ := id n_5; go_wp2; refine node_ret Tryz.results42 rfl (NB.alloc (RB.five ?_) _) rfl ?_
    · exact RB.put r_5 _ _ _
    refine QSt.ok (a := (T.mk kd a2 0 (pos c.L s.1) [(T.mk k5 n5 m5 q5 l5)])) (HR5) ⟨_, rfl, ?_⟩ ?_ ?_ (by omega)
    · refine LR.wide (lo := b5) (hi := w5.heap.size + 1) (ts := [(T.mk k5 n5 m5 q5 l5)]) ?_ (by omega) (by first | omega | (simp <;> omega))
      exact (LR.build1 _ (t := (T.mk k5 n5 m5 q5 l5)) (sv := .slice ad5 l5.length cp5) (LR.wide (lo := b5) (hi := w5.heap.size) (ts := l5) (by exact LR.p5 (LR.put lr5 (by omega) _ _) (by omega)) (by omega) (by first | omega | (simp <;> omega))) (by simp) rfl (by omega))
    · exact gb_alloc (gb_p5 (gb_put G5 (by omega) _ _) (by omega)) _
    · exact RS.alloc (RS.p5 (RS.put p5 HL.out (by omega) _ _) HL.out (by omega)) _
  · go_wp2_with fail
    go_at_call 27; refine (rneed_any c _ s3 d s_colon _ rfl (by decide) (by exact RS.put p3 HL.out (by omega) _ _)).mono ?_; rintro e w4 ⟨a4, s4, v4, hr4, rfl, -, hg4, p4, hi4⟩; have HR4 : ((markedQ c.L kd).bind (typedQ c.L)) s = _ := HRx1.trans (Q.bind_eq hr4); have G4 : w.grownBy w4 (some c.rb) := gb_trans (by exact gb_put G3 (by omega) _ _) hg4; have sz4 := hg4.size
    try simp at sz4
    have r_4 : RB w4 (w.heap.size) := RB.keep (by exact RB.put r_3 _ _ _) hg4 (by omega); have n_4 : NB w4 (w1.heap.size) (.int .i64 kd) (.string ⟨a2.toArray⟩) (.int .i64 1) (.int .i64 (pos c.L s.1)) (.slice none 0 0) := NB.keep (by exact NB.s2 n_3 _) hg4 (by omega); have r_lt4 := r_4.lt; have n_lt4 := n_4.lt; obtain ⟨_,_,_,_,_,_,_,_,_,_,_⟩ := id r_4; obtain ⟨_,_,_,_,_,_⟩ := id n_4; go_wp2_with fail; go_at_call 43; refine (rtypeName_any c _ s4 d p4).mono ?_; rintro e w5 ⟨⟨k5, n5, m5, q5, l5⟩, s5, v5, hr5, rfl, ⟨sv5, rfl, lr5⟩, hg5, p5, hi5⟩; have HR5 : ((markedQ c.L kd).bind (typedQ c.L)) s = _ := HR4.trans (Q.bind_eq hr5); simp only [T.kind, T.name, T.num, T.at', T.subs] at lr5 ⊢; obtain ⟨ad5, cp5, rfl⟩ := lr5.form; obtain ⟨b5, hb5, lr5⟩ : ∃ b, b = _ ∧ LR w5 (In b w5.heap.size) l5 (.slice ad5 l5.length cp5) := ⟨_, rfl, lr5⟩
    try simp at hb5
    have G5 : w.grownBy w5 (some c.rb) := gb_trans G4 hg5; have sz5 := hg5.size
    try simp at sz5
    have r_5 : RB w5 (w.heap.size) := RB.keep r_4 hg5 (by omega); have n_5 : NB w5 (w1.heap.size) (.int .i64 kd) (.string ⟨a2.toArray⟩) (.int .i64 1) (.int .i64 (pos c.L s.1)) (.slice none 0 0) := NB.keep n_4 hg5 (by omega); have r_lt5 := r_5.lt; have n_lt5 := n_5.lt; obtain ⟨_,_,_,_,_,_,_,_,_,_,_⟩ := id r_5; obtain ⟨_,_,_,_,_,_⟩ := id n_5; go_wp2; refine node_ret Tryz.results42 rfl (NB.alloc (RB.five ?_) _) rfl ?_
    · exact RB.put r_5 _ _ _
    refine QSt.ok (a := (T.mk kd a2 1 (pos c.L s.1) [(T.mk k5 n5 m5 q5 l5)])) (HR5) ⟨_, rfl, ?_⟩ ?_ ?_ (by omega)
    · refine LR.wide (lo := b5) (hi := w5.heap.size + 1) (ts := [(T.mk k5 n5 m5 q5 l5)]) ?_ (by omega) (by first | omega | (simp <;> omega))
      exact (LR.build1 _ (t := (T.mk k5 n5 m5 q5 l5)) (sv := .slice ad5 l5.length cp5) (LR.wide (lo := b5) (hi := w5.heap.size) (ts := l5) (by exact LR.p5 (LR.put lr5 (by omega) _ _) (by omega)) (by omega) (by first | omega | (simp <;> omega))) (by simp) rfl (by omega))
    · exact gb_alloc (gb_p5 (gb_put G5 (by omega) _ _) (by omega)) _
    · exact RS.alloc (RS.p5 (RS.put p5 HL.out (by omega) _ _) HL.out (by omega)) _
end Go.Proofs.YtbphiiaoncakfaaGreatDoor
