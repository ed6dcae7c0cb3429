/- Procedures, one behind the other. -/
import Derived.Test.YtbphiiaoncakfaaGreatDoorG10
import Derived.Test.YtbphiiaoncakfaaGreatDoorG07
import Derived.Test.YtbphiiaoncakfaaGreatDoorG16
namespace Go.Proofs.YtbphiiaoncakfaaGreatDoor
open Go.RowKit

theorem bind_atP {α β : Type} {p q : P α} {k : α → P β} {i j : Nat} (h : p i = q j) : p.bind k i = q.bind k j := by unfold P.bind; rw [h]
theorem procLoop_no {L : List Tok} {f j : Nat} {acc : List T} (h : wd L j ≠ kPROCEDURE) (hf : 0 < f) : procLoop L f acc j = .ok (acc, j) := by
  obtain ⟨f', rfl⟩ : ∃ f', f = f' + 1 := ⟨f - 1, by omega⟩; rw [procLoop]
  exact if_neg h
theorem procLoop_yes {L : List Tok} {f j : Nat} {acc : List T} (h : wd L j = kPROCEDURE) (hf : 0 < f) : procLoop L f acc j = ((procedureP L).bind fun t => (wantP L s_semi).bind fun _ => procLoop L (f - 1) (acc ++ [t])) j := by
  obtain ⟨f', rfl⟩ : ∃ f', f = f' + 1 := ⟨f - 1, by omega⟩; rw [procLoop]
  exact if_pos h

set_option maxRecDepth 100000 in
set_option maxHeartbeats 4000000 in
theorem pprocedures_any (c : PC) (w : World) (i d : Nat) (h : PS c w i d) (hP : PartOK c d 96 (procedureP c.L)) :
    Calls Tryz.prog 59 #[.pointer (some ⟨c.pb, 0, none⟩)] w (Steps c w i d (fun w' t v => TR w' w.heap.size w'.heap.size t v) (proceduresP c.L i)) := by
  have HP := hide h; have HL := hide h.low; have hb := h.lt; have hfew := h.good.few; clear h
  go_enter Tryz.func59, Tryz.ntmps59
  go_wp2_with fail; go_at_call 51; refine (pnode_any c _ i d 1 (by exact PS.alloc HP.out _)).mono ?_; rintro e w1 ⟨rfl, hg1⟩; have p1 : PS c w1 i d := PS.kept (by exact PS.alloc HP.out _) hg1; have G1 : w.grownBy w1 (some c.pb) := gb_trans (by exact gb_alloc (gb_refl w (some c.pb)) _) (gb_some hg1 (some c.pb)); have s1 := hg1.size
  try simp at s1
  have r_1 : RB w1 (w.heap.size) := RB.kept (RB.new' (by simp)) hg1 (by simp); have r_lt1 := r_1.lt; obtain ⟨_,_,_,_,_,_,_,_,_,_,_⟩ := id r_1; go_wp2_with fail
  go_loopw [] (fun wr => ∃ (acc : List T) (v : Value) (j f lo : Nat), NB wr w1.heap.size (.int .i64 1) (.string ⟨#[]⟩) (.int .i64 0) (.int .i64 (pos c.L i)) v ∧ RB wr w.heap.size ∧ w1.heap.size + 1 ≤ lo ∧ Hid (SI c w i d (procLoop c.L (c.L.length + 1) [] i) (procLoop c.L) v wr acc j f lo)) (fun wr => c.L.length - atOf wr c.pb)
  case atStart =>
    exact ⟨[], .slice none 0 0, i, c.L.length + 1, w1.heap.size + 1, NB.new' rfl, RB.alloc r_1 _, Nat.le_refl _, SI.mk (LR.nil _ _) (by exact PS.alloc p1 _) (by exact gb_alloc G1 _) rfl (by omega) (by simp) (Nat.le_refl _) (by omega) (by simp)⟩
  case round =>
    obtain ⟨w10, hw10⟩ : ∃ x, x = wr := ⟨_, rfl⟩; subst hw10; obtain ⟨acc, v, j10, f, lo, n_10, r_10, hlo3, HS⟩ := hrel; have z_10 := HS.out.lr; have p10 := HS.out.ps; have G10 := HS.out.gb; have SM := HS.out.same; have hfu := HS.out.fuel; have hlen := HS.out.len; have hij := HS.out.le; have hlo := HS.out.low; have hlo2 := HS.out.low2; have hjl := HS.out.ps.il; obtain ⟨ad, cp, rfl⟩ := z_10.form; have HPS := hide p10; clear HS; have r_lt10 := r_10.lt; have n_lt10 := n_10.lt; obtain ⟨_,_,_,_,_,_,_,_,_,_,_⟩ := id r_10; obtain ⟨_,_,_,_,_,_⟩ := id n_10; go_wp2_with fail; go_at_call 38; refine (pwordq_any c _ j10 d p10).mono ?_; rintro e w11 ⟨rfl, hg11⟩; have p11 : PS c w11 j10 d := PS.kept p10 hg11; have G11 : w.grownBy w11 (some c.pb) := gb_trans G10 (gb_some hg11 (some c.pb)); have s11 := hg11.size
    try simp at s11
    have r_11 : RB w11 (w.heap.size) := RB.kept r_10 hg11 (by simp); have n_11 : NB w11 (w1.heap.size) (.int .i64 1) (.string ⟨#[]⟩) (.int .i64 0) (.int .i64 (pos c.L i)) (.slice ad acc.length cp) := NB.kept n_10 hg11 (by simp); have z_11 : LR w11 (In (lo) (w10.heap.size)) (acc) (.slice ad acc.length cp) := LR.grown z_10 hg11; have r_lt11 := r_11.lt; have n_lt11 := n_11.lt; obtain ⟨_,_,_,_,_,_,_,_,_,_,_⟩ := id r_11; obtain ⟨_,_,_,_,_,_⟩ := id n_11
    by_cases h1 : wd c.L j10 = kPROCEDURE
    · have hw1 : (wd c.L j10 == [80, 82, 79, 67, 69, 68, 85, 82, 69]) = true := by rw [h1]; decide
      have SMy := SM.trans (procLoop_yes h1 (by omega))
      have HRz : proceduresP c.L i = ((procedureP c.L).bind fun t => (wantP c.L s_semi).bind fun _ => (procLoop c.L (f - 1) (acc ++ [t])).bind fun l => P.ret (.mk 1 [] 0 (pos c.L i) l)) j10 := by
        have h9 : proceduresP c.L i = (P.bind _ (fun l => P.ret (T.mk 1 [] 0 (pos c.L i) l))) j10 := bind_atP SMy; rw [h9, bind_assocP]; simp only [bind_assocP]
      go_wp2_with fail
      go_region_law (first
        | (go_simp
           go_at_call 96; refine (hP _ j10 (by exact PS.drew p11)).mono ?_; rintro e w12 (⟨x12, hr12, ht12, hg12⟩ | ⟨⟨k12, n12, m12, q12, l12⟩, j12, v12, hr12, rfl, ⟨sv12, rfl, lr12⟩, hg12, p12, hi12⟩)
           focus
             have HT := ht12; obtain ⟨q, rfl, -⟩ := ht12
             exact ⟨rfl, Steps.err (HRz.trans (P.bind_err hr12)) HT (by exact gb_drew G11) hg12⟩
           have HR12 : proceduresP c.L i = _ := HRz.trans (P.bind_ok hr12); simp only [T.kind, T.name, T.num, T.at', T.subs] at lr12 ⊢; obtain ⟨ad12, cp12, rfl⟩ := lr12.form; obtain ⟨b12, hb12, lr12⟩ : ∃ b, b = _ ∧ LR w12 (In b w12.heap.size) l12 (.slice ad12 l12.length cp12) := ⟨_, rfl, lr12⟩
           try simp at hb12
           have G12 : w.grownBy w12 (some c.pb) := gb_trans (by exact gb_drew G11) hg12; have s12 := hg12.size
           try simp at s12
           have r_12 : RB w12 (w.heap.size) := RB.keep (by exact RB.drew r_11) hg12 (by omega); have n_12 : NB w12 (w1.heap.size) (.int .i64 1) (.string ⟨#[]⟩) (.int .i64 0) (.int .i64 (pos c.L i)) (.slice ad acc.length cp) := NB.keep (by exact NB.drew n_11) hg12 (by omega); have z_12 : LR w12 (In (lo) (w10.heap.size)) (acc) (.slice ad acc.length cp) := LR.call (by exact LR.drew z_11) hg12 (by omega); have r_lt12 := r_12.lt; have n_lt12 := n_12.lt; obtain ⟨_,_,_,_,_,_,_,_,_,_,_⟩ := id r_12
           obtain ⟨_,_,_,_,_,_⟩ := id n_12)
        | (have hrow13 := z_12.rows
           refine step_appS (v := .slice ad acc.length cp) rfl _ _ rfl (In (lo) (w12.heap.size + 2)) rfl rfl (LR.alloc z_12 _) (LR.build1 w12 (cs := #[.int .i64 k12, .string ⟨n12.toArray⟩, .int .i64 m12, .int .i64 q12, .slice ad12 l12.length cp12]) (t := (T.mk k12 n12 m12 q12 l12)) (sv := .slice ad12 l12.length cp12) lr12 rfl rfl (by omega))
             (fun k hk e => by have h1 := hrow13 k e; have h2 : b12 ≤ k := hk.1; omega) (fun k hk => ⟨hk.1, by have h : k < w10.heap.size := hk.2; omega⟩) (fun k hk => ⟨by have h : b12 ≤ k := hk.1; omega, by have h : k < w12.heap.size + 1 := hk.2; omega⟩) ⟨by simp; omega, by simp⟩ (by simp; try omega) ?_
           intro v13 w13 lr13 hg13; obtain ⟨ad13, cp13, e13⟩ := lr13.form; rw [List.length_append, List.length_singleton] at e13; have e13 : v13 = .slice ad13 (acc.length + 1) cp13 := e13; subst e13; have s13 := hg13.size
           try simp at s13
           have r_13 : RB w13 (w.heap.size) := RB.kept (RB.alloc r_12 _) hg13 (fun e => by have := hrow13 _ e.symm; omega); have n_13 : NB w13 (w1.heap.size) (.int .i64 1) (.string ⟨#[]⟩) (.int .i64 0) (.int .i64 (pos c.L i)) (.slice ad acc.length cp) := NB.kept (NB.alloc n_12 _) hg13 (fun e => by have := hrow13 _ e.symm; omega); have p13 : PS c w13 j12 d := PS.own (PS.alloc p12 _) HL.out hg13 (fun b hb => by have := hrow13 b hb; omega); have G13 : w.grownBy w13 (some c.pb) := gb_own (gb_alloc G12 _) hg13 (fun b hb => by have := hrow13 b hb; omega); have r_lt13 := r_13.lt; have n_lt13 := n_13.lt; obtain ⟨_,_,_,_,_,_,_,_,_,_,_⟩ := id r_13
           obtain ⟨_,_,_,_,_,_⟩ := id n_13))
      all_goals
        have lz13 : LR w13 (In (lo) w13.heap.size) (acc ++ [(T.mk k12 n12 m12 q12 l12)]) (.slice ad13 (acc.length + 1) cp13) := lr13.bounded.mono (fun k hk => ⟨hk.1.1, hk.2⟩); go_wp2_with fail; go_at_call 52; refine (pwant_any c _ j12 d s_semi _ rfl (by decide) (by exact PS.put p13 HL.out (by omega) _ _)).mono ?_; rintro e w14 (⟨x14, hr14, ht14, hg14⟩ | ⟨a14, j14, v14, hr14, rfl, -, hg14, p14, hi14⟩)
        · have HT := ht14
          obtain ⟨q, rfl, -⟩ := ht14
          exact ⟨rfl, Steps.err (HR12.trans (P.bind_err hr14)) HT (by exact gb_put G13 (by omega) _ _) hg14⟩
        have HR14 : proceduresP c.L i = _ := HR12.trans (P.bind_ok hr14); have G14 : w.grownBy w14 (some c.pb) := gb_trans (by exact gb_put G13 (by omega) _ _) hg14; have s14 := hg14.size
        try simp at s14
        have r_14 : RB w14 (w.heap.size) := RB.keep (by exact RB.put r_13 _ _ _) hg14 (by omega); have n_14 : NB w14 (w1.heap.size) (.int .i64 1) (.string ⟨#[]⟩) (.int .i64 0) (.int .i64 (pos c.L i)) (.slice ad13 (acc.length + 1) cp13) := NB.keep (by exact NB.s4 n_13 _) hg14 (by omega); have zz_14 : LR w14 (In (lo) (w13.heap.size)) ((acc ++ [(T.mk k12 n12 m12 q12 l12)])) (.slice ad13 (acc.length + 1) cp13) := LR.call (by exact LR.put lz13 (by omega) _ _) hg14 (by omega); have r_lt14 := r_14.lt; have n_lt14 := n_14.lt; obtain ⟨_,_,_,_,_,_,_,_,_,_,_⟩ := id r_14; obtain ⟨_,_,_,_,_,_⟩ := id n_14; have hj9 := wantP_yes hr14; have SMz : procLoop c.L (c.L.length + 1) [] i = _ := (SMy.trans (P.bind_ok hr12)).trans (P.bind_ok hr14); go_wp2; refine ⟨⟨(acc ++ [(T.mk k12 n12 m12 q12 l12)]), .slice ad13 (acc.length + 1) cp13, j14, f - 1, lo, n_14, r_14, hlo3, SI.mk (LR.wide zz_14 (Nat.le_refl _) (by omega)) p14 G14 SMz (by omega) (by simp only [List.length_append, List.length_singleton]; omega) (by omega) hlo (by omega)⟩, ?_⟩; rw [p14.atOf, HPS.out.atOf]
        omega
    have hw1 : (wd c.L j10 == [80, 82, 79, 67, 69, 68, 85, 82, 69]) = false := by simpa [kPROCEDURE] using h1
    have HRn : proceduresP c.L i = _ := P.bind_ok (SM.trans (procLoop_no h1 (by omega))); go_wp2; refine node_ret Tryz.results59 rfl (RB.five ?_) rfl ?_
    · exact r_11
    refine Steps.ok (a := (T.mk 1 [] 0 (pos c.L i) acc)) (HRn) ⟨_, rfl, ?_⟩ ?_ ?_ (by omega)
    · refine LR.wide (lo := lo) (hi := w10.heap.size) (ts := acc) ?_ (by omega) (by first | omega | (simp <;> omega))
      exact LR.p5 z_11 (by omega)
    · exact gb_p5 G11 (by omega)
    · exact PS.p5 p11 HL.out (by omega)
end Go.Proofs.YtbphiiaoncakfaaGreatDoor

/- What is imported: the rule that is handed on. -/
namespace Go.Proofs.YtbphiiaoncakfaaGreatDoor
open Go.RowKit

set_option maxRecDepth 100000 in
set_option maxHeartbeats 400000 in
theorem pimport_any (c : PC) (w : World) (i d : Nat) (b : Nat) (h : PS c w i d) (hc : w.cell? ⟨b, 0, none⟩ = some (.pointer (some ⟨c.pb, 0, none⟩))) :
    Calls Tryz.prog 89 #[.pointer (some ⟨b, 0, none⟩)] w (Steps c w i d (fun w' t v => TR w' w.heap.size w'.heap.size t v) (namedP c.L 3 i)) := by
  have HP := hide h; have HL := hide h.low; have hb := h.lt; have hbl := block_lt hc; clear h
  go_enter Tryz.func89, Tryz.ntmps89
  go_wp2_with fail; go_at_call 90; refine (pnamed_any c _ i d 3 (by exact PS.alloc HP.out _)).mono ?_; rintro e w1 (⟨x1, hr1, ht1, hg1⟩ | ⟨⟨k1, n1, m1, q1, l1⟩, j1, v1, hr1, rfl, ⟨sv1, rfl, lr1⟩, hg1, p1, hi1⟩)
  · have HT := ht1
    obtain ⟨q, rfl, -⟩ := ht1
    exact ⟨rfl, Steps.err (hr1) HT (by exact gb_alloc (gb_refl w (some c.pb)) _) hg1⟩
  have HR1 : namedP c.L 3 i = _ := hr1; simp only [T.kind, T.name, T.num, T.at', T.subs] at lr1 ⊢; obtain ⟨ad1, cp1, rfl⟩ := lr1.form; obtain ⟨b1, hb1, lr1⟩ : ∃ b, b = _ ∧ LR w1 (In b w1.heap.size) l1 (.slice ad1 l1.length cp1) := ⟨_, rfl, lr1⟩
  try simp at hb1
  have G1 : w.grownBy w1 (some c.pb) := gb_trans (by exact gb_alloc (gb_refl w (some c.pb)) _) hg1; have s1 := hg1.size
  try simp at s1
  have r_1 : RB w1 (w.heap.size) := RB.keep (RB.new' (by simp)) hg1 (by omega); have r_lt1 := r_1.lt; obtain ⟨_,_,_,_,_,_,_,_,_,_,_⟩ := id r_1; go_wp2; refine node_ret Tryz.results89 rfl (RB.five ?_) rfl ?_
  · exact r_1
  refine Steps.ok (a := (T.mk k1 n1 m1 q1 l1)) (HR1) ⟨_, rfl, ?_⟩ ?_ ?_ (by omega)
  · refine LR.wide (lo := b1) (hi := w1.heap.size) (ts := l1) ?_ (by omega) (by first | omega | (simp <;> omega))
    exact LR.p5 lr1 (by omega)
  · exact gb_p5 G1 (by omega)
  · exact PS.p5 p1 HL.out (by omega)


/-- The rule for what is imported, while the variable that it captures holds the reader. -/
theorem importPart (c : PC) (d b : Nat) (hb : b ≠ c.pb) : Part c d (fun w => w.cell? ⟨b, 0, none⟩ = some (.pointer (some ⟨c.pb, 0, none⟩))) 89 (#[] ++ #[.pointer (some ⟨b, 0, none⟩)]) (namedP c.L 3) :=
  ⟨fun w i hp hc => by simpa using pimport_any c w i d b hp hc, fun w w' h hg => cell_far hg h (by simpa using hb), enters_of Tryz.func89 (by kernel_rfl) rfl⟩

set_option maxRecDepth 100000 in
set_option maxHeartbeats 1000000 in
theorem pimports_any (c : PC) (w : World) (i d : Nat) (h : PS c w i d) :
    Calls Tryz.prog 54 #[.pointer (some ⟨c.pb, 0, none⟩)] w (Steps c w i d (fun w' t v => TR w' w.heap.size w'.heap.size t v) (importsP c.L i)) := by
  have HP := hide h; have HL := hide h.low; have hb := h.lt; clear h
  have cp0 : (w.alloc (.cells #[.pointer (some ⟨c.pb, 0, none⟩)] 74)).cell? ⟨w.heap.size, 0, none⟩ = some (.pointer (some ⟨c.pb, 0, none⟩)) := by simp
  have hsz : (w.alloc (.cells #[.pointer (some ⟨c.pb, 0, none⟩)] 74)).heap.size = w.heap.size + 1 := by simp
  go_enter Tryz.func54, Tryz.ntmps54
  go_wp2_with fail; go_at_call 51; refine (pnode_any c _ i d 1 (by exact PS.alloc (PS.alloc HP.out _) _)).mono ?_; rintro e w1 ⟨rfl, hg1⟩; have p1 : PS c w1 i d := PS.kept (by exact PS.alloc (PS.alloc HP.out _) _) hg1; have G1 : w.grownBy w1 (some c.pb) := gb_trans (by exact gb_alloc (gb_alloc (gb_refl w (some c.pb)) _) _) (gb_some hg1 (some c.pb)); have s1 := hg1.size
  try simp at s1
  have H1 : (w.alloc (.cells #[.pointer (some ⟨c.pb, 0, none⟩)] 74)).grownBy w1 (some c.pb) := gb_trans (by exact gb_alloc (gb_refl (w.alloc (.cells #[.pointer (some ⟨c.pb, 0, none⟩)] 74)) (some c.pb)) _) (gb_some hg1 (some c.pb)); have cq1 := cell_far H1 cp0 (by simp; omega); have cl1 := block_lt cq1; simp only [] at cl1; have r_1 : RB w1 (w.heap.size + 1) := RB.kept (RB.new' (by simp)) hg1 (by simp); have r_lt1 := r_1.lt; obtain ⟨_,_,_,_,_,_,_,_,_,_,_⟩ := id r_1; go_wp2_with fail; go_at_call 85; refine (phas_any c _ i d kIMPORT _ rfl (by decide) (by exact PS.alloc p1 _)).mono ?_; rintro e w2 ⟨b2, j2, hr2, rfl, hg2, p2, hi2⟩; have HR2 : importsP c.L i = _ := P.bind_ok hr2; have G2 : w.grownBy w2 (some c.pb) := gb_trans (by exact gb_alloc G1 _) hg2; have s2 := hg2.size
  try simp at s2
  have H2 : (w.alloc (.cells #[.pointer (some ⟨c.pb, 0, none⟩)] 74)).grownBy w2 (some c.pb) := gb_trans (by exact gb_alloc H1 _) hg2; have cq2 := cell_far H2 cp0 (by simp; omega); have cl2 := block_lt cq2; simp only [] at cl2; have r_2 : RB w2 (w.heap.size + 1) := RB.keep (by exact RB.alloc r_1 _) hg2 (by omega); have n_2 : NB w2 (w1.heap.size) (.int .i64 1) (.string ⟨#[]⟩) (.int .i64 0) (.int .i64 (pos c.L i)) (.slice none 0 0) := NB.keep (NB.new' (by simp)) hg2 (by omega); have r_lt2 := r_2.lt; have n_lt2 := n_2.lt; obtain ⟨_,_,_,_,_,_,_,_,_,_,_⟩ := id r_2; obtain ⟨_,_,_,_,_,_⟩ := id n_2; cases b2
  · go_wp2
    refine node_ret Tryz.results54 rfl (RB.five ?_) rfl ?_
    · exact r_2
    refine Steps.ok (a := (T.mk 1 [] 0 (pos c.L i) [])) (HR2) ⟨_, rfl, ?_⟩ ?_ ?_ (by omega)
    · exact LR.nil _ _
    · exact gb_p5 G2 (by omega)
    · exact PS.p5 p2 HL.out (by omega)
  · go_wp2_with fail
    go_at_call 88; refine (pseveral_any c _ j2 d (fun w' => w'.cell? ⟨w.heap.size, 0, none⟩ = some (.pointer (some ⟨c.pb, 0, none⟩))) 89 #[] #[.pointer (some ⟨w.heap.size, 0, none⟩)] (namedP c.L 3) s_comma _ rfl (by decide) p2 cq2 (importPart c d w.heap.size (by omega))).mono ?_; rintro e w3 (⟨x3, hr3, ht3, hg3⟩ | ⟨a3, j3, v3, hr3, rfl, ⟨lr3, len3⟩, hg3, p3, hi3⟩)
    · have HT := ht3
      obtain ⟨q, rfl, -⟩ := ht3
      exact ⟨rfl, Steps.err (HR2.trans (P.bind_err hr3)) HT G2 hg3⟩
    have HR3 : importsP c.L i = _ := HR2.trans (P.bind_ok hr3); obtain ⟨ad3, cp3, rfl⟩ := lr3.form; obtain ⟨b3, hb3, lr3⟩ : ∃ b, b = _ ∧ LR w3 (In b w3.heap.size) a3 (.slice ad3 a3.length cp3) := ⟨_, rfl, lr3⟩
    try simp at hb3
    have G3 : w.grownBy w3 (some c.pb) := gb_trans G2 hg3; have s3 := hg3.size
    try simp at s3
    have H3 : (w.alloc (.cells #[.pointer (some ⟨c.pb, 0, none⟩)] 74)).grownBy w3 (some c.pb) := gb_trans H2 hg3; have cq3 := cell_far H3 cp0 (by simp; omega); have cl3 := block_lt cq3; simp only [] at cl3; have r_3 : RB w3 (w.heap.size + 1) := RB.keep r_2 hg3 (by omega); have n_3 : NB w3 (w1.heap.size) (.int .i64 1) (.string ⟨#[]⟩) (.int .i64 0) (.int .i64 (pos c.L i)) (.slice none 0 0) := NB.keep n_2 hg3 (by omega); have r_lt3 := r_3.lt; have n_lt3 := n_3.lt; obtain ⟨_,_,_,_,_,_,_,_,_,_,_⟩ := id r_3; obtain ⟨_,_,_,_,_,_⟩ := id n_3; go_wp2_with fail; go_at_call 52; refine (pwant_any c _ j3 d s_semi _ rfl (by decide) (by exact PS.put p3 HL.out (by omega) _ _)).mono ?_; rintro e w4 (⟨x4, hr4, ht4, hg4⟩ | ⟨a4, j4, v4, hr4, rfl, -, hg4, p4, hi4⟩)
    · have HT := ht4
      obtain ⟨q, rfl, -⟩ := ht4
      exact ⟨rfl, Steps.err (HR3.trans (P.bind_err hr4)) HT (by exact gb_put G3 (by omega) _ _) hg4⟩
    have HR4 : importsP c.L i = _ := HR3.trans (P.bind_ok hr4); have G4 : w.grownBy w4 (some c.pb) := gb_trans (by exact gb_put G3 (by omega) _ _) hg4; have s4 := hg4.size
    try simp at s4
    have H4 : (w.alloc (.cells #[.pointer (some ⟨c.pb, 0, none⟩)] 74)).grownBy w4 (some c.pb) := gb_trans (by exact gb_put H3 (by omega) _ _) hg4; have cq4 := cell_far H4 cp0 (by simp; omega); have cl4 := block_lt cq4; simp only [] at cl4; have r_4 : RB w4 (w.heap.size + 1) := RB.keep (by exact RB.put r_3 _ _ _) hg4 (by omega); have n_4 : NB w4 (w1.heap.size) (.int .i64 1) (.string ⟨#[]⟩) (.int .i64 0) (.int .i64 (pos c.L i)) (.slice ad3 a3.length cp3) := NB.keep (by exact NB.s4 n_3 _) hg4 (by omega); have l_4 : LR w4 (In (b3) (w3.heap.size)) (a3) (.slice ad3 a3.length cp3) := LR.call (by exact LR.put lr3 (by omega) _ _) hg4 (by omega); have r_lt4 := r_4.lt; have n_lt4 := n_4.lt; obtain ⟨_,_,_,_,_,_,_,_,_,_,_⟩ := id r_4; obtain ⟨_,_,_,_,_,_⟩ := id n_4; go_wp2; refine node_ret Tryz.results54 rfl (RB.five ?_) rfl ?_
    · exact r_4
    refine Steps.ok (a := (T.mk 1 [] 0 (pos c.L i) a3)) (HR4) ⟨_, rfl, ?_⟩ ?_ ?_ (by omega)
    · refine LR.wide (lo := b3) (hi := w3.heap.size) (ts := a3) ?_ (by omega) (by first | omega | (simp <;> omega))
      exact LR.p5 l_4 (by omega)
    · exact gb_p5 G4 (by omega)
    · exact PS.p5 p4 HL.out (by omega)
end Go.Proofs.YtbphiiaoncakfaaGreatDoor

/- A module. -/
namespace Go.Proofs.YtbphiiaoncakfaaGreatDoor
open Go.RowKit

theorem LR.build4 {lo : Nat} (w : World) {t1 t2 t3 t4 : T} {v1 v2 v3 v4 : Value} {g : Nat} {cs : Array Value} (e1 : LR w (In lo g) t1.subs v1) (e2 : LR w (In lo g) t2.subs v2) (e3 : LR w (In lo g) t3.subs v3) (e4 : LR w (In lo g) t4.subs v4) (hg : g = w.heap.size) (hc : cs.toList = headC t1 v1 ++ (headC t2 v2 ++ (headC t3 v3 ++ (headC t4 v4)))) (hlo : lo ≤ g) :
    LR (w.alloc (.cells cs 25)) (In lo (g + 1)) [t1, t2, t3, t4] (.slice (some ⟨g, 0, none⟩) 4 4) :=
  LR.build w (svs := [v1, v2, v3, v4]) hg rfl hc rfl (by simp) hlo (fun i t' sv' h3 h4 => by
    match i, h3, h4 with
    | 0, h3, h4 => cases h3; cases h4; exact e1
    | 1, h3, h4 => cases h3; cases h4; exact e2
    | 2, h3, h4 => cases h3; cases h4; exact e3
    | 3, h3, h4 => cases h3; cases h4; exact e4)

theorem LR.build6 {lo : Nat} (w : World) {t1 t2 t3 t4 t5 t6 : T} {v1 v2 v3 v4 v5 v6 : Value} {g : Nat} {cs : Array Value} (e1 : LR w (In lo g) t1.subs v1) (e2 : LR w (In lo g) t2.subs v2) (e3 : LR w (In lo g) t3.subs v3) (e4 : LR w (In lo g) t4.subs v4) (e5 : LR w (In lo g) t5.subs v5) (e6 : LR w (In lo g) t6.subs v6) (hg : g = w.heap.size) (hc : cs.toList = headC t1 v1 ++ (headC t2 v2 ++ (headC t3 v3 ++ (headC t4 v4 ++ (headC t5 v5 ++ (headC t6 v6)))))) (hlo : lo ≤ g) :
    LR (w.alloc (.cells cs 25)) (In lo (g + 1)) [t1, t2, t3, t4, t5, t6] (.slice (some ⟨g, 0, none⟩) 6 6) :=
  LR.build w (svs := [v1, v2, v3, v4, v5, v6]) hg rfl hc rfl (by simp) hlo (fun i t' sv' h3 h4 => by
    match i, h3, h4 with
    | 0, h3, h4 => cases h3; cases h4; exact e1
    | 1, h3, h4 => cases h3; cases h4; exact e2
    | 2, h3, h4 => cases h3; cases h4; exact e3
    | 3, h3, h4 => cases h3; cases h4; exact e4
    | 4, h3, h4 => cases h3; cases h4; exact e5
    | 5, h3, h4 => cases h3; cases h4; exact e6)

set_option maxRecDepth 100000 in
set_option maxHeartbeats 4000000 in
theorem pmodule_any (c : PC) (w : World) (i d : Nat) (h : PS c w i d) (h_constant : Part c d (fun _ => True) 56 #[.pointer (some ⟨c.pb, 0, none⟩)] (constantP c.L)) (h_typeDeclaration : Part c d (fun _ => True) 57 #[.pointer (some ⟨c.pb, 0, none⟩)] (typeDeclP c.L)) (h_variable : Part c d (fun _ => True) 58 #[.pointer (some ⟨c.pb, 0, none⟩)] (variableP c.L)) (hPr : PartOK c d 59 (proceduresP c.L)) (hB : PartOK c d 60 (bodyP c.L)) :
    Calls Tryz.prog 37 #[.pointer (some ⟨c.pb, 0, none⟩)] w (Steps c w i d (fun w' t v => TR w' w.heap.size w'.heap.size t v) (moduleP c.L i)) := by
  have HP := hide h; have HL := hide h.low; have hb := h.lt; clear h
  go_enter Tryz.func37, Tryz.ntmps37
  go_wp2_with fail; go_at_call 51; refine (pnode_any c _ i d 2 (by exact PS.alloc HP.out _)).mono ?_; rintro e w1 ⟨rfl, hg1⟩; have p1 : PS c w1 i d := PS.kept (by exact PS.alloc HP.out _) hg1; have G1 : w.grownBy w1 (some c.pb) := gb_trans (by exact gb_alloc (gb_refl w (some c.pb)) _) (gb_some hg1 (some c.pb)); have s1 := hg1.size
  try simp at s1
  have r_1 : RB w1 (w.heap.size) := RB.kept (RB.new' (by simp)) hg1 (by simp); have r_lt1 := r_1.lt; obtain ⟨_,_,_,_,_,_,_,_,_,_,_⟩ := id r_1; go_wp2_with fail; go_at_call 52; refine (pwant_any c _ i d kMODULE _ rfl (by decide) (by exact PS.alloc p1 _)).mono ?_; rintro e w2 (⟨x2, hr2, ht2, hg2⟩ | ⟨a2, j2, v2, hr2, rfl, -, hg2, p2, hi2⟩)
  · have HT := ht2
    obtain ⟨q, rfl, -⟩ := ht2
    exact ⟨rfl, Steps.err (P.bind_err hr2) HT (by exact gb_alloc G1 _) hg2⟩
  have HR2 : moduleP c.L i = _ := P.bind_ok hr2; have G2 : w.grownBy w2 (some c.pb) := gb_trans (by exact gb_alloc G1 _) hg2; have s2 := hg2.size
  try simp at s2
  have r_2 : RB w2 (w.heap.size) := RB.keep (by exact RB.alloc r_1 _) hg2 (by omega); have n_2 : NB w2 (w1.heap.size) (.int .i64 2) (.string ⟨#[]⟩) (.int .i64 0) (.int .i64 (pos c.L i)) (.slice none 0 0) := NB.keep (NB.new' (by simp)) hg2 (by omega); have r_lt2 := r_2.lt; have n_lt2 := n_2.lt; obtain ⟨_,_,_,_,_,_,_,_,_,_,_⟩ := id r_2; obtain ⟨_,_,_,_,_,_⟩ := id n_2; go_wp2_with fail; go_at_call 53; refine (pname_any c _ j2 d p2).mono ?_; rintro e w3 (⟨x3, hr3, ht3, hg3⟩ | ⟨a3, j3, v3, hr3, rfl, ⟨rfl, hn3, hl3⟩, hg3, p3, hi3⟩)
  · have HT := ht3
    obtain ⟨q, rfl, -⟩ := ht3
    exact ⟨rfl, Steps.err (HR2.trans (P.bind_err hr3)) HT G2 hg3⟩
  have HR3 : moduleP c.L i = _ := HR2.trans (P.bind_ok hr3); have G3 : w.grownBy w3 (some c.pb) := gb_trans G2 hg3; have s3 := hg3.size
  try simp at s3
  have r_3 : RB w3 (w.heap.size) := RB.keep r_2 hg3 (by omega); have n_3 : NB w3 (w1.heap.size) (.int .i64 2) (.string ⟨#[]⟩) (.int .i64 0) (.int .i64 (pos c.L i)) (.slice none 0 0) := NB.keep n_2 hg3 (by omega); have r_lt3 := r_3.lt; have n_lt3 := n_3.lt; obtain ⟨_,_,_,_,_,_,_,_,_,_,_⟩ := id r_3; obtain ⟨_,_,_,_,_,_⟩ := id n_3; go_wp2_with fail; go_at_call 52; refine (pwant_any c _ j3 d s_semi _ rfl (by decide) (by exact PS.put p3 HL.out (by omega) _ _)).mono ?_; rintro e w4 (⟨x4, hr4, ht4, hg4⟩ | ⟨a4, j4, v4, hr4, rfl, -, hg4, p4, hi4⟩)
  · have HT := ht4
    obtain ⟨q, rfl, -⟩ := ht4
    exact ⟨rfl, Steps.err (HR3.trans (P.bind_err hr4)) HT (by exact gb_put G3 (by omega) _ _) hg4⟩
  have HR4 : moduleP c.L i = _ := HR3.trans (P.bind_ok hr4); have G4 : w.grownBy w4 (some c.pb) := gb_trans (by exact gb_put G3 (by omega) _ _) hg4; have s4 := hg4.size
  try simp at s4
  have r_4 : RB w4 (w.heap.size) := RB.keep (by exact RB.put r_3 _ _ _) hg4 (by omega); have n_4 : NB w4 (w1.heap.size) (.int .i64 2) (.string ⟨a3.toArray⟩) (.int .i64 0) (.int .i64 (pos c.L i)) (.slice none 0 0) := NB.keep (by exact NB.s1 n_3 _) hg4 (by omega); have r_lt4 := r_4.lt; have n_lt4 := n_4.lt; obtain ⟨_,_,_,_,_,_,_,_,_,_,_⟩ := id r_4; obtain ⟨_,_,_,_,_,_⟩ := id n_4; go_wp2_with fail; go_at_call 54; refine (pimports_any c _ j4 d p4).mono ?_; rintro e w5 (⟨x5, hr5, ht5, hg5⟩ | ⟨⟨k5, n5, m5, q5, l5⟩, j5, v5, hr5, rfl, ⟨sv5, rfl, lr5⟩, hg5, p5, hi5⟩)
  · have HT := ht5
    obtain ⟨q, rfl, -⟩ := ht5
    exact ⟨rfl, Steps.err (HR4.trans (P.bind_err hr5)) HT G4 hg5⟩
  have HR5 : moduleP c.L i = _ := HR4.trans (P.bind_ok hr5); simp only [T.kind, T.name, T.num, T.at', T.subs] at lr5 ⊢; obtain ⟨ad5, cp5, rfl⟩ := lr5.form; obtain ⟨b5, hb5, lr5⟩ : ∃ b, b = _ ∧ LR w5 (In b w5.heap.size) l5 (.slice ad5 l5.length cp5) := ⟨_, rfl, lr5⟩
  try simp at hb5
  have G5 : w.grownBy w5 (some c.pb) := gb_trans G4 hg5; have s5 := hg5.size
  try simp at s5
  have r_5 : RB w5 (w.heap.size) := RB.keep r_4 hg5 (by omega); have n_5 : NB w5 (w1.heap.size) (.int .i64 2) (.string ⟨a3.toArray⟩) (.int .i64 0) (.int .i64 (pos c.L i)) (.slice none 0 0) := NB.keep n_4 hg5 (by omega); have r_lt5 := r_5.lt; have n_lt5 := n_5.lt; obtain ⟨_,_,_,_,_,_,_,_,_,_,_⟩ := id r_5; obtain ⟨_,_,_,_,_,_⟩ := id n_5; go_wp2_with fail; go_at_call 55; refine (psection_any c _ j5 d kCONST _ rfl (by decide) 56 (constantP c.L) p5 h_constant).mono ?_; rintro e w6 (⟨x6, hr6, ht6, hg6⟩ | ⟨⟨k6, n6, m6, q6, l6⟩, j6, v6, hr6, rfl, ⟨sv6, rfl, lr6⟩, hg6, p6, hi6⟩)
  · have HT := ht6
    obtain ⟨q, rfl, -⟩ := ht6
    exact ⟨rfl, Steps.err (HR5.trans (P.bind_err hr6)) HT G5 hg6⟩
  have HR6 : moduleP c.L i = _ := HR5.trans (P.bind_ok hr6); simp only [T.kind, T.name, T.num, T.at', T.subs] at lr6 ⊢; obtain ⟨ad6, cp6, rfl⟩ := lr6.form; obtain ⟨b6, hb6, lr6⟩ : ∃ b, b = _ ∧ LR w6 (In b w6.heap.size) l6 (.slice ad6 l6.length cp6) := ⟨_, rfl, lr6⟩
  try simp at hb6
  have G6 : w.grownBy w6 (some c.pb) := gb_trans G5 hg6; have s6 := hg6.size
  try simp at s6
  have r_6 : RB w6 (w.heap.size) := RB.keep r_5 hg6 (by omega); have n_6 : NB w6 (w1.heap.size) (.int .i64 2) (.string ⟨a3.toArray⟩) (.int .i64 0) (.int .i64 (pos c.L i)) (.slice none 0 0) := NB.keep n_5 hg6 (by omega); have m1_6 : LR w6 (In (b5) (w5.heap.size)) (l5) (.slice ad5 l5.length cp5) := LR.call lr5 hg6 (by omega); have r_lt6 := r_6.lt; have n_lt6 := n_6.lt; obtain ⟨_,_,_,_,_,_,_,_,_,_,_⟩ := id r_6; obtain ⟨_,_,_,_,_,_⟩ := id n_6; go_wp2_with fail; go_at_call 55; refine (psection_any c _ j6 d kTYPE _ rfl (by decide) 57 (typeDeclP c.L) p6 h_typeDeclaration).mono ?_; rintro e w7 (⟨x7, hr7, ht7, hg7⟩ | ⟨⟨k7, n7, m7, q7, l7⟩, j7, v7, hr7, rfl, ⟨sv7, rfl, lr7⟩, hg7, p7, hi7⟩)
  · have HT := ht7
    obtain ⟨q, rfl, -⟩ := ht7
    exact ⟨rfl, Steps.err (HR6.trans (P.bind_err hr7)) HT G6 hg7⟩
  have HR7 : moduleP c.L i = _ := HR6.trans (P.bind_ok hr7); simp only [T.kind, T.name, T.num, T.at', T.subs] at lr7 ⊢; obtain ⟨ad7, cp7, rfl⟩ := lr7.form; obtain ⟨b7, hb7, lr7⟩ : ∃ b, b = _ ∧ LR w7 (In b w7.heap.size) l7 (.slice ad7 l7.length cp7) := ⟨_, rfl, lr7⟩
  try simp at hb7
  have G7 : w.grownBy w7 (some c.pb) := gb_trans G6 hg7; have s7 := hg7.size
  try simp at s7
  have r_7 : RB w7 (w.heap.size) := RB.keep r_6 hg7 (by omega); have n_7 : NB w7 (w1.heap.size) (.int .i64 2) (.string ⟨a3.toArray⟩) (.int .i64 0) (.int .i64 (pos c.L i)) (.slice none 0 0) := NB.keep n_6 hg7 (by omega); have m1_7 : LR w7 (In (b5) (w5.heap.size)) (l5) (.slice ad5 l5.length cp5) := LR.call m1_6 hg7 (by omega); have m2_7 : LR w7 (In (b6) (w6.heap.size)) (l6) (.slice ad6 l6.length cp6) := LR.call lr6 hg7 (by omega); have r_lt7 := r_7.lt; have n_lt7 := n_7.lt; obtain ⟨_,_,_,_,_,_,_,_,_,_,_⟩ := id r_7; obtain ⟨_,_,_,_,_,_⟩ := id n_7; go_wp2_with fail; go_at_call 55; refine (psection_any c _ j7 d kVAR _ rfl (by decide) 58 (variableP c.L) p7 h_variable).mono ?_; rintro e w8 (⟨x8, hr8, ht8, hg8⟩ | ⟨⟨k8, n8, m8, q8, l8⟩, j8, v8, hr8, rfl, ⟨sv8, rfl, lr8⟩, hg8, p8, hi8⟩)
  · have HT := ht8
    obtain ⟨q, rfl, -⟩ := ht8
    exact ⟨rfl, Steps.err (HR7.trans (P.bind_err hr8)) HT G7 hg8⟩
  have HR8 : moduleP c.L i = _ := HR7.trans (P.bind_ok hr8); simp only [T.kind, T.name, T.num, T.at', T.subs] at lr8 ⊢; obtain ⟨ad8, cp8, rfl⟩ := lr8.form; obtain ⟨b8, hb8, lr8⟩ : ∃ b, b = _ ∧ LR w8 (In b w8.heap.size) l8 (.slice ad8 l8.length cp8) := ⟨_, rfl, lr8⟩
  try simp at hb8
  have G8 : w.grownBy w8 (some c.pb) := gb_trans G7 hg8; have s8 := hg8.size
  try simp at s8
  have r_8 : RB w8 (w.heap.size) := RB.keep r_7 hg8 (by omega); have n_8 : NB w8 (w1.heap.size) (.int .i64 2) (.string ⟨a3.toArray⟩) (.int .i64 0) (.int .i64 (pos c.L i)) (.slice none 0 0) := NB.keep n_7 hg8 (by omega); have m1_8 : LR w8 (In (b5) (w5.heap.size)) (l5) (.slice ad5 l5.length cp5) := LR.call m1_7 hg8 (by omega); have m2_8 : LR w8 (In (b6) (w6.heap.size)) (l6) (.slice ad6 l6.length cp6) := LR.call m2_7 hg8 (by omega); have m3_8 : LR w8 (In (b7) (w7.heap.size)) (l7) (.slice ad7 l7.length cp7) := LR.call lr7 hg8 (by omega); have r_lt8 := r_8.lt; have n_lt8 := n_8.lt; obtain ⟨_,_,_,_,_,_,_,_,_,_,_⟩ := id r_8; obtain ⟨_,_,_,_,_,_⟩ := id n_8; go_wp2_with fail; go_at_call 59; refine (hPr _ j8 p8).mono ?_; rintro e w9 (⟨x9, hr9, ht9, hg9⟩ | ⟨⟨k9, n9, m9, q9, l9⟩, j9, v9, hr9, rfl, ⟨sv9, rfl, lr9⟩, hg9, p9, hi9⟩)
  · have HT := ht9
    obtain ⟨q, rfl, -⟩ := ht9
    exact ⟨rfl, Steps.err (HR8.trans (P.bind_err hr9)) HT G8 hg9⟩
  have HR9 : moduleP c.L i = _ := HR8.trans (P.bind_ok hr9); simp only [T.kind, T.name, T.num, T.at', T.subs] at lr9 ⊢; obtain ⟨ad9, cp9, rfl⟩ := lr9.form; obtain ⟨b9, hb9, lr9⟩ : ∃ b, b = _ ∧ LR w9 (In b w9.heap.size) l9 (.slice ad9 l9.length cp9) := ⟨_, rfl, lr9⟩
  try simp at hb9
  have G9 : w.grownBy w9 (some c.pb) := gb_trans G8 hg9; have s9 := hg9.size
  try simp at s9
  have r_9 : RB w9 (w.heap.size) := RB.keep r_8 hg9 (by omega); have n_9 : NB w9 (w1.heap.size) (.int .i64 2) (.string ⟨a3.toArray⟩) (.int .i64 0) (.int .i64 (pos c.L i)) (.slice none 0 0) := NB.keep n_8 hg9 (by omega); have m1_9 : LR w9 (In (b5) (w5.heap.size)) (l5) (.slice ad5 l5.length cp5) := LR.call m1_8 hg9 (by omega); have m2_9 : LR w9 (In (b6) (w6.heap.size)) (l6) (.slice ad6 l6.length cp6) := LR.call m2_8 hg9 (by omega); have m3_9 : LR w9 (In (b7) (w7.heap.size)) (l7) (.slice ad7 l7.length cp7) := LR.call m3_8 hg9 (by omega); have m4_9 : LR w9 (In (b8) (w8.heap.size)) (l8) (.slice ad8 l8.length cp8) := LR.call lr8 hg9 (by omega); have r_lt9 := r_9.lt; have n_lt9 := n_9.lt; obtain ⟨_,_,_,_,_,_,_,_,_,_,_⟩ := id r_9; obtain ⟨_,_,_,_,_,_⟩ := id n_9; go_wp2_with fail; go_at_call 60; refine (hB _ j9 p9).mono ?_; rintro e w10 (⟨x10, hr10, ht10, hg10⟩ | ⟨⟨k10, n10, m10, q10, l10⟩, j10, v10, hr10, rfl, ⟨sv10, rfl, lr10⟩, hg10, p10, hi10⟩)
  · have HT := ht10
    obtain ⟨q, rfl, -⟩ := ht10
    exact ⟨rfl, Steps.err (HR9.trans (P.bind_err hr10)) HT G9 hg10⟩
  have HR10 : moduleP c.L i = _ := HR9.trans (P.bind_ok hr10); simp only [T.kind, T.name, T.num, T.at', T.subs] at lr10 ⊢; obtain ⟨ad10, cp10, rfl⟩ := lr10.form; obtain ⟨b10, hb10, lr10⟩ : ∃ b, b = _ ∧ LR w10 (In b w10.heap.size) l10 (.slice ad10 l10.length cp10) := ⟨_, rfl, lr10⟩
  try simp at hb10
  have G10 : w.grownBy w10 (some c.pb) := gb_trans G9 hg10; have s10 := hg10.size
  try simp at s10
  have r_10 : RB w10 (w.heap.size) := RB.keep r_9 hg10 (by omega); have n_10 : NB w10 (w1.heap.size) (.int .i64 2) (.string ⟨a3.toArray⟩) (.int .i64 0) (.int .i64 (pos c.L i)) (.slice none 0 0) := NB.keep n_9 hg10 (by omega); have m1_10 : LR w10 (In (b5) (w5.heap.size)) (l5) (.slice ad5 l5.length cp5) := LR.call m1_9 hg10 (by omega); have m2_10 : LR w10 (In (b6) (w6.heap.size)) (l6) (.slice ad6 l6.length cp6) := LR.call m2_9 hg10 (by omega); have m3_10 : LR w10 (In (b7) (w7.heap.size)) (l7) (.slice ad7 l7.length cp7) := LR.call m3_9 hg10 (by omega); have m4_10 : LR w10 (In (b8) (w8.heap.size)) (l8) (.slice ad8 l8.length cp8) := LR.call m4_9 hg10 (by omega); have m5_10 : LR w10 (In (b9) (w9.heap.size)) (l9) (.slice ad9 l9.length cp9) := LR.call lr9 hg10 (by omega); have r_lt10 := r_10.lt; have n_lt10 := n_10.lt; obtain ⟨_,_,_,_,_,_,_,_,_,_,_⟩ := id r_10; obtain ⟨_,_,_,_,_,_⟩ := id n_10; go_wp2_with fail; go_at_call 61; refine (pending_any c _ j10 d a3 _ (by simp) hn3 (by exact PS.alloc (PS.put p10 HL.out (by omega) _ _) _)).mono ?_; rintro e w11 (⟨x11, hr11, ht11, hg11⟩ | ⟨a11, j11, v11, hr11, rfl, -, hg11, p11, hi11⟩)
  · have HT := ht11
    obtain ⟨q, rfl, -⟩ := ht11
    exact ⟨rfl, Steps.err (HR10.trans (P.bind_err hr11)) HT (by exact gb_alloc (gb_put G10 (by omega) _ _) _) hg11⟩
  have HR11 : moduleP c.L i = _ := HR10.trans (P.bind_ok hr11); have G11 : w.grownBy w11 (some c.pb) := gb_trans (by exact gb_alloc (gb_put G10 (by omega) _ _) _) hg11; have s11 := hg11.size
  try simp at s11
  have r_11 : RB w11 (w.heap.size) := RB.keep (by exact RB.alloc (RB.put r_10 _ _ _) _) hg11 (by omega); have n_11 : NB w11 (w1.heap.size) (.int .i64 2) (.string ⟨a3.toArray⟩) (.int .i64 0) (.int .i64 (pos c.L i)) (.slice (some ⟨w10.heap.size, 0, none⟩) 6 6) := NB.keep (by exact NB.alloc (NB.s4 n_10 _) _) hg11 (by omega); have z_11 : LR w11 (In (b5) (w10.heap.size + 1)) ([(T.mk k5 n5 m5 q5 l5), (T.mk k6 n6 m6 q6 l6), (T.mk k7 n7 m7 q7 l7), (T.mk k8 n8 m8 q8 l8), (T.mk k9 n9 m9 q9 l9), (T.mk k10 n10 m10 q10 l10)]) (.slice (some ⟨w10.heap.size, 0, none⟩) 6 6) := LR.call (LR.build6 _ (t1 := (T.mk k5 n5 m5 q5 l5)) (t2 := (T.mk k6 n6 m6 q6 l6)) (t3 := (T.mk k7 n7 m7 q7 l7)) (t4 := (T.mk k8 n8 m8 q8 l8)) (t5 := (T.mk k9 n9 m9 q9 l9)) (t6 := (T.mk k10 n10 m10 q10 l10)) (v1 := .slice ad5 l5.length cp5) (v2 := .slice ad6 l6.length cp6) (v3 := .slice ad7 l7.length cp7) (v4 := .slice ad8 l8.length cp8) (v5 := .slice ad9 l9.length cp9) (v6 := .slice ad10 l10.length cp10) (show LR _ (In (b5) (w10.heap.size)) (l5) (.slice ad5 l5.length cp5) from LR.wide (lo := b5) (hi := w5.heap.size) (by exact LR.put m1_10 (by omega) _ _) (by omega) (by first | omega | (simp <;> omega))) (show LR _ (In (b5) (w10.heap.size)) (l6) (.slice ad6 l6.length cp6) from LR.wide (lo := b6) (hi := w6.heap.size) (by exact LR.put m2_10 (by omega) _ _) (by omega) (by first | omega | (simp <;> omega))) (show LR _ (In (b5) (w10.heap.size)) (l7) (.slice ad7 l7.length cp7) from LR.wide (lo := b7) (hi := w7.heap.size) (by exact LR.put m3_10 (by omega) _ _) (by omega) (by first | omega | (simp <;> omega))) (show LR _ (In (b5) (w10.heap.size)) (l8) (.slice ad8 l8.length cp8) from LR.wide (lo := b8) (hi := w8.heap.size) (by exact LR.put m4_10 (by omega) _ _) (by omega) (by first | omega | (simp <;> omega))) (show LR _ (In (b5) (w10.heap.size)) (l9) (.slice ad9 l9.length cp9) from LR.wide (lo := b9) (hi := w9.heap.size) (by exact LR.put m5_10 (by omega) _ _) (by omega) (by first | omega | (simp <;> omega))) (show LR _ (In (b5) (w10.heap.size)) (l10) (.slice ad10 l10.length cp10) from LR.wide (lo := b10) (hi := w10.heap.size) (by exact LR.put lr10 (by omega) _ _) (by omega) (by first | omega | (simp <;> omega))) (by simp) rfl (by omega)) hg11 (by omega); have r_lt11 := r_11.lt; have n_lt11 := n_11.lt; obtain ⟨_,_,_,_,_,_,_,_,_,_,_⟩ := id r_11; obtain ⟨_,_,_,_,_,_⟩ := id n_11; go_wp2_with fail; go_at_call 52; refine (pwant_any c _ j11 d s_dot _ rfl (by decide) p11).mono ?_; rintro e w12 (⟨x12, hr12, ht12, hg12⟩ | ⟨a12, j12, v12, hr12, rfl, -, hg12, p12, hi12⟩)
  · have HT := ht12
    obtain ⟨q, rfl, -⟩ := ht12
    exact ⟨rfl, Steps.err (HR11.trans (P.bind_err hr12)) HT G11 hg12⟩
  have HR12 : moduleP c.L i = _ := HR11.trans (P.bind_ok hr12); have G12 : w.grownBy w12 (some c.pb) := gb_trans G11 hg12; have s12 := hg12.size
  try simp at s12
  have r_12 : RB w12 (w.heap.size) := RB.keep r_11 hg12 (by omega); have n_12 : NB w12 (w1.heap.size) (.int .i64 2) (.string ⟨a3.toArray⟩) (.int .i64 0) (.int .i64 (pos c.L i)) (.slice (some ⟨w10.heap.size, 0, none⟩) 6 6) := NB.keep n_11 hg12 (by omega); have z_12 : LR w12 (In (b5) (w10.heap.size + 1)) ([(T.mk k5 n5 m5 q5 l5), (T.mk k6 n6 m6 q6 l6), (T.mk k7 n7 m7 q7 l7), (T.mk k8 n8 m8 q8 l8), (T.mk k9 n9 m9 q9 l9), (T.mk k10 n10 m10 q10 l10)]) (.slice (some ⟨w10.heap.size, 0, none⟩) 6 6) := LR.call z_11 hg12 (by omega); have r_lt12 := r_12.lt; have n_lt12 := n_12.lt; obtain ⟨_,_,_,_,_,_,_,_,_,_,_⟩ := id r_12; obtain ⟨_,_,_,_,_,_⟩ := id n_12; go_wp2; refine node_ret Tryz.results37 rfl (RB.five ?_) rfl ?_
  · exact r_12
  refine Steps.ok (a := (T.mk 2 a3 0 (pos c.L i) [(T.mk k5 n5 m5 q5 l5), (T.mk k6 n6 m6 q6 l6), (T.mk k7 n7 m7 q7 l7), (T.mk k8 n8 m8 q8 l8), (T.mk k9 n9 m9 q9 l9), (T.mk k10 n10 m10 q10 l10)])) (HR12) ⟨_, rfl, ?_⟩ ?_ ?_ (by omega)
  · refine LR.wide (lo := b5) (hi := w10.heap.size + 1) (ts := [(T.mk k5 n5 m5 q5 l5), (T.mk k6 n6 m6 q6 l6), (T.mk k7 n7 m7 q7 l7), (T.mk k8 n8 m8 q8 l8), (T.mk k9 n9 m9 q9 l9), (T.mk k10 n10 m10 q10 l10)]) ?_ (by omega) (by first | omega | (simp <;> omega))
    exact LR.p5 z_12 (by omega)
  · exact gb_p5 G12 (by omega)
  · exact PS.p5 p12 HL.out (by omega)
end Go.Proofs.YtbphiiaoncakfaaGreatDoor
