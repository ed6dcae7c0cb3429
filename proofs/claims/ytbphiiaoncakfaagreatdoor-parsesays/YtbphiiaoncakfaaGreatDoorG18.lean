/- A record: what it extends, and its fields. -/
import Derived.Test.YtbphiiaoncakfaaGreatDoorG16
namespace Go.Proofs.YtbphiiaoncakfaaGreatDoor
open Go.RowKit

theorem baseP_bind {α : Type} (L : List Tok) (k : T → P α) (j : Nat) : (baseP L).bind k j = ((hasP L s_lp).bind fun b => if b = true then (typeNameP L).bind fun y => (wantP L s_rp).bind fun _ => k y else k (.mk 0 [] 0 (pos L j) [])) j := by
  by_cases hw : wd L j = s_lp
  · have h1 : hasP L s_lp j = .ok (true, j + 1) := if_pos hw
    rw [P.bind_ok h1, if_pos rfl]; have h2 : baseP L j = _ := P.bind_ok h1; rw [if_pos rfl] at h2; cases h3 : typeNameP L (j + 1) with
    | error e => rw [P.bind_err h3] at h2 ⊢; exact P.bind_err h2
    | ok a =>
      obtain ⟨y, j2⟩ := a; rw [P.bind_ok h3] at h2 ⊢; cases h4 : wantP L s_rp j2 with
      | error e => rw [P.bind_err h4] at h2 ⊢; exact P.bind_err h2
      | ok a =>
        obtain ⟨u, j3⟩ := a; rw [P.bind_ok h4] at h2 ⊢
        exact P.bind_ok h2
  · have h1 : hasP L s_lp j = .ok (false, j) := if_neg hw
    rw [P.bind_ok h1]
    exact P.bind_ok (P.bind_ok h1)

set_option maxRecDepth 100000 in
set_option maxHeartbeats 4000000 in
theorem precord_any (c : PC) (w : World) (i d : Nat) (h : PS c w i d) :
    Calls Tryz.prog 112 #[.pointer (some ⟨c.pb, 0, none⟩)] w (Steps c w i d (fun w' t v => TR w' w.heap.size w'.heap.size t v) (recordP c.L i)) := by
  have HP := hide h; have HL := hide h.low; have hb := h.lt; have hfew := h.good.few; clear h
  go_enter Tryz.func112, Tryz.ntmps112
  go_wp2_with fail; go_at_call 51; refine (pnode_any c _ i d 10 (by exact PS.alloc HP.out _)).mono ?_; rintro e w1 ⟨rfl, hg1⟩; have p1 : PS c w1 i d := PS.kept (by exact PS.alloc HP.out _) hg1; have G1 : w.grownBy w1 (some c.pb) := gb_trans (by exact gb_alloc (gb_refl w (some c.pb)) _) (gb_some hg1 (some c.pb)); have s1 := hg1.size
  try simp at s1
  have r_1 : RB w1 (w.heap.size) := RB.kept (RB.new' (by simp)) hg1 (by simp); have r_lt1 := r_1.lt; obtain ⟨_,_,_,_,_,_,_,_,_,_,_⟩ := id r_1; go_wp2_with fail; go_at_call 52; refine (pwant_any c _ i d kRECORD _ rfl (by decide) (by exact PS.alloc p1 _)).mono ?_; rintro e w2 (⟨x2, hr2, ht2, hg2⟩ | ⟨a2, j2, v2, hr2, rfl, -, hg2, p2, hi2⟩)
  · have HT := ht2
    obtain ⟨q, rfl, -⟩ := ht2
    exact ⟨rfl, Steps.err (P.bind_err hr2) HT (by exact gb_alloc G1 _) hg2⟩
  have HR2 : recordP c.L i = _ := P.bind_ok hr2; have G2 : w.grownBy w2 (some c.pb) := gb_trans (by exact gb_alloc G1 _) hg2; have s2 := hg2.size
  try simp at s2
  have r_2 : RB w2 (w.heap.size) := RB.keep (by exact RB.alloc r_1 _) hg2 (by omega); have n_2 : NB w2 (w1.heap.size) (.int .i64 10) (.string ⟨#[]⟩) (.int .i64 0) (.int .i64 (pos c.L i)) (.slice none 0 0) := NB.keep (NB.new' (by simp)) hg2 (by omega); have r_lt2 := r_2.lt; have n_lt2 := n_2.lt; obtain ⟨_,_,_,_,_,_,_,_,_,_,_⟩ := id r_2; obtain ⟨_,_,_,_,_,_⟩ := id n_2; go_wp2_with fail; go_at_call 51; refine (pnode_any c _ j2 d 0 p2).mono ?_; rintro e w3 ⟨rfl, hg3⟩; have p3 : PS c w3 j2 d := PS.kept p2 hg3; have G3 : w.grownBy w3 (some c.pb) := gb_trans G2 (gb_some hg3 (some c.pb)); have s3 := hg3.size
  try simp at s3
  have r_3 : RB w3 (w.heap.size) := RB.kept r_2 hg3 (by simp); have n_3 : NB w3 (w1.heap.size) (.int .i64 10) (.string ⟨#[]⟩) (.int .i64 0) (.int .i64 (pos c.L i)) (.slice none 0 0) := NB.kept n_2 hg3 (by simp); have r_lt3 := r_3.lt; have n_lt3 := n_3.lt; obtain ⟨_,_,_,_,_,_,_,_,_,_,_⟩ := id r_3; obtain ⟨_,_,_,_,_,_⟩ := id n_3; have HRx1 : recordP c.L i = _ := HR2.trans (baseP_bind _ _ _); go_wp2_with fail; go_at_call 85; refine (phas_any c _ j2 d s_lp _ rfl (by decide) (by exact PS.alloc p3 _)).mono ?_; rintro e w4 ⟨b4, j4, hr4, rfl, hg4, p4, hi4⟩; have HR4 : recordP c.L i = _ := HRx1.trans (P.bind_ok hr4); have G4 : w.grownBy w4 (some c.pb) := gb_trans (by exact gb_alloc G3 _) hg4; have s4 := hg4.size
  try simp at s4
  have r_4 : RB w4 (w.heap.size) := RB.keep (by exact RB.alloc r_3 _) hg4 (by omega); have n_4 : NB w4 (w1.heap.size) (.int .i64 10) (.string ⟨#[]⟩) (.int .i64 0) (.int .i64 (pos c.L i)) (.slice none 0 0) := NB.keep (by exact NB.alloc n_3 _) hg4 (by omega); have base_4 : NB w4 (w3.heap.size) (.int .i64 0) (.string ⟨#[]⟩) (.int .i64 0) (.int .i64 (pos c.L j2)) (.slice none 0 0) := NB.keep (NB.new' (by simp)) hg4 (by omega); have r_lt4 := r_4.lt; have n_lt4 := n_4.lt; have base_lt4 := base_4.lt; obtain ⟨_,_,_,_,_,_,_,_,_,_,_⟩ := id r_4; obtain ⟨_,_,_,_,_,_⟩ := id n_4; obtain ⟨_,_,_,_,_,_⟩ := id base_4; cases b4
  · go_wp2_with fail
    go_region_law (first
      | (go_simp
         go_at_call 91; refine (pdeclarations_any c _ j4 d 126 (fieldP c.L) (by first | with_reducible exact PS.drew p4 | with_reducible exact PS.drew (PS.alloc p4 _)) ⟨fun w i hp _ => pfield_any c w i d hp, fun _ _ _ _ => trivial, enters_of Tryz.func126 (by kernel_rfl) rfl⟩).mono ?_; rintro e w5 (⟨x5, hr5, ht5, hg5⟩ | ⟨a5, j5, v5, hr5, rfl, ⟨lr5, ha5⟩, hg5, p5, hi5⟩)
         focus
           have HT := ht5; obtain ⟨q, rfl, -⟩ := ht5
           exact ⟨rfl, Steps.err (HR4.trans (P.bind_err hr5)) HT (by first | with_reducible exact gb_drew G4 | with_reducible exact gb_drew (gb_alloc G4 _)) hg5⟩
         have HR5 : recordP c.L i = _ := HR4.trans (P.bind_ok hr5); have G5 : w.grownBy w5 (some c.pb) := gb_trans (by first | with_reducible exact gb_drew G4 | with_reducible exact gb_drew (gb_alloc G4 _)) hg5; have s5 := hg5.size
         try simp at s5
         have r_5 : RB w5 (w.heap.size) := RB.keep (by first | with_reducible exact RB.drew r_4 | with_reducible exact RB.drew (RB.alloc r_4 _)) hg5 (by omega); have n_5 : NB w5 (w1.heap.size) (.int .i64 10) (.string ⟨#[]⟩) (.int .i64 0) (.int .i64 (pos c.L i)) (.slice none 0 0) := NB.keep (by first | with_reducible exact NB.drew n_4 | with_reducible exact NB.drew (NB.alloc n_4 _)) hg5 (by omega); have base_5 : NB w5 (w3.heap.size) (.int .i64 0) (.string ⟨#[]⟩) (.int .i64 0) (.int .i64 (pos c.L j2)) (.slice none 0 0) := NB.keep (by first | with_reducible exact NB.drew base_4 | with_reducible exact NB.drew (NB.alloc base_4 _)) hg5 (by omega); have r_lt5 := r_5.lt; have n_lt5 := n_5.lt; have base_lt5 := base_5.lt; obtain ⟨_,_,_,_,_,_,_,_,_,_,_⟩ := id r_5; obtain ⟨_,_,_,_,_,_⟩ := id n_5; obtain ⟨_,_,_,_,_,_⟩ := id base_5; obtain ⟨ad5, cp5, rfl⟩ := lr5.form; obtain ⟨b5, hb5, lr5⟩ : ∃ b, b = _ ∧ LR w5 (In b w5.heap.size) a5 (.slice ad5 a5.length cp5) := ⟨_, rfl, lr5⟩
         try simp at hb5)
      | (have lb : LR w5 (fun k => In (0) (0) k ∨ k = w4.heap.size) [(T.mk 0 [] 0 (pos c.L j2) [])] (.slice (some ⟨w4.heap.size, 0, none⟩) 1 1) := (LR.build1S w4.drew (g := w4.heap.size) (S := In (0) (0)) (t := (T.mk 0 [] 0 (pos c.L j2) [])) (sv := .slice none 0 0) (cs := #[.int .i64 0, .string ⟨#[]⟩, .int .i64 0, .int .i64 (pos c.L j2), .slice none 0 0]) (LR.drew (LR.nil w4 (In 0 0))) (fun k hk => Nat.lt_of_lt_of_le hk.2 (by omega)) rfl rfl).kept hg5 (fun b hb hs => by cases hb; rcases hs with hs | hs; (have h1 : 0 ≤ c.pb := hs.1; have h2 : c.pb < 0 := hs.2; omega); omega)
         have hin : ∀ b, Value.ownBlock (.slice (some ⟨w4.heap.size, 0, none⟩) 1 1) = some b → b = w4.heap.size := fun b e => by simp [Value.ownBlock] at e; omega
         refine step_appAny (v := .slice (some ⟨w4.heap.size, 0, none⟩) 1 1) (u := .slice ad5 a5.length cp5) rfl _ _ rfl (fun k => In (0) (0) k ∨ (w4.heap.size ≤ k ∧ k ≤ w5.heap.size + 1)) rfl rfl lb lr5
           (fun k hk e => by have h1 := hin k e; have h2 : b5 ≤ k := hk.1; have h3 : k < w5.heap.size := hk.2; omega) (fun k hk => hk.elim .inl (fun h => .inr ⟨by omega, by omega⟩)) (fun k hk => .inr ⟨by have h2 : b5 ≤ k := hk.1; omega, by have h3 : k < w5.heap.size := hk.2; omega⟩) (.inr ⟨by first | omega | (simp <;> omega), by first | omega | (simp <;> omega)⟩) (by simp; omega) ?_
         intro v6 w6 lr6 hg6; obtain ⟨ad6, cp6, e6⟩ := lr6.form; rw [List.length_append, List.length_singleton] at e6; subst e6; have s6 := hg6.size
         try simp at s6
         have r_6 : RB w6 (w.heap.size) := RB.kept r_5 hg6 (fun e => by have := hin _ e.symm; omega); have n_6 : NB w6 (w1.heap.size) (.int .i64 10) (.string ⟨#[]⟩) (.int .i64 0) (.int .i64 (pos c.L i)) (.slice none 0 0) := NB.kept n_5 hg6 (fun e => by have := hin _ e.symm; omega); have base_6 : NB w6 (w3.heap.size) (.int .i64 0) (.string ⟨#[]⟩) (.int .i64 0) (.int .i64 (pos c.L j2)) (.slice none 0 0) := NB.kept base_5 hg6 (fun e => by have := hin _ e.symm; omega); have p6 : PS c w6 j5 d := PS.own p5 HL.out hg6 (fun b hb => by have := hin b hb; omega); have G6 : w.grownBy w6 (some c.pb) := gb_own G5 hg6 (fun b hb => by have := hin b hb; omega); have r_lt6 := r_6.lt; have n_lt6 := n_6.lt; have base_lt6 := base_6.lt; obtain ⟨_,_,_,_,_,_,_,_,_,_,_⟩ := id r_6; obtain ⟨_,_,_,_,_,_⟩ := id n_6
         obtain ⟨_,_,_,_,_,_⟩ := id base_6)
      | (have lb : LR (w5.alloc (.cells #[.int .i64 0, .string ⟨#[]⟩, .int .i64 0, .int .i64 (pos c.L j2), .slice none 0 0] 25)) (fun k => In (0) (0) k ∨ k = w5.heap.size) [(T.mk 0 [] 0 (pos c.L j2) [])] (.slice (some ⟨w5.heap.size, 0, none⟩) 1 1) := LR.build1S w5 (S := In (0) (0)) (t := (T.mk 0 [] 0 (pos c.L j2) [])) (sv := .slice none 0 0) (cs := #[.int .i64 0, .string ⟨#[]⟩, .int .i64 0, .int .i64 (pos c.L j2), .slice none 0 0]) (LR.nil w5 (In 0 0)) (fun k hk => Nat.lt_of_lt_of_le hk.2 (by omega)) rfl rfl
         have hin : ∀ b, Value.ownBlock (.slice (some ⟨w5.heap.size, 0, none⟩) 1 1) = some b → b = w5.heap.size := fun b e => by simp [Value.ownBlock] at e; omega
         refine step_appAny (v := .slice (some ⟨w5.heap.size, 0, none⟩) 1 1) (u := .slice ad5 a5.length cp5) rfl _ _ rfl (fun k => In (0) (0) k ∨ (w4.heap.size ≤ k ∧ k ≤ w5.heap.size + 1)) rfl rfl lb (lr5.alloc _)
           (fun k hk e => by have h1 := hin k e; have h2 : b5 ≤ k := hk.1; have h3 : k < w5.heap.size := hk.2; omega) (fun k hk => hk.elim .inl (fun h => .inr ⟨by omega, by omega⟩)) (fun k hk => .inr ⟨by have h2 : b5 ≤ k := hk.1; omega, by have h3 : k < w5.heap.size := hk.2; omega⟩) (.inr ⟨by first | omega | (simp <;> omega), by first | omega | (simp <;> omega)⟩) (by simp; omega) ?_
         intro v6 w6 lr6 hg6; obtain ⟨ad6, cp6, e6⟩ := lr6.form; rw [List.length_append, List.length_singleton] at e6; subst e6; have s6 := hg6.size
         try simp at s6
         have r_6 : RB w6 (w.heap.size) := RB.kept (RB.alloc r_5 _) hg6 (fun e => by have := hin _ e.symm; omega); have n_6 : NB w6 (w1.heap.size) (.int .i64 10) (.string ⟨#[]⟩) (.int .i64 0) (.int .i64 (pos c.L i)) (.slice none 0 0) := NB.kept (NB.alloc n_5 _) hg6 (fun e => by have := hin _ e.symm; omega); have base_6 : NB w6 (w3.heap.size) (.int .i64 0) (.string ⟨#[]⟩) (.int .i64 0) (.int .i64 (pos c.L j2)) (.slice none 0 0) := NB.kept (NB.alloc base_5 _) hg6 (fun e => by have := hin _ e.symm; omega); have p6 : PS c w6 j5 d := PS.own (PS.alloc p5 _) HL.out hg6 (fun b hb => by have := hin b hb; omega); have G6 : w.grownBy w6 (some c.pb) := gb_own (gb_alloc G5 _) hg6 (fun b hb => by have := hin b hb; omega); have r_lt6 := r_6.lt; have n_lt6 := n_6.lt; have base_lt6 := base_6.lt; obtain ⟨_,_,_,_,_,_,_,_,_,_,_⟩ := id r_6; obtain ⟨_,_,_,_,_,_⟩ := id n_6
         obtain ⟨_,_,_,_,_,_⟩ := id base_6))
    all_goals
      have lz6 : LR w6 (In (w4.heap.size) w6.heap.size) ((T.mk 0 [] 0 (pos c.L j2) []) :: a5) (.slice ad6 (1 + a5.length) cp6) := lr6.bounded.mono (fun k hk => ⟨hk.1.elim (fun h => by first | exact h.1 | (have h1 : 0 ≤ k := h.1; have h2 : k < 0 := h.2; omega)) (fun h => by omega), hk.2⟩); go_wp2_with fail; go_at_call 52; refine (pwant_any c _ j5 d kEND _ rfl (by decide) (by exact PS.put p6 HL.out (by omega) _ _)).mono ?_; rintro e w7 (⟨x7, hr7, ht7, hg7⟩ | ⟨a7, j7, v7, hr7, rfl, -, hg7, p7, hi7⟩)
      · have HT := ht7
        obtain ⟨q, rfl, -⟩ := ht7
        exact ⟨rfl, Steps.err (HR5.trans (P.bind_err hr7)) HT (by exact gb_put G6 (by omega) _ _) hg7⟩
      have HR7 : recordP c.L i = _ := HR5.trans (P.bind_ok hr7); have G7 : w.grownBy w7 (some c.pb) := gb_trans (by exact gb_put G6 (by omega) _ _) hg7; have s7 := hg7.size
      try simp at s7
      have r_7 : RB w7 (w.heap.size) := RB.keep (by exact RB.put r_6 _ _ _) hg7 (by omega); have n_7 : NB w7 (w1.heap.size) (.int .i64 10) (.string ⟨#[]⟩) (.int .i64 0) (.int .i64 (pos c.L i)) (.slice ad6 (1 + a5.length) cp6) := NB.keep (by exact NB.s4 n_6 _) hg7 (by omega); have base_7 : NB w7 (w3.heap.size) (.int .i64 0) (.string ⟨#[]⟩) (.int .i64 0) (.int .i64 (pos c.L j2)) (.slice none 0 0) := NB.keep (by exact NB.far base_6 (by omega) _ _) hg7 (by omega); have zz_7 : LR w7 (In (w4.heap.size) (w6.heap.size)) (((T.mk 0 [] 0 (pos c.L j2) []) :: a5)) (.slice ad6 (1 + a5.length) cp6) := LR.call (by exact LR.put lz6 (by omega) _ _) hg7 (by omega); have r_lt7 := r_7.lt; have n_lt7 := n_7.lt; have base_lt7 := base_7.lt; obtain ⟨_,_,_,_,_,_,_,_,_,_,_⟩ := id r_7; obtain ⟨_,_,_,_,_,_⟩ := id n_7; obtain ⟨_,_,_,_,_,_⟩ := id base_7; go_wp2; refine node_ret Tryz.results112 rfl (RB.five ?_) rfl ?_
      · exact r_7
      refine Steps.ok (a := (T.mk 10 [] 0 (pos c.L i) ((T.mk 0 [] 0 (pos c.L j2) []) :: a5))) (HR7) ⟨_, rfl, ?_⟩ ?_ ?_ (by omega)
      · refine LR.wide (lo := w4.heap.size) (hi := w6.heap.size) (ts := ((T.mk 0 [] 0 (pos c.L j2) []) :: a5)) ?_ (by omega) (by first | omega | (simp <;> omega))
        exact LR.p5 zz_7 (by omega)
      · exact gb_p5 G7 (by omega)
      · exact PS.p5 p7 HL.out (by omega)
  · go_wp2_with fail
    go_at_call 114; refine (ptypeName_any c _ j4 d p4).mono ?_; rintro e w5 (⟨x5, hr5, ht5, hg5⟩ | ⟨⟨k5, n5, m5, q5, l5⟩, j5, v5, hr5, rfl, ⟨sv5, rfl, lr5⟩, hg5, p5, hi5⟩)
    · have HT := ht5
      obtain ⟨q, rfl, -⟩ := ht5
      exact ⟨rfl, Steps.err (HR4.trans (P.bind_err hr5)) HT G4 hg5⟩
    have HR5 : recordP c.L i = _ := HR4.trans (P.bind_ok hr5); simp only [T.kind, T.name, T.num, T.at', T.subs] at lr5 ⊢; obtain ⟨ad5, cp5, rfl⟩ := lr5.form; obtain ⟨b5, hb5, lr5⟩ : ∃ b, b = _ ∧ LR w5 (In b w5.heap.size) l5 (.slice ad5 l5.length cp5) := ⟨_, rfl, lr5⟩
    try simp at hb5
    have G5 : w.grownBy w5 (some c.pb) := gb_trans G4 hg5; have s5 := hg5.size
    try simp at s5
    have r_5 : RB w5 (w.heap.size) := RB.keep r_4 hg5 (by omega); have n_5 : NB w5 (w1.heap.size) (.int .i64 10) (.string ⟨#[]⟩) (.int .i64 0) (.int .i64 (pos c.L i)) (.slice none 0 0) := NB.keep n_4 hg5 (by omega); have base_5 : NB w5 (w3.heap.size) (.int .i64 0) (.string ⟨#[]⟩) (.int .i64 0) (.int .i64 (pos c.L j2)) (.slice none 0 0) := NB.keep base_4 hg5 (by omega); have r_lt5 := r_5.lt; have n_lt5 := n_5.lt; have base_lt5 := base_5.lt; obtain ⟨_,_,_,_,_,_,_,_,_,_,_⟩ := id r_5; obtain ⟨_,_,_,_,_,_⟩ := id n_5; obtain ⟨_,_,_,_,_,_⟩ := id base_5; go_wp2_with fail; go_at_call 52; refine (pwant_any c _ j5 d s_rp _ rfl (by decide) (by exact PS.p5 p5 HL.out (by omega))).mono ?_; rintro e w6 (⟨x6, hr6, ht6, hg6⟩ | ⟨a6, j6, v6, hr6, rfl, -, hg6, p6, hi6⟩)
    · have HT := ht6
      obtain ⟨q, rfl, -⟩ := ht6
      exact ⟨rfl, Steps.err (HR5.trans (P.bind_err hr6)) HT (by exact gb_p5 G5 (by omega)) hg6⟩
    have HR6 : recordP c.L i = _ := HR5.trans (P.bind_ok hr6); have G6 : w.grownBy w6 (some c.pb) := gb_trans (by exact gb_p5 G5 (by omega)) hg6; have s6 := hg6.size
    try simp at s6
    have r_6 : RB w6 (w.heap.size) := RB.keep (by exact RB.p5 r_5) hg6 (by omega); have n_6 : NB w6 (w1.heap.size) (.int .i64 10) (.string ⟨#[]⟩) (.int .i64 0) (.int .i64 (pos c.L i)) (.slice none 0 0) := NB.keep (by exact NB.p5 n_5 (by omega)) hg6 (by omega); have base_6 : NB w6 (w3.heap.size) (.int .i64 k5) (.string ⟨n5.toArray⟩) (.int .i64 m5) (.int .i64 q5) (.slice ad5 l5.length cp5) := NB.keep (by exact NB.s4 (NB.s3 (NB.s2 (NB.s1 (NB.s0 base_5 _) _) _) _) _) hg6 (by omega); have y_6 : LR w6 (In (b5) (w5.heap.size)) (l5) (.slice ad5 l5.length cp5) := LR.call (by exact LR.p5 lr5 (by omega)) hg6 (by omega); have r_lt6 := r_6.lt; have n_lt6 := n_6.lt; have base_lt6 := base_6.lt; obtain ⟨_,_,_,_,_,_,_,_,_,_,_⟩ := id r_6; obtain ⟨_,_,_,_,_,_⟩ := id n_6; obtain ⟨_,_,_,_,_,_⟩ := id base_6; go_wp2_with fail
    go_region_law (first
      | (go_simp
         go_at_call 91; refine (pdeclarations_any c _ j6 d 126 (fieldP c.L) (by first | with_reducible exact PS.drew p6 | with_reducible exact PS.drew (PS.alloc p6 _)) ⟨fun w i hp _ => pfield_any c w i d hp, fun _ _ _ _ => trivial, enters_of Tryz.func126 (by kernel_rfl) rfl⟩).mono ?_; rintro e w7 (⟨x7, hr7, ht7, hg7⟩ | ⟨a7, j7, v7, hr7, rfl, ⟨lr7, ha7⟩, hg7, p7, hi7⟩)
         focus
           have HT := ht7; obtain ⟨q, rfl, -⟩ := ht7
           exact ⟨rfl, Steps.err (HR6.trans (P.bind_err hr7)) HT (by first | with_reducible exact gb_drew G6 | with_reducible exact gb_drew (gb_alloc G6 _)) hg7⟩
         have HR7 : recordP c.L i = _ := HR6.trans (P.bind_ok hr7); have G7 : w.grownBy w7 (some c.pb) := gb_trans (by first | with_reducible exact gb_drew G6 | with_reducible exact gb_drew (gb_alloc G6 _)) hg7; have s7 := hg7.size
         try simp at s7
         have r_7 : RB w7 (w.heap.size) := RB.keep (by first | with_reducible exact RB.drew r_6 | with_reducible exact RB.drew (RB.alloc r_6 _)) hg7 (by omega); have n_7 : NB w7 (w1.heap.size) (.int .i64 10) (.string ⟨#[]⟩) (.int .i64 0) (.int .i64 (pos c.L i)) (.slice none 0 0) := NB.keep (by first | with_reducible exact NB.drew n_6 | with_reducible exact NB.drew (NB.alloc n_6 _)) hg7 (by omega); have base_7 : NB w7 (w3.heap.size) (.int .i64 k5) (.string ⟨n5.toArray⟩) (.int .i64 m5) (.int .i64 q5) (.slice ad5 l5.length cp5) := NB.keep (by first | with_reducible exact NB.drew base_6 | with_reducible exact NB.drew (NB.alloc base_6 _)) hg7 (by omega); have y_7 : LR w7 (In (b5) (w5.heap.size)) (l5) (.slice ad5 l5.length cp5) := LR.call (by first | with_reducible exact LR.drew y_6 | with_reducible exact LR.drew (LR.alloc y_6 _)) hg7 (by omega); have r_lt7 := r_7.lt; have n_lt7 := n_7.lt; have base_lt7 := base_7.lt; obtain ⟨_,_,_,_,_,_,_,_,_,_,_⟩ := id r_7; obtain ⟨_,_,_,_,_,_⟩ := id n_7; obtain ⟨_,_,_,_,_,_⟩ := id base_7; obtain ⟨ad7, cp7, rfl⟩ := lr7.form; obtain ⟨b7, hb7, lr7⟩ : ∃ b, b = _ ∧ LR w7 (In b w7.heap.size) a7 (.slice ad7 a7.length cp7) := ⟨_, rfl, lr7⟩
         try simp at hb7)
      | (have lb : LR w7 (fun k => In (b5) (w5.heap.size) k ∨ k = w6.heap.size) [(T.mk k5 n5 m5 q5 l5)] (.slice (some ⟨w6.heap.size, 0, none⟩) 1 1) := (LR.build1S w6.drew (g := w6.heap.size) (S := In (b5) (w5.heap.size)) (t := (T.mk k5 n5 m5 q5 l5)) (sv := .slice ad5 l5.length cp5) (cs := #[.int .i64 k5, .string ⟨n5.toArray⟩, .int .i64 m5, .int .i64 q5, .slice ad5 l5.length cp5]) (LR.drew (y_6)) (fun k hk => Nat.lt_of_lt_of_le hk.2 (by omega)) rfl rfl).kept hg7 (fun b hb hs => by cases hb; rcases hs with hs | hs; (have h1 : b5 ≤ c.pb := hs.1; have h2 : c.pb < w5.heap.size := hs.2; omega); omega)
         have hin : ∀ b, Value.ownBlock (.slice (some ⟨w6.heap.size, 0, none⟩) 1 1) = some b → b = w6.heap.size := fun b e => by simp [Value.ownBlock] at e; omega
         refine step_appAny (v := .slice (some ⟨w6.heap.size, 0, none⟩) 1 1) (u := .slice ad7 a7.length cp7) rfl _ _ rfl (fun k => In (b5) (w5.heap.size) k ∨ (w6.heap.size ≤ k ∧ k ≤ w7.heap.size + 1)) rfl rfl lb lr7
           (fun k hk e => by have h1 := hin k e; have h2 : b7 ≤ k := hk.1; have h3 : k < w7.heap.size := hk.2; omega) (fun k hk => hk.elim .inl (fun h => .inr ⟨by omega, by omega⟩)) (fun k hk => .inr ⟨by have h2 : b7 ≤ k := hk.1; omega, by have h3 : k < w7.heap.size := hk.2; omega⟩) (.inr ⟨by first | omega | (simp <;> omega), by first | omega | (simp <;> omega)⟩) (by simp; omega) ?_
         intro v8 w8 lr8 hg8; obtain ⟨ad8, cp8, e8⟩ := lr8.form; rw [List.length_append, List.length_singleton] at e8; subst e8; have s8 := hg8.size
         try simp at s8
         have r_8 : RB w8 (w.heap.size) := RB.kept r_7 hg8 (fun e => by have := hin _ e.symm; omega); have n_8 : NB w8 (w1.heap.size) (.int .i64 10) (.string ⟨#[]⟩) (.int .i64 0) (.int .i64 (pos c.L i)) (.slice none 0 0) := NB.kept n_7 hg8 (fun e => by have := hin _ e.symm; omega); have base_8 : NB w8 (w3.heap.size) (.int .i64 k5) (.string ⟨n5.toArray⟩) (.int .i64 m5) (.int .i64 q5) (.slice ad5 l5.length cp5) := NB.kept base_7 hg8 (fun e => by have := hin _ e.symm; omega); have p8 : PS c w8 j7 d := PS.own p7 HL.out hg8 (fun b hb => by have := hin b hb; omega); have G8 : w.grownBy w8 (some c.pb) := gb_own G7 hg8 (fun b hb => by have := hin b hb; omega); have r_lt8 := r_8.lt; have n_lt8 := n_8.lt; have base_lt8 := base_8.lt; obtain ⟨_,_,_,_,_,_,_,_,_,_,_⟩ := id r_8; obtain ⟨_,_,_,_,_,_⟩ := id n_8
         obtain ⟨_,_,_,_,_,_⟩ := id base_8)
      | (have lb : LR (w7.alloc (.cells #[.int .i64 k5, .string ⟨n5.toArray⟩, .int .i64 m5, .int .i64 q5, .slice ad5 l5.length cp5] 25)) (fun k => In (b5) (w5.heap.size) k ∨ k = w7.heap.size) [(T.mk k5 n5 m5 q5 l5)] (.slice (some ⟨w7.heap.size, 0, none⟩) 1 1) := LR.build1S w7 (S := In (b5) (w5.heap.size)) (t := (T.mk k5 n5 m5 q5 l5)) (sv := .slice ad5 l5.length cp5) (cs := #[.int .i64 k5, .string ⟨n5.toArray⟩, .int .i64 m5, .int .i64 q5, .slice ad5 l5.length cp5]) (y_7) (fun k hk => Nat.lt_of_lt_of_le hk.2 (by omega)) rfl rfl
         have hin : ∀ b, Value.ownBlock (.slice (some ⟨w7.heap.size, 0, none⟩) 1 1) = some b → b = w7.heap.size := fun b e => by simp [Value.ownBlock] at e; omega
         refine step_appAny (v := .slice (some ⟨w7.heap.size, 0, none⟩) 1 1) (u := .slice ad7 a7.length cp7) rfl _ _ rfl (fun k => In (b5) (w5.heap.size) k ∨ (w6.heap.size ≤ k ∧ k ≤ w7.heap.size + 1)) rfl rfl lb (lr7.alloc _)
           (fun k hk e => by have h1 := hin k e; have h2 : b7 ≤ k := hk.1; have h3 : k < w7.heap.size := hk.2; omega) (fun k hk => hk.elim .inl (fun h => .inr ⟨by omega, by omega⟩)) (fun k hk => .inr ⟨by have h2 : b7 ≤ k := hk.1; omega, by have h3 : k < w7.heap.size := hk.2; omega⟩) (.inr ⟨by first | omega | (simp <;> omega), by first | omega | (simp <;> omega)⟩) (by simp; omega) ?_
         intro v8 w8 lr8 hg8; obtain ⟨ad8, cp8, e8⟩ := lr8.form; rw [List.length_append, List.length_singleton] at e8; subst e8; have s8 := hg8.size
         try simp at s8
         have r_8 : RB w8 (w.heap.size) := RB.kept (RB.alloc r_7 _) hg8 (fun e => by have := hin _ e.symm; omega); have n_8 : NB w8 (w1.heap.size) (.int .i64 10) (.string ⟨#[]⟩) (.int .i64 0) (.int .i64 (pos c.L i)) (.slice none 0 0) := NB.kept (NB.alloc n_7 _) hg8 (fun e => by have := hin _ e.symm; omega); have base_8 : NB w8 (w3.heap.size) (.int .i64 k5) (.string ⟨n5.toArray⟩) (.int .i64 m5) (.int .i64 q5) (.slice ad5 l5.length cp5) := NB.kept (NB.alloc base_7 _) hg8 (fun e => by have := hin _ e.symm; omega); have p8 : PS c w8 j7 d := PS.own (PS.alloc p7 _) HL.out hg8 (fun b hb => by have := hin b hb; omega); have G8 : w.grownBy w8 (some c.pb) := gb_own (gb_alloc G7 _) hg8 (fun b hb => by have := hin b hb; omega); have r_lt8 := r_8.lt; have n_lt8 := n_8.lt; have base_lt8 := base_8.lt; obtain ⟨_,_,_,_,_,_,_,_,_,_,_⟩ := id r_8; obtain ⟨_,_,_,_,_,_⟩ := id n_8
         obtain ⟨_,_,_,_,_,_⟩ := id base_8))
    all_goals
      have lz8 : LR w8 (In (b5) w8.heap.size) ((T.mk k5 n5 m5 q5 l5) :: a7) (.slice ad8 (1 + a7.length) cp8) := lr8.bounded.mono (fun k hk => ⟨hk.1.elim (fun h => by first | exact h.1 | (have h1 : 0 ≤ k := h.1; have h2 : k < 0 := h.2; omega)) (fun h => by omega), hk.2⟩); go_wp2_with fail; go_at_call 52; refine (pwant_any c _ j7 d kEND _ rfl (by decide) (by exact PS.put p8 HL.out (by omega) _ _)).mono ?_; rintro e w9 (⟨x9, hr9, ht9, hg9⟩ | ⟨a9, j9, v9, hr9, rfl, -, hg9, p9, hi9⟩)
      · have HT := ht9
        obtain ⟨q, rfl, -⟩ := ht9
        exact ⟨rfl, Steps.err (HR7.trans (P.bind_err hr9)) HT (by exact gb_put G8 (by omega) _ _) hg9⟩
      have HR9 : recordP c.L i = _ := HR7.trans (P.bind_ok hr9); have G9 : w.grownBy w9 (some c.pb) := gb_trans (by exact gb_put G8 (by omega) _ _) hg9; have s9 := hg9.size
      try simp at s9
      have r_9 : RB w9 (w.heap.size) := RB.keep (by exact RB.put r_8 _ _ _) hg9 (by omega); have n_9 : NB w9 (w1.heap.size) (.int .i64 10) (.string ⟨#[]⟩) (.int .i64 0) (.int .i64 (pos c.L i)) (.slice ad8 (1 + a7.length) cp8) := NB.keep (by exact NB.s4 n_8 _) hg9 (by omega); have base_9 : NB w9 (w3.heap.size) (.int .i64 k5) (.string ⟨n5.toArray⟩) (.int .i64 m5) (.int .i64 q5) (.slice ad5 l5.length cp5) := NB.keep (by exact NB.far base_8 (by omega) _ _) hg9 (by omega); have zz_9 : LR w9 (In (b5) (w8.heap.size)) (((T.mk k5 n5 m5 q5 l5) :: a7)) (.slice ad8 (1 + a7.length) cp8) := LR.call (by exact LR.put lz8 (by omega) _ _) hg9 (by omega); have r_lt9 := r_9.lt; have n_lt9 := n_9.lt; have base_lt9 := base_9.lt; obtain ⟨_,_,_,_,_,_,_,_,_,_,_⟩ := id r_9; obtain ⟨_,_,_,_,_,_⟩ := id n_9; obtain ⟨_,_,_,_,_,_⟩ := id base_9; go_wp2; refine node_ret Tryz.results112 rfl (RB.five ?_) rfl ?_
      · exact r_9
      refine Steps.ok (a := (T.mk 10 [] 0 (pos c.L i) ((T.mk k5 n5 m5 q5 l5) :: a7))) (HR9) ⟨_, rfl, ?_⟩ ?_ ?_ (by omega)
      · refine LR.wide (lo := b5) (hi := w8.heap.size) (ts := ((T.mk k5 n5 m5 q5 l5) :: a7)) ?_ (by omega) (by first | omega | (simp <;> omega))
        exact LR.p5 zz_9 (by omega)
      · exact gb_p5 G9 (by omega)
      · exact PS.p5 p9 HL.out (by omega)
end Go.Proofs.YtbphiiaoncakfaaGreatDoor
