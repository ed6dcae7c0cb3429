/- The document's reader: assignments and calls. -/
import Derived.Test.YtbphiiaoncakfaaGreatDoorG30
namespace Go.Proofs.YtbphiiaoncakfaaGreatDoor
open Go.RowKit

set_option maxRecDepth 100000 in
set_option maxHeartbeats 2000000 in
theorem rstmt_assign (c : RC) (w : World) (s : QS) (d : Nat) (E A : Q T) (h : RS c w s d) (_hok : s.2 = none) (hE : QOK c d 68 E) (_hA : QOK c d 32 A) (hnIF : wd c.L s.1 ≠ kIF) (hnWHILE : wd c.L s.1 ≠ kWHILE) (hnREPEAT : wd c.L s.1 ≠ kREPEAT) (hnRETURN : wd c.L s.1 ≠ kRETURN) (hnNEW : wd c.L s.1 ≠ kNEW) (hnGET : wd c.L s.1 ≠ kGET) (hnOUT : wd c.L s.1 ≠ kOUT) (hnASSERT : wd c.L s.1 ≠ kASSERT) :
    Calls Tryz.prog 46 #[.pointer (some ⟨c.rb, 0, none⟩)] w (QSt c w s d (fun w' t v => TR w' w.heap.size w'.heap.size t v) (assignQ c.L E s)) := by
  have HP := hide h; have HL := hide h.low; have hb := h.lt; have hfew := h.good.few; clear h
  have hcIF : (wd c.L s.1 == [73, 70]) = false := by simpa [kIF] using hnIF
  have hcWHILE : (wd c.L s.1 == [87, 72, 73, 76, 69]) = false := by simpa [kWHILE] using hnWHILE
  have hcREPEAT : (wd c.L s.1 == [82, 69, 80, 69, 65, 84]) = false := by simpa [kREPEAT] using hnREPEAT
  have hcRETURN : (wd c.L s.1 == [82, 69, 84, 85, 82, 78]) = false := by simpa [kRETURN] using hnRETURN
  have hcNEW : (wd c.L s.1 == [78, 69, 87]) = false := by simpa [kNEW] using hnNEW
  have hcGET : (wd c.L s.1 == [71, 69, 84]) = false := by simpa [kGET] using hnGET
  have hcOUT : (wd c.L s.1 == [79, 85, 84]) = false := by simpa [kOUT] using hnOUT
  have hcASSERT : (wd c.L s.1 == [65, 83, 83, 69, 82, 84]) = false := by simpa [kASSERT] using hnASSERT
  go_enter Tryz.func46, Tryz.ntmps46
  go_wp2_with fail; go_at_call 26; refine (rat_any c _ s d (by exact RS.alloc HP.out _)).mono ?_; rintro e w1 ⟨rfl, hg1⟩; have p1 : RS c w1 s d := RS.grown (by exact RS.alloc HP.out _) hg1; have G1 : w.grownBy w1 (some c.rb) := gb_trans (by exact gb_alloc (gb_refl w (some c.rb)) _) (gb_some hg1 (some c.rb)); have sz1 := hg1.size
  try simp at sz1
  have r_1 : RB w1 (w.heap.size) := RB.kept (RB.new' (by simp)) hg1 (by simp); have r_lt1 := r_1.lt; obtain ⟨_,_,_,_,_,_,_,_,_,_,_⟩ := id r_1; go_wp2_with fail; go_at_call 13; refine (rword_any c _ s d (by exact RS.alloc p1 _)).mono ?_; rintro e w2 ⟨rfl, hg2⟩; have p2 : RS c w2 s d := RS.grown (by exact RS.alloc p1 _) hg2; have G2 : w.grownBy w2 (some c.rb) := gb_trans (by exact gb_alloc G1 _) (gb_some hg2 (some c.rb)); have sz2 := hg2.size
  try simp at sz2
  have r_2 : RB w2 (w.heap.size) := RB.kept (by exact RB.alloc r_1 _) hg2 (by simp); have n_2 : NB w2 (w1.heap.size) (.int .i64 0) (.string ⟨#[]⟩) (.int .i64 0) (.int .i64 (pos c.L s.1)) (.slice none 0 0) := NB.kept (NB.new' (by simp)) hg2 (by simp); have r_lt2 := r_2.lt; have n_lt2 := n_2.lt; obtain ⟨_,_,_,_,_,_,_,_,_,_,_⟩ := id r_2; obtain ⟨_,_,_,_,_,_⟩ := id n_2
  have HRx1 : assignQ c.L E s = (((desigQ c.L E).bind fun d9 => (isQ c.L s_becomes).bind fun b => if b = true then E.bind fun e => Q.ret (.mk 14 [] 0 (pos c.L s.1) [d9, e]) else (givenQ c.L E).bind fun l => Q.ret (.mk 15 [] 0 (pos c.L s.1) (d9 :: l))) s) := rfl
  go_wp2_with fail; go_at_call 70; refine (rdesig_any c _ s d E p2 hE).mono ?_; rintro e w3 ⟨⟨k3, n3, m3, q3, l3⟩, s3, v3, hr3, rfl, ⟨sv3, rfl, lr3⟩, hg3, p3, hi3⟩; have HR3 : assignQ c.L E s = _ := HRx1.trans (Q.bind_eq hr3); simp only [T.kind, T.name, T.num, T.at', T.subs] at lr3 ⊢; obtain ⟨ad3, cp3, rfl⟩ := lr3.form; obtain ⟨b3, hb3, lr3⟩ : ∃ b, b = _ ∧ LR w3 (In b w3.heap.size) l3 (.slice ad3 l3.length cp3) := ⟨_, rfl, lr3⟩
  try simp at hb3
  have G3 : w.grownBy w3 (some c.rb) := gb_trans G2 hg3; have sz3 := hg3.size
  try simp at sz3
  have r_3 : RB w3 (w.heap.size) := RB.keep r_2 hg3 (by omega); have n_3 : NB w3 (w1.heap.size) (.int .i64 0) (.string ⟨#[]⟩) (.int .i64 0) (.int .i64 (pos c.L s.1)) (.slice none 0 0) := NB.keep n_2 hg3 (by omega); have r_lt3 := r_3.lt; have n_lt3 := n_3.lt; obtain ⟨_,_,_,_,_,_,_,_,_,_,_⟩ := id r_3; obtain ⟨_,_,_,_,_,_⟩ := id n_3; go_wp2_with fail; go_at_call 29; refine (ris_any c _ s3 d s_becomes _ rfl (by decide) (by exact RS.alloc p3 _)).mono ?_; rintro e w4 ⟨a4, s4, v4, hr4, rfl, rfl, hg4, p4, hi4⟩; have HR4 : assignQ c.L E s = _ := HR3.trans (Q.bind_eq hr4); have G4 : w.grownBy w4 (some c.rb) := gb_trans (by exact gb_alloc G3 _) hg4; have sz4 := hg4.size
  try simp at sz4
  have r_4 : RB w4 (w.heap.size) := RB.keep (by exact RB.alloc r_3 _) hg4 (by omega); have n_4 : NB w4 (w1.heap.size) (.int .i64 0) (.string ⟨#[]⟩) (.int .i64 0) (.int .i64 (pos c.L s.1)) (.slice none 0 0) := NB.keep (by exact NB.alloc n_3 _) hg4 (by omega); have dd_4 : NB w4 (w3.heap.size) (.int .i64 k3) (.string ⟨n3.toArray⟩) (.int .i64 m3) (.int .i64 q3) (.slice ad3 l3.length cp3) := NB.keep (NB.new' (by simp)) hg4 (by omega); have y_4 : LR w4 (In (b3) (w3.heap.size)) (l3) (.slice ad3 l3.length cp3) := LR.call (by exact LR.alloc lr3 _) hg4 (by omega); have r_lt4 := r_4.lt; have n_lt4 := n_4.lt; have dd_lt4 := dd_4.lt; obtain ⟨_,_,_,_,_,_,_,_,_,_,_⟩ := id r_4; obtain ⟨_,_,_,_,_,_⟩ := id n_4; obtain ⟨_,_,_,_,_,_⟩ := id dd_4; cases a4
  · rw [if_neg (by decide)] at HR4
    go_wp2_with fail; obtain ⟨w5, hw5⟩ : ∃ x : World, x = w4.setCell ⟨w1.heap.size, 0, none⟩ (.int .i64 15) := ⟨_, rfl⟩; rw [← hw5]
    have p5 : RS c w5 s4 d := by rw [hw5]; exact RS.put p4 HL.out (by omega) _ _
    have G5 : w.grownBy w5 (some c.rb) := by rw [hw5]; exact gb_put G4 (by omega) _ _
    have sz5 : w4.heap.size ≤ w5.heap.size := by rw [hw5]; simp [World.setCell]
    have sy5 : w5.heap.size ≤ w4.heap.size := by rw [hw5]; simp [World.setCell]
    have r_5 : RB w5 (w.heap.size) := by rw [hw5]; exact RB.put r_4 _ _ _
    have n_5 : NB w5 (w1.heap.size) (.int .i64 15) (.string ⟨#[]⟩) (.int .i64 0) (.int .i64 (pos c.L s.1)) (.slice none 0 0) := by rw [hw5]; exact NB.s0 n_4 _
    have dd_5 : NB w5 (w3.heap.size) (.int .i64 k3) (.string ⟨n3.toArray⟩) (.int .i64 m3) (.int .i64 q3) (.slice ad3 l3.length cp3) := by rw [hw5]; exact NB.far dd_4 (by omega) _ _
    have y_5 : LR w5 (In (b3) (w3.heap.size)) (l3) (.slice ad3 l3.length cp3) := by rw [hw5]; exact LR.put y_4 (by omega) _ _
    clear hw5; have r_lt5 := r_5.lt; have n_lt5 := n_5.lt; have dd_lt5 := dd_5.lt; obtain ⟨_,_,_,_,_,_,_,_,_,_,_⟩ := id r_5; obtain ⟨_,_,_,_,_,_⟩ := id n_5; obtain ⟨_,_,_,_,_,_⟩ := id dd_5
    go_region_law (first
      | (go_simp
         go_at_call 71; refine (rgiven_any c _ s4 d E (by first | with_reducible exact RS.drew p5 | with_reducible exact RS.drew (RS.alloc p5 _)) hE).mono ?_; rintro e w6 ⟨a6, s6, v6, hr6, rfl, ⟨lr6, ha6⟩, hg6, p6, hi6⟩; have HR6 : assignQ c.L E s = _ := HR4.trans (Q.bind_eq hr6); have G6 : w.grownBy w6 (some c.rb) := gb_trans (by first | with_reducible exact gb_drew G5 | with_reducible exact gb_drew (gb_alloc G5 _)) hg6; have sz6 := hg6.size
         try simp at sz6
         have r_6 : RB w6 (w.heap.size) := RB.keep (by first | with_reducible exact RB.drew r_5 | with_reducible exact RB.drew (RB.alloc r_5 _)) hg6 (by omega); have n_6 : NB w6 (w1.heap.size) (.int .i64 15) (.string ⟨#[]⟩) (.int .i64 0) (.int .i64 (pos c.L s.1)) (.slice none 0 0) := NB.keep (by first | with_reducible exact NB.drew n_5 | with_reducible exact NB.drew (NB.alloc n_5 _)) hg6 (by omega); have dd_6 : NB w6 (w3.heap.size) (.int .i64 k3) (.string ⟨n3.toArray⟩) (.int .i64 m3) (.int .i64 q3) (.slice ad3 l3.length cp3) := NB.keep (by first | with_reducible exact NB.drew dd_5 | with_reducible exact NB.drew (NB.alloc dd_5 _)) hg6 (by omega); have y_6 : LR w6 (In (b3) (w3.heap.size)) (l3) (.slice ad3 l3.length cp3) := LR.call (by first | with_reducible exact LR.drew y_5 | with_reducible exact LR.drew (LR.alloc y_5 _)) hg6 (by omega); have r_lt6 := r_6.lt; have n_lt6 := n_6.lt; have dd_lt6 := dd_6.lt; obtain ⟨_,_,_,_,_,_,_,_,_,_,_⟩ := id r_6; obtain ⟨_,_,_,_,_,_⟩ := id n_6; obtain ⟨_,_,_,_,_,_⟩ := id dd_6; obtain ⟨ad6, cp6, rfl⟩ := lr6.form; obtain ⟨b6, hb6, lr6⟩ : ∃ b, b = _ ∧ LR w6 (In b w6.heap.size) a6 (.slice ad6 a6.length cp6) := ⟨_, rfl, lr6⟩
         try simp at hb6)
      | (have lb : LR w6 (fun k => In (b3) (w3.heap.size) k ∨ k = w5.heap.size) [(T.mk k3 n3 m3 q3 l3)] (.slice (some ⟨w5.heap.size, 0, none⟩) 1 1) := (LR.build1S w5.drew (g := w5.heap.size) (S := In (b3) (w3.heap.size)) (t := (T.mk k3 n3 m3 q3 l3)) (sv := .slice ad3 l3.length cp3) (cs := #[.int .i64 k3, .string ⟨n3.toArray⟩, .int .i64 m3, .int .i64 q3, .slice ad3 l3.length cp3]) (LR.drew (y_5)) (fun k hk => Nat.lt_of_lt_of_le hk.2 (by omega)) rfl rfl).kept hg6 (fun b hb hs => by cases hb; rcases hs with hs | hs; (have h1 : b3 ≤ c.rb := hs.1; have h2 : c.rb < w3.heap.size := hs.2; omega); omega)
         have hin : ∀ b, Value.ownBlock (.slice (some ⟨w5.heap.size, 0, none⟩) 1 1) = some b → b = w5.heap.size := fun b e => by simp [Value.ownBlock] at e; omega
         refine step_appAny (v := .slice (some ⟨w5.heap.size, 0, none⟩) 1 1) (u := .slice ad6 a6.length cp6) rfl _ _ rfl (fun k => In (b3) (w3.heap.size) k ∨ (w5.heap.size ≤ k ∧ k ≤ w6.heap.size + 1)) rfl rfl lb lr6
           (fun k hk e => by have h1 := hin k e; have h2 : b6 ≤ k := hk.1; have h3 : k < w6.heap.size := hk.2; omega) (fun k hk => hk.elim .inl (fun h => .inr ⟨by omega, by omega⟩)) (fun k hk => .inr ⟨by have h2 : b6 ≤ k := hk.1; omega, by have h3 : k < w6.heap.size := hk.2; omega⟩) (.inr ⟨by first | omega | (simp <;> omega), by first | omega | (simp <;> omega)⟩) (by simp; omega) ?_
         intro v7 w7 lr7 hg7; obtain ⟨ad7, cp7, e7⟩ := lr7.form; rw [List.length_append, List.length_singleton] at e7; subst e7; have sz7 := hg7.size
         try simp at sz7
         have r_7 : RB w7 (w.heap.size) := RB.kept r_6 hg7 (fun e => by have := hin _ e.symm; omega); have n_7 : NB w7 (w1.heap.size) (.int .i64 15) (.string ⟨#[]⟩) (.int .i64 0) (.int .i64 (pos c.L s.1)) (.slice none 0 0) := NB.kept n_6 hg7 (fun e => by have := hin _ e.symm; omega); have dd_7 : NB w7 (w3.heap.size) (.int .i64 k3) (.string ⟨n3.toArray⟩) (.int .i64 m3) (.int .i64 q3) (.slice ad3 l3.length cp3) := NB.kept dd_6 hg7 (fun e => by have := hin _ e.symm; omega); have p7 : RS c w7 s6 d := RS.own p6 HL.out hg7 (fun b hb => by have := hin b hb; omega); have G7 : w.grownBy w7 (some c.rb) := gb_own G6 hg7 (fun b hb => by have := hin b hb; omega); have r_lt7 := r_7.lt; have n_lt7 := n_7.lt; have dd_lt7 := dd_7.lt; obtain ⟨_,_,_,_,_,_,_,_,_,_,_⟩ := id r_7; obtain ⟨_,_,_,_,_,_⟩ := id n_7
         obtain ⟨_,_,_,_,_,_⟩ := id dd_7)
      | (have lb : LR (w6.alloc (.cells #[.int .i64 k3, .string ⟨n3.toArray⟩, .int .i64 m3, .int .i64 q3, .slice ad3 l3.length cp3] 25)) (fun k => In (b3) (w3.heap.size) k ∨ k = w6.heap.size) [(T.mk k3 n3 m3 q3 l3)] (.slice (some ⟨w6.heap.size, 0, none⟩) 1 1) := LR.build1S w6 (S := In (b3) (w3.heap.size)) (t := (T.mk k3 n3 m3 q3 l3)) (sv := .slice ad3 l3.length cp3) (cs := #[.int .i64 k3, .string ⟨n3.toArray⟩, .int .i64 m3, .int .i64 q3, .slice ad3 l3.length cp3]) (y_6) (fun k hk => Nat.lt_of_lt_of_le hk.2 (by omega)) rfl rfl
         have hin : ∀ b, Value.ownBlock (.slice (some ⟨w6.heap.size, 0, none⟩) 1 1) = some b → b = w6.heap.size := fun b e => by simp [Value.ownBlock] at e; omega
         refine step_appAny (v := .slice (some ⟨w6.heap.size, 0, none⟩) 1 1) (u := .slice ad6 a6.length cp6) rfl _ _ rfl (fun k => In (b3) (w3.heap.size) k ∨ (w5.heap.size ≤ k ∧ k ≤ w6.heap.size + 1)) rfl rfl lb (lr6.alloc _)
           (fun k hk e => by have h1 := hin k e; have h2 : b6 ≤ k := hk.1; have h3 : k < w6.heap.size := hk.2; omega) (fun k hk => hk.elim .inl (fun h => .inr ⟨by omega, by omega⟩)) (fun k hk => .inr ⟨by have h2 : b6 ≤ k := hk.1; omega, by have h3 : k < w6.heap.size := hk.2; omega⟩) (.inr ⟨by first | omega | (simp <;> omega), by first | omega | (simp <;> omega)⟩) (by simp; omega) ?_
         intro v7 w7 lr7 hg7; obtain ⟨ad7, cp7, e7⟩ := lr7.form; rw [List.length_append, List.length_singleton] at e7; subst e7; have sz7 := hg7.size
         try simp at sz7
         have r_7 : RB w7 (w.heap.size) := RB.kept (RB.alloc r_6 _) hg7 (fun e => by have := hin _ e.symm; omega); have n_7 : NB w7 (w1.heap.size) (.int .i64 15) (.string ⟨#[]⟩) (.int .i64 0) (.int .i64 (pos c.L s.1)) (.slice none 0 0) := NB.kept (NB.alloc n_6 _) hg7 (fun e => by have := hin _ e.symm; omega); have dd_7 : NB w7 (w3.heap.size) (.int .i64 k3) (.string ⟨n3.toArray⟩) (.int .i64 m3) (.int .i64 q3) (.slice ad3 l3.length cp3) := NB.kept (NB.alloc dd_6 _) hg7 (fun e => by have := hin _ e.symm; omega); have p7 : RS c w7 s6 d := RS.own (RS.alloc p6 _) HL.out hg7 (fun b hb => by have := hin b hb; omega); have G7 : w.grownBy w7 (some c.rb) := gb_own (gb_alloc G6 _) hg7 (fun b hb => by have := hin b hb; omega); have r_lt7 := r_7.lt; have n_lt7 := n_7.lt; have dd_lt7 := dd_7.lt; obtain ⟨_,_,_,_,_,_,_,_,_,_,_⟩ := id r_7; obtain ⟨_,_,_,_,_,_⟩ := id n_7
         obtain ⟨_,_,_,_,_,_⟩ := id dd_7))
    all_goals
      have lz7 : LR w7 (In (b3) w7.heap.size) ((T.mk k3 n3 m3 q3 l3) :: a6) (.slice ad7 (1 + a6.length) cp7) := lr7.bounded.mono (fun k hk => ⟨hk.1.elim (fun h => by first | exact h.1 | (have h1 : 0 ≤ k := h.1; have h2 : k < 0 := h.2; omega)) (fun h => by omega), hk.2⟩); go_wp2; refine node_ret Tryz.results46 rfl (RB.five ?_) rfl ?_
      · exact RB.put r_7 _ _ _
      refine QSt.ok (a := (T.mk 15 [] 0 (pos c.L s.1) ((T.mk k3 n3 m3 q3 l3) :: a6))) (HR6) ⟨_, rfl, ?_⟩ ?_ ?_ (by omega)
      · refine LR.wide (lo := b3) (hi := w7.heap.size) (ts := ((T.mk k3 n3 m3 q3 l3) :: a6)) ?_ (by omega) (by first | omega | (simp <;> omega))
        exact LR.p5 (LR.put lz7 (by omega) _ _) (by omega)
      · exact gb_p5 (gb_put G7 (by omega) _ _) (by omega)
      · exact RS.p5 (RS.put p7 HL.out (by omega) _ _) HL.out (by omega)
  · rw [if_pos rfl] at HR4
    go_wp2_with fail
    go_region_with (first
      | (go_at_call 68
         refine (hE _ s4 (by exact RS.drew (RS.put p4 HL.out (by omega) _ _))).mono ?_; rintro e w5 ⟨⟨k5, n5, m5, q5, l5⟩, s5, v5, hr5, rfl, ⟨sv5, rfl, lr5⟩, hg5, p5, hi5⟩; have HR5 : assignQ c.L E s = _ := HR4.trans (Q.bind_eq hr5); simp only [T.kind, T.name, T.num, T.at', T.subs] at lr5 ⊢; obtain ⟨ad5, cp5, rfl⟩ := lr5.form; obtain ⟨b5, hb5, lr5⟩ : ∃ b, b = _ ∧ LR w5 (In b w5.heap.size) l5 (.slice ad5 l5.length cp5) := ⟨_, rfl, lr5⟩
         try simp at hb5
         have G5 : w.grownBy w5 (some c.rb) := gb_trans (by exact gb_drew (gb_put G4 (by omega) _ _)) hg5; have sz5 := hg5.size
         try simp at sz5
         have r_5 : RB w5 (w.heap.size) := RB.keep (by exact RB.drew (RB.put r_4 _ _ _)) hg5 (by omega); have n_5 : NB w5 (w1.heap.size) (.int .i64 14) (.string ⟨#[]⟩) (.int .i64 0) (.int .i64 (pos c.L s.1)) (.slice none 0 0) := NB.keep (by exact NB.drew (NB.s0 n_4 _)) hg5 (by omega); have dd_5 : NB w5 (w3.heap.size) (.int .i64 k3) (.string ⟨n3.toArray⟩) (.int .i64 m3) (.int .i64 q3) (.slice ad3 l3.length cp3) := NB.keep (by exact NB.drew (NB.far dd_4 (by omega) _ _)) hg5 (by omega); have y_5 : LR w5 (In (b3) (w3.heap.size)) (l3) (.slice ad3 l3.length cp3) := LR.call (by exact LR.drew (LR.put y_4 (by omega) _ _)) hg5 (by omega); have r_lt5 := r_5.lt; have n_lt5 := n_5.lt; have dd_lt5 := dd_5.lt; obtain ⟨_,_,_,_,_,_,_,_,_,_,_⟩ := id r_5; obtain ⟨_,_,_,_,_,_⟩ := id n_5
         obtain ⟨_,_,_,_,_,_⟩ := id dd_5))
    all_goals
      go_wp2; refine node_ret Tryz.results46 rfl (NB.alloc (RB.five ?_) _) rfl ?_
      · exact RB.put r_5 _ _ _
      refine QSt.ok (a := (T.mk 14 [] 0 (pos c.L s.1) [(T.mk k3 n3 m3 q3 l3), (T.mk k5 n5 m5 q5 l5)])) (HR5) ⟨_, rfl, ?_⟩ ?_ ?_ (by omega)
      · refine LR.wide (lo := b3) (hi := w5.heap.size + 1) (ts := [(T.mk k3 n3 m3 q3 l3), (T.mk k5 n5 m5 q5 l5)]) ?_ (by omega) (by first | omega | (simp <;> omega))
        exact (LR.build2 _ (t := (T.mk k3 n3 m3 q3 l3)) (t2 := (T.mk k5 n5 m5 q5 l5)) (sv := .slice ad3 l3.length cp3) (sv2 := .slice ad5 l5.length cp5) (LR.wide (lo := b3) (hi := w3.heap.size) (ts := l3) (by exact LR.p5 (LR.put y_5 (by omega) _ _) (by omega)) (by omega) (by first | omega | (simp <;> omega))) (LR.wide (lo := b5) (hi := w5.heap.size) (ts := l5) (by exact LR.p5 (LR.put lr5 (by omega) _ _) (by omega)) (by omega) (by first | omega | (simp <;> omega))) (by simp) rfl (by omega))
      · exact gb_alloc (gb_p5 (gb_put G5 (by omega) _ _) (by omega)) _
      · exact RS.alloc (RS.p5 (RS.put p5 HL.out (by omega) _ _) HL.out (by omega)) _
end Go.Proofs.YtbphiiaoncakfaaGreatDoor
