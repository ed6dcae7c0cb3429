/- The document's reader: acts of one word. -/
import Derived.Test.YtbphiiaoncakfaaGreatDoorG30
import Derived.Maps.OwnOps
namespace Go.Proofs.YtbphiiaoncakfaaGreatDoor
open Go.RowKit
open Go.Maps Go.WideMaps

theorem zeroInt (w : World) : (zeroValue 3).run Tryz.prog w = .ok (.int .i64 0) w := by kernel_rfl

set_option maxRecDepth 100000 in
set_option maxHeartbeats 2000000 in
theorem rstmt_NEW (c : RC) (w : World) (s : QS) (d : Nat) (E A : Q T) (h : RS c w s d) (hok : s.2 = none) (hE : QOK c d 68 E) (_hA : QOK c d 32 A) (hw : wd c.L s.1 = kNEW) :
    Calls Tryz.prog 46 #[.pointer (some ⟨c.rb, 0, none⟩)] w (QSt c w s d (fun w' t v => TR w' w.heap.size w'.heap.size t v) (builtInQ c.L 20 kNEW (desigQ c.L E) s)) := by
  have HP := hide h; have HL := hide h.low; have hb := h.lt; have hfew := h.good.few; clear h
  have hcIF : (wd c.L s.1 == [73, 70]) = false := by rw [hw]; decide
  have hcWHILE : (wd c.L s.1 == [87, 72, 73, 76, 69]) = false := by rw [hw]; decide
  have hcREPEAT : (wd c.L s.1 == [82, 69, 80, 69, 65, 84]) = false := by rw [hw]; decide
  have hcRETURN : (wd c.L s.1 == [82, 69, 84, 85, 82, 78]) = false := by rw [hw]; decide
  have hcNEW : (wd c.L s.1 == [78, 69, 87]) = true := by rw [hw]; decide
  have hne : wd c.L s.1 ≠ [] := by rw [hw]; decide
  go_enter Tryz.func46, Tryz.ntmps46
  go_wp2_with fail; go_at_call 26; refine (rat_any c _ s d (by exact RS.alloc HP.out _)).mono ?_; rintro e w1 ⟨rfl, hg1⟩; have p1 : RS c w1 s d := RS.grown (by exact RS.alloc HP.out _) hg1; have G1 : w.grownBy w1 (some c.rb) := gb_trans (by exact gb_alloc (gb_refl w (some c.rb)) _) (gb_some hg1 (some c.rb)); have sz1 := hg1.size
  try simp at sz1
  have r_1 : RB w1 (w.heap.size) := RB.kept (RB.new' (by simp)) hg1 (by simp); have r_lt1 := r_1.lt; obtain ⟨_,_,_,_,_,_,_,_,_,_,_⟩ := id r_1; go_wp2_with fail; go_at_call 13; refine (rword_any c _ s d (by exact RS.alloc p1 _)).mono ?_; rintro e w2 ⟨rfl, hg2⟩; have p2 : RS c w2 s d := RS.grown (by exact RS.alloc p1 _) hg2; have G2 : w.grownBy w2 (some c.rb) := gb_trans (by exact gb_alloc G1 _) (gb_some hg2 (some c.rb)); have sz2 := hg2.size
  try simp at sz2
  have r_2 : RB w2 (w.heap.size) := RB.kept (by exact RB.alloc r_1 _) hg2 (by simp); have n_2 : NB w2 (w1.heap.size) (.int .i64 0) (.string ⟨#[]⟩) (.int .i64 0) (.int .i64 (pos c.L s.1)) (.slice none 0 0) := NB.kept (NB.new' (by simp)) hg2 (by simp); have r_lt2 := r_2.lt; have n_lt2 := n_2.lt; obtain ⟨_,_,_,_,_,_,_,_,_,_,_⟩ := id r_2; obtain ⟨_,_,_,_,_,_⟩ := id n_2
  have HRx1 : builtInQ c.L 20 kNEW (desigQ c.L E) s = (((needQ c.L kNEW).bind fun _ => (needQ c.L s_lp).bind fun _ => (desigQ c.L E).bind fun e => (needQ c.L s_rp).bind fun _ => Q.ret (.mk 20 [] 0 (pos c.L s.1) [e])) s) := rfl
  have pc1 := p2.c1; have pz := p2.z; have pl := p2.lt; have pil := p2.il; go_wp2_with fail; obtain ⟨w3, hw3⟩ : ∃ x : World, x = w2.setCell ⟨c.rb, 1, none⟩ (.int .i64 ((s.1 : Int) + 1)) := ⟨_, rfl⟩; rw [← hw3]
  have p3 : RS c w3 (s.1 + 1, none) d := by rw [hw3]; exact RS.next p2 hok hne _ rfl
  have G3 : w.grownBy w3 (some c.rb) := by rw [hw3]; exact gb_set G2 _ _
  have sz3 : w2.heap.size ≤ w3.heap.size := by rw [hw3]; simp [World.setCell]
  have sy3 : w3.heap.size ≤ w2.heap.size := by rw [hw3]; simp [World.setCell]
  have r_3 : RB w3 (w.heap.size) := by rw [hw3]; exact RB.put r_2 _ _ _
  have n_3 : NB w3 (w1.heap.size) (.int .i64 0) (.string ⟨#[]⟩) (.int .i64 0) (.int .i64 (pos c.L s.1)) (.slice none 0 0) := by rw [hw3]; exact NB.far n_2 (by omega) _ _
  clear hw3; have r_lt3 := r_3.lt; have n_lt3 := n_3.lt; obtain ⟨_,_,_,_,_,_,_,_,_,_,_⟩ := id r_3; obtain ⟨_,_,_,_,_,_⟩ := id n_3; have HRx2 : builtInQ c.L 20 kNEW (desigQ c.L E) s = _ := HRx1.trans (Q.bind_eq (needQ_yes hok hw)); go_at_call 27; refine (rneed_any c _ (s.1 + 1, none) d s_lp _ rfl (by decide) p3).mono ?_; rintro e w4 ⟨a4, s4, v4, hr4, rfl, -, hg4, p4, hi4⟩; have HR4 : builtInQ c.L 20 kNEW (desigQ c.L E) s = _ := HRx2.trans (Q.bind_eq hr4); have G4 : w.grownBy w4 (some c.rb) := gb_trans G3 hg4; have sz4 := hg4.size
  try simp at sz4
  have r_4 : RB w4 (w.heap.size) := RB.keep r_3 hg4 (by omega); have n_4 : NB w4 (w1.heap.size) (.int .i64 0) (.string ⟨#[]⟩) (.int .i64 0) (.int .i64 (pos c.L s.1)) (.slice none 0 0) := NB.keep n_3 hg4 (by omega); have r_lt4 := r_4.lt; have n_lt4 := n_4.lt; obtain ⟨_,_,_,_,_,_,_,_,_,_,_⟩ := id r_4; obtain ⟨_,_,_,_,_,_⟩ := id n_4; go_wp2_with fail; go_at_call 70; refine (rdesig_any c _ s4 d E p4 hE).mono ?_; rintro e w5 ⟨⟨k5, n5, m5, q5, l5⟩, s5, v5, hr5, rfl, ⟨sv5, rfl, lr5⟩, hg5, p5, hi5⟩; have HR5 : builtInQ c.L 20 kNEW (desigQ c.L E) s = _ := HR4.trans (Q.bind_eq hr5); simp only [T.kind, T.name, T.num, T.at', T.subs] at lr5 ⊢; obtain ⟨ad5, cp5, rfl⟩ := lr5.form; obtain ⟨b5, hb5, lr5⟩ : ∃ b, b = _ ∧ LR w5 (In b w5.heap.size) l5 (.slice ad5 l5.length cp5) := ⟨_, rfl, lr5⟩
  try simp at hb5
  have G5 : w.grownBy w5 (some c.rb) := gb_trans G4 hg5; have sz5 := hg5.size
  try simp at sz5
  have r_5 : RB w5 (w.heap.size) := RB.keep r_4 hg5 (by omega); have n_5 : NB w5 (w1.heap.size) (.int .i64 0) (.string ⟨#[]⟩) (.int .i64 0) (.int .i64 (pos c.L s.1)) (.slice none 0 0) := NB.keep n_4 hg5 (by omega); have r_lt5 := r_5.lt; have n_lt5 := n_5.lt; obtain ⟨_,_,_,_,_,_,_,_,_,_,_⟩ := id r_5; obtain ⟨_,_,_,_,_,_⟩ := id n_5; go_wp2_with fail; go_at_call 27; refine (rneed_any c _ s5 d s_rp _ rfl (by decide) (by exact RS.alloc (RS.put p5 HL.out (by omega) _ _) _)).mono ?_; rintro e w6 ⟨a6, s6, v6, hr6, rfl, -, hg6, p6, hi6⟩; have HR6 : builtInQ c.L 20 kNEW (desigQ c.L E) s = _ := HR5.trans (Q.bind_eq hr6); have G6 : w.grownBy w6 (some c.rb) := gb_trans (by exact gb_alloc (gb_put G5 (by omega) _ _) _) hg6; have sz6 := hg6.size
  try simp at sz6
  have r_6 : RB w6 (w.heap.size) := RB.keep (by exact RB.alloc (RB.put r_5 _ _ _) _) hg6 (by omega); have n_6 : NB w6 (w1.heap.size) (.int .i64 0) (.string ⟨#[]⟩) (.int .i64 0) (.int .i64 (pos c.L s.1)) (.slice (some ⟨w5.heap.size, 0, none⟩) 1 1) := NB.keep (by exact NB.alloc (NB.s4 n_5 _) _) hg6 (by omega); have y_6 : LR w6 (In (b5) (w5.heap.size)) (l5) (.slice ad5 l5.length cp5) := LR.call (by exact LR.alloc (LR.put lr5 (by omega) _ _) _) hg6 (by omega); have z_6 : LR w6 (In (b5) (w5.heap.size + 1)) ([(T.mk k5 n5 m5 q5 l5)]) (.slice (some ⟨w5.heap.size, 0, none⟩) 1 1) := LR.call (LR.build1 _ (t := (T.mk k5 n5 m5 q5 l5)) (sv := .slice ad5 l5.length cp5) (LR.wide (lo := b5) (hi := w5.heap.size) (ts := l5) (by exact LR.put lr5 (by omega) _ _) (by omega) (by first | omega | (simp <;> omega))) (by simp) rfl (by omega)) hg6 (by omega); have r_lt6 := r_6.lt; have n_lt6 := n_6.lt; obtain ⟨_,_,_,_,_,_,_,_,_,_,_⟩ := id r_6; obtain ⟨_,_,_,_,_,_⟩ := id n_6; have hmm := @run_makeMap Tryz.prog; have m0 := World.ownsMap_made (H := Unit) w6 Tryz.prog 9 (plainElem Tryz.prog 3); obtain ⟨wm0, hm0, o0, gm0⟩ := m0.update law9 Tryz.underlying98 (by unfold maxLen; omega) (keyOf_string_mk (P := Tryz.prog) Tryz.underlying9 (s := ⟨#[78, 69, 87]⟩) (by unfold maxLen; decide)) (plainElem_int (H := Unit) Tryz.underlying3 (a := 20) (by decide)); obtain ⟨wm1, hm1, o1, gm1⟩ := o0.update law9 Tryz.underlying98 (by unfold maxLen; omega) (keyOf_string_mk (P := Tryz.prog) Tryz.underlying9 (s := ⟨#[71, 69, 84]⟩) (by unfold maxLen; decide)) (plainElem_int (H := Unit) Tryz.underlying3 (a := 22) (by decide)); obtain ⟨wm2, hm2, o2, gm2⟩ := o1.update law9 Tryz.underlying98 (by unfold maxLen; omega) (keyOf_string_mk (P := Tryz.prog) Tryz.underlying9 (s := ⟨#[79, 85, 84]⟩) (by unfold maxLen; decide)) (plainElem_int (H := Unit) Tryz.underlying3 (a := 21) (by decide)); obtain ⟨wm3, hm3, o3, gm3⟩ := o2.update law9 Tryz.underlying98 (by unfold maxLen; omega) (keyOf_string_mk (P := Tryz.prog) Tryz.underlying9 (s := ⟨#[65, 83, 83, 69, 82, 84]⟩) (by unfold maxLen; decide)) (plainElem_int (H := Unit) Tryz.underlying3 (a := 23) (by decide)); obtain ⟨cc, hlk, hat, -⟩ := o3.lookup_int law9 Tryz.underlying98 Tryz.underlying3 (zeroInt _) (keyOf_string_mk (P := Tryz.prog) Tryz.underlying9 (s := ⟨kNEW.toArray⟩) (by unfold maxLen; decide))
  obtain rfl : cc = 20 := by
    have h9 : DataW.lit (.int .i64 cc) = (.lit (.int .i64 20) : DataW Unit) := hat.symm.trans (by kernel_rfl); cases h9
    rfl
  have gM : (w6.alloc (.map #[] 0)).grownBy wm3 (some w6.heap.size) := gb_trans (gb_trans (gb_trans gm0 gm1) gm2) gm3; clear m0 o0 o1 o2 o3 hat gm0 gm1 gm2 gm3; obtain ⟨w7, hw7⟩ : ∃ x, x = wm3 := ⟨_, rfl⟩; subst hw7; have sz7 := gM.size
  simp at sz7
  have r_7 : RB w7 (w.heap.size) := RB.kept (RB.alloc r_6 _) gM (by simp; omega); have n_7 : NB w7 (w1.heap.size) (.int .i64 0) (.string ⟨#[]⟩) (.int .i64 0) (.int .i64 (pos c.L s.1)) (.slice (some ⟨w5.heap.size, 0, none⟩) 1 1) := NB.kept (NB.alloc n_6 _) gM (by simp; omega); have y_7 : LR w7 (In (b5) (w5.heap.size)) (l5) (.slice ad5 l5.length cp5) := LR.call (LR.alloc y_6 _) gM (by omega); have z_7 : LR w7 (In (b5) (w5.heap.size + 1)) ([(T.mk k5 n5 m5 q5 l5)]) (.slice (some ⟨w5.heap.size, 0, none⟩) 1 1) := LR.call (LR.alloc z_6 _) gM (by omega); have p7 : RS c w7 s6 d := RS.own (RS.alloc p6 _) HL.out gM (fun b hb => by cases hb; omega); have G7 : w.grownBy w7 (some c.rb) := gb_own (gb_alloc G6 _) gM (fun b hb => by cases hb; omega); have r_lt7 := r_7.lt; have n_lt7 := n_7.lt; obtain ⟨_,_,_,_,_,_,_,_,_,_,_⟩ := id r_7; obtain ⟨_,_,_,_,_,_⟩ := id n_7; go_wp2; refine node_ret Tryz.results46 rfl (RB.five ?_) rfl ?_
  · exact RB.put r_7 _ _ _
  refine QSt.ok (a := (T.mk 20 [] 0 (pos c.L s.1) [(T.mk k5 n5 m5 q5 l5)])) (HR6) ⟨_, rfl, ?_⟩ ?_ ?_ (by omega)
  · refine LR.wide (lo := b5) (hi := w5.heap.size + 1) (ts := [(T.mk k5 n5 m5 q5 l5)]) ?_ (by omega) (by first | omega | (simp <;> omega))
    exact LR.p5 (LR.put z_7 (by omega) _ _) (by omega)
  · exact gb_p5 (gb_put G7 (by omega) _ _) (by omega)
  · exact RS.p5 (RS.put p7 HL.out (by omega) _ _) HL.out (by omega)

set_option maxRecDepth 100000 in
set_option maxHeartbeats 2000000 in
theorem rstmt_GET (c : RC) (w : World) (s : QS) (d : Nat) (E A : Q T) (h : RS c w s d) (hok : s.2 = none) (hE : QOK c d 68 E) (_hA : QOK c d 32 A) (hw : wd c.L s.1 = kGET) :
    Calls Tryz.prog 46 #[.pointer (some ⟨c.rb, 0, none⟩)] w (QSt c w s d (fun w' t v => TR w' w.heap.size w'.heap.size t v) (builtInQ c.L 22 kGET (desigQ c.L E) s)) := by
  have HP := hide h; have HL := hide h.low; have hb := h.lt; have hfew := h.good.few; clear h
  have hcIF : (wd c.L s.1 == [73, 70]) = false := by rw [hw]; decide
  have hcWHILE : (wd c.L s.1 == [87, 72, 73, 76, 69]) = false := by rw [hw]; decide
  have hcREPEAT : (wd c.L s.1 == [82, 69, 80, 69, 65, 84]) = false := by rw [hw]; decide
  have hcRETURN : (wd c.L s.1 == [82, 69, 84, 85, 82, 78]) = false := by rw [hw]; decide
  have hcNEW : (wd c.L s.1 == [78, 69, 87]) = false := by rw [hw]; decide
  have hcGET : (wd c.L s.1 == [71, 69, 84]) = true := by rw [hw]; decide
  have hne : wd c.L s.1 ≠ [] := by rw [hw]; decide
  go_enter Tryz.func46, Tryz.ntmps46
  go_wp2_with fail; go_at_call 26; refine (rat_any c _ s d (by exact RS.alloc HP.out _)).mono ?_; rintro e w1 ⟨rfl, hg1⟩; have p1 : RS c w1 s d := RS.grown (by exact RS.alloc HP.out _) hg1; have G1 : w.grownBy w1 (some c.rb) := gb_trans (by exact gb_alloc (gb_refl w (some c.rb)) _) (gb_some hg1 (some c.rb)); have sz1 := hg1.size
  try simp at sz1
  have r_1 : RB w1 (w.heap.size) := RB.kept (RB.new' (by simp)) hg1 (by simp); have r_lt1 := r_1.lt; obtain ⟨_,_,_,_,_,_,_,_,_,_,_⟩ := id r_1; go_wp2_with fail; go_at_call 13; refine (rword_any c _ s d (by exact RS.alloc p1 _)).mono ?_; rintro e w2 ⟨rfl, hg2⟩; have p2 : RS c w2 s d := RS.grown (by exact RS.alloc p1 _) hg2; have G2 : w.grownBy w2 (some c.rb) := gb_trans (by exact gb_alloc G1 _) (gb_some hg2 (some c.rb)); have sz2 := hg2.size
  try simp at sz2
  have r_2 : RB w2 (w.heap.size) := RB.kept (by exact RB.alloc r_1 _) hg2 (by simp); have n_2 : NB w2 (w1.heap.size) (.int .i64 0) (.string ⟨#[]⟩) (.int .i64 0) (.int .i64 (pos c.L s.1)) (.slice none 0 0) := NB.kept (NB.new' (by simp)) hg2 (by simp); have r_lt2 := r_2.lt; have n_lt2 := n_2.lt; obtain ⟨_,_,_,_,_,_,_,_,_,_,_⟩ := id r_2; obtain ⟨_,_,_,_,_,_⟩ := id n_2
  have HRx1 : builtInQ c.L 22 kGET (desigQ c.L E) s = (((needQ c.L kGET).bind fun _ => (needQ c.L s_lp).bind fun _ => (desigQ c.L E).bind fun e => (needQ c.L s_rp).bind fun _ => Q.ret (.mk 22 [] 0 (pos c.L s.1) [e])) s) := rfl
  have pc1 := p2.c1; have pz := p2.z; have pl := p2.lt; have pil := p2.il; go_wp2_with fail; obtain ⟨w3, hw3⟩ : ∃ x : World, x = w2.setCell ⟨c.rb, 1, none⟩ (.int .i64 ((s.1 : Int) + 1)) := ⟨_, rfl⟩; rw [← hw3]
  have p3 : RS c w3 (s.1 + 1, none) d := by rw [hw3]; exact RS.next p2 hok hne _ rfl
  have G3 : w.grownBy w3 (some c.rb) := by rw [hw3]; exact gb_set G2 _ _
  have sz3 : w2.heap.size ≤ w3.heap.size := by rw [hw3]; simp [World.setCell]
  have sy3 : w3.heap.size ≤ w2.heap.size := by rw [hw3]; simp [World.setCell]
  have r_3 : RB w3 (w.heap.size) := by rw [hw3]; exact RB.put r_2 _ _ _
  have n_3 : NB w3 (w1.heap.size) (.int .i64 0) (.string ⟨#[]⟩) (.int .i64 0) (.int .i64 (pos c.L s.1)) (.slice none 0 0) := by rw [hw3]; exact NB.far n_2 (by omega) _ _
  clear hw3; have r_lt3 := r_3.lt; have n_lt3 := n_3.lt; obtain ⟨_,_,_,_,_,_,_,_,_,_,_⟩ := id r_3; obtain ⟨_,_,_,_,_,_⟩ := id n_3; have HRx2 : builtInQ c.L 22 kGET (desigQ c.L E) s = _ := HRx1.trans (Q.bind_eq (needQ_yes hok hw)); go_at_call 27; refine (rneed_any c _ (s.1 + 1, none) d s_lp _ rfl (by decide) p3).mono ?_; rintro e w4 ⟨a4, s4, v4, hr4, rfl, -, hg4, p4, hi4⟩; have HR4 : builtInQ c.L 22 kGET (desigQ c.L E) s = _ := HRx2.trans (Q.bind_eq hr4); have G4 : w.grownBy w4 (some c.rb) := gb_trans G3 hg4; have sz4 := hg4.size
  try simp at sz4
  have r_4 : RB w4 (w.heap.size) := RB.keep r_3 hg4 (by omega); have n_4 : NB w4 (w1.heap.size) (.int .i64 0) (.string ⟨#[]⟩) (.int .i64 0) (.int .i64 (pos c.L s.1)) (.slice none 0 0) := NB.keep n_3 hg4 (by omega); have r_lt4 := r_4.lt; have n_lt4 := n_4.lt; obtain ⟨_,_,_,_,_,_,_,_,_,_,_⟩ := id r_4; obtain ⟨_,_,_,_,_,_⟩ := id n_4; go_wp2_with fail; go_at_call 70; refine (rdesig_any c _ s4 d E p4 hE).mono ?_; rintro e w5 ⟨⟨k5, n5, m5, q5, l5⟩, s5, v5, hr5, rfl, ⟨sv5, rfl, lr5⟩, hg5, p5, hi5⟩; have HR5 : builtInQ c.L 22 kGET (desigQ c.L E) s = _ := HR4.trans (Q.bind_eq hr5); simp only [T.kind, T.name, T.num, T.at', T.subs] at lr5 ⊢; obtain ⟨ad5, cp5, rfl⟩ := lr5.form; obtain ⟨b5, hb5, lr5⟩ : ∃ b, b = _ ∧ LR w5 (In b w5.heap.size) l5 (.slice ad5 l5.length cp5) := ⟨_, rfl, lr5⟩
  try simp at hb5
  have G5 : w.grownBy w5 (some c.rb) := gb_trans G4 hg5; have sz5 := hg5.size
  try simp at sz5
  have r_5 : RB w5 (w.heap.size) := RB.keep r_4 hg5 (by omega); have n_5 : NB w5 (w1.heap.size) (.int .i64 0) (.string ⟨#[]⟩) (.int .i64 0) (.int .i64 (pos c.L s.1)) (.slice none 0 0) := NB.keep n_4 hg5 (by omega); have r_lt5 := r_5.lt; have n_lt5 := n_5.lt; obtain ⟨_,_,_,_,_,_,_,_,_,_,_⟩ := id r_5; obtain ⟨_,_,_,_,_,_⟩ := id n_5; go_wp2_with fail; go_at_call 27; refine (rneed_any c _ s5 d s_rp _ rfl (by decide) (by exact RS.alloc (RS.put p5 HL.out (by omega) _ _) _)).mono ?_; rintro e w6 ⟨a6, s6, v6, hr6, rfl, -, hg6, p6, hi6⟩; have HR6 : builtInQ c.L 22 kGET (desigQ c.L E) s = _ := HR5.trans (Q.bind_eq hr6); have G6 : w.grownBy w6 (some c.rb) := gb_trans (by exact gb_alloc (gb_put G5 (by omega) _ _) _) hg6; have sz6 := hg6.size
  try simp at sz6
  have r_6 : RB w6 (w.heap.size) := RB.keep (by exact RB.alloc (RB.put r_5 _ _ _) _) hg6 (by omega); have n_6 : NB w6 (w1.heap.size) (.int .i64 0) (.string ⟨#[]⟩) (.int .i64 0) (.int .i64 (pos c.L s.1)) (.slice (some ⟨w5.heap.size, 0, none⟩) 1 1) := NB.keep (by exact NB.alloc (NB.s4 n_5 _) _) hg6 (by omega); have y_6 : LR w6 (In (b5) (w5.heap.size)) (l5) (.slice ad5 l5.length cp5) := LR.call (by exact LR.alloc (LR.put lr5 (by omega) _ _) _) hg6 (by omega); have z_6 : LR w6 (In (b5) (w5.heap.size + 1)) ([(T.mk k5 n5 m5 q5 l5)]) (.slice (some ⟨w5.heap.size, 0, none⟩) 1 1) := LR.call (LR.build1 _ (t := (T.mk k5 n5 m5 q5 l5)) (sv := .slice ad5 l5.length cp5) (LR.wide (lo := b5) (hi := w5.heap.size) (ts := l5) (by exact LR.put lr5 (by omega) _ _) (by omega) (by first | omega | (simp <;> omega))) (by simp) rfl (by omega)) hg6 (by omega); have r_lt6 := r_6.lt; have n_lt6 := n_6.lt; obtain ⟨_,_,_,_,_,_,_,_,_,_,_⟩ := id r_6; obtain ⟨_,_,_,_,_,_⟩ := id n_6; have hmm := @run_makeMap Tryz.prog; have m0 := World.ownsMap_made (H := Unit) w6 Tryz.prog 9 (plainElem Tryz.prog 3); obtain ⟨wm0, hm0, o0, gm0⟩ := m0.update law9 Tryz.underlying98 (by unfold maxLen; omega) (keyOf_string_mk (P := Tryz.prog) Tryz.underlying9 (s := ⟨#[78, 69, 87]⟩) (by unfold maxLen; decide)) (plainElem_int (H := Unit) Tryz.underlying3 (a := 20) (by decide)); obtain ⟨wm1, hm1, o1, gm1⟩ := o0.update law9 Tryz.underlying98 (by unfold maxLen; omega) (keyOf_string_mk (P := Tryz.prog) Tryz.underlying9 (s := ⟨#[71, 69, 84]⟩) (by unfold maxLen; decide)) (plainElem_int (H := Unit) Tryz.underlying3 (a := 22) (by decide)); obtain ⟨wm2, hm2, o2, gm2⟩ := o1.update law9 Tryz.underlying98 (by unfold maxLen; omega) (keyOf_string_mk (P := Tryz.prog) Tryz.underlying9 (s := ⟨#[79, 85, 84]⟩) (by unfold maxLen; decide)) (plainElem_int (H := Unit) Tryz.underlying3 (a := 21) (by decide)); obtain ⟨wm3, hm3, o3, gm3⟩ := o2.update law9 Tryz.underlying98 (by unfold maxLen; omega) (keyOf_string_mk (P := Tryz.prog) Tryz.underlying9 (s := ⟨#[65, 83, 83, 69, 82, 84]⟩) (by unfold maxLen; decide)) (plainElem_int (H := Unit) Tryz.underlying3 (a := 23) (by decide)); obtain ⟨cc, hlk, hat, -⟩ := o3.lookup_int law9 Tryz.underlying98 Tryz.underlying3 (zeroInt _) (keyOf_string_mk (P := Tryz.prog) Tryz.underlying9 (s := ⟨kGET.toArray⟩) (by unfold maxLen; decide))
  obtain rfl : cc = 22 := by
    have h9 : DataW.lit (.int .i64 cc) = (.lit (.int .i64 22) : DataW Unit) := hat.symm.trans (by kernel_rfl); cases h9
    rfl
  have gM : (w6.alloc (.map #[] 0)).grownBy wm3 (some w6.heap.size) := gb_trans (gb_trans (gb_trans gm0 gm1) gm2) gm3; clear m0 o0 o1 o2 o3 hat gm0 gm1 gm2 gm3; obtain ⟨w7, hw7⟩ : ∃ x, x = wm3 := ⟨_, rfl⟩; subst hw7; have sz7 := gM.size
  simp at sz7
  have r_7 : RB w7 (w.heap.size) := RB.kept (RB.alloc r_6 _) gM (by simp; omega); have n_7 : NB w7 (w1.heap.size) (.int .i64 0) (.string ⟨#[]⟩) (.int .i64 0) (.int .i64 (pos c.L s.1)) (.slice (some ⟨w5.heap.size, 0, none⟩) 1 1) := NB.kept (NB.alloc n_6 _) gM (by simp; omega); have y_7 : LR w7 (In (b5) (w5.heap.size)) (l5) (.slice ad5 l5.length cp5) := LR.call (LR.alloc y_6 _) gM (by omega); have z_7 : LR w7 (In (b5) (w5.heap.size + 1)) ([(T.mk k5 n5 m5 q5 l5)]) (.slice (some ⟨w5.heap.size, 0, none⟩) 1 1) := LR.call (LR.alloc z_6 _) gM (by omega); have p7 : RS c w7 s6 d := RS.own (RS.alloc p6 _) HL.out gM (fun b hb => by cases hb; omega); have G7 : w.grownBy w7 (some c.rb) := gb_own (gb_alloc G6 _) gM (fun b hb => by cases hb; omega); have r_lt7 := r_7.lt; have n_lt7 := n_7.lt; obtain ⟨_,_,_,_,_,_,_,_,_,_,_⟩ := id r_7; obtain ⟨_,_,_,_,_,_⟩ := id n_7; go_wp2; refine node_ret Tryz.results46 rfl (RB.five ?_) rfl ?_
  · exact RB.put r_7 _ _ _
  refine QSt.ok (a := (T.mk 22 [] 0 (pos c.L s.1) [(T.mk k5 n5 m5 q5 l5)])) (HR6) ⟨_, rfl, ?_⟩ ?_ ?_ (by omega)
  · refine LR.wide (lo := b5) (hi := w5.heap.size + 1) (ts := [(T.mk k5 n5 m5 q5 l5)]) ?_ (by omega) (by first | omega | (simp <;> omega))
    exact LR.p5 (LR.put z_7 (by omega) _ _) (by omega)
  · exact gb_p5 (gb_put G7 (by omega) _ _) (by omega)
  · exact RS.p5 (RS.put p7 HL.out (by omega) _ _) HL.out (by omega)

set_option maxRecDepth 100000 in
set_option maxHeartbeats 2000000 in
theorem rstmt_OUT (c : RC) (w : World) (s : QS) (d : Nat) (E A : Q T) (h : RS c w s d) (hok : s.2 = none) (hE : QOK c d 68 E) (_hA : QOK c d 32 A) (hw : wd c.L s.1 = kOUT) :
    Calls Tryz.prog 46 #[.pointer (some ⟨c.rb, 0, none⟩)] w (QSt c w s d (fun w' t v => TR w' w.heap.size w'.heap.size t v) (builtInQ c.L 21 kOUT (E) s)) := by
  have HP := hide h; have HL := hide h.low; have hb := h.lt; have hfew := h.good.few; clear h
  have hcIF : (wd c.L s.1 == [73, 70]) = false := by rw [hw]; decide
  have hcWHILE : (wd c.L s.1 == [87, 72, 73, 76, 69]) = false := by rw [hw]; decide
  have hcREPEAT : (wd c.L s.1 == [82, 69, 80, 69, 65, 84]) = false := by rw [hw]; decide
  have hcRETURN : (wd c.L s.1 == [82, 69, 84, 85, 82, 78]) = false := by rw [hw]; decide
  have hcNEW : (wd c.L s.1 == [78, 69, 87]) = false := by rw [hw]; decide
  have hcGET : (wd c.L s.1 == [71, 69, 84]) = false := by rw [hw]; decide
  have hcOUT : (wd c.L s.1 == [79, 85, 84]) = true := by rw [hw]; decide
  have hne : wd c.L s.1 ≠ [] := by rw [hw]; decide
  go_enter Tryz.func46, Tryz.ntmps46
  go_wp2_with fail; go_at_call 26; refine (rat_any c _ s d (by exact RS.alloc HP.out _)).mono ?_; rintro e w1 ⟨rfl, hg1⟩; have p1 : RS c w1 s d := RS.grown (by exact RS.alloc HP.out _) hg1; have G1 : w.grownBy w1 (some c.rb) := gb_trans (by exact gb_alloc (gb_refl w (some c.rb)) _) (gb_some hg1 (some c.rb)); have sz1 := hg1.size
  try simp at sz1
  have r_1 : RB w1 (w.heap.size) := RB.kept (RB.new' (by simp)) hg1 (by simp); have r_lt1 := r_1.lt; obtain ⟨_,_,_,_,_,_,_,_,_,_,_⟩ := id r_1; go_wp2_with fail; go_at_call 13; refine (rword_any c _ s d (by exact RS.alloc p1 _)).mono ?_; rintro e w2 ⟨rfl, hg2⟩; have p2 : RS c w2 s d := RS.grown (by exact RS.alloc p1 _) hg2; have G2 : w.grownBy w2 (some c.rb) := gb_trans (by exact gb_alloc G1 _) (gb_some hg2 (some c.rb)); have sz2 := hg2.size
  try simp at sz2
  have r_2 : RB w2 (w.heap.size) := RB.kept (by exact RB.alloc r_1 _) hg2 (by simp); have n_2 : NB w2 (w1.heap.size) (.int .i64 0) (.string ⟨#[]⟩) (.int .i64 0) (.int .i64 (pos c.L s.1)) (.slice none 0 0) := NB.kept (NB.new' (by simp)) hg2 (by simp); have r_lt2 := r_2.lt; have n_lt2 := n_2.lt; obtain ⟨_,_,_,_,_,_,_,_,_,_,_⟩ := id r_2; obtain ⟨_,_,_,_,_,_⟩ := id n_2
  have HRx1 : builtInQ c.L 21 kOUT (E) s = (((needQ c.L kOUT).bind fun _ => (needQ c.L s_lp).bind fun _ => (E).bind fun e => (needQ c.L s_rp).bind fun _ => Q.ret (.mk 21 [] 0 (pos c.L s.1) [e])) s) := rfl
  have pc1 := p2.c1; have pz := p2.z; have pl := p2.lt; have pil := p2.il; go_wp2_with fail; obtain ⟨w3, hw3⟩ : ∃ x : World, x = w2.setCell ⟨c.rb, 1, none⟩ (.int .i64 ((s.1 : Int) + 1)) := ⟨_, rfl⟩; rw [← hw3]
  have p3 : RS c w3 (s.1 + 1, none) d := by rw [hw3]; exact RS.next p2 hok hne _ rfl
  have G3 : w.grownBy w3 (some c.rb) := by rw [hw3]; exact gb_set G2 _ _
  have sz3 : w2.heap.size ≤ w3.heap.size := by rw [hw3]; simp [World.setCell]
  have sy3 : w3.heap.size ≤ w2.heap.size := by rw [hw3]; simp [World.setCell]
  have r_3 : RB w3 (w.heap.size) := by rw [hw3]; exact RB.put r_2 _ _ _
  have n_3 : NB w3 (w1.heap.size) (.int .i64 0) (.string ⟨#[]⟩) (.int .i64 0) (.int .i64 (pos c.L s.1)) (.slice none 0 0) := by rw [hw3]; exact NB.far n_2 (by omega) _ _
  clear hw3; have r_lt3 := r_3.lt; have n_lt3 := n_3.lt; obtain ⟨_,_,_,_,_,_,_,_,_,_,_⟩ := id r_3; obtain ⟨_,_,_,_,_,_⟩ := id n_3; have HRx2 : builtInQ c.L 21 kOUT (E) s = _ := HRx1.trans (Q.bind_eq (needQ_yes hok hw)); go_at_call 27; refine (rneed_any c _ (s.1 + 1, none) d s_lp _ rfl (by decide) p3).mono ?_; rintro e w4 ⟨a4, s4, v4, hr4, rfl, -, hg4, p4, hi4⟩; have HR4 : builtInQ c.L 21 kOUT (E) s = _ := HRx2.trans (Q.bind_eq hr4); have G4 : w.grownBy w4 (some c.rb) := gb_trans G3 hg4; have sz4 := hg4.size
  try simp at sz4
  have r_4 : RB w4 (w.heap.size) := RB.keep r_3 hg4 (by omega); have n_4 : NB w4 (w1.heap.size) (.int .i64 0) (.string ⟨#[]⟩) (.int .i64 0) (.int .i64 (pos c.L s.1)) (.slice none 0 0) := NB.keep n_3 hg4 (by omega); have r_lt4 := r_4.lt; have n_lt4 := n_4.lt; obtain ⟨_,_,_,_,_,_,_,_,_,_,_⟩ := id r_4; obtain ⟨_,_,_,_,_,_⟩ := id n_4; go_wp2_with fail; go_at_call 68; refine (hE _ s4 p4).mono ?_; rintro e w5 ⟨⟨k5, n5, m5, q5, l5⟩, s5, v5, hr5, rfl, ⟨sv5, rfl, lr5⟩, hg5, p5, hi5⟩; have HR5 : builtInQ c.L 21 kOUT (E) s = _ := HR4.trans (Q.bind_eq hr5); simp only [T.kind, T.name, T.num, T.at', T.subs] at lr5 ⊢; obtain ⟨ad5, cp5, rfl⟩ := lr5.form; obtain ⟨b5, hb5, lr5⟩ : ∃ b, b = _ ∧ LR w5 (In b w5.heap.size) l5 (.slice ad5 l5.length cp5) := ⟨_, rfl, lr5⟩
  try simp at hb5
  have G5 : w.grownBy w5 (some c.rb) := gb_trans G4 hg5; have sz5 := hg5.size
  try simp at sz5
  have r_5 : RB w5 (w.heap.size) := RB.keep r_4 hg5 (by omega); have n_5 : NB w5 (w1.heap.size) (.int .i64 0) (.string ⟨#[]⟩) (.int .i64 0) (.int .i64 (pos c.L s.1)) (.slice none 0 0) := NB.keep n_4 hg5 (by omega); have r_lt5 := r_5.lt; have n_lt5 := n_5.lt; obtain ⟨_,_,_,_,_,_,_,_,_,_,_⟩ := id r_5; obtain ⟨_,_,_,_,_,_⟩ := id n_5; go_wp2_with fail; go_at_call 27; refine (rneed_any c _ s5 d s_rp _ rfl (by decide) (by exact RS.alloc (RS.put p5 HL.out (by omega) _ _) _)).mono ?_; rintro e w6 ⟨a6, s6, v6, hr6, rfl, -, hg6, p6, hi6⟩; have HR6 : builtInQ c.L 21 kOUT (E) s = _ := HR5.trans (Q.bind_eq hr6); have G6 : w.grownBy w6 (some c.rb) := gb_trans (by exact gb_alloc (gb_put G5 (by omega) _ _) _) hg6; have sz6 := hg6.size
  try simp at sz6
  have r_6 : RB w6 (w.heap.size) := RB.keep (by exact RB.alloc (RB.put r_5 _ _ _) _) hg6 (by omega); have n_6 : NB w6 (w1.heap.size) (.int .i64 0) (.string ⟨#[]⟩) (.int .i64 0) (.int .i64 (pos c.L s.1)) (.slice (some ⟨w5.heap.size, 0, none⟩) 1 1) := NB.keep (by exact NB.alloc (NB.s4 n_5 _) _) hg6 (by omega); have y_6 : LR w6 (In (b5) (w5.heap.size)) (l5) (.slice ad5 l5.length cp5) := LR.call (by exact LR.alloc (LR.put lr5 (by omega) _ _) _) hg6 (by omega); have z_6 : LR w6 (In (b5) (w5.heap.size + 1)) ([(T.mk k5 n5 m5 q5 l5)]) (.slice (some ⟨w5.heap.size, 0, none⟩) 1 1) := LR.call (LR.build1 _ (t := (T.mk k5 n5 m5 q5 l5)) (sv := .slice ad5 l5.length cp5) (LR.wide (lo := b5) (hi := w5.heap.size) (ts := l5) (by exact LR.put lr5 (by omega) _ _) (by omega) (by first | omega | (simp <;> omega))) (by simp) rfl (by omega)) hg6 (by omega); have r_lt6 := r_6.lt; have n_lt6 := n_6.lt; obtain ⟨_,_,_,_,_,_,_,_,_,_,_⟩ := id r_6; obtain ⟨_,_,_,_,_,_⟩ := id n_6; have hmm := @run_makeMap Tryz.prog; have m0 := World.ownsMap_made (H := Unit) w6 Tryz.prog 9 (plainElem Tryz.prog 3); obtain ⟨wm0, hm0, o0, gm0⟩ := m0.update law9 Tryz.underlying98 (by unfold maxLen; omega) (keyOf_string_mk (P := Tryz.prog) Tryz.underlying9 (s := ⟨#[78, 69, 87]⟩) (by unfold maxLen; decide)) (plainElem_int (H := Unit) Tryz.underlying3 (a := 20) (by decide)); obtain ⟨wm1, hm1, o1, gm1⟩ := o0.update law9 Tryz.underlying98 (by unfold maxLen; omega) (keyOf_string_mk (P := Tryz.prog) Tryz.underlying9 (s := ⟨#[71, 69, 84]⟩) (by unfold maxLen; decide)) (plainElem_int (H := Unit) Tryz.underlying3 (a := 22) (by decide)); obtain ⟨wm2, hm2, o2, gm2⟩ := o1.update law9 Tryz.underlying98 (by unfold maxLen; omega) (keyOf_string_mk (P := Tryz.prog) Tryz.underlying9 (s := ⟨#[79, 85, 84]⟩) (by unfold maxLen; decide)) (plainElem_int (H := Unit) Tryz.underlying3 (a := 21) (by decide)); obtain ⟨wm3, hm3, o3, gm3⟩ := o2.update law9 Tryz.underlying98 (by unfold maxLen; omega) (keyOf_string_mk (P := Tryz.prog) Tryz.underlying9 (s := ⟨#[65, 83, 83, 69, 82, 84]⟩) (by unfold maxLen; decide)) (plainElem_int (H := Unit) Tryz.underlying3 (a := 23) (by decide)); obtain ⟨cc, hlk, hat, -⟩ := o3.lookup_int law9 Tryz.underlying98 Tryz.underlying3 (zeroInt _) (keyOf_string_mk (P := Tryz.prog) Tryz.underlying9 (s := ⟨kOUT.toArray⟩) (by unfold maxLen; decide))
  obtain rfl : cc = 21 := by
    have h9 : DataW.lit (.int .i64 cc) = (.lit (.int .i64 21) : DataW Unit) := hat.symm.trans (by kernel_rfl); cases h9
    rfl
  have gM : (w6.alloc (.map #[] 0)).grownBy wm3 (some w6.heap.size) := gb_trans (gb_trans (gb_trans gm0 gm1) gm2) gm3; clear m0 o0 o1 o2 o3 hat gm0 gm1 gm2 gm3; obtain ⟨w7, hw7⟩ : ∃ x, x = wm3 := ⟨_, rfl⟩; subst hw7; have sz7 := gM.size
  simp at sz7
  have r_7 : RB w7 (w.heap.size) := RB.kept (RB.alloc r_6 _) gM (by simp; omega); have n_7 : NB w7 (w1.heap.size) (.int .i64 0) (.string ⟨#[]⟩) (.int .i64 0) (.int .i64 (pos c.L s.1)) (.slice (some ⟨w5.heap.size, 0, none⟩) 1 1) := NB.kept (NB.alloc n_6 _) gM (by simp; omega); have y_7 : LR w7 (In (b5) (w5.heap.size)) (l5) (.slice ad5 l5.length cp5) := LR.call (LR.alloc y_6 _) gM (by omega); have z_7 : LR w7 (In (b5) (w5.heap.size + 1)) ([(T.mk k5 n5 m5 q5 l5)]) (.slice (some ⟨w5.heap.size, 0, none⟩) 1 1) := LR.call (LR.alloc z_6 _) gM (by omega); have p7 : RS c w7 s6 d := RS.own (RS.alloc p6 _) HL.out gM (fun b hb => by cases hb; omega); have G7 : w.grownBy w7 (some c.rb) := gb_own (gb_alloc G6 _) gM (fun b hb => by cases hb; omega); have r_lt7 := r_7.lt; have n_lt7 := n_7.lt; obtain ⟨_,_,_,_,_,_,_,_,_,_,_⟩ := id r_7; obtain ⟨_,_,_,_,_,_⟩ := id n_7; go_wp2; refine node_ret Tryz.results46 rfl (RB.five ?_) rfl ?_
  · exact RB.put r_7 _ _ _
  refine QSt.ok (a := (T.mk 21 [] 0 (pos c.L s.1) [(T.mk k5 n5 m5 q5 l5)])) (HR6) ⟨_, rfl, ?_⟩ ?_ ?_ (by omega)
  · refine LR.wide (lo := b5) (hi := w5.heap.size + 1) (ts := [(T.mk k5 n5 m5 q5 l5)]) ?_ (by omega) (by first | omega | (simp <;> omega))
    exact LR.p5 (LR.put z_7 (by omega) _ _) (by omega)
  · exact gb_p5 (gb_put G7 (by omega) _ _) (by omega)
  · exact RS.p5 (RS.put p7 HL.out (by omega) _ _) HL.out (by omega)

set_option maxRecDepth 100000 in
set_option maxHeartbeats 2000000 in
theorem rstmt_ASSERT (c : RC) (w : World) (s : QS) (d : Nat) (E A : Q T) (h : RS c w s d) (hok : s.2 = none) (hE : QOK c d 68 E) (_hA : QOK c d 32 A) (hw : wd c.L s.1 = kASSERT) :
    Calls Tryz.prog 46 #[.pointer (some ⟨c.rb, 0, none⟩)] w (QSt c w s d (fun w' t v => TR w' w.heap.size w'.heap.size t v) (builtInQ c.L 23 kASSERT (E) s)) := by
  have HP := hide h; have HL := hide h.low; have hb := h.lt; have hfew := h.good.few; clear h
  have hcIF : (wd c.L s.1 == [73, 70]) = false := by rw [hw]; decide
  have hcWHILE : (wd c.L s.1 == [87, 72, 73, 76, 69]) = false := by rw [hw]; decide
  have hcREPEAT : (wd c.L s.1 == [82, 69, 80, 69, 65, 84]) = false := by rw [hw]; decide
  have hcRETURN : (wd c.L s.1 == [82, 69, 84, 85, 82, 78]) = false := by rw [hw]; decide
  have hcNEW : (wd c.L s.1 == [78, 69, 87]) = false := by rw [hw]; decide
  have hcGET : (wd c.L s.1 == [71, 69, 84]) = false := by rw [hw]; decide
  have hcOUT : (wd c.L s.1 == [79, 85, 84]) = false := by rw [hw]; decide
  have hcASSERT : (wd c.L s.1 == [65, 83, 83, 69, 82, 84]) = true := by rw [hw]; decide
  have hne : wd c.L s.1 ≠ [] := by rw [hw]; decide
  go_enter Tryz.func46, Tryz.ntmps46
  go_wp2_with fail; go_at_call 26; refine (rat_any c _ s d (by exact RS.alloc HP.out _)).mono ?_; rintro e w1 ⟨rfl, hg1⟩; have p1 : RS c w1 s d := RS.grown (by exact RS.alloc HP.out _) hg1; have G1 : w.grownBy w1 (some c.rb) := gb_trans (by exact gb_alloc (gb_refl w (some c.rb)) _) (gb_some hg1 (some c.rb)); have sz1 := hg1.size
  try simp at sz1
  have r_1 : RB w1 (w.heap.size) := RB.kept (RB.new' (by simp)) hg1 (by simp); have r_lt1 := r_1.lt; obtain ⟨_,_,_,_,_,_,_,_,_,_,_⟩ := id r_1; go_wp2_with fail; go_at_call 13; refine (rword_any c _ s d (by exact RS.alloc p1 _)).mono ?_; rintro e w2 ⟨rfl, hg2⟩; have p2 : RS c w2 s d := RS.grown (by exact RS.alloc p1 _) hg2; have G2 : w.grownBy w2 (some c.rb) := gb_trans (by exact gb_alloc G1 _) (gb_some hg2 (some c.rb)); have sz2 := hg2.size
  try simp at sz2
  have r_2 : RB w2 (w.heap.size) := RB.kept (by exact RB.alloc r_1 _) hg2 (by simp); have n_2 : NB w2 (w1.heap.size) (.int .i64 0) (.string ⟨#[]⟩) (.int .i64 0) (.int .i64 (pos c.L s.1)) (.slice none 0 0) := NB.kept (NB.new' (by simp)) hg2 (by simp); have r_lt2 := r_2.lt; have n_lt2 := n_2.lt; obtain ⟨_,_,_,_,_,_,_,_,_,_,_⟩ := id r_2; obtain ⟨_,_,_,_,_,_⟩ := id n_2
  have HRx1 : builtInQ c.L 23 kASSERT (E) s = (((needQ c.L kASSERT).bind fun _ => (needQ c.L s_lp).bind fun _ => (E).bind fun e => (needQ c.L s_rp).bind fun _ => Q.ret (.mk 23 [] 0 (pos c.L s.1) [e])) s) := rfl
  have pc1 := p2.c1; have pz := p2.z; have pl := p2.lt; have pil := p2.il; go_wp2_with fail; obtain ⟨w3, hw3⟩ : ∃ x : World, x = w2.setCell ⟨c.rb, 1, none⟩ (.int .i64 ((s.1 : Int) + 1)) := ⟨_, rfl⟩; rw [← hw3]
  have p3 : RS c w3 (s.1 + 1, none) d := by rw [hw3]; exact RS.next p2 hok hne _ rfl
  have G3 : w.grownBy w3 (some c.rb) := by rw [hw3]; exact gb_set G2 _ _
  have sz3 : w2.heap.size ≤ w3.heap.size := by rw [hw3]; simp [World.setCell]
  have sy3 : w3.heap.size ≤ w2.heap.size := by rw [hw3]; simp [World.setCell]
  have r_3 : RB w3 (w.heap.size) := by rw [hw3]; exact RB.put r_2 _ _ _
  have n_3 : NB w3 (w1.heap.size) (.int .i64 0) (.string ⟨#[]⟩) (.int .i64 0) (.int .i64 (pos c.L s.1)) (.slice none 0 0) := by rw [hw3]; exact NB.far n_2 (by omega) _ _
  clear hw3; have r_lt3 := r_3.lt; have n_lt3 := n_3.lt; obtain ⟨_,_,_,_,_,_,_,_,_,_,_⟩ := id r_3; obtain ⟨_,_,_,_,_,_⟩ := id n_3; have HRx2 : builtInQ c.L 23 kASSERT (E) s = _ := HRx1.trans (Q.bind_eq (needQ_yes hok hw)); go_at_call 27; refine (rneed_any c _ (s.1 + 1, none) d s_lp _ rfl (by decide) p3).mono ?_; rintro e w4 ⟨a4, s4, v4, hr4, rfl, -, hg4, p4, hi4⟩; have HR4 : builtInQ c.L 23 kASSERT (E) s = _ := HRx2.trans (Q.bind_eq hr4); have G4 : w.grownBy w4 (some c.rb) := gb_trans G3 hg4; have sz4 := hg4.size
  try simp at sz4
  have r_4 : RB w4 (w.heap.size) := RB.keep r_3 hg4 (by omega); have n_4 : NB w4 (w1.heap.size) (.int .i64 0) (.string ⟨#[]⟩) (.int .i64 0) (.int .i64 (pos c.L s.1)) (.slice none 0 0) := NB.keep n_3 hg4 (by omega); have r_lt4 := r_4.lt; have n_lt4 := n_4.lt; obtain ⟨_,_,_,_,_,_,_,_,_,_,_⟩ := id r_4; obtain ⟨_,_,_,_,_,_⟩ := id n_4; go_wp2_with fail; go_at_call 68; refine (hE _ s4 p4).mono ?_; rintro e w5 ⟨⟨k5, n5, m5, q5, l5⟩, s5, v5, hr5, rfl, ⟨sv5, rfl, lr5⟩, hg5, p5, hi5⟩; have HR5 : builtInQ c.L 23 kASSERT (E) s = _ := HR4.trans (Q.bind_eq hr5); simp only [T.kind, T.name, T.num, T.at', T.subs] at lr5 ⊢; obtain ⟨ad5, cp5, rfl⟩ := lr5.form; obtain ⟨b5, hb5, lr5⟩ : ∃ b, b = _ ∧ LR w5 (In b w5.heap.size) l5 (.slice ad5 l5.length cp5) := ⟨_, rfl, lr5⟩
  try simp at hb5
  have G5 : w.grownBy w5 (some c.rb) := gb_trans G4 hg5; have sz5 := hg5.size
  try simp at sz5
  have r_5 : RB w5 (w.heap.size) := RB.keep r_4 hg5 (by omega); have n_5 : NB w5 (w1.heap.size) (.int .i64 0) (.string ⟨#[]⟩) (.int .i64 0) (.int .i64 (pos c.L s.1)) (.slice none 0 0) := NB.keep n_4 hg5 (by omega); have r_lt5 := r_5.lt; have n_lt5 := n_5.lt; obtain ⟨_,_,_,_,_,_,_,_,_,_,_⟩ := id r_5; obtain ⟨_,_,_,_,_,_⟩ := id n_5; go_wp2_with fail; go_at_call 27; refine (rneed_any c _ s5 d s_rp _ rfl (by decide) (by exact RS.alloc (RS.put p5 HL.out (by omega) _ _) _)).mono ?_; rintro e w6 ⟨a6, s6, v6, hr6, rfl, -, hg6, p6, hi6⟩; have HR6 : builtInQ c.L 23 kASSERT (E) s = _ := HR5.trans (Q.bind_eq hr6); have G6 : w.grownBy w6 (some c.rb) := gb_trans (by exact gb_alloc (gb_put G5 (by omega) _ _) _) hg6; have sz6 := hg6.size
  try simp at sz6
  have r_6 : RB w6 (w.heap.size) := RB.keep (by exact RB.alloc (RB.put r_5 _ _ _) _) hg6 (by omega); have n_6 : NB w6 (w1.heap.size) (.int .i64 0) (.string ⟨#[]⟩) (.int .i64 0) (.int .i64 (pos c.L s.1)) (.slice (some ⟨w5.heap.size, 0, none⟩) 1 1) := NB.keep (by exact NB.alloc (NB.s4 n_5 _) _) hg6 (by omega); have y_6 : LR w6 (In (b5) (w5.heap.size)) (l5) (.slice ad5 l5.length cp5) := LR.call (by exact LR.alloc (LR.put lr5 (by omega) _ _) _) hg6 (by omega); have z_6 : LR w6 (In (b5) (w5.heap.size + 1)) ([(T.mk k5 n5 m5 q5 l5)]) (.slice (some ⟨w5.heap.size, 0, none⟩) 1 1) := LR.call (LR.build1 _ (t := (T.mk k5 n5 m5 q5 l5)) (sv := .slice ad5 l5.length cp5) (LR.wide (lo := b5) (hi := w5.heap.size) (ts := l5) (by exact LR.put lr5 (by omega) _ _) (by omega) (by first | omega | (simp <;> omega))) (by simp) rfl (by omega)) hg6 (by omega); have r_lt6 := r_6.lt; have n_lt6 := n_6.lt; obtain ⟨_,_,_,_,_,_,_,_,_,_,_⟩ := id r_6; obtain ⟨_,_,_,_,_,_⟩ := id n_6; have hmm := @run_makeMap Tryz.prog; have m0 := World.ownsMap_made (H := Unit) w6 Tryz.prog 9 (plainElem Tryz.prog 3); obtain ⟨wm0, hm0, o0, gm0⟩ := m0.update law9 Tryz.underlying98 (by unfold maxLen; omega) (keyOf_string_mk (P := Tryz.prog) Tryz.underlying9 (s := ⟨#[78, 69, 87]⟩) (by unfold maxLen; decide)) (plainElem_int (H := Unit) Tryz.underlying3 (a := 20) (by decide)); obtain ⟨wm1, hm1, o1, gm1⟩ := o0.update law9 Tryz.underlying98 (by unfold maxLen; omega) (keyOf_string_mk (P := Tryz.prog) Tryz.underlying9 (s := ⟨#[71, 69, 84]⟩) (by unfold maxLen; decide)) (plainElem_int (H := Unit) Tryz.underlying3 (a := 22) (by decide)); obtain ⟨wm2, hm2, o2, gm2⟩ := o1.update law9 Tryz.underlying98 (by unfold maxLen; omega) (keyOf_string_mk (P := Tryz.prog) Tryz.underlying9 (s := ⟨#[79, 85, 84]⟩) (by unfold maxLen; decide)) (plainElem_int (H := Unit) Tryz.underlying3 (a := 21) (by decide)); obtain ⟨wm3, hm3, o3, gm3⟩ := o2.update law9 Tryz.underlying98 (by unfold maxLen; omega) (keyOf_string_mk (P := Tryz.prog) Tryz.underlying9 (s := ⟨#[65, 83, 83, 69, 82, 84]⟩) (by unfold maxLen; decide)) (plainElem_int (H := Unit) Tryz.underlying3 (a := 23) (by decide)); obtain ⟨cc, hlk, hat, -⟩ := o3.lookup_int law9 Tryz.underlying98 Tryz.underlying3 (zeroInt _) (keyOf_string_mk (P := Tryz.prog) Tryz.underlying9 (s := ⟨kASSERT.toArray⟩) (by unfold maxLen; decide))
  obtain rfl : cc = 23 := by
    have h9 : DataW.lit (.int .i64 cc) = (.lit (.int .i64 23) : DataW Unit) := hat.symm.trans (by kernel_rfl); cases h9
    rfl
  have gM : (w6.alloc (.map #[] 0)).grownBy wm3 (some w6.heap.size) := gb_trans (gb_trans (gb_trans gm0 gm1) gm2) gm3; clear m0 o0 o1 o2 o3 hat gm0 gm1 gm2 gm3; obtain ⟨w7, hw7⟩ : ∃ x, x = wm3 := ⟨_, rfl⟩; subst hw7; have sz7 := gM.size
  simp at sz7
  have r_7 : RB w7 (w.heap.size) := RB.kept (RB.alloc r_6 _) gM (by simp; omega); have n_7 : NB w7 (w1.heap.size) (.int .i64 0) (.string ⟨#[]⟩) (.int .i64 0) (.int .i64 (pos c.L s.1)) (.slice (some ⟨w5.heap.size, 0, none⟩) 1 1) := NB.kept (NB.alloc n_6 _) gM (by simp; omega); have y_7 : LR w7 (In (b5) (w5.heap.size)) (l5) (.slice ad5 l5.length cp5) := LR.call (LR.alloc y_6 _) gM (by omega); have z_7 : LR w7 (In (b5) (w5.heap.size + 1)) ([(T.mk k5 n5 m5 q5 l5)]) (.slice (some ⟨w5.heap.size, 0, none⟩) 1 1) := LR.call (LR.alloc z_6 _) gM (by omega); have p7 : RS c w7 s6 d := RS.own (RS.alloc p6 _) HL.out gM (fun b hb => by cases hb; omega); have G7 : w.grownBy w7 (some c.rb) := gb_own (gb_alloc G6 _) gM (fun b hb => by cases hb; omega); have r_lt7 := r_7.lt; have n_lt7 := n_7.lt; obtain ⟨_,_,_,_,_,_,_,_,_,_,_⟩ := id r_7; obtain ⟨_,_,_,_,_,_⟩ := id n_7; go_wp2; refine node_ret Tryz.results46 rfl (RB.five ?_) rfl ?_
  · exact RB.put r_7 _ _ _
  refine QSt.ok (a := (T.mk 23 [] 0 (pos c.L s.1) [(T.mk k5 n5 m5 q5 l5)])) (HR6) ⟨_, rfl, ?_⟩ ?_ ?_ (by omega)
  · refine LR.wide (lo := b5) (hi := w5.heap.size + 1) (ts := [(T.mk k5 n5 m5 q5 l5)]) ?_ (by omega) (by first | omega | (simp <;> omega))
    exact LR.p5 (LR.put z_7 (by omega) _ _) (by omega)
  · exact gb_p5 (gb_put G7 (by omega) _ _) (by omega)
  · exact RS.p5 (RS.put p7 HL.out (by omega) _ _) HL.out (by omega)
end Go.Proofs.YtbphiiaoncakfaaGreatDoor
