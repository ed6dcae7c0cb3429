/- Declarations. -/
import Derived.Test.YtbphiiaoncakfaaGreatDoorG09
import Derived.Test.YtbphiiaoncakfaaGreatDoorG15
namespace Go.Proofs.YtbphiiaoncakfaaGreatDoor
open Go.RowKit

set_option maxRecDepth 100000 in
set_option maxHeartbeats 400000 in
theorem pvariable_any (c : PC) (w : World) (i d : Nat) (h : PS c w i d) :
    Calls Tryz.prog 58 #[.pointer (some ⟨c.pb, 0, none⟩)] w (Steps c w i d (fun w' t v => TR w' w.heap.size w'.heap.size t v) (variableP c.L i)) := by
  have HP := hide h; have HL := hide h.low; have hb := h.lt; clear h
  go_enter Tryz.func58, Tryz.ntmps58
  go_wp2_with fail; go_at_call 92; refine (pmarked_any c _ i d 6 (by exact PS.alloc HP.out _)).mono ?_; rintro e w1 (⟨x1, hr1, ht1, hg1⟩ | ⟨⟨k1, n1, m1, q1, l1⟩, j1, v1, hr1, rfl, ⟨sv1, rfl, lr1⟩, hg1, p1, hi1⟩)
  · have HT := ht1
    obtain ⟨q, rfl, -⟩ := ht1
    exact ⟨rfl, Steps.err (P.bind_err hr1) HT (by exact gb_alloc (gb_refl w (some c.pb)) _) hg1⟩
  have HR1 : variableP c.L i = _ := P.bind_ok hr1; simp only [T.kind, T.name, T.num, T.at', T.subs] at lr1 ⊢; obtain ⟨ad1, cp1, rfl⟩ := lr1.form; obtain ⟨b1, hb1, lr1⟩ : ∃ b, b = _ ∧ LR w1 (In b w1.heap.size) l1 (.slice ad1 l1.length cp1) := ⟨_, rfl, lr1⟩
  try simp at hb1
  have G1 : w.grownBy w1 (some c.pb) := gb_trans (by exact gb_alloc (gb_refl w (some c.pb)) _) hg1; have s1 := hg1.size
  try simp at s1
  have r_1 : RB w1 (w.heap.size) := RB.keep (RB.new' (by simp)) hg1 (by omega); have r_lt1 := r_1.lt; obtain ⟨_,_,_,_,_,_,_,_,_,_,_⟩ := id r_1; go_wp2_with fail; go_at_call 95; refine (ptyped_any c _ j1 d (T.mk k1 n1 m1 q1 l1) (b1) (w1.heap.size) _ p1 ⟨_, rfl, (show LR _ (In (b1) (w1.heap.size)) (l1) (.slice ad1 l1.length cp1) from lr1)⟩).mono ?_; rintro e w2 (⟨x2, hr2, ht2, hg2⟩ | ⟨⟨k2, n2, m2, q2, l2⟩, j2, v2, hr2, rfl, ⟨sv2, rfl, lr2⟩, hg2, p2, hi2⟩)
  · have HT := ht2
    obtain ⟨q, rfl, -⟩ := ht2
    exact ⟨rfl, Steps.err (HR1.trans hr2) HT G1 hg2⟩
  have HR2 : variableP c.L i = _ := HR1.trans hr2; simp only [T.kind, T.name, T.num, T.at', T.subs] at lr2 ⊢; obtain ⟨ad2, cp2, rfl⟩ := lr2.form; obtain ⟨b2, hb2, lr2⟩ : ∃ b, b = _ ∧ LR w2 (In b w2.heap.size) l2 (.slice ad2 l2.length cp2) := ⟨_, rfl, lr2⟩
  try simp at hb2
  have G2 : w.grownBy w2 (some c.pb) := gb_trans G1 hg2; have s2 := hg2.size
  try simp at s2
  have r_2 : RB w2 (w.heap.size) := RB.keep r_1 hg2 (by omega); have t_2 : LR w2 (In (b1) (w1.heap.size)) (l1) (.slice ad1 l1.length cp1) := LR.call lr1 hg2 (by omega); have r_lt2 := r_2.lt; obtain ⟨_,_,_,_,_,_,_,_,_,_,_⟩ := id r_2; go_wp2; refine node_ret Tryz.results58 rfl (RB.five ?_) rfl ?_
  · exact r_2
  refine Steps.ok (a := (T.mk k2 n2 m2 q2 l2)) (HR2) ⟨_, rfl, ?_⟩ ?_ ?_ (by omega)
  · refine LR.wide (lo := b2) (hi := w2.heap.size) (ts := l2) ?_ (by omega) (by first | omega | (simp <;> omega))
    exact LR.p5 lr2 (by omega)
  · exact gb_p5 G2 (by omega)
  · exact PS.p5 p2 HL.out (by omega)

set_option maxRecDepth 100000 in
set_option maxHeartbeats 400000 in
theorem pfield_any (c : PC) (w : World) (i d : Nat) (h : PS c w i d) :
    Calls Tryz.prog 126 #[.pointer (some ⟨c.pb, 0, none⟩)] w (Steps c w i d (fun w' t v => TR w' w.heap.size w'.heap.size t v) (fieldP c.L i)) := by
  have HP := hide h; have HL := hide h.low; have hb := h.lt; clear h
  go_enter Tryz.func126, Tryz.ntmps126
  go_wp2_with fail; go_at_call 92; refine (pmarked_any c _ i d 11 (by exact PS.alloc HP.out _)).mono ?_; rintro e w1 (⟨x1, hr1, ht1, hg1⟩ | ⟨⟨k1, n1, m1, q1, l1⟩, j1, v1, hr1, rfl, ⟨sv1, rfl, lr1⟩, hg1, p1, hi1⟩)
  · have HT := ht1
    obtain ⟨q, rfl, -⟩ := ht1
    exact ⟨rfl, Steps.err (P.bind_err hr1) HT (by exact gb_alloc (gb_refl w (some c.pb)) _) hg1⟩
  have HR1 : fieldP c.L i = _ := P.bind_ok hr1; simp only [T.kind, T.name, T.num, T.at', T.subs] at lr1 ⊢; obtain ⟨ad1, cp1, rfl⟩ := lr1.form; obtain ⟨b1, hb1, lr1⟩ : ∃ b, b = _ ∧ LR w1 (In b w1.heap.size) l1 (.slice ad1 l1.length cp1) := ⟨_, rfl, lr1⟩
  try simp at hb1
  have G1 : w.grownBy w1 (some c.pb) := gb_trans (by exact gb_alloc (gb_refl w (some c.pb)) _) hg1; have s1 := hg1.size
  try simp at s1
  have r_1 : RB w1 (w.heap.size) := RB.keep (RB.new' (by simp)) hg1 (by omega); have r_lt1 := r_1.lt; obtain ⟨_,_,_,_,_,_,_,_,_,_,_⟩ := id r_1; go_wp2_with fail; go_at_call 95; refine (ptyped_any c _ j1 d (T.mk k1 n1 m1 q1 l1) (b1) (w1.heap.size) _ p1 ⟨_, rfl, (show LR _ (In (b1) (w1.heap.size)) (l1) (.slice ad1 l1.length cp1) from lr1)⟩).mono ?_; rintro e w2 (⟨x2, hr2, ht2, hg2⟩ | ⟨⟨k2, n2, m2, q2, l2⟩, j2, v2, hr2, rfl, ⟨sv2, rfl, lr2⟩, hg2, p2, hi2⟩)
  · have HT := ht2
    obtain ⟨q, rfl, -⟩ := ht2
    exact ⟨rfl, Steps.err (HR1.trans hr2) HT G1 hg2⟩
  have HR2 : fieldP c.L i = _ := HR1.trans hr2; simp only [T.kind, T.name, T.num, T.at', T.subs] at lr2 ⊢; obtain ⟨ad2, cp2, rfl⟩ := lr2.form; obtain ⟨b2, hb2, lr2⟩ : ∃ b, b = _ ∧ LR w2 (In b w2.heap.size) l2 (.slice ad2 l2.length cp2) := ⟨_, rfl, lr2⟩
  try simp at hb2
  have G2 : w.grownBy w2 (some c.pb) := gb_trans G1 hg2; have s2 := hg2.size
  try simp at s2
  have r_2 : RB w2 (w.heap.size) := RB.keep r_1 hg2 (by omega); have t_2 : LR w2 (In (b1) (w1.heap.size)) (l1) (.slice ad1 l1.length cp1) := LR.call lr1 hg2 (by omega); have r_lt2 := r_2.lt; obtain ⟨_,_,_,_,_,_,_,_,_,_,_⟩ := id r_2; go_wp2; refine node_ret Tryz.results126 rfl (RB.five ?_) rfl ?_
  · exact r_2
  refine Steps.ok (a := (T.mk k2 n2 m2 q2 l2)) (HR2) ⟨_, rfl, ?_⟩ ?_ ?_ (by omega)
  · refine LR.wide (lo := b2) (hi := w2.heap.size) (ts := l2) ?_ (by omega) (by first | omega | (simp <;> omega))
    exact LR.p5 lr2 (by omega)
  · exact gb_p5 G2 (by omega)
  · exact PS.p5 p2 HL.out (by omega)

set_option maxRecDepth 100000 in
set_option maxHeartbeats 400000 in
theorem plocalVariable_any (c : PC) (w : World) (i d : Nat) (h : PS c w i d) :
    Calls Tryz.prog 117 #[.pointer (some ⟨c.pb, 0, none⟩)] w (Steps c w i d (fun w' t v => TR w' w.heap.size w'.heap.size t v) (localP c.L i)) := by
  have HP := hide h; have HL := hide h.low; have hb := h.lt; clear h
  go_enter Tryz.func117, Tryz.ntmps117
  go_wp2_with fail; go_at_call 90; refine (pnamed_any c _ i d 6 (by exact PS.alloc HP.out _)).mono ?_; rintro e w1 (⟨x1, hr1, ht1, hg1⟩ | ⟨⟨k1, n1, m1, q1, l1⟩, j1, v1, hr1, rfl, ⟨sv1, rfl, lr1⟩, hg1, p1, hi1⟩)
  · have HT := ht1
    obtain ⟨q, rfl, -⟩ := ht1
    exact ⟨rfl, Steps.err (P.bind_err hr1) HT (by exact gb_alloc (gb_refl w (some c.pb)) _) hg1⟩
  have HR1 : localP c.L i = _ := P.bind_ok hr1; simp only [T.kind, T.name, T.num, T.at', T.subs] at lr1 ⊢; obtain ⟨ad1, cp1, rfl⟩ := lr1.form; obtain ⟨b1, hb1, lr1⟩ : ∃ b, b = _ ∧ LR w1 (In b w1.heap.size) l1 (.slice ad1 l1.length cp1) := ⟨_, rfl, lr1⟩
  try simp at hb1
  have G1 : w.grownBy w1 (some c.pb) := gb_trans (by exact gb_alloc (gb_refl w (some c.pb)) _) hg1; have s1 := hg1.size
  try simp at s1
  have r_1 : RB w1 (w.heap.size) := RB.keep (RB.new' (by simp)) hg1 (by omega); have r_lt1 := r_1.lt; obtain ⟨_,_,_,_,_,_,_,_,_,_,_⟩ := id r_1; go_wp2_with fail; go_at_call 95; refine (ptyped_any c _ j1 d (T.mk k1 n1 m1 q1 l1) (b1) (w1.heap.size) _ p1 ⟨_, rfl, (show LR _ (In (b1) (w1.heap.size)) (l1) (.slice ad1 l1.length cp1) from lr1)⟩).mono ?_; rintro e w2 (⟨x2, hr2, ht2, hg2⟩ | ⟨⟨k2, n2, m2, q2, l2⟩, j2, v2, hr2, rfl, ⟨sv2, rfl, lr2⟩, hg2, p2, hi2⟩)
  · have HT := ht2
    obtain ⟨q, rfl, -⟩ := ht2
    exact ⟨rfl, Steps.err (HR1.trans hr2) HT G1 hg2⟩
  have HR2 : localP c.L i = _ := HR1.trans hr2; simp only [T.kind, T.name, T.num, T.at', T.subs] at lr2 ⊢; obtain ⟨ad2, cp2, rfl⟩ := lr2.form; obtain ⟨b2, hb2, lr2⟩ : ∃ b, b = _ ∧ LR w2 (In b w2.heap.size) l2 (.slice ad2 l2.length cp2) := ⟨_, rfl, lr2⟩
  try simp at hb2
  have G2 : w.grownBy w2 (some c.pb) := gb_trans G1 hg2; have s2 := hg2.size
  try simp at s2
  have r_2 : RB w2 (w.heap.size) := RB.keep r_1 hg2 (by omega); have t_2 : LR w2 (In (b1) (w1.heap.size)) (l1) (.slice ad1 l1.length cp1) := LR.call lr1 hg2 (by omega); have r_lt2 := r_2.lt; obtain ⟨_,_,_,_,_,_,_,_,_,_,_⟩ := id r_2; go_wp2; refine node_ret Tryz.results117 rfl (RB.five ?_) rfl ?_
  · exact r_2
  refine Steps.ok (a := (T.mk k2 n2 m2 q2 l2)) (HR2) ⟨_, rfl, ?_⟩ ?_ ?_ (by omega)
  · refine LR.wide (lo := b2) (hi := w2.heap.size) (ts := l2) ?_ (by omega) (by first | omega | (simp <;> omega))
    exact LR.p5 lr2 (by omega)
  · exact gb_p5 G2 (by omega)
  · exact PS.p5 p2 HL.out (by omega)

set_option maxRecDepth 100000 in
set_option maxHeartbeats 400000 in
theorem pconstant_any (c : PC) (w : World) (i d : Nat) (E : P T) (h : PS c w i d) (hE : ExprOK c d E) :
    Calls Tryz.prog 56 #[.pointer (some ⟨c.pb, 0, none⟩)] w (Steps c w i d (fun w' t v => TR w' w.heap.size w'.heap.size t v) (((markedP c.L 4).bind fun n => (wantP c.L s_eq).bind fun _ => E.bind fun e => P.ret (withSub n e)) i)) := by
  have HP := hide h; have HL := hide h.low; have hb := h.lt; clear h
  go_enter Tryz.func56, Tryz.ntmps56
  go_wp2_with fail; go_at_call 92; refine (pmarked_any c _ i d 4 (by exact PS.alloc HP.out _)).mono ?_; rintro e w1 (⟨x1, hr1, ht1, hg1⟩ | ⟨⟨k1, n1, m1, q1, l1⟩, j1, v1, hr1, rfl, ⟨sv1, rfl, lr1⟩, hg1, p1, hi1⟩)
  · have HT := ht1
    obtain ⟨q, rfl, -⟩ := ht1
    exact ⟨rfl, Steps.err (P.bind_err hr1) HT (by exact gb_alloc (gb_refl w (some c.pb)) _) hg1⟩
  have HR1 : ((markedP c.L 4).bind fun n => (wantP c.L s_eq).bind fun _ => E.bind fun e => P.ret (withSub n e)) i = _ := P.bind_ok hr1; simp only [T.kind, T.name, T.num, T.at', T.subs] at lr1 ⊢; obtain ⟨ad1, cp1, rfl⟩ := lr1.form; obtain ⟨b1, hb1, lr1⟩ : ∃ b, b = _ ∧ LR w1 (In b w1.heap.size) l1 (.slice ad1 l1.length cp1) := ⟨_, rfl, lr1⟩
  try simp at hb1
  have G1 : w.grownBy w1 (some c.pb) := gb_trans (by exact gb_alloc (gb_refl w (some c.pb)) _) hg1; have s1 := hg1.size
  try simp at s1
  have r_1 : RB w1 (w.heap.size) := RB.keep (RB.new' (by simp)) hg1 (by omega); have r_lt1 := r_1.lt; obtain ⟨_,_,_,_,_,_,_,_,_,_,_⟩ := id r_1; go_wp2_with fail; go_at_call 52; refine (pwant_any c _ j1 d s_eq _ rfl (by decide) (by exact PS.alloc p1 _)).mono ?_; rintro e w2 (⟨x2, hr2, ht2, hg2⟩ | ⟨a2, j2, v2, hr2, rfl, -, hg2, p2, hi2⟩)
  · have HT := ht2
    obtain ⟨q, rfl, -⟩ := ht2
    exact ⟨rfl, Steps.err (HR1.trans (P.bind_err hr2)) HT (by exact gb_alloc G1 _) hg2⟩
  have HR2 : ((markedP c.L 4).bind fun n => (wantP c.L s_eq).bind fun _ => E.bind fun e => P.ret (withSub n e)) i = _ := HR1.trans (P.bind_ok hr2); have G2 : w.grownBy w2 (some c.pb) := gb_trans (by exact gb_alloc G1 _) hg2; have s2 := hg2.size
  try simp at s2
  have r_2 : RB w2 (w.heap.size) := RB.keep (by exact RB.alloc r_1 _) hg2 (by omega); have n_2 : NB w2 (w1.heap.size) (.int .i64 k1) (.string ⟨n1.toArray⟩) (.int .i64 m1) (.int .i64 q1) (.slice ad1 l1.length cp1) := NB.keep (NB.new' (by simp)) hg2 (by omega); have t_2 : LR w2 (In (b1) (w1.heap.size)) (l1) (.slice ad1 l1.length cp1) := LR.call (by exact LR.alloc lr1 _) hg2 (by omega); have r_lt2 := r_2.lt; have n_lt2 := n_2.lt; obtain ⟨_,_,_,_,_,_,_,_,_,_,_⟩ := id r_2; obtain ⟨_,_,_,_,_,_⟩ := id n_2; go_wp2_with fail; go_at_call 93; refine (hE.call _ j2 p2 trivial).mono ?_; rintro e w3 (⟨x3, hr3, ht3, hg3⟩ | ⟨⟨k3, n3, m3, q3, l3⟩, j3, v3, hr3, rfl, ⟨sv3, rfl, lr3⟩, hg3, p3, hi3⟩)
  · have HT := ht3
    obtain ⟨q, rfl, -⟩ := ht3
    exact ⟨rfl, Steps.err (HR2.trans (P.bind_err hr3)) HT G2 hg3⟩
  have HR3 : ((markedP c.L 4).bind fun n => (wantP c.L s_eq).bind fun _ => E.bind fun e => P.ret (withSub n e)) i = _ := HR2.trans (P.bind_ok hr3); simp only [T.kind, T.name, T.num, T.at', T.subs] at lr3 ⊢; obtain ⟨ad3, cp3, rfl⟩ := lr3.form; obtain ⟨b3, hb3, lr3⟩ : ∃ b, b = _ ∧ LR w3 (In b w3.heap.size) l3 (.slice ad3 l3.length cp3) := ⟨_, rfl, lr3⟩
  try simp at hb3
  have G3 : w.grownBy w3 (some c.pb) := gb_trans G2 hg3; have s3 := hg3.size
  try simp at s3
  have r_3 : RB w3 (w.heap.size) := RB.keep r_2 hg3 (by omega); have n_3 : NB w3 (w1.heap.size) (.int .i64 k1) (.string ⟨n1.toArray⟩) (.int .i64 m1) (.int .i64 q1) (.slice ad1 l1.length cp1) := NB.keep n_2 hg3 (by omega); have t_3 : LR w3 (In (b1) (w1.heap.size)) (l1) (.slice ad1 l1.length cp1) := LR.call t_2 hg3 (by omega); have r_lt3 := r_3.lt; have n_lt3 := n_3.lt; obtain ⟨_,_,_,_,_,_,_,_,_,_,_⟩ := id r_3; obtain ⟨_,_,_,_,_,_⟩ := id n_3; go_wp2; refine node_ret Tryz.results56 rfl (NB.alloc (RB.five ?_) _) rfl ?_
  · exact RB.put r_3 _ _ _
  refine Steps.ok (a := (T.mk k1 n1 m1 q1 [(T.mk k3 n3 m3 q3 l3)])) (HR3) ⟨_, rfl, ?_⟩ ?_ ?_ (by omega)
  · refine LR.wide (lo := b3) (hi := w3.heap.size + 1) (ts := [(T.mk k3 n3 m3 q3 l3)]) ?_ (by omega) (by first | omega | (simp <;> omega))
    exact (LR.build1 _ (t := (T.mk k3 n3 m3 q3 l3)) (sv := .slice ad3 l3.length cp3) (LR.wide (lo := b3) (hi := w3.heap.size) (ts := l3) (by exact LR.p5 (LR.put lr3 (by omega) _ _) (by omega)) (by omega) (by first | omega | (simp <;> omega))) (by simp) rfl (by omega))
  · exact gb_alloc (gb_p5 (gb_put G3 (by omega) _ _) (by omega)) _
  · exact PS.alloc (PS.p5 (PS.put p3 HL.out (by omega) _ _) HL.out (by omega)) _

set_option maxRecDepth 100000 in
set_option maxHeartbeats 400000 in
theorem ptypeDeclaration_any (c : PC) (w : World) (i d : Nat) (h : PS c w i d) (hT : PartOK c d 94 (typeItselfP c.L)) :
    Calls Tryz.prog 57 #[.pointer (some ⟨c.pb, 0, none⟩)] w (Steps c w i d (fun w' t v => TR w' w.heap.size w'.heap.size t v) (typeDeclP c.L i)) := by
  have HP := hide h; have HL := hide h.low; have hb := h.lt; clear h
  go_enter Tryz.func57, Tryz.ntmps57
  go_wp2_with fail; go_at_call 92; refine (pmarked_any c _ i d 5 (by exact PS.alloc HP.out _)).mono ?_; rintro e w1 (⟨x1, hr1, ht1, hg1⟩ | ⟨⟨k1, n1, m1, q1, l1⟩, j1, v1, hr1, rfl, ⟨sv1, rfl, lr1⟩, hg1, p1, hi1⟩)
  · have HT := ht1
    obtain ⟨q, rfl, -⟩ := ht1
    exact ⟨rfl, Steps.err (P.bind_err hr1) HT (by exact gb_alloc (gb_refl w (some c.pb)) _) hg1⟩
  have HR1 : typeDeclP c.L i = _ := P.bind_ok hr1; simp only [T.kind, T.name, T.num, T.at', T.subs] at lr1 ⊢; obtain ⟨ad1, cp1, rfl⟩ := lr1.form; obtain ⟨b1, hb1, lr1⟩ : ∃ b, b = _ ∧ LR w1 (In b w1.heap.size) l1 (.slice ad1 l1.length cp1) := ⟨_, rfl, lr1⟩
  try simp at hb1
  have G1 : w.grownBy w1 (some c.pb) := gb_trans (by exact gb_alloc (gb_refl w (some c.pb)) _) hg1; have s1 := hg1.size
  try simp at s1
  have r_1 : RB w1 (w.heap.size) := RB.keep (RB.new' (by simp)) hg1 (by omega); have r_lt1 := r_1.lt; obtain ⟨_,_,_,_,_,_,_,_,_,_,_⟩ := id r_1; go_wp2_with fail; go_at_call 52; refine (pwant_any c _ j1 d s_eq _ rfl (by decide) (by exact PS.alloc p1 _)).mono ?_; rintro e w2 (⟨x2, hr2, ht2, hg2⟩ | ⟨a2, j2, v2, hr2, rfl, -, hg2, p2, hi2⟩)
  · have HT := ht2
    obtain ⟨q, rfl, -⟩ := ht2
    exact ⟨rfl, Steps.err (HR1.trans (P.bind_err hr2)) HT (by exact gb_alloc G1 _) hg2⟩
  have HR2 : typeDeclP c.L i = _ := HR1.trans (P.bind_ok hr2); have G2 : w.grownBy w2 (some c.pb) := gb_trans (by exact gb_alloc G1 _) hg2; have s2 := hg2.size
  try simp at s2
  have r_2 : RB w2 (w.heap.size) := RB.keep (by exact RB.alloc r_1 _) hg2 (by omega); have n_2 : NB w2 (w1.heap.size) (.int .i64 k1) (.string ⟨n1.toArray⟩) (.int .i64 m1) (.int .i64 q1) (.slice ad1 l1.length cp1) := NB.keep (NB.new' (by simp)) hg2 (by omega); have t_2 : LR w2 (In (b1) (w1.heap.size)) (l1) (.slice ad1 l1.length cp1) := LR.call (by exact LR.alloc lr1 _) hg2 (by omega); have r_lt2 := r_2.lt; have n_lt2 := n_2.lt; obtain ⟨_,_,_,_,_,_,_,_,_,_,_⟩ := id r_2; obtain ⟨_,_,_,_,_,_⟩ := id n_2; go_wp2_with fail; go_at_call 94; refine (hT _ j2 p2).mono ?_; rintro e w3 (⟨x3, hr3, ht3, hg3⟩ | ⟨⟨k3, n3, m3, q3, l3⟩, j3, v3, hr3, rfl, ⟨sv3, rfl, lr3⟩, hg3, p3, hi3⟩)
  · have HT := ht3
    obtain ⟨q, rfl, -⟩ := ht3
    exact ⟨rfl, Steps.err (HR2.trans (P.bind_err hr3)) HT G2 hg3⟩
  have HR3 : typeDeclP c.L i = _ := HR2.trans (P.bind_ok hr3); simp only [T.kind, T.name, T.num, T.at', T.subs] at lr3 ⊢; obtain ⟨ad3, cp3, rfl⟩ := lr3.form; obtain ⟨b3, hb3, lr3⟩ : ∃ b, b = _ ∧ LR w3 (In b w3.heap.size) l3 (.slice ad3 l3.length cp3) := ⟨_, rfl, lr3⟩
  try simp at hb3
  have G3 : w.grownBy w3 (some c.pb) := gb_trans G2 hg3; have s3 := hg3.size
  try simp at s3
  have r_3 : RB w3 (w.heap.size) := RB.keep r_2 hg3 (by omega); have n_3 : NB w3 (w1.heap.size) (.int .i64 k1) (.string ⟨n1.toArray⟩) (.int .i64 m1) (.int .i64 q1) (.slice ad1 l1.length cp1) := NB.keep n_2 hg3 (by omega); have t_3 : LR w3 (In (b1) (w1.heap.size)) (l1) (.slice ad1 l1.length cp1) := LR.call t_2 hg3 (by omega); have r_lt3 := r_3.lt; have n_lt3 := n_3.lt; obtain ⟨_,_,_,_,_,_,_,_,_,_,_⟩ := id r_3; obtain ⟨_,_,_,_,_,_⟩ := id n_3; go_wp2; refine node_ret Tryz.results57 rfl (NB.alloc (RB.five ?_) _) rfl ?_
  · exact RB.put r_3 _ _ _
  refine Steps.ok (a := (T.mk k1 n1 m1 q1 [(T.mk k3 n3 m3 q3 l3)])) (HR3) ⟨_, rfl, ?_⟩ ?_ ?_ (by omega)
  · refine LR.wide (lo := b3) (hi := w3.heap.size + 1) (ts := [(T.mk k3 n3 m3 q3 l3)]) ?_ (by omega) (by first | omega | (simp <;> omega))
    exact (LR.build1 _ (t := (T.mk k3 n3 m3 q3 l3)) (sv := .slice ad3 l3.length cp3) (LR.wide (lo := b3) (hi := w3.heap.size) (ts := l3) (by exact LR.p5 (LR.put lr3 (by omega) _ _) (by omega)) (by omega) (by first | omega | (simp <;> omega))) (by simp) rfl (by omega))
  · exact gb_alloc (gb_p5 (gb_put G3 (by omega) _ _) (by omega)) _
  · exact PS.alloc (PS.p5 (PS.put p3 HL.out (by omega) _ _) HL.out (by omega)) _

set_option maxRecDepth 100000 in
set_option maxHeartbeats 400000 in
theorem pparameter_any (c : PC) (w : World) (i d : Nat) (h : PS c w i d) :
    Calls Tryz.prog 128 #[.pointer (some ⟨c.pb, 0, none⟩)] w (Steps c w i d (fun w' t v => TR w' w.heap.size w'.heap.size t v) (parameterP c.L i)) := by
  have HP := hide h; have HL := hide h.low; have hb := h.lt; clear h
  go_enter Tryz.func128, Tryz.ntmps128
  go_wp2_with fail; go_at_call 51; refine (pnode_any c _ i d 8 (by exact PS.alloc HP.out _)).mono ?_; rintro e w1 ⟨rfl, hg1⟩; have p1 : PS c w1 i d := PS.kept (by exact PS.alloc HP.out _) hg1; have G1 : w.grownBy w1 (some c.pb) := gb_trans (by exact gb_alloc (gb_refl w (some c.pb)) _) (gb_some hg1 (some c.pb)); have s1 := hg1.size
  try simp at s1
  have r_1 : RB w1 (w.heap.size) := RB.kept (RB.new' (by simp)) hg1 (by simp); have r_lt1 := r_1.lt; obtain ⟨_,_,_,_,_,_,_,_,_,_,_⟩ := id r_1; go_wp2_with fail; go_at_call 85; refine (phas_any c _ i d kVAR _ rfl (by decide) (by exact PS.alloc p1 _)).mono ?_; rintro e w2 ⟨b2, j2, hr2, rfl, hg2, p2, hi2⟩; have HR2 : parameterP c.L i = _ := P.bind_ok hr2; have G2 : w.grownBy w2 (some c.pb) := gb_trans (by exact gb_alloc G1 _) hg2; have s2 := hg2.size
  try simp at s2
  have r_2 : RB w2 (w.heap.size) := RB.keep (by exact RB.alloc r_1 _) hg2 (by omega); have n_2 : NB w2 (w1.heap.size) (.int .i64 8) (.string ⟨#[]⟩) (.int .i64 0) (.int .i64 (pos c.L i)) (.slice none 0 0) := NB.keep (NB.new' (by simp)) hg2 (by omega); have r_lt2 := r_2.lt; have n_lt2 := n_2.lt; obtain ⟨_,_,_,_,_,_,_,_,_,_,_⟩ := id r_2; obtain ⟨_,_,_,_,_,_⟩ := id n_2; cases b2
  · go_wp2_with fail
    go_at_call 53; refine (pname_any c _ j2 d p2).mono ?_; rintro e w3 (⟨x3, hr3, ht3, hg3⟩ | ⟨a3, j3, v3, hr3, rfl, ⟨rfl, hn3, hl3⟩, hg3, p3, hi3⟩)
    · have HT := ht3
      obtain ⟨q, rfl, -⟩ := ht3
      exact ⟨rfl, Steps.err (HR2.trans (P.bind_err hr3)) HT G2 hg3⟩
    have HR3 : parameterP c.L i = _ := HR2.trans (P.bind_ok hr3); have G3 : w.grownBy w3 (some c.pb) := gb_trans G2 hg3; have s3 := hg3.size
    try simp at s3
    have r_3 : RB w3 (w.heap.size) := RB.keep r_2 hg3 (by omega); have n_3 : NB w3 (w1.heap.size) (.int .i64 8) (.string ⟨#[]⟩) (.int .i64 0) (.int .i64 (pos c.L i)) (.slice none 0 0) := NB.keep n_2 hg3 (by omega); have r_lt3 := r_3.lt; have n_lt3 := n_3.lt; obtain ⟨_,_,_,_,_,_,_,_,_,_,_⟩ := id r_3; obtain ⟨_,_,_,_,_,_⟩ := id n_3; go_wp2_with fail; go_at_call 95; refine (ptyped_any c _ j3 d (T.mk 8 a3 0 (pos c.L i) []) 0 0 _ (by exact PS.put p3 HL.out (by omega) _ _) ⟨_, rfl, LR.nil _ _⟩).mono ?_; rintro e w4 (⟨x4, hr4, ht4, hg4⟩ | ⟨⟨k4, n4, m4, q4, l4⟩, j4, v4, hr4, rfl, ⟨sv4, rfl, lr4⟩, hg4, p4, hi4⟩)
    · have HT := ht4
      obtain ⟨q, rfl, -⟩ := ht4
      exact ⟨rfl, Steps.err (HR3.trans hr4) HT (by exact gb_put G3 (by omega) _ _) hg4⟩
    have HR4 : parameterP c.L i = _ := HR3.trans hr4; simp only [T.kind, T.name, T.num, T.at', T.subs] at lr4 ⊢; obtain ⟨ad4, cp4, rfl⟩ := lr4.form; obtain ⟨b4, hb4, lr4⟩ : ∃ b, b = _ ∧ LR w4 (In b w4.heap.size) l4 (.slice ad4 l4.length cp4) := ⟨_, rfl, lr4⟩
    try simp at hb4
    have G4 : w.grownBy w4 (some c.pb) := gb_trans (by exact gb_put G3 (by omega) _ _) hg4; have s4 := hg4.size
    try simp at s4
    have r_4 : RB w4 (w.heap.size) := RB.keep (by exact RB.put r_3 _ _ _) hg4 (by omega); have n_4 : NB w4 (w1.heap.size) (.int .i64 8) (.string ⟨a3.toArray⟩) (.int .i64 0) (.int .i64 (pos c.L i)) (.slice none 0 0) := NB.keep (by exact NB.s1 n_3 _) hg4 (by omega); have r_lt4 := r_4.lt; have n_lt4 := n_4.lt; obtain ⟨_,_,_,_,_,_,_,_,_,_,_⟩ := id r_4; obtain ⟨_,_,_,_,_,_⟩ := id n_4; go_wp2; refine node_ret Tryz.results128 rfl (RB.five ?_) rfl ?_
    · exact r_4
    refine Steps.ok (a := (T.mk k4 n4 m4 q4 l4)) (HR4) ⟨_, rfl, ?_⟩ ?_ ?_ (by omega)
    · refine LR.wide (lo := b4) (hi := w4.heap.size) (ts := l4) ?_ (by omega) (by first | omega | (simp <;> omega))
      exact LR.p5 lr4 (by omega)
    · exact gb_p5 G4 (by omega)
    · exact PS.p5 p4 HL.out (by omega)
  · go_wp2_with fail
    go_at_call 53; refine (pname_any c _ j2 d (by exact PS.put p2 HL.out (by omega) _ _)).mono ?_; rintro e w3 (⟨x3, hr3, ht3, hg3⟩ | ⟨a3, j3, v3, hr3, rfl, ⟨rfl, hn3, hl3⟩, hg3, p3, hi3⟩)
    · have HT := ht3
      obtain ⟨q, rfl, -⟩ := ht3
      exact ⟨rfl, Steps.err (HR2.trans (P.bind_err hr3)) HT (by exact gb_put G2 (by omega) _ _) hg3⟩
    have HR3 : parameterP c.L i = _ := HR2.trans (P.bind_ok hr3); have G3 : w.grownBy w3 (some c.pb) := gb_trans (by exact gb_put G2 (by omega) _ _) hg3; have s3 := hg3.size
    try simp at s3
    have r_3 : RB w3 (w.heap.size) := RB.keep (by exact RB.put r_2 _ _ _) hg3 (by omega); have n_3 : NB w3 (w1.heap.size) (.int .i64 8) (.string ⟨#[]⟩) (.int .i64 1) (.int .i64 (pos c.L i)) (.slice none 0 0) := NB.keep (by exact NB.s2 n_2 _) hg3 (by omega); have r_lt3 := r_3.lt; have n_lt3 := n_3.lt; obtain ⟨_,_,_,_,_,_,_,_,_,_,_⟩ := id r_3; obtain ⟨_,_,_,_,_,_⟩ := id n_3; go_wp2_with fail; go_at_call 95; refine (ptyped_any c _ j3 d (T.mk 8 a3 1 (pos c.L i) []) 0 0 _ (by exact PS.put p3 HL.out (by omega) _ _) ⟨_, rfl, LR.nil _ _⟩).mono ?_; rintro e w4 (⟨x4, hr4, ht4, hg4⟩ | ⟨⟨k4, n4, m4, q4, l4⟩, j4, v4, hr4, rfl, ⟨sv4, rfl, lr4⟩, hg4, p4, hi4⟩)
    · have HT := ht4
      obtain ⟨q, rfl, -⟩ := ht4
      exact ⟨rfl, Steps.err (HR3.trans hr4) HT (by exact gb_put G3 (by omega) _ _) hg4⟩
    have HR4 : parameterP c.L i = _ := HR3.trans hr4; simp only [T.kind, T.name, T.num, T.at', T.subs] at lr4 ⊢; obtain ⟨ad4, cp4, rfl⟩ := lr4.form; obtain ⟨b4, hb4, lr4⟩ : ∃ b, b = _ ∧ LR w4 (In b w4.heap.size) l4 (.slice ad4 l4.length cp4) := ⟨_, rfl, lr4⟩
    try simp at hb4
    have G4 : w.grownBy w4 (some c.pb) := gb_trans (by exact gb_put G3 (by omega) _ _) hg4; have s4 := hg4.size
    try simp at s4
    have r_4 : RB w4 (w.heap.size) := RB.keep (by exact RB.put r_3 _ _ _) hg4 (by omega); have n_4 : NB w4 (w1.heap.size) (.int .i64 8) (.string ⟨a3.toArray⟩) (.int .i64 1) (.int .i64 (pos c.L i)) (.slice none 0 0) := NB.keep (by exact NB.s1 n_3 _) hg4 (by omega); have r_lt4 := r_4.lt; have n_lt4 := n_4.lt; obtain ⟨_,_,_,_,_,_,_,_,_,_,_⟩ := id r_4; obtain ⟨_,_,_,_,_,_⟩ := id n_4; go_wp2; refine node_ret Tryz.results128 rfl (RB.five ?_) rfl ?_
    · exact r_4
    refine Steps.ok (a := (T.mk k4 n4 m4 q4 l4)) (HR4) ⟨_, rfl, ?_⟩ ?_ ?_ (by omega)
    · refine LR.wide (lo := b4) (hi := w4.heap.size) (ts := l4) ?_ (by omega) (by first | omega | (simp <;> omega))
      exact LR.p5 lr4 (by omega)
    · exact gb_p5 G4 (by omega)
    · exact PS.p5 p4 HL.out (by omega)

set_option maxRecDepth 100000 in
set_option maxHeartbeats 400000 in
theorem parray_any (c : PC) (w : World) (i d : Nat) (h : PS c w i d) :
    Calls Tryz.prog 111 #[.pointer (some ⟨c.pb, 0, none⟩)] w (Steps c w i d (fun w' t v => TR w' w.heap.size w'.heap.size t v) (arrayP c.L i)) := by
  have HP := hide h; have HL := hide h.low; have hb := h.lt; clear h
  go_enter Tryz.func111, Tryz.ntmps111
  go_wp2_with fail; go_at_call 51; refine (pnode_any c _ i d 9 (by exact PS.alloc HP.out _)).mono ?_; rintro e w1 ⟨rfl, hg1⟩; have p1 : PS c w1 i d := PS.kept (by exact PS.alloc HP.out _) hg1; have G1 : w.grownBy w1 (some c.pb) := gb_trans (by exact gb_alloc (gb_refl w (some c.pb)) _) (gb_some hg1 (some c.pb)); have s1 := hg1.size
  try simp at s1
  have r_1 : RB w1 (w.heap.size) := RB.kept (RB.new' (by simp)) hg1 (by simp); have r_lt1 := r_1.lt; obtain ⟨_,_,_,_,_,_,_,_,_,_,_⟩ := id r_1; go_wp2_with fail; go_at_call 52; refine (pwant_any c _ i d kARRAY _ rfl (by decide) (by exact PS.alloc p1 _)).mono ?_; rintro e w2 (⟨x2, hr2, ht2, hg2⟩ | ⟨a2, j2, v2, hr2, rfl, -, hg2, p2, hi2⟩)
  · have HT := ht2
    obtain ⟨q, rfl, -⟩ := ht2
    exact ⟨rfl, Steps.err (P.bind_err hr2) HT (by exact gb_alloc G1 _) hg2⟩
  have HR2 : arrayP c.L i = _ := P.bind_ok hr2; have G2 : w.grownBy w2 (some c.pb) := gb_trans (by exact gb_alloc G1 _) hg2; have s2 := hg2.size
  try simp at s2
  have r_2 : RB w2 (w.heap.size) := RB.keep (by exact RB.alloc r_1 _) hg2 (by omega); have n_2 : NB w2 (w1.heap.size) (.int .i64 9) (.string ⟨#[]⟩) (.int .i64 0) (.int .i64 (pos c.L i)) (.slice none 0 0) := NB.keep (NB.new' (by simp)) hg2 (by omega); have r_lt2 := r_2.lt; have n_lt2 := n_2.lt; obtain ⟨_,_,_,_,_,_,_,_,_,_,_⟩ := id r_2; obtain ⟨_,_,_,_,_,_⟩ := id n_2; go_wp2_with fail; go_at_call 125; refine (pnumber_any c _ j2 d p2).mono ?_; rintro e w3 (⟨x3, hr3, ht3, hg3⟩ | ⟨a3, j3, v3, hr3, rfl, rfl, hg3, p3, hi3⟩)
  · have HT := ht3
    obtain ⟨q, rfl, -⟩ := ht3
    exact ⟨rfl, Steps.err (HR2.trans (P.bind_err hr3)) HT G2 hg3⟩
  have HR3 : arrayP c.L i = _ := HR2.trans (P.bind_ok hr3); have G3 : w.grownBy w3 (some c.pb) := gb_trans G2 hg3; have s3 := hg3.size
  try simp at s3
  have r_3 : RB w3 (w.heap.size) := RB.keep r_2 hg3 (by omega); have n_3 : NB w3 (w1.heap.size) (.int .i64 9) (.string ⟨#[]⟩) (.int .i64 0) (.int .i64 (pos c.L i)) (.slice none 0 0) := NB.keep n_2 hg3 (by omega); have r_lt3 := r_3.lt; have n_lt3 := n_3.lt; obtain ⟨_,_,_,_,_,_,_,_,_,_,_⟩ := id r_3; obtain ⟨_,_,_,_,_,_⟩ := id n_3; go_wp2_with fail; go_at_call 52; refine (pwant_any c _ j3 d kOF _ rfl (by decide) (by exact PS.put p3 HL.out (by omega) _ _)).mono ?_; rintro e w4 (⟨x4, hr4, ht4, hg4⟩ | ⟨a4, j4, v4, hr4, rfl, -, hg4, p4, hi4⟩)
  · have HT := ht4
    obtain ⟨q, rfl, -⟩ := ht4
    exact ⟨rfl, Steps.err (HR3.trans (P.bind_err hr4)) HT (by exact gb_put G3 (by omega) _ _) hg4⟩
  have HR4 : arrayP c.L i = _ := HR3.trans (P.bind_ok hr4); have G4 : w.grownBy w4 (some c.pb) := gb_trans (by exact gb_put G3 (by omega) _ _) hg4; have s4 := hg4.size
  try simp at s4
  have r_4 : RB w4 (w.heap.size) := RB.keep (by exact RB.put r_3 _ _ _) hg4 (by omega); have n_4 : NB w4 (w1.heap.size) (.int .i64 9) (.string ⟨#[]⟩) (.int .i64 a3) (.int .i64 (pos c.L i)) (.slice none 0 0) := NB.keep (by exact NB.s2 n_3 _) hg4 (by omega); have r_lt4 := r_4.lt; have n_lt4 := n_4.lt; obtain ⟨_,_,_,_,_,_,_,_,_,_,_⟩ := id r_4; obtain ⟨_,_,_,_,_,_⟩ := id n_4; go_wp2_with fail; go_at_call 114; refine (ptypeName_any c _ j4 d p4).mono ?_; rintro e w5 (⟨x5, hr5, ht5, hg5⟩ | ⟨⟨k5, n5, m5, q5, l5⟩, j5, v5, hr5, rfl, ⟨sv5, rfl, lr5⟩, hg5, p5, hi5⟩)
  · have HT := ht5
    obtain ⟨q, rfl, -⟩ := ht5
    exact ⟨rfl, Steps.err (HR4.trans (P.bind_err hr5)) HT G4 hg5⟩
  have HR5 : arrayP c.L i = _ := HR4.trans (P.bind_ok hr5); simp only [T.kind, T.name, T.num, T.at', T.subs] at lr5 ⊢; obtain ⟨ad5, cp5, rfl⟩ := lr5.form; obtain ⟨b5, hb5, lr5⟩ : ∃ b, b = _ ∧ LR w5 (In b w5.heap.size) l5 (.slice ad5 l5.length cp5) := ⟨_, rfl, lr5⟩
  try simp at hb5
  have G5 : w.grownBy w5 (some c.pb) := gb_trans G4 hg5; have s5 := hg5.size
  try simp at s5
  have r_5 : RB w5 (w.heap.size) := RB.keep r_4 hg5 (by omega); have n_5 : NB w5 (w1.heap.size) (.int .i64 9) (.string ⟨#[]⟩) (.int .i64 a3) (.int .i64 (pos c.L i)) (.slice none 0 0) := NB.keep n_4 hg5 (by omega); have r_lt5 := r_5.lt; have n_lt5 := n_5.lt; obtain ⟨_,_,_,_,_,_,_,_,_,_,_⟩ := id r_5; obtain ⟨_,_,_,_,_,_⟩ := id n_5; go_wp2; refine node_ret Tryz.results111 rfl (NB.alloc (RB.five ?_) _) rfl ?_
  · exact RB.put r_5 _ _ _
  refine Steps.ok (a := (T.mk 9 [] a3 (pos c.L i) [(T.mk k5 n5 m5 q5 l5)])) (HR5) ⟨_, rfl, ?_⟩ ?_ ?_ (by omega)
  · refine LR.wide (lo := b5) (hi := w5.heap.size + 1) (ts := [(T.mk k5 n5 m5 q5 l5)]) ?_ (by omega) (by first | omega | (simp <;> omega))
    exact (LR.build1 _ (t := (T.mk k5 n5 m5 q5 l5)) (sv := .slice ad5 l5.length cp5) (LR.wide (lo := b5) (hi := w5.heap.size) (ts := l5) (by exact LR.p5 (LR.put lr5 (by omega) _ _) (by omega)) (by omega) (by first | omega | (simp <;> omega))) (by simp) rfl (by omega))
  · exact gb_alloc (gb_p5 (gb_put G5 (by omega) _ _) (by omega)) _
  · exact PS.alloc (PS.p5 (PS.put p5 HL.out (by omega) _ _) HL.out (by omega)) _

set_option maxRecDepth 100000 in
set_option maxHeartbeats 400000 in
theorem ppointer_any (c : PC) (w : World) (i d : Nat) (h : PS c w i d) :
    Calls Tryz.prog 113 #[.pointer (some ⟨c.pb, 0, none⟩)] w (Steps c w i d (fun w' t v => TR w' w.heap.size w'.heap.size t v) (pointerP c.L i)) := by
  have HP := hide h; have HL := hide h.low; have hb := h.lt; clear h
  go_enter Tryz.func113, Tryz.ntmps113
  go_wp2_with fail; go_at_call 51; refine (pnode_any c _ i d 12 (by exact PS.alloc HP.out _)).mono ?_; rintro e w1 ⟨rfl, hg1⟩; have p1 : PS c w1 i d := PS.kept (by exact PS.alloc HP.out _) hg1; have G1 : w.grownBy w1 (some c.pb) := gb_trans (by exact gb_alloc (gb_refl w (some c.pb)) _) (gb_some hg1 (some c.pb)); have s1 := hg1.size
  try simp at s1
  have r_1 : RB w1 (w.heap.size) := RB.kept (RB.new' (by simp)) hg1 (by simp); have r_lt1 := r_1.lt; obtain ⟨_,_,_,_,_,_,_,_,_,_,_⟩ := id r_1; go_wp2_with fail; go_at_call 52; refine (pwant_any c _ i d kPOINTER _ rfl (by decide) (by exact PS.alloc p1 _)).mono ?_; rintro e w2 (⟨x2, hr2, ht2, hg2⟩ | ⟨a2, j2, v2, hr2, rfl, -, hg2, p2, hi2⟩)
  · have HT := ht2
    obtain ⟨q, rfl, -⟩ := ht2
    exact ⟨rfl, Steps.err (P.bind_err hr2) HT (by exact gb_alloc G1 _) hg2⟩
  have HR2 : pointerP c.L i = _ := P.bind_ok hr2; have G2 : w.grownBy w2 (some c.pb) := gb_trans (by exact gb_alloc G1 _) hg2; have s2 := hg2.size
  try simp at s2
  have r_2 : RB w2 (w.heap.size) := RB.keep (by exact RB.alloc r_1 _) hg2 (by omega); have n_2 : NB w2 (w1.heap.size) (.int .i64 12) (.string ⟨#[]⟩) (.int .i64 0) (.int .i64 (pos c.L i)) (.slice none 0 0) := NB.keep (NB.new' (by simp)) hg2 (by omega); have r_lt2 := r_2.lt; have n_lt2 := n_2.lt; obtain ⟨_,_,_,_,_,_,_,_,_,_,_⟩ := id r_2; obtain ⟨_,_,_,_,_,_⟩ := id n_2; go_wp2_with fail; go_at_call 52; refine (pwant_any c _ j2 d kTO _ rfl (by decide) p2).mono ?_; rintro e w3 (⟨x3, hr3, ht3, hg3⟩ | ⟨a3, j3, v3, hr3, rfl, -, hg3, p3, hi3⟩)
  · have HT := ht3
    obtain ⟨q, rfl, -⟩ := ht3
    exact ⟨rfl, Steps.err (HR2.trans (P.bind_err hr3)) HT G2 hg3⟩
  have HR3 : pointerP c.L i = _ := HR2.trans (P.bind_ok hr3); have G3 : w.grownBy w3 (some c.pb) := gb_trans G2 hg3; have s3 := hg3.size
  try simp at s3
  have r_3 : RB w3 (w.heap.size) := RB.keep r_2 hg3 (by omega); have n_3 : NB w3 (w1.heap.size) (.int .i64 12) (.string ⟨#[]⟩) (.int .i64 0) (.int .i64 (pos c.L i)) (.slice none 0 0) := NB.keep n_2 hg3 (by omega); have r_lt3 := r_3.lt; have n_lt3 := n_3.lt; obtain ⟨_,_,_,_,_,_,_,_,_,_,_⟩ := id r_3; obtain ⟨_,_,_,_,_,_⟩ := id n_3; go_wp2_with fail; go_at_call 114; refine (ptypeName_any c _ j3 d p3).mono ?_; rintro e w4 (⟨x4, hr4, ht4, hg4⟩ | ⟨⟨k4, n4, m4, q4, l4⟩, j4, v4, hr4, rfl, ⟨sv4, rfl, lr4⟩, hg4, p4, hi4⟩)
  · have HT := ht4
    obtain ⟨q, rfl, -⟩ := ht4
    exact ⟨rfl, Steps.err (HR3.trans (P.bind_err hr4)) HT G3 hg4⟩
  have HR4 : pointerP c.L i = _ := HR3.trans (P.bind_ok hr4); simp only [T.kind, T.name, T.num, T.at', T.subs] at lr4 ⊢; obtain ⟨ad4, cp4, rfl⟩ := lr4.form; obtain ⟨b4, hb4, lr4⟩ : ∃ b, b = _ ∧ LR w4 (In b w4.heap.size) l4 (.slice ad4 l4.length cp4) := ⟨_, rfl, lr4⟩
  try simp at hb4
  have G4 : w.grownBy w4 (some c.pb) := gb_trans G3 hg4; have s4 := hg4.size
  try simp at s4
  have r_4 : RB w4 (w.heap.size) := RB.keep r_3 hg4 (by omega); have n_4 : NB w4 (w1.heap.size) (.int .i64 12) (.string ⟨#[]⟩) (.int .i64 0) (.int .i64 (pos c.L i)) (.slice none 0 0) := NB.keep n_3 hg4 (by omega); have r_lt4 := r_4.lt; have n_lt4 := n_4.lt; obtain ⟨_,_,_,_,_,_,_,_,_,_,_⟩ := id r_4; obtain ⟨_,_,_,_,_,_⟩ := id n_4; go_wp2; refine node_ret Tryz.results113 rfl (NB.alloc (RB.five ?_) _) rfl ?_
  · exact RB.put r_4 _ _ _
  refine Steps.ok (a := (T.mk 12 [] 0 (pos c.L i) [(T.mk k4 n4 m4 q4 l4)])) (HR4) ⟨_, rfl, ?_⟩ ?_ ?_ (by omega)
  · refine LR.wide (lo := b4) (hi := w4.heap.size + 1) (ts := [(T.mk k4 n4 m4 q4 l4)]) ?_ (by omega) (by first | omega | (simp <;> omega))
    exact (LR.build1 _ (t := (T.mk k4 n4 m4 q4 l4)) (sv := .slice ad4 l4.length cp4) (LR.wide (lo := b4) (hi := w4.heap.size) (ts := l4) (by exact LR.p5 (LR.put lr4 (by omega) _ _) (by omega)) (by omega) (by first | omega | (simp <;> omega))) (by simp) rfl (by omega))
  · exact gb_alloc (gb_p5 (gb_put G4 (by omega) _ _) (by omega)) _
  · exact PS.alloc (PS.p5 (PS.put p4 HL.out (by omega) _ _) HL.out (by omega)) _

set_option maxRecDepth 100000 in
set_option maxHeartbeats 400000 in
theorem presult_any (c : PC) (w : World) (i d : Nat) (h : PS c w i d) :
    Calls Tryz.prog 116 #[.pointer (some ⟨c.pb, 0, none⟩)] w (Steps c w i d (fun w' t v => TR w' w.heap.size w'.heap.size t v) (resultP c.L i)) := by
  have HP := hide h; have HL := hide h.low; have hb := h.lt; clear h
  go_enter Tryz.func116, Tryz.ntmps116
  go_wp2_with fail; go_at_call 85; refine (phas_any c _ i d s_colon _ rfl (by decide) (by exact PS.alloc HP.out _)).mono ?_; rintro e w1 ⟨b1, j1, hr1, rfl, hg1, p1, hi1⟩; have HR1 : resultP c.L i = _ := P.bind_ok hr1; have G1 : w.grownBy w1 (some c.pb) := gb_trans (by exact gb_alloc (gb_refl w (some c.pb)) _) hg1; have s1 := hg1.size
  try simp at s1
  have r_1 : RB w1 (w.heap.size) := RB.keep (RB.new' (by simp)) hg1 (by omega); have r_lt1 := r_1.lt; obtain ⟨_,_,_,_,_,_,_,_,_,_,_⟩ := id r_1; cases b1
  · have hj := hasP_no hr1
    go_wp2_with fail; go_at_call 51; refine (pnode_any c _ j1 d 0 p1).mono ?_; rintro e w2 ⟨rfl, hg2⟩; have p2 : PS c w2 j1 d := PS.kept p1 hg2; have G2 : w.grownBy w2 (some c.pb) := gb_trans G1 (gb_some hg2 (some c.pb)); have s2 := hg2.size
    try simp at s2
    have r_2 : RB w2 (w.heap.size) := RB.kept r_1 hg2 (by simp); have r_lt2 := r_2.lt; obtain ⟨_,_,_,_,_,_,_,_,_,_,_⟩ := id r_2; go_wp2; refine node_ret Tryz.results116 rfl (RB.five ?_) rfl ?_
    · exact r_2
    refine Steps.ok (a := (T.mk 0 [] 0 (pos c.L i) [])) (HR1) ⟨_, rfl, ?_⟩ ?_ ?_ (by omega)
    · exact LR.nil _ _
    · exact gb_p5 G2 (by omega)
    · exact PS.p5 p2 HL.out (by omega)
  · go_wp2_with fail
    go_at_call 114; refine (ptypeName_any c _ j1 d p1).mono ?_; rintro e w2 (⟨x2, hr2, ht2, hg2⟩ | ⟨⟨k2, n2, m2, q2, l2⟩, j2, v2, hr2, rfl, ⟨sv2, rfl, lr2⟩, hg2, p2, hi2⟩)
    · have HT := ht2
      obtain ⟨q, rfl, -⟩ := ht2
      exact ⟨rfl, Steps.err (HR1.trans hr2) HT G1 hg2⟩
    have HR2 : resultP c.L i = _ := HR1.trans hr2; simp only [T.kind, T.name, T.num, T.at', T.subs] at lr2 ⊢; obtain ⟨ad2, cp2, rfl⟩ := lr2.form; obtain ⟨b2, hb2, lr2⟩ : ∃ b, b = _ ∧ LR w2 (In b w2.heap.size) l2 (.slice ad2 l2.length cp2) := ⟨_, rfl, lr2⟩
    try simp at hb2
    have G2 : w.grownBy w2 (some c.pb) := gb_trans G1 hg2; have s2 := hg2.size
    try simp at s2
    have r_2 : RB w2 (w.heap.size) := RB.keep r_1 hg2 (by omega); have r_lt2 := r_2.lt; obtain ⟨_,_,_,_,_,_,_,_,_,_,_⟩ := id r_2; go_wp2; refine node_ret Tryz.results116 rfl (RB.five ?_) rfl ?_
    · exact r_2
    refine Steps.ok (a := (T.mk k2 n2 m2 q2 l2)) (HR2) ⟨_, rfl, ?_⟩ ?_ ?_ (by omega)
    · refine LR.wide (lo := b2) (hi := w2.heap.size) (ts := l2) ?_ (by omega) (by first | omega | (simp <;> omega))
      exact LR.p5 lr2 (by omega)
    · exact gb_p5 G2 (by omega)
    · exact PS.p5 p2 HL.out (by omega)

set_option maxRecDepth 100000 in
set_option maxHeartbeats 400000 in
theorem psection_any (c : PC) (w : World) (i d : Nat) (k : List UInt8) (sb : ByteArray) (hsb : sb.data.toList = k) (hk : k ≠ []) (g : Nat) (p : P T) (h : PS c w i d) (hp : Part c d (fun _ => True) g #[.pointer (some ⟨c.pb, 0, none⟩)] p) :
    Calls Tryz.prog 55 #[.pointer (some ⟨c.pb, 0, none⟩), .string sb, .func (.func g) #[.pointer (some ⟨c.pb, 0, none⟩)] #[]] w (Steps c w i d (fun w' t v => TR w' w.heap.size w'.heap.size t v) (sectionP c.L k p i)) := by
  have HP := hide h; have HL := hide h.low; have hb := h.lt; clear h
  go_enter Tryz.func55, Tryz.ntmps55
  go_wp2_with fail; go_at_call 51; refine (pnode_any c _ i d 1 (by exact PS.alloc HP.out _)).mono ?_; rintro e w1 ⟨rfl, hg1⟩; have p1 : PS c w1 i d := PS.kept (by exact PS.alloc HP.out _) hg1; have G1 : w.grownBy w1 (some c.pb) := gb_trans (by exact gb_alloc (gb_refl w (some c.pb)) _) (gb_some hg1 (some c.pb)); have s1 := hg1.size
  try simp at s1
  have r_1 : RB w1 (w.heap.size) := RB.kept (RB.new' (by simp)) hg1 (by simp); have r_lt1 := r_1.lt; obtain ⟨_,_,_,_,_,_,_,_,_,_,_⟩ := id r_1; go_wp2_with fail; go_at_call 85; refine (phas_any c _ i d k _ hsb hk (by exact PS.alloc p1 _)).mono ?_; rintro e w2 ⟨b2, j2, hr2, rfl, hg2, p2, hi2⟩; have HR2 : sectionP c.L k p i = _ := P.bind_ok hr2; have G2 : w.grownBy w2 (some c.pb) := gb_trans (by exact gb_alloc G1 _) hg2; have s2 := hg2.size
  try simp at s2
  have r_2 : RB w2 (w.heap.size) := RB.keep (by exact RB.alloc r_1 _) hg2 (by omega); have n_2 : NB w2 (w1.heap.size) (.int .i64 1) (.string ⟨#[]⟩) (.int .i64 0) (.int .i64 (pos c.L i)) (.slice none 0 0) := NB.keep (NB.new' (by simp)) hg2 (by omega); have r_lt2 := r_2.lt; have n_lt2 := n_2.lt; obtain ⟨_,_,_,_,_,_,_,_,_,_,_⟩ := id r_2; obtain ⟨_,_,_,_,_,_⟩ := id n_2; cases b2
  · go_wp2
    refine node_ret Tryz.results55 rfl (RB.five ?_) rfl ?_
    · exact r_2
    refine Steps.ok (a := (T.mk 1 [] 0 (pos c.L i) [])) (HR2) ⟨_, rfl, ?_⟩ ?_ ?_ (by omega)
    · exact LR.nil _ _
    · exact gb_p5 G2 (by omega)
    · exact PS.p5 p2 HL.out (by omega)
  · go_wp2_with fail
    go_at_call 91; refine (pdeclarations_any c _ j2 d g p p2 hp).mono ?_; rintro e w3 (⟨x3, hr3, ht3, hg3⟩ | ⟨a3, j3, v3, hr3, rfl, ⟨lr3, len3⟩, hg3, p3, hi3⟩)
    · have HT := ht3
      obtain ⟨q, rfl, -⟩ := ht3
      exact ⟨rfl, Steps.err (HR2.trans (P.bind_err hr3)) HT G2 hg3⟩
    have HR3 : sectionP c.L k p i = _ := HR2.trans (P.bind_ok hr3); obtain ⟨ad3, cp3, rfl⟩ := lr3.form; obtain ⟨b3, hb3, lr3⟩ : ∃ b, b = _ ∧ LR w3 (In b w3.heap.size) a3 (.slice ad3 a3.length cp3) := ⟨_, rfl, lr3⟩
    try simp at hb3
    have G3 : w.grownBy w3 (some c.pb) := gb_trans G2 hg3; have s3 := hg3.size
    try simp at s3
    have r_3 : RB w3 (w.heap.size) := RB.keep r_2 hg3 (by omega); have n_3 : NB w3 (w1.heap.size) (.int .i64 1) (.string ⟨#[]⟩) (.int .i64 0) (.int .i64 (pos c.L i)) (.slice none 0 0) := NB.keep n_2 hg3 (by omega); have r_lt3 := r_3.lt; have n_lt3 := n_3.lt; obtain ⟨_,_,_,_,_,_,_,_,_,_,_⟩ := id r_3; obtain ⟨_,_,_,_,_,_⟩ := id n_3; go_wp2; refine node_ret Tryz.results55 rfl (RB.five ?_) rfl ?_
    · exact RB.put r_3 _ _ _
    refine Steps.ok (a := (T.mk 1 [] 0 (pos c.L i) a3)) (HR3) ⟨_, rfl, ?_⟩ ?_ ?_ (by omega)
    · refine LR.wide (lo := b3) (hi := w3.heap.size) (ts := a3) ?_ (by omega) (by first | omega | (simp <;> omega))
      exact LR.p5 (LR.put lr3 (by omega) _ _) (by omega)
    · exact gb_p5 (gb_put G3 (by omega) _ _) (by omega)
    · exact PS.p5 (PS.put p3 HL.out (by omega) _ _) HL.out (by omega)

set_option maxRecDepth 100000 in
set_option maxHeartbeats 400000 in
theorem pparameters_any (c : PC) (w : World) (i d : Nat) (h : PS c w i d) (hp : Part c d (fun _ => True) 128 #[.pointer (some ⟨c.pb, 0, none⟩)] (parameterP c.L)) :
    Calls Tryz.prog 115 #[.pointer (some ⟨c.pb, 0, none⟩)] w (Steps c w i d (fun w' t v => TR w' w.heap.size w'.heap.size t v) (parametersP c.L i)) := by
  have HP := hide h; have HL := hide h.low; have hb := h.lt; clear h
  go_enter Tryz.func115, Tryz.ntmps115
  go_wp2_with fail; go_at_call 51; refine (pnode_any c _ i d 1 (by exact PS.alloc HP.out _)).mono ?_; rintro e w1 ⟨rfl, hg1⟩; have p1 : PS c w1 i d := PS.kept (by exact PS.alloc HP.out _) hg1; have G1 : w.grownBy w1 (some c.pb) := gb_trans (by exact gb_alloc (gb_refl w (some c.pb)) _) (gb_some hg1 (some c.pb)); have s1 := hg1.size
  try simp at s1
  have r_1 : RB w1 (w.heap.size) := RB.kept (RB.new' (by simp)) hg1 (by simp); have r_lt1 := r_1.lt; obtain ⟨_,_,_,_,_,_,_,_,_,_,_⟩ := id r_1; go_wp2_with fail; go_at_call 38; refine (pwordq_any c _ i d (by exact PS.alloc p1 _)).mono ?_; rintro e w2 ⟨rfl, hg2⟩; have p2 : PS c w2 i d := PS.kept (by exact PS.alloc p1 _) hg2; have G2 : w.grownBy w2 (some c.pb) := gb_trans (by exact gb_alloc G1 _) (gb_some hg2 (some c.pb)); have s2 := hg2.size
  try simp at s2
  have r_2 : RB w2 (w.heap.size) := RB.kept (by exact RB.alloc r_1 _) hg2 (by simp); have n_2 : NB w2 (w1.heap.size) (.int .i64 1) (.string ⟨#[]⟩) (.int .i64 0) (.int .i64 (pos c.L i)) (.slice none 0 0) := NB.kept (NB.new' (by simp)) hg2 (by simp); have r_lt2 := r_2.lt; have n_lt2 := n_2.lt; obtain ⟨_,_,_,_,_,_,_,_,_,_,_⟩ := id r_2; obtain ⟨_,_,_,_,_,_⟩ := id n_2
  by_cases hw : wd c.L i = s_lp
  · have hwb : (wd c.L i == [40]) = true := by rw [hw]; decide
    have HRx1 : parametersP c.L i = _ := if_pos hw; go_wp2_with fail; go_at_call 127; refine (pbracketed_any c _ i d 128 (parameterP c.L) s_semi _ rfl (by decide) p2 hp).mono ?_; rintro e w3 (⟨x3, hr3, ht3, hg3⟩ | ⟨a3, j3, v3, hr3, rfl, ⟨lr3, len3⟩, hg3, p3, hi3⟩)
    · have HT := ht3
      obtain ⟨q, rfl, -⟩ := ht3
      exact ⟨rfl, Steps.err (HRx1.trans (P.bind_err hr3)) HT G2 hg3⟩
    have HR3 : parametersP c.L i = _ := HRx1.trans (P.bind_ok hr3); obtain ⟨ad3, cp3, rfl⟩ := lr3.form; obtain ⟨b3, hb3, lr3⟩ : ∃ b, b = _ ∧ LR w3 (In b w3.heap.size) a3 (.slice ad3 a3.length cp3) := ⟨_, rfl, lr3⟩
    try simp at hb3
    have G3 : w.grownBy w3 (some c.pb) := gb_trans G2 hg3; have s3 := hg3.size
    try simp at s3
    have r_3 : RB w3 (w.heap.size) := RB.keep r_2 hg3 (by omega); have n_3 : NB w3 (w1.heap.size) (.int .i64 1) (.string ⟨#[]⟩) (.int .i64 0) (.int .i64 (pos c.L i)) (.slice none 0 0) := NB.keep n_2 hg3 (by omega); have r_lt3 := r_3.lt; have n_lt3 := n_3.lt; obtain ⟨_,_,_,_,_,_,_,_,_,_,_⟩ := id r_3; obtain ⟨_,_,_,_,_,_⟩ := id n_3; go_wp2; refine node_ret Tryz.results115 rfl (RB.five ?_) rfl ?_
    · exact RB.put r_3 _ _ _
    refine Steps.ok (a := (T.mk 1 [] 0 (pos c.L i) a3)) (HR3) ⟨_, rfl, ?_⟩ ?_ ?_ (by omega)
    · refine LR.wide (lo := b3) (hi := w3.heap.size) (ts := a3) ?_ (by omega) (by first | omega | (simp <;> omega))
      exact LR.p5 (LR.put lr3 (by omega) _ _) (by omega)
    · exact gb_p5 (gb_put G3 (by omega) _ _) (by omega)
    · exact PS.p5 (PS.put p3 HL.out (by omega) _ _) HL.out (by omega)
  · have hwb : (wd c.L i == [40]) = false := by simpa [s_lp] using hw
    have HRx2 : parametersP c.L i = _ := if_neg hw; go_wp2; refine node_ret Tryz.results115 rfl (RB.five ?_) rfl ?_
    · exact r_2
    refine Steps.ok (a := (T.mk 1 [] 0 (pos c.L i) [])) (HRx2) ⟨_, rfl, ?_⟩ ?_ ?_ (by omega)
    · exact LR.nil _ _
    · exact gb_p5 G2 (by omega)
    · exact PS.p5 p2 HL.out (by omega)
end Go.Proofs.YtbphiiaoncakfaaGreatDoor

/- Types, and a module's acts. -/
namespace Go.Proofs.YtbphiiaoncakfaaGreatDoor
open Go.RowKit

set_option maxRecDepth 100000 in
set_option maxHeartbeats 1000000 in
theorem ptypeItself_any (c : PC) (w : World) (i d : Nat) (h : PS c w i d) (hR : PartOK c d 112 (recordP c.L)) :
    Calls Tryz.prog 94 #[.pointer (some ⟨c.pb, 0, none⟩)] w (Steps c w i d (fun w' t v => TR w' w.heap.size w'.heap.size t v) (typeItselfP c.L i)) := by
  have HP := hide h; have HL := hide h.low; have hb := h.lt; clear h
  go_enter Tryz.func94, Tryz.ntmps94
  go_wp2_with fail; go_at_call 38; refine (pwordq_any c _ i d (by exact PS.alloc HP.out _)).mono ?_; rintro e w1 ⟨rfl, hg1⟩; have p1 : PS c w1 i d := PS.kept (by exact PS.alloc HP.out _) hg1; have G1 : w.grownBy w1 (some c.pb) := gb_trans (by exact gb_alloc (gb_refl w (some c.pb)) _) (gb_some hg1 (some c.pb)); have s1 := hg1.size
  try simp at s1
  have r_1 : RB w1 (w.heap.size) := RB.kept (RB.new' (by simp)) hg1 (by simp); have r_lt1 := r_1.lt; obtain ⟨_,_,_,_,_,_,_,_,_,_,_⟩ := id r_1
  by_cases h1 : wd c.L i = kARRAY
  · have hw1 : (wd c.L i == [65, 82, 82, 65, 89]) = true := by rw [h1]; decide
    have HRx1 : typeItselfP c.L i = arrayP c.L i := by unfold typeItselfP; rw [if_pos h1]
    go_wp2_with fail; go_at_call 111; refine (parray_any c _ i d p1).mono ?_; rintro e w2 (⟨x2, hr2, ht2, hg2⟩ | ⟨⟨k2, n2, m2, q2, l2⟩, j2, v2, hr2, rfl, ⟨sv2, rfl, lr2⟩, hg2, p2, hi2⟩)
    · have HT := ht2
      obtain ⟨q, rfl, -⟩ := ht2
      exact ⟨rfl, Steps.err (HRx1.trans hr2) HT G1 hg2⟩
    have HR2 : typeItselfP c.L i = _ := HRx1.trans hr2; simp only [T.kind, T.name, T.num, T.at', T.subs] at lr2 ⊢; obtain ⟨ad2, cp2, rfl⟩ := lr2.form; obtain ⟨b2, hb2, lr2⟩ : ∃ b, b = _ ∧ LR w2 (In b w2.heap.size) l2 (.slice ad2 l2.length cp2) := ⟨_, rfl, lr2⟩
    try simp at hb2
    have G2 : w.grownBy w2 (some c.pb) := gb_trans G1 hg2; have s2 := hg2.size
    try simp at s2
    have r_2 : RB w2 (w.heap.size) := RB.keep r_1 hg2 (by omega); have r_lt2 := r_2.lt; obtain ⟨_,_,_,_,_,_,_,_,_,_,_⟩ := id r_2; go_wp2; refine node_ret Tryz.results94 rfl (RB.five ?_) rfl ?_
    · exact r_2
    refine Steps.ok (a := (T.mk k2 n2 m2 q2 l2)) (HR2) ⟨_, rfl, ?_⟩ ?_ ?_ (by omega)
    · refine LR.wide (lo := b2) (hi := w2.heap.size) (ts := l2) ?_ (by omega) (by first | omega | (simp <;> omega))
      exact LR.p5 lr2 (by omega)
    · exact gb_p5 G2 (by omega)
    · exact PS.p5 p2 HL.out (by omega)
  have hw1 : (wd c.L i == [65, 82, 82, 65, 89]) = false := by simpa [kARRAY] using h1
  by_cases h2 : wd c.L i = kRECORD
  · have hw2 : (wd c.L i == [82, 69, 67, 79, 82, 68]) = true := by rw [h2]; decide
    have HRx2 : typeItselfP c.L i = recordP c.L i := by unfold typeItselfP; rw [if_neg h1, if_pos h2]
    go_wp2_with fail; go_at_call 112; refine (hR _ i p1).mono ?_; rintro e w2 (⟨x2, hr2, ht2, hg2⟩ | ⟨⟨k2, n2, m2, q2, l2⟩, j2, v2, hr2, rfl, ⟨sv2, rfl, lr2⟩, hg2, p2, hi2⟩)
    · have HT := ht2
      obtain ⟨q, rfl, -⟩ := ht2
      exact ⟨rfl, Steps.err (HRx2.trans hr2) HT G1 hg2⟩
    have HR2 : typeItselfP c.L i = _ := HRx2.trans hr2; simp only [T.kind, T.name, T.num, T.at', T.subs] at lr2 ⊢; obtain ⟨ad2, cp2, rfl⟩ := lr2.form; obtain ⟨b2, hb2, lr2⟩ : ∃ b, b = _ ∧ LR w2 (In b w2.heap.size) l2 (.slice ad2 l2.length cp2) := ⟨_, rfl, lr2⟩
    try simp at hb2
    have G2 : w.grownBy w2 (some c.pb) := gb_trans G1 hg2; have s2 := hg2.size
    try simp at s2
    have r_2 : RB w2 (w.heap.size) := RB.keep r_1 hg2 (by omega); have r_lt2 := r_2.lt; obtain ⟨_,_,_,_,_,_,_,_,_,_,_⟩ := id r_2; go_wp2; refine node_ret Tryz.results94 rfl (RB.five ?_) rfl ?_
    · exact r_2
    refine Steps.ok (a := (T.mk k2 n2 m2 q2 l2)) (HR2) ⟨_, rfl, ?_⟩ ?_ ?_ (by omega)
    · refine LR.wide (lo := b2) (hi := w2.heap.size) (ts := l2) ?_ (by omega) (by first | omega | (simp <;> omega))
      exact LR.p5 lr2 (by omega)
    · exact gb_p5 G2 (by omega)
    · exact PS.p5 p2 HL.out (by omega)
  have hw2 : (wd c.L i == [82, 69, 67, 79, 82, 68]) = false := by simpa [kRECORD] using h2
  by_cases h3 : wd c.L i = kPOINTER
  · have hw3 : (wd c.L i == [80, 79, 73, 78, 84, 69, 82]) = true := by rw [h3]; decide
    have HRx3 : typeItselfP c.L i = pointerP c.L i := by unfold typeItselfP; rw [if_neg h1, if_neg h2, if_pos h3]
    go_wp2_with fail; go_at_call 113; refine (ppointer_any c _ i d p1).mono ?_; rintro e w2 (⟨x2, hr2, ht2, hg2⟩ | ⟨⟨k2, n2, m2, q2, l2⟩, j2, v2, hr2, rfl, ⟨sv2, rfl, lr2⟩, hg2, p2, hi2⟩)
    · have HT := ht2
      obtain ⟨q, rfl, -⟩ := ht2
      exact ⟨rfl, Steps.err (HRx3.trans hr2) HT G1 hg2⟩
    have HR2 : typeItselfP c.L i = _ := HRx3.trans hr2; simp only [T.kind, T.name, T.num, T.at', T.subs] at lr2 ⊢; obtain ⟨ad2, cp2, rfl⟩ := lr2.form; obtain ⟨b2, hb2, lr2⟩ : ∃ b, b = _ ∧ LR w2 (In b w2.heap.size) l2 (.slice ad2 l2.length cp2) := ⟨_, rfl, lr2⟩
    try simp at hb2
    have G2 : w.grownBy w2 (some c.pb) := gb_trans G1 hg2; have s2 := hg2.size
    try simp at s2
    have r_2 : RB w2 (w.heap.size) := RB.keep r_1 hg2 (by omega); have r_lt2 := r_2.lt; obtain ⟨_,_,_,_,_,_,_,_,_,_,_⟩ := id r_2; go_wp2; refine node_ret Tryz.results94 rfl (RB.five ?_) rfl ?_
    · exact r_2
    refine Steps.ok (a := (T.mk k2 n2 m2 q2 l2)) (HR2) ⟨_, rfl, ?_⟩ ?_ ?_ (by omega)
    · refine LR.wide (lo := b2) (hi := w2.heap.size) (ts := l2) ?_ (by omega) (by first | omega | (simp <;> omega))
      exact LR.p5 lr2 (by omega)
    · exact gb_p5 G2 (by omega)
    · exact PS.p5 p2 HL.out (by omega)
  have hw3 : (wd c.L i == [80, 79, 73, 78, 84, 69, 82]) = false := by simpa [kPOINTER] using h3
  have HRx4 : typeItselfP c.L i = .error (refuseAt c.L i) := by unfold typeItselfP; rw [if_neg h1, if_neg h2, if_neg h3]
  go_wp2_with fail; go_at_call 39; refine (prefuse_any c _ i d p1).mono ?_; rintro e w9 ⟨ht9, hg9⟩; have HT := ht9; obtain ⟨q, rfl, -⟩ := ht9
  exact ⟨rfl, Steps.err HRx4 HT G1 (gb_some hg9 _)⟩

set_option maxRecDepth 100000 in
set_option maxHeartbeats 400000 in
theorem pmoduleActs_any (c : PC) (w : World) (i d : Nat) (A : P T) (h : PS c w i d) (hA : ActsOK c d A) :
    Calls Tryz.prog 60 #[.pointer (some ⟨c.pb, 0, none⟩)] w (Steps c w i d (fun w' t v => TR w' w.heap.size w'.heap.size t v) (((hasP c.L kBEGIN).bind (fun b => if b = true then A else P.ret (.mk 1 [] 0 (pos c.L i) []))) i)) := by
  have HP := hide h; have HL := hide h.low; have hb := h.lt; clear h
  go_enter Tryz.func60, Tryz.ntmps60
  go_wp2_with fail; go_at_call 85; refine (phas_any c _ i d kBEGIN _ rfl (by decide) (by exact PS.alloc HP.out _)).mono ?_; rintro e w1 ⟨b1, j1, hr1, rfl, hg1, p1, hi1⟩; have HR1 : ((hasP c.L kBEGIN).bind (fun b => if b = true then A else P.ret (.mk 1 [] 0 (pos c.L i) []))) i = _ := P.bind_ok hr1; have G1 : w.grownBy w1 (some c.pb) := gb_trans (by exact gb_alloc (gb_refl w (some c.pb)) _) hg1; have s1 := hg1.size
  try simp at s1
  have r_1 : RB w1 (w.heap.size) := RB.keep (RB.new' (by simp)) hg1 (by omega); have r_lt1 := r_1.lt; obtain ⟨_,_,_,_,_,_,_,_,_,_,_⟩ := id r_1; cases b1
  · have hj := hasP_no hr1
    go_wp2_with fail; go_at_call 51; refine (pnode_any c _ j1 d 1 p1).mono ?_; rintro e w2 ⟨rfl, hg2⟩; have p2 : PS c w2 j1 d := PS.kept p1 hg2; have G2 : w.grownBy w2 (some c.pb) := gb_trans G1 (gb_some hg2 (some c.pb)); have s2 := hg2.size
    try simp at s2
    have r_2 : RB w2 (w.heap.size) := RB.kept r_1 hg2 (by simp); have r_lt2 := r_2.lt; obtain ⟨_,_,_,_,_,_,_,_,_,_,_⟩ := id r_2; go_wp2; refine node_ret Tryz.results60 rfl (RB.five ?_) rfl ?_
    · exact r_2
    refine Steps.ok (a := (T.mk 1 [] 0 (pos c.L i) [])) (HR1) ⟨_, rfl, ?_⟩ ?_ ?_ (by omega)
    · exact LR.nil _ _
    · exact gb_p5 G2 (by omega)
    · exact PS.p5 p2 HL.out (by omega)
  · go_wp2_with fail
    go_at_call 97; refine (hA _ j1 p1).mono ?_; rintro e w2 (⟨x2, hr2, ht2, hg2⟩ | ⟨⟨k2, n2, m2, q2, l2⟩, j2, v2, hr2, rfl, ⟨sv2, rfl, lr2⟩, hg2, p2, hi2⟩)
    · have HT := ht2
      obtain ⟨q, rfl, -⟩ := ht2
      exact ⟨rfl, Steps.err (HR1.trans hr2) HT G1 hg2⟩
    have HR2 : ((hasP c.L kBEGIN).bind (fun b => if b = true then A else P.ret (.mk 1 [] 0 (pos c.L i) []))) i = _ := HR1.trans hr2; simp only [T.kind, T.name, T.num, T.at', T.subs] at lr2 ⊢; obtain ⟨ad2, cp2, rfl⟩ := lr2.form; obtain ⟨b2, hb2, lr2⟩ : ∃ b, b = _ ∧ LR w2 (In b w2.heap.size) l2 (.slice ad2 l2.length cp2) := ⟨_, rfl, lr2⟩
    try simp at hb2
    have G2 : w.grownBy w2 (some c.pb) := gb_trans G1 hg2; have s2 := hg2.size
    try simp at s2
    have r_2 : RB w2 (w.heap.size) := RB.keep r_1 hg2 (by omega); have r_lt2 := r_2.lt; obtain ⟨_,_,_,_,_,_,_,_,_,_,_⟩ := id r_2; go_wp2; refine node_ret Tryz.results60 rfl (RB.five ?_) rfl ?_
    · exact r_2
    refine Steps.ok (a := (T.mk k2 n2 m2 q2 l2)) (HR2) ⟨_, rfl, ?_⟩ ?_ ?_ (by omega)
    · refine LR.wide (lo := b2) (hi := w2.heap.size) (ts := l2) ?_ (by omega) (by first | omega | (simp <;> omega))
      exact LR.p5 lr2 (by omega)
    · exact gb_p5 G2 (by omega)
    · exact PS.p5 p2 HL.out (by omega)

set_option maxRecDepth 100000 in
set_option maxHeartbeats 400000 in
theorem pwhole_any (c : PC) (w : World) (i d : Nat) (h : PS c w i d) (hM : PartOK c d 37 (moduleP c.L)) :
    Calls Tryz.prog 18 #[.pointer (some ⟨c.pb, 0, none⟩)] w (Steps c w i d (fun w' t v => TR w' w.heap.size w'.heap.size t v) (wholeP c.L i)) := by
  have HP := hide h; have HL := hide h.low; have hb := h.lt; clear h
  go_enter Tryz.func18, Tryz.ntmps18
  go_wp2_with fail; go_at_call 37; refine (hM _ i (by exact PS.alloc HP.out _)).mono ?_; rintro e w1 (⟨x1, hr1, ht1, hg1⟩ | ⟨⟨k1, n1, m1, q1, l1⟩, j1, v1, hr1, rfl, ⟨sv1, rfl, lr1⟩, hg1, p1, hi1⟩)
  · have HT := ht1
    obtain ⟨q, rfl, -⟩ := ht1
    exact ⟨rfl, Steps.err (P.bind_err hr1) HT (by exact gb_alloc (gb_refl w (some c.pb)) _) hg1⟩
  have HR1 : wholeP c.L i = _ := P.bind_ok hr1; simp only [T.kind, T.name, T.num, T.at', T.subs] at lr1 ⊢; obtain ⟨ad1, cp1, rfl⟩ := lr1.form; obtain ⟨b1, hb1, lr1⟩ : ∃ b, b = _ ∧ LR w1 (In b w1.heap.size) l1 (.slice ad1 l1.length cp1) := ⟨_, rfl, lr1⟩
  try simp at hb1
  have G1 : w.grownBy w1 (some c.pb) := gb_trans (by exact gb_alloc (gb_refl w (some c.pb)) _) hg1; have s1 := hg1.size
  try simp at s1
  have r_1 : RB w1 (w.heap.size) := RB.keep (RB.new' (by simp)) hg1 (by omega); have r_lt1 := r_1.lt; obtain ⟨_,_,_,_,_,_,_,_,_,_,_⟩ := id r_1; go_wp2_with fail; go_at_call 38; refine (pwordq_any c _ j1 d (by exact PS.alloc p1 _)).mono ?_; rintro e w2 ⟨rfl, hg2⟩; have p2 : PS c w2 j1 d := PS.kept (by exact PS.alloc p1 _) hg2; have G2 : w.grownBy w2 (some c.pb) := gb_trans (by exact gb_alloc G1 _) (gb_some hg2 (some c.pb)); have s2 := hg2.size
  try simp at s2
  have r_2 : RB w2 (w.heap.size) := RB.kept (by exact RB.alloc r_1 _) hg2 (by simp); have n_2 : NB w2 (w1.heap.size) (.int .i64 k1) (.string ⟨n1.toArray⟩) (.int .i64 m1) (.int .i64 q1) (.slice ad1 l1.length cp1) := NB.kept (NB.new' (by simp)) hg2 (by simp); have t_2 : LR w2 (In (b1) (w1.heap.size)) (l1) (.slice ad1 l1.length cp1) := LR.grown (by exact LR.alloc lr1 _) hg2; have r_lt2 := r_2.lt; have n_lt2 := n_2.lt; obtain ⟨_,_,_,_,_,_,_,_,_,_,_⟩ := id r_2; obtain ⟨_,_,_,_,_,_⟩ := id n_2
  by_cases h1 : wd c.L j1 = []
  · have hx : (wd c.L j1).isEmpty = true := by rw [h1]; rfl
    have HRx1 : wholeP c.L i = _ := HR1.trans (if_pos h1); go_wp2; refine node_ret Tryz.results18 rfl (RB.five ?_) rfl ?_
    · exact r_2
    refine Steps.ok (a := (T.mk k1 n1 m1 q1 l1)) (HRx1) ⟨_, rfl, ?_⟩ ?_ ?_ (by omega)
    · refine LR.wide (lo := b1) (hi := w1.heap.size) (ts := l1) ?_ (by omega) (by first | omega | (simp <;> omega))
      exact LR.p5 t_2 (by omega)
    · exact gb_p5 G2 (by omega)
    · exact PS.p5 p2 HL.out (by omega)
  have hx := isEmpty_false h1; have HRx2 : wholeP c.L i = _ := HR1.trans (if_neg h1); go_wp2_with fail; go_at_call 39; refine (prefuse_any c _ j1 d p2).mono ?_; rintro e w9 ⟨ht9, hg9⟩; have HT := ht9; obtain ⟨q, rfl, -⟩ := ht9
  exact ⟨rfl, Steps.err (HRx2) HT G2 (gb_some hg9 _)⟩
end Go.Proofs.YtbphiiaoncakfaaGreatDoor
