/- The program's judge of shapes: loops and records, whose rules are made while they are handed on. -/
import Derived.Test.YtlkokcnbbihljaaGreatDoorG18
import Derived.Deep.RegionHeld
namespace Go.Proofs.YtlkokcnbbihljaaGreatDoor
open Go.RowKit Go.Maps Go.WideMaps Go.WideElems

theorem Box.all5 {w : World} {b : Nat} {k : Int} {x : List UInt8} {m p : Int} {ts : List T} {sv : Value} (h : Box w b (.mk k x m p ts) sv) : w.cell? ⟨b, 0, none⟩ = some (.int .i64 k) ∧ w.cell? ⟨b, 1, none⟩ = some (.string ⟨x.toArray⟩) ∧ w.cell? ⟨b, 2, none⟩ = some (.int .i64 m) ∧ w.cell? ⟨b, 3, none⟩ = some (.int .i64 p) ∧ w.cell? ⟨b, 4, none⟩ = some sv :=
  ⟨h.c0, h.c1, h.c2, h.c3, h.c4⟩
theorem Box.past {w w' : World} {b jb : Nat} {v : Value} {t : T} {sv : Value} {x : Bool} {A B : Prop} {C : Value → Prop} (h : Box w b t sv) (hs : free jb v b) (h9 : (x = false ∧ A ∧ w.grownBy w' none) ∨ (x = true ∧ B ∧ ∃ v', C v' ∧ JK jb v w w' v')) : Box w' b t sv := by
  rcases h9 with ⟨_, _, hg⟩ | ⟨_, _, v', _, hk⟩
  · exact h.kept hg
  · exact ⟨hk.kb.cell h.c0 hs, hk.kb.cell h.c1 hs, hk.kb.cell h.c2 hs, hk.kb.cell h.c3 hs, hk.kb.cell h.c4 hs⟩
theorem below_one (w0 : World) (jb lb ob : Nat) (w : World) (l : List (T × Rule)) (v : Value) (t : T) (sv : Value) (rs : List Rule) (sl : Value) (h : JS w0 jb lb ob w l v) (hlen : l.length + t.subs.length ≤ 20000) (hrs : rs.length ≤ 100) (ha : AT w0 t.subs sv) (hr : RL w jb v rs sl) :
    Calls Tryz.prog 78 #[ptr jb, nodeV t sv, sl] w fun e w' => ∃ b : Bool, e = .returned (.bool b) ∧ ((b = false ∧ t.subs.length ≠ rs.length ∧ w.grownBy w' none) ∨ (b = true ∧ t.subs.length = rs.length ∧ ∃ v', JS w0 jb lb ob w' (l ++ zipR t.subs rs) v' ∧ JK jb v w w' v')) :=
  (below_any w0 jb lb ob w l v t sv rs sl h hlen hrs ha hr).mono (fun e w' hh => by
    rcases hh with ⟨h1, h2, h3⟩ | ⟨h1, v', h2, h3, h4⟩
    · exact ⟨false, h2, .inl ⟨rfl, h1, h3⟩⟩
    · exact ⟨true, h2, .inr ⟨rfl, h1, v', h3, h4⟩⟩)
theorem first_one (w0 : World) (jb lb ob : Nat) (w : World) (l : List (T × Rule)) (v : Value) (t : T) (sv : Value) (r q : Rule) (rv qv : Value) (h : JS w0 jb lb ob w l v) (hlen : l.length + t.subs.length ≤ 20000) (ha : AT w0 t.subs sv) (hr : RV w jb (free jb v) r rv) (hq : RV w jb (free jb v) q qv) :
    Calls Tryz.prog 118 #[ptr jb, nodeV t sv, rv, qv] w fun e w' => ∃ b : Bool, e = .returned (.bool b) ∧ ((b = false ∧ t.subs = [] ∧ w.grownBy w' none) ∨ (b = true ∧ 0 < t.subs.length ∧ ∃ v', JS w0 jb lb ob w' (l ++ firstR t r q) v' ∧ JK jb v w w' v')) :=
  (first_any w0 jb lb ob w l v t sv r q rv qv h hlen ha hr hq).mono (fun e w' hh => by
    rcases hh with ⟨h1, h2, h3⟩ | ⟨h1, v', h2, h3, h4⟩
    · exact ⟨false, h2, .inl ⟨rfl, h1, h3⟩⟩
    · exact ⟨true, h2, .inr ⟨rfl, h1, v', h3, h4⟩⟩)
set_option maxRecDepth 1000000 in
set_option maxHeartbeats 2000000 in
theorem jact17 (w0 : World) (jb lb ob : Nat) (w : World) (l : List (T × Rule)) (v : Value) (x : List UInt8) (m p : Int) (ts : List T) (sv : Value) (h : JS w0 jb lb ob w l v) (hlen : l.length + ts.length ≤ 20000) (hf : Fits (.mk 17 x m p ts)) (ha : AT w0 (T.mk 17 x m p ts).subs sv) :
    Calls Tryz.prog 86 #[ptr jb, .agg #[.int .i64 17, .string ⟨x.toArray⟩, .int .i64 m, .int .i64 p, sv]] w (JR w0 jb lb ob l v w .act (.mk 17 x m p ts)) := by
  have HJ := hide h
  have HF := hide hf
  have HA := hide ha
  have hjl := h.lt
  have HV : Hid (∀ b, v.ownBlock = some b → b < w.heap.size) := fun b hb => (h.room hb).2
  obtain ⟨a, n, c, rfl, hn, hc, hl⟩ := ha.any
  change ts.length = n at hl
  subst hl
  have HS : Hid (stepR .act (.mk 17 x m p ts) = onlyIf (headB (.mk 17 x m p ts) 17 false 0 2) (zipR ts [.expression, .list .act])) := rfl
  cases h0 : ((T.mk 17 x m p ts).name.isEmpty && withinB (.mk 17 x m p ts) 0)
  · have HN : Hid (stepR .act (.mk 17 x m p ts) = none) := HS.out.trans (onlyIf_no (by rw [head_unnamed (t := (.mk 17 x m p ts)) (k := 17) rfl, h0]; rfl))
    clear h hf ha
    go_enter Tryz.func86, Tryz.ntmps86
    go_wp2_with fail
    go_at_call 115
    refine (unnamed_any (.mk 17 x m p ts) _ 0 _ ⟨_, _, _, rfl⟩).mono ?_
    rintro e w1 ⟨rfl, hg1⟩
    rw [h0]
    have GW1 : Hid (w.grownBy w1 none) := gb_trans (gb_alloc (gb_refl w none) _) hg1
    have B1 := hide ((Box.new w (.mk 17 x m p ts) (.slice a ts.length c) 24).kept hg1)
    obtain ⟨b0_1, b1_1, b2_1, b3_1, b4_1⟩ := B1.out
    change _ = some (Value.int .i64 m) at b2_1
    change _ = some (Value.int .i64 17) at b0_1
    clear hg1
    go_wp2_with fail
    go_ret
    exact .inl ⟨HN.out, rfl, gb_trans HJ.out.gb (by repeat (first | with_reducible exact GW1.out | with_reducible refine gb_put ?_ (by omega) _ _ | with_reducible refine gb_alloc ?_ _ | with_reducible refine gb_drewN ?_ _ | with_reducible refine gb_drew ?_))⟩
  · skip
    clear h hf ha
    go_enter Tryz.func86, Tryz.ntmps86
    go_wp2_with fail
    go_at_call 115
    refine (unnamed_any (.mk 17 x m p ts) _ 0 _ ⟨_, _, _, rfl⟩).mono ?_
    rintro e w1 ⟨rfl, hg1⟩
    rw [h0]
    have GW1 : Hid (w.grownBy w1 none) := gb_trans (gb_alloc (gb_refl w none) _) hg1
    have B1 := hide ((Box.new w (.mk 17 x m p ts) (.slice a ts.length c) 24).kept hg1)
    obtain ⟨b0_1, b1_1, b2_1, b3_1, b4_1⟩ := B1.out
    change _ = some (Value.int .i64 m) at b2_1
    change _ = some (Value.int .i64 17) at b0_1
    clear hg1
    have hsz1 := GW1.out.size
    go_wp2_with fail
    go_region_held (fun w' => w'.cell? ⟨w.heap.size, 0, none⟩ = some (.int .i64 17) ∧ w'.cell? ⟨w.heap.size, 1, none⟩ = some (.string ⟨x.toArray⟩) ∧ w'.cell? ⟨w.heap.size, 2, none⟩ = some (.int .i64 m) ∧ w'.cell? ⟨w.heap.size, 3, none⟩ = some (.int .i64 p) ∧ w'.cell? ⟨w.heap.size, 4, none⟩ = some (.slice a ts.length c)) (first | exact B9.out.all5 | exact (B2.out.kept (by repeat (first | with_reducible exact gb_refl w2 none | with_reducible refine gb_put ?_ (by omega) _ _ | with_reducible refine gb_alloc ?_ _ | with_reducible refine gb_drewN ?_ _ | with_reducible refine gb_drew ?_))).all5 | exact (B1.out.kept (by repeat (first | with_reducible exact gb_refl w1 none | with_reducible refine gb_put ?_ (by omega) _ _ | with_reducible refine gb_alloc ?_ _ | with_reducible refine gb_drewN ?_ _ | with_reducible refine gb_drew ?_))).all5) (first
      | (go_at_call 79
         refine (list_any jb _ v .act _ (by first | omega | (simp; omega)) (fun b hb => by have := HV.out b hb; first | omega | (simp; omega)) (.meth .act _ rfl)).mono ?_
         rintro e w2 ⟨g2, fa2, ca2, rfl, r2, hg2⟩
         have GW2 : Hid (w.grownBy w2 none) := gb_trans (by repeat (first | with_reducible exact GW1.out | with_reducible refine gb_put ?_ (by omega) _ _ | with_reducible refine gb_alloc ?_ _ | with_reducible refine gb_drewN ?_ _ | with_reducible refine gb_drew ?_)) hg2
         have R2 := hide r2
         have B2 := hide (B1.out.kept (gb_trans (by repeat (first | with_reducible exact gb_refl w1 none | with_reducible refine gb_put ?_ (by omega) _ _ | with_reducible refine gb_alloc ?_ _ | with_reducible refine gb_drewN ?_ _ | with_reducible refine gb_drew ?_)) hg2))
         obtain ⟨b0_2, b1_2, b2_2, b3_2, b4_2⟩ := B2.out
         have hsz2 := GW2.out.size
         have hbl2 := block_lt b0_2
         clear hg2 r2)
      | (go_at_call 78
         refine (below_one w0 jb lb ob _ l v (.mk 17 x m p ts) _ [.expression, .list .act] _ (HJ.out.grown (by repeat (first | with_reducible exact GW2.out | with_reducible refine gb_put ?_ (by omega) _ _ | with_reducible refine gb_alloc ?_ _ | with_reducible refine gb_drewN ?_ _ | with_reducible refine gb_drew ?_))) hlen (by decide) HA.out (RL.new2 _ _ (.meth .expression _ rfl) (R2.out.grown (by repeat (first | with_reducible exact gb_refl w2 none | with_reducible refine gb_put ?_ (by omega) _ _ | with_reducible refine gb_alloc ?_ _ | with_reducible refine gb_drewN ?_ _ | with_reducible refine gb_drew ?_))) (by first | omega | (simp; omega)) (fun b hb => by have := HV.out b hb; first | omega | (simp; omega)))).mono ?_
         rintro e w9 ⟨b9, rfl, h9⟩
         have B9 := hide (Box.past (B2.out.kept (by repeat (first | with_reducible exact gb_refl w2 none | with_reducible refine gb_put ?_ (by omega) _ _ | with_reducible refine gb_alloc ?_ _ | with_reducible refine gb_drewN ?_ _ | with_reducible refine gb_drew ?_))) ⟨by omega, fun e => by have := HV.out _ e; omega⟩ h9)))
    all_goals
      have H9 := hide h9
      clear h9
      rcases H9.out with ⟨rfl, hno, hg⟩ | ⟨rfl, hyes, v9, j9, k9⟩
      · go_wp2_with fail
        go_ret
        exact .inl ⟨HS.out.trans (onlyIf_no (by rw [head_unnamed (t := (.mk 17 x m p ts)) (k := 17) rfl, h0]; exact (Bool.true_and _).trans (len_no (n := 2) hno))), rfl, gb_trans HJ.out.gb (gb_trans (by repeat (first | with_reducible exact GW2.out | with_reducible refine gb_put ?_ (by omega) _ _ | with_reducible refine gb_alloc ?_ _ | with_reducible refine gb_drewN ?_ _ | with_reducible refine gb_drew ?_)) hg)⟩
      · have J9 := hide j9
        have K9 : Hid (JK jb v w w9 v9) := (JK.grown (by repeat (first | with_reducible exact GW2.out | with_reducible refine gb_put ?_ (by omega) _ _ | with_reducible refine gb_alloc ?_ _ | with_reducible refine gb_drewN ?_ _ | with_reducible refine gb_drew ?_))).trans k9
        clear j9 k9 H9
        go_wp2_with fail
        go_ret
        exact .inr ⟨_, v9, HS.out.trans (onlyIf_yes (by rw [head_unnamed (t := (.mk 17 x m p ts)) (k := 17) rfl, h0]; exact (Bool.true_and _).trans (len_yes (n := 2) hyes))), rfl, J9.out, K9.out⟩
set_option maxRecDepth 1000000 in
set_option maxHeartbeats 2000000 in
theorem jact18 (w0 : World) (jb lb ob : Nat) (w : World) (l : List (T × Rule)) (v : Value) (x : List UInt8) (m p : Int) (ts : List T) (sv : Value) (h : JS w0 jb lb ob w l v) (hlen : l.length + ts.length ≤ 20000) (hf : Fits (.mk 18 x m p ts)) (ha : AT w0 (T.mk 18 x m p ts).subs sv) :
    Calls Tryz.prog 86 #[ptr jb, .agg #[.int .i64 18, .string ⟨x.toArray⟩, .int .i64 m, .int .i64 p, sv]] w (JR w0 jb lb ob l v w .act (.mk 18 x m p ts)) := by
  have HJ := hide h
  have HF := hide hf
  have HA := hide ha
  have hjl := h.lt
  have HV : Hid (∀ b, v.ownBlock = some b → b < w.heap.size) := fun b hb => (h.room hb).2
  obtain ⟨a, n, c, rfl, hn, hc, hl⟩ := ha.any
  change ts.length = n at hl
  subst hl
  have HS : Hid (stepR .act (.mk 18 x m p ts) = onlyIf (headB (.mk 18 x m p ts) 18 false 0 2) (zipR ts [.list .act, .expression])) := rfl
  cases h0 : ((T.mk 18 x m p ts).name.isEmpty && withinB (.mk 18 x m p ts) 0)
  · have HN : Hid (stepR .act (.mk 18 x m p ts) = none) := HS.out.trans (onlyIf_no (by rw [head_unnamed (t := (.mk 18 x m p ts)) (k := 18) rfl, h0]; rfl))
    clear h hf ha
    go_enter Tryz.func86, Tryz.ntmps86
    go_wp2_with fail
    go_at_call 115
    refine (unnamed_any (.mk 18 x m p ts) _ 0 _ ⟨_, _, _, rfl⟩).mono ?_
    rintro e w1 ⟨rfl, hg1⟩
    rw [h0]
    have GW1 : Hid (w.grownBy w1 none) := gb_trans (gb_alloc (gb_refl w none) _) hg1
    have B1 := hide ((Box.new w (.mk 18 x m p ts) (.slice a ts.length c) 24).kept hg1)
    obtain ⟨b0_1, b1_1, b2_1, b3_1, b4_1⟩ := B1.out
    change _ = some (Value.int .i64 m) at b2_1
    change _ = some (Value.int .i64 18) at b0_1
    clear hg1
    go_wp2_with fail
    go_ret
    exact .inl ⟨HN.out, rfl, gb_trans HJ.out.gb (by repeat (first | with_reducible exact GW1.out | with_reducible refine gb_put ?_ (by omega) _ _ | with_reducible refine gb_alloc ?_ _ | with_reducible refine gb_drewN ?_ _ | with_reducible refine gb_drew ?_))⟩
  · skip
    clear h hf ha
    go_enter Tryz.func86, Tryz.ntmps86
    go_wp2_with fail
    go_at_call 115
    refine (unnamed_any (.mk 18 x m p ts) _ 0 _ ⟨_, _, _, rfl⟩).mono ?_
    rintro e w1 ⟨rfl, hg1⟩
    rw [h0]
    have GW1 : Hid (w.grownBy w1 none) := gb_trans (gb_alloc (gb_refl w none) _) hg1
    have B1 := hide ((Box.new w (.mk 18 x m p ts) (.slice a ts.length c) 24).kept hg1)
    obtain ⟨b0_1, b1_1, b2_1, b3_1, b4_1⟩ := B1.out
    change _ = some (Value.int .i64 m) at b2_1
    change _ = some (Value.int .i64 18) at b0_1
    clear hg1
    have hsz1 := GW1.out.size
    go_wp2_with fail
    go_region_held (fun w' => w'.cell? ⟨w.heap.size, 0, none⟩ = some (.int .i64 18) ∧ w'.cell? ⟨w.heap.size, 1, none⟩ = some (.string ⟨x.toArray⟩) ∧ w'.cell? ⟨w.heap.size, 2, none⟩ = some (.int .i64 m) ∧ w'.cell? ⟨w.heap.size, 3, none⟩ = some (.int .i64 p) ∧ w'.cell? ⟨w.heap.size, 4, none⟩ = some (.slice a ts.length c)) (first | exact B9.out.all5 | exact (B2.out.kept (by repeat (first | with_reducible exact gb_refl w2 none | with_reducible refine gb_put ?_ (by omega) _ _ | with_reducible refine gb_alloc ?_ _ | with_reducible refine gb_drewN ?_ _ | with_reducible refine gb_drew ?_))).all5 | exact (B1.out.kept (by repeat (first | with_reducible exact gb_refl w1 none | with_reducible refine gb_put ?_ (by omega) _ _ | with_reducible refine gb_alloc ?_ _ | with_reducible refine gb_drewN ?_ _ | with_reducible refine gb_drew ?_))).all5) (first
      | (go_at_call 79
         refine (list_any jb _ v .act _ (by first | omega | (simp; omega)) (fun b hb => by have := HV.out b hb; first | omega | (simp; omega)) (.meth .act _ rfl)).mono ?_
         rintro e w2 ⟨g2, fa2, ca2, rfl, r2, hg2⟩
         have GW2 : Hid (w.grownBy w2 none) := gb_trans (by repeat (first | with_reducible exact GW1.out | with_reducible refine gb_put ?_ (by omega) _ _ | with_reducible refine gb_alloc ?_ _ | with_reducible refine gb_drewN ?_ _ | with_reducible refine gb_drew ?_)) hg2
         have R2 := hide r2
         have B2 := hide (B1.out.kept (gb_trans (by repeat (first | with_reducible exact gb_refl w1 none | with_reducible refine gb_put ?_ (by omega) _ _ | with_reducible refine gb_alloc ?_ _ | with_reducible refine gb_drewN ?_ _ | with_reducible refine gb_drew ?_)) hg2))
         obtain ⟨b0_2, b1_2, b2_2, b3_2, b4_2⟩ := B2.out
         have hsz2 := GW2.out.size
         have hbl2 := block_lt b0_2
         clear hg2 r2)
      | (go_at_call 78
         refine (below_one w0 jb lb ob _ l v (.mk 18 x m p ts) _ [.list .act, .expression] _ (HJ.out.grown (by repeat (first | with_reducible exact GW2.out | with_reducible refine gb_put ?_ (by omega) _ _ | with_reducible refine gb_alloc ?_ _ | with_reducible refine gb_drewN ?_ _ | with_reducible refine gb_drew ?_))) hlen (by decide) HA.out (RL.new2 _ _ (R2.out.grown (by repeat (first | with_reducible exact gb_refl w2 none | with_reducible refine gb_put ?_ (by omega) _ _ | with_reducible refine gb_alloc ?_ _ | with_reducible refine gb_drewN ?_ _ | with_reducible refine gb_drew ?_))) (.meth .expression _ rfl) (by first | omega | (simp; omega)) (fun b hb => by have := HV.out b hb; first | omega | (simp; omega)))).mono ?_
         rintro e w9 ⟨b9, rfl, h9⟩
         have B9 := hide (Box.past (B2.out.kept (by repeat (first | with_reducible exact gb_refl w2 none | with_reducible refine gb_put ?_ (by omega) _ _ | with_reducible refine gb_alloc ?_ _ | with_reducible refine gb_drewN ?_ _ | with_reducible refine gb_drew ?_))) ⟨by omega, fun e => by have := HV.out _ e; omega⟩ h9)))
    all_goals
      have H9 := hide h9
      clear h9
      rcases H9.out with ⟨rfl, hno, hg⟩ | ⟨rfl, hyes, v9, j9, k9⟩
      · go_wp2_with fail
        go_ret
        exact .inl ⟨HS.out.trans (onlyIf_no (by rw [head_unnamed (t := (.mk 18 x m p ts)) (k := 18) rfl, h0]; exact (Bool.true_and _).trans (len_no (n := 2) hno))), rfl, gb_trans HJ.out.gb (gb_trans (by repeat (first | with_reducible exact GW2.out | with_reducible refine gb_put ?_ (by omega) _ _ | with_reducible refine gb_alloc ?_ _ | with_reducible refine gb_drewN ?_ _ | with_reducible refine gb_drew ?_)) hg)⟩
      · have J9 := hide j9
        have K9 : Hid (JK jb v w w9 v9) := (JK.grown (by repeat (first | with_reducible exact GW2.out | with_reducible refine gb_put ?_ (by omega) _ _ | with_reducible refine gb_alloc ?_ _ | with_reducible refine gb_drewN ?_ _ | with_reducible refine gb_drew ?_))).trans k9
        clear j9 k9 H9
        go_wp2_with fail
        go_ret
        exact .inr ⟨_, v9, HS.out.trans (onlyIf_yes (by rw [head_unnamed (t := (.mk 18 x m p ts)) (k := 18) rfl, h0]; exact (Bool.true_and _).trans (len_yes (n := 2) hyes))), rfl, J9.out, K9.out⟩
end Go.Proofs.YtlkokcnbbihljaaGreatDoor
