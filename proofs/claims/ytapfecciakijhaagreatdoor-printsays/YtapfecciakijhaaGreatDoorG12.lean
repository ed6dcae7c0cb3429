/- The program's judge of shapes: parts by several rules; rules made. -/
import Derived.Test.YtapfecciakijhaaGreatDoorG08
namespace Go.Proofs.YtapfecciakijhaaGreatDoor
open Go.RowKit Go.Maps Go.WideMaps Go.WideElems
set_option maxHeartbeats 2000000
set_option maxRecDepth 1000000

/-- A list of rules in memory. -/
def RL (w : World) (jb : Nat) (v : Value) (rs : List Rule) (sl : Value) : Prop :=
  (rs = [] ∧ sl = .slice none 0 0) ∨ ∃ rb, sl = .slice (some ⟨rb, 0, none⟩) rs.length rs.length ∧ rb < w.heap.size ∧ free jb v rb ∧ ∀ (i : Nat) (r : Rule), rs[i]? = some r → ∃ rv, w.cell? ⟨rb, i, none⟩ = some rv ∧ RV w jb (free jb v) r rv
theorem RL.step {w w' : World} {jb : Nat} {v v' : Value} {rs : List Rule} {sl : Value} (h : RL w jb v rs sl) (hk : JK jb v w w' v') : RL w' jb v' rs sl := by
  rcases h with h | ⟨rb, rfl, hlt, hf, hr⟩
  · exact .inl h
  · exact .inr ⟨rb, rfl, Nat.lt_of_lt_of_le hlt hk.kb.size, hk.fr rb hlt hf, fun i r hi => by
      obtain ⟨rv,c,q⟩ := hr i r hi
      exact ⟨rv, hk.kb.cell c hf, q.step hk⟩⟩
theorem zipR_take {ts : List T} {rs : List Rule} {i : Nat} {u : T} {r : Rule} (hu : ts[i]? = some u) (hr : rs[i]? = some r) : zipR (ts.take (i + 1)) (rs.take (i + 1)) = zipR (ts.take i) (rs.take i) ++ [(u, r)] := by
  induction i generalizing ts rs with
  | zero =>
    cases ts with
    | nil => simp at hu
    | cons t ts => cases rs with
      | nil => simp at hr
      | cons q rs => simp at hu hr; subst hu hr; simp [zipR]
  | succ i ih =>
    cases ts with
    | nil => simp at hu
    | cons t ts => cases rs with
      | nil => simp at hr
      | cons q rs =>
        have := ih (ts := ts) (rs := rs) (by simpa using hu) (by simpa using hr); simp only [List.take_succ_cons, zipR, this, List.cons_append]
theorem zipR_len : ∀ (ts : List T) (rs : List Rule), (zipR ts rs).length ≤ ts.length
  | [], _ => by simp [zipR]
  | _ :: _, [] => by simp [zipR]
  | _ :: ts, _ :: rs => by simp only [zipR, List.length_cons]; have := zipR_len ts rs; omega

theorem below_any (w0 : World) (jb lb ob : Nat) (w : World) (l : List (T × Rule)) (v : Value) (t : T) (sv : Value) (rs : List Rule) (sl : Value) (h : JS w0 jb lb ob w l v) (hlen : l.length + t.subs.length ≤ 20000) (hrs : rs.length ≤ 100) (ha : AT w0 t.subs sv) (hr : RL w jb v rs sl) :
    Calls Tryz.prog 78 #[ptr jb, nodeV t sv, sl] w fun e w' => (t.subs.length ≠ rs.length ∧ e = .returned (.bool false) ∧ w.grownBy w' none) ∨ (t.subs.length = rs.length ∧ ∃ v', e = .returned (.bool true) ∧ JS w0 jb lb ob w' (l ++ zipR t.subs rs) v' ∧ JK jb v w w' v') := by
  have HJ := hide h; have HA := hide ha; have HR := hide hr; obtain ⟨kd,x,m,p,ts⟩ := t; obtain ⟨a,n,c,rfl,_,_,hl⟩ := ha.any
  change ts.length = n at hl
  subst hl
  obtain ⟨ra, hsl⟩ : ∃ ra, sl = .slice ra rs.length rs.length := by
    rcases hr with ⟨rfl, rfl⟩ | ⟨rb, rfl, _⟩
    · exact ⟨_, rfl⟩
    · exact ⟨_, rfl⟩
  subst hsl; have hlen1 : l.length + ts.length ≤ 20000 := hlen; clear h ha hr hlen
  change Calls Tryz.prog 78 #[ptr jb, .agg #[.int .i64 kd, .string ⟨x.toArray⟩, .int .i64 m, .int .i64 p, .slice a ts.length c], .slice ra rs.length rs.length] w _
  by_cases hne : ts.length = rs.length
  · have hnb : ((ts.length : Int) != (rs.length : Int)) = false := by simp; omega
    have HN := hide hne
    have hle : ts.length ≤ 100 := by omega
    clear hne
    go_enter Tryz.func78, Tryz.ntmps78
    go_wp2_with fail
    go_loopw [17] (fun iv wr => ∃ (i : Nat) (v1 : Value), i ≤ rs.length ∧ iv = .int .i64 ↑i ∧ Hid (JS w0 jb lb ob wr (l ++ zipR (ts.take i) (rs.take i)) v1) ∧ Hid (JK jb v (w.alloc (.cells #[.int .i64 kd, .string ⟨x.toArray⟩, .int .i64 m, .int .i64 p, .slice a ts.length c] 24)) wr v1) ∧ Hid (Box wr w.heap.size (.mk kd x m p ts) (.slice a ts.length c))) (fun iv _ => rs.length - (intOf iv).toNat)
    case atStart => exact ⟨0, v, Nat.zero_le _, rfl, by show JS _ _ _ _ _ _ _; simpa [zipR] using HJ.out.grown (gb_alloc (gb_refl w none) _), JK.refl _ _ _, Box.new w (.mk kd x m p ts) (.slice a ts.length c) 24⟩
    case round =>
      obtain ⟨i,v1,_,rfl,J1,K1,X1⟩ := hrel; obtain ⟨b0,b1,b2,b3,b4⟩ := X1.out
      by_cases hlt : i < rs.length
      · obtain ⟨u, hu⟩ : ∃ u, ts[i]? = some u := ⟨_, List.getElem?_eq_getElem (by have := HN.out; omega)⟩
        obtain ⟨r, hr⟩ : ∃ r, rs[i]? = some r := ⟨_, List.getElem?_eq_getElem hlt⟩; obtain ⟨g,o,su,e1,n5,fu,au⟩ := HA.out.node i u hu; cases e1; have RS := (HR.out.step (JK.grown (gb_alloc (gb_refl w none) _))).step K1.out
        rcases RS with ⟨rfl, _⟩ | ⟨rb, e2, hrl, hrf, hrr⟩
        · simp at hlt
        cases e2; obtain ⟨_,_,rr⟩ := hrr i r hr; obtain ⟨_,_,_,_,_⟩ := n5.kept J1.out.gb
        have HE : Hid (l ++ zipR (ts.take i) (rs.take i) ++ [(u, r)] = l ++ zipR (ts.take (i + 1)) (rs.take (i + 1))) := by
          show _ = _
          rw [zipR_take hu hr, List.append_assoc]
        have HU := hide fu; have AU := hide au; have R1 := hide rr
        have hln : (l ++ zipR (ts.take i) (rs.take i)).length ≤ 20000 := by
          have := zipR_len (ts.take i) (rs.take i)
          simp at this ⊢
          omega
        obtain ⟨_,_,_,rfl⟩ := rr.form
        have hlti : i < ts.length := by have := HN.out; omega
        clear hu hr fu au n5 hrr rr; go_wp2_with fail; go_at_call 48; refine (put_any w0 jb lb ob _ _ v1 u r su _ (J1.out.grown (gb_refl wr none)) hln HU.out AU.out (R1.out.grown (gb_refl wr none))).mono ?_; rintro e w2 ⟨v2, rfl, j2, k2⟩; have J2 : Hid (JS w0 jb lb ob w2 (l ++ zipR (ts.take (i + 1)) (rs.take (i + 1))) v2) := HE.out ▸ j2; have KK : Hid (JK jb v1 wr w2 v2) := (JK.grown (gb_refl wr none)).trans k2; have K2 : Hid (JK jb v (w.alloc (.cells #[.int .i64 kd, .string ⟨x.toArray⟩, .int .i64 m, .int .i64 p, .slice (some ⟨g, o, none⟩) ts.length c] 24)) w2 v2) := K1.out.trans KK.out
        have X2 : Hid (Box w2 w.heap.size (.mk kd x m p ts) (.slice (some ⟨g, o, none⟩) ts.length c)) := by
          have hs : free jb v1 w.heap.size := ⟨by have := HJ.out.lt; omega, fun e => by
            rcases K1.out.at' with h' | h'
            · have := (HJ.out.room (h' ▸ e)).2; omega
            · exact absurd (h' _ e) (by simp)⟩
          exact ⟨KK.out.kb.cell b0 hs, KK.out.kb.cell b1 hs, KK.out.kb.cell b2 hs, KK.out.kb.cell b3 hs, KK.out.kb.cell b4 hs⟩
        clear j2 k2; go_wp2_with fail
        exact ⟨⟨i + 1, v2, by omega, by go_num, J2, K2, X2⟩, by simp [intOf]; omega⟩
      · have J2 : Hid (JS w0 jb lb ob wr (l ++ zipR ts rs) v1) := by
          have := J1.out; rw [List.take_of_length_le (by have := HN.out; omega), List.take_of_length_le (by omega)] at this
          exact this
        go_wp2_with fail
        go_ret
        exact .inr ⟨HN.out, v1, rfl, J2.out, (JK.grown (gb_alloc (gb_refl w none) _)).trans K1.out⟩
  · have hnb : ((ts.length : Int) != (rs.length : Int)) = true := by simp; omega
    go_enter Tryz.func78, Tryz.ntmps78
    go_wp2_with fail
    go_ret
    exact .inl ⟨hne, rfl, gb_alloc (gb_refl w none) _⟩

theorem list_any (jb : Nat) (w : World) (v : Value) (r : Rule) (rv : Value) (hj : jb < w.heap.size) (hv : ∀ b, v.ownBlock = some b → b < w.heap.size) (hr : RV w jb (free jb v) r rv) :
    Calls Tryz.prog 79 #[ptr jb, rv] w fun e w' => ∃ g fa ca, e = .returned (.func (.func g) fa ca) ∧ RV w' jb (free jb v) (.list r) (.func (.func g) fa ca) ∧ w.grownBy w' none := by
  have HR := hide hr; obtain ⟨gn,fa,ca,rfl⟩ := hr.form; have S1 : Hid (free jb v w.heap.size) := ⟨by omega, fun e => by have := hv _ e; omega⟩; have S2 : Hid (free jb v (w.heap.size + 1)) := ⟨by omega, fun e => by have := hv _ e; omega⟩; clear hr hv
  go_enter Tryz.func79, Tryz.ntmps79
  go_wp2_with fail
  go_ret
  have hg : w.grownBy ((w.alloc (.cells #[ptr jb] 110)).alloc (.cells #[.func (.func gn) fa ca] 81)) none := gb_alloc (gb_alloc (gb_refl w none) _) _; refine ⟨_, _, _, rfl, .list r (.func (.func gn) fa ca) _ _ S1.out S2.out ?_ ?_ (HR.out.grown hg), hg⟩
  · rw [World.cell?_alloc_past _ _ _ (by simp), World.cell?_alloc_at _ _ _ _ rfl]; rfl
  · rw [World.cell?_alloc_at _ _ _ _ (by simp)]; rfl
theorem declared_any (jb : Nat) (w : World) (v : Value) (k m : Int) (r : Rule) (rv : Value) (hj : jb < w.heap.size) (hv : ∀ b, v.ownBlock = some b → b < w.heap.size) (hr : RV w jb (free jb v) r rv) :
    Calls Tryz.prog 81 #[ptr jb, .int .i64 k, .int .i64 m, rv] w fun e w' => ∃ g fa ca, e = .returned (.func (.func g) fa ca) ∧ RV w' jb (free jb v) (.declared k m r) (.func (.func g) fa ca) ∧ w.grownBy w' none := by
  have HR := hide hr; obtain ⟨gn,fa,ca,rfl⟩ := hr.form; have S0 : Hid (free jb v w.heap.size) := ⟨by omega, fun e => by have := hv _ e; omega⟩; have S1 : Hid (free jb v (w.heap.size + 1)) := ⟨by omega, fun e => by have := hv _ e; omega⟩; have S2 : Hid (free jb v (w.heap.size + 1 + 1)) := ⟨by omega, fun e => by have := hv _ e; omega⟩; have S3 : Hid (free jb v (w.heap.size + 1 + 1 + 1)) := ⟨by omega, fun e => by have := hv _ e; omega⟩; clear hr hv
  go_enter Tryz.func81, Tryz.ntmps81
  go_wp2_with fail
  go_ret
  have hg : w.grownBy ((((w.alloc (.cells #[ptr jb] 110)).alloc (.cells #[.int .i64 k] 3)).alloc (.cells #[.int .i64 m] 3)).alloc (.cells #[.func (.func gn) fa ca] 81)) none := gb_alloc (gb_alloc (gb_alloc (gb_alloc (gb_refl w none) _) _) _) _; refine ⟨_, _, _, rfl, .declared k m r (.func (.func gn) fa ca) (w.heap.size + 1) w.heap.size (w.heap.size + 1 + 1) (w.heap.size + 1 + 1 + 1) S1.out S0.out S2.out S3.out ?_ ?_ ?_ ?_ (HR.out.grown hg), hg⟩
  · rw [World.cell?_alloc_past _ _ _ (by simp), World.cell?_alloc_past _ _ _ (by simp), World.cell?_alloc_at _ _ _ _ (by simp)]; rfl
  · rw [World.cell?_alloc_past _ _ _ (by simp; omega), World.cell?_alloc_past _ _ _ (by simp; omega), World.cell?_alloc_past _ _ _ (by simp), World.cell?_alloc_at _ _ _ _ rfl]; rfl
  · rw [World.cell?_alloc_past _ _ _ (by simp), World.cell?_alloc_at _ _ _ _ (by simp)]; rfl
  · rw [World.cell?_alloc_at _ _ _ _ (by simp)]; rfl
end Go.Proofs.YtapfecciakijhaaGreatDoor

/- The program's judge of shapes: rules, kind by kind. -/
namespace Go.Proofs.YtapfecciakijhaaGreatDoor
open Go.RowKit Go.Maps Go.WideMaps Go.WideElems
set_option maxHeartbeats 2000000
set_option maxRecDepth 1000000

/-- What a rule comes to: it answers no; or it puts down what is below. -/
def JR (w0 : World) (jb lb ob : Nat) (l : List (T × Rule)) (v : Value) (w : World) (r : Rule) (t : T) : Ending → World → Prop := fun e w' =>
  (stepR r t = none ∧ e = .returned (.bool false) ∧ w0.grownBy w' none) ∨ (∃ q v', stepR r t = some q ∧ e = .returned (.bool true) ∧ JS w0 jb lb ob w' (l ++ q) v' ∧ JK jb v w w' v')
theorem onlyIf_no {c : Bool} {L : List (T × Rule)} (h : c = false) : onlyIf c L = none := by rw [h]; rfl
theorem onlyIf_yes {c : Bool} {L : List (T × Rule)} (h : c = true) : onlyIf c L = some L := by rw [h]; rfl
theorem head_named {t : T} {k most many : Int} (h : t.kind = k) : headB t k true most many = ((nameB t.name && withinB t most) && decide (0 ≤ many → (t.subs.length : Int) = many)) := by
  unfold headB withinB
  rw [Bool.eq_iff_iff]
  simp [h]
  constructor
  · rintro ⟨⟨a, b, c⟩, d⟩; exact ⟨⟨d, a, b⟩, c⟩
  · rintro ⟨⟨d, a, b⟩, c⟩; exact ⟨⟨a, b, c⟩, d⟩
theorem head_unnamed {t : T} {k most many : Int} (h : t.kind = k) : headB t k false most many = ((t.name.isEmpty && withinB t most) && decide (0 ≤ many → (t.subs.length : Int) = many)) := by
  unfold headB withinB
  rw [Bool.eq_iff_iff]
  simp [h]
  constructor
  · rintro ⟨⟨a, b, c⟩, d⟩; exact ⟨⟨d, a, b⟩, c⟩
  · rintro ⟨⟨d, a, b⟩, c⟩; exact ⟨⟨a, b, c⟩, d⟩
theorem len_no {t : T} {n : Nat} (h : t.subs.length ≠ n) : decide (0 ≤ (n : Int) → (t.subs.length : Int) = n) = false := by rw [decide_eq_false_iff_not]; intro h2; have := h2 (by omega); omega
theorem len_yes {t : T} {n : Nat} (h : t.subs.length = n) : decide (0 ≤ (n : Int) → (t.subs.length : Int) = n) = true := by rw [decide_eq_true_iff]; intro _; omega
theorem zipR_nil (ts : List T) : zipR ts [] = [] := by cases ts <;> rfl
theorem RL.new1 {jb : Nat} {v : Value} {r : Rule} {rv : Value} (w : World) (ty : TypeId) (hr : RV (w.alloc (.cells #[rv] ty)) jb (free jb v) r rv) (hj : jb < w.heap.size) (hv : ∀ b, v.ownBlock = some b → b < w.heap.size) :
    RL (w.alloc (.cells #[rv] ty)) jb v [r] (.slice (some ⟨w.heap.size, 0, none⟩) 1 1) :=
  .inr ⟨w.heap.size, rfl, by simp, ⟨by omega, fun e => by have := hv _ e; omega⟩, fun i q hi => by
    match i, hi with
    | 0, hi => cases hi; exact ⟨rv, by rw [World.cell?_alloc_at _ _ _ _ rfl]; rfl, hr⟩⟩
theorem RL.new2 {jb : Nat} {v : Value} {r q : Rule} {rv qv : Value} (w : World) (ty : TypeId) (hr : RV (w.alloc (.cells #[rv, qv] ty)) jb (free jb v) r rv) (hq : RV (w.alloc (.cells #[rv, qv] ty)) jb (free jb v) q qv) (hj : jb < w.heap.size) (hv : ∀ b, v.ownBlock = some b → b < w.heap.size) :
    RL (w.alloc (.cells #[rv, qv] ty)) jb v [r, q] (.slice (some ⟨w.heap.size, 0, none⟩) 2 2) :=
  .inr ⟨w.heap.size, rfl, by simp, ⟨by omega, fun e => by have := hv _ e; omega⟩, fun i z hi => by
    match i, hi with
    | 0, hi => cases hi; exact ⟨rv, by rw [World.cell?_alloc_at _ _ _ _ rfl]; rfl, hr⟩
    | 1, hi => cases hi; exact ⟨qv, by rw [World.cell?_alloc_at _ _ _ _ rfl]; rfl, hq⟩⟩
theorem jimp3 (w0 : World) (jb lb ob : Nat) (w : World) (l : List (T × Rule)) (v : Value) (x : List UInt8) (m p : Int) (ts : List T) (sv : Value) (h : JS w0 jb lb ob w l v) (hlen : l.length + ts.length ≤ 20000) (hf : Fits (.mk 3 x m p ts)) (ha : AT w0 (T.mk 3 x m p ts).subs sv) :
    Calls Tryz.prog 80 #[ptr jb, .agg #[.int .i64 3, .string ⟨x.toArray⟩, .int .i64 m, .int .i64 p, sv]] w (JR w0 jb lb ob l v w .imported (.mk 3 x m p ts)) := by
  have HJ := hide h; have HF := hide hf; have HA := hide ha; have hjl := h.lt
  have HV : Hid (∀ b, v.ownBlock = some b → b < w.heap.size) := fun b hb => (h.room hb).2
  obtain ⟨a,n,c,rfl,_,_,hl⟩ := ha.any
  change ts.length = n at hl
  subst hl
  have HS : Hid (stepR .imported (.mk 3 x m p ts) = onlyIf (headB (.mk 3 x m p ts) 3 true 0 0) (zipR ts [])) := by rw [zipR_nil]; rfl
  cases h0 : (nameB (T.mk 3 x m p ts).name && withinB (.mk 3 x m p ts) 0)
  · have HN : Hid (stepR .imported (.mk 3 x m p ts) = none) := HS.out.trans (onlyIf_no (by rw [head_named (t := (.mk 3 x m p ts)) (k := 3) rfl, h0]; rfl))
    clear h hf ha
    go_enter Tryz.func80, Tryz.ntmps80
    go_wp2_with fail; go_at_call 77; refine (named_any jb lb (.mk 3 x m p ts) _ 0 _ (HJ.out.grown (by exact gb_alloc (gb_refl w none) _)).c0 (HJ.out.grown (by exact gb_alloc (gb_refl w none) _)).lex HF.out ⟨_, _, _, rfl⟩).mono ?_; rintro e w1 ⟨rfl, hg1⟩; rw [h0]; have GW1 := hide (gb_trans (gb_alloc (gb_refl w none) _) hg1); have B1 := hide ((Box.new w (.mk 3 x m p ts) (.slice a ts.length c) 24).kept hg1); obtain ⟨b0_1,b1_1,b2_1,b3_1,b4_1⟩ := B1.out.p
    clear hg1; go_wp2_with fail
    go_ret
    exact .inl ⟨HN.out, rfl, gb_trans HJ.out.gb GW1.out⟩
  · skip
    clear h hf ha
    go_enter Tryz.func80, Tryz.ntmps80
    go_wp2_with fail; go_at_call 77; refine (named_any jb lb (.mk 3 x m p ts) _ 0 _ (HJ.out.grown (by exact gb_alloc (gb_refl w none) _)).c0 (HJ.out.grown (by exact gb_alloc (gb_refl w none) _)).lex HF.out ⟨_, _, _, rfl⟩).mono ?_; rintro e w1 ⟨rfl, hg1⟩; rw [h0]; have GW1 := hide (gb_trans (gb_alloc (gb_refl w none) _) hg1); have B1 := hide ((Box.new w (.mk 3 x m p ts) (.slice a ts.length c) 24).kept hg1); obtain ⟨b0_1,b1_1,b2_1,b3_1,b4_1⟩ := B1.out.p
    clear hg1; have hsz := GW1.out.size
    have hjw : jb < w1.heap.size := by omega
    go_wp2_with fail; go_at_call 78; refine (below_any w0 jb lb ob _ l v (.mk 3 x m p ts) _ [] _ (HJ.out.grown GW1.out) hlen (by decide) HA.out (.inl ⟨rfl, rfl⟩)).mono ?_; rintro e w2 (⟨hno, rfl, hg2⟩ | ⟨hyes, v2, rfl, j2, k2⟩)
    · go_wp2_with fail
      go_ret
      exact .inl ⟨HS.out.trans (onlyIf_no (by rw [head_named (t := (.mk 3 x m p ts)) (k := 3) rfl, h0]; exact (Bool.true_and _).trans (len_no (n := 0) hno))), rfl, gb_trans HJ.out.gb (gb_trans GW1.out hg2)⟩
    have J2 := hide j2; have K2 : Hid (JK jb v w w2 v2) := (JK.grown GW1.out).trans k2; clear j2 k2; go_wp2_with fail
    go_ret
    exact .inr ⟨_, v2, HS.out.trans (onlyIf_yes (by rw [head_named (t := (.mk 3 x m p ts)) (k := 3) rfl, h0]; exact (Bool.true_and _).trans (len_yes (n := 0) hyes))), rfl, J2.out, K2.out⟩
theorem jref24 (w0 : World) (jb lb ob : Nat) (w : World) (l : List (T × Rule)) (v : Value) (x : List UInt8) (m p : Int) (ts : List T) (sv : Value) (h : JS w0 jb lb ob w l v) (hlen : l.length + ts.length ≤ 20000) (hf : Fits (.mk 24 x m p ts)) (ha : AT w0 (T.mk 24 x m p ts).subs sv) :
    Calls Tryz.prog 121 #[ptr jb, .agg #[.int .i64 24, .string ⟨x.toArray⟩, .int .i64 m, .int .i64 p, sv]] w (JR w0 jb lb ob l v w .ref (.mk 24 x m p ts)) := by
  have HJ := hide h; have HF := hide hf; have HA := hide ha; have hjl := h.lt
  have HV : Hid (∀ b, v.ownBlock = some b → b < w.heap.size) := fun b hb => (h.room hb).2
  obtain ⟨a,n,c,rfl,_,_,hl⟩ := ha.any
  change ts.length = n at hl
  subst hl
  have HS : Hid (stepR .ref (.mk 24 x m p ts) = onlyIf (headB (.mk 24 x m p ts) 24 true 0 0) (zipR ts [])) := by rw [zipR_nil]; rfl
  cases h0 : (nameB (T.mk 24 x m p ts).name && withinB (.mk 24 x m p ts) 0)
  · have HN : Hid (stepR .ref (.mk 24 x m p ts) = none) := HS.out.trans (onlyIf_no (by rw [head_named (t := (.mk 24 x m p ts)) (k := 24) rfl, h0]; rfl))
    clear h hf ha
    go_enter Tryz.func121, Tryz.ntmps121
    go_wp2_with fail; go_at_call 77; refine (named_any jb lb (.mk 24 x m p ts) _ 0 _ (HJ.out.grown (by exact gb_alloc (gb_refl w none) _)).c0 (HJ.out.grown (by exact gb_alloc (gb_refl w none) _)).lex HF.out ⟨_, _, _, rfl⟩).mono ?_; rintro e w1 ⟨rfl, hg1⟩; rw [h0]; have GW1 := hide (gb_trans (gb_alloc (gb_refl w none) _) hg1); have B1 := hide ((Box.new w (.mk 24 x m p ts) (.slice a ts.length c) 24).kept hg1); obtain ⟨b0_1,b1_1,b2_1,b3_1,b4_1⟩ := B1.out.p
    clear hg1; go_wp2_with fail
    go_ret
    exact .inl ⟨HN.out, rfl, gb_trans HJ.out.gb GW1.out⟩
  · skip
    clear h hf ha
    go_enter Tryz.func121, Tryz.ntmps121
    go_wp2_with fail; go_at_call 77; refine (named_any jb lb (.mk 24 x m p ts) _ 0 _ (HJ.out.grown (by exact gb_alloc (gb_refl w none) _)).c0 (HJ.out.grown (by exact gb_alloc (gb_refl w none) _)).lex HF.out ⟨_, _, _, rfl⟩).mono ?_; rintro e w1 ⟨rfl, hg1⟩; rw [h0]; have GW1 := hide (gb_trans (gb_alloc (gb_refl w none) _) hg1); have B1 := hide ((Box.new w (.mk 24 x m p ts) (.slice a ts.length c) 24).kept hg1); obtain ⟨b0_1,b1_1,b2_1,b3_1,b4_1⟩ := B1.out.p
    clear hg1; have hsz := GW1.out.size
    have hjw : jb < w1.heap.size := by omega
    go_wp2_with fail; go_at_call 78; refine (below_any w0 jb lb ob _ l v (.mk 24 x m p ts) _ [] _ (HJ.out.grown GW1.out) hlen (by decide) HA.out (.inl ⟨rfl, rfl⟩)).mono ?_; rintro e w2 (⟨hno, rfl, hg2⟩ | ⟨hyes, v2, rfl, j2, k2⟩)
    · go_wp2_with fail
      go_ret
      exact .inl ⟨HS.out.trans (onlyIf_no (by rw [head_named (t := (.mk 24 x m p ts)) (k := 24) rfl, h0]; exact (Bool.true_and _).trans (len_no (n := 0) hno))), rfl, gb_trans HJ.out.gb (gb_trans GW1.out hg2)⟩
    have J2 := hide j2; have K2 : Hid (JK jb v w w2 v2) := (JK.grown GW1.out).trans k2; clear j2 k2; go_wp2_with fail
    go_ret
    exact .inr ⟨_, v2, HS.out.trans (onlyIf_yes (by rw [head_named (t := (.mk 24 x m p ts)) (k := 24) rfl, h0]; exact (Bool.true_and _).trans (len_yes (n := 0) hyes))), rfl, J2.out, K2.out⟩
theorem jtn13 (w0 : World) (jb lb ob : Nat) (w : World) (l : List (T × Rule)) (v : Value) (x : List UInt8) (m p : Int) (ts : List T) (sv : Value) (h : JS w0 jb lb ob w l v) (hlen : l.length + ts.length ≤ 20000) (hf : Fits (.mk 13 x m p ts)) (ha : AT w0 (T.mk 13 x m p ts).subs sv) :
    Calls Tryz.prog 84 #[ptr jb, .agg #[.int .i64 13, .string ⟨x.toArray⟩, .int .i64 m, .int .i64 p, sv]] w (JR w0 jb lb ob l v w .typeName (.mk 13 x m p ts)) := by
  have HJ := hide h; have HF := hide hf; have HA := hide ha; have hjl := h.lt
  have HV : Hid (∀ b, v.ownBlock = some b → b < w.heap.size) := fun b hb => (h.room hb).2
  obtain ⟨a,n,c,rfl,_,_,hl⟩ := ha.any
  change ts.length = n at hl
  subst hl
  have HS : Hid (stepR .typeName (.mk 13 x m p ts) = onlyIf (headB (.mk 13 x m p ts) 13 true 0 (-1) && decide (ts.length ≤ 1)) (eachR ts .ref)) := rfl
  cases h0 : (nameB (T.mk 13 x m p ts).name && withinB (.mk 13 x m p ts) 0)
  · have HN : Hid (stepR .typeName (.mk 13 x m p ts) = none) := HS.out.trans (onlyIf_no (by rw [head_named (t := (.mk 13 x m p ts)) (k := 13) rfl, h0]; rfl))
    clear h hf ha
    go_enter Tryz.func84, Tryz.ntmps84
    go_wp2_with fail; go_at_call 77; refine (named_any jb lb (.mk 13 x m p ts) _ 0 _ (HJ.out.grown (by exact gb_alloc (gb_refl w none) _)).c0 (HJ.out.grown (by exact gb_alloc (gb_refl w none) _)).lex HF.out ⟨_, _, _, rfl⟩).mono ?_; rintro e w1 ⟨rfl, hg1⟩; rw [h0]; have GW1 := hide (gb_trans (gb_alloc (gb_refl w none) _) hg1); have B1 := hide ((Box.new w (.mk 13 x m p ts) (.slice a ts.length c) 24).kept hg1); obtain ⟨b0_1,b1_1,b2_1,b3_1,b4_1⟩ := B1.out.p
    clear hg1; go_wp2_with fail
    go_ret
    exact .inl ⟨HN.out, rfl, gb_trans HJ.out.gb GW1.out⟩
  · skip
    by_cases h1 : ts.length ≤ 1
    · have HY : Hid (stepR .typeName (.mk 13 x m p ts) = some (eachR ts .ref)) := HS.out.trans (onlyIf_yes (by rw [head_named (t := (.mk 13 x m p ts)) (k := 13) rfl, h0]; simp [h1]))
      clear h hf ha
      go_enter Tryz.func84, Tryz.ntmps84
      go_wp2_with fail; go_at_call 77; refine (named_any jb lb (.mk 13 x m p ts) _ 0 _ (HJ.out.grown (by exact gb_alloc (gb_refl w none) _)).c0 (HJ.out.grown (by exact gb_alloc (gb_refl w none) _)).lex HF.out ⟨_, _, _, rfl⟩).mono ?_; rintro e w1 ⟨rfl, hg1⟩; rw [h0]; have GW1 := hide (gb_trans (gb_alloc (gb_refl w none) _) hg1); have B1 := hide ((Box.new w (.mk 13 x m p ts) (.slice a ts.length c) 24).kept hg1); obtain ⟨b0_1,b1_1,b2_1,b3_1,b4_1⟩ := B1.out.p
      clear hg1; go_wp2_with fail; go_at_call 116; refine (each_any w0 jb lb ob _ l v ts _ .ref _ (HJ.out.grown GW1.out) hlen HA.out (.meth .ref _ rfl)).mono ?_; rintro e w2 ⟨v2, rfl, j2, k2⟩; have J2 := hide j2; have K2 : Hid (JK jb v w w2 v2) := (JK.grown GW1.out).trans k2; clear j2 k2; go_wp2_with fail
      go_ret
      exact .inr ⟨_, v2, HY.out, rfl, J2.out, K2.out⟩
    · have HN : Hid (stepR .typeName (.mk 13 x m p ts) = none) := HS.out.trans (onlyIf_no (by simp [h1]))
      have h1b : decide ((ts.length : Int) ≤ 1) = false := by simp; omega
      clear h hf ha
      go_enter Tryz.func84, Tryz.ntmps84
      go_wp2_with fail; go_at_call 77; refine (named_any jb lb (.mk 13 x m p ts) _ 0 _ (HJ.out.grown (by exact gb_alloc (gb_refl w none) _)).c0 (HJ.out.grown (by exact gb_alloc (gb_refl w none) _)).lex HF.out ⟨_, _, _, rfl⟩).mono ?_; rintro e w1 ⟨rfl, hg1⟩; rw [h0]; have GW1 := hide (gb_trans (gb_alloc (gb_refl w none) _) hg1); have B1 := hide ((Box.new w (.mk 13 x m p ts) (.slice a ts.length c) 24).kept hg1); obtain ⟨b0_1,b1_1,b2_1,b3_1,b4_1⟩ := B1.out.p
      clear hg1; go_wp2_with fail
      go_ret
      exact .inl ⟨HN.out, rfl, gb_trans HJ.out.gb GW1.out⟩
theorem jdes25 (w0 : World) (jb lb ob : Nat) (w : World) (l : List (T × Rule)) (v : Value) (x : List UInt8) (m p : Int) (ts : List T) (sv : Value) (h : JS w0 jb lb ob w l v) (hlen : l.length + ts.length ≤ 20000) (hf : Fits (.mk 25 x m p ts)) (ha : AT w0 (T.mk 25 x m p ts).subs sv) :
    Calls Tryz.prog 119 #[ptr jb, .agg #[.int .i64 25, .string ⟨x.toArray⟩, .int .i64 m, .int .i64 p, sv]] w (JR w0 jb lb ob l v w .designator (.mk 25 x m p ts)) := by
  have HJ := hide h; have HF := hide hf; have HA := hide ha; have hjl := h.lt
  have HV : Hid (∀ b, v.ownBlock = some b → b < w.heap.size) := fun b hb => (h.room hb).2
  obtain ⟨a,n,c,rfl,_,_,hl⟩ := ha.any
  change ts.length = n at hl
  subst hl
  have HS : Hid (stepR .designator (.mk 25 x m p ts) = onlyIf (headB (.mk 25 x m p ts) 25 true 0 1) (zipR ts [.designator])) := rfl
  cases h0 : (nameB (T.mk 25 x m p ts).name && withinB (.mk 25 x m p ts) 0)
  · have HN : Hid (stepR .designator (.mk 25 x m p ts) = none) := HS.out.trans (onlyIf_no (by rw [head_named (t := (.mk 25 x m p ts)) (k := 25) rfl, h0]; rfl))
    clear h hf ha
    go_enter Tryz.func119, Tryz.ntmps119
    go_wp2_with fail; go_at_call 77; refine (named_any jb lb (.mk 25 x m p ts) _ 0 _ (HJ.out.grown (by exact gb_alloc (gb_refl w none) _)).c0 (HJ.out.grown (by exact gb_alloc (gb_refl w none) _)).lex HF.out ⟨_, _, _, rfl⟩).mono ?_; rintro e w1 ⟨rfl, hg1⟩; rw [h0]; have GW1 := hide (gb_trans (gb_alloc (gb_refl w none) _) hg1); have B1 := hide ((Box.new w (.mk 25 x m p ts) (.slice a ts.length c) 24).kept hg1); obtain ⟨b0_1,b1_1,b2_1,b3_1,b4_1⟩ := B1.out.p
    clear hg1; go_wp2_with fail
    go_ret
    exact .inl ⟨HN.out, rfl, gb_trans HJ.out.gb GW1.out⟩
  · skip
    clear h hf ha
    go_enter Tryz.func119, Tryz.ntmps119
    go_wp2_with fail; go_at_call 77; refine (named_any jb lb (.mk 25 x m p ts) _ 0 _ (HJ.out.grown (by exact gb_alloc (gb_refl w none) _)).c0 (HJ.out.grown (by exact gb_alloc (gb_refl w none) _)).lex HF.out ⟨_, _, _, rfl⟩).mono ?_; rintro e w1 ⟨rfl, hg1⟩; rw [h0]; have GW1 := hide (gb_trans (gb_alloc (gb_refl w none) _) hg1); have B1 := hide ((Box.new w (.mk 25 x m p ts) (.slice a ts.length c) 24).kept hg1); obtain ⟨b0_1,b1_1,b2_1,b3_1,b4_1⟩ := B1.out.p
    clear hg1; have hsz := GW1.out.size
    have hjw : jb < w1.heap.size := by omega
    go_wp2_with fail; go_at_call 78; refine (below_any w0 jb lb ob _ l v (.mk 25 x m p ts) _ [.designator] _ (HJ.out.grown (by exact gb_alloc GW1.out _)) hlen (by decide) HA.out (RL.new1 _ _ (.meth .designator _ rfl) (by simpa using hjw) (fun b hb => by have := HV.out b hb; omega))).mono ?_; rintro e w2 (⟨hno, rfl, hg2⟩ | ⟨hyes, v2, rfl, j2, k2⟩)
    · go_wp2_with fail
      go_ret
      exact .inl ⟨HS.out.trans (onlyIf_no (by rw [head_named (t := (.mk 25 x m p ts)) (k := 25) rfl, h0]; exact (Bool.true_and _).trans (len_no (n := 1) hno))), rfl, gb_trans HJ.out.gb (gb_trans (by exact gb_alloc GW1.out _) hg2)⟩
    have J2 := hide j2; have K2 : Hid (JK jb v w w2 v2) := (JK.grown (by exact gb_alloc GW1.out _)).trans k2; clear j2 k2; go_wp2_with fail
    go_ret
    exact .inr ⟨_, v2, HS.out.trans (onlyIf_yes (by rw [head_named (t := (.mk 25 x m p ts)) (k := 25) rfl, h0]; exact (Bool.true_and _).trans (len_yes (n := 1) hyes))), rfl, J2.out, K2.out⟩
theorem jdes26 (w0 : World) (jb lb ob : Nat) (w : World) (l : List (T × Rule)) (v : Value) (x : List UInt8) (m p : Int) (ts : List T) (sv : Value) (h : JS w0 jb lb ob w l v) (hlen : l.length + ts.length ≤ 20000) (hf : Fits (.mk 26 x m p ts)) (ha : AT w0 (T.mk 26 x m p ts).subs sv) :
    Calls Tryz.prog 119 #[ptr jb, .agg #[.int .i64 26, .string ⟨x.toArray⟩, .int .i64 m, .int .i64 p, sv]] w (JR w0 jb lb ob l v w .designator (.mk 26 x m p ts)) := by
  have HJ := hide h; have HF := hide hf; have HA := hide ha; have hjl := h.lt
  have HV : Hid (∀ b, v.ownBlock = some b → b < w.heap.size) := fun b hb => (h.room hb).2
  obtain ⟨a,n,c,rfl,_,_,hl⟩ := ha.any
  change ts.length = n at hl
  subst hl
  have HS : Hid (stepR .designator (.mk 26 x m p ts) = onlyIf (headB (.mk 26 x m p ts) 26 false 0 2) (zipR ts [.designator, .expression])) := rfl
  cases h0 : ((T.mk 26 x m p ts).name.isEmpty && withinB (.mk 26 x m p ts) 0)
  · have HN : Hid (stepR .designator (.mk 26 x m p ts) = none) := HS.out.trans (onlyIf_no (by rw [head_unnamed (t := (.mk 26 x m p ts)) (k := 26) rfl, h0]; rfl))
    clear h hf ha
    go_enter Tryz.func119, Tryz.ntmps119
    go_wp2_with fail; go_at_call 115; refine (unnamed_any (.mk 26 x m p ts) _ 0 _ ⟨_, _, _, rfl⟩).mono ?_; rintro e w1 ⟨rfl, hg1⟩; rw [h0]; have GW1 := hide (gb_trans (gb_alloc (gb_refl w none) _) hg1); have B1 := hide ((Box.new w (.mk 26 x m p ts) (.slice a ts.length c) 24).kept hg1); obtain ⟨b0_1,b1_1,b2_1,b3_1,b4_1⟩ := B1.out.p
    clear hg1; go_wp2_with fail
    go_ret
    exact .inl ⟨HN.out, rfl, gb_trans HJ.out.gb GW1.out⟩
  · skip
    clear h hf ha
    go_enter Tryz.func119, Tryz.ntmps119
    go_wp2_with fail; go_at_call 115; refine (unnamed_any (.mk 26 x m p ts) _ 0 _ ⟨_, _, _, rfl⟩).mono ?_; rintro e w1 ⟨rfl, hg1⟩; rw [h0]; have GW1 := hide (gb_trans (gb_alloc (gb_refl w none) _) hg1); have B1 := hide ((Box.new w (.mk 26 x m p ts) (.slice a ts.length c) 24).kept hg1); obtain ⟨b0_1,b1_1,b2_1,b3_1,b4_1⟩ := B1.out.p
    clear hg1; have hsz := GW1.out.size
    have hjw : jb < w1.heap.size := by omega
    go_wp2_with fail; go_at_call 78; refine (below_any w0 jb lb ob _ l v (.mk 26 x m p ts) _ [.designator, .expression] _ (HJ.out.grown (by exact gb_alloc GW1.out _)) hlen (by decide) HA.out (RL.new2 _ _ (.meth .designator _ rfl) (.meth .expression _ rfl) (by simpa using hjw) (fun b hb => by have := HV.out b hb; omega))).mono ?_; rintro e w2 (⟨hno, rfl, hg2⟩ | ⟨hyes, v2, rfl, j2, k2⟩)
    · go_wp2_with fail
      go_ret
      exact .inl ⟨HS.out.trans (onlyIf_no (by rw [head_unnamed (t := (.mk 26 x m p ts)) (k := 26) rfl, h0]; exact (Bool.true_and _).trans (len_no (n := 2) hno))), rfl, gb_trans HJ.out.gb (gb_trans (by exact gb_alloc GW1.out _) hg2)⟩
    have J2 := hide j2; have K2 : Hid (JK jb v w w2 v2) := (JK.grown (by exact gb_alloc GW1.out _)).trans k2; clear j2 k2; go_wp2_with fail
    go_ret
    exact .inr ⟨_, v2, HS.out.trans (onlyIf_yes (by rw [head_unnamed (t := (.mk 26 x m p ts)) (k := 26) rfl, h0]; exact (Bool.true_and _).trans (len_yes (n := 2) hyes))), rfl, J2.out, K2.out⟩
theorem jdes27 (w0 : World) (jb lb ob : Nat) (w : World) (l : List (T × Rule)) (v : Value) (x : List UInt8) (m p : Int) (ts : List T) (sv : Value) (h : JS w0 jb lb ob w l v) (hlen : l.length + ts.length ≤ 20000) (hf : Fits (.mk 27 x m p ts)) (ha : AT w0 (T.mk 27 x m p ts).subs sv) :
    Calls Tryz.prog 119 #[ptr jb, .agg #[.int .i64 27, .string ⟨x.toArray⟩, .int .i64 m, .int .i64 p, sv]] w (JR w0 jb lb ob l v w .designator (.mk 27 x m p ts)) := by
  have HJ := hide h; have HF := hide hf; have HA := hide ha; have hjl := h.lt
  have HV : Hid (∀ b, v.ownBlock = some b → b < w.heap.size) := fun b hb => (h.room hb).2
  obtain ⟨a,n,c,rfl,_,_,hl⟩ := ha.any
  change ts.length = n at hl
  subst hl
  have HS : Hid (stepR .designator (.mk 27 x m p ts) = onlyIf (headB (.mk 27 x m p ts) 27 false 0 1) (zipR ts [.designator])) := rfl
  cases h0 : ((T.mk 27 x m p ts).name.isEmpty && withinB (.mk 27 x m p ts) 0)
  · have HN : Hid (stepR .designator (.mk 27 x m p ts) = none) := HS.out.trans (onlyIf_no (by rw [head_unnamed (t := (.mk 27 x m p ts)) (k := 27) rfl, h0]; rfl))
    clear h hf ha
    go_enter Tryz.func119, Tryz.ntmps119
    go_wp2_with fail; go_at_call 115; refine (unnamed_any (.mk 27 x m p ts) _ 0 _ ⟨_, _, _, rfl⟩).mono ?_; rintro e w1 ⟨rfl, hg1⟩; rw [h0]; have GW1 := hide (gb_trans (gb_alloc (gb_refl w none) _) hg1); have B1 := hide ((Box.new w (.mk 27 x m p ts) (.slice a ts.length c) 24).kept hg1); obtain ⟨b0_1,b1_1,b2_1,b3_1,b4_1⟩ := B1.out.p
    clear hg1; go_wp2_with fail
    go_ret
    exact .inl ⟨HN.out, rfl, gb_trans HJ.out.gb GW1.out⟩
  · skip
    clear h hf ha
    go_enter Tryz.func119, Tryz.ntmps119
    go_wp2_with fail; go_at_call 115; refine (unnamed_any (.mk 27 x m p ts) _ 0 _ ⟨_, _, _, rfl⟩).mono ?_; rintro e w1 ⟨rfl, hg1⟩; rw [h0]; have GW1 := hide (gb_trans (gb_alloc (gb_refl w none) _) hg1); have B1 := hide ((Box.new w (.mk 27 x m p ts) (.slice a ts.length c) 24).kept hg1); obtain ⟨b0_1,b1_1,b2_1,b3_1,b4_1⟩ := B1.out.p
    clear hg1; have hsz := GW1.out.size
    have hjw : jb < w1.heap.size := by omega
    go_wp2_with fail; go_at_call 78; refine (below_any w0 jb lb ob _ l v (.mk 27 x m p ts) _ [.designator] _ (HJ.out.grown (by exact gb_alloc GW1.out _)) hlen (by decide) HA.out (RL.new1 _ _ (.meth .designator _ rfl) (by simpa using hjw) (fun b hb => by have := HV.out b hb; omega))).mono ?_; rintro e w2 (⟨hno, rfl, hg2⟩ | ⟨hyes, v2, rfl, j2, k2⟩)
    · go_wp2_with fail
      go_ret
      exact .inl ⟨HS.out.trans (onlyIf_no (by rw [head_unnamed (t := (.mk 27 x m p ts)) (k := 27) rfl, h0]; exact (Bool.true_and _).trans (len_no (n := 1) hno))), rfl, gb_trans HJ.out.gb (gb_trans (by exact gb_alloc GW1.out _) hg2)⟩
    have J2 := hide j2; have K2 : Hid (JK jb v w w2 v2) := (JK.grown (by exact gb_alloc GW1.out _)).trans k2; clear j2 k2; go_wp2_with fail
    go_ret
    exact .inr ⟨_, v2, HS.out.trans (onlyIf_yes (by rw [head_unnamed (t := (.mk 27 x m p ts)) (k := 27) rfl, h0]; exact (Bool.true_and _).trans (len_yes (n := 1) hyes))), rfl, J2.out, K2.out⟩
theorem jdes28 (w0 : World) (jb lb ob : Nat) (w : World) (l : List (T × Rule)) (v : Value) (x : List UInt8) (m p : Int) (ts : List T) (sv : Value) (h : JS w0 jb lb ob w l v) (hlen : l.length + ts.length ≤ 20000) (hf : Fits (.mk 28 x m p ts)) (ha : AT w0 (T.mk 28 x m p ts).subs sv) :
    Calls Tryz.prog 119 #[ptr jb, .agg #[.int .i64 28, .string ⟨x.toArray⟩, .int .i64 m, .int .i64 p, sv]] w (JR w0 jb lb ob l v w .designator (.mk 28 x m p ts)) := by
  have HJ := hide h; have HF := hide hf; have HA := hide ha; have hjl := h.lt
  have HV : Hid (∀ b, v.ownBlock = some b → b < w.heap.size) := fun b hb => (h.room hb).2
  obtain ⟨a,n,c,rfl,_,_,hl⟩ := ha.any
  change ts.length = n at hl
  subst hl
  have HS : Hid (stepR .designator (.mk 28 x m p ts) = onlyIf (headB (.mk 28 x m p ts) 28 false 0 2) (zipR ts [.designator, .typeName])) := rfl
  cases h0 : ((T.mk 28 x m p ts).name.isEmpty && withinB (.mk 28 x m p ts) 0)
  · have HN : Hid (stepR .designator (.mk 28 x m p ts) = none) := HS.out.trans (onlyIf_no (by rw [head_unnamed (t := (.mk 28 x m p ts)) (k := 28) rfl, h0]; rfl))
    clear h hf ha
    go_enter Tryz.func119, Tryz.ntmps119
    go_wp2_with fail; go_at_call 115; refine (unnamed_any (.mk 28 x m p ts) _ 0 _ ⟨_, _, _, rfl⟩).mono ?_; rintro e w1 ⟨rfl, hg1⟩; rw [h0]; have GW1 := hide (gb_trans (gb_alloc (gb_refl w none) _) hg1); have B1 := hide ((Box.new w (.mk 28 x m p ts) (.slice a ts.length c) 24).kept hg1); obtain ⟨b0_1,b1_1,b2_1,b3_1,b4_1⟩ := B1.out.p
    clear hg1; go_wp2_with fail
    go_ret
    exact .inl ⟨HN.out, rfl, gb_trans HJ.out.gb GW1.out⟩
  · skip
    clear h hf ha
    go_enter Tryz.func119, Tryz.ntmps119
    go_wp2_with fail; go_at_call 115; refine (unnamed_any (.mk 28 x m p ts) _ 0 _ ⟨_, _, _, rfl⟩).mono ?_; rintro e w1 ⟨rfl, hg1⟩; rw [h0]; have GW1 := hide (gb_trans (gb_alloc (gb_refl w none) _) hg1); have B1 := hide ((Box.new w (.mk 28 x m p ts) (.slice a ts.length c) 24).kept hg1); obtain ⟨b0_1,b1_1,b2_1,b3_1,b4_1⟩ := B1.out.p
    clear hg1; have hsz := GW1.out.size
    have hjw : jb < w1.heap.size := by omega
    go_wp2_with fail; go_at_call 78; refine (below_any w0 jb lb ob _ l v (.mk 28 x m p ts) _ [.designator, .typeName] _ (HJ.out.grown (by exact gb_alloc GW1.out _)) hlen (by decide) HA.out (RL.new2 _ _ (.meth .designator _ rfl) (.meth .typeName _ rfl) (by simpa using hjw) (fun b hb => by have := HV.out b hb; omega))).mono ?_; rintro e w2 (⟨hno, rfl, hg2⟩ | ⟨hyes, v2, rfl, j2, k2⟩)
    · go_wp2_with fail
      go_ret
      exact .inl ⟨HS.out.trans (onlyIf_no (by rw [head_unnamed (t := (.mk 28 x m p ts)) (k := 28) rfl, h0]; exact (Bool.true_and _).trans (len_no (n := 2) hno))), rfl, gb_trans HJ.out.gb (gb_trans (by exact gb_alloc GW1.out _) hg2)⟩
    have J2 := hide j2; have K2 : Hid (JK jb v w w2 v2) := (JK.grown (by exact gb_alloc GW1.out _)).trans k2; clear j2 k2; go_wp2_with fail
    go_ret
    exact .inr ⟨_, v2, HS.out.trans (onlyIf_yes (by rw [head_unnamed (t := (.mk 28 x m p ts)) (k := 28) rfl, h0]; exact (Bool.true_and _).trans (len_yes (n := 2) hyes))), rfl, J2.out, K2.out⟩
end Go.Proofs.YtapfecciakijhaaGreatDoor
