/- The program's judge of shapes: several parts put down. -/
import Derived.Test.YtlkokcnbbihljaaGreatDoorG16
namespace Go.Proofs.YtlkokcnbbihljaaGreatDoor
open Go.RowKit Go.Maps Go.WideMaps Go.WideElems

abbrev free (jb : Nat) (v : Value) : Nat → Prop := fun k => k ≠ jb ∧ v.ownBlock ≠ some k
section
variable {w0 : World} {jb lb ob : Nat} {w w' : World} {l : List (T × Rule)} {v v' : Value} {r : Rule} {rv : Value}
theorem JK.fr (h : JK jb v w w' v') : ∀ k, k < w.heap.size → free jb v k → free jb v' k := fun k hk hs => ⟨hs.1, fun e => by
  rcases h.at' with h' | h'
  · exact hs.2 (h' ▸ e)
  · have := h' k e; omega⟩
theorem RV.step (h : RV w jb (free jb v) r rv) (hk : JK jb v w w' v') : RV w' jb (free jb v') r rv := h.kept hk.kb hk.fr
theorem RV.grown (h : RV w jb (free jb v) r rv) (hg : w.grownBy w' none) : RV w' jb (free jb v) r rv := h.step (JK.grown hg)
theorem JK.old (_h : JK jb v w w' v') (hj : JS w0 jb lb ob w l v) {k : Nat} (hk : k < w0.heap.size) : free jb v k := ⟨by have := hj.jlo; omega, fun e => by have := (hj.room e).1; omega⟩
end

set_option maxRecDepth 1000000 in
set_option maxHeartbeats 2000000 in
theorem each_any (w0 : World) (jb lb ob : Nat) (w : World) (l : List (T × Rule)) (v : Value) (ts : List T) (sl : Value) (r : Rule) (rv : Value) (h : JS w0 jb lb ob w l v) (hlen : l.length + ts.length ≤ 20000) (ha : AT w0 ts sl) (hr : RV w jb (free jb v) r rv) :
    Calls Tryz.prog 116 #[ptr jb, sl, rv] w fun e w' => ∃ v', e = .returned (.bool true) ∧ JS w0 jb lb ob w' (l ++ eachR ts r) v' ∧ JK jb v w w' v' := by
  obtain ⟨sa, sc, rfl, hs1, hs2⟩ := ha.form
  unfold maxLen at hs2
  have HA := hide ha
  have HR := hide hr
  have HJ := hide h
  clear h ha hr
  go_enter Tryz.func116, Tryz.ntmps116
  go_wp2_with fail
  go_loopw [11] (fun iv wr => ∃ (i : Nat) (v1 : Value), i ≤ ts.length ∧ iv = .int .i64 ↑i ∧ Hid (JS w0 jb lb ob wr (l ++ eachR (ts.take i) r) v1) ∧ Hid (JK jb v w wr v1)) (fun iv _ => ts.length - (intOf iv).toNat)
  case atStart => exact ⟨0, v, Nat.zero_le _, rfl, by show JS _ _ _ _ _ _ _; simpa [eachR] using HJ.out, JK.refl _ _ _⟩
  case round =>
    obtain ⟨i, v1, hi, rfl, J1, K1⟩ := hrel
    by_cases hlt : i < ts.length
    · obtain ⟨u, hu⟩ : ∃ u, ts[i]? = some u := ⟨_, List.getElem?_eq_getElem hlt⟩
      obtain ⟨g, o, su, e1, n5, fu, au⟩ := HA.out.node i u hu
      cases e1
      obtain ⟨ua, uc, rfl, _, _⟩ := au.form
      obtain ⟨c0, c1, c2, c3, c4⟩ := n5.kept J1.out.gb
      have HE : Hid (l ++ eachR (ts.take i) r ++ [(u, r)] = l ++ eachR (ts.take (i + 1)) r) := by
        show _ = _
        rw [List.take_add_one, hu]
        simp [eachR]
      have HU := hide fu
      have AU := hide au
      have R1 := hide (HR.out.step K1.out)
      clear hu fu au n5
      go_wp2_with fail
      go_at_call 48
      refine (put_any w0 jb lb ob _ _ v1 u r _ rv (J1.out.grown (by repeat (first | with_reducible exact gb_refl wr none | with_reducible refine gb_put ?_ (by omega) _ _ | with_reducible refine gb_alloc ?_ _ | with_reducible refine gb_drewN ?_ _ | with_reducible refine gb_drew ?_))) (by simp [eachR]; omega) HU.out AU.out (R1.out.grown (by repeat (first | with_reducible exact gb_refl wr none | with_reducible refine gb_put ?_ (by omega) _ _ | with_reducible refine gb_alloc ?_ _ | with_reducible refine gb_drewN ?_ _ | with_reducible refine gb_drew ?_)))).mono ?_
      rintro e w2 ⟨v2, rfl, j2, k2⟩
      have J2 : Hid (JS w0 jb lb ob w2 (l ++ eachR (ts.take (i + 1)) r) v2) := HE.out ▸ j2
      have K2 : Hid (JK jb v w w2 v2) := K1.out.trans ((JK.grown (by repeat (first | with_reducible exact gb_refl wr none | with_reducible refine gb_put ?_ (by omega) _ _ | with_reducible refine gb_alloc ?_ _ | with_reducible refine gb_drewN ?_ _ | with_reducible refine gb_drew ?_))).trans k2)
      clear j2 k2
      go_wp2_with fail
      exact ⟨⟨i + 1, v2, by omega, by go_num, J2, K2⟩, by simp [intOf]; omega⟩
    · have J2 : Hid (JS w0 jb lb ob wr (l ++ eachR ts r) v1) := by
        have := J1.out
        rw [List.take_of_length_le (by omega)] at this
        exact this
      go_wp2_with fail
      go_ret
      exact ⟨v1, rfl, J2.out, K1.out⟩

set_option maxRecDepth 1000000 in
set_option maxHeartbeats 2000000 in
theorem first_any (w0 : World) (jb lb ob : Nat) (w : World) (l : List (T × Rule)) (v : Value) (t : T) (sv : Value) (r q : Rule) (rv qv : Value) (h : JS w0 jb lb ob w l v) (hlen : l.length + t.subs.length ≤ 20000) (ha : AT w0 t.subs sv) (hr : RV w jb (free jb v) r rv) (hq : RV w jb (free jb v) q qv) :
    Calls Tryz.prog 118 #[ptr jb, nodeV t sv, rv, qv] w fun e w' => (t.subs = [] ∧ e = .returned (.bool false) ∧ w.grownBy w' none) ∨ (0 < t.subs.length ∧ ∃ v', e = .returned (.bool true) ∧ JS w0 jb lb ob w' (l ++ firstR t r q) v' ∧ JK jb v w w' v') := by
  have HR := hide hr
  have HQ := hide hq
  have HJ := hide h
  obtain ⟨kd, x, m, p, ts⟩ := t
  match ts, ha, hlen with
  | [], ha, hlen =>
    obtain ⟨a, c, rfl, hc, _⟩ := ha.zero rfl
    clear ha hr hq h
    change Calls Tryz.prog 118 #[ptr jb, .agg #[.int .i64 kd, .string ⟨x.toArray⟩, .int .i64 m, .int .i64 p, .slice a 0 c], rv, qv] w _
    go_enter Tryz.func118, Tryz.ntmps118
    go_wp2_with fail
    go_ret
    exact .inl ⟨rfl, rfl, gb_alloc (gb_refl w none) _⟩
  | u :: ts, ha, hlen =>
    obtain ⟨g, o, c, su, rfl, hn, hc, n5, fu, au, ar⟩ := AT.cons ha
    have N0 := hide n5
    have HU := hide fu
    have AU := hide au
    have AR : Hid (∀ c', (c = c' + 1 ∧ 1 < c) → AT w0 ts (.slice (some ⟨g, o + 5, none⟩) ts.length c')) := fun c' hc' => by obtain ⟨rfl, _⟩ := hc'; exact ar
    have hne : ((ts.length : Int) + 1 == 0) = false := by rw [beq_eq_false_iff_ne]; omega
    clear ha hr hq h fu au n5
    have hl1 : l.length + 1 + ts.length ≤ 20000 := by simp [T.subs] at hlen; omega
    clear hlen
    change Calls Tryz.prog 118 #[ptr jb, .agg #[.int .i64 kd, .string ⟨x.toArray⟩, .int .i64 m, .int .i64 p, .slice (some ⟨g, o, none⟩) (ts.length + 1) c], rv, qv] w _
    obtain ⟨d0, d1, d2, d3, d4⟩ := N0.out.kept HJ.out.gb
    have hgl := block_lt d0
    rcases Nat.lt_or_ge 1 c with hc1 | hc1
    · have AS := hide ar
      clear ar AR
      go_enter Tryz.func118, Tryz.ntmps118
      go_wp2_with fail
      go_at_call 48
      refine (put_any w0 jb lb ob _ l v u r su rv (HJ.out.grown (by repeat (first | with_reducible exact gb_refl w none | with_reducible refine gb_put ?_ (by omega) _ _ | with_reducible refine gb_alloc ?_ _ | with_reducible refine gb_drewN ?_ _ | with_reducible refine gb_drew ?_))) (by omega) HU.out AU.out (HR.out.grown (by repeat (first | with_reducible exact gb_refl w none | with_reducible refine gb_put ?_ (by omega) _ _ | with_reducible refine gb_alloc ?_ _ | with_reducible refine gb_drewN ?_ _ | with_reducible refine gb_drew ?_)))).mono ?_
      rintro e w2 ⟨v2, rfl, j2, k2⟩
      have J2 := hide j2
      have K2 : Hid (JK jb v w w2 v2) := (JK.grown (by repeat (first | with_reducible exact gb_refl w none | with_reducible refine gb_put ?_ (by omega) _ _ | with_reducible refine gb_alloc ?_ _ | with_reducible refine gb_drewN ?_ _ | with_reducible refine gb_drew ?_))).trans k2
      have B2 : Box w2 w.heap.size (.mk kd x m p (u :: ts)) (.slice (some ⟨g, o, none⟩) (ts.length + 1) c) := by
        have hb := Box.new w (.mk kd x m p (u :: ts)) (.slice (some ⟨g, o, none⟩) (ts.length + 1) c) 24
        have hs : free jb v w.heap.size := ⟨by have := HJ.out.lt; omega, fun e => by have := (HJ.out.room e).2; omega⟩
        exact ⟨k2.kb.cell hb.c0 hs, k2.kb.cell hb.c1 hs, k2.kb.cell hb.c2 hs, k2.kb.cell hb.c3 hs, k2.kb.cell hb.c4 hs⟩
      obtain ⟨b0, b1, b2, b3, b4⟩ := B2
      clear j2 k2
      go_wp2_with fail
      go_at_call 116
      refine (each_any w0 jb lb ob _ _ v2 ts _ q qv J2.out (by simp; omega) AS.out (HQ.out.step K2.out)).mono ?_
      rintro e w3 ⟨v3, rfl, j3, k3⟩
      have J3 : Hid (JS w0 jb lb ob w3 (l ++ firstR (.mk kd x m p (u :: ts)) r q) v3) := by
        have := j3
        rw [List.append_assoc] at this
        exact this
      have K3 : Hid (JK jb v w w3 v3) := K2.out.trans k3
      clear j3 k3
      go_wp2_with fail
      go_ret
      exact .inr ⟨by simp [T.subs], v3, rfl, J3.out, K3.out⟩
    · obtain rfl : c = 1 := by omega
      obtain rfl : ts = [] := List.eq_nil_of_length_eq_zero (by omega)
      have AS : Hid (AT w0 [] (.slice (some ⟨g, o, none⟩) 0 0)) := AT.nil _ _ (Nat.zero_le _)
      clear ar AR
      go_enter Tryz.func118, Tryz.ntmps118
      go_wp2_with fail
      go_at_call 48
      refine (put_any w0 jb lb ob _ l v u r su rv (HJ.out.grown (by repeat (first | with_reducible exact gb_refl w none | with_reducible refine gb_put ?_ (by omega) _ _ | with_reducible refine gb_alloc ?_ _ | with_reducible refine gb_drewN ?_ _ | with_reducible refine gb_drew ?_))) (by omega) HU.out AU.out (HR.out.grown (by repeat (first | with_reducible exact gb_refl w none | with_reducible refine gb_put ?_ (by omega) _ _ | with_reducible refine gb_alloc ?_ _ | with_reducible refine gb_drewN ?_ _ | with_reducible refine gb_drew ?_)))).mono ?_
      rintro e w2 ⟨v2, rfl, j2, k2⟩
      have J2 := hide j2
      have K2 : Hid (JK jb v w w2 v2) := (JK.grown (by repeat (first | with_reducible exact gb_refl w none | with_reducible refine gb_put ?_ (by omega) _ _ | with_reducible refine gb_alloc ?_ _ | with_reducible refine gb_drewN ?_ _ | with_reducible refine gb_drew ?_))).trans k2
      have B2 : Box w2 w.heap.size (.mk kd x m p (u :: [])) (.slice (some ⟨g, o, none⟩) (1) 1) := by
        have hb := Box.new w (.mk kd x m p (u :: [])) (.slice (some ⟨g, o, none⟩) (1) 1) 24
        have hs : free jb v w.heap.size := ⟨by have := HJ.out.lt; omega, fun e => by have := (HJ.out.room e).2; omega⟩
        exact ⟨k2.kb.cell hb.c0 hs, k2.kb.cell hb.c1 hs, k2.kb.cell hb.c2 hs, k2.kb.cell hb.c3 hs, k2.kb.cell hb.c4 hs⟩
      obtain ⟨b0, b1, b2, b3, b4⟩ := B2
      clear j2 k2
      go_wp2_with fail
      go_at_call 116
      refine (each_any w0 jb lb ob _ _ v2 [] _ q qv J2.out (by simp; omega) AS.out (HQ.out.step K2.out)).mono ?_
      rintro e w3 ⟨v3, rfl, j3, k3⟩
      have J3 : Hid (JS w0 jb lb ob w3 (l ++ firstR (.mk kd x m p (u :: [])) r q) v3) := by
        have := j3
        rw [List.append_assoc] at this
        exact this
      have K3 : Hid (JK jb v w w3 v3) := K2.out.trans k3
      clear j3 k3
      go_wp2_with fail
      go_ret
      exact .inr ⟨by simp [T.subs], v3, rfl, J3.out, K3.out⟩
end Go.Proofs.YtlkokcnbbihljaaGreatDoor

/- The program's judge of shapes: parts by several rules; rules made. -/
namespace Go.Proofs.YtlkokcnbbihljaaGreatDoor
open Go.RowKit Go.Maps Go.WideMaps Go.WideElems

/-- A list of rules in memory. -/
def RL (w : World) (jb : Nat) (v : Value) (rs : List Rule) (sl : Value) : Prop :=
  (rs = [] ∧ sl = .slice none 0 0) ∨ ∃ rb, sl = .slice (some ⟨rb, 0, none⟩) rs.length rs.length ∧ rb < w.heap.size ∧ free jb v rb ∧ ∀ (i : Nat) (r : Rule), rs[i]? = some r → ∃ rv, w.cell? ⟨rb, i, none⟩ = some rv ∧ RV w jb (free jb v) r rv
theorem RL.step {w w' : World} {jb : Nat} {v v' : Value} {rs : List Rule} {sl : Value} (h : RL w jb v rs sl) (hk : JK jb v w w' v') : RL w' jb v' rs sl := by
  rcases h with h | ⟨rb, rfl, hlt, hf, hr⟩
  · exact .inl h
  · exact .inr ⟨rb, rfl, Nat.lt_of_lt_of_le hlt hk.kb.size, hk.fr rb hlt hf, fun i r hi => by
      obtain ⟨rv, c, q⟩ := hr i r hi
      exact ⟨rv, hk.kb.cell c hf, q.step hk⟩⟩
theorem zipR_take {ts : List T} {rs : List Rule} {i : Nat} {u : T} {r : Rule} (hu : ts[i]? = some u) (hr : rs[i]? = some r) : zipR (ts.take (i + 1)) (rs.take (i + 1)) = zipR (ts.take i) (rs.take i) ++ [(u, r)] := by
  induction i generalizing ts rs with
  | zero =>
    cases ts with
    | nil => simp at hu
    | cons t ts => cases rs with
      | nil => simp at hr
      | cons q rs => simp at hu hr; subst hu hr; simp [zipR]
  | succ i ih =>
    cases ts with
    | nil => simp at hu
    | cons t ts => cases rs with
      | nil => simp at hr
      | cons q rs =>
        have := ih (ts := ts) (rs := rs) (by simpa using hu) (by simpa using hr)
        simp only [List.take_succ_cons, zipR, this, List.cons_append]
theorem zipR_len : ∀ (ts : List T) (rs : List Rule), (zipR ts rs).length ≤ ts.length
  | [], _ => by simp [zipR]
  | _ :: _, [] => by simp [zipR]
  | _ :: ts, _ :: rs => by simp only [zipR, List.length_cons]; have := zipR_len ts rs; omega

set_option maxRecDepth 1000000 in
set_option maxHeartbeats 2000000 in
theorem below_any (w0 : World) (jb lb ob : Nat) (w : World) (l : List (T × Rule)) (v : Value) (t : T) (sv : Value) (rs : List Rule) (sl : Value) (h : JS w0 jb lb ob w l v) (hlen : l.length + t.subs.length ≤ 20000) (hrs : rs.length ≤ 100) (ha : AT w0 t.subs sv) (hr : RL w jb v rs sl) :
    Calls Tryz.prog 78 #[ptr jb, nodeV t sv, sl] w fun e w' => (t.subs.length ≠ rs.length ∧ e = .returned (.bool false) ∧ w.grownBy w' none) ∨ (t.subs.length = rs.length ∧ ∃ v', e = .returned (.bool true) ∧ JS w0 jb lb ob w' (l ++ zipR t.subs rs) v' ∧ JK jb v w w' v') := by
  have HJ := hide h
  have HA := hide ha
  have HR := hide hr
  obtain ⟨kd, x, m, p, ts⟩ := t
  obtain ⟨a, n, c, rfl, hn, hc, hl⟩ := ha.any
  change ts.length = n at hl
  subst hl
  obtain ⟨ra, hsl⟩ : ∃ ra, sl = .slice ra rs.length rs.length := by
    rcases hr with ⟨rfl, rfl⟩ | ⟨rb, rfl, _⟩
    · exact ⟨_, rfl⟩
    · exact ⟨_, rfl⟩
  subst hsl
  have hlen1 : l.length + ts.length ≤ 20000 := hlen
  clear h ha hr hlen
  change Calls Tryz.prog 78 #[ptr jb, .agg #[.int .i64 kd, .string ⟨x.toArray⟩, .int .i64 m, .int .i64 p, .slice a ts.length c], .slice ra rs.length rs.length] w _
  by_cases hne : ts.length = rs.length
  · have hnb : ((ts.length : Int) != (rs.length : Int)) = false := by simp; omega
    have HN := hide hne
    have hle : ts.length ≤ 100 := by omega
    clear hne
    go_enter Tryz.func78, Tryz.ntmps78
    go_wp2_with fail
    go_loopw [17] (fun iv wr => ∃ (i : Nat) (v1 : Value), i ≤ rs.length ∧ iv = .int .i64 ↑i ∧ Hid (JS w0 jb lb ob wr (l ++ zipR (ts.take i) (rs.take i)) v1) ∧ Hid (JK jb v (w.alloc (.cells #[.int .i64 kd, .string ⟨x.toArray⟩, .int .i64 m, .int .i64 p, .slice a ts.length c] 24)) wr v1) ∧ Hid (Box wr w.heap.size (.mk kd x m p ts) (.slice a ts.length c))) (fun iv _ => rs.length - (intOf iv).toNat)
    case atStart => exact ⟨0, v, Nat.zero_le _, rfl, by show JS _ _ _ _ _ _ _; simpa [zipR] using HJ.out.grown (gb_alloc (gb_refl w none) _), JK.refl _ _ _, Box.new w (.mk kd x m p ts) (.slice a ts.length c) 24⟩
    case round =>
      obtain ⟨i, v1, hi, rfl, J1, K1, X1⟩ := hrel
      obtain ⟨b0, b1, b2, b3, b4⟩ := X1.out
      by_cases hlt : i < rs.length
      · obtain ⟨u, hu⟩ : ∃ u, ts[i]? = some u := ⟨_, List.getElem?_eq_getElem (by have := HN.out; omega)⟩
        obtain ⟨r, hr⟩ : ∃ r, rs[i]? = some r := ⟨_, List.getElem?_eq_getElem hlt⟩
        obtain ⟨g, o, su, e1, n5, fu, au⟩ := HA.out.node i u hu
        cases e1
        have RS := (HR.out.step (JK.grown (gb_alloc (gb_refl w none) _))).step K1.out
        rcases RS with ⟨rfl, _⟩ | ⟨rb, e2, hrl, hrf, hrr⟩
        · simp at hlt
        cases e2
        obtain ⟨rv, rc, rr⟩ := hrr i r hr
        obtain ⟨c0, c1, c2, c3, c4⟩ := n5.kept J1.out.gb
        have HE : Hid (l ++ zipR (ts.take i) (rs.take i) ++ [(u, r)] = l ++ zipR (ts.take (i + 1)) (rs.take (i + 1))) := by
          show _ = _
          rw [zipR_take hu hr, List.append_assoc]
        have HU := hide fu
        have AU := hide au
        have R1 := hide rr
        have hln : (l ++ zipR (ts.take i) (rs.take i)).length ≤ 20000 := by
          have := zipR_len (ts.take i) (rs.take i)
          simp at this ⊢
          omega
        obtain ⟨gn, fa, ca, rfl⟩ := rr.form
        have hlti : i < ts.length := by have := HN.out; omega
        clear hu hr fu au n5 hrr rr
        go_wp2_with fail
        go_at_call 48
        refine (put_any w0 jb lb ob _ _ v1 u r su _ (J1.out.grown (by repeat (first | with_reducible exact gb_refl wr none | with_reducible refine gb_put ?_ (by omega) _ _ | with_reducible refine gb_alloc ?_ _ | with_reducible refine gb_drewN ?_ _ | with_reducible refine gb_drew ?_))) hln HU.out AU.out (R1.out.grown (by repeat (first | with_reducible exact gb_refl wr none | with_reducible refine gb_put ?_ (by omega) _ _ | with_reducible refine gb_alloc ?_ _ | with_reducible refine gb_drewN ?_ _ | with_reducible refine gb_drew ?_)))).mono ?_
        rintro e w2 ⟨v2, rfl, j2, k2⟩
        have J2 : Hid (JS w0 jb lb ob w2 (l ++ zipR (ts.take (i + 1)) (rs.take (i + 1))) v2) := HE.out ▸ j2
        have KK : Hid (JK jb v1 wr w2 v2) := (JK.grown (by repeat (first | with_reducible exact gb_refl wr none | with_reducible refine gb_put ?_ (by omega) _ _ | with_reducible refine gb_alloc ?_ _ | with_reducible refine gb_drewN ?_ _ | with_reducible refine gb_drew ?_))).trans k2
        have K2 : Hid (JK jb v (w.alloc (.cells #[.int .i64 kd, .string ⟨x.toArray⟩, .int .i64 m, .int .i64 p, .slice (some ⟨g, o, none⟩) ts.length c] 24)) w2 v2) := K1.out.trans KK.out
        have X2 : Hid (Box w2 w.heap.size (.mk kd x m p ts) (.slice (some ⟨g, o, none⟩) ts.length c)) := by
          have hs : free jb v1 w.heap.size := ⟨by have := HJ.out.lt; omega, fun e => by
            rcases K1.out.at' with h' | h'
            · have := (HJ.out.room (h' ▸ e)).2; omega
            · exact absurd (h' _ e) (by simp)⟩
          exact ⟨KK.out.kb.cell b0 hs, KK.out.kb.cell b1 hs, KK.out.kb.cell b2 hs, KK.out.kb.cell b3 hs, KK.out.kb.cell b4 hs⟩
        clear j2 k2
        go_wp2_with fail
        exact ⟨⟨i + 1, v2, by omega, by go_num, J2, K2, X2⟩, by simp [intOf]; omega⟩
      · have J2 : Hid (JS w0 jb lb ob wr (l ++ zipR ts rs) v1) := by
          have := J1.out
          rw [List.take_of_length_le (by have := HN.out; omega), List.take_of_length_le (by omega)] at this
          exact this
        go_wp2_with fail
        go_ret
        exact .inr ⟨HN.out, v1, rfl, J2.out, (JK.grown (gb_alloc (gb_refl w none) _)).trans K1.out⟩
  · have hnb : ((ts.length : Int) != (rs.length : Int)) = true := by simp; omega
    go_enter Tryz.func78, Tryz.ntmps78
    go_wp2_with fail
    go_ret
    exact .inl ⟨hne, rfl, gb_alloc (gb_refl w none) _⟩

set_option maxRecDepth 1000000 in
set_option maxHeartbeats 1000000 in
theorem list_any (jb : Nat) (w : World) (v : Value) (r : Rule) (rv : Value) (hj : jb < w.heap.size) (hv : ∀ b, v.ownBlock = some b → b < w.heap.size) (hr : RV w jb (free jb v) r rv) :
    Calls Tryz.prog 79 #[ptr jb, rv] w fun e w' => ∃ g fa ca, e = .returned (.func (.func g) fa ca) ∧ RV w' jb (free jb v) (.list r) (.func (.func g) fa ca) ∧ w.grownBy w' none := by
  have HR := hide hr
  obtain ⟨gn, fa, ca, rfl⟩ := hr.form
  have S1 : Hid (free jb v w.heap.size) := ⟨by omega, fun e => by have := hv _ e; omega⟩
  have S2 : Hid (free jb v (w.heap.size + 1)) := ⟨by omega, fun e => by have := hv _ e; omega⟩
  clear hr hv
  go_enter Tryz.func79, Tryz.ntmps79
  go_wp2_with fail
  go_ret
  have hg : w.grownBy ((w.alloc (.cells #[ptr jb] 110)).alloc (.cells #[.func (.func gn) fa ca] 81)) none := gb_alloc (gb_alloc (gb_refl w none) _) _
  refine ⟨_, _, _, rfl, .list r (.func (.func gn) fa ca) _ _ S1.out S2.out ?_ ?_ (HR.out.grown hg), hg⟩
  · rw [World.cell?_alloc_past _ _ _ (by simp), World.cell?_alloc_at _ _ _ _ rfl]; rfl
  · rw [World.cell?_alloc_at _ _ _ _ (by simp)]; rfl
set_option maxRecDepth 1000000 in
set_option maxHeartbeats 1000000 in
theorem declared_any (jb : Nat) (w : World) (v : Value) (k m : Int) (r : Rule) (rv : Value) (hj : jb < w.heap.size) (hv : ∀ b, v.ownBlock = some b → b < w.heap.size) (hr : RV w jb (free jb v) r rv) :
    Calls Tryz.prog 81 #[ptr jb, .int .i64 k, .int .i64 m, rv] w fun e w' => ∃ g fa ca, e = .returned (.func (.func g) fa ca) ∧ RV w' jb (free jb v) (.declared k m r) (.func (.func g) fa ca) ∧ w.grownBy w' none := by
  have HR := hide hr
  obtain ⟨gn, fa, ca, rfl⟩ := hr.form
  have S0 : Hid (free jb v w.heap.size) := ⟨by omega, fun e => by have := hv _ e; omega⟩
  have S1 : Hid (free jb v (w.heap.size + 1)) := ⟨by omega, fun e => by have := hv _ e; omega⟩
  have S2 : Hid (free jb v (w.heap.size + 1 + 1)) := ⟨by omega, fun e => by have := hv _ e; omega⟩
  have S3 : Hid (free jb v (w.heap.size + 1 + 1 + 1)) := ⟨by omega, fun e => by have := hv _ e; omega⟩
  clear hr hv
  go_enter Tryz.func81, Tryz.ntmps81
  go_wp2_with fail
  go_ret
  have hg : w.grownBy ((((w.alloc (.cells #[ptr jb] 110)).alloc (.cells #[.int .i64 k] 3)).alloc (.cells #[.int .i64 m] 3)).alloc (.cells #[.func (.func gn) fa ca] 81)) none := gb_alloc (gb_alloc (gb_alloc (gb_alloc (gb_refl w none) _) _) _) _
  refine ⟨_, _, _, rfl, .declared k m r (.func (.func gn) fa ca) (w.heap.size + 1) w.heap.size (w.heap.size + 1 + 1) (w.heap.size + 1 + 1 + 1) S1.out S0.out S2.out S3.out ?_ ?_ ?_ ?_ (HR.out.grown hg), hg⟩
  · rw [World.cell?_alloc_past _ _ _ (by simp), World.cell?_alloc_past _ _ _ (by simp), World.cell?_alloc_at _ _ _ _ (by simp)]; rfl
  · rw [World.cell?_alloc_past _ _ _ (by simp; omega), World.cell?_alloc_past _ _ _ (by simp; omega), World.cell?_alloc_past _ _ _ (by simp), World.cell?_alloc_at _ _ _ _ rfl]; rfl
  · rw [World.cell?_alloc_past _ _ _ (by simp), World.cell?_alloc_at _ _ _ _ (by simp)]; rfl
  · rw [World.cell?_alloc_at _ _ _ _ (by simp)]; rfl
end Go.Proofs.YtlkokcnbbihljaaGreatDoor
