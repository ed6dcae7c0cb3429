/- The program's judge of shapes: its small steps. -/
import Derived.Test.YtapfecciakijhaaGreatDoorG07
import Derived.Test.YtapfecciakijhaaGreatDoorG03
namespace Go.Proofs.YtapfecciakijhaaGreatDoor
open Go.RowKit Go.Maps Go.WideMaps Go.WideElems
set_option maxHeartbeats 2000000
set_option maxRecDepth 1000000

def withinB (t : T) (most : Int) : Bool := decide (0 ≤ t.num ∧ t.num ≤ most)
theorem within_any (t : T) (sv : Value) (most : Int) (w : World) (ha : ∃ a n c, sv = .slice a n c) :
    Calls Tryz.prog 113 #[nodeV t sv, .int .i64 most] w (Sy w (.bool (withinB t most))) := by
  obtain ⟨a,n,c,rfl⟩ := ha; obtain ⟨kd,x,m,p,l⟩ := t
  change Calls Tryz.prog 113 #[.agg #[.int .i64 kd, .string ⟨x.toArray⟩, .int .i64 m, .int .i64 p, .slice a n c], .int .i64 most] w _
  by_cases h1 : 0 ≤ m
  · by_cases h2 : m ≤ most
    · rw [show withinB (.mk kd x m p l) most = true by unfold withinB; exact decide_eq_true ⟨h1, h2⟩]
      go_enter Tryz.func113, Tryz.ntmps113
      go_wp2
      go_ret
      exact ⟨rfl, gb_alloc (gb_refl w none) _⟩
    · rw [show withinB (.mk kd x m p l) most = false by unfold withinB; exact decide_eq_false (fun h => h2 h.2)]
      have h2b : decide (m ≤ most) = false := by simpa using h2
      go_enter Tryz.func113, Tryz.ntmps113
      go_wp2
      go_ret
      exact ⟨ret_bool (by simp), gb_alloc (gb_refl w none) _⟩
  · rw [show withinB (.mk kd x m p l) most = false by unfold withinB; exact decide_eq_false (fun h => h1 h.1)]
    have h1b : decide (0 ≤ m) = false := by simpa using h1
    go_enter Tryz.func113, Tryz.ntmps113
    go_wp2
    go_ret
    exact ⟨rfl, gb_alloc (gb_refl w none) _⟩
theorem at_form {w : World} {l : List T} {v : Value} (h : AT w l v) : ∃ a n c, v = .slice a n c := by
  obtain ⟨a,c,e,_⟩ := h.form
  exact ⟨a, _, c, e⟩
theorem unnamed_any (t : T) (sv : Value) (most : Int) (w : World) (ha : ∃ a n c, sv = .slice a n c) :
    Calls Tryz.prog 115 #[nodeV t sv, .int .i64 most] w (Sy w (.bool (t.name.isEmpty && withinB t most))) := by
  have HW := fun w => hide (within_any t sv most w ha)
  obtain ⟨a,n,c,rfl⟩ := ha; obtain ⟨kd,x,m,p,l⟩ := t
  change Calls Tryz.prog 115 #[.agg #[.int .i64 kd, .string ⟨x.toArray⟩, .int .i64 m, .int .i64 p, .slice a n c], .int .i64 most] w (Sy w (.bool (x.isEmpty && withinB (.mk kd x m p l) most)))
  cases h : x.isEmpty
  · go_enter Tryz.func115, Tryz.ntmps115
    go_wp2_with fail
    go_ret
    exact ⟨rfl, gb_alloc (gb_refl w none) _⟩
  · go_enter Tryz.func115, Tryz.ntmps115
    go_wp2_with fail; go_at_call 113; refine ((HW _).out).mono ?_; rintro e w1 ⟨rfl, hg1⟩; go_wp2_with fail
    go_ret
    exact ⟨rfl, gb_trans (gb_alloc (gb_refl w none) _) hg1⟩
theorem bl_gb {w w' : World} (h : Below w.heap.size w w') (row : Option Nat) : w.grownBy w' row := ⟨h.os, h.tape, h.output, h.size, fun i hi _ => h.block i hi⟩
theorem named_any (jb lb : Nat) (t : T) (sv : Value) (most : Int) (w : World) (c0 : w.cell? ⟨jb, 0, none⟩ = some (.map (some lb))) (hx : IsLex w lb) (hf : Fits t) (ha : ∃ a n c, sv = .slice a n c) :
    Calls Tryz.prog 77 #[ptr jb, nodeV t sv, .int .i64 most] w (Sy w (.bool (nameB t.name && withinB t most))) := by
  have HW := fun w => hide (within_any t sv most w ha)
  have HS := hide (name_size hf.name); have HX := hide hx; have hlt := block_lt c0; obtain ⟨a,n,c,rfl⟩ := ha; obtain ⟨kd,x,m,p,l⟩ := t; clear hx hf
  change Calls Tryz.prog 77 #[ptr jb, .agg #[.int .i64 kd, .string ⟨x.toArray⟩, .int .i64 m, .int .i64 p, .slice a n c], .int .i64 most] w (Sy w (.bool (nameB x && withinB (.mk kd x m p l) most)))
  cases h : nameB x
  · skip
    have HN : Hid (∀ w', w.grownBy w' none → Calls Tryz.prog 112 #[.agg #[.map (some lb)], .string ⟨x.toArray⟩] w' (Sy w' (.bool false))) := fun w' hg => (lexName_any lb ⟨x.toArray⟩ w' HS.out (map_block HX.out (hg.block lb (World.ownsMap.lt HX.out) (by simp)))).mono (fun e w'' hh => ⟨hh.1.trans (ret_bool h), bl_gb hh.2 none⟩)
    go_enter Tryz.func77, Tryz.ntmps77
    go_wp2_with fail
    first | go_region_with (first
      | (go_at_call 112
         refine (HN.out _ (by exact gb_drew (gb_alloc (gb_refl w none) _))).mono ?_
         rintro e w1 ⟨rfl, hg1⟩)) | fail
    all_goals
      go_wp2_with fail
      go_ret
      exact ⟨rfl, gb_trans (by exact gb_drew (gb_alloc (gb_refl w none) _)) hg1⟩
  · skip
    have HN : Hid (∀ w', w.grownBy w' none → Calls Tryz.prog 112 #[.agg #[.map (some lb)], .string ⟨x.toArray⟩] w' (Sy w' (.bool true))) := fun w' hg => (lexName_any lb ⟨x.toArray⟩ w' HS.out (map_block HX.out (hg.block lb (World.ownsMap.lt HX.out) (by simp)))).mono (fun e w'' hh => ⟨hh.1.trans (ret_bool h), bl_gb hh.2 none⟩)
    go_enter Tryz.func77, Tryz.ntmps77
    go_wp2_with fail
    first | go_region_with (first
      | (go_at_call 112
         refine (HN.out _ (by exact gb_drew (gb_alloc (gb_refl w none) _))).mono ?_; rintro e w1 ⟨rfl, hg1⟩; have B1 : Box w1 w.heap.size (.mk kd x m p l) (.slice a n c) := (Box.new w (.mk kd x m p l) (.slice a n c) 24).kept (gb_trans (gb_drew (gb_refl _ none)) hg1); obtain ⟨_,_,_,b3,_⟩ := B1.p
         change _ = some (Value.int .i64 p) at b3)
      | (go_at_call 113
         refine ((HW _).out).mono ?_
         rintro e w2 ⟨rfl, hg2⟩)) | fail
    all_goals
      go_wp2_with fail
      go_ret
      exact ⟨rfl, gb_trans (gb_trans (by exact gb_drew (gb_alloc (gb_refl w none) _)) hg1) hg2⟩
end Go.Proofs.YtapfecciakijhaaGreatDoor

/- The program's judge of shapes: several parts put down. -/
namespace Go.Proofs.YtapfecciakijhaaGreatDoor
open Go.RowKit Go.Maps Go.WideMaps Go.WideElems
set_option maxHeartbeats 2000000
set_option maxRecDepth 1000000

abbrev free (jb : Nat) (v : Value) : Nat → Prop := fun k => k ≠ jb ∧ v.ownBlock ≠ some k
section
variable {w0 : World} {jb lb ob : Nat} {w w' : World} {l : List (T × Rule)} {v v' : Value} {r : Rule} {rv : Value}
theorem JK.fr (h : JK jb v w w' v') : ∀ k, k < w.heap.size → free jb v k → free jb v' k := fun k hk hs => ⟨hs.1, fun e => by
  rcases h.at' with h' | h'
  · exact hs.2 (h' ▸ e)
  · have := h' k e; omega⟩
theorem RV.step (h : RV w jb (free jb v) r rv) (hk : JK jb v w w' v') : RV w' jb (free jb v') r rv := h.kept hk.kb hk.fr
theorem RV.grown (h : RV w jb (free jb v) r rv) (hg : w.grownBy w' none) : RV w' jb (free jb v) r rv := h.step (JK.grown hg)
theorem JK.old (_h : JK jb v w w' v') (hj : JS w0 jb lb ob w l v) {k : Nat} (hk : k < w0.heap.size) : free jb v k := ⟨by have := hj.jlo; omega, fun e => by have := (hj.room e).1; omega⟩
end

theorem each_any (w0 : World) (jb lb ob : Nat) (w : World) (l : List (T × Rule)) (v : Value) (ts : List T) (sl : Value) (r : Rule) (rv : Value) (h : JS w0 jb lb ob w l v) (hlen : l.length + ts.length ≤ 20000) (ha : AT w0 ts sl) (hr : RV w jb (free jb v) r rv) :
    Calls Tryz.prog 116 #[ptr jb, sl, rv] w fun e w' => ∃ v', e = .returned (.bool true) ∧ JS w0 jb lb ob w' (l ++ eachR ts r) v' ∧ JK jb v w w' v' := by
  obtain ⟨_,_,rfl,_,hs2⟩ := ha.form
  unfold maxLen at hs2
  have HA := hide ha; have HR := hide hr; have HJ := hide h; clear h ha hr
  go_enter Tryz.func116, Tryz.ntmps116
  go_wp2_with fail
  go_loopw [11] (fun iv wr => ∃ (i : Nat) (v1 : Value), i ≤ ts.length ∧ iv = .int .i64 ↑i ∧ Hid (JS w0 jb lb ob wr (l ++ eachR (ts.take i) r) v1) ∧ Hid (JK jb v w wr v1)) (fun iv _ => ts.length - (intOf iv).toNat)
  case atStart => exact ⟨0, v, Nat.zero_le _, rfl, by show JS _ _ _ _ _ _ _; simpa [eachR] using HJ.out, JK.refl _ _ _⟩
  case round =>
    obtain ⟨i,v1,_,rfl,J1,K1⟩ := hrel
    by_cases hlt : i < ts.length
    · obtain ⟨u, hu⟩ : ∃ u, ts[i]? = some u := ⟨_, List.getElem?_eq_getElem hlt⟩
      obtain ⟨_,_,_,e1,n5,fu,au⟩ := HA.out.node i u hu; cases e1; obtain ⟨_,_,rfl,_,_⟩ := au.form; obtain ⟨_,_,_,_,_⟩ := n5.kept J1.out.gb
      have HE : Hid (l ++ eachR (ts.take i) r ++ [(u, r)] = l ++ eachR (ts.take (i + 1)) r) := by
        show _ = _
        rw [List.take_add_one, hu]
        simp [eachR]
      have HU := hide fu; have AU := hide au; have R1 := hide (HR.out.step K1.out); clear hu fu au n5; go_wp2_with fail; go_at_call 48; refine (put_any w0 jb lb ob _ _ v1 u r _ rv (J1.out.grown (by exact gb_alloc (gb_refl wr none) _)) (by simp [eachR]; omega) HU.out AU.out (R1.out.grown (by exact gb_alloc (gb_refl wr none) _))).mono ?_; rintro e w2 ⟨v2, rfl, j2, k2⟩; have J2 : Hid (JS w0 jb lb ob w2 (l ++ eachR (ts.take (i + 1)) r) v2) := HE.out ▸ j2; have K2 : Hid (JK jb v w w2 v2) := K1.out.trans ((JK.grown (by exact gb_alloc (gb_refl wr none) _)).trans k2); clear j2 k2; go_wp2_with fail
      exact ⟨⟨i + 1, v2, by omega, by go_num, J2, K2⟩, by simp [intOf]; omega⟩
    · have J2 : Hid (JS w0 jb lb ob wr (l ++ eachR ts r) v1) := by
        have := J1.out; rw [List.take_of_length_le (by omega)] at this
        exact this
      go_wp2_with fail
      go_ret
      exact ⟨v1, rfl, J2.out, K1.out⟩

theorem first_any (w0 : World) (jb lb ob : Nat) (w : World) (l : List (T × Rule)) (v : Value) (t : T) (sv : Value) (r q : Rule) (rv qv : Value) (h : JS w0 jb lb ob w l v) (hlen : l.length + t.subs.length ≤ 20000) (ha : AT w0 t.subs sv) (hr : RV w jb (free jb v) r rv) (hq : RV w jb (free jb v) q qv) :
    Calls Tryz.prog 118 #[ptr jb, nodeV t sv, rv, qv] w fun e w' => (t.subs = [] ∧ e = .returned (.bool false) ∧ w.grownBy w' none) ∨ (0 < t.subs.length ∧ ∃ v', e = .returned (.bool true) ∧ JS w0 jb lb ob w' (l ++ firstR t r q) v' ∧ JK jb v w w' v') := by
  have HR := hide hr; have HQ := hide hq; have HJ := hide h; obtain ⟨kd,x,m,p,ts⟩ := t
  match ts, ha, hlen with
  | [], ha, hlen =>
    obtain ⟨a,c,rfl,hc,_⟩ := ha.zero rfl; clear ha hr hq h
    change Calls Tryz.prog 118 #[ptr jb, .agg #[.int .i64 kd, .string ⟨x.toArray⟩, .int .i64 m, .int .i64 p, .slice a 0 c], rv, qv] w _
    go_enter Tryz.func118, Tryz.ntmps118
    go_wp2_with fail
    go_ret
    exact .inl ⟨rfl, rfl, gb_alloc (gb_refl w none) _⟩
  | u :: ts, ha, hlen =>
    obtain ⟨g,o,c,su,rfl,_,hc,n5,fu,au,ar⟩ := AT.cons ha; have N0 := hide n5; have HU := hide fu; have AU := hide au
    have AR : Hid (∀ c', (c = c' + 1 ∧ 1 < c) → AT w0 ts (.slice (some ⟨g, o + 5, none⟩) ts.length c')) := fun c' hc' => by obtain ⟨rfl,_⟩ := hc'; exact ar
    have hne : ((ts.length : Int) + 1 == 0) = false := by rw [beq_eq_false_iff_ne]; omega
    clear ha hr hq h fu au n5
    have hl1 : l.length + 1 + ts.length ≤ 20000 := by simp [T.subs] at hlen; omega
    clear hlen
    change Calls Tryz.prog 118 #[ptr jb, .agg #[.int .i64 kd, .string ⟨x.toArray⟩, .int .i64 m, .int .i64 p, .slice (some ⟨g, o, none⟩) (ts.length + 1) c], rv, qv] w _
    obtain ⟨d0,_,_,_,_⟩ := N0.out.kept HJ.out.gb; have hgl := block_lt d0
    rcases Nat.lt_or_ge 1 c with hc1 | hc1
    · have AS := hide ar
      clear ar AR
      go_enter Tryz.func118, Tryz.ntmps118
      go_wp2_with fail; go_at_call 48; refine (put_any w0 jb lb ob _ l v u r su rv (HJ.out.grown (by exact gb_alloc (gb_refl w none) _)) (by omega) HU.out AU.out (HR.out.grown (by exact gb_alloc (gb_refl w none) _))).mono ?_; rintro e w2 ⟨v2, rfl, j2, k2⟩; have J2 := hide j2; have K2 : Hid (JK jb v w w2 v2) := (JK.grown (by exact gb_alloc (gb_refl w none) _)).trans k2
      have B2 : Box w2 w.heap.size (.mk kd x m p (u :: ts)) (.slice (some ⟨g, o, none⟩) (ts.length + 1) c) := by
        have hb := Box.new w (.mk kd x m p (u :: ts)) (.slice (some ⟨g, o, none⟩) (ts.length + 1) c) 24; have hs : free jb v w.heap.size := ⟨by have := HJ.out.lt; omega, fun e => by have := (HJ.out.room e).2; omega⟩
        exact ⟨k2.kb.cell hb.c0 hs, k2.kb.cell hb.c1 hs, k2.kb.cell hb.c2 hs, k2.kb.cell hb.c3 hs, k2.kb.cell hb.c4 hs⟩
      obtain ⟨b0,b1,b2,b3,b4⟩ := B2; clear j2 k2; go_wp2_with fail; go_at_call 116; refine (each_any w0 jb lb ob _ _ v2 ts _ q qv J2.out (by simp; omega) AS.out (HQ.out.step K2.out)).mono ?_; rintro e w3 ⟨v3, rfl, j3, k3⟩
      have J3 : Hid (JS w0 jb lb ob w3 (l ++ firstR (.mk kd x m p (u :: ts)) r q) v3) := by
        have := j3; rw [List.append_assoc] at this
        exact this
      have K3 : Hid (JK jb v w w3 v3) := K2.out.trans k3; clear j3 k3; go_wp2_with fail
      go_ret
      exact .inr ⟨by simp [T.subs], v3, rfl, J3.out, K3.out⟩
    · obtain rfl : c = 1 := by omega
      obtain rfl : ts = [] := List.eq_nil_of_length_eq_zero (by omega); have AS : Hid (AT w0 [] (.slice (some ⟨g, o, none⟩) 0 0)) := AT.nil _ _ (Nat.zero_le _); clear ar AR
      go_enter Tryz.func118, Tryz.ntmps118
      go_wp2_with fail; go_at_call 48; refine (put_any w0 jb lb ob _ l v u r su rv (HJ.out.grown (by exact gb_alloc (gb_refl w none) _)) (by omega) HU.out AU.out (HR.out.grown (by exact gb_alloc (gb_refl w none) _))).mono ?_; rintro e w2 ⟨v2, rfl, j2, k2⟩; have J2 := hide j2; have K2 : Hid (JK jb v w w2 v2) := (JK.grown (by exact gb_alloc (gb_refl w none) _)).trans k2
      have B2 : Box w2 w.heap.size (.mk kd x m p (u :: [])) (.slice (some ⟨g, o, none⟩) (1) 1) := by
        have hb := Box.new w (.mk kd x m p (u :: [])) (.slice (some ⟨g, o, none⟩) (1) 1) 24; have hs : free jb v w.heap.size := ⟨by have := HJ.out.lt; omega, fun e => by have := (HJ.out.room e).2; omega⟩
        exact ⟨k2.kb.cell hb.c0 hs, k2.kb.cell hb.c1 hs, k2.kb.cell hb.c2 hs, k2.kb.cell hb.c3 hs, k2.kb.cell hb.c4 hs⟩
      obtain ⟨b0,b1,b2,b3,b4⟩ := B2; clear j2 k2; go_wp2_with fail; go_at_call 116; refine (each_any w0 jb lb ob _ _ v2 [] _ q qv J2.out (by simp; omega) AS.out (HQ.out.step K2.out)).mono ?_; rintro e w3 ⟨v3, rfl, j3, k3⟩
      have J3 : Hid (JS w0 jb lb ob w3 (l ++ firstR (.mk kd x m p (u :: [])) r q) v3) := by
        have := j3; rw [List.append_assoc] at this
        exact this
      have K3 : Hid (JK jb v w w3 v3) := K2.out.trans k3; clear j3 k3; go_wp2_with fail
      go_ret
      exact .inr ⟨by simp [T.subs], v3, rfl, J3.out, K3.out⟩
end Go.Proofs.YtapfecciakijhaaGreatDoor
