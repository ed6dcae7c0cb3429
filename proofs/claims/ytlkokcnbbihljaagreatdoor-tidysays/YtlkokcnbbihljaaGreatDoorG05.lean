/- The document's shapes: operators, heads. -/
import Derived.Test.YtlkokcnbbihljaaGreatDoorG03
import Derived.Deep.RegionWith
namespace Go.Proofs.YtlkokcnbbihljaaGreatDoor
open Go.RowKit

/-- A call that answers this, and makes at most new memory. -/
def Sy (w : World) (v : Value) : Ending → World → Prop := fun e w' => e = .returned v ∧ w.grownBy w' none

set_option maxRecDepth 1000000 in
set_option maxHeartbeats 1000000 in
theorem inList_any (s : ByteArray) (xs : List (List UInt8)) (g o cap : Nat) (w : World) (hx : xs.length ≤ cap) (hcap : cap ≤ maxLen)
    (hc : ∀ (k : Nat) (h : k < xs.length), w.cell? ⟨g, o + k, none⟩ = some (.string ⟨(xs[k]).toArray⟩)) :
    Calls Tryz.prog 66 #[.string s, .slice (some ⟨g, o, none⟩) xs.length cap] w fun e w' => e = .returned (.bool (inB xs s.data.toList)) ∧ w' = w := by
  have HC := hide hc
  clear hc
  unfold maxLen at hcap
  go_enter Tryz.func66, Tryz.ntmps66
  go_wp2
  go_loop [5] (fun i => ∃ k : Nat, k ≤ xs.length ∧ i = .int .i64 k ∧ Hid (s.data.toList ∉ xs.take k)) (fun i => xs.length - (intOf i).toNat)
  case atStart => exact ⟨0, by omega, rfl, by show _ ∉ _; simp⟩
  case round =>
    obtain ⟨k, hk, rfl, HB⟩ := hrel
    by_cases hlt : k < xs.length
    · have hc := HC.out k hlt
      cases he : (xs[k]'hlt == s.toList)
      · have HN : Hid (s.data.toList ∉ xs.take (k + 1)) := mem_take_succ hlt HB.out (fun h => by rw [h, bs_toList] at he; simp at he)
        go_wp2
        exact ⟨⟨k + 1, by omega, by go_num, HN⟩, by simp [intOf]; omega⟩
      · have HN : Hid (inB xs s.data.toList = true) := by
          have e : xs[k]'hlt = s.data.toList := by rw [← bs_toList]; simpa using he
          show xs.contains _ = true
          rw [List.contains_iff_mem, ← e]
          exact List.getElem_mem hlt
        go_wp2
        go_ret
        exact ⟨by rw [HN.out]; rfl, rfl⟩
    · have hc : Hid (inB xs s.data.toList = false) := by
        have e : xs.take k = xs := List.take_of_length_le (by omega)
        have := HB.out
        rw [e] at this
        show xs.contains _ = false
        rw [Bool.eq_false_iff, ne_eq, List.contains_iff_mem]
        exact this
      go_wp2
      go_ret
      exact ⟨by rw [hc.out]; rfl, rfl⟩
theorem inAlloc_any (s : ByteArray) (xs : List (List UInt8)) (cs : Array Value) (t : TypeId) (n b : Nat) (w : World) (hb : b = w.heap.size) (hn : n = xs.length) (hx : xs.length ≤ 100) (hcs : cs = (xs.map fun l => Value.string ⟨l.toArray⟩).toArray) :
    Calls Tryz.prog 66 #[.string s, .slice (some ⟨b, 0, none⟩) n n] (w.alloc (.cells cs t)) fun e w' => e = .returned (.bool (inB xs s.data.toList)) ∧ w' = w.alloc (.cells cs t) := by
  subst hb hn hcs
  refine inList_any s xs _ 0 _ _ (Nat.le_refl _) (by unfold maxLen; omega) (fun k h => ?_)
  rw [World.cell?_alloc_at _ _ _ _ rfl]
  simp [h]

theorem in_rel (s : ByteArray) (t : TypeId) (b : Nat) (w : World) (hb : b = w.heap.size) :
    Calls Tryz.prog 66 #[.string s, .slice (some ⟨b, 0, none⟩) 6 6] (w.alloc (.cells #[.string ⟨#[61]⟩, .string ⟨#[35]⟩, .string ⟨#[60]⟩, .string ⟨#[60, 61]⟩, .string ⟨#[62]⟩, .string ⟨#[62, 61]⟩] t)) fun e w' => e = .returned (.bool (inB relL s.data.toList)) ∧ w' = w.alloc (.cells #[.string ⟨#[61]⟩, .string ⟨#[35]⟩, .string ⟨#[60]⟩, .string ⟨#[60, 61]⟩, .string ⟨#[62]⟩, .string ⟨#[62, 61]⟩] t) :=
  inAlloc_any s relL _ t 6 b w hb rfl (by decide) rfl
theorem in_sum (s : ByteArray) (t : TypeId) (b : Nat) (w : World) (hb : b = w.heap.size) :
    Calls Tryz.prog 66 #[.string s, .slice (some ⟨b, 0, none⟩) 3 3] (w.alloc (.cells #[.string ⟨#[43]⟩, .string ⟨#[45]⟩, .string ⟨#[79, 82]⟩] t)) fun e w' => e = .returned (.bool (inB sumL s.data.toList)) ∧ w' = w.alloc (.cells #[.string ⟨#[43]⟩, .string ⟨#[45]⟩, .string ⟨#[79, 82]⟩] t) :=
  inAlloc_any s sumL _ t 3 b w hb rfl (by decide) rfl
theorem in_pro (s : ByteArray) (t : TypeId) (b : Nat) (w : World) (hb : b = w.heap.size) :
    Calls Tryz.prog 66 #[.string s, .slice (some ⟨b, 0, none⟩) 4 4] (w.alloc (.cells #[.string ⟨#[42]⟩, .string ⟨#[68, 73, 86]⟩, .string ⟨#[77, 79, 68]⟩, .string ⟨#[38]⟩] t)) fun e w' => e = .returned (.bool (inB proL s.data.toList)) ∧ w' = w.alloc (.cells #[.string ⟨#[42]⟩, .string ⟨#[68, 73, 86]⟩, .string ⟨#[77, 79, 68]⟩, .string ⟨#[38]⟩] t) :=
  inAlloc_any s proL _ t 4 b w hb rfl (by decide) rfl
set_option maxRecDepth 1000000 in
set_option maxHeartbeats 1000000 in
theorem rlevel_any (s : ByteArray) (w : World) :
    Calls Tryz.prog 33 #[.string s] w (Sy w (.int .i64 (levelOf s.data.toList))) := by
  have H : Hid (levelOf s.data.toList = levelOf s.data.toList) := rfl
  cases h0 : inB relL s.data.toList
  · cases h1 : inB sumL s.data.toList
    · cases h2 : inB proL s.data.toList
      · have HV : Hid (levelOf s.data.toList = -1) := by show levelOf _ = _; unfold levelOf; rw [h0, h1, h2]; rfl
        go_enter Tryz.func33, Tryz.ntmps33
        go_wp2_with (first
          | (go_at_call 66; with_reducible refine (in_rel s _ _ _ (by simp)).mono ?_; rintro e w' ⟨rfl, rfl⟩; simp only [h0])
          | (go_at_call 66; with_reducible refine (in_sum s _ _ _ (by simp)).mono ?_; rintro e w' ⟨rfl, rfl⟩; simp only [h1])
          | (go_at_call 66; with_reducible refine (in_pro s _ _ _ (by simp)).mono ?_; rintro e w' ⟨rfl, rfl⟩; simp only [h2]))
        go_ret
        exact ⟨by rw [HV.out]; rfl, (by repeat (first | with_reducible exact gb_refl w none | with_reducible refine gb_put ?_ (by omega) _ _ | with_reducible refine gb_alloc ?_ _ | with_reducible refine gb_drewN ?_ _ | with_reducible refine gb_drew ?_))⟩
      · have HV : Hid (levelOf s.data.toList = 2) := by show levelOf _ = _; unfold levelOf; rw [h0, h1, h2]; rfl
        go_enter Tryz.func33, Tryz.ntmps33
        go_wp2_with (first
          | (go_at_call 66; with_reducible refine (in_rel s _ _ _ (by simp)).mono ?_; rintro e w' ⟨rfl, rfl⟩; simp only [h0])
          | (go_at_call 66; with_reducible refine (in_sum s _ _ _ (by simp)).mono ?_; rintro e w' ⟨rfl, rfl⟩; simp only [h1])
          | (go_at_call 66; with_reducible refine (in_pro s _ _ _ (by simp)).mono ?_; rintro e w' ⟨rfl, rfl⟩; simp only [h2]))
        go_ret
        exact ⟨by rw [HV.out]; rfl, (by repeat (first | with_reducible exact gb_refl w none | with_reducible refine gb_put ?_ (by omega) _ _ | with_reducible refine gb_alloc ?_ _ | with_reducible refine gb_drewN ?_ _ | with_reducible refine gb_drew ?_))⟩
    · have HV : Hid (levelOf s.data.toList = 1) := by show levelOf _ = _; unfold levelOf; rw [h0, h1]; rfl
      go_enter Tryz.func33, Tryz.ntmps33
      go_wp2_with (first
        | (go_at_call 66; with_reducible refine (in_rel s _ _ _ (by simp)).mono ?_; rintro e w' ⟨rfl, rfl⟩; simp only [h0])
        | (go_at_call 66; with_reducible refine (in_sum s _ _ _ (by simp)).mono ?_; rintro e w' ⟨rfl, rfl⟩; simp only [h1])
        | (go_at_call 66; with_reducible refine (in_pro s _ _ _ (by simp)).mono ?_; rintro e w' ⟨rfl, rfl⟩; simp only [h2]))
      go_ret
      exact ⟨by rw [HV.out]; rfl, (by repeat (first | with_reducible exact gb_refl w none | with_reducible refine gb_put ?_ (by omega) _ _ | with_reducible refine gb_alloc ?_ _ | with_reducible refine gb_drewN ?_ _ | with_reducible refine gb_drew ?_))⟩
  · have HV : Hid (levelOf s.data.toList = 0) := by show levelOf _ = _; unfold levelOf; rw [h0]; rfl
    go_enter Tryz.func33, Tryz.ntmps33
    go_wp2_with (first
      | (go_at_call 66; with_reducible refine (in_rel s _ _ _ (by simp)).mono ?_; rintro e w' ⟨rfl, rfl⟩; simp only [h0])
      | (go_at_call 66; with_reducible refine (in_sum s _ _ _ (by simp)).mono ?_; rintro e w' ⟨rfl, rfl⟩; simp only [h1])
      | (go_at_call 66; with_reducible refine (in_pro s _ _ _ (by simp)).mono ?_; rintro e w' ⟨rfl, rfl⟩; simp only [h2]))
    go_ret
    exact ⟨by rw [HV.out]; rfl, (by repeat (first | with_reducible exact gb_refl w none | with_reducible refine gb_put ?_ (by omega) _ _ | with_reducible refine gb_alloc ?_ _ | with_reducible refine gb_drewN ?_ _ | with_reducible refine gb_drew ?_))⟩

theorem Kept33.kept {w w' : World} {a : Addr} {cap : Nat} (h : Kept33 w a cap) (hg : w.grownBy w' none) : Kept33 w' a cap :=
  ⟨Nat.lt_of_lt_of_le h.lt hg.size, gb_cell hg h.head, h.room, fun k hk => gb_cell hg (h.cell k hk)⟩
/-- The document's kept words lie where they lie. -/
def KW (w : World) : Prop := ∃ a cap, Kept33 w a cap
theorem KW.kept {w w' : World} (h : KW w) (hg : w.grownBy w' none) : KW w' := by
  obtain ⟨a, cap, h⟩ := h
  exact ⟨a, cap, h.kept hg⟩
theorem rname_any (s : ByteArray) (w : World) (hs : s.size ≤ maxLen) (hk : KW w) :
    Calls Tryz.prog 36 #[.string s] w fun e w' => e = .returned (.bool (nameB s.data.toList)) ∧ w' = w := by
  obtain ⟨a, cap, hk⟩ := hk
  exact nameRef_any s a cap w hs hk

theorem head_no {t : T} {k most many : Int} {named : Bool} (h : ¬ (t.kind = k ∧ 0 ≤ t.num ∧ t.num ≤ most ∧ (0 ≤ many → (t.subs.length : Int) = many))) : headB t k named most many = false := by unfold headB; rw [decide_eq_false h]; rfl
theorem head_yes {t : T} {k most many : Int} {named : Bool} (h : t.kind = k ∧ 0 ≤ t.num ∧ t.num ≤ most ∧ (0 ≤ many → (t.subs.length : Int) = many)) : headB t k named most many = if named then nameB t.name else t.name.isEmpty := by unfold headB; rw [decide_eq_true h]; rfl
theorem ret_bool {a b : Bool} (h : a = b) : Ending.returned (.bool a) = .returned (.bool b) := by rw [h]
theorem name_size {x : List UInt8} (h : x.length ≤ maxLen) : ByteArray.size ⟨x.toArray⟩ ≤ maxLen := by simpa [ByteArray.size] using h
set_option maxRecDepth 1000000 in
set_option maxHeartbeats 1000000 in
theorem head_any (t : T) (sv : Value) (k most many : Int) (named : Bool) (w : World) (hk : KW w) (hf : Fits t) (ha : AT w t.subs sv) :
    Calls Tryz.prog 16 #[nodeV t sv, .int .i64 k, .bool named, .int .i64 most, .int .i64 many] w (Sy w (.bool (headB t k named most many))) := by
  obtain ⟨kd, x, m, p, l⟩ := t
  obtain ⟨a, c, rfl, h1, h2⟩ := ha.form
  have HK := hide hk
  have HX := hide (name_size hf.name)
  clear hk hf ha
  unfold maxLen at h2
  change Calls Tryz.prog 16 #[.agg #[.int .i64 kd, .string ⟨x.toArray⟩, .int .i64 m, .int .i64 p, .slice a l.length c], .int .i64 k, .bool named, .int .i64 most, .int .i64 many] w _
  change l.length ≤ c at h1
  by_cases hc : kd = k ∧ 0 ≤ m ∧ m ≤ most ∧ (0 ≤ many → (l.length : Int) = many)
  · have E2 := head_yes (t := .mk kd x m p l) (named := named) hc
    obtain ⟨rfl, h3, h4, h5⟩ := hc
    rw [E2]
    clear E2
    by_cases h6 : 0 ≤ many
    · have h7 := h5 h6
      subst h7
      clear h5 h6
      cases named
      all_goals
        go_enter Tryz.func16, Tryz.ntmps16
        go_wp2_with (go_at_call 36; refine (rname_any _ _ HX.out (HK.out.kept (gb_alloc (gb_refl _ _) _))).mono ?_; rintro e w' ⟨rfl, rfl⟩)
        go_ret
        exact ⟨rfl, gb_alloc (gb_refl _ _) _⟩
    · clear h5
      cases named
      all_goals
        go_enter Tryz.func16, Tryz.ntmps16
        go_wp2_with (go_at_call 36; refine (rname_any _ _ HX.out (HK.out.kept (gb_alloc (gb_refl _ _) _))).mono ?_; rintro e w' ⟨rfl, rfl⟩)
        go_ret
        exact ⟨rfl, gb_alloc (gb_refl _ _) _⟩
  · rw [head_no (t := .mk kd x m p l) (named := named) hc]
    have HC := hide hc
    clear hc
    go_enter Tryz.func16, Tryz.ntmps16
    go_wp2_with (go_at_call 36; refine (rname_any _ _ HX.out (HK.out.kept (gb_alloc (gb_refl _ _) _))).mono ?_; rintro e w' ⟨rfl, rfl⟩)
    all_goals go_ret
    all_goals first
      | exact ⟨rfl, gb_alloc (gb_refl _ _) _⟩
      | (exfalso; have h9 := HC.out; simp_all <;> omega)
end Go.Proofs.YtlkokcnbbihljaaGreatDoor

/- The document's shapes: what a walk of a node wants. -/
namespace Go.Proofs.YtlkokcnbbihljaaGreatDoor
open Go.RowKit

open Classical in
/-- Does a tree go by a rule, all through? -/
noncomputable def wellB (r : Rule) (t : T) : Bool := decide (Well r t)
theorem wellB_true {r : Rule} {t : T} : wellB r t = true ↔ Well r t := by unfold wellB; simp
theorem wellB_some {r : Rule} {t : T} {l : List (T × Rule)} (h : stepR r t = some l) : wellB r t = l.all fun p => wellB p.2 p.1 := by
  rw [Bool.eq_iff_iff, wellB_true, Well.of_some h, List.all_eq_true]
  exact ⟨fun H p hp => wellB_true.2 (H p hp), fun H p hp => wellB_true.1 (H p hp)⟩
theorem wellB_none {r : Rule} {t : T} (h : stepR r t = none) : wellB r t = false := by
  rw [Bool.eq_false_iff, ne_eq, wellB_true]
  exact Well.of_none h
theorem wellB_only {r : Rule} {t : T} {c : Bool} {l : List (T × Rule)} (h : stepR r t = onlyIf c l) : wellB r t = (c && l.all fun p => wellB p.2 p.1) := by
  cases c
  · rw [wellB_none (h.trans rfl)]; rfl
  · rw [wellB_some (h.trans rfl)]; rfl

/-- A node in a block of its own. -/
structure Box (w : World) (b : Nat) (t : T) (sv : Value) : Prop where
  c0 : w.cell? ⟨b, 0, none⟩ = some (.int .i64 t.kind)
  c1 : w.cell? ⟨b, 1, none⟩ = some (.string ⟨t.name.toArray⟩)
  c2 : w.cell? ⟨b, 2, none⟩ = some (.int .i64 t.num)
  c3 : w.cell? ⟨b, 3, none⟩ = some (.int .i64 t.at')
  c4 : w.cell? ⟨b, 4, none⟩ = some sv
theorem Box.new (w : World) (t : T) (sv : Value) (ty : TypeId) : Box (w.alloc (.cells #[.int .i64 t.kind, .string ⟨t.name.toArray⟩, .int .i64 t.num, .int .i64 t.at', sv] ty)) w.heap.size t sv :=
  ⟨by rw [World.cell?_alloc_at _ _ _ _ rfl]; rfl, by rw [World.cell?_alloc_at _ _ _ _ rfl]; rfl, by rw [World.cell?_alloc_at _ _ _ _ rfl]; rfl, by rw [World.cell?_alloc_at _ _ _ _ rfl]; rfl, by rw [World.cell?_alloc_at _ _ _ _ rfl]; rfl⟩
theorem Box.kept {w w' : World} {b : Nat} {t : T} {sv : Value} (h : Box w b t sv) (hg : w.grownBy w' none) : Box w' b t sv :=
  ⟨gb_cell hg h.c0, gb_cell hg h.c1, gb_cell hg h.c2, gb_cell hg h.c3, gb_cell hg h.c4⟩

theorem AT.any {w : World} {t : T} {sv : Value} (h : AT w t.subs sv) : ∃ a n c, sv = .slice a n c ∧ n ≤ c ∧ c ≤ 9223372036854775807 ∧ t.subs.length = n := by
  obtain ⟨a, c, h1, h2, h3⟩ := h.form
  unfold maxLen at h3
  exact ⟨a, _, c, h1, h2, by omega, rfl⟩
theorem AT.zero {w : World} {t : T} {sv : Value} (h : AT w t.subs sv) (e : t.subs.length = 0) : ∃ a c, sv = .slice a 0 c ∧ c ≤ 9223372036854775807 ∧ t.subs = [] := by
  obtain ⟨a, c, h1, h2, h3⟩ := h.form
  unfold maxLen at h3
  rw [e] at h1
  exact ⟨a, c, h1, by omega, List.eq_nil_of_length_eq_zero e⟩
theorem AT.one {w : World} {t : T} {sv : Value} (h : AT w t.subs sv) (e : t.subs.length = 1) : ∃ g o c u su, sv = .slice (some ⟨g, o, none⟩) 1 c ∧ 1 ≤ c ∧ c ≤ 9223372036854775807 ∧ t.subs = [u] ∧ Node5 w g o u su ∧ Fits u ∧ AT w u.subs su := by
  obtain ⟨a, c, rfl, h2, h3⟩ := h.form
  unfold maxLen at h3
  obtain ⟨u, hu⟩ := List.length_eq_one_iff.1 e
  obtain ⟨g, o, su, rfl, n5, fu, au⟩ := h.node 0 u (by rw [hu]; rfl)
  rw [e] at h2 ⊢
  exact ⟨g, o, c, u, su, rfl, h2, by omega, hu, by simpa using n5, fu, au⟩
theorem AT.two {w : World} {t : T} {sv : Value} (h : AT w t.subs sv) (e : t.subs.length = 2) : ∃ g o c u su v sw, sv = .slice (some ⟨g, o, none⟩) 2 c ∧ 2 ≤ c ∧ c ≤ 9223372036854775807 ∧ t.subs = [u, v] ∧ Node5 w g o u su ∧ Fits u ∧ AT w u.subs su ∧ Node5 w g (o + 5) v sw ∧ Fits v ∧ AT w v.subs sw := by
  obtain ⟨a, c, rfl, h2, h3⟩ := h.form
  unfold maxLen at h3
  obtain ⟨u, v, hu⟩ : ∃ u v, t.subs = [u, v] := by
    match hs : t.subs, e with
    | [u, v], _ => exact ⟨u, v, rfl⟩
  obtain ⟨g, o, su, rfl, n5, fu, au⟩ := h.node 0 u (by rw [hu]; rfl)
  obtain ⟨g', o', sw, e2, n6, fv, av⟩ := h.node 1 v (by rw [hu]; rfl)
  cases e2
  rw [e] at h2 ⊢
  exact ⟨g, o, c, u, su, v, sw, rfl, h2, by omega, hu, by simpa using n5, fu, au, by simpa using n6, fv, av⟩

theorem AT.cons {w : World} {k m p : Int} {x : List UInt8} {u : T} {r : List T} {sv : Value} (h : AT w (T.mk k x m p (u :: r)).subs sv) : ∃ g o c su, sv = .slice (some ⟨g, o, none⟩) (r.length + 1) c ∧ r.length + 1 ≤ c ∧ c ≤ 9223372036854775807 ∧ Node5 w g o u su ∧ Fits u ∧ AT w u.subs su ∧ AT w r (.slice (some ⟨g, o + 5, none⟩) r.length (c - 1)) := by
  obtain ⟨a, c, rfl, h2, h3⟩ := h.form
  unfold maxLen at h3
  obtain ⟨g, o, su, rfl, n5, fu, au⟩ := h.node 0 u rfl
  refine ⟨g, o, c, su, rfl, h2, by omega, by simpa using n5, fu, au, ?_⟩
  have := h.drop 1 (by simp [T.subs])
  simpa [T.subs] using this

/-- What the document says of a tree's shape, of a node: by its functions. -/
structure ShOK (u : T) : Prop where
  desig : ∀ (sv : Value) (w : World), KW w → Fits u → AT w u.subs sv → Calls Tryz.prog 71 #[nodeV u sv] w (Sy w (.bool (wellB .designator u)))
  expr : ∀ (sv : Value) (w : World), KW w → Fits u → AT w u.subs sv → Calls Tryz.prog 37 #[nodeV u sv] w (Sy w (.bool (wellB .expression u)))

theorem head_len {t : T} {k most : Int} {named : Bool} {n : Nat} (h : headB t k named most n = true) : t.subs.length = n := by
  unfold headB at h
  simp at h
  omega

theorem well_ref (t : T) : wellB .ref t = headB t 24 true 0 0 := by
  rw [wellB_only (show stepR .ref t = onlyIf (headB t 24 true 0 0) [] from rfl)]; simp
theorem well_typeName (t : T) : wellB .typeName t = (headB t 13 true 0 (-1) && decide (t.subs.length ≤ 1) && t.subs.all fun u => headB u 24 true 0 0) := by
  rw [wellB_only (show stepR .typeName t = onlyIf (headB t 13 true 0 (-1) && decide (t.subs.length ≤ 1)) (eachR t.subs .ref) from rfl)]
  unfold eachR
  rw [List.all_map]
  congr 2
  funext u
  exact well_ref u

set_option maxRecDepth 1000000 in
set_option maxHeartbeats 1000000 in
theorem nameShaped_any (t : T) (sv : Value) (w : World) (hk : KW w) (hf : Fits t) (ha : AT w t.subs sv) :
    Calls Tryz.prog 39 #[nodeV t sv] w (Sy w (.bool (wellB .typeName t))) := by
  have HE := well_typeName t
  have HK := hide hk
  have HF := hide hf
  have HA := hide ha
  obtain ⟨kd, x, m, p, l⟩ := t
  cases h0 : headB (.mk kd x m p l) 13 true 0 (-1)
  · rw [show wellB .typeName (.mk kd x m p l) = false by rw [HE, h0]; rfl]
    clear HE
    obtain ⟨a, n, c, rfl, hn, hc, hl⟩ := ha.any
    clear hk hf ha
    change Calls Tryz.prog 39 #[.agg #[.int .i64 kd, .string ⟨x.toArray⟩, .int .i64 m, .int .i64 p, .slice a n c]] w _
    go_enter Tryz.func39, Tryz.ntmps39
    go_wp2_with fail
    go_at_call 16
    refine (head_any (.mk kd x m p l) _ 13 0 (-1) true _ (HK.out.kept (by repeat (first | with_reducible exact gb_refl w none | with_reducible refine gb_put ?_ (by omega) _ _ | with_reducible refine gb_alloc ?_ _ | with_reducible refine gb_drewN ?_ _ | with_reducible refine gb_drew ?_))) HF.out (HA.out.kept (by repeat (first | with_reducible exact gb_refl w none | with_reducible refine gb_put ?_ (by omega) _ _ | with_reducible refine gb_alloc ?_ _ | with_reducible refine gb_drewN ?_ _ | with_reducible refine gb_drew ?_)))).mono ?_
    rintro e w1 ⟨rfl, hg1⟩
    rw [h0]
    have G1 : Hid (w.grownBy w1 none) := gb_trans (gb_alloc (gb_refl w none) _) hg1
    have B1 := hide ((Box.new w (.mk kd x m p l) (.slice a n c) 24).kept hg1)
    obtain ⟨b0_1, b1_1, b2_1, b3_1, b4_1⟩ := B1.out
    go_wp2_with fail
    go_ret
    exact ⟨rfl, G1.out⟩
  · match l, ha, HE, h0, HF, HA with
    | [], ha, HE, h0, HF, HA =>
      rw [show wellB .typeName (.mk kd x m p []) = true by rw [HE, h0]; rfl]
      clear HE
      obtain ⟨a, c, rfl, hc, _⟩ := ha.zero rfl
      clear hk hf ha
      change Calls Tryz.prog 39 #[.agg #[.int .i64 kd, .string ⟨x.toArray⟩, .int .i64 m, .int .i64 p, .slice a 0 c]] w _
      go_enter Tryz.func39, Tryz.ntmps39
      go_wp2_with fail
      go_at_call 16
      refine (head_any (.mk kd x m p []) _ 13 0 (-1) true _ (HK.out.kept (by repeat (first | with_reducible exact gb_refl w none | with_reducible refine gb_put ?_ (by omega) _ _ | with_reducible refine gb_alloc ?_ _ | with_reducible refine gb_drewN ?_ _ | with_reducible refine gb_drew ?_))) HF.out (HA.out.kept (by repeat (first | with_reducible exact gb_refl w none | with_reducible refine gb_put ?_ (by omega) _ _ | with_reducible refine gb_alloc ?_ _ | with_reducible refine gb_drewN ?_ _ | with_reducible refine gb_drew ?_)))).mono ?_
      rintro e w1 ⟨rfl, hg1⟩
      rw [h0]
      have G1 : Hid (w.grownBy w1 none) := gb_trans (gb_alloc (gb_refl w none) _) hg1
      have B1 := hide ((Box.new w (.mk kd x m p []) (.slice a 0 c) 24).kept hg1)
      obtain ⟨b0_1, b1_1, b2_1, b3_1, b4_1⟩ := B1.out
      go_wp2_with fail
      go_ret
      exact ⟨rfl, G1.out⟩
    | [u], ha, HE, h0, HF, HA =>
      obtain ⟨g, o, c, su, rfl, hn, hc, n5, fu, au, ar⟩ := AT.cons ha
      rw [show wellB .typeName (.mk kd x m p [u]) = headB u 24 true 0 0 by rw [HE, h0]; simp [T.subs]]
      have N0 := hide n5
      have HU := hide fu
      have AU := hide au
      clear HE hk hf ha fu au ar n5
      change Calls Tryz.prog 39 #[.agg #[.int .i64 kd, .string ⟨x.toArray⟩, .int .i64 m, .int .i64 p, .slice (some ⟨g, o, none⟩) 1 c]] w _
      go_enter Tryz.func39, Tryz.ntmps39
      go_wp2_with fail
      go_at_call 16
      refine (head_any (.mk kd x m p [u]) _ 13 0 (-1) true _ (HK.out.kept (by repeat (first | with_reducible exact gb_refl w none | with_reducible refine gb_put ?_ (by omega) _ _ | with_reducible refine gb_alloc ?_ _ | with_reducible refine gb_drewN ?_ _ | with_reducible refine gb_drew ?_))) HF.out (HA.out.kept (by repeat (first | with_reducible exact gb_refl w none | with_reducible refine gb_put ?_ (by omega) _ _ | with_reducible refine gb_alloc ?_ _ | with_reducible refine gb_drewN ?_ _ | with_reducible refine gb_drew ?_)))).mono ?_
      rintro e w1 ⟨rfl, hg1⟩
      rw [h0]
      have G1 : Hid (w.grownBy w1 none) := gb_trans (gb_alloc (gb_refl w none) _) hg1
      have B1 := hide ((Box.new w (.mk kd x m p [u]) (.slice (some ⟨g, o, none⟩) 1 c) 24).kept hg1)
      obtain ⟨b0_1, b1_1, b2_1, b3_1, b4_1⟩ := B1.out
      obtain ⟨c0_1_0, c1_1_0, c2_1_0, c3_1_0, c4_1_0⟩ := N0.out.kept G1.out
      go_wp2_with fail
      go_at_call 16
      refine (head_any u _ 24 0 0 true _ (HK.out.kept G1.out) HU.out (AU.out.kept G1.out)).mono ?_
      rintro e w2 ⟨rfl, hg2⟩
      have G2 : Hid (w.grownBy w2 none) := gb_trans G1.out hg2
      have B2 := hide (B1.out.kept hg2)
      obtain ⟨b0_2, b1_2, b2_2, b3_2, b4_2⟩ := B2.out
      obtain ⟨c0_2_0, c1_2_0, c2_2_0, c3_2_0, c4_2_0⟩ := N0.out.kept G2.out
      go_wp2_with fail
      go_ret
      exact ⟨rfl, G2.out⟩
    | u :: v :: r, ha, HE, h0, HF, HA =>
      obtain ⟨a, n, c, rfl, hn, hc, hl⟩ := ha.any
      rw [show wellB .typeName (.mk kd x m p (u :: v :: r)) = false by rw [HE, h0]; simp [T.subs]]
      have h2 : 2 ≤ n := by rw [← hl]; simp [T.subs]
      clear HE hk hf ha hl
      change Calls Tryz.prog 39 #[.agg #[.int .i64 kd, .string ⟨x.toArray⟩, .int .i64 m, .int .i64 p, .slice a n c]] w _
      go_enter Tryz.func39, Tryz.ntmps39
      go_wp2_with fail
      go_at_call 16
      refine (head_any (.mk kd x m p (u :: v :: r)) _ 13 0 (-1) true _ (HK.out.kept (by repeat (first | with_reducible exact gb_refl w none | with_reducible refine gb_put ?_ (by omega) _ _ | with_reducible refine gb_alloc ?_ _ | with_reducible refine gb_drewN ?_ _ | with_reducible refine gb_drew ?_))) HF.out (HA.out.kept (by repeat (first | with_reducible exact gb_refl w none | with_reducible refine gb_put ?_ (by omega) _ _ | with_reducible refine gb_alloc ?_ _ | with_reducible refine gb_drewN ?_ _ | with_reducible refine gb_drew ?_)))).mono ?_
      rintro e w1 ⟨rfl, hg1⟩
      rw [h0]
      have G1 : Hid (w.grownBy w1 none) := gb_trans (gb_alloc (gb_refl w none) _) hg1
      have B1 := hide ((Box.new w (.mk kd x m p (u :: v :: r)) (.slice a n c) 24).kept hg1)
      obtain ⟨b0_1, b1_1, b2_1, b3_1, b4_1⟩ := B1.out
      go_wp2_with fail
      go_ret
      exact ⟨rfl, G1.out⟩
end Go.Proofs.YtlkokcnbbihljaaGreatDoor
