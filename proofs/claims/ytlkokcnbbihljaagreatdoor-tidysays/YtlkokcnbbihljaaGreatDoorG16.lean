/- The program's judge of shapes: its small steps. -/
import Derived.Test.YtlkokcnbbihljaaGreatDoorG15
import Derived.Test.YtlkokcnbbihljaaGreatDoorG05
namespace Go.Proofs.YtlkokcnbbihljaaGreatDoor
open Go.RowKit Go.Maps Go.WideMaps Go.WideElems

def withinB (t : T) (most : Int) : Bool := decide (0 ≤ t.num ∧ t.num ≤ most)
set_option maxRecDepth 1000000 in
set_option maxHeartbeats 1000000 in
theorem within_any (t : T) (sv : Value) (most : Int) (w : World) (ha : ∃ a n c, sv = .slice a n c) :
    Calls Tryz.prog 113 #[nodeV t sv, .int .i64 most] w (Sy w (.bool (withinB t most))) := by
  obtain ⟨a, n, c, rfl⟩ := ha
  obtain ⟨kd, x, m, p, l⟩ := t
  change Calls Tryz.prog 113 #[.agg #[.int .i64 kd, .string ⟨x.toArray⟩, .int .i64 m, .int .i64 p, .slice a n c], .int .i64 most] w _
  by_cases h1 : 0 ≤ m
  · by_cases h2 : m ≤ most
    · rw [show withinB (.mk kd x m p l) most = true by unfold withinB; exact decide_eq_true ⟨h1, h2⟩]
      go_enter Tryz.func113, Tryz.ntmps113
      go_wp2
      go_ret
      exact ⟨rfl, gb_alloc (gb_refl w none) _⟩
    · rw [show withinB (.mk kd x m p l) most = false by unfold withinB; exact decide_eq_false (fun h => h2 h.2)]
      have h2b : decide (m ≤ most) = false := by simpa using h2
      go_enter Tryz.func113, Tryz.ntmps113
      go_wp2
      go_ret
      exact ⟨ret_bool (by simp), gb_alloc (gb_refl w none) _⟩
  · rw [show withinB (.mk kd x m p l) most = false by unfold withinB; exact decide_eq_false (fun h => h1 h.1)]
    have h1b : decide (0 ≤ m) = false := by simpa using h1
    go_enter Tryz.func113, Tryz.ntmps113
    go_wp2
    go_ret
    exact ⟨rfl, gb_alloc (gb_refl w none) _⟩
theorem at_form {w : World} {l : List T} {v : Value} (h : AT w l v) : ∃ a n c, v = .slice a n c := by
  obtain ⟨a, c, e, _⟩ := h.form
  exact ⟨a, _, c, e⟩
set_option maxRecDepth 1000000 in
set_option maxHeartbeats 1000000 in
theorem unnamed_any (t : T) (sv : Value) (most : Int) (w : World) (ha : ∃ a n c, sv = .slice a n c) :
    Calls Tryz.prog 115 #[nodeV t sv, .int .i64 most] w (Sy w (.bool (t.name.isEmpty && withinB t most))) := by
  have HW := fun w => hide (within_any t sv most w ha)
  obtain ⟨a, n, c, rfl⟩ := ha
  obtain ⟨kd, x, m, p, l⟩ := t
  change Calls Tryz.prog 115 #[.agg #[.int .i64 kd, .string ⟨x.toArray⟩, .int .i64 m, .int .i64 p, .slice a n c], .int .i64 most] w (Sy w (.bool (x.isEmpty && withinB (.mk kd x m p l) most)))
  cases h : x.isEmpty
  · go_enter Tryz.func115, Tryz.ntmps115
    go_wp2_with fail
    go_ret
    exact ⟨rfl, gb_alloc (gb_refl w none) _⟩
  · go_enter Tryz.func115, Tryz.ntmps115
    go_wp2_with fail
    go_at_call 113
    refine ((HW _).out).mono ?_
    rintro e w1 ⟨rfl, hg1⟩
    go_wp2_with fail
    go_ret
    exact ⟨rfl, gb_trans (gb_alloc (gb_refl w none) _) hg1⟩
theorem bl_gb {w w' : World} (h : Below w.heap.size w w') (row : Option Nat) : w.grownBy w' row := ⟨h.os, h.tape, h.output, h.size, fun i hi _ => h.block i hi⟩
set_option maxRecDepth 1000000 in
set_option maxHeartbeats 2000000 in
theorem named_any (jb lb : Nat) (t : T) (sv : Value) (most : Int) (w : World) (c0 : w.cell? ⟨jb, 0, none⟩ = some (.map (some lb))) (hx : IsLex w lb) (hf : Fits t) (ha : ∃ a n c, sv = .slice a n c) :
    Calls Tryz.prog 77 #[ptr jb, nodeV t sv, .int .i64 most] w (Sy w (.bool (nameB t.name && withinB t most))) := by
  have HW := fun w => hide (within_any t sv most w ha)
  have HS := hide (name_size hf.name)
  have HX := hide hx
  have hlt := block_lt c0
  obtain ⟨a, n, c, rfl⟩ := ha
  obtain ⟨kd, x, m, p, l⟩ := t
  clear hx hf
  change Calls Tryz.prog 77 #[ptr jb, .agg #[.int .i64 kd, .string ⟨x.toArray⟩, .int .i64 m, .int .i64 p, .slice a n c], .int .i64 most] w (Sy w (.bool (nameB x && withinB (.mk kd x m p l) most)))
  cases h : nameB x
  · skip
    have HN : Hid (∀ w', w.grownBy w' none → Calls Tryz.prog 112 #[.agg #[.map (some lb)], .string ⟨x.toArray⟩] w' (Sy w' (.bool false))) := fun w' hg => (lexName_any lb ⟨x.toArray⟩ w' HS.out (map_block HX.out (hg.block lb (World.ownsMap.lt HX.out) (by simp)))).mono (fun e w'' hh => ⟨hh.1.trans (ret_bool h), bl_gb hh.2 none⟩)
    go_enter Tryz.func77, Tryz.ntmps77
    go_wp2_with fail
    first | go_region_with (first
      | (go_at_call 112
         refine (HN.out _ (by repeat (first | with_reducible exact gb_refl w none | with_reducible refine gb_put ?_ (by omega) _ _ | with_reducible refine gb_alloc ?_ _ | with_reducible refine gb_drewN ?_ _ | with_reducible refine gb_drew ?_))).mono ?_
         rintro e w1 ⟨rfl, hg1⟩)) | fail
    all_goals
      go_wp2_with fail
      go_ret
      exact ⟨rfl, gb_trans (by repeat (first | with_reducible exact gb_refl w none | with_reducible refine gb_put ?_ (by omega) _ _ | with_reducible refine gb_alloc ?_ _ | with_reducible refine gb_drewN ?_ _ | with_reducible refine gb_drew ?_)) hg1⟩
  · skip
    have HN : Hid (∀ w', w.grownBy w' none → Calls Tryz.prog 112 #[.agg #[.map (some lb)], .string ⟨x.toArray⟩] w' (Sy w' (.bool true))) := fun w' hg => (lexName_any lb ⟨x.toArray⟩ w' HS.out (map_block HX.out (hg.block lb (World.ownsMap.lt HX.out) (by simp)))).mono (fun e w'' hh => ⟨hh.1.trans (ret_bool h), bl_gb hh.2 none⟩)
    go_enter Tryz.func77, Tryz.ntmps77
    go_wp2_with fail
    first | go_region_with (first
      | (go_at_call 112
         refine (HN.out _ (by repeat (first | with_reducible exact gb_refl w none | with_reducible refine gb_put ?_ (by omega) _ _ | with_reducible refine gb_alloc ?_ _ | with_reducible refine gb_drewN ?_ _ | with_reducible refine gb_drew ?_))).mono ?_
         rintro e w1 ⟨rfl, hg1⟩
         have B1 : Box w1 w.heap.size (.mk kd x m p l) (.slice a n c) := (Box.new w (.mk kd x m p l) (.slice a n c) 24).kept (gb_trans (gb_drew (gb_refl _ none)) hg1)
         obtain ⟨b0, b1, b2, b3, b4⟩ := B1
         change _ = some (Value.int .i64 kd) at b0
         change _ = some (Value.string ⟨x.toArray⟩) at b1
         change _ = some (Value.int .i64 m) at b2
         change _ = some (Value.int .i64 p) at b3)
      | (go_at_call 113
         refine ((HW _).out).mono ?_
         rintro e w2 ⟨rfl, hg2⟩)) | fail
    all_goals
      go_wp2_with fail
      go_ret
      exact ⟨rfl, gb_trans (gb_trans (by repeat (first | with_reducible exact gb_refl w none | with_reducible refine gb_put ?_ (by omega) _ _ | with_reducible refine gb_alloc ?_ _ | with_reducible refine gb_drewN ?_ _ | with_reducible refine gb_drew ?_)) hg1) hg2⟩
end Go.Proofs.YtlkokcnbbihljaaGreatDoor
