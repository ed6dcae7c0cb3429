/- The document's texts: expressions, kind by kind. -/
import Derived.Test.YtapfecciakijhaaGreatDoorG05
namespace Go.Proofs.YtapfecciakijhaaGreatDoor
open Go.RowKit
set_option maxHeartbeats 1000000
set_option maxRecDepth 1000000

theorem ex25 (x : List UInt8) (m p : Int) (u : T) (E : List UInt8) (sv : Value) (w : World) (hx : x.length ≤ 12) (ha : AT w (T.mk 25 x m p [u]).subs sv) (he : ETx w u E) :
    Calls Tryz.prog 42 #[.agg #[.int .i64 25, .string ⟨x.toArray⟩, .int .i64 m, .int .i64 p, sv]] w (Sy w (.string ⟨(E ++ (46 :: x)).toArray⟩)) := by
  obtain ⟨g, o, c, u', su, rfl, hn, hc, hl, n5, fu, au⟩ := ha.one rfl
  have hu : u = u' := by simpa [T.subs] using hl
  subst hu; obtain ⟨c0,_,_,_,_⟩ := n5; have hgl := block_lt c0; obtain ⟨_,HC⟩ := he; have AU := hide au; have HC := hide HC; clear ha hl fu au
  go_enter Tryz.func42, Tryz.ntmps42
  have q1 : ¬ (9223372036854775807 < E.length + 1) := by omega
  have q2 : ¬ (9223372036854775807 < E.length + 1 + x.length) := by omega
  have q3 : (E.length + 1 + x.length ≤ 9223372036854775807) := by omega
  have q4 : (E.length + 1 ≤ 9223372036854775807) := by omega
  go_wp2_with fail
  go_region_with
    (go_at_call 42
     refine (HC.out _ _ (gb_drewN (gb_alloc (gb_refl w none) _) _) (AU.out.kept (gb_drewN (gb_alloc (gb_refl w none) _) _))).mono ?_; rintro e w1 ⟨rfl, hg1⟩; have G1 := hide (gb_trans (gb_drewN (gb_alloc (gb_refl w none) _) _) hg1); have B1 := hide ((Box.new w (.mk 25 x m p [u]) (.slice (some ⟨g, o, none⟩) 1 c) 24).kept (gb_trans (gb_drewN (gb_refl _ none) _) hg1))
     obtain ⟨_,_,_,_,_⟩ := B1.out)
  all_goals
    go_wp2_with fail
    go_ret
    refine ⟨ret_str ?_, ?_⟩
    · rw [show (⟨#[46]⟩ : ByteArray) = ⟨[46].toArray⟩ from rfl, ba_app, ba_app]
      simp [T.name]
    · first | exact G1.out | exact gb_drewN G1.out _
end Go.Proofs.YtapfecciakijhaaGreatDoor
