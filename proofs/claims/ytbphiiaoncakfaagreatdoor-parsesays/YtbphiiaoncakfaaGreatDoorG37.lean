/- The document's reader: expressions, at every level. -/
import Derived.Test.YtbphiiaoncakfaaGreatDoorG35
import Derived.Test.YtbphiiaoncakfaaGreatDoorG36
import Derived.Test.YtbphiiaoncakfaaGreatDoorG29
import Derived.Test.YtbphiiaoncakfaaGreatDoorG11
import Derived.Test.YtbphiiaoncakfaaGreatDoorG31
import Derived.Test.YtbphiiaoncakfaaGreatDoorG32
import Derived.Test.YtbphiiaoncakfaaGreatDoorG33
import Derived.Test.YtbphiiaoncakfaaGreatDoorG24
import Derived.Test.YtbphiiaoncakfaaGreatDoorG26
import Derived.Test.YtbphiiaoncakfaaGreatDoorG27
namespace Go.Proofs.YtbphiiaoncakfaaGreatDoor
open Go.RowKit

section
variable (L : List Tok) (E F : Q T)
theorem factorQ_bad {s : QS} (h : ¬ s.2 = none) : factorQ L E F s = (.mk 0 [] 0 (pos L s.1) [], s) := by unfold factorQ; rw [if_neg h]
theorem productQ_bad {s : QS} (h : ¬ s.2 = none) : productQ L E F s = (.mk 0 [] 0 (pos L s.1) [], s) := by
  unfold productQ
  rw [Q.bind_eq (factorQ_bad L E F h)]
  exact chainQ_no (fun h9 => h h9.1)
theorem isQ_bad {x : List UInt8} {s : QS} (h : ¬ s.2 = none) : isQ L x s = (false, s) := by unfold isQ; rw [if_neg (fun h9 => h h9.1)]
theorem sumQ_bad {s : QS} (h : ¬ s.2 = none) : sumQ L E F s = (.mk 0 [] 0 (pos L s.1) [], s) := by
  show ((isQ L s_minus).bind (fun b => (productQ L E F).bind fun a => chainQ L addsB (productQ L E F) 20 (if b then T.mk 35 [] 0 (pos L s.1) [a] else a))) s = _
  rw [Q.bind_eq (isQ_bad L h), Q.bind_eq (productQ_bad L E F h)]
  exact chainQ_no (fun h9 => h h9.1)
theorem relationQ_bad {s : QS} (h : ¬ s.2 = none) : relationQ L E F s = (.mk 0 [] 0 (pos L s.1) [], s) := by rw [relationQ_eq (sumQ_bad L E F h), if_neg h]
theorem limitQ_eq (k : Int) (s : QS) : limitQ L k s = (.mk k [] 0 (pos L (stopQ L 3 s).2.1) [], (stopQ L 3 s).2) := by
  unfold limitQ
  rw [(stopQ_some L 3 s).2]
end

/-- A factor at a depth. -/
def FQ (L : List Tok) (d : Nat) : Q T := factorQ L (exprQ L (20 - d)) (deepFactorQ L (20 - d))
theorem stays_FQ (L : List Tok) (d : Nat) : Stays (FQ L d) := (sim_factor L (goodW L) (sim_exprFactor L (goodW L) _).1 (sim_exprFactor L (goodW L) _).2).2
theorem stays_PQ (L : List Tok) (d : Nat) : Stays (productQ L (exprQ L (20 - d)) (deepFactorQ L (20 - d))) := (sim_product L (goodW L) (sim_exprFactor L (goodW L) _).1 (sim_exprFactor L (goodW L) _).2).2
theorem expr_step (L : List Tok) {d : Nat} (hd : d ≤ 20) (s : QS) : relationQ L (exprQ L (20 - (d + 1))) (deepFactorQ L (20 - (d + 1))) (if d < 20 then s else (stopQ L 3 s).2) = exprQ L (20 - d) s := by
  by_cases h : d < 20
  · rw [if_pos h, show 20 - d = (20 - (d + 1)) + 1 by omega, exprQ_succ]
  · obtain rfl : d = 20 := by omega
    rw [if_neg h, relationQ_bad L _ _ (stopQ_some L 3 s).1]
    exact (limitQ_eq L 0 s).symm
theorem factor_step (L : List Tok) {d : Nat} (hd : d ≤ 20) (s : QS) : deepFactorQ L (20 - d) s = FQ L (d + 1) (if d < 20 then s else (stopQ L 3 s).2) := by
  by_cases h : d < 20
  · rw [if_pos h, show 20 - d = (20 - (d + 1)) + 1 by omega, deepFactorQ_succ]
    rfl
  · obtain rfl : d = 20 := by omega
    rw [if_neg h]
    show limitQ L 0 s = _
    rw [FQ, factorQ_bad L _ _ (stopQ_some L 3 s).1]
    exact limitQ_eq L 0 s

theorem levels (c : RC) : ∀ (k d : Nat), d + k = 21 → (d ≤ 20 → QOK c d 68 (exprQ c.L (20 - d))) ∧ QOK c d 131 (FQ c.L d)
  | 0, d, h => ⟨fun h9 => by omega, fun w s hp => rfactor_any c w s d _ _ (FQ c.L 0) hp (fun h9 => by omega) (fun h9 => by omega) (fun h9 => by omega)⟩
  | k + 1, d, h => by
    have hd : d ≤ 20 := by omega
    obtain ⟨_, hF⟩ := levels c k (d + 1) (by omega)
    have hP : QOK c (d + 1) 119 (productQ c.L (exprQ c.L (20 - (d + 1))) (deepFactorQ c.L (20 - (d + 1)))) := fun w s hp => rproduct_any c w s (d + 1) _ _ hp hF (stays_FQ c.L (d + 1))
    have hS : QOK c (d + 1) 102 (sumQ c.L (exprQ c.L (20 - (d + 1))) (deepFactorQ c.L (20 - (d + 1)))) := fun w s hp => rsum_any c w s (d + 1) _ _ hp hP (stays_PQ c.L (d + 1))
    have hE : QOK c d 68 (exprQ c.L (20 - d)) := fun w s hp => by
      have := rexpr_any c w s d _ _ hd hp hS; rw [expr_step c.L hd] at this
      exact this
    exact ⟨fun _ => hE, fun w s hp => rfactor_any c w s d _ _ (FQ c.L (d + 1)) hp (fun _ => hE) (fun _ => hF) (fun _ s => factor_step c.L hd s)⟩
theorem exprOKQ (c : RC) (d : Nat) (hd : d ≤ 20) : QOK c d 68 (exprQ c.L (20 - d)) := (levels c (21 - d) d (by omega)).1 hd
end Go.Proofs.YtbphiiaoncakfaaGreatDoor

/- The document's reader: acts, at every level. -/
namespace Go.Proofs.YtbphiiaoncakfaaGreatDoor
open Go.RowKit

theorem rstmt_any (c : RC) (w : World) (s : QS) (d : Nat) (E A : Q T) (h : RS c w s d) (hok : s.2 = none) (hE : QOK c d 68 E) (hA : QOK c d 32 A) :
    Calls Tryz.prog 46 #[.pointer (some ⟨c.rb, 0, none⟩)] w (QSt c w s d (fun w' t v => TR w' w.heap.size w'.heap.size t v) (actQ c.L E A s)) := by
  by_cases h1 : wd c.L s.1 = kIF
  · rw [show actQ c.L E A s = choiceQ c.L E A s by rw [actQ, if_pos h1]]
    exact rstmt_if c w s d E A h hok hE hA h1
  by_cases h2 : wd c.L s.1 = kWHILE
  · rw [show actQ c.L E A s = whileQ c.L E A s by rw [actQ, if_neg h1, if_pos h2]]
    exact rstmt_while c w s d E A h hok hE hA h2
  by_cases h3 : wd c.L s.1 = kREPEAT
  · rw [show actQ c.L E A s = repeatQ c.L E A s by rw [actQ, if_neg h1, if_neg h2, if_pos h3]]
    exact rstmt_repeat c w s d E A h hok hE hA h3
  by_cases h4 : wd c.L s.1 = kRETURN
  · rw [show actQ c.L E A s = returnQ c.L E s by rw [actQ, if_neg h1, if_neg h2, if_neg h3, if_pos h4]]
    exact rstmt_return c w s d E A h hok hE hA h4
  by_cases h5 : wd c.L s.1 = kNEW
  · rw [show actQ c.L E A s = builtInQ c.L 20 kNEW (desigQ c.L E) s by rw [actQ, if_neg h1, if_neg h2, if_neg h3, if_neg h4, if_pos h5]]
    exact rstmt_NEW c w s d E A h hok hE hA h5
  by_cases h6 : wd c.L s.1 = kOUT
  · rw [show actQ c.L E A s = builtInQ c.L 21 kOUT E s by rw [actQ, if_neg h1, if_neg h2, if_neg h3, if_neg h4, if_neg h5, if_pos h6]]
    exact rstmt_OUT c w s d E A h hok hE hA h6
  by_cases h7 : wd c.L s.1 = kGET
  · rw [show actQ c.L E A s = builtInQ c.L 22 kGET (desigQ c.L E) s by rw [actQ, if_neg h1, if_neg h2, if_neg h3, if_neg h4, if_neg h5, if_neg h6, if_pos h7]]
    exact rstmt_GET c w s d E A h hok hE hA h7
  by_cases h8 : wd c.L s.1 = kASSERT
  · rw [show actQ c.L E A s = builtInQ c.L 23 kASSERT E s by rw [actQ, if_neg h1, if_neg h2, if_neg h3, if_neg h4, if_neg h5, if_neg h6, if_neg h7, if_pos h8]]
    exact rstmt_ASSERT c w s d E A h hok hE hA h8
  rw [show actQ c.L E A s = assignQ c.L E s by rw [actQ, if_neg h1, if_neg h2, if_neg h3, if_neg h4, if_neg h5, if_neg h6, if_neg h7, if_neg h8]]
  exact rstmt_assign c w s d E A h hok hE hA h1 h2 h3 h4 h5 h7 h6 h8

theorem actListQ_bad {L : List Tok} {E A : Q T} {s : QS} (h : ¬ s.2 = none) : actListQ L E A s = (.mk 1 [] 0 (pos L s.1) [], s) := by
  show ((actLoopQ L E A (L.length + 1) []).bind fun l => Q.ret (T.mk 1 [] 0 (pos L s.1) l)) s = _
  rw [Q.bind_eq (actLoopQ_bad h)]
  rfl
theorem actsOKQ (c : RC) : ∀ (k d : Nat), d + k = 20 → QOK c d 32 (actsQ c.L (20 - d))
  | 0, d, h => fun w s hp => by
    obtain rfl : d = 20 := by omega
    have h9 := rstmts_any c w s _ 20 (exprQ c.L 0) (actsQ c.L 0) (by omega) rfl hp (fun w s hp hok => absurd hok (hp.dz rfl)); rw [if_neg (by omega), actListQ_bad (stopQ_some c.L 3 s).1] at h9; have e : actsQ c.L (20 - 20) s = (.mk 1 [] 0 (pos c.L (stopQ c.L 3 s).2.1) [], (stopQ c.L 3 s).2) := limitQ_eq c.L 1 s; rw [e]
    exact h9
  | k + 1, d, h => fun w s hp => by
    have hA := actsOKQ c k (d + 1) (by omega); have h9 := rstmts_any c w s _ d (exprQ c.L (20 - (d + 1))) (actsQ c.L (20 - (d + 1))) (by omega) rfl hp (fun w s hp hok => rstmt_any c w s (d + 1) _ _ hp hok (exprOKQ c (d + 1) (by omega)) hA); rw [if_pos (by omega)] at h9
    have e : actsQ c.L (20 - d) s = actListQ c.L (exprQ c.L (20 - (d + 1))) (actsQ c.L (20 - (d + 1))) s := by
      rw [show 20 - d = (20 - (d + 1)) + 1 by omega]
      rfl
    rw [e]
    exact h9
end Go.Proofs.YtbphiiaoncakfaaGreatDoor

/- The document's reader: declarations of each kind, at a module's level. -/
namespace Go.Proofs.YtbphiiaoncakfaaGreatDoor
open Go.RowKit

theorem declC (c : RC) (w : World) (s : QS) (h : RS c w s 0) : Calls Tryz.prog 42 #[.pointer (some ⟨c.rb, 0, none⟩), .int .i64 4] w (QSt c w s 0 (fun w' t v => TR w' w.heap.size w'.heap.size t v) (constantQ c.L s)) :=
  rdecl_const c w s 0 (exprQ c.L 20) h (exprOKQ c 0 (by omega))
theorem declT (c : RC) (w : World) (s : QS) (h : RS c w s 0) : Calls Tryz.prog 42 #[.pointer (some ⟨c.rb, 0, none⟩), .int .i64 5] w (QSt c w s 0 (fun w' t v => TR w' w.heap.size w'.heap.size t v) (typeDeclQ c.L s)) :=
  rdecl_type c w s 0 (kindQ c.L) h (fun w s h => rkind_any c w s 0 h)
theorem declV (c : RC) (w : World) (s : QS) (h : RS c w s 0) : Calls Tryz.prog 42 #[.pointer (some ⟨c.rb, 0, none⟩), .int .i64 6] w (QSt c w s 0 (fun w' t v => TR w' w.heap.size w'.heap.size t v) (variableQ c.L s)) :=
  rdecl_typed c w s 0 6 h rfl rfl
theorem actsOKQ0 (c : RC) : QOK c 0 32 (actsQ c.L 20) := actsOKQ c 20 0 rfl
end Go.Proofs.YtbphiiaoncakfaaGreatDoor

/- The document's reader: a module at every place. -/
namespace Go.Proofs.YtbphiiaoncakfaaGreatDoor

theorem procOKQ0 (c : RC) : QOK c 0 31 (procedureQ c.L) := fun w s h => rproc_any c w s 0 h (actsOKQ0 c)
theorem moduleOKQ (c : RC) : QOK c 0 11 (moduleQ c.L) := fun w s h => rmodule_any c w s 0 h (fun w s h => declC c w s h) (fun w s h => declT c w s h) (fun w s h => declV c w s h) (procOKQ0 c) (actsOKQ0 c)
end Go.Proofs.YtbphiiaoncakfaaGreatDoor
