/- 'append' of any list of trees, nil too; arguments. -/
import Derived.Test.YtbphiiaoncakfaaGreatDoorG09
namespace Go.Proofs.YtbphiiaoncakfaaGreatDoor
open Go.RowKit

/-- 'append' of a list, nil or not, at a step of a region that draws its order. -/
theorem step_appAny {ops : Array Oper} {o : Oper} {a : Act} {w : World} {K : Act → World → Prop} {Q : Exit → Act → World → Prop} {E : Prop} (hgd : o.guard = none) (s x : Operand)
    (ho : o.op = .call { callee := .builtin .append, args := #[s, x], argTypes := #[23, 23] })
    {S S2 : Nat → Prop} (S' : Nat → Prop) {ts us : List T} {v u : Value} (hs : a.eval s = v) (hx : a.eval x = u) (hl : LR w S ts v) (hu : LR w S2 us u)
    (hd : ∀ k, S2 k → v.ownBlock ≠ some k) (h1 : ∀ k, S k → S' k) (h2 : ∀ k, S2 k → S' k) (h3 : S' w.heap.size) (hlen : ts.length + us.length ≤ 20000)
    (k : ∀ v' w', LR w' S' (ts ++ us) v' → w.grownBy w' v.ownBlock → K (a.put o.dst v') w') :
    if Region.wanted o (yielded ops a.tmps) = true then Oper.wp Tryz.prog o a w K Q else E := by
  obtain ⟨uvs, hu1, uown, uin, usub⟩ := hu.own
  rcases uown.2 with ⟨rfl, h0⟩ | ⟨g, cap, cur, rfl, _⟩
  · have hus : us = [] := List.eq_nil_of_length_eq_zero h0
    subst hus; have hk := k v w (by rw [List.append_nil]; exact hl.mono h1) (gb_refl _ _)
    have hw : Region.wanted o (yielded ops a.tmps) = true := by simp [Region.wanted, hgd]
    obtain ⟨svs, hl1, own, hin, hsub⟩ := hl.own
    rcases own.2 with ⟨rfl, h00⟩ | ⟨g, cap, cur, rfl, _, _, hnc, _⟩
    · rw [if_pos hw]
      obtain ⟨i0, hi0, hz0, hz1, hz2⟩ := info_parts Tryz.infoNode
      have hr : (Builtin.append_ #[23, 23] o.type #[.slice none 0 0, .slice none 0 0]).run Tryz.prog w = .ok (.slice none 0 0) w := by
        simp [Builtin.append_, run_underlying Tryz.underlying23, sizeOf, typeInfo, hi0, Builtin.lenOf, Builtin.firstCells]
      unfold Oper.wp execOp
      simp only [ho, resolve, invoke, builtin, Sem.run_bind, Sem.run_pure, Result.andThen_ok, List.map_toArray, List.map_cons, List.map_nil, hs, hx, hr]
      exact hk
    · exact step_appNil hgd s x ho hs hx hnc hk
  · exact step_appS hgd s x ho S' hs hx hl hu hd h1 h2 h3 hlen k

set_option maxRecDepth 100000 in
set_option maxHeartbeats 400000 in
theorem parguments_any (c : PC) (w : World) (i d : Nat) (E : P T) (h : PS c w i d) (hE : ExprOK c d E) :
    Calls Tryz.prog 148 #[.pointer (some ⟨c.pb, 0, none⟩)] w (Steps c w i d (fun w' ts v => LR w' (In w.heap.size w'.heap.size) ts v ∧ ts.length ≤ 5001) (argumentsP c.L E i)) := by
  have HP := hide h; have HE := hide hE; clear h hE
  go_enter Tryz.func148, Tryz.ntmps148
  go_wp2_with fail; go_at_call 127; refine (pbracketed_any c _ i d 93 E s_comma _ rfl (by decide) HP.out HE.out).mono ?_; rintro e w1 (⟨x1, hr1, ht1, hg1⟩ | ⟨a1, j1, v1, hr1, rfl, lr1, hg1, p1, hi1⟩)
  · have HT := ht1
    obtain ⟨q, rfl, -⟩ := ht1
    exact ⟨rfl, Steps.err hr1 HT (gb_refl _ _) hg1⟩
  go_wp2
  go_ret
  exact Steps.ok hr1 lr1 hg1 p1 hi1

set_option maxRecDepth 100000 in
set_option maxHeartbeats 4000000 in
theorem pdesignatorOrCall_any (c : PC) (w : World) (i d : Nat) (E : P T) (h : PS c w i d) (hE : ExprOK c d E)
    (hD : ∀ (w : World) (i : Nat), PS c w i d → Calls Tryz.prog 141 #[.pointer (some ⟨c.pb, 0, none⟩)] w (Steps c w i d (fun w' t v => TR w' w.heap.size w'.heap.size t v) (designatorP c.L E i))) :
    Calls Tryz.prog 152 #[.pointer (some ⟨c.pb, 0, none⟩)] w (Steps c w i d (fun w' t v => TR w' w.heap.size w'.heap.size t v) (designatorOrCallP c.L E i)) := by
  have HP := hide h; have HL := hide h.low; have hb := h.lt; have hfew := h.good.few; have HE := hide hE; clear h hE
  go_enter Tryz.func152, Tryz.ntmps152
  go_wp2_with fail; go_at_call 141; refine (hD _ i (by exact PS.alloc HP.out _)).mono ?_; rintro e w1 (⟨x1, hr1, ht1, hg1⟩ | ⟨⟨k1, n1, m1, q1, l1⟩, j1, v1, hr1, rfl, ⟨sv1, rfl, lr1⟩, hg1, p1, hi1⟩)
  · have HT := ht1
    obtain ⟨q, rfl, -⟩ := ht1
    exact ⟨rfl, Steps.err (P.bind_err hr1) HT (by exact gb_alloc (gb_refl w (some c.pb)) _) hg1⟩
  have HR1 : designatorOrCallP c.L E i = _ := P.bind_ok hr1; simp only [T.kind, T.name, T.num, T.at', T.subs] at lr1 ⊢; obtain ⟨ad1, cp1, rfl⟩ := lr1.form; obtain ⟨b1, hb1, lr1⟩ : ∃ b, b = _ ∧ LR w1 (In b w1.heap.size) l1 (.slice ad1 l1.length cp1) := ⟨_, rfl, lr1⟩
  try simp at hb1
  have G1 : w.grownBy w1 (some c.pb) := gb_trans (by exact gb_alloc (gb_refl w (some c.pb)) _) hg1; have s1 := hg1.size
  try simp at s1
  have r1 : RB w1 w.heap.size := RB.kept (RB.new' (by simp)) hg1 (by simp; omega); go_wp2_with fail; go_at_call 38; refine (pwordq_any c _ j1 d (by exact PS.alloc p1 _)).mono ?_; rintro e w2 ⟨rfl, hg2⟩; have p2 : PS c w2 j1 d := PS.kept (by exact PS.alloc p1 _) hg2; have G2 : w.grownBy w2 (some c.pb) := gb_trans (by exact gb_alloc G1 _) (gb_some hg2 _); have s2 := hg2.size
  try simp at s2
  have r2 : RB w2 w.heap.size := RB.kept (by exact RB.alloc r1 _) hg2 (by simp); have n2 : NB w2 w1.heap.size (.int .i64 k1) (.string ⟨n1.toArray⟩) (.int .i64 m1) (.int .i64 q1) (.slice ad1 l1.length cp1) := NB.kept (NB.new' (by simp)) hg2 (by simp); have l2 : LR w2 (In b1 w1.heap.size) l1 (.slice ad1 l1.length cp1) := LR.grown (by exact LR.alloc lr1 _) hg2; have r_lt2 := r2.lt; have n_lt2 := n2.lt; obtain ⟨_, _, _, _, _, y0, y1, y2, y3, y4, yz⟩ := id r2; obtain ⟨x0, x1, x2, x3, x4, xz⟩ := id n2
  by_cases hw : wd c.L j1 = s_lp
  · have hwb : (wd c.L j1 == [40]) = true := by rw [hw]; decide
    have HR2 : designatorOrCallP c.L E i = _ := HR1.trans (if_pos hw); go_wp2_with fail
    go_region_law (first
      | (go_simp
         go_at_call 148; refine (parguments_any c _ j1 d E (by first | with_reducible exact PS.drew p2 | with_reducible exact PS.drew (PS.alloc p2 _)) HE.out).mono ?_; rintro e w4 (⟨x4, hr4, ht4, hg4⟩ | ⟨a4, j4, v4, hr4, rfl, ⟨lr4, ha4⟩, hg4, p4, hi4⟩)
         focus
           have HT := ht4; obtain ⟨q, rfl, -⟩ := ht4
           exact ⟨rfl, Steps.err (HR2.trans (P.bind_err hr4)) HT (by first | with_reducible exact gb_drew G2 | with_reducible exact gb_drew (gb_alloc G2 _)) hg4⟩
         have s4 := hg4.size
         try simp at s4
         have n4 : NB w4 w1.heap.size (.int .i64 k1) (.string ⟨n1.toArray⟩) (.int .i64 m1) (.int .i64 q1) (.slice ad1 l1.length cp1) := NB.kept (by first | with_reducible exact NB.drew n2 | with_reducible exact NB.drew (NB.alloc n2 _)) hg4 (by simp; omega); have r4 : RB w4 w.heap.size := RB.kept (by first | with_reducible exact RB.drew r2 | with_reducible exact RB.drew (RB.alloc r2 _)) hg4 (by simp; omega); have G4 : w.grownBy w4 (some c.pb) := gb_trans (by first | with_reducible exact gb_drew G2 | with_reducible exact gb_drew (gb_alloc G2 _)) hg4; have l4 : LR w4 (In b1 w1.heap.size) l1 (.slice ad1 l1.length cp1) := LR.call (by first | with_reducible exact LR.drew l2 | with_reducible exact LR.drew (LR.alloc l2 _)) hg4 (by omega); have n_lt4 := n4.lt; have r_lt4 := r4.lt; obtain ⟨ad4, cp4, rfl⟩ := lr4.form; obtain ⟨b4, hb4, lr4⟩ : ∃ b, b = _ ∧ LR w4 (In b w4.heap.size) a4 (.slice ad4 a4.length cp4) := ⟨_, rfl, lr4⟩
         try simp at hb4
         obtain ⟨z0, z1, z2, z3, z4, zz⟩ := id n4)
      | (have lb : LR w4 (fun k => In b1 w1.heap.size k ∨ k = w2.heap.size) [T.mk k1 n1 m1 q1 l1] (.slice (some ⟨w2.heap.size, 0, none⟩) 1 1) := (LR.build1S w2.drew (g := w2.heap.size) (S := In b1 w1.heap.size) (t := T.mk k1 n1 m1 q1 l1) (cs := #[.int .i64 k1, .string ⟨n1.toArray⟩, .int .i64 m1, .int .i64 q1, .slice ad1 l1.length cp1]) l2.drew (fun k hk => Nat.lt_of_lt_of_le hk.2 (by omega)) rfl rfl).kept hg4 (fun b hb hs => by cases hb; rcases hs with hs | hs; (have h1 : b1 ≤ c.pb := hs.1; omega); omega)
         have hin : ∀ b, Value.ownBlock (.slice (some ⟨w2.heap.size, 0, none⟩) 1 1) = some b → b = w2.heap.size := fun b e => by simp [Value.ownBlock] at e; omega
         refine step_appAny (v := .slice (some ⟨w2.heap.size, 0, none⟩) 1 1) (u := .slice ad4 a4.length cp4) rfl _ _ rfl (fun k => In b1 w1.heap.size k ∨ (w2.heap.size ≤ k ∧ k ≤ w4.heap.size + 1)) rfl rfl lb lr4
           (fun k hk e => by have h1 := hin k e; have h2 : b4 ≤ k := hk.1; have h3 : k < w4.heap.size := hk.2; omega) (fun k hk => hk.elim .inl (fun h => .inr ⟨by omega, by omega⟩)) (fun k hk => .inr ⟨by have h2 : b4 ≤ k := hk.1; omega, by have h3 : k < w4.heap.size := hk.2; omega⟩) (.inr ⟨by first | omega | (simp <;> omega), by first | omega | (simp <;> omega)⟩) (by simp; omega) ?_
         intro v5 w5 lr5 hg5; obtain ⟨ad5, cp5, e5⟩ := lr5.form; rw [List.length_append, List.length_singleton] at e5; subst e5; have s5 := hg5.size
         try simp at s5
         have r5 : RB w5 w.heap.size := RB.kept r4 hg5 (fun e => by have := hin _ e.symm; omega); have p5 : PS c w5 j4 d := PS.own p4 HL.out hg5 (fun b hb => by have := hin b hb; omega); have G5 : w.grownBy w5 (some c.pb) := gb_own G4 hg5 (fun b hb => by have := hin b hb; omega); have n5 : NB w5 w1.heap.size (.int .i64 k1) (.string ⟨n1.toArray⟩) (.int .i64 m1) (.int .i64 q1) (.slice ad1 l1.length cp1) := NB.kept n4 hg5 (fun e => by have := hin _ e.symm; omega); have r_lt5 := r5.lt; have n_lt5 := n5.lt; obtain ⟨t0, t1, t2, t3, t4, tz⟩ := id n5
         obtain ⟨_, _, _, _, _, u0, u1, u2, u3, u4, uz⟩ := id r5)
      | (have lb : LR (w4.alloc (.cells #[.int .i64 k1, .string ⟨n1.toArray⟩, .int .i64 m1, .int .i64 q1, .slice ad1 l1.length cp1] 25)) (fun k => In b1 w1.heap.size k ∨ k = w4.heap.size) [T.mk k1 n1 m1 q1 l1] (.slice (some ⟨w4.heap.size, 0, none⟩) 1 1) := LR.build1S w4 (S := In b1 w1.heap.size) (t := T.mk k1 n1 m1 q1 l1) (cs := #[.int .i64 k1, .string ⟨n1.toArray⟩, .int .i64 m1, .int .i64 q1, .slice ad1 l1.length cp1]) l4 (fun k hk => Nat.lt_of_lt_of_le hk.2 (by omega)) rfl rfl
         have hin : ∀ b, Value.ownBlock (.slice (some ⟨w4.heap.size, 0, none⟩) 1 1) = some b → b = w4.heap.size := fun b e => by simp [Value.ownBlock] at e; omega
         refine step_appAny (v := .slice (some ⟨w4.heap.size, 0, none⟩) 1 1) (u := .slice ad4 a4.length cp4) rfl _ _ rfl (fun k => In b1 w1.heap.size k ∨ (w2.heap.size ≤ k ∧ k ≤ w4.heap.size + 1)) rfl rfl lb (lr4.alloc _)
           (fun k hk e => by have h1 := hin k e; have h2 : b4 ≤ k := hk.1; have h3 : k < w4.heap.size := hk.2; omega) (fun k hk => hk.elim .inl (fun h => .inr ⟨by omega, by omega⟩)) (fun k hk => .inr ⟨by have h2 : b4 ≤ k := hk.1; omega, by have h3 : k < w4.heap.size := hk.2; omega⟩) (.inr ⟨by first | omega | (simp <;> omega), by first | omega | (simp <;> omega)⟩) (by simp; omega) ?_
         intro v5 w5 lr5 hg5; obtain ⟨ad5, cp5, e5⟩ := lr5.form; rw [List.length_append, List.length_singleton] at e5; subst e5; have s5 := hg5.size
         try simp at s5
         have r5 : RB w5 w.heap.size := RB.kept (by exact RB.alloc r4 _) hg5 (fun e => by have := hin _ e.symm; omega); have p5 : PS c w5 j4 d := PS.own (by exact PS.alloc p4 _) HL.out hg5 (fun b hb => by have := hin b hb; omega); have G5 : w.grownBy w5 (some c.pb) := gb_own (by exact gb_alloc G4 _) hg5 (fun b hb => by have := hin b hb; omega); have n5 : NB w5 w1.heap.size (.int .i64 k1) (.string ⟨n1.toArray⟩) (.int .i64 m1) (.int .i64 q1) (.slice ad1 l1.length cp1) := NB.kept (by exact NB.alloc n4 _) hg5 (fun e => by have := hin _ e.symm; omega); have r_lt5 := r5.lt; have n_lt5 := n5.lt; obtain ⟨t0, t1, t2, t3, t4, tz⟩ := id n5
         obtain ⟨_, _, _, _, _, u0, u1, u2, u3, u4, uz⟩ := id r5))
    all_goals
      go_wp2; refine node_ret Tryz.results152 rfl (RB.five ?_) rfl ?_
      · exact r5
      refine Steps.ok (a := T.mk 33 [] 0 q1 (T.mk k1 n1 m1 q1 l1 :: a4)) (HR2.trans (P.bind_ok hr4)) ⟨_, rfl, ?_⟩ ?_ ?_ (by omega)
      · have lr6 : LR w5 (In b1 w5.heap.size) (T.mk k1 n1 m1 q1 l1 :: a4) (.slice ad5 (1 + a4.length) cp5) := lr5.bounded.mono (fun k hk => ⟨hk.1.elim (fun h => h.1) (fun h => by omega), hk.2⟩)
        refine LR.wide (lo := b1) (hi := w5.heap.size) (ts := T.mk k1 n1 m1 q1 l1 :: a4) ?_ (by omega) (by first | omega | (simp <;> omega))
        exact LR.p5 lr6 (by omega)
      · exact gb_p5 G5 (by omega)
      · exact PS.p5 p5 HL.out (by omega)
  · have hwb : (wd c.L j1 == [40]) = false := by simpa [s_lp] using hw
    go_wp2; refine node_ret Tryz.results152 rfl (RB.five ?_) rfl ?_
    · exact r2
    refine Steps.ok (a := T.mk k1 n1 m1 q1 l1) (HR1.trans (if_neg hw)) ⟨_, rfl, ?_⟩ ?_ ?_ (by omega)
    · refine LR.wide (lo := b1) (hi := w1.heap.size) (ts := l1) ?_ (by omega) (by first | omega | (simp <;> omega))
      exact LR.p5 l2 (by omega)
    · exact gb_p5 G2 (by omega)
    · exact PS.p5 p2 HL.out (by omega)
end Go.Proofs.YtbphiiaoncakfaaGreatDoor
