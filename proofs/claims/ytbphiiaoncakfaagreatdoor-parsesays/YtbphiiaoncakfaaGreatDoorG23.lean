/- errors.As where the error is of another type than the target: a bare error number is no fault; a fault is asked for the number that it holds. -/
import Derived.Test.YtbphiiaoncakfaaGreatDoorG22
import Derived.Test.YtbphiiaoncakfaaGreatDoorG01
import Derived.Test.YtbphiiaoncakfaaGreatDoorG17
import Derived.Test.YtbphiiaoncakfaaGreatDoorG21
namespace Go.Proofs.YtbphiiaoncakfaaGreatDoor
open Go.RowKit Go.Extern.Stop Go.Stop Go.Extern

theorem assi_no_FE (w : World) : (ReflectliteType.relation "AssignableTo" ReflectliteType.assignableTo #[.agg #[.pointer (some ⟨6, 49, none⟩)], .iface 116 (.agg #[.pointer (some ⟨6, 26, none⟩)])]).run Tryz.prog w = .ok (.bool false) w := by kernel_rfl
theorem assi_no_EF (w : World) : (ReflectliteType.relation "AssignableTo" ReflectliteType.assignableTo #[.agg #[.pointer (some ⟨6, 26, none⟩)], .iface 116 (.agg #[.pointer (some ⟨6, 49, none⟩)])]).run Tryz.prog w = .ok (.bool false) w := by kernel_rfl

theorem noAs_F (v : Value) (x : TypeId) (w : World) : (Instr.typeAssert (.iface 49 v) x 121 true).run Tryz.prog w = .ok (.tuple #[.nilIface, .bool false]) w := run_typeAssert_lacksB Tryz.underlying121 (by kernel_rfl) (by kernel_rfl) v x w
theorem noAs_E (v : Value) (x : TypeId) (w : World) : (Instr.typeAssert (.iface 26 v) x 121 true).run Tryz.prog w = .ok (.tuple #[.nilIface, .bool false]) w := run_typeAssert_lacksB Tryz.underlying121 (by kernel_rfl) (by kernel_rfl) v x w
theorem hasUnwrap_F (v : Value) (x : TypeId) (w : World) : (Instr.typeAssert (.iface 49 v) x 124 true).run Tryz.prog w = .ok (.tuple #[.iface 49 v, .bool true]) w := run_typeAssert_hasB Tryz.underlying124 (by kernel_rfl) v x w
theorem noUnwrap_E (v : Value) (x : TypeId) (w : World) : (Instr.typeAssert (.iface 26 v) x 124 true).run Tryz.prog w = .ok (.tuple #[.nilIface, .bool false]) w := run_typeAssert_lacksB Tryz.underlying124 (by kernel_rfl) (by kernel_rfl) v x w
theorem noUnwraps_E (v : Value) (x : TypeId) (w : World) : (Instr.typeAssert (.iface 26 v) x 126 true).run Tryz.prog w = .ok (.tuple #[.nilIface, .bool false]) w := run_typeAssert_lacksB Tryz.underlying126 (by kernel_rfl) (by kernel_rfl) v x w
theorem mUnwrap (a : Addr) (w : World) : (Go.method 276 49 (.pointer (some a)) "Unwrap").run Tryz.prog w = .ok (172, .pointer (some a)) w := by kernel_rfl
set_option maxHeartbeats 4000000 in
theorem as_miss_F (n : Int) (t : Addr) (old : Value) (w : World) (hg : w.cell? ⟨1, 0, none⟩ = some (.iface 116 (.agg #[.pointer (some ⟨6, 32, none⟩)]))) (ht0 : w.cell? t = some old) :
    Calls Tryz.prog 40 #[.iface 26 (.int .i64 n), .iface 76 (.pointer (some t))] w fun ev w' => ev = .returned (.bool false) ∧ ∃ o1 o2 o3, w' = ((w.alloc o1).alloc o2).alloc o3 := by
  have h6 := @run_callFunc_extern Tryz.prog 63 _ (fun args => ReflectliteValue.unpack (args.getD 0 (.tuple #[]))) Tryz.func63 (by kernel_rfl) (by kernel_rfl) (by kernel_rfl) (by kernel_rfl); have h7 := @run_callFunc_extern Tryz.prog 64 _ (ReflectliteValue.methodAny (ReflectliteValue.valueError "reflectlite.Value.Type" 0) (fun t _ _ _ => ReflectliteType.toType t)) Tryz.func64 (by kernel_rfl) (by kernel_rfl) (by kernel_rfl) (by kernel_rfl); have h8 := @run_callFunc_extern Tryz.prog 65 _ (ReflectliteValue.method (ReflectliteValue.valueError "reflectlite.Value.IsNil" 0) ReflectliteValue.isNil) Tryz.func65 (by kernel_rfl) (by kernel_rfl) (by kernel_rfl) (by kernel_rfl); have h27 := @run_callFunc_extern Tryz.prog 167 _ (ReflectliteType.abiMethod fun t => do pure (.int .u8 (← Rtype.kind t))) Tryz.func167 (by kernel_rfl) (by kernel_rfl) (by kernel_rfl) (by kernel_rfl); have h37 := @run_callFunc_extern Tryz.prog 179 _ (ReflectliteType.method ReflectliteType.elem) Tryz.func179 (by kernel_rfl) (by kernel_rfl) (by kernel_rfl) (by kernel_rfl); have h38 := @run_callFunc_extern Tryz.prog 180 _ (ReflectliteType.relation "Implements" ReflectliteType.implements_) Tryz.func180 (by kernel_rfl) (by kernel_rfl) (by kernel_rfl) (by kernel_rfl); have h10 := @run_callFunc_extern Tryz.prog 98 _ ReflectliteType.typeOf Tryz.func98 (by kernel_rfl) (by kernel_rfl) (by kernel_rfl) (by kernel_rfl); have h35 := @run_callFunc_extern Tryz.prog 177 _ (ReflectliteType.relation "AssignableTo" ReflectliteType.assignableTo) Tryz.func177 (by kernel_rfl) (by kernel_rfl) (by kernel_rfl) (by kernel_rfl); have h11 := @run_callFunc_extern Tryz.prog 99 _ (ReflectliteValue.method (ReflectliteValue.valueError "reflectlite.Value.Elem" 0) ReflectliteValue.elem) Tryz.func99 (by kernel_rfl) (by kernel_rfl) (by kernel_rfl) (by kernel_rfl); have h12 := @run_callFunc_extern Tryz.prog 100 _ ReflectliteValue.set Tryz.func100 (by kernel_rfl) (by kernel_rfl) (by kernel_rfl) (by kernel_rfl); have mK := mKind; have mE := mElem; have mI := mImpl; have mA := mAssi; have f6 := valueOfP_F; have f7 := type_F; have kP := kindP_F; have kS := kindS_F; have eT := elemT_F; have iS := impl_F; have n8 := isNil_F ⟨w.heap.size, 0, none⟩ t ((w.alloc (.cells #[.pointer (some t)] 76)).alloc (.cells #[.pointer (some ⟨6, 76, none⟩), .pointer (some ⟨w.heap.size, 0, none⟩), .int .u64 150] 89)) (by simp)
  have hlt : 1 < w.heap.size := by
    rcases Nat.lt_or_ge 1 w.heap.size with h | h
    · exact h
    · simp [World.cell?, Array.getElem?_eq_none h] at hg
  have hg2 : ((w.alloc (.cells #[.pointer (some t)] 76)).alloc (.cells #[.pointer (some ⟨6, 76, none⟩), .pointer (some ⟨w.heap.size, 0, none⟩), .int .u64 150] 89)).cell? ⟨1, 0, none⟩ = some (.iface 116 (.agg #[.pointer (some ⟨6, 32, none⟩)])) := by
    rw [World.cell?_alloc_lt _ _ ⟨1, 0, none⟩ (by simp; omega), World.cell?_alloc_lt _ _ ⟨1, 0, none⟩ hlt]; exact hg
  have htl : t.block < w.heap.size := by
    rcases Nat.lt_or_ge t.block w.heap.size with h | h
    · exact h
    · simp [World.cell?, Array.getElem?_eq_none h] at ht0
  have el := elemV_F ⟨w.heap.size, 0, none⟩ t (((w.alloc (.cells #[.pointer (some t)] 76)).alloc (.cells #[.pointer (some ⟨6, 76, none⟩), .pointer (some ⟨w.heap.size, 0, none⟩), .int .u64 150] 89)).alloc (.cells #[.pointer (some ⟨6, 76, none⟩), .pointer (some ⟨w.heap.size, 0, none⟩), .int .u64 150] 89)) (by rw [World.cell?_alloc_lt _ _ ⟨w.heap.size, 0, none⟩ (by simp; omega)]; simp); have tO := typeOf_E; have aS := assi_no_EF; have q1 := noAs_E; have q2 := noUnwrap_E; have q3 := noUnwraps_E
  go_enter Tryz.func40, Tryz.ntmps40
  go_wp2; refine wp_loop_rounds 1 ?_; rw [rounds_succ]; go_wp2
  go_ret
  exact ⟨rfl, _, _, _, rfl⟩
set_option maxHeartbeats 4000000 in
theorem as_through_E (e : Int) (q t : Addr) (old : Value) (w : World) (hg : w.cell? ⟨1, 0, none⟩ = some (.iface 116 (.agg #[.pointer (some ⟨6, 32, none⟩)]))) (ht0 : w.cell? t = some old) (hf0 : w.frozen? t = false)
    (hq : w.cell? ⟨q.block, q.off + 2, none⟩ = some (.iface 26 (.int .i64 e))) (hqn : q = ⟨q.block, q.off, none⟩) :
    Calls Tryz.prog 40 #[.iface 49 (.pointer (some q)), .iface 79 (.pointer (some t))] w fun ev w' => ev = .returned (.bool true) ∧ ∃ o1 o2 o3 o4, w' = ((((w.alloc o1).alloc o2).alloc o3).alloc o4).setCell t (.int .i64 e) := by
  obtain ⟨qb, qo, qn⟩ := q; simp only [Addr.mk.injEq, true_and] at hqn; subst hqn; simp only at hq; have h6 := @run_callFunc_extern Tryz.prog 63 _ (fun args => ReflectliteValue.unpack (args.getD 0 (.tuple #[]))) Tryz.func63 (by kernel_rfl) (by kernel_rfl) (by kernel_rfl) (by kernel_rfl); have h7 := @run_callFunc_extern Tryz.prog 64 _ (ReflectliteValue.methodAny (ReflectliteValue.valueError "reflectlite.Value.Type" 0) (fun t _ _ _ => ReflectliteType.toType t)) Tryz.func64 (by kernel_rfl) (by kernel_rfl) (by kernel_rfl) (by kernel_rfl); have h8 := @run_callFunc_extern Tryz.prog 65 _ (ReflectliteValue.method (ReflectliteValue.valueError "reflectlite.Value.IsNil" 0) ReflectliteValue.isNil) Tryz.func65 (by kernel_rfl) (by kernel_rfl) (by kernel_rfl) (by kernel_rfl); have h27 := @run_callFunc_extern Tryz.prog 167 _ (ReflectliteType.abiMethod fun t => do pure (.int .u8 (← Rtype.kind t))) Tryz.func167 (by kernel_rfl) (by kernel_rfl) (by kernel_rfl) (by kernel_rfl); have h37 := @run_callFunc_extern Tryz.prog 179 _ (ReflectliteType.method ReflectliteType.elem) Tryz.func179 (by kernel_rfl) (by kernel_rfl) (by kernel_rfl) (by kernel_rfl); have h38 := @run_callFunc_extern Tryz.prog 180 _ (ReflectliteType.relation "Implements" ReflectliteType.implements_) Tryz.func180 (by kernel_rfl) (by kernel_rfl) (by kernel_rfl) (by kernel_rfl); have h10 := @run_callFunc_extern Tryz.prog 98 _ ReflectliteType.typeOf Tryz.func98 (by kernel_rfl) (by kernel_rfl) (by kernel_rfl) (by kernel_rfl); have h35 := @run_callFunc_extern Tryz.prog 177 _ (ReflectliteType.relation "AssignableTo" ReflectliteType.assignableTo) Tryz.func177 (by kernel_rfl) (by kernel_rfl) (by kernel_rfl) (by kernel_rfl); have h11 := @run_callFunc_extern Tryz.prog 99 _ (ReflectliteValue.method (ReflectliteValue.valueError "reflectlite.Value.Elem" 0) ReflectliteValue.elem) Tryz.func99 (by kernel_rfl) (by kernel_rfl) (by kernel_rfl) (by kernel_rfl); have h12 := @run_callFunc_extern Tryz.prog 100 _ ReflectliteValue.set Tryz.func100 (by kernel_rfl) (by kernel_rfl) (by kernel_rfl) (by kernel_rfl); have mK := mKind; have mE := mElem; have mI := mImpl; have mA := mAssi; have f6 := valueOfP_E; have f7 := type_E; have kP := kindP_E; have kS := kindS_E; have eT := elemT_E; have iS := impl_E; have n8 := isNil_E ⟨w.heap.size, 0, none⟩ t ((w.alloc (.cells #[.pointer (some t)] 79)).alloc (.cells #[.pointer (some ⟨6, 79, none⟩), .pointer (some ⟨w.heap.size, 0, none⟩), .int .u64 150] 89)) (by simp)
  have hlt : 1 < w.heap.size := by
    rcases Nat.lt_or_ge 1 w.heap.size with h | h
    · exact h
    · simp [World.cell?, Array.getElem?_eq_none h] at hg
  have hg2 : ((w.alloc (.cells #[.pointer (some t)] 79)).alloc (.cells #[.pointer (some ⟨6, 79, none⟩), .pointer (some ⟨w.heap.size, 0, none⟩), .int .u64 150] 89)).cell? ⟨1, 0, none⟩ = some (.iface 116 (.agg #[.pointer (some ⟨6, 32, none⟩)])) := by
    rw [World.cell?_alloc_lt _ _ ⟨1, 0, none⟩ (by simp; omega), World.cell?_alloc_lt _ _ ⟨1, 0, none⟩ hlt]; exact hg
  have htl : t.block < w.heap.size := by
    rcases Nat.lt_or_ge t.block w.heap.size with h | h
    · exact h
    · simp [World.cell?, Array.getElem?_eq_none h] at ht0
  have el := elemV_E ⟨w.heap.size, 0, none⟩ t (((w.alloc (.cells #[.pointer (some t)] 79)).alloc (.cells #[.pointer (some ⟨6, 79, none⟩), .pointer (some ⟨w.heap.size, 0, none⟩), .int .u64 150] 89)).alloc (.cells #[.pointer (some ⟨6, 79, none⟩), .pointer (some ⟨w.heap.size, 0, none⟩), .int .u64 150] 89)) (by rw [World.cell?_alloc_lt _ _ ⟨w.heap.size, 0, none⟩ (by simp; omega)]; simp); have tO := typeOf_E; have aS := assi_E; have vS := valueOfS_E; have st := set_E t ⟨w.heap.size + 1 + 1 + 1, 0, none⟩ e old ((((w.alloc (.cells #[.pointer (some t)] 79)).alloc (.cells #[.pointer (some ⟨6, 79, none⟩), .pointer (some ⟨w.heap.size, 0, none⟩), .int .u64 150] 89)).alloc (.cells #[.pointer (some ⟨6, 79, none⟩), .pointer (some ⟨w.heap.size, 0, none⟩), .int .u64 150] 89)).alloc (.cells #[.int .i64 e] 26))
    (by rw [World.cell?_alloc_at _ _ _ _ (by simp)]; rfl)
    (by rw [World.cell?_alloc_lt _ _ t (by simp; omega), World.cell?_alloc_lt _ _ t (by simp; omega), World.cell?_alloc_lt _ _ t (by simp; omega), World.cell?_alloc_lt _ _ t htl]; exact ht0)
    (by rw [World.frozen?_alloc_old _ _ t (by simp; omega), World.frozen?_alloc_old _ _ t (by simp; omega), World.frozen?_alloc_old _ _ t (by simp; omega), World.frozen?_alloc_old _ _ t (Nat.ne_of_lt htl)]; exact hf0)
  have tF := typeOf_F; have aN := assi_no_FE; have q1 := noAs_F; have q2 := hasUnwrap_F; have mU := mUnwrap
  have hql : qb < w.heap.size := by
    rcases Nat.lt_or_ge qb w.heap.size with h | h
    · exact h
    · simp [World.cell?, Array.getElem?_eq_none h] at hq
  have hq3 : (((w.alloc (.cells #[.pointer (some t)] 79)).alloc (.cells #[.pointer (some ⟨6, 79, none⟩), .pointer (some ⟨w.heap.size, 0, none⟩), .int .u64 150] 89)).alloc (.cells #[.pointer (some ⟨6, 79, none⟩), .pointer (some ⟨w.heap.size, 0, none⟩), .int .u64 150] 89)).cell? ⟨qb, qo + 2, none⟩ = some (.iface 26 (.int .i64 e)) := by
    rw [World.cell?_alloc_lt _ _ ⟨qb, qo + 2, none⟩ (by simp; omega), World.cell?_alloc_lt _ _ ⟨qb, qo + 2, none⟩ (by simp; omega), World.cell?_alloc_lt _ _ ⟨qb, qo + 2, none⟩ (by simpa using hql)]; exact hq
  go_enter Tryz.func40, Tryz.ntmps40
  go_wp2; refine wp_loop_rounds 2 ?_; rw [rounds_succ]; go_wp2; rw [rounds_succ]; go_wp2
  go_ret
  exact ⟨rfl, _, _, _, _, rfl⟩

end Go.Proofs.YtbphiiaoncakfaaGreatDoor

/- api.Tell: for no error 0, -1, -1; for a fault its number, its text, its place; for a bare number that number, -1, -1; memory that was there stays as it was. -/
namespace Go.Proofs.YtbphiiaoncakfaaGreatDoor
open Go.RowKit Go.Extern.Stop Go.Stop Go.Extern

/-- errors.errorType holds the handle of the type 'error'. -/
def HasErr (w : World) : Prop := w.cell? ⟨1, 0, none⟩ = some (.iface 116 (.agg #[.pointer (some ⟨6, 32, none⟩)]))

theorem Hid.mk2 {p : Prop} (h : p) : Hid p := h

theorem lt_of_cell {w : World} {a : Addr} {v : Value} (h : w.cell? a = some v) : a.block < w.heap.size := by
  rcases Nat.lt_or_ge a.block w.heap.size with h' | h'
  · exact h'
  · simp [World.cell?, Array.getElem?_eq_none h'] at h

theorem HasErr.alloc {w : World} (h : HasErr w) (o : Obj) : HasErr (w.alloc o) := by
  unfold HasErr at *
  rw [World.cell?_alloc_lt _ _ _ (lt_of_cell h)]; exact h

set_option maxHeartbeats 400000 in
theorem tell_nil (w : World) :
    Calls Tryz.prog 19 #[.nilIface] w fun e w' => e = .returned (.tuple #[.int .i64 0, .int .i64 (-1), .int .i64 (-1)]) ∧ Below w.heap.size w w' := by
  go_enter Tryz.func19, Tryz.ntmps19
  go_wp2
  exact bodyPost_ret (v := .tuple #[.int .i64 0, .int .i64 (-1), .int .i64 (-1)]) (by simp [results, Tryz.results19, go_sem]) rfl ⟨rfl, (Below.refl _ _).alloc (Nat.le_refl _) _⟩

theorem cell_up {w : World} {a : Addr} {v : Value} (h : w.cell? a = some v) (o : Obj) : (w.alloc o).cell? a = some v := by
  rw [World.cell?_alloc_lt _ _ _ (lt_of_cell h)]; exact h
theorem frozen_up {w : World} {a : Addr} {v : Value} {x : Bool} (h : w.cell? a = some v) (hf : w.frozen? a = x) (o : Obj) : (w.alloc o).frozen? a = x := by
  rw [World.frozen?_alloc_old _ _ _ (Nat.ne_of_lt (lt_of_cell h))]; exact hf
theorem HasErr.set {w : World} (h : HasErr w) {a : Addr} (v : Value) (ha : 1 < a.block) : HasErr (w.setCell a v) := by
  unfold HasErr at *
  rw [World.cell?_setCell_other _ _ _ _ (by intro e; subst e; simp at ha)]; exact h
theorem HasErr.drewN {w : World} (h : HasErr w) (n : Nat) : HasErr (w.drewN n) := h
theorem HasErr.below {w w' : World} {B : Nat} (h : HasErr w) (hb : Below B w w') (hB : 1 < B) : HasErr w' := by
  unfold HasErr at *
  rw [hb.cell hB]; exact h
theorem HasErr.grown {w w' : World} {row : Option Nat} (h : HasErr w) (hg : w.grownBy w' row) (hB : ∀ k, row = some k → 1 < k) : HasErr w' := by
  unfold HasErr at *
  have hl := lt_of_cell h; rw [World.cell?_of_block (w := w) (hg.block _ hl (fun e => absurd (hB _ e.symm) (Nat.lt_irrefl _)))]; exact h

set_option maxHeartbeats 1000000 in
theorem tell_errno (n : Int) (w : World) (hg : HasErr w) :
    Calls Tryz.prog 19 #[.iface 26 (.int .i64 n)] w fun e w' => e = .returned (.tuple #[.int .i64 n, .int .i64 (-1), .int .i64 (-1)]) ∧ Below w.heap.size w w' := by
  have hG := lt_of_cell hg; simp only at hG
  have H1 := fun o1 o2 => ((hg.alloc o1).alloc o2)
  clear hg
  go_enter Tryz.func19, Tryz.ntmps19
  go_wp2_with fail; refine (as_miss_F n _ (.pointer none) _ (H1 _ _) (by simp)).mono ?_; rintro e w1 ⟨rfl, o1, o2, o3, hw1⟩
  have hc1 : w1.cell? ⟨w.heap.size, 0, none⟩ = some (.int .i64 0) := by rw [hw1]; exact cell_up (cell_up (cell_up (cell_up (by simp) _) _) _) _
  have hf1 : w1.frozen? ⟨w.heap.size, 0, none⟩ = false := by rw [hw1]; exact frozen_up (v := .int .i64 0) (cell_up (cell_up (cell_up (by simp) _) _) _) (frozen_up (v := .int .i64 0) (cell_up (cell_up (by simp) _) _) (frozen_up (v := .int .i64 0) (cell_up (by simp) _) (by simp) _) _) _
  have hh1 : HasErr w1 := by rw [hw1]; exact (((H1 _ _).alloc _).alloc _).alloc _
  have hb1 : Below w.heap.size w w1 := by rw [hw1]; exact (((((Below.refl _ _).alloc (Nat.le_refl _) _).alloc (by simp) _).alloc (by simp; omega) _).alloc (by simp; omega) _).alloc (by simp; omega) _
  clear hw1 H1; go_wp2_with fail; refine (as_hit_E n _ (.int .i64 0) _ hh1 hc1 hf1).mono ?_; rintro e w2 ⟨rfl, o4, o5, o6, o7, hw2⟩
  have hc2 : w2.cell? ⟨w.heap.size, 0, none⟩ = some (.int .i64 n) := by rw [hw2]; exact World.cell?_setCell_same _ _ _ (cell_up (cell_up (cell_up (cell_up hc1 _) _) _) _)
  have hf2 : w2.frozen? ⟨w.heap.size, 0, none⟩ = false := by
    rw [hw2, World.frozen?_setCell]
    exact frozen_up (cell_up (cell_up (cell_up hc1 _) _) _) (frozen_up (cell_up (cell_up hc1 _) _) (frozen_up (cell_up hc1 _) (frozen_up hc1 hf1 _) _) _) _
  have hb2 : Below w.heap.size w w2 := by
    rw [hw2]; have := hb1.size
    exact ((((hb1.alloc this _).alloc (by simp; omega) _).alloc (by simp; omega) _).alloc (by simp; omega) _).setCell (by simp) _
  clear hw2 hc1 hf1 hh1 hb1 hG; have H2 := Hid.mk2 hb2; clear hb2; go_wp2
  exact bodyPost_ret (v := .tuple #[.int .i64 n, .int .i64 (-1), .int .i64 (-1)]) (by simp [results, Tryz.results19, go_sem, hc2]) rfl ⟨rfl, H2.out.setCell (by simp) _⟩

set_option maxHeartbeats 1000000 in
theorem tell_fault (q : Nat) (n tx at' : Int) (w : World) (hg : HasErr w)
    (q0 : w.cell? ⟨q, 0, none⟩ = some (.int .i64 tx)) (q1 : w.cell? ⟨q, 1, none⟩ = some (.int .i64 at')) (q2 : w.cell? ⟨q, 2, none⟩ = some (.iface 26 (.int .i64 n))) :
    Calls Tryz.prog 19 #[.iface 49 (.pointer (some ⟨q, 0, none⟩))] w fun e w' => e = .returned (.tuple #[.int .i64 n, .int .i64 tx, .int .i64 at']) ∧ Below w.heap.size w w' := by
  have hG := lt_of_cell hg; simp only at hG
  have H1 := fun o1 o2 => ((hg.alloc o1).alloc o2)
  have hq := lt_of_cell q0; simp only at hq
  go_enter Tryz.func19, Tryz.ntmps19
  go_wp2_with fail; refine (as_hit_F ⟨q, 0, none⟩ _ (.pointer none) _ (H1 _ _) (by simp) (by simp)).mono ?_; rintro e w1 ⟨rfl, o1, o2, o3, o4, hw1⟩
  have hc1 : w1.cell? ⟨w.heap.size, 0, none⟩ = some (.int .i64 0) := by rw [hw1, World.cell?_setCell_other _ _ _ _ (by simp)]; exact cell_up (cell_up (cell_up (cell_up (cell_up (by simp) _) _) _) _) _
  have hf1 : w1.frozen? ⟨w.heap.size, 0, none⟩ = false := by rw [hw1, World.frozen?_setCell]; exact frozen_up (v := .int .i64 0) (cell_up (cell_up (cell_up (cell_up (by simp) _) _) _) _) (frozen_up (v := .int .i64 0) (cell_up (cell_up (cell_up (by simp) _) _) _) (frozen_up (v := .int .i64 0) (cell_up (cell_up (by simp) _) _) (frozen_up (v := .int .i64 0) (cell_up (by simp) _) (by simp) _) _) _) _
  have hp1 : w1.cell? ⟨w.heap.size + 1, 0, none⟩ = some (.pointer (some ⟨q, 0, none⟩)) := by rw [hw1]; exact World.cell?_setCell_same _ _ _ (cell_up (v := .pointer none) (cell_up (cell_up (cell_up (by simp) _) _) _) _)
  have hh1 : HasErr w1 := by rw [hw1]; exact (((((H1 _ _).alloc _).alloc _).alloc _).alloc _).set _ (by simp; omega)
  have hb1 : Below w.heap.size w w1 := by rw [hw1]; exact (((((((Below.refl _ _).alloc (Nat.le_refl _) _).alloc (by simp) _).alloc (by simp; omega) _).alloc (by simp; omega) _).alloc (by simp; omega) _).alloc (by simp; omega) _).setCell (by simp) _
  have r0 : w1.cell? ⟨q, 0, none⟩ = some (.int .i64 tx) := by rw [hb1.cell hq]; exact q0
  have r1 : w1.cell? ⟨q, 1, none⟩ = some (.int .i64 at') := by rw [hb1.cell hq]; exact q1
  have r2 : w1.cell? ⟨q, 2, none⟩ = some (.iface 26 (.int .i64 n)) := by rw [hb1.cell hq]; exact q2
  clear hw1 H1 q0 q1 q2 hg; have H2 := Hid.mk2 hb1; clear hb1; go_wp2_with fail
  go_quiet (fail)
  go_wp2_with fail; refine (as_through_E n ⟨q, 0, none⟩ _ (.int .i64 0) _ (hh1.drewN nq) (by simpa using hc1) (by simpa using hf1) (by simpa using r2) rfl).mono ?_; rintro e w2 ⟨rfl, o5, o6, o7, o8, hw2⟩
  have hc2 : w2.cell? ⟨w.heap.size, 0, none⟩ = some (.int .i64 n) := by rw [hw2]; exact World.cell?_setCell_same _ _ _ (cell_up (cell_up (cell_up (cell_up (w := w1.drewN nq) (by simpa using hc1) _) _) _) _)
  have hf2 : w2.frozen? ⟨w.heap.size, 0, none⟩ = false := by
    rw [hw2, World.frozen?_setCell]
    have hc1 : (w1.drewN nq).cell? ⟨w.heap.size, 0, none⟩ = some (.int .i64 0) := by simpa using hc1
    exact frozen_up (cell_up (cell_up (cell_up hc1 _) _) _) (frozen_up (cell_up (cell_up hc1 _) _) (frozen_up (cell_up hc1 _) (frozen_up hc1 (by simpa using hf1) _) _) _) _
  have hb2 : Below w.heap.size w w2 := by
    rw [hw2]; have hb1 := H2.out; have hz := hb1.size
    exact (((((below_drewN hb1 nq).alloc (by simpa using hz) _).alloc (by simp; omega) _).alloc (by simp; omega) _).alloc (by simp; omega) _).setCell (by simp) _
  clear hw2 hc1 hf1 hh1 hG r0 r1 r2 hp1 H2; have H2 := Hid.mk2 hb2; clear hb2; go_wp2
  exact bodyPost_ret (v := .tuple #[.int .i64 n, .int .i64 tx, .int .i64 at']) (by simp [results, Tryz.results19, go_sem, hc2]) rfl ⟨rfl, H2.out.setCell (by simp) _⟩
end Go.Proofs.YtbphiiaoncakfaaGreatDoor

/- The document's answer for an error, held against the program's: the same number, text and place. -/
namespace Go.Proofs.YtbphiiaoncakfaaGreatDoor
open Go.RowKit

set_option maxRecDepth 100000 in
set_option maxHeartbeats 1000000 in
theorem is_nil (w : World) :
    Calls Tryz.prog 7 #[.nilIface, .agg #[.int .i64 0, .int .i64 (-1), .int .i64 (-1)]] w fun e w' => e = .returned (.bool true) ∧ Below w.heap.size w w' := by
  go_enter Tryz.func7, Tryz.ntmps7
  go_wp2_with fail; refine (tell_nil _).mono ?_; rintro e w1 ⟨rfl, hb⟩
  have c0 : w1.cell? ⟨w.heap.size, 0, none⟩ = some (.int .i64 0) := by rw [hb.cell (by simp)]; simp
  have c1 : w1.cell? ⟨w.heap.size, 1, none⟩ = some (.int .i64 (-1)) := by rw [hb.cell (by simp), World.cell?_alloc_at _ _ _ _ rfl]; rfl
  have c2 : w1.cell? ⟨w.heap.size, 2, none⟩ = some (.int .i64 (-1)) := by rw [hb.cell (by simp), World.cell?_alloc_at _ _ _ _ rfl]; rfl
  have HB := hide (((Below.refl w.heap.size w).alloc (Nat.le_refl _) _).trans (hb.mono (by simp))); clear hb; go_wp2
  go_ret
  exact ⟨rfl, HB.out⟩

set_option maxRecDepth 100000 in
set_option maxHeartbeats 1000000 in
theorem is_errno (n : Int) (w : World) (hg : HasErr w) :
    Calls Tryz.prog 7 #[.iface 26 (.int .i64 n), .agg #[.int .i64 n, .int .i64 (-1), .int .i64 (-1)]] w fun e w' => e = .returned (.bool true) ∧ Below w.heap.size w w' := by
  have H1 := fun o => hg.alloc o
  clear hg
  go_enter Tryz.func7, Tryz.ntmps7
  go_wp2_with fail; refine (tell_errno n _ (H1 _)).mono ?_; rintro e w1 ⟨rfl, hb⟩
  have c0 : w1.cell? ⟨w.heap.size, 0, none⟩ = some (.int .i64 n) := by rw [hb.cell (by simp)]; simp
  have c1 : w1.cell? ⟨w.heap.size, 1, none⟩ = some (.int .i64 (-1)) := by rw [hb.cell (by simp), World.cell?_alloc_at _ _ _ _ rfl]; rfl
  have c2 : w1.cell? ⟨w.heap.size, 2, none⟩ = some (.int .i64 (-1)) := by rw [hb.cell (by simp), World.cell?_alloc_at _ _ _ _ rfl]; rfl
  have HB := hide (((Below.refl w.heap.size w).alloc (Nat.le_refl _) _).trans (hb.mono (by simp))); clear hb H1; go_wp2
  go_ret
  exact ⟨rfl, HB.out⟩

set_option maxRecDepth 100000 in
set_option maxHeartbeats 1000000 in
theorem is_fault (q : Nat) (n tx at' : Int) (w : World) (hg : HasErr w)
    (q0 : w.cell? ⟨q, 0, none⟩ = some (.int .i64 tx)) (q1 : w.cell? ⟨q, 1, none⟩ = some (.int .i64 at')) (q2 : w.cell? ⟨q, 2, none⟩ = some (.iface 26 (.int .i64 n))) :
    Calls Tryz.prog 7 #[.iface 49 (.pointer (some ⟨q, 0, none⟩)), .agg #[.int .i64 n, .int .i64 tx, .int .i64 at']] w fun e w' => e = .returned (.bool true) ∧ Below w.heap.size w w' := by
  have H1 := fun o => hide (hg.alloc o)
  have H2 := fun o => hide (cell_up q0 o)
  have H3 := fun o => hide (cell_up q1 o)
  have H4 := fun o => hide (cell_up q2 o)
  clear hg q0 q1 q2
  go_enter Tryz.func7, Tryz.ntmps7
  go_wp2_with fail; refine (tell_fault q n tx at' _ (H1 _).out (H2 _).out (H3 _).out (H4 _).out).mono ?_; rintro e w1 ⟨rfl, hb⟩
  have c0 : w1.cell? ⟨w.heap.size, 0, none⟩ = some (.int .i64 n) := by rw [hb.cell (by simp)]; simp
  have c1 : w1.cell? ⟨w.heap.size, 1, none⟩ = some (.int .i64 tx) := by rw [hb.cell (by simp), World.cell?_alloc_at _ _ _ _ rfl]; rfl
  have c2 : w1.cell? ⟨w.heap.size, 2, none⟩ = some (.int .i64 at') := by rw [hb.cell (by simp), World.cell?_alloc_at _ _ _ _ rfl]; rfl
  have HB := hide (((Below.refl w.heap.size w).alloc (Nat.le_refl _) _).trans (hb.mono (by simp))); clear hb H1 H2 H3 H4; go_wp2
  go_ret
  exact ⟨rfl, HB.out⟩

end Go.Proofs.YtbphiiaoncakfaaGreatDoor

/- The law ParseSays: its one call answers true, whatever the text, and memory that was there stays as it was. -/
namespace Go.Proofs.YtbphiiaoncakfaaGreatDoor
open Go.RowKit

theorem phuge_no (s : ByteArray) (w : World) (hs : s.size ≤ maxLen) (hl : ¬ 4200 < s.size) :
    Calls Tryz.prog 4 #[.string s] w fun e w' => e = .returned (.bool false) ∧ w' = w := by
  unfold maxLen at hs
  go_enter Tryz.func4, Tryz.ntmps4
  go_wp2
  go_ret
  exact ⟨by simp; omega, rfl⟩
theorem phuge_yes (s : ByteArray) (w : World) (hs : s.size ≤ maxLen) (hl : 4200 < s.size) :
    Calls Tryz.prog 4 #[.string s] w fun e w' => e = .returned (.bool true) ∧ w' = w := by
  unfold maxLen at hs
  go_enter Tryz.func4, Tryz.ntmps4
  go_wp2
  go_ret
  exact ⟨by simp; omega, rfl⟩

set_option maxHeartbeats 400000 in
theorem psays_huge (s : ByteArray) (w : World) (hs : s.size ≤ maxLen) (hl : 4200 < s.size) :
    Calls Tryz.prog 3 #[.string s] w fun e w' => e = .returned (.bool true) ∧ Below w.heap.size w w' := by
  go_enter Tryz.func3, Tryz.ntmps3
  go_wp2_with (go_at_call 4; refine (phuge_yes _ _ hs hl).mono ?_; rintro e w' ⟨rfl, rfl⟩)
  go_ret
  exact ⟨rfl, Below.refl _ _⟩

/-- What Tree and Parse answer fits: the tree of both, what is wrong, as an error and as the document tells it. -/
structure Fit (w1 w2 : World) (x : T) (v1 v2 : Value) (err : Value) (b : Value) : Prop where
  t1 : ∃ sv, v1 = nodeV x sv ∧ LR w1 (fun _ => True) x.subs sv
  t2 : ∃ sv, v2 = nodeV x sv ∧ LR w2 (fun _ => True) x.subs sv
  is : ∀ W, HasErr W → w2.grownBy W none → Calls Tryz.prog 7 #[err, b] W fun e w' => e = .returned (.bool true) ∧ Below W.heap.size W w'

theorem fit_of {t : List UInt8} {w W w1 w2 : World} {e1 e2 : Ending} (h1 : TreePost t w e1 w1) (h2 : ParsePost t W e2 w2) : ∃ x v1 v2 err b, e1 = .returned (.tuple #[v1, b]) ∧ e2 = .returned (.tuple #[v2, err]) ∧ Fit w1 w2 x v1 v2 err b := by
  have zero : ∀ W : World, ∃ sv, Value.agg zeroNode = nodeV (T.mk 0 [] 0 0 []) sv ∧ LR W (fun _ => True) (T.mk 0 [] 0 0 []).subs sv := fun W => ⟨_, rfl, LR.nil _ _⟩
  rcases h1.2 with ⟨ha, rfl⟩ | ⟨ha, n, f, hb, rfl⟩ | ⟨ha, l, x, hb, hc, rfl⟩ | ⟨ha, l, x, j, v, hb, hc, rfl, hd⟩
  · rcases h2.2 with ⟨_, rfl⟩ | ⟨hz, _⟩ | ⟨hz, _⟩ | ⟨hz, _⟩
    · exact ⟨_, _, _, _, _, rfl, rfl, zero _, zero _, fun W hW _ => is_errno 3 W hW⟩
    · omega
    · omega
    · omega
  · rcases h2.2 with ⟨hz, _⟩ | ⟨_, n', f', q, hb', rfl, hq⟩ | ⟨_, l, x, q, hb', _⟩ | ⟨_, l, x, j, v, hb', _⟩
    · omega
    · rw [hb] at hb'
      cases hb'
      exact ⟨_, _, _, _, _, rfl, rfl, zero _, zero _, fun W hW hg => is_fault q n 0 _ W hW (cell_far hg hq.1 (by simp)) (cell_far hg hq.2.1 (by simp)) (cell_far hg hq.2.2 (by simp))⟩
    · rw [hb] at hb'; cases hb'
    · rw [hb] at hb'; cases hb'
  · rcases h2.2 with ⟨hz, _⟩ | ⟨_, n', f', q, hb', _⟩ | ⟨_, l', x', q, hb', hc', rfl, hq⟩ | ⟨_, l', x', j, v, hb', hc', _⟩
    · omega
    · rw [hb] at hb'; cases hb'
    · rw [hb] at hb'
      cases hb'; rw [hc] at hc'; cases hc'
      exact ⟨_, _, _, _, _, rfl, rfl, zero _, zero _, fun W hW hg => is_fault q x.1 0 x.2 W hW (cell_far hg hq.1 (by simp)) (cell_far hg hq.2.1 (by simp)) (cell_far hg hq.2.2 (by simp))⟩
    · rw [hb] at hb'
      cases hb'; rw [hc] at hc'; cases hc'
  · rcases h2.2 with ⟨hz, _⟩ | ⟨_, n', f', q, hb', _⟩ | ⟨_, l', x', q, hb', hc', _⟩ | ⟨_, l', x', j', v', hb', hc', rfl, hd'⟩
    · omega
    · rw [hb] at hb'; cases hb'
    · rw [hb] at hb'
      cases hb'; rw [hc] at hc'; cases hc'
    · rw [hb] at hb'
      cases hb'; rw [hc] at hc'; cases hc'; obtain ⟨sv, rfl, hl⟩ := hd; obtain ⟨sv', rfl, hl'⟩ := hd'
      exact ⟨x, _, _, _, _, rfl, rfl, ⟨sv, rfl, hl.mono (fun _ _ => trivial)⟩, ⟨sv', rfl, hl'.mono (fun _ _ => trivial)⟩, fun W _ _ => is_nil W⟩

theorem tree_form {t : List UInt8} {w w1 : World} {e : Ending} (h : TreePost t w e w1) : ∃ (k : Int) (x : List UInt8) (m a : Int) (ad : Option Addr) (n cp : Nat) (E F A : Int), e = .returned (.tuple #[.agg #[.int .i64 k, .string ⟨x.toArray⟩, .int .i64 m, .int .i64 a, .slice ad n cp], .agg #[.int .i64 E, .int .i64 F, .int .i64 A]]) := by
  rcases h.2 with ⟨_, rfl⟩ | ⟨_, n, f, _, rfl⟩ | ⟨_, l, x, _, _, rfl⟩ | ⟨_, l, x, j, v, _, _, rfl, sv, rfl, hl⟩
  · exact ⟨0, [], 0, 0, none, 0, 0, _, _, _, rfl⟩
  · exact ⟨0, [], 0, 0, none, 0, 0, _, _, _, rfl⟩
  · exact ⟨0, [], 0, 0, none, 0, 0, _, _, _, rfl⟩
  · obtain ⟨ad, cp, rfl⟩ := hl.form
    exact ⟨_, _, _, _, _, _, _, _, _, _, rfl⟩
theorem parse_form {t : List UInt8} {w w1 : World} {e : Ending} (h : ParsePost t w e w1) : ∃ (k : Int) (x : List UInt8) (m a : Int) (ad : Option Addr) (n cp : Nat) (err : Value), e = .returned (.tuple #[.agg #[.int .i64 k, .string ⟨x.toArray⟩, .int .i64 m, .int .i64 a, .slice ad n cp], err]) := by
  rcases h.2 with ⟨_, rfl⟩ | ⟨_, n, f, q, _, rfl, _⟩ | ⟨_, l, x, q, _, _, rfl, _⟩ | ⟨_, l, x, j, v, _, _, rfl, sv, rfl, hl⟩
  · exact ⟨0, [], 0, 0, none, 0, 0, _, rfl⟩
  · exact ⟨0, [], 0, 0, none, 0, 0, _, rfl⟩
  · exact ⟨0, [], 0, 0, none, 0, 0, _, rfl⟩
  · obtain ⟨ad, cp, rfl⟩ := hl.form
    exact ⟨_, _, _, _, _, _, _, _, rfl⟩

set_option maxRecDepth 100000 in
set_option maxHeartbeats 2000000 in
theorem psays_any (s : ByteArray) (w : World) (a : Addr) (kc : Nat) (hs : s.size ≤ maxLen) (htab : Lib.TabIs Tryz.prog w "strings.asciiSpace" .u8 Lib.asciiSpaceTab) (hk : Kept33 w a kc) (he : HasErr w) (hM : ∀ c : RC, QOK c 0 11 (moduleQ c.L)) :
    Calls Tryz.prog 3 #[.string s] w fun e w' => e = .returned (.bool true) ∧ Below w.heap.size w w' := by
  by_cases hl : 4200 < s.size
  · exact psays_huge s w hs hl
  have HT := hide htab; have HK := hide hk; have HE := hide he; have HM := hide hM; have hel := lt_of_cell he; simp only at hel; clear htab hk he hM
  go_enter Tryz.func3, Tryz.ntmps3
  go_wp2_with (go_at_call 4; refine (phuge_no _ _ hs hl).mono ?_; rintro e w9 ⟨rfl, hw9⟩; have hw8 := hw9.symm; subst hw8)
  go_at_call 5; refine (tree_any s _ a kc hs HK.out HM.out).mono ?_; rintro e w1 h1; have H1 := hide h1; obtain ⟨k1, x1, m1, a1, ad1, n1, cp1, E, F, A, rfl⟩ := tree_form h1; have hb1 := h1.1; clear h1; go_wp2_with fail; go_at_call 6; obtain ⟨w2, hw2⟩ : ∃ x, x = (w1.alloc (.cells #[.int .i64 k1, .string ⟨x1.toArray⟩, .int .i64 m1, .int .i64 a1, .slice ad1 n1 cp1] 25)).alloc (.cells #[.int .i64 E, .int .i64 F, .int .i64 A] 28) := ⟨_, rfl⟩; rw [← hw2]
  have hg2 : w1.grownBy w2 none := by rw [hw2]; exact gb_alloc (gb_alloc (gb_refl _ _) _) _
  have sz2 : w1.heap.size + 2 ≤ w2.heap.size := by rw [hw2]; simp
  have n2 : NB w2 w1.heap.size (.int .i64 k1) (.string ⟨x1.toArray⟩) (.int .i64 m1) (.int .i64 a1) (.slice ad1 n1 cp1) := by rw [hw2]; exact NB.alloc (NB.new w1 _) _
  have b2 : B3 w2 (w1.heap.size + 1) (.int .i64 E) (.int .i64 F) (.int .i64 A) := by
    have h9 := B3.new (v0 := .int .i64 E) (v1 := .int .i64 F) (v2 := .int .i64 A) (w1.alloc (.cells #[.int .i64 k1, .string ⟨x1.toArray⟩, .int .i64 m1, .int .i64 a1, .slice ad1 n1 cp1] 25)) 28; simp only [World.size_alloc] at h9; rw [hw2]
    exact h9
  clear hw2; have hs1 := hb1.size; have hb2 : Below w.heap.size w w2 := hb1.grown hg2 hs1 (fun _ hk => by cases hk); refine (parse_any s w2 hs (tab_below HT.out hb2) wholeOK).mono ?_; rintro e w3 h3; obtain ⟨x, v1, v2, err, b, e1, e2, hfit⟩ := fit_of H1.out h3; obtain ⟨k3, x3, m3, a3, ad3, n3, cp3, err3, rfl⟩ := parse_form h3; have hb3 := h3.1; have hg3 := bl_gb hb3 none; have sz3 := hb3.size; cases e1; cases e2; have nn3 := n2.kept hg3 (by simp); have bb3 := b2.kept hg3 (by simp); have hbb3 : Below w.heap.size w w3 := hb2.trans (hb3.mono (by omega)); clear h3; have nl := nn3.lt; have bl := bb3.lt; obtain ⟨p0, p1, p2, p3, p4, pz⟩ := id nn3; obtain ⟨q0, q1, q2, qz⟩ := id bb3; obtain ⟨sw, hsw, lw⟩ := hfit.t1; obtain ⟨sn, hsn, ln⟩ := hfit.t2; have HIS := hide hfit.is; have HSW := hide hsw; have HSN := hide hsn; clear hsw hsn hfit; go_wp2_with fail; obtain ⟨w4, hw4⟩ : ∃ x, x = w3.alloc (.cells #[.int .i64 k3, .string ⟨x3.toArray⟩, .int .i64 m3, .int .i64 a3, .slice ad3 n3 cp3] 25) := ⟨_, rfl⟩; rw [← hw4]
  have hg4 : w3.grownBy w4 none := by rw [hw4]; exact World.grownBy_alloc _ _ none
  have nb4 : NB w4 w3.heap.size (.int .i64 k3) (.string ⟨x3.toArray⟩) (.int .i64 m3) (.int .i64 a3) (.slice ad3 n3 cp3) := by rw [hw4]; exact NB.new w3 _
  have sz4 := hg4.size; clear hw4; have hbb4 : Below w.heap.size w w4 := hbb3.grown hg4 (by omega) (fun _ hk => by cases hk); go_at_call 7; refine (HIS.out w4 (HE.out.below hbb4 hel) hg4).mono ?_; rintro e w5 ⟨rfl, hb5⟩; have hg5 := bl_gb hb5 none; have sz5 := hb5.size; have na := nb4.kept hg5 (by simp); have nw := (nn3.kept hg4 (by simp)).kept hg5 (by simp); have hbb5 : Below w.heap.size w w5 := hbb4.trans (hb5.mono (by omega)); have lw5 : LR w5 (fun _ => True) x.subs sw := (((lw.kept hg2 (fun _ hk => by cases hk)).kept hg3 (fun _ hk => by cases hk)).kept hg4 (fun _ hk => by cases hk)).kept hg5 (fun _ hk => by cases hk); have ln5 : LR w5 (fun _ => True) x.subs sn := (ln.kept hg4 (fun _ hk => by cases hk)).kept hg5 (fun _ hk => by cases hk); have nal := na.lt; have nwl := nw.lt; clear p0 p1 p2 p3 p4 pz q0 q1 q2 qz; obtain ⟨p0, p1, p2, p3, p4, pz⟩ := id na; obtain ⟨q0, q1, q2, q3, q4, qz⟩ := id nw; have heq := equal_any x w5 sn sw ln5 lw5; rw [← HSW.out, ← HSN.out] at heq; have HEQ := hide heq; clear heq; go_wp2_with fail; go_at_call 8; refine HEQ.out.mono ?_; rintro e w6 ⟨rfl, hg6⟩; have hbb6 : Below w.heap.size w w6 := hbb5.grown hg6 (by omega) (fun _ hk => by cases hk); go_wp2
  go_ret
  exact ⟨rfl, hbb6⟩
end Go.Proofs.YtbphiiaoncakfaaGreatDoor
