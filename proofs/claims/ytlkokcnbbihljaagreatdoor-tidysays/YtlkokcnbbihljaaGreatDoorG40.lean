/- errors.As where the error is of another type than the target: a bare error number is no fault; a fault is asked for the number that it holds. -/
import Derived.Test.YtlkokcnbbihljaaGreatDoorG39
namespace Go.Proofs.YtlkokcnbbihljaaGreatDoor
open Go.RowKit Go.Extern.Stop Go.Stop Go.Extern

theorem assi_no_FE (w : World) : (ReflectliteType.relation "AssignableTo" ReflectliteType.assignableTo #[.agg #[.pointer (some ⟨8, 89, none⟩)], .iface 150 (.agg #[.pointer (some ⟨8, 26, none⟩)])]).run Tryz.prog w = .ok (.bool false) w := by kernel_rfl
theorem assi_no_EF (w : World) : (ReflectliteType.relation "AssignableTo" ReflectliteType.assignableTo #[.agg #[.pointer (some ⟨8, 26, none⟩)], .iface 150 (.agg #[.pointer (some ⟨8, 89, none⟩)])]).run Tryz.prog w = .ok (.bool false) w := by kernel_rfl

theorem noAs_F (v : Value) (x : TypeId) (w : World) : (Instr.typeAssert (.iface 89 v) x 155 true).run Tryz.prog w = .ok (.tuple #[.nilIface, .bool false]) w := run_typeAssert_lacksB Tryz.underlying155 (by kernel_rfl) (by kernel_rfl) v x w
theorem noAs_E (v : Value) (x : TypeId) (w : World) : (Instr.typeAssert (.iface 26 v) x 155 true).run Tryz.prog w = .ok (.tuple #[.nilIface, .bool false]) w := run_typeAssert_lacksB Tryz.underlying155 (by kernel_rfl) (by kernel_rfl) v x w
theorem hasUnwrap_F (v : Value) (x : TypeId) (w : World) : (Instr.typeAssert (.iface 89 v) x 158 true).run Tryz.prog w = .ok (.tuple #[.iface 89 v, .bool true]) w := run_typeAssert_hasB Tryz.underlying158 (by kernel_rfl) v x w
theorem noUnwrap_E (v : Value) (x : TypeId) (w : World) : (Instr.typeAssert (.iface 26 v) x 158 true).run Tryz.prog w = .ok (.tuple #[.nilIface, .bool false]) w := run_typeAssert_lacksB Tryz.underlying158 (by kernel_rfl) (by kernel_rfl) v x w
theorem noUnwraps_E (v : Value) (x : TypeId) (w : World) : (Instr.typeAssert (.iface 26 v) x 160 true).run Tryz.prog w = .ok (.tuple #[.nilIface, .bool false]) w := run_typeAssert_lacksB Tryz.underlying160 (by kernel_rfl) (by kernel_rfl) v x w
theorem mUnwrap (a : Addr) (w : World) : (Go.method 334 89 (.pointer (some a)) "Unwrap").run Tryz.prog w = .ok (181, .pointer (some a)) w := by kernel_rfl
set_option maxHeartbeats 4000000 in
theorem as_miss_F (n : Int) (t : Addr) (old : Value) (w : World) (hg : w.cell? ⟨0, 0, none⟩ = some (.iface 150 (.agg #[.pointer (some ⟨8, 29, none⟩)]))) (ht0 : w.cell? t = some old) :
    Calls Tryz.prog 63 #[.iface 26 (.int .i64 n), .iface 91 (.pointer (some t))] w fun ev w' => ev = .returned (.bool false) ∧ ∃ o1 o2 o3, w' = ((w.alloc o1).alloc o2).alloc o3 := by
  have h6 := @run_callFunc_extern Tryz.prog 102 _ (fun args => ReflectliteValue.unpack (args.getD 0 (.tuple #[]))) Tryz.func102 (by kernel_rfl) (by kernel_rfl) (by kernel_rfl) (by kernel_rfl)
  have h7 := @run_callFunc_extern Tryz.prog 103 _ (ReflectliteValue.methodAny (ReflectliteValue.valueError "reflectlite.Value.Type" 0) (fun t _ _ _ => ReflectliteType.toType t)) Tryz.func103 (by kernel_rfl) (by kernel_rfl) (by kernel_rfl) (by kernel_rfl)
  have h8 := @run_callFunc_extern Tryz.prog 104 _ (ReflectliteValue.method (ReflectliteValue.valueError "reflectlite.Value.IsNil" 0) ReflectliteValue.isNil) Tryz.func104 (by kernel_rfl) (by kernel_rfl) (by kernel_rfl) (by kernel_rfl)
  have h27 := @run_callFunc_extern Tryz.prog 175 _ (ReflectliteType.abiMethod fun t => do pure (.int .u8 (← Rtype.kind t))) Tryz.func175 (by kernel_rfl) (by kernel_rfl) (by kernel_rfl) (by kernel_rfl)
  have h37 := @run_callFunc_extern Tryz.prog 188 _ (ReflectliteType.method ReflectliteType.elem) Tryz.func188 (by kernel_rfl) (by kernel_rfl) (by kernel_rfl) (by kernel_rfl)
  have h38 := @run_callFunc_extern Tryz.prog 189 _ (ReflectliteType.relation "Implements" ReflectliteType.implements_) Tryz.func189 (by kernel_rfl) (by kernel_rfl) (by kernel_rfl) (by kernel_rfl)
  have h10 := @run_callFunc_extern Tryz.prog 130 _ ReflectliteType.typeOf Tryz.func130 (by kernel_rfl) (by kernel_rfl) (by kernel_rfl) (by kernel_rfl)
  have h35 := @run_callFunc_extern Tryz.prog 186 _ (ReflectliteType.relation "AssignableTo" ReflectliteType.assignableTo) Tryz.func186 (by kernel_rfl) (by kernel_rfl) (by kernel_rfl) (by kernel_rfl)
  have h11 := @run_callFunc_extern Tryz.prog 131 _ (ReflectliteValue.method (ReflectliteValue.valueError "reflectlite.Value.Elem" 0) ReflectliteValue.elem) Tryz.func131 (by kernel_rfl) (by kernel_rfl) (by kernel_rfl) (by kernel_rfl)
  have h12 := @run_callFunc_extern Tryz.prog 132 _ ReflectliteValue.set Tryz.func132 (by kernel_rfl) (by kernel_rfl) (by kernel_rfl) (by kernel_rfl)
  have mK := mKind
  have mE := mElem
  have mI := mImpl
  have mA := mAssi
  have f6 := valueOfP_F
  have f7 := type_F
  have kP := kindP_F
  have kS := kindS_F
  have eT := elemT_F
  have iS := impl_F
  have n8 := isNil_F ⟨w.heap.size, 0, none⟩ t ((w.alloc (.cells #[.pointer (some t)] 91)).alloc (.cells #[.pointer (some ⟨8, 91, none⟩), .pointer (some ⟨w.heap.size, 0, none⟩), .int .u64 150] 126)) (by simp)
  have hlt : 0 < w.heap.size := by
    rcases Nat.lt_or_ge 0 w.heap.size with h | h
    · exact h
    · simp [World.cell?, Array.getElem?_eq_none h] at hg
  have hg2 : ((w.alloc (.cells #[.pointer (some t)] 91)).alloc (.cells #[.pointer (some ⟨8, 91, none⟩), .pointer (some ⟨w.heap.size, 0, none⟩), .int .u64 150] 126)).cell? ⟨0, 0, none⟩ = some (.iface 150 (.agg #[.pointer (some ⟨8, 29, none⟩)])) := by
    rw [World.cell?_alloc_lt _ _ ⟨0, 0, none⟩ (by first | (simp; omega) | simp), World.cell?_alloc_lt _ _ ⟨0, 0, none⟩ hlt]; exact hg
  have htl : t.block < w.heap.size := by
    rcases Nat.lt_or_ge t.block w.heap.size with h | h
    · exact h
    · simp [World.cell?, Array.getElem?_eq_none h] at ht0
  have el := elemV_F ⟨w.heap.size, 0, none⟩ t (((w.alloc (.cells #[.pointer (some t)] 91)).alloc (.cells #[.pointer (some ⟨8, 91, none⟩), .pointer (some ⟨w.heap.size, 0, none⟩), .int .u64 150] 126)).alloc (.cells #[.pointer (some ⟨8, 91, none⟩), .pointer (some ⟨w.heap.size, 0, none⟩), .int .u64 150] 126)) (by rw [World.cell?_alloc_lt _ _ ⟨w.heap.size, 0, none⟩ (by simp; omega)]; simp)
  have tO := typeOf_E
  have aS := assi_no_EF
  have q1 := noAs_E
  have q2 := noUnwrap_E
  have q3 := noUnwraps_E
  go_enter Tryz.func63, Tryz.ntmps63
  go_wp2
  refine wp_loop_rounds 1 ?_
  rw [rounds_succ]
  go_wp2
  go_ret
  exact ⟨rfl, _, _, _, rfl⟩
set_option maxHeartbeats 4000000 in
theorem as_through_E (e : Int) (q t : Addr) (old : Value) (w : World) (hg : w.cell? ⟨0, 0, none⟩ = some (.iface 150 (.agg #[.pointer (some ⟨8, 29, none⟩)]))) (ht0 : w.cell? t = some old) (hf0 : w.frozen? t = false)
    (hq : w.cell? ⟨q.block, q.off + 2, none⟩ = some (.iface 26 (.int .i64 e))) (hqn : q = ⟨q.block, q.off, none⟩) :
    Calls Tryz.prog 63 #[.iface 89 (.pointer (some q)), .iface 94 (.pointer (some t))] w fun ev w' => ev = .returned (.bool true) ∧ ∃ o1 o2 o3 o4, w' = ((((w.alloc o1).alloc o2).alloc o3).alloc o4).setCell t (.int .i64 e) := by
  obtain ⟨qb, qo, qn⟩ := q
  simp only [Addr.mk.injEq, true_and] at hqn
  subst hqn
  simp only at hq
  have h6 := @run_callFunc_extern Tryz.prog 102 _ (fun args => ReflectliteValue.unpack (args.getD 0 (.tuple #[]))) Tryz.func102 (by kernel_rfl) (by kernel_rfl) (by kernel_rfl) (by kernel_rfl)
  have h7 := @run_callFunc_extern Tryz.prog 103 _ (ReflectliteValue.methodAny (ReflectliteValue.valueError "reflectlite.Value.Type" 0) (fun t _ _ _ => ReflectliteType.toType t)) Tryz.func103 (by kernel_rfl) (by kernel_rfl) (by kernel_rfl) (by kernel_rfl)
  have h8 := @run_callFunc_extern Tryz.prog 104 _ (ReflectliteValue.method (ReflectliteValue.valueError "reflectlite.Value.IsNil" 0) ReflectliteValue.isNil) Tryz.func104 (by kernel_rfl) (by kernel_rfl) (by kernel_rfl) (by kernel_rfl)
  have h27 := @run_callFunc_extern Tryz.prog 175 _ (ReflectliteType.abiMethod fun t => do pure (.int .u8 (← Rtype.kind t))) Tryz.func175 (by kernel_rfl) (by kernel_rfl) (by kernel_rfl) (by kernel_rfl)
  have h37 := @run_callFunc_extern Tryz.prog 188 _ (ReflectliteType.method ReflectliteType.elem) Tryz.func188 (by kernel_rfl) (by kernel_rfl) (by kernel_rfl) (by kernel_rfl)
  have h38 := @run_callFunc_extern Tryz.prog 189 _ (ReflectliteType.relation "Implements" ReflectliteType.implements_) Tryz.func189 (by kernel_rfl) (by kernel_rfl) (by kernel_rfl) (by kernel_rfl)
  have h10 := @run_callFunc_extern Tryz.prog 130 _ ReflectliteType.typeOf Tryz.func130 (by kernel_rfl) (by kernel_rfl) (by kernel_rfl) (by kernel_rfl)
  have h35 := @run_callFunc_extern Tryz.prog 186 _ (ReflectliteType.relation "AssignableTo" ReflectliteType.assignableTo) Tryz.func186 (by kernel_rfl) (by kernel_rfl) (by kernel_rfl) (by kernel_rfl)
  have h11 := @run_callFunc_extern Tryz.prog 131 _ (ReflectliteValue.method (ReflectliteValue.valueError "reflectlite.Value.Elem" 0) ReflectliteValue.elem) Tryz.func131 (by kernel_rfl) (by kernel_rfl) (by kernel_rfl) (by kernel_rfl)
  have h12 := @run_callFunc_extern Tryz.prog 132 _ ReflectliteValue.set Tryz.func132 (by kernel_rfl) (by kernel_rfl) (by kernel_rfl) (by kernel_rfl)
  have mK := mKind
  have mE := mElem
  have mI := mImpl
  have mA := mAssi
  have f6 := valueOfP_E
  have f7 := type_E
  have kP := kindP_E
  have kS := kindS_E
  have eT := elemT_E
  have iS := impl_E
  have n8 := isNil_E ⟨w.heap.size, 0, none⟩ t ((w.alloc (.cells #[.pointer (some t)] 94)).alloc (.cells #[.pointer (some ⟨8, 94, none⟩), .pointer (some ⟨w.heap.size, 0, none⟩), .int .u64 150] 126)) (by simp)
  have hlt : 0 < w.heap.size := by
    rcases Nat.lt_or_ge 0 w.heap.size with h | h
    · exact h
    · simp [World.cell?, Array.getElem?_eq_none h] at hg
  have hg2 : ((w.alloc (.cells #[.pointer (some t)] 94)).alloc (.cells #[.pointer (some ⟨8, 94, none⟩), .pointer (some ⟨w.heap.size, 0, none⟩), .int .u64 150] 126)).cell? ⟨0, 0, none⟩ = some (.iface 150 (.agg #[.pointer (some ⟨8, 29, none⟩)])) := by
    rw [World.cell?_alloc_lt _ _ ⟨0, 0, none⟩ (by first | (simp; omega) | simp), World.cell?_alloc_lt _ _ ⟨0, 0, none⟩ hlt]; exact hg
  have htl : t.block < w.heap.size := by
    rcases Nat.lt_or_ge t.block w.heap.size with h | h
    · exact h
    · simp [World.cell?, Array.getElem?_eq_none h] at ht0
  have el := elemV_E ⟨w.heap.size, 0, none⟩ t (((w.alloc (.cells #[.pointer (some t)] 94)).alloc (.cells #[.pointer (some ⟨8, 94, none⟩), .pointer (some ⟨w.heap.size, 0, none⟩), .int .u64 150] 126)).alloc (.cells #[.pointer (some ⟨8, 94, none⟩), .pointer (some ⟨w.heap.size, 0, none⟩), .int .u64 150] 126)) (by rw [World.cell?_alloc_lt _ _ ⟨w.heap.size, 0, none⟩ (by simp; omega)]; simp)
  have tO := typeOf_E
  have aS := assi_E
  have vS := valueOfS_E
  have st := set_E t ⟨w.heap.size + 1 + 1 + 1, 0, none⟩ e old ((((w.alloc (.cells #[.pointer (some t)] 94)).alloc (.cells #[.pointer (some ⟨8, 94, none⟩), .pointer (some ⟨w.heap.size, 0, none⟩), .int .u64 150] 126)).alloc (.cells #[.pointer (some ⟨8, 94, none⟩), .pointer (some ⟨w.heap.size, 0, none⟩), .int .u64 150] 126)).alloc (.cells #[.int .i64 e] 26))
    (by rw [World.cell?_alloc_at _ _ _ _ (by simp)]; rfl)
    (by rw [World.cell?_alloc_lt _ _ t (by simp; omega), World.cell?_alloc_lt _ _ t (by simp; omega), World.cell?_alloc_lt _ _ t (by simp; omega), World.cell?_alloc_lt _ _ t htl]; exact ht0)
    (by rw [World.frozen?_alloc_old _ _ t (by simp; omega), World.frozen?_alloc_old _ _ t (by simp; omega), World.frozen?_alloc_old _ _ t (by simp; omega), World.frozen?_alloc_old _ _ t (Nat.ne_of_lt htl)]; exact hf0)
  have tF := typeOf_F
  have aN := assi_no_FE
  have q1 := noAs_F
  have q2 := hasUnwrap_F
  have mU := mUnwrap
  have hql : qb < w.heap.size := by
    rcases Nat.lt_or_ge qb w.heap.size with h | h
    · exact h
    · simp [World.cell?, Array.getElem?_eq_none h] at hq
  have hq3 : (((w.alloc (.cells #[.pointer (some t)] 94)).alloc (.cells #[.pointer (some ⟨8, 94, none⟩), .pointer (some ⟨w.heap.size, 0, none⟩), .int .u64 150] 126)).alloc (.cells #[.pointer (some ⟨8, 94, none⟩), .pointer (some ⟨w.heap.size, 0, none⟩), .int .u64 150] 126)).cell? ⟨qb, qo + 2, none⟩ = some (.iface 26 (.int .i64 e)) := by
    rw [World.cell?_alloc_lt _ _ ⟨qb, qo + 2, none⟩ (by simp; omega), World.cell?_alloc_lt _ _ ⟨qb, qo + 2, none⟩ (by simp; omega), World.cell?_alloc_lt _ _ ⟨qb, qo + 2, none⟩ (by simpa using hql)]; exact hq
  go_enter Tryz.func63, Tryz.ntmps63
  go_wp2
  refine wp_loop_rounds 2 ?_
  rw [rounds_succ]
  go_wp2
  rw [rounds_succ]
  go_wp2
  go_ret
  exact ⟨rfl, _, _, _, _, rfl⟩

end Go.Proofs.YtlkokcnbbihljaaGreatDoor

/- api.Tell: for no error 0, -1, -1; for a fault its number, its text, its place; for a bare number that number, -1, -1; memory that was there stays as it was. -/
namespace Go.Proofs.YtlkokcnbbihljaaGreatDoor
open Go.RowKit Go.Extern.Stop Go.Stop Go.Extern

/-- errors.errorType holds the handle of the type 'error'. -/
def HasErr (w : World) : Prop := w.cell? ⟨0, 0, none⟩ = some (.iface 150 (.agg #[.pointer (some ⟨8, 29, none⟩)]))

theorem Hid.mk2 {p : Prop} (h : p) : Hid p := h

theorem lt_of_cell {w : World} {a : Addr} {v : Value} (h : w.cell? a = some v) : a.block < w.heap.size := by
  rcases Nat.lt_or_ge a.block w.heap.size with h' | h'
  · exact h'
  · simp [World.cell?, Array.getElem?_eq_none h'] at h

theorem HasErr.alloc {w : World} (h : HasErr w) (o : Obj) : HasErr (w.alloc o) := by
  unfold HasErr at *
  rw [World.cell?_alloc_lt _ _ _ (lt_of_cell h)]; exact h

set_option maxHeartbeats 400000 in
theorem tell_nil (w : World) :
    Calls Tryz.prog 27 #[.nilIface] w fun e w' => e = .returned (.tuple #[.int .i64 0, .int .i64 (-1), .int .i64 (-1)]) ∧ Below w.heap.size w w' := by
  go_enter Tryz.func27, Tryz.ntmps27
  go_wp2
  exact bodyPost_ret (v := .tuple #[.int .i64 0, .int .i64 (-1), .int .i64 (-1)]) (by simp [results, Tryz.results27, go_sem]) rfl ⟨rfl, (Below.refl _ _).alloc (Nat.le_refl _) _⟩

theorem cell_up {w : World} {a : Addr} {v : Value} (h : w.cell? a = some v) (o : Obj) : (w.alloc o).cell? a = some v := by
  rw [World.cell?_alloc_lt _ _ _ (lt_of_cell h)]; exact h
theorem frozen_up {w : World} {a : Addr} {v : Value} {x : Bool} (h : w.cell? a = some v) (hf : w.frozen? a = x) (o : Obj) : (w.alloc o).frozen? a = x := by
  rw [World.frozen?_alloc_old _ _ _ (Nat.ne_of_lt (lt_of_cell h))]; exact hf
theorem HasErr.set {w : World} (h : HasErr w) {a : Addr} (v : Value) (ha : 0 < a.block) : HasErr (w.setCell a v) := by
  unfold HasErr at *
  rw [World.cell?_setCell_other _ _ _ _ (by intro e; subst e; simp at ha)]; exact h
theorem HasErr.drewN {w : World} (h : HasErr w) (n : Nat) : HasErr (w.drewN n) := h
theorem HasErr.below {w w' : World} {B : Nat} (h : HasErr w) (hb : Below B w w') (hB : 0 < B) : HasErr w' := by
  unfold HasErr at *
  rw [hb.cell hB]; exact h
theorem HasErr.grown {w w' : World} {row : Option Nat} (h : HasErr w) (hg : w.grownBy w' row) (hB : ∀ k, row = some k → 0 < k) : HasErr w' := by
  unfold HasErr at *
  have hl := lt_of_cell h
  rw [World.cell?_of_block (w := w) (hg.block _ hl (fun e => absurd (hB _ e.symm) (Nat.lt_irrefl _)))]; exact h

set_option maxHeartbeats 1000000 in
theorem tell_errno (n : Int) (w : World) (hg : HasErr w) :
    Calls Tryz.prog 27 #[.iface 26 (.int .i64 n)] w fun e w' => e = .returned (.tuple #[.int .i64 n, .int .i64 (-1), .int .i64 (-1)]) ∧ Below w.heap.size w w' := by
  have hG := lt_of_cell hg
  simp only at hG
  have H1 := fun o1 o2 => ((hg.alloc o1).alloc o2)
  clear hg
  go_enter Tryz.func27, Tryz.ntmps27
  go_wp2_with fail
  refine (as_miss_F n _ (.pointer none) _ (H1 _ _) (by simp)).mono ?_
  rintro e w1 ⟨rfl, o1, o2, o3, hw1⟩
  have hc1 : w1.cell? ⟨w.heap.size, 0, none⟩ = some (.int .i64 0) := by rw [hw1]; exact cell_up (cell_up (cell_up (cell_up (by simp) _) _) _) _
  have hf1 : w1.frozen? ⟨w.heap.size, 0, none⟩ = false := by rw [hw1]; exact frozen_up (v := .int .i64 0) (cell_up (cell_up (cell_up (by simp) _) _) _) (frozen_up (v := .int .i64 0) (cell_up (cell_up (by simp) _) _) (frozen_up (v := .int .i64 0) (cell_up (by simp) _) (by simp) _) _) _
  have hh1 : HasErr w1 := by rw [hw1]; exact (((H1 _ _).alloc _).alloc _).alloc _
  have hb1 : Below w.heap.size w w1 := by rw [hw1]; exact (((((Below.refl _ _).alloc (Nat.le_refl _) _).alloc (by simp) _).alloc (by first | (simp; omega) | simp) _).alloc (by first | (simp; omega) | simp) _).alloc (by first | (simp; omega) | simp) _
  clear hw1 H1
  go_wp2_with fail
  refine (as_hit_E n _ (.int .i64 0) _ hh1 hc1 hf1).mono ?_
  rintro e w2 ⟨rfl, o4, o5, o6, o7, hw2⟩
  have hc2 : w2.cell? ⟨w.heap.size, 0, none⟩ = some (.int .i64 n) := by rw [hw2]; exact World.cell?_setCell_same _ _ _ (cell_up (cell_up (cell_up (cell_up hc1 _) _) _) _)
  have hf2 : w2.frozen? ⟨w.heap.size, 0, none⟩ = false := by
    rw [hw2, World.frozen?_setCell]
    exact frozen_up (cell_up (cell_up (cell_up hc1 _) _) _) (frozen_up (cell_up (cell_up hc1 _) _) (frozen_up (cell_up hc1 _) (frozen_up hc1 hf1 _) _) _) _
  have hb2 : Below w.heap.size w w2 := by
    rw [hw2]
    have := hb1.size
    exact ((((hb1.alloc this _).alloc (by first | (simp; omega) | simp) _).alloc (by first | (simp; omega) | simp) _).alloc (by first | (simp; omega) | simp) _).setCell (by simp) _
  clear hw2 hc1 hf1 hh1 hb1 hG
  have H2 := Hid.mk2 hb2
  clear hb2
  go_wp2
  exact bodyPost_ret (v := .tuple #[.int .i64 n, .int .i64 (-1), .int .i64 (-1)]) (by simp [results, Tryz.results27, go_sem, hc2]) rfl ⟨rfl, H2.out.setCell (by simp) _⟩

set_option maxHeartbeats 1000000 in
theorem tell_fault (q : Nat) (n tx at' : Int) (w : World) (hg : HasErr w)
    (q0 : w.cell? ⟨q, 0, none⟩ = some (.int .i64 tx)) (q1 : w.cell? ⟨q, 1, none⟩ = some (.int .i64 at')) (q2 : w.cell? ⟨q, 2, none⟩ = some (.iface 26 (.int .i64 n))) :
    Calls Tryz.prog 27 #[.iface 89 (.pointer (some ⟨q, 0, none⟩))] w fun e w' => e = .returned (.tuple #[.int .i64 n, .int .i64 tx, .int .i64 at']) ∧ Below w.heap.size w w' := by
  have hG := lt_of_cell hg
  simp only at hG
  have H1 := fun o1 o2 => ((hg.alloc o1).alloc o2)
  have hq := lt_of_cell q0
  simp only at hq
  go_enter Tryz.func27, Tryz.ntmps27
  go_wp2_with fail
  refine (as_hit_F ⟨q, 0, none⟩ _ (.pointer none) _ (H1 _ _) (by simp) (by simp)).mono ?_
  rintro e w1 ⟨rfl, o1, o2, o3, o4, hw1⟩
  have hc1 : w1.cell? ⟨w.heap.size, 0, none⟩ = some (.int .i64 0) := by rw [hw1, World.cell?_setCell_other _ _ _ _ (by simp)]; exact cell_up (cell_up (cell_up (cell_up (cell_up (by simp) _) _) _) _) _
  have hf1 : w1.frozen? ⟨w.heap.size, 0, none⟩ = false := by rw [hw1, World.frozen?_setCell]; exact frozen_up (v := .int .i64 0) (cell_up (cell_up (cell_up (cell_up (by simp) _) _) _) _) (frozen_up (v := .int .i64 0) (cell_up (cell_up (cell_up (by simp) _) _) _) (frozen_up (v := .int .i64 0) (cell_up (cell_up (by simp) _) _) (frozen_up (v := .int .i64 0) (cell_up (by simp) _) (by simp) _) _) _) _
  have hp1 : w1.cell? ⟨w.heap.size + 1, 0, none⟩ = some (.pointer (some ⟨q, 0, none⟩)) := by rw [hw1]; exact World.cell?_setCell_same _ _ _ (cell_up (v := .pointer none) (cell_up (cell_up (cell_up (by simp) _) _) _) _)
  have hh1 : HasErr w1 := by rw [hw1]; exact (((((H1 _ _).alloc _).alloc _).alloc _).alloc _).set _ (by first | (simp; omega) | simp)
  have hb1 : Below w.heap.size w w1 := by rw [hw1]; exact (((((((Below.refl _ _).alloc (Nat.le_refl _) _).alloc (by simp) _).alloc (by first | (simp; omega) | simp) _).alloc (by first | (simp; omega) | simp) _).alloc (by first | (simp; omega) | simp) _).alloc (by first | (simp; omega) | simp) _).setCell (by simp) _
  have r0 : w1.cell? ⟨q, 0, none⟩ = some (.int .i64 tx) := by rw [hb1.cell hq]; exact q0
  have r1 : w1.cell? ⟨q, 1, none⟩ = some (.int .i64 at') := by rw [hb1.cell hq]; exact q1
  have r2 : w1.cell? ⟨q, 2, none⟩ = some (.iface 26 (.int .i64 n)) := by rw [hb1.cell hq]; exact q2
  clear hw1 H1 q0 q1 q2 hg
  have H2 := Hid.mk2 hb1
  clear hb1
  go_wp2_with fail
  go_quiet (fail)
  go_wp2_with fail
  refine (as_through_E n ⟨q, 0, none⟩ _ (.int .i64 0) _ (hh1.drewN nq) (by simpa using hc1) (by simpa using hf1) (by simpa using r2) rfl).mono ?_
  rintro e w2 ⟨rfl, o5, o6, o7, o8, hw2⟩
  have hc2 : w2.cell? ⟨w.heap.size, 0, none⟩ = some (.int .i64 n) := by rw [hw2]; exact World.cell?_setCell_same _ _ _ (cell_up (cell_up (cell_up (cell_up (w := w1.drewN nq) (by simpa using hc1) _) _) _) _)
  have hf2 : w2.frozen? ⟨w.heap.size, 0, none⟩ = false := by
    rw [hw2, World.frozen?_setCell]
    have hc1 : (w1.drewN nq).cell? ⟨w.heap.size, 0, none⟩ = some (.int .i64 0) := by simpa using hc1
    exact frozen_up (cell_up (cell_up (cell_up hc1 _) _) _) (frozen_up (cell_up (cell_up hc1 _) _) (frozen_up (cell_up hc1 _) (frozen_up hc1 (by simpa using hf1) _) _) _) _
  have hb2 : Below w.heap.size w w2 := by
    rw [hw2]
    have hb1 := H2.out
    have hz := hb1.size
    exact (((((below_drewN hb1 nq).alloc (by simpa using hz) _).alloc (by first | (simp; omega) | simp) _).alloc (by first | (simp; omega) | simp) _).alloc (by first | (simp; omega) | simp) _).setCell (by simp) _
  clear hw2 hc1 hf1 hh1 hG r0 r1 r2 hp1 H2
  have H2 := Hid.mk2 hb2
  clear hb2
  go_wp2
  exact bodyPost_ret (v := .tuple #[.int .i64 n, .int .i64 tx, .int .i64 at']) (by simp [results, Tryz.results27, go_sem, hc2]) rfl ⟨rfl, H2.out.setCell (by simp) _⟩
end Go.Proofs.YtlkokcnbbihljaaGreatDoor
