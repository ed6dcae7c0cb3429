/- errors.As where the error is of another type than the target: a bare error number is no fault; a fault is asked for the number that it holds. -/
import Derived.Test.YtfjgelmllcnokaaGreatDoorG50
namespace Go.Proofs.YtfjgelmllcnokaaGreatDoor
open Go.RowKit Go.Extern.Stop Go.Stop Go.Extern
set_option maxHeartbeats 4000000
theorem cm (w : World) : (ReflectliteType.relation "AssignableTo" ReflectliteType.assignableTo #[.agg #[.pointer (some ⟨8,35,none⟩)],.iface 137 (.agg #[.pointer (some ⟨8,47,none⟩)])]).run Tryz.prog w = .ok (.bool false) w := by kernel_rfl
theorem zgc (v : Value) (x : TypeId) (w : World) : (Instr.typeAssert (.iface 35 v) x 142 true).run Tryz.prog w = .ok (.tuple #[.nilIface,.bool false]) w := run_typeAssert_lacksB Tryz.underlying142 (by kernel_rfl) (by kernel_rfl) v x w
theorem ce (v : Value) (x : TypeId) (w : World) : (Instr.typeAssert (.iface 35 v) x 145 true).run Tryz.prog w = .ok (.tuple #[.nilIface,.bool false]) w := run_typeAssert_lacksB Tryz.underlying145 (by kernel_rfl) (by kernel_rfl) v x w
theorem nU (v : Value) (x : TypeId) (w : World) : (Instr.typeAssert (.iface 35 v) x 147 true).run Tryz.prog w = .ok (.tuple #[.nilIface,.bool false]) w := run_typeAssert_lacksB Tryz.underlying147 (by kernel_rfl) (by kernel_rfl) v x w
theorem bV (n : Int) (t : Addr) (old : Value) (w : World) (hg : w.cell? ⟨0,0,none⟩ = some (.iface 137 (.agg #[.pointer (some ⟨8,30,none⟩)]))) (ht0 : w.cell? t = some old) :
  Calls Tryz.prog 22 #[.iface 35 (.int .i64 n),.iface 72 (.pointer (some t))] w fun ev w' => ev = .returned (.bool false) /\ ∃ o1 o2 o3,w' = ((w.alloc o1).alloc o2).alloc o3 := by
 have r := @run_callFunc_extern Tryz.prog 47 _ (fun args => ReflectliteValue.unpack (args.getD 0 (.tuple #[]))) Tryz.func47 (by kernel_rfl) (by kernel_rfl) (by kernel_rfl) (by kernel_rfl); have s := @run_callFunc_extern Tryz.prog 48 _ (ReflectliteValue.methodAny (ReflectliteValue.valueError "reflectlite.Value.Type" 0) (fun t _ _ _ => ReflectliteType.toType t)) Tryz.func48 (by kernel_rfl) (by kernel_rfl) (by kernel_rfl) (by kernel_rfl); have u := @run_callFunc_extern Tryz.prog 49 _ (ReflectliteValue.method (ReflectliteValue.valueError "reflectlite.Value.IsNil" 0) ReflectliteValue.isNil) Tryz.func49 (by kernel_rfl) (by kernel_rfl) (by kernel_rfl) (by kernel_rfl); have d := @run_callFunc_extern Tryz.prog 217 _ (ReflectliteType.abiMethod fun t => do pure (.int .u8 (<- Rtype.kind t))) Tryz.func217 (by kernel_rfl) (by kernel_rfl) (by kernel_rfl) (by kernel_rfl); have e := @run_callFunc_extern Tryz.prog 230 _ (ReflectliteType.method ReflectliteType.elem) Tryz.func230 (by kernel_rfl) (by kernel_rfl) (by kernel_rfl) (by kernel_rfl); have f := @run_callFunc_extern Tryz.prog 231 _ (ReflectliteType.relation "Implements" ReflectliteType.implements_) Tryz.func231 (by kernel_rfl) (by kernel_rfl) (by kernel_rfl) (by kernel_rfl); have g := @run_callFunc_extern Tryz.prog 96 _ ReflectliteType.typeOf Tryz.func96 (by kernel_rfl) (by kernel_rfl) (by kernel_rfl) (by kernel_rfl); have i := @run_callFunc_extern Tryz.prog 228 _ (ReflectliteType.relation "AssignableTo" ReflectliteType.assignableTo) Tryz.func228 (by kernel_rfl) (by kernel_rfl) (by kernel_rfl) (by kernel_rfl); have j := @run_callFunc_extern Tryz.prog 97 _ (ReflectliteValue.method (ReflectliteValue.valueError "reflectlite.Value.Elem" 0) ReflectliteValue.elem) Tryz.func97 (by kernel_rfl) (by kernel_rfl) (by kernel_rfl) (by kernel_rfl); have l := @run_callFunc_extern Tryz.prog 98 _ ReflectliteValue.set Tryz.func98 (by kernel_rfl) (by kernel_rfl) (by kernel_rfl) (by kernel_rfl); have v := zfv; have x := zfp; have y := zfo; have z := zf2; have A := ig; have B := zg9; have C := zfh; have D := zen; have E := zea; have F := zgs; have H := zee ⟨w.heap.size,0,none⟩ t ((w.alloc (.cells #[.pointer (some t)] 72)).alloc (.cells #[.pointer (some ⟨8,72,none⟩),.pointer (some ⟨w.heap.size,0,none⟩),.int .u64 150] 100)) (by simp)
 have b : 0 < w.heap.size := by
  rcases Nat.lt_or_ge 0 w.heap.size with h | h
  ·exact h
  ·simp [World.cell?,Array.getElem?_eq_none h] at hg
 have m : ((w.alloc (.cells #[.pointer (some t)] 72)).alloc (.cells #[.pointer (some ⟨8,72,none⟩),.pointer (some ⟨w.heap.size,0,none⟩),.int .u64 150] 100)).cell? ⟨0,0,none⟩ = some (.iface 137 (.agg #[.pointer (some ⟨8,30,none⟩)])) := by
  rw [World.cell?_alloc_lt _ _ ⟨0,0,none⟩ (by first | (simp; omega) | simp),World.cell?_alloc_lt _ _ ⟨0,0,none⟩ b]; exact hg
 have o : t.block < w.heap.size := by
  rcases Nat.lt_or_ge t.block w.heap.size with h | h
  ·exact h
  ·simp [World.cell?,Array.getElem?_eq_none h] at ht0
 have I := zet ⟨w.heap.size,0,none⟩ t (((w.alloc (.cells #[.pointer (some t)] 72)).alloc (.cells #[.pointer (some ⟨8,72,none⟩),.pointer (some ⟨w.heap.size,0,none⟩),.int .u64 150] 100)).alloc (.cells #[.pointer (some ⟨8,72,none⟩),.pointer (some ⟨w.heap.size,0,none⟩),.int .u64 150] 100)) (by rw [World.cell?_alloc_lt _ _ ⟨w.heap.size,0,none⟩ (by simp; omega)]; simp); have J := mA; have K := cm; have L := zgc; have M := ce; have N := nU
 go_enter Tryz.func22,Tryz.ntmps22
 go_wp2; refine wp_loop_rounds 1 ?_; rw [rounds_succ]; go_wp2
 go_ret
 exact ⟨rfl,_,_,_,rfl⟩
end Go.Proofs.YtfjgelmllcnokaaGreatDoor
