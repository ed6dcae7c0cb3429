/- errors.As at the program's two targets,a pointer to a *api.Fault and one to an api.Errno: what it answers,and what becomes of memory,for a nil error,a fault that holds an error number,and a bare error number. -/
import Derived.Test.YtfjgelmllcnokaaGreatDoorRows
import Derived.WalkKit
import Derived.WalkSpells
import Derived.WalkLawsBesides
import Derived.LaidEql
import Derived.Stop.Asserts
import Derived.RowKitTokens
import Derived.BigQuiet
import Derived.Deep.QuietTactic
namespace Go.Proofs.YtfjgelmllcnokaaGreatDoor
open Go.RowKit Go.Extern.Stop Go.Stop Go.Extern
set_option maxHeartbeats 4000000
theorem zfv (h : Value) (w : World) : (Go.method 334 137 (.agg #[h]) "Kind").run Tryz.prog w = .ok (217,h) w := by kernel_rfl
theorem zfp (h : Value) (w : World) : (Go.method 334 137 (.agg #[h]) "Elem").run Tryz.prog w = .ok (230,.agg #[h]) w := by kernel_rfl
theorem zfo (h : Value) (w : World) : (Go.method 334 137 (.agg #[h]) "Implements").run Tryz.prog w = .ok (231,.agg #[h]) w := by kernel_rfl
theorem zf2 (h : Value) (w : World) : (Go.method 334 137 (.agg #[h]) "AssignableTo").run Tryz.prog w = .ok (228,.agg #[h]) w := by kernel_rfl
theorem ig (t : Addr) (w : World) : (ReflectliteValue.unpack (.iface 72 (.pointer (some t)))).run Tryz.prog w
  = .ok (.agg #[.pointer (some ⟨8,72,none⟩),.pointer (some ⟨w.heap.size,0,none⟩),.int .u64 150]) (w.alloc (.cells #[.pointer (some t)] 72)) := by kernel_rfl
theorem zg9 (a : Addr) (w : World) : (ReflectliteValue.methodAny (ReflectliteValue.valueError "reflectlite.Value.Type" 0) (fun t _ _ _ => ReflectliteType.toType t) #[.agg #[.pointer (some ⟨8,72,none⟩),.pointer (some a),.int .u64 150]]).run Tryz.prog w
  = .ok (.iface 137 (.agg #[.pointer (some ⟨8,72,none⟩)])) w := by kernel_rfl
theorem zfh (w : World) : ((ReflectliteType.abiMethod fun t => (fun a : Nat => Value.int IntKind.u8 (a : Int)) <$> Rtype.kind t) #[.pointer (some ⟨8,72,none⟩)]).run Tryz.prog w = .ok (.int .u8 22) w := by kernel_rfl
theorem zen (w : World) : ((ReflectliteType.abiMethod fun t => (fun a : Nat => Value.int IntKind.u8 (a : Int)) <$> Rtype.kind t) #[.pointer (some ⟨8,47,none⟩)]).run Tryz.prog w = .ok (.int .u8 22) w := by kernel_rfl
theorem lU (a : Addr) (w : World) : (ReflectliteValue.parts (.agg #[.pointer (some ⟨8,72,none⟩),.pointer (some a),.int .u64 150])).run Tryz.prog w = .ok (some (72,a,150)) w := by kernel_rfl
theorem zee (a p : Addr) (W : World) (ha : W.cell? a = some (.pointer (some p))) :
  (ReflectliteValue.method (ReflectliteValue.valueError "reflectlite.Value.IsNil" 0) ReflectliteValue.isNil #[.agg #[.pointer (some ⟨8,72,none⟩),.pointer (some a),.int .u64 150]]).run Tryz.prog W = .ok (.bool false) W := by
 refine (congrArg (fun s => Sem.run Tryz.prog s W) (show ReflectliteValue.method _ _ #[_] = (ReflectliteValue.parts (.agg #[.pointer (some ⟨8,72,none⟩),.pointer (some a),.int .u64 150]) >>= _) from rfl)).trans ?_; simp only [Sem.run_bind,lU,Result.andThen]
 simp [ReflectliteValue.isNil,loadVar,isAgg,underlying,Tryz.underlying72,ha,Result.andThen]
theorem zea (w : World) : (ReflectliteType.method ReflectliteType.elem #[.agg #[.pointer (some ⟨8,72,none⟩)]]).run Tryz.prog w = .ok (.iface 137 (.agg #[.pointer (some ⟨8,47,none⟩)])) w := by kernel_rfl
theorem zgs (w : World) : (ReflectliteType.relation "Implements" ReflectliteType.implements_ #[.agg #[.pointer (some ⟨8,47,none⟩)],.iface 137 (.agg #[.pointer (some ⟨8,30,none⟩)])]).run Tryz.prog w = .ok (.bool true) w := by kernel_rfl
theorem za2 (w : World) : (Rtype.elem? 72).run Tryz.prog w = .ok (some 47) w := by kernel_rfl
theorem zjq (p : Addr) (w : World) : (ReflectliteValue.mk 47 p ReflectliteValue.flagAddr).run Tryz.prog w = .ok (.agg #[.pointer (some ⟨8,47,none⟩),.pointer (some p),.int .u64 406]) w := by kernel_rfl
theorem zet (a p : Addr) (W : World) (ha : W.cell? a = some (.pointer (some p))) :
  (ReflectliteValue.method (ReflectliteValue.valueError "reflectlite.Value.Elem" 0) ReflectliteValue.elem #[.agg #[.pointer (some ⟨8,72,none⟩),.pointer (some a),.int .u64 150]]).run Tryz.prog W
   = .ok (.agg #[.pointer (some ⟨8,47,none⟩),.pointer (some p),.int .u64 406]) W := by
 refine (congrArg (fun s => Sem.run Tryz.prog s W) (show ReflectliteValue.method _ _ #[_] = (ReflectliteValue.parts (.agg #[.pointer (some ⟨8,72,none⟩),.pointer (some a),.int .u64 150]) >>= _) from rfl)).trans ?_; simp only [Sem.run_bind,lU,Result.andThen]
 simp [ReflectliteValue.elem,loadVar,isAgg,underlying,Tryz.underlying72,ha,Result.andThen,za2,zjq]
theorem cL (t : Addr) (w : World) : (ReflectliteValue.unpack (.iface 75 (.pointer (some t)))).run Tryz.prog w
  = .ok (.agg #[.pointer (some ⟨8,75,none⟩),.pointer (some ⟨w.heap.size,0,none⟩),.int .u64 150]) (w.alloc (.cells #[.pointer (some t)] 75)) := by kernel_rfl
theorem zf5 (a : Addr) (w : World) : (ReflectliteValue.methodAny (ReflectliteValue.valueError "reflectlite.Value.Type" 0) (fun t _ _ _ => ReflectliteType.toType t) #[.agg #[.pointer (some ⟨8,75,none⟩),.pointer (some a),.int .u64 150]]).run Tryz.prog w
  = .ok (.iface 137 (.agg #[.pointer (some ⟨8,75,none⟩)])) w := by kernel_rfl
theorem zex (w : World) : ((ReflectliteType.abiMethod fun t => (fun a : Nat => Value.int IntKind.u8 (a : Int)) <$> Rtype.kind t) #[.pointer (some ⟨8,75,none⟩)]).run Tryz.prog w = .ok (.int .u8 22) w := by kernel_rfl
theorem zfg (w : World) : ((ReflectliteType.abiMethod fun t => (fun a : Nat => Value.int IntKind.u8 (a : Int)) <$> Rtype.kind t) #[.pointer (some ⟨8,35,none⟩)]).run Tryz.prog w = .ok (.int .u8 2) w := by kernel_rfl
theorem mB (a : Addr) (w : World) : (ReflectliteValue.parts (.agg #[.pointer (some ⟨8,75,none⟩),.pointer (some a),.int .u64 150])).run Tryz.prog w = .ok (some (75,a,150)) w := by kernel_rfl
theorem ze1 (a p : Addr) (W : World) (ha : W.cell? a = some (.pointer (some p))) :
  (ReflectliteValue.method (ReflectliteValue.valueError "reflectlite.Value.IsNil" 0) ReflectliteValue.isNil #[.agg #[.pointer (some ⟨8,75,none⟩),.pointer (some a),.int .u64 150]]).run Tryz.prog W = .ok (.bool false) W := by
 refine (congrArg (fun s => Sem.run Tryz.prog s W) (show ReflectliteValue.method _ _ #[_] = (ReflectliteValue.parts (.agg #[.pointer (some ⟨8,75,none⟩),.pointer (some a),.int .u64 150]) >>= _) from rfl)).trans ?_; simp only [Sem.run_bind,mB,Result.andThen]
 simp [ReflectliteValue.isNil,loadVar,isAgg,underlying,Tryz.underlying75,ha,Result.andThen]
theorem zdv (w : World) : (ReflectliteType.method ReflectliteType.elem #[.agg #[.pointer (some ⟨8,75,none⟩)]]).run Tryz.prog w = .ok (.iface 137 (.agg #[.pointer (some ⟨8,35,none⟩)])) w := by kernel_rfl
theorem zhw (w : World) : (ReflectliteType.relation "Implements" ReflectliteType.implements_ #[.agg #[.pointer (some ⟨8,35,none⟩)],.iface 137 (.agg #[.pointer (some ⟨8,30,none⟩)])]).run Tryz.prog w = .ok (.bool true) w := by kernel_rfl
theorem mA (v : Value) (w : World) : (ReflectliteType.typeOf #[.iface 35 v]).run Tryz.prog w = .ok (.iface 137 (.agg #[.pointer (some ⟨8,35,none⟩)])) w := by kernel_rfl
theorem zhx (w : World) : (ReflectliteType.relation "AssignableTo" ReflectliteType.assignableTo #[.agg #[.pointer (some ⟨8,35,none⟩)],.iface 137 (.agg #[.pointer (some ⟨8,35,none⟩)])]).run Tryz.prog w = .ok (.bool true) w := by kernel_rfl
theorem iX (e : Int) (w : World) : (ReflectliteValue.unpack (.iface 35 (.int .i64 e))).run Tryz.prog w
  = .ok (.agg #[.pointer (some ⟨8,35,none⟩),.pointer (some ⟨w.heap.size,0,none⟩),.int .u64 130]) (w.alloc (.cells #[.int .i64 e] 35)) := by kernel_rfl
theorem zcb (w : World) : (Rtype.elem? 75).run Tryz.prog w = .ok (some 35) w := by kernel_rfl
theorem zkq (p : Addr) (w : World) : (ReflectliteValue.mk 35 p ReflectliteValue.flagAddr).run Tryz.prog w = .ok (.agg #[.pointer (some ⟨8,35,none⟩),.pointer (some p),.int .u64 386]) w := by kernel_rfl
theorem zd4 (a p : Addr) (W : World) (ha : W.cell? a = some (.pointer (some p))) :
  (ReflectliteValue.method (ReflectliteValue.valueError "reflectlite.Value.Elem" 0) ReflectliteValue.elem #[.agg #[.pointer (some ⟨8,75,none⟩),.pointer (some a),.int .u64 150]]).run Tryz.prog W
   = .ok (.agg #[.pointer (some ⟨8,35,none⟩),.pointer (some p),.int .u64 386]) W := by
 refine (congrArg (fun s => Sem.run Tryz.prog s W) (show ReflectliteValue.method _ _ #[_] = (ReflectliteValue.parts (.agg #[.pointer (some ⟨8,75,none⟩),.pointer (some a),.int .u64 150]) >>= _) from rfl)).trans ?_; simp only [Sem.run_bind,mB,Result.andThen]
 simp [ReflectliteValue.elem,loadVar,isAgg,underlying,Tryz.underlying75,ha,Result.andThen,zcb,zkq]
theorem zbz (a : Addr) (w : World) : (ReflectliteValue.parts (.agg #[.pointer (some ⟨8,35,none⟩),.pointer (some a),.int .u64 386])).run Tryz.prog w = .ok (some (35,a,386)) w := by kernel_rfl
theorem zbl (a : Addr) (w : World) : (ReflectliteValue.parts (.agg #[.pointer (some ⟨8,35,none⟩),.pointer (some a),.int .u64 130])).run Tryz.prog w = .ok (some (35,a,130)) w := by kernel_rfl
theorem zbb (w : World) : (Rtype.directlyAssignable 35 35).run Tryz.prog w = .ok true w := by kernel_rfl
theorem zi6 (ta b : Addr) (e : Int) (old : Value) (W : World) (hb : W.cell? b = some (.int .i64 e)) (ht : W.cell? ta = some old) (hf : W.frozen? ta = false) :
  (ReflectliteValue.set #[.agg #[.pointer (some ⟨8,35,none⟩),.pointer (some ta),.int .u64 386],.agg #[.pointer (some ⟨8,35,none⟩),.pointer (some b),.int .u64 130]]).run Tryz.prog W
   = .ok (.tuple #[]) (W.setCell ta (.int .i64 e)) := by
 refine (congrArg (fun s => Sem.run Tryz.prog s W) (show ReflectliteValue.set #[_,_] = (ReflectliteValue.parts (.agg #[.pointer (some ⟨8,35,none⟩),.pointer (some ta),.int .u64 386]) >>= fun y => ReflectliteValue.parts (.agg #[.pointer (some ⟨8,35,none⟩),.pointer (some b),.int .u64 130]) >>= _) from rfl)).trans ?_; simp only [Sem.run_bind,zbz,zbl,Result.andThen]
 simp [ReflectliteValue.flagAddr,loadVar,isAgg,underlying,Tryz.underlying35,hb,Result.andThen,zbb,storeVar,Value.cells,storeCells,Addr.add]
 rw [run_store Tryz.prog W ta _ _ (by rfl)]
 simp [ht,hf]
theorem zcg (e : Int) (t : Addr) (old : Value) (w : World) (hg : w.cell? ⟨0,0,none⟩ = some (.iface 137 (.agg #[.pointer (some ⟨8,30,none⟩)]))) (ht0 : w.cell? t = some old) (hf0 : w.frozen? t = false) :
  Calls Tryz.prog 22 #[.iface 35 (.int .i64 e),.iface 75 (.pointer (some t))] w fun ev w' => ev = .returned (.bool true) /\ ∃ o1 o2 o3 o4,w' = ((((w.alloc o1).alloc o2).alloc o3).alloc o4).setCell t (.int .i64 e) := by
 have r := @run_callFunc_extern Tryz.prog 47 _ (fun args => ReflectliteValue.unpack (args.getD 0 (.tuple #[]))) Tryz.func47 (by kernel_rfl) (by kernel_rfl) (by kernel_rfl) (by kernel_rfl); have s := @run_callFunc_extern Tryz.prog 48 _ (ReflectliteValue.methodAny (ReflectliteValue.valueError "reflectlite.Value.Type" 0) (fun t _ _ _ => ReflectliteType.toType t)) Tryz.func48 (by kernel_rfl) (by kernel_rfl) (by kernel_rfl) (by kernel_rfl); have u := @run_callFunc_extern Tryz.prog 49 _ (ReflectliteValue.method (ReflectliteValue.valueError "reflectlite.Value.IsNil" 0) ReflectliteValue.isNil) Tryz.func49 (by kernel_rfl) (by kernel_rfl) (by kernel_rfl) (by kernel_rfl); have f := @run_callFunc_extern Tryz.prog 217 _ (ReflectliteType.abiMethod fun t => do pure (.int .u8 (<- Rtype.kind t))) Tryz.func217 (by kernel_rfl) (by kernel_rfl) (by kernel_rfl) (by kernel_rfl); have g := @run_callFunc_extern Tryz.prog 230 _ (ReflectliteType.method ReflectliteType.elem) Tryz.func230 (by kernel_rfl) (by kernel_rfl) (by kernel_rfl) (by kernel_rfl); have i := @run_callFunc_extern Tryz.prog 231 _ (ReflectliteType.relation "Implements" ReflectliteType.implements_) Tryz.func231 (by kernel_rfl) (by kernel_rfl) (by kernel_rfl) (by kernel_rfl); have j := @run_callFunc_extern Tryz.prog 96 _ ReflectliteType.typeOf Tryz.func96 (by kernel_rfl) (by kernel_rfl) (by kernel_rfl) (by kernel_rfl); have l := @run_callFunc_extern Tryz.prog 228 _ (ReflectliteType.relation "AssignableTo" ReflectliteType.assignableTo) Tryz.func228 (by kernel_rfl) (by kernel_rfl) (by kernel_rfl) (by kernel_rfl); have m := @run_callFunc_extern Tryz.prog 97 _ (ReflectliteValue.method (ReflectliteValue.valueError "reflectlite.Value.Elem" 0) ReflectliteValue.elem) Tryz.func97 (by kernel_rfl) (by kernel_rfl) (by kernel_rfl) (by kernel_rfl); have n := @run_callFunc_extern Tryz.prog 98 _ ReflectliteValue.set Tryz.func98 (by kernel_rfl) (by kernel_rfl) (by kernel_rfl) (by kernel_rfl); have v := zfv; have x := zfp; have y := zfo; have z := zf2; have A := cL; have B := zf5; have C := zex; have D := zfg; have E := zdv; have F := zhw; have H := ze1 ⟨w.heap.size,0,none⟩ t ((w.alloc (.cells #[.pointer (some t)] 75)).alloc (.cells #[.pointer (some ⟨8,75,none⟩),.pointer (some ⟨w.heap.size,0,none⟩),.int .u64 150] 100)) (by simp)
 have d : 0 < w.heap.size := by
  rcases Nat.lt_or_ge 0 w.heap.size with h | h
  ·exact h
  ·simp [World.cell?,Array.getElem?_eq_none h] at hg
 have o : ((w.alloc (.cells #[.pointer (some t)] 75)).alloc (.cells #[.pointer (some ⟨8,75,none⟩),.pointer (some ⟨w.heap.size,0,none⟩),.int .u64 150] 100)).cell? ⟨0,0,none⟩ = some (.iface 137 (.agg #[.pointer (some ⟨8,30,none⟩)])) := by
  rw [World.cell?_alloc_lt _ _ ⟨0,0,none⟩ (by first | (simp; omega) | simp),World.cell?_alloc_lt _ _ ⟨0,0,none⟩ d]; exact hg
 have b : t.block < w.heap.size := by
  rcases Nat.lt_or_ge t.block w.heap.size with h | h
  ·exact h
  ·simp [World.cell?,Array.getElem?_eq_none h] at ht0
 have I := zd4 ⟨w.heap.size,0,none⟩ t (((w.alloc (.cells #[.pointer (some t)] 75)).alloc (.cells #[.pointer (some ⟨8,75,none⟩),.pointer (some ⟨w.heap.size,0,none⟩),.int .u64 150] 100)).alloc (.cells #[.pointer (some ⟨8,75,none⟩),.pointer (some ⟨w.heap.size,0,none⟩),.int .u64 150] 100)) (by rw [World.cell?_alloc_lt _ _ ⟨w.heap.size,0,none⟩ (by simp; omega)]; simp); have J := mA; have K := zhx; have L := iX; have M := zi6 t ⟨w.heap.size + 1 + 1 + 1,0,none⟩ e old ((((w.alloc (.cells #[.pointer (some t)] 75)).alloc (.cells #[.pointer (some ⟨8,75,none⟩),.pointer (some ⟨w.heap.size,0,none⟩),.int .u64 150] 100)).alloc (.cells #[.pointer (some ⟨8,75,none⟩),.pointer (some ⟨w.heap.size,0,none⟩),.int .u64 150] 100)).alloc (.cells #[.int .i64 e] 35))
  (by rw [World.cell?_alloc_at _ _ _ _ (by simp)]; rfl)
  (by rw [World.cell?_alloc_lt _ _ t (by simp; omega),World.cell?_alloc_lt _ _ t (by simp; omega),World.cell?_alloc_lt _ _ t (by simp; omega),World.cell?_alloc_lt _ _ t b]; exact ht0)
  (by rw [World.frozen?_alloc_old _ _ t (by simp; omega),World.frozen?_alloc_old _ _ t (by simp; omega),World.frozen?_alloc_old _ _ t (by simp; omega),World.frozen?_alloc_old _ _ t (Nat.ne_of_lt b)]; exact hf0)
 go_enter Tryz.func22,Tryz.ntmps22
 go_wp2; refine wp_loop_rounds 1 ?_; rw [rounds_succ]; go_wp2
 go_ret
 exact ⟨rfl,_,_,_,_,rfl⟩
end Go.Proofs.YtfjgelmllcnokaaGreatDoor
