/- errors.As at the program's two targets,a pointer to a *api.Fault and one to an api.Errno: what it answers,and what becomes of memory,for a nil error,a fault that holds an error number,and a bare error number. -/
import Derived.Test.YtifapidjkelnfaaGreatDoorRows
import Derived.WalkKit
import Derived.WalkSpells
import Derived.WalkLawsBesides
import Derived.LaidEql
import Derived.Stop.Asserts
import Derived.RowKitTokens
import Derived.BigQuiet
import Derived.Deep.QuietTactic
namespace Go.Proofs.YtifapidjkelnfaaGreatDoor
open Go.RowKit Go.Extern.Stop Go.Stop Go.Extern
set_option maxHeartbeats 4000000
theorem oO (h : Value) (w : World) : (Go.method 353 169 (.agg #[h]) "Kind").run Tryz.prog w = .ok (207,h) w := by kernel_rfl
theorem oS (h : Value) (w : World) : (Go.method 353 169 (.agg #[h]) "Elem").run Tryz.prog w = .ok (220,.agg #[h]) w := by kernel_rfl
theorem nT (h : Value) (w : World) : (Go.method 353 169 (.agg #[h]) "Implements").run Tryz.prog w = .ok (221,.agg #[h]) w := by kernel_rfl
theorem nB (h : Value) (w : World) : (Go.method 353 169 (.agg #[h]) "AssignableTo").run Tryz.prog w = .ok (218,.agg #[h]) w := by kernel_rfl
theorem qA (t : Addr) (w : World) : (ReflectliteValue.unpack (.iface 110 (.pointer (some t)))).run Tryz.prog w
  = .ok (.agg #[.pointer (some ⟨8,110,none⟩),.pointer (some ⟨w.heap.size,0,none⟩),.int .u64 150]) (w.alloc (.cells #[.pointer (some t)] 110)) := by kernel_rfl
theorem oq (a : Addr) (w : World) : (ReflectliteValue.methodAny (ReflectliteValue.valueError "reflectlite.Value.Type" 0) (fun t _ _ _ => ReflectliteType.toType t) #[.agg #[.pointer (some ⟨8,110,none⟩),.pointer (some a),.int .u64 150]]).run Tryz.prog w
  = .ok (.iface 169 (.agg #[.pointer (some ⟨8,110,none⟩)])) w := by kernel_rfl
theorem rH (w : World) : ((ReflectliteType.abiMethod fun t => (fun a : Nat => Value.int IntKind.u8 (a : Int)) <$> Rtype.kind t) #[.pointer (some ⟨8,110,none⟩)]).run Tryz.prog w = .ok (.int .u8 22) w := by kernel_rfl
theorem rj (w : World) : ((ReflectliteType.abiMethod fun t => (fun a : Nat => Value.int IntKind.u8 (a : Int)) <$> Rtype.kind t) #[.pointer (some ⟨8,108,none⟩)]).run Tryz.prog w = .ok (.int .u8 22) w := by kernel_rfl
theorem dk (a : Addr) (w : World) : (ReflectliteValue.parts (.agg #[.pointer (some ⟨8,110,none⟩),.pointer (some a),.int .u64 150])).run Tryz.prog w = .ok (some (110,a,150)) w := by kernel_rfl
theorem rg (a p : Addr) (W : World) (ha : W.cell? a = some (.pointer (some p))) :
  (ReflectliteValue.method (ReflectliteValue.valueError "reflectlite.Value.IsNil" 0) ReflectliteValue.isNil #[.agg #[.pointer (some ⟨8,110,none⟩),.pointer (some a),.int .u64 150]]).run Tryz.prog W = .ok (.bool false) W := by
 refine (congrArg (fun s => Sem.run Tryz.prog s W) (show ReflectliteValue.method _ _ #[_] = (ReflectliteValue.parts (.agg #[.pointer (some ⟨8,110,none⟩),.pointer (some a),.int .u64 150]) >>= _) from rfl)).trans ?_; simp only [Sem.run_bind,dk,Result.andThen]
 simp [ReflectliteValue.isNil,loadVar,isAgg,underlying,Tryz.underlying110,ha,Result.andThen]
theorem ri (w : World) : (ReflectliteType.method ReflectliteType.elem #[.agg #[.pointer (some ⟨8,110,none⟩)]]).run Tryz.prog w = .ok (.iface 169 (.agg #[.pointer (some ⟨8,108,none⟩)])) w := by kernel_rfl
theorem nk (w : World) : (ReflectliteType.relation "Implements" ReflectliteType.implements_ #[.agg #[.pointer (some ⟨8,108,none⟩)],.iface 169 (.agg #[.pointer (some ⟨8,44,none⟩)])]).run Tryz.prog w = .ok (.bool true) w := by kernel_rfl
theorem nd (v : Value) (w : World) : (ReflectliteType.typeOf #[.iface 108 v]).run Tryz.prog w = .ok (.iface 169 (.agg #[.pointer (some ⟨8,108,none⟩)])) w := by kernel_rfl
theorem iH (w : World) : (ReflectliteType.relation "AssignableTo" ReflectliteType.assignableTo #[.agg #[.pointer (some ⟨8,108,none⟩)],.iface 169 (.agg #[.pointer (some ⟨8,108,none⟩)])]).run Tryz.prog w = .ok (.bool true) w := by kernel_rfl
theorem tM (e : Addr) (w : World) : (ReflectliteValue.unpack (.iface 108 (.pointer (some e)))).run Tryz.prog w
  = .ok (.agg #[.pointer (some ⟨8,108,none⟩),.pointer (some ⟨w.heap.size,0,none⟩),.int .u64 150]) (w.alloc (.cells #[.pointer (some e)] 108)) := by kernel_rfl
theorem oB (w : World) : (Rtype.elem? 110).run Tryz.prog w = .ok (some 108) w := by kernel_rfl
theorem zaj (p : Addr) (w : World) : (ReflectliteValue.mk 108 p ReflectliteValue.flagAddr).run Tryz.prog w = .ok (.agg #[.pointer (some ⟨8,108,none⟩),.pointer (some p),.int .u64 406]) w := by kernel_rfl
theorem rG (a p : Addr) (W : World) (ha : W.cell? a = some (.pointer (some p))) :
  (ReflectliteValue.method (ReflectliteValue.valueError "reflectlite.Value.Elem" 0) ReflectliteValue.elem #[.agg #[.pointer (some ⟨8,110,none⟩),.pointer (some a),.int .u64 150]]).run Tryz.prog W
   = .ok (.agg #[.pointer (some ⟨8,108,none⟩),.pointer (some p),.int .u64 406]) W := by
 refine (congrArg (fun s => Sem.run Tryz.prog s W) (show ReflectliteValue.method _ _ #[_] = (ReflectliteValue.parts (.agg #[.pointer (some ⟨8,110,none⟩),.pointer (some a),.int .u64 150]) >>= _) from rfl)).trans ?_; simp only [Sem.run_bind,dk,Result.andThen]
 simp [ReflectliteValue.elem,loadVar,isAgg,underlying,Tryz.underlying110,ha,Result.andThen,oB,zaj]
theorem nr (a : Addr) (w : World) : (ReflectliteValue.parts (.agg #[.pointer (some ⟨8,108,none⟩),.pointer (some a),.int .u64 406])).run Tryz.prog w = .ok (some (108,a,406)) w := by kernel_rfl
theorem oQ (a : Addr) (w : World) : (ReflectliteValue.parts (.agg #[.pointer (some ⟨8,108,none⟩),.pointer (some a),.int .u64 150])).run Tryz.prog w = .ok (some (108,a,150)) w := by kernel_rfl
theorem oN (w : World) : (Rtype.directlyAssignable 108 108).run Tryz.prog w = .ok true w := by kernel_rfl
theorem bG (ta b : Addr) (e : Addr) (old : Value) (W : World) (hb : W.cell? b = some (.pointer (some e))) (ht : W.cell? ta = some old) (hf : W.frozen? ta = false) :
  (ReflectliteValue.set #[.agg #[.pointer (some ⟨8,108,none⟩),.pointer (some ta),.int .u64 406],.agg #[.pointer (some ⟨8,108,none⟩),.pointer (some b),.int .u64 150]]).run Tryz.prog W
   = .ok (.tuple #[]) (W.setCell ta (.pointer (some e))) := by
 refine (congrArg (fun s => Sem.run Tryz.prog s W) (show ReflectliteValue.set #[_,_] = (ReflectliteValue.parts (.agg #[.pointer (some ⟨8,108,none⟩),.pointer (some ta),.int .u64 406]) >>= fun y => ReflectliteValue.parts (.agg #[.pointer (some ⟨8,108,none⟩),.pointer (some b),.int .u64 150]) >>= _) from rfl)).trans ?_; simp only [Sem.run_bind,nr,oQ,Result.andThen]
 simp [ReflectliteValue.flagAddr,loadVar,isAgg,underlying,Tryz.underlying108,hb,Result.andThen,oN,storeVar,Value.cells,storeCells,Addr.add]
 rw [run_store Tryz.prog W ta _ _ (by rfl)]
 simp [ht,hf]
theorem tq9 (t : Addr) (w : World) : (ReflectliteValue.unpack (.iface 113 (.pointer (some t)))).run Tryz.prog w
  = .ok (.agg #[.pointer (some ⟨8,113,none⟩),.pointer (some ⟨w.heap.size,0,none⟩),.int .u64 150]) (w.alloc (.cells #[.pointer (some t)] 113)) := by kernel_rfl
theorem ck (a : Addr) (w : World) : (ReflectliteValue.methodAny (ReflectliteValue.valueError "reflectlite.Value.Type" 0) (fun t _ _ _ => ReflectliteType.toType t) #[.agg #[.pointer (some ⟨8,113,none⟩),.pointer (some a),.int .u64 150]]).run Tryz.prog w
  = .ok (.iface 169 (.agg #[.pointer (some ⟨8,113,none⟩)])) w := by kernel_rfl
theorem mM (w : World) : ((ReflectliteType.abiMethod fun t => (fun a : Nat => Value.int IntKind.u8 (a : Int)) <$> Rtype.kind t) #[.pointer (some ⟨8,113,none⟩)]).run Tryz.prog w = .ok (.int .u8 22) w := by kernel_rfl
theorem mE (w : World) : ((ReflectliteType.abiMethod fun t => (fun a : Nat => Value.int IntKind.u8 (a : Int)) <$> Rtype.kind t) #[.pointer (some ⟨8,25,none⟩)]).run Tryz.prog w = .ok (.int .u8 2) w := by kernel_rfl
theorem da (a : Addr) (w : World) : (ReflectliteValue.parts (.agg #[.pointer (some ⟨8,113,none⟩),.pointer (some a),.int .u64 150])).run Tryz.prog w = .ok (some (113,a,150)) w := by kernel_rfl
theorem lG (a p : Addr) (W : World) (ha : W.cell? a = some (.pointer (some p))) :
  (ReflectliteValue.method (ReflectliteValue.valueError "reflectlite.Value.IsNil" 0) ReflectliteValue.isNil #[.agg #[.pointer (some ⟨8,113,none⟩),.pointer (some a),.int .u64 150]]).run Tryz.prog W = .ok (.bool false) W := by
 refine (congrArg (fun s => Sem.run Tryz.prog s W) (show ReflectliteValue.method _ _ #[_] = (ReflectliteValue.parts (.agg #[.pointer (some ⟨8,113,none⟩),.pointer (some a),.int .u64 150]) >>= _) from rfl)).trans ?_; simp only [Sem.run_bind,da,Result.andThen]
 simp [ReflectliteValue.isNil,loadVar,isAgg,underlying,Tryz.underlying113,ha,Result.andThen]
theorem mw (w : World) : (ReflectliteType.method ReflectliteType.elem #[.agg #[.pointer (some ⟨8,113,none⟩)]]).run Tryz.prog w = .ok (.iface 169 (.agg #[.pointer (some ⟨8,25,none⟩)])) w := by kernel_rfl
theorem cP (w : World) : (ReflectliteType.relation "Implements" ReflectliteType.implements_ #[.agg #[.pointer (some ⟨8,25,none⟩)],.iface 169 (.agg #[.pointer (some ⟨8,44,none⟩)])]).run Tryz.prog w = .ok (.bool true) w := by kernel_rfl
theorem dg (v : Value) (w : World) : (ReflectliteType.typeOf #[.iface 25 v]).run Tryz.prog w = .ok (.iface 169 (.agg #[.pointer (some ⟨8,25,none⟩)])) w := by kernel_rfl
theorem cH (w : World) : (ReflectliteType.relation "AssignableTo" ReflectliteType.assignableTo #[.agg #[.pointer (some ⟨8,25,none⟩)],.iface 169 (.agg #[.pointer (some ⟨8,25,none⟩)])]).run Tryz.prog w = .ok (.bool true) w := by kernel_rfl
theorem sg (e : Int) (w : World) : (ReflectliteValue.unpack (.iface 25 (.int .i64 e))).run Tryz.prog w
  = .ok (.agg #[.pointer (some ⟨8,25,none⟩),.pointer (some ⟨w.heap.size,0,none⟩),.int .u64 130]) (w.alloc (.cells #[.int .i64 e] 25)) := by kernel_rfl
theorem mj (w : World) : (Rtype.elem? 113).run Tryz.prog w = .ok (some 25) w := by kernel_rfl
theorem aw (p : Addr) (w : World) : (ReflectliteValue.mk 25 p ReflectliteValue.flagAddr).run Tryz.prog w = .ok (.agg #[.pointer (some ⟨8,25,none⟩),.pointer (some p),.int .u64 386]) w := by kernel_rfl
theorem mI (a p : Addr) (W : World) (ha : W.cell? a = some (.pointer (some p))) :
  (ReflectliteValue.method (ReflectliteValue.valueError "reflectlite.Value.Elem" 0) ReflectliteValue.elem #[.agg #[.pointer (some ⟨8,113,none⟩),.pointer (some a),.int .u64 150]]).run Tryz.prog W
   = .ok (.agg #[.pointer (some ⟨8,25,none⟩),.pointer (some p),.int .u64 386]) W := by
 refine (congrArg (fun s => Sem.run Tryz.prog s W) (show ReflectliteValue.method _ _ #[_] = (ReflectliteValue.parts (.agg #[.pointer (some ⟨8,113,none⟩),.pointer (some a),.int .u64 150]) >>= _) from rfl)).trans ?_; simp only [Sem.run_bind,da,Result.andThen]
 simp [ReflectliteValue.elem,loadVar,isAgg,underlying,Tryz.underlying113,ha,Result.andThen,mj,aw]
theorem nU (a : Addr) (w : World) : (ReflectliteValue.parts (.agg #[.pointer (some ⟨8,25,none⟩),.pointer (some a),.int .u64 386])).run Tryz.prog w = .ok (some (25,a,386)) w := by kernel_rfl
theorem ms (a : Addr) (w : World) : (ReflectliteValue.parts (.agg #[.pointer (some ⟨8,25,none⟩),.pointer (some a),.int .u64 130])).run Tryz.prog w = .ok (some (25,a,130)) w := by kernel_rfl
theorem oy (w : World) : (Rtype.directlyAssignable 25 25).run Tryz.prog w = .ok true w := by kernel_rfl
theorem ag (ta b : Addr) (e : Int) (old : Value) (W : World) (hb : W.cell? b = some (.int .i64 e)) (ht : W.cell? ta = some old) (hf : W.frozen? ta = false) :
  (ReflectliteValue.set #[.agg #[.pointer (some ⟨8,25,none⟩),.pointer (some ta),.int .u64 386],.agg #[.pointer (some ⟨8,25,none⟩),.pointer (some b),.int .u64 130]]).run Tryz.prog W
   = .ok (.tuple #[]) (W.setCell ta (.int .i64 e)) := by
 refine (congrArg (fun s => Sem.run Tryz.prog s W) (show ReflectliteValue.set #[_,_] = (ReflectliteValue.parts (.agg #[.pointer (some ⟨8,25,none⟩),.pointer (some ta),.int .u64 386]) >>= fun y => ReflectliteValue.parts (.agg #[.pointer (some ⟨8,25,none⟩),.pointer (some b),.int .u64 130]) >>= _) from rfl)).trans ?_; simp only [Sem.run_bind,nU,ms,Result.andThen]
 simp [ReflectliteValue.flagAddr,loadVar,isAgg,underlying,Tryz.underlying25,hb,Result.andThen,oy,storeVar,Value.cells,storeCells,Addr.add]
 rw [run_store Tryz.prog W ta _ _ (by rfl)]
 simp [ht,hf]
theorem bF (e : Addr) (t : Addr) (old : Value) (w : World) (hg : w.cell? ⟨0,0,none⟩ = some (.iface 169 (.agg #[.pointer (some ⟨8,44,none⟩)]))) (ht0 : w.cell? t = some old) (hf0 : w.frozen? t = false) :
  Calls Tryz.prog 89 #[.iface 108 (.pointer (some e)),.iface 110 (.pointer (some t))] w fun ev w' => ev = .returned (.bool true) /\ ∃ o1 o2 o3 o4,w' = ((((w.alloc o1).alloc o2).alloc o3).alloc o4).setCell t (.pointer (some e)) := by
 have n := @run_callFunc_extern Tryz.prog 130 _ (fun args => ReflectliteValue.unpack (args.getD 0 (.tuple #[]))) Tryz.func130 (by kernel_rfl) (by kernel_rfl) (by kernel_rfl) (by kernel_rfl); have r := @run_callFunc_extern Tryz.prog 131 _ (ReflectliteValue.methodAny (ReflectliteValue.valueError "reflectlite.Value.Type" 0) (fun t _ _ _ => ReflectliteType.toType t)) Tryz.func131 (by kernel_rfl) (by kernel_rfl) (by kernel_rfl) (by kernel_rfl); have s := @run_callFunc_extern Tryz.prog 132 _ (ReflectliteValue.method (ReflectliteValue.valueError "reflectlite.Value.IsNil" 0) ReflectliteValue.isNil) Tryz.func132 (by kernel_rfl) (by kernel_rfl) (by kernel_rfl) (by kernel_rfl); have d := @run_callFunc_extern Tryz.prog 207 _ (ReflectliteType.abiMethod fun t => do pure (.int .u8 (<- Rtype.kind t))) Tryz.func207 (by kernel_rfl) (by kernel_rfl) (by kernel_rfl) (by kernel_rfl); have f := @run_callFunc_extern Tryz.prog 220 _ (ReflectliteType.method ReflectliteType.elem) Tryz.func220 (by kernel_rfl) (by kernel_rfl) (by kernel_rfl) (by kernel_rfl); have g := @run_callFunc_extern Tryz.prog 221 _ (ReflectliteType.relation "Implements" ReflectliteType.implements_) Tryz.func221 (by kernel_rfl) (by kernel_rfl) (by kernel_rfl) (by kernel_rfl); have i := @run_callFunc_extern Tryz.prog 160 _ ReflectliteType.typeOf Tryz.func160 (by kernel_rfl) (by kernel_rfl) (by kernel_rfl) (by kernel_rfl); have j := @run_callFunc_extern Tryz.prog 218 _ (ReflectliteType.relation "AssignableTo" ReflectliteType.assignableTo) Tryz.func218 (by kernel_rfl) (by kernel_rfl) (by kernel_rfl) (by kernel_rfl); have k := @run_callFunc_extern Tryz.prog 161 _ (ReflectliteValue.method (ReflectliteValue.valueError "reflectlite.Value.Elem" 0) ReflectliteValue.elem) Tryz.func161 (by kernel_rfl) (by kernel_rfl) (by kernel_rfl) (by kernel_rfl); have l := @run_callFunc_extern Tryz.prog 162 _ ReflectliteValue.set Tryz.func162 (by kernel_rfl) (by kernel_rfl) (by kernel_rfl) (by kernel_rfl); have u := oO; have v := oS; have x := nT; have y := nB; have z := qA; have A := oq; have B := rH; have C := rj; have D := ri; have E := nk; have F := rg ⟨w.heap.size,0,none⟩ t ((w.alloc (.cells #[.pointer (some t)] 110)).alloc (.cells #[.pointer (some ⟨8,110,none⟩),.pointer (some ⟨w.heap.size,0,none⟩),.int .u64 150] 146)) (by simp)
 have b : 0 < w.heap.size := by
  rcases Nat.lt_or_ge 0 w.heap.size with h | h
  ·exact h
  ·simp [World.cell?,Array.getElem?_eq_none h] at hg
 have m : ((w.alloc (.cells #[.pointer (some t)] 110)).alloc (.cells #[.pointer (some ⟨8,110,none⟩),.pointer (some ⟨w.heap.size,0,none⟩),.int .u64 150] 146)).cell? ⟨0,0,none⟩ = some (.iface 169 (.agg #[.pointer (some ⟨8,44,none⟩)])) := by
  rw [World.cell?_alloc_lt _ _ ⟨0,0,none⟩ (by first | (simp; omega) | simp),World.cell?_alloc_lt _ _ ⟨0,0,none⟩ b]; exact hg
 have a : t.block < w.heap.size := by
  rcases Nat.lt_or_ge t.block w.heap.size with h | h
  ·exact h
  ·simp [World.cell?,Array.getElem?_eq_none h] at ht0
 have G := rG ⟨w.heap.size,0,none⟩ t (((w.alloc (.cells #[.pointer (some t)] 110)).alloc (.cells #[.pointer (some ⟨8,110,none⟩),.pointer (some ⟨w.heap.size,0,none⟩),.int .u64 150] 146)).alloc (.cells #[.pointer (some ⟨8,110,none⟩),.pointer (some ⟨w.heap.size,0,none⟩),.int .u64 150] 146)) (by rw [World.cell?_alloc_lt _ _ ⟨w.heap.size,0,none⟩ (by simp; omega)]; simp); have H := nd; have I := iH; have J := tM; have K := bG t ⟨w.heap.size + 1 + 1 + 1,0,none⟩ e old ((((w.alloc (.cells #[.pointer (some t)] 110)).alloc (.cells #[.pointer (some ⟨8,110,none⟩),.pointer (some ⟨w.heap.size,0,none⟩),.int .u64 150] 146)).alloc (.cells #[.pointer (some ⟨8,110,none⟩),.pointer (some ⟨w.heap.size,0,none⟩),.int .u64 150] 146)).alloc (.cells #[.pointer (some e)] 108))
  (by rw [World.cell?_alloc_at _ _ _ _ (by simp)]; rfl)
  (by rw [World.cell?_alloc_lt _ _ t (by simp; omega),World.cell?_alloc_lt _ _ t (by simp; omega),World.cell?_alloc_lt _ _ t (by simp; omega),World.cell?_alloc_lt _ _ t a]; exact ht0)
  (by rw [World.frozen?_alloc_old _ _ t (by simp; omega),World.frozen?_alloc_old _ _ t (by simp; omega),World.frozen?_alloc_old _ _ t (by simp; omega),World.frozen?_alloc_old _ _ t (Nat.ne_of_lt a)]; exact hf0)
 go_enter Tryz.func89,Tryz.ntmps89
 go_wp2; refine wp_loop_rounds 1 ?_; rw [rounds_succ]; go_wp2
 go_ret
 exact ⟨rfl,_,_,_,_,rfl⟩
theorem oM (e : Int) (t : Addr) (old : Value) (w : World) (hg : w.cell? ⟨0,0,none⟩ = some (.iface 169 (.agg #[.pointer (some ⟨8,44,none⟩)]))) (ht0 : w.cell? t = some old) (hf0 : w.frozen? t = false) :
  Calls Tryz.prog 89 #[.iface 25 (.int .i64 e),.iface 113 (.pointer (some t))] w fun ev w' => ev = .returned (.bool true) /\ ∃ o1 o2 o3 o4,w' = ((((w.alloc o1).alloc o2).alloc o3).alloc o4).setCell t (.int .i64 e) := by
 have n := @run_callFunc_extern Tryz.prog 130 _ (fun args => ReflectliteValue.unpack (args.getD 0 (.tuple #[]))) Tryz.func130 (by kernel_rfl) (by kernel_rfl) (by kernel_rfl) (by kernel_rfl); have r := @run_callFunc_extern Tryz.prog 131 _ (ReflectliteValue.methodAny (ReflectliteValue.valueError "reflectlite.Value.Type" 0) (fun t _ _ _ => ReflectliteType.toType t)) Tryz.func131 (by kernel_rfl) (by kernel_rfl) (by kernel_rfl) (by kernel_rfl); have s := @run_callFunc_extern Tryz.prog 132 _ (ReflectliteValue.method (ReflectliteValue.valueError "reflectlite.Value.IsNil" 0) ReflectliteValue.isNil) Tryz.func132 (by kernel_rfl) (by kernel_rfl) (by kernel_rfl) (by kernel_rfl); have d := @run_callFunc_extern Tryz.prog 207 _ (ReflectliteType.abiMethod fun t => do pure (.int .u8 (<- Rtype.kind t))) Tryz.func207 (by kernel_rfl) (by kernel_rfl) (by kernel_rfl) (by kernel_rfl); have f := @run_callFunc_extern Tryz.prog 220 _ (ReflectliteType.method ReflectliteType.elem) Tryz.func220 (by kernel_rfl) (by kernel_rfl) (by kernel_rfl) (by kernel_rfl); have g := @run_callFunc_extern Tryz.prog 221 _ (ReflectliteType.relation "Implements" ReflectliteType.implements_) Tryz.func221 (by kernel_rfl) (by kernel_rfl) (by kernel_rfl) (by kernel_rfl); have i := @run_callFunc_extern Tryz.prog 160 _ ReflectliteType.typeOf Tryz.func160 (by kernel_rfl) (by kernel_rfl) (by kernel_rfl) (by kernel_rfl); have j := @run_callFunc_extern Tryz.prog 218 _ (ReflectliteType.relation "AssignableTo" ReflectliteType.assignableTo) Tryz.func218 (by kernel_rfl) (by kernel_rfl) (by kernel_rfl) (by kernel_rfl); have k := @run_callFunc_extern Tryz.prog 161 _ (ReflectliteValue.method (ReflectliteValue.valueError "reflectlite.Value.Elem" 0) ReflectliteValue.elem) Tryz.func161 (by kernel_rfl) (by kernel_rfl) (by kernel_rfl) (by kernel_rfl); have l := @run_callFunc_extern Tryz.prog 162 _ ReflectliteValue.set Tryz.func162 (by kernel_rfl) (by kernel_rfl) (by kernel_rfl) (by kernel_rfl); have u := oO; have v := oS; have x := nT; have y := nB; have z := tq9; have A := ck; have B := mM; have C := mE; have D := mw; have E := cP; have F := lG ⟨w.heap.size,0,none⟩ t ((w.alloc (.cells #[.pointer (some t)] 113)).alloc (.cells #[.pointer (some ⟨8,113,none⟩),.pointer (some ⟨w.heap.size,0,none⟩),.int .u64 150] 146)) (by simp)
 have b : 0 < w.heap.size := by
  rcases Nat.lt_or_ge 0 w.heap.size with h | h
  ·exact h
  ·simp [World.cell?,Array.getElem?_eq_none h] at hg
 have m : ((w.alloc (.cells #[.pointer (some t)] 113)).alloc (.cells #[.pointer (some ⟨8,113,none⟩),.pointer (some ⟨w.heap.size,0,none⟩),.int .u64 150] 146)).cell? ⟨0,0,none⟩ = some (.iface 169 (.agg #[.pointer (some ⟨8,44,none⟩)])) := by
  rw [World.cell?_alloc_lt _ _ ⟨0,0,none⟩ (by first | (simp; omega) | simp),World.cell?_alloc_lt _ _ ⟨0,0,none⟩ b]; exact hg
 have a : t.block < w.heap.size := by
  rcases Nat.lt_or_ge t.block w.heap.size with h | h
  ·exact h
  ·simp [World.cell?,Array.getElem?_eq_none h] at ht0
 have G := mI ⟨w.heap.size,0,none⟩ t (((w.alloc (.cells #[.pointer (some t)] 113)).alloc (.cells #[.pointer (some ⟨8,113,none⟩),.pointer (some ⟨w.heap.size,0,none⟩),.int .u64 150] 146)).alloc (.cells #[.pointer (some ⟨8,113,none⟩),.pointer (some ⟨w.heap.size,0,none⟩),.int .u64 150] 146)) (by rw [World.cell?_alloc_lt _ _ ⟨w.heap.size,0,none⟩ (by simp; omega)]; simp); have H := dg; have I := cH; have J := sg; have K := ag t ⟨w.heap.size + 1 + 1 + 1,0,none⟩ e old ((((w.alloc (.cells #[.pointer (some t)] 113)).alloc (.cells #[.pointer (some ⟨8,113,none⟩),.pointer (some ⟨w.heap.size,0,none⟩),.int .u64 150] 146)).alloc (.cells #[.pointer (some ⟨8,113,none⟩),.pointer (some ⟨w.heap.size,0,none⟩),.int .u64 150] 146)).alloc (.cells #[.int .i64 e] 25))
  (by rw [World.cell?_alloc_at _ _ _ _ (by simp)]; rfl)
  (by rw [World.cell?_alloc_lt _ _ t (by simp; omega),World.cell?_alloc_lt _ _ t (by simp; omega),World.cell?_alloc_lt _ _ t (by simp; omega),World.cell?_alloc_lt _ _ t a]; exact ht0)
  (by rw [World.frozen?_alloc_old _ _ t (by simp; omega),World.frozen?_alloc_old _ _ t (by simp; omega),World.frozen?_alloc_old _ _ t (by simp; omega),World.frozen?_alloc_old _ _ t (Nat.ne_of_lt a)]; exact hf0)
 go_enter Tryz.func89,Tryz.ntmps89
 go_wp2; refine wp_loop_rounds 1 ?_; rw [rounds_succ]; go_wp2
 go_ret
 exact ⟨rfl,_,_,_,_,rfl⟩
theorem sN (w : World) : (ReflectliteType.relation "AssignableTo" ReflectliteType.assignableTo #[.agg #[.pointer (some ⟨8,25,none⟩)],.iface 169 (.agg #[.pointer (some ⟨8,108,none⟩)])]).run Tryz.prog w = .ok (.bool false) w := by kernel_rfl
theorem iw (v : Value) (x : TypeId) (w : World) : (Instr.typeAssert (.iface 25 v) x 174 true).run Tryz.prog w = .ok (.tuple #[.nilIface,.bool false]) w := run_typeAssert_lacksB Tryz.underlying174 (by kernel_rfl) (by kernel_rfl) v x w
theorem t7 (v : Value) (x : TypeId) (w : World) : (Instr.typeAssert (.iface 25 v) x 177 true).run Tryz.prog w = .ok (.tuple #[.nilIface,.bool false]) w := run_typeAssert_lacksB Tryz.underlying177 (by kernel_rfl) (by kernel_rfl) v x w
theorem fK (v : Value) (x : TypeId) (w : World) : (Instr.typeAssert (.iface 25 v) x 179 true).run Tryz.prog w = .ok (.tuple #[.nilIface,.bool false]) w := run_typeAssert_lacksB Tryz.underlying179 (by kernel_rfl) (by kernel_rfl) v x w
theorem pL (n : Int) (t : Addr) (old : Value) (w : World) (hg : w.cell? ⟨0,0,none⟩ = some (.iface 169 (.agg #[.pointer (some ⟨8,44,none⟩)]))) (ht0 : w.cell? t = some old) :
  Calls Tryz.prog 89 #[.iface 25 (.int .i64 n),.iface 110 (.pointer (some t))] w fun ev w' => ev = .returned (.bool false) /\ ∃ o1 o2 o3,w' = ((w.alloc o1).alloc o2).alloc o3 := by
 have r := @run_callFunc_extern Tryz.prog 130 _ (fun args => ReflectliteValue.unpack (args.getD 0 (.tuple #[]))) Tryz.func130 (by kernel_rfl) (by kernel_rfl) (by kernel_rfl) (by kernel_rfl); have s := @run_callFunc_extern Tryz.prog 131 _ (ReflectliteValue.methodAny (ReflectliteValue.valueError "reflectlite.Value.Type" 0) (fun t _ _ _ => ReflectliteType.toType t)) Tryz.func131 (by kernel_rfl) (by kernel_rfl) (by kernel_rfl) (by kernel_rfl); have u := @run_callFunc_extern Tryz.prog 132 _ (ReflectliteValue.method (ReflectliteValue.valueError "reflectlite.Value.IsNil" 0) ReflectliteValue.isNil) Tryz.func132 (by kernel_rfl) (by kernel_rfl) (by kernel_rfl) (by kernel_rfl); have b := @run_callFunc_extern Tryz.prog 207 _ (ReflectliteType.abiMethod fun t => do pure (.int .u8 (<- Rtype.kind t))) Tryz.func207 (by kernel_rfl) (by kernel_rfl) (by kernel_rfl) (by kernel_rfl); have d := @run_callFunc_extern Tryz.prog 220 _ (ReflectliteType.method ReflectliteType.elem) Tryz.func220 (by kernel_rfl) (by kernel_rfl) (by kernel_rfl) (by kernel_rfl); have f := @run_callFunc_extern Tryz.prog 221 _ (ReflectliteType.relation "Implements" ReflectliteType.implements_) Tryz.func221 (by kernel_rfl) (by kernel_rfl) (by kernel_rfl) (by kernel_rfl); have g := @run_callFunc_extern Tryz.prog 160 _ ReflectliteType.typeOf Tryz.func160 (by kernel_rfl) (by kernel_rfl) (by kernel_rfl) (by kernel_rfl); have i := @run_callFunc_extern Tryz.prog 218 _ (ReflectliteType.relation "AssignableTo" ReflectliteType.assignableTo) Tryz.func218 (by kernel_rfl) (by kernel_rfl) (by kernel_rfl) (by kernel_rfl); have j := @run_callFunc_extern Tryz.prog 161 _ (ReflectliteValue.method (ReflectliteValue.valueError "reflectlite.Value.Elem" 0) ReflectliteValue.elem) Tryz.func161 (by kernel_rfl) (by kernel_rfl) (by kernel_rfl) (by kernel_rfl); have k := @run_callFunc_extern Tryz.prog 162 _ ReflectliteValue.set Tryz.func162 (by kernel_rfl) (by kernel_rfl) (by kernel_rfl) (by kernel_rfl); have v := oO; have x := oS; have y := nT; have z := nB; have A := qA; have B := oq; have C := rH; have D := rj; have E := ri; have F := nk; have G := rg ⟨w.heap.size,0,none⟩ t ((w.alloc (.cells #[.pointer (some t)] 110)).alloc (.cells #[.pointer (some ⟨8,110,none⟩),.pointer (some ⟨w.heap.size,0,none⟩),.int .u64 150] 146)) (by simp)
 have a : 0 < w.heap.size := by
  rcases Nat.lt_or_ge 0 w.heap.size with h | h
  ·exact h
  ·simp [World.cell?,Array.getElem?_eq_none h] at hg
 have l : ((w.alloc (.cells #[.pointer (some t)] 110)).alloc (.cells #[.pointer (some ⟨8,110,none⟩),.pointer (some ⟨w.heap.size,0,none⟩),.int .u64 150] 146)).cell? ⟨0,0,none⟩ = some (.iface 169 (.agg #[.pointer (some ⟨8,44,none⟩)])) := by
  rw [World.cell?_alloc_lt _ _ ⟨0,0,none⟩ (by first | (simp; omega) | simp),World.cell?_alloc_lt _ _ ⟨0,0,none⟩ a]; exact hg
 have m : t.block < w.heap.size := by
  rcases Nat.lt_or_ge t.block w.heap.size with h | h
  ·exact h
  ·simp [World.cell?,Array.getElem?_eq_none h] at ht0
 have H := rG ⟨w.heap.size,0,none⟩ t (((w.alloc (.cells #[.pointer (some t)] 110)).alloc (.cells #[.pointer (some ⟨8,110,none⟩),.pointer (some ⟨w.heap.size,0,none⟩),.int .u64 150] 146)).alloc (.cells #[.pointer (some ⟨8,110,none⟩),.pointer (some ⟨w.heap.size,0,none⟩),.int .u64 150] 146)) (by rw [World.cell?_alloc_lt _ _ ⟨w.heap.size,0,none⟩ (by simp; omega)]; simp); have I := dg; have J := sN; have K := iw; have L := t7; have M := fK
 go_enter Tryz.func89,Tryz.ntmps89
 go_wp2; refine wp_loop_rounds 1 ?_; rw [rounds_succ]; go_wp2
 go_ret
 exact ⟨rfl,_,_,_,rfl⟩
set_option maxHeartbeats 1000000
def HasErr (w : World) : Prop := w.cell? ⟨0,0,none⟩ = some (.iface 169 (.agg #[.pointer (some ⟨8,44,none⟩)]))
theorem Hid.mk2 {p : Prop} (h : p) : Hid p := h
theorem vr {w : World} {a : Addr} {v : Value} (h : w.cell? a = some v) : a.block < w.heap.size := by
 rcases Nat.lt_or_ge a.block w.heap.size with b | b
 ·exact b
 ·simp [World.cell?,Array.getElem?_eq_none b] at h
theorem HasErr.alloc {w : World} (h : HasErr w) (o : Obj) : HasErr (w.alloc o) := by
 unfold HasErr at *
 rw [World.cell?_alloc_lt _ _ _ (vr h)]; exact h
theorem nj (w : World) :
  Calls Tryz.prog 48 #[.nilIface] w fun e w' => e = .returned (.tuple #[.int .i64 0,.int .i64 (-1),.int .i64 (-1)]) /\ Below w.heap.size w w' := by
 go_enter Tryz.func48,Tryz.ntmps48
 go_wp2
 exact bodyPost_ret (v := .tuple #[.int .i64 0,.int .i64 (-1),.int .i64 (-1)]) (by simp [results,Tryz.results48,go_sem]) rfl ⟨rfl,(Below.refl _ _).alloc (Nat.le_refl _) _⟩
theorem yV {w : World} {a : Addr} {v : Value} (h : w.cell? a = some v) (o : Obj) : (w.alloc o).cell? a = some v := by
 rw [World.cell?_alloc_lt _ _ _ (vr h)]; exact h
theorem vp {w : World} {a : Addr} {v : Value} {x : Bool} (h : w.cell? a = some v) (hf : w.frozen? a = x) (o : Obj) : (w.alloc o).frozen? a = x := by
 rw [World.frozen?_alloc_old _ _ _ (Nat.ne_of_lt (vr h))]; exact hf
theorem HasErr.drewN {w : World} (h : HasErr w) (n : Nat) : HasErr (w.drewN n) := h
theorem HasErr.below {w w' : World} {B : Nat} (h : HasErr w) (hb : Below B w w') (hB : 0 < B) : HasErr w' := by
 unfold HasErr at *
 rw [hb.cell hB]; exact h
theorem HasErr.grown {w w' : World} {row : Option Nat} (h : HasErr w) (hg : w.grownBy w' row) (hB : ∀ k,row = some k -> 0 < k) : HasErr w' := by
 unfold HasErr at *
 have a := vr h; rw [World.cell?_of_block (w := w) (hg.block _ a (fun e => absurd (hB _ e.symm) (Nat.lt_irrefl _)))]; exact h
theorem rf (n : Int) (w : World) (hg : HasErr w) :
  Calls Tryz.prog 48 #[.iface 25 (.int .i64 n)] w fun e w' => e = .returned (.tuple #[.int .i64 n,.int .i64 (-1),.int .i64 (-1)]) /\ Below w.heap.size w w' := by
 have r := vr hg; simp only at r
 have k := fun s t => ((hg.alloc s).alloc t)
 clear hg
 go_enter Tryz.func48,Tryz.ntmps48
 go_wp2_with fail; refine (pL n _ (.pointer none) _ (k _ _) (by simp)).mono ?_; rintro e j ⟨rfl,s,t,y,b⟩
 have a : j.cell? ⟨w.heap.size,0,none⟩ = some (.int .i64 0) := by rw [b]; exact yV (yV (yV (yV (by simp) _) _) _) _
 have f : j.frozen? ⟨w.heap.size,0,none⟩ = false := by rw [b]; exact vp (v := .int .i64 0) (yV (yV (yV (by simp) _) _) _) (vp (v := .int .i64 0) (yV (yV (by simp) _) _) (vp (v := .int .i64 0) (yV (by simp) _) (by simp) _) _) _
 have h : HasErr j := by rw [b]; exact (((k _ _).alloc _).alloc _).alloc _
 have g : Below w.heap.size w j := by rw [b]; exact (((((Below.refl _ _).alloc (Nat.le_refl _) _).alloc (by simp) _).alloc (by first | (simp; omega) | simp) _).alloc (by first | (simp; omega) | simp) _).alloc (by first | (simp; omega) | simp) _
 clear b k; go_wp2_with fail; refine (oM n _ (.int .i64 0) _ h a f).mono ?_; rintro e l ⟨rfl,z,A,B,C,d⟩
 have m : l.cell? ⟨w.heap.size,0,none⟩ = some (.int .i64 n) := by rw [d]; exact World.cell?_setCell_same _ _ _ (yV (yV (yV (yV a _) _) _) _)
 have u : l.frozen? ⟨w.heap.size,0,none⟩ = false := by
  rw [d,World.frozen?_setCell]
  exact vp (yV (yV (yV a _) _) _) (vp (yV (yV a _) _) (vp (yV a _) (vp a f _) _) _) _
 have i : Below w.heap.size w l := by
  rw [d]; have := g.size
  exact ((((g.alloc this _).alloc (by first | (simp; omega) | simp) _).alloc (by first | (simp; omega) | simp) _).alloc (by first | (simp; omega) | simp) _).setCell (by simp) _
 clear d a f h g r; have x := Hid.mk2 i; clear i; go_wp2
 exact bodyPost_ret (v := .tuple #[.int .i64 n,.int .i64 (-1),.int .i64 (-1)]) (by simp [results,Tryz.results48,go_sem,m]) rfl ⟨rfl,x.setCell (by simp) _⟩
end Go.Proofs.YtifapidjkelnfaaGreatDoor
