/- errors.As at the program's two targets,a pointer to a *api.Fault and one to an api.Errno: what it answers,and what becomes of memory,for a nil error,a fault that holds an error number,and a bare error number. -/
import Derived.Test.YtnmkffjklpfflaaGreatDoorRows
import Derived.WalkKit
import Derived.WalkSpells
import Derived.WalkLawsBesides
import Derived.LaidEql
import Derived.Stop.Asserts
import Derived.RowKitTokens
import Derived.BigQuiet
import Derived.Deep.QuietTactic
namespace Go.Proofs.YtnmkffjklpfflaaGreatDoor
open Go.RowKit Go.Extern.Stop Go.Stop Go.Extern
set_option maxHeartbeats 4000000
theorem ma (h : Value) (w : World) : (Go.method 384 184 (.agg #[h]) "Kind").run Tryz.prog w = .ok (244,h) w := by kernel_rfl
theorem nP (h : Value) (w : World) : (Go.method 384 184 (.agg #[h]) "Elem").run Tryz.prog w = .ok (257,.agg #[h]) w := by kernel_rfl
theorem nM (h : Value) (w : World) : (Go.method 384 184 (.agg #[h]) "Implements").run Tryz.prog w = .ok (258,.agg #[h]) w := by kernel_rfl
theorem nN (h : Value) (w : World) : (Go.method 384 184 (.agg #[h]) "AssignableTo").run Tryz.prog w = .ok (255,.agg #[h]) w := by kernel_rfl
theorem fH (t : Addr) (w : World) : (ReflectliteValue.unpack (.iface 131 (.pointer (some t)))).run Tryz.prog w
  = .ok (.agg #[.pointer (some ⟨8,131,none⟩),.pointer (some ⟨w.heap.size,0,none⟩),.int .u64 150]) (w.alloc (.cells #[.pointer (some t)] 131)) := by kernel_rfl
theorem cG (a : Addr) (w : World) : (ReflectliteValue.methodAny (ReflectliteValue.valueError "reflectlite.Value.Type" 0) (fun t _ _ _ => ReflectliteType.toType t) #[.agg #[.pointer (some ⟨8,131,none⟩),.pointer (some a),.int .u64 150]]).run Tryz.prog w
  = .ok (.iface 184 (.agg #[.pointer (some ⟨8,131,none⟩)])) w := by kernel_rfl
theorem nF (w : World) : ((ReflectliteType.abiMethod fun t => (fun a : Nat => Value.int IntKind.u8 (a : Int)) <$> Rtype.kind t) #[.pointer (some ⟨8,131,none⟩)]).run Tryz.prog w = .ok (.int .u8 22) w := by kernel_rfl
theorem mn (w : World) : ((ReflectliteType.abiMethod fun t => (fun a : Nat => Value.int IntKind.u8 (a : Int)) <$> Rtype.kind t) #[.pointer (some ⟨8,103,none⟩)]).run Tryz.prog w = .ok (.int .u8 22) w := by kernel_rfl
theorem rr (a : Addr) (w : World) : (ReflectliteValue.parts (.agg #[.pointer (some ⟨8,131,none⟩),.pointer (some a),.int .u64 150])).run Tryz.prog w = .ok (some (131,a,150)) w := by kernel_rfl
theorem nE (a p : Addr) (W : World) (ha : W.cell? a = some (.pointer (some p))) :
  (ReflectliteValue.method (ReflectliteValue.valueError "reflectlite.Value.IsNil" 0) ReflectliteValue.isNil #[.agg #[.pointer (some ⟨8,131,none⟩),.pointer (some a),.int .u64 150]]).run Tryz.prog W = .ok (.bool false) W := by
 refine (congrArg (fun s => Sem.run Tryz.prog s W) (show ReflectliteValue.method _ _ #[_] = (ReflectliteValue.parts (.agg #[.pointer (some ⟨8,131,none⟩),.pointer (some a),.int .u64 150]) >>= _) from rfl)).trans ?_; simp only [Sem.run_bind,rr,Result.andThen]
 simp [ReflectliteValue.isNil,loadVar,isAgg,underlying,Tryz.underlying131,ha,Result.andThen]
theorem nK (w : World) : (ReflectliteType.method ReflectliteType.elem #[.agg #[.pointer (some ⟨8,131,none⟩)]]).run Tryz.prog w = .ok (.iface 184 (.agg #[.pointer (some ⟨8,103,none⟩)])) w := by kernel_rfl
theorem lL (w : World) : (ReflectliteType.relation "Implements" ReflectliteType.implements_ #[.agg #[.pointer (some ⟨8,103,none⟩)],.iface 184 (.agg #[.pointer (some ⟨8,27,none⟩)])]).run Tryz.prog w = .ok (.bool true) w := by kernel_rfl
theorem rB (v : Value) (w : World) : (ReflectliteType.typeOf #[.iface 103 v]).run Tryz.prog w = .ok (.iface 184 (.agg #[.pointer (some ⟨8,103,none⟩)])) w := by kernel_rfl
theorem zap (w : World) : (ReflectliteType.relation "AssignableTo" ReflectliteType.assignableTo #[.agg #[.pointer (some ⟨8,103,none⟩)],.iface 184 (.agg #[.pointer (some ⟨8,103,none⟩)])]).run Tryz.prog w = .ok (.bool true) w := by kernel_rfl
theorem nh (e : Addr) (w : World) : (ReflectliteValue.unpack (.iface 103 (.pointer (some e)))).run Tryz.prog w
  = .ok (.agg #[.pointer (some ⟨8,103,none⟩),.pointer (some ⟨w.heap.size,0,none⟩),.int .u64 150]) (w.alloc (.cells #[.pointer (some e)] 103)) := by kernel_rfl
theorem cl (w : World) : (Rtype.elem? 131).run Tryz.prog w = .ok (some 103) w := by kernel_rfl
theorem zbg (p : Addr) (w : World) : (ReflectliteValue.mk 103 p ReflectliteValue.flagAddr).run Tryz.prog w = .ok (.agg #[.pointer (some ⟨8,103,none⟩),.pointer (some p),.int .u64 406]) w := by kernel_rfl
theorem mt (a p : Addr) (W : World) (ha : W.cell? a = some (.pointer (some p))) :
  (ReflectliteValue.method (ReflectliteValue.valueError "reflectlite.Value.Elem" 0) ReflectliteValue.elem #[.agg #[.pointer (some ⟨8,131,none⟩),.pointer (some a),.int .u64 150]]).run Tryz.prog W
   = .ok (.agg #[.pointer (some ⟨8,103,none⟩),.pointer (some p),.int .u64 406]) W := by
 refine (congrArg (fun s => Sem.run Tryz.prog s W) (show ReflectliteValue.method _ _ #[_] = (ReflectliteValue.parts (.agg #[.pointer (some ⟨8,131,none⟩),.pointer (some a),.int .u64 150]) >>= _) from rfl)).trans ?_; simp only [Sem.run_bind,rr,Result.andThen]
 simp [ReflectliteValue.elem,loadVar,isAgg,underlying,Tryz.underlying131,ha,Result.andThen,cl,zbg]
theorem iI (a : Addr) (w : World) : (ReflectliteValue.parts (.agg #[.pointer (some ⟨8,103,none⟩),.pointer (some a),.int .u64 406])).run Tryz.prog w = .ok (some (103,a,406)) w := by kernel_rfl
theorem iT (a : Addr) (w : World) : (ReflectliteValue.parts (.agg #[.pointer (some ⟨8,103,none⟩),.pointer (some a),.int .u64 150])).run Tryz.prog w = .ok (some (103,a,150)) w := by kernel_rfl
theorem iW (w : World) : (Rtype.directlyAssignable 103 103).run Tryz.prog w = .ok true w := by kernel_rfl
theorem za0 (ta b : Addr) (e : Addr) (old : Value) (W : World) (hb : W.cell? b = some (.pointer (some e))) (ht : W.cell? ta = some old) (hf : W.frozen? ta = false) :
  (ReflectliteValue.set #[.agg #[.pointer (some ⟨8,103,none⟩),.pointer (some ta),.int .u64 406],.agg #[.pointer (some ⟨8,103,none⟩),.pointer (some b),.int .u64 150]]).run Tryz.prog W
   = .ok (.tuple #[]) (W.setCell ta (.pointer (some e))) := by
 refine (congrArg (fun s => Sem.run Tryz.prog s W) (show ReflectliteValue.set #[_,_] = (ReflectliteValue.parts (.agg #[.pointer (some ⟨8,103,none⟩),.pointer (some ta),.int .u64 406]) >>= fun y => ReflectliteValue.parts (.agg #[.pointer (some ⟨8,103,none⟩),.pointer (some b),.int .u64 150]) >>= _) from rfl)).trans ?_; simp only [Sem.run_bind,iI,iT,Result.andThen]
 simp [ReflectliteValue.flagAddr,loadVar,isAgg,underlying,Tryz.underlying103,hb,Result.andThen,iW,storeVar,Value.cells,storeCells,Addr.add]
 rw [run_store Tryz.prog W ta _ _ (by rfl)]
 simp [ht,hf]
theorem fV (t : Addr) (w : World) : (ReflectliteValue.unpack (.iface 132 (.pointer (some t)))).run Tryz.prog w
  = .ok (.agg #[.pointer (some ⟨8,132,none⟩),.pointer (some ⟨w.heap.size,0,none⟩),.int .u64 150]) (w.alloc (.cells #[.pointer (some t)] 132)) := by kernel_rfl
theorem i3 (a : Addr) (w : World) : (ReflectliteValue.methodAny (ReflectliteValue.valueError "reflectlite.Value.Type" 0) (fun t _ _ _ => ReflectliteType.toType t) #[.agg #[.pointer (some ⟨8,132,none⟩),.pointer (some a),.int .u64 150]]).run Tryz.prog w
  = .ok (.iface 184 (.agg #[.pointer (some ⟨8,132,none⟩)])) w := by kernel_rfl
theorem mx (w : World) : ((ReflectliteType.abiMethod fun t => (fun a : Nat => Value.int IntKind.u8 (a : Int)) <$> Rtype.kind t) #[.pointer (some ⟨8,132,none⟩)]).run Tryz.prog w = .ok (.int .u8 22) w := by kernel_rfl
theorem nL (w : World) : ((ReflectliteType.abiMethod fun t => (fun a : Nat => Value.int IntKind.u8 (a : Int)) <$> Rtype.kind t) #[.pointer (some ⟨8,56,none⟩)]).run Tryz.prog w = .ok (.int .u8 2) w := by kernel_rfl
theorem pA (a : Addr) (w : World) : (ReflectliteValue.parts (.agg #[.pointer (some ⟨8,132,none⟩),.pointer (some a),.int .u64 150])).run Tryz.prog w = .ok (some (132,a,150)) w := by kernel_rfl
theorem nY (a p : Addr) (W : World) (ha : W.cell? a = some (.pointer (some p))) :
  (ReflectliteValue.method (ReflectliteValue.valueError "reflectlite.Value.IsNil" 0) ReflectliteValue.isNil #[.agg #[.pointer (some ⟨8,132,none⟩),.pointer (some a),.int .u64 150]]).run Tryz.prog W = .ok (.bool false) W := by
 refine (congrArg (fun s => Sem.run Tryz.prog s W) (show ReflectliteValue.method _ _ #[_] = (ReflectliteValue.parts (.agg #[.pointer (some ⟨8,132,none⟩),.pointer (some a),.int .u64 150]) >>= _) from rfl)).trans ?_; simp only [Sem.run_bind,pA,Result.andThen]
 simp [ReflectliteValue.isNil,loadVar,isAgg,underlying,Tryz.underlying132,ha,Result.andThen]
theorem mw (w : World) : (ReflectliteType.method ReflectliteType.elem #[.agg #[.pointer (some ⟨8,132,none⟩)]]).run Tryz.prog w = .ok (.iface 184 (.agg #[.pointer (some ⟨8,56,none⟩)])) w := by kernel_rfl
theorem lS (w : World) : (ReflectliteType.relation "Implements" ReflectliteType.implements_ #[.agg #[.pointer (some ⟨8,56,none⟩)],.iface 184 (.agg #[.pointer (some ⟨8,27,none⟩)])]).run Tryz.prog w = .ok (.bool true) w := by kernel_rfl
theorem fB (v : Value) (w : World) : (ReflectliteType.typeOf #[.iface 56 v]).run Tryz.prog w = .ok (.iface 184 (.agg #[.pointer (some ⟨8,56,none⟩)])) w := by kernel_rfl
theorem cC (w : World) : (ReflectliteType.relation "AssignableTo" ReflectliteType.assignableTo #[.agg #[.pointer (some ⟨8,56,none⟩)],.iface 184 (.agg #[.pointer (some ⟨8,56,none⟩)])]).run Tryz.prog w = .ok (.bool true) w := by kernel_rfl
theorem fL (e : Int) (w : World) : (ReflectliteValue.unpack (.iface 56 (.int .i64 e))).run Tryz.prog w
  = .ok (.agg #[.pointer (some ⟨8,56,none⟩),.pointer (some ⟨w.heap.size,0,none⟩),.int .u64 130]) (w.alloc (.cells #[.int .i64 e] 56)) := by kernel_rfl
theorem lw (w : World) : (Rtype.elem? 132).run Tryz.prog w = .ok (some 56) w := by kernel_rfl
theorem zbe (p : Addr) (w : World) : (ReflectliteValue.mk 56 p ReflectliteValue.flagAddr).run Tryz.prog w = .ok (.agg #[.pointer (some ⟨8,56,none⟩),.pointer (some p),.int .u64 386]) w := by kernel_rfl
theorem ml (a p : Addr) (W : World) (ha : W.cell? a = some (.pointer (some p))) :
  (ReflectliteValue.method (ReflectliteValue.valueError "reflectlite.Value.Elem" 0) ReflectliteValue.elem #[.agg #[.pointer (some ⟨8,132,none⟩),.pointer (some a),.int .u64 150]]).run Tryz.prog W
   = .ok (.agg #[.pointer (some ⟨8,56,none⟩),.pointer (some p),.int .u64 386]) W := by
 refine (congrArg (fun s => Sem.run Tryz.prog s W) (show ReflectliteValue.method _ _ #[_] = (ReflectliteValue.parts (.agg #[.pointer (some ⟨8,132,none⟩),.pointer (some a),.int .u64 150]) >>= _) from rfl)).trans ?_; simp only [Sem.run_bind,pA,Result.andThen]
 simp [ReflectliteValue.elem,loadVar,isAgg,underlying,Tryz.underlying132,ha,Result.andThen,lw,zbe]
theorem lG (a : Addr) (w : World) : (ReflectliteValue.parts (.agg #[.pointer (some ⟨8,56,none⟩),.pointer (some a),.int .u64 386])).run Tryz.prog w = .ok (some (56,a,386)) w := by kernel_rfl
theorem i8 (a : Addr) (w : World) : (ReflectliteValue.parts (.agg #[.pointer (some ⟨8,56,none⟩),.pointer (some a),.int .u64 130])).run Tryz.prog w = .ok (some (56,a,130)) w := by kernel_rfl
theorem lO (w : World) : (Rtype.directlyAssignable 56 56).run Tryz.prog w = .ok true w := by kernel_rfl
theorem aj (ta b : Addr) (e : Int) (old : Value) (W : World) (hb : W.cell? b = some (.int .i64 e)) (ht : W.cell? ta = some old) (hf : W.frozen? ta = false) :
  (ReflectliteValue.set #[.agg #[.pointer (some ⟨8,56,none⟩),.pointer (some ta),.int .u64 386],.agg #[.pointer (some ⟨8,56,none⟩),.pointer (some b),.int .u64 130]]).run Tryz.prog W
   = .ok (.tuple #[]) (W.setCell ta (.int .i64 e)) := by
 refine (congrArg (fun s => Sem.run Tryz.prog s W) (show ReflectliteValue.set #[_,_] = (ReflectliteValue.parts (.agg #[.pointer (some ⟨8,56,none⟩),.pointer (some ta),.int .u64 386]) >>= fun y => ReflectliteValue.parts (.agg #[.pointer (some ⟨8,56,none⟩),.pointer (some b),.int .u64 130]) >>= _) from rfl)).trans ?_; simp only [Sem.run_bind,lG,i8,Result.andThen]
 simp [ReflectliteValue.flagAddr,loadVar,isAgg,underlying,Tryz.underlying56,hb,Result.andThen,lO,storeVar,Value.cells,storeCells,Addr.add]
 rw [run_store Tryz.prog W ta _ _ (by rfl)]
 simp [ht,hf]
theorem lN (e : Addr) (t : Addr) (old : Value) (w : World) (hg : w.cell? ⟨0,0,none⟩ = some (.iface 184 (.agg #[.pointer (some ⟨8,27,none⟩)]))) (ht0 : w.cell? t = some old) (hf0 : w.frozen? t = false) :
  Calls Tryz.prog 60 #[.iface 103 (.pointer (some e)),.iface 131 (.pointer (some t))] w fun ev w' => ev = .returned (.bool true) /\ ∃ o1 o2 o3 o4,w' = ((((w.alloc o1).alloc o2).alloc o3).alloc o4).setCell t (.pointer (some e)) := by
 have n := @run_callFunc_extern Tryz.prog 78 _ (fun args => ReflectliteValue.unpack (args.getD 0 (.tuple #[]))) Tryz.func78 (by kernel_rfl) (by kernel_rfl) (by kernel_rfl) (by kernel_rfl); have o := @run_callFunc_extern Tryz.prog 79 _ (ReflectliteValue.methodAny (ReflectliteValue.valueError "reflectlite.Value.Type" 0) (fun t _ _ _ => ReflectliteType.toType t)) Tryz.func79 (by kernel_rfl) (by kernel_rfl) (by kernel_rfl) (by kernel_rfl); have q := @run_callFunc_extern Tryz.prog 80 _ (ReflectliteValue.method (ReflectliteValue.valueError "reflectlite.Value.IsNil" 0) ReflectliteValue.isNil) Tryz.func80 (by kernel_rfl) (by kernel_rfl) (by kernel_rfl) (by kernel_rfl); have d := @run_callFunc_extern Tryz.prog 244 _ (ReflectliteType.abiMethod fun t => do pure (.int .u8 (<- Rtype.kind t))) Tryz.func244 (by kernel_rfl) (by kernel_rfl) (by kernel_rfl) (by kernel_rfl); have f := @run_callFunc_extern Tryz.prog 257 _ (ReflectliteType.method ReflectliteType.elem) Tryz.func257 (by kernel_rfl) (by kernel_rfl) (by kernel_rfl) (by kernel_rfl); have g := @run_callFunc_extern Tryz.prog 258 _ (ReflectliteType.relation "Implements" ReflectliteType.implements_) Tryz.func258 (by kernel_rfl) (by kernel_rfl) (by kernel_rfl) (by kernel_rfl); have i := @run_callFunc_extern Tryz.prog 117 _ ReflectliteType.typeOf Tryz.func117 (by kernel_rfl) (by kernel_rfl) (by kernel_rfl) (by kernel_rfl); have j := @run_callFunc_extern Tryz.prog 255 _ (ReflectliteType.relation "AssignableTo" ReflectliteType.assignableTo) Tryz.func255 (by kernel_rfl) (by kernel_rfl) (by kernel_rfl) (by kernel_rfl); have k := @run_callFunc_extern Tryz.prog 118 _ (ReflectliteValue.method (ReflectliteValue.valueError "reflectlite.Value.Elem" 0) ReflectliteValue.elem) Tryz.func118 (by kernel_rfl) (by kernel_rfl) (by kernel_rfl) (by kernel_rfl); have l := @run_callFunc_extern Tryz.prog 119 _ ReflectliteValue.set Tryz.func119 (by kernel_rfl) (by kernel_rfl) (by kernel_rfl) (by kernel_rfl); have r := ma; have s := nP; have u := nM; have v := nN; have x := fH; have z := cG; have A := nF; have B := mn; have C := nK; have D := lL; have E := nE ⟨w.heap.size,0,none⟩ t ((w.alloc (.cells #[.pointer (some t)] 131)).alloc (.cells #[.pointer (some ⟨8,131,none⟩),.pointer (some ⟨w.heap.size,0,none⟩),.int .u64 150] 154)) (by simp)
 have c : 0 < w.heap.size := by
  rcases Nat.lt_or_ge 0 w.heap.size with h | h
  ·exact h
  ·simp [World.cell?,Array.getElem?_eq_none h] at hg
 have m : ((w.alloc (.cells #[.pointer (some t)] 131)).alloc (.cells #[.pointer (some ⟨8,131,none⟩),.pointer (some ⟨w.heap.size,0,none⟩),.int .u64 150] 154)).cell? ⟨0,0,none⟩ = some (.iface 184 (.agg #[.pointer (some ⟨8,27,none⟩)])) := by
  rw [World.cell?_alloc_lt _ _ ⟨0,0,none⟩ (by first | (simp; omega) | simp),World.cell?_alloc_lt _ _ ⟨0,0,none⟩ c]; exact hg
 have b : t.block < w.heap.size := by
  rcases Nat.lt_or_ge t.block w.heap.size with h | h
  ·exact h
  ·simp [World.cell?,Array.getElem?_eq_none h] at ht0
 have F := mt ⟨w.heap.size,0,none⟩ t (((w.alloc (.cells #[.pointer (some t)] 131)).alloc (.cells #[.pointer (some ⟨8,131,none⟩),.pointer (some ⟨w.heap.size,0,none⟩),.int .u64 150] 154)).alloc (.cells #[.pointer (some ⟨8,131,none⟩),.pointer (some ⟨w.heap.size,0,none⟩),.int .u64 150] 154)) (by rw [World.cell?_alloc_lt _ _ ⟨w.heap.size,0,none⟩ (by simp; omega)]; simp); have G := rB; have H := zap; have I := nh; have J := za0 t ⟨w.heap.size + 1 + 1 + 1,0,none⟩ e old ((((w.alloc (.cells #[.pointer (some t)] 131)).alloc (.cells #[.pointer (some ⟨8,131,none⟩),.pointer (some ⟨w.heap.size,0,none⟩),.int .u64 150] 154)).alloc (.cells #[.pointer (some ⟨8,131,none⟩),.pointer (some ⟨w.heap.size,0,none⟩),.int .u64 150] 154)).alloc (.cells #[.pointer (some e)] 103))
  (by rw [World.cell?_alloc_at _ _ _ _ (by simp)]; rfl)
  (by rw [World.cell?_alloc_lt _ _ t (by simp; omega),World.cell?_alloc_lt _ _ t (by simp; omega),World.cell?_alloc_lt _ _ t (by simp; omega),World.cell?_alloc_lt _ _ t b]; exact ht0)
  (by rw [World.frozen?_alloc_old _ _ t (by simp; omega),World.frozen?_alloc_old _ _ t (by simp; omega),World.frozen?_alloc_old _ _ t (by simp; omega),World.frozen?_alloc_old _ _ t (Nat.ne_of_lt b)]; exact hf0)
 go_enter Tryz.func60,Tryz.ntmps60
 go_wp2; refine wp_loop_rounds 1 ?_; rw [rounds_succ]; go_wp2
 go_ret
 exact ⟨rfl,_,_,_,_,rfl⟩
theorem iH (e : Int) (t : Addr) (old : Value) (w : World) (hg : w.cell? ⟨0,0,none⟩ = some (.iface 184 (.agg #[.pointer (some ⟨8,27,none⟩)]))) (ht0 : w.cell? t = some old) (hf0 : w.frozen? t = false) :
  Calls Tryz.prog 60 #[.iface 56 (.int .i64 e),.iface 132 (.pointer (some t))] w fun ev w' => ev = .returned (.bool true) /\ ∃ o1 o2 o3 o4,w' = ((((w.alloc o1).alloc o2).alloc o3).alloc o4).setCell t (.int .i64 e) := by
 have n := @run_callFunc_extern Tryz.prog 78 _ (fun args => ReflectliteValue.unpack (args.getD 0 (.tuple #[]))) Tryz.func78 (by kernel_rfl) (by kernel_rfl) (by kernel_rfl) (by kernel_rfl); have o := @run_callFunc_extern Tryz.prog 79 _ (ReflectliteValue.methodAny (ReflectliteValue.valueError "reflectlite.Value.Type" 0) (fun t _ _ _ => ReflectliteType.toType t)) Tryz.func79 (by kernel_rfl) (by kernel_rfl) (by kernel_rfl) (by kernel_rfl); have q := @run_callFunc_extern Tryz.prog 80 _ (ReflectliteValue.method (ReflectliteValue.valueError "reflectlite.Value.IsNil" 0) ReflectliteValue.isNil) Tryz.func80 (by kernel_rfl) (by kernel_rfl) (by kernel_rfl) (by kernel_rfl); have d := @run_callFunc_extern Tryz.prog 244 _ (ReflectliteType.abiMethod fun t => do pure (.int .u8 (<- Rtype.kind t))) Tryz.func244 (by kernel_rfl) (by kernel_rfl) (by kernel_rfl) (by kernel_rfl); have f := @run_callFunc_extern Tryz.prog 257 _ (ReflectliteType.method ReflectliteType.elem) Tryz.func257 (by kernel_rfl) (by kernel_rfl) (by kernel_rfl) (by kernel_rfl); have g := @run_callFunc_extern Tryz.prog 258 _ (ReflectliteType.relation "Implements" ReflectliteType.implements_) Tryz.func258 (by kernel_rfl) (by kernel_rfl) (by kernel_rfl) (by kernel_rfl); have i := @run_callFunc_extern Tryz.prog 117 _ ReflectliteType.typeOf Tryz.func117 (by kernel_rfl) (by kernel_rfl) (by kernel_rfl) (by kernel_rfl); have j := @run_callFunc_extern Tryz.prog 255 _ (ReflectliteType.relation "AssignableTo" ReflectliteType.assignableTo) Tryz.func255 (by kernel_rfl) (by kernel_rfl) (by kernel_rfl) (by kernel_rfl); have k := @run_callFunc_extern Tryz.prog 118 _ (ReflectliteValue.method (ReflectliteValue.valueError "reflectlite.Value.Elem" 0) ReflectliteValue.elem) Tryz.func118 (by kernel_rfl) (by kernel_rfl) (by kernel_rfl) (by kernel_rfl); have l := @run_callFunc_extern Tryz.prog 119 _ ReflectliteValue.set Tryz.func119 (by kernel_rfl) (by kernel_rfl) (by kernel_rfl) (by kernel_rfl); have r := ma; have s := nP; have u := nM; have v := nN; have x := fV; have z := i3; have A := mx; have B := nL; have C := mw; have D := lS; have E := nY ⟨w.heap.size,0,none⟩ t ((w.alloc (.cells #[.pointer (some t)] 132)).alloc (.cells #[.pointer (some ⟨8,132,none⟩),.pointer (some ⟨w.heap.size,0,none⟩),.int .u64 150] 154)) (by simp)
 have c : 0 < w.heap.size := by
  rcases Nat.lt_or_ge 0 w.heap.size with h | h
  ·exact h
  ·simp [World.cell?,Array.getElem?_eq_none h] at hg
 have m : ((w.alloc (.cells #[.pointer (some t)] 132)).alloc (.cells #[.pointer (some ⟨8,132,none⟩),.pointer (some ⟨w.heap.size,0,none⟩),.int .u64 150] 154)).cell? ⟨0,0,none⟩ = some (.iface 184 (.agg #[.pointer (some ⟨8,27,none⟩)])) := by
  rw [World.cell?_alloc_lt _ _ ⟨0,0,none⟩ (by first | (simp; omega) | simp),World.cell?_alloc_lt _ _ ⟨0,0,none⟩ c]; exact hg
 have b : t.block < w.heap.size := by
  rcases Nat.lt_or_ge t.block w.heap.size with h | h
  ·exact h
  ·simp [World.cell?,Array.getElem?_eq_none h] at ht0
 have F := ml ⟨w.heap.size,0,none⟩ t (((w.alloc (.cells #[.pointer (some t)] 132)).alloc (.cells #[.pointer (some ⟨8,132,none⟩),.pointer (some ⟨w.heap.size,0,none⟩),.int .u64 150] 154)).alloc (.cells #[.pointer (some ⟨8,132,none⟩),.pointer (some ⟨w.heap.size,0,none⟩),.int .u64 150] 154)) (by rw [World.cell?_alloc_lt _ _ ⟨w.heap.size,0,none⟩ (by simp; omega)]; simp); have G := fB; have H := cC; have I := fL; have J := aj t ⟨w.heap.size + 1 + 1 + 1,0,none⟩ e old ((((w.alloc (.cells #[.pointer (some t)] 132)).alloc (.cells #[.pointer (some ⟨8,132,none⟩),.pointer (some ⟨w.heap.size,0,none⟩),.int .u64 150] 154)).alloc (.cells #[.pointer (some ⟨8,132,none⟩),.pointer (some ⟨w.heap.size,0,none⟩),.int .u64 150] 154)).alloc (.cells #[.int .i64 e] 56))
  (by rw [World.cell?_alloc_at _ _ _ _ (by simp)]; rfl)
  (by rw [World.cell?_alloc_lt _ _ t (by simp; omega),World.cell?_alloc_lt _ _ t (by simp; omega),World.cell?_alloc_lt _ _ t (by simp; omega),World.cell?_alloc_lt _ _ t b]; exact ht0)
  (by rw [World.frozen?_alloc_old _ _ t (by simp; omega),World.frozen?_alloc_old _ _ t (by simp; omega),World.frozen?_alloc_old _ _ t (by simp; omega),World.frozen?_alloc_old _ _ t (Nat.ne_of_lt b)]; exact hf0)
 go_enter Tryz.func60,Tryz.ntmps60
 go_wp2; refine wp_loop_rounds 1 ?_; rw [rounds_succ]; go_wp2
 go_ret
 exact ⟨rfl,_,_,_,_,rfl⟩
theorem oQ (w : World) : (ReflectliteType.relation "AssignableTo" ReflectliteType.assignableTo #[.agg #[.pointer (some ⟨8,103,none⟩)],.iface 184 (.agg #[.pointer (some ⟨8,56,none⟩)])]).run Tryz.prog w = .ok (.bool false) w := by kernel_rfl
theorem oS (w : World) : (ReflectliteType.relation "AssignableTo" ReflectliteType.assignableTo #[.agg #[.pointer (some ⟨8,56,none⟩)],.iface 184 (.agg #[.pointer (some ⟨8,103,none⟩)])]).run Tryz.prog w = .ok (.bool false) w := by kernel_rfl
theorem aG (v : Value) (x : TypeId) (w : World) : (Instr.typeAssert (.iface 103 v) x 189 true).run Tryz.prog w = .ok (.tuple #[.nilIface,.bool false]) w := run_typeAssert_lacksB Tryz.underlying189 (by kernel_rfl) (by kernel_rfl) v x w
theorem zaj (v : Value) (x : TypeId) (w : World) : (Instr.typeAssert (.iface 56 v) x 189 true).run Tryz.prog w = .ok (.tuple #[.nilIface,.bool false]) w := run_typeAssert_lacksB Tryz.underlying189 (by kernel_rfl) (by kernel_rfl) v x w
theorem pM (v : Value) (x : TypeId) (w : World) : (Instr.typeAssert (.iface 103 v) x 192 true).run Tryz.prog w = .ok (.tuple #[.iface 103 v,.bool true]) w := run_typeAssert_hasB Tryz.underlying192 (by kernel_rfl) v x w
theorem oY (v : Value) (x : TypeId) (w : World) : (Instr.typeAssert (.iface 56 v) x 192 true).run Tryz.prog w = .ok (.tuple #[.nilIface,.bool false]) w := run_typeAssert_lacksB Tryz.underlying192 (by kernel_rfl) (by kernel_rfl) v x w
theorem rT (v : Value) (x : TypeId) (w : World) : (Instr.typeAssert (.iface 56 v) x 194 true).run Tryz.prog w = .ok (.tuple #[.nilIface,.bool false]) w := run_typeAssert_lacksB Tryz.underlying194 (by kernel_rfl) (by kernel_rfl) v x w
theorem bR (a : Addr) (w : World) : (Go.method 384 103 (.pointer (some a)) "Unwrap").run Tryz.prog w = .ok (250,.pointer (some a)) w := by kernel_rfl
theorem mW (n : Int) (t : Addr) (old : Value) (w : World) (hg : w.cell? ⟨0,0,none⟩ = some (.iface 184 (.agg #[.pointer (some ⟨8,27,none⟩)]))) (ht0 : w.cell? t = some old) :
  Calls Tryz.prog 60 #[.iface 56 (.int .i64 n),.iface 131 (.pointer (some t))] w fun ev w' => ev = .returned (.bool false) /\ ∃ o1 o2 o3,w' = ((w.alloc o1).alloc o2).alloc o3 := by
 have m := @run_callFunc_extern Tryz.prog 78 _ (fun args => ReflectliteValue.unpack (args.getD 0 (.tuple #[]))) Tryz.func78 (by kernel_rfl) (by kernel_rfl) (by kernel_rfl) (by kernel_rfl); have o := @run_callFunc_extern Tryz.prog 79 _ (ReflectliteValue.methodAny (ReflectliteValue.valueError "reflectlite.Value.Type" 0) (fun t _ _ _ => ReflectliteType.toType t)) Tryz.func79 (by kernel_rfl) (by kernel_rfl) (by kernel_rfl) (by kernel_rfl); have q := @run_callFunc_extern Tryz.prog 80 _ (ReflectliteValue.method (ReflectliteValue.valueError "reflectlite.Value.IsNil" 0) ReflectliteValue.isNil) Tryz.func80 (by kernel_rfl) (by kernel_rfl) (by kernel_rfl) (by kernel_rfl); have c := @run_callFunc_extern Tryz.prog 244 _ (ReflectliteType.abiMethod fun t => do pure (.int .u8 (<- Rtype.kind t))) Tryz.func244 (by kernel_rfl) (by kernel_rfl) (by kernel_rfl) (by kernel_rfl); have d := @run_callFunc_extern Tryz.prog 257 _ (ReflectliteType.method ReflectliteType.elem) Tryz.func257 (by kernel_rfl) (by kernel_rfl) (by kernel_rfl) (by kernel_rfl); have e := @run_callFunc_extern Tryz.prog 258 _ (ReflectliteType.relation "Implements" ReflectliteType.implements_) Tryz.func258 (by kernel_rfl) (by kernel_rfl) (by kernel_rfl) (by kernel_rfl); have f := @run_callFunc_extern Tryz.prog 117 _ ReflectliteType.typeOf Tryz.func117 (by kernel_rfl) (by kernel_rfl) (by kernel_rfl) (by kernel_rfl); have g := @run_callFunc_extern Tryz.prog 255 _ (ReflectliteType.relation "AssignableTo" ReflectliteType.assignableTo) Tryz.func255 (by kernel_rfl) (by kernel_rfl) (by kernel_rfl) (by kernel_rfl); have i := @run_callFunc_extern Tryz.prog 118 _ (ReflectliteValue.method (ReflectliteValue.valueError "reflectlite.Value.Elem" 0) ReflectliteValue.elem) Tryz.func118 (by kernel_rfl) (by kernel_rfl) (by kernel_rfl) (by kernel_rfl); have j := @run_callFunc_extern Tryz.prog 119 _ ReflectliteValue.set Tryz.func119 (by kernel_rfl) (by kernel_rfl) (by kernel_rfl) (by kernel_rfl); have r := ma; have s := nP; have u := nM; have v := nN; have x := fH; have z := cG; have A := nF; have B := mn; have C := nK; have D := lL; have E := nE ⟨w.heap.size,0,none⟩ t ((w.alloc (.cells #[.pointer (some t)] 131)).alloc (.cells #[.pointer (some ⟨8,131,none⟩),.pointer (some ⟨w.heap.size,0,none⟩),.int .u64 150] 154)) (by simp)
 have b : 0 < w.heap.size := by
  rcases Nat.lt_or_ge 0 w.heap.size with h | h
  ·exact h
  ·simp [World.cell?,Array.getElem?_eq_none h] at hg
 have k : ((w.alloc (.cells #[.pointer (some t)] 131)).alloc (.cells #[.pointer (some ⟨8,131,none⟩),.pointer (some ⟨w.heap.size,0,none⟩),.int .u64 150] 154)).cell? ⟨0,0,none⟩ = some (.iface 184 (.agg #[.pointer (some ⟨8,27,none⟩)])) := by
  rw [World.cell?_alloc_lt _ _ ⟨0,0,none⟩ (by first | (simp; omega) | simp),World.cell?_alloc_lt _ _ ⟨0,0,none⟩ b]; exact hg
 have l : t.block < w.heap.size := by
  rcases Nat.lt_or_ge t.block w.heap.size with h | h
  ·exact h
  ·simp [World.cell?,Array.getElem?_eq_none h] at ht0
 have F := mt ⟨w.heap.size,0,none⟩ t (((w.alloc (.cells #[.pointer (some t)] 131)).alloc (.cells #[.pointer (some ⟨8,131,none⟩),.pointer (some ⟨w.heap.size,0,none⟩),.int .u64 150] 154)).alloc (.cells #[.pointer (some ⟨8,131,none⟩),.pointer (some ⟨w.heap.size,0,none⟩),.int .u64 150] 154)) (by rw [World.cell?_alloc_lt _ _ ⟨w.heap.size,0,none⟩ (by simp; omega)]; simp); have G := fB; have H := oS; have I := zaj; have J := oY; have K := rT
 go_enter Tryz.func60,Tryz.ntmps60
 go_wp2; refine wp_loop_rounds 1 ?_; rw [rounds_succ]; go_wp2
 go_ret
 exact ⟨rfl,_,_,_,rfl⟩
theorem sq (e : Int) (q t : Addr) (old : Value) (w : World) (hg : w.cell? ⟨0,0,none⟩ = some (.iface 184 (.agg #[.pointer (some ⟨8,27,none⟩)]))) (ht0 : w.cell? t = some old) (hf0 : w.frozen? t = false)
  (hq : w.cell? ⟨q.block,q.off + 2,none⟩ = some (.iface 56 (.int .i64 e))) (hqn : q = ⟨q.block,q.off,none⟩) :
  Calls Tryz.prog 60 #[.iface 103 (.pointer (some q)),.iface 132 (.pointer (some t))] w fun ev w' => ev = .returned (.bool true) /\ ∃ o1 o2 o3 o4,w' = ((((w.alloc o1).alloc o2).alloc o3).alloc o4).setCell t (.int .i64 e) := by
 obtain ⟨b,d,_⟩ := q; simp only [Addr.mk.injEq,true_and] at hqn; subst hqn; simp only at hq; have u := @run_callFunc_extern Tryz.prog 78 _ (fun args => ReflectliteValue.unpack (args.getD 0 (.tuple #[]))) Tryz.func78 (by kernel_rfl) (by kernel_rfl) (by kernel_rfl) (by kernel_rfl); have v := @run_callFunc_extern Tryz.prog 79 _ (ReflectliteValue.methodAny (ReflectliteValue.valueError "reflectlite.Value.Type" 0) (fun t _ _ _ => ReflectliteType.toType t)) Tryz.func79 (by kernel_rfl) (by kernel_rfl) (by kernel_rfl) (by kernel_rfl); have x := @run_callFunc_extern Tryz.prog 80 _ (ReflectliteValue.method (ReflectliteValue.valueError "reflectlite.Value.IsNil" 0) ReflectliteValue.isNil) Tryz.func80 (by kernel_rfl) (by kernel_rfl) (by kernel_rfl) (by kernel_rfl); have i := @run_callFunc_extern Tryz.prog 244 _ (ReflectliteType.abiMethod fun t => do pure (.int .u8 (<- Rtype.kind t))) Tryz.func244 (by kernel_rfl) (by kernel_rfl) (by kernel_rfl) (by kernel_rfl); have j := @run_callFunc_extern Tryz.prog 257 _ (ReflectliteType.method ReflectliteType.elem) Tryz.func257 (by kernel_rfl) (by kernel_rfl) (by kernel_rfl) (by kernel_rfl); have k := @run_callFunc_extern Tryz.prog 258 _ (ReflectliteType.relation "Implements" ReflectliteType.implements_) Tryz.func258 (by kernel_rfl) (by kernel_rfl) (by kernel_rfl) (by kernel_rfl); have l := @run_callFunc_extern Tryz.prog 117 _ ReflectliteType.typeOf Tryz.func117 (by kernel_rfl) (by kernel_rfl) (by kernel_rfl) (by kernel_rfl); have m := @run_callFunc_extern Tryz.prog 255 _ (ReflectliteType.relation "AssignableTo" ReflectliteType.assignableTo) Tryz.func255 (by kernel_rfl) (by kernel_rfl) (by kernel_rfl) (by kernel_rfl); have n := @run_callFunc_extern Tryz.prog 118 _ (ReflectliteValue.method (ReflectliteValue.valueError "reflectlite.Value.Elem" 0) ReflectliteValue.elem) Tryz.func118 (by kernel_rfl) (by kernel_rfl) (by kernel_rfl) (by kernel_rfl); have o := @run_callFunc_extern Tryz.prog 119 _ ReflectliteValue.set Tryz.func119 (by kernel_rfl) (by kernel_rfl) (by kernel_rfl) (by kernel_rfl); have z := ma; have A := nP; have B := nM; have C := nN; have D := fV; have E := i3; have F := mx; have G := nL; have H := mw; have I := lS; have J := nY ⟨w.heap.size,0,none⟩ t ((w.alloc (.cells #[.pointer (some t)] 132)).alloc (.cells #[.pointer (some ⟨8,132,none⟩),.pointer (some ⟨w.heap.size,0,none⟩),.int .u64 150] 154)) (by simp)
 have f : 0 < w.heap.size := by
  rcases Nat.lt_or_ge 0 w.heap.size with h | h
  ·exact h
  ·simp [World.cell?,Array.getElem?_eq_none h] at hg
 have r : ((w.alloc (.cells #[.pointer (some t)] 132)).alloc (.cells #[.pointer (some ⟨8,132,none⟩),.pointer (some ⟨w.heap.size,0,none⟩),.int .u64 150] 154)).cell? ⟨0,0,none⟩ = some (.iface 184 (.agg #[.pointer (some ⟨8,27,none⟩)])) := by
  rw [World.cell?_alloc_lt _ _ ⟨0,0,none⟩ (by first | (simp; omega) | simp),World.cell?_alloc_lt _ _ ⟨0,0,none⟩ f]; exact hg
 have c : t.block < w.heap.size := by
  rcases Nat.lt_or_ge t.block w.heap.size with h | h
  ·exact h
  ·simp [World.cell?,Array.getElem?_eq_none h] at ht0
 have K := ml ⟨w.heap.size,0,none⟩ t (((w.alloc (.cells #[.pointer (some t)] 132)).alloc (.cells #[.pointer (some ⟨8,132,none⟩),.pointer (some ⟨w.heap.size,0,none⟩),.int .u64 150] 154)).alloc (.cells #[.pointer (some ⟨8,132,none⟩),.pointer (some ⟨w.heap.size,0,none⟩),.int .u64 150] 154)) (by rw [World.cell?_alloc_lt _ _ ⟨w.heap.size,0,none⟩ (by simp; omega)]; simp); have L := fB; have M := cC; have N := fL; have O := aj t ⟨w.heap.size + 1 + 1 + 1,0,none⟩ e old ((((w.alloc (.cells #[.pointer (some t)] 132)).alloc (.cells #[.pointer (some ⟨8,132,none⟩),.pointer (some ⟨w.heap.size,0,none⟩),.int .u64 150] 154)).alloc (.cells #[.pointer (some ⟨8,132,none⟩),.pointer (some ⟨w.heap.size,0,none⟩),.int .u64 150] 154)).alloc (.cells #[.int .i64 e] 56))
  (by rw [World.cell?_alloc_at _ _ _ _ (by simp)]; rfl)
  (by rw [World.cell?_alloc_lt _ _ t (by simp; omega),World.cell?_alloc_lt _ _ t (by simp; omega),World.cell?_alloc_lt _ _ t (by simp; omega),World.cell?_alloc_lt _ _ t c]; exact ht0)
  (by rw [World.frozen?_alloc_old _ _ t (by simp; omega),World.frozen?_alloc_old _ _ t (by simp; omega),World.frozen?_alloc_old _ _ t (by simp; omega),World.frozen?_alloc_old _ _ t (Nat.ne_of_lt c)]; exact hf0)
 have Q := rB; have R := oQ; have U := aG; have V := pM; have X := bR
 have g : b < w.heap.size := by
  rcases Nat.lt_or_ge b w.heap.size with h | h
  ·exact h
  ·simp [World.cell?,Array.getElem?_eq_none h] at hq
 have s : (((w.alloc (.cells #[.pointer (some t)] 132)).alloc (.cells #[.pointer (some ⟨8,132,none⟩),.pointer (some ⟨w.heap.size,0,none⟩),.int .u64 150] 154)).alloc (.cells #[.pointer (some ⟨8,132,none⟩),.pointer (some ⟨w.heap.size,0,none⟩),.int .u64 150] 154)).cell? ⟨b,d + 2,none⟩ = some (.iface 56 (.int .i64 e)) := by
  rw [World.cell?_alloc_lt _ _ ⟨b,d + 2,none⟩ (by simp; omega),World.cell?_alloc_lt _ _ ⟨b,d + 2,none⟩ (by simp; omega),World.cell?_alloc_lt _ _ ⟨b,d + 2,none⟩ (by simpa using g)]; exact hq
 go_enter Tryz.func60,Tryz.ntmps60
 go_wp2; refine wp_loop_rounds 2 ?_; rw [rounds_succ]; go_wp2; rw [rounds_succ]; go_wp2
 go_ret
 exact ⟨rfl,_,_,_,_,rfl⟩
set_option maxHeartbeats 1000000
def HasErr (w : World) : Prop := w.cell? ⟨0,0,none⟩ = some (.iface 184 (.agg #[.pointer (some ⟨8,27,none⟩)]))
theorem Hid.mk2 {p : Prop} (h : p) : Hid p := h
theorem xL {w : World} {a : Addr} {v : Value} (h : w.cell? a = some v) : a.block < w.heap.size := by
 rcases Nat.lt_or_ge a.block w.heap.size with b | b
 ·exact b
 ·simp [World.cell?,Array.getElem?_eq_none b] at h
theorem HasErr.alloc {w : World} (h : HasErr w) (o : Obj) : HasErr (w.alloc o) := by
 unfold HasErr at *
 rw [World.cell?_alloc_lt _ _ _ (xL h)]; exact h
theorem zF {w : World} {a : Addr} {v : Value} (h : w.cell? a = some v) (o : Obj) : (w.alloc o).cell? a = some v := by
 rw [World.cell?_alloc_lt _ _ _ (xL h)]; exact h
theorem yq {w : World} {a : Addr} {v : Value} {x : Bool} (h : w.cell? a = some v) (hf : w.frozen? a = x) (o : Obj) : (w.alloc o).frozen? a = x := by
 rw [World.frozen?_alloc_old _ _ _ (Nat.ne_of_lt (xL h))]; exact hf
theorem HasErr.set {w : World} (h : HasErr w) {a : Addr} (v : Value) (ha : 0 < a.block) : HasErr (w.setCell a v) := by
 unfold HasErr at *
 rw [World.cell?_setCell_other _ _ _ _ (by intro e; subst e; simp at ha)]; exact h
theorem HasErr.drewN {w : World} (h : HasErr w) (n : Nat) : HasErr (w.drewN n) := h
theorem HasErr.grown {w w' : World} {row : Option Nat} (h : HasErr w) (hg : w.grownBy w' row) (hB : ∀ k,row = some k -> 0 < k) : HasErr w' := by
 unfold HasErr at *
 have b := xL h; rw [World.cell?_of_block (w := w) (hg.block _ b (fun e => absurd (hB _ e.symm) (Nat.lt_irrefl _)))]; exact h
theorem na (n : Int) (w : World) (hg : HasErr w) :
  Calls Tryz.prog 41 #[.iface 56 (.int .i64 n)] w fun e w' => e = .returned (.tuple #[.int .i64 n,.int .i64 (-1),.int .i64 (-1)]) /\ Below w.heap.size w w' := by
 have o := xL hg; simp only at o
 have k := fun q r => ((hg.alloc q).alloc r)
 clear hg
 go_enter Tryz.func41,Tryz.ntmps41
 go_wp2_with fail; refine (mW n _ (.pointer none) _ (k _ _) (by simp)).mono ?_; rintro e j ⟨rfl,q,r,u,c⟩
 have b : j.cell? ⟨w.heap.size,0,none⟩ = some (.int .i64 0) := by rw [c]; exact zF (zF (zF (zF (by simp) _) _) _) _
 have f : j.frozen? ⟨w.heap.size,0,none⟩ = false := by rw [c]; exact yq (v := .int .i64 0) (zF (zF (zF (by simp) _) _) _) (yq (v := .int .i64 0) (zF (zF (by simp) _) _) (yq (v := .int .i64 0) (zF (by simp) _) (by simp) _) _) _
 have h : HasErr j := by rw [c]; exact (((k _ _).alloc _).alloc _).alloc _
 have g : Below w.heap.size w j := by rw [c]; exact (((((Below.refl _ _).alloc (Nat.le_refl _) _).alloc (by simp) _).alloc (by first | (simp; omega) | simp) _).alloc (by first | (simp; omega) | simp) _).alloc (by first | (simp; omega) | simp) _
 clear c k; go_wp2_with fail; refine (iH n _ (.int .i64 0) _ h b f).mono ?_; rintro e l ⟨rfl,x,z,A,B,d⟩
 have m : l.cell? ⟨w.heap.size,0,none⟩ = some (.int .i64 n) := by rw [d]; exact World.cell?_setCell_same _ _ _ (zF (zF (zF (zF b _) _) _) _)
 have s : l.frozen? ⟨w.heap.size,0,none⟩ = false := by
  rw [d,World.frozen?_setCell]
  exact yq (zF (zF (zF b _) _) _) (yq (zF (zF b _) _) (yq (zF b _) (yq b f _) _) _) _
 have i : Below w.heap.size w l := by
  rw [d]; have := g.size
  exact ((((g.alloc this _).alloc (by first | (simp; omega) | simp) _).alloc (by first | (simp; omega) | simp) _).alloc (by first | (simp; omega) | simp) _).setCell (by simp) _
 clear d b f h g o; have t := Hid.mk2 i; clear i; go_wp2
 exact bodyPost_ret (v := .tuple #[.int .i64 n,.int .i64 (-1),.int .i64 (-1)]) (by simp [results,Tryz.results41,go_sem,m]) rfl ⟨rfl,t.out.setCell (by simp) _⟩
theorem ot (q : Nat) (n tx at' : Int) (w : World) (hg : HasErr w)
  (q0 : w.cell? ⟨q,0,none⟩ = some (.int .i64 tx)) (q1 : w.cell? ⟨q,1,none⟩ = some (.int .i64 at')) (q2 : w.cell? ⟨q,2,none⟩ = some (.iface 56 (.int .i64 n))) :
  Calls Tryz.prog 41 #[.iface 103 (.pointer (some ⟨q,0,none⟩))] w fun e w' => e = .returned (.tuple #[.int .i64 n,.int .i64 tx,.int .i64 at']) /\ Below w.heap.size w w' := by
 have t := xL hg; simp only at t
 have m := fun u x => ((hg.alloc u).alloc x)
 have k := xL q0; simp only at k
 go_enter Tryz.func41,Tryz.ntmps41
 go_wp2_with fail; refine (lN ⟨q,0,none⟩ _ (.pointer none) _ (m _ _) (by simp) (by simp)).mono ?_; rintro e f ⟨rfl,u,x,E,F,d⟩
 have b : f.cell? ⟨w.heap.size,0,none⟩ = some (.int .i64 0) := by rw [d,World.cell?_setCell_other _ _ _ _ (by simp)]; exact zF (zF (zF (zF (zF (by simp) _) _) _) _) _
 have h : f.frozen? ⟨w.heap.size,0,none⟩ = false := by rw [d,World.frozen?_setCell]; exact yq (v := .int .i64 0) (zF (zF (zF (zF (by simp) _) _) _) _) (yq (v := .int .i64 0) (zF (zF (zF (by simp) _) _) _) (yq (v := .int .i64 0) (zF (zF (by simp) _) _) (yq (v := .int .i64 0) (zF (by simp) _) (by simp) _) _) _) _
 have o : f.cell? ⟨w.heap.size + 1,0,none⟩ = some (.pointer (some ⟨q,0,none⟩)) := by rw [d]; exact World.cell?_setCell_same _ _ _ (zF (v := .pointer none) (zF (zF (zF (by simp) _) _) _) _)
 have i : HasErr f := by rw [d]; exact (((((m _ _).alloc _).alloc _).alloc _).alloc _).set _ (by first | (simp; omega) | simp)
 have c : Below w.heap.size w f := by rw [d]; exact (((((((Below.refl _ _).alloc (Nat.le_refl _) _).alloc (by simp) _).alloc (by first | (simp; omega) | simp) _).alloc (by first | (simp; omega) | simp) _).alloc (by first | (simp; omega) | simp) _).alloc (by first | (simp; omega) | simp) _).setCell (by simp) _
 have A : f.cell? ⟨q,0,none⟩ = some (.int .i64 tx) := by rw [c.cell k]; exact q0
 have B : f.cell? ⟨q,1,none⟩ = some (.int .i64 at') := by rw [c.cell k]; exact q1
 have z : f.cell? ⟨q,2,none⟩ = some (.iface 56 (.int .i64 n)) := by rw [c.cell k]; exact q2
 clear d m q0 q1 q2 hg; have l := Hid.mk2 c; clear c; go_wp2_with fail
 go_quiet (fail)
 go_wp2_with fail; refine (sq n ⟨q,0,none⟩ _ (.int .i64 0) _ (i.drewN nq) (by simpa using b) (by simpa using h) (by simpa using z) rfl).mono ?_; rintro e r ⟨rfl,G,H,I,J,g⟩
 have s : r.cell? ⟨w.heap.size,0,none⟩ = some (.int .i64 n) := by rw [g]; exact World.cell?_setCell_same _ _ _ (zF (zF (zF (zF (w := f.drewN nq) (by simpa using b) _) _) _) _)
 have C : r.frozen? ⟨w.heap.size,0,none⟩ = false := by
  rw [g,World.frozen?_setCell]
  have b : (f.drewN nq).cell? ⟨w.heap.size,0,none⟩ = some (.int .i64 0) := by simpa using b
  exact yq (zF (zF (zF b _) _) _) (yq (zF (zF b _) _) (yq (zF b _) (yq b (by simpa using h) _) _) _) _
 have j : Below w.heap.size w r := by
  rw [g]; have c := l.out; have D := c.size
  exact (((((below_drewN c nq).alloc (by simpa using D) _).alloc (by first | (simp; omega) | simp) _).alloc (by first | (simp; omega) | simp) _).alloc (by first | (simp; omega) | simp) _).setCell (by simp) _
 clear g b h i t A B z o l; have l := Hid.mk2 j; clear j; go_wp2
 exact bodyPost_ret (v := .tuple #[.int .i64 n,.int .i64 tx,.int .i64 at']) (by simp [results,Tryz.results41,go_sem,s]) rfl ⟨rfl,l.out.setCell (by simp) _⟩
end Go.Proofs.YtnmkffjklpfflaaGreatDoor
