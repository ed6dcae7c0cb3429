/- A strings.Builder in a block of its own: what is written,and what it answers. -/
import Derived.Test.YtnmkffjklpfflaaGreatDoorG43
import Derived.Test.YtnmkffjklpfflaaGreatDoorG47
import Derived.Lib.Builder
import Derived.Lib.AppendStr
import Derived.Lib.UnsafeStr
import Derived.Laws.Externs
namespace Go.Proofs.YtnmkffjklpfflaaGreatDoor
open Go.RowKit
set_option maxHeartbeats 2000000
set_option maxRecDepth 1000000
abbrev BuT : TypeId := 75
abbrev U8 : TypeId := 5
structure Bd (w0 : World) (b : Nat) (w : World) (S : List UInt8) : Prop where
 gb : w0.grownBy w none
 lo : w0.heap.size <= b
 st : ∃ p v,(p = .pointer none \/ p = .pointer (some ⟨b,0,none⟩)) /\ w.heap[b]? = some (.cells #[p,v] BuT (0,0)) /\ w.ownsRow w0.heap.size U8 1 v S.length (Lib.byteCells S) /\ v.ownBlock ≠ some b
def FrB (b : Nat) (w : World) (g : Nat) : Prop := g < w.heap.size /\ g ≠ b /\ ∀ v,w.cell? ⟨b,1,none⟩ = some v -> v.ownBlock ≠ some g
theorem lu : (Tryz.prog.info? BuT).map (·.size) = some 2 := by kernel_rfl
theorem lA : liesAt Tryz.prog Tryz.prog.depth BuT (2 / Tryz.prog.cellsOf BuT) 0 BuT 1 = true := by kernel_rfl
theorem mO : (Tryz.prog.info? U8).map (fun i => (i.zero,i.size,i.bytes)) = some (some (.int .u8 0),1,1) := by kernel_rfl
theorem BuT_ne : BuT ≠ U8 := by decide
section
variable {w0 : World} {b : Nat} {w w' : World} {S X : List UInt8} {p v : Value}
theorem Bd.lt (h : Bd w0 b w S) : b < w.heap.size := by
 obtain ⟨_,_,_,c,_⟩ := h.st
 exact (Array.getElem?_eq_some_iff.1 c).1
theorem Bd.grown (h : Bd w0 b w S) (hg : w.grownBy w' none) : Bd w0 b w' S := by
 refine ⟨za h.gb hg,h.lo,?_⟩; obtain ⟨p,v,e,f,c,d⟩ := h.st
 exact ⟨p,v,e,(hg.block b h.lt (by simp)).trans f,c.kept hg (by cases v.ownBlock with | none => exact .inl rfl | some x => exact .inr (by simp)),d⟩
theorem Bd.new (w : World) : Bd w w.heap.size (w.alloc (.cells #[.pointer none,.slice none 0 0] BuT)) [] :=
 ⟨zf (zc w none) _,Nat.le_refl _,.pointer none,.slice none 0 0,.inl rfl,heap_alloc_new w _,World.ownsRow_nil _ _ _ _,by simp [Value.ownBlock]⟩
theorem nt (hg : w0.grownBy w none) (lo : w0.heap.size <= b) (o : Nat) (x : Value) : w0.grownBy (w.setCell ⟨b,o,none⟩ x) none :=
 (((Sm.of_none hg (fun g => g ≠ b)).put (fun h9 => h9 rfl) o x).mono (fun g hg (_ : True) => by omega)).gb
theorem rK {n : Nat} {cs : List Value} (own : w.ownsRow w0.heap.size U8 1 v n cs) (vne : v.ownBlock ≠ some b) (o : Nat) (x : Value) : (w.setCell ⟨b,o,none⟩ x).ownsRow w0.heap.size U8 1 v n cs := by
 obtain ⟨h,c⟩ := own; refine ⟨h,?_⟩
 rcases c with c | ⟨g,d,f,rfl,i,j,k⟩
 ·exact .inl c
 ·exact .inr ⟨g,d,f,rfl,i,(Below.heap_setCell _ _ _ _ (fun e => vne (by show some g = _; rw [show g = b from e]))).trans j,k⟩
end
theorem rZ (w0 : World) (b : Nat) (w : World) (S : List UInt8) (h : Bd w0 b w S) :
  Calls Tryz.prog 42 #[.pointer (some ⟨b,0,none⟩)] w fun e w' => e = .returned (.tuple #[]) /\ Bd w0 b w' S /\ w'.cell? ⟨b,1,none⟩ = w.cell? ⟨b,1,none⟩ /\ w'.heap.size = w.heap.size /\ ∀ g,g ≠ b -> w'.heap[g]? = w.heap[g]? := by
 have l := ze h; obtain ⟨p,v,m,d,f,c⟩ := h.st; obtain ⟨_,j,k⟩ := Option.map_eq_some_iff.1 lu
 have o : w.cell? ⟨b,0,none⟩ = some p := by rw [Lib.cell_of_heap d]; rfl
 have q : w.frozen? ⟨b,0,none⟩ = false := Lib.frozen_of_heap d 0
 have i : w.shape? b = some (BuT,2) := by simp [World.shape?,d]
 have n : Hid (Bd w0 b (w.setCell ⟨b,0,none⟩ (.pointer (some ⟨b,0,none⟩))) S) := ⟨nt h.gb h.lo _ _,h.lo,_,v,.inr rfl,by simp [World.setCell,Array.getElem?_modify,d],rK f c _ _,c⟩; clear f c h d
 rcases m with rfl | rfl
 ·go_enter Tryz.func42,Tryz.ntmps42
  go_wp2; rw [Lib.run_to_unsafe w ⟨b,0,none⟩ Tryz.underlying73 Tryz.underlying133 j (by rw [k]; decide) i (Nat.zero_lt_succ 1)]; simp only [Result.andThen]; rw [Oper.upon_value]; go_wp2; rw [run_callFunc_extern Tryz.func61 (by kernel_rfl) (by kernel_rfl) (by kernel_rfl) (e := Extern.AbiNoEscape.same) (by kernel_rfl)]; rw [Lib.run_noEscape]; simp only [Result.andThen]; rw [Oper.upon_value]; go_wp2; rw [Lib.run_from_unsafe w ⟨b,0,none⟩ Tryz.underlying133 Tryz.underlying73 j i lA]; simp only [Result.andThen]; rw [Oper.upon_value]; go_wp2
  go_end0
  exact ⟨rfl,n.out,World.cell?_setCell_other _ _ _ _ (by simp),by simp [World.setCell],fun g hg => Below.heap_setCell _ _ _ _ hg⟩
 ·go_enter Tryz.func42,Tryz.ntmps42
  go_wp2; rw [Lib.run_neq_ptr_same w _ Tryz.underlying73 j]; go_wp2
  go_end0
  exact ⟨rfl,l.out,rfl,rfl,fun _ _ => rfl⟩
theorem fk (a b : List UInt8) : Lib.byteCells (a ++ b) = Lib.byteCells a ++ Lib.byteCells b := by simp [Lib.byteCells]
theorem oL {w : World} {ops : Array Oper} {rest : List Oper} {o : Oper} {a : Act} {Q : Exit -> Act -> World -> Prop} (hgd : o.guard = none) (sl x : Operand)
  (ho : o.op = .call { callee := .builtin .append,args := #[sl,x],argTypes := #[65,9] }) {w0 : World} {b : Nat} {S : List UInt8} (h : Bd w0 b w S) (hc : w.cell? ⟨b,1,none⟩ = some (a.eval sl)) (s : List UInt8) (hx : a.eval x = .string ⟨s.toArray⟩) (hlen : S.length + s.length <= 1000000000)
  (k : ∀ q n c w' z,Bd w0 b (w'.setCell ⟨b,1,none⟩ (.slice q n c)) (S ++ s) -> (∀ g,FrB b w g -> (w'.setCell ⟨b,1,none⟩ (.slice q n c)).heap[g]? = w.heap[g]?) -> w'.frozen? ⟨b,1,none⟩ = false -> w'.cell? ⟨b,1,none⟩ = some z -> wpList Tryz.prog ops Q rest (a.put o.dst (.slice q n c)) w') : wpList Tryz.prog ops Q (o :: rest) a w := by
 obtain ⟨D,E,r,t,u⟩ := info_parts mO; obtain ⟨p,v,F,A,own,vne⟩ := h.st
 have G : a.eval sl = v := by
  rw [Lib.cell_of_heap A] at hc
  simpa using hc.symm
 have j : ByteArray.size ⟨s.toArray⟩ = s.length := by simp [ByteArray.size]
 refine wpList_plain hgd fun K hK => ?_
 obtain ⟨B,w',H,C,l,L⟩ := Lib.run_append_own_string (P := Tryz.prog) w w0.heap.size 65 9 o.type U8 D Tryz.underlying65 Tryz.underlying9 E r t u v S.length _ own ⟨s.toArray⟩ (by rw [j]; unfold maxLen; omega) (by rw [j]; omega) h.gb.size
 have f : w'.ownsRow w0.heap.size U8 1 B (S ++ s).length (Lib.byteCells (S ++ s)) := by
  rw [List.length_append,fk,<- j]
  exact C
 have d : w'.heap[b]? = some (.cells #[p,v] BuT (0,0)) := (l.block b h.lt (fun e => vne e.symm)).trans A; have i : B.ownBlock ≠ some b := Lib.ownBlock_ne f d BuT_ne; have m : w0.grownBy w' none := ⟨l.os.trans h.gb.os,l.tape.trans h.gb.tape,l.output.trans h.gb.output,Nat.le_trans h.gb.size l.size,fun k hk _ => (l.block k (Nat.lt_of_lt_of_le hk h.gb.size) (fun e => by have := (own.lt k e.symm).1; omega)).trans (h.gb.block k hk (by simp))⟩
 unfold Oper.wp execOp
 simp only [ho,resolve,invoke,builtin,Sem.run_bind,Sem.run_pure,Result.andThen_ok,List.map_toArray,List.map_cons,List.map_nil,G,hx,H]
 obtain ⟨q,n,c,rfl⟩ : ∃ q n c,B = .slice q n c := by
  rcases C.2 with ⟨e,_⟩ | ⟨g,I,J,e,_⟩
  ·exact ⟨_,_,_,e⟩
  ·exact ⟨_,_,_,e⟩
 exact hK _ _ (k q n c w' v ⟨nt m h.lo _ _,h.lo,p,_,F,by simp [World.setCell,Array.getElem?_modify,d],rK f i _ _,i⟩ (fun g hg => (Below.heap_setCell _ _ _ _ hg.2.1).trans (l.block g hg.1 (fun e => hg.2.2 v (by rw [Lib.cell_of_heap A]; rfl) e.symm))) (Lib.frozen_of_heap d 1) (by rw [Lib.cell_of_heap d]; rfl))
theorem yW (w0 : World) (b : Nat) (w : World) (S s : List UInt8) (h : Bd w0 b w S) (hlen : S.length + s.length <= 1000000000) :
  Calls Tryz.prog 30 #[.pointer (some ⟨b,0,none⟩),.string ⟨s.toArray⟩] w fun e w' => e = .returned (.tuple #[.int .i64 s.length,.nilIface]) /\ Bd w0 b w' (S ++ s) /\ ∀ g,FrB b w g -> w'.heap[g]? = w.heap[g]? := by
 have r := ze (rZ w0 b w S h); clear h
 go_enter Tryz.func30,Tryz.ntmps30
 go_wp2_with fail; go_at_call 42; refine r.out.mono ?_; rintro e l ⟨rfl,k,d,f,i⟩
 have j : Hid (∀ g,FrB b w g -> FrB b l g /\ l.heap[g]? = w.heap[g]?) := fun g hg => ⟨⟨by rw [f]; exact hg.1,hg.2.1,by rw [d]; exact hg.2.2⟩,i g hg.2.1⟩
 clear d f i
 obtain ⟨z,t⟩ : ∃ z,l.cell? ⟨b,1,none⟩ = some z := by
  obtain ⟨_,v,_,u,_⟩ := k.st
  exact ⟨v,by rw [Lib.cell_of_heap u]; rfl⟩
 have k := ze k
 go_wp2_with (at_builtin; refine oL rfl _ _ rfl k.out t s rfl hlen ?_)
 intro q n c x y m o A B; have m := ze m; have o := ze o; go_wp2_with fail
 go_ret2
 exact ⟨rfl,m.out,fun g hg => (o.out g (j.out g hg).1).trans (j.out g hg).2⟩
theorem vK (w0 : World) (b : Nat) (w : World) (S : List UInt8) (h : Bd w0 b w S) :
  Calls Tryz.prog 32 #[.pointer (some ⟨b,0,none⟩)] w fun e w' => e = .returned (.string ⟨S.toArray⟩) /\ w0.grownBy w' none := by
 obtain ⟨_,v,j,g,d,f⟩ := h.st
 have i : (Lib.byteCells S).length = S.length := by simp [Lib.byteCells]
 refine (Tryz.Builder_String_any w0.heap.size b S w ?_ h.gb.size).mono ?_
 ·rcases j with rfl | rfl
  ·exact .inl ⟨h.lo,v,g,by rw [i]; exact d,f⟩
  ·exact .inr ⟨h.lo,v,g,by rw [i]; exact d,f⟩
 ·rintro e w' ⟨rfl,c⟩
  exact ⟨rfl,⟨c.os.trans h.gb.os,c.tape.trans h.gb.tape,c.output.trans h.gb.output,Nat.le_trans h.gb.size c.size,fun k hk _ => (c.block k hk).trans (h.gb.block k hk (by simp))⟩⟩
end Go.Proofs.YtnmkffjklpfflaaGreatDoor
