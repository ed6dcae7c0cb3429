/- A strings.Builder in a block of its own: what is written,and what it answers. -/
import Derived.Test.YtnmkffjklpfflaaGreatDoorG45
import Derived.Test.YtnmkffjklpfflaaGreatDoorG47
import Derived.Test.YtnmkffjklpfflaaGreatDoorG49
import Derived.Test.YtnmkffjklpfflaaGreatDoorK10
import Derived.Laws.Externs
import Derived.Lib.AppendStr
import Derived.Lib.Builder
import Derived.Lib.UnsafeStr
namespace Go.Proofs.YtnmkffjklpfflaaGreatDoor
open Go.RowKit
set_option maxHeartbeats 2000000
set_option maxRecDepth 1000000
abbrev BuT : TypeId := 75
abbrev U8 : TypeId := 5
structure Bd (w0 : World) (b : Nat) (w : World) (S : List UInt8) : Prop where
 gb : w0.grownBy w none
 lo : w0.heap.size <= b
 st : ∃ p v,(p = .pointer none \/ p = .pointer (some ⟨b,0,none⟩)) /\ w.heap[b]? = some (.cells #[p,v] BuT (0,0)) /\ w.ownsRow w0.heap.size U8 1 v S.length (Lib.byteCells S) /\ v.ownBlock ≠ some b
def FrB (b : Nat) (w : World) (g : Nat) : Prop := g < w.heap.size /\ g ≠ b /\ ∀ v,w.cell? ⟨b,1,none⟩ = some v -> v.ownBlock ≠ some g
theorem lu : (Tryz.prog.info? BuT).map (·.size) = some 2 := by kernel_rfl
theorem lA : liesAt Tryz.prog Tryz.prog.depth BuT (2 / Tryz.prog.cellsOf BuT) 0 BuT 1 = true := by kernel_rfl
theorem mO : (Tryz.prog.info? U8).map (fun i => (i.zero,i.size,i.bytes)) = some (some (.int .u8 0),1,1) := by kernel_rfl
theorem BuT_ne : BuT ≠ U8 := by decide
section
variable {w0 : World} {b : Nat} {w w' : World} {S X : List UInt8} {p v : Value}
theorem Bd.lt (h : Bd w0 b w S) : b < w.heap.size := by
 obtain ⟨_,_,_,c,_⟩ := h.st
 exact (Array.getElem?_eq_some_iff.1 c).1
theorem Bd.grown (h : Bd w0 b w S) (hg : w.grownBy w' none) : Bd w0 b w' S := by
 refine ⟨za h.gb hg,h.lo,?_⟩; obtain ⟨p,v,e,f,c,d⟩ := h.st
 exact ⟨p,v,e,(hg.block b h.lt (by simp)).trans f,c.kept hg (by cases v.ownBlock with | none => exact .inl rfl | some x => exact .inr (by simp)),d⟩
theorem Bd.new (w : World) : Bd w w.heap.size (w.alloc (.cells #[.pointer none,.slice none 0 0] BuT)) [] :=
 ⟨zf (zc w none) _,Nat.le_refl _,.pointer none,.slice none 0 0,.inl rfl,heap_alloc_new w _,World.ownsRow_nil _ _ _ _,by simp [Value.ownBlock]⟩
theorem nt (hg : w0.grownBy w none) (lo : w0.heap.size <= b) (o : Nat) (x : Value) : w0.grownBy (w.setCell ⟨b,o,none⟩ x) none :=
 (((Sm.of_none hg (fun g => g ≠ b)).put (fun h9 => h9 rfl) o x).mono (fun g hg (_ : True) => by omega)).gb
theorem rK {n : Nat} {cs : List Value} (own : w.ownsRow w0.heap.size U8 1 v n cs) (vne : v.ownBlock ≠ some b) (o : Nat) (x : Value) : (w.setCell ⟨b,o,none⟩ x).ownsRow w0.heap.size U8 1 v n cs := by
 obtain ⟨h,c⟩ := own; refine ⟨h,?_⟩
 rcases c with c | ⟨g,d,f,rfl,i,j,k⟩
 ·exact .inl c
 ·exact .inr ⟨g,d,f,rfl,i,(Below.heap_setCell _ _ _ _ (fun e => vne (by show some g = _; rw [show g = b from e]))).trans j,k⟩
end
theorem rZ (w0 : World) (b : Nat) (w : World) (S : List UInt8) (h : Bd w0 b w S) :
  Calls Tryz.prog 42 #[.pointer (some ⟨b,0,none⟩)] w fun e w' => e = .returned (.tuple #[]) /\ Bd w0 b w' S /\ w'.cell? ⟨b,1,none⟩ = w.cell? ⟨b,1,none⟩ /\ w'.heap.size = w.heap.size /\ ∀ g,g ≠ b -> w'.heap[g]? = w.heap[g]? := by
 have l := ze h; obtain ⟨p,v,m,d,f,c⟩ := h.st; obtain ⟨_,j,k⟩ := Option.map_eq_some_iff.1 lu
 have o : w.cell? ⟨b,0,none⟩ = some p := by rw [Lib.cell_of_heap d]; rfl
 have q : w.frozen? ⟨b,0,none⟩ = false := Lib.frozen_of_heap d 0
 have i : w.shape? b = some (BuT,2) := by simp [World.shape?,d]
 have n : Hid (Bd w0 b (w.setCell ⟨b,0,none⟩ (.pointer (some ⟨b,0,none⟩))) S) := ⟨nt h.gb h.lo _ _,h.lo,_,v,.inr rfl,by simp [World.setCell,Array.getElem?_modify,d],rK f c _ _,c⟩; clear f c h d
 rcases m with rfl | rfl
 ·go_enter Tryz.func42,Tryz.ntmps42
  go_wp2; rw [Lib.run_to_unsafe w ⟨b,0,none⟩ Tryz.underlying73 Tryz.underlying133 j (by rw [k]; decide) i (Nat.zero_lt_succ 1)]; simp only [Result.andThen]; rw [Oper.upon_value]; go_wp2; rw [run_callFunc_extern Tryz.func61 (by kernel_rfl) (by kernel_rfl) (by kernel_rfl) (e := Extern.AbiNoEscape.same) (by kernel_rfl)]; rw [Lib.run_noEscape]; simp only [Result.andThen]; rw [Oper.upon_value]; go_wp2; rw [Lib.run_from_unsafe w ⟨b,0,none⟩ Tryz.underlying133 Tryz.underlying73 j i lA]; simp only [Result.andThen]; rw [Oper.upon_value]; go_wp2
  go_end0
  exact ⟨rfl,n.out,World.cell?_setCell_other _ _ _ _ (by simp),by simp [World.setCell],fun g hg => Below.heap_setCell _ _ _ _ hg⟩
 ·go_enter Tryz.func42,Tryz.ntmps42
  go_wp2; rw [Lib.run_neq_ptr_same w _ Tryz.underlying73 j]; go_wp2
  go_end0
  exact ⟨rfl,l.out,rfl,rfl,fun _ _ => rfl⟩
theorem fk (a b : List UInt8) : Lib.byteCells (a ++ b) = Lib.byteCells a ++ Lib.byteCells b := by simp [Lib.byteCells]
theorem oL {w : World} {ops : Array Oper} {rest : List Oper} {o : Oper} {a : Act} {Q : Exit -> Act -> World -> Prop} (hgd : o.guard = none) (sl x : Operand)
  (ho : o.op = .call { callee := .builtin .append,args := #[sl,x],argTypes := #[65,9] }) {w0 : World} {b : Nat} {S : List UInt8} (h : Bd w0 b w S) (hc : w.cell? ⟨b,1,none⟩ = some (a.eval sl)) (s : List UInt8) (hx : a.eval x = .string ⟨s.toArray⟩) (hlen : S.length + s.length <= 1000000000)
  (k : ∀ q n c w' z,Bd w0 b (w'.setCell ⟨b,1,none⟩ (.slice q n c)) (S ++ s) -> (∀ g,FrB b w g -> (w'.setCell ⟨b,1,none⟩ (.slice q n c)).heap[g]? = w.heap[g]?) -> w'.frozen? ⟨b,1,none⟩ = false -> w'.cell? ⟨b,1,none⟩ = some z -> wpList Tryz.prog ops Q rest (a.put o.dst (.slice q n c)) w') : wpList Tryz.prog ops Q (o :: rest) a w := by
 obtain ⟨D,E,r,t,u⟩ := info_parts mO; obtain ⟨p,v,F,A,own,vne⟩ := h.st
 have G : a.eval sl = v := by
  rw [Lib.cell_of_heap A] at hc
  simpa using hc.symm
 have j : ByteArray.size ⟨s.toArray⟩ = s.length := by simp [ByteArray.size]
 refine wpList_plain hgd fun K hK => ?_
 obtain ⟨B,w',H,C,l,L⟩ := Lib.run_append_own_string (P := Tryz.prog) w w0.heap.size 65 9 o.type U8 D Tryz.underlying65 Tryz.underlying9 E r t u v S.length _ own ⟨s.toArray⟩ (by rw [j]; unfold maxLen; omega) (by rw [j]; omega) h.gb.size
 have f : w'.ownsRow w0.heap.size U8 1 B (S ++ s).length (Lib.byteCells (S ++ s)) := by
  rw [List.length_append,fk,<- j]
  exact C
 have d : w'.heap[b]? = some (.cells #[p,v] BuT (0,0)) := (l.block b h.lt (fun e => vne e.symm)).trans A; have i : B.ownBlock ≠ some b := Lib.ownBlock_ne f d BuT_ne; have m : w0.grownBy w' none := ⟨l.os.trans h.gb.os,l.tape.trans h.gb.tape,l.output.trans h.gb.output,Nat.le_trans h.gb.size l.size,fun k hk _ => (l.block k (Nat.lt_of_lt_of_le hk h.gb.size) (fun e => by have := (own.lt k e.symm).1; omega)).trans (h.gb.block k hk (by simp))⟩
 unfold Oper.wp execOp
 simp only [ho,resolve,invoke,builtin,Sem.run_bind,Sem.run_pure,Result.andThen_ok,List.map_toArray,List.map_cons,List.map_nil,G,hx,H]
 obtain ⟨q,n,c,rfl⟩ : ∃ q n c,B = .slice q n c := by
  rcases C.2 with ⟨e,_⟩ | ⟨g,I,J,e,_⟩
  ·exact ⟨_,_,_,e⟩
  ·exact ⟨_,_,_,e⟩
 exact hK _ _ (k q n c w' v ⟨nt m h.lo _ _,h.lo,p,_,F,by simp [World.setCell,Array.getElem?_modify,d],rK f i _ _,i⟩ (fun g hg => (Below.heap_setCell _ _ _ _ hg.2.1).trans (l.block g hg.1 (fun e => hg.2.2 v (by rw [Lib.cell_of_heap A]; rfl) e.symm))) (Lib.frozen_of_heap d 1) (by rw [Lib.cell_of_heap d]; rfl))
theorem yW (w0 : World) (b : Nat) (w : World) (S s : List UInt8) (h : Bd w0 b w S) (hlen : S.length + s.length <= 1000000000) :
  Calls Tryz.prog 30 #[.pointer (some ⟨b,0,none⟩),.string ⟨s.toArray⟩] w fun e w' => e = .returned (.tuple #[.int .i64 s.length,.nilIface]) /\ Bd w0 b w' (S ++ s) /\ ∀ g,FrB b w g -> w'.heap[g]? = w.heap[g]? := by
 have r := ze (rZ w0 b w S h); clear h
 go_enter Tryz.func30,Tryz.ntmps30
 go_wp2_with fail; go_at_call 42; refine r.out.mono ?_; rintro e l ⟨rfl,k,d,f,i⟩
 have j : Hid (∀ g,FrB b w g -> FrB b l g /\ l.heap[g]? = w.heap[g]?) := fun g hg => ⟨⟨by rw [f]; exact hg.1,hg.2.1,by rw [d]; exact hg.2.2⟩,i g hg.2.1⟩
 clear d f i
 obtain ⟨z,t⟩ : ∃ z,l.cell? ⟨b,1,none⟩ = some z := by
  obtain ⟨_,v,_,u,_⟩ := k.st
  exact ⟨v,by rw [Lib.cell_of_heap u]; rfl⟩
 have k := ze k
 go_wp2_with (at_builtin; refine oL rfl _ _ rfl k.out t s rfl hlen ?_)
 intro q n c x y m o A B; have m := ze m; have o := ze o; go_wp2_with fail
 go_ret2
 exact ⟨rfl,m.out,fun g hg => (o.out g (j.out g hg).1).trans (j.out g hg).2⟩
theorem vK (w0 : World) (b : Nat) (w : World) (S : List UInt8) (h : Bd w0 b w S) :
  Calls Tryz.prog 32 #[.pointer (some ⟨b,0,none⟩)] w fun e w' => e = .returned (.string ⟨S.toArray⟩) /\ w0.grownBy w' none := by
 obtain ⟨_,v,j,g,d,f⟩ := h.st
 have i : (Lib.byteCells S).length = S.length := by simp [Lib.byteCells]
 refine (Tryz.Builder_String_any w0.heap.size b S w ?_ h.gb.size).mono ?_
 ·rcases j with rfl | rfl
  ·exact .inl ⟨h.lo,v,g,by rw [i]; exact d,f⟩
  ·exact .inr ⟨h.lo,v,g,by rw [i]; exact d,f⟩
 ·rintro e w' ⟨rfl,c⟩
  exact ⟨rfl,⟨c.os.trans h.gb.os,c.tape.trans h.gb.tape,c.output.trans h.gb.output,Nat.le_trans h.gb.size c.size,fun k hk _ => (c.block k hk).trans (h.gb.block k hk (by simp))⟩⟩
theorem oz : ∀ (f n : Nat),n < 10 ^ f -> 0 < f -> tU f n = qg n := by
 intro f
 induction f with
 | zero => intro n _ h; omega
 | succ f ih =>
  intro n h _
  by_cases b : n < 10
  ·rw [xQ b]; simp [tU,b]
  ·rw [kk b]
   have d : n / 10 < 10 ^ f := by rw [Nat.pow_succ] at h; omega
   have c : 0 < f := by
    rcases Nat.eq_zero_or_pos f with c | c
    ·subst c; simp at h; omega
    ·exact c
   simp [tU,b,ih _ d c]
theorem od (n : Nat) (hn : n <= 2147483647) : vX n = qg n := oz 11 n (by omega) (by omega)
def PT (w : World) : Prop := Lib.TabIs Tryz.prog w "internal/strconv.uint64pow10" .u64 Lib.pow10Tab
theorem mB : Tryz.prog.globalNamed "internal/strconv.uint64pow10" = some 3 := by kernel_rfl
theorem PT.kept {w w' : World} (h : PT w) (hg : w.grownBy w' none) : PT w' := by
 have c := Lib.TabIs.cell h mB 0 (by decide); have b : 3 < w.heap.size := World.block_lt_of_cell? w ⟨_,0,none⟩ c; have d : Below w.heap.size w w' := ⟨hg.os,hg.tape,hg.output,hg.size,fun i hi => hg.block i hi (by simp)⟩
 exact var?_below d mB b h
theorem mJ (n : Nat) : Lib.decDigits n = qg n := by
 induction n using Nat.strongRecOn with
 | ind n ih =>
  by_cases h : n < 10
  ·rw [xQ h,Lib.decDigits,dif_pos h]
  ·rw [kk h,Lib.decDigits,dif_neg h,ih (n / 10) (by omega)]
theorem jd (m : Int) (h0 : 0 <= m) (h1 : m <= 2147483647) (w : World) (hp : PT w) : Calls Tryz.prog 44 #[.int .i64 m] w (Sy w (.string ⟨(vX m).toArray⟩)) := by
 refine (Tryz.strconv_Itoa m (by omega) (by omega) w hp).mono ?_; rintro e d ⟨rfl,k,os,rfl⟩; obtain ⟨n,rfl⟩ := Int.eq_ofNat_of_zero_le h0; refine ⟨?_,?_⟩
 ·rw [od n (by omega),Lib.itoa,if_neg (by omega),<- mJ]
  rfl
 ·have b := zo (zc w none) k
  exact ⟨b.os,b.tape,b.output,by simp [Sort.grow],fun i hi hn => by
   have c := b.block i hi hn; rw [<- c]; simp only [Sort.grow]; have : i < (w.drewN k).heap.size := Nat.lt_of_lt_of_le hi b.size
   rw [Array.getElem?_append_left this]⟩
set_option maxHeartbeats 4000000
section
variable {ρ : Lay} {w w' w1 : World} {S : KS} {b : Nat} {c : KSc}
theorem xx (h : KM ρ w S) (hk : S.okB = true) {t : Nat} (ht : t < S.tys.length) (hl : (S.nameT (S.ty t)).length <= 5000) :
  Calls Tryz.prog 43 #[.pointer (some ⟨ρ.ty t,0,none⟩)] w (Sy w (.string ⟨(S.nameT (S.ty t)).toArray⟩)) := by
 obtain ⟨A,g,-⟩ := (h.ty t ht).bk; have r := ze h; have B := ze hk; obtain ⟨Y,i⟩ : ∃ z,z = (S.ty t).name := ⟨_,rfl⟩
 have j : Hid (w.cell? ⟨ρ.ty t,1,none⟩ = some (.string ⟨Y.toArray⟩)) := by rw [i]; exact g.c 1 _ rfl
 have d := g.c 2 _ rfl
 have e : S.nameT (S.ty t) = match (S.ty t).home with | none => Y | some m => (S.md m).name ++ [46] ++ Y := by rw [i]; rfl
 have k := (KS.okIn hk).tyHome t ht; clear h hk g i; cases f : (S.ty t).home with
 | none =>
  rw [f] at e d; rw [show S.nameT (S.ty t) = Y from e]
  replace d : w.cell? ⟨ρ.ty t,2,none⟩ = some (.pointer none) := d
  replace j : w.cell? ⟨ρ.ty t,1,none⟩ = some (.string ⟨Y.toArray⟩) := j.out
  clear e k
  go_enter Tryz.func43,Tryz.ntmps43
  go_wp2
  go_ret
  exact ⟨rfl,zc w none⟩
 | some m =>
  rw [f] at e d; have l := k m f; rw [show S.nameT (S.ty t) = (S.md m).name ++ [46] ++ Y from e] at hl ⊢
  replace d : w.cell? ⟨ρ.ty t,2,none⟩ = some (.pointer (some ⟨ρ.md m,0,none⟩)) := d
  obtain ⟨C,D,E,o,-⟩ := (r.out.md m l).bk; obtain ⟨X,n⟩ : ∃ z,z = (S.md m).name := ⟨_,rfl⟩
  have s : Hid (w.cell? ⟨ρ.md m,5,none⟩ = some (.string ⟨X.toArray⟩)) := by rw [n]; exact o.c 5 _ rfl
  rw [<- n] at hl ⊢; simp only [List.length_append,List.length_cons,List.length_nil] at hl; have u := ze d; clear o n e k f
  go_enter Tryz.func43,Tryz.ntmps43
  go_wp2_with fail; refine wp_region_held_drew (S := fun w9 => w.grownBy w9 none) (by kernel_rfl) ?_ (fun hHeld => ?_)
  ·exact zh (zc w none)
  refine kQ 0 12 (.pointer (some ⟨ρ.ty t,0,none⟩)) hHeld ?_; simp only [qA,qB,qC,qD]; refine kQ 1 13 (.pointer (some ⟨ρ.ty t,0,none⟩)) hHeld ?_; simp only [qA,qB,qC,qD]; refine kQ 2 14 (.pointer (some ⟨ρ.ty t,2,none⟩)) hHeld ?_; simp only [qA,qB,qC,qD]; refine dk 3 (some 15) (.pointer (some ⟨ρ.md m,0,none⟩)) rfl rfl (fun w9 hS => by have q := zi hS u.out; go_simp) hHeld ?_; simp only [qA,qB,qC,qD]; refine kQ 4 16 (.pointer (some ⟨ρ.md m,0,none⟩)) hHeld ?_; simp only [qA,qB,qC,qD]; refine kQ 5 17 (.pointer (some ⟨ρ.md m,5,none⟩)) hHeld ?_; simp only [qA,qB,qC,qD]; refine dk 6 (some 18) (.string ⟨X.toArray⟩) rfl rfl (fun w9 hS => by have q := zi hS s.out; go_simp) hHeld ?_; simp only [qA,qB,qC,qD]
  have v : ¬ (9223372036854775807 < X.length + 1) := by omega
  refine kQ 7 19 (.string ((⟨List.toArray X⟩ : ByteArray) ++ (⟨List.toArray [46]⟩ : ByteArray))) hHeld ?_; simp only [qA,qB,qC,qD]; refine kQ 8 20 (.pointer (some ⟨ρ.ty t,0,none⟩)) hHeld ?_; simp only [qA,qB,qC,qD]; refine kQ 9 21 (.pointer (some ⟨ρ.ty t,0,none⟩)) hHeld ?_; simp only [qA,qB,qC,qD]; refine kQ 10 22 (.pointer (some ⟨ρ.ty t,1,none⟩)) hHeld ?_; simp only [qA,qB,qC,qD]; refine dk 11 (some 23) (.string ⟨Y.toArray⟩) rfl rfl (fun w9 hS => by have q := zi hS j.out; go_simp) hHeld ?_; simp only [qA,qB,qC,qD]
  have x : ¬ (9223372036854775807 < X.length + 1 + Y.length) := by omega
  refine kQ 12 24 (.string (((⟨List.toArray X⟩ : ByteArray) ++ (⟨List.toArray [46]⟩ : ByteArray)) ++ (⟨List.toArray Y⟩ : ByteArray))) hHeld ?_; simp only [qA,qB,qC,qD]; refine kQ 13 2 (.string (((⟨List.toArray X⟩ : ByteArray) ++ (⟨List.toArray [46]⟩ : ByteArray)) ++ (⟨List.toArray Y⟩ : ByteArray))) hHeld ?_; simp only [qA,qB,qC,qD]; refine wpAnyH_done (by kernel_rfl) ?_ _; clear hHeld; go_wp2_with fail
  go_ret
  refine ⟨(show Ending.returned (.string (((⟨List.toArray X⟩ : ByteArray) ++ (⟨List.toArray [46]⟩ : ByteArray)) ++ (⟨List.toArray Y⟩ : ByteArray))) = _ from xS ?_),(zh (zc w none))⟩
  repeat rw [vS]
  try simp only [List.append_assoc]
  try rfl
theorem kV (x : Nm) (e : Bool) (hx : x.length <= 100000) : Calls Tryz.prog 45 #[.string ⟨x.toArray⟩,.bool e] w (Sy w (.string ⟨(kS x e).toArray⟩)) := by
 have d : ¬ (9223372036854775807 < x.length + 1) := by omega
 cases e
 ·skip
  go_enter Tryz.func45,Tryz.ntmps45
  go_wp2
  go_ret
  exact ⟨rfl,zc w none⟩
 ·skip
  go_enter Tryz.func45,Tryz.ntmps45
  go_wp2
  go_ret
  refine ⟨(show Ending.returned (.string ((⟨List.toArray x⟩ : ByteArray) ++ (⟨List.toArray [42]⟩ : ByteArray))) = _ from xS ?_),zc w none⟩; rw [vS]
  rfl
end
section
variable {ρ : Lay} {w w' w1 : World} {S : KS} {b : Nat} {c : KSc}
theorem ky {α : Type} (f : α -> Nm) {l : List α} {j : Nat} {v : α} (hv : l[j]? = some v) : (l.take (j + 1)).flatMap f = (l.take j).flatMap f ++ f v := by
 obtain ⟨d,rfl⟩ := List.getElem?_eq_some_iff.1 hv; rw [List.take_succ_eq_append_getElem d,List.flatMap_append]
 simp
theorem qI {α : Type} (f : α -> Nm) : ∀ (l : List α) (j : Nat),((l.take j).flatMap f).length <= (l.flatMap f).length
 | [],j => by simp
 | a :: l,0 => by simp
 | a :: l,j + 1 => by
  rw [List.take_succ_cons,List.flatMap_cons,List.flatMap_cons,List.length_append,List.length_append]; have := qI f l j
  omega
theorem uS {α : Type} (f : α -> Nm) {a : α} : ∀ {l : List α},a ∈ l -> (f a).length <= (l.flatMap f).length
 | b :: l,h => by
  rw [List.flatMap_cons,List.length_append]
  rcases List.mem_cons.1 h with rfl | h
  ·omega
  ·have := uS f h
   omega
theorem vm (a b : List UInt8) : (⟨a.toArray⟩ : ByteArray) ++ ⟨b.toArray⟩ = ⟨(a ++ b).toArray⟩ := vS a b
theorem Bd.cell {w0 : World} {b : Nat} {w : World} {X : List UInt8} (h : Bd w0 b w X) {a : Addr} {v : Value} (hc : w0.cell? a = some v) : w.cell? a = some v := zi h.gb hc
theorem ql (h : KM ρ w S) (hk : S.okB = true) (hp : PT w) {t : Nat} (ht : t < S.tys.length) (hl : (S.recT (S.ty t)).length <= 5000) (hw0 : 0 <= (S.ty t).words /\ (S.ty t).words <= 1000000) (hfd : ∀ d ∈ (S.ty t).fields,0 <= d.first /\ d.first <= 1000000) (hfn : ∀ d ∈ (S.ty t).fields,(S.nameT (S.ty d.ty)).length <= 5000) (hof : ∀ j,(S.ty t).of = some j -> (S.nameT (S.ty j)).length <= 5000) :
  Calls Tryz.prog 63 #[.pointer (some ⟨ρ.ty t,0,none⟩)] w (Sy w (.string ⟨(S.recT (S.ty t)).toArray⟩)) := by
 obtain ⟨_,tb,J⟩ := (h.ty t ht).bk; have HM := ze h; have HK := ze hk; have HP := ze hp; have TB := ze tb; obtain ⟨fa,fc,rfl,a6,a7,a8⟩ := J.read; have Z := ze a8; have a0 := ze hfd; have a9 := ze hfn; have b0 := ze hof
 unfold maxLen at a7
 obtain ⟨wd,A⟩ : ∃ z,z = (S.ty t).words := ⟨_,rfl⟩
 have y3 : Hid (w.cell? ⟨ρ.ty t,3,none⟩ = some (.int .i64 wd)) := by rw [A]; exact tb.c 3 _ rfl
 obtain ⟨B,a1⟩ : ∃ z,z = vX wd := ⟨_,rfl⟩
 have hR : S.recT (S.ty t) = xi ++ B ++ S.ofT (S.ty t) ++ (S.ty t).fields.flatMap S.fldT := by rw [a1,A]; rfl
 rw [<- A] at hw0; rw [hR] at hl ⊢
 have C : xi.length = 7 := rfl
 simp only [List.length_append,C] at hl
 have c8 : Hid (∀ w9,w.grownBy w9 none -> Calls Tryz.prog 44 #[.int .i64 wd] w9 (Sy w9 (.string ⟨B.toArray⟩))) := fun w9 G => by rw [a1]; exact jd wd hw0.1 (by omega) w9 (hp.kept G)
 have K := (KS.okIn hk).tyOf t ht; have L := (KS.okIn hk).tyFd t ht; have O := ze L; have b1 := ze K; have HR := ze hR; clear h hk hp tb J a8 hfd hfn hof A a1 K L hR; obtain ⟨w0,r⟩ : ∃ z,z = w.alloc (.cells #[.pointer none,.slice none 0 0] BuT) := ⟨_,rfl⟩
 have b2 : Hid (Bd w w.heap.size w0 []) := by rw [r]; exact Bd.new w
 go_enter Tryz.func63,Tryz.ntmps63
 have e3 := y3.out; have zt : ρ.ty t < w.heap.size := TB.out.lt; go_wp2_with fail; rw [<- r]; clear r e3; go_at_call 44; refine (c8.out _ b2.out.gb).mono ?_; rintro e w1 ⟨rfl,b3⟩; have c9 := ze (b2.out.grown b3); clear b3
 have d4 : ¬ (9223372036854775807 < 7 + B.length) := by omega
 have d5 := ze (yW w w.heap.size w1 [] (xi ++ B) c9.out (by simp only [List.length_append,List.length_nil,C]; omega)); go_wp2_with fail; go_at_call 30; rw [vm,show [(82 : UInt8),69,67,79,82,68,32] = xi from rfl]; refine d5.out.mono ?_; rintro e E ⟨rfl,a2,-⟩; have a3 : Hid (Bd w w.heap.size E (xi ++ B)) := a2; have g2 := a2.gb; clear a2; have y5 : E.cell? ⟨ρ.ty t,5,none⟩ = some (ρ.tyP (S.ty t).of) := zi g2 (TB.out.c 5 _ rfl); clear g2
 have b4 : Sem.run Tryz.prog (eqGuard .neq 47 (.tmp 16) (.const (.pointer none)) (ρ.tyP (S.ty t).of) (.pointer none)) E = .ok () E := by cases (S.ty t).of <;> rfl
 have b5 : Sem.run Tryz.prog (binOp .neq 47 (ρ.tyP (S.ty t).of) (.pointer none)) E = .ok (.bool (S.ty t).of.isSome) E := by
  cases (S.ty t).of with
  | none => first | rfl | simp [go_sem,Lay.tyP,Go.Proofs.YtnmkffjklpfflaaGreatDoor.ptr]
  | some q => first | rfl | simp [go_sem,Lay.tyP,Go.Proofs.YtnmkffjklpfflaaGreatDoor.ptr]
 go_upto_if 17 with fail
 go_cut [] from 13 (fun wx => Hid (Bd w w.heap.size wx (xi ++ B ++ S.ofT (S.ty t))))
 case first =>
  clear b4 b5; cases hof : (S.ty t).of with
  | none =>
   have d6 : (S.ty t).of.isSome = false := by rw [hof]; rfl
   clear y5; go_wp2_with fail; go_meet
   case rel =>
    rw [show S.ofT (S.ty t) = [] by unfold KS.ofT; rw [hof],List.append_nil]
    exact a3.out
  | some q =>
   have d6 : (S.ty t).of.isSome = true := by rw [hof]; rfl
   rw [hof] at y5
   replace y5 : E.cell? ⟨ρ.ty t,5,none⟩ = some (.pointer (some ⟨ρ.ty q,0,none⟩)) := y5
   have d7 := b1.out q hof; obtain ⟨N,Q⟩ : ∃ z,z = S.nameT (S.ty q) := ⟨_,rfl⟩
   have g4 : N.length <= 5000 := by rw [Q]; exact b0.out q hof
   have a4 : Hid (Calls Tryz.prog 43 #[.pointer (some ⟨ρ.ty q,0,none⟩)] E (Sy E (.string ⟨N.toArray⟩))) := by rw [Q]; exact xx (HM.out.up a3.out.gb) HK.out d7 (b0.out q hof)
   have hO : S.ofT (S.ty t) = [32,40] ++ N ++ [41] := by unfold KS.ofT; rw [hof,Q]
   have HO := ze hO; clear hO Q hof; go_wp2_with fail; go_at_call 43; refine a4.out.mono ?_; rintro e w3 ⟨rfl,b6⟩; have d8 := ze (a3.out.grown b6); clear b6 y5
   have d9 : ¬ (9223372036854775807 < 2 + N.length) := by omega
   have f0 : ¬ (9223372036854775807 < 2 + N.length + 1) := by omega
   have f1 := ze (yW w w.heap.size w3 (xi ++ B) ([32,40] ++ N ++ [41]) d8.out (by simp only [List.length_append,List.length_cons,List.length_nil,C]; omega)); go_wp2_with fail; go_at_call 30; rw [vm,vm]; refine f1.out.mono ?_; rintro e w4 ⟨rfl,b7,-⟩; have f2 : Hid (Bd w w.heap.size w4 (xi ++ B ++ ([32,40] ++ N ++ [41]))) := b7; clear b7; go_wp2_with fail; go_meet
   case rel =>
    rw [show S.ofT (S.ty t) = _ from HO.out]
    exact f2.out
 case rest =>
  clear b4 b5 y5; obtain ⟨H,hH⟩ : ∃ z,z = xi ++ B ++ S.ofT (S.ty t) := ⟨_,rfl⟩; rw [<- hH] at hcut
  have f3 : H.length + ((S.ty t).fields.flatMap S.fldT).length <= 5000 := by rw [hH]; simp only [List.length_append,C]; omega
  have HH := ze hH; have y6 : wc.cell? ⟨ρ.ty t,6,none⟩ = some (.slice fa (S.ty t).fields.length fc) := hcut.out.cell (TB.out.c 6 _ rfl); clear hH; obtain ⟨l,a5⟩ : ∃ z,z = (S.ty t).fields := ⟨_,rfl⟩; rw [<- a5] at y6 a6 f3 Z a0 a9 O HR; have b8 := ze a5; clear a5; go_wp2_with fail; clear y6
  go_loopw [31] (fun iv wr => ∃ j : Nat,j <= l.length /\ iv = .int .i64 ↑j /\ Hid (Bd w w.heap.size wr (H ++ (l.take j).flatMap S.fldT))) (fun iv _ => l.length - (intOf iv).toNat)
  case atStart => exact ⟨0,Nat.zero_le _,rfl,by simpa [Hid] using hcut.out⟩
  case round =>
   obtain ⟨j,hj,rfl,m⟩ := hrel
   by_cases f4 : j < l.length
   ·obtain ⟨d,hd⟩ : ∃ d,l[j]? = some d := ⟨_,List.getElem?_eq_getElem f4⟩
    have f : d ∈ l := List.mem_of_getElem? hd; obtain ⟨g,e1,-⟩ := Z.out (j * 4 + 0) _ (kf (fdV ρ) 4 qy l j d 0 hd (by omega)); subst e1
    have k : ∀ i,i < 4 -> wr.cell? ⟨g,j * 4 + i,none⟩ = (fdV ρ d)[i]? := fun i hi => by
     obtain ⟨u,hu⟩ : ∃ u,(fdV ρ d)[i]? = some u := ⟨_,List.getElem?_eq_getElem (by rw [qy]; exact hi)⟩; obtain ⟨g',e2,h9⟩ := Z.out (j * 4 + i) u ((kf (fdV ρ) 4 qy l j d i hd hi).trans hu); cases e2; rw [hu]
     exact m.out.cell h9
    have d0 : wr.cell? ⟨g,j * 4,none⟩ = some (.string ⟨d.name.toArray⟩) := k 0 (by omega); have d1 : wr.cell? ⟨g,j * 4 + 1,none⟩ = some (.bool d.exp) := k 1 (by omega); have d2 : wr.cell? ⟨g,j * 4 + 2,none⟩ = some (.pointer (some ⟨ρ.ty d.ty,0,none⟩)) := k 2 (by omega); have d3 : wr.cell? ⟨g,j * 4 + 3,none⟩ = some (.int .i64 d.first) := k 3 (by omega); have zg : g < wr.heap.size := zw d0
    have hF : S.fldT d = [32] ++ kS d.name d.exp ++ [58] ++ S.nameT (S.ty d.ty) ++ [64] ++ vX d.first := rfl
    have b9 := uS S.fldT f; have g5 := qI S.fldT l j; have c2 : (l.take (j + 1)).flatMap S.fldT = (l.take j).flatMap S.fldT ++ S.fldT d := ky S.fldT hd; have f5 := ze c2; obtain ⟨M,hM⟩ : ∃ z,z = kS d.name d.exp := ⟨_,rfl⟩; obtain ⟨N,Q⟩ : ∃ z,z = S.nameT (S.ty d.ty) := ⟨_,rfl⟩; obtain ⟨D,hD⟩ : ∃ z,z = vX d.first := ⟨_,rfl⟩; rw [<- hM,<- Q,<- hD] at hF; rw [hF] at b9; simp only [List.length_append,List.length_cons,List.length_nil] at b9; have HF := ze hF
    have g6 : d.name.length <= M.length := by rw [hM]; unfold kS; split <;> simp
    have f6 : Hid (∀ w9 : World,Calls Tryz.prog 45 #[.string ⟨d.name.toArray⟩,.bool d.exp] w9 (Sy w9 (.string ⟨M.toArray⟩))) := fun w9 => by rw [hM]; exact kV d.name d.exp (by omega)
    have a4 : Hid (∀ w9,w.grownBy w9 none -> Calls Tryz.prog 43 #[.pointer (some ⟨ρ.ty d.ty,0,none⟩)] w9 (Sy w9 (.string ⟨N.toArray⟩))) := fun w9 G => by rw [Q]; exact xx (HM.out.up G) HK.out (O.out d f) (a9.out d f)
    have f7 : Hid (∀ w9,w.grownBy w9 none -> Calls Tryz.prog 44 #[.int .i64 d.first] w9 (Sy w9 (.string ⟨D.toArray⟩))) := fun w9 G => by rw [hD]; exact jd d.first (a0.out d f).1 (by have := (a0.out d f).2; omega) w9 (HP.out.kept G)
    obtain ⟨PR,F⟩ : ∃ z,z = H ++ (l.take j).flatMap S.fldT := ⟨_,rfl⟩
    have g7 : PR.length <= 5000 := by rw [F,List.length_append]; omega
    have f8 := ze F; rw [<- F] at m; clear k hd f hF hM Q hD c2 F; go_wp2_with fail; obtain ⟨w6,I⟩ : ∃ z,z = wr.alloc (.cells #[.string ⟨d.name.toArray⟩,.bool d.exp,.pointer (some ⟨ρ.ty d.ty,0,none⟩),.int .i64 d.first] 58) := ⟨_,rfl⟩; rw [<- I]
    have G6 : Hid (wr.grownBy w6 none) := by rw [I]; exact zf (zc wr none) _
    have FB : Hid (Bk w6 wr.heap.size [.string ⟨d.name.toArray⟩,.bool d.exp,.pointer (some ⟨ρ.ty d.ty,0,none⟩),.int .i64 d.first]) := by rw [I]; exact Bk.new wr _ _ rfl
    have f9 := ze (m.out.grown G6.out); have c4 := ze (za m.out.gb G6.out); clear I d0 d1 d2 d3
    skip
    refine wp_region_held_drew (S := fun w9 => Bk w9 wr.heap.size [.string ⟨d.name.toArray⟩,.bool d.exp,.pointer (some ⟨ρ.ty d.ty,0,none⟩),.int .i64 d.first]) (by kernel_rfl) ?_ (fun hHeld => ?_)
    ·exact FB.out.drew
    refine kQ 0 35 (.pointer (some ⟨wr.heap.size,0,none⟩)) hHeld ?_; simp only [qA,qB,qC,qD]; refine dk 1 (some 36) (.string ⟨d.name.toArray⟩) rfl rfl (fun w9 hS => by have q1 := hS.c 0 _ rfl; go_simp) hHeld ?_; simp only [qA,qB,qC,qD]; refine kQ 2 37 (.pointer (some ⟨wr.heap.size,1,none⟩)) hHeld ?_; simp only [qA,qB,qC,qD]; refine dk 3 (some 38) (.bool d.exp) rfl rfl (fun w9 hS => by have q1 := hS.c 1 _ rfl; go_simp) hHeld ?_; simp only [qA,qB,qC,qD]; refine kQ 7 42 (.pointer (some ⟨wr.heap.size,2,none⟩)) hHeld ?_; simp only [qA,qB,qC,qD]; refine dk 8 (some 43) (.pointer (some ⟨ρ.ty d.ty,0,none⟩)) rfl rfl (fun w9 hS => by have q1 := hS.c 2 _ rfl; go_simp) hHeld ?_; simp only [qA,qB,qC,qD]; refine kQ 12 47 (.pointer (some ⟨wr.heap.size,3,none⟩)) hHeld ?_; simp only [qA,qB,qC,qD]; refine dk 13 (some 48) (.int .i64 d.first) rfl rfl (fun w9 hS => by have q1 := hS.c 3 _ rfl; go_simp) hHeld ?_; simp only [qA,qB,qC,qD]; refine rd 4 rfl fun KK hKK => ?_
    go_simp
    go_at_call 45; refine (f6.out _).mono ?_; rintro e g8 ⟨rfl,R⟩; have s := ze (za (zh (zc w6 none)) R); clear R
    go_simp
    refine hKK.out _ _ (FB.out.kept s.out (by simp)) fun hHeld => ?_
    clear hKK KK
    have d4 : ¬ (9223372036854775807 < 1 + M.length) := by omega
    refine kQ 5 40 (.string ((⟨List.toArray [32]⟩ : ByteArray) ++ (⟨List.toArray M⟩ : ByteArray))) hHeld ?_; simp only [qA,qB,qC,qD]
    have d9 : ¬ (9223372036854775807 < 1 + M.length + 1) := by omega
    refine kQ 6 41 (.string (((⟨List.toArray [32]⟩ : ByteArray) ++ (⟨List.toArray M⟩ : ByteArray)) ++ (⟨List.toArray [58]⟩ : ByteArray))) hHeld ?_; simp only [qA,qB,qC,qD]; refine rd 9 rfl fun KK hKK => ?_
    go_simp
    go_at_call 43; refine (a4.out _ (za c4.out s.out)).mono ?_; rintro e g9 ⟨rfl,U⟩; have x := ze (za s.out U); clear U
    go_simp
    refine hKK.out _ _ (FB.out.kept x.out (by simp)) fun hHeld => ?_
    clear hKK KK
    have f0 : ¬ (9223372036854775807 < 1 + M.length + 1 + N.length) := by omega
    refine dk 10 (some 45) (.string ((((⟨List.toArray [32]⟩ : ByteArray) ++ (⟨List.toArray M⟩ : ByteArray)) ++ (⟨List.toArray [58]⟩ : ByteArray)) ++ (⟨List.toArray N⟩ : ByteArray))) rfl rfl (fun w9 _ => by go_simp) hHeld ?_; simp only [qA,qB,qC,qD]
    have h0 : ¬ (9223372036854775807 < 1 + M.length + 1 + N.length + 1) := by omega
    refine dk 11 (some 46) (.string (((((⟨List.toArray [32]⟩ : ByteArray) ++ (⟨List.toArray M⟩ : ByteArray)) ++ (⟨List.toArray [58]⟩ : ByteArray)) ++ (⟨List.toArray N⟩ : ByteArray)) ++ (⟨List.toArray [64]⟩ : ByteArray))) rfl rfl (fun w9 _ => by go_simp) hHeld ?_; simp only [qA,qB,qC,qD]; refine rd 14 rfl fun KK hKK => ?_
    go_simp
    go_at_call 44; refine (f7.out _ (za c4.out x.out)).mono ?_; rintro e g0 ⟨rfl,V⟩; have n := ze (za x.out V); clear V
    go_simp
    refine hKK.out _ _ (FB.out.kept n.out (by simp)) fun hHeld => ?_
    clear hKK KK
    have h1 : ¬ (9223372036854775807 < 1 + M.length + 1 + N.length + 1 + D.length) := by omega
    refine dk 15 (some 50) (.string ((((((⟨List.toArray [32]⟩ : ByteArray) ++ (⟨List.toArray M⟩ : ByteArray)) ++ (⟨List.toArray [58]⟩ : ByteArray)) ++ (⟨List.toArray N⟩ : ByteArray)) ++ (⟨List.toArray [64]⟩ : ByteArray)) ++ (⟨List.toArray D⟩ : ByteArray))) rfl rfl (fun w9 _ => by go_simp) hHeld ?_; simp only [qA,qB,qC,qD]; refine rd 16 rfl fun KK hKK => ?_
    go_simp
    go_at_call 30
    repeat rw [vm]
    refine (yW w w.heap.size g0 PR ([32] ++ M ++ [58] ++ N ++ [64] ++ D) (f9.out.grown n.out) (by simp only [List.length_append,List.length_cons,List.length_nil]; omega)).mono ?_; rintro e g1 ⟨rfl,X,Y⟩; have c5 := ze X
    have c6 : Hid (Bk g1 wr.heap.size [.string ⟨d.name.toArray⟩,.bool d.exp,.pointer (some ⟨ρ.ty d.ty,0,none⟩),.int .i64 d.first]) := by
     have h9 := FB.out.kept n.out (by simp)
     have h8 := Y wr.heap.size ⟨h9.lt,by have := m.out.lt; omega,fun v hv e => by
      obtain ⟨p,v2,-,hb,g3,-⟩ := m.out.st
      have h7 : wr.cell? ⟨w.heap.size,1,none⟩ = some v2 := by rw [Lib.cell_of_heap hb]; rfl
      have h6 := zi (za G6.out n.out) h7; rw [hv] at h6; cases h6; have := (g3.lt _ e).2
      omega⟩
     obtain ⟨c0,c1,_,c3⟩ := h9; refine ⟨fun j v hj => (World.cell?_of_block h8).trans (c0 j v hj),fun o => (World.frozen?_of_block h8).trans (c1 o),?_,?_⟩
     ·obtain ⟨cs,ty,e⟩ := c3
      exact (Array.getElem?_eq_some_iff.1 (h8.trans e)).1
     ·obtain ⟨cs,ty,e⟩ := c3
      exact ⟨cs,ty,h8.trans e⟩
    clear X Y
    go_simp
    refine hKK.out _ _ c6.out fun hHeld => ?_
    clear hKK KK; refine wpAnyH_done (by kernel_rfl) ?_ _; clear hHeld; go_wp2_with fail
    go_roundw
    case rel =>
     refine ⟨j + 1,by omega,by go_num,?_⟩; have h9 := c5.out; rw [show PR = _ from f8.out] at h9
     show Bd _ _ _ _
     rw [show List.flatMap S.fldT (List.take (j + 1) l) = _ from f5.out,show S.fldT d = _ from HF.out,<- List.append_assoc]
     exact h9
    case measure => first | omega | (simp only [intOf]; omega) | (simp; omega)
   ·obtain rfl : j = l.length := by omega
    go_wp2_with fail; go_at_call 32; refine (vK w w.heap.size wr _ m.out).mono ?_; rintro e w9 ⟨rfl,c7⟩; have G9 := ze c7; clear c7; go_wp2
    go_ret
    refine ⟨?_,G9.out⟩
    try rw [List.take_length]
    show Ending.returned (.string ⟨(H ++ List.flatMap S.fldT l).toArray⟩) = _
    rw [show H = _ from HH.out,show l = _ from b8.out]
    try simp only [List.append_assoc]
end
section
variable {ρ : Lay} {w w' w1 : World} {S : KS} {b : Nat} {c : KSc}
theorem fq (h : KM ρ w S) (hk : S.okB = true) (hp : PT w) {t : Nat} (ht : t < S.tys.length) (hok : S.tyOK (S.ty t) = true) :
  Calls Tryz.prog 46 #[.pointer (some ⟨ρ.ty t,0,none⟩)] w (Sy w (.string ⟨(S.typeT (S.ty t)).toArray⟩)) := by
 obtain ⟨fv,m,-⟩ := (h.ty t ht).bk; have V := ze h; have X := ze hk; have HP := ze hp; have TB := ze m
 unfold KS.tyOK at hok
 rw [Bool.and_eq_true] at hok; obtain ⟨o,hok⟩ := hok
 have f : (S.typeT (S.ty t)).length <= 5000 := by simpa [shB] using o
 have i := (KS.okIn hk).tyOf t ht
 by_cases n : (S.ty t).form = 3
 ·rw [if_pos n,Bool.and_eq_true] at hok
  obtain ⟨q,r⟩ := yp hok.1
  have F : 0 <= (S.ty t).places /\ (S.ty t).places <= 1000000 := by have l := hok.2; simpa [fp] using l
  have x := i q r; obtain ⟨H,k⟩ : ∃ z,z = (S.ty t).places := ⟨_,rfl⟩; obtain ⟨N,s⟩ : ∃ z,z = S.nameT (S.ty q) := ⟨_,rfl⟩; obtain ⟨D,M⟩ : ∃ z,z = vX H := ⟨_,rfl⟩
  have u : S.typeT (S.ty t) = [65,82,82,65,89,32] ++ D ++ [32] ++ N := by unfold KS.typeT; rw [if_pos n,M,k,s,r]; rfl
  rw [u] at f ⊢; simp only [List.length_append,List.length_cons,List.length_nil] at f; rw [<- k] at F
  have Y : w.cell? ⟨ρ.ty t,0,none⟩ = some (.int .i64 3) := by rw [<- n]; exact m.c 0 _ rfl
  have e4 : Hid (w.cell? ⟨ρ.ty t,4,none⟩ = some (.int .i64 H)) := by rw [k]; exact m.c 4 _ rfl
  have Z : Hid (w.cell? ⟨ρ.ty t,5,none⟩ = some (.pointer (some ⟨ρ.ty q,0,none⟩))) := by have l := m.c 5 _ rfl; rw [r] at l; exact l
  have O : Hid (∀ w9,w.grownBy w9 none -> Calls Tryz.prog 44 #[.int .i64 H] w9 (Sy w9 (.string ⟨D.toArray⟩))) := fun w9 G => by rw [M]; exact jd H F.1 (by omega) w9 (HP.out.kept G)
  have A : Hid (∀ w9,w.grownBy w9 none -> Calls Tryz.prog 43 #[.pointer (some ⟨ρ.ty q,0,none⟩)] w9 (Sy w9 (.string ⟨N.toArray⟩))) := fun w9 G => by rw [s]; exact xx (V.out.up G) X.out x (by rw [<- s]; omega)
  clear h hk hp m hok o i n r k s M u
  go_enter Tryz.func46,Tryz.ntmps46
  go_wp2_with fail; refine wp_region_held_drew (S := fun w9 => w.grownBy w9 none) (by kernel_rfl) ?_ (fun hHeld => ?_)
  ·exact zh (zc w none)
  refine kQ 0 9 (.pointer (some ⟨ρ.ty t,0,none⟩)) hHeld ?_; simp only [qA,qB,qC,qD]; refine kQ 1 10 (.pointer (some ⟨ρ.ty t,0,none⟩)) hHeld ?_; simp only [qA,qB,qC,qD]; refine kQ 2 11 (.pointer (some ⟨ρ.ty t,4,none⟩)) hHeld ?_; simp only [qA,qB,qC,qD]; refine dk 3 (some 12) (.int .i64 H) rfl rfl (fun w9 hS => by have q1 := zi hS e4.out; go_simp) hHeld ?_; simp only [qA,qB,qC,qD]; refine kQ 7 16 (.pointer (some ⟨ρ.ty t,0,none⟩)) hHeld ?_; simp only [qA,qB,qC,qD]; refine kQ 8 17 (.pointer (some ⟨ρ.ty t,0,none⟩)) hHeld ?_; simp only [qA,qB,qC,qD]; refine kQ 9 18 (.pointer (some ⟨ρ.ty t,5,none⟩)) hHeld ?_; simp only [qA,qB,qC,qD]; refine dk 10 (some 19) (.pointer (some ⟨ρ.ty q,0,none⟩)) rfl rfl (fun w9 hS => by have q1 := zi hS Z.out; go_simp) hHeld ?_; simp only [qA,qB,qC,qD]; refine rd 4 rfl fun KK hKK => ?_
  go_simp
  go_at_call 44; refine (O.out _ (zh (zc w none))).mono ?_; rintro e w1 ⟨rfl,g⟩; have E := ze (za (zh (zc w none)) g); have I := ze (za (zh (zc w none)) g); clear g
  go_simp
  refine hKK.out _ _ I.out fun hHeld => ?_
  clear hKK KK
  have a0 : ¬ (9223372036854775807 < 6 + D.length) := by omega
  refine kQ 5 14 (.string ((⟨List.toArray [65,82,82,65,89,32]⟩ : ByteArray) ++ (⟨List.toArray D⟩ : ByteArray))) hHeld ?_; simp only [qA,qB,qC,qD]
  have a1 : ¬ (9223372036854775807 < 6 + D.length + 1) := by omega
  refine kQ 6 15 (.string (((⟨List.toArray [65,82,82,65,89,32]⟩ : ByteArray) ++ (⟨List.toArray D⟩ : ByteArray)) ++ (⟨List.toArray [32]⟩ : ByteArray))) hHeld ?_; simp only [qA,qB,qC,qD]; refine rd 11 rfl fun KK hKK => ?_
  go_simp
  go_at_call 43; refine (A.out _ E.out).mono ?_; rintro e w2 ⟨rfl,B⟩; have G2 := ze (za E.out B); have Q := ze (za I.out B); clear B
  go_simp
  refine hKK.out _ _ Q.out fun hHeld => ?_
  clear hKK KK
  have a2 : ¬ (9223372036854775807 < 6 + D.length + 1 + N.length) := by omega
  refine dk 12 (some 21) (.string ((((⟨List.toArray [65,82,82,65,89,32]⟩ : ByteArray) ++ (⟨List.toArray D⟩ : ByteArray)) ++ (⟨List.toArray [32]⟩ : ByteArray)) ++ (⟨List.toArray N⟩ : ByteArray))) rfl rfl (fun w9 _ => by go_simp) hHeld ?_; simp only [qA,qB,qC,qD]; refine dk 13 (some 2) (.string ((((⟨List.toArray [65,82,82,65,89,32]⟩ : ByteArray) ++ (⟨List.toArray D⟩ : ByteArray)) ++ (⟨List.toArray [32]⟩ : ByteArray)) ++ (⟨List.toArray N⟩ : ByteArray))) rfl rfl (fun w9 _ => by go_simp) hHeld ?_; simp only [qA,qB,qC,qD]; refine wpAnyH_done (by kernel_rfl) ?_ _; clear hHeld; go_wp2_with fail
  go_ret
  refine ⟨(show Ending.returned (.string ((((⟨List.toArray [65,82,82,65,89,32]⟩ : ByteArray) ++ (⟨List.toArray D⟩ : ByteArray)) ++ (⟨List.toArray [32]⟩ : ByteArray)) ++ (⟨List.toArray N⟩ : ByteArray))) = _ from xS ?_),G2.out⟩
  repeat rw [vS]
  try simp only [List.append_assoc]
  try rfl
 ·rw [if_neg n] at hok
  by_cases v : (S.ty t).form = 5
  ·rw [if_pos v] at hok
   obtain ⟨q,r⟩ := yp hok; have x := i q r; obtain ⟨N,s⟩ : ∃ z,z = S.nameT (S.ty q) := ⟨_,rfl⟩
   have u : S.typeT (S.ty t) = [80,79,73,78,84,69,82,32] ++ N := by unfold KS.typeT; rw [if_neg n,if_pos v,s,r]; rfl
   rw [u] at f ⊢; simp only [List.length_append,List.length_cons,List.length_nil] at f
   have Y : w.cell? ⟨ρ.ty t,0,none⟩ = some (.int .i64 5) := by rw [<- v]; exact m.c 0 _ rfl
   have Z : w.cell? ⟨ρ.ty t,5,none⟩ = some (.pointer (some ⟨ρ.ty q,0,none⟩)) := by have l := m.c 5 _ rfl; rw [r] at l; exact l
   have A : Hid (Calls Tryz.prog 43 #[.pointer (some ⟨ρ.ty q,0,none⟩)] w (Sy w (.string ⟨N.toArray⟩))) := by rw [s]; exact xx V.out X.out x (by rw [<- s]; omega)
   have qq : ¬ (9223372036854775807 < 8 + N.length) := by omega
   clear h hk hp m hok o i n v r s u
   go_enter Tryz.func46,Tryz.ntmps46
   go_wp2_with fail; go_at_call 43; refine A.out.mono ?_; rintro e w1 ⟨rfl,g⟩; have E := ze g; clear g; go_wp2_with fail
   go_ret
   refine ⟨(show Ending.returned (.string ((⟨List.toArray [80,79,73,78,84,69,82,32]⟩ : ByteArray) ++ (⟨List.toArray N⟩ : ByteArray))) = _ from xS ?_),E.out⟩
   repeat rw [vS]
   try simp only [List.append_assoc]
   try rfl
  ·rw [if_neg v,Bool.and_eq_true] at hok
   have u : S.typeT (S.ty t) = S.recT (S.ty t) := by unfold KS.typeT; rw [if_neg n,if_neg v]
   rw [u] at f ⊢
   have hw : 0 <= (S.ty t).words /\ (S.ty t).words <= 1000000 := by have l := hok.1; simpa [fp] using l
   have J : ∀ d ∈ (S.ty t).fields,0 <= d.first /\ d.first <= 1000000 := fun d hd => by have l := List.all_eq_true.1 hok.2 d hd; simpa [fp] using l
   have K : ∀ d ∈ (S.ty t).fields,(S.nameT (S.ty d.ty)).length <= 5000 := fun d hd => by
    have l := uS S.fldT hd
    have h8 : (S.nameT (S.ty d.ty)).length <= (S.fldT d).length := by unfold KS.fldT; simp only [List.length_append]; omega
    unfold KS.recT at f
    simp only [List.length_append] at f
    omega
   have L : ∀ j,(S.ty t).of = some j -> (S.nameT (S.ty j)).length <= 5000 := fun j hj => by
    have h8 : (S.nameT (S.ty j)).length <= (S.ofT (S.ty t)).length := by unfold KS.ofT; rw [hj]; simp only [List.length_append]; omega
    unfold KS.recT at f
    simp only [List.length_append] at f
    omega
   have R := ze (ql h hk hp ht f hw J K L); obtain ⟨U,C⟩ : ∃ z,z = (S.ty t).form := ⟨_,rfl⟩
   have Y : w.cell? ⟨ρ.ty t,0,none⟩ = some (.int .i64 U) := by rw [C]; exact m.c 0 _ rfl
   rw [<- C] at n v
   have a3 : (U == 3) = false := by simpa using n
   have a4 : (U == 5) = false := by simpa using v
   clear h hk hp m hok o i u hw J K L C f
   go_enter Tryz.func46,Tryz.ntmps46
   go_wp2_with fail; go_at_call 63; refine R.out.mono ?_; rintro e w1 ⟨rfl,g⟩; have E := ze g; clear g; go_wp2
   go_ret
   exact ⟨rfl,E.out⟩
theorem rz (h : KM ρ w S) (hk : S.okB = true) {p : Nat} (hp : p < S.prs.length) (hl : (S.headT (S.pr p)).length <= 5000) (hty : ∀ x ∈ (S.pr p).pars,(S.th x).ty.isSome = true) :
  Calls Tryz.prog 47 #[.pointer (some ⟨ρ.pr p,0,none⟩)] w (Sy w (.string ⟨(S.headT (S.pr p)).toArray⟩)) := by
 obtain ⟨av,pv,pb,-,D⟩ := (h.pr p hp).bk; have HM := ze h; have HK := ze hk; have PB := ze pb; obtain ⟨fa,fc,rfl,O,Q,R⟩ := D.read; have U := ze R; have V := ze hty
 unfold maxLen at Q
 have hR : S.headT (S.pr p) = (S.pr p).pars.flatMap S.parT ++ S.resT (S.pr p) := rfl
 rw [hR] at hl ⊢; simp only [List.length_append] at hl; have X := ze ((KS.okIn hk).prPars p hp); have a3 := ze ((KS.okIn hk).thTy); have a4 := ze ((KS.okIn hk).prRes p hp); obtain ⟨k,E⟩ : ∃ z,z = (S.pr p).pars := ⟨_,rfl⟩
 have y5 : w.cell? ⟨ρ.pr p,5,none⟩ = some (.slice fa k.length fc) := by rw [E]; exact pb.c 5 _ rfl
 rw [<- E] at hl U V X O ⊢; clear h hk pb D R hty hR E; have zp : ρ.pr p < w.heap.size := PB.out.lt; obtain ⟨w0,F⟩ : ∃ z,z = w.alloc (.cells #[.pointer none,.slice none 0 0] BuT) := ⟨_,rfl⟩
 have a5 : Hid (Bd w w.heap.size w0 []) := by rw [F]; exact Bd.new w
 go_enter Tryz.func47,Tryz.ntmps47
 go_wp2_with fail; rw [<- F]; clear F y5
 go_loopw [11] (fun iv wr => ∃ j : Nat,j <= k.length /\ iv = .int .i64 ↑j /\ Hid (Bd w w.heap.size wr ((k.take j).flatMap S.parT))) (fun iv _ => k.length - (intOf iv).toNat)
 case atStart => exact ⟨0,Nat.zero_le _,rfl,a5.out⟩
 case round =>
  obtain ⟨j,_,rfl,d⟩ := hrel
  by_cases a6 : j < k.length
  ·obtain ⟨x,hx⟩ : ∃ x,k[j]? = some x := ⟨_,List.getElem?_eq_getElem a6⟩
   have l : x ∈ k := List.mem_of_getElem? hx; obtain ⟨g,e1,hc⟩ := U.out j (ρ.thP (some x)) (by rw [List.getElem?_map,hx]; rfl); subst e1; have d0 : wr.cell? ⟨g,j,none⟩ = some (.pointer (some ⟨ρ.th x,0,none⟩)) := d.out.cell hc; have zg : g < wr.heap.size := zw d0; have Y := X.out x l; obtain ⟨t,Z⟩ := yp (V.out x l); have a7 := a3.out x Y t Z; have tb := (HM.out.th x Y).bk; have t7 : wr.cell? ⟨ρ.th x,7,none⟩ = some (.bool (S.th x).byVar) := d.out.cell (tb.c 7 _ rfl)
   have t4 : Hid (wr.cell? ⟨ρ.th x,4,none⟩ = some (.pointer (some ⟨ρ.ty t,0,none⟩))) := by have n := tb.c 4 _ rfl; rw [Z] at n; exact d.out.cell n
   have H := uS S.parT l; have a8 := qI S.parT k j; have a0 : Hid ((k.take (j + 1)).flatMap S.parT = (k.take j).flatMap S.parT ++ S.parT x) := ky S.parT hx; obtain ⟨N,v⟩ : ∃ z,z = S.nameT (S.ty t) := ⟨_,rfl⟩
   have hF : S.parT x = (if (S.th x).byVar = true then [32,86,65,82] else []) ++ ([32] ++ N) := by unfold KS.parT; rw [v,Z]; rfl
   have I : N.length <= 5000 := by rw [hF] at H; simp only [List.length_append] at H; omega
   have A : Hid (∀ w9,w.grownBy w9 none -> Calls Tryz.prog 43 #[.pointer (some ⟨ρ.ty t,0,none⟩)] w9 (Sy w9 (.string ⟨N.toArray⟩))) := fun w9 G => by rw [v]; exact xx (HM.out.up G) HK.out a7 (by rw [<- v]; exact I)
   obtain ⟨M,B⟩ : ∃ z,z = (k.take j).flatMap S.parT := ⟨_,rfl⟩
   have b2 : M.length <= 5000 := by rw [B]; omega
   have a1 := ze B; have HF := ze hF; rw [<- B] at d
   have qq : ¬ (9223372036854775807 < 1 + N.length) := by omega
   have a9 : Hid (w.cell? ⟨ρ.th x,4,none⟩ = some (.pointer (some ⟨ρ.ty t,0,none⟩))) := by have n := tb.c 4 _ rfl; rw [Z] at n; exact n
   clear hc tb Z hx l v hF B H a8; cases C : (S.th x).byVar with
   | false =>
    rw [C] at t7; have t4 := t4.out; go_wp2_with fail; go_at_call 43; refine (A.out _ (d.out).gb).mono ?_; rintro e w5 ⟨rfl,f⟩; have o := ze ((d.out).grown f); clear f; have r := ze (yW w w.heap.size w5 M ([32] ++ N) o.out (by simp only [List.length_append,List.length_cons,List.length_nil]; omega)); go_wp2_with fail; go_at_call 30; rw [vm]; refine r.out.mono ?_; rintro e w6 ⟨rfl,i,-⟩; have s := ze i; clear i; go_wp2_with fail
    go_roundw
    case rel =>
     refine ⟨j + 1,by omega,by go_num,?_⟩; have n := s.out; rw [show M = _ from a1.out] at n
     show Bd _ _ _ _
     rw [show List.flatMap S.parT (List.take (j + 1) k) = _ from a0.out,show S.parT x = _ from HF.out,C]
     simpa using n
    case measure => first | omega | (simp only [intOf]; omega) | (simp; omega)
   | true =>
    rw [C] at t7; have b0 := ze (yW w w.heap.size wr M [32,86,65,82] d.out (by simp only [List.length_cons,List.length_nil]; omega)); go_wp2_with fail; go_at_call 30; refine b0.out.mono ?_; rintro e w3 ⟨rfl,J,-⟩; have a2 := ze J; have t4 := J.cell a9.out; clear J t7 d0; go_wp2_with fail; go_at_call 43; refine (A.out _ (a2.out).gb).mono ?_; rintro e w5 ⟨rfl,f⟩; have o := ze ((a2.out).grown f); clear f; have r := ze (yW w w.heap.size w5 (M ++ [32,86,65,82]) ([32] ++ N) o.out (by simp only [List.length_append,List.length_cons,List.length_nil]; omega)); go_wp2_with fail; go_at_call 30; rw [vm]; refine r.out.mono ?_; rintro e w6 ⟨rfl,i,-⟩; have s := ze i; clear i; go_wp2_with fail
    go_roundw
    case rel =>
     refine ⟨j + 1,by omega,by go_num,?_⟩; have n := s.out; rw [show M = _ from a1.out] at n
     show Bd _ _ _ _
     rw [show List.flatMap S.parT (List.take (j + 1) k) = _ from a0.out,show S.parT x = _ from HF.out,C]
     simpa using n
    case measure => first | omega | (simp only [intOf]; omega) | (simp; omega)
  ·obtain rfl : j = k.length := by omega
   rw [List.take_length] at d; have K := d.out.cell (PB.out.c 6 _ rfl); cases m : (S.pr p).result with
   | none =>
    rw [m] at K
    replace K : wr.cell? ⟨ρ.pr p,6,none⟩ = some (.pointer none) := K
    go_wp2_with fail; go_at_call 32; refine (vK w w.heap.size _ _ d.out).mono ?_; rintro e w9 ⟨rfl,u⟩; have G9 := ze u; clear u; go_wp2
    go_ret
    refine ⟨?_,G9.out⟩; rw [show S.resT (S.pr p) = [] by unfold KS.resT; rw [m],List.append_nil]
    rfl
   | some q =>
    rw [m] at K
    replace K : wr.cell? ⟨ρ.pr p,6,none⟩ = some (.pointer (some ⟨ρ.ty q,0,none⟩)) := K
    obtain ⟨N,v⟩ : ∃ z,z = S.nameT (S.ty q) := ⟨_,rfl⟩
    have L : S.resT (S.pr p) = [32,58,32] ++ N := by unfold KS.resT; rw [m,v]
    have I : N.length <= 5000 := by rw [L] at hl; simp only [List.length_append] at hl; omega
    have A : Hid (Calls Tryz.prog 43 #[.pointer (some ⟨ρ.ty q,0,none⟩)] wr (Sy wr (.string ⟨N.toArray⟩))) := by rw [v]; exact xx (HM.out.up d.out.gb) HK.out (a4.out q m) (by rw [<- v]; exact I)
    have b1 := ze L
    have qq : ¬ (9223372036854775807 < 3 + N.length) := by omega
    clear L v m; go_wp2_with fail; go_at_call 43; refine A.out.mono ?_; rintro e w5 ⟨rfl,f⟩; have o := ze (d.out.grown f); clear f K; have r := ze (yW w w.heap.size w5 (k.flatMap S.parT) ([32,58,32] ++ N) o.out (by simp only [List.length_append,List.length_cons,List.length_nil]; omega)); go_wp2_with fail; go_at_call 30; rw [vm]; refine r.out.mono ?_; rintro e w6 ⟨rfl,i,-⟩; have s := ze i; clear i; go_wp2_with fail; go_at_call 32; refine (vK w w.heap.size _ _ s.out).mono ?_; rintro e w9 ⟨rfl,u⟩; have G9 := ze u; clear u; go_wp2
    go_ret
    refine ⟨?_,G9.out⟩; rw [show S.resT (S.pr p) = _ from b1.out]
    rfl
end
section
variable {ρ : Lay} {w w' w1 : World} {S : KS} {b : Nat} {c : KSc}
theorem pq (h : KM ρ w S) (hk : S.okB = true) (hp : PT w) {x : Nat} (hx : x < S.ths.length) (hok : S.thOK (S.th x) = true) :
  Calls Tryz.prog 31 #[.pointer (some ⟨ρ.th x,0,none⟩)] w (Sy w (.string ⟨(S.lineT (S.th x)).toArray⟩)) := by
 have r := (h.th x hx).bk; have HM := ze h; have HK := ze hk; have HP := ze hp
 unfold KS.thOK at hok
 rw [Bool.and_eq_true] at hok; obtain ⟨v,hok⟩ := hok
 have f : (S.lineT (S.th x)).length <= 5000 := by simpa [shB] using v
 have g := (KS.okIn hk).thTy x hx; have o := (KS.okIn hk).thPr x hx; obtain ⟨X,F⟩ : ∃ z,z = (S.th x).name := ⟨_,rfl⟩
 have x1 : Hid (w.cell? ⟨ρ.th x,1,none⟩ = some (.string ⟨X.toArray⟩)) := by rw [F]; exact r.c 1 _ rfl
 by_cases H : (S.th x).kind = 1
 ·rw [if_pos H,Bool.and_eq_true] at hok
  obtain ⟨q,j⟩ := yp hok.1
  have O : 0 <= (S.th x).value /\ (S.th x).value <= 1000000 := by have m := hok.2; simpa [fp] using m
  have t := g q j; obtain ⟨s,l⟩ : ∃ z,z = (S.th x).value := ⟨_,rfl⟩; obtain ⟨N,n⟩ : ∃ z,z = S.nameT (S.ty q) := ⟨_,rfl⟩; obtain ⟨D,I⟩ : ∃ z,z = vX s := ⟨_,rfl⟩
  have A : S.lineT (S.th x) = [67,79,78,83,84,32] ++ X ++ [32] ++ N ++ [32] ++ D := by unfold KS.lineT; rw [if_pos H,I,l,n,F,j]; rfl
  rw [A] at f ⊢; simp only [List.length_append,List.length_cons,List.length_nil] at f; rw [<- l] at O
  have e0 : w.cell? ⟨ρ.th x,0,none⟩ = some (.int .i64 1) := by rw [<- H]; exact r.c 0 _ rfl
  have Q : Hid (w.cell? ⟨ρ.th x,4,none⟩ = some (.pointer (some ⟨ρ.ty q,0,none⟩))) := by have m := r.c 4 _ rfl; rw [j] at m; exact m
  have e5 : Hid (w.cell? ⟨ρ.th x,5,none⟩ = some (.int .i32 s)) := by rw [l]; exact r.c 5 _ rfl
  have J : Hid (∀ w9,w.grownBy w9 none -> Calls Tryz.prog 44 #[.int .i64 s] w9 (Sy w9 (.string ⟨D.toArray⟩))) := fun w9 G => by rw [I]; exact jd s O.1 (by omega) w9 (HP.out.kept G)
  have K : Hid (∀ w9,w.grownBy w9 none -> Calls Tryz.prog 43 #[.pointer (some ⟨ρ.ty q,0,none⟩)] w9 (Sy w9 (.string ⟨N.toArray⟩))) := fun w9 G => by rw [n]; exact xx (HM.out.up G) HK.out t (by rw [<- n]; omega)
  have R : Hid (IntKind.i64.wrap s = s) := by show _ = _; rw [IntKind.wrap_i64]; omega
  clear h hk hp r hok v g o F j l n I A
  go_enter Tryz.func31,Tryz.ntmps31
  go_wp2_with fail; refine wp_region_held_drew (S := fun w9 => w.grownBy w9 none) (by kernel_rfl) ?_ (fun hHeld => ?_)
  ·exact zh (zc w none)
  refine kQ 0 9 (.pointer (some ⟨ρ.th x,0,none⟩)) hHeld ?_; simp only [qA,qB,qC,qD]; refine kQ 1 10 (.pointer (some ⟨ρ.th x,0,none⟩)) hHeld ?_; simp only [qA,qB,qC,qD]; refine kQ 2 11 (.pointer (some ⟨ρ.th x,1,none⟩)) hHeld ?_; simp only [qA,qB,qC,qD]; refine dk 3 (some 12) (.string ⟨X.toArray⟩) rfl rfl (fun w9 hS => by have B := zi hS x1.out; go_simp) hHeld ?_; simp only [qA,qB,qC,qD]
  have b1 : ¬ (9223372036854775807 < 6 + X.length) := by omega
  refine kQ 4 13 (.string ((⟨List.toArray [67,79,78,83,84,32]⟩ : ByteArray) ++ (⟨List.toArray X⟩ : ByteArray))) hHeld ?_; simp only [qA,qB,qC,qD]
  have b2 : ¬ (9223372036854775807 < 6 + X.length + 1) := by omega
  refine kQ 5 14 (.string (((⟨List.toArray [67,79,78,83,84,32]⟩ : ByteArray) ++ (⟨List.toArray X⟩ : ByteArray)) ++ (⟨List.toArray [32]⟩ : ByteArray))) hHeld ?_; simp only [qA,qB,qC,qD]; refine kQ 6 15 (.pointer (some ⟨ρ.th x,0,none⟩)) hHeld ?_; simp only [qA,qB,qC,qD]; refine kQ 7 16 (.pointer (some ⟨ρ.th x,0,none⟩)) hHeld ?_; simp only [qA,qB,qC,qD]; refine kQ 8 17 (.pointer (some ⟨ρ.th x,4,none⟩)) hHeld ?_; simp only [qA,qB,qC,qD]; refine dk 9 (some 18) (.pointer (some ⟨ρ.ty q,0,none⟩)) rfl rfl (fun w9 hS => by have B := zi hS Q.out; go_simp) hHeld ?_; simp only [qA,qB,qC,qD]; refine kQ 13 22 (.pointer (some ⟨ρ.th x,0,none⟩)) hHeld ?_; simp only [qA,qB,qC,qD]; refine kQ 14 23 (.pointer (some ⟨ρ.th x,0,none⟩)) hHeld ?_; simp only [qA,qB,qC,qD]; refine kQ 15 24 (.pointer (some ⟨ρ.th x,5,none⟩)) hHeld ?_; simp only [qA,qB,qC,qD]; refine dk 16 (some 25) (.int .i32 s) rfl rfl (fun w9 hS => by have B := zi hS e5.out; go_simp) hHeld ?_; simp only [qA,qB,qC,qD]; refine dk 17 (some 26) (.int .i64 s) rfl rfl (fun w9 _ => by have B := R.out; go_simp) hHeld ?_; simp only [qA,qB,qC,qD]; refine rd 10 rfl fun KK hKK => ?_
  go_simp
  go_at_call 43; refine (K.out _ (zh (zc w none))).mono ?_; rintro e w1 ⟨rfl,d⟩; have E := ze (za (zh (zc w none)) d); have k := ze (za (zh (zc w none)) d); clear d
  go_simp
  refine hKK.out _ _ k.out fun hHeld => ?_
  clear hKK KK
  have b3 : ¬ (9223372036854775807 < 6 + X.length + 1 + N.length) := by omega
  refine dk 11 (some 20) (.string ((((⟨List.toArray [67,79,78,83,84,32]⟩ : ByteArray) ++ (⟨List.toArray X⟩ : ByteArray)) ++ (⟨List.toArray [32]⟩ : ByteArray)) ++ (⟨List.toArray N⟩ : ByteArray))) rfl rfl (fun w9 _ => by go_simp) hHeld ?_; simp only [qA,qB,qC,qD]
  have b4 : ¬ (9223372036854775807 < 6 + X.length + 1 + N.length + 1) := by omega
  refine dk 12 (some 21) (.string (((((⟨List.toArray [67,79,78,83,84,32]⟩ : ByteArray) ++ (⟨List.toArray X⟩ : ByteArray)) ++ (⟨List.toArray [32]⟩ : ByteArray)) ++ (⟨List.toArray N⟩ : ByteArray)) ++ (⟨List.toArray [32]⟩ : ByteArray))) rfl rfl (fun w9 _ => by go_simp) hHeld ?_; simp only [qA,qB,qC,qD]; refine rd 18 rfl fun KK hKK => ?_
  go_simp
  go_at_call 44; refine (J.out _ E.out).mono ?_; rintro e w2 ⟨rfl,i⟩; have U := ze (za E.out i); have C := ze (za k.out i); clear i
  go_simp
  refine hKK.out _ _ C.out fun hHeld => ?_
  clear hKK KK
  have b5 : ¬ (9223372036854775807 < 6 + X.length + 1 + N.length + 1 + D.length) := by omega
  refine dk 19 (some 28) (.string ((((((⟨List.toArray [67,79,78,83,84,32]⟩ : ByteArray) ++ (⟨List.toArray X⟩ : ByteArray)) ++ (⟨List.toArray [32]⟩ : ByteArray)) ++ (⟨List.toArray N⟩ : ByteArray)) ++ (⟨List.toArray [32]⟩ : ByteArray)) ++ (⟨List.toArray D⟩ : ByteArray))) rfl rfl (fun w9 _ => by go_simp) hHeld ?_; simp only [qA,qB,qC,qD]; refine dk 20 (some 2) (.string ((((((⟨List.toArray [67,79,78,83,84,32]⟩ : ByteArray) ++ (⟨List.toArray X⟩ : ByteArray)) ++ (⟨List.toArray [32]⟩ : ByteArray)) ++ (⟨List.toArray N⟩ : ByteArray)) ++ (⟨List.toArray [32]⟩ : ByteArray)) ++ (⟨List.toArray D⟩ : ByteArray))) rfl rfl (fun w9 _ => by go_simp) hHeld ?_; simp only [qA,qB,qC,qD]; refine wpAnyH_done (by kernel_rfl) ?_ _; clear hHeld; go_wp2_with fail
  go_ret
  refine ⟨(show Ending.returned (.string ((((((⟨List.toArray [67,79,78,83,84,32]⟩ : ByteArray) ++ (⟨List.toArray X⟩ : ByteArray)) ++ (⟨List.toArray [32]⟩ : ByteArray)) ++ (⟨List.toArray N⟩ : ByteArray)) ++ (⟨List.toArray [32]⟩ : ByteArray)) ++ (⟨List.toArray D⟩ : ByteArray))) = _ from xS ?_),U.out⟩
  repeat rw [vS]
  try simp only [List.append_assoc]
  try rfl
 ·rw [if_neg H] at hok
  by_cases L : (S.th x).kind = 2
  ·rw [if_pos L,Bool.and_eq_true] at hok
   obtain ⟨q,j⟩ := yp hok.1; have t := g q j
   have V : S.tyOK (S.ty q) = true := by have m := hok.2; rw [j] at m; exact m
   obtain ⟨N,n⟩ : ∃ z,z = S.typeT (S.ty q) := ⟨_,rfl⟩; obtain ⟨M,hM⟩ : ∃ z,z = kS X (S.th x).exp := ⟨_,rfl⟩
   have A : S.lineT (S.th x) = [84,89,80,69,32] ++ M ++ [32] ++ N := by unfold KS.lineT; rw [if_neg H,if_pos L,hM,n,F,j]; rfl
   rw [A] at f ⊢; simp only [List.length_append,List.length_cons,List.length_nil] at f
   have e0 : w.cell? ⟨ρ.th x,0,none⟩ = some (.int .i64 2) := by rw [<- L]; exact r.c 0 _ rfl
   have e2 : Hid (w.cell? ⟨ρ.th x,2,none⟩ = some (.bool (S.th x).exp)) := r.c 2 _ rfl
   have Q : Hid (w.cell? ⟨ρ.th x,4,none⟩ = some (.pointer (some ⟨ρ.ty q,0,none⟩))) := by have m := r.c 4 _ rfl; rw [j] at m; exact m
   have b6 : X.length <= M.length := by rw [hM]; unfold kS; split <;> simp
   have a2 : Hid (∀ w9 : World,Calls Tryz.prog 45 #[.string ⟨X.toArray⟩,.bool (S.th x).exp] w9 (Sy w9 (.string ⟨M.toArray⟩))) := fun w9 => by rw [hM]; exact kV X _ (by omega)
   have a3 : Hid (∀ w9,w.grownBy w9 none -> Calls Tryz.prog 46 #[.pointer (some ⟨ρ.ty q,0,none⟩)] w9 (Sy w9 (.string ⟨N.toArray⟩))) := fun w9 G => by rw [n]; exact fq (HM.out.up G) HK.out (HP.out.kept G) t V
   clear h hk hp r hok v g o F j n hM A V
   go_enter Tryz.func31,Tryz.ntmps31
   go_wp2_with fail; refine wp_region_held_drew (S := fun w9 => w.grownBy w9 none) (by kernel_rfl) ?_ (fun hHeld => ?_)
   ·exact zh (zc w none)
   refine kQ 0 31 (.pointer (some ⟨ρ.th x,0,none⟩)) hHeld ?_; simp only [qA,qB,qC,qD]; refine kQ 1 32 (.pointer (some ⟨ρ.th x,0,none⟩)) hHeld ?_; simp only [qA,qB,qC,qD]; refine kQ 2 33 (.pointer (some ⟨ρ.th x,1,none⟩)) hHeld ?_; simp only [qA,qB,qC,qD]; refine dk 3 (some 34) (.string ⟨X.toArray⟩) rfl rfl (fun w9 hS => by have B := zi hS x1.out; go_simp) hHeld ?_; simp only [qA,qB,qC,qD]; refine kQ 4 35 (.pointer (some ⟨ρ.th x,0,none⟩)) hHeld ?_; simp only [qA,qB,qC,qD]; refine kQ 5 36 (.pointer (some ⟨ρ.th x,0,none⟩)) hHeld ?_; simp only [qA,qB,qC,qD]; refine kQ 6 37 (.pointer (some ⟨ρ.th x,2,none⟩)) hHeld ?_; simp only [qA,qB,qC,qD]; refine dk 7 (some 38) (.bool (S.th x).exp) rfl rfl (fun w9 hS => by have B := zi hS e2.out; go_simp) hHeld ?_; simp only [qA,qB,qC,qD]; refine kQ 11 42 (.pointer (some ⟨ρ.th x,0,none⟩)) hHeld ?_; simp only [qA,qB,qC,qD]; refine kQ 12 43 (.pointer (some ⟨ρ.th x,0,none⟩)) hHeld ?_; simp only [qA,qB,qC,qD]; refine kQ 13 44 (.pointer (some ⟨ρ.th x,4,none⟩)) hHeld ?_; simp only [qA,qB,qC,qD]; refine dk 14 (some 45) (.pointer (some ⟨ρ.ty q,0,none⟩)) rfl rfl (fun w9 hS => by have B := zi hS Q.out; go_simp) hHeld ?_; simp only [qA,qB,qC,qD]; refine rd 8 rfl fun KK hKK => ?_
   go_simp
   go_at_call 45; refine (a2.out _).mono ?_; rintro e w1 ⟨rfl,d⟩; have E := ze (za (zh (zc w none)) d); have k := ze (za (zh (zc w none)) d); clear d
   go_simp
   refine hKK.out _ _ k.out fun hHeld => ?_
   clear hKK KK
   have b7 : ¬ (9223372036854775807 < 5 + M.length) := by omega
   refine kQ 9 40 (.string ((⟨List.toArray [84,89,80,69,32]⟩ : ByteArray) ++ (⟨List.toArray M⟩ : ByteArray))) hHeld ?_; simp only [qA,qB,qC,qD]
   have b8 : ¬ (9223372036854775807 < 5 + M.length + 1) := by omega
   refine kQ 10 41 (.string (((⟨List.toArray [84,89,80,69,32]⟩ : ByteArray) ++ (⟨List.toArray M⟩ : ByteArray)) ++ (⟨List.toArray [32]⟩ : ByteArray))) hHeld ?_; simp only [qA,qB,qC,qD]; refine rd 15 rfl fun KK hKK => ?_
   go_simp
   go_at_call 46; refine (a3.out _ E.out).mono ?_; rintro e w2 ⟨rfl,i⟩; have U := ze (za E.out i); have C := ze (za k.out i); clear i
   go_simp
   refine hKK.out _ _ C.out fun hHeld => ?_
   clear hKK KK
   have b9 : ¬ (9223372036854775807 < 5 + M.length + 1 + N.length) := by omega
   refine dk 16 (some 47) (.string ((((⟨List.toArray [84,89,80,69,32]⟩ : ByteArray) ++ (⟨List.toArray M⟩ : ByteArray)) ++ (⟨List.toArray [32]⟩ : ByteArray)) ++ (⟨List.toArray N⟩ : ByteArray))) rfl rfl (fun w9 _ => by go_simp) hHeld ?_; simp only [qA,qB,qC,qD]; refine dk 17 (some 2) (.string ((((⟨List.toArray [84,89,80,69,32]⟩ : ByteArray) ++ (⟨List.toArray M⟩ : ByteArray)) ++ (⟨List.toArray [32]⟩ : ByteArray)) ++ (⟨List.toArray N⟩ : ByteArray))) rfl rfl (fun w9 _ => by go_simp) hHeld ?_; simp only [qA,qB,qC,qD]; refine wpAnyH_done (by kernel_rfl) ?_ _; clear hHeld; go_wp2_with fail
   go_ret
   refine ⟨(show Ending.returned (.string ((((⟨List.toArray [84,89,80,69,32]⟩ : ByteArray) ++ (⟨List.toArray M⟩ : ByteArray)) ++ (⟨List.toArray [32]⟩ : ByteArray)) ++ (⟨List.toArray N⟩ : ByteArray))) = _ from xS ?_),U.out⟩
   repeat rw [vS]
   try simp only [List.append_assoc]
   try rfl
  ·rw [if_neg L] at hok
   by_cases Y : (S.th x).kind = 3
   ·rw [if_pos Y,Bool.and_eq_true] at hok
    obtain ⟨q,j⟩ := yp hok.1
    have O : 0 <= (S.th x).first /\ (S.th x).first <= 1000000 := by have m := hok.2; simpa [fp] using m
    have t := g q j; obtain ⟨s,l⟩ : ∃ z,z = (S.th x).first := ⟨_,rfl⟩; obtain ⟨N,n⟩ : ∃ z,z = S.nameT (S.ty q) := ⟨_,rfl⟩; obtain ⟨D,I⟩ : ∃ z,z = vX s := ⟨_,rfl⟩
    have A : S.lineT (S.th x) = [86,65,82,32] ++ X ++ [32] ++ N ++ [32] ++ D := by unfold KS.lineT; rw [if_neg H,if_neg L,if_pos Y,I,l,n,F,j]; rfl
    rw [A] at f ⊢; simp only [List.length_append,List.length_cons,List.length_nil] at f; rw [<- l] at O
    have e0 : w.cell? ⟨ρ.th x,0,none⟩ = some (.int .i64 3) := by rw [<- Y]; exact r.c 0 _ rfl
    have Q : Hid (w.cell? ⟨ρ.th x,4,none⟩ = some (.pointer (some ⟨ρ.ty q,0,none⟩))) := by have m := r.c 4 _ rfl; rw [j] at m; exact m
    have e5 : Hid (w.cell? ⟨ρ.th x,6,none⟩ = some (.int .i64 s)) := by rw [l]; exact r.c 6 _ rfl
    have J : Hid (∀ w9,w.grownBy w9 none -> Calls Tryz.prog 44 #[.int .i64 s] w9 (Sy w9 (.string ⟨D.toArray⟩))) := fun w9 G => by rw [I]; exact jd s O.1 (by omega) w9 (HP.out.kept G)
    have K : Hid (∀ w9,w.grownBy w9 none -> Calls Tryz.prog 43 #[.pointer (some ⟨ρ.ty q,0,none⟩)] w9 (Sy w9 (.string ⟨N.toArray⟩))) := fun w9 G => by rw [n]; exact xx (HM.out.up G) HK.out t (by rw [<- n]; omega)
    have R : Hid (IntKind.i64.wrap s = s) := by show _ = _; rw [IntKind.wrap_i64]; omega
    clear h hk hp r hok v g o F j l n I A
    go_enter Tryz.func31,Tryz.ntmps31
    go_wp2_with fail; refine wp_region_held_drew (S := fun w9 => w.grownBy w9 none) (by kernel_rfl) ?_ (fun hHeld => ?_)
    ·exact zh (zc w none)
    refine kQ 0 50 (.pointer (some ⟨ρ.th x,0,none⟩)) hHeld ?_; simp only [qA,qB,qC,qD]; refine kQ 1 51 (.pointer (some ⟨ρ.th x,0,none⟩)) hHeld ?_; simp only [qA,qB,qC,qD]; refine kQ 2 52 (.pointer (some ⟨ρ.th x,1,none⟩)) hHeld ?_; simp only [qA,qB,qC,qD]; refine dk 3 (some 53) (.string ⟨X.toArray⟩) rfl rfl (fun w9 hS => by have B := zi hS x1.out; go_simp) hHeld ?_; simp only [qA,qB,qC,qD]
    have c0 : ¬ (9223372036854775807 < 4 + X.length) := by omega
    refine kQ 4 54 (.string ((⟨List.toArray [86,65,82,32]⟩ : ByteArray) ++ (⟨List.toArray X⟩ : ByteArray))) hHeld ?_; simp only [qA,qB,qC,qD]
    have a5 : ¬ (9223372036854775807 < 4 + X.length + 1) := by omega
    refine kQ 5 55 (.string (((⟨List.toArray [86,65,82,32]⟩ : ByteArray) ++ (⟨List.toArray X⟩ : ByteArray)) ++ (⟨List.toArray [32]⟩ : ByteArray))) hHeld ?_; simp only [qA,qB,qC,qD]; refine kQ 6 56 (.pointer (some ⟨ρ.th x,0,none⟩)) hHeld ?_; simp only [qA,qB,qC,qD]; refine kQ 7 57 (.pointer (some ⟨ρ.th x,0,none⟩)) hHeld ?_; simp only [qA,qB,qC,qD]; refine kQ 8 58 (.pointer (some ⟨ρ.th x,4,none⟩)) hHeld ?_; simp only [qA,qB,qC,qD]; refine dk 9 (some 59) (.pointer (some ⟨ρ.ty q,0,none⟩)) rfl rfl (fun w9 hS => by have B := zi hS Q.out; go_simp) hHeld ?_; simp only [qA,qB,qC,qD]; refine kQ 13 63 (.pointer (some ⟨ρ.th x,0,none⟩)) hHeld ?_; simp only [qA,qB,qC,qD]; refine kQ 14 64 (.pointer (some ⟨ρ.th x,0,none⟩)) hHeld ?_; simp only [qA,qB,qC,qD]; refine kQ 15 65 (.pointer (some ⟨ρ.th x,6,none⟩)) hHeld ?_; simp only [qA,qB,qC,qD]; refine dk 16 (some 66) (.int .i64 s) rfl rfl (fun w9 hS => by have B := zi hS e5.out; go_simp) hHeld ?_; simp only [qA,qB,qC,qD]; refine rd 10 rfl fun KK hKK => ?_
    go_simp
    go_at_call 43; refine (K.out _ (zh (zc w none))).mono ?_; rintro e w1 ⟨rfl,d⟩; have E := ze (za (zh (zc w none)) d); have k := ze (za (zh (zc w none)) d); clear d
    go_simp
    refine hKK.out _ _ k.out fun hHeld => ?_
    clear hKK KK
    have a6 : ¬ (9223372036854775807 < 4 + X.length + 1 + N.length) := by omega
    refine dk 11 (some 61) (.string ((((⟨List.toArray [86,65,82,32]⟩ : ByteArray) ++ (⟨List.toArray X⟩ : ByteArray)) ++ (⟨List.toArray [32]⟩ : ByteArray)) ++ (⟨List.toArray N⟩ : ByteArray))) rfl rfl (fun w9 _ => by go_simp) hHeld ?_; simp only [qA,qB,qC,qD]
    have a7 : ¬ (9223372036854775807 < 4 + X.length + 1 + N.length + 1) := by omega
    refine dk 12 (some 62) (.string (((((⟨List.toArray [86,65,82,32]⟩ : ByteArray) ++ (⟨List.toArray X⟩ : ByteArray)) ++ (⟨List.toArray [32]⟩ : ByteArray)) ++ (⟨List.toArray N⟩ : ByteArray)) ++ (⟨List.toArray [32]⟩ : ByteArray))) rfl rfl (fun w9 _ => by go_simp) hHeld ?_; simp only [qA,qB,qC,qD]; refine rd 17 rfl fun KK hKK => ?_
    go_simp
    go_at_call 44; refine (J.out _ E.out).mono ?_; rintro e w2 ⟨rfl,i⟩; have U := ze (za E.out i); have C := ze (za k.out i); clear i
    go_simp
    refine hKK.out _ _ C.out fun hHeld => ?_
    clear hKK KK
    have a8 : ¬ (9223372036854775807 < 4 + X.length + 1 + N.length + 1 + D.length) := by omega
    refine dk 18 (some 68) (.string ((((((⟨List.toArray [86,65,82,32]⟩ : ByteArray) ++ (⟨List.toArray X⟩ : ByteArray)) ++ (⟨List.toArray [32]⟩ : ByteArray)) ++ (⟨List.toArray N⟩ : ByteArray)) ++ (⟨List.toArray [32]⟩ : ByteArray)) ++ (⟨List.toArray D⟩ : ByteArray))) rfl rfl (fun w9 _ => by go_simp) hHeld ?_; simp only [qA,qB,qC,qD]; refine dk 19 (some 2) (.string ((((((⟨List.toArray [86,65,82,32]⟩ : ByteArray) ++ (⟨List.toArray X⟩ : ByteArray)) ++ (⟨List.toArray [32]⟩ : ByteArray)) ++ (⟨List.toArray N⟩ : ByteArray)) ++ (⟨List.toArray [32]⟩ : ByteArray)) ++ (⟨List.toArray D⟩ : ByteArray))) rfl rfl (fun w9 _ => by go_simp) hHeld ?_; simp only [qA,qB,qC,qD]; refine wpAnyH_done (by kernel_rfl) ?_ _; clear hHeld; go_wp2_with fail
    go_ret
    refine ⟨(show Ending.returned (.string ((((((⟨List.toArray [86,65,82,32]⟩ : ByteArray) ++ (⟨List.toArray X⟩ : ByteArray)) ++ (⟨List.toArray [32]⟩ : ByteArray)) ++ (⟨List.toArray N⟩ : ByteArray)) ++ (⟨List.toArray [32]⟩ : ByteArray)) ++ (⟨List.toArray D⟩ : ByteArray))) = _ from xS ?_),U.out⟩
    repeat rw [vS]
    try simp only [List.append_assoc]
    try rfl
   ·rw [if_neg Y,Bool.and_eq_true,Bool.and_eq_true] at hok
    obtain ⟨⟨h4,Z⟩,u⟩ := hok; obtain ⟨q,j⟩ := yp Z; have t := o q j; rw [show (S.th x).proc.getD 0 = q by rw [j]; rfl] at u
    have a0 : ∀ y ∈ (S.pr q).pars,(S.th y).ty.isSome = true := fun y hy => List.all_eq_true.1 u y hy
    obtain ⟨N,n⟩ : ∃ z,z = S.headT (S.pr q) := ⟨_,rfl⟩
    have A : S.lineT (S.th x) = [80,82,79,67,69,68,85,82,69,32] ++ X ++ N := by unfold KS.lineT; rw [if_neg H,if_neg L,if_neg Y,n,F,j]; rfl
    rw [A] at f ⊢; simp only [List.length_append,List.length_cons,List.length_nil] at f
    have a1 : (S.th x).kind = 4 := by simpa using h4
    have e0 : w.cell? ⟨ρ.th x,0,none⟩ = some (.int .i64 4) := by rw [<- a1]; exact r.c 0 _ rfl
    have e8 : Hid (w.cell? ⟨ρ.th x,8,none⟩ = some (.pointer (some ⟨ρ.pr q,0,none⟩))) := by have m := r.c 8 _ rfl; rw [j] at m; exact m
    have a4 : Hid (∀ w9,w.grownBy w9 none -> Calls Tryz.prog 47 #[.pointer (some ⟨ρ.pr q,0,none⟩)] w9 (Sy w9 (.string ⟨N.toArray⟩))) := fun w9 G => by rw [n]; exact rz (HM.out.up G) HK.out t (by rw [<- n]; omega) a0
    clear h hk hp r v g o F j n A a0 u Z h4 a1
    go_enter Tryz.func31,Tryz.ntmps31
    go_wp2_with fail; refine wp_region_held_drew (S := fun w9 => w.grownBy w9 none) (by kernel_rfl) ?_ (fun hHeld => ?_)
    ·exact zh (zc w none)
    refine kQ 0 69 (.pointer (some ⟨ρ.th x,0,none⟩)) hHeld ?_; simp only [qA,qB,qC,qD]; refine kQ 1 70 (.pointer (some ⟨ρ.th x,0,none⟩)) hHeld ?_; simp only [qA,qB,qC,qD]; refine kQ 2 71 (.pointer (some ⟨ρ.th x,1,none⟩)) hHeld ?_; simp only [qA,qB,qC,qD]; refine dk 3 (some 72) (.string ⟨X.toArray⟩) rfl rfl (fun w9 hS => by have B := zi hS x1.out; go_simp) hHeld ?_; simp only [qA,qB,qC,qD]
    have a9 : ¬ (9223372036854775807 < 10 + X.length) := by omega
    refine kQ 4 73 (.string ((⟨List.toArray [80,82,79,67,69,68,85,82,69,32]⟩ : ByteArray) ++ (⟨List.toArray X⟩ : ByteArray))) hHeld ?_; simp only [qA,qB,qC,qD]; refine kQ 5 74 (.pointer (some ⟨ρ.th x,0,none⟩)) hHeld ?_; simp only [qA,qB,qC,qD]; refine kQ 6 75 (.pointer (some ⟨ρ.th x,0,none⟩)) hHeld ?_; simp only [qA,qB,qC,qD]; refine kQ 7 76 (.pointer (some ⟨ρ.th x,8,none⟩)) hHeld ?_; simp only [qA,qB,qC,qD]; refine dk 8 (some 77) (.pointer (some ⟨ρ.pr q,0,none⟩)) rfl rfl (fun w9 hS => by have B := zi hS e8.out; go_simp) hHeld ?_; simp only [qA,qB,qC,qD]; refine rd 9 rfl fun KK hKK => ?_
    go_simp
    go_at_call 47; refine (a4.out _ (zh (zc w none))).mono ?_; rintro e w1 ⟨rfl,d⟩; have E := ze (za (zh (zc w none)) d); have k := ze (za (zh (zc w none)) d); clear d
    go_simp
    refine hKK.out _ _ k.out fun hHeld => ?_
    clear hKK KK
    have b0 : ¬ (9223372036854775807 < 10 + X.length + N.length) := by omega
    refine kQ 10 79 (.string (((⟨List.toArray [80,82,79,67,69,68,85,82,69,32]⟩ : ByteArray) ++ (⟨List.toArray X⟩ : ByteArray)) ++ (⟨List.toArray N⟩ : ByteArray))) hHeld ?_; simp only [qA,qB,qC,qD]; refine kQ 11 2 (.string (((⟨List.toArray [80,82,79,67,69,68,85,82,69,32]⟩ : ByteArray) ++ (⟨List.toArray X⟩ : ByteArray)) ++ (⟨List.toArray N⟩ : ByteArray))) hHeld ?_; simp only [qA,qB,qC,qD]; refine wpAnyH_done (by kernel_rfl) ?_ _; clear hHeld; go_wp2_with fail
    go_ret
    refine ⟨(show Ending.returned (.string (((⟨List.toArray [80,82,79,67,69,68,85,82,69,32]⟩ : ByteArray) ++ (⟨List.toArray X⟩ : ByteArray)) ++ (⟨List.toArray N⟩ : ByteArray))) = _ from xS ?_),E.out⟩
    repeat rw [vS]
    try simp only [List.append_assoc]
    try rfl
end
set_option maxHeartbeats 2000000
set_option maxRecDepth 100000
def my (z : Int) (c : UInt8) : Int := bits .xor .u32 z ((c.toNat : Int) % 4294967296) * 16777619 % 4294967296
def so (l : List UInt8) : Int := l.foldl my 2166136261
theorem pA {l : List UInt8} {j : Nat} (h : j < l.length) : so (l.take (j + 1)) = my (so (l.take j)) l[j] := by
 unfold so
 rw [List.take_succ_eq_append_getElem h,List.foldl_append]
 rfl
section
variable {w : World}
theorem tP (l : List UInt8) (hl : l.length <= 100000) : Calls Tryz.prog 22 #[.string ⟨l.toArray⟩] w (fun e w' => e = .returned (.int .i64 (RowKit.wrap64 (so l))) /\ w' = w) := by
 go_enter Tryz.func22,Tryz.ntmps22
 go_wp2_with fail
 go_loopw [7,3] (fun iv hv wr => ∃ (j : Nat) (z : Int),j <= l.length /\ iv = .int .i64 ↑j /\ hv = .int .u32 z /\ wr = w /\ Hid (z = so (l.take j))) (fun iv _ _ => l.length - (intOf iv).toNat)
 case atStart => exact ⟨0,_,Nat.zero_le _,rfl,rfl,rfl,rfl⟩
 case round =>
  obtain ⟨j,z,_,rfl,rfl,rfl,b⟩ := hrel
  by_cases c : j < l.length
  ·go_wp2
   go_roundw
   case rel =>
    refine ⟨j + 1,_,by omega,by go_num,rfl,by first | rfl | trivial,?_⟩
    show _ = _
    rw [pA c,<- show z = _ from b.out]
    rfl
   case measure => first | omega | (simp only [intOf]; omega) | (simp; omega)
  ·obtain rfl : j = l.length := by omega
   rw [List.take_length] at b; go_wp2
   go_ret
   obtain rfl : z = so l := b.out
   exact ⟨rfl,rfl⟩
end
end Go.Proofs.YtnmkffjklpfflaaGreatDoor
