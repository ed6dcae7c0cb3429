/- Raw numbers,one behind the other: what the next one is below a bound; one of some words. -/
import Derived.Test.YtnmkffjklpfflaaGreatDoorG07
import Derived.Test.YtnmkffjklpfflaaGreatDoorG06
import Derived.Test.YtnmkffjklpfflaaGreatDoorG03
namespace Go.Proofs.YtnmkffjklpfflaaGreatDoor
open Go.RowKit
set_option maxHeartbeats 1000000
theorem aU (n : Int) (h : -9223372036854775808 <= n /\ n <= 9223372036854775807) : wrap64 n = n := by unfold wrap64; omega
def ux (c n : Int) : Int := if c < 0 then (-(c + 1)) % n else c % n
theorem uF {c n : Int} (hn : 0 < n) : 0 <= ux c n /\ ux c n < n := by
 unfold ux
 split
 ·exact ⟨Int.emod_nonneg _ (by omega),Int.emod_lt_of_pos _ hn⟩
 ·exact ⟨Int.emod_nonneg _ (by omega),Int.emod_lt_of_pos _ hn⟩
theorem kK (c n : Int) (w : World) (hc1 : -9223372036854775808 <= c) (hc2 : c <= 9223372036854775807) (hn : 0 < n) (hn2 : n <= 9223372036854775807) :
  Calls Tryz.prog 6 #[.int .i64 c,.int .i64 n] w fun e w' => e = .returned (.int .i64 (ux c n)) /\ w' = w := by
 have b : n ≠ 0 := by omega
 by_cases h : c < 0
 ·have e : ux c n = -((c + 1).tmod n) := by
   rw [ux,if_pos h,<- Int.neg_tmod,Int.tmod_eq_emod_of_nonneg (by omega)]
  rw [e]; clear e
  go_enter Tryz.func6,Tryz.ntmps6
  go_wp2_with fail
  go_ret
  exact ⟨rfl,rfl⟩
 ·rw [ux,if_neg h]
  go_enter Tryz.func6,Tryz.ntmps6
  go_wp2_with fail
  go_ret
  exact ⟨rfl,rfl⟩
structure Nums (w : World) (a : Addr) (n : Nat) (rv : Nat -> Int) : Prop where
 cell : ∀ k,k < n -> w.cell? (a.add k) = some (.int .i64 (rv k))
 lo : ∀ k,-9223372036854775808 <= rv k
 hi : ∀ k,rv k <= 9223372036854775807
theorem ia (i : Nat) (a : Option Addr) (c : Nat) (w : World) (hi : i <= 100000) :
  Calls Tryz.prog 36 #[.slice a 0 c,.int .i64 i] w fun e w' => e = .returned (.int .i64 ((i : Int) * 31)) /\ ∃ m,w' = w.drewN m := by
 go_enter Tryz.func36,Tryz.ntmps36
 go_wp2_with fail
 go_ret
 exact ⟨rfl,0,rfl⟩
theorem ik (i n c : Nat) (a : Addr) (rv : Nat -> Int) (w : World) (hi : i <= 100000) (hn : 0 < n) (hn2 : n <= 256) (hr : Nums w a n rv) :
  Calls Tryz.prog 36 #[.slice (some a) n c,.int .i64 i] w fun e w' => e = .returned (.int .i64 (ux (rv (i % n)) 1000003 + (i / n : Nat) * 7919)) /\ ∃ m,w' = w.drewN m := by
 have b : i % n < n := Nat.mod_lt _ hn; have o := hr.cell (i % n) b; have f := hr.lo (i % n); have g := hr.hi (i % n)
 generalize rv (i % n) = v at o f g
 have j := fun w' => kK v 1000003 w' f g (by omega) (by omega)
 have h := uF (c := v) (n := 1000003) (by omega)
 generalize ux v 1000003 = q at j h
 clear hr f g
 have r : ¬ n = 0 := by omega
 have s : ¬ ((n : Int) = 0) := by omega
 have t : (i : Int).tmod n = ((i % n : Nat) : Int) := by rw [Int.tmod_eq_emod_of_nonneg (by omega)]; rfl
 have u : (i : Int).tdiv n = ((i / n : Nat) : Int) := by rw [Int.tdiv_eq_ediv_of_nonneg (by omega)]; rfl
 have k : i / n <= 100000 := Nat.le_trans (Nat.div_le_self _ _) hi
 go_enter Tryz.func36,Tryz.ntmps36
 go_wp2_with fail
 go_quiet (first | (go_at_call 6; exact Calls.quiet_of_same (j _)) | fail)
 have l : ∀ d : Nat,d <= 100000 -> wrap64 (q + wrap64 (wrap64 (d : Int) * 7919)) = q + (d : Int) * 7919 := by
  intro d k; rw [aU (d : Int) (by omega),aU ((d : Int) * 7919) (by omega),aU _ (by omega)]
 rw [show (i : Int) / (n : Int) = ((i / n : Nat) : Int) from rfl,l _ k]; clear t u l; go_wp2_with fail
 go_ret
 exact ⟨rfl,_,rfl⟩
/-! ### The source of raw numbers -/
structure Src (w0 : World) (b : Nat) (lv : Value) (w : World) (k : Nat) : Prop where
 gb : w0.grownBy w (some b)
 c0 : w.cell? ⟨b,0,none⟩ = some lv
 c1 : w.cell? ⟨b,1,none⟩ = some (.int .i64 k)
 fz : ∀ o,w.frozen? ⟨b,o,none⟩ = false
 le : k <= 90000
inductive RawV (w0 : World) (b : Nat) : Value -> Prop
 | none (a : Option Addr) (c : Nat) : RawV w0 b (.slice a 0 c)
 | some (a : Addr) (n c : Nat) (rv : Nat -> Int) (hg : a.block ≠ b) (hn : 0 < n) (hn2 : n <= 256) (h : Nums w0 a n rv) : RawV w0 b (.slice (some a) n c)
theorem tl (a : Addr) (k : Nat) : (a.add k).block = a.block := by unfold Addr.add; split <;> rfl
theorem Nums.kept {w w' : World} {a : Addr} {n b : Nat} {rv : Nat -> Int} (h : Nums w a n rv) (hg : w.grownBy w' (some b)) (hne : a.block ≠ b) : Nums w' a n rv := by
 refine ⟨fun k hk => ?_,h.lo,h.hi⟩; have c := h.cell k hk; have d := hg.block (a.add k).block (World.block_lt_of_cell? w _ c) (by rw [tl]; simpa using hne)
 unfold World.cell? at c ⊢
 rw [d]
 exact c
theorem cN {w0 : World} {b : Nat} {lv : Value} (hr : RawV w0 b lv) : ∀ (k : Nat) (w : World),k <= 100000 -> w0.grownBy w (.some b) -> ∃ r : Int,-9223372036854775808 <= r /\ r <= 9223372036854775807 /\ ∀ n,Calls Tryz.prog 36 #[lv,.int .i64 k] (w.drewN n) fun e w' => e = .returned (.int .i64 r) /\ ∃ m,w' = (w.drewN n).drewN m := by
 intro k w d g; cases hr with
 | none a c => exact ⟨(k : Int) * 31,by omega,by omega,fun n => ia k a c _ d⟩
 | some a n c rv hne hn hn2 h =>
  have i := uF (c := rv (k % n)) (n := 1000003) (by omega); have f : k / n <= 100000 := Nat.le_trans (Nat.div_le_self _ _) d
  exact ⟨ux (rv (k % n)) 1000003 + (k / n : Nat) * 7919,by generalize k / n = q at f; omega,by generalize k / n = q at f; omega,fun m => ik k n c a rv _ d hn hn2 ⟨fun j hj => (h.kept g hne).cell j hj,h.lo,h.hi⟩⟩
theorem Src.put {w0 : World} {b : Nat} {lv : Value} {w : World} {k : Nat} (h : Src w0 b lv w k) (hk : k < 90000) (n : Nat) : Src w0 b lv ((w.setCell ⟨b,1,none⟩ (.int .i64 ((k : Int) + 1))).drewN n) (k + 1) :=
 ⟨zq (zT h.gb _ _) n,(World.cell?_setCell_other w _ _ _ (by simp)).trans h.c0,World.cell?_setCell_same w _ _ h.c1,fun o => (World.frozen?_setCell ..).trans (h.fz o),by omega⟩
abbrev sp (b : Nat) : Value := pq b
theorem uy {w0 : World} {b : Nat} {lv : Value} (hr : RawV w0 b lv) (w : World) (k : Nat) (n : Int) (h : Src w0 b lv w k) (hk : k < 90000) (hn : 0 < n) (hn2 : n <= 1000000) :
  Calls Tryz.prog 24 #[sp b,.int .i64 n] w fun e w' => (∃ r : Nat,(r : Int) < n /\ e = .returned (.int .i64 r)) /\ Src w0 b lv w' (k + 1) /\ w.grownBy w' (some b) := by
 have c0 := h.c0; have c1 := h.c1; have fz := h.fz; have i := zc h.gb; have j := zc h; clear h; obtain ⟨r,l,m,g⟩ := cN hr k (w.setCell ⟨b,1,none⟩ (.int .i64 (k + 1))) (by omega) (zT i.out _ _)
 have f := fun w' => kK r n w' l m hn (by omega)
 have d := uF (c := r) hn
 generalize ux r n = q at f d
 have o := zc f; have s := zc g; clear f g
 go_enter Tryz.func24,Tryz.ntmps24
 go_wp2_with fail
 go_quiet (first | (go_at_call 36; exact Calls.quiet_of (s.out _)) | (go_at_call 6; exact Calls.quiet_of_same (o.out _)) | fail)
 go_wp2_with fail
 go_ret
 refine ⟨⟨q.toNat,by omega,?_⟩,j.out.put hk nq,zq (zT (zj _ _) _ _) nq⟩; rw [Int.toNat_of_nonneg d.1]
 rfl
def Words (w : World) (g : Nat) (l : List W8) : Prop := ∀ i x,l[i]? = some x -> w.cell? ⟨g,i,none⟩ = some (.string ⟨x.toArray⟩)
theorem lZ {w w' : World} {b : Nat} {a : Addr} {v : Value} (hg : w.grownBy w' (some b)) (h : w.cell? a = some v) (hb : a.block ≠ b) : w'.cell? a = some v := by
 have hb := hg.block a.block (World.block_lt_of_cell? w _ h) (by simpa using hb)
 unfold World.cell? at h ⊢
 rw [hb]
 exact h
theorem zag {w0 : World} {b : Nat} {lv : Value} (hr : RawV w0 b lv) (w : World) (k g : Nat) (l : List W8) (h : Src w0 b lv w k) (hk : k < 90000) (hl : 0 < l.length) (hl2 : l.length <= 100) (hg : g ≠ b) (hw : Words w g l) :
  Calls Tryz.prog 33 #[sp b,.slice (some ⟨g,0,none⟩) l.length l.length] w fun e w' => (∃ x,x ∈ l /\ e = .returned (.string ⟨x.toArray⟩)) /\ Src w0 b lv w' (k + 1) /\ w.grownBy w' (some b) := by
 have i := zc (uy hr w k l.length h hk (by omega) (by omega)); have j := zc hw; clear hw
 go_enter Tryz.func33,Tryz.ntmps33
 go_wp2_with fail; go_at_call 24; refine i.out.mono ?_; rintro e s ⟨⟨r,m,rfl⟩,f,d⟩; obtain ⟨x,c⟩ : ∃ x,l[r]? = some x := ⟨_,List.getElem?_eq_getElem (by omega)⟩; have n := List.mem_of_getElem? c; have t := lZ d (j.out r x c) hg; have o := zc f; have q := zc d; have u := zc c; clear f d c h; go_wp2_with fail
 go_ret
 exact ⟨⟨x,n,rfl⟩,o.out,q.out⟩
theorem Src.alloc {w0 : World} {b : Nat} {lv : Value} {w : World} {k : Nat} (h : Src w0 b lv w k) (o : Obj) : Src w0 b lv (w.alloc o) k :=
 ⟨zh h.gb o,zE (World.grownBy_alloc w o none) h.c0 (by simp),zE (World.grownBy_alloc w o none) h.c1 (by simp),fun x => by
  rw [World.frozen?_alloc_past _ _ _ (World.block_lt_of_cell? w _ h.c0)]
  exact h.fz x,h.le⟩
theorem Src.lt {w0 : World} {b : Nat} {lv : Value} {w : World} {k : Nat} (h : Src w0 b lv w k) : w.heap.size ≠ b := by
 have : b < w.heap.size := World.block_lt_of_cell? w _ h.c0
 omega
abbrev cJ (x : W8) : Value := .string ⟨x.toArray⟩
theorem mG (w : World) (l : List W8) (t : Nat) (vs : List Value) (h : vs = l.map cJ) : Words (w.alloc (.cells vs.toArray t)) w.heap.size l := by
 intro i x b; subst h; rw [World.cell?_alloc_at _ _ _ _ rfl]
 simp [b]
theorem zad {w0 : World} {b : Nat} {lv : Value} (hr : RawV w0 b lv) {w : World} {k : Nat} (h : Src w0 b lv w k) (hk : k < 90000) (l : List W8) (t : Nat) (vs : List Value) (hv : vs = l.map cJ) (hl : 0 < l.length) (hl2 : l.length <= 100) :
  Calls Tryz.prog 33 #[sp b,.slice (some ⟨w.heap.size,0,none⟩) l.length l.length] (w.alloc (.cells vs.toArray t)) fun e w' => ∃ x k',e = .returned (.string ⟨x.toArray⟩) /\ x ∈ l /\ k' <= k + 1 /\ Src w0 b lv w' k' /\ w.grownBy w' (some b) := by
 refine (zag hr _ k w.heap.size l (h.alloc _) hk hl hl2 h.lt (mG w l t vs hv)).mono ?_; rintro e w' ⟨⟨x,c,rfl⟩,d,f⟩
 exact ⟨x,k + 1,rfl,c,Nat.le_refl _,d,za (zh (zj _ _) _) f⟩
end Go.Proofs.YtnmkffjklpfflaaGreatDoor
