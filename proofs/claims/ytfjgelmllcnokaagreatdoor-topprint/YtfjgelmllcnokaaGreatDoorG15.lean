/- Pieces of made texts,put together; what a maker of texts comes to. -/
import Derived.Test.YtfjgelmllcnokaaGreatDoorG14
namespace Go.Proofs.YtfjgelmllcnokaaGreatDoor
open Go.RowKit
def Ey (fe bs : Bool) (n : Nat) (x : W8) : Prop := (∀ h,h + n <= 20 -> Pz fe h (h + n) x) /\ Hd bs x
theorem Ey.join {f1 f2 b1 b2 : Bool} {n m : Nat} {x y : W8} (hx : Ey f1 b1 n x) (hy : Ey f2 b2 m y) (hb : (f1 || b2) = true) : Ey f2 b1 (n + m) (x ++ y) :=
 ⟨fun h hh => by
  have := (hx.1 (h + m) (by omega)).join (hy.1 h (by omega)) hy.2 hb
  rwa [show h + m + n = h + (n + m) by omega] at this,hx.2.app y⟩
theorem vh {fe bs : Bool} {k : Nat} {c : W8} (h : (kO fe k c && hdC bs c) = true) : Ey fe bs k c := by
 rw [Bool.and_eq_true] at h
 exact ⟨fun a ha => zkn h.1 a ha,zfn h.2⟩
theorem Ey.fin {fe bs : Bool} {n m : Nat} {x : W8} (h : Ey fe bs n x) (hn : n <= m) : Ey false false m x :=
 ⟨fun a ha r h1 h2 h3 => ((h.1 a (by omega)) r h1 (fun _ => h2 rfl) h3).mono (by omega),h.2.weak⟩
abbrev Ex (n : Nat) (x : W8) : Prop := Ey false false n x
def Sz (fe bs : Bool) (a b : Nat) (x : W8) : Prop := Pz fe a b x /\ Hd bs x
theorem Sz.join {f1 f2 b1 b2 : Bool} {a b c : Nat} {x y : W8} (hx : Sz f1 b1 b c x) (hy : Sz f2 b2 a b y) (hb : (f1 || b2) = true) : Sz f2 b1 a c (x ++ y) := ⟨hx.1.join hy.1 hy.2 hb,hx.2.app y⟩
theorem vt {fe bs : Bool} {a b : Nat} {c : W8} (h : (chk fe a b c && hdC bs c) = true) : Sz fe bs a b c := by
 rw [Bool.and_eq_true] at h
 exact ⟨zb0 h.1,zfn h.2⟩
theorem Ey.sz {fe bs : Bool} {n : Nat} {x : W8} (h : Ey fe bs n x) (a : Nat) (ha : a + n <= 20) : Sz fe bs a (a + n) x := ⟨h.1 a ha,h.2⟩
theorem Sz.fin {fe bs : Bool} {a b b' : Nat} {x : W8} (h : Sz fe bs a b x) (hb : b <= b') : Sz false false a b' x :=
 ⟨fun r h1 h2 h3 => (h.1 r h1 (fun _ => h2 rfl) h3).mono hb,h.2.weak⟩
abbrev St1 (x : W8) : Prop := Sz false false 0 12 x
def Made (w0 : World) (b : Nat) (lv : Value) (w : World) (k N K : Nat) (Q : W8 -> Prop) (e : Ending) (w' : World) : Prop :=
 ∃ x k',e = .returned (.string ⟨x.toArray⟩) /\ Q x /\ x.length <= N /\ k' <= k + K /\ Src w0 b lv w' k' /\ w.grownBy w' (some b)
theorem Src.alloc {w0 : World} {b : Nat} {lv : Value} {w : World} {k : Nat} (h : Src w0 b lv w k) (o : Obj) : Src w0 b lv (w.alloc o) k :=
 ⟨zf h.gb o,zY (World.grownBy_alloc w o none) h.c0 (by simp),zY (World.grownBy_alloc w o none) h.c1 (by simp),fun x => by
  rw [World.frozen?_alloc_past _ _ _ (World.block_lt_of_cell? w _ h.c0)]
  exact h.fz x,h.le⟩
theorem Src.lt {w0 : World} {b : Nat} {lv : Value} {w : World} {k : Nat} (h : Src w0 b lv w k) : w.heap.size ≠ b := by
 have : b < w.heap.size := World.block_lt_of_cell? w _ h.c0
 omega
abbrev zho (x : W8) : Value := .string ⟨x.toArray⟩
theorem aV (w : World) (l : List W8) (t : Nat) (vs : List Value) (h : vs = l.map zho) : Words (w.alloc (.cells vs.toArray t)) w.heap.size l := by
 intro i x b; subst h; rw [World.cell?_alloc_at _ _ _ _ rfl]
 simp [b]
theorem vD {w0 : World} {b : Nat} {lv : Value} (hr : RawV w0 b lv) {w : World} {k : Nat} (h : Src w0 b lv w k) (hk : k < 90000) (l : List W8) (t : Nat) (vs : List Value) (hv : vs = l.map zho) (hl : 0 < l.length) (hl2 : l.length <= 100) :
  Calls Tryz.prog 51 #[sp b,.slice (some ⟨w.heap.size,0,none⟩) l.length l.length] (w.alloc (.cells vs.toArray t)) fun e w' => ∃ x k',e = .returned (.string ⟨x.toArray⟩) /\ x ∈ l /\ k' <= k + 1 /\ Src w0 b lv w' k' /\ w.grownBy w' (some b) := by
 refine (zg3 hr _ k w.heap.size l (h.alloc _) hk hl hl2 h.lt (aV w l t vs hv)).mono ?_; rintro e w' ⟨⟨x,d,rfl⟩,f,g⟩
 exact ⟨x,k + 1,rfl,d,Nat.le_refl _,f,zb (zf (zl _ _) _) g⟩
def Wh (w0 : World) (b : Nat) (lv : Value) (d n N K : Nat) : Prop := ∀ (w : World) (k : Nat),Src w0 b lv w k -> k + K <= 90000 -> Calls Tryz.prog 52 #[sp b,.int .i64 d] w (Made w0 b lv w k N K (Ex n))
set_option maxHeartbeats 1000000 in
theorem oZ {w0 : World} {b : Nat} {lv : Value} (hr : RawV w0 b lv) : Wh w0 b lv 0 0 10 1 := by
 intro w k h s; have m := za (fun vs hv => vD hr h (by omega) [[105],[106],[51],[55],[48],[76,105,98,46,99,111,117,110,116],[76,105,98,46,108,105,109,105,116],[97,91,49,93],[107],[50,49,52,55,52,56,51,54,52,55]] 9 vs hv (by decide) (by decide)); clear h
 go_enter Tryz.func52,Tryz.ntmps52
 go_wp2_with fail; go_at_call 51; refine (m.out _ rfl).mono ?_; rintro e t ⟨x,n,rfl,d,f,g,i⟩
 have j : Ex 0 x /\ x.length <= 10 := by
  have : ∀ y ∈ ([[105],[106],[51],[55],[48],[76,105,98,46,99,111,117,110,116],[76,105,98,46,108,105,109,105,116],[97,91,49,93],[107],[50,49,52,55,52,56,51,54,52,55]] : List W8),(kO false 0 y && hdC false y) = true /\ y.length <= 10 := by decide
  exact ⟨vh (this x d).1,(this x d).2⟩
 have l := za j; have o := za g; have r := za i; clear j g i d; go_wp2_with fail
 go_ret
 exact ⟨x,n,rfl,l.out.1,l.out.2,f,o.out,r.out⟩
end Go.Proofs.YtfjgelmllcnokaaGreatDoor
