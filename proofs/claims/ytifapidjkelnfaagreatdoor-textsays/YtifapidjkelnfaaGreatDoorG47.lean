/- The document's small functions of H1: numbers,relations,what operators make. -/
import Derived.Test.YtifapidjkelnfaaGreatDoorG03
import Derived.Test.YtifapidjkelnfaaGreatDoorG02
namespace Go.Proofs.YtifapidjkelnfaaGreatDoor
open Go.RowKit
set_option maxHeartbeats 400000
set_option maxRecDepth 100000
theorem mZ {a b : Int} (ha : -2147483647 <= a /\ a <= 2147483647) (hb : -2147483647 <= b /\ b <= 2147483647) : -4611686014132420609 <= a * b /\ a * b <= 4611686014132420609 := by
 have d : (a * b).natAbs <= 2147483647 * 2147483647 := by
  rw [Int.natAbs_mul]
  exact Nat.mul_le_mul (by omega) (by omega)
 omega
theorem om {a b : Int} {c : Bool} (h : a = b) : Ending.returned (.tuple #[.int .i64 a,.bool c]) = .returned (.tuple #[.int .i64 b,.bool c]) := by rw [h]
theorem mY {a b : Int} (h : a = b) : Ending.returned (.int .i64 a) = .returned (.int .i64 b) := by rw [h]
theorem jr (n : Int) (w : World) (_h0 : -9223372036854775807 <= n) (_h1 : n <= 9223372036854775807) : Calls Tryz.prog 93 #[.int .i64 n] w (Sy w (.int .i64 (arZ n))) := by
 go_enter Tryz.func93,Tryz.ntmps93
 have a := Int.mul_tdiv_add_tmod n 4294967296; have b := Int.tmod_lt_of_pos n (show (0 : Int) < 4294967296 by decide); have d := Int.lt_tmod_of_pos n (show (0 : Int) < 4294967296 by decide); go_wp2_with fail
 all_goals
  go_ret
  refine ⟨mY ?_,zj w none⟩
  unfold arZ
  omega
theorem pS (a b : Int) (w : World) : Calls Tryz.prog 55 #[.string ⟨List.toArray [61]⟩,.int .i64 a,.int .i64 b] w (Sy w (.bool (yD [61] a b))) := by
 go_enter Tryz.func55,Tryz.ntmps55
 go_wp2
 go_ret
 exact ⟨by simp [yD]; rfl,zj w none⟩
theorem rN (a b : Int) (w : World) : Calls Tryz.prog 55 #[.string ⟨List.toArray [35]⟩,.int .i64 a,.int .i64 b] w (Sy w (.bool (yD [35] a b))) := by
 go_enter Tryz.func55,Tryz.ntmps55
 go_wp2
 go_ret
 exact ⟨by simp [yD]; rfl,zj w none⟩
theorem rR (a b : Int) (w : World) : Calls Tryz.prog 55 #[.string ⟨List.toArray [60]⟩,.int .i64 a,.int .i64 b] w (Sy w (.bool (yD [60] a b))) := by
 go_enter Tryz.func55,Tryz.ntmps55
 go_wp2
 go_ret
 exact ⟨by simp [yD],zj w none⟩
theorem py (a b : Int) (w : World) : Calls Tryz.prog 55 #[.string ⟨List.toArray [60,61]⟩,.int .i64 a,.int .i64 b] w (Sy w (.bool (yD [60,61] a b))) := by
 go_enter Tryz.func55,Tryz.ntmps55
 go_wp2
 go_ret
 exact ⟨by simp [yD],zj w none⟩
theorem pk (a b : Int) (w : World) : Calls Tryz.prog 55 #[.string ⟨List.toArray [62]⟩,.int .i64 a,.int .i64 b] w (Sy w (.bool (yD [62] a b))) := by
 go_enter Tryz.func55,Tryz.ntmps55
 go_wp2
 go_ret
 exact ⟨by simp [yD],zj w none⟩
theorem pm (a b : Int) (w : World) : Calls Tryz.prog 55 #[.string ⟨List.toArray [62,61]⟩,.int .i64 a,.int .i64 b] w (Sy w (.bool (yD [62,61] a b))) := by
 go_enter Tryz.func55,Tryz.ntmps55
 go_wp2
 go_ret
 exact ⟨by simp [yD],zj w none⟩
theorem dj (a b : Int) (w : World) (ha : -2147483647 <= a /\ a <= 2147483647) (hb : -2147483647 <= b /\ b <= 2147483647) : Calls Tryz.prog 56 #[.string ⟨List.toArray [43]⟩,.int .i64 a,.int .i64 b] w (Sy w (.tuple #[.int .i64 (arZ (a + b)),.bool true])) := by
 have g : -4611686014132420609 <= a + b /\ a + b <= 4611686014132420609 := by omega
 have f := fun w' => zb (jr (a + b) w' (by omega) (by omega))
 go_enter Tryz.func56,Tryz.ntmps56
 go_wp2_with fail; go_at_call 93; refine ((f _)).mono ?_; rintro e h ⟨rfl,d⟩; go_wp2_with fail
 go_ret2
 exact ⟨rfl,d⟩
theorem dr (a b : Int) (w : World) (ha : -2147483647 <= a /\ a <= 2147483647) (hb : -2147483647 <= b /\ b <= 2147483647) : Calls Tryz.prog 56 #[.string ⟨List.toArray [45]⟩,.int .i64 a,.int .i64 b] w (Sy w (.tuple #[.int .i64 (arZ (a - b)),.bool true])) := by
 have g : -4611686014132420609 <= a - b /\ a - b <= 4611686014132420609 := by omega
 have f := fun w' => zb (jr (a - b) w' (by omega) (by omega))
 go_enter Tryz.func56,Tryz.ntmps56
 go_wp2_with fail; go_at_call 93; refine ((f _)).mono ?_; rintro e h ⟨rfl,d⟩; go_wp2_with fail
 go_ret2
 exact ⟨rfl,d⟩
theorem dI (a b : Int) (w : World) (ha : -2147483647 <= a /\ a <= 2147483647) (hb : -2147483647 <= b /\ b <= 2147483647) : Calls Tryz.prog 56 #[.string ⟨List.toArray [42]⟩,.int .i64 a,.int .i64 b] w (Sy w (.tuple #[.int .i64 (arZ (a * b)),.bool true])) := by
 have g : -4611686014132420609 <= a * b /\ a * b <= 4611686014132420609 := by exact mZ ha hb
 have f := fun w' => zb (jr (a * b) w' (by omega) (by omega))
 go_enter Tryz.func56,Tryz.ntmps56
 go_wp2_with fail; go_at_call 93; refine ((f _)).mono ?_; rintro e h ⟨rfl,d⟩; go_wp2_with fail
 go_ret2
 exact ⟨rfl,d⟩
theorem fV (a b : Int) (w : World) (ha : -2147483647 <= a /\ a <= 2147483647) (hb : 0 < b) (hb2 : b <= 2147483647) : Calls Tryz.prog 56 #[.string ⟨List.toArray [68,73,86]⟩,.int .i64 a,.int .i64 b] w (Sy w (.tuple #[.int .i64 (a / b),.bool true])) := by
 have d : b ≠ 0 := by omega
 have g : (b == 0) = false := bn d
 have i : ¬ b <= 0 := by omega
 have l := Int.mul_tdiv_add_tmod a b; have m := Int.tmod_lt_of_pos a hb; have n := Int.lt_tmod_of_pos a hb; have r := Int.mul_ediv_add_emod a b; have s := Int.emod_nonneg a d; have t := Int.emod_lt_of_pos a hb; have u := qt ha hb
 have j : a.tmod b < 0 -> a % b = a.tmod b + b := fun h => ((Int.ediv_emod_unique hb).2 ⟨(show a.tmod b + b + b * (a.tdiv b - 1) = a by rw [Int.mul_sub,Int.mul_one]; omega),by omega,by omega⟩).2
 have k : 0 <= a.tmod b -> a % b = a.tmod b := fun h => ((Int.ediv_emod_unique hb).2 ⟨(show a.tmod b + b * a.tdiv b = a by omega),by omega,by omega⟩).2
 have f : (a - a % b).tdiv b = a / b := by
  have : a - a % b = b * (a / b) := by omega
  rw [this]
  exact Int.mul_tdiv_cancel_left _ d
 go_enter Tryz.func56,Tryz.ntmps56
 go_wp2_with fail
 ·rename_i h9
  go_ret2
  refine ⟨om ?_,zj w none⟩; rw [j h9] at f
  first | exact f | (rw [<- f]; congr 1; omega)
 ·rename_i h9
  go_ret2
  refine ⟨om ?_,zj w none⟩; rw [k h9] at f
  first | exact f | (rw [<- f]; congr 1; omega)
theorem dZ (a b : Int) (w : World) (ha : -2147483647 <= a /\ a <= 2147483647) (hb : 0 < b) (hb2 : b <= 2147483647) : Calls Tryz.prog 56 #[.string ⟨List.toArray [77,79,68]⟩,.int .i64 a,.int .i64 b] w (Sy w (.tuple #[.int .i64 (a % b),.bool true])) := by
 have d : b ≠ 0 := by omega
 have f : (b == 0) = false := bn d
 have g : ¬ b <= 0 := by omega
 have i := Int.mul_tdiv_add_tmod a b; have j := Int.tmod_lt_of_pos a hb; have k := Int.lt_tmod_of_pos a hb; have l := Int.mul_ediv_add_emod a b; have m := Int.emod_nonneg a d; have n := Int.emod_lt_of_pos a hb; have r := qt ha hb
 have s : a.tmod b < 0 -> a % b = a.tmod b + b := fun h => ((Int.ediv_emod_unique hb).2 ⟨(show a.tmod b + b + b * (a.tdiv b - 1) = a by rw [Int.mul_sub,Int.mul_one]; omega),by omega,by omega⟩).2
 have t : 0 <= a.tmod b -> a % b = a.tmod b := fun h => ((Int.ediv_emod_unique hb).2 ⟨(show a.tmod b + b * a.tdiv b = a by omega),by omega,by omega⟩).2
 have u : (a - a % b).tdiv b = a / b := by
  have : a - a % b = b * (a / b) := by omega
  rw [this]
  exact Int.mul_tdiv_cancel_left _ d
 go_enter Tryz.func56,Tryz.ntmps56
 go_wp2_with fail
 ·go_ret2
  exact ⟨rfl,zj w none⟩
 ·go_ret2
  exact ⟨rfl,zj w none⟩
theorem qy (x : Bs) (hx : x = [68,73,86] \/ x = [77,79,68]) (a b : Int) (w : World) (hb : b <= 0) : Calls Tryz.prog 56 #[.string ⟨x.toArray⟩,.int .i64 a,.int .i64 b] w (Sy w (.tuple #[.int .i64 0,.bool false])) := by
 rcases hx with rfl | rfl
 ·go_enter Tryz.func56,Tryz.ntmps56
  go_wp2
  go_ret2
  exact ⟨rfl,zj w none⟩
 ·go_enter Tryz.func56,Tryz.ntmps56
  go_wp2
  go_ret2
  exact ⟨rfl,zj w none⟩
theorem dV {x : Bs} (hx : zo x = 0) (a b : Int) (w : World) : Calls Tryz.prog 55 #[.string ⟨x.toArray⟩,.int .i64 a,.int .i64 b] w (Sy w (.bool (yD x a b))) := by
 have d : inB gd x = true := by
  unfold zo at hx
  split at hx
  ·assumption
  ·split at hx
   ·cases hx
   ·split at hx <;> cases hx
 have f : x = [61] \/ x = [35] \/ x = [60] \/ x = [60,61] \/ x = [62] \/ x = [62,61] := by simpa [inB,gd] using d
 rcases f with rfl | rfl | rfl | rfl | rfl | rfl
 ·exact pS a b w
 ·exact rN a b w
 ·exact rR a b w
 ·exact py a b w
 ·exact pk a b w
 ·exact pm a b w
def lN (o : Option Int) : Value := match o with
 | some z => .tuple #[.int .i64 z,.bool true]
 | none => .tuple #[.int .i64 0,.bool false]
theorem kM {x : Bs} (hx : x = [43] \/ x = [45] \/ x = [42] \/ x = [68,73,86] \/ x = [77,79,68]) (a b : Int) (w : World) (ha : -2147483647 <= a /\ a <= 2147483647) (hb : -2147483647 <= b /\ b <= 2147483647) : Calls Tryz.prog 56 #[.string ⟨x.toArray⟩,.int .i64 a,.int .i64 b] w (Sy w (lN (opZ x a b))) := by
 rcases hx with rfl | rfl | rfl | rfl | rfl
 ·exact dj a b w ha hb
 ·exact dr a b w ha hb
 ·exact dI a b w ha hb
 ·by_cases d : b <= 0
  ·rw [show opZ [68,73,86] a b = none by simp [opZ,d]]
   exact qy _ (Or.inl rfl) a b w d
  ·rw [show opZ [68,73,86] a b = some (a / b) by simp [opZ,d]]
   exact fV a b w ha (by omega) (by omega)
 ·by_cases d : b <= 0
  ·rw [show opZ [77,79,68] a b = none by simp [opZ,d]]
   exact qy _ (Or.inr rfl) a b w d
  ·rw [show opZ [77,79,68] a b = some (a % b) by simp [opZ,d]]
   exact dZ a b w ha (by omega) (by omega)
theorem jy (t : T) (sv : Value) (S : Nat -> Prop) (w : World) (ha : LR w S t.subs sv) (hg : GT t) : Calls Tryz.prog 53 #[zq t sv] w (Sy w (lN (xj t))) := by
 have a : ∀ {v},xj t = some v -> _ := fun {v} h => vu hg (v := v) h
 cases hg with
 | mk k x m p l hl h1 h2 h3 h4 h5 =>
  by_cases b : k = 35
  ·subst b
   obtain ⟨u,rfl⟩ := tG (h1 (Or.inr rfl)); obtain ⟨g,c,_,rfl,_,C,B,n⟩ := LR.one (show LR w S [u] sv from ha)
   unfold maxLen at C
   have D := zc B.c0; obtain ⟨j,r,f,s,y⟩ := u; obtain ⟨z,A,rfl⟩ := n.form; obtain ⟨c0,_,E,_,_⟩ := B
   by_cases d : j = 29
   ·subst d
    have i : Hid (xj (T.mk 35 x m p [T.mk 29 r f s y]) = some (-f)) := rfl
    have I := a i; rw [i.out]; clear ha n hl h1 h2 h3 h4 h5 a
    change Calls Tryz.prog 53 #[.agg #[.int .i64 35,.string ⟨x.toArray⟩,.int .i64 m,.int .i64 p,.slice (some ⟨g,0,none⟩) 1 c]] w (Sy w (.tuple #[.int .i64 (-f),.bool true]))
    change w.cell? ⟨g,0,none⟩ = some (.int .i64 29) at c0
    change w.cell? ⟨g,2,none⟩ = some (.int .i64 f) at E
    go_enter Tryz.func53,Tryz.ntmps53
    go_wp2_with fail
    go_ret2
    exact ⟨rfl,gan⟩
   ·have i : Hid (xj (T.mk 35 x m p [T.mk j r f s y]) = none) := by
     show _ = _
     unfold xj
     rw [if_neg (show ¬ (T.mk 35 x m p [T.mk j r f s y]).kind = 29 by simp [T.kind]),if_neg (fun h9 => d h9.2)]
    have F : (j == 29) = false := bn d
    rw [i.out]; clear ha n hl h1 h2 h3 h4 h5 a
    change Calls Tryz.prog 53 #[.agg #[.int .i64 35,.string ⟨x.toArray⟩,.int .i64 m,.int .i64 p,.slice (some ⟨g,0,none⟩) 1 c]] w (Sy w (.tuple #[.int .i64 0,.bool false]))
    change w.cell? ⟨g,0,none⟩ = some (.int .i64 j) at c0
    go_enter Tryz.func53,Tryz.ntmps53
    go_wp2_with fail
    go_ret2
    exact ⟨rfl,gan⟩
  ·obtain ⟨z,A,rfl⟩ := ha.form
   by_cases d : k = 29
   ·subst d
    rw [show xj (T.mk 29 x m p l) = some m from rfl]; clear ha hl h1 h2 h3 h4 h5 a
    change Calls Tryz.prog 53 #[.agg #[.int .i64 29,.string ⟨x.toArray⟩,.int .i64 m,.int .i64 p,.slice z l.length A]] w (Sy w (.tuple #[.int .i64 m,.bool true]))
    go_enter Tryz.func53,Tryz.ntmps53
    go_wp2_with fail
    go_ret2
    exact ⟨rfl,gan⟩
   ·have i : Hid (xj (T.mk k x m p l) = none) := by
     show _ = _
     unfold xj
     rw [if_neg (show ¬ (T.mk k x m p l).kind = 29 from d),if_neg (fun h9 => b h9.1)]
    have G : (k == 29) = false := bn d
    have H : (k == 35) = false := bn b
    rw [i.out]; clear ha hl h1 h2 h3 h4 h5 a
    change Calls Tryz.prog 53 #[.agg #[.int .i64 k,.string ⟨x.toArray⟩,.int .i64 m,.int .i64 p,.slice z l.length A]] w (Sy w (.tuple #[.int .i64 0,.bool false]))
    go_enter Tryz.func53,Tryz.ntmps53
    go_wp2_with fail
    go_ret2
    exact ⟨rfl,gan⟩
set_option maxHeartbeats 4000000
theorem qi {l : List T} {i : Nat} {u : T} (h : l[i]? = some u) : ym (l.take (i + 1)) = ym (l.take i) ++ (if xP (yh u) then [] else [yh u]) := by
 induction l generalizing i with
 | nil => simp at h
 | cons t l ih =>
  cases i with
  | zero =>
   simp at h
   subst h; rw [List.take_succ_cons,List.take_zero,List.take_zero,ym,ym]
   split <;> rfl
  | succ i =>
   have := ih (i := i) (by simpa using h); rw [List.take_succ_cons,List.take_succ_cons,ym,ym,this]
   split <;> rfl
theorem dJ (l : List T) : (ym l).length <= l.length := by
 induction l with
 | nil => rw [ym]; exact Nat.le_refl _
 | cons t l ih => rw [ym]; split <;> simp <;> omega
theorem qq {a w w' : World} {row row2 : Option Nat} (h : a.grownBy w row) (hg : w.grownBy w' row2) (hr : ∀ b,row2 = some b -> a.heap.size <= b) : a.grownBy w' row := by
 refine ⟨hg.os.trans h.os,hg.tape.trans h.tape,hg.output.trans h.output,Nat.le_trans h.size hg.size,fun k hk hne => ?_⟩; rw [hg.block k (Nat.lt_of_lt_of_le hk h.size) (fun e => by have := hr k e.symm; omega),h.block k hk hne]
theorem tN {w : World} {S : Nat -> Prop} {l : List T} {v : Value} (h : LR w S l v) (b o : Nat) (u : Value) (hb : ¬ S b) : LR (w.setCell ⟨b,o,none⟩ u) S l v := h.kept (z6 gr o u) (fun k hk => by cases hk; exact hb)
theorem xN {wr wk : World} {S : Nat -> Prop} {l : List T} {v v0 v1 v2 v3 v4 : Value} {b : Nat} (h : LR wr S l v) (hg : wr.grownBy wk none) (hb : ¬ S b) : LR (((((wk.setCell ⟨b,0,none⟩ v0).setCell ⟨b,1,none⟩ v1).setCell ⟨b,2,none⟩ v2).setCell ⟨b,3,none⟩ v3).setCell ⟨b,4,none⟩ v4) S l v :=
 (h.kept hg (fun _ hk => by cases hk)).kept (z6 (z6 (z6 (z6 (z6 gr _ _) _ _) _ _) _ _) _ _) (fun k hk => by cases hk; exact hb)
theorem yg (t : T) (sv : Value) (S : Nat -> Prop) (w : World) (ha : LR w S t.subs sv) (hg : GT t) {u : Int} (hu : xj t = some u) : Calls Tryz.prog 53 #[zq t sv] w (Sy w (.tuple #[.int .i64 u,.bool true])) := by
 have := jy t sv S w ha hg; rw [hu] at this
 exact this
theorem vz (t : T) (sv : Value) (S : Nat -> Prop) (w : World) (ha : LR w S t.subs sv) (hg : GT t) (hu : xj t = none) : Calls Tryz.prog 53 #[zq t sv] w (Sy w (.tuple #[.int .i64 0,.bool false])) := by
 have := jy t sv S w ha hg; rw [hu] at this
 exact this
theorem ue (x : Bs) (w : World) : Calls Tryz.prog 54 #[.string ⟨x.toArray⟩] w (Sy w (.int .i64 (zo x))) := xI ⟨x.toArray⟩ w
theorem qX {x : Bs} (hx : zo x = 0) (a b : Int) {r : Bool} (hr : yD x a b = r) (w : World) : Calls Tryz.prog 55 #[.string ⟨x.toArray⟩,.int .i64 a,.int .i64 b] w (Sy w (.bool r)) := hr ▸ dV hx a b w
theorem uu {x : Bs} (hx : x = [43] \/ x = [45] \/ x = [42] \/ x = [68,73,86] \/ x = [77,79,68]) (a b : Int) (ha : -2147483647 <= a /\ a <= 2147483647) (hb : -2147483647 <= b /\ b <= 2147483647) {z : Int} (ho : opZ x a b = some z) (w : World) : Calls Tryz.prog 56 #[.string ⟨x.toArray⟩,.int .i64 a,.int .i64 b] w (Sy w (.tuple #[.int .i64 z,.bool true])) := by
 have := kM hx a b w ha hb; rw [ho] at this
 exact this
theorem fh {x : Bs} (hx : x = [43] \/ x = [45] \/ x = [42] \/ x = [68,73,86] \/ x = [77,79,68]) (a b : Int) (ha : -2147483647 <= a /\ a <= 2147483647) (hb : -2147483647 <= b /\ b <= 2147483647) (ho : opZ x a b = none) (w : World) : Calls Tryz.prog 56 #[.string ⟨x.toArray⟩,.int .i64 a,.int .i64 b] w (Sy w (.tuple #[.int .i64 0,.bool false])) := by
 have := kM hx a b w ha hb; rw [ho] at this
 exact this
theorem mP {x : Bs} (h : 0 <= zo x) (h0 : zo x ≠ 0) (h1 : x ≠ [38]) (h2 : x ≠ [79,82]) : x = [43] \/ x = [45] \/ x = [42] \/ x = [68,73,86] \/ x = [77,79,68] := by
 unfold zo at h h0
 split at h
 ·rename_i h9
  rw [if_pos h9] at h0
  exact absurd rfl h0
 ·split at h
  ·rename_i h9
   have : x = [43] \/ x = [45] \/ x = [79,82] := by simpa [inB,fe] using h9
   rcases this with h | h | h
   ·exact Or.inl h
   ·exact Or.inr (Or.inl h)
   ·exact absurd h h2
  ·split at h
   ·rename_i h9
    have : x = [42] \/ x = [68,73,86] \/ x = [77,79,68] \/ x = [38] := by simpa [inB,fG] using h9
    rcases this with h | h | h | h
    ·exact Or.inr (Or.inr (Or.inl h))
    ·exact Or.inr (Or.inr (Or.inr (Or.inl h)))
    ·exact Or.inr (Or.inr (Or.inr (Or.inr h)))
    ·exact absurd h h1
   ·omega
structure FS (w wr : World) (k : Int) (x : Bs) (m p : Int) (sv : Value) (acc : List T) (v : Value) : Prop where
 n : NB wr w.heap.size (.int .i64 k) (.string ⟨x.toArray⟩) (.int .i64 m) (.int .i64 p) sv
 r : RB wr (w.heap.size + 1)
 o : NB wr (w.heap.size + 2) (.int .i64 k) (.string ⟨x.toArray⟩) (.int .i64 m) (.int .i64 p) v
 l : LR wr (In (w.heap.size + 3) wr.heap.size) acc v
 g : w.grownBy wr none
theorem kp5 {w w' : World} {a b c d r : Nat} {a0 a1 a2 a3 a4 b0 b1 b2 b3 b4 c0 c1 c2 c3 c4 d0 d1 d2 d3 d4 : Value} (h1 : NB w a a0 a1 a2 a3 a4) (h2 : NB w b b0 b1 b2 b3 b4) (h3 : NB w c c0 c1 c2 c3 c4) (h4 : NB w d d0 d1 d2 d3 d4) (h5 : RB w r) (g : w.grownBy w' none) : NB w' a a0 a1 a2 a3 a4 /\ NB w' b b0 b1 b2 b3 b4 /\ NB w' c c0 c1 c2 c3 c4 /\ NB w' d d0 d1 d2 d3 d4 /\ RB w' r := ⟨h1.kept g (by simp),h2.kept g (by simp),h3.kept g (by simp),h4.kept g (by simp),h5.kept g (by simp)⟩
theorem fT (k : Int) (x : Bs) (m p : Int) (l : List T) (hg : GT (.mk k x m p l)) (hlen : l.length <= 3000) (ih : ∀ u ∈ l,∀ (w : World) (sv : Value),AT w u.subs sv -> Calls Tryz.prog 21 #[zq u sv] w (NL w (fun b => w.heap.size <= b) (yh u)))
    (w : World) (sv : Value) (ha : AT w l sv) : Calls Tryz.prog 21 #[zq (.mk k x m p l) sv] w (NL w (fun b => w.heap.size <= b) (yh (.mk k x m p l))) := by
  have HA := zb ha; have IH := zb ih; have HG := zb hg; have HF := zb (fg hg).1; obtain ⟨sa,sc,rfl,_,k6⟩ := ha.form
  unfold maxLen at k6
  clear ha ih
  change Calls Tryz.prog 21 #[.agg #[.int .i64 k,.string ⟨x.toArray⟩,.int .i64 m,.int .i64 p,.slice sa l.length sc]] w _
  go_enter Tryz.func21,Tryz.ntmps21
  go_wp2_with fail
  go_loopw [4] (fun iv wr => ∃ (j : Nat) (v : Value),j <= l.length /\ iv = .int .i64 ↑j /\ Hid (FS w wr k x m p (.slice sa l.length sc) (ym (l.take j)) v)) (fun iv _ => l.length - (intOf iv).toNat)
  case atStart =>
    refine ⟨0,.slice none 0 0,Nat.zero_le _,rfl,?_⟩
    exact ⟨((NB.new _ _).alloc _).alloc _,(RB.new' (by simp)).alloc _,NB.new' (by simp),by rw [List.take_zero,ym]; exact LR.nil _ _,(zf (zf gan _) _)⟩
  case round =>
    obtain ⟨j,v,_,rfl,FR⟩ := hrel; obtain ⟨L,M,N,O,Q,R⟩ := FR.n; obtain ⟨U,V,Y,Z,o4,oz⟩ := FR.o; have nl := FR.n.lt; have ol := FR.o.lt
    by_cases k7 : j < l.length
    · obtain ⟨u,hu⟩ : ∃ u,l[j]? = some u := ⟨_,List.getElem?_eq_getElem k7⟩
      have g1 := List.mem_of_getElem? hu; obtain ⟨gg,oo,su,e1,n5,-,au⟩ := HA.node j u hu; cases e1; obtain ⟨c0,c1,c2,c3,c4⟩ := n5.kept FR.g
      have HI := fun (w' : World) (h9 : w.grownBy w' none) => zb (IH u g1 w' su (au.kept h9))
      have HT := zb (qi hu); have k8 : GT u := hg.sub g1; have j7 := (fg k8).2
      have j8 : k ≠ 1 -> (yh u).kind ≠ 17 := by
        intro b5; cases hg with | mk _ _ _ _ _ _ _ _ _ _ h5 => exact j7.2 (h5 b5 u g1)
      have k9 := dJ (l.take j); rw [List.length_take] at k9; clear hu n5 au
      generalize yh u = X at *
      obtain ⟨kx,xx,mx,px,lx⟩ := X; go_wp2_with fail; go_at_call 21; refine ((HI _ FR.g)).mono ?_; rintro e w1 ⟨sx,rfl,l1,d⟩
      change LR w1 _ lx sx at l1
      have m1 := d.size; have N1 := FR.n.kept d (by simp); have R1 := FR.r.kept d (by simp); have O1 := FR.o.kept d (by simp); have L1 := FR.l.kept d (fun _ hk => by cases hk); have G1 := za FR.g d; have LX : Hid (LR w1 (In wr.heap.size w1.heap.size) lx sx) := l1.bounded; obtain ⟨ax,cx,rfl⟩ := l1.form; clear d l1 L M N O Q R U V Y Z o4 oz c0 c1 c2 c3 c4; obtain ⟨L,M,N,O,Q,R⟩ := id N1; obtain ⟨U,V,Y,Z,o4,oz⟩ := id O1; have d8 := N1.lt; have m2 := O1.lt; have f9 := zb ((L1.alloc (.cells #[.int .i64 kx,.string ⟨xx.toArray⟩,.int .i64 mx,.int .i64 px,.slice ax lx.length cx] 24)).alloc (.cells #[.int .i64 kx,.string ⟨xx.toArray⟩,.int .i64 mx,.int .i64 px,.slice ax lx.length cx] 24)); have j0 := zb (LR.build1 (w1.alloc (.cells #[.int .i64 kx,.string ⟨xx.toArray⟩,.int .i64 mx,.int .i64 px,.slice ax lx.length cx] 24)) (cs := #[.int .i64 kx,.string ⟨xx.toArray⟩,.int .i64 mx,.int .i64 px,.slice ax lx.length cx]) (t := T.mk kx xx mx px lx) (sv := .slice ax lx.length cx) (g := w1.heap.size + 1) (lo := wr.heap.size) ((LX.alloc _).wide (Nat.le_refl _) (by omega)) (by simp) rfl (by omega))
      by_cases b5 : k = 1
      · subst b5
        by_cases j1 : kx = 17
        · subst j1
          have j9 : lx.length = 2 := by
            have := j7.1; cases this with | mk _ _ _ _ _ _ _ _ h3 => exact h3 rfl
          obtain ⟨a,b,rfl⟩ := gZ j9; obtain ⟨gx,m3,m4,m5,e9,l7,k0,k1,-,-,-⟩ := LR.two LX; cases e9
          unfold maxLen at k0
          have l8 := zc k1.c0; obtain ⟨y0,-,-,-,-⟩ := k1
          by_cases h6 : a.kind = 31
          · have l0 : (a.kind != 31) = false := by rw [h6]; rfl
            have c8 : xP (T.mk 17 xx mx px [a,b]) = true := by
              unfold xP
              rw [decide_eq_true (show (T.mk 17 xx mx px [a,b]).kind = 17 from rfl),decide_eq_true (show (zI (T.mk 17 xx mx px [a,b]) 0).kind = 31 from h6)]
              rfl
            go_wp2_with fail; refine ⟨⟨j + 1,v,by omega,by go_num,?_⟩,by simp [intOf]; omega⟩; refine ⟨(NB.alloc N1 _),(RB.alloc R1 _),(NB.alloc O1 _),?_,(zf G1 _)⟩; rw [HT.out,if_pos c8,List.append_nil]
            exact (L1.alloc _).wide (Nat.le_refl _) (by simp; omega)
          · have l0 : (a.kind != 31) = true := by rw [bne_iff_ne]; exact h6
            have c8 : xP (T.mk 17 xx mx px [a,b]) = false := by
              unfold xP
              rw [decide_eq_false (show ¬ (zI (T.mk 17 xx mx px [a,b]) 0).kind = 31 from h6),Bool.and_false]
            go_wp2_with (at_builtin
                         refine vf rfl _ _ rfl rfl rfl f9 j0 (by omega) (by omega) (by simp; omega) (by simp) (by simp; omega) ?_; intro v5 w5 c9 a9; have a8 := f9.rows; have g2 := a9.size
                         simp at g2
                         have N5 := zb (((N1.alloc _).alloc _).kept a9 (fun e => by have := a8 _ e.symm; omega)); have R5 := zb (((R1.alloc _).alloc _).kept a9 (fun e => by have := a8 _ e.symm; omega)); have O5 := zb (((O1.alloc _).alloc _).kept a9 (fun e => by have := a8 _ e.symm; omega)); have G5 : Hid (w.grownBy w5 none) := qq (zf (zf G1 _) _) a9 (fun b hb => by have := a8 b hb; omega); have L5 := zb c9; have k2 := O5.lt; obtain ⟨q0,q1,q2,q3,q4,qz⟩ := id O5; obtain ⟨av,cv,rfl⟩ := c9.form
                         clear c9 a9)
            refine ⟨⟨j + 1,.slice av ((ym (l.take j)).length + 1) cv,by omega,by go_num,?_⟩,by simp [intOf]; omega⟩; have L6 := id L5; rw [List.length_append,List.length_singleton] at L6; refine ⟨N5.far (by omega) _ _,R5.put _ _ _,O5.s4 _,?_,(y7 G5 (by omega) _ _)⟩; rw [HT.out,if_neg (by rw [c8]; decide)]
            exact (tN L6 _ _ _ (fun h => by have := h.1; omega)).mono (fun b hb => ⟨hb.1,by simpa [World.setCell] using hb.2⟩)
        · have m6 : (kx != 17) = true := by rw [bne_iff_ne]; exact j1
          have c8 : xP (T.mk kx xx mx px lx) = false := jv (show (T.mk kx xx mx px lx).kind ≠ 17 from j1)
          go_wp2_with (at_builtin
                       refine vf rfl _ _ rfl rfl rfl f9 j0 (by omega) (by omega) (by simp; omega) (by simp) (by simp; omega) ?_; intro v5 w5 c9 a9; have a8 := f9.rows; have g2 := a9.size
                       simp at g2
                       have N5 := zb (((N1.alloc _).alloc _).kept a9 (fun e => by have := a8 _ e.symm; omega)); have R5 := zb (((R1.alloc _).alloc _).kept a9 (fun e => by have := a8 _ e.symm; omega)); have O5 := zb (((O1.alloc _).alloc _).kept a9 (fun e => by have := a8 _ e.symm; omega)); have G5 : Hid (w.grownBy w5 none) := qq (zf (zf G1 _) _) a9 (fun b hb => by have := a8 b hb; omega); have L5 := zb c9; have k2 := O5.lt; obtain ⟨q0,q1,q2,q3,q4,qz⟩ := id O5; obtain ⟨av,cv,rfl⟩ := c9.form
                       clear c9 a9)
          refine ⟨⟨j + 1,.slice av ((ym (l.take j)).length + 1) cv,by omega,by go_num,?_⟩,by simp [intOf]; omega⟩; have L6 := id L5; rw [List.length_append,List.length_singleton] at L6; refine ⟨N5.far (by omega) _ _,R5.put _ _ _,O5.s4 _,?_,(y7 G5 (by omega) _ _)⟩; rw [HT.out,if_neg (by rw [c8]; decide)]
          exact (tN L6 _ _ _ (fun h => by have := h.1; omega)).mono (fun b hb => ⟨hb.1,by simpa [World.setCell] using hb.2⟩)
      · have c7 : (k != 1) = true := by rw [bne_iff_ne]; exact b5
        have c8 : xP (T.mk kx xx mx px lx) = false := jv (j8 b5)
        go_wp2_with (at_builtin
                     refine vf rfl _ _ rfl rfl rfl f9 j0 (by omega) (by omega) (by simp; omega) (by simp) (by simp; omega) ?_; intro v5 w5 c9 a9; have a8 := f9.rows; have g2 := a9.size
                     simp at g2
                     have N5 := zb (((N1.alloc _).alloc _).kept a9 (fun e => by have := a8 _ e.symm; omega)); have R5 := zb (((R1.alloc _).alloc _).kept a9 (fun e => by have := a8 _ e.symm; omega)); have O5 := zb (((O1.alloc _).alloc _).kept a9 (fun e => by have := a8 _ e.symm; omega)); have G5 : Hid (w.grownBy w5 none) := qq (zf (zf G1 _) _) a9 (fun b hb => by have := a8 b hb; omega); have L5 := zb c9; have k2 := O5.lt; obtain ⟨q0,q1,q2,q3,q4,qz⟩ := id O5; obtain ⟨av,cv,rfl⟩ := c9.form
                     clear c9 a9)
        refine ⟨⟨j + 1,.slice av ((ym (l.take j)).length + 1) cv,by omega,by go_num,?_⟩,by simp [intOf]; omega⟩; have L6 := id L5; rw [List.length_append,List.length_singleton] at L6; refine ⟨N5.far (by omega) _ _,R5.put _ _ _,O5.s4 _,?_,(y7 G5 (by omega) _ _)⟩; rw [HT.out,if_neg (by rw [c8]; decide)]
        exact (tN L6 _ _ _ (fun h => by have := h.1; omega)).mono (fun b hb => ⟨hb.1,by simpa [World.setCell] using hb.2⟩)
    · have HX : Hid (ym (l.take j) = ym l) := by show _ = _; rw [List.take_of_length_le (by omega)]
      have LF : Hid (LR wr (In (w.heap.size + 3) wr.heap.size) (ym l) v) := by
        have := FR.l; rw [HX.out] at this
        exact this
      have b8 : Hid (yh (.mk k x m p l) = yo (.mk k x m p (ym l))) := gR; have h7 : Hid (GT (.mk k x m p (ym l))) := id HF
      generalize ym l = fl at *
      have RG : Hid (wr.grownBy wr none) := zj wr none; have R0 := zb FR.r; have G0 := zb FR.g; obtain ⟨_,vc,rfl⟩ := LF.form; obtain ⟨_,_,_,_,_,r0,r1,r2,r3,r4,rz⟩ := id R0; have rl := R0.lt; clear HX HG HF IH HA
      by_cases j2 : k = 34
      · subst j2
        obtain ⟨a,rfl⟩ : ∃ a,fl = [a] := by
          have := id h7; cases this with | mk _ _ _ _ _ _ h1 => exact tG (h1 (Or.inl rfl))
        obtain ⟨y,C,D,E,A⟩ := a; obtain ⟨g,c,l2,e9,l3,j3,na,g3⟩ := LR.one LF; cases e9
        unfold maxLen at j3
        obtain ⟨a0,-,-,-,-⟩ := na
        change wr.cell? ⟨g,0,none⟩ = some (.int .i64 y) at a0
        have l4 := zc a0; clear g3
        by_cases b5 : y = 30
        · subst b5
          have HE : Hid (yh (.mk 34 x m p l) = vn false p) := b8.trans rfl; go_wp2_with fail; refine zP Tryz.results21 rfl (RB.five R0) rfl ?_; rw [HE.out]
          exact ⟨.slice none 0 0,rfl,LR.nil _ _,(yC G0 (by omega))⟩
        · by_cases c7 : y = 31
          · subst c7
            have HE : Hid (yh (.mk 34 x m p l) = vn true p) := b8.trans rfl; go_wp2_with fail; refine zP Tryz.results21 rfl (RB.five R0) rfl ?_; rw [HE.out]
            exact ⟨.slice none 0 0,rfl,LR.nil _ _,(yC G0 (by omega))⟩
          · have k3 : (y == 30) = false := bn b5
            have k4 : (y == 31) = false := bn c7
            have HE : Hid (yh (.mk 34 x m p l) = .mk 34 x m p [.mk y C D E A]) := by
              refine b8.trans ?_
              unfold yo
              rw [if_pos (show (T.mk 34 x m p [.mk y C D E A]).kind = 34 from rfl),if_neg (show ¬ (zI (T.mk 34 x m p [.mk y C D E A]) 0).kind = 30 from b5),if_neg (show ¬ (zI (T.mk 34 x m p [.mk y C D E A]) 0).kind = 31 from c7)]
            go_wp2_with fail; refine zP Tryz.results21 rfl (RB.five R0) rfl ?_; rw [HE.out]; refine ⟨_,rfl,LR.mono (xN LF ?_ ?_) ?_,?_⟩
            · exact RG
            · intro h9; have := h9.1; omega
            · intro b hb; have := hb.1; show w.heap.size <= b; omega
            · exact yC G0 (by omega)
      · have l9 : (k == 34) = false := bn j2
        by_cases j4 : k = 36
        · subst j4
          obtain ⟨j5,hx⟩ : fl.length = 2 /\ 0 <= zo x := by
            have := id h7; cases this with | mk _ _ _ _ _ _ _ h2 => exact h2 rfl
          obtain ⟨a,b,rfl⟩ := gZ j5; have a6 := h7.sub (u := a) (by simp [T.subs]); have gb := h7.sub (u := b) (by simp [T.subs]); obtain ⟨y,C,D,E,A⟩ := a; obtain ⟨G,H,I,J,B⟩ := b; obtain ⟨g,c,l2,_,e9,l3,j3,na,nb,g3,j6⟩ := LR.two LF; cases e9
          unfold maxLen at j3
          obtain ⟨aa,ac,rfl⟩ := g3.form; obtain ⟨ba,bc,rfl⟩ := j6.form; have LA := zb g3; have LB := zb j6; obtain ⟨a0,a1,a2,a3,a4⟩ := na; obtain ⟨b0,b1,b2,b3,b4⟩ := nb
          change wr.cell? ⟨g,0,none⟩ = some (.int .i64 y) at a0
          change wr.cell? ⟨g,1,none⟩ = some (.string ⟨C.toArray⟩) at a1
          change wr.cell? ⟨g,2,none⟩ = some (.int .i64 D) at a2
          change wr.cell? ⟨g,3,none⟩ = some (.int .i64 E) at a3
          change wr.cell? ⟨g,4,none⟩ = some (.slice aa A.length ac) at a4
          change wr.cell? ⟨g,5,none⟩ = some (.int .i64 G) at b0
          change wr.cell? ⟨g,6,none⟩ = some (.string ⟨H.toArray⟩) at b1
          change wr.cell? ⟨g,7,none⟩ = some (.int .i64 I) at b2
          change wr.cell? ⟨g,8,none⟩ = some (.int .i64 J) at b3
          change wr.cell? ⟨g,9,none⟩ = some (.slice ba B.length bc) at b4
          have l4 := zc a0; clear g3 j6
          by_cases e1 : x = [38]
          · subst e1
            by_cases b5 : y = 30
            · subst b5
              have HE : Hid (yh (.mk 36 [38] m p l) = (.mk G H I J B)) := b8.trans rfl; go_wp2_with fail; refine zP Tryz.results21 rfl (NB.alloc (NB.alloc (RB.five R0) _) _) rfl ?_; rw [HE.out]; refine ⟨_,rfl,LR.mono (((xN LB grn ?_).alloc _).alloc _) ?_,?_⟩
              · intro h9; have := h9.1; omega
              · intro b hb; have := hb.1; show w.heap.size <= b; omega
              · exact zf (zf (yC G0 (by omega)) _) _
            · by_cases c7 : y = 31
              · subst c7
                have HE : Hid (yh (.mk 36 [38] m p l) = (.mk 31 C D E A)) := b8.trans rfl; go_wp2_with fail; refine zP Tryz.results21 rfl (NB.alloc (NB.alloc (RB.five R0) _) _) rfl ?_; rw [HE.out]; refine ⟨_,rfl,LR.mono (((xN LA grn ?_).alloc _).alloc _) ?_,?_⟩
                · intro h9; have := h9.1; omega
                · intro b hb; have := hb.1; show w.heap.size <= b; omega
                · exact zf (zf (yC G0 (by omega)) _) _
              · have k3 : (y == 30) = false := bn b5
                have k4 : (y == 31) = false := bn c7
                have HE : Hid (yh (.mk 36 [38] m p l) = (.mk 36 [38] m p [(.mk y C D E A),(.mk G H I J B)])) := by
                  refine b8.trans (show opT (.mk 36 [38] m p [(.mk y C D E A),(.mk G H I J B)]) = (.mk 36 [38] m p [(.mk y C D E A),(.mk G H I J B)]) from ?_)
                  unfold opT
                  rw [if_pos (by simp [T.name]),if_neg (show ¬ (zI (.mk 36 [38] m p [(.mk y C D E A),(.mk G H I J B)]) 0).kind = 30 from b5),if_neg (show ¬ (zI (.mk 36 [38] m p [(.mk y C D E A),(.mk G H I J B)]) 0).kind = 31 from c7)]
                go_wp2_with fail; refine zP Tryz.results21 rfl (NB.alloc (NB.alloc (RB.five R0) _) _) rfl ?_; rw [HE.out]; refine ⟨_,rfl,LR.mono (((xN LF grn ?_).alloc _).alloc _) ?_,?_⟩
                · intro h9; have := h9.1; omega
                · intro b hb; have := hb.1; show w.heap.size <= b; omega
                · exact zf (zf (yC G0 (by omega)) _) _
          · by_cases e2 : x = [79,82]
            · subst e2
              by_cases b5 : y = 30
              · subst b5
                have HE : Hid (yh (.mk 36 [79,82] m p l) = (.mk 30 C D E A)) := b8.trans rfl; go_wp2_with fail; refine zP Tryz.results21 rfl (NB.alloc (NB.alloc (RB.five R0) _) _) rfl ?_; rw [HE.out]; refine ⟨_,rfl,LR.mono (((xN LA grn ?_).alloc _).alloc _) ?_,?_⟩
                · intro h9; have := h9.1; omega
                · intro b hb; have := hb.1; show w.heap.size <= b; omega
                · exact zf (zf (yC G0 (by omega)) _) _
              · by_cases c7 : y = 31
                · subst c7
                  have HE : Hid (yh (.mk 36 [79,82] m p l) = (.mk G H I J B)) := b8.trans rfl; go_wp2_with fail; refine zP Tryz.results21 rfl (NB.alloc (NB.alloc (RB.five R0) _) _) rfl ?_; rw [HE.out]; refine ⟨_,rfl,LR.mono (((xN LB grn ?_).alloc _).alloc _) ?_,?_⟩
                  · intro h9; have := h9.1; omega
                  · intro b hb; have := hb.1; show w.heap.size <= b; omega
                  · exact zf (zf (yC G0 (by omega)) _) _
                · have k3 : (y == 30) = false := bn b5
                  have k4 : (y == 31) = false := bn c7
                  have HE : Hid (yh (.mk 36 [79,82] m p l) = (.mk 36 [79,82] m p [(.mk y C D E A),(.mk G H I J B)])) := by
                    refine b8.trans (show opT (.mk 36 [79,82] m p [(.mk y C D E A),(.mk G H I J B)]) = (.mk 36 [79,82] m p [(.mk y C D E A),(.mk G H I J B)]) from ?_)
                    unfold opT
                    rw [if_pos (by simp [T.name]),if_neg (show ¬ (zI (.mk 36 [79,82] m p [(.mk y C D E A),(.mk G H I J B)]) 0).kind = 30 from b5),if_neg (show ¬ (zI (.mk 36 [79,82] m p [(.mk y C D E A),(.mk G H I J B)]) 0).kind = 31 from c7)]
                  go_wp2_with fail; refine zP Tryz.results21 rfl (NB.alloc (NB.alloc (RB.five R0) _) _) rfl ?_; rw [HE.out]; refine ⟨_,rfl,LR.mono (((xN LF grn ?_).alloc _).alloc _) ?_,?_⟩
                  · intro h9; have := h9.1; omega
                  · intro b hb; have := hb.1; show w.heap.size <= b; omega
                  · exact zf (zf (yC G0 (by omega)) _) _
            · have m7 : (x == [38]) = false := bn e1
              have m8 : (x == [79,82]) = false := bn e2
              have N0 : Hid (NB ((wr.alloc (.cells #[.int .i64 y,.string ⟨C.toArray⟩,.int .i64 D,.int .i64 E,.slice aa A.length ac] 24)).alloc (.cells #[.int .i64 G,.string ⟨H.toArray⟩,.int .i64 I,.int .i64 J,.slice ba B.length bc] 24)) w.heap.size (.int .i64 36) (.string ⟨x.toArray⟩) (.int .i64 m) (.int .i64 p) (.slice sa l.length sc)) := (FR.n.alloc _).alloc _; have O0 : Hid (NB ((wr.alloc (.cells #[.int .i64 y,.string ⟨C.toArray⟩,.int .i64 D,.int .i64 E,.slice aa A.length ac] 24)).alloc (.cells #[.int .i64 G,.string ⟨H.toArray⟩,.int .i64 I,.int .i64 J,.slice ba B.length bc] 24)) (w.heap.size + 2) (.int .i64 36) (.string ⟨x.toArray⟩) (.int .i64 m) (.int .i64 p) (.slice (some ⟨g,0,none⟩) 2 vc)) := (FR.o.alloc _).alloc _; have d9 : Hid (RB ((wr.alloc (.cells #[.int .i64 y,.string ⟨C.toArray⟩,.int .i64 D,.int .i64 E,.slice aa A.length ac] 24)).alloc (.cells #[.int .i64 G,.string ⟨H.toArray⟩,.int .i64 I,.int .i64 J,.slice ba B.length bc] 24)) (w.heap.size + 1)) := (FR.r.alloc _).alloc _; have C0 : Hid (NB ((wr.alloc (.cells #[.int .i64 y,.string ⟨C.toArray⟩,.int .i64 D,.int .i64 E,.slice aa A.length ac] 24)).alloc (.cells #[.int .i64 G,.string ⟨H.toArray⟩,.int .i64 I,.int .i64 J,.slice ba B.length bc] 24)) wr.heap.size (.int .i64 y) (.string ⟨C.toArray⟩) (.int .i64 D) (.int .i64 E) (.slice aa A.length ac)) := (NB.new wr _).alloc _; have D0 : Hid (NB ((wr.alloc (.cells #[.int .i64 y,.string ⟨C.toArray⟩,.int .i64 D,.int .i64 E,.slice aa A.length ac] 24)).alloc (.cells #[.int .i64 G,.string ⟨H.toArray⟩,.int .i64 I,.int .i64 J,.slice ba B.length bc] 24)) (wr.heap.size + 1) (.int .i64 G) (.string ⟨H.toArray⟩) (.int .i64 I) (.int .i64 J) (.slice ba B.length bc)) := NB.new' (by simp); have f0 : Hid (w.grownBy ((wr.alloc (.cells #[.int .i64 y,.string ⟨C.toArray⟩,.int .i64 D,.int .i64 E,.slice aa A.length ac] 24)).alloc (.cells #[.int .i64 G,.string ⟨H.toArray⟩,.int .i64 I,.int .i64 J,.slice ba B.length bc] 24)) none) := zf (zf FR.g _) _; have f1 : Hid (wr.grownBy ((wr.alloc (.cells #[.int .i64 y,.string ⟨C.toArray⟩,.int .i64 D,.int .i64 E,.slice aa A.length ac] 24)).alloc (.cells #[.int .i64 G,.string ⟨H.toArray⟩,.int .i64 I,.int .i64 J,.slice ba B.length bc] 24)) none) := zf gan _; cases hu : xj (.mk y C D E A) with
              | none =>
                have HE : Hid (yh (.mk 36 x m p l) = (.mk 36 x m p [(.mk y C D E A),(.mk G H I J B)])) := by
                  refine b8.trans (show opT (.mk 36 x m p [(.mk y C D E A),(.mk G H I J B)]) = _ from ?_)
                  unfold opT
                  rw [if_neg (show ¬ ((T.mk 36 x m p [(.mk y C D E A),(.mk G H I J B)]).name = [38] \/ (T.mk 36 x m p [(.mk y C D E A),(.mk G H I J B)]).name = [79,82]) from fun h => h.elim e1 e2),show zI (.mk 36 x m p [(.mk y C D E A),(.mk G H I J B)]) 0 = (.mk y C D E A) from rfl,show zI (.mk 36 x m p [(.mk y C D E A),(.mk G H I J B)]) 1 = (.mk G H I J B) from rfl,hu]
                cases hv : xj (.mk G H I J B) with
                | none =>
                  have b6 := fun (w' : World) (hg : wr.grownBy w' none) => zb (vz (.mk y C D E A) (.slice aa A.length ac) _ w' (LA.kept hg (fun _ hk => by cases hk)) a6 hu)
                  go_wp2_with fail; go_at_call 53; refine ((b6 _ (zf (zf RG _) _))).mono ?_; rintro e w1 ⟨rfl,d⟩; obtain ⟨N1,O1,C1,D1,R1⟩ := kp5 N0 O0 C0 D0 d9 d; have G1 := za f0 d; have F := za f1 d; have d8 := N1.lt; have f2 := D1.lt; have c5 := F.size; have f3 := R1.lt; clear d; clear L M N O Q R U V Y Z o4 oz r0 r1 r2 r3 r4 rz; obtain ⟨L,M,N,O,Q,R⟩ := id N1; obtain ⟨U,V,Y,Z,o4,oz⟩ := id O1; obtain ⟨c0,c1,c2,c3,c4,cz⟩ := id C1; obtain ⟨d0,d1,d2,d3,d4,dz⟩ := id D1; obtain ⟨_,_,_,_,_,r0,r1,r2,r3,r4,rz⟩ := id R1
                  have b7 := fun (w' : World) (hg : wr.grownBy w' none) => zb (vz (.mk G H I J B) (.slice ba B.length bc) _ w' (LB.kept hg (fun _ hk => by cases hk)) gb hv)
                  go_wp2_with fail; go_at_call 53; refine ((b7 _ F)).mono ?_; rintro e w2 ⟨rfl,f⟩; obtain ⟨N2,O2,C2,D2,R2⟩ := kp5 N1 O1 C1 D1 R1 f; have G2 := za G1 f; have K := za F f; have f4 := N2.lt; have f5 := D2.lt; have c6 := K.size; have f6 := R2.lt; clear f; clear L M N O Q R U V Y Z o4 oz r0 r1 r2 r3 r4 rz; clear c0 c1 c2 c3 c4 cz d0 d1 d2 d3 d4 dz; obtain ⟨L,M,N,O,Q,R⟩ := id N2; obtain ⟨U,V,Y,Z,o4,oz⟩ := id O2; obtain ⟨c0,c1,c2,c3,c4,cz⟩ := id C2; obtain ⟨d0,d1,d2,d3,d4,dz⟩ := id D2; obtain ⟨_,_,_,_,_,r0,r1,r2,r3,r4,rz⟩ := id R2; go_wp2_with fail; refine zP Tryz.results21 rfl (RB.five R2) rfl ?_; rw [HE.out]; refine ⟨_,rfl,LR.mono (xN LF ?_ ?_) ?_,?_⟩
                  · exact K
                  · intro h9; have := h9.1; omega
                  · intro b hb; have := hb.1; show w.heap.size <= b; omega
                  · exact yC G2 (by omega)
                | some v =>
                  have b6 := fun (w' : World) (hg : wr.grownBy w' none) => zb (vz (.mk y C D E A) (.slice aa A.length ac) _ w' (LA.kept hg (fun _ hk => by cases hk)) a6 hu)
                  go_wp2_with fail; go_at_call 53; refine ((b6 _ (zf (zf RG _) _))).mono ?_; rintro e w1 ⟨rfl,d⟩; obtain ⟨N1,O1,C1,D1,R1⟩ := kp5 N0 O0 C0 D0 d9 d; have G1 := za f0 d; have F := za f1 d; have d8 := N1.lt; have f2 := D1.lt; have c5 := F.size; have f3 := R1.lt; clear d; clear L M N O Q R U V Y Z o4 oz r0 r1 r2 r3 r4 rz; obtain ⟨L,M,N,O,Q,R⟩ := id N1; obtain ⟨U,V,Y,Z,o4,oz⟩ := id O1; obtain ⟨c0,c1,c2,c3,c4,cz⟩ := id C1; obtain ⟨d0,d1,d2,d3,d4,dz⟩ := id D1; obtain ⟨_,_,_,_,_,r0,r1,r2,r3,r4,rz⟩ := id R1
                  have b7 := fun (w' : World) (hg : wr.grownBy w' none) => zb (yg (.mk G H I J B) (.slice ba B.length bc) _ w' (LB.kept hg (fun _ hk => by cases hk)) gb hv)
                  go_wp2_with fail; go_at_call 53; refine ((b7 _ F)).mono ?_; rintro e w2 ⟨rfl,f⟩; obtain ⟨N2,O2,C2,D2,R2⟩ := kp5 N1 O1 C1 D1 R1 f; have G2 := za G1 f; have K := za F f; have f4 := N2.lt; have f5 := D2.lt; have c6 := K.size; have f6 := R2.lt; clear f; clear L M N O Q R U V Y Z o4 oz r0 r1 r2 r3 r4 rz; clear c0 c1 c2 c3 c4 cz d0 d1 d2 d3 d4 dz; obtain ⟨L,M,N,O,Q,R⟩ := id N2; obtain ⟨U,V,Y,Z,o4,oz⟩ := id O2; obtain ⟨c0,c1,c2,c3,c4,cz⟩ := id C2; obtain ⟨d0,d1,d2,d3,d4,dz⟩ := id D2; obtain ⟨_,_,_,_,_,r0,r1,r2,r3,r4,rz⟩ := id R2; go_wp2_with fail; refine zP Tryz.results21 rfl (RB.five R2) rfl ?_; rw [HE.out]; refine ⟨_,rfl,LR.mono (xN LF ?_ ?_) ?_,?_⟩
                  · exact K
                  · intro h9; have := h9.1; omega
                  · intro b hb; have := hb.1; show w.heap.size <= b; omega
                  · exact yC G2 (by omega)
              | some u =>
                cases hv : xj (.mk G H I J B) with
                | none =>
                  have HE : Hid (yh (.mk 36 x m p l) = (.mk 36 x m p [(.mk y C D E A),(.mk G H I J B)])) := by
                    refine b8.trans (show opT (.mk 36 x m p [(.mk y C D E A),(.mk G H I J B)]) = _ from ?_)
                    unfold opT
                    rw [if_neg (show ¬ ((T.mk 36 x m p [(.mk y C D E A),(.mk G H I J B)]).name = [38] \/ (T.mk 36 x m p [(.mk y C D E A),(.mk G H I J B)]).name = [79,82]) from fun h => h.elim e1 e2),show zI (.mk 36 x m p [(.mk y C D E A),(.mk G H I J B)]) 0 = (.mk y C D E A) from rfl,show zI (.mk 36 x m p [(.mk y C D E A),(.mk G H I J B)]) 1 = (.mk G H I J B) from rfl,hu,hv]
                  have b6 := fun (w' : World) (hg : wr.grownBy w' none) => zb (yg (.mk y C D E A) (.slice aa A.length ac) _ w' (LA.kept hg (fun _ hk => by cases hk)) a6 hu)
                  go_wp2_with fail; go_at_call 53; refine ((b6 _ (zf (zf RG _) _))).mono ?_; rintro e w1 ⟨rfl,d⟩; obtain ⟨N1,O1,C1,D1,R1⟩ := kp5 N0 O0 C0 D0 d9 d; have G1 := za f0 d; have F := za f1 d; have d8 := N1.lt; have f2 := D1.lt; have c5 := F.size; have f3 := R1.lt; clear d; clear L M N O Q R U V Y Z o4 oz r0 r1 r2 r3 r4 rz; obtain ⟨L,M,N,O,Q,R⟩ := id N1; obtain ⟨U,V,Y,Z,o4,oz⟩ := id O1; obtain ⟨c0,c1,c2,c3,c4,cz⟩ := id C1; obtain ⟨d0,d1,d2,d3,d4,dz⟩ := id D1; obtain ⟨_,_,_,_,_,r0,r1,r2,r3,r4,rz⟩ := id R1
                  have b7 := fun (w' : World) (hg : wr.grownBy w' none) => zb (vz (.mk G H I J B) (.slice ba B.length bc) _ w' (LB.kept hg (fun _ hk => by cases hk)) gb hv)
                  go_wp2_with fail; go_at_call 53; refine ((b7 _ F)).mono ?_; rintro e w2 ⟨rfl,f⟩; obtain ⟨N2,O2,C2,D2,R2⟩ := kp5 N1 O1 C1 D1 R1 f; have G2 := za G1 f; have K := za F f; have f4 := N2.lt; have f5 := D2.lt; have c6 := K.size; have f6 := R2.lt; clear f; clear L M N O Q R U V Y Z o4 oz r0 r1 r2 r3 r4 rz; clear c0 c1 c2 c3 c4 cz d0 d1 d2 d3 d4 dz; obtain ⟨L,M,N,O,Q,R⟩ := id N2; obtain ⟨U,V,Y,Z,o4,oz⟩ := id O2; obtain ⟨c0,c1,c2,c3,c4,cz⟩ := id C2; obtain ⟨d0,d1,d2,d3,d4,dz⟩ := id D2; obtain ⟨_,_,_,_,_,r0,r1,r2,r3,r4,rz⟩ := id R2; go_wp2_with fail; refine zP Tryz.results21 rfl (RB.five R2) rfl ?_; rw [HE.out]; refine ⟨_,rfl,LR.mono (xN LF ?_ ?_) ?_,?_⟩
                  · exact K
                  · intro h9; have := h9.1; omega
                  · intro b hb; have := hb.1; show w.heap.size <= b; omega
                  · exact yC G2 (by omega)
                | some v =>
                  have g4 := vu a6 hu; have g5 := vu gb hv
                  have g0 : Hid (yh (.mk 36 x m p l) = xo (.mk 36 x m p [(.mk y C D E A),(.mk G H I J B)]) u v) := by
                    refine b8.trans (show opT (.mk 36 x m p [(.mk y C D E A),(.mk G H I J B)]) = _ from ?_)
                    unfold opT
                    rw [if_neg (show ¬ ((T.mk 36 x m p [(.mk y C D E A),(.mk G H I J B)]).name = [38] \/ (T.mk 36 x m p [(.mk y C D E A),(.mk G H I J B)]).name = [79,82]) from fun h => h.elim e1 e2),show zI (.mk 36 x m p [(.mk y C D E A),(.mk G H I J B)]) 0 = (.mk y C D E A) from rfl,show zI (.mk 36 x m p [(.mk y C D E A),(.mk G H I J B)]) 1 = (.mk G H I J B) from rfl,hu,hv]
                  by_cases d5 : zo x = 0
                  · have l5 : (zo x == 0) = true := by rw [d5]; rfl
                    cases hr : yD x u v with
                    | true =>
                      have HE : Hid (yh (.mk 36 x m p l) = vn true p) := by
                        refine g0.trans ?_
                        unfold xo
                        rw [if_pos (show zo (T.mk 36 x m p [(.mk y C D E A),(.mk G H I J B)]).name = 0 from d5),show yD (T.mk 36 x m p [(.mk y C D E A),(.mk G H I J B)]).name u v = true from hr]
                        rfl
                      have b6 := fun (w' : World) (hg : wr.grownBy w' none) => zb (yg (.mk y C D E A) (.slice aa A.length ac) _ w' (LA.kept hg (fun _ hk => by cases hk)) a6 hu)
                      go_wp2_with fail; go_at_call 53; refine ((b6 _ (zf (zf RG _) _))).mono ?_; rintro e w1 ⟨rfl,d⟩; obtain ⟨N1,O1,C1,D1,R1⟩ := kp5 N0 O0 C0 D0 d9 d; have G1 := za f0 d; have F := za f1 d; have d8 := N1.lt; have f2 := D1.lt; have c5 := F.size; have f3 := R1.lt; clear d; clear L M N O Q R U V Y Z o4 oz r0 r1 r2 r3 r4 rz; obtain ⟨L,M,N,O,Q,R⟩ := id N1; obtain ⟨U,V,Y,Z,o4,oz⟩ := id O1; obtain ⟨c0,c1,c2,c3,c4,cz⟩ := id C1; obtain ⟨d0,d1,d2,d3,d4,dz⟩ := id D1; obtain ⟨_,_,_,_,_,r0,r1,r2,r3,r4,rz⟩ := id R1
                      have b7 := fun (w' : World) (hg : wr.grownBy w' none) => zb (yg (.mk G H I J B) (.slice ba B.length bc) _ w' (LB.kept hg (fun _ hk => by cases hk)) gb hv)
                      go_wp2_with fail; go_at_call 53; refine ((b7 _ F)).mono ?_; rintro e w2 ⟨rfl,f⟩; obtain ⟨N2,O2,C2,D2,R2⟩ := kp5 N1 O1 C1 D1 R1 f; have G2 := za G1 f; have K := za F f; have f4 := N2.lt; have f5 := D2.lt; have c6 := K.size; have f6 := R2.lt; clear f; clear L M N O Q R U V Y Z o4 oz r0 r1 r2 r3 r4 rz; clear c0 c1 c2 c3 c4 cz d0 d1 d2 d3 d4 dz; obtain ⟨L,M,N,O,Q,R⟩ := id N2; obtain ⟨U,V,Y,Z,o4,oz⟩ := id O2; obtain ⟨c0,c1,c2,c3,c4,cz⟩ := id C2; obtain ⟨d0,d1,d2,d3,d4,dz⟩ := id D2; obtain ⟨_,_,_,_,_,r0,r1,r2,r3,r4,rz⟩ := id R2
                      have d6 := fun (w' : World) (hg : wr.grownBy w' none) => zb (ue x w')
                      go_wp2_with fail; go_at_call 54; refine ((d6 _ K)).mono ?_; rintro e w3 ⟨rfl,i⟩; obtain ⟨N3,O3,C3,D3,R3⟩ := kp5 N2 O2 C2 D2 R2 i; have G3 := za G2 i; have a7 := za K i; have g6 := N3.lt; have g7 := D3.lt; have f7 := a7.size; have g8 := R3.lt; clear i; clear L M N O Q R U V Y Z o4 oz r0 r1 r2 r3 r4 rz; clear c0 c1 c2 c3 c4 cz d0 d1 d2 d3 d4 dz; obtain ⟨L,M,N,O,Q,R⟩ := id N3; obtain ⟨U,V,Y,Z,o4,oz⟩ := id O3; obtain ⟨c0,c1,c2,c3,c4,cz⟩ := id C3; obtain ⟨d0,d1,d2,d3,d4,dz⟩ := id D3; obtain ⟨_,_,_,_,_,r0,r1,r2,r3,r4,rz⟩ := id R3
                      have d7 := fun (w' : World) (hg : wr.grownBy w' none) => zb (qX d5 u v hr w')
                      go_wp2_with fail; go_at_call 55; refine ((d7 _ a7)).mono ?_; rintro e w4 ⟨rfl,s⟩; obtain ⟨N4,O4,C4,D4,R4⟩ := kp5 N3 O3 C3 D3 R3 s; have G4 := za G3 s; have b9 := za a7 s; have g9 := N4.lt; have h0 := D4.lt; have f8 := b9.size; have h4 := R4.lt; clear s; clear L M N O Q R U V Y Z o4 oz r0 r1 r2 r3 r4 rz; clear c0 c1 c2 c3 c4 cz d0 d1 d2 d3 d4 dz; obtain ⟨L,M,N,O,Q,R⟩ := id N4; obtain ⟨U,V,Y,Z,o4,oz⟩ := id O4; obtain ⟨c0,c1,c2,c3,c4,cz⟩ := id C4; obtain ⟨d0,d1,d2,d3,d4,dz⟩ := id D4; obtain ⟨_,_,_,_,_,r0,r1,r2,r3,r4,rz⟩ := id R4; go_wp2_with fail; refine zP Tryz.results21 rfl (RB.five R4) rfl ?_; rw [HE.out]
                      exact ⟨.slice none 0 0,rfl,LR.nil _ _,(yC G4 (by omega))⟩
                    | false =>
                      have HE : Hid (yh (.mk 36 x m p l) = vn false p) := by
                        refine g0.trans ?_
                        unfold xo
                        rw [if_pos (show zo (T.mk 36 x m p [(.mk y C D E A),(.mk G H I J B)]).name = 0 from d5),show yD (T.mk 36 x m p [(.mk y C D E A),(.mk G H I J B)]).name u v = false from hr]
                        rfl
                      have b6 := fun (w' : World) (hg : wr.grownBy w' none) => zb (yg (.mk y C D E A) (.slice aa A.length ac) _ w' (LA.kept hg (fun _ hk => by cases hk)) a6 hu)
                      go_wp2_with fail; go_at_call 53; refine ((b6 _ (zf (zf RG _) _))).mono ?_; rintro e w1 ⟨rfl,d⟩; obtain ⟨N1,O1,C1,D1,R1⟩ := kp5 N0 O0 C0 D0 d9 d; have G1 := za f0 d; have F := za f1 d; have d8 := N1.lt; have f2 := D1.lt; have c5 := F.size; have f3 := R1.lt; clear d; clear L M N O Q R U V Y Z o4 oz r0 r1 r2 r3 r4 rz; obtain ⟨L,M,N,O,Q,R⟩ := id N1; obtain ⟨U,V,Y,Z,o4,oz⟩ := id O1; obtain ⟨c0,c1,c2,c3,c4,cz⟩ := id C1; obtain ⟨d0,d1,d2,d3,d4,dz⟩ := id D1; obtain ⟨_,_,_,_,_,r0,r1,r2,r3,r4,rz⟩ := id R1
                      have b7 := fun (w' : World) (hg : wr.grownBy w' none) => zb (yg (.mk G H I J B) (.slice ba B.length bc) _ w' (LB.kept hg (fun _ hk => by cases hk)) gb hv)
                      go_wp2_with fail; go_at_call 53; refine ((b7 _ F)).mono ?_; rintro e w2 ⟨rfl,f⟩; obtain ⟨N2,O2,C2,D2,R2⟩ := kp5 N1 O1 C1 D1 R1 f; have G2 := za G1 f; have K := za F f; have f4 := N2.lt; have f5 := D2.lt; have c6 := K.size; have f6 := R2.lt; clear f; clear L M N O Q R U V Y Z o4 oz r0 r1 r2 r3 r4 rz; clear c0 c1 c2 c3 c4 cz d0 d1 d2 d3 d4 dz; obtain ⟨L,M,N,O,Q,R⟩ := id N2; obtain ⟨U,V,Y,Z,o4,oz⟩ := id O2; obtain ⟨c0,c1,c2,c3,c4,cz⟩ := id C2; obtain ⟨d0,d1,d2,d3,d4,dz⟩ := id D2; obtain ⟨_,_,_,_,_,r0,r1,r2,r3,r4,rz⟩ := id R2
                      have d6 := fun (w' : World) (hg : wr.grownBy w' none) => zb (ue x w')
                      go_wp2_with fail; go_at_call 54; refine ((d6 _ K)).mono ?_; rintro e w3 ⟨rfl,i⟩; obtain ⟨N3,O3,C3,D3,R3⟩ := kp5 N2 O2 C2 D2 R2 i; have G3 := za G2 i; have a7 := za K i; have g6 := N3.lt; have g7 := D3.lt; have f7 := a7.size; have g8 := R3.lt; clear i; clear L M N O Q R U V Y Z o4 oz r0 r1 r2 r3 r4 rz; clear c0 c1 c2 c3 c4 cz d0 d1 d2 d3 d4 dz; obtain ⟨L,M,N,O,Q,R⟩ := id N3; obtain ⟨U,V,Y,Z,o4,oz⟩ := id O3; obtain ⟨c0,c1,c2,c3,c4,cz⟩ := id C3; obtain ⟨d0,d1,d2,d3,d4,dz⟩ := id D3; obtain ⟨_,_,_,_,_,r0,r1,r2,r3,r4,rz⟩ := id R3
                      have d7 := fun (w' : World) (hg : wr.grownBy w' none) => zb (qX d5 u v hr w')
                      go_wp2_with fail; go_at_call 55; refine ((d7 _ a7)).mono ?_; rintro e w4 ⟨rfl,s⟩; obtain ⟨N4,O4,C4,D4,R4⟩ := kp5 N3 O3 C3 D3 R3 s; have G4 := za G3 s; have b9 := za a7 s; have g9 := N4.lt; have h0 := D4.lt; have f8 := b9.size; have h4 := R4.lt; clear s; clear L M N O Q R U V Y Z o4 oz r0 r1 r2 r3 r4 rz; clear c0 c1 c2 c3 c4 cz d0 d1 d2 d3 d4 dz; obtain ⟨L,M,N,O,Q,R⟩ := id N4; obtain ⟨U,V,Y,Z,o4,oz⟩ := id O4; obtain ⟨c0,c1,c2,c3,c4,cz⟩ := id C4; obtain ⟨d0,d1,d2,d3,d4,dz⟩ := id D4; obtain ⟨_,_,_,_,_,r0,r1,r2,r3,r4,rz⟩ := id R4; go_wp2_with fail; refine zP Tryz.results21 rfl (RB.five R4) rfl ?_; rw [HE.out]
                      exact ⟨.slice none 0 0,rfl,LR.nil _ _,(yC G4 (by omega))⟩
                  · have l5 : (zo x == 0) = false := bn d5
                    have h8 : x = [43] \/ x = [45] \/ x = [42] \/ x = [68,73,86] \/ x = [77,79,68] := mP hx d5 e1 e2; cases ho : opZ x u v with
                    | none =>
                      have HE : Hid (yh (.mk 36 x m p l) = (.mk 36 x m p [(.mk y C D E A),(.mk G H I J B)])) := by
                        refine g0.trans ?_
                        unfold xo
                        rw [if_neg (show ¬ zo (T.mk 36 x m p [(.mk y C D E A),(.mk G H I J B)]).name = 0 from d5),show opZ (T.mk 36 x m p [(.mk y C D E A),(.mk G H I J B)]).name u v = _ from ho]
                      have b6 := fun (w' : World) (hg : wr.grownBy w' none) => zb (yg (.mk y C D E A) (.slice aa A.length ac) _ w' (LA.kept hg (fun _ hk => by cases hk)) a6 hu)
                      go_wp2_with fail; go_at_call 53; refine ((b6 _ (zf (zf RG _) _))).mono ?_; rintro e w1 ⟨rfl,d⟩; obtain ⟨N1,O1,C1,D1,R1⟩ := kp5 N0 O0 C0 D0 d9 d; have G1 := za f0 d; have F := za f1 d; have d8 := N1.lt; have f2 := D1.lt; have c5 := F.size; have f3 := R1.lt; clear d; clear L M N O Q R U V Y Z o4 oz r0 r1 r2 r3 r4 rz; obtain ⟨L,M,N,O,Q,R⟩ := id N1; obtain ⟨U,V,Y,Z,o4,oz⟩ := id O1; obtain ⟨c0,c1,c2,c3,c4,cz⟩ := id C1; obtain ⟨d0,d1,d2,d3,d4,dz⟩ := id D1; obtain ⟨_,_,_,_,_,r0,r1,r2,r3,r4,rz⟩ := id R1
                      have b7 := fun (w' : World) (hg : wr.grownBy w' none) => zb (yg (.mk G H I J B) (.slice ba B.length bc) _ w' (LB.kept hg (fun _ hk => by cases hk)) gb hv)
                      go_wp2_with fail; go_at_call 53; refine ((b7 _ F)).mono ?_; rintro e w2 ⟨rfl,f⟩; obtain ⟨N2,O2,C2,D2,R2⟩ := kp5 N1 O1 C1 D1 R1 f; have G2 := za G1 f; have K := za F f; have f4 := N2.lt; have f5 := D2.lt; have c6 := K.size; have f6 := R2.lt; clear f; clear L M N O Q R U V Y Z o4 oz r0 r1 r2 r3 r4 rz; clear c0 c1 c2 c3 c4 cz d0 d1 d2 d3 d4 dz; obtain ⟨L,M,N,O,Q,R⟩ := id N2; obtain ⟨U,V,Y,Z,o4,oz⟩ := id O2; obtain ⟨c0,c1,c2,c3,c4,cz⟩ := id C2; obtain ⟨d0,d1,d2,d3,d4,dz⟩ := id D2; obtain ⟨_,_,_,_,_,r0,r1,r2,r3,r4,rz⟩ := id R2
                      have d6 := fun (w' : World) (hg : wr.grownBy w' none) => zb (ue x w')
                      go_wp2_with fail; go_at_call 54; refine ((d6 _ K)).mono ?_; rintro e w3 ⟨rfl,i⟩; obtain ⟨N3,O3,C3,D3,R3⟩ := kp5 N2 O2 C2 D2 R2 i; have G3 := za G2 i; have a7 := za K i; have g6 := N3.lt; have g7 := D3.lt; have f7 := a7.size; have g8 := R3.lt; clear i; clear L M N O Q R U V Y Z o4 oz r0 r1 r2 r3 r4 rz; clear c0 c1 c2 c3 c4 cz d0 d1 d2 d3 d4 dz; obtain ⟨L,M,N,O,Q,R⟩ := id N3; obtain ⟨U,V,Y,Z,o4,oz⟩ := id O3; obtain ⟨c0,c1,c2,c3,c4,cz⟩ := id C3; obtain ⟨d0,d1,d2,d3,d4,dz⟩ := id D3; obtain ⟨_,_,_,_,_,r0,r1,r2,r3,r4,rz⟩ := id R3
                      have d7 := fun (w' : World) (hg : wr.grownBy w' none) => zb (fh h8 u v g4 g5 ho w')
                      go_wp2_with fail; go_at_call 56; refine ((d7 _ a7)).mono ?_; rintro e w4 ⟨rfl,s⟩; obtain ⟨N4,O4,C4,D4,R4⟩ := kp5 N3 O3 C3 D3 R3 s; have G4 := za G3 s; have b9 := za a7 s; have g9 := N4.lt; have h0 := D4.lt; have f8 := b9.size; have h4 := R4.lt; clear s; clear L M N O Q R U V Y Z o4 oz r0 r1 r2 r3 r4 rz; clear c0 c1 c2 c3 c4 cz d0 d1 d2 d3 d4 dz; obtain ⟨L,M,N,O,Q,R⟩ := id N4; obtain ⟨U,V,Y,Z,o4,oz⟩ := id O4; obtain ⟨c0,c1,c2,c3,c4,cz⟩ := id C4; obtain ⟨d0,d1,d2,d3,d4,dz⟩ := id D4; obtain ⟨_,_,_,_,_,r0,r1,r2,r3,r4,rz⟩ := id R4; go_wp2_with fail; refine zP Tryz.results21 rfl (RB.five R4) rfl ?_; rw [HE.out]; refine ⟨_,rfl,LR.mono (xN LF ?_ ?_) ?_,?_⟩
                      · exact b9
                      · intro h9; have := h9.1; omega
                      · intro b hb; have := hb.1; show w.heap.size <= b; omega
                      · exact yC G4 (by omega)
                    | some z =>
                      have m9 := qe g4 g5 ho
                      by_cases hz : z = -2147483648
                      · have l6 : (z == -2147483648) = true := by rw [hz]; rfl
                        have HE : Hid (yh (.mk 36 x m p l) = (.mk 36 x m p [(.mk y C D E A),(.mk G H I J B)])) := by
                          refine g0.trans ?_
                          unfold xo
                          rw [if_neg (show ¬ zo (T.mk 36 x m p [(.mk y C D E A),(.mk G H I J B)]).name = 0 from d5),show opZ (T.mk 36 x m p [(.mk y C D E A),(.mk G H I J B)]).name u v = _ from ho]
                          exact if_pos hz
                        have b6 := fun (w' : World) (hg : wr.grownBy w' none) => zb (yg (.mk y C D E A) (.slice aa A.length ac) _ w' (LA.kept hg (fun _ hk => by cases hk)) a6 hu)
                        go_wp2_with fail; go_at_call 53; refine ((b6 _ (zf (zf RG _) _))).mono ?_; rintro e w1 ⟨rfl,d⟩; obtain ⟨N1,O1,C1,D1,R1⟩ := kp5 N0 O0 C0 D0 d9 d; have G1 := za f0 d; have F := za f1 d; have d8 := N1.lt; have f2 := D1.lt; have c5 := F.size; have f3 := R1.lt; clear d; clear L M N O Q R U V Y Z o4 oz r0 r1 r2 r3 r4 rz; obtain ⟨L,M,N,O,Q,R⟩ := id N1; obtain ⟨U,V,Y,Z,o4,oz⟩ := id O1; obtain ⟨c0,c1,c2,c3,c4,cz⟩ := id C1; obtain ⟨d0,d1,d2,d3,d4,dz⟩ := id D1; obtain ⟨_,_,_,_,_,r0,r1,r2,r3,r4,rz⟩ := id R1
                        have b7 := fun (w' : World) (hg : wr.grownBy w' none) => zb (yg (.mk G H I J B) (.slice ba B.length bc) _ w' (LB.kept hg (fun _ hk => by cases hk)) gb hv)
                        go_wp2_with fail; go_at_call 53; refine ((b7 _ F)).mono ?_; rintro e w2 ⟨rfl,f⟩; obtain ⟨N2,O2,C2,D2,R2⟩ := kp5 N1 O1 C1 D1 R1 f; have G2 := za G1 f; have K := za F f; have f4 := N2.lt; have f5 := D2.lt; have c6 := K.size; have f6 := R2.lt; clear f; clear L M N O Q R U V Y Z o4 oz r0 r1 r2 r3 r4 rz; clear c0 c1 c2 c3 c4 cz d0 d1 d2 d3 d4 dz; obtain ⟨L,M,N,O,Q,R⟩ := id N2; obtain ⟨U,V,Y,Z,o4,oz⟩ := id O2; obtain ⟨c0,c1,c2,c3,c4,cz⟩ := id C2; obtain ⟨d0,d1,d2,d3,d4,dz⟩ := id D2; obtain ⟨_,_,_,_,_,r0,r1,r2,r3,r4,rz⟩ := id R2
                        have d6 := fun (w' : World) (hg : wr.grownBy w' none) => zb (ue x w')
                        go_wp2_with fail; go_at_call 54; refine ((d6 _ K)).mono ?_; rintro e w3 ⟨rfl,i⟩; obtain ⟨N3,O3,C3,D3,R3⟩ := kp5 N2 O2 C2 D2 R2 i; have G3 := za G2 i; have a7 := za K i; have g6 := N3.lt; have g7 := D3.lt; have f7 := a7.size; have g8 := R3.lt; clear i; clear L M N O Q R U V Y Z o4 oz r0 r1 r2 r3 r4 rz; clear c0 c1 c2 c3 c4 cz d0 d1 d2 d3 d4 dz; obtain ⟨L,M,N,O,Q,R⟩ := id N3; obtain ⟨U,V,Y,Z,o4,oz⟩ := id O3; obtain ⟨c0,c1,c2,c3,c4,cz⟩ := id C3; obtain ⟨d0,d1,d2,d3,d4,dz⟩ := id D3; obtain ⟨_,_,_,_,_,r0,r1,r2,r3,r4,rz⟩ := id R3
                        have d7 := fun (w' : World) (hg : wr.grownBy w' none) => zb (uu h8 u v g4 g5 ho w')
                        go_wp2_with fail; go_at_call 56; refine ((d7 _ a7)).mono ?_; rintro e w4 ⟨rfl,s⟩; obtain ⟨N4,O4,C4,D4,R4⟩ := kp5 N3 O3 C3 D3 R3 s; have G4 := za G3 s; have b9 := za a7 s; have g9 := N4.lt; have h0 := D4.lt; have f8 := b9.size; have h4 := R4.lt; clear s; clear L M N O Q R U V Y Z o4 oz r0 r1 r2 r3 r4 rz; clear c0 c1 c2 c3 c4 cz d0 d1 d2 d3 d4 dz; obtain ⟨L,M,N,O,Q,R⟩ := id N4; obtain ⟨U,V,Y,Z,o4,oz⟩ := id O4; obtain ⟨c0,c1,c2,c3,c4,cz⟩ := id C4; obtain ⟨d0,d1,d2,d3,d4,dz⟩ := id D4; obtain ⟨_,_,_,_,_,r0,r1,r2,r3,r4,rz⟩ := id R4; go_wp2_with fail; refine zP Tryz.results21 rfl (RB.five R4) rfl ?_; rw [HE.out]; refine ⟨_,rfl,LR.mono (xN LF ?_ ?_) ?_,?_⟩
                        · exact b9
                        · intro h9; have := h9.1; omega
                        · intro b hb; have := hb.1; show w.heap.size <= b; omega
                        · exact yC G4 (by omega)
                      · have l6 : (z == -2147483648) = false := bn hz
                        by_cases k5 : z < 0
                        · have HE : Hid (yh (.mk 36 x m p l) = .mk 35 [] 0 p [.mk 29 [] (-z) p []]) := by
                            refine g0.trans ?_
                            unfold xo
                            rw [if_neg (show ¬ zo (T.mk 36 x m p [(.mk y C D E A),(.mk G H I J B)]).name = 0 from d5),show opZ (T.mk 36 x m p [(.mk y C D E A),(.mk G H I J B)]).name u v = _ from ho]
                            exact (if_neg hz).trans (if_pos k5)
                          have b6 := fun (w' : World) (hg : wr.grownBy w' none) => zb (yg (.mk y C D E A) (.slice aa A.length ac) _ w' (LA.kept hg (fun _ hk => by cases hk)) a6 hu)
                          go_wp2_with fail; go_at_call 53; refine ((b6 _ (zf (zf RG _) _))).mono ?_; rintro e w1 ⟨rfl,d⟩; obtain ⟨N1,O1,C1,D1,R1⟩ := kp5 N0 O0 C0 D0 d9 d; have G1 := za f0 d; have F := za f1 d; have d8 := N1.lt; have f2 := D1.lt; have c5 := F.size; have f3 := R1.lt; clear d; clear L M N O Q R U V Y Z o4 oz r0 r1 r2 r3 r4 rz; obtain ⟨L,M,N,O,Q,R⟩ := id N1; obtain ⟨U,V,Y,Z,o4,oz⟩ := id O1; obtain ⟨c0,c1,c2,c3,c4,cz⟩ := id C1; obtain ⟨d0,d1,d2,d3,d4,dz⟩ := id D1; obtain ⟨_,_,_,_,_,r0,r1,r2,r3,r4,rz⟩ := id R1
                          have b7 := fun (w' : World) (hg : wr.grownBy w' none) => zb (yg (.mk G H I J B) (.slice ba B.length bc) _ w' (LB.kept hg (fun _ hk => by cases hk)) gb hv)
                          go_wp2_with fail; go_at_call 53; refine ((b7 _ F)).mono ?_; rintro e w2 ⟨rfl,f⟩; obtain ⟨N2,O2,C2,D2,R2⟩ := kp5 N1 O1 C1 D1 R1 f; have G2 := za G1 f; have K := za F f; have f4 := N2.lt; have f5 := D2.lt; have c6 := K.size; have f6 := R2.lt; clear f; clear L M N O Q R U V Y Z o4 oz r0 r1 r2 r3 r4 rz; clear c0 c1 c2 c3 c4 cz d0 d1 d2 d3 d4 dz; obtain ⟨L,M,N,O,Q,R⟩ := id N2; obtain ⟨U,V,Y,Z,o4,oz⟩ := id O2; obtain ⟨c0,c1,c2,c3,c4,cz⟩ := id C2; obtain ⟨d0,d1,d2,d3,d4,dz⟩ := id D2; obtain ⟨_,_,_,_,_,r0,r1,r2,r3,r4,rz⟩ := id R2
                          have d6 := fun (w' : World) (hg : wr.grownBy w' none) => zb (ue x w')
                          go_wp2_with fail; go_at_call 54; refine ((d6 _ K)).mono ?_; rintro e w3 ⟨rfl,i⟩; obtain ⟨N3,O3,C3,D3,R3⟩ := kp5 N2 O2 C2 D2 R2 i; have G3 := za G2 i; have a7 := za K i; have g6 := N3.lt; have g7 := D3.lt; have f7 := a7.size; have g8 := R3.lt; clear i; clear L M N O Q R U V Y Z o4 oz r0 r1 r2 r3 r4 rz; clear c0 c1 c2 c3 c4 cz d0 d1 d2 d3 d4 dz; obtain ⟨L,M,N,O,Q,R⟩ := id N3; obtain ⟨U,V,Y,Z,o4,oz⟩ := id O3; obtain ⟨c0,c1,c2,c3,c4,cz⟩ := id C3; obtain ⟨d0,d1,d2,d3,d4,dz⟩ := id D3; obtain ⟨_,_,_,_,_,r0,r1,r2,r3,r4,rz⟩ := id R3
                          have d7 := fun (w' : World) (hg : wr.grownBy w' none) => zb (uu h8 u v g4 g5 ho w')
                          go_wp2_with fail; go_at_call 56; refine ((d7 _ a7)).mono ?_; rintro e w4 ⟨rfl,s⟩; obtain ⟨N4,O4,C4,D4,R4⟩ := kp5 N3 O3 C3 D3 R3 s; have G4 := za G3 s; have b9 := za a7 s; have g9 := N4.lt; have h0 := D4.lt; have f8 := b9.size; have h4 := R4.lt; clear s; clear L M N O Q R U V Y Z o4 oz r0 r1 r2 r3 r4 rz; clear c0 c1 c2 c3 c4 cz d0 d1 d2 d3 d4 dz; obtain ⟨L,M,N,O,Q,R⟩ := id N4; obtain ⟨U,V,Y,Z,o4,oz⟩ := id O4; obtain ⟨c0,c1,c2,c3,c4,cz⟩ := id C4; obtain ⟨d0,d1,d2,d3,d4,dz⟩ := id D4; obtain ⟨_,_,_,_,_,r0,r1,r2,r3,r4,rz⟩ := id R4; go_wp2_with fail; refine zP Tryz.results21 rfl (NB.alloc (RB.five R4) _) rfl ?_; rw [HE.out]; refine ⟨.slice (some ⟨w4.heap.size,0,none⟩) 1 1,rfl,?_,(zf (yC G4 (by omega)) _)⟩
                          exact (LR.build1 _ (t := .mk 29 [] (-z) p []) (lo := w.heap.size) (LR.nil _ _) (by simp) rfl (by omega)).mono (fun k hk => hk.1)
                        · have HE : Hid (yh (.mk 36 x m p l) = .mk 29 [] z p []) := by
                            refine g0.trans ?_
                            unfold xo
                            rw [if_neg (show ¬ zo (T.mk 36 x m p [(.mk y C D E A),(.mk G H I J B)]).name = 0 from d5),show opZ (T.mk 36 x m p [(.mk y C D E A),(.mk G H I J B)]).name u v = _ from ho]
                            exact (if_neg hz).trans (if_neg k5)
                          have b6 := fun (w' : World) (hg : wr.grownBy w' none) => zb (yg (.mk y C D E A) (.slice aa A.length ac) _ w' (LA.kept hg (fun _ hk => by cases hk)) a6 hu)
                          go_wp2_with fail; go_at_call 53; refine ((b6 _ (zf (zf RG _) _))).mono ?_; rintro e w1 ⟨rfl,d⟩; obtain ⟨N1,O1,C1,D1,R1⟩ := kp5 N0 O0 C0 D0 d9 d; have G1 := za f0 d; have F := za f1 d; have d8 := N1.lt; have f2 := D1.lt; have c5 := F.size; have f3 := R1.lt; clear d; clear L M N O Q R U V Y Z o4 oz r0 r1 r2 r3 r4 rz; obtain ⟨L,M,N,O,Q,R⟩ := id N1; obtain ⟨U,V,Y,Z,o4,oz⟩ := id O1; obtain ⟨c0,c1,c2,c3,c4,cz⟩ := id C1; obtain ⟨d0,d1,d2,d3,d4,dz⟩ := id D1; obtain ⟨_,_,_,_,_,r0,r1,r2,r3,r4,rz⟩ := id R1
                          have b7 := fun (w' : World) (hg : wr.grownBy w' none) => zb (yg (.mk G H I J B) (.slice ba B.length bc) _ w' (LB.kept hg (fun _ hk => by cases hk)) gb hv)
                          go_wp2_with fail; go_at_call 53; refine ((b7 _ F)).mono ?_; rintro e w2 ⟨rfl,f⟩; obtain ⟨N2,O2,C2,D2,R2⟩ := kp5 N1 O1 C1 D1 R1 f; have G2 := za G1 f; have K := za F f; have f4 := N2.lt; have f5 := D2.lt; have c6 := K.size; have f6 := R2.lt; clear f; clear L M N O Q R U V Y Z o4 oz r0 r1 r2 r3 r4 rz; clear c0 c1 c2 c3 c4 cz d0 d1 d2 d3 d4 dz; obtain ⟨L,M,N,O,Q,R⟩ := id N2; obtain ⟨U,V,Y,Z,o4,oz⟩ := id O2; obtain ⟨c0,c1,c2,c3,c4,cz⟩ := id C2; obtain ⟨d0,d1,d2,d3,d4,dz⟩ := id D2; obtain ⟨_,_,_,_,_,r0,r1,r2,r3,r4,rz⟩ := id R2
                          have d6 := fun (w' : World) (hg : wr.grownBy w' none) => zb (ue x w')
                          go_wp2_with fail; go_at_call 54; refine ((d6 _ K)).mono ?_; rintro e w3 ⟨rfl,i⟩; obtain ⟨N3,O3,C3,D3,R3⟩ := kp5 N2 O2 C2 D2 R2 i; have G3 := za G2 i; have a7 := za K i; have g6 := N3.lt; have g7 := D3.lt; have f7 := a7.size; have g8 := R3.lt; clear i; clear L M N O Q R U V Y Z o4 oz r0 r1 r2 r3 r4 rz; clear c0 c1 c2 c3 c4 cz d0 d1 d2 d3 d4 dz; obtain ⟨L,M,N,O,Q,R⟩ := id N3; obtain ⟨U,V,Y,Z,o4,oz⟩ := id O3; obtain ⟨c0,c1,c2,c3,c4,cz⟩ := id C3; obtain ⟨d0,d1,d2,d3,d4,dz⟩ := id D3; obtain ⟨_,_,_,_,_,r0,r1,r2,r3,r4,rz⟩ := id R3
                          have d7 := fun (w' : World) (hg : wr.grownBy w' none) => zb (uu h8 u v g4 g5 ho w')
                          go_wp2_with fail; go_at_call 56; refine ((d7 _ a7)).mono ?_; rintro e w4 ⟨rfl,s⟩; obtain ⟨N4,O4,C4,D4,R4⟩ := kp5 N3 O3 C3 D3 R3 s; have G4 := za G3 s; have b9 := za a7 s; have g9 := N4.lt; have h0 := D4.lt; have f8 := b9.size; have h4 := R4.lt; clear s; clear L M N O Q R U V Y Z o4 oz r0 r1 r2 r3 r4 rz; clear c0 c1 c2 c3 c4 cz d0 d1 d2 d3 d4 dz; obtain ⟨L,M,N,O,Q,R⟩ := id N4; obtain ⟨U,V,Y,Z,o4,oz⟩ := id O4; obtain ⟨c0,c1,c2,c3,c4,cz⟩ := id C4; obtain ⟨d0,d1,d2,d3,d4,dz⟩ := id D4; obtain ⟨_,_,_,_,_,r0,r1,r2,r3,r4,rz⟩ := id R4; go_wp2_with fail; refine zP Tryz.results21 rfl (RB.five R4) rfl ?_; rw [HE.out]
                          exact ⟨.slice none 0 0,rfl,LR.nil _ _,(yC G4 (by omega))⟩
        · have m0 : (k != 36) = true := by rw [bne_iff_ne]; exact j4
          have HE : Hid (yh (.mk k x m p l) = .mk k x m p fl) := by
            refine b8.trans ?_
            unfold yo
            rw [if_neg (show ¬ (T.mk k x m p fl).kind = 34 from j2),if_neg (show ¬ (T.mk k x m p fl).kind = 36 from j4)]
          go_wp2_with fail; refine zP Tryz.results21 rfl (RB.five R0) rfl ?_; rw [HE.out]; refine ⟨_,rfl,LR.mono (xN LF ?_ ?_) ?_,?_⟩
          · exact RG
          · intro h9; have := h9.1; omega
          · intro b hb; have := hb.1; show w.heap.size <= b; omega
          · exact yC G0 (by omega)
theorem qP (l : List T) : l.length <= zx l := by
 induction l with
 | nil => exact Nat.zero_le _
 | cons t l ih => rw [zx]; have := xc t; simp; omega
theorem gv {l : List T} {u : T} (h : u ∈ l) : zn u <= zx l := by
 induction l with
 | nil => cases h
 | cons t l ih =>
  rw [zx]
  rcases List.mem_cons.1 h with rfl | h
  ·omega
  ·have := ih h; omega
theorem qO (t : T) (hg : GT t) (hc : zn t <= 3000) (w : World) (sv : Value) (ha : AT w t.subs sv) : Calls Tryz.prog 21 #[zq t sv] w (NL w (fun b => w.heap.size <= b) (yh t)) := by
 match t,hg,hc,ha with
 | .mk k x m p l,hg,hc,ha =>
  rw [zn] at hc; have a := qP l
  exact fT k x m p l hg (by omega) (fun u hu w' sv' ha' => qO u (hg.sub hu) (by have := gv hu; omega) w' sv' ha') w sv ha
termination_by SizeOf.sizeOf t
decreasing_by
 have d := List.sizeOf_lt_of_mem hu; simp only [T.mk.sizeOf_spec]
 omega
structure Lv where
 t : T
 i : Nat
 acc : List T
def Lv.node (v : Lv) : T := .mk v.t.kind v.t.name v.t.num v.t.at' v.acc
inductive Stk (r : T) : List Lv -> Prop
 | one (i : Nat) (h : i <= r.subs.length) : Stk r [⟨r,i,ym (r.subs.take i)⟩]
 | more (l : List Lv) (t : T) (i : Nat) (u : T) (j : Nat) (h : Stk r (l ++ [⟨t,i,ym (t.subs.take i)⟩])) (hu : t.subs[i]? = some u) (hj : j <= u.subs.length) : Stk r ((l ++ [⟨t,i + 1,ym (t.subs.take i)⟩]) ++ [⟨u,j,ym (u.subs.take j)⟩])
theorem uR {α : Type} {l l' : List α} {a a' : α} (h : l ++ [a] = l' ++ [a']) : l = l' /\ a = a' := by
 have b := List.append_inj' h rfl
 exact ⟨b.1,by simpa using b.2⟩
theorem Stk.top {r : T} {l : List Lv} {v : Lv} (h : Stk r (l ++ [v])) : v.acc = ym (v.t.subs.take v.i) /\ v.i <= v.t.subs.length := by
 generalize e : l ++ [v] = s at h
 cases h with
 | one i hi =>
  obtain ⟨_,rfl⟩ := uR (show l ++ [v] = [] ++ [_] from e)
  exact ⟨rfl,hi⟩
 | more l' t i u j h hu hj =>
  obtain ⟨_,rfl⟩ := uR e
  exact ⟨rfl,hj⟩
theorem Stk.next {r : T} {l : List Lv} {t u : T} {i : Nat} {acc : List T} (h : Stk r (l ++ [⟨t,i,acc⟩])) (hu : t.subs[i]? = some u) : Stk r ((l ++ [⟨t,i + 1,acc⟩]) ++ [⟨u,0,[]⟩]) := by
 have a : acc = ym (t.subs.take i) := h.top.1; subst a; have := Stk.more l t i u 0 h hu (Nat.zero_le _); rw [List.take_zero,ym] at this
 exact this
theorem Stk.done {r : T} {l : List Lv} {v : Lv} (h : Stk r (l ++ [v])) (hi : v.i = v.t.subs.length) : yo v.node = yh v.t := by
 obtain ⟨t,_,_⟩ := v; obtain ⟨a,_⟩ := h.top; simp only at a hi; subst a hi; obtain ⟨k,x,n,p,s⟩ := t; rw [gR]
 show yo (.mk k x n p (ym (s.take s.length))) = _
 rw [List.take_length]
theorem Stk.root {r : T} {v : Lv} (h : Stk r [v]) (hi : v.i = v.t.subs.length) : yo v.node = yh r := by
 have e := Stk.done (l := []) h hi
 generalize a : [v] = s at h
 cases h with
 | one i _ =>
  cases a
  exact e
 | more l t i u j _ _ _ =>
  have := congrArg List.length a
  simp at this
theorem Stk.close {r : T} {l : List Lv} {v v' : Lv} (h : Stk r ((l ++ [v']) ++ [v])) (hi : v.i = v.t.subs.length) : Stk r (l ++ [⟨v'.t,v'.i,if xP (yo v.node) then v'.acc else v'.acc ++ [yo v.node]⟩]) := by
 have e := h.done hi; rw [e]
 generalize f : (l ++ [v']) ++ [v] = s at h
 cases h with
 | one i _ =>
  have := congrArg List.length f
  simp at this
 | more l' t i u j h hu hj =>
  obtain ⟨g,rfl⟩ := uR f; obtain ⟨rfl,rfl⟩ := uR g
  have k : i < t.subs.length := by
   rcases Nat.lt_or_ge i t.subs.length with b | b
   ·exact b
   ·rw [List.getElem?_eq_none b] at hu; cases hu
  have m := qi hu
  have n : (if xP (yh u) = true then ym (t.subs.take i) else ym (t.subs.take i) ++ [yh u]) = ym (t.subs.take (i + 1)) := by
   rw [m]
   split <;> simp
  show Stk r (l ++ [⟨t,i + 1,if xP (yh u) = true then ym (t.subs.take i) else ym (t.subs.take i) ++ [yh u]⟩])
  rw [n]
  generalize a : l ++ [(⟨t,i,ym (t.subs.take i)⟩ : Lv)] = s2 at h
  cases h with
  | one i' h' =>
   obtain ⟨rfl,d⟩ := uR (show l ++ [_] = [] ++ [_] from a); cases d
   exact Stk.one (i + 1) (by omega)
  | more l2 t2 i2 u2 j2 h2 hu2 hj2 =>
   obtain ⟨rfl,d⟩ := uR a; cases d
   exact Stk.more l2 t2 i2 t (i + 1) h2 hu2 (by omega)
def Lv.left (v : Lv) : Nat := 1 + 2 * zx (v.t.subs.drop v.i)
def xG : List Lv -> Nat
 | [] => 0
 | v :: l => v.left + xG l
theorem xL (l m : List Lv) : xG (l ++ m) = xG l + xG m := by
 induction l with
 | nil => simp [xG]
 | cons v l ih => simp [xG,ih]; omega
theorem rL {l : List Lv} {t u : T} {i : Nat} {acc : List T} (hu : t.subs[i]? = some u) : xG ((l ++ [⟨t,i + 1,acc⟩]) ++ [⟨u,0,[]⟩]) < xG (l ++ [⟨t,i,acc⟩]) := by
 have d : t.subs.drop i = u :: t.subs.drop (i + 1) := by
  have a : i < t.subs.length := by
   rcases Nat.lt_or_ge i t.subs.length with b | b
   ·exact b
   ·rw [List.getElem?_eq_none b] at hu; cases hu
  rw [List.drop_eq_getElem_cons a]; rw [List.getElem?_eq_getElem a] at hu; cases hu
  rfl
 have f : zn u = 1 + zx u.subs := by obtain ⟨_,_,_,_,_⟩ := u; rw [zn]; rfl
 rw [xL,xL,xL]; simp only [xG,Lv.left]; rw [d,zx,List.drop_zero]
 omega
theorem hM {l : List Lv} {v v' : Lv} {a : List T} : xG (l ++ [⟨v'.t,v'.i,a⟩]) < xG ((l ++ [v']) ++ [v]) := by
 rw [xL,xL,xL]; simp only [xG,Lv.left]
 omega
theorem Stk.all {r : T} {l : List Lv} (h : Stk r l) {P : T -> Prop} (hr : P r) (hs : ∀ t u,P t -> u ∈ t.subs -> P u) : ∀ v ∈ l,P v.t := by
 induction h with
 | one i hi => intro v a; rw [List.mem_singleton] at a; subst a; exact hr
 | more l t i u j h hu hj ih =>
  intro v a
  rcases List.mem_append.1 a with a | a
  ·rcases List.mem_append.1 a with a | a
   ·exact ih v (List.mem_append.2 (Or.inl a))
   ·rw [List.mem_singleton] at a
    subst a
    exact ih ⟨t,i,ym (t.subs.take i)⟩ (List.mem_append.2 (Or.inr (List.mem_singleton.2 rfl)))
  ·rw [List.mem_singleton] at a
   subst a
   exact hs t u (ih ⟨t,i,ym (t.subs.take i)⟩ (List.mem_append.2 (Or.inr (List.mem_singleton.2 rfl)))) (List.mem_of_getElem? hu)
theorem Stk.gt {r : T} {l : List Lv} (h : Stk r l) (hr : GT r) : ∀ v ∈ l,GT v.t := h.all hr (fun _ _ h1 h2 => h1.sub h2)
theorem Stk.gtNode {r : T} {l : List Lv} {v : Lv} (h : Stk r (l ++ [v])) (hr : GT r) (hi : v.i = v.t.subs.length) : GT v.node := by
 have g := h.gt hr v (by simp); obtain ⟨t,_,_⟩ := v; obtain ⟨a,_⟩ := h.top; simp only at a hi g; subst a hi
 show GT (.mk t.kind t.name t.num t.at' (ym (t.subs.take t.subs.length)))
 rw [List.take_length]
 exact (fg g).1
end Go.Proofs.YtifapidjkelnfaaGreatDoor
