/- Acts one behind the other; zcx of them. -/
import Derived.Test.YtfjgelmllcnokaaGreatDoorG18
import Derived.Test.YtfjgelmllcnokaaGreatDoorG04
import Derived.Test.YtfjgelmllcnokaaGreatDoorG13
namespace Go.Proofs.YtfjgelmllcnokaaGreatDoor
open Go.RowKit
theorem tG {A : ByteArray} {b : List UInt8} (h : A = ⟨b.toArray⟩) : Value.string A = .string ⟨b.toArray⟩ := by rw [h]
theorem zc5 {x y : W8} (hx : St1 x) (hy : St1 y) : St1 (x ++ ([59,32] ++ y)) :=
 (Sz.join hx (Sz.join (vt (fe := true) (bs := true) (a := 12) (b := 0) (c := [59,32]) (by decide)) hy rfl) rfl).fin (by omega)
set_option maxHeartbeats 4000000 in
theorem dI {w0 : World} {b : Nat} {lv : Value} (hr : RawV w0 b lv) {d N K : Nat} (hN : N <= 100000) (hK : K <= 9000) (H : Ac w0 b lv d N K) : As1 w0 b lv d (3 * N + 10) (3 * K + 1) := by
 intro w k h hk; have I := za h; have J : Hid (w.grownBy w (some b)) := zl w _; clear h; have j := za H; clear H; have L := za hr; clear hr
 go_enter Tryz.func11,Tryz.ntmps11
 go_wp2_with fail; go_at_call 23; refine (j.out _ _ I.out (by omega)).mono ?_; rintro e l ⟨M,m,rfl,n,l1,O,o,s⟩; have R := za n; have U := za o; have V : Hid (w.grownBy l (some b)) := zb J.out s; clear o s n; go_wp2_with fail; go_at_call 24; refine (gj L.out l m 3 U.out (by omega) (by omega) (by omega)).mono ?_; rintro e X ⟨⟨r,Y,rfl⟩,t,u⟩; have Z := za t; have G2 : Hid (w.grownBy X (some b)) := zb V.out u; clear t u; go_wp2_with fail
 go_loopw [5,6] (fun tv iv wr => ∃ (i f : Nat) (x : W8),i <= 2 /\ iv = .int .i64 ↑i /\ tv = .string ⟨x.toArray⟩ /\ Hid (St1 x) /\ (i = 2 -> x.length <= N /\ f <= k + K + 1) /\ (i = 1 -> x.length <= 2 * N + 2 /\ f <= k + 2 * K + 1) /\ (i = 0 -> x.length <= 3 * N + 4 /\ f <= k + 3 * K + 1) /\ Hid (Src w0 b lv wr f) /\ Hid (w.grownBy wr (some b))) (fun _ iv _ => (intOf iv).toNat)
 case atStart => exact ⟨r,m + 1,M,by omega,rfl,rfl,R,by omega,by omega,by omega,Z,G2⟩
 case round =>
  obtain ⟨i,f,x,_,rfl,rfl,v,b2,b1,y,z,A⟩ := hrel
  have hx : x.length <= 300010 := by omega
  by_cases a0 : 0 < i
  ·have g : f + K <= 90000 := by omega
   go_wp2_with fail; go_at_call 23; refine (j.out _ _ z.out g).mono ?_; rintro e w3 ⟨x3,k3,rfl,B,l3,a1,C,D⟩; have Q3 := za B; have S3 := za C; have G3 : Hid (w.grownBy w3 (some b)) := zb A.out D; clear C D B; go_wp2_with fail; refine ⟨⟨i - 1,k3,x ++ ([59,32] ++ x3),by omega,by go_num,tG (by simp only [xg,List.append_assoc]),zc5 v.out Q3.out,?_,?_,?_,S3,G3⟩,by simp [intOf]; omega⟩
   all_goals (intro h9; simp only [la,lc,ln]; omega)
  ·have E : i = 0 := by omega
   have F := za (y E); clear y b1 b2; subst E; go_wp2_with fail
   go_ret
   exact ⟨x,f,rfl,v.out,by have := F.out; omega,by have := F.out; omega,z.out,A.out⟩
structure Lev (w0 : World) (b : Nat) (lv : Value) : Prop where
 one : As1 w0 b lv 1 6370 610
 two : As1 w0 b lv 2 39130 5551
theorem zcx {w0 : World} {b : Nat} {lv : Value} (hr : RawV w0 b lv) : Lev w0 b lv := by
 have l := oZ hr; have f : Wh w0 b lv 1 1 50 3 := tT hr (by omega) (by omega) (by omega) (by omega) (by omega) (by omega) l; have i : Wh w0 b lv 2 3 130 7 := tT hr (by omega) (by omega) (by omega) (by omega) (by omega) (by omega) f; have n := bf hr; have g : Tr w0 b lv 1 3 50 4 := sZ hr (by omega) (by omega) (by omega) (by omega) (by omega) (by omega) (by omega) (by omega) (by omega) (by omega) n l; have j : Tr w0 b lv 2 7 130 10 := sZ hr (by omega) (by omega) (by omega) (by omega) (by omega) (by omega) (by omega) (by omega) (by omega) (by omega) g f; have o : Ac w0 b lv 0 300 20 := rg hr f i g j (d := 0) (N := 0) (K := 0) (by omega) (by omega) (by omega) (fun e h => by cases h); have r : As1 w0 b lv 0 910 61 := dI hr (by omega) (by omega) o; have s : Ac w0 b lv 1 2120 203 := rg hr f i g j (d := 1) (N := 910) (K := 61) (by omega) (by omega) (by omega) (fun e h => by cases h; exact r); have m : As1 w0 b lv 1 6370 610 := dI hr (by omega) (by omega) s; have t : Ac w0 b lv 2 13040 1850 := rg hr f i g j (d := 2) (N := 6370) (K := 610) (by omega) (by omega) (by omega) (fun e h => by cases h; exact m)
 exact ⟨m,dI hr (by omega) (by omega) t⟩
end Go.Proofs.YtfjgelmllcnokaaGreatDoor
