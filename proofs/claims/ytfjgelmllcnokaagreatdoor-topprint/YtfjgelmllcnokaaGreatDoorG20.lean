/- The texts that are made of raw numbers: they have words,and no stretch of them has more than fg operators. -/
import Derived.Test.YtfjgelmllcnokaaGreatDoorG19
import Derived.Test.YtfjgelmllcnokaaGreatDoorG04
namespace Go.Proofs.YtfjgelmllcnokaaGreatDoor
open Go.RowKit
set_option maxHeartbeats 4000000
set_option maxRecDepth 1000000
def MT (v : Value) : Prop := ∃ x : W8,v = .string ⟨x.toArray⟩ /\ Gd x 20 /\ x.length <= 100000
theorem zio {A : ByteArray} (h : (chk false 0 20 A.data.toList && Nat.ble A.data.toList.length 100000) = true) : MT (.string A) := by
 rw [Bool.and_eq_true] at h
 exact ⟨A.data.toList,rfl,(zb0 h.1).end',Nat.le_of_ble_eq_true h.2⟩
theorem pQ (n : Nat) (hn : n < 10) (w : World) : Calls Tryz.prog 10 #[.int .i64 n] w (Sy w (.string ⟨#[UInt8.ofNat (48 + n)]⟩)) := by
 have := zes n (by omega) w; rwa [jz hn] at this
theorem lp (h : Int) (w : World) (h1 : -9223372036854775808 <= h) (h2 : h <= 9223372036854775807) :
  Calls Tryz.prog 12 #[.int .i64 h] w fun e w' => ∃ v,e = .returned v /\ MT v /\ w.grownBy w' none := by
 have b := za (hO h 5 w h1 h2 (by omega) (by omega)); have d := kh (c := h) (n := 5) (by omega)
 generalize kI h 5 = q at b d
 obtain ⟨n,rfl⟩ := Int.eq_ofNat_of_zero_le d.1
 have l : n < 5 := by omega
 have f := za (pQ n (by omega) w); clear d
 go_enter Tryz.func12,Tryz.ntmps12
 go_wp2_with fail; go_at_call 5; refine b.out.mono ?_; rintro e m ⟨rfl,rfl⟩; go_wp2_with fail; go_at_call 10; refine f.out.mono ?_; rintro e o ⟨rfl,g⟩; have i := za g; clear g b f; go_wp2_with fail
 go_ret
 have j : n = 0 \/ n = 1 \/ n = 2 \/ n = 3 \/ n = 4 := by omega
 rcases j with rfl | rfl | rfl | rfl | rfl
 all_goals exact ⟨_,rfl,zio (by kernel_rfl),i.out⟩
theorem zg7 {w w' : World} {b : Nat} (h : w.grownBy w' (some b)) (hb : w.heap.size <= b) : w.grownBy w' none :=
 ⟨h.os,h.tape,h.output,h.size,fun i hi _ => h.block i hi (by simp; omega)⟩
theorem bj {w w' : World} (h : w.grownBy w' none) (b : Nat) : w.grownBy w' (some b) := ⟨h.os,h.tape,h.output,h.size,fun i hi _ => h.block i hi (by simp)⟩
theorem kU {w w1 w2 : World} (h : w.grownBy w1 none) (h2 : w1.grownBy w2 (some w.heap.size)) : w.grownBy w2 none := zg7 (zb (bj h _) h2) (Nat.le_refl _)
theorem pV {c : W8} {x y e : W8} (hc : (chk true 12 1 c && hdC false c) = true) (hx : St1 x) (hy : St1 y) (he : (chk true 1 0 e && hdC true e) = true) : Sz true false 1 1 (c ++ (x ++ ([59,32] ++ (y ++ e)))) :=
 Sz.join (vt hc) (Sz.join hx (Sz.join (vt (fe := true) (bs := true) (a := 12) (b := 0) (c := [59,32]) (by decide)) (Sz.join hy (vt he) rfl) rfl) rfl) rfl
theorem Src.kept {w0 : World} {b : Nat} {lv : Value} {w w' : World} {k : Nat} (h : Src w0 b lv w k) (hg : w.grownBy w' none) : Src w0 b lv w' k :=
 ⟨zb h.gb (bj hg b),yI hg h.c0,yI hg h.c1,fun o => yY hg (a := ⟨b,o,none⟩) (show b < w.heap.size from World.block_lt_of_cell? w _ h.c0) (h.fz o) (by simp),h.le⟩
theorem zad (w : World) (lv : Value) (k : Nat) (t : Nat) (hk : k <= 90000) : Src (w.alloc (.cells #[lv,.int .i64 k] t)) w.heap.size lv (w.alloc (.cells #[lv,.int .i64 k] t)) k :=
 ⟨zl _ _,by rw [World.cell?_alloc_at _ _ _ _ rfl]; rfl,by rw [World.cell?_alloc_at _ _ _ _ rfl]; rfl,fun o => World.frozen?_alloc_at _ _ _ _ rfl,hk⟩
theorem aJ (a : Option Addr) (n c k : Nat) (h : Int) (w : World) (hk : k <= 100) (h1 : -9223372036854775808 <= h) (h2 : h <= 9223372036854775807) (hr : RawV (w.alloc (.cells #[.slice a n c,.int .i64 k] 42)) w.heap.size (.slice a n c)) :
  Calls Tryz.prog 4 #[.slice a n c,.int .i64 k,.int .i64 h] w fun e w' => ∃ g v0 v1,e = .returned (.slice (some ⟨g,0,none⟩) 2 2) /\ w'.cell? ⟨g,0,none⟩ = some v0 /\ w'.cell? ⟨g,1,none⟩ = some v1 /\ MT v0 /\ MT v1 /\ w.grownBy w' none := by
 have l := za (zcx hr); have S0 := za (zad w (.slice a n c) k 42 (by omega)); have HL := za (fun w' => lp h w' h1 h2); have A := za (fun (n : Nat) (hn : n < 10) w' => pQ n hn w'); have a1 : w.heap.size < (w.alloc (.cells #[.slice a n c,.int .i64 k] 42)).heap.size := World.block_lt_of_cell? _ _ S0.out.c0; clear hr
 go_enter Tryz.func4,Tryz.ntmps4
 go_wp2_with fail
 go_loopw [8,9] (fun tv iv wr => ∃ (i B : Nat) (Y : W8),i <= 2 /\ iv = .int .i64 ↑i /\ tv = .string ⟨Y.toArray⟩ /\ Hid (Pz true 1 1 Y) /\ Y.length <= 1000 + i * 46000 /\ B <= k + i * 6200 /\ Hid (Src (w.alloc (.cells #[.slice a n c,.int .i64 k] 42)) w.heap.size (.slice a n c) wr B) /\ Hid (w.grownBy wr none)) (fun _ iv _ => 2 - (intOf iv).toNat)
 case atStart => exact ⟨0,k,_,by omega,rfl,rfl,zb0 (by kernel_rfl),Nat.le_of_ble_eq_true (by kernel_rfl),by omega,S0,zf grn _⟩
 case round =>
  obtain ⟨i,B,Y,_,rfl,rfl,C,_,_,D,E⟩ := hrel
  have a2 : Y.length <= 93000 := by omega
  by_cases a3 : i < 2
  ·have F : i = 0 \/ i = 1 := by omega
   rcases F with rfl | rfl
   ·go_wp2_with fail
    go_at_call 10; refine (A.out 0 (by omega) _).mono ?_; rintro e H ⟨rfl,d⟩; have I := za (D.out.kept d); have m := za (zb E.out d); clear d; go_wp2_with fail; go_at_call 11; refine (l.out.two _ _ I.out (by omega)).mono ?_; rintro e o ⟨J,k2,rfl,r,l2,K,s,f⟩; have L := za r; have M := za s; have t : Hid (w.grownBy o none) := kU m.out f; clear s f r; go_wp2_with fail; go_at_call 11; refine (l.out.one _ _ M.out (by omega)).mono ?_; rintro e N ⟨O,R,rfl,u,l3,U,x,z⟩; have V := za u; have X := za x; have Z : Hid (w.grownBy N none) := kU t.out z; clear x z u; go_wp2_with fail; go_at_call 10; refine (A.out 0 (by omega) _).mono ?_; rintro e w4 ⟨rfl,j⟩; have S4 := za (X.out.kept j); have G4 := za (zb Z.out j); clear j; go_wp2_with fail; refine ⟨⟨1,R,Y ++ ([80,82,79,67,69,68,85,82,69,32,68,111,48,42,59,10,86,65,82,32,107,58,32,73,78,84,69,71,69,82,59,10,66,69,71,73,78,32] ++ (J ++ ([59,32] ++ (O ++ [32,69,78,68,32,68,111,48,59,10])))),by omega,by go_num,tG (by simp [xg,List.append_assoc]),?_,?_,by omega,S4,G4⟩,by simp [intOf]⟩
    ·have := pV (c := [80,82,79,67,69,68,85,82,69,32,68,111,48,42,59,10,86,65,82,32,107,58,32,73,78,84,69,71,69,82,59,10,66,69,71,73,78,32]) (e := [32,69,78,68,32,68,111,48,59,10]) (by decide) L.out V.out (by decide)
     exact C.out.join this.1 this.2 rfl
    ·simp only [la,lc,ln]; omega
   ·go_wp2_with fail
    go_at_call 10; refine (A.out 1 (by omega) _).mono ?_; rintro e H ⟨rfl,d⟩; have I := za (D.out.kept d); have m := za (zb E.out d); clear d; go_wp2_with fail; go_at_call 11; refine (l.out.two _ _ I.out (by omega)).mono ?_; rintro e o ⟨J,k2,rfl,r,l2,K,s,f⟩; have L := za r; have M := za s; have t : Hid (w.grownBy o none) := kU m.out f; clear s f r; go_wp2_with fail; go_at_call 11; refine (l.out.one _ _ M.out (by omega)).mono ?_; rintro e N ⟨O,R,rfl,u,l3,U,x,z⟩; have V := za u; have X := za x; have Z : Hid (w.grownBy N none) := kU t.out z; clear x z u; go_wp2_with fail; go_at_call 10; refine (A.out 1 (by omega) _).mono ?_; rintro e w4 ⟨rfl,j⟩; have S4 := za (X.out.kept j); have G4 := za (zb Z.out j); clear j; go_wp2_with fail; refine ⟨⟨2,R,Y ++ ([80,82,79,67,69,68,85,82,69,32,68,111,49,42,59,10,86,65,82,32,107,58,32,73,78,84,69,71,69,82,59,10,66,69,71,73,78,32] ++ (J ++ ([59,32] ++ (O ++ [32,69,78,68,32,68,111,49,59,10])))),by omega,by go_num,tG (by simp [xg,List.append_assoc]),?_,?_,by omega,S4,G4⟩,by simp [intOf]⟩
    ·have := pV (c := [80,82,79,67,69,68,85,82,69,32,68,111,49,42,59,10,86,65,82,32,107,58,32,73,78,84,69,71,69,82,59,10,66,69,71,73,78,32]) (e := [32,69,78,68,32,68,111,49,59,10]) (by decide) L.out V.out (by decide)
     exact C.out.join this.1 this.2 rfl
    ·simp only [la,lc,ln]; omega
  ·have a0 : i = 2 := by omega
   subst a0; go_wp2_with fail; go_at_call 11; refine (l.out.one _ _ D.out (by omega)).mono ?_; rintro e H ⟨x1,k1,rfl,q1,l1,a4,s1,d⟩; have Q1 := za q1; have m : Hid (w.grownBy H none) := kU E.out d; clear s1 d q1; go_wp2_with fail; go_at_call 12; refine (HL.out _).mono ?_; rintro e o ⟨v,rfl,⟨y,rfl,hy⟩,f⟩; have HY := za hy; have t := za (zb m.out f); clear f hy; go_wp2_with fail
   go_ret
   refine ⟨o.heap.size,.string ⟨y.toArray⟩,_,rfl,?_,by rw [World.cell?_alloc_at _ _ _ _ rfl]; rfl,⟨y,rfl,HY.out⟩,?_,zf t.out _⟩
   ·rw [World.cell?_alloc_at _ _ _ _ rfl]; rfl
   ·refine ⟨Y ++ ([80,82,79,67,69,68,85,82,69,32,83,104,111,119,42,59,10,66,69,71,73,78,32,79,85,84,40,105,41,59,32,79,85,84,40,106,41,59,32,79,85,84,40,76,105,98,46,83,117,109,40,112,41,41,59,32,79,85,84,40,76,105,98,46,99,111,117,110,116,41,32,69,78,68,32,83,104,111,119,59,10,66,69,71,73,78,32] ++ (x1 ++ [32,69,78,68,32,77,97,105,110,46,10])),tG (by simp [xg,List.append_assoc]),?_,?_⟩
    ·have t1 : Sz true false 0 1 ([80,82,79,67,69,68,85,82,69,32,83,104,111,119,42,59,10,66,69,71,73,78,32,79,85,84,40,105,41,59,32,79,85,84,40,106,41,59,32,79,85,84,40,76,105,98,46,83,117,109,40,112,41,41,59,32,79,85,84,40,76,105,98,46,99,111,117,110,116,41,32,69,78,68,32,83,104,111,119,59,10,66,69,71,73,78,32] ++ (x1 ++ [32,69,78,68,32,77,97,105,110,46,10])) := Sz.join (vt (fe := true) (bs := false) (a := 12) (b := 1) (by decide)) (Sz.join Q1.out (vt (fe := true) (bs := true) (a := 0) (b := 0) (by decide)) rfl) rfl
     exact (C.out.join t1.1 t1.2 rfl).end'.mono (by omega)
    ·simp only [la,lc,ln]; omega
end Go.Proofs.YtfjgelmllcnokaaGreatDoor
