/- An expression of a whole number,made of raw numbers. -/
import Derived.Test.YtfjgelmllcnokaaGreatDoorG15
import Derived.Test.YtfjgelmllcnokaaGreatDoorG04
namespace Go.Proofs.YtfjgelmllcnokaaGreatDoor
open Go.RowKit
set_option maxHeartbeats 4000000
set_option maxRecDepth 1000000
def Li (w0 : World) (b : Nat) (lv : Value) : Prop := ∀ (w : World) (k : Nat) (d : Int),Src w0 b lv w k -> k + 1 <= 90000 -> Calls Tryz.prog 99 #[sp b,.int .i64 d] w (Made w0 b lv w k 10 1 (Ex 0))
theorem oa {w0 : World} {b : Nat} {lv : Value} (hr : RawV w0 b lv) : Li w0 b lv := by
 intro w k d h A; have o := za h; have r : Hid (w.grownBy w (some b)) := zl w _; clear h
 go_enter Tryz.func99,Tryz.ntmps99
 go_wp2_with fail; go_at_call 51; refine (vD hr o.out (by omega) [[112],[113],[78,73,76],[76,105,98,46,104,101,97,100],[109],[114,46,108],[113],[112]] _ _ rfl (by decide) (by decide)).mono ?_; rintro e s ⟨f,t,rfl,i,u,j,l⟩; have m := za i; have v := za j; have x : Hid (w.grownBy s (some b)) := zb r.out l; clear j l i
 have g : Ex 0 f /\ f.length <= 8 := by
  have n : ∀ y ∈ ([[112],[113],[78,73,76],[76,105,98,46,104,101,97,100],[109],[114,46,108],[113],[112]] : List W8),(kO false 0 y && hdC false y) = true /\ y.length <= 8 := by decide
  exact ⟨vh (n _ m.out).1,(n _ m.out).2⟩
 have z := za g.1; have B := g.2; clear g; go_wp2_with fail
 go_ret
 refine ⟨f,t,rfl,(z.out).fin (by omega),?_,by omega,v.out,x.out⟩
 omega
theorem tT {w0 : World} {b : Nat} {lv : Value} (hr : RawV w0 b lv) {d n N K : Nat} (hn : n <= 8) (hN : N <= 1000) (hN0 : 10 <= N) (hK : K <= 100) (hK1 : 1 <= K) (hd : d <= 10) (H : Wh w0 b lv d n N K) : Wh w0 b lv (d + 1) (2 * n + 1) (2 * N + 30) (2 * K + 1) := by
 intro w k h hk; have S0 := za h; have G0 : Hid (w.grownBy w (some b)) := zl w _; clear h; have Z := za (oZ hr); have V := za H; have HL := za (oa hr); have HN := za (gj hr w k 12 S0.out (by omega) (by omega) (by omega)); clear H
 have a0 : ((d + 1 : Nat) : Int) = (d : Int) + 1 := by omega
 rw [a0]; clear a0
 go_enter Tryz.func52,Tryz.ntmps52
 go_wp2_with fail; go_at_call 24; refine HN.out.mono ?_; rintro e w1 ⟨⟨r,a1,rfl⟩,s1,g1⟩; have B := za s1; have C : Hid (w.grownBy w1 (some b)) := g1; obtain ⟨k1,a2⟩ : ∃ k1,k1 = k + 1 := ⟨_,rfl⟩; rw [<- a2] at B; clear s1 g1 HN
 have a3 : r = 0 \/ r = 1 \/ r = 2 \/ r = 3 \/ r = 4 \/ r = 5 \/ r = 6 \/ r = 7 \/ r = 8 \/ r = 9 \/ r = 10 \/ r = 11 := by omega
 clear a1
 rcases a3 with rfl | rfl | rfl | rfl | rfl | rfl | rfl | rfl | rfl | rfl | rfl | rfl
 ·go_wp2_with fail
  go_at_call 52; refine (V.out _ _ B.out (by omega)).mono ?_; rintro e l ⟨i,t,rfl,j,O,m,f,g⟩; have u := za j; have o := za f; have s : Hid (w.grownBy l (some b)) := zb C.out g; clear f g j; go_wp2_with fail; go_at_call 52; refine (Z.out _ _ o.out (by omega)).mono ?_; rintro e D ⟨z,E,rfl,F,l3,I,v,x⟩; have X := za F; have J := za v; have L : Hid (w.grownBy D (some b)) := zb s.out x; clear v x F; go_wp2_with fail
  go_ret
  refine ⟨(i ++ ([32,43,32] ++ z)),E,yV (by simp only [xg,List.append_assoc]),((Ey.join u.out (Ey.join (vh (fe := true) (bs := true) (k := 1) (c := [32,43,32]) (by decide)) X.out rfl) rfl)).fin (by omega),?_,by omega,J.out,L.out⟩; simp only [la,lc,ln]; omega
 ·go_wp2_with fail
  go_at_call 52; refine (V.out _ _ B.out (by omega)).mono ?_; rintro e l ⟨i,t,rfl,j,O,m,f,g⟩; have u := za j; have o := za f; have s : Hid (w.grownBy l (some b)) := zb C.out g; clear f g j; go_wp2_with fail; go_at_call 52; refine (Z.out _ _ o.out (by omega)).mono ?_; rintro e D ⟨z,E,rfl,F,l3,I,v,x⟩; have X := za F; have J := za v; have L : Hid (w.grownBy D (some b)) := zb s.out x; clear v x F; go_wp2_with fail
  go_ret
  refine ⟨(i ++ ([32,43,32] ++ z)),E,yV (by simp only [xg,List.append_assoc]),((Ey.join u.out (Ey.join (vh (fe := true) (bs := true) (k := 1) (c := [32,43,32]) (by decide)) X.out rfl) rfl)).fin (by omega),?_,by omega,J.out,L.out⟩; simp only [la,lc,ln]; omega
 ·go_wp2_with fail
  go_at_call 52; refine (V.out _ _ B.out (by omega)).mono ?_; rintro e l ⟨i,t,rfl,j,O,m,f,g⟩; have u := za j; have o := za f; have s : Hid (w.grownBy l (some b)) := zb C.out g; clear f g j; go_wp2_with fail; go_at_call 52; refine (V.out _ _ o.out (by omega)).mono ?_; rintro e D ⟨z,E,rfl,F,l3,I,v,x⟩; have X := za F; have J := za v; have L : Hid (w.grownBy D (some b)) := zb s.out x; clear v x F; go_wp2_with fail
  go_ret
  refine ⟨([40] ++ (i ++ ([32,45,32] ++ (z ++ [41])))),E,yV (by simp only [xg,List.append_assoc]),((Ey.join (vh (fe := true) (bs := true) (k := 0) (c := [40]) (by decide)) (Ey.join u.out (Ey.join (vh (fe := true) (bs := true) (k := 1) (c := [32,45,32]) (by decide)) (Ey.join X.out (vh (fe := true) (bs := true) (k := 0) (c := [41]) (by decide)) rfl) rfl) rfl) rfl)).fin (by omega),?_,by omega,J.out,L.out⟩; simp only [la,lc,ln]; omega
 ·go_wp2_with fail
  go_at_call 52; refine (V.out _ _ B.out (by omega)).mono ?_; rintro e l ⟨i,t,rfl,j,O,m,f,g⟩; have u := za j; have o := za f; have s : Hid (w.grownBy l (some b)) := zb C.out g; clear f g j; go_wp2_with fail; go_at_call 52; refine (Z.out _ _ o.out (by omega)).mono ?_; rintro e D ⟨z,E,rfl,F,l3,I,v,x⟩; have X := za F; have J := za v; have L : Hid (w.grownBy D (some b)) := zb s.out x; clear v x F; go_wp2_with fail
  go_ret
  refine ⟨([40] ++ (i ++ ([32,42,32] ++ (z ++ [41])))),E,yV (by simp only [xg,List.append_assoc]),((Ey.join (vh (fe := true) (bs := true) (k := 0) (c := [40]) (by decide)) (Ey.join u.out (Ey.join (vh (fe := true) (bs := true) (k := 1) (c := [32,42,32]) (by decide)) (Ey.join X.out (vh (fe := true) (bs := true) (k := 0) (c := [41]) (by decide)) rfl) rfl) rfl) rfl)).fin (by omega),?_,by omega,J.out,L.out⟩; simp only [la,lc,ln]; omega
 ·go_wp2_with fail
  go_at_call 52; refine (V.out _ _ B.out (by omega)).mono ?_; rintro e l ⟨i,t,rfl,j,O,m,f,g⟩; have u := za j; have o := za f; have s : Hid (w.grownBy l (some b)) := zb C.out g; clear f g j; go_wp2_with fail; go_at_call 51; refine (vD hr o.out (by omega) [[50],[51],[105],[48]] _ _ rfl (by decide) (by decide)).mono ?_; rintro e D ⟨z,E,rfl,m3,I,v,x⟩; have M3 := za m3; have J := za v; have L : Hid (w.grownBy D (some b)) := zb s.out x; clear v x m3
  have Y : Ex 0 z /\ z.length <= 1 := by
   have A : ∀ y ∈ ([[50],[51],[105],[48]] : List W8),(kO false 0 y && hdC false y) = true /\ y.length <= 1 := by decide
   exact ⟨vh (A _ M3.out).1,(A _ M3.out).2⟩
  have E3 := za Y.1; have L3 := Y.2; clear Y; go_wp2_with fail
  go_ret
  refine ⟨([40] ++ (i ++ ([41,32,68,73,86,32] ++ z))),E,yV (by simp only [xg,List.append_assoc]),((Ey.join (vh (fe := true) (bs := true) (k := 0) (c := [40]) (by decide)) (Ey.join u.out (Ey.join (vh (fe := true) (bs := true) (k := 1) (c := [41,32,68,73,86,32]) (by decide)) E3.out rfl) rfl) rfl)).fin (by omega),?_,by omega,J.out,L.out⟩; simp only [la,lc,ln]; omega
 ·go_wp2_with fail
  go_at_call 52; refine (V.out _ _ B.out (by omega)).mono ?_; rintro e l ⟨i,t,rfl,j,O,m,f,g⟩; have u := za j; have o := za f; have s : Hid (w.grownBy l (some b)) := zb C.out g; clear f g j; go_wp2_with fail; go_at_call 51; refine (vD hr o.out (by omega) [[52],[51],[55],[106]] _ _ rfl (by decide) (by decide)).mono ?_; rintro e D ⟨z,E,rfl,m3,I,v,x⟩; have M3 := za m3; have J := za v; have L : Hid (w.grownBy D (some b)) := zb s.out x; clear v x m3
  have Y : Ex 0 z /\ z.length <= 1 := by
   have A : ∀ y ∈ ([[52],[51],[55],[106]] : List W8),(kO false 0 y && hdC false y) = true /\ y.length <= 1 := by decide
   exact ⟨vh (A _ M3.out).1,(A _ M3.out).2⟩
  have E3 := za Y.1; have L3 := Y.2; clear Y; go_wp2_with fail
  go_ret
  refine ⟨([40] ++ (i ++ ([41,32,77,79,68,32] ++ z))),E,yV (by simp only [xg,List.append_assoc]),((Ey.join (vh (fe := true) (bs := true) (k := 0) (c := [40]) (by decide)) (Ey.join u.out (Ey.join (vh (fe := true) (bs := true) (k := 1) (c := [41,32,77,79,68,32]) (by decide)) E3.out rfl) rfl) rfl)).fin (by omega),?_,by omega,J.out,L.out⟩; simp only [la,lc,ln]; omega
 ·go_wp2_with fail
  go_at_call 99; refine (HL.out _ _ _ B.out (by omega)).mono ?_; rintro e l ⟨i,t,rfl,j,O,m,f,g⟩; have u := za j; have o := za f; have s : Hid (w.grownBy l (some b)) := zb C.out g; clear f g j; go_wp2_with fail
  go_ret
  refine ⟨([76,105,98,46,83,117,109,40] ++ (i ++ [41])),t,yV (by simp only [xg,List.append_assoc]),((Ey.join (vh (fe := true) (bs := false) (k := 0) (c := [76,105,98,46,83,117,109,40]) (by decide)) (Ey.join u.out (vh (fe := true) (bs := true) (k := 0) (c := [41]) (by decide)) rfl) rfl)).fin (by omega),?_,by omega,o.out,s.out⟩; simp only [la,lc,ln]; omega
 ·go_wp2_with fail
  go_at_call 51; refine (vD hr B.out (by omega) [[51],[53],[105,32,77,79,68,32,54],[55]] _ _ rfl (by decide) (by decide)).mono ?_; rintro e l ⟨i,t,rfl,R,m,f,g⟩; have U := za R; have o := za f; have s : Hid (w.grownBy l (some b)) := zb C.out g; clear f g R
  have M : Ex 1 i /\ i.length <= 7 := by
   have A : ∀ y ∈ ([[51],[53],[105,32,77,79,68,32,54],[55]] : List W8),(kO false 1 y && hdC false y) = true /\ y.length <= 7 := by decide
   exact ⟨vh (A _ U.out).1,(A _ U.out).2⟩
  have E2 := za M.1; have L2 := M.2; clear M; go_wp2_with fail
  go_ret
  refine ⟨([70,105,98,40] ++ (i ++ [41])),t,yV (by simp only [xg,List.append_assoc]),((Ey.join (vh (fe := true) (bs := false) (k := 0) (c := [70,105,98,40]) (by decide)) (Ey.join E2.out (vh (fe := true) (bs := true) (k := 0) (c := [41]) (by decide)) rfl) rfl)).fin (by omega),?_,by omega,o.out,s.out⟩; simp only [la,lc,ln]; omega
 ·go_wp2_with fail
  go_at_call 51; refine (vD hr B.out (by omega) [[48],[51],[105],[105,32,77,79,68,32,52],[52]] _ _ rfl (by decide) (by decide)).mono ?_; rintro e l ⟨i,t,rfl,R,m,f,g⟩; have U := za R; have o := za f; have s : Hid (w.grownBy l (some b)) := zb C.out g; clear f g R
  have M : Ex 1 i /\ i.length <= 7 := by
   have A : ∀ y ∈ ([[48],[51],[105],[105,32,77,79,68,32,52],[52]] : List W8),(kO false 1 y && hdC false y) = true /\ y.length <= 7 := by decide
   exact ⟨vh (A _ U.out).1,(A _ U.out).2⟩
  have E2 := za M.1; have L2 := M.2; clear M; go_wp2_with fail
  go_ret
  refine ⟨([97,91] ++ (i ++ [93])),t,yV (by simp only [xg,List.append_assoc]),((Ey.join (vh (fe := true) (bs := false) (k := 0) (c := [97,91]) (by decide)) (Ey.join E2.out (vh (fe := true) (bs := true) (k := 0) (c := [93]) (by decide)) rfl) rfl)).fin (by omega),?_,by omega,o.out,s.out⟩; simp only [la,lc,ln]; omega
 ·go_wp2_with fail
  go_at_call 51; refine (vD hr B.out (by omega) [[112,46,118,97,108],[113,46,110,101,120,116,46,118,97,108],[109,46,109,111,114,101],[113,123,76,105,98,46,66,105,103,76,105,115,116,125,46,109,111,114,101],[114,46,97,91,50,93],[114,46,108,46,118,97,108]] _ _ rfl (by decide) (by decide)).mono ?_; rintro e l ⟨i,t,rfl,R,m,f,g⟩; have U := za R; have o := za f; have s : Hid (w.grownBy l (some b)) := zb C.out g; clear f g R
  have M : Ex 0 i /\ i.length <= 19 := by
   have A : ∀ y ∈ ([[112,46,118,97,108],[113,46,110,101,120,116,46,118,97,108],[109,46,109,111,114,101],[113,123,76,105,98,46,66,105,103,76,105,115,116,125,46,109,111,114,101],[114,46,97,91,50,93],[114,46,108,46,118,97,108]] : List W8),(kO false 0 y && hdC false y) = true /\ y.length <= 19 := by decide
   exact ⟨vh (A _ U.out).1,(A _ U.out).2⟩
  have E2 := za M.1; have L2 := M.2; clear M; go_wp2_with fail
  go_ret
  refine ⟨i,t,rfl,(E2.out).fin (by omega),?_,by omega,o.out,s.out⟩
  omega
 ·go_wp2_with fail
  go_at_call 52; refine (Z.out _ _ B.out (by omega)).mono ?_; rintro e l ⟨i,t,rfl,j,O,m,f,g⟩; have u := za j; have o := za f; have s : Hid (w.grownBy l (some b)) := zb C.out g; clear f g j; go_wp2_with fail
  go_ret
  refine ⟨([40,45] ++ (i ++ [41])),t,yV (by simp only [xg,List.append_assoc]),((Ey.join (vh (fe := true) (bs := true) (k := 1) (c := [40,45]) (by decide)) (Ey.join u.out (vh (fe := true) (bs := true) (k := 0) (c := [41]) (by decide)) rfl) rfl)).fin (by omega),?_,by omega,o.out,s.out⟩; simp only [la,lc,ln]; omega
 ·go_wp2_with fail
  go_at_call 52; refine (Z.out _ _ B.out (by omega)).mono ?_; rintro e l ⟨i,t,rfl,j,O,m,f,g⟩; have u := za j; have o := za f; have s : Hid (w.grownBy l (some b)) := zb C.out g; clear f g j; go_wp2_with fail
  go_ret
  refine ⟨i,t,rfl,(u.out).fin (by omega),?_,by omega,o.out,s.out⟩
  omega
end Go.Proofs.YtfjgelmllcnokaaGreatDoor
