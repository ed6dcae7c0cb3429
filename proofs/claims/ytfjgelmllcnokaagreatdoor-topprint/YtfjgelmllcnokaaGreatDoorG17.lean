/- An expression of BOOLEAN,made of raw numbers. -/
import Derived.Test.YtfjgelmllcnokaaGreatDoorG16
import Derived.Test.YtfjgelmllcnokaaGreatDoorG04
namespace Go.Proofs.YtfjgelmllcnokaaGreatDoor
open Go.RowKit
set_option maxHeartbeats 4000000
set_option maxRecDepth 1000000
def Tr (w0 : World) (b : Nat) (lv : Value) (d n N K : Nat) : Prop := ∀ (w : World) (k : Nat),Src w0 b lv w k -> k + K <= 90000 -> Calls Tryz.prog 53 #[sp b,.int .i64 d] w (Made w0 b lv w k N K (Ex n))
theorem bf {w0 : World} {b : Nat} {lv : Value} (hr : RawV w0 b lv) : Tr w0 b lv 0 1 10 1 := by
 intro w k h z; have n := za h; have o : Hid (w.grownBy w (some b)) := zl w _; clear h
 go_enter Tryz.func53,Tryz.ntmps53
 go_wp2_with fail; go_at_call 51; refine (vD hr n.out (by omega) [[98],[84,82,85,69],[126,98],[105,32,61,32,106],[112,32,35,32,78,73,76],[70,65,76,83,69]] _ _ rfl (by decide) (by decide)).mono ?_; rintro e r ⟨d,s,rfl,g,t,i,j⟩; have l := za g; have u := za i; have v : Hid (w.grownBy r (some b)) := zb o.out j; clear i j g
 have f : Ey false false 1 d /\ d.length <= 7 := by
  have m : ∀ y ∈ ([[98],[84,82,85,69],[126,98],[105,32,61,32,106],[112,32,35,32,78,73,76],[70,65,76,83,69]] : List W8),(kO false 1 y && hdC false y) = true /\ y.length <= 7 := by decide
  exact ⟨vh (m _ l.out).1,(m _ l.out).2⟩
 have x := za f.1; have A := f.2; clear f; go_wp2_with fail
 go_ret
 refine ⟨d,s,rfl,(x.out).fin (by omega),?_,by omega,u.out,v.out⟩
 omega
theorem sZ {w0 : World} {b : Nat} {lv : Value} (hr : RawV w0 b lv) {d n N K m M J : Nat} (hn : n <= 8) (hn1 : 1 <= n) (hN : N <= 1000) (hN0 : 10 <= N) (hK : K <= 100) (hK1 : 1 <= K) (hd : d <= 10) (hm : m <= 2 * n) (hM : M <= 2 * N) (hJ : J <= 2 * K - 1) (H : Tr w0 b lv d n N K) (HW : Wh w0 b lv d m M J) : Tr w0 b lv (d + 1) (2 * n + 1) (2 * N + 30) (2 * K + 2) := by
 intro w k h hk; have S0 := za h; have G0 : Hid (w.grownBy w (some b)) := zl w _; clear h; have H0 := za (bf hr); have H1 := za H; have W0 := za (oZ hr); have W1 := za HW; have HL := za (oa hr); have HN := za (gj hr w k 8 S0.out (by omega) (by omega) (by omega)); clear H HW
 have O : ((d + 1 : Nat) : Int) = (d : Int) + 1 := by omega
 rw [O]; clear O
 go_enter Tryz.func53,Tryz.ntmps53
 go_wp2_with fail; go_at_call 24; refine HN.out.mono ?_; rintro e w1 ⟨⟨r,R,rfl⟩,s1,g1⟩; have A := za s1; have B : Hid (w.grownBy w1 (some b)) := g1; obtain ⟨k1,a0⟩ : ∃ k1,k1 = k + 1 := ⟨_,rfl⟩; rw [<- a0] at A; clear s1 g1 HN
 have a1 : r = 0 \/ r = 1 \/ r = 2 \/ r = 3 \/ r = 4 \/ r = 5 \/ r = 6 \/ r = 7 := by omega
 clear R
 rcases a1 with rfl | rfl | rfl | rfl | rfl | rfl | rfl | rfl
 ·go_wp2_with fail
  go_at_call 53; refine (H1.out _ _ A.out (by omega)).mono ?_; rintro e j ⟨l,C,rfl,f,U,o,g,i⟩; have s := za f; have t := za g; have u : Hid (w.grownBy j (some b)) := zb B.out i; clear g i f; go_wp2_with fail; go_at_call 53; refine (H1.out _ _ t.out (by omega)).mono ?_; rintro e D ⟨v,V,rfl,X,l3,E,x,z⟩; have Q3 := za X; have F := za x; have I : Hid (w.grownBy D (some b)) := zb u.out z; clear x z X; go_wp2_with fail
  go_ret
  refine ⟨([40] ++ (l ++ ([41,32,38,32,40] ++ (v ++ [41])))),V,yV (by simp only [xg,List.append_assoc]),((Ey.join (vh (fe := true) (bs := true) (k := 0) (c := [40]) (by decide)) (Ey.join s.out (Ey.join (vh (fe := true) (bs := true) (k := 1) (c := [41,32,38,32,40]) (by decide)) (Ey.join Q3.out (vh (fe := true) (bs := true) (k := 0) (c := [41]) (by decide)) rfl) rfl) rfl) rfl)).fin (by omega),?_,by omega,F.out,I.out⟩; simp only [la,lc,ln]; omega
 ·go_wp2_with fail
  go_at_call 53; refine (H1.out _ _ A.out (by omega)).mono ?_; rintro e j ⟨l,C,rfl,f,U,o,g,i⟩; have s := za f; have t := za g; have u : Hid (w.grownBy j (some b)) := zb B.out i; clear g i f; go_wp2_with fail; go_at_call 53; refine (H1.out _ _ t.out (by omega)).mono ?_; rintro e D ⟨v,V,rfl,X,l3,E,x,z⟩; have Q3 := za X; have F := za x; have I : Hid (w.grownBy D (some b)) := zb u.out z; clear x z X; go_wp2_with fail
  go_ret
  refine ⟨([40] ++ (l ++ ([41,32,79,82,32] ++ ([40] ++ (v ++ [41]))))),V,yV (by simp only [xg,List.append_assoc]),((Ey.join (vh (fe := true) (bs := true) (k := 0) (c := [40]) (by decide)) (Ey.join s.out (Ey.join (vh (fe := true) (bs := true) (k := 1) (c := [41,32,79,82,32]) (by decide)) (Ey.join (vh (fe := true) (bs := true) (k := 0) (c := [40]) (by decide)) (Ey.join Q3.out (vh (fe := true) (bs := true) (k := 0) (c := [41]) (by decide)) rfl) rfl) rfl) rfl) rfl)).fin (by omega),?_,by omega,F.out,I.out⟩; simp only [la,lc,ln]; omega
 ·go_wp2_with fail
  go_at_call 52; refine (W1.out _ _ A.out (by omega)).mono ?_; rintro e j ⟨l,C,rfl,f,U,o,g,i⟩; have s := za f; have t := za g; have u : Hid (w.grownBy j (some b)) := zb B.out i; clear g i f; go_wp2_with fail; go_at_call 51; refine (vD hr t.out (by omega) [[32,60,32],[32,60,61,32],[32,62,32],[32,62,61,32],[32,61,32],[32,35,32]] _ _ rfl (by decide) (by decide)).mono ?_; rintro e D ⟨v,V,rfl,Y,E,x,z⟩; have Z := za Y; have F := za x; have I : Hid (w.grownBy D (some b)) := zb u.out z; clear x z Y
  have L : Ey true true 1 v /\ v.length <= 4 := by
   have h9 : ∀ y ∈ ([[32,60,32],[32,60,61,32],[32,62,32],[32,62,61,32],[32,61,32],[32,35,32]] : List W8),(kO true 1 y && hdC true y) = true /\ y.length <= 4 := by decide
   exact ⟨vh (h9 _ Z.out).1,(h9 _ Z.out).2⟩
  have E3 := za L.1; have L3 := L.2; clear L; go_wp2_with fail; go_at_call 52; refine (W0.out _ _ F.out (by omega)).mono ?_; rintro e w4 ⟨x4,k4,rfl,q4,l4,a2,s4,g4⟩; have Q4 := za q4; have S4 := za s4; have G4 : Hid (w.grownBy w4 (some b)) := zb I.out g4; clear s4 g4 q4; go_wp2_with fail
  go_ret
  refine ⟨(l ++ (v ++ x4)),k4,yV (by simp only [xg,List.append_assoc]),((Ey.join s.out (Ey.join E3.out Q4.out rfl) rfl)).fin (by omega),?_,by omega,S4.out,G4.out⟩; simp only [List.length_append]; omega
 ·go_wp2_with fail
  go_at_call 52; refine (W1.out _ _ A.out (by omega)).mono ?_; rintro e j ⟨l,C,rfl,f,U,o,g,i⟩; have s := za f; have t := za g; have u : Hid (w.grownBy j (some b)) := zb B.out i; clear g i f; go_wp2_with fail; go_at_call 51; refine (vD hr t.out (by omega) [[32,60,32],[32,60,61,32],[32,62,32],[32,62,61,32],[32,61,32],[32,35,32]] _ _ rfl (by decide) (by decide)).mono ?_; rintro e D ⟨v,V,rfl,Y,E,x,z⟩; have Z := za Y; have F := za x; have I : Hid (w.grownBy D (some b)) := zb u.out z; clear x z Y
  have L : Ey true true 1 v /\ v.length <= 4 := by
   have h9 : ∀ y ∈ ([[32,60,32],[32,60,61,32],[32,62,32],[32,62,61,32],[32,61,32],[32,35,32]] : List W8),(kO true 1 y && hdC true y) = true /\ y.length <= 4 := by decide
   exact ⟨vh (h9 _ Z.out).1,(h9 _ Z.out).2⟩
  have E3 := za L.1; have L3 := L.2; clear L; go_wp2_with fail; go_at_call 52; refine (W0.out _ _ F.out (by omega)).mono ?_; rintro e w4 ⟨x4,k4,rfl,q4,l4,a2,s4,g4⟩; have Q4 := za q4; have S4 := za s4; have G4 : Hid (w.grownBy w4 (some b)) := zb I.out g4; clear s4 g4 q4; go_wp2_with fail
  go_ret
  refine ⟨(l ++ (v ++ x4)),k4,yV (by simp only [xg,List.append_assoc]),((Ey.join s.out (Ey.join E3.out Q4.out rfl) rfl)).fin (by omega),?_,by omega,S4.out,G4.out⟩; simp only [List.length_append]; omega
 ·go_wp2_with fail
  go_ret
  refine ⟨[113,32,73,83,32,76,105,98,46,66,105,103,76,105,115,116],k1,rfl,((vh (fe := false) (bs := false) (k := 0) (c := [113,32,73,83,32,76,105,98,46,66,105,103,76,105,115,116]) (by decide))).fin (by omega),?_,by omega,A.out,B.out⟩; simp only [List.length_cons,List.length_nil]; omega
 ·go_wp2_with fail
  go_ret
  refine ⟨[40,112,32,35,32,78,73,76,41,32,38,32,40,112,46,118,97,108,32,62,32,48,41],k1,rfl,((vh (fe := true) (bs := true) (k := 3) (c := [40,112,32,35,32,78,73,76,41,32,38,32,40,112,46,118,97,108,32,62,32,48,41]) (by decide))).fin (by omega),?_,by omega,A.out,B.out⟩; simp only [List.length_cons,List.length_nil]; omega
 ·go_wp2_with fail
  go_at_call 99; refine (HL.out _ _ _ A.out (by omega)).mono ?_; rintro e j ⟨l,C,rfl,f,U,o,g,i⟩; have s := za f; have t := za g; have u : Hid (w.grownBy j (some b)) := zb B.out i; clear g i f; go_wp2_with fail
  go_ret
  refine ⟨(l ++ [32,61,32,113]),C,yV (by simp only [xg]),((Ey.join s.out (vh (fe := false) (bs := true) (k := 1) (c := [32,61,32,113]) (by decide)) rfl)).fin (by omega),?_,by omega,t.out,u.out⟩; simp only [la,lc,ln]; omega
 ·go_wp2_with fail
  go_at_call 53; refine (H0.out _ _ A.out (by omega)).mono ?_; rintro e j ⟨l,C,rfl,f,U,o,g,i⟩; have s := za f; have t := za g; have u : Hid (w.grownBy j (some b)) := zb B.out i; clear g i f; go_wp2_with fail
  go_ret
  refine ⟨l,C,rfl,(s.out).fin (by omega),?_,by omega,t.out,u.out⟩
  omega
end Go.Proofs.YtfjgelmllcnokaaGreatDoor
