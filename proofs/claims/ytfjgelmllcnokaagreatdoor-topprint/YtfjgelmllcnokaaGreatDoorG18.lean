/- Acts,made of raw numbers. -/
import Derived.Test.YtfjgelmllcnokaaGreatDoorG17
import Derived.Test.YtfjgelmllcnokaaGreatDoorG04
namespace Go.Proofs.YtfjgelmllcnokaaGreatDoor
open Go.RowKit
set_option maxHeartbeats 4000000
set_option maxRecDepth 1000000
def Ac (w0 : World) (b : Nat) (lv : Value) (d N K : Nat) : Prop := ∀ (w : World) (k : Nat),Src w0 b lv w k -> k + K <= 90000 -> Calls Tryz.prog 23 #[sp b,.int .i64 d] w (Made w0 b lv w k N K St1)
def As1 (w0 : World) (b : Nat) (lv : Value) (d N K : Nat) : Prop := ∀ (w : World) (k : Nat),Src w0 b lv w k -> k + K <= 90000 -> Calls Tryz.prog 11 #[sp b,.int .i64 d] w (Made w0 b lv w k N K St1)
theorem rg {w0 : World} {b : Nat} {lv : Value} (hr : RawV w0 b lv) (hW1 : Wh w0 b lv 1 1 50 3) (hW2 : Wh w0 b lv 2 3 130 7) (hT1 : Tr w0 b lv 1 3 50 4) (hT2 : Tr w0 b lv 2 7 130 10) {d N K : Nat} (hd : d <= 10) (hN : N <= 20000) (hK : K <= 4000) (H : ∀ e,d = e + 1 -> As1 w0 b lv e N K) : Ac w0 b lv d (2 * N + 300) (3 * K + 20) := by
 intro w k h hk; have S0 := za h; have G0 : Hid (w.grownBy w (some b)) := zl w _; clear h; have W1 := za hW1; have W2 := za hW2; have T1 := za hT1; have T2 := za hT2; have HN := za (gj hr w k 19 S0.out (by omega) (by omega) (by omega)); clear hW1 hW2 hT1 hT2; obtain ⟨f,C⟩ : ∃ f,f = min d 1 := ⟨_,rfl⟩
 rcases d with _ | d
 all_goals
  first | have HS := za (H _ rfl) | skip
  clear H
  first | rw [show ((d + 1 : Nat) : Int) = (d : Int) + 1 by omega] | skip
  go_enter Tryz.func23,Tryz.ntmps23
  go_wp2_with fail; go_at_call 24; refine HN.out.mono ?_; rintro e w1 ⟨⟨r,a0,rfl⟩,s1,g1⟩; have B := za s1; have D : Hid (w.grownBy w1 (some b)) := g1; obtain ⟨k1,a3⟩ : ∃ k1,k1 = k + 1 := ⟨_,rfl⟩; rw [<- a3] at B; clear s1 g1 HN
  have a1 : r = 0 \/ r = 1 \/ r = 2 \/ r = 3 \/ r = 4 \/ r = 5 \/ r = 6 \/ r = 7 \/ r = 8 \/ r = 9 \/ r = 10 \/ r = 11 \/ r = 12 \/ r = 13 \/ r = 14 \/ r = 15 \/ r = 16 \/ r = 17 \/ r = 18 := by omega
  have a2 : f = 0 \/ f = 1 := by omega
  have a4 : ((f = 0 /\ (r = 0 \/ r = 1 \/ r = 12 \/ r = 13)) \/ (f = 1 /\ (r = 0 \/ r = 1))) \/ ((f = 0 /\ (r = 2 \/ r = 14)) \/ (f = 1 /\ (r = 2))) \/ ((f = 0 /\ (r = 3 \/ r = 15)) \/ (f = 1 /\ (r = 3))) \/ ((f = 0 /\ (r = 4 \/ r = 16)) \/ (f = 1 /\ (r = 4))) \/ ((f = 0 /\ (r = 5 \/ r = 17)) \/ (f = 1 /\ (r = 5))) \/ ((f = 0 /\ (r = 6 \/ r = 18)) \/ (f = 1 /\ (r = 6))) \/ ((f = 0 /\ (r = 7)) \/ (f = 1 /\ (r = 7))) \/ ((f = 0 /\ (r = 8)) \/ (f = 1 /\ (r = 8))) \/ ((f = 0 /\ (r = 9)) \/ (f = 1 /\ (r = 9))) \/ ((f = 0 /\ (r = 10)) \/ (f = 1 /\ (r = 10))) \/ ((f = 0 /\ (r = 11)) \/ (f = 1 /\ (r = 11))) \/ (f = 1 /\ (r = 12 \/ r = 13)) \/ (f = 1 /\ (r = 14)) \/ (f = 1 /\ (r = 15)) \/ (f = 1 /\ (r = 16)) \/ (f = 1 /\ (r = 17)) \/ (f = 1 /\ (r = 18)) := by rcases a2 with h8 | h8 <;> rw [h8] <;> rcases a1 with rfl | rfl | rfl | rfl | rfl | rfl | rfl | rfl | rfl | rfl | rfl | rfl | rfl | rfl | rfl | rfl | rfl | rfl | rfl <;> simp
  clear a0 a1 a2
  rcases a4 with g | g | g | g | g | g | g | g | g | g | g | g | g | g | g | g | g
  ·rcases g with ⟨j,rfl | rfl | rfl | rfl⟩ | ⟨j,rfl | rfl⟩
   all_goals first | (exfalso; omega) | skip
   all_goals
    clear j C; go_wp2_with fail; go_at_call 51; refine (vD hr B.out (by omega) [[105],[106],[97,91,105,32,77,79,68,32,52,93],[76,105,98,46,99,111,117,110,116],[114,46,97,91,49,93],[107],[112,46,118,97,108]] _ _ rfl (by decide) (by decide)).mono ?_; rintro e o ⟨i,z,rfl,s,t,l,m⟩; have u := za s; have v := za l; have x : Hid (w.grownBy o (some b)) := zb D.out m; clear l m s
    have n : Ey false false 1 i /\ i.length <= 10 := by
     have g : ∀ y ∈ ([[105],[106],[97,91,105,32,77,79,68,32,52,93],[76,105,98,46,99,111,117,110,116],[114,46,97,91,49,93],[107],[112,46,118,97,108]] : List W8),(kO false 1 y && hdC false y) = true /\ y.length <= 10 := by decide
     exact ⟨vh (g _ u.out).1,(g _ u.out).2⟩
    have A := za n.1; have Z := n.2; clear n; go_wp2_with fail; go_at_call 52; refine (W2.out _ _ v.out (by omega)).mono ?_; rintro e O ⟨L,Y,rfl,E,l3,R,F,I⟩; have M := za E; have U := za F; have V : Hid (w.grownBy O (some b)) := zb x.out I; clear F I E; go_wp2_with fail
    go_ret
    refine ⟨(i ++ ([32,58,61,32] ++ L)),Y,yV (by simp only [xg,List.append_assoc]),((Sz.join (Ey.sz A.out 0 (by omega)) (Sz.join (vt (fe := true) (bs := true) (a := 3) (b := 0) (c := [32,58,61,32]) (by decide)) (Ey.sz M.out 0 (by omega)) rfl) rfl)).fin (by omega),?_,by omega,U.out,V.out⟩; simp only [la,lc,ln]; omega
  ·rcases g with ⟨j,rfl | rfl⟩ | ⟨j,rfl⟩
   all_goals first | (exfalso; omega) | skip
   all_goals
    clear j C; go_wp2_with fail; go_at_call 53; refine (T2.out _ _ B.out (by omega)).mono ?_; rintro e o ⟨i,z,rfl,J,l2,t,l,m⟩; have X := za J; have v := za l; have x : Hid (w.grownBy o (some b)) := zb D.out m; clear l m J; go_wp2_with fail
    go_ret
    refine ⟨([98,32,58,61,32] ++ i),z,yV (by simp only [xg]),((Sz.join (vt (fe := true) (bs := false) (a := 7) (b := 0) (c := [98,32,58,61,32]) (by decide)) (Ey.sz X.out 0 (by omega)) rfl)).fin (by omega),?_,by omega,v.out,x.out⟩; simp only [la,lc,ln]; omega
  ·rcases g with ⟨j,rfl | rfl⟩ | ⟨j,rfl⟩
   all_goals first | (exfalso; omega) | skip
   all_goals
    clear j C; go_wp2_with fail; go_at_call 52; refine (W2.out _ _ B.out (by omega)).mono ?_; rintro e o ⟨i,z,rfl,J,l2,t,l,m⟩; have X := za J; have v := za l; have x : Hid (w.grownBy o (some b)) := zb D.out m; clear l m J; go_wp2_with fail
    go_ret
    refine ⟨([79,85,84,40] ++ (i ++ [41])),z,yV (by simp only [xg,List.append_assoc]),((Sz.join (vt (fe := true) (bs := false) (a := 3) (b := 3) (c := [79,85,84,40]) (by decide)) (Sz.join (Ey.sz X.out 0 (by omega)) (vt (fe := true) (bs := true) (a := 0) (b := 0) (c := [41]) (by decide)) rfl) rfl)).fin (by omega),?_,by omega,v.out,x.out⟩; simp only [la,lc,ln]; omega
  ·rcases g with ⟨j,rfl | rfl⟩ | ⟨j,rfl⟩
   all_goals first | (exfalso; omega) | skip
   all_goals
    clear j C; go_wp2_with fail; go_at_call 51; refine (vD hr B.out (by omega) [[112],[113],[76,105,98,46,104,101,97,100],[114,46,108]] _ _ rfl (by decide) (by decide)).mono ?_; rintro e o ⟨i,z,rfl,s,t,l,m⟩; have u := za s; have v := za l; have x : Hid (w.grownBy o (some b)) := zb D.out m; clear l m s
    have n : Ey false false 0 i /\ i.length <= 8 := by
     have g : ∀ y ∈ ([[112],[113],[76,105,98,46,104,101,97,100],[114,46,108]] : List W8),(kO false 0 y && hdC false y) = true /\ y.length <= 8 := by decide
     exact ⟨vh (g _ u.out).1,(g _ u.out).2⟩
    have A := za n.1; have Z := n.2; clear n; go_wp2_with fail; go_at_call 52; refine (W1.out _ _ v.out (by omega)).mono ?_; rintro e O ⟨L,Y,rfl,E,l3,R,F,I⟩; have M := za E; have U := za F; have V : Hid (w.grownBy O (some b)) := zb x.out I; clear F I E; go_wp2_with fail
    go_ret
    refine ⟨([76,105,98,46,80,117,115,104,40] ++ (i ++ ([44,32] ++ (L ++ [41])))),Y,yV (by simp only [xg,List.append_assoc]),((Sz.join (vt (fe := true) (bs := false) (a := 1) (b := 1) (c := [76,105,98,46,80,117,115,104,40]) (by decide)) (Sz.join (Ey.sz A.out 1 (by omega)) (Sz.join (vt (fe := true) (bs := true) (a := 1) (b := 1) (c := [44,32]) (by decide)) (Sz.join (Ey.sz M.out 0 (by omega)) (vt (fe := true) (bs := true) (a := 0) (b := 0) (c := [41]) (by decide)) rfl) rfl) rfl) rfl)).fin (by omega),?_,by omega,U.out,V.out⟩; simp only [la,lc,ln]; omega
  ·rcases g with ⟨j,rfl | rfl⟩ | ⟨j,rfl⟩
   all_goals first | (exfalso; omega) | skip
   all_goals
    clear j C; go_wp2_with fail; go_at_call 51; refine (vD hr B.out (by omega) [[112,32,58,61,32,113],[113,32,58,61,32,112],[113,32,58,61,32,109],[112,32,58,61,32,78,73,76],[76,105,98,46,104,101,97,100,32,58,61,32,112],[113,32,58,61,32,76,105,98,46,104,101,97,100],[112,32,58,61,32,112,46,110,101,120,116],[109,32,58,61,32,113,123,76,105,98,46,66,105,103,76,105,115,116,125],[114,46,108,32,58,61,32,113]] _ _ rfl (by decide) (by decide)).mono ?_; rintro e o ⟨i,z,rfl,s,t,l,m⟩; have u := za s; have v := za l; have x : Hid (w.grownBy o (some b)) := zb D.out m; clear l m s
    have n : Sz false false 0 0 i /\ i.length <= 19 := by
     have g : ∀ y ∈ ([[112,32,58,61,32,113],[113,32,58,61,32,112],[113,32,58,61,32,109],[112,32,58,61,32,78,73,76],[76,105,98,46,104,101,97,100,32,58,61,32,112],[113,32,58,61,32,76,105,98,46,104,101,97,100],[112,32,58,61,32,112,46,110,101,120,116],[109,32,58,61,32,113,123,76,105,98,46,66,105,103,76,105,115,116,125],[114,46,108,32,58,61,32,113]] : List W8),(chk false 0 0 y && hdC false y) = true /\ y.length <= 19 := by decide
     exact ⟨vt (g _ u.out).1,(g _ u.out).2⟩
    have A := za n.1; have Z := n.2; clear n; go_wp2_with fail
    go_ret
    refine ⟨i,z,rfl,(A.out).fin (by omega),?_,by omega,v.out,x.out⟩
    omega
  ·rcases g with ⟨j,rfl | rfl⟩ | ⟨j,rfl⟩
   all_goals first | (exfalso; omega) | skip
   all_goals
    clear j C; go_wp2_with fail; go_at_call 51; refine (vD hr B.out (by omega) [[78,69,87,40,112,41],[78,69,87,40,113,41],[78,69,87,40,109,41],[78,69,87,40,114,46,108,41],[78,69,87,40,112,46,110,101,120,116,41],[78,69,87,40,110,41]] _ _ rfl (by decide) (by decide)).mono ?_; rintro e o ⟨i,z,rfl,s,t,l,m⟩; have u := za s; have v := za l; have x : Hid (w.grownBy o (some b)) := zb D.out m; clear l m s
    have n : Ey true false 0 i /\ i.length <= 11 := by
     have g : ∀ y ∈ ([[78,69,87,40,112,41],[78,69,87,40,113,41],[78,69,87,40,109,41],[78,69,87,40,114,46,108,41],[78,69,87,40,112,46,110,101,120,116,41],[78,69,87,40,110,41]] : List W8),(kO true 0 y && hdC false y) = true /\ y.length <= 11 := by decide
     exact ⟨vh (g _ u.out).1,(g _ u.out).2⟩
    have A := za n.1; have Z := n.2; clear n; go_wp2_with fail
    go_ret
    refine ⟨i,z,rfl,((Ey.sz A.out 0 (by omega))).fin (by omega),?_,by omega,v.out,x.out⟩
    omega
  ·rcases g with ⟨j,rfl⟩ | ⟨j,rfl⟩
   all_goals first | (exfalso; omega) | skip
   all_goals
    clear j C; go_wp2_with fail; go_at_call 51; refine (vD hr B.out (by omega) [[71,69,84,40,105,41],[71,69,84,40,106,41],[71,69,84,40,97,91,50,93,41],[71,69,84,40,107,41]] _ _ rfl (by decide) (by decide)).mono ?_; rintro e o ⟨i,z,rfl,s,t,l,m⟩; have u := za s; have v := za l; have x : Hid (w.grownBy o (some b)) := zb D.out m; clear l m s
    have n : Ey true false 0 i /\ i.length <= 9 := by
     have g : ∀ y ∈ ([[71,69,84,40,105,41],[71,69,84,40,106,41],[71,69,84,40,97,91,50,93,41],[71,69,84,40,107,41]] : List W8),(kO true 0 y && hdC false y) = true /\ y.length <= 9 := by decide
     exact ⟨vh (g _ u.out).1,(g _ u.out).2⟩
    have A := za n.1; have Z := n.2; clear n; go_wp2_with fail
    go_ret
    refine ⟨i,z,rfl,((Ey.sz A.out 0 (by omega))).fin (by omega),?_,by omega,v.out,x.out⟩
    omega
  ·rcases g with ⟨j,rfl⟩ | ⟨j,rfl⟩
   all_goals first | (exfalso; omega) | skip
   all_goals
    clear j C; go_wp2_with fail; go_at_call 51; refine (vD hr B.out (by omega) [[105,44,32,106],[97,91,48,93,44,32,97,91,49,93],[112,46,118,97,108,44,32,105],[105,44,32,105],[76,105,98,46,99,111,117,110,116,44,32,106]] _ _ rfl (by decide) (by decide)).mono ?_; rintro e o ⟨i,z,rfl,s,t,l,m⟩; have u := za s; have v := za l; have x : Hid (w.grownBy o (some b)) := zb D.out m; clear l m s
    have n : Ey false false 0 i /\ i.length <= 12 := by
     have g : ∀ y ∈ ([[105,44,32,106],[97,91,48,93,44,32,97,91,49,93],[112,46,118,97,108,44,32,105],[105,44,32,105],[76,105,98,46,99,111,117,110,116,44,32,106]] : List W8),(kO false 0 y && hdC false y) = true /\ y.length <= 12 := by decide
     exact ⟨vh (g _ u.out).1,(g _ u.out).2⟩
    have A := za n.1; have Z := n.2; clear n; go_wp2_with fail
    go_ret
    refine ⟨([83,119,97,112,40] ++ (i ++ [41])),z,yV (by simp only [xg,List.append_assoc]),((Sz.join (vt (fe := true) (bs := false) (a := 0) (b := 0) (c := [83,119,97,112,40]) (by decide)) (Sz.join (Ey.sz A.out 0 (by omega)) (vt (fe := true) (bs := true) (a := 0) (b := 0) (c := [41]) (by decide)) rfl) rfl)).fin (by omega),?_,by omega,v.out,x.out⟩; simp only [la,lc,ln]; omega
  ·rcases g with ⟨j,rfl⟩ | ⟨j,rfl⟩
   all_goals first | (exfalso; omega) | skip
   all_goals
    clear j C; go_wp2_with fail; go_at_call 51; refine (vD hr B.out (by omega) [[115,32,58,61,32,114],[114,32,58,61,32,115],[114,46,97,32,58,61,32,97],[97,32,58,61,32,115,46,97],[112,94,32,58,61,32,113,94],[76,105,98,46,80,117,116,40,97,44,32,105,32,77,79,68,32,52,44,32,106,41],[76,105,98,46,80,117,116,40,114,46,97,44,32,105,44,32,51,41]] _ _ rfl (by decide) (by decide)).mono ?_; rintro e o ⟨i,z,rfl,s,t,l,m⟩; have u := za s; have v := za l; have x : Hid (w.grownBy o (some b)) := zb D.out m; clear l m s
    have n : Sz false false 0 1 i /\ i.length <= 22 := by
     have g : ∀ y ∈ ([[115,32,58,61,32,114],[114,32,58,61,32,115],[114,46,97,32,58,61,32,97],[97,32,58,61,32,115,46,97],[112,94,32,58,61,32,113,94],[76,105,98,46,80,117,116,40,97,44,32,105,32,77,79,68,32,52,44,32,106,41],[76,105,98,46,80,117,116,40,114,46,97,44,32,105,44,32,51,41]] : List W8),(chk false 0 1 y && hdC false y) = true /\ y.length <= 22 := by decide
     exact ⟨vt (g _ u.out).1,(g _ u.out).2⟩
    have A := za n.1; have Z := n.2; clear n; go_wp2_with fail
    go_ret
    refine ⟨i,z,rfl,(A.out).fin (by omega),?_,by omega,v.out,x.out⟩
    omega
  ·rcases g with ⟨j,rfl⟩ | ⟨j,rfl⟩
   all_goals first | (exfalso; omega) | skip
   all_goals
    clear j C; go_wp2_with fail
    go_ret
    refine ⟨[79,85,84,40,105,41],k1,rfl,((vt (fe := true) (bs := false) (a := 0) (b := 0) (c := [79,85,84,40,105,41]) (by decide))).fin (by omega),?_,by omega,B.out,D.out⟩; simp only [List.length_cons,List.length_nil]; omega
  ·rcases g with ⟨j,rfl⟩ | ⟨j,rfl⟩
   all_goals first | (exfalso; omega) | skip
   all_goals
    clear j C; go_wp2_with fail; go_at_call 51; refine (vD hr B.out (by omega) [[84,82,85,69],[105,32,61,32,105],[112,32,61,32,112],[98,32,79,82,32,126,98],[105,32,60,32,49,48,48,48]] _ _ rfl (by decide) (by decide)).mono ?_; rintro e o ⟨i,z,rfl,s,t,l,m⟩; have u := za s; have v := za l; have x : Hid (w.grownBy o (some b)) := zb D.out m; clear l m s
    have n : Ey false false 1 i /\ i.length <= 8 := by
     have g : ∀ y ∈ ([[84,82,85,69],[105,32,61,32,105],[112,32,61,32,112],[98,32,79,82,32,126,98],[105,32,60,32,49,48,48,48]] : List W8),(kO false 1 y && hdC false y) = true /\ y.length <= 8 := by decide
     exact ⟨vh (g _ u.out).1,(g _ u.out).2⟩
    have A := za n.1; have Z := n.2; clear n; go_wp2_with fail
    go_ret
    refine ⟨([65,83,83,69,82,84,40] ++ (i ++ [41])),z,yV (by simp only [xg,List.append_assoc]),((Sz.join (vt (fe := true) (bs := false) (a := 1) (b := 1) (c := [65,83,83,69,82,84,40]) (by decide)) (Sz.join (Ey.sz A.out 0 (by omega)) (vt (fe := true) (bs := true) (a := 0) (b := 0) (c := [41]) (by decide)) rfl) rfl)).fin (by omega),?_,by omega,v.out,x.out⟩; simp only [la,lc,ln]; omega
  ·rcases g with ⟨j,rfl | rfl⟩
   all_goals first | (exfalso; omega) | skip
   all_goals
    clear j C; go_wp2_with fail; go_at_call 53; refine (T2.out _ _ B.out (by omega)).mono ?_; rintro e o ⟨i,z,rfl,J,l2,t,l,m⟩; have X := za J; have v := za l; have x : Hid (w.grownBy o (some b)) := zb D.out m; clear l m J; go_wp2_with fail; go_at_call 11; refine (HS.out _ _ v.out (by omega)).mono ?_; rintro e O ⟨L,Y,rfl,E,l3,R,F,I⟩; have M := za E; have U := za F; have V : Hid (w.grownBy O (some b)) := zb x.out I; clear F I E; go_wp2_with fail; go_at_call 11; refine (HS.out _ _ U.out (by omega)).mono ?_; rintro e w4 ⟨x4,k4,rfl,q4,l4,a5,s4,g4⟩; have Q4 := za q4; have S4 := za s4; have G4 : Hid (w.grownBy w4 (some b)) := zb V.out g4; clear s4 g4 q4; go_wp2_with fail; go_at_call 53; refine (T1.out _ _ S4.out (by omega)).mono ?_; rintro e w5 ⟨x5,k5,rfl,q5,l5,a6,s5,g5⟩; have Q5 := za q5; have S5 := za s5; have G5 : Hid (w.grownBy w5 (some b)) := zb G4.out g5; clear s5 g5 q5; go_wp2_with fail; go_at_call 11; refine (HS.out _ _ S5.out (by omega)).mono ?_; rintro e w6 ⟨x6,k6,rfl,q6,l6,a7,s6,g6⟩; have Q6 := za q6; have S6 := za s6; have G6 : Hid (w.grownBy w6 (some b)) := zb G5.out g6; clear s6 g6 q6; go_wp2_with fail; go_at_call 51; refine (vD hr S6.out (by omega) [[],[32,69,76,83,69,32] ++ x4,[32,69,76,83,73,70,32] ++ (x5 ++ ([32,84,72,69,78,32] ++ x6))] _ _ (by simp only [List.map_cons,List.map_nil,zho,xg,List.append_assoc]) (by simp) (by simp)).mono ?_; rintro e w7 ⟨x7,k7,rfl,m7,a8,s7,g7⟩; have M7 := za m7; have S7 := za s7; have G7 : Hid (w.grownBy w7 (some b)) := zb G6.out g7; clear s7 g7 m7
    have L7 : x7.length <= 100000 := by
     have g := M7.out; simp only [List.mem_cons,List.not_mem_nil,or_false] at g
     rcases g with g | g | g <;> (rw [g]; simp only [la,lc,ln]; omega)
    go_wp2_with fail
    go_ret
    have g := M7.out; simp only [List.mem_cons,List.not_mem_nil,or_false] at g
    rcases g with g | g | g
    ·subst g
     refine ⟨([73,70,32] ++ (i ++ ([32,84,72,69,78,32] ++ (L ++ [32,69,78,68])))),k7,yV (by simp only [xg,List.append_assoc,List.nil_append]),((Sz.join (vt (fe := true) (bs := false) (a := 7) (b := 0) (c := [73,70,32]) (by decide)) (Sz.join (Ey.sz X.out 0 (by omega)) (Sz.join (vt (fe := true) (bs := true) (a := 12) (b := 0) (c := [32,84,72,69,78,32]) (by decide)) (Sz.join M.out (vt (fe := false) (bs := true) (a := 0) (b := 0) (c := [32,69,78,68]) (by decide)) rfl) rfl) rfl) rfl)).fin (by omega),?_,by omega,S7.out,G7.out⟩; simp only [la,lc,ln]; omega
    ·subst g
     refine ⟨([73,70,32] ++ (i ++ ([32,84,72,69,78,32] ++ (L ++ ([32,69,76,83,69,32] ++ (x4 ++ [32,69,78,68])))))),k7,yV (by simp only [xg,List.append_assoc]),((Sz.join (vt (fe := true) (bs := false) (a := 7) (b := 0) (c := [73,70,32]) (by decide)) (Sz.join (Ey.sz X.out 0 (by omega)) (Sz.join (vt (fe := true) (bs := true) (a := 12) (b := 0) (c := [32,84,72,69,78,32]) (by decide)) (Sz.join M.out (Sz.join (vt (fe := true) (bs := true) (a := 12) (b := 0) (c := [32,69,76,83,69,32]) (by decide)) (Sz.join Q4.out (vt (fe := false) (bs := true) (a := 0) (b := 0) (c := [32,69,78,68]) (by decide)) rfl) rfl) rfl) rfl) rfl) rfl)).fin (by omega),?_,by omega,S7.out,G7.out⟩; simp only [la,lc,ln]; omega
    ·subst g
     refine ⟨([73,70,32] ++ (i ++ ([32,84,72,69,78,32] ++ (L ++ ([32,69,76,83,73,70,32] ++ (x5 ++ ([32,84,72,69,78,32] ++ (x6 ++ [32,69,78,68])))))))),k7,yV (by simp only [xg,List.append_assoc]),((Sz.join (vt (fe := true) (bs := false) (a := 7) (b := 0) (c := [73,70,32]) (by decide)) (Sz.join (Ey.sz X.out 0 (by omega)) (Sz.join (vt (fe := true) (bs := true) (a := 12) (b := 0) (c := [32,84,72,69,78,32]) (by decide)) (Sz.join M.out (Sz.join (vt (fe := true) (bs := true) (a := 3) (b := 0) (c := [32,69,76,83,73,70,32]) (by decide)) (Sz.join (Ey.sz Q5.out 0 (by omega)) (Sz.join (vt (fe := true) (bs := true) (a := 12) (b := 0) (c := [32,84,72,69,78,32]) (by decide)) (Sz.join Q6.out (vt (fe := false) (bs := true) (a := 0) (b := 0) (c := [32,69,78,68]) (by decide)) rfl) rfl) rfl) rfl) rfl) rfl) rfl) rfl)).fin (by omega),?_,by omega,S7.out,G7.out⟩; simp only [la,lc,ln]; omega
  ·rcases g with ⟨j,rfl⟩
   all_goals first | (exfalso; omega) | skip
   all_goals
    clear j C; go_wp2_with fail; go_at_call 51; refine (vD hr B.out (by omega) [[51],[53],[57]] _ _ rfl (by decide) (by decide)).mono ?_; rintro e o ⟨i,z,rfl,s,t,l,m⟩; have u := za s; have v := za l; have x : Hid (w.grownBy o (some b)) := zb D.out m; clear l m s
    have n : Ey false false 0 i /\ i.length <= 1 := by
     have g : ∀ y ∈ ([[51],[53],[57]] : List W8),(kO false 0 y && hdC false y) = true /\ y.length <= 1 := by decide
     exact ⟨vh (g _ u.out).1,(g _ u.out).2⟩
    have A := za n.1; have Z := n.2; clear n; go_wp2_with fail; go_at_call 11; refine (HS.out _ _ v.out (by omega)).mono ?_; rintro e O ⟨L,Y,rfl,E,l3,R,F,I⟩; have M := za E; have U := za F; have V : Hid (w.grownBy O (some b)) := zb x.out I; clear F I E; go_wp2_with fail
    go_ret
    refine ⟨([105,32,58,61,32,48,59,32,87,72,73,76,69,32,105,32,60,32] ++ (i ++ ([32,68,79,32,105,32,58,61,32,105,32,43,32,49,59,32] ++ (L ++ [32,69,78,68])))),Y,yV (by simp only [xg,List.append_assoc]),((Sz.join (vt (fe := true) (bs := false) (a := 0) (b := 0) (c := [105,32,58,61,32,48,59,32,87,72,73,76,69,32,105,32,60,32]) (by decide)) (Sz.join (Ey.sz A.out 0 (by omega)) (Sz.join (vt (fe := true) (bs := true) (a := 12) (b := 0) (c := [32,68,79,32,105,32,58,61,32,105,32,43,32,49,59,32]) (by decide)) (Sz.join M.out (vt (fe := false) (bs := true) (a := 0) (b := 0) (c := [32,69,78,68]) (by decide)) rfl) rfl) rfl) rfl)).fin (by omega),?_,by omega,U.out,V.out⟩; simp only [la,lc,ln]; omega
  ·rcases g with ⟨j,rfl⟩
   all_goals first | (exfalso; omega) | skip
   all_goals
    clear j C; go_wp2_with fail; go_at_call 11; refine (HS.out _ _ B.out (by omega)).mono ?_; rintro e o ⟨i,z,rfl,J,l2,t,l,m⟩; have X := za J; have v := za l; have x : Hid (w.grownBy o (some b)) := zb D.out m; clear l m J; go_wp2_with fail; go_at_call 53; refine (T1.out _ _ v.out (by omega)).mono ?_; rintro e O ⟨L,Y,rfl,E,l3,R,F,I⟩; have M := za E; have U := za F; have V : Hid (w.grownBy O (some b)) := zb x.out I; clear F I E; go_wp2_with fail
    go_ret
    refine ⟨([106,32,58,61,32,48,59,32,82,69,80,69,65,84,32,106,32,58,61,32,106,32,43,32,49,59,32] ++ (i ++ ([32,85,78,84,73,76,32,40,106,32,62,32,52,41,32,79,82,32] ++ ([40] ++ (L ++ [41]))))),Y,yV (by simp only [xg,List.append_assoc]),((Sz.join (vt (fe := true) (bs := false) (a := 12) (b := 0) (c := [106,32,58,61,32,48,59,32,82,69,80,69,65,84,32,106,32,58,61,32,106,32,43,32,49,59,32]) (by decide)) (Sz.join X.out (Sz.join (vt (fe := true) (bs := true) (a := 3) (b := 0) (c := [32,85,78,84,73,76,32,40,106,32,62,32,52,41,32,79,82,32]) (by decide)) (Sz.join (vt (fe := true) (bs := true) (a := 3) (b := 3) (c := [40]) (by decide)) (Sz.join (Ey.sz M.out 0 (by omega)) (vt (fe := true) (bs := true) (a := 0) (b := 0) (c := [41]) (by decide)) rfl) rfl) rfl) rfl) rfl)).fin (by omega),?_,by omega,U.out,V.out⟩; simp only [la,lc,ln]; omega
  ·rcases g with ⟨j,rfl⟩
   all_goals first | (exfalso; omega) | skip
   all_goals
    clear j C; go_wp2_with fail; go_at_call 53; refine (T1.out _ _ B.out (by omega)).mono ?_; rintro e o ⟨i,z,rfl,J,l2,t,l,m⟩; have X := za J; have v := za l; have x : Hid (w.grownBy o (some b)) := zb D.out m; clear l m J; go_wp2_with fail; go_at_call 11; refine (HS.out _ _ v.out (by omega)).mono ?_; rintro e O ⟨L,Y,rfl,E,l3,R,F,I⟩; have M := za E; have U := za F; have V : Hid (w.grownBy O (some b)) := zb x.out I; clear F I E; go_wp2_with fail
    go_ret
    refine ⟨([87,72,73,76,69,32] ++ (i ++ ([32,68,79,32] ++ (L ++ [32,69,78,68])))),Y,yV (by simp only [xg,List.append_assoc]),((Sz.join (vt (fe := true) (bs := false) (a := 3) (b := 0) (c := [87,72,73,76,69,32]) (by decide)) (Sz.join (Ey.sz X.out 0 (by omega)) (Sz.join (vt (fe := true) (bs := true) (a := 12) (b := 0) (c := [32,68,79,32]) (by decide)) (Sz.join M.out (vt (fe := false) (bs := true) (a := 0) (b := 0) (c := [32,69,78,68]) (by decide)) rfl) rfl) rfl) rfl)).fin (by omega),?_,by omega,U.out,V.out⟩; simp only [la,lc,ln]; omega
  ·rcases g with ⟨j,rfl⟩
   all_goals first | (exfalso; omega) | skip
   all_goals
    clear j C; go_wp2_with fail; go_at_call 51; refine (vD hr B.out (by omega) [[51],[105],[51,57],[53,48]] _ _ rfl (by decide) (by decide)).mono ?_; rintro e o ⟨i,z,rfl,s,t,l,m⟩; have u := za s; have v := za l; have x : Hid (w.grownBy o (some b)) := zb D.out m; clear l m s
    have n : Ey false false 0 i /\ i.length <= 2 := by
     have g : ∀ y ∈ ([[51],[105],[51,57],[53,48]] : List W8),(kO false 0 y && hdC false y) = true /\ y.length <= 2 := by decide
     exact ⟨vh (g _ u.out).1,(g _ u.out).2⟩
    have A := za n.1; have Z := n.2; clear n; go_wp2_with fail
    go_ret
    refine ⟨([68,101,101,112,40] ++ (i ++ [41])),z,yV (by simp only [xg,List.append_assoc]),((Sz.join (vt (fe := true) (bs := false) (a := 0) (b := 0) (c := [68,101,101,112,40]) (by decide)) (Sz.join (Ey.sz A.out 0 (by omega)) (vt (fe := true) (bs := true) (a := 0) (b := 0) (c := [41]) (by decide)) rfl) rfl)).fin (by omega),?_,by omega,v.out,x.out⟩; simp only [la,lc,ln]; omega
  ·rcases g with ⟨j,rfl⟩
   all_goals first | (exfalso; omega) | skip
   all_goals
    clear j C; go_wp2_with fail
    go_ret
    refine ⟨[87,72,73,76,69,32,112,32,35,32,78,73,76,32,68,79,32,79,85,84,40,112,46,118,97,108,41,59,32,112,32,58,61,32,112,46,110,101,120,116,32,69,78,68],k1,rfl,((vt (fe := false) (bs := false) (a := 0) (b := 0) (c := [87,72,73,76,69,32,112,32,35,32,78,73,76,32,68,79,32,79,85,84,40,112,46,118,97,108,41,59,32,112,32,58,61,32,112,46,110,101,120,116,32,69,78,68]) (by decide))).fin (by omega),?_,by omega,B.out,D.out⟩; simp only [List.length_cons,List.length_nil]; omega
end Go.Proofs.YtfjgelmllcnokaaGreatDoor
