/- The library's texts: each is right,and shows the same. -/
import Derived.Test.YtnmkffjklpfflaaGreatDoorG45
import Derived.Test.YtnmkffjklpfflaaGreatDoorK16
namespace Go.Proofs.YtnmkffjklpfflaaGreatDoor
open Go.RowKit
set_option maxHeartbeats 4000000
set_option maxRecDepth 1000000
def mw : Nm := [76,105,98,10,67,79,78,83,84,32,108,105,109,105,116,32,73,78,84,69,71,69,82,32,49,49,10,84,89,80,69,32,76,105,115,116,42,32,80,79,73,78,84,69,82,32,76,105,98,46,78,111,100,101,10,84,89,80,69,32,78,111,100,101,42,32,82,69,67,79,82,68,32,50,32,118,97,108,42,58,73,78,84,69,71,69,82,64,48,32,110,101,120,116,42,58,76,105,98,46,76,105,115,116,64,49,10,84,89,80,69,32,66,105,103,42,32,82,69,67,79,82,68,32,52,32,40,76,105,98,46,78,111,100,101,41,32,109,111,114,101,42,58,73,78,84,69,71,69,82,64,50,32,111,110,42,58,66,79,79,76,69,65,78,64,51,10,84,89,80,69,32,66,105,103,76,105,115,116,42,32,80,79,73,78,84,69,82,32,76,105,98,46,66,105,103,10,84,89,80,69,32,82,111,119,42,32,65,82,82,65,89,32,52,32,73,78,84,69,71,69,82,10,84,89,80,69,32,80,97,105,114,42,32,82,69,67,79,82,68,32,54,32,97,42,58,76,105,98,46,82,111,119,64,48,32,108,42,58,76,105,98,46,76,105,115,116,64,52,32,107,58,73,78,84,69,71,69,82,64,53,10,86,65,82,32,99,111,117,110,116,32,73,78,84,69,71,69,82,32,48,10,86,65,82,32,104,101,97,100,32,76,105,98,46,76,105,115,116,32,49,10,80,82,79,67,69,68,85,82,69,32,80,117,115,104,32,86,65,82,32,76,105,98,46,76,105,115,116,32,73,78,84,69,71,69,82,10,80,82,79,67,69,68,85,82,69,32,83,117,109,32,76,105,98,46,76,105,115,116,32,58,32,73,78,84,69,71,69,82,10,80,82,79,67,69,68,85,82,69,32,80,117,116,32,86,65,82,32,76,105,98,46,82,111,119,32,73,78,84,69,71,69,82,32,73,78,84,69,71,69,82,10]
def lm (F : Nm) (s : ByteArray) : Bool := decide (s.size <= 4000) && match vD s.data.toList with
 | .error _ => false
 | .ok l => match vB (um s.data.toList.length l) 0 with
  | .error _ => false
  | .ok (n,_) => fz 60 n && (match (ks0.addMd { md0 with name := n.name }).bodyD 0 n with
   | none => false
   | some S1 => decide (S1.mods.length <= 1000)) && match ks0.wholeD n with
   | none => false
   | some S => S.faceOK 0 && decide (S.faceT 0 = F)
def Lb1 (F : Nm) (v : Value) : Prop := ∃ s S,v = .string s /\ Right s S /\ S.faceOK 0 = true /\ S.faceT 0 = F
theorem lj {F : Nm} {s : ByteArray} (h : lm F s = true) : Lb1 F (.string s) := by
 unfold lm at h
 rw [Bool.and_eq_true,decide_eq_true_eq] at h; obtain ⟨f,b⟩ := h
 split at b
 ·cases b
 ·rename_i l hl
  split at b
  ·cases b
  ·rename_i n j hn
   rw [Bool.and_eq_true,Bool.and_eq_true] at b; obtain ⟨⟨d,e⟩,c⟩ := b
   split at c
   ·cases c
   ·rename_i S hS
    rw [Bool.and_eq_true,decide_eq_true_eq] at c; refine ⟨s,S,rfl,⟨f,l,n,j,hl,hn,fun t ht => tq d ht,fZ d,hS,fun S1 hS1 => ?_⟩,c.1,c.2⟩; rw [show ks0.mds.length = 0 from rfl] at hS1; rw [hS1] at e
    simpa using e
theorem tx (h : Int) (w : World) (h1 : -9223372036854775808 <= h) (h2 : h <= 9223372036854775807) :
  Calls Tryz.prog 12 #[.int .i64 h] w fun e w' => ∃ v,e = .returned v /\ Lb1 mw v /\ w.grownBy w' none := by
 have b := ze (pV h 5 w h1 h2 (by omega) (by omega)); have d := pM (c := h) (n := 5) (by omega)
 generalize qb h 5 = q at b d
 obtain ⟨n,rfl⟩ := Int.eq_ofNat_of_zero_le d.1
 have k : n < 5 := by omega
 have f := ze (pP n (by omega) w); clear d
 go_enter Tryz.func12,Tryz.ntmps12
 go_wp2_with fail; go_at_call 6; refine b.out.mono ?_; rintro e l ⟨rfl,rfl⟩; go_wp2_with fail; go_at_call 14; refine f.out.mono ?_; rintro e m ⟨rfl,g⟩; have i := ze g; clear g b f; go_wp2_with fail
 go_ret
 have j : n = 0 \/ n = 1 \/ n = 2 \/ n = 3 \/ n = 4 := by omega
 rcases j with rfl | rfl | rfl | rfl | rfl
 all_goals exact ⟨_,rfl,lj (by kernel_rfl),i.out⟩
end Go.Proofs.YtnmkffjklpfflaaGreatDoor
