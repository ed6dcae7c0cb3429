/- The law: what is not shown changes neither the face nor the key. -/
import Derived.Test.YtnmkffjklpfflaaGreatDoorG46
import Derived.Test.YtnmkffjklpfflaaGreatDoorG52
namespace Go.Proofs.YtnmkffjklpfflaaGreatDoor
open Go.RowKit
set_option maxHeartbeats 4000000
set_option maxRecDepth 1000000
section
variable {w : World}
theorem tN (a : Option Addr) (n c : Nat) (k h1 h2 : Int) (w : World) (hn : 256 < n) (hm : n <= maxLen) :
  Calls Tryz.prog 4 #[.slice a n c,.int .i64 k,.int .i64 h1,.int .i64 h2] w fun e w' => e = .returned (.bool true) /\ w.grownBy w' none := by
 unfold maxLen at hm
 go_enter Tryz.func4,Tryz.ntmps4
 go_wp2
 go_ret
 exact ⟨rfl,zc w none⟩
theorem sX (a : Option Addr) (n c : Nat) (k h1 h2 : Int) (w : World) (hn : n <= 256) (r1 : -9223372036854775808 <= h1) (r2 : h1 <= 9223372036854775807) (r3 : -9223372036854775808 <= h2) (r4 : h2 <= 9223372036854775807)
  (htab : Lib.TabIs Tryz.prog w "strings.asciiSpace" .u8 Lib.asciiSpaceTab) (hp : PT w) :
  Calls Tryz.prog 4 #[.slice a n c,.int .i64 k,.int .i64 h1,.int .i64 h2] w fun e w' => e = .returned (.bool true) /\ w.grownBy w' none := by
 obtain ⟨F,o⟩ : ∃ z,z = mw := ⟨_,rfl⟩
 have q : F.length <= 100000 := by rw [o]; decide
 have r : 0 < F.length := by rw [o]; decide
 have a8 : ¬ F = [] := fun e => by rw [e] at r; simp at r
 have s : Hid (∀ w9 : World,Calls Tryz.prog 12 #[.int .i64 h1] w9 fun e w' => ∃ v,e = .returned v /\ Lb1 F v /\ w9.grownBy w' none) := fun w9 => by rw [o]; exact tx h1 w9 r1 r2
 have t : Hid (∀ w9 : World,Calls Tryz.prog 12 #[.int .i64 h2] w9 fun e w' => ∃ v,e = .returned v /\ Lb1 F v /\ w9.grownBy w' none) := fun w9 => by rw [o]; exact tx h2 w9 r3 r4
 have HT : Hid (∀ w9,w.grownBy w9 none -> Lib.TabIs Tryz.prog w9 "strings.asciiSpace" .u8 Lib.asciiSpaceTab) := fun w9 G => ui htab ⟨G.os,G.tape,G.output,G.size,fun i hi => G.block i hi (by simp)⟩
 have HP := ze hp; have G0 : Hid (w.grownBy w none) := zc w none; obtain ⟨KK,u⟩ : ∃ z,z = RowKit.wrap64 (so F) := ⟨_,rfl⟩; have x := ze u; clear htab hp o r1 r2 r3 r4 u
 go_enter Tryz.func4,Tryz.ntmps4
 go_wp2_with fail; go_at_call 12; refine (s.out _).mono ?_; rintro e w1 ⟨v0,rfl,⟨s0,S0,rfl,A,B,C⟩,D⟩; obtain ⟨x0,b⟩ : ∃ z,z = w1.alloc (.cells #[.string s0] 9) := ⟨_,rfl⟩
 have h : Hid (w.grownBy x0 none) := by rw [b]; exact zf (za G0.out D) _
 have a0 : Hid (x0.cell? ⟨w1.heap.size,0,none⟩ = some (.string s0)) := by rw [b]; exact Bk.c (vs := [.string s0]) (Bk.new w1 _ _ rfl) 0 _ rfl
 have a1 : Hid (Calls Tryz.prog 11 #[.slice (some ⟨w1.heap.size,0,none⟩) 1 1,.int .i64 0] x0 (Sy x0 (.tuple #[.string ⟨F.toArray⟩,.nilIface]))) := by
  exact dh A B C a0.out (Nat.le_refl _) (by decide) (HT.out _ h.out) (HP.out.kept h.out)
 clear A B C D; go_wp2_with fail; rw [<- b]; clear b; go_at_call 11; refine a1.out.mono ?_; rintro e w2 ⟨rfl,E⟩; have G2 := ze (za h.out E); clear E; go_wp2_with fail; go_at_call 12; refine (t.out _).mono ?_; rintro e w3 ⟨v1,rfl,⟨s1,S1,rfl,H,I,J⟩,K⟩; obtain ⟨x1,d⟩ : ∃ z,z = w3.alloc (.cells #[.string s1] 9) := ⟨_,rfl⟩
 have j : Hid (w.grownBy x1 none) := by rw [d]; exact zf (za G2.out K) _
 have a2 : Hid (x1.cell? ⟨w3.heap.size,0,none⟩ = some (.string s1)) := by rw [d]; exact Bk.c (vs := [.string s1]) (Bk.new w3 _ _ rfl) 0 _ rfl
 have a3 : Hid (Calls Tryz.prog 11 #[.slice (some ⟨w3.heap.size,0,none⟩) 1 1,.int .i64 0] x1 (Sy x1 (.tuple #[.string ⟨F.toArray⟩,.nilIface]))) := by
  exact dh H I J a2.out (Nat.le_refl _) (by decide) (HT.out _ j.out) (HP.out.kept j.out)
 clear H I J K; go_wp2_with fail; rw [<- d]; clear d; go_at_call 11; refine a3.out.mono ?_; rintro e w4 ⟨rfl,L⟩; have G4 := ze (za j.out L); clear L; go_wp2_with fail; go_at_call 12; refine (s.out _).mono ?_; rintro e w5 ⟨v2,rfl,⟨s2,S2,rfl,M,N,O⟩,Q⟩; obtain ⟨x2,f⟩ : ∃ z,z = w5.alloc (.cells #[.string s2] 9) := ⟨_,rfl⟩
 have l : Hid (w.grownBy x2 none) := by rw [f]; exact zf (za G4.out Q) _
 have a4 : Hid (x2.cell? ⟨w5.heap.size,0,none⟩ = some (.string s2)) := by rw [f]; exact Bk.c (vs := [.string s2]) (Bk.new w5 _ _ rfl) 0 _ rfl
 have a5 : Hid (Calls Tryz.prog 13 #[.slice (some ⟨w5.heap.size,0,none⟩) 1 1,.int .i64 0] x2 (Sy x2 (.tuple #[.int .i64 KK,.nilIface]))) := by
  rw [show KK = _ from x.out]; exact tp M N O q a4.out (Nat.le_refl _) (by decide) (HT.out _ l.out) (HP.out.kept l.out)
 clear M N O Q; go_wp2_with fail; rw [<- f]; clear f; go_at_call 13; refine a5.out.mono ?_; rintro e w6 ⟨rfl,R⟩; have G6 := ze (za l.out R); clear R; go_wp2_with fail; go_at_call 12; refine (t.out _).mono ?_; rintro e w7 ⟨v3,rfl,⟨s3,S3,rfl,U,V,X⟩,Y⟩; obtain ⟨x3,g⟩ : ∃ z,z = w7.alloc (.cells #[.string s3] 9) := ⟨_,rfl⟩
 have m : Hid (w.grownBy x3 none) := by rw [g]; exact zf (za G6.out Y) _
 have a6 : Hid (x3.cell? ⟨w7.heap.size,0,none⟩ = some (.string s3)) := by rw [g]; exact Bk.c (vs := [.string s3]) (Bk.new w7 _ _ rfl) 0 _ rfl
 have a7 : Hid (Calls Tryz.prog 13 #[.slice (some ⟨w7.heap.size,0,none⟩) 1 1,.int .i64 0] x3 (Sy x3 (.tuple #[.int .i64 KK,.nilIface]))) := by
  rw [show KK = _ from x.out]; exact tp U V X q a6.out (Nat.le_refl _) (by decide) (HT.out _ m.out) (HP.out.kept m.out)
 clear U V X Y; go_wp2_with fail; rw [<- g]; clear g; go_at_call 13; refine a7.out.mono ?_; rintro e w8 ⟨rfl,Z⟩; have G8 := ze (za m.out Z); clear Z; go_wp2_with fail
 go_ret
 exact ⟨rfl,G8.out⟩
end
end Go.Proofs.YtnmkffjklpfflaaGreatDoor
