/- What a module shows,and its key. -/
import Derived.Test.YtnmkffjklpfflaaGreatDoorK17
import Derived.Test.YtnmkffjklpfflaaGreatDoorK18
namespace Go.Proofs.YtnmkffjklpfflaaGreatDoor
open Go.RowKit
set_option maxHeartbeats 4000000
set_option maxRecDepth 1000000
section
variable {ρ : Lay} {w w' w1 : World} {S : KS} {b : Nat} {c : KSc}
theorem pR (h : KM ρ w S) (hk : S.okB = true) (hp : PT w) {m : Nat} (hm : m < S.mds.length) (hok : S.faceOK m = true) :
  Calls Tryz.prog 21 #[.pointer (some ⟨ρ.md m,0,none⟩)] w (Sy w (.string ⟨(S.faceT m).toArray⟩)) := by
 obtain ⟨av,iv,dv,mb,-,-,u⟩ := (h.md m hm).bk; have HM := ze h; have HK := ze hk; have HP := ze hp; have MB := ze mb; obtain ⟨fa,fc,rfl,H,I,J⟩ := u.read; have K := ze J
 unfold maxLen at I
 unfold KS.faceOK at hok
 rw [Bool.and_eq_true,decide_eq_true_eq] at hok; obtain ⟨v,A⟩ := hok; have B := ze A; have L := ze ((KS.okIn hk).mdDecl m hm); obtain ⟨X,hX⟩ : ∃ z,z = (S.md m).name := ⟨_,rfl⟩; obtain ⟨f,o⟩ : ∃ z,z = (S.md m).decl := ⟨_,rfl⟩
 have hT : S.faceT m = X ++ [10] ++ f.flatMap S.showT := by unfold KS.faceT; rw [hX,o]
 rw [hT] at v ⊢; simp only [List.length_append,List.length_cons,List.length_nil] at v
 have y5 : w.cell? ⟨ρ.md m,5,none⟩ = some (.string ⟨X.toArray⟩) := by rw [hX]; exact mb.c 5 _ rfl
 have Y7 : Hid (w.cell? ⟨ρ.md m,7,none⟩ = some (.slice fa f.length fc)) := by rw [o]; exact mb.c 7 _ rfl
 rw [<- o] at K B L H; clear h hk hp mb u J A hT hX o; have zp : ρ.md m < w.heap.size := MB.out.lt; obtain ⟨w0,D⟩ : ∃ z,z = w.alloc (.cells #[.pointer none,.slice none 0 0] BuT) := ⟨_,rfl⟩
 have a1 : Hid (Bd w w.heap.size w0 []) := by rw [D]; exact Bd.new w
 have qq : ¬ (9223372036854775807 < X.length + 1) := by omega
 have a2 := ze (yW w w.heap.size w0 [] (X ++ [10]) a1.out (by simp only [List.length_append,List.length_cons,List.length_nil]; omega))
 go_enter Tryz.func21,Tryz.ntmps21
 go_wp2_with fail; rw [<- D]; clear D y5; go_at_call 30; rw [vm]; refine a2.out.mono ?_; rintro e w1 ⟨rfl,E,-⟩; have a3 : Hid (Bd w w.heap.size w1 (X ++ [10])) := E; have y7 := E.cell Y7.out; clear E; go_wp2_with fail; clear y7
 go_loopw [17] (fun iv wr => ∃ j : Nat,j <= f.length /\ iv = .int .i64 ↑j /\ Hid (Bd w w.heap.size wr (X ++ [10] ++ (f.take j).flatMap S.showT))) (fun iv _ => f.length - (intOf iv).toNat)
 case atStart => exact ⟨0,Nat.zero_le _,rfl,by simpa [Hid] using a3.out⟩
 case round =>
  obtain ⟨j,_,rfl,d⟩ := hrel
  by_cases a4 : j < f.length
  ·obtain ⟨x,hx⟩ : ∃ x,f[j]? = some x := ⟨_,List.getElem?_eq_getElem a4⟩
   have i : x ∈ f := List.mem_of_getElem? hx; obtain ⟨g,e1,hc⟩ := K.out j (ρ.thP (some x)) (by rw [List.getElem?_map,hx]; rfl); subst e1; have d0 : wr.cell? ⟨g,j,none⟩ = some (.pointer (some ⟨ρ.th x,0,none⟩)) := d.out.cell hc; have zg : g < wr.heap.size := zw d0; have M := L.out x i; have tb := (HM.out.th x M).bk; obtain ⟨O,q⟩ : ∃ z,z = (S.th x).kind := ⟨_,rfl⟩; obtain ⟨C,r⟩ : ∃ z,z = (S.th x).exp := ⟨_,rfl⟩
   have t0 : wr.cell? ⟨ρ.th x,0,none⟩ = some (.int .i64 O) := by rw [q]; exact d.out.cell (tb.c 0 _ rfl)
   have t2 : wr.cell? ⟨ρ.th x,2,none⟩ = some (.bool C) := by rw [r]; exact d.out.cell (tb.c 2 _ rfl)
   have s := uS S.showT i; have Q := qI S.showT f j; have R : Hid ((f.take (j + 1)).flatMap S.showT = (f.take j).flatMap S.showT ++ S.showT x) := ky S.showT hx; have U := List.all_eq_true.1 B.out x i; rw [<- q,<- r] at U
   have k : S.showT x = if (C || decide (O = 2)) = true then S.lineT (S.th x) ++ [10] else [] := by rw [q,r]; rfl
   obtain ⟨PR,t⟩ : ∃ z,z = X ++ [10] ++ (f.take j).flatMap S.showT := ⟨_,rfl⟩
   have a9 : PR.length <= 100000 := by rw [t]; simp only [List.length_append,List.length_cons,List.length_nil]; omega
   have V := ze t; rw [<- t] at d; clear hc tb hx q r t
   by_cases l : (C || decide (O = 2)) = true
   ·rw [if_pos l] at k
    have n : S.thOK (S.th x) = true := by rw [l] at U; simpa using U
    obtain ⟨N,hN⟩ : ∃ z,z = S.lineT (S.th x) := ⟨_,rfl⟩; rw [<- hN] at k
    have b0 : N.length <= 100000 := by rw [k] at s; simp only [List.length_append] at s; omega
    have F := ze k
    have a5 : Hid (Calls Tryz.prog 31 #[.pointer (some ⟨ρ.th x,0,none⟩)] wr (Sy wr (.string ⟨N.toArray⟩))) := by rw [hN]; exact pq (HM.out.up d.out.gb) HK.out (HP.out.kept d.out.gb) M n
    have b1 : ¬ (9223372036854775807 < N.length + 1) := by omega
    clear U hN s Q k n i
    have G : C = true \/ (C = false /\ O = 2) := by
     cases C with
     | true => exact .inl rfl
     | false => exact .inr ⟨rfl,by simpa using l⟩
    clear l
    rcases G with rfl | ⟨rfl,rfl⟩
    all_goals
     go_wp2_with fail; go_at_call 31; refine a5.out.mono ?_; rintro e w5 ⟨rfl,Y⟩; have a6 := ze (d.out.grown Y); clear Y; have a7 := ze (yW w w.heap.size w5 PR (N ++ [10]) a6.out (by simp only [List.length_append,List.length_cons,List.length_nil]; omega)); go_wp2_with fail; go_at_call 30; rw [vm]; refine a7.out.mono ?_; rintro e w6 ⟨rfl,Z,-⟩; have a8 := ze Z; clear Z; go_wp2_with fail
     go_roundw
     case rel =>
      refine ⟨j + 1,by omega,by go_num,?_⟩; have h9 := a8.out; rw [show PR = _ from V.out] at h9
      show Bd _ _ _ _
      rw [show List.flatMap S.showT (List.take (j + 1) f) = _ from R.out,show S.showT x = _ from F.out,<- List.append_assoc]
      exact h9
     case measure => first | omega | (simp only [intOf]; omega) | (simp; omega)
   ·rw [if_neg l] at k
    obtain rfl : C = false := by cases C; rfl; simp at l
    have b2 : (O == 2) = false := by simpa using l
    have F := ze k; clear U k s Q i l; go_wp2_with fail
    go_roundw
    case rel =>
     refine ⟨j + 1,by omega,by go_num,?_⟩; have h9 := d.out; rw [show PR = _ from V.out] at h9
     show Bd _ _ _ _
     rw [show List.flatMap S.showT (List.take (j + 1) f) = _ from R.out,show S.showT x = _ from F.out,List.append_nil]
     exact h9
    case measure => first | omega | (simp only [intOf]; omega) | (simp; omega)
  ·obtain rfl : j = f.length := by omega
   rw [List.take_length] at d; go_wp2_with fail; go_at_call 32; refine (vK w w.heap.size _ _ d.out).mono ?_; rintro e w9 ⟨rfl,a0⟩; have G9 := ze a0; clear a0; go_wp2
   go_ret
   refine ⟨?_,G9.out⟩; rw [show X ++ [10] ++ List.flatMap S.showT f = X ++ 10 :: List.flatMap S.showT f by simp]
   rfl
theorem dh {s : ByteArray} {S' : KS} {F : Nm} (hr : Right s S') (hf : S'.faceOK 0 = true) (hF : S'.faceT 0 = F) {g o c : Nat} (hc : w.cell? ⟨g,o,none⟩ = some (.string s)) (h1 : 1 <= c) (h2 : c <= maxLen) (htab : Lib.TabIs Tryz.prog w "strings.asciiSpace" .u8 Lib.asciiSpaceTab) (hp : PT w) :
  Calls Tryz.prog 11 #[.slice (some ⟨g,o,none⟩) 1 c,.int .i64 0] w (Sy w (.tuple #[.string ⟨F.toArray⟩,.nilIface])) := by
 have h := ze (fh hr hc h1 h2 htab)
 have i : Hid (0 < S'.mds.length) := by
  obtain ⟨-,l,n,j,-,-,-,-,t,-⟩ := hr; obtain ⟨-,G,u,H,k,v⟩ := fS t
  show 0 < _
  have m := (KS.okP v).mods; rw [k] at m; have x := List.all_eq_true.1 m (n.name,ks0.mds.length) (by simp); rw [k]
  have z : ks0.mds.length < u.mds.length := by simpa using x
  exact Nat.lt_of_le_of_lt (Nat.zero_le _) z
 have A := ze hf; have B := ze hp; subst hF; clear hr hf hc htab hp
 go_enter Tryz.func11,Tryz.ntmps11
 go_wp2_with fail; go_at_call 20; refine h.out.mono ?_; rintro e w1 ⟨d,ρ,rfl,q,r⟩; have C := ze d; have D := ze (pR q r (B.out.kept d) i.out A.out); clear d q r; go_wp2_with fail; go_at_call 21; refine D.out.mono ?_; rintro e I ⟨rfl,f⟩; have E := ze (za C.out f); clear f; go_wp2
 go_ret2
 exact ⟨rfl,E.out⟩
theorem tp {s : ByteArray} {S' : KS} {F : Nm} (hr : Right s S') (hf : S'.faceOK 0 = true) (hF : S'.faceT 0 = F) (hFl : F.length <= 100000) {g o c : Nat} (hc : w.cell? ⟨g,o,none⟩ = some (.string s)) (h1 : 1 <= c) (h2 : c <= maxLen) (htab : Lib.TabIs Tryz.prog w "strings.asciiSpace" .u8 Lib.asciiSpaceTab) (hp : PT w) :
  Calls Tryz.prog 13 #[.slice (some ⟨g,o,none⟩) 1 c,.int .i64 0] w (Sy w (.tuple #[.int .i64 (RowKit.wrap64 (so F)),.nilIface])) := by
 have h := ze (dh hr hf hF hc h1 h2 htab hp); clear hr hf hF hc htab hp
 go_enter Tryz.func13,Tryz.ntmps13
 go_wp2_with fail; go_at_call 11; refine h.out.mono ?_; rintro e w1 ⟨rfl,d⟩; have i := ze d; clear d; go_wp2_with fail; go_at_call 22; refine (tP F hFl).mono ?_; rintro e j ⟨rfl,f⟩; rw [f]; go_wp2
 go_ret2
 exact ⟨rfl,i.out⟩
end
section
variable {w : World}
theorem tN (a : Option Addr) (n c : Nat) (k h1 h2 : Int) (w : World) (hn : 256 < n) (hm : n <= maxLen) :
  Calls Tryz.prog 4 #[.slice a n c,.int .i64 k,.int .i64 h1,.int .i64 h2] w fun e w' => e = .returned (.bool true) /\ w.grownBy w' none := by
 unfold maxLen at hm
 go_enter Tryz.func4,Tryz.ntmps4
 go_wp2
 go_ret
 exact ⟨rfl,zc w none⟩
theorem sX (a : Option Addr) (n c : Nat) (k h1 h2 : Int) (w : World) (hn : n <= 256) (r1 : -9223372036854775808 <= h1) (r2 : h1 <= 9223372036854775807) (r3 : -9223372036854775808 <= h2) (r4 : h2 <= 9223372036854775807)
  (htab : Lib.TabIs Tryz.prog w "strings.asciiSpace" .u8 Lib.asciiSpaceTab) (hp : PT w) :
  Calls Tryz.prog 4 #[.slice a n c,.int .i64 k,.int .i64 h1,.int .i64 h2] w fun e w' => e = .returned (.bool true) /\ w.grownBy w' none := by
 obtain ⟨F,o⟩ : ∃ z,z = mw := ⟨_,rfl⟩
 have q : F.length <= 100000 := by rw [o]; decide
 have r : 0 < F.length := by rw [o]; decide
 have a8 : ¬ F = [] := fun e => by rw [e] at r; simp at r
 have s : Hid (∀ w9 : World,Calls Tryz.prog 12 #[.int .i64 h1] w9 fun e w' => ∃ v,e = .returned v /\ Lb1 F v /\ w9.grownBy w' none) := fun w9 => by rw [o]; exact tx h1 w9 r1 r2
 have t : Hid (∀ w9 : World,Calls Tryz.prog 12 #[.int .i64 h2] w9 fun e w' => ∃ v,e = .returned v /\ Lb1 F v /\ w9.grownBy w' none) := fun w9 => by rw [o]; exact tx h2 w9 r3 r4
 have HT : Hid (∀ w9,w.grownBy w9 none -> Lib.TabIs Tryz.prog w9 "strings.asciiSpace" .u8 Lib.asciiSpaceTab) := fun w9 G => ui htab ⟨G.os,G.tape,G.output,G.size,fun i hi => G.block i hi (by simp)⟩
 have HP := ze hp; have G0 : Hid (w.grownBy w none) := zc w none; obtain ⟨KK,u⟩ : ∃ z,z = RowKit.wrap64 (so F) := ⟨_,rfl⟩; have x := ze u; clear htab hp o r1 r2 r3 r4 u
 go_enter Tryz.func4,Tryz.ntmps4
 go_wp2_with fail; go_at_call 12; refine (s.out _).mono ?_; rintro e w1 ⟨v0,rfl,⟨s0,S0,rfl,A,B,C⟩,D⟩; obtain ⟨x0,b⟩ : ∃ z,z = w1.alloc (.cells #[.string s0] 9) := ⟨_,rfl⟩
 have h : Hid (w.grownBy x0 none) := by rw [b]; exact zf (za G0.out D) _
 have a0 : Hid (x0.cell? ⟨w1.heap.size,0,none⟩ = some (.string s0)) := by rw [b]; exact Bk.c (vs := [.string s0]) (Bk.new w1 _ _ rfl) 0 _ rfl
 have a1 : Hid (Calls Tryz.prog 11 #[.slice (some ⟨w1.heap.size,0,none⟩) 1 1,.int .i64 0] x0 (Sy x0 (.tuple #[.string ⟨F.toArray⟩,.nilIface]))) := by
  exact dh A B C a0.out (Nat.le_refl _) (by decide) (HT.out _ h.out) (HP.out.kept h.out)
 clear A B C D; go_wp2_with fail; rw [<- b]; clear b; go_at_call 11; refine a1.out.mono ?_; rintro e w2 ⟨rfl,E⟩; have G2 := ze (za h.out E); clear E; go_wp2_with fail; go_at_call 12; refine (t.out _).mono ?_; rintro e w3 ⟨v1,rfl,⟨s1,S1,rfl,H,I,J⟩,K⟩; obtain ⟨x1,d⟩ : ∃ z,z = w3.alloc (.cells #[.string s1] 9) := ⟨_,rfl⟩
 have j : Hid (w.grownBy x1 none) := by rw [d]; exact zf (za G2.out K) _
 have a2 : Hid (x1.cell? ⟨w3.heap.size,0,none⟩ = some (.string s1)) := by rw [d]; exact Bk.c (vs := [.string s1]) (Bk.new w3 _ _ rfl) 0 _ rfl
 have a3 : Hid (Calls Tryz.prog 11 #[.slice (some ⟨w3.heap.size,0,none⟩) 1 1,.int .i64 0] x1 (Sy x1 (.tuple #[.string ⟨F.toArray⟩,.nilIface]))) := by
  exact dh H I J a2.out (Nat.le_refl _) (by decide) (HT.out _ j.out) (HP.out.kept j.out)
 clear H I J K; go_wp2_with fail; rw [<- d]; clear d; go_at_call 11; refine a3.out.mono ?_; rintro e w4 ⟨rfl,L⟩; have G4 := ze (za j.out L); clear L; go_wp2_with fail; go_at_call 12; refine (s.out _).mono ?_; rintro e w5 ⟨v2,rfl,⟨s2,S2,rfl,M,N,O⟩,Q⟩; obtain ⟨x2,f⟩ : ∃ z,z = w5.alloc (.cells #[.string s2] 9) := ⟨_,rfl⟩
 have l : Hid (w.grownBy x2 none) := by rw [f]; exact zf (za G4.out Q) _
 have a4 : Hid (x2.cell? ⟨w5.heap.size,0,none⟩ = some (.string s2)) := by rw [f]; exact Bk.c (vs := [.string s2]) (Bk.new w5 _ _ rfl) 0 _ rfl
 have a5 : Hid (Calls Tryz.prog 13 #[.slice (some ⟨w5.heap.size,0,none⟩) 1 1,.int .i64 0] x2 (Sy x2 (.tuple #[.int .i64 KK,.nilIface]))) := by
  rw [show KK = _ from x.out]; exact tp M N O q a4.out (Nat.le_refl _) (by decide) (HT.out _ l.out) (HP.out.kept l.out)
 clear M N O Q; go_wp2_with fail; rw [<- f]; clear f; go_at_call 13; refine a5.out.mono ?_; rintro e w6 ⟨rfl,R⟩; have G6 := ze (za l.out R); clear R; go_wp2_with fail; go_at_call 12; refine (t.out _).mono ?_; rintro e w7 ⟨v3,rfl,⟨s3,S3,rfl,U,V,X⟩,Y⟩; obtain ⟨x3,g⟩ : ∃ z,z = w7.alloc (.cells #[.string s3] 9) := ⟨_,rfl⟩
 have m : Hid (w.grownBy x3 none) := by rw [g]; exact zf (za G6.out Y) _
 have a6 : Hid (x3.cell? ⟨w7.heap.size,0,none⟩ = some (.string s3)) := by rw [g]; exact Bk.c (vs := [.string s3]) (Bk.new w7 _ _ rfl) 0 _ rfl
 have a7 : Hid (Calls Tryz.prog 13 #[.slice (some ⟨w7.heap.size,0,none⟩) 1 1,.int .i64 0] x3 (Sy x3 (.tuple #[.int .i64 KK,.nilIface]))) := by
  rw [show KK = _ from x.out]; exact tp U V X q a6.out (Nat.le_refl _) (by decide) (HT.out _ m.out) (HP.out.kept m.out)
 clear U V X Y; go_wp2_with fail; rw [<- g]; clear g; go_at_call 13; refine a7.out.mono ?_; rintro e w8 ⟨rfl,Z⟩; have G8 := ze (za m.out Z); clear Z; go_wp2_with fail
 go_ret
 exact ⟨rfl,G8.out⟩
end
end Go.Proofs.YtnmkffjklpfflaaGreatDoor
