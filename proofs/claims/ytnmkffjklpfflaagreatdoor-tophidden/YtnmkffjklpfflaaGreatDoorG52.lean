/- What a module shows,and its key. -/
import Derived.Test.YtnmkffjklpfflaaGreatDoorG50
import Derived.Test.YtnmkffjklpfflaaGreatDoorG51
namespace Go.Proofs.YtnmkffjklpfflaaGreatDoor
open Go.RowKit
set_option maxHeartbeats 4000000
set_option maxRecDepth 1000000
section
variable {ρ : Lay} {w w' w1 : World} {S : KS} {b : Nat} {c : KSc}
theorem pR (h : KM ρ w S) (hk : S.okB = true) (hp : PT w) {m : Nat} (hm : m < S.mds.length) (hok : S.faceOK m = true) :
  Calls Tryz.prog 21 #[.pointer (some ⟨ρ.md m,0,none⟩)] w (Sy w (.string ⟨(S.faceT m).toArray⟩)) := by
 obtain ⟨av,iv,dv,mb,-,-,u⟩ := (h.md m hm).bk; have HM := ze h; have HK := ze hk; have HP := ze hp; have MB := ze mb; obtain ⟨fa,fc,rfl,H,I,J⟩ := u.read; have K := ze J
 unfold maxLen at I
 unfold KS.faceOK at hok
 rw [Bool.and_eq_true,decide_eq_true_eq] at hok; obtain ⟨v,A⟩ := hok; have B := ze A; have L := ze ((KS.okIn hk).mdDecl m hm); obtain ⟨X,hX⟩ : ∃ z,z = (S.md m).name := ⟨_,rfl⟩; obtain ⟨f,o⟩ : ∃ z,z = (S.md m).decl := ⟨_,rfl⟩
 have hT : S.faceT m = X ++ [10] ++ f.flatMap S.showT := by unfold KS.faceT; rw [hX,o]
 rw [hT] at v ⊢; simp only [List.length_append,List.length_cons,List.length_nil] at v
 have y5 : w.cell? ⟨ρ.md m,5,none⟩ = some (.string ⟨X.toArray⟩) := by rw [hX]; exact mb.c 5 _ rfl
 have Y7 : Hid (w.cell? ⟨ρ.md m,7,none⟩ = some (.slice fa f.length fc)) := by rw [o]; exact mb.c 7 _ rfl
 rw [<- o] at K B L H; clear h hk hp mb u J A hT hX o; have zp : ρ.md m < w.heap.size := MB.out.lt; obtain ⟨w0,D⟩ : ∃ z,z = w.alloc (.cells #[.pointer none,.slice none 0 0] BuT) := ⟨_,rfl⟩
 have a1 : Hid (Bd w w.heap.size w0 []) := by rw [D]; exact Bd.new w
 have qq : ¬ (9223372036854775807 < X.length + 1) := by omega
 have a2 := ze (yW w w.heap.size w0 [] (X ++ [10]) a1.out (by simp only [List.length_append,List.length_cons,List.length_nil]; omega))
 go_enter Tryz.func21,Tryz.ntmps21
 go_wp2_with fail; rw [<- D]; clear D y5; go_at_call 30; rw [vm]; refine a2.out.mono ?_; rintro e w1 ⟨rfl,E,-⟩; have a3 : Hid (Bd w w.heap.size w1 (X ++ [10])) := E; have y7 := E.cell Y7.out; clear E; go_wp2_with fail; clear y7
 go_loopw [17] (fun iv wr => ∃ j : Nat,j <= f.length /\ iv = .int .i64 ↑j /\ Hid (Bd w w.heap.size wr (X ++ [10] ++ (f.take j).flatMap S.showT))) (fun iv _ => f.length - (intOf iv).toNat)
 case atStart => exact ⟨0,Nat.zero_le _,rfl,by simpa [Hid] using a3.out⟩
 case round =>
  obtain ⟨j,_,rfl,d⟩ := hrel
  by_cases a4 : j < f.length
  ·obtain ⟨x,hx⟩ : ∃ x,f[j]? = some x := ⟨_,List.getElem?_eq_getElem a4⟩
   have i : x ∈ f := List.mem_of_getElem? hx; obtain ⟨g,e1,hc⟩ := K.out j (ρ.thP (some x)) (by rw [List.getElem?_map,hx]; rfl); subst e1; have d0 : wr.cell? ⟨g,j,none⟩ = some (.pointer (some ⟨ρ.th x,0,none⟩)) := d.out.cell hc; have zg : g < wr.heap.size := zw d0; have M := L.out x i; have tb := (HM.out.th x M).bk; obtain ⟨O,q⟩ : ∃ z,z = (S.th x).kind := ⟨_,rfl⟩; obtain ⟨C,r⟩ : ∃ z,z = (S.th x).exp := ⟨_,rfl⟩
   have t0 : wr.cell? ⟨ρ.th x,0,none⟩ = some (.int .i64 O) := by rw [q]; exact d.out.cell (tb.c 0 _ rfl)
   have t2 : wr.cell? ⟨ρ.th x,2,none⟩ = some (.bool C) := by rw [r]; exact d.out.cell (tb.c 2 _ rfl)
   have s := uS S.showT i; have Q := qI S.showT f j; have R : Hid ((f.take (j + 1)).flatMap S.showT = (f.take j).flatMap S.showT ++ S.showT x) := ky S.showT hx; have U := List.all_eq_true.1 B.out x i; rw [<- q,<- r] at U
   have k : S.showT x = if (C || decide (O = 2)) = true then S.lineT (S.th x) ++ [10] else [] := by rw [q,r]; rfl
   obtain ⟨PR,t⟩ : ∃ z,z = X ++ [10] ++ (f.take j).flatMap S.showT := ⟨_,rfl⟩
   have a9 : PR.length <= 100000 := by rw [t]; simp only [List.length_append,List.length_cons,List.length_nil]; omega
   have V := ze t; rw [<- t] at d; clear hc tb hx q r t
   by_cases l : (C || decide (O = 2)) = true
   ·rw [if_pos l] at k
    have n : S.thOK (S.th x) = true := by rw [l] at U; simpa using U
    obtain ⟨N,hN⟩ : ∃ z,z = S.lineT (S.th x) := ⟨_,rfl⟩; rw [<- hN] at k
    have b0 : N.length <= 100000 := by rw [k] at s; simp only [List.length_append] at s; omega
    have F := ze k
    have a5 : Hid (Calls Tryz.prog 31 #[.pointer (some ⟨ρ.th x,0,none⟩)] wr (Sy wr (.string ⟨N.toArray⟩))) := by rw [hN]; exact pq (HM.out.up d.out.gb) HK.out (HP.out.kept d.out.gb) M n
    have b1 : ¬ (9223372036854775807 < N.length + 1) := by omega
    clear U hN s Q k n i
    have G : C = true \/ (C = false /\ O = 2) := by
     cases C with
     | true => exact .inl rfl
     | false => exact .inr ⟨rfl,by simpa using l⟩
    clear l
    rcases G with rfl | ⟨rfl,rfl⟩
    all_goals
     go_wp2_with fail; go_at_call 31; refine a5.out.mono ?_; rintro e w5 ⟨rfl,Y⟩; have a6 := ze (d.out.grown Y); clear Y; have a7 := ze (yW w w.heap.size w5 PR (N ++ [10]) a6.out (by simp only [List.length_append,List.length_cons,List.length_nil]; omega)); go_wp2_with fail; go_at_call 30; rw [vm]; refine a7.out.mono ?_; rintro e w6 ⟨rfl,Z,-⟩; have a8 := ze Z; clear Z; go_wp2_with fail
     go_roundw
     case rel =>
      refine ⟨j + 1,by omega,by go_num,?_⟩; have h9 := a8.out; rw [show PR = _ from V.out] at h9
      show Bd _ _ _ _
      rw [show List.flatMap S.showT (List.take (j + 1) f) = _ from R.out,show S.showT x = _ from F.out,<- List.append_assoc]
      exact h9
     case measure => first | omega | (simp only [intOf]; omega) | (simp; omega)
   ·rw [if_neg l] at k
    obtain rfl : C = false := by cases C; rfl; simp at l
    have b2 : (O == 2) = false := by simpa using l
    have F := ze k; clear U k s Q i l; go_wp2_with fail
    go_roundw
    case rel =>
     refine ⟨j + 1,by omega,by go_num,?_⟩; have h9 := d.out; rw [show PR = _ from V.out] at h9
     show Bd _ _ _ _
     rw [show List.flatMap S.showT (List.take (j + 1) f) = _ from R.out,show S.showT x = _ from F.out,List.append_nil]
     exact h9
    case measure => first | omega | (simp only [intOf]; omega) | (simp; omega)
  ·obtain rfl : j = f.length := by omega
   rw [List.take_length] at d; go_wp2_with fail; go_at_call 32; refine (vK w w.heap.size _ _ d.out).mono ?_; rintro e w9 ⟨rfl,a0⟩; have G9 := ze a0; clear a0; go_wp2
   go_ret
   refine ⟨?_,G9.out⟩; rw [show X ++ [10] ++ List.flatMap S.showT f = X ++ 10 :: List.flatMap S.showT f by simp]
   rfl
theorem dh {s : ByteArray} {S' : KS} {F : Nm} (hr : Right s S') (hf : S'.faceOK 0 = true) (hF : S'.faceT 0 = F) {g o c : Nat} (hc : w.cell? ⟨g,o,none⟩ = some (.string s)) (h1 : 1 <= c) (h2 : c <= maxLen) (htab : Lib.TabIs Tryz.prog w "strings.asciiSpace" .u8 Lib.asciiSpaceTab) (hp : PT w) :
  Calls Tryz.prog 11 #[.slice (some ⟨g,o,none⟩) 1 c,.int .i64 0] w (Sy w (.tuple #[.string ⟨F.toArray⟩,.nilIface])) := by
 have h := ze (fh hr hc h1 h2 htab)
 have i : Hid (0 < S'.mds.length) := by
  obtain ⟨-,l,n,j,-,-,-,-,t,-⟩ := hr; obtain ⟨-,G,u,H,k,v⟩ := fS t
  show 0 < _
  have m := (KS.okP v).mods; rw [k] at m; have x := List.all_eq_true.1 m (n.name,ks0.mds.length) (by simp); rw [k]
  have z : ks0.mds.length < u.mds.length := by simpa using x
  exact Nat.lt_of_le_of_lt (Nat.zero_le _) z
 have A := ze hf; have B := ze hp; subst hF; clear hr hf hc htab hp
 go_enter Tryz.func11,Tryz.ntmps11
 go_wp2_with fail; go_at_call 20; refine h.out.mono ?_; rintro e w1 ⟨d,ρ,rfl,q,r⟩; have C := ze d; have D := ze (pR q r (B.out.kept d) i.out A.out); clear d q r; go_wp2_with fail; go_at_call 21; refine D.out.mono ?_; rintro e I ⟨rfl,f⟩; have E := ze (za C.out f); clear f; go_wp2
 go_ret2
 exact ⟨rfl,E.out⟩
theorem tp {s : ByteArray} {S' : KS} {F : Nm} (hr : Right s S') (hf : S'.faceOK 0 = true) (hF : S'.faceT 0 = F) (hFl : F.length <= 100000) {g o c : Nat} (hc : w.cell? ⟨g,o,none⟩ = some (.string s)) (h1 : 1 <= c) (h2 : c <= maxLen) (htab : Lib.TabIs Tryz.prog w "strings.asciiSpace" .u8 Lib.asciiSpaceTab) (hp : PT w) :
  Calls Tryz.prog 13 #[.slice (some ⟨g,o,none⟩) 1 c,.int .i64 0] w (Sy w (.tuple #[.int .i64 (RowKit.wrap64 (so F)),.nilIface])) := by
 have h := ze (dh hr hf hF hc h1 h2 htab hp); clear hr hf hF hc htab hp
 go_enter Tryz.func13,Tryz.ntmps13
 go_wp2_with fail; go_at_call 11; refine h.out.mono ?_; rintro e w1 ⟨rfl,d⟩; have i := ze d; clear d; go_wp2_with fail; go_at_call 22; refine (tP F hFl).mono ?_; rintro e j ⟨rfl,f⟩; rw [f]; go_wp2
 go_ret2
 exact ⟨rfl,i.out⟩
end
end Go.Proofs.YtnmkffjklpfflaaGreatDoor
