/- Expressions. -/
import Derived.Test.YtnmkffjklpfflaaGreatDoorK02
import Derived.Test.YtnmkffjklpfflaaGreatDoorK03
namespace Go.Proofs.YtnmkffjklpfflaaGreatDoor
open Go.RowKit
set_option maxHeartbeats 4000000
set_option maxRecDepth 100000
section
variable {ρ : Lay} {w w' w1 : World} {S : KS} {b : Nat} {c : KSc}
theorem gG (h : CK ρ w S b c) (n : T) (sv : Value) (hf : Fits n) (ha : AT w n.subs sv) {r : KR} (hk : n.kind = 29 \/ n.kind = 30 \/ n.kind = 31 \/ n.kind = 32) :
  Calls Tryz.prog 157 #[.pointer (some ⟨b,0,none⟩),zn n sv] w (Cy w ((S.exprC c r n).map fun t => .pointer (some ⟨ρ.ty t,0,none⟩))) := by
 have s0 := h.s0; have e := h.km.wc0; have f := h.km.wc1; have g := h.km.wc2; have i := zw s0; have j := zw e; simp only at i j; obtain ⟨d,x,m,p,l⟩ := n; clear h ha hf
 change Calls Tryz.prog 157 #[.pointer (some ⟨b,0,none⟩),.agg #[.int .i64 d,.string ⟨x.toArray⟩,.int .i64 m,.int .i64 p,sv]] w _
 change d = 29 \/ d = 30 \/ d = 31 \/ d = 32 at hk
 rcases hk with rfl | rfl | rfl | rfl
 ·rw [show S.exprC c r (.mk 29 x m p l) = .ok 0 by simp [KS.exprC,T.kind]]
  go_enter Tryz.func157,Tryz.ntmps157
  go_wp2
  go_ret
  exact Cy.ok (zf (zc w none) _)
 ·rw [show S.exprC c r (.mk 30 x m p l) = .ok 1 by simp [KS.exprC,T.kind]]
  go_enter Tryz.func157,Tryz.ntmps157
  go_wp2
  go_ret
  exact Cy.ok (zf (zc w none) _)
 ·rw [show S.exprC c r (.mk 31 x m p l) = .ok 1 by simp [KS.exprC,T.kind]]
  go_enter Tryz.func157,Tryz.ntmps157
  go_wp2
  go_ret
  exact Cy.ok (zf (zc w none) _)
 ·rw [show S.exprC c r (.mk 32 x m p l) = .ok 2 by simp [KS.exprC,T.kind]]
  go_enter Tryz.func157,Tryz.ntmps157
  go_wp2
  go_ret
  exact Cy.ok (zf (zc w none) _)
theorem pQ (h : CK ρ w S b c) (n : T) (sv : Value) (hf : Fits n) (ha : AT w n.subs sv) {r : KR} {u : T} (hk : n.kind = 34) (hl : n.subs = [u]) (hu : CEx ρ S b c r u) :
  Calls Tryz.prog 157 #[.pointer (some ⟨b,0,none⟩),zn n sv] w (Cy w ((S.exprC c r n).map fun t => .pointer (some ⟨ρ.ty t,0,none⟩))) := by
 have h3 := h.ok.three; have V := ze (fun w1 (G : w.grownBy w1 none) i (D : Fits u) (E : AT w u.subs i) => ue (h.up G) u i D (E.kept G) (t := 1) (by omega) hu); have s0 : Hid _ := h.s0; have I : Hid _ := h.km.wc0; have j : Hid _ := h.km.wc1; have J : Hid _ := h.km.wc2; obtain ⟨A,x,m,p,l⟩ := n; obtain rfl : l = [u] := hl; obtain ⟨g,o,k,i,rfl,a1,a2,F,D,E,-⟩ := ha.cons; have X := ze E; have Y := ze D
 replace F := ze F
 clear D E
 change Calls Tryz.prog 157 #[.pointer (some ⟨b,0,none⟩),.agg #[.int .i64 A,.string ⟨x.toArray⟩,.int .i64 m,.int .i64 p,.slice (some ⟨g,o,none⟩) 1 k]] w _
 obtain ⟨q,d⟩ : ∃ z,z = w.alloc (.cells #[.int .i64 A,.string ⟨x.toArray⟩,.int .i64 m,.int .i64 p,.slice (some ⟨g,o,none⟩) 1 k] 100) := ⟨_,rfl⟩
 have f : Hid (w.grownBy q none) := by rw [d]; exact zf (zc w none) _
 have K : Hid (Box q w.heap.size (.mk A x m p [u]) (.slice (some ⟨g,o,none⟩) 1 k)) := by rw [d]; exact Box.new w (.mk A x m p [u]) (.slice (some ⟨g,o,none⟩) 1 k) _
 obtain rfl : A = 34 := hk; clear h ha hf hu
 have Z : sub (.mk 34 x m p [u]) 0 = u := rfl
 cases H : yP r u 1 with
 | error z =>
  rw [show S.exprC c r (.mk 34 x m p [u]) = .error z by simp [KS.exprC,T.kind,Z,H,Except.bind]]
  go_enter Tryz.func157,Tryz.ntmps157
  go_wp2_with fail; rw [<- d]; clear d; refine wp_region_held_drew (S := fun w9 => q.grownBy w9 none) (by kernel_rfl) ?_ (fun hHeld => ?_)
  ·exact zh (zc q none)
  refine kQ 0 41 (.pointer (some ⟨b,0,none⟩)) hHeld ?_; simp only [qA,qB,qC,qD]; refine kQ 1 42 (.pointer (some ⟨w.heap.size,4,none⟩)) hHeld ?_; simp only [qA,qB,qC,qD]; refine dk 2 (some 43) (.slice (some ⟨g,o,none⟩) 1 k) rfl rfl (fun w9 hS => by obtain ⟨L,s,M,N,O⟩ := (Box.kept K.out hS).plain; go_simp) hHeld ?_; simp only [qA,qB,qC,qD]; refine kQ 3 44 (.pointer (some ⟨g,o,none⟩)) hHeld ?_; simp only [qA,qB,qC,qD]; refine dk 4 (some 45) (zn u i) rfl rfl (fun w9 hS => by obtain ⟨L,s,M,N,O⟩ := Node5.kept F.out (za f.out hS); go_simp) hHeld ?_; simp only [qA,qB,qC,qD]; refine kQ 5 46 (.pointer (some ⟨b,0,none⟩)) hHeld ?_; simp only [qA,qB,qC,qD]; refine kQ 6 47 (.pointer (some ⟨b,0,none⟩)) hHeld ?_; simp only [qA,qB,qC,qD]; refine kQ 7 48 (.pointer (some ⟨b,0,none⟩)) hHeld ?_; simp only [qA,qB,qC,qD]; refine kQ 8 49 (.pointer (some ⟨b,0,none⟩)) hHeld ?_; simp only [qA,qB,qC,qD]; refine dk 9 (some 50) (.pointer (some ⟨ρ.wd,0,none⟩)) rfl rfl (fun w9 hS => by have s := zi (za f.out hS) s0.out; go_simp) hHeld ?_; simp only [qA,qB,qC,qD]; refine kQ 10 51 (.pointer (some ⟨ρ.wd,0,none⟩)) hHeld ?_; simp only [qA,qB,qC,qD]; refine kQ 11 52 (.pointer (some ⟨ρ.wd,1,none⟩)) hHeld ?_; simp only [qA,qB,qC,qD]; refine dk 12 (some 53) (.pointer (some ⟨ρ.ty 1,0,none⟩)) rfl rfl (fun w9 hS => by have s := zi (za f.out hS) j.out; go_simp) hHeld ?_; simp only [qA,qB,qC,qD]; refine rd 13 rfl fun KK hKK => ?_
  go_simp
  go_at_call 116; refine (V.out _ (zh f.out) i Y.out X.out).mono ?_; rw [H]; rintro e w1 h1; have HT := h1; obtain ⟨_,rfl⟩ := h1.thrown
  exact ⟨rfl,HT.err (zh f.out)⟩
 | ok _ =>
  rw [show S.exprC c r (.mk 34 x m p [u]) = .ok 1 by simp [KS.exprC,T.kind,Z,H,Except.bind]]
  go_enter Tryz.func157,Tryz.ntmps157
  go_wp2_with fail; rw [<- d]; clear d; refine wp_region_held_drew (S := fun w9 => q.grownBy w9 none) (by kernel_rfl) ?_ (fun hHeld => ?_)
  ·exact zh (zc q none)
  refine kQ 0 41 (.pointer (some ⟨b,0,none⟩)) hHeld ?_; simp only [qA,qB,qC,qD]; refine kQ 1 42 (.pointer (some ⟨w.heap.size,4,none⟩)) hHeld ?_; simp only [qA,qB,qC,qD]; refine dk 2 (some 43) (.slice (some ⟨g,o,none⟩) 1 k) rfl rfl (fun w9 hS => by obtain ⟨L,s,M,N,O⟩ := (Box.kept K.out hS).plain; go_simp) hHeld ?_; simp only [qA,qB,qC,qD]; refine kQ 3 44 (.pointer (some ⟨g,o,none⟩)) hHeld ?_; simp only [qA,qB,qC,qD]; refine dk 4 (some 45) (zn u i) rfl rfl (fun w9 hS => by obtain ⟨L,s,M,N,O⟩ := Node5.kept F.out (za f.out hS); go_simp) hHeld ?_; simp only [qA,qB,qC,qD]; refine kQ 5 46 (.pointer (some ⟨b,0,none⟩)) hHeld ?_; simp only [qA,qB,qC,qD]; refine kQ 6 47 (.pointer (some ⟨b,0,none⟩)) hHeld ?_; simp only [qA,qB,qC,qD]; refine kQ 7 48 (.pointer (some ⟨b,0,none⟩)) hHeld ?_; simp only [qA,qB,qC,qD]; refine kQ 8 49 (.pointer (some ⟨b,0,none⟩)) hHeld ?_; simp only [qA,qB,qC,qD]; refine dk 9 (some 50) (.pointer (some ⟨ρ.wd,0,none⟩)) rfl rfl (fun w9 hS => by have s := zi (za f.out hS) s0.out; go_simp) hHeld ?_; simp only [qA,qB,qC,qD]; refine kQ 10 51 (.pointer (some ⟨ρ.wd,0,none⟩)) hHeld ?_; simp only [qA,qB,qC,qD]; refine kQ 11 52 (.pointer (some ⟨ρ.wd,1,none⟩)) hHeld ?_; simp only [qA,qB,qC,qD]; refine dk 12 (some 53) (.pointer (some ⟨ρ.ty 1,0,none⟩)) rfl rfl (fun w9 hS => by have s := zi (za f.out hS) j.out; go_simp) hHeld ?_; simp only [qA,qB,qC,qD]; refine rd 13 rfl fun KK hKK => ?_
  go_simp
  go_at_call 116; refine (V.out _ (zh f.out) i Y.out X.out).mono ?_; rw [H]; rintro e w1 ⟨v,rfl⟩; have B := ze (za (zh f.out) v); have C := ze (za (zh (zc q none)) v); clear v
  go_simp
  refine hKK.out _ _ C.out fun hHeld => ?_
  clear hKK KK; refine wpAnyH_done (by kernel_rfl) ?_ _; clear hHeld; have B1 : Hid (Box w1 w.heap.size (.mk 34 x m p [u]) (.slice (some ⟨g,o,none⟩) 1 k)) := Box.kept K.out C.out; have a0 := zi B.out s0.out; have Q := zi B.out I.out; have R := zi B.out j.out; have U := zi B.out J.out; go_wp2
  go_ret
  exact Cy.ok B.out
theorem rV (h : CK ρ w S b c) (n : T) (sv : Value) (hf : Fits n) (ha : AT w n.subs sv) {r : KR} {u : T} (hk : n.kind = 35) (hl : n.subs = [u]) (hu : CEx ρ S b c r u) :
  Calls Tryz.prog 157 #[.pointer (some ⟨b,0,none⟩),zn n sv] w (Cy w ((S.exprC c r n).map fun t => .pointer (some ⟨ρ.ty t,0,none⟩))) := by
 have h3 := h.ok.three; have V := ze (fun w1 (G : w.grownBy w1 none) i (D : Fits u) (E : AT w u.subs i) => ue (h.up G) u i D (E.kept G) (t := 0) (by omega) hu); have s0 : Hid _ := h.s0; have j : Hid _ := h.km.wc0; have I : Hid _ := h.km.wc1; have J : Hid _ := h.km.wc2; obtain ⟨A,x,m,p,l⟩ := n; obtain rfl : l = [u] := hl; obtain ⟨g,o,k,i,rfl,a1,a2,F,D,E,-⟩ := ha.cons; have X := ze E; have Y := ze D
 replace F := ze F
 clear D E
 change Calls Tryz.prog 157 #[.pointer (some ⟨b,0,none⟩),.agg #[.int .i64 A,.string ⟨x.toArray⟩,.int .i64 m,.int .i64 p,.slice (some ⟨g,o,none⟩) 1 k]] w _
 obtain ⟨q,d⟩ : ∃ z,z = w.alloc (.cells #[.int .i64 A,.string ⟨x.toArray⟩,.int .i64 m,.int .i64 p,.slice (some ⟨g,o,none⟩) 1 k] 100) := ⟨_,rfl⟩
 have f : Hid (w.grownBy q none) := by rw [d]; exact zf (zc w none) _
 have K : Hid (Box q w.heap.size (.mk A x m p [u]) (.slice (some ⟨g,o,none⟩) 1 k)) := by rw [d]; exact Box.new w (.mk A x m p [u]) (.slice (some ⟨g,o,none⟩) 1 k) _
 obtain rfl : A = 35 := hk; clear h ha hf hu
 have Z : sub (.mk 35 x m p [u]) 0 = u := rfl
 cases H : yP r u 0 with
 | error z =>
  rw [show S.exprC c r (.mk 35 x m p [u]) = .error z by simp [KS.exprC,T.kind,Z,H,Except.bind]]
  go_enter Tryz.func157,Tryz.ntmps157
  go_wp2_with fail; rw [<- d]; clear d; refine wp_region_held_drew (S := fun w9 => q.grownBy w9 none) (by kernel_rfl) ?_ (fun hHeld => ?_)
  ·exact zh (zc q none)
  refine kQ 0 65 (.pointer (some ⟨b,0,none⟩)) hHeld ?_; simp only [qA,qB,qC,qD]; refine kQ 1 66 (.pointer (some ⟨w.heap.size,4,none⟩)) hHeld ?_; simp only [qA,qB,qC,qD]; refine dk 2 (some 67) (.slice (some ⟨g,o,none⟩) 1 k) rfl rfl (fun w9 hS => by obtain ⟨L,s,M,N,O⟩ := (Box.kept K.out hS).plain; go_simp) hHeld ?_; simp only [qA,qB,qC,qD]; refine kQ 3 68 (.pointer (some ⟨g,o,none⟩)) hHeld ?_; simp only [qA,qB,qC,qD]; refine dk 4 (some 69) (zn u i) rfl rfl (fun w9 hS => by obtain ⟨L,s,M,N,O⟩ := Node5.kept F.out (za f.out hS); go_simp) hHeld ?_; simp only [qA,qB,qC,qD]; refine kQ 5 70 (.pointer (some ⟨b,0,none⟩)) hHeld ?_; simp only [qA,qB,qC,qD]; refine kQ 6 71 (.pointer (some ⟨b,0,none⟩)) hHeld ?_; simp only [qA,qB,qC,qD]; refine kQ 7 72 (.pointer (some ⟨b,0,none⟩)) hHeld ?_; simp only [qA,qB,qC,qD]; refine kQ 8 73 (.pointer (some ⟨b,0,none⟩)) hHeld ?_; simp only [qA,qB,qC,qD]; refine dk 9 (some 74) (.pointer (some ⟨ρ.wd,0,none⟩)) rfl rfl (fun w9 hS => by have s := zi (za f.out hS) s0.out; go_simp) hHeld ?_; simp only [qA,qB,qC,qD]; refine kQ 10 75 (.pointer (some ⟨ρ.wd,0,none⟩)) hHeld ?_; simp only [qA,qB,qC,qD]; refine kQ 11 76 (.pointer (some ⟨ρ.wd,0,none⟩)) hHeld ?_; simp only [qA,qB,qC,qD]; refine dk 12 (some 77) (.pointer (some ⟨ρ.ty 0,0,none⟩)) rfl rfl (fun w9 hS => by have s := zi (za f.out hS) j.out; go_simp) hHeld ?_; simp only [qA,qB,qC,qD]; refine rd 13 rfl fun KK hKK => ?_
  go_simp
  go_at_call 116; refine (V.out _ (zh f.out) i Y.out X.out).mono ?_; rw [H]; rintro e w1 h1; have HT := h1; obtain ⟨_,rfl⟩ := h1.thrown
  exact ⟨rfl,HT.err (zh f.out)⟩
 | ok _ =>
  rw [show S.exprC c r (.mk 35 x m p [u]) = .ok 0 by simp [KS.exprC,T.kind,Z,H,Except.bind]]
  go_enter Tryz.func157,Tryz.ntmps157
  go_wp2_with fail; rw [<- d]; clear d; refine wp_region_held_drew (S := fun w9 => q.grownBy w9 none) (by kernel_rfl) ?_ (fun hHeld => ?_)
  ·exact zh (zc q none)
  refine kQ 0 65 (.pointer (some ⟨b,0,none⟩)) hHeld ?_; simp only [qA,qB,qC,qD]; refine kQ 1 66 (.pointer (some ⟨w.heap.size,4,none⟩)) hHeld ?_; simp only [qA,qB,qC,qD]; refine dk 2 (some 67) (.slice (some ⟨g,o,none⟩) 1 k) rfl rfl (fun w9 hS => by obtain ⟨L,s,M,N,O⟩ := (Box.kept K.out hS).plain; go_simp) hHeld ?_; simp only [qA,qB,qC,qD]; refine kQ 3 68 (.pointer (some ⟨g,o,none⟩)) hHeld ?_; simp only [qA,qB,qC,qD]; refine dk 4 (some 69) (zn u i) rfl rfl (fun w9 hS => by obtain ⟨L,s,M,N,O⟩ := Node5.kept F.out (za f.out hS); go_simp) hHeld ?_; simp only [qA,qB,qC,qD]; refine kQ 5 70 (.pointer (some ⟨b,0,none⟩)) hHeld ?_; simp only [qA,qB,qC,qD]; refine kQ 6 71 (.pointer (some ⟨b,0,none⟩)) hHeld ?_; simp only [qA,qB,qC,qD]; refine kQ 7 72 (.pointer (some ⟨b,0,none⟩)) hHeld ?_; simp only [qA,qB,qC,qD]; refine kQ 8 73 (.pointer (some ⟨b,0,none⟩)) hHeld ?_; simp only [qA,qB,qC,qD]; refine dk 9 (some 74) (.pointer (some ⟨ρ.wd,0,none⟩)) rfl rfl (fun w9 hS => by have s := zi (za f.out hS) s0.out; go_simp) hHeld ?_; simp only [qA,qB,qC,qD]; refine kQ 10 75 (.pointer (some ⟨ρ.wd,0,none⟩)) hHeld ?_; simp only [qA,qB,qC,qD]; refine kQ 11 76 (.pointer (some ⟨ρ.wd,0,none⟩)) hHeld ?_; simp only [qA,qB,qC,qD]; refine dk 12 (some 77) (.pointer (some ⟨ρ.ty 0,0,none⟩)) rfl rfl (fun w9 hS => by have s := zi (za f.out hS) j.out; go_simp) hHeld ?_; simp only [qA,qB,qC,qD]; refine rd 13 rfl fun KK hKK => ?_
  go_simp
  go_at_call 116; refine (V.out _ (zh f.out) i Y.out X.out).mono ?_; rw [H]; rintro e w1 ⟨v,rfl⟩; have B := ze (za (zh f.out) v); have C := ze (za (zh (zc q none)) v); clear v
  go_simp
  refine hKK.out _ _ C.out fun hHeld => ?_
  clear hKK KK; refine wpAnyH_done (by kernel_rfl) ?_ _; clear hHeld; have B1 : Hid (Box w1 w.heap.size (.mk 35 x m p [u]) (.slice (some ⟨g,o,none⟩) 1 k)) := Box.kept K.out C.out; have a0 := zi B.out s0.out; have Q := zi B.out j.out; have R := zi B.out I.out; have U := zi B.out J.out; go_wp2
  go_ret
  exact Cy.ok B.out
theorem nl (h : CK ρ w S b c) (n : T) (sv : Value) (hf : Fits n) (ha : AT w n.subs sv) {r : KR} (hk : n.kind = 36) (hd : ∀ w1,w.grownBy w1 none -> Calls Tryz.prog 190 #[.pointer (some ⟨b,0,none⟩),zn n sv] w1 (Cy w1 ((S.operatorC r n).map fun t => .pointer (some ⟨ρ.ty t,0,none⟩)))) :
  Calls Tryz.prog 157 #[.pointer (some ⟨b,0,none⟩),zn n sv] w (Cy w ((S.exprC c r n).map fun t => .pointer (some ⟨ρ.ty t,0,none⟩))) := by
 have o := ze hd; have s0 : Hid _ := h.s0; have s : Hid _ := h.km.wc0; have u : Hid _ := h.km.wc1; have v : Hid _ := h.km.wc2; obtain ⟨f,x,m,p,l⟩ := n
 change Calls Tryz.prog 157 #[.pointer (some ⟨b,0,none⟩),.agg #[.int .i64 f,.string ⟨x.toArray⟩,.int .i64 m,.int .i64 p,sv]] w _
 obtain ⟨k,d⟩ : ∃ z,z = w.alloc (.cells #[.int .i64 f,.string ⟨x.toArray⟩,.int .i64 m,.int .i64 p,sv] 100) := ⟨_,rfl⟩
 have i : Hid (w.grownBy k none) := by rw [d]; exact zf (zc w none) _
 have A : Hid (Box k w.heap.size (.mk f x m p l) sv) := by rw [d]; exact Box.new w (.mk f x m p l) sv _
 obtain rfl : f = 36 := hk; clear h ha hf hd; cases j : S.operatorC r (.mk 36 x m p l) with
 | error z =>
  rw [show S.exprC c r (.mk 36 x m p l) = .error z by simp [KS.exprC,T.kind,j]]
  go_enter Tryz.func157,Tryz.ntmps157
  go_wp2_with fail; go_at_call 190; rw [<- d]; refine (o.out _ i.out).mono ?_; rw [j]; rintro e w1 q; have B := q; obtain ⟨_,rfl⟩ := q.thrown
  exact ⟨rfl,B.err i.out⟩
 | ok t =>
  rw [show S.exprC c r (.mk 36 x m p l) = .ok t by simp [KS.exprC,T.kind,j]]
  go_enter Tryz.func157,Tryz.ntmps157
  go_wp2_with fail; go_at_call 190; rw [<- d]; refine (o.out _ i.out).mono ?_; rw [j]; rintro e w1 ⟨g,rfl⟩; have C := ze (za i.out g); have D : Hid (Box w1 w.heap.size (.mk 36 x m p l) sv) := Box.kept A.out (za (zc k none) g); go_wp2
  go_ret
  exact Cy.ok C.out
theorem oY (h : CK ρ w S b c) (n : T) (sv : Value) (hf : Fits n) (ha : AT w n.subs sv) {r : KR} (hk : n.kind = 37) (hd : ∀ w1,w.grownBy w1 none -> Calls Tryz.prog 191 #[.pointer (some ⟨b,0,none⟩),zn n sv] w1 (Cy w1 ((S.guardedC c r n).map fun t => .pointer (some ⟨ρ.ty t,0,none⟩)))) :
  Calls Tryz.prog 157 #[.pointer (some ⟨b,0,none⟩),zn n sv] w (Cy w ((S.exprC c r n).map fun t => .pointer (some ⟨ρ.ty t,0,none⟩))) := by
 have C := ze hd; have s0 : Hid _ := h.s0; have o : Hid _ := h.km.wc0; have q : Hid _ := h.km.wc1; have s : Hid _ := h.km.wc2; obtain ⟨f,x,m,p,l⟩ := n
 change Calls Tryz.prog 157 #[.pointer (some ⟨b,0,none⟩),.agg #[.int .i64 f,.string ⟨x.toArray⟩,.int .i64 m,.int .i64 p,sv]] w _
 obtain ⟨u,d⟩ : ∃ z,z = w.alloc (.cells #[.int .i64 f,.string ⟨x.toArray⟩,.int .i64 m,.int .i64 p,sv] 100) := ⟨_,rfl⟩
 have j : Hid (w.grownBy u none) := by rw [d]; exact zf (zc w none) _
 have F : Hid (Box u w.heap.size (.mk f x m p l) sv) := by rw [d]; exact Box.new w (.mk f x m p l) sv _
 obtain rfl : f = 37 := hk; clear h ha hf hd; cases k : S.guardedC c r (.mk 37 x m p l) with
 | error z =>
  rw [show S.exprC c r (.mk 37 x m p l) = .error z by simp [KS.exprC,T.kind,k,Except.bind]]
  go_enter Tryz.func157,Tryz.ntmps157
  go_wp2_with fail; go_at_call 191; rw [<- d]; refine (C.out _ j.out).mono ?_; rw [k]; rintro e w1 D; have G := D; obtain ⟨_,rfl⟩ := D.thrown
  exact ⟨rfl,G.err j.out⟩
 | ok t =>
  rw [show S.exprC c r (.mk 37 x m p l) = .ok 1 by simp [KS.exprC,T.kind,k,Except.bind]]
  go_enter Tryz.func157,Tryz.ntmps157
  go_wp2_with fail; go_at_call 191; rw [<- d]; refine (C.out _ j.out).mono ?_; rw [k]; rintro e w1 ⟨g,rfl⟩; have i := ze (za j.out g); have H : Hid (Box w1 w.heap.size (.mk 37 x m p l) sv) := Box.kept F.out (za (zc u none) g); have E := zi i.out s0.out; have v := zi i.out o.out; have A := zi i.out q.out; have B := zi i.out s.out; go_wp2
  go_ret
  exact Cy.ok i.out
theorem sG (_h : CK ρ w S b c) (n : T) (sv : Value) (hf : Fits n) (ha : AT w n.subs sv) {r : KR} (hk : n.kind = 33) (hd : ∀ w1,w.grownBy w1 none -> Calls Tryz.prog 111 #[.pointer (some ⟨b,0,none⟩),zn n sv] w1 (Cy w1 ((S.callC c r n).map fun t => ρ.tyP t))) :
  Calls Tryz.prog 157 #[.pointer (some ⟨b,0,none⟩),zn n sv] w (Cy w ((S.exprC c r n).map fun t => .pointer (some ⟨ρ.ty t,0,none⟩))) := by
 have k := ze hd; obtain ⟨i,x,m,p,l⟩ := n
 change Calls Tryz.prog 157 #[.pointer (some ⟨b,0,none⟩),.agg #[.int .i64 i,.string ⟨x.toArray⟩,.int .i64 m,.int .i64 p,sv]] w _
 obtain ⟨j,d⟩ : ∃ z,z = w.alloc (.cells #[.int .i64 i,.string ⟨x.toArray⟩,.int .i64 m,.int .i64 p,sv] 100) := ⟨_,rfl⟩
 have g : Hid (w.grownBy j none) := by rw [d]; exact zf (zc w none) _
 have u : Hid (Box j w.heap.size (.mk i x m p l) sv) := by rw [d]; exact Box.new w (.mk i x m p l) sv _
 obtain rfl : i = 33 := hk; clear _h ha hf hd; cases h : S.callC c r (.mk 33 x m p l) with
 | error z =>
  rw [show S.exprC c r (.mk 33 x m p l) = .error z by simp [KS.exprC,T.kind,h,Except.bind]]
  go_enter Tryz.func157,Tryz.ntmps157
  go_wp2_with fail; go_at_call 111; rw [<- d]; refine (k.out _ g.out).mono ?_; rw [h]; rintro e w1 v; have o := v; obtain ⟨q,rfl⟩ := v.thrown
  exact ⟨rfl,o.err g.out⟩
 | ok t =>
  cases t with
  | none =>
   rw [show S.exprC c r (.mk 33 x m p l) = .error (7,p) by simp [KS.exprC,T.kind,h,Except.bind,thr,T.at']]
   go_enter Tryz.func157,Tryz.ntmps157
   go_wp2_with fail; go_at_call 111; rw [<- d]; refine (k.out _ g.out).mono ?_; rw [h]; rintro e w1 ⟨f,rfl⟩; simp only [uh]; have s := ze (za g.out f); have A : Hid (Box w1 w.heap.size (.mk 33 x m p l) sv) := Box.kept u.out (za (zc j none) f); obtain ⟨_,_,_,_,_⟩ := A.out.plain; go_wp2_with fail; go_at_call 53; refine (zu _ (.mk 33 x m p l) sv 7).mono ?_; rintro e C B; have o := B; obtain ⟨q,rfl⟩ := B.thrown
   exact ⟨rfl,o.err s.out⟩
  | some t =>
   rw [show S.exprC c r (.mk 33 x m p l) = .ok t by simp [KS.exprC,T.kind,h,Except.bind]]
   go_enter Tryz.func157,Tryz.ntmps157
   go_wp2_with fail; go_at_call 111; rw [<- d]; refine (k.out _ g.out).mono ?_; rw [h]; rintro e w1 ⟨f,rfl⟩; simp only [yd]; have s := ze (za g.out f); have A : Hid (Box w1 w.heap.size (.mk 33 x m p l) sv) := Box.kept u.out (za (zc j none) f); go_wp2
   go_ret
   exact Cy.ok s.out
theorem pE (_h : CK ρ w S b c) (n : T) (sv : Value) (hf : Fits n) (ha : AT w n.subs sv) {r : KR} (hk : zF n = true) (hd : ∀ w1,w.grownBy w1 none -> Calls Tryz.prog 161 #[.pointer (some ⟨b,0,none⟩),zn n sv] w1 (Cy w1 ((S.desigC c r n).map fun t => .pointer (some ⟨ρ.ty t,0,none⟩)))) :
  Calls Tryz.prog 157 #[.pointer (some ⟨b,0,none⟩),zn n sv] w (Cy w ((S.exprC c r n).map fun t => .pointer (some ⟨ρ.ty t,0,none⟩))) := by
 have k := ze hd; obtain ⟨i,x,m,p,l⟩ := n
 change Calls Tryz.prog 157 #[.pointer (some ⟨b,0,none⟩),.agg #[.int .i64 i,.string ⟨x.toArray⟩,.int .i64 m,.int .i64 p,sv]] w _
 obtain ⟨u,f⟩ : ∃ z,z = w.alloc (.cells #[.int .i64 i,.string ⟨x.toArray⟩,.int .i64 m,.int .i64 p,sv] 100) := ⟨_,rfl⟩
 have g : Hid (w.grownBy u none) := by rw [f]; exact zf (zc w none) _
 have v : Hid (Box u w.heap.size (.mk i x m p l) sv) := by rw [f]; exact Box.new w (.mk i x m p l) sv _
 have A : i = 24 \/ i = 25 \/ i = 26 \/ i = 27 \/ i = 28 := by
  simp only [zF,T.kind,Bool.and_eq_true] at hk; have h := of_decide_eq_true hk.1; have C := of_decide_eq_true hk.2
  omega
 clear _h ha hf hd hk; cases j : S.desigC c r (.mk i x m p l) with
 | error z =>
  rw [show S.exprC c r (.mk i x m p l) = .error z by rcases A with rfl | rfl | rfl | rfl | rfl <;> simp [KS.exprC,T.kind,j]]
  rcases A with rfl | rfl | rfl | rfl | rfl
  ·skip
   go_enter Tryz.func157,Tryz.ntmps157
   go_wp2_with fail; go_at_call 161; rw [<- f]; refine (k.out _ g.out).mono ?_; rw [j]; rintro e w1 h; have o := h; obtain ⟨q,rfl⟩ := h.thrown
   exact ⟨rfl,o.err g.out⟩
  ·skip
   go_enter Tryz.func157,Tryz.ntmps157
   go_wp2_with fail; go_at_call 161; rw [<- f]; refine (k.out _ g.out).mono ?_; rw [j]; rintro e w1 h; have o := h; obtain ⟨q,rfl⟩ := h.thrown
   exact ⟨rfl,o.err g.out⟩
  ·skip
   go_enter Tryz.func157,Tryz.ntmps157
   go_wp2_with fail; go_at_call 161; rw [<- f]; refine (k.out _ g.out).mono ?_; rw [j]; rintro e w1 h; have o := h; obtain ⟨q,rfl⟩ := h.thrown
   exact ⟨rfl,o.err g.out⟩
  ·skip
   go_enter Tryz.func157,Tryz.ntmps157
   go_wp2_with fail; go_at_call 161; rw [<- f]; refine (k.out _ g.out).mono ?_; rw [j]; rintro e w1 h; have o := h; obtain ⟨q,rfl⟩ := h.thrown
   exact ⟨rfl,o.err g.out⟩
  ·skip
   go_enter Tryz.func157,Tryz.ntmps157
   go_wp2_with fail; go_at_call 161; rw [<- f]; refine (k.out _ g.out).mono ?_; rw [j]; rintro e w1 h; have o := h; obtain ⟨q,rfl⟩ := h.thrown
   exact ⟨rfl,o.err g.out⟩
 | ok t =>
  rw [show S.exprC c r (.mk i x m p l) = .ok t by rcases A with rfl | rfl | rfl | rfl | rfl <;> simp [KS.exprC,T.kind,j]]
  rcases A with rfl | rfl | rfl | rfl | rfl
  ·skip
   go_enter Tryz.func157,Tryz.ntmps157
   go_wp2_with fail; go_at_call 161; rw [<- f]; refine (k.out _ g.out).mono ?_; rw [j]; rintro e w1 ⟨d,rfl⟩; have s := ze (za g.out d); have B : Hid (Box w1 w.heap.size (.mk 24 x m p l) sv) := Box.kept v.out (za (zc u none) d); go_wp2
   go_ret
   exact Cy.ok s.out
  ·skip
   go_enter Tryz.func157,Tryz.ntmps157
   go_wp2_with fail; go_at_call 161; rw [<- f]; refine (k.out _ g.out).mono ?_; rw [j]; rintro e w1 ⟨d,rfl⟩; have s := ze (za g.out d); have B : Hid (Box w1 w.heap.size (.mk 25 x m p l) sv) := Box.kept v.out (za (zc u none) d); go_wp2
   go_ret
   exact Cy.ok s.out
  ·skip
   go_enter Tryz.func157,Tryz.ntmps157
   go_wp2_with fail; go_at_call 161; rw [<- f]; refine (k.out _ g.out).mono ?_; rw [j]; rintro e w1 ⟨d,rfl⟩; have s := ze (za g.out d); have B : Hid (Box w1 w.heap.size (.mk 26 x m p l) sv) := Box.kept v.out (za (zc u none) d); go_wp2
   go_ret
   exact Cy.ok s.out
  ·skip
   go_enter Tryz.func157,Tryz.ntmps157
   go_wp2_with fail; go_at_call 161; rw [<- f]; refine (k.out _ g.out).mono ?_; rw [j]; rintro e w1 ⟨d,rfl⟩; have s := ze (za g.out d); have B : Hid (Box w1 w.heap.size (.mk 27 x m p l) sv) := Box.kept v.out (za (zc u none) d); go_wp2
   go_ret
   exact Cy.ok s.out
  ·skip
   go_enter Tryz.func157,Tryz.ntmps157
   go_wp2_with fail; go_at_call 161; rw [<- f]; refine (k.out _ g.out).mono ?_; rw [j]; rintro e w1 ⟨d,rfl⟩; have s := ze (za g.out d); have B : Hid (Box w1 w.heap.size (.mk 28 x m p l) sv) := Box.kept v.out (za (zc u none) d); go_wp2
   go_ret
   exact Cy.ok s.out
end
section
variable {ρ : Lay} {w w' w1 : World} {S : KS} {b : Nat} {c : KSc}
theorem fJ {α : Type} {f : α -> CR Unit} {l : List α} {j : Nat} {v : α} (hv : l[j]? = some v) : yD f (l.drop j) = (f v).bind fun _ => yD f (l.drop (j + 1)) := by
 obtain ⟨d,rfl⟩ := List.getElem?_eq_some_iff.1 hv; rw [List.drop_eq_getElem_cons d]
 rfl
theorem df (h : CK ρ w S b c) {f : T -> CR Unit} {l : List T} {sv : Value} (ha : AT w l sv) (hfn : ∀ n ∈ l,∀ (w1 : World) (sv : Value),w.grownBy w1 none -> Fits n -> AT w1 n.subs sv -> Calls Tryz.prog 77 #[.pointer (some ⟨b,0,none⟩),zn n sv] w1 (Cy w1 ((f n).map fun _ => .tuple #[]))) :
  Calls Tryz.prog 59 #[.pointer (some ⟨b,0,none⟩),sv] w (Cy w ((yD f l).map fun _ => .tuple #[])) := by
 have HK := ze h; have O := ze ha; have x := ze hfn; obtain ⟨_,_,rfl,_,A⟩ := ha.form
 unfold maxLen at A
 clear h ha hfn; obtain ⟨H,k⟩ : ∃ z,z = yD f l := ⟨_,rfl⟩; rw [<- k]
 go_enter Tryz.func59,Tryz.ntmps59
 go_wp2_with fail
 go_loopw [8] (fun iv wr => ∃ j : Nat,j <= l.length /\ iv = .int .i64 ↑j /\ Hid (yD f l = yD f (l.drop j)) /\ Hid (w.grownBy wr none)) (fun iv _ => l.length - (intOf iv).toNat)
 case atStart => exact ⟨0,Nat.zero_le _,rfl,by simp [Hid],zc _ _⟩
 case round =>
  obtain ⟨j,_,rfl,B,q⟩ := hrel
  by_cases C : j < l.length
  ·obtain ⟨v,r⟩ : ∃ v,l[j]? = some v := ⟨_,List.getElem?_eq_getElem C⟩
   obtain ⟨g,_,_,Q,i,I,D⟩ := O.out.node j v r; subst Q; obtain ⟨s,t,rfl,-,-⟩ := D.form; have J := ze (fJ (f := f) r); have K := ze (x.out v (List.mem_of_getElem? r)); have L := ze I; have M := ze D
   replace i := i.kept q.out
   have R := i.c0; have d1 := i.c1; have d2 := i.c2; have d3 := i.c3; have d4 := i.c4; have U : g < wr.heap.size := zw R; clear i I D r; cases u : f v with
   | error z =>
    obtain rfl : H = .error z := k.trans (by rw [B.out,J.out,u]; rfl); go_wp2_with fail; obtain ⟨o,d⟩ : ∃ z,z = wr.alloc (.cells #[.int .i64 v.kind,.string ⟨v.name.toArray⟩,.int .i64 v.num,.int .i64 v.at',.slice s v.subs.length t] 100) := ⟨_,rfl⟩; rw [<- d]
    have m : Hid (w.grownBy o none) := by rw [d]; exact zf q.out _
    have E : Hid (Box o wr.heap.size v (.slice s v.subs.length t)) := by rw [d]; exact Box.new wr v _ _
    clear d; obtain ⟨V,X,Y,Z,x4⟩ := E.out; go_wp2_with fail; go_at_call 77; refine (K.out _ _ m.out L.out (M.out.kept m.out)).mono ?_; rw [u]; rintro e w3 N; have HT := N; obtain ⟨_,rfl⟩ := N.thrown
    exact ⟨rfl,HT.err m.out⟩
   | ok _ =>
    go_wp2_with fail; obtain ⟨o,d⟩ : ∃ z,z = wr.alloc (.cells #[.int .i64 v.kind,.string ⟨v.name.toArray⟩,.int .i64 v.num,.int .i64 v.at',.slice s v.subs.length t] 100) := ⟨_,rfl⟩; rw [<- d]
    have m : Hid (w.grownBy o none) := by rw [d]; exact zf q.out _
    have E : Hid (Box o wr.heap.size v (.slice s v.subs.length t)) := by rw [d]; exact Box.new wr v _ _
    clear d; obtain ⟨V,X,Y,Z,x4⟩ := E.out; go_wp2_with fail; go_at_call 77; refine (K.out _ _ m.out L.out (M.out.kept m.out)).mono ?_; rw [u]; rintro e w3 ⟨F,rfl⟩; have G3 := ze (za m.out F)
    have G : Hid (yD f l = yD f (l.drop (j + 1))) := by show _ = _; rw [B.out,J.out,u]; rfl
    go_wp2_with fail
    go_roundw
    case rel => exact ⟨j + 1,by omega,by go_num,G,G3.out⟩
    case measure => first | omega | (simp only [intOf]; omega) | (simp; omega)
  ·obtain rfl : H = .ok () := k.trans (by rw [B.out,List.drop_eq_nil_of_le (by omega)]; rfl)
   go_wp2; refine bodyPost_end (results_none rfl _ _ _) rfl ?_
   exact Cy.ok q.out
theorem kO (h : CK ρ w S b c) {f : T -> CR Unit} {l : List T} {sv : Value} (ha : AT w l sv) (hfn : ∀ n ∈ l,(n.kind = 1 -> ∀ (w1 : World) (sv : Value),w.grownBy w1 none -> AT w1 n.subs sv -> Calls Tryz.prog 59 #[.pointer (some ⟨b,0,none⟩),sv] w1 (Cy w1 ((f n).map fun _ => .tuple #[]))) /\ (¬ n.kind = 1 -> ∀ (w1 : World) (sv : Value),w.grownBy w1 none -> Fits n -> AT w1 n.subs sv -> Calls Tryz.prog 116 #[.pointer (some ⟨b,0,none⟩),zn n sv,.pointer (some ⟨ρ.ty 1,0,none⟩)] w1 (Cy w1 ((f n).map fun _ => .tuple #[])))) :
  Calls Tryz.prog 112 #[.pointer (some ⟨b,0,none⟩),sv] w (Cy w ((yD f l).map fun _ => .tuple #[])) := by
 have HK := ze h; have HL := ze ha; have L := ze hfn; have s0 : Hid _ := h.s0; have D : Hid _ := h.km.wc1; obtain ⟨_,_,rfl,_,M⟩ := ha.form
 unfold maxLen at M
 clear h ha hfn; obtain ⟨N,t⟩ : ∃ z,z = yD f l := ⟨_,rfl⟩; rw [<- t]
 go_enter Tryz.func112,Tryz.ntmps112
 go_wp2_with fail
 go_loopw [8] (fun iv wr => ∃ j : Nat,j <= l.length /\ iv = .int .i64 ↑j /\ Hid (yD f l = yD f (l.drop j)) /\ Hid (w.grownBy wr none)) (fun iv _ => l.length - (intOf iv).toNat)
 case atStart => exact ⟨0,Nat.zero_le _,rfl,by simp [Hid],zc _ _⟩
 case round =>
  obtain ⟨j,_,rfl,E,C⟩ := hrel
  by_cases O : j < l.length
  ·obtain ⟨v,I⟩ : ∃ v,l[j]? = some v := ⟨_,List.getElem?_eq_getElem O⟩
   obtain ⟨g,_,_,e1,x,Z,Q⟩ := HL.out.node j v I; subst e1; obtain ⟨r,s,rfl,-,-⟩ := Q.form; have J := ze (fJ (f := f) I); have HV := ze (L.out v (List.mem_of_getElem? I)); have FV := ze Z; have K := ze Q
   replace x := x.kept C.out
   have R := x.c0; have d1 := x.c1; have d2 := x.c2; have d3 := x.c3; have d4 := x.c4; have a0 : g < wr.heap.size := zw R; clear x Z Q I
   by_cases A : v.kind = 1
   ·have hd := A
    have m := ze (HV.out.1 A); cases u : f v with
    | error z =>
     obtain rfl : N = .error z := t.trans (by rw [E.out,J.out,u]; rfl); rw [A] at R; go_wp2_with fail; obtain ⟨k,d⟩ : ∃ z,z = wr.alloc (.cells #[.int .i64 1,.string ⟨v.name.toArray⟩,.int .i64 v.num,.int .i64 v.at',.slice r v.subs.length s] 100) := ⟨_,rfl⟩; rw [<- d]
     have i : Hid (w.grownBy k none) := by rw [d]; exact zf C.out _
     have F : Hid (Box k wr.heap.size v (.slice r v.subs.length s)) := by rw [d]; rw [<- A]; exact Box.new wr v _ _
     clear d; go_wp2_with fail; go_at_call 59; refine (m.out _ _ i.out (K.out.kept i.out)).mono ?_; rw [u]; rintro e U G; have V := G; obtain ⟨q,rfl⟩ := G.thrown
     exact ⟨rfl,V.err i.out⟩
    | ok _ =>
     rw [A] at R; go_wp2_with fail; obtain ⟨k,d⟩ : ∃ z,z = wr.alloc (.cells #[.int .i64 1,.string ⟨v.name.toArray⟩,.int .i64 v.num,.int .i64 v.at',.slice r v.subs.length s] 100) := ⟨_,rfl⟩; rw [<- d]
     have i : Hid (w.grownBy k none) := by rw [d]; exact zf C.out _
     have F : Hid (Box k wr.heap.size v (.slice r v.subs.length s)) := by rw [d]; rw [<- A]; exact Box.new wr v _ _
     clear d; go_wp2_with fail; go_at_call 59; refine (m.out _ _ i.out (K.out.kept i.out)).mono ?_; rw [u]; rintro e U ⟨o,rfl⟩; have X := ze (za i.out o)
     have B : Hid (yD f l = yD f (l.drop (j + 1))) := by show _ = _; rw [E.out,J.out,u]; rfl
     go_wp2_with fail
     go_roundw
     case rel => exact ⟨j + 1,by omega,by go_num,B,X.out⟩
     case measure => first | omega | (simp only [intOf]; omega) | (simp; omega)
   ·have hd : decide (v.kind = 1) = false := by simpa using A
    have m := ze (HV.out.2 A); cases u : f v with
    | error z =>
     obtain rfl : N = .error z := t.trans (by rw [E.out,J.out,u]; rfl); go_wp2_with fail; obtain ⟨k,d⟩ : ∃ z,z = wr.alloc (.cells #[.int .i64 v.kind,.string ⟨v.name.toArray⟩,.int .i64 v.num,.int .i64 v.at',.slice r v.subs.length s] 100) := ⟨_,rfl⟩; rw [<- d]
     have i : Hid (w.grownBy k none) := by rw [d]; exact zf C.out _
     have F : Hid (Box k wr.heap.size v (.slice r v.subs.length s)) := by rw [d]; exact Box.new wr v _ _
     clear d
     skip
     refine wp_region_held_drew (S := fun w9 => k.grownBy w9 none) (by kernel_rfl) ?_ (fun hHeld => ?_)
     ·exact zh (zc k none)
     refine kQ 0 19 (.pointer (some ⟨b,0,none⟩)) hHeld ?_; simp only [qA,qB,qC,qD]; refine dk 1 (some 20) (zn v (.slice r v.subs.length s)) rfl rfl (fun w9 hS => by obtain ⟨q0,H,q2,q3,q4⟩ := Box.kept F.out hS; go_simp) hHeld ?_; simp only [qA,qB,qC,qD]; refine kQ 2 21 (.pointer (some ⟨b,0,none⟩)) hHeld ?_; simp only [qA,qB,qC,qD]; refine kQ 3 22 (.pointer (some ⟨b,0,none⟩)) hHeld ?_; simp only [qA,qB,qC,qD]; refine kQ 4 23 (.pointer (some ⟨b,0,none⟩)) hHeld ?_; simp only [qA,qB,qC,qD]; refine kQ 5 24 (.pointer (some ⟨b,0,none⟩)) hHeld ?_; simp only [qA,qB,qC,qD]; refine dk 6 (some 25) (.pointer (some ⟨ρ.wd,0,none⟩)) rfl rfl (fun w9 hS => by have H := zi (za i.out hS) s0.out; go_simp) hHeld ?_; simp only [qA,qB,qC,qD]; refine kQ 7 26 (.pointer (some ⟨ρ.wd,0,none⟩)) hHeld ?_; simp only [qA,qB,qC,qD]; refine kQ 8 27 (.pointer (some ⟨ρ.wd,1,none⟩)) hHeld ?_; simp only [qA,qB,qC,qD]; refine dk 9 (some 28) (.pointer (some ⟨ρ.ty 1,0,none⟩)) rfl rfl (fun w9 hS => by have H := zi (za i.out hS) D.out; go_simp) hHeld ?_; simp only [qA,qB,qC,qD]; refine rd 10 rfl fun KK hKK => ?_
     go_simp
     go_at_call 116; refine (m.out _ _ (zh i.out) FV.out (K.out.kept (zh i.out))).mono ?_; rw [u]; rintro e U G; have V := G; obtain ⟨q,rfl⟩ := G.thrown
     exact ⟨rfl,V.err (zh i.out)⟩
    | ok _ =>
     go_wp2_with fail; obtain ⟨k,d⟩ : ∃ z,z = wr.alloc (.cells #[.int .i64 v.kind,.string ⟨v.name.toArray⟩,.int .i64 v.num,.int .i64 v.at',.slice r v.subs.length s] 100) := ⟨_,rfl⟩; rw [<- d]
     have i : Hid (w.grownBy k none) := by rw [d]; exact zf C.out _
     have F : Hid (Box k wr.heap.size v (.slice r v.subs.length s)) := by rw [d]; exact Box.new wr v _ _
     clear d
     skip
     refine wp_region_held_drew (S := fun w9 => k.grownBy w9 none) (by kernel_rfl) ?_ (fun hHeld => ?_)
     ·exact zh (zc k none)
     refine kQ 0 19 (.pointer (some ⟨b,0,none⟩)) hHeld ?_; simp only [qA,qB,qC,qD]; refine dk 1 (some 20) (zn v (.slice r v.subs.length s)) rfl rfl (fun w9 hS => by obtain ⟨q0,H,q2,q3,q4⟩ := Box.kept F.out hS; go_simp) hHeld ?_; simp only [qA,qB,qC,qD]; refine kQ 2 21 (.pointer (some ⟨b,0,none⟩)) hHeld ?_; simp only [qA,qB,qC,qD]; refine kQ 3 22 (.pointer (some ⟨b,0,none⟩)) hHeld ?_; simp only [qA,qB,qC,qD]; refine kQ 4 23 (.pointer (some ⟨b,0,none⟩)) hHeld ?_; simp only [qA,qB,qC,qD]; refine kQ 5 24 (.pointer (some ⟨b,0,none⟩)) hHeld ?_; simp only [qA,qB,qC,qD]; refine dk 6 (some 25) (.pointer (some ⟨ρ.wd,0,none⟩)) rfl rfl (fun w9 hS => by have H := zi (za i.out hS) s0.out; go_simp) hHeld ?_; simp only [qA,qB,qC,qD]; refine kQ 7 26 (.pointer (some ⟨ρ.wd,0,none⟩)) hHeld ?_; simp only [qA,qB,qC,qD]; refine kQ 8 27 (.pointer (some ⟨ρ.wd,1,none⟩)) hHeld ?_; simp only [qA,qB,qC,qD]; refine dk 9 (some 28) (.pointer (some ⟨ρ.ty 1,0,none⟩)) rfl rfl (fun w9 hS => by have H := zi (za i.out hS) D.out; go_simp) hHeld ?_; simp only [qA,qB,qC,qD]; refine rd 10 rfl fun KK hKK => ?_
     go_simp
     go_at_call 116; refine (m.out _ _ (zh i.out) FV.out (K.out.kept (zh i.out))).mono ?_; rw [u]; rintro e U ⟨o,rfl⟩; have X := ze (za (zh i.out) o); have Y := ze (za (zh (zc k none)) o); clear o
     go_simp
     refine hKK.out _ _ Y.out fun hHeld => ?_
     clear hKK KK; refine wpAnyH_done (by kernel_rfl) ?_ _; clear hHeld
     have B : Hid (yD f l = yD f (l.drop (j + 1))) := by show _ = _; rw [E.out,J.out,u]; rfl
     go_wp2_with fail
     go_roundw
     case rel => exact ⟨j + 1,by omega,by go_num,B,X.out⟩
     case measure => first | omega | (simp only [intOf]; omega) | (simp; omega)
  ·obtain rfl : N = .ok () := t.trans (by rw [E.out,List.drop_eq_nil_of_le (by omega)]; rfl)
   go_wp2; refine bodyPost_end (results_none rfl _ _ _) rfl ?_
   exact Cy.ok C.out
end
end Go.Proofs.YtnmkffjklpfflaaGreatDoor
