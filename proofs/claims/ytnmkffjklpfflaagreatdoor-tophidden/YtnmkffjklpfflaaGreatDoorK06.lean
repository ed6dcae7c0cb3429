/- Acts,kind by kind. -/
import Derived.Test.YtnmkffjklpfflaaGreatDoorK02
import Derived.Test.YtnmkffjklpfflaaGreatDoorK04
namespace Go.Proofs.YtnmkffjklpfflaaGreatDoor
open Go.RowKit
set_option maxHeartbeats 4000000
set_option maxRecDepth 100000
section
variable {ρ : Lay} {w w' w1 : World} {S : KS} {b : Nat} {c : KSc}
theorem tW (_h : CK ρ w S b c) (n : T) (sv : Value) (hf : Fits n) (ha : AT w n.subs sv) {r : KR} {res : Option Nat} {acts : List T -> CR Unit} (hk : n.kind = 14) (hd : ∀ w1,w.grownBy w1 none -> Calls Tryz.prog 110 #[.pointer (some ⟨b,0,none⟩),zn n sv] w1 (Cy w1 ((S.assignC c r n).map fun _ => .tuple #[]))) :
  Calls Tryz.prog 77 #[.pointer (some ⟨b,0,none⟩),zn n sv] w (Cy w ((S.actC c r res acts n).map fun _ => .tuple #[])) := by
 have j := ze hd; obtain ⟨f,x,m,p,l⟩ := n
 change Calls Tryz.prog 77 #[.pointer (some ⟨b,0,none⟩),.agg #[.int .i64 f,.string ⟨x.toArray⟩,.int .i64 m,.int .i64 p,sv]] w _
 obtain ⟨i,d⟩ : ∃ z,z = w.alloc (.cells #[.int .i64 f,.string ⟨x.toArray⟩,.int .i64 m,.int .i64 p,sv] 100) := ⟨_,rfl⟩
 have h : Hid (w.grownBy i none) := by rw [d]; exact zf (zc w none) _
 have q : Hid (Box i w.heap.size (.mk f x m p l) sv) := by rw [d]; exact Box.new w (.mk f x m p l) sv _
 obtain rfl : f = 14 := hk; clear _h ha hf hd; rw [show S.actC c r res acts (.mk 14 x m p l) = S.assignC c r (.mk 14 x m p l) by simp [KS.actC,KS.assignC,T.kind]]; cases k : S.assignC c r (.mk 14 x m p l) with
 | error z =>
  go_enter Tryz.func77,Tryz.ntmps77
  go_wp2_with fail; go_at_call 110; rw [<- d]; refine (j.out _ h.out).mono ?_; rw [k]; rintro e w1 o; have s := o; obtain ⟨_,rfl⟩ := o.thrown
  exact ⟨rfl,s.err h.out⟩
 | ok _ =>
  go_enter Tryz.func77,Tryz.ntmps77
  go_wp2_with fail; go_at_call 110; rw [<- d]; refine (j.out _ h.out).mono ?_; rw [k]; rintro e w1 ⟨g,rfl⟩; have t := ze (za h.out g); have u : Hid (Box w1 w.heap.size (.mk 14 x m p l) sv) := Box.kept q.out (za (zc i none) g); go_wp2; refine bodyPost_end (results_none rfl _ _ _) rfl ?_
  exact Cy.ok t.out
theorem sx (_h : CK ρ w S b c) (n : T) (sv : Value) (hf : Fits n) (ha : AT w n.subs sv) {r : KR} {res : Option Nat} {acts : List T -> CR Unit} (hk : n.kind = 19) (hd : ∀ w1,w.grownBy w1 none -> Calls Tryz.prog 113 #[.pointer (some ⟨b,0,none⟩),zn n sv] w1 (Cy w1 ((S.returnC r res n).map fun _ => .tuple #[]))) :
  Calls Tryz.prog 77 #[.pointer (some ⟨b,0,none⟩),zn n sv] w (Cy w ((S.actC c r res acts n).map fun _ => .tuple #[])) := by
 have j := ze hd; obtain ⟨f,x,m,p,l⟩ := n
 change Calls Tryz.prog 77 #[.pointer (some ⟨b,0,none⟩),.agg #[.int .i64 f,.string ⟨x.toArray⟩,.int .i64 m,.int .i64 p,sv]] w _
 obtain ⟨i,d⟩ : ∃ z,z = w.alloc (.cells #[.int .i64 f,.string ⟨x.toArray⟩,.int .i64 m,.int .i64 p,sv] 100) := ⟨_,rfl⟩
 have h : Hid (w.grownBy i none) := by rw [d]; exact zf (zc w none) _
 have q : Hid (Box i w.heap.size (.mk f x m p l) sv) := by rw [d]; exact Box.new w (.mk f x m p l) sv _
 obtain rfl : f = 19 := hk; clear _h ha hf hd; rw [show S.actC c r res acts (.mk 19 x m p l) = S.returnC r res (.mk 19 x m p l) by simp [KS.actC,T.kind]]; cases k : S.returnC r res (.mk 19 x m p l) with
 | error z =>
  go_enter Tryz.func77,Tryz.ntmps77
  go_wp2_with fail; go_at_call 113; rw [<- d]; refine (j.out _ h.out).mono ?_; rw [k]; rintro e w1 o; have s := o; obtain ⟨_,rfl⟩ := o.thrown
  exact ⟨rfl,s.err h.out⟩
 | ok _ =>
  go_enter Tryz.func77,Tryz.ntmps77
  go_wp2_with fail; go_at_call 113; rw [<- d]; refine (j.out _ h.out).mono ?_; rw [k]; rintro e w1 ⟨g,rfl⟩; have t := ze (za h.out g); have u : Hid (Box w1 w.heap.size (.mk 19 x m p l) sv) := Box.kept q.out (za (zc i none) g); go_wp2; refine bodyPost_end (results_none rfl _ _ _) rfl ?_
  exact Cy.ok t.out
theorem nT (_h : CK ρ w S b c) (n : T) (sv : Value) (hf : Fits n) (ha : AT w n.subs sv) {r : KR} {res : Option Nat} {acts : List T -> CR Unit} (hk : n.kind = 15) (hd : ∀ w1,w.grownBy w1 none -> Calls Tryz.prog 111 #[.pointer (some ⟨b,0,none⟩),zn n sv] w1 (Cy w1 ((S.callC c r n).map fun t => ρ.tyP t))) :
  Calls Tryz.prog 77 #[.pointer (some ⟨b,0,none⟩),zn n sv] w (Cy w ((S.actC c r res acts n).map fun _ => .tuple #[])) := by
 have A := ze hd; obtain ⟨i,x,m,p,l⟩ := n
 change Calls Tryz.prog 77 #[.pointer (some ⟨b,0,none⟩),.agg #[.int .i64 i,.string ⟨x.toArray⟩,.int .i64 m,.int .i64 p,sv]] w _
 obtain ⟨v,d⟩ : ∃ z,z = w.alloc (.cells #[.int .i64 i,.string ⟨x.toArray⟩,.int .i64 m,.int .i64 p,sv] 100) := ⟨_,rfl⟩
 have g : Hid (w.grownBy v none) := by rw [d]; exact zf (zc w none) _
 have E : Hid (Box v w.heap.size (.mk i x m p l) sv) := by rw [d]; exact Box.new w (.mk i x m p l) sv _
 obtain rfl : i = 15 := hk; clear _h ha hf hd; cases h : S.callC c r (.mk 15 x m p l) with
 | error z =>
  rw [show S.actC c r res acts (.mk 15 x m p l) = .error z by simp [KS.actC,T.kind,h,Except.bind]]
  go_enter Tryz.func77,Tryz.ntmps77
  go_wp2_with fail; go_at_call 111; rw [<- d]; refine (A.out _ g.out).mono ?_; rw [h]; rintro e w1 F; have B := F; obtain ⟨q,rfl⟩ := F.thrown
  exact ⟨rfl,B.err g.out⟩
 | ok t =>
  cases t with
  | none =>
   rw [show S.actC c r res acts (.mk 15 x m p l) = .ok () by simp [KS.actC,T.kind,h,Except.bind]]
   go_enter Tryz.func77,Tryz.ntmps77
   go_wp2_with fail; go_at_call 111; rw [<- d]; refine (A.out _ g.out).mono ?_; rw [h]; rintro e w1 ⟨f,rfl⟩; simp only [uh]; have C := ze (za g.out f); have D : Hid (Box w1 w.heap.size (.mk 15 x m p l) sv) := Box.kept E.out (za (zc v none) f); obtain ⟨j,k,o,s,u⟩ := D.out.plain; go_wp2; refine bodyPost_end (results_none rfl _ _ _) rfl ?_
   exact Cy.ok C.out
  | some t =>
   rw [show S.actC c r res acts (.mk 15 x m p l) = .error (7,p) by simp [KS.actC,T.kind,h,Except.bind,thr,T.at']]
   go_enter Tryz.func77,Tryz.ntmps77
   go_wp2_with fail; go_at_call 111; rw [<- d]; refine (A.out _ g.out).mono ?_; rw [h]; rintro e w1 ⟨f,rfl⟩; simp only [yd]; have C := ze (za g.out f); have D : Hid (Box w1 w.heap.size (.mk 15 x m p l) sv) := Box.kept E.out (za (zc v none) f); obtain ⟨j,k,o,s,u⟩ := D.out.plain; go_wp2_with fail; go_at_call 53; refine (zu _ (.mk 15 x m p l) sv 7).mono ?_; rintro e H G; have B := G; obtain ⟨q,rfl⟩ := G.thrown
   exact ⟨rfl,B.err C.out⟩
theorem pZ (_h : CK ρ w S b c) (n : T) (sv : Value) (hf : Fits n) (ha : AT w n.subs sv) {r : KR} {res : Option Nat} {acts : List T -> CR Unit} (hk : n.kind = 16) (hd : ∀ w1,w.grownBy w1 none -> Calls Tryz.prog 112 #[.pointer (some ⟨b,0,none⟩),sv] w1 (Cy w1 ((yD (fun y => if y.kind = 1 then acts y.subs else yP r y 1) n.subs).map fun _ => .tuple #[]))) :
  Calls Tryz.prog 77 #[.pointer (some ⟨b,0,none⟩),zn n sv] w (Cy w ((S.actC c r res acts n).map fun _ => .tuple #[])) := by
 have q := ze hd; obtain ⟨f,g,k,-,-⟩ := ha.form; subst k; obtain ⟨h,x,m,p,l⟩ := n
 change Calls Tryz.prog 77 #[.pointer (some ⟨b,0,none⟩),.agg #[.int .i64 h,.string ⟨x.toArray⟩,.int .i64 m,.int .i64 p,.slice f l.length g]] w _
 obtain ⟨o,d⟩ : ∃ z,z = w.alloc (.cells #[.int .i64 h,.string ⟨x.toArray⟩,.int .i64 m,.int .i64 p,.slice f l.length g] 100) := ⟨_,rfl⟩
 have j : Hid (w.grownBy o none) := by rw [d]; exact zf (zc w none) _
 have u : Hid (Box o w.heap.size (.mk h x m p l) (.slice f l.length g)) := by rw [d]; exact Box.new w (.mk h x m p l) (.slice f l.length g) _
 obtain rfl : h = 16 := hk; clear _h ha hf hd; rw [show S.actC c r res acts (.mk 16 x m p l) = yD (fun y => if y.kind = 1 then acts y.subs else yP r y 1) l by simp [KS.actC,T.kind,T.subs]]; cases s : yD (fun y => if y.kind = 1 then acts y.subs else yP r y 1) l with
 | error z =>
  go_enter Tryz.func77,Tryz.ntmps77
  go_wp2_with fail; go_at_call 112; rw [<- d]; refine (q.out _ j.out).mono ?_; rw [show (T.mk 16 x m p l).subs = l from rfl,s]; rintro e w1 t; have v := t; obtain ⟨_,rfl⟩ := t.thrown
  exact ⟨rfl,v.err j.out⟩
 | ok _ =>
  go_enter Tryz.func77,Tryz.ntmps77
  go_wp2_with fail; go_at_call 112; rw [<- d]; refine (q.out _ j.out).mono ?_; rw [show (T.mk 16 x m p l).subs = l from rfl,s]; rintro e w1 ⟨i,rfl⟩; have A := ze (za j.out i); have B : Hid (Box w1 w.heap.size (.mk 16 x m p l) (.slice f l.length g)) := Box.kept u.out (za (zc o none) i); go_wp2; refine bodyPost_end (results_none rfl _ _ _) rfl ?_
  exact Cy.ok A.out
theorem oW (_h : CK ρ w S b c) (n : T) (sv : Value) (hf : Fits n) (ha : AT w n.subs sv) {r : KR} {res : Option Nat} {acts : List T -> CR Unit} (hk : n.kind = 17) (hd : ∀ w1,w.grownBy w1 none -> Calls Tryz.prog 112 #[.pointer (some ⟨b,0,none⟩),sv] w1 (Cy w1 ((yD (fun y => if y.kind = 1 then acts y.subs else yP r y 1) n.subs).map fun _ => .tuple #[]))) :
  Calls Tryz.prog 77 #[.pointer (some ⟨b,0,none⟩),zn n sv] w (Cy w ((S.actC c r res acts n).map fun _ => .tuple #[])) := by
 have q := ze hd; obtain ⟨f,g,k,-,-⟩ := ha.form; subst k; obtain ⟨h,x,m,p,l⟩ := n
 change Calls Tryz.prog 77 #[.pointer (some ⟨b,0,none⟩),.agg #[.int .i64 h,.string ⟨x.toArray⟩,.int .i64 m,.int .i64 p,.slice f l.length g]] w _
 obtain ⟨o,d⟩ : ∃ z,z = w.alloc (.cells #[.int .i64 h,.string ⟨x.toArray⟩,.int .i64 m,.int .i64 p,.slice f l.length g] 100) := ⟨_,rfl⟩
 have j : Hid (w.grownBy o none) := by rw [d]; exact zf (zc w none) _
 have u : Hid (Box o w.heap.size (.mk h x m p l) (.slice f l.length g)) := by rw [d]; exact Box.new w (.mk h x m p l) (.slice f l.length g) _
 obtain rfl : h = 17 := hk; clear _h ha hf hd; rw [show S.actC c r res acts (.mk 17 x m p l) = yD (fun y => if y.kind = 1 then acts y.subs else yP r y 1) l by simp [KS.actC,T.kind,T.subs]]; cases s : yD (fun y => if y.kind = 1 then acts y.subs else yP r y 1) l with
 | error z =>
  go_enter Tryz.func77,Tryz.ntmps77
  go_wp2_with fail; go_at_call 112; rw [<- d]; refine (q.out _ j.out).mono ?_; rw [show (T.mk 17 x m p l).subs = l from rfl,s]; rintro e w1 t; have v := t; obtain ⟨_,rfl⟩ := t.thrown
  exact ⟨rfl,v.err j.out⟩
 | ok _ =>
  go_enter Tryz.func77,Tryz.ntmps77
  go_wp2_with fail; go_at_call 112; rw [<- d]; refine (q.out _ j.out).mono ?_; rw [show (T.mk 17 x m p l).subs = l from rfl,s]; rintro e w1 ⟨i,rfl⟩; have A := ze (za j.out i); have B : Hid (Box w1 w.heap.size (.mk 17 x m p l) (.slice f l.length g)) := Box.kept u.out (za (zc o none) i); go_wp2; refine bodyPost_end (results_none rfl _ _ _) rfl ?_
  exact Cy.ok A.out
theorem oq (_h : CK ρ w S b c) (n : T) (sv : Value) (hf : Fits n) (ha : AT w n.subs sv) {r : KR} {res : Option Nat} {acts : List T -> CR Unit} (hk : n.kind = 18) (hd : ∀ w1,w.grownBy w1 none -> Calls Tryz.prog 112 #[.pointer (some ⟨b,0,none⟩),sv] w1 (Cy w1 ((yD (fun y => if y.kind = 1 then acts y.subs else yP r y 1) n.subs).map fun _ => .tuple #[]))) :
  Calls Tryz.prog 77 #[.pointer (some ⟨b,0,none⟩),zn n sv] w (Cy w ((S.actC c r res acts n).map fun _ => .tuple #[])) := by
 have q := ze hd; obtain ⟨f,g,k,-,-⟩ := ha.form; subst k; obtain ⟨h,x,m,p,l⟩ := n
 change Calls Tryz.prog 77 #[.pointer (some ⟨b,0,none⟩),.agg #[.int .i64 h,.string ⟨x.toArray⟩,.int .i64 m,.int .i64 p,.slice f l.length g]] w _
 obtain ⟨o,d⟩ : ∃ z,z = w.alloc (.cells #[.int .i64 h,.string ⟨x.toArray⟩,.int .i64 m,.int .i64 p,.slice f l.length g] 100) := ⟨_,rfl⟩
 have j : Hid (w.grownBy o none) := by rw [d]; exact zf (zc w none) _
 have u : Hid (Box o w.heap.size (.mk h x m p l) (.slice f l.length g)) := by rw [d]; exact Box.new w (.mk h x m p l) (.slice f l.length g) _
 obtain rfl : h = 18 := hk; clear _h ha hf hd; rw [show S.actC c r res acts (.mk 18 x m p l) = yD (fun y => if y.kind = 1 then acts y.subs else yP r y 1) l by simp [KS.actC,T.kind,T.subs]]; cases s : yD (fun y => if y.kind = 1 then acts y.subs else yP r y 1) l with
 | error z =>
  go_enter Tryz.func77,Tryz.ntmps77
  go_wp2_with fail; go_at_call 112; rw [<- d]; refine (q.out _ j.out).mono ?_; rw [show (T.mk 18 x m p l).subs = l from rfl,s]; rintro e w1 t; have v := t; obtain ⟨_,rfl⟩ := t.thrown
  exact ⟨rfl,v.err j.out⟩
 | ok _ =>
  go_enter Tryz.func77,Tryz.ntmps77
  go_wp2_with fail; go_at_call 112; rw [<- d]; refine (q.out _ j.out).mono ?_; rw [show (T.mk 18 x m p l).subs = l from rfl,s]; rintro e w1 ⟨i,rfl⟩; have A := ze (za j.out i); have B : Hid (Box w1 w.heap.size (.mk 18 x m p l) (.slice f l.length g)) := Box.kept u.out (za (zc o none) i); go_wp2; refine bodyPost_end (results_none rfl _ _ _) rfl ?_
  exact Cy.ok A.out
theorem nE (h : CK ρ w S b c) (n : T) (sv : Value) (hf : Fits n) (ha : AT w n.subs sv) {r : KR} {res : Option Nat} {acts : List T -> CR Unit} {u : T} (hk : n.kind = 21) (hl : n.subs = [u]) (hu : CEx ρ S b c r u) :
  Calls Tryz.prog 77 #[.pointer (some ⟨b,0,none⟩),zn n sv] w (Cy w ((S.actC c r res acts n).map fun _ => .tuple #[])) := by
 have h3 := h.ok.three; have L := ze (fun w1 (G : w.grownBy w1 none) E (C : Fits u) (s : AT w u.subs E) => ue (h.up G) u E C (s.kept G) (t := 0) (by omega) hu); have s0 : Hid _ := h.s0; have v : Hid _ := h.km.wc0; have V : Hid _ := h.km.wc1; obtain ⟨A,x,m,p,l⟩ := n; obtain rfl : l = [u] := hl; obtain ⟨g,o,i,E,rfl,X,Y,D,C,s,-⟩ := ha.cons; obtain ⟨M,N,rfl,-,-⟩ := s.form; have O := ze s; have Q := ze C
 replace D := ze D
 clear C s
 change Calls Tryz.prog 77 #[.pointer (some ⟨b,0,none⟩),.agg #[.int .i64 A,.string ⟨x.toArray⟩,.int .i64 m,.int .i64 p,.slice (some ⟨g,o,none⟩) 1 i]] w _
 obtain ⟨j,d⟩ : ∃ z,z = w.alloc (.cells #[.int .i64 A,.string ⟨x.toArray⟩,.int .i64 m,.int .i64 p,.slice (some ⟨g,o,none⟩) 1 i] 100) := ⟨_,rfl⟩
 have f : Hid (w.grownBy j none) := by rw [d]; exact zf (zc w none) _
 have F : Hid (Box j w.heap.size (.mk A x m p [u]) (.slice (some ⟨g,o,none⟩) 1 i)) := by rw [d]; exact Box.new w (.mk A x m p [u]) (.slice (some ⟨g,o,none⟩) 1 i) _
 obtain rfl : A = 21 := hk; clear h ha hf hu
 have Z : sub (.mk 21 x m p [u]) 0 = u := rfl
 rw [show S.actC c r res acts (.mk 21 x m p [u]) = yP r u 0 by simp [KS.actC,T.kind,Z]]; cases R : yP r u 0 with
 | error z =>
  go_enter Tryz.func77,Tryz.ntmps77
  go_wp2_with fail; rw [<- d]; clear d; refine wp_region_held_drew (S := fun w9 => j.grownBy w9 none) (by kernel_rfl) ?_ (fun hHeld => ?_)
  ·exact zh (zc j none)
  refine kQ 0 72 (.pointer (some ⟨b,0,none⟩)) hHeld ?_; simp only [qA,qB,qC,qD]; refine kQ 1 73 (.pointer (some ⟨w.heap.size,4,none⟩)) hHeld ?_; simp only [qA,qB,qC,qD]; refine dk 2 (some 74) (.slice (some ⟨g,o,none⟩) 1 i) rfl rfl (fun w9 hS => by obtain ⟨H,k,I,J,K⟩ := (Box.kept F.out hS).plain; go_simp) hHeld ?_; simp only [qA,qB,qC,qD]; refine kQ 3 75 (.pointer (some ⟨g,o,none⟩)) hHeld ?_; simp only [qA,qB,qC,qD]; refine dk 4 (some 76) (zn u (.slice M u.subs.length N)) rfl rfl (fun w9 hS => by obtain ⟨H,k,I,J,K⟩ := Node5.kept D.out (za f.out hS); go_simp) hHeld ?_; simp only [qA,qB,qC,qD]; refine kQ 5 77 (.pointer (some ⟨b,0,none⟩)) hHeld ?_; simp only [qA,qB,qC,qD]; refine kQ 6 78 (.pointer (some ⟨b,0,none⟩)) hHeld ?_; simp only [qA,qB,qC,qD]; refine kQ 7 79 (.pointer (some ⟨b,0,none⟩)) hHeld ?_; simp only [qA,qB,qC,qD]; refine kQ 8 80 (.pointer (some ⟨b,0,none⟩)) hHeld ?_; simp only [qA,qB,qC,qD]; refine dk 9 (some 81) (.pointer (some ⟨ρ.wd,0,none⟩)) rfl rfl (fun w9 hS => by have k := zi (za f.out hS) s0.out; go_simp) hHeld ?_; simp only [qA,qB,qC,qD]; refine kQ 10 82 (.pointer (some ⟨ρ.wd,0,none⟩)) hHeld ?_; simp only [qA,qB,qC,qD]; refine kQ 11 83 (.pointer (some ⟨ρ.wd,0,none⟩)) hHeld ?_; simp only [qA,qB,qC,qD]; refine dk 12 (some 84) (.pointer (some ⟨ρ.ty 0,0,none⟩)) rfl rfl (fun w9 hS => by have k := zi (za f.out hS) v.out; go_simp) hHeld ?_; simp only [qA,qB,qC,qD]; refine rd 13 rfl fun KK hKK => ?_
  go_simp
  go_at_call 116; refine (L.out _ (zh f.out) _ Q.out O.out).mono ?_; rw [R]; rintro e w1 U; have HT := U; obtain ⟨_,rfl⟩ := U.thrown
  exact ⟨rfl,HT.err (zh f.out)⟩
 | ok _ =>
  go_enter Tryz.func77,Tryz.ntmps77
  go_wp2_with fail; rw [<- d]; clear d; refine wp_region_held_drew (S := fun w9 => j.grownBy w9 none) (by kernel_rfl) ?_ (fun hHeld => ?_)
  ·exact zh (zc j none)
  refine kQ 0 72 (.pointer (some ⟨b,0,none⟩)) hHeld ?_; simp only [qA,qB,qC,qD]; refine kQ 1 73 (.pointer (some ⟨w.heap.size,4,none⟩)) hHeld ?_; simp only [qA,qB,qC,qD]; refine dk 2 (some 74) (.slice (some ⟨g,o,none⟩) 1 i) rfl rfl (fun w9 hS => by obtain ⟨H,k,I,J,K⟩ := (Box.kept F.out hS).plain; go_simp) hHeld ?_; simp only [qA,qB,qC,qD]; refine kQ 3 75 (.pointer (some ⟨g,o,none⟩)) hHeld ?_; simp only [qA,qB,qC,qD]; refine dk 4 (some 76) (zn u (.slice M u.subs.length N)) rfl rfl (fun w9 hS => by obtain ⟨H,k,I,J,K⟩ := Node5.kept D.out (za f.out hS); go_simp) hHeld ?_; simp only [qA,qB,qC,qD]; refine kQ 5 77 (.pointer (some ⟨b,0,none⟩)) hHeld ?_; simp only [qA,qB,qC,qD]; refine kQ 6 78 (.pointer (some ⟨b,0,none⟩)) hHeld ?_; simp only [qA,qB,qC,qD]; refine kQ 7 79 (.pointer (some ⟨b,0,none⟩)) hHeld ?_; simp only [qA,qB,qC,qD]; refine kQ 8 80 (.pointer (some ⟨b,0,none⟩)) hHeld ?_; simp only [qA,qB,qC,qD]; refine dk 9 (some 81) (.pointer (some ⟨ρ.wd,0,none⟩)) rfl rfl (fun w9 hS => by have k := zi (za f.out hS) s0.out; go_simp) hHeld ?_; simp only [qA,qB,qC,qD]; refine kQ 10 82 (.pointer (some ⟨ρ.wd,0,none⟩)) hHeld ?_; simp only [qA,qB,qC,qD]; refine kQ 11 83 (.pointer (some ⟨ρ.wd,0,none⟩)) hHeld ?_; simp only [qA,qB,qC,qD]; refine dk 12 (some 84) (.pointer (some ⟨ρ.ty 0,0,none⟩)) rfl rfl (fun w9 hS => by have k := zi (za f.out hS) v.out; go_simp) hHeld ?_; simp only [qA,qB,qC,qD]; refine rd 13 rfl fun KK hKK => ?_
  go_simp
  go_at_call 116; refine (L.out _ (zh f.out) _ Q.out O.out).mono ?_; rw [R]; rintro e w1 ⟨q,rfl⟩; have G1 := ze (za (zh f.out) q); have B := ze (za (zh (zc j none)) q); clear q
  go_simp
  refine hKK.out _ _ B.out fun hHeld => ?_
  clear hKK KK; refine wpAnyH_done (by kernel_rfl) ?_ _; clear hHeld; have B1 : Hid (Box w1 w.heap.size (.mk 21 x m p [u]) (.slice (some ⟨g,o,none⟩) 1 i)) := Box.kept F.out B.out; go_wp2; refine bodyPost_end (results_none rfl _ _ _) rfl ?_
  exact Cy.ok G1.out
theorem tT (h : CK ρ w S b c) (n : T) (sv : Value) (hf : Fits n) (ha : AT w n.subs sv) {r : KR} {res : Option Nat} {acts : List T -> CR Unit} {u : T} (hk : n.kind = 23) (hl : n.subs = [u]) (hu : CEx ρ S b c r u) :
  Calls Tryz.prog 77 #[.pointer (some ⟨b,0,none⟩),zn n sv] w (Cy w ((S.actC c r res acts n).map fun _ => .tuple #[])) := by
 have h3 := h.ok.three; have L := ze (fun w1 (G : w.grownBy w1 none) E (C : Fits u) (s : AT w u.subs E) => ue (h.up G) u E C (s.kept G) (t := 1) (by omega) hu); have s0 : Hid _ := h.s0; have V : Hid _ := h.km.wc0; have v : Hid _ := h.km.wc1; obtain ⟨A,x,m,p,l⟩ := n; obtain rfl : l = [u] := hl; obtain ⟨g,o,i,E,rfl,X,Y,D,C,s,-⟩ := ha.cons; obtain ⟨M,N,rfl,-,-⟩ := s.form; have O := ze s; have Q := ze C
 replace D := ze D
 clear C s
 change Calls Tryz.prog 77 #[.pointer (some ⟨b,0,none⟩),.agg #[.int .i64 A,.string ⟨x.toArray⟩,.int .i64 m,.int .i64 p,.slice (some ⟨g,o,none⟩) 1 i]] w _
 obtain ⟨j,d⟩ : ∃ z,z = w.alloc (.cells #[.int .i64 A,.string ⟨x.toArray⟩,.int .i64 m,.int .i64 p,.slice (some ⟨g,o,none⟩) 1 i] 100) := ⟨_,rfl⟩
 have f : Hid (w.grownBy j none) := by rw [d]; exact zf (zc w none) _
 have F : Hid (Box j w.heap.size (.mk A x m p [u]) (.slice (some ⟨g,o,none⟩) 1 i)) := by rw [d]; exact Box.new w (.mk A x m p [u]) (.slice (some ⟨g,o,none⟩) 1 i) _
 obtain rfl : A = 23 := hk; clear h ha hf hu
 have Z : sub (.mk 23 x m p [u]) 0 = u := rfl
 rw [show S.actC c r res acts (.mk 23 x m p [u]) = yP r u 1 by simp [KS.actC,T.kind,Z]]; cases R : yP r u 1 with
 | error z =>
  go_enter Tryz.func77,Tryz.ntmps77
  go_wp2_with fail; rw [<- d]; clear d; refine wp_region_held_drew (S := fun w9 => j.grownBy w9 none) (by kernel_rfl) ?_ (fun hHeld => ?_)
  ·exact zh (zc j none)
  refine kQ 0 88 (.pointer (some ⟨b,0,none⟩)) hHeld ?_; simp only [qA,qB,qC,qD]; refine kQ 1 89 (.pointer (some ⟨w.heap.size,4,none⟩)) hHeld ?_; simp only [qA,qB,qC,qD]; refine dk 2 (some 90) (.slice (some ⟨g,o,none⟩) 1 i) rfl rfl (fun w9 hS => by obtain ⟨H,k,I,J,K⟩ := (Box.kept F.out hS).plain; go_simp) hHeld ?_; simp only [qA,qB,qC,qD]; refine kQ 3 91 (.pointer (some ⟨g,o,none⟩)) hHeld ?_; simp only [qA,qB,qC,qD]; refine dk 4 (some 92) (zn u (.slice M u.subs.length N)) rfl rfl (fun w9 hS => by obtain ⟨H,k,I,J,K⟩ := Node5.kept D.out (za f.out hS); go_simp) hHeld ?_; simp only [qA,qB,qC,qD]; refine kQ 5 93 (.pointer (some ⟨b,0,none⟩)) hHeld ?_; simp only [qA,qB,qC,qD]; refine kQ 6 94 (.pointer (some ⟨b,0,none⟩)) hHeld ?_; simp only [qA,qB,qC,qD]; refine kQ 7 95 (.pointer (some ⟨b,0,none⟩)) hHeld ?_; simp only [qA,qB,qC,qD]; refine kQ 8 96 (.pointer (some ⟨b,0,none⟩)) hHeld ?_; simp only [qA,qB,qC,qD]; refine dk 9 (some 97) (.pointer (some ⟨ρ.wd,0,none⟩)) rfl rfl (fun w9 hS => by have k := zi (za f.out hS) s0.out; go_simp) hHeld ?_; simp only [qA,qB,qC,qD]; refine kQ 10 98 (.pointer (some ⟨ρ.wd,0,none⟩)) hHeld ?_; simp only [qA,qB,qC,qD]; refine kQ 11 99 (.pointer (some ⟨ρ.wd,1,none⟩)) hHeld ?_; simp only [qA,qB,qC,qD]; refine dk 12 (some 100) (.pointer (some ⟨ρ.ty 1,0,none⟩)) rfl rfl (fun w9 hS => by have k := zi (za f.out hS) v.out; go_simp) hHeld ?_; simp only [qA,qB,qC,qD]; refine rd 13 rfl fun KK hKK => ?_
  go_simp
  go_at_call 116; refine (L.out _ (zh f.out) _ Q.out O.out).mono ?_; rw [R]; rintro e w1 U; have HT := U; obtain ⟨_,rfl⟩ := U.thrown
  exact ⟨rfl,HT.err (zh f.out)⟩
 | ok _ =>
  go_enter Tryz.func77,Tryz.ntmps77
  go_wp2_with fail; rw [<- d]; clear d; refine wp_region_held_drew (S := fun w9 => j.grownBy w9 none) (by kernel_rfl) ?_ (fun hHeld => ?_)
  ·exact zh (zc j none)
  refine kQ 0 88 (.pointer (some ⟨b,0,none⟩)) hHeld ?_; simp only [qA,qB,qC,qD]; refine kQ 1 89 (.pointer (some ⟨w.heap.size,4,none⟩)) hHeld ?_; simp only [qA,qB,qC,qD]; refine dk 2 (some 90) (.slice (some ⟨g,o,none⟩) 1 i) rfl rfl (fun w9 hS => by obtain ⟨H,k,I,J,K⟩ := (Box.kept F.out hS).plain; go_simp) hHeld ?_; simp only [qA,qB,qC,qD]; refine kQ 3 91 (.pointer (some ⟨g,o,none⟩)) hHeld ?_; simp only [qA,qB,qC,qD]; refine dk 4 (some 92) (zn u (.slice M u.subs.length N)) rfl rfl (fun w9 hS => by obtain ⟨H,k,I,J,K⟩ := Node5.kept D.out (za f.out hS); go_simp) hHeld ?_; simp only [qA,qB,qC,qD]; refine kQ 5 93 (.pointer (some ⟨b,0,none⟩)) hHeld ?_; simp only [qA,qB,qC,qD]; refine kQ 6 94 (.pointer (some ⟨b,0,none⟩)) hHeld ?_; simp only [qA,qB,qC,qD]; refine kQ 7 95 (.pointer (some ⟨b,0,none⟩)) hHeld ?_; simp only [qA,qB,qC,qD]; refine kQ 8 96 (.pointer (some ⟨b,0,none⟩)) hHeld ?_; simp only [qA,qB,qC,qD]; refine dk 9 (some 97) (.pointer (some ⟨ρ.wd,0,none⟩)) rfl rfl (fun w9 hS => by have k := zi (za f.out hS) s0.out; go_simp) hHeld ?_; simp only [qA,qB,qC,qD]; refine kQ 10 98 (.pointer (some ⟨ρ.wd,0,none⟩)) hHeld ?_; simp only [qA,qB,qC,qD]; refine kQ 11 99 (.pointer (some ⟨ρ.wd,1,none⟩)) hHeld ?_; simp only [qA,qB,qC,qD]; refine dk 12 (some 100) (.pointer (some ⟨ρ.ty 1,0,none⟩)) rfl rfl (fun w9 hS => by have k := zi (za f.out hS) v.out; go_simp) hHeld ?_; simp only [qA,qB,qC,qD]; refine rd 13 rfl fun KK hKK => ?_
  go_simp
  go_at_call 116; refine (L.out _ (zh f.out) _ Q.out O.out).mono ?_; rw [R]; rintro e w1 ⟨q,rfl⟩; have G1 := ze (za (zh f.out) q); have B := ze (za (zh (zc j none)) q); clear q
  go_simp
  refine hKK.out _ _ B.out fun hHeld => ?_
  clear hKK KK; refine wpAnyH_done (by kernel_rfl) ?_ _; clear hHeld; have B1 : Hid (Box w1 w.heap.size (.mk 23 x m p [u]) (.slice (some ⟨g,o,none⟩) 1 i)) := Box.kept F.out B.out; go_wp2; refine bodyPost_end (results_none rfl _ _ _) rfl ?_
  exact Cy.ok G1.out
theorem oo (h : CK ρ w S b c) (n : T) (sv : Value) (hf : Fits n) (ha : AT w n.subs sv) {r : KR} {res : Option Nat} {acts : List T -> CR Unit} {u : T} (hk : n.kind = 22) (hl : n.subs = [u]) (hu : CAr ρ S b c r u) :
  Calls Tryz.prog 77 #[.pointer (some ⟨b,0,none⟩),zn n sv] w (Cy w ((S.actC c r res acts n).map fun _ => .tuple #[])) := by
 have h3 := h.ok.three; have V := ze (fun w1 (G : w.grownBy w1 none) X (U : Fits u) (N : AT w u.subs X) => xZ (h.up G) u X U (N.kept G) hu.dot hu.de)
 have Y := fun t e => vl hu.de (t := t) e
 have HM := ze h.km; have s0 : Hid _ := h.s0; have F : Hid _ := h.km.wc0; have a0 : Hid _ := h.km.wc1; obtain ⟨O,x,m,p,l⟩ := n; obtain rfl : l = [u] := hl; obtain ⟨g,o,k,X,rfl,a1,a2,E,U,N,-⟩ := ha.cons; obtain ⟨K,L,rfl,-,-⟩ := N.form; have Q := ze N; have Z := ze U
 replace E := ze E
 clear U N
 change Calls Tryz.prog 77 #[.pointer (some ⟨b,0,none⟩),.agg #[.int .i64 O,.string ⟨x.toArray⟩,.int .i64 m,.int .i64 p,.slice (some ⟨g,o,none⟩) 1 k]] w _
 obtain ⟨C,f⟩ : ∃ z,z = w.alloc (.cells #[.int .i64 O,.string ⟨x.toArray⟩,.int .i64 m,.int .i64 p,.slice (some ⟨g,o,none⟩) 1 k] 100) := ⟨_,rfl⟩
 have d : Hid (w.grownBy C none) := by rw [f]; exact zf (zc w none) _
 have H : Hid (Box C w.heap.size (.mk O x m p [u]) (.slice (some ⟨g,o,none⟩) 1 k)) := by rw [f]; exact Box.new w (.mk O x m p [u]) (.slice (some ⟨g,o,none⟩) 1 k) _
 obtain rfl : O = 22 := hk; clear h ha hf hu
 have hz : sub (.mk 22 x m p [u]) 0 = u := rfl
 cases M : S.variableC c r.de u with
 | error z =>
  rw [show S.actC c r res acts (.mk 22 x m p [u]) = .error z by simp [KS.actC,T.kind,hz,M,Except.bind]]
  go_enter Tryz.func77,Tryz.ntmps77
  go_wp2_with fail; rw [<- f]; clear f; refine wp_region_held_drew (S := fun w9 => C.grownBy w9 none) (by kernel_rfl) ?_ (fun hHeld => ?_)
  ·exact zh (zc C none)
  refine kQ 0 51 (.pointer (some ⟨w.heap.size,4,none⟩)) hHeld ?_; simp only [qA,qB,qC,qD]; refine dk 1 (some 52) (.slice (some ⟨g,o,none⟩) 1 k) rfl rfl (fun w9 hS => by obtain ⟨s,i,v,A,B⟩ := (Box.kept H.out hS).plain; go_simp) hHeld ?_; simp only [qA,qB,qC,qD]; refine kQ 2 53 (.pointer (some ⟨g,o,none⟩)) hHeld ?_; simp only [qA,qB,qC,qD]; refine dk 3 (some 54) (zn u (.slice K u.subs.length L)) rfl rfl (fun w9 hS => by obtain ⟨s,i,v,A,B⟩ := Node5.kept E.out (za d.out hS); go_simp) hHeld ?_; simp only [qA,qB,qC,qD]; refine kQ 4 55 (.pointer (some ⟨b,0,none⟩)) hHeld ?_; simp only [qA,qB,qC,qD]; refine kQ 5 56 (.pointer (some ⟨w.heap.size,4,none⟩)) hHeld ?_; simp only [qA,qB,qC,qD]; refine dk 6 (some 57) (.slice (some ⟨g,o,none⟩) 1 k) rfl rfl (fun w9 hS => by obtain ⟨s,i,v,A,B⟩ := (Box.kept H.out hS).plain; go_simp) hHeld ?_; simp only [qA,qB,qC,qD]; refine kQ 7 58 (.pointer (some ⟨g,o,none⟩)) hHeld ?_; simp only [qA,qB,qC,qD]; refine dk 8 (some 59) (zn u (.slice K u.subs.length L)) rfl rfl (fun w9 hS => by obtain ⟨s,i,v,A,B⟩ := Node5.kept E.out (za d.out hS); go_simp) hHeld ?_; simp only [qA,qB,qC,qD]; refine kQ 10 61 (.pointer (some ⟨b,0,none⟩)) hHeld ?_; simp only [qA,qB,qC,qD]; refine kQ 11 62 (.pointer (some ⟨b,0,none⟩)) hHeld ?_; simp only [qA,qB,qC,qD]; refine kQ 12 63 (.pointer (some ⟨b,0,none⟩)) hHeld ?_; simp only [qA,qB,qC,qD]; refine kQ 13 64 (.pointer (some ⟨b,0,none⟩)) hHeld ?_; simp only [qA,qB,qC,qD]; refine dk 14 (some 65) (.pointer (some ⟨ρ.wd,0,none⟩)) rfl rfl (fun w9 hS => by have i := zi (za d.out hS) s0.out; go_simp) hHeld ?_; simp only [qA,qB,qC,qD]; refine kQ 15 66 (.pointer (some ⟨ρ.wd,0,none⟩)) hHeld ?_
  simp only [qA,qB,qC,qD]; refine kQ 16 67 (.pointer (some ⟨ρ.wd,0,none⟩)) hHeld ?_; simp only [qA,qB,qC,qD]; refine dk 17 (some 68) (.pointer (some ⟨ρ.ty 0,0,none⟩)) rfl rfl (fun w9 hS => by have i := zi (za d.out hS) F.out; go_simp) hHeld ?_; simp only [qA,qB,qC,qD]; refine rd 9 rfl fun KK hKK => ?_
  go_simp
  go_at_call 114; refine (V.out _ (zh d.out) _ Z.out Q.out).mono ?_; rw [M]; rintro e w1 h1; have HT := h1; obtain ⟨q,rfl⟩ := h1.thrown
  exact ⟨rfl,HT.err (zh d.out)⟩
 | ok t =>
  have ht := Y t M; rw [show S.actC c r res acts (.mk 22 x m p [u]) = yE u t 0 by simp [KS.actC,T.kind,hz,M,Except.bind]]; cases hn : yE u t 0 with
  | error z =>
   go_enter Tryz.func77,Tryz.ntmps77
   go_wp2_with fail; rw [<- f]; clear f; refine wp_region_held_drew (S := fun w9 => C.grownBy w9 none) (by kernel_rfl) ?_ (fun hHeld => ?_)
   ·exact zh (zc C none)
   refine kQ 0 51 (.pointer (some ⟨w.heap.size,4,none⟩)) hHeld ?_; simp only [qA,qB,qC,qD]; refine dk 1 (some 52) (.slice (some ⟨g,o,none⟩) 1 k) rfl rfl (fun w9 hS => by obtain ⟨s,i,v,A,B⟩ := (Box.kept H.out hS).plain; go_simp) hHeld ?_; simp only [qA,qB,qC,qD]; refine kQ 2 53 (.pointer (some ⟨g,o,none⟩)) hHeld ?_; simp only [qA,qB,qC,qD]; refine dk 3 (some 54) (zn u (.slice K u.subs.length L)) rfl rfl (fun w9 hS => by obtain ⟨s,i,v,A,B⟩ := Node5.kept E.out (za d.out hS); go_simp) hHeld ?_; simp only [qA,qB,qC,qD]; refine kQ 4 55 (.pointer (some ⟨b,0,none⟩)) hHeld ?_; simp only [qA,qB,qC,qD]; refine kQ 5 56 (.pointer (some ⟨w.heap.size,4,none⟩)) hHeld ?_; simp only [qA,qB,qC,qD]; refine dk 6 (some 57) (.slice (some ⟨g,o,none⟩) 1 k) rfl rfl (fun w9 hS => by obtain ⟨s,i,v,A,B⟩ := (Box.kept H.out hS).plain; go_simp) hHeld ?_; simp only [qA,qB,qC,qD]; refine kQ 7 58 (.pointer (some ⟨g,o,none⟩)) hHeld ?_; simp only [qA,qB,qC,qD]; refine dk 8 (some 59) (zn u (.slice K u.subs.length L)) rfl rfl (fun w9 hS => by obtain ⟨s,i,v,A,B⟩ := Node5.kept E.out (za d.out hS); go_simp) hHeld ?_; simp only [qA,qB,qC,qD]; refine kQ 10 61 (.pointer (some ⟨b,0,none⟩)) hHeld ?_; simp only [qA,qB,qC,qD]; refine kQ 11 62 (.pointer (some ⟨b,0,none⟩)) hHeld ?_; simp only [qA,qB,qC,qD]; refine kQ 12 63 (.pointer (some ⟨b,0,none⟩)) hHeld ?_; simp only [qA,qB,qC,qD]; refine kQ 13 64 (.pointer (some ⟨b,0,none⟩)) hHeld ?_; simp only [qA,qB,qC,qD]; refine dk 14 (some 65) (.pointer (some ⟨ρ.wd,0,none⟩)) rfl rfl (fun w9 hS => by have i := zi (za d.out hS) s0.out; go_simp) hHeld ?_; simp only [qA,qB,qC,qD]; refine kQ 15 66 (.pointer (some ⟨ρ.wd,0,none⟩)) hHeld ?_
   simp only [qA,qB,qC,qD]; refine kQ 16 67 (.pointer (some ⟨ρ.wd,0,none⟩)) hHeld ?_; simp only [qA,qB,qC,qD]; refine dk 17 (some 68) (.pointer (some ⟨ρ.ty 0,0,none⟩)) rfl rfl (fun w9 hS => by have i := zi (za d.out hS) F.out; go_simp) hHeld ?_; simp only [qA,qB,qC,qD]; refine rd 9 rfl fun KK hKK => ?_
   go_simp
   go_at_call 114; refine (V.out _ (zh d.out) _ Z.out Q.out).mono ?_; rw [M]; rintro e w1 ⟨j,rfl⟩; have I := ze (za (zh d.out) j); have D := ze (za (zh (zc C none)) j); clear j
   go_simp
   refine hKK.out _ _ D.out fun hHeld => ?_
   clear hKK KK; refine rd 18 rfl fun KK hKK => ?_
   go_simp
   go_at_call 115; refine (zL (HM.out.up I.out) u _ (Q.out.kept I.out) ht (show 0 < S.tys.length by omega)).mono ?_; rw [hn]; rintro e w2 h2; have HT := h2; obtain ⟨q,rfl⟩ := h2.thrown
   exact ⟨rfl,HT.err I.out⟩
  | ok _ =>
   go_enter Tryz.func77,Tryz.ntmps77
   go_wp2_with fail; rw [<- f]; clear f; refine wp_region_held_drew (S := fun w9 => C.grownBy w9 none) (by kernel_rfl) ?_ (fun hHeld => ?_)
   ·exact zh (zc C none)
   refine kQ 0 51 (.pointer (some ⟨w.heap.size,4,none⟩)) hHeld ?_; simp only [qA,qB,qC,qD]; refine dk 1 (some 52) (.slice (some ⟨g,o,none⟩) 1 k) rfl rfl (fun w9 hS => by obtain ⟨s,i,v,A,B⟩ := (Box.kept H.out hS).plain; go_simp) hHeld ?_; simp only [qA,qB,qC,qD]; refine kQ 2 53 (.pointer (some ⟨g,o,none⟩)) hHeld ?_; simp only [qA,qB,qC,qD]; refine dk 3 (some 54) (zn u (.slice K u.subs.length L)) rfl rfl (fun w9 hS => by obtain ⟨s,i,v,A,B⟩ := Node5.kept E.out (za d.out hS); go_simp) hHeld ?_; simp only [qA,qB,qC,qD]; refine kQ 4 55 (.pointer (some ⟨b,0,none⟩)) hHeld ?_; simp only [qA,qB,qC,qD]; refine kQ 5 56 (.pointer (some ⟨w.heap.size,4,none⟩)) hHeld ?_; simp only [qA,qB,qC,qD]; refine dk 6 (some 57) (.slice (some ⟨g,o,none⟩) 1 k) rfl rfl (fun w9 hS => by obtain ⟨s,i,v,A,B⟩ := (Box.kept H.out hS).plain; go_simp) hHeld ?_; simp only [qA,qB,qC,qD]; refine kQ 7 58 (.pointer (some ⟨g,o,none⟩)) hHeld ?_; simp only [qA,qB,qC,qD]; refine dk 8 (some 59) (zn u (.slice K u.subs.length L)) rfl rfl (fun w9 hS => by obtain ⟨s,i,v,A,B⟩ := Node5.kept E.out (za d.out hS); go_simp) hHeld ?_; simp only [qA,qB,qC,qD]; refine kQ 10 61 (.pointer (some ⟨b,0,none⟩)) hHeld ?_; simp only [qA,qB,qC,qD]; refine kQ 11 62 (.pointer (some ⟨b,0,none⟩)) hHeld ?_; simp only [qA,qB,qC,qD]; refine kQ 12 63 (.pointer (some ⟨b,0,none⟩)) hHeld ?_; simp only [qA,qB,qC,qD]; refine kQ 13 64 (.pointer (some ⟨b,0,none⟩)) hHeld ?_; simp only [qA,qB,qC,qD]; refine dk 14 (some 65) (.pointer (some ⟨ρ.wd,0,none⟩)) rfl rfl (fun w9 hS => by have i := zi (za d.out hS) s0.out; go_simp) hHeld ?_; simp only [qA,qB,qC,qD]; refine kQ 15 66 (.pointer (some ⟨ρ.wd,0,none⟩)) hHeld ?_
   simp only [qA,qB,qC,qD]; refine kQ 16 67 (.pointer (some ⟨ρ.wd,0,none⟩)) hHeld ?_; simp only [qA,qB,qC,qD]; refine dk 17 (some 68) (.pointer (some ⟨ρ.ty 0,0,none⟩)) rfl rfl (fun w9 hS => by have i := zi (za d.out hS) F.out; go_simp) hHeld ?_; simp only [qA,qB,qC,qD]; refine rd 9 rfl fun KK hKK => ?_
   go_simp
   go_at_call 114; refine (V.out _ (zh d.out) _ Z.out Q.out).mono ?_; rw [M]; rintro e w1 ⟨j,rfl⟩; have I := ze (za (zh d.out) j); have D := ze (za (zh (zc C none)) j); clear j
   go_simp
   refine hKK.out _ _ D.out fun hHeld => ?_
   clear hKK KK; refine rd 18 rfl fun KK hKK => ?_
   go_simp
   go_at_call 115; refine (zL (HM.out.up I.out) u _ (Q.out.kept I.out) ht (show 0 < S.tys.length by omega)).mono ?_; rw [hn]; rintro e w2 ⟨J,rfl⟩; have G2 := ze (za I.out J); have R := ze (za D.out J); clear J
   go_simp
   refine hKK.out _ _ R.out fun hHeld => ?_
   clear hKK KK; refine wpAnyH_done (by kernel_rfl) ?_ _; clear hHeld; have B2 : Hid (Box w2 w.heap.size (.mk 22 x m p [u]) (.slice (some ⟨g,o,none⟩) 1 k)) := Box.kept H.out R.out; go_wp2; refine bodyPost_end (results_none rfl _ _ _) rfl ?_
   exact Cy.ok G2.out
theorem ox (h : CK ρ w S b c) (n : T) (sv : Value) (hf : Fits n) (ha : AT w n.subs sv) {r : KR} {res : Option Nat} {acts : List T -> CR Unit} {u : T} (hk : n.kind = 20) (hl : n.subs = [u]) (hu : CAr ρ S b c r u) :
  Calls Tryz.prog 77 #[.pointer (some ⟨b,0,none⟩),zn n sv] w (Cy w ((S.actC c r res acts n).map fun _ => .tuple #[])) := by
 have H := ze (fun w1 (G : w.grownBy w1 none) I (D : Fits u) (A : AT w u.subs I) => xZ (h.up G) u I D (A.kept G) hu.dot hu.de)
 have J := fun t e => vl hu.de (t := t) e
 have X := ze h.km; obtain ⟨B,x,m,p,l⟩ := n; obtain rfl : l = [u] := hl; obtain ⟨g,o,k,I,rfl,Y,Z,i,D,A,-⟩ := ha.cons; obtain ⟨ua,uc,rfl,-,-⟩ := A.form; have K := ze A; have L := ze D; have d0 := i.c0; have d1 := i.c1; have d2 := i.c2; have d3 := i.c3; have d4 := i.c4; have zg : g < w.heap.size := zw d0
 replace i := ze i
 clear D A
 change Calls Tryz.prog 77 #[.pointer (some ⟨b,0,none⟩),.agg #[.int .i64 B,.string ⟨x.toArray⟩,.int .i64 m,.int .i64 p,.slice (some ⟨g,o,none⟩) 1 k]] w _
 obtain ⟨E,d⟩ : ∃ z,z = w.alloc (.cells #[.int .i64 B,.string ⟨x.toArray⟩,.int .i64 m,.int .i64 p,.slice (some ⟨g,o,none⟩) 1 k] 100) := ⟨_,rfl⟩
 have s : Hid (w.grownBy E none) := by rw [d]; exact zf (zc w none) _
 have Q : Hid (Box E w.heap.size (.mk B x m p [u]) (.slice (some ⟨g,o,none⟩) 1 k)) := by rw [d]; exact Box.new w (.mk B x m p [u]) (.slice (some ⟨g,o,none⟩) 1 k) _
 obtain rfl : B = 20 := hk; clear h ha hf hu
 have M : sub (.mk 20 x m p [u]) 0 = u := rfl
 cases j : S.variableC c r.de u with
 | error z =>
  rw [show S.actC c r res acts (.mk 20 x m p [u]) = .error z by simp [KS.actC,T.kind,M,j,Except.bind]]
  go_enter Tryz.func77,Tryz.ntmps77
  go_wp2_with fail; go_at_call 114; rw [<- d]; refine (H.out _ s.out _ L.out K.out).mono ?_; rw [j]; rintro e w1 R; have N := R; obtain ⟨q,rfl⟩ := R.thrown
  exact ⟨rfl,N.err s.out⟩
 | ok t =>
  have O : Hid (w.cell? ⟨ρ.ty t,0,none⟩ = some (.int .i64 (S.ty t).form)) := X.out.y0 (J t j)
  by_cases F : (S.ty t).form = 5
  ·rw [F] at O
   rw [show S.actC c r res acts (.mk 20 x m p [u]) = .ok () by simp [KS.actC,T.kind,M,j,F,Except.bind]]
   go_enter Tryz.func77,Tryz.ntmps77
   go_wp2_with fail; go_at_call 114; rw [<- d]; refine (H.out _ s.out _ L.out K.out).mono ?_; rw [j]; rintro e w1 ⟨f,rfl⟩; have v := ze (za s.out f); have U : Hid (Box w1 w.heap.size (.mk 20 x m p [u]) (.slice (some ⟨g,o,none⟩) 1 k)) := Box.kept Q.out (za (zc E none) f); have C := zi v.out O.out; go_wp2; refine bodyPost_end (results_none rfl _ _ _) rfl ?_
   exact Cy.ok v.out
  ·have hd : ((S.ty t).form != 5) = true := by simpa using F
   rw [show S.actC c r res acts (.mk 20 x m p [u]) = .error (7,u.at') by simp [KS.actC,T.kind,M,j,F,Except.bind,thr]]
   go_enter Tryz.func77,Tryz.ntmps77
   go_wp2_with fail; go_at_call 114; rw [<- d]; refine (H.out _ s.out _ L.out K.out).mono ?_; rw [j]; rintro e w1 ⟨f,rfl⟩; have v := ze (za s.out f); have U : Hid (Box w1 w.heap.size (.mk 20 x m p [u]) (.slice (some ⟨g,o,none⟩) 1 k)) := Box.kept Q.out (za (zc E none) f); have C := zi v.out O.out; obtain ⟨_,_,_,_,_⟩ := U.out.plain; obtain ⟨_,_,_,_,_⟩ := i.out.kept v.out; go_wp2_with fail; go_at_call 53; refine (zu _ u _ 7).mono ?_; rintro e w2 V; have N := V; obtain ⟨q,rfl⟩ := V.thrown
   exact ⟨rfl,N.err v.out⟩
end
end Go.Proofs.YtnmkffjklpfflaaGreatDoor
