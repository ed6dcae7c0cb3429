/- Variables; procedures that are called; arguments. -/
import Derived.Test.YtnmkffjklpfflaaGreatDoorG12
import Derived.Test.YtnmkffjklpfflaaGreatDoorK03
namespace Go.Proofs.YtnmkffjklpfflaaGreatDoor
open Go.RowKit
set_option maxHeartbeats 4000000
set_option maxRecDepth 100000
section
variable {ρ : Lay} {w w' w1 : World} {S : KS} {b : Nat} {c : KSc}
theorem xZ (h : CK ρ w S b c) (n : T) (sv : Value) (hf : Fits n) (ha : AT w n.subs sv) (hs : n.kind = 25 -> 0 < n.subs.length) {r : KR} (hn : zF n = true -> CDe ρ S b c r n) :
  Calls Tryz.prog 114 #[.pointer (some ⟨b,0,none⟩),zn n sv] w (Cy w ((S.variableC c r.de n).map fun t => .pointer (some ⟨ρ.ty t,0,none⟩))) := by
 have HC := ze (fun w1 (G : w.grownBy w1 none) => yI (h.up G) n sv hf (ha.kept G) hs); have HD := ze (fun (hd : zF n = true) w1 (G : w.grownBy w1 none) => (hn hd).run w1 sv (h.up G) hf (ha.kept G)); have HN := ze (fun w1 (G : w.grownBy w1 none) => qs (w := w1) n sv (ha.kept G)); have HM := ze h.km
 have a6 : ∀ t,S.meaningC c n = .ok (some t) -> t < S.ths.length := fun t e => vx h (xj e)
 obtain ⟨g,x,m,p,l⟩ := n
 change Calls Tryz.prog 114 #[.pointer (some ⟨b,0,none⟩),.agg #[.int .i64 g,.string ⟨x.toArray⟩,.int .i64 m,.int .i64 p,sv]] w _
 obtain ⟨X,D⟩ : ∃ z,z = w.alloc (.cells #[.int .i64 g,.string ⟨x.toArray⟩,.int .i64 m,.int .i64 p,sv] 100) := ⟨_,rfl⟩
 have N : Hid (w.grownBy X none) := by rw [D]; exact zf (zc w none) _
 have B0 : Hid (Box X w.heap.size (.mk g x m p l) sv) := by rw [D]; exact Box.new w (.mk g x m p l) sv _
 clear h ha hf hs hn; cases B : zF (.mk g x m p l)
 ·rw [show S.variableC c r.de (.mk g x m p l) = .error (8,p) by simp [KS.variableC,B,thr,T.at']]
  go_enter Tryz.func114,Tryz.ntmps114
  go_wp2_with fail; go_at_call 160; rw [<- D]; refine (HN.out _ N.out).mono ?_; rw [B]; rintro e w1 ⟨rfl,d⟩; have j := ze (za N.out d); have C : Hid (Box w1 w.heap.size (.mk g x m p l) sv) := Box.kept B0.out (za (zc X none) d); obtain ⟨k,s,u,v,A⟩ := C.out.plain; go_wp2_with fail; go_at_call 53; refine (zu _ (.mk g x m p l) sv 8).mono ?_; rintro e M h2; have U := h2; obtain ⟨q,rfl⟩ := h2.thrown
  exact ⟨rfl,U.err j.out⟩
 cases O : S.meaningC c (.mk g x m p l) with
 | error z =>
  rw [show S.variableC c r.de (.mk g x m p l) = .error z by simp [KS.variableC,B,O,Except.bind]]
  go_enter Tryz.func114,Tryz.ntmps114
  go_wp2_with fail; go_at_call 160; rw [<- D]; refine (HN.out _ N.out).mono ?_; rw [B]; rintro e w1 ⟨rfl,d⟩; have j := ze (za N.out d); have C : Hid (Box w1 w.heap.size (.mk g x m p l) sv) := Box.kept B0.out (za (zc X none) d); obtain ⟨k,s,u,v,A⟩ := C.out.plain; go_wp2_with fail; go_at_call 153; refine (HC.out _ j.out).mono ?_; rw [O]; rintro e M h2; have U := h2; obtain ⟨q,rfl⟩ := h2.thrown
  exact ⟨rfl,U.err j.out⟩
 | ok o =>
  cases o with
  | none =>
   cases V : r.de (.mk g x m p l) with
   | error z =>
    rw [show S.variableC c r.de (.mk g x m p l) = .error z by simp [KS.variableC,B,O,V,Except.bind]]
    go_enter Tryz.func114,Tryz.ntmps114
    go_wp2_with fail; go_at_call 160; rw [<- D]; refine (HN.out _ N.out).mono ?_; rw [B]; rintro e w1 ⟨rfl,d⟩; have j := ze (za N.out d); have C : Hid (Box w1 w.heap.size (.mk g x m p l) sv) := Box.kept B0.out (za (zc X none) d); obtain ⟨k,s,u,v,A⟩ := C.out.plain; go_wp2_with fail; go_at_call 153; refine (HC.out _ j.out).mono ?_; rw [O]; rintro e M ⟨f,rfl⟩; simp only [zO]; have E := ze (za j.out f); have Q : Hid (Box M w.heap.size (.mk g x m p l) sv) := Box.kept C.out (za (zc w1 none) f); obtain ⟨H,I,J,K,L⟩ := Q.out.plain; go_wp2_with fail; go_at_call 161; refine (HD.out B _ E.out).mono ?_; rw [V]; rintro e w3 R; have U := R; obtain ⟨q,rfl⟩ := R.thrown
    exact ⟨rfl,U.err E.out⟩
   | ok i =>
    by_cases hk : g = 28
    ·subst hk
     rw [show S.variableC c r.de (.mk 28 x m p l) = .error (8,p) by simp [KS.variableC,B,O,V,Except.bind,T.kind,thr,T.at']]
     go_enter Tryz.func114,Tryz.ntmps114
     go_wp2_with fail; go_at_call 160; rw [<- D]; refine (HN.out _ N.out).mono ?_; rw [B]; rintro e w1 ⟨rfl,d⟩; have j := ze (za N.out d); have C : Hid (Box w1 w.heap.size (.mk 28 x m p l) sv) := Box.kept B0.out (za (zc X none) d); obtain ⟨k,s,u,v,A⟩ := C.out.plain; go_wp2_with fail; go_at_call 153; refine (HC.out _ j.out).mono ?_; rw [O]; rintro e M ⟨f,rfl⟩; simp only [zO]; have E := ze (za j.out f); have Q : Hid (Box M w.heap.size (.mk 28 x m p l) sv) := Box.kept C.out (za (zc w1 none) f); obtain ⟨H,I,J,K,L⟩ := Q.out.plain; go_wp2_with fail; go_at_call 161; refine (HD.out B _ E.out).mono ?_; rw [V]; rintro e w3 ⟨F,rfl⟩; have G3 := ze (za E.out F); have B3 : Hid (Box w3 w.heap.size (.mk 28 x m p l) sv) := Box.kept Q.out (za (zc M none) F); obtain ⟨Y,Z,a0,a1,a2⟩ := B3.out.plain; go_wp2_with fail; go_at_call 53; refine (zu _ (.mk 28 x m p l) sv 8).mono ?_; rintro e w4 h4; have U := h4; obtain ⟨q,rfl⟩ := h4.thrown
     exact ⟨rfl,U.err G3.out⟩
    ·have hd : decide (g = 28) = false := by simpa using hk
     have a7 : (g == 28) = false := by simpa using hk
     rw [show S.variableC c r.de (.mk g x m p l) = .ok i by simp [KS.variableC,B,O,V,hk,Except.bind,T.kind]]
     go_enter Tryz.func114,Tryz.ntmps114
     go_wp2_with fail; go_at_call 160; rw [<- D]; refine (HN.out _ N.out).mono ?_; rw [B]; rintro e w1 ⟨rfl,d⟩; have j := ze (za N.out d); have C : Hid (Box w1 w.heap.size (.mk g x m p l) sv) := Box.kept B0.out (za (zc X none) d); obtain ⟨k,s,u,v,A⟩ := C.out.plain; go_wp2_with fail; go_at_call 153; refine (HC.out _ j.out).mono ?_; rw [O]; rintro e M ⟨f,rfl⟩; simp only [zO]; have E := ze (za j.out f); have Q : Hid (Box M w.heap.size (.mk g x m p l) sv) := Box.kept C.out (za (zc w1 none) f); obtain ⟨H,I,J,K,L⟩ := Q.out.plain; go_wp2_with fail; go_at_call 161; refine (HD.out B _ E.out).mono ?_; rw [V]; rintro e w3 ⟨F,rfl⟩; have G3 := ze (za E.out F); have B3 : Hid (Box w3 w.heap.size (.mk g x m p l) sv) := Box.kept Q.out (za (zc M none) F); obtain ⟨Y,Z,a0,a1,a2⟩ := B3.out.plain; go_wp2
     go_ret
     exact Cy.ok G3.out
  | some t =>
   have ht := a6 t O; have t0 : Hid (w.cell? ⟨ρ.th t,0,none⟩ = some (.int .i64 (S.th t).kind)) := (HM.out.th t ht).bk.c 0 _ rfl
   by_cases R : (S.th t).kind = 3
   ·rw [R] at t0
    cases V : r.de (.mk g x m p l) with
    | error z =>
     rw [show S.variableC c r.de (.mk g x m p l) = .error z by simp [KS.variableC,B,O,V,R,Except.bind]]
     go_enter Tryz.func114,Tryz.ntmps114
     go_wp2_with fail; go_at_call 160; rw [<- D]; refine (HN.out _ N.out).mono ?_; rw [B]; rintro e w1 ⟨rfl,d⟩; have j := ze (za N.out d); have C : Hid (Box w1 w.heap.size (.mk g x m p l) sv) := Box.kept B0.out (za (zc X none) d); have a3 := zi j.out t0.out; obtain ⟨k,s,u,v,A⟩ := C.out.plain; go_wp2_with fail; go_at_call 153; refine (HC.out _ j.out).mono ?_; rw [O]; rintro e M ⟨f,rfl⟩; simp only [ya]; have E := ze (za j.out f); have Q : Hid (Box M w.heap.size (.mk g x m p l) sv) := Box.kept C.out (za (zc w1 none) f); have a4 := zi E.out t0.out; obtain ⟨H,I,J,K,L⟩ := Q.out.plain; go_wp2_with fail; go_at_call 161; refine (HD.out B _ E.out).mono ?_; rw [V]; rintro e w3 R; have U := R; obtain ⟨q,rfl⟩ := R.thrown
     exact ⟨rfl,U.err E.out⟩
    | ok i =>
     by_cases hk : g = 28
     ·subst hk
      rw [show S.variableC c r.de (.mk 28 x m p l) = .error (8,p) by simp [KS.variableC,B,O,V,R,Except.bind,T.kind,thr,T.at']]
      go_enter Tryz.func114,Tryz.ntmps114
      go_wp2_with fail; go_at_call 160; rw [<- D]; refine (HN.out _ N.out).mono ?_; rw [B]; rintro e w1 ⟨rfl,d⟩; have j := ze (za N.out d); have C : Hid (Box w1 w.heap.size (.mk 28 x m p l) sv) := Box.kept B0.out (za (zc X none) d); have a3 := zi j.out t0.out; obtain ⟨k,s,u,v,A⟩ := C.out.plain; go_wp2_with fail; go_at_call 153; refine (HC.out _ j.out).mono ?_; rw [O]; rintro e M ⟨f,rfl⟩; simp only [ya]; have E := ze (za j.out f); have Q : Hid (Box M w.heap.size (.mk 28 x m p l) sv) := Box.kept C.out (za (zc w1 none) f); have a4 := zi E.out t0.out; obtain ⟨H,I,J,K,L⟩ := Q.out.plain; go_wp2_with fail; go_at_call 161; refine (HD.out B _ E.out).mono ?_; rw [V]; rintro e w3 ⟨F,rfl⟩; have G3 := ze (za E.out F); have B3 : Hid (Box w3 w.heap.size (.mk 28 x m p l) sv) := Box.kept Q.out (za (zc M none) F); have a5 := zi G3.out t0.out; obtain ⟨Y,Z,a0,a1,a2⟩ := B3.out.plain; go_wp2_with fail; go_at_call 53; refine (zu _ (.mk 28 x m p l) sv 8).mono ?_; rintro e w4 h4; have U := h4; obtain ⟨q,rfl⟩ := h4.thrown
      exact ⟨rfl,U.err G3.out⟩
     ·have hd : decide (g = 28) = false := by simpa using hk
      have a7 : (g == 28) = false := by simpa using hk
      rw [show S.variableC c r.de (.mk g x m p l) = .ok i by simp [KS.variableC,B,O,V,hk,R,Except.bind,T.kind]]
      go_enter Tryz.func114,Tryz.ntmps114
      go_wp2_with fail; go_at_call 160; rw [<- D]; refine (HN.out _ N.out).mono ?_; rw [B]; rintro e w1 ⟨rfl,d⟩; have j := ze (za N.out d); have C : Hid (Box w1 w.heap.size (.mk g x m p l) sv) := Box.kept B0.out (za (zc X none) d); have a3 := zi j.out t0.out; obtain ⟨k,s,u,v,A⟩ := C.out.plain; go_wp2_with fail; go_at_call 153; refine (HC.out _ j.out).mono ?_; rw [O]; rintro e M ⟨f,rfl⟩; simp only [ya]; have E := ze (za j.out f); have Q : Hid (Box M w.heap.size (.mk g x m p l) sv) := Box.kept C.out (za (zc w1 none) f); have a4 := zi E.out t0.out; obtain ⟨H,I,J,K,L⟩ := Q.out.plain; go_wp2_with fail; go_at_call 161; refine (HD.out B _ E.out).mono ?_; rw [V]; rintro e w3 ⟨F,rfl⟩; have G3 := ze (za E.out F); have B3 : Hid (Box w3 w.heap.size (.mk g x m p l) sv) := Box.kept Q.out (za (zc M none) F); have a5 := zi G3.out t0.out; obtain ⟨Y,Z,a0,a1,a2⟩ := B3.out.plain; go_wp2
      go_ret
      exact Cy.ok G3.out
   ·have hd : ((S.th t).kind != 3) = true := by simpa using R
    rw [show S.variableC c r.de (.mk g x m p l) = .error (8,p) by simp [KS.variableC,B,O,R,Except.bind,thr,T.at']]
    go_enter Tryz.func114,Tryz.ntmps114
    go_wp2_with fail; go_at_call 160; rw [<- D]; refine (HN.out _ N.out).mono ?_; rw [B]; rintro e w1 ⟨rfl,d⟩; have j := ze (za N.out d); have C : Hid (Box w1 w.heap.size (.mk g x m p l) sv) := Box.kept B0.out (za (zc X none) d); have a3 := zi j.out t0.out; obtain ⟨k,s,u,v,A⟩ := C.out.plain; go_wp2_with fail; go_at_call 153; refine (HC.out _ j.out).mono ?_; rw [O]; rintro e M ⟨f,rfl⟩; simp only [ya]; have E := ze (za j.out f); have Q : Hid (Box M w.heap.size (.mk g x m p l) sv) := Box.kept C.out (za (zc w1 none) f); have a4 := zi E.out t0.out; obtain ⟨H,I,J,K,L⟩ := Q.out.plain; go_wp2_with fail; go_at_call 53; refine (zu _ (.mk g x m p l) sv 8).mono ?_; rintro e w3 R; have U := R; obtain ⟨q,rfl⟩ := R.thrown
    exact ⟨rfl,U.err E.out⟩
theorem bind_ok {α β : Type} {x : CR α} {f : α -> CR β} {t : β} (h : x.bind f = .ok t) : ∃ a,x = .ok a /\ f a = .ok t := by
 cases x with
 | error z => cases h
 | ok a => exact ⟨a,rfl,h⟩
theorem vl {r : KR} {n : T} {t : Nat} (hn : zF n = true -> CDe ρ S b c r n) (e : S.variableC c r.de n = .ok t) : t < S.tys.length := by
 unfold KS.variableC at e
 by_cases d : zF n = true
 ·rw [if_pos d] at e
  obtain ⟨m,-,e⟩ := bind_ok e
  have f : (r.de n).bind (fun t => if n.kind = 28 then thr n 8 else .ok t) = .ok t := by
   cases m with
   | none => simpa using e
   | some u =>
    by_cases g : (S.th u).kind = 3
    ·simpa [g] using e
    ·simp [g,thr] at e
  obtain ⟨_,h,e⟩ := bind_ok f
  split at e
  ·cases e
  ·cases e; exact (hn d).lt _ h
 ·rw [if_neg d] at e
  cases e
theorem sy (h : CK ρ w S b c) (n : T) (sv : Value) (hf : Fits n) (ha : AT w n.subs sv) (hs : n.kind = 25 -> 0 < n.subs.length) {r : KR} (hn : CDe ρ S b c r n) :
  Calls Tryz.prog 158 #[.pointer (some ⟨b,0,none⟩),zn n sv] w (Cy w ((S.calledC c r n).map fun t => .pointer (some ⟨ρ.pr t,0,none⟩))) := by
 have I := ze (fun w1 (G : w.grownBy w1 none) => yI (h.up G) n sv hf (ha.kept G) hs); have Z := ze (fun w1 (G : w.grownBy w1 none) => hn.run w1 sv (h.up G) hf (ha.kept G)); have HM := ze h.km
 have U : ∀ t,S.meaningC c n = .ok (some t) -> t < S.ths.length := fun t e => vx h (xj e)
 have V : ∀ t,t < S.ths.length -> (S.th t).kind = 4 -> ∃ p,(S.th t).proc = some p := fun t J hk => by obtain ⟨p,O,_⟩ := h.ok.kpr t J hk; exact ⟨p,O⟩
 obtain ⟨f,x,m,p,l⟩ := n
 change Calls Tryz.prog 158 #[.pointer (some ⟨b,0,none⟩),.agg #[.int .i64 f,.string ⟨x.toArray⟩,.int .i64 m,.int .i64 p,sv]] w _
 obtain ⟨H,g⟩ : ∃ z,z = w.alloc (.cells #[.int .i64 f,.string ⟨x.toArray⟩,.int .i64 m,.int .i64 p,sv] 100) := ⟨_,rfl⟩
 have C : Hid (w.grownBy H none) := by rw [g]; exact zf (zc w none) _
 have Q : Hid (Box H w.heap.size (.mk f x m p l) sv) := by rw [g]; exact Box.new w (.mk f x m p l) sv _
 clear h ha hf hs hn; cases k : S.meaningC c (.mk f x m p l) with
 | error z =>
  rw [show S.calledC c r (.mk f x m p l) = .error z by simp [KS.calledC,k,Except.bind]]
  go_enter Tryz.func158,Tryz.ntmps158
  go_wp2_with fail; go_at_call 153; rw [<- g]; refine (I.out _ C.out).mono ?_; rw [k]; rintro e w1 O; have E := O; obtain ⟨q,rfl⟩ := O.thrown
  exact ⟨rfl,E.err C.out⟩
 | ok o =>
  cases o with
  | none =>
   cases R : r.de (.mk f x m p l) with
   | error z =>
    rw [show S.calledC c r (.mk f x m p l) = .error z by simp [KS.calledC,k,R,Except.bind]]
    go_enter Tryz.func158,Tryz.ntmps158
    go_wp2_with fail; go_at_call 153; rw [<- g]; refine (I.out _ C.out).mono ?_; rw [k]; rintro e w1 ⟨d,rfl⟩; simp only [zO]; have j := ze (za C.out d); have D : Hid (Box w1 w.heap.size (.mk f x m p l) sv) := Box.kept Q.out (za (zc H none) d); obtain ⟨s,u,v,A,B⟩ := D.out.plain; go_wp2_with fail; go_at_call 161; refine (Z.out _ j.out).mono ?_; rw [R]; rintro e X K; have E := K; obtain ⟨q,rfl⟩ := K.thrown
    exact ⟨rfl,E.err j.out⟩
   | ok i =>
    rw [show S.calledC c r (.mk f x m p l) = .error (8,p) by simp [KS.calledC,k,R,Except.bind,thr,T.at']]
    go_enter Tryz.func158,Tryz.ntmps158
    go_wp2_with fail; go_at_call 153; rw [<- g]; refine (I.out _ C.out).mono ?_; rw [k]; rintro e w1 ⟨d,rfl⟩; simp only [zO]; have j := ze (za C.out d); have D : Hid (Box w1 w.heap.size (.mk f x m p l) sv) := Box.kept Q.out (za (zc H none) d); obtain ⟨s,u,v,A,B⟩ := D.out.plain; go_wp2_with fail; go_at_call 161; refine (Z.out _ j.out).mono ?_; rw [R]; rintro e X ⟨L,rfl⟩; have G2 := ze (za j.out L); have B2 : Hid (Box X w.heap.size (.mk f x m p l) sv) := Box.kept D.out (za (zc w1 none) L); obtain ⟨_,_,_,_,_⟩ := B2.out.plain; go_wp2_with fail; go_at_call 53; refine (zu _ (.mk f x m p l) sv 8).mono ?_; rintro e w3 h3; have E := h3; obtain ⟨q,rfl⟩ := h3.thrown
    exact ⟨rfl,E.err G2.out⟩
  | some t =>
   have J := U t k; have Y : Hid (w.cell? ⟨ρ.th t,0,none⟩ = some (.int .i64 (S.th t).kind)) := (HM.out.th t J).bk.c 0 _ rfl; have t8 : Hid (w.cell? ⟨ρ.th t,8,none⟩ = some (ρ.prP (S.th t).proc)) := (HM.out.th t J).bk.c 8 _ rfl
   by_cases M : (S.th t).kind = 4
   ·obtain ⟨pp,F⟩ := V t J M
    rw [show S.calledC c r (.mk f x m p l) = .ok pp by simp [KS.calledC,k,M,F,Except.bind]]; rw [M] at Y; rw [F,nu] at t8; clear F
    go_enter Tryz.func158,Tryz.ntmps158
    go_wp2_with fail; go_at_call 153; rw [<- g]; refine (I.out _ C.out).mono ?_; rw [k]; rintro e w1 ⟨d,rfl⟩; simp only [ya]; have j := ze (za C.out d); have D : Hid (Box w1 w.heap.size (.mk f x m p l) sv) := Box.kept Q.out (za (zc H none) d); have N := zi j.out Y.out; have a0 := zi j.out t8.out; obtain ⟨s,u,v,A,B⟩ := D.out.plain; go_wp2
    go_ret
    exact Cy.ok j.out
   ·have hd : ((S.th t).kind != 4) = true := by simpa using M
    rw [show S.calledC c r (.mk f x m p l) = .error (8,p) by simp [KS.calledC,k,M,Except.bind,thr,T.at']]
    go_enter Tryz.func158,Tryz.ntmps158
    go_wp2_with fail; go_at_call 153; rw [<- g]; refine (I.out _ C.out).mono ?_; rw [k]; rintro e w1 ⟨d,rfl⟩; simp only [ya]; have j := ze (za C.out d); have D : Hid (Box w1 w.heap.size (.mk f x m p l) sv) := Box.kept Q.out (za (zc H none) d); have N := zi j.out Y.out; obtain ⟨s,u,v,A,B⟩ := D.out.plain; go_wp2_with fail; go_at_call 53; refine (zu _ (.mk f x m p l) sv 8).mono ?_; rintro e X K; have E := K; obtain ⟨q,rfl⟩ := K.thrown
    exact ⟨rfl,E.err j.out⟩
theorem gh (h : CK ρ w S b c) {r : KR} {n : T} {p : Nat} (e : S.calledC c r n = .ok p) : p < S.prs.length := by
 unfold KS.calledC at e
 cases d : S.meaningC c n with
 | error z => rw [d] at e; cases e
 | ok o =>
  rw [d] at e; cases o with
  | none =>
   simp only [Except.bind] at e; cases f : r.de n with
   | error z => rw [f] at e; cases e
   | ok i => rw [f] at e; cases e
  | some t =>
   simp only [Except.bind] at e
   split at e
   ·rename_i hk
    obtain ⟨p,g,j⟩ := h.ok.kpr t (vx h (xj d)) hk; rw [g] at e; cases e
    exact j
   ·cases e
theorem kw (h : CK ρ w S b c) (n : T) (sv : Value) (hf : Fits n) (ha : AT w n.subs sv) (hs : n.kind = 25 -> 0 < n.subs.length) (hT : KAll S) {r : KR} {q : Nat} (hql : q < S.ths.length) (hqt : ∃ i,(S.th q).ty = some i) (hx : CEx ρ S b c r n) (hn : zF n = true -> CDe ρ S b c r n) :
  Calls Tryz.prog 159 #[.pointer (some ⟨b,0,none⟩),zn n sv,.pointer (some ⟨ρ.th q,0,none⟩)] w (Cy w ((S.fitsC c r n q).map fun t => .bool t)) := by
 obtain ⟨i,s⟩ := hqt; have U := h.ok.ty q hql i s; have J := ze h.km; have F := ze hT; have HX := ze (fun w1 (G : w.grownBy w1 none) => hx.run w1 sv (h.up G) hf (ha.kept G)); have R := ze (fun w1 (G : w.grownBy w1 none) => xZ (h.up G) n sv hf (ha.kept G) hs hn); have V := hx.lt
 have X := fun t e => vl hn (t := t) e
 have K : Hid (w.cell? ⟨ρ.th q,4,none⟩ = some (.pointer (some ⟨ρ.ty i,0,none⟩))) := by have h9 := (h.km.th q hql).bk.c 4 _ rfl; rw [s] at h9; exact h9
 have Y := (h.km.th q hql).bk.c 7 _ rfl; have zt : ρ.th q < w.heap.size := zw Y; obtain ⟨g,x,m,p,l⟩ := n
 change Calls Tryz.prog 159 #[.pointer (some ⟨b,0,none⟩),.agg #[.int .i64 g,.string ⟨x.toArray⟩,.int .i64 m,.int .i64 p,sv],.pointer (some ⟨ρ.th q,0,none⟩)] w _
 obtain ⟨v,f⟩ : ∃ z,z = w.alloc (.cells #[.int .i64 g,.string ⟨x.toArray⟩,.int .i64 m,.int .i64 p,sv] 100) := ⟨_,rfl⟩
 have o : Hid (w.grownBy v none) := by rw [f]; exact zf (zc w none) _
 have H : Hid (Box v w.heap.size (.mk g x m p l) sv) := by rw [f]; exact Box.new w (.mk g x m p l) sv _
 clear h ha hf hs hn hx hT; cases A : (S.th q).byVar
 ·rw [A] at Y
  cases k : r.ex (.mk g x m p l) with
  | error z =>
   rw [show S.fitsC c r (.mk g x m p l) q = .error z by simp [KS.fitsC,A,k,Except.bind]]
   go_enter Tryz.func159,Tryz.ntmps159
   go_wp2_with fail; rw [<- f]; clear f; refine wp_region_held_drew (S := fun w9 => v.grownBy w9 none) (by kernel_rfl) ?_ (fun hHeld => ?_)
   ·exact zh (zc v none)
   refine kQ 0 13 (.pointer (some ⟨ρ.th q,0,none⟩)) hHeld ?_; simp only [qA,qB,qC,qD]; refine kQ 1 14 (.pointer (some ⟨ρ.th q,0,none⟩)) hHeld ?_; simp only [qA,qB,qC,qD]; refine kQ 2 15 (.pointer (some ⟨ρ.th q,4,none⟩)) hHeld ?_; simp only [qA,qB,qC,qD]; refine dk 3 (some 16) (.pointer (some ⟨ρ.ty i,0,none⟩)) rfl rfl (fun w9 hS => by have Z := zi (za o.out hS) K.out; go_simp) hHeld ?_; simp only [qA,qB,qC,qD]; refine kQ 4 17 (.pointer (some ⟨b,0,none⟩)) hHeld ?_; simp only [qA,qB,qC,qD]; refine dk 5 (some 18) (.agg #[.int .i64 g,.string ⟨x.toArray⟩,.int .i64 m,.int .i64 p,sv]) rfl rfl (fun w9 hS => by obtain ⟨q0,Z,q2,q3,q4⟩ := (Box.kept H.out hS).plain; go_simp) hHeld ?_; simp only [qA,qB,qC,qD]; refine rd 6 rfl fun KK hKK => ?_
   go_simp
   go_at_call 157; refine (HX.out _ (zh o.out)).mono ?_; rw [k]; rintro e w1 L; have F := L; obtain ⟨q,rfl⟩ := L.thrown
   exact ⟨rfl,F.err (zh o.out)⟩
  | ok t =>
   have C := V t k; rw [show S.fitsC c r (.mk g x m p l) q = .ok (S.takes i t) by simp [KS.fitsC,A,k,s,Except.bind]]
   go_enter Tryz.func159,Tryz.ntmps159
   go_wp2_with fail; rw [<- f]; clear f; refine wp_region_held_drew (S := fun w9 => v.grownBy w9 none) (by kernel_rfl) ?_ (fun hHeld => ?_)
   ·exact zh (zc v none)
   refine kQ 0 13 (.pointer (some ⟨ρ.th q,0,none⟩)) hHeld ?_; simp only [qA,qB,qC,qD]; refine kQ 1 14 (.pointer (some ⟨ρ.th q,0,none⟩)) hHeld ?_; simp only [qA,qB,qC,qD]; refine kQ 2 15 (.pointer (some ⟨ρ.th q,4,none⟩)) hHeld ?_; simp only [qA,qB,qC,qD]; refine dk 3 (some 16) (.pointer (some ⟨ρ.ty i,0,none⟩)) rfl rfl (fun w9 hS => by have Z := zi (za o.out hS) K.out; go_simp) hHeld ?_; simp only [qA,qB,qC,qD]; refine kQ 4 17 (.pointer (some ⟨b,0,none⟩)) hHeld ?_; simp only [qA,qB,qC,qD]; refine dk 5 (some 18) (.agg #[.int .i64 g,.string ⟨x.toArray⟩,.int .i64 m,.int .i64 p,sv]) rfl rfl (fun w9 hS => by obtain ⟨q0,Z,q2,q3,q4⟩ := (Box.kept H.out hS).plain; go_simp) hHeld ?_; simp only [qA,qB,qC,qD]; refine rd 6 rfl fun KK hKK => ?_
   go_simp
   go_at_call 157; refine (HX.out _ (zh o.out)).mono ?_; rw [k]; rintro e w1 ⟨d,rfl⟩; have j := ze (za (zh o.out) d); have M := ze (za (zh (zc v none)) d); clear d
   go_simp
   refine hKK.out _ _ M.out fun hHeld => ?_
   clear hKK KK; refine rd 7 rfl fun KK hKK => ?_
   go_simp
   go_at_call 156; refine (yq (J.out.up j.out) F.out U C).mono ?_; rintro e w2 ⟨rfl,D⟩; have G2 := ze (za j.out D); have N := ze (za M.out D); clear D
   go_simp
   refine hKK.out _ _ N.out fun hHeld => ?_
   clear hKK KK; refine kQ 8 6 (.bool (S.takes i t)) hHeld ?_; simp only [qA,qB,qC,qD]; refine wpAnyH_done (by kernel_rfl) ?_ _; clear hHeld; have B2 : Hid (Box w2 w.heap.size (.mk g x m p l) sv) := Box.kept H.out N.out; go_wp2
   go_ret
   exact Cy.ok G2.out
 ·rw [A] at Y
  cases k : S.variableC c r.de (.mk g x m p l) with
  | error z =>
   rw [show S.fitsC c r (.mk g x m p l) q = .error z by simp [KS.fitsC,A,k,Except.bind]]
   go_enter Tryz.func159,Tryz.ntmps159
   go_wp2_with fail; go_at_call 114; rw [<- f]; refine (R.out _ o.out).mono ?_; rw [k]; rintro e w1 L; have F := L; obtain ⟨q,rfl⟩ := L.thrown
   exact ⟨rfl,F.err o.out⟩
  | ok t =>
   have C := X t k
   by_cases u : t = i
   ·subst u
    have E := fun w1 (G : w.grownBy w1 none) => jx (J.out.up G) C C true (by simp)
    rw [show S.fitsC c r (.mk g x m p l) q = .ok true by simp [KS.fitsC,A,k,s,Except.bind]]
    go_enter Tryz.func159,Tryz.ntmps159
    go_wp2_with fail; go_at_call 114; rw [<- f]; refine (R.out _ o.out).mono ?_; rw [k]; rintro e w1 ⟨d,rfl⟩; have j := ze (za o.out d); have B1 : Hid (Box w1 w.heap.size (.mk g x m p l) sv) := Box.kept H.out (za (zc v none) d); have B := zi j.out K.out
    replace E := E _ j.out
    go_wp2
    go_ret
    exact Cy.ok j.out
   ·have E := fun w1 (G : w.grownBy w1 none) => jx (J.out.up G) C U false (by simpa using u)
    have t0 : Hid (w.cell? ⟨ρ.ty t,0,none⟩ = some (.int .i64 (S.ty t).form)) := J.out.y0 C
    by_cases I : (S.ty t).form = 4
    ·rw [show S.fitsC c r (.mk g x m p l) q = .ok (S.ext t i) by simp [KS.fitsC,A,k,s,u,I,Except.bind]]
     have H4 := ze I; rw [I] at t0; clear I u
     go_enter Tryz.func159,Tryz.ntmps159
     go_wp2_with fail; go_at_call 114; rw [<- f]; refine (R.out _ o.out).mono ?_; rw [k]; rintro e w1 ⟨d,rfl⟩; have j := ze (za o.out d); have B1 : Hid (Box w1 w.heap.size (.mk g x m p l) sv) := Box.kept H.out (za (zc v none) d); have B := zi j.out K.out; have O := zi j.out t0.out
     replace E := E _ j.out
     go_wp2_with fail; go_at_call 189; refine (vj (J.out.up j.out) F.out.toKTys C U H4.out).mono ?_; rintro e w2 ⟨rfl,Q⟩; rw [Q]; clear Q; go_wp2
     go_ret
     exact Cy.ok j.out
    ·rw [show S.fitsC c r (.mk g x m p l) q = .ok false by simp [KS.fitsC,A,k,s,u,I,Except.bind]]
     have hd : decide ((S.ty t).form = 4) = false := by simpa using I
     clear u
     go_enter Tryz.func159,Tryz.ntmps159
     go_wp2_with fail; go_at_call 114; rw [<- f]; refine (R.out _ o.out).mono ?_; rw [k]; rintro e w1 ⟨d,rfl⟩; have j := ze (za o.out d); have B1 : Hid (Box w1 w.heap.size (.mk g x m p l) sv) := Box.kept H.out (za (zc v none) d); have B := zi j.out K.out; have O := zi j.out t0.out
     replace E := E _ j.out
     go_wp2
     go_ret
     exact Cy.ok j.out
end
section
variable {ρ : Lay} {w w' w1 : World} {S : KS} {b : Nat} {c : KSc}
structure KPrs (S : KS) : Prop where
 pars : ∀ p,p < S.prs.length -> ∀ x ∈ (S.pr p).pars,x < S.ths.length /\ (S.th x).kind = 3
 res : ∀ p,p < S.prs.length -> ∀ i,(S.pr p).result = some i -> i < S.tys.length
theorem KM.pars (h : KM ρ w S) {p : Nat} (hp : p < S.prs.length) : ∃ a cp,w.cell? ⟨ρ.pr p,5,none⟩ = some (.slice a (S.pr p).pars.length cp) /\ (S.pr p).pars.length <= cp /\ cp <= maxLen /\ w.cell? ⟨ρ.pr p,6,none⟩ = some (ρ.tyP (S.pr p).result) /\
  ∀ (j : Nat) (q : Nat),(S.pr p).pars[j]? = some q -> ∃ g,a = some ⟨g,0,none⟩ /\ w.cell? ⟨g,j,none⟩ = some (.pointer (some ⟨ρ.th q,0,none⟩)) := by
 obtain ⟨l,m,d,-,e⟩ := (h.pr p hp).bk; obtain ⟨a,cp,rfl,f,i,k⟩ := e.read; refine ⟨a,cp,d.c 5 _ rfl,f,i,d.c 6 _ rfl,fun j q hj => ?_⟩
 exact k j _ (by rw [List.getElem?_map,hj]; rfl)
theorem px {r : KR} {us : List T} {ps : List Nat} {j : Nat} {v : T} {q : Nat} (hv : us[j]? = some v) (hq : ps[j]? = some q) : S.argsC c r (us.drop j) (ps.drop j) = (S.fitsC c r v q).bind fun b => if b = true then S.argsC c r (us.drop (j + 1)) (ps.drop (j + 1)) else thr v 7 := by
 obtain ⟨d,rfl⟩ := List.getElem?_eq_some_iff.1 hv; obtain ⟨e,rfl⟩ := List.getElem?_eq_some_iff.1 hq; rw [List.drop_eq_getElem_cons d,List.drop_eq_getElem_cons e]
 rfl
structure CAr (ρ : Lay) (S : KS) (b : Nat) (c : KSc) (r : KR) (n : T) : Prop where
 ex : CEx ρ S b c r n
 de : zF n = true -> CDe ρ S b c r n
 dot : n.kind = 25 -> 0 < n.subs.length
theorem fE (h : CK ρ w S b c) (n : T) (sv : Value) (hf : Fits n) (ha : AT w n.subs sv) (hT : KAll S) (hF : KFull S) (hP : KPrs S) {r : KR} {u : T} {us : List T} (hl : n.subs = u :: us) (hu : CDe ρ S b c r u) (hsu : u.kind = 25 -> 0 < u.subs.length) (hus : ∀ v ∈ us,CAr ρ S b c r v) :
  Calls Tryz.prog 111 #[.pointer (some ⟨b,0,none⟩),zn n sv] w (Cy w ((S.callC c r n).map fun t => ρ.tyP t)) := by
 have HU := ze (fun w1 (G : w.grownBy w1 none) su (fu : Fits u) (au : AT w u.subs su) => sy (h.up G) u su fu (au.kept G) hsu hu); have HK := ze h; have HM := ze h.km; have J := ze hT; have a5 := ze hus
 have a6 : ∀ q,S.calledC c r u = .ok q -> q < S.prs.length := fun q e => gh h e
 have a7 : ∀ q,q < S.prs.length -> ∀ y ∈ (S.pr q).pars,y < S.ths.length /\ ∃ i,(S.th y).ty = some i := fun q B y hy => ⟨(hP.pars q B y hy).1,hF y (hP.pars q B y hy).1 (.inl (hP.pars q B y hy).2)⟩
 obtain ⟨s,x,m,p,l⟩ := n; obtain rfl : l = u :: us := hl; obtain ⟨g,o,Y,su,rfl,_,_,C,fu,au,ar⟩ := ha.cons; have HA := ze au; have HF := ze fu; have HR := ze ar; have d0 := C.c0; have d1 := C.c1; have d2 := C.c2; have d3 := C.c3; have d4 := C.c4; have zg : g < w.heap.size := zw d0; clear C fu au ar
 change Calls Tryz.prog 111 #[.pointer (some ⟨b,0,none⟩),.agg #[.int .i64 s,.string ⟨x.toArray⟩,.int .i64 m,.int .i64 p,.slice (some ⟨g,o,none⟩) (us.length + 1) Y]] w _
 obtain ⟨w0,A⟩ : ∃ z,z = w.alloc (.cells #[.int .i64 s,.string ⟨x.toArray⟩,.int .i64 m,.int .i64 p,.slice (some ⟨g,o,none⟩) (us.length + 1) Y] 100) := ⟨_,rfl⟩
 have X : Hid (w.grownBy w0 none) := by rw [A]; exact zf (zc w none) _
 have B0 : Hid (Box w0 w.heap.size (.mk s x m p (u :: us)) (.slice (some ⟨g,o,none⟩) (us.length + 1) Y)) := by rw [A]; exact Box.new w (.mk s x m p (u :: us)) (.slice (some ⟨g,o,none⟩) (us.length + 1) Y) _
 clear h ha hf hu hus hT hF hP hsu
 have hz : sub (.mk s x m p (u :: us)) 0 = u := rfl
 have Z : (T.mk s x m p (u :: us)).subs.drop 1 = us := rfl
 cases B : S.calledC c r u with
 | error z =>
  rw [show S.callC c r (.mk s x m p (u :: us)) = .error z by simp [KS.callC,hz,B,Except.bind]]
  go_enter Tryz.func111,Tryz.ntmps111
  go_wp2_with fail; go_at_call 158; rw [<- A]; refine (HU.out _ X.out su HF.out HA.out).mono ?_; rw [B]; rintro e w1 h1; have J := h1; obtain ⟨q,rfl⟩ := h1.thrown
  exact ⟨rfl,J.err X.out⟩
 | ok q =>
  have a4 := a6 q B; obtain ⟨_,pc,L,_,a8,p6,a1⟩ := HM.out.pars a4
  replace L := ze L
  replace p6 := ze p6
  have a9 := ze a1
  have b5 : (S.pr q).pars.length <= 9223372036854775807 := by unfold maxLen at a8; omega
  clear a1
  rcases (by omega : Y = 1 \/ 1 < Y) with rfl | b6
  ·obtain rfl : us = [] := List.eq_nil_of_length_eq_zero (by omega)
   simp only [List.length_nil,Nat.zero_add] at A B0
   by_cases d : (S.pr q).pars.length = 0
   ·rw [show S.callC c r (.mk s x m p [u]) = .ok (S.pr q).result by simp [KS.callC,hz,Z,B,Except.bind,d,KS.argsC]]
    rw [d] at L
    go_enter Tryz.func111,Tryz.ntmps111
    go_wp2_with fail; go_at_call 158; rw [<- A]; refine (HU.out _ X.out su HF.out HA.out).mono ?_; rw [B]; rintro e w1 ⟨f,rfl⟩; have D := ze (za X.out f); have B1 : Hid (Box w1 w.heap.size (.mk s x m p [u]) (.slice (some ⟨g,o,none⟩) 1 1)) := Box.kept B0.out (za (zc w0 none) f); have H := zi D.out L.out; have I := zi D.out p6.out; obtain ⟨M,N,O,Q,R⟩ := B1.out.plain; go_wp2_with fail
    go_loop [30] (fun iv => iv = .int .i64 0) (fun _ => 0)
    case atStart => rfl
    case round =>
     subst hrel; go_wp2
     go_ret
     exact Cy.ok D.out
   ·rw [show S.callC c r (.mk s x m p [u]) = .error (7,p) by simp [KS.callC,hz,Z,B,Except.bind,Ne.symm d,thr,T.at']]
    have b0 : ((0 : Int) != ((S.pr q).pars.length : Int)) = true := by simp; omega
    go_enter Tryz.func111,Tryz.ntmps111
    go_wp2_with fail; go_at_call 158; rw [<- A]; refine (HU.out _ X.out su HF.out HA.out).mono ?_; rw [B]; rintro e w1 ⟨f,rfl⟩; have D := ze (za X.out f); have B1 : Hid (Box w1 w.heap.size (.mk s x m p [u]) (.slice (some ⟨g,o,none⟩) 1 1)) := Box.kept B0.out (za (zc w0 none) f); have H := zi D.out L.out; have I := zi D.out p6.out; obtain ⟨M,N,O,Q,R⟩ := B1.out.plain; go_wp2_with fail; go_at_call 53; refine (zu _ (.mk s x m p [u]) (.slice (some ⟨g,o,none⟩) 1 1) 7).mono ?_; rintro e K h2; have J := h2; obtain ⟨q,rfl⟩ := h2.thrown
    exact ⟨rfl,J.err D.out⟩
  by_cases d : us.length = (S.pr q).pars.length
  ·have hC : S.callC c r (.mk s x m p (u :: us)) = (S.argsC c r us (S.pr q).pars).bind fun _ => .ok (S.pr q).result := by simp only [KS.callC,hz,Z,B,Except.bind,if_pos d]
   rw [hC]; clear hC
   obtain ⟨RR,a0⟩ : ∃ z,z = (S.argsC c r us (S.pr q).pars).bind fun _ => (Except.ok (S.pr q).result : CR (Option Nat)) := ⟨_,rfl⟩
   rw [<- a0]; rw [<- d] at L; have HL := ze d; clear d
   go_enter Tryz.func111,Tryz.ntmps111
   go_wp2_with fail; go_at_call 158; rw [<- A]; refine (HU.out _ X.out su HF.out HA.out).mono ?_; rw [B]; rintro e w1 ⟨f,rfl⟩; have D := ze (za X.out f); have B1 : Hid (Box w1 w.heap.size (.mk s x m p (u :: us)) (.slice (some ⟨g,o,none⟩) (us.length + 1) Y)) := Box.kept B0.out (za (zc w0 none) f); have H := zi D.out L.out; have I := zi D.out p6.out; obtain ⟨M,N,O,Q,R⟩ := B1.out.plain; go_wp2_with fail; clear H I
   go_loopw [30] (fun iv wr => ∃ j : Nat,j <= us.length /\ iv = .int .i64 ↑j /\ Hid (S.argsC c r us (S.pr q).pars = S.argsC c r (us.drop j) ((S.pr q).pars.drop j)) /\ Hid (w1.grownBy wr none)) (fun iv _ => us.length - (intOf iv).toNat)
   case atStart => exact ⟨0,Nat.zero_le _,rfl,by simp [Hid],zc _ _⟩
   case round =>
    obtain ⟨j,_,rfl,HE,HG⟩ := hrel; have GR := ze (za D.out HG.out)
    by_cases b1 : j < us.length
    ·obtain ⟨v,hv⟩ : ∃ v,us[j]? = some v := ⟨_,List.getElem?_eq_getElem b1⟩
     obtain ⟨y,hy⟩ : ∃ y,(S.pr q).pars[j]? = some y := ⟨_,List.getElem?_eq_getElem (by have h9 := HL.out; omega)⟩; obtain ⟨g',o',sw,e1,C,fv,av⟩ := HR.out.node j v hv; cases e1; obtain ⟨va,vc,rfl,-,-⟩ := av.form; obtain ⟨pg,e2,py⟩ := a9.out j y hy; subst e2; obtain ⟨a2,a3⟩ := a7 q a4 y (List.mem_of_getElem? hy); have HV := ze (a5.out v (List.mem_of_getElem? hv)); have HS := ze (px (S := S) (c := c) (r := r) hv hy); have FV := ze fv; have AV := ze av; have PY := ze py
     replace C := C.kept GR.out
     have d0 := C.c0; have d1 := C.c1; have d2 := C.c2; have d3 := C.c3; have d4 := C.c4; have b7 : g < wr.heap.size := zw d0; clear C fv av py hv hy; go_wp2_with fail; obtain ⟨K,U⟩ : ∃ z,z = wr.alloc (.cells #[.int .i64 v.kind,.string ⟨v.name.toArray⟩,.int .i64 v.num,.int .i64 v.at',.slice va v.subs.length vc] 100) := ⟨_,rfl⟩; rw [<- U]
     have E : Hid (w.grownBy K none) := by rw [U]; exact zf GR.out _
     have BV : Hid (Box K wr.heap.size v (.slice va v.subs.length vc)) := by rw [U]; exact Box.new wr v _ _
     have b2 : Hid (w1.grownBy K none) := by rw [U]; exact zf HG.out _
     clear U; cases k : S.fitsC c r v y with
     | error z =>
      obtain rfl : RR = .error z := a0.trans (by rw [HE.out,HS.out,k]; rfl)
      skip
      refine wp_region_held_drew (S := fun w9 => K.grownBy w9 none) (by kernel_rfl) ?_ (fun hHeld => ?_)
      ·exact zh (zc K none)
      refine kQ 0 35 (.pointer (some ⟨b,0,none⟩)) hHeld ?_; simp only [qA,qB,qC,qD]; refine dk 1 (some 36) (zn v (.slice va v.subs.length vc)) rfl rfl (fun w9 hS => by obtain ⟨q0,q1,q2,q3,q4⟩ := Box.kept BV.out hS; go_simp) hHeld ?_; simp only [qA,qB,qC,qD]; refine kQ 2 37 (.pointer (some ⟨ρ.pr q,0,none⟩)) hHeld ?_; simp only [qA,qB,qC,qD]; refine kQ 3 38 (.pointer (some ⟨ρ.pr q,0,none⟩)) hHeld ?_; simp only [qA,qB,qC,qD]; refine kQ 4 39 (.pointer (some ⟨ρ.pr q,5,none⟩)) hHeld ?_; simp only [qA,qB,qC,qD]; refine dk 5 (some 40) (.slice (some ⟨pg,0,none⟩) us.length pc) rfl rfl (fun w9 hS => by have q1 := zi (za E.out hS) L.out; go_simp) hHeld ?_; simp only [qA,qB,qC,qD]; refine kQ 6 41 (.int .i64 ↑j) hHeld ?_; simp only [qA,qB,qC,qD]; refine kQ 7 42 (.pointer (some ⟨pg,j,none⟩)) hHeld ?_; simp only [qA,qB,qC,qD]; refine dk 8 (some 43) (.pointer (some ⟨ρ.th y,0,none⟩)) rfl rfl (fun w9 hS => by have q1 := zi (za E.out hS) PY.out; go_simp) hHeld ?_; simp only [qA,qB,qC,qD]; refine rd 9 rfl fun KK hKK => ?_
      go_simp
      go_at_call 159; refine (kw (HK.out.up (zh E.out)) v _ FV.out (AV.out.kept (zh E.out)) HV.out.dot J.out a2 a3 HV.out.ex HV.out.de).mono ?_; rw [k]; rintro e w3 h3; have J := h3; obtain ⟨q,rfl⟩ := h3.thrown
      exact ⟨rfl,J.err (zh E.out)⟩
     | ok ft =>
      cases ft
      ·obtain rfl : RR = .error (7,v.at') := a0.trans (by rw [HE.out,HS.out,k]; rfl)
       skip
       refine wp_region_held_drew (S := fun w9 => K.grownBy w9 none) (by kernel_rfl) ?_ (fun hHeld => ?_)
       ·exact zh (zc K none)
       refine kQ 0 35 (.pointer (some ⟨b,0,none⟩)) hHeld ?_; simp only [qA,qB,qC,qD]; refine dk 1 (some 36) (zn v (.slice va v.subs.length vc)) rfl rfl (fun w9 hS => by obtain ⟨q0,q1,q2,q3,q4⟩ := Box.kept BV.out hS; go_simp) hHeld ?_; simp only [qA,qB,qC,qD]; refine kQ 2 37 (.pointer (some ⟨ρ.pr q,0,none⟩)) hHeld ?_; simp only [qA,qB,qC,qD]; refine kQ 3 38 (.pointer (some ⟨ρ.pr q,0,none⟩)) hHeld ?_; simp only [qA,qB,qC,qD]; refine kQ 4 39 (.pointer (some ⟨ρ.pr q,5,none⟩)) hHeld ?_; simp only [qA,qB,qC,qD]; refine dk 5 (some 40) (.slice (some ⟨pg,0,none⟩) us.length pc) rfl rfl (fun w9 hS => by have q1 := zi (za E.out hS) L.out; go_simp) hHeld ?_; simp only [qA,qB,qC,qD]; refine kQ 6 41 (.int .i64 ↑j) hHeld ?_; simp only [qA,qB,qC,qD]; refine kQ 7 42 (.pointer (some ⟨pg,j,none⟩)) hHeld ?_; simp only [qA,qB,qC,qD]; refine dk 8 (some 43) (.pointer (some ⟨ρ.th y,0,none⟩)) rfl rfl (fun w9 hS => by have q1 := zi (za E.out hS) PY.out; go_simp) hHeld ?_; simp only [qA,qB,qC,qD]; refine rd 9 rfl fun KK hKK => ?_
       go_simp
       go_at_call 159; refine (kw (HK.out.up (zh E.out)) v _ FV.out (AV.out.kept (zh E.out)) HV.out.dot J.out a2 a3 HV.out.ex HV.out.de).mono ?_; rw [k]; rintro e w3 ⟨F,rfl⟩; have G3 := ze (za (zh E.out) F); have V := ze (za (zh (zc K none)) F); clear F
       go_simp
       refine hKK.out _ _ V.out fun hHeld => ?_
       clear hKK KK; refine kQ 10 45 (.bool true) hHeld ?_; simp only [qA,qB,qC,qD]; refine wpAnyH_done (by kernel_rfl) ?_ _; clear hHeld; obtain ⟨_,_,_,_,_⟩ := Box.kept BV.out V.out; go_wp2_with fail; go_at_call 53; refine (zu _ v _ 7).mono ?_; rintro e w4 h4; have J := h4; obtain ⟨q,rfl⟩ := h4.thrown
       exact ⟨rfl,J.err G3.out⟩
      ·have b3 : Hid (S.argsC c r us (S.pr q).pars = S.argsC c r (us.drop (j + 1)) ((S.pr q).pars.drop (j + 1))) := by show _ = _; rw [HE.out,HS.out,k]; rfl
       skip
       refine wp_region_held_drew (S := fun w9 => K.grownBy w9 none) (by kernel_rfl) ?_ (fun hHeld => ?_)
       ·exact zh (zc K none)
       refine kQ 0 35 (.pointer (some ⟨b,0,none⟩)) hHeld ?_; simp only [qA,qB,qC,qD]; refine dk 1 (some 36) (zn v (.slice va v.subs.length vc)) rfl rfl (fun w9 hS => by obtain ⟨q0,q1,q2,q3,q4⟩ := Box.kept BV.out hS; go_simp) hHeld ?_; simp only [qA,qB,qC,qD]; refine kQ 2 37 (.pointer (some ⟨ρ.pr q,0,none⟩)) hHeld ?_; simp only [qA,qB,qC,qD]; refine kQ 3 38 (.pointer (some ⟨ρ.pr q,0,none⟩)) hHeld ?_; simp only [qA,qB,qC,qD]; refine kQ 4 39 (.pointer (some ⟨ρ.pr q,5,none⟩)) hHeld ?_; simp only [qA,qB,qC,qD]; refine dk 5 (some 40) (.slice (some ⟨pg,0,none⟩) us.length pc) rfl rfl (fun w9 hS => by have q1 := zi (za E.out hS) L.out; go_simp) hHeld ?_; simp only [qA,qB,qC,qD]; refine kQ 6 41 (.int .i64 ↑j) hHeld ?_; simp only [qA,qB,qC,qD]; refine kQ 7 42 (.pointer (some ⟨pg,j,none⟩)) hHeld ?_; simp only [qA,qB,qC,qD]; refine dk 8 (some 43) (.pointer (some ⟨ρ.th y,0,none⟩)) rfl rfl (fun w9 hS => by have q1 := zi (za E.out hS) PY.out; go_simp) hHeld ?_; simp only [qA,qB,qC,qD]; refine rd 9 rfl fun KK hKK => ?_
       go_simp
       go_at_call 159; refine (kw (HK.out.up (zh E.out)) v _ FV.out (AV.out.kept (zh E.out)) HV.out.dot J.out a2 a3 HV.out.ex HV.out.de).mono ?_; rw [k]; rintro e w3 ⟨F,rfl⟩; have G3 := ze (za (zh E.out) F); have V := ze (za (zh (zc K none)) F); clear F
       go_simp
       refine hKK.out _ _ V.out fun hHeld => ?_
       clear hKK KK; refine kQ 10 45 (.bool false) hHeld ?_; simp only [qA,qB,qC,qD]; refine wpAnyH_done (by kernel_rfl) ?_ _; clear hHeld; have b4 := ze (za b2.out V.out); go_wp2_with fail
       go_roundw
       case rel => exact ⟨j + 1,by omega,by go_num,b3,b4.out⟩
       case measure => first | omega | (simp only [intOf]; omega) | (simp; omega)
    ·obtain rfl : RR = .ok (S.pr q).result := a0.trans (by rw [HE.out,List.drop_eq_nil_of_le (by omega)]; rfl)
     have b8 := zi GR.out p6.out; go_wp2
     go_ret
     exact Cy.ok GR.out
  ·rw [show S.callC c r (.mk s x m p (u :: us)) = .error (7,p) by simp only [KS.callC,hz,Z,B,Except.bind,if_neg d,thr,T.at']]
   have b0 : ((us.length : Int) != ((S.pr q).pars.length : Int)) = true := by simp; omega
   go_enter Tryz.func111,Tryz.ntmps111
   go_wp2_with fail; go_at_call 158; rw [<- A]; refine (HU.out _ X.out su HF.out HA.out).mono ?_; rw [B]; rintro e w1 ⟨f,rfl⟩; have D := ze (za X.out f); have B1 : Hid (Box w1 w.heap.size (.mk s x m p (u :: us)) (.slice (some ⟨g,o,none⟩) (us.length + 1) Y)) := Box.kept B0.out (za (zc w0 none) f); have H := zi D.out L.out; have I := zi D.out p6.out; obtain ⟨M,N,O,Q,R⟩ := B1.out.plain; go_wp2_with fail; go_at_call 53; refine (zu _ (.mk s x m p (u :: us)) (.slice (some ⟨g,o,none⟩) (us.length + 1) Y) 7).mono ?_; rintro e K h2; have J := h2; obtain ⟨q,rfl⟩ := h2.thrown
   exact ⟨rfl,J.err D.out⟩
end
section
variable {ρ : Lay} {w w' w1 : World} {S : KS} {b : Nat} {c : KSc}
def KS.assignC (S : KS) (c : KSc) (r : KR) (n : T) : CR Unit := (S.variableC c r.de (sub n 0)).bind fun t => (r.ex (sub n 1)).bind fun u => if S.takes t u = true then .ok () else thr (sub n 1) 7
theorem qu (h : CK ρ w S b c) (n : T) (sv : Value) (hf : Fits n) (ha : AT w n.subs sv) (hT : KAll S) {r : KR} {u v : T} (hl : n.subs = [u,v]) (hu : CAr ρ S b c r u) (hv : CEx ρ S b c r v) :
  Calls Tryz.prog 110 #[.pointer (some ⟨b,0,none⟩),zn n sv] w (Cy w ((S.assignC c r n).map fun _ => .tuple #[])) := by
 have HU := ze (fun w1 (G : w.grownBy w1 none) su (fu : Fits u) (au : AT w u.subs su) => xZ (h.up G) u su fu (au.kept G) hu.dot hu.de); have HV := ze (fun w1 (G : w.grownBy w1 none) su (fu : Fits v) (au : AT w v.subs su) => hv.run w1 su (h.up G) fu (au.kept G)); have HM := ze h.km; have N := ze hT
 have b5 := fun t e => vl hu.de (t := t) e
 have b6 := hv.lt; obtain ⟨f,x,m,p,l⟩ := n; obtain rfl : l = [u,v] := hl; obtain ⟨g,o,s,su,_,rfl,_,_,n5,fu,au,n6,fv,av⟩ := ha.pair; obtain ⟨ua,uc,rfl,-,-⟩ := au.form; obtain ⟨va,vc,rfl,-,-⟩ := av.form; have HA := ze au; have HF := ze fu; have a1 := ze av; have a2 := ze fv
 replace n5 := ze n5
 replace n6 := ze n6
 clear fu au fv av
 change Calls Tryz.prog 110 #[.pointer (some ⟨b,0,none⟩),.agg #[.int .i64 f,.string ⟨x.toArray⟩,.int .i64 m,.int .i64 p,.slice (some ⟨g,o,none⟩) 2 s]] w _
 obtain ⟨I,A⟩ : ∃ z,z = w.alloc (.cells #[.int .i64 f,.string ⟨x.toArray⟩,.int .i64 m,.int .i64 p,.slice (some ⟨g,o,none⟩) 2 s] 100) := ⟨_,rfl⟩
 have G0 : Hid (w.grownBy I none) := by rw [A]; exact zf (zc w none) _
 have B0 : Hid (Box I w.heap.size (.mk f x m p [u,v]) (.slice (some ⟨g,o,none⟩) 2 s)) := by rw [A]; exact Box.new w (.mk f x m p [u,v]) (.slice (some ⟨g,o,none⟩) 2 s) _
 clear h ha hf hu hv hT
 have hz : sub (.mk f x m p [u,v]) 0 = u := rfl
 have a3 : sub (.mk f x m p [u,v]) 1 = v := rfl
 generalize hR : S.assignC c r (.mk f x m p [u,v]) = R
 go_enter Tryz.func110,Tryz.ntmps110
 go_wp2_with fail; rw [<- A]
 have L : I.heap.size = w.heap.size + 1 := by rw [A]; simp
 clear A
 have HS : Hid (∀ w',I.grownBy w' none -> w'.cell? ⟨w.heap.size,4,none⟩ = some (.slice (some ⟨g,o,none⟩) 2 s) /\ w'.cell? ⟨g,o,none⟩ = some (.int .i64 u.kind) /\ w'.cell? ⟨g,o + 1,none⟩ = some (.string ⟨u.name.toArray⟩) /\ w'.cell? ⟨g,o + 2,none⟩ = some (.int .i64 u.num) /\ w'.cell? ⟨g,o + 3,none⟩ = some (.int .i64 u.at') /\ w'.cell? ⟨g,o + 4,none⟩ = some ((.slice ua u.subs.length uc)) /\ w'.cell? ⟨g,o + 5,none⟩ = some (.int .i64 v.kind) /\ w'.cell? ⟨g,o + 6,none⟩ = some (.string ⟨v.name.toArray⟩) /\ w'.cell? ⟨g,o + 7,none⟩ = some (.int .i64 v.num) /\ w'.cell? ⟨g,o + 8,none⟩ = some (.int .i64 v.at') /\ w'.cell? ⟨g,o + 9,none⟩ = some ((.slice va v.subs.length vc))) := fun w' hg => by
  have J := za G0.out hg
  exact ⟨zi hg B0.out.c4,zi J n5.out.c0,zi J n5.out.c1,zi J n5.out.c2,zi J n5.out.c3,zi J n5.out.c4,zi J n6.out.c0,zi J n6.out.c1,zi J n6.out.c2,zi J n6.out.c3,zi J n6.out.c4⟩
 go_cut [4,5] from 15 (fun s1 s2 wx => ∃ (P Q : Nat),s1 = .pointer (some ⟨P,0,none⟩) /\ s2 = .pointer (some ⟨Q,0,none⟩) /\ Box wx P u (.slice ua u.subs.length uc) /\ Box wx Q v (.slice va v.subs.length vc) /\ I.grownBy wx none)
 case first =>
  go_region_held (fun w' => w'.cell? ⟨w.heap.size,4,none⟩ = some (.slice (some ⟨g,o,none⟩) 2 s) /\ w'.cell? ⟨g,o,none⟩ = some (.int .i64 u.kind) /\ w'.cell? ⟨g,o + 1,none⟩ = some (.string ⟨u.name.toArray⟩) /\ w'.cell? ⟨g,o + 2,none⟩ = some (.int .i64 u.num) /\ w'.cell? ⟨g,o + 3,none⟩ = some (.int .i64 u.at') /\ w'.cell? ⟨g,o + 4,none⟩ = some ((.slice ua u.subs.length uc)) /\ w'.cell? ⟨g,o + 5,none⟩ = some (.int .i64 v.kind) /\ w'.cell? ⟨g,o + 6,none⟩ = some (.string ⟨v.name.toArray⟩) /\ w'.cell? ⟨g,o + 7,none⟩ = some (.int .i64 v.num) /\ w'.cell? ⟨g,o + 8,none⟩ = some (.int .i64 v.at') /\ w'.cell? ⟨g,o + 9,none⟩ = some ((.slice va v.subs.length vc))) (exact HS.out _ (by first | with_reducible exact zh (zc I none) | with_reducible exact zh (zf (zc I none) _) | with_reducible exact zh (zf (zf (zc I none) _) _))) (fail)
  all_goals
   go_wp2_with fail; go_meet
  case rel => exact ⟨_,_,rfl,rfl,((Box.at L.symm _ _ _).alloc _).drew,(Box.at (by simp [L]) _ _ _).drew,(zh (zf (zf (zc I none) _) _))⟩
  case rel => exact ⟨_,_,rfl,rfl,(Box.at (by simp [L]) _ _ _).drew,((Box.at L.symm _ _ _).alloc _).drew,(zh (zf (zf (zc I none) _) _))⟩
 case rest =>
  obtain ⟨P,Q,rfl,rfl,bP,bQ,gx⟩ := hcut; obtain ⟨w1,b7⟩ : ∃ z,z = wc := ⟨_,rfl⟩; subst b7; have O := ze (za G0.out gx); have B1 : Hid (Box w1 w.heap.size (.mk f x m p [u,v]) (.slice (some ⟨g,o,none⟩) 2 s)) := Box.kept B0.out gx
  replace bP := ze bP
  replace bQ := ze bQ
  clear gx; cases M : S.variableC c r.de u with
  | error z =>
   obtain rfl : R = .error z := hR.symm.trans (by simp [KS.assignC,hz,M,Except.bind]); obtain ⟨B,C,D,E,F⟩ := bP.out; go_wp2_with fail; go_at_call 114; refine (HU.out _ O.out _ HF.out HA.out).mono ?_; rw [M]; rintro e K h2; have N := h2; obtain ⟨q,rfl⟩ := h2.thrown
   exact ⟨rfl,N.err O.out⟩
  | ok t =>
   have ht := b5 t M; cases hy : r.ex v with
   | error z =>
    obtain rfl : R = .error z := hR.symm.trans (by simp [KS.assignC,hz,a3,M,hy,Except.bind]); obtain ⟨B,C,D,E,F⟩ := bP.out; go_wp2_with fail; go_at_call 114; refine (HU.out _ O.out _ HF.out HA.out).mono ?_; rw [M]; rintro e K ⟨d,rfl⟩; have U := ze (za O.out d); have B2 : Hid (Box K w.heap.size (.mk f x m p [u,v]) (.slice (some ⟨g,o,none⟩) 2 s)) := Box.kept B1.out (za (zc w1 none) d); have i := ze (Box.kept bQ.out (za (zc w1 none) d)); obtain ⟨V,X,Y,Z,a0⟩ := i.out; go_wp2_with fail; go_at_call 157; refine (HV.out _ U.out _ a2.out a1.out).mono ?_; rw [hy]; rintro e w3 h3; have N := h3; obtain ⟨q,rfl⟩ := h3.thrown
    exact ⟨rfl,N.err U.out⟩
   | ok a =>
    have ha := b6 a hy; cases he : S.takes t a
    ·obtain rfl : R = .error (7,v.at') := hR.symm.trans (by simp [KS.assignC,hz,a3,M,hy,he,Except.bind,thr])
     obtain ⟨B,C,D,E,F⟩ := bP.out; go_wp2_with fail; go_at_call 114; refine (HU.out _ O.out _ HF.out HA.out).mono ?_; rw [M]; rintro e K ⟨d,rfl⟩; have U := ze (za O.out d); have B2 : Hid (Box K w.heap.size (.mk f x m p [u,v]) (.slice (some ⟨g,o,none⟩) 2 s)) := Box.kept B1.out (za (zc w1 none) d); have i := ze (Box.kept bQ.out (za (zc w1 none) d)); obtain ⟨V,X,Y,Z,a0⟩ := i.out; go_wp2_with fail; go_at_call 157; refine (HV.out _ U.out _ a2.out a1.out).mono ?_; rw [hy]; rintro e w3 ⟨j,rfl⟩; have G3 := ze (za U.out j); have B3 : Hid (Box w3 w.heap.size (.mk f x m p [u,v]) (.slice (some ⟨g,o,none⟩) 2 s)) := Box.kept B2.out (za (zc K none) j); have H := ze (Box.kept i.out (za (zc K none) j)); obtain ⟨a5,a6,a7,a8,a9⟩ := H.out; go_wp2_with fail; go_at_call 156; refine (yq (HM.out.up G3.out) N.out ht ha).mono ?_; rw [he]; rintro e w4 ⟨rfl,k⟩; have G4 := ze (za G3.out k); have B4 : Hid (Box w4 w.heap.size (.mk f x m p [u,v]) (.slice (some ⟨g,o,none⟩) 2 s)) := Box.kept B3.out (za (zc w3 none) k); have a4 := ze (Box.kept H.out (za (zc w3 none) k)); obtain ⟨b0,b1,b2,b3,b4⟩ := a4.out; go_wp2_with fail; go_at_call 53; refine (zu _ v _ 7).mono ?_; rintro e w5 h5; have N := h5; obtain ⟨q,rfl⟩ := h5.thrown
     exact ⟨rfl,N.err G4.out⟩
    ·obtain rfl : R = .ok () := hR.symm.trans (by simp [KS.assignC,hz,a3,M,hy,he,Except.bind])
     obtain ⟨B,C,D,E,F⟩ := bP.out; go_wp2_with fail; go_at_call 114; refine (HU.out _ O.out _ HF.out HA.out).mono ?_; rw [M]; rintro e K ⟨d,rfl⟩; have U := ze (za O.out d); have B2 : Hid (Box K w.heap.size (.mk f x m p [u,v]) (.slice (some ⟨g,o,none⟩) 2 s)) := Box.kept B1.out (za (zc w1 none) d); have i := ze (Box.kept bQ.out (za (zc w1 none) d)); obtain ⟨V,X,Y,Z,a0⟩ := i.out; go_wp2_with fail; go_at_call 157; refine (HV.out _ U.out _ a2.out a1.out).mono ?_; rw [hy]; rintro e w3 ⟨j,rfl⟩; have G3 := ze (za U.out j); have B3 : Hid (Box w3 w.heap.size (.mk f x m p [u,v]) (.slice (some ⟨g,o,none⟩) 2 s)) := Box.kept B2.out (za (zc K none) j); have H := ze (Box.kept i.out (za (zc K none) j)); obtain ⟨a5,a6,a7,a8,a9⟩ := H.out; go_wp2_with fail; go_at_call 156; refine (yq (HM.out.up G3.out) N.out ht ha).mono ?_; rw [he]; rintro e w4 ⟨rfl,k⟩; have G4 := ze (za G3.out k); have B4 : Hid (Box w4 w.heap.size (.mk f x m p [u,v]) (.slice (some ⟨g,o,none⟩) 2 s)) := Box.kept B3.out (za (zc w3 none) k); have a4 := ze (Box.kept H.out (za (zc w3 none) k)); obtain ⟨b0,b1,b2,b3,b4⟩ := a4.out; go_wp2; refine bodyPost_end (results_none rfl _ _ _) rfl ?_
     exact Cy.ok G4.out
theorem je (h : CK ρ w S b c) (n : T) (sv : Value) (hf : Fits n) (ha : AT w n.subs sv) (hT : KAll S) {r : KR} {res : Option Nat} (hc : w.cell? ⟨b,3,none⟩ = some (ρ.tyP res)) (hres : ∀ q,res = some q -> q < S.tys.length) (hl1 : n.subs.length <= 1) (hu : ∀ u ∈ n.subs,CEx ρ S b c r u) :
  Calls Tryz.prog 113 #[.pointer (some ⟨b,0,none⟩),zn n sv] w (Cy w ((S.returnC r res n).map fun _ => .tuple #[])) := by
 have HM := ze h.km; have s := ze hT; have HK := ze h; have c3 := ze hc; have zb : b < w.heap.size := zw hc
 rcases le1 hl1 with hl | ⟨u,hl⟩
 ·obtain ⟨d,x,m,p,l⟩ := n
  obtain rfl : l = [] := hl; obtain ⟨a,j,rfl,a1,-⟩ := ha.zero rfl
  change Calls Tryz.prog 113 #[.pointer (some ⟨b,0,none⟩),.agg #[.int .i64 d,.string ⟨x.toArray⟩,.int .i64 m,.int .i64 p,.slice a 0 j]] w _
  obtain ⟨C,f⟩ : ∃ z,z = w.alloc (.cells #[.int .i64 d,.string ⟨x.toArray⟩,.int .i64 m,.int .i64 p,.slice a 0 j] 100) := ⟨_,rfl⟩
  have v : Hid (w.grownBy C none) := by rw [f]; exact zf (zc w none) _
  have B0 : Hid (Box C w.heap.size (.mk d x m p []) (.slice a 0 j)) := by rw [f]; exact Box.new w (.mk d x m p []) (.slice a 0 j) _
  clear h ha hf hu hT hl1; cases res with
  | none =>
   rw [uh] at hc; rw [show S.returnC r none (.mk d x m p []) = .ok () by simp [KS.returnC,T.subs]]
   go_enter Tryz.func113,Tryz.ntmps113
   go_wp2; refine bodyPost_ret (results_none rfl _ _ _) rfl ?_
   exact Cy.ok (zf (zc w none) _)
  | some q =>
   rw [yd] at hc; rw [show S.returnC r (some q) (.mk d x m p []) = .error (7,p) by simp [KS.returnC,T.subs,thr,T.at']]
   go_enter Tryz.func113,Tryz.ntmps113
   go_wp2_with fail; go_at_call 53; rw [<- f]; refine (zu _ (.mk d x m p []) (.slice a 0 j) 7).mono ?_; rintro e w1 N; have s := N; obtain ⟨q,rfl⟩ := N.thrown
   exact ⟨rfl,s.err v.out⟩
 ·obtain ⟨d,x,m,p,l⟩ := n
  obtain rfl : l = [u] := hl; have hu := hu u (by simp [T.subs]); have a0 := hu.lt; have HU := ze (fun w1 (G : w.grownBy w1 none) su (fu : Fits u) (O : AT w u.subs su) => hu.run w1 su (HK.out.up G) fu (O.kept G)); obtain ⟨g,o,j,su,rfl,a2,a3,D,fu,O,-⟩ := ha.cons; obtain ⟨ua,uc,rfl,-,-⟩ := O.form; have HA := ze O; have HF := ze fu; have d0 := D.c0; have d1 := D.c1; have d2 := D.c2; have d3 := D.c3; have d4 := D.c4; have zg : g < w.heap.size := zw d0
  replace D := ze D
  clear fu O
  change Calls Tryz.prog 113 #[.pointer (some ⟨b,0,none⟩),.agg #[.int .i64 d,.string ⟨x.toArray⟩,.int .i64 m,.int .i64 p,.slice (some ⟨g,o,none⟩) 1 j]] w _
  obtain ⟨C,f⟩ : ∃ z,z = w.alloc (.cells #[.int .i64 d,.string ⟨x.toArray⟩,.int .i64 m,.int .i64 p,.slice (some ⟨g,o,none⟩) 1 j] 100) := ⟨_,rfl⟩
  have v : Hid (w.grownBy C none) := by rw [f]; exact zf (zc w none) _
  have B0 : Hid (Box C w.heap.size (.mk d x m p [u]) (.slice (some ⟨g,o,none⟩) 1 j)) := by rw [f]; exact Box.new w (.mk d x m p [u]) (.slice (some ⟨g,o,none⟩) 1 j) _
  clear h ha hf hu hT hl1 hc
  have hz : sub (.mk d x m p [u]) 0 = u := rfl
  cases B : r.ex u with
  | error z =>
   rw [show S.returnC r res (.mk d x m p [u]) = .error z by simp [KS.returnC,T.subs,hz,B,Except.bind]]
   go_enter Tryz.func113,Tryz.ntmps113
   go_wp2_with fail; go_at_call 157; rw [<- f]; refine (HU.out _ v.out _ HF.out HA.out).mono ?_; rw [B]; rintro e w1 N; have s := N; obtain ⟨q,rfl⟩ := N.thrown
   exact ⟨rfl,s.err v.out⟩
  | ok t =>
   have ht := a0 t B; cases res with
   | none =>
    rw [uh] at c3; rw [show S.returnC r none (.mk d x m p [u]) = .error (7,p) by simp [KS.returnC,T.subs,hz,B,Except.bind,thr,T.at']]
    go_enter Tryz.func113,Tryz.ntmps113
    go_wp2_with fail; go_at_call 157; rw [<- f]; refine (HU.out _ v.out _ HF.out HA.out).mono ?_; rw [B]; rintro e w1 ⟨i,rfl⟩; have A := ze (za v.out i); have L : Hid (Box w1 w.heap.size (.mk d x m p [u]) (.slice (some ⟨g,o,none⟩) 1 j)) := Box.kept B0.out (za (zc C none) i); have E := zi A.out c3.out; obtain ⟨F,H,I,J,K⟩ := L.out.plain; go_wp2_with fail; go_at_call 53; refine (zu _ (.mk d x m p [u]) (.slice (some ⟨g,o,none⟩) 1 j) 7).mono ?_; rintro e w2 h2; have s := h2; obtain ⟨q,rfl⟩ := h2.thrown
    exact ⟨rfl,s.err A.out⟩
   | some q =>
    have Q := hres q rfl; rw [yd] at c3; cases he : S.takes q t
    ·rw [show S.returnC r (some q) (.mk d x m p [u]) = .error (7,u.at') by simp [KS.returnC,T.subs,hz,B,he,Except.bind,thr]]
     go_enter Tryz.func113,Tryz.ntmps113
     go_wp2_with fail; go_at_call 157; rw [<- f]; refine (HU.out _ v.out _ HF.out HA.out).mono ?_; rw [B]; rintro e w1 ⟨i,rfl⟩; have A := ze (za v.out i); have L : Hid (Box w1 w.heap.size (.mk d x m p [u]) (.slice (some ⟨g,o,none⟩) 1 j)) := Box.kept B0.out (za (zc C none) i); have E := zi A.out c3.out; obtain ⟨F,H,I,J,K⟩ := L.out.plain; go_wp2_with fail; go_at_call 156; refine (yq (HM.out.up A.out) s.out Q ht).mono ?_; rw [he]; rintro e w2 ⟨rfl,k⟩; have M := ze (za A.out k); have B2 : Hid (Box w2 w.heap.size (.mk d x m p [u]) (.slice (some ⟨g,o,none⟩) 1 j)) := Box.kept L.out (za (zc w1 none) k); have R := zi M.out c3.out; obtain ⟨U,V,X,Y,Z⟩ := B2.out.plain; obtain ⟨_,_,_,_,_⟩ := D.out.kept M.out; go_wp2_with fail; go_at_call 53; refine (zu _ u _ 7).mono ?_; rintro e w3 h3; have s := h3; obtain ⟨q,rfl⟩ := h3.thrown
     exact ⟨rfl,s.err M.out⟩
    ·rw [show S.returnC r (some q) (.mk d x m p [u]) = .ok () by simp [KS.returnC,T.subs,hz,B,he,Except.bind]]
     go_enter Tryz.func113,Tryz.ntmps113
     go_wp2_with fail; go_at_call 157; rw [<- f]; refine (HU.out _ v.out _ HF.out HA.out).mono ?_; rw [B]; rintro e w1 ⟨i,rfl⟩; have A := ze (za v.out i); have L : Hid (Box w1 w.heap.size (.mk d x m p [u]) (.slice (some ⟨g,o,none⟩) 1 j)) := Box.kept B0.out (za (zc C none) i); have E := zi A.out c3.out; obtain ⟨F,H,I,J,K⟩ := L.out.plain; go_wp2_with fail; go_at_call 156; refine (yq (HM.out.up A.out) s.out Q ht).mono ?_; rw [he]; rintro e w2 ⟨rfl,k⟩; have M := ze (za A.out k); have B2 : Hid (Box w2 w.heap.size (.mk d x m p [u]) (.slice (some ⟨g,o,none⟩) 1 j)) := Box.kept L.out (za (zc w1 none) k); have R := zi M.out c3.out; obtain ⟨U,V,X,Y,Z⟩ := B2.out.plain; go_wp2; refine bodyPost_end (results_none rfl _ _ _) rfl ?_
     exact Cy.ok M.out
end
end Go.Proofs.YtnmkffjklpfflaaGreatDoor
