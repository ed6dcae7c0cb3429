/- Variables; procedures that are called; arguments. -/
import Derived.Test.YtnmkffjklpfflaaGreatDoorG13
namespace Go.Proofs.YtnmkffjklpfflaaGreatDoor
open Go.RowKit
set_option maxHeartbeats 4000000
set_option maxRecDepth 100000
section
variable {ρ : Lay} {w w' w1 : World} {S : KS} {b : Nat} {c : KSc}
theorem xZ (h : CK ρ w S b c) (n : T) (sv : Value) (hf : Fits n) (ha : AT w n.subs sv) (hs : n.kind = 25 -> 0 < n.subs.length) {r : KR} (hn : zF n = true -> CDe ρ S b c r n) :
  Calls Tryz.prog 114 #[.pointer (some ⟨b,0,none⟩),zn n sv] w (Cy w ((S.variableC c r.de n).map fun t => .pointer (some ⟨ρ.ty t,0,none⟩))) := by
 have HC := ze (fun w1 (G : w.grownBy w1 none) => yI (h.up G) n sv hf (ha.kept G) hs); have HD := ze (fun (hd : zF n = true) w1 (G : w.grownBy w1 none) => (hn hd).run w1 sv (h.up G) hf (ha.kept G)); have HN := ze (fun w1 (G : w.grownBy w1 none) => qs (w := w1) n sv (ha.kept G)); have HM := ze h.km
 have a6 : ∀ t,S.meaningC c n = .ok (some t) -> t < S.ths.length := fun t e => vx h (xj e)
 obtain ⟨g,x,m,p,l⟩ := n
 change Calls Tryz.prog 114 #[.pointer (some ⟨b,0,none⟩),.agg #[.int .i64 g,.string ⟨x.toArray⟩,.int .i64 m,.int .i64 p,sv]] w _
 obtain ⟨X,D⟩ : ∃ z,z = w.alloc (.cells #[.int .i64 g,.string ⟨x.toArray⟩,.int .i64 m,.int .i64 p,sv] 100) := ⟨_,rfl⟩
 have N : Hid (w.grownBy X none) := by rw [D]; exact zf (zc w none) _
 have B0 : Hid (Box X w.heap.size (.mk g x m p l) sv) := by rw [D]; exact Box.new w (.mk g x m p l) sv _
 clear h ha hf hs hn; cases B : zF (.mk g x m p l)
 ·rw [show S.variableC c r.de (.mk g x m p l) = .error (8,p) by simp [KS.variableC,B,thr,T.at']]
  go_enter Tryz.func114,Tryz.ntmps114
  go_wp2_with fail; go_at_call 160; rw [<- D]; refine (HN.out _ N.out).mono ?_; rw [B]; rintro e w1 ⟨rfl,d⟩; have j := ze (za N.out d); have C : Hid (Box w1 w.heap.size (.mk g x m p l) sv) := Box.kept B0.out (za (zc X none) d); obtain ⟨k,s,u,v,A⟩ := C.out.plain; go_wp2_with fail; go_at_call 53; refine (zu _ (.mk g x m p l) sv 8).mono ?_; rintro e M h2; have U := h2; obtain ⟨q,rfl⟩ := h2.thrown
  exact ⟨rfl,U.err j.out⟩
 cases O : S.meaningC c (.mk g x m p l) with
 | error z =>
  rw [show S.variableC c r.de (.mk g x m p l) = .error z by simp [KS.variableC,B,O,Except.bind]]
  go_enter Tryz.func114,Tryz.ntmps114
  go_wp2_with fail; go_at_call 160; rw [<- D]; refine (HN.out _ N.out).mono ?_; rw [B]; rintro e w1 ⟨rfl,d⟩; have j := ze (za N.out d); have C : Hid (Box w1 w.heap.size (.mk g x m p l) sv) := Box.kept B0.out (za (zc X none) d); obtain ⟨k,s,u,v,A⟩ := C.out.plain; go_wp2_with fail; go_at_call 153; refine (HC.out _ j.out).mono ?_; rw [O]; rintro e M h2; have U := h2; obtain ⟨q,rfl⟩ := h2.thrown
  exact ⟨rfl,U.err j.out⟩
 | ok o =>
  cases o with
  | none =>
   cases V : r.de (.mk g x m p l) with
   | error z =>
    rw [show S.variableC c r.de (.mk g x m p l) = .error z by simp [KS.variableC,B,O,V,Except.bind]]
    go_enter Tryz.func114,Tryz.ntmps114
    go_wp2_with fail; go_at_call 160; rw [<- D]; refine (HN.out _ N.out).mono ?_; rw [B]; rintro e w1 ⟨rfl,d⟩; have j := ze (za N.out d); have C : Hid (Box w1 w.heap.size (.mk g x m p l) sv) := Box.kept B0.out (za (zc X none) d); obtain ⟨k,s,u,v,A⟩ := C.out.plain; go_wp2_with fail; go_at_call 153; refine (HC.out _ j.out).mono ?_; rw [O]; rintro e M ⟨f,rfl⟩; simp only [zO]; have E := ze (za j.out f); have Q : Hid (Box M w.heap.size (.mk g x m p l) sv) := Box.kept C.out (za (zc w1 none) f); obtain ⟨H,I,J,K,L⟩ := Q.out.plain; go_wp2_with fail; go_at_call 161; refine (HD.out B _ E.out).mono ?_; rw [V]; rintro e w3 R; have U := R; obtain ⟨q,rfl⟩ := R.thrown
    exact ⟨rfl,U.err E.out⟩
   | ok i =>
    by_cases hk : g = 28
    ·subst hk
     rw [show S.variableC c r.de (.mk 28 x m p l) = .error (8,p) by simp [KS.variableC,B,O,V,Except.bind,T.kind,thr,T.at']]
     go_enter Tryz.func114,Tryz.ntmps114
     go_wp2_with fail; go_at_call 160; rw [<- D]; refine (HN.out _ N.out).mono ?_; rw [B]; rintro e w1 ⟨rfl,d⟩; have j := ze (za N.out d); have C : Hid (Box w1 w.heap.size (.mk 28 x m p l) sv) := Box.kept B0.out (za (zc X none) d); obtain ⟨k,s,u,v,A⟩ := C.out.plain; go_wp2_with fail; go_at_call 153; refine (HC.out _ j.out).mono ?_; rw [O]; rintro e M ⟨f,rfl⟩; simp only [zO]; have E := ze (za j.out f); have Q : Hid (Box M w.heap.size (.mk 28 x m p l) sv) := Box.kept C.out (za (zc w1 none) f); obtain ⟨H,I,J,K,L⟩ := Q.out.plain; go_wp2_with fail; go_at_call 161; refine (HD.out B _ E.out).mono ?_; rw [V]; rintro e w3 ⟨F,rfl⟩; have G3 := ze (za E.out F); have B3 : Hid (Box w3 w.heap.size (.mk 28 x m p l) sv) := Box.kept Q.out (za (zc M none) F); obtain ⟨Y,Z,a0,a1,a2⟩ := B3.out.plain; go_wp2_with fail; go_at_call 53; refine (zu _ (.mk 28 x m p l) sv 8).mono ?_; rintro e w4 h4; have U := h4; obtain ⟨q,rfl⟩ := h4.thrown
     exact ⟨rfl,U.err G3.out⟩
    ·have hd : decide (g = 28) = false := by simpa using hk
     have a7 : (g == 28) = false := by simpa using hk
     rw [show S.variableC c r.de (.mk g x m p l) = .ok i by simp [KS.variableC,B,O,V,hk,Except.bind,T.kind]]
     go_enter Tryz.func114,Tryz.ntmps114
     go_wp2_with fail; go_at_call 160; rw [<- D]; refine (HN.out _ N.out).mono ?_; rw [B]; rintro e w1 ⟨rfl,d⟩; have j := ze (za N.out d); have C : Hid (Box w1 w.heap.size (.mk g x m p l) sv) := Box.kept B0.out (za (zc X none) d); obtain ⟨k,s,u,v,A⟩ := C.out.plain; go_wp2_with fail; go_at_call 153; refine (HC.out _ j.out).mono ?_; rw [O]; rintro e M ⟨f,rfl⟩; simp only [zO]; have E := ze (za j.out f); have Q : Hid (Box M w.heap.size (.mk g x m p l) sv) := Box.kept C.out (za (zc w1 none) f); obtain ⟨H,I,J,K,L⟩ := Q.out.plain; go_wp2_with fail; go_at_call 161; refine (HD.out B _ E.out).mono ?_; rw [V]; rintro e w3 ⟨F,rfl⟩; have G3 := ze (za E.out F); have B3 : Hid (Box w3 w.heap.size (.mk g x m p l) sv) := Box.kept Q.out (za (zc M none) F); obtain ⟨Y,Z,a0,a1,a2⟩ := B3.out.plain; go_wp2
     go_ret
     exact Cy.ok G3.out
  | some t =>
   have ht := a6 t O; have t0 : Hid (w.cell? ⟨ρ.th t,0,none⟩ = some (.int .i64 (S.th t).kind)) := (HM.out.th t ht).bk.c 0 _ rfl
   by_cases R : (S.th t).kind = 3
   ·rw [R] at t0
    cases V : r.de (.mk g x m p l) with
    | error z =>
     rw [show S.variableC c r.de (.mk g x m p l) = .error z by simp [KS.variableC,B,O,V,R,Except.bind]]
     go_enter Tryz.func114,Tryz.ntmps114
     go_wp2_with fail; go_at_call 160; rw [<- D]; refine (HN.out _ N.out).mono ?_; rw [B]; rintro e w1 ⟨rfl,d⟩; have j := ze (za N.out d); have C : Hid (Box w1 w.heap.size (.mk g x m p l) sv) := Box.kept B0.out (za (zc X none) d); have a3 := zi j.out t0.out; obtain ⟨k,s,u,v,A⟩ := C.out.plain; go_wp2_with fail; go_at_call 153; refine (HC.out _ j.out).mono ?_; rw [O]; rintro e M ⟨f,rfl⟩; simp only [ya]; have E := ze (za j.out f); have Q : Hid (Box M w.heap.size (.mk g x m p l) sv) := Box.kept C.out (za (zc w1 none) f); have a4 := zi E.out t0.out; obtain ⟨H,I,J,K,L⟩ := Q.out.plain; go_wp2_with fail; go_at_call 161; refine (HD.out B _ E.out).mono ?_; rw [V]; rintro e w3 R; have U := R; obtain ⟨q,rfl⟩ := R.thrown
     exact ⟨rfl,U.err E.out⟩
    | ok i =>
     by_cases hk : g = 28
     ·subst hk
      rw [show S.variableC c r.de (.mk 28 x m p l) = .error (8,p) by simp [KS.variableC,B,O,V,R,Except.bind,T.kind,thr,T.at']]
      go_enter Tryz.func114,Tryz.ntmps114
      go_wp2_with fail; go_at_call 160; rw [<- D]; refine (HN.out _ N.out).mono ?_; rw [B]; rintro e w1 ⟨rfl,d⟩; have j := ze (za N.out d); have C : Hid (Box w1 w.heap.size (.mk 28 x m p l) sv) := Box.kept B0.out (za (zc X none) d); have a3 := zi j.out t0.out; obtain ⟨k,s,u,v,A⟩ := C.out.plain; go_wp2_with fail; go_at_call 153; refine (HC.out _ j.out).mono ?_; rw [O]; rintro e M ⟨f,rfl⟩; simp only [ya]; have E := ze (za j.out f); have Q : Hid (Box M w.heap.size (.mk 28 x m p l) sv) := Box.kept C.out (za (zc w1 none) f); have a4 := zi E.out t0.out; obtain ⟨H,I,J,K,L⟩ := Q.out.plain; go_wp2_with fail; go_at_call 161; refine (HD.out B _ E.out).mono ?_; rw [V]; rintro e w3 ⟨F,rfl⟩; have G3 := ze (za E.out F); have B3 : Hid (Box w3 w.heap.size (.mk 28 x m p l) sv) := Box.kept Q.out (za (zc M none) F); have a5 := zi G3.out t0.out; obtain ⟨Y,Z,a0,a1,a2⟩ := B3.out.plain; go_wp2_with fail; go_at_call 53; refine (zu _ (.mk 28 x m p l) sv 8).mono ?_; rintro e w4 h4; have U := h4; obtain ⟨q,rfl⟩ := h4.thrown
      exact ⟨rfl,U.err G3.out⟩
     ·have hd : decide (g = 28) = false := by simpa using hk
      have a7 : (g == 28) = false := by simpa using hk
      rw [show S.variableC c r.de (.mk g x m p l) = .ok i by simp [KS.variableC,B,O,V,hk,R,Except.bind,T.kind]]
      go_enter Tryz.func114,Tryz.ntmps114
      go_wp2_with fail; go_at_call 160; rw [<- D]; refine (HN.out _ N.out).mono ?_; rw [B]; rintro e w1 ⟨rfl,d⟩; have j := ze (za N.out d); have C : Hid (Box w1 w.heap.size (.mk g x m p l) sv) := Box.kept B0.out (za (zc X none) d); have a3 := zi j.out t0.out; obtain ⟨k,s,u,v,A⟩ := C.out.plain; go_wp2_with fail; go_at_call 153; refine (HC.out _ j.out).mono ?_; rw [O]; rintro e M ⟨f,rfl⟩; simp only [ya]; have E := ze (za j.out f); have Q : Hid (Box M w.heap.size (.mk g x m p l) sv) := Box.kept C.out (za (zc w1 none) f); have a4 := zi E.out t0.out; obtain ⟨H,I,J,K,L⟩ := Q.out.plain; go_wp2_with fail; go_at_call 161; refine (HD.out B _ E.out).mono ?_; rw [V]; rintro e w3 ⟨F,rfl⟩; have G3 := ze (za E.out F); have B3 : Hid (Box w3 w.heap.size (.mk g x m p l) sv) := Box.kept Q.out (za (zc M none) F); have a5 := zi G3.out t0.out; obtain ⟨Y,Z,a0,a1,a2⟩ := B3.out.plain; go_wp2
      go_ret
      exact Cy.ok G3.out
   ·have hd : ((S.th t).kind != 3) = true := by simpa using R
    rw [show S.variableC c r.de (.mk g x m p l) = .error (8,p) by simp [KS.variableC,B,O,R,Except.bind,thr,T.at']]
    go_enter Tryz.func114,Tryz.ntmps114
    go_wp2_with fail; go_at_call 160; rw [<- D]; refine (HN.out _ N.out).mono ?_; rw [B]; rintro e w1 ⟨rfl,d⟩; have j := ze (za N.out d); have C : Hid (Box w1 w.heap.size (.mk g x m p l) sv) := Box.kept B0.out (za (zc X none) d); have a3 := zi j.out t0.out; obtain ⟨k,s,u,v,A⟩ := C.out.plain; go_wp2_with fail; go_at_call 153; refine (HC.out _ j.out).mono ?_; rw [O]; rintro e M ⟨f,rfl⟩; simp only [ya]; have E := ze (za j.out f); have Q : Hid (Box M w.heap.size (.mk g x m p l) sv) := Box.kept C.out (za (zc w1 none) f); have a4 := zi E.out t0.out; obtain ⟨H,I,J,K,L⟩ := Q.out.plain; go_wp2_with fail; go_at_call 53; refine (zu _ (.mk g x m p l) sv 8).mono ?_; rintro e w3 R; have U := R; obtain ⟨q,rfl⟩ := R.thrown
    exact ⟨rfl,U.err E.out⟩
theorem bind_ok {α β : Type} {x : CR α} {f : α -> CR β} {t : β} (h : x.bind f = .ok t) : ∃ a,x = .ok a /\ f a = .ok t := by
 cases x with
 | error z => cases h
 | ok a => exact ⟨a,rfl,h⟩
theorem vl {r : KR} {n : T} {t : Nat} (hn : zF n = true -> CDe ρ S b c r n) (e : S.variableC c r.de n = .ok t) : t < S.tys.length := by
 unfold KS.variableC at e
 by_cases d : zF n = true
 ·rw [if_pos d] at e
  obtain ⟨m,-,e⟩ := bind_ok e
  have f : (r.de n).bind (fun t => if n.kind = 28 then thr n 8 else .ok t) = .ok t := by
   cases m with
   | none => simpa using e
   | some u =>
    by_cases g : (S.th u).kind = 3
    ·simpa [g] using e
    ·simp [g,thr] at e
  obtain ⟨_,h,e⟩ := bind_ok f
  split at e
  ·cases e
  ·cases e; exact (hn d).lt _ h
 ·rw [if_neg d] at e
  cases e
theorem sy (h : CK ρ w S b c) (n : T) (sv : Value) (hf : Fits n) (ha : AT w n.subs sv) (hs : n.kind = 25 -> 0 < n.subs.length) {r : KR} (hn : CDe ρ S b c r n) :
  Calls Tryz.prog 158 #[.pointer (some ⟨b,0,none⟩),zn n sv] w (Cy w ((S.calledC c r n).map fun t => .pointer (some ⟨ρ.pr t,0,none⟩))) := by
 have I := ze (fun w1 (G : w.grownBy w1 none) => yI (h.up G) n sv hf (ha.kept G) hs); have Z := ze (fun w1 (G : w.grownBy w1 none) => hn.run w1 sv (h.up G) hf (ha.kept G)); have HM := ze h.km
 have U : ∀ t,S.meaningC c n = .ok (some t) -> t < S.ths.length := fun t e => vx h (xj e)
 have V : ∀ t,t < S.ths.length -> (S.th t).kind = 4 -> ∃ p,(S.th t).proc = some p := fun t J hk => by obtain ⟨p,O,_⟩ := h.ok.kpr t J hk; exact ⟨p,O⟩
 obtain ⟨f,x,m,p,l⟩ := n
 change Calls Tryz.prog 158 #[.pointer (some ⟨b,0,none⟩),.agg #[.int .i64 f,.string ⟨x.toArray⟩,.int .i64 m,.int .i64 p,sv]] w _
 obtain ⟨H,g⟩ : ∃ z,z = w.alloc (.cells #[.int .i64 f,.string ⟨x.toArray⟩,.int .i64 m,.int .i64 p,sv] 100) := ⟨_,rfl⟩
 have C : Hid (w.grownBy H none) := by rw [g]; exact zf (zc w none) _
 have Q : Hid (Box H w.heap.size (.mk f x m p l) sv) := by rw [g]; exact Box.new w (.mk f x m p l) sv _
 clear h ha hf hs hn; cases k : S.meaningC c (.mk f x m p l) with
 | error z =>
  rw [show S.calledC c r (.mk f x m p l) = .error z by simp [KS.calledC,k,Except.bind]]
  go_enter Tryz.func158,Tryz.ntmps158
  go_wp2_with fail; go_at_call 153; rw [<- g]; refine (I.out _ C.out).mono ?_; rw [k]; rintro e w1 O; have E := O; obtain ⟨q,rfl⟩ := O.thrown
  exact ⟨rfl,E.err C.out⟩
 | ok o =>
  cases o with
  | none =>
   cases R : r.de (.mk f x m p l) with
   | error z =>
    rw [show S.calledC c r (.mk f x m p l) = .error z by simp [KS.calledC,k,R,Except.bind]]
    go_enter Tryz.func158,Tryz.ntmps158
    go_wp2_with fail; go_at_call 153; rw [<- g]; refine (I.out _ C.out).mono ?_; rw [k]; rintro e w1 ⟨d,rfl⟩; simp only [zO]; have j := ze (za C.out d); have D : Hid (Box w1 w.heap.size (.mk f x m p l) sv) := Box.kept Q.out (za (zc H none) d); obtain ⟨s,u,v,A,B⟩ := D.out.plain; go_wp2_with fail; go_at_call 161; refine (Z.out _ j.out).mono ?_; rw [R]; rintro e X K; have E := K; obtain ⟨q,rfl⟩ := K.thrown
    exact ⟨rfl,E.err j.out⟩
   | ok i =>
    rw [show S.calledC c r (.mk f x m p l) = .error (8,p) by simp [KS.calledC,k,R,Except.bind,thr,T.at']]
    go_enter Tryz.func158,Tryz.ntmps158
    go_wp2_with fail; go_at_call 153; rw [<- g]; refine (I.out _ C.out).mono ?_; rw [k]; rintro e w1 ⟨d,rfl⟩; simp only [zO]; have j := ze (za C.out d); have D : Hid (Box w1 w.heap.size (.mk f x m p l) sv) := Box.kept Q.out (za (zc H none) d); obtain ⟨s,u,v,A,B⟩ := D.out.plain; go_wp2_with fail; go_at_call 161; refine (Z.out _ j.out).mono ?_; rw [R]; rintro e X ⟨L,rfl⟩; have G2 := ze (za j.out L); have B2 : Hid (Box X w.heap.size (.mk f x m p l) sv) := Box.kept D.out (za (zc w1 none) L); obtain ⟨_,_,_,_,_⟩ := B2.out.plain; go_wp2_with fail; go_at_call 53; refine (zu _ (.mk f x m p l) sv 8).mono ?_; rintro e w3 h3; have E := h3; obtain ⟨q,rfl⟩ := h3.thrown
    exact ⟨rfl,E.err G2.out⟩
  | some t =>
   have J := U t k; have Y : Hid (w.cell? ⟨ρ.th t,0,none⟩ = some (.int .i64 (S.th t).kind)) := (HM.out.th t J).bk.c 0 _ rfl; have t8 : Hid (w.cell? ⟨ρ.th t,8,none⟩ = some (ρ.prP (S.th t).proc)) := (HM.out.th t J).bk.c 8 _ rfl
   by_cases M : (S.th t).kind = 4
   ·obtain ⟨pp,F⟩ := V t J M
    rw [show S.calledC c r (.mk f x m p l) = .ok pp by simp [KS.calledC,k,M,F,Except.bind]]; rw [M] at Y; rw [F,nu] at t8; clear F
    go_enter Tryz.func158,Tryz.ntmps158
    go_wp2_with fail; go_at_call 153; rw [<- g]; refine (I.out _ C.out).mono ?_; rw [k]; rintro e w1 ⟨d,rfl⟩; simp only [ya]; have j := ze (za C.out d); have D : Hid (Box w1 w.heap.size (.mk f x m p l) sv) := Box.kept Q.out (za (zc H none) d); have N := zi j.out Y.out; have a0 := zi j.out t8.out; obtain ⟨s,u,v,A,B⟩ := D.out.plain; go_wp2
    go_ret
    exact Cy.ok j.out
   ·have hd : ((S.th t).kind != 4) = true := by simpa using M
    rw [show S.calledC c r (.mk f x m p l) = .error (8,p) by simp [KS.calledC,k,M,Except.bind,thr,T.at']]
    go_enter Tryz.func158,Tryz.ntmps158
    go_wp2_with fail; go_at_call 153; rw [<- g]; refine (I.out _ C.out).mono ?_; rw [k]; rintro e w1 ⟨d,rfl⟩; simp only [ya]; have j := ze (za C.out d); have D : Hid (Box w1 w.heap.size (.mk f x m p l) sv) := Box.kept Q.out (za (zc H none) d); have N := zi j.out Y.out; obtain ⟨s,u,v,A,B⟩ := D.out.plain; go_wp2_with fail; go_at_call 53; refine (zu _ (.mk f x m p l) sv 8).mono ?_; rintro e X K; have E := K; obtain ⟨q,rfl⟩ := K.thrown
    exact ⟨rfl,E.err j.out⟩
theorem gh (h : CK ρ w S b c) {r : KR} {n : T} {p : Nat} (e : S.calledC c r n = .ok p) : p < S.prs.length := by
 unfold KS.calledC at e
 cases d : S.meaningC c n with
 | error z => rw [d] at e; cases e
 | ok o =>
  rw [d] at e; cases o with
  | none =>
   simp only [Except.bind] at e; cases f : r.de n with
   | error z => rw [f] at e; cases e
   | ok i => rw [f] at e; cases e
  | some t =>
   simp only [Except.bind] at e
   split at e
   ·rename_i hk
    obtain ⟨p,g,j⟩ := h.ok.kpr t (vx h (xj d)) hk; rw [g] at e; cases e
    exact j
   ·cases e
theorem kw (h : CK ρ w S b c) (n : T) (sv : Value) (hf : Fits n) (ha : AT w n.subs sv) (hs : n.kind = 25 -> 0 < n.subs.length) (hT : KAll S) {r : KR} {q : Nat} (hql : q < S.ths.length) (hqt : ∃ i,(S.th q).ty = some i) (hx : CEx ρ S b c r n) (hn : zF n = true -> CDe ρ S b c r n) :
  Calls Tryz.prog 159 #[.pointer (some ⟨b,0,none⟩),zn n sv,.pointer (some ⟨ρ.th q,0,none⟩)] w (Cy w ((S.fitsC c r n q).map fun t => .bool t)) := by
 obtain ⟨i,s⟩ := hqt; have U := h.ok.ty q hql i s; have J := ze h.km; have F := ze hT; have HX := ze (fun w1 (G : w.grownBy w1 none) => hx.run w1 sv (h.up G) hf (ha.kept G)); have R := ze (fun w1 (G : w.grownBy w1 none) => xZ (h.up G) n sv hf (ha.kept G) hs hn); have V := hx.lt
 have X := fun t e => vl hn (t := t) e
 have K : Hid (w.cell? ⟨ρ.th q,4,none⟩ = some (.pointer (some ⟨ρ.ty i,0,none⟩))) := by have h9 := (h.km.th q hql).bk.c 4 _ rfl; rw [s] at h9; exact h9
 have Y := (h.km.th q hql).bk.c 7 _ rfl; have zt : ρ.th q < w.heap.size := zw Y; obtain ⟨g,x,m,p,l⟩ := n
 change Calls Tryz.prog 159 #[.pointer (some ⟨b,0,none⟩),.agg #[.int .i64 g,.string ⟨x.toArray⟩,.int .i64 m,.int .i64 p,sv],.pointer (some ⟨ρ.th q,0,none⟩)] w _
 obtain ⟨v,f⟩ : ∃ z,z = w.alloc (.cells #[.int .i64 g,.string ⟨x.toArray⟩,.int .i64 m,.int .i64 p,sv] 100) := ⟨_,rfl⟩
 have o : Hid (w.grownBy v none) := by rw [f]; exact zf (zc w none) _
 have H : Hid (Box v w.heap.size (.mk g x m p l) sv) := by rw [f]; exact Box.new w (.mk g x m p l) sv _
 clear h ha hf hs hn hx hT; cases A : (S.th q).byVar
 ·rw [A] at Y
  cases k : r.ex (.mk g x m p l) with
  | error z =>
   rw [show S.fitsC c r (.mk g x m p l) q = .error z by simp [KS.fitsC,A,k,Except.bind]]
   go_enter Tryz.func159,Tryz.ntmps159
   go_wp2_with fail; rw [<- f]; clear f; refine wp_region_held_drew (S := fun w9 => v.grownBy w9 none) (by kernel_rfl) ?_ (fun hHeld => ?_)
   ·exact zh (zc v none)
   refine kQ 0 13 (.pointer (some ⟨ρ.th q,0,none⟩)) hHeld ?_; simp only [qA,qB,qC,qD]; refine kQ 1 14 (.pointer (some ⟨ρ.th q,0,none⟩)) hHeld ?_; simp only [qA,qB,qC,qD]; refine kQ 2 15 (.pointer (some ⟨ρ.th q,4,none⟩)) hHeld ?_; simp only [qA,qB,qC,qD]; refine dk 3 (some 16) (.pointer (some ⟨ρ.ty i,0,none⟩)) rfl rfl (fun w9 hS => by have Z := zi (za o.out hS) K.out; go_simp) hHeld ?_; simp only [qA,qB,qC,qD]; refine kQ 4 17 (.pointer (some ⟨b,0,none⟩)) hHeld ?_; simp only [qA,qB,qC,qD]; refine dk 5 (some 18) (.agg #[.int .i64 g,.string ⟨x.toArray⟩,.int .i64 m,.int .i64 p,sv]) rfl rfl (fun w9 hS => by obtain ⟨q0,Z,q2,q3,q4⟩ := (Box.kept H.out hS).plain; go_simp) hHeld ?_; simp only [qA,qB,qC,qD]; refine rd 6 rfl fun KK hKK => ?_
   go_simp
   go_at_call 157; refine (HX.out _ (zh o.out)).mono ?_; rw [k]; rintro e w1 L; have F := L; obtain ⟨q,rfl⟩ := L.thrown
   exact ⟨rfl,F.err (zh o.out)⟩
  | ok t =>
   have C := V t k; rw [show S.fitsC c r (.mk g x m p l) q = .ok (S.takes i t) by simp [KS.fitsC,A,k,s,Except.bind]]
   go_enter Tryz.func159,Tryz.ntmps159
   go_wp2_with fail; rw [<- f]; clear f; refine wp_region_held_drew (S := fun w9 => v.grownBy w9 none) (by kernel_rfl) ?_ (fun hHeld => ?_)
   ·exact zh (zc v none)
   refine kQ 0 13 (.pointer (some ⟨ρ.th q,0,none⟩)) hHeld ?_; simp only [qA,qB,qC,qD]; refine kQ 1 14 (.pointer (some ⟨ρ.th q,0,none⟩)) hHeld ?_; simp only [qA,qB,qC,qD]; refine kQ 2 15 (.pointer (some ⟨ρ.th q,4,none⟩)) hHeld ?_; simp only [qA,qB,qC,qD]; refine dk 3 (some 16) (.pointer (some ⟨ρ.ty i,0,none⟩)) rfl rfl (fun w9 hS => by have Z := zi (za o.out hS) K.out; go_simp) hHeld ?_; simp only [qA,qB,qC,qD]; refine kQ 4 17 (.pointer (some ⟨b,0,none⟩)) hHeld ?_; simp only [qA,qB,qC,qD]; refine dk 5 (some 18) (.agg #[.int .i64 g,.string ⟨x.toArray⟩,.int .i64 m,.int .i64 p,sv]) rfl rfl (fun w9 hS => by obtain ⟨q0,Z,q2,q3,q4⟩ := (Box.kept H.out hS).plain; go_simp) hHeld ?_; simp only [qA,qB,qC,qD]; refine rd 6 rfl fun KK hKK => ?_
   go_simp
   go_at_call 157; refine (HX.out _ (zh o.out)).mono ?_; rw [k]; rintro e w1 ⟨d,rfl⟩; have j := ze (za (zh o.out) d); have M := ze (za (zh (zc v none)) d); clear d
   go_simp
   refine hKK.out _ _ M.out fun hHeld => ?_
   clear hKK KK; refine rd 7 rfl fun KK hKK => ?_
   go_simp
   go_at_call 156; refine (yq (J.out.up j.out) F.out U C).mono ?_; rintro e w2 ⟨rfl,D⟩; have G2 := ze (za j.out D); have N := ze (za M.out D); clear D
   go_simp
   refine hKK.out _ _ N.out fun hHeld => ?_
   clear hKK KK; refine kQ 8 6 (.bool (S.takes i t)) hHeld ?_; simp only [qA,qB,qC,qD]; refine wpAnyH_done (by kernel_rfl) ?_ _; clear hHeld; have B2 : Hid (Box w2 w.heap.size (.mk g x m p l) sv) := Box.kept H.out N.out; go_wp2
   go_ret
   exact Cy.ok G2.out
 ·rw [A] at Y
  cases k : S.variableC c r.de (.mk g x m p l) with
  | error z =>
   rw [show S.fitsC c r (.mk g x m p l) q = .error z by simp [KS.fitsC,A,k,Except.bind]]
   go_enter Tryz.func159,Tryz.ntmps159
   go_wp2_with fail; go_at_call 114; rw [<- f]; refine (R.out _ o.out).mono ?_; rw [k]; rintro e w1 L; have F := L; obtain ⟨q,rfl⟩ := L.thrown
   exact ⟨rfl,F.err o.out⟩
  | ok t =>
   have C := X t k
   by_cases u : t = i
   ·subst u
    have E := fun w1 (G : w.grownBy w1 none) => jx (J.out.up G) C C true (by simp)
    rw [show S.fitsC c r (.mk g x m p l) q = .ok true by simp [KS.fitsC,A,k,s,Except.bind]]
    go_enter Tryz.func159,Tryz.ntmps159
    go_wp2_with fail; go_at_call 114; rw [<- f]; refine (R.out _ o.out).mono ?_; rw [k]; rintro e w1 ⟨d,rfl⟩; have j := ze (za o.out d); have B1 : Hid (Box w1 w.heap.size (.mk g x m p l) sv) := Box.kept H.out (za (zc v none) d); have B := zi j.out K.out
    replace E := E _ j.out
    go_wp2
    go_ret
    exact Cy.ok j.out
   ·have E := fun w1 (G : w.grownBy w1 none) => jx (J.out.up G) C U false (by simpa using u)
    have t0 : Hid (w.cell? ⟨ρ.ty t,0,none⟩ = some (.int .i64 (S.ty t).form)) := J.out.y0 C
    by_cases I : (S.ty t).form = 4
    ·rw [show S.fitsC c r (.mk g x m p l) q = .ok (S.ext t i) by simp [KS.fitsC,A,k,s,u,I,Except.bind]]
     have H4 := ze I; rw [I] at t0; clear I u
     go_enter Tryz.func159,Tryz.ntmps159
     go_wp2_with fail; go_at_call 114; rw [<- f]; refine (R.out _ o.out).mono ?_; rw [k]; rintro e w1 ⟨d,rfl⟩; have j := ze (za o.out d); have B1 : Hid (Box w1 w.heap.size (.mk g x m p l) sv) := Box.kept H.out (za (zc v none) d); have B := zi j.out K.out; have O := zi j.out t0.out
     replace E := E _ j.out
     go_wp2_with fail; go_at_call 189; refine (vj (J.out.up j.out) F.out.toKTys C U H4.out).mono ?_; rintro e w2 ⟨rfl,Q⟩; rw [Q]; clear Q; go_wp2
     go_ret
     exact Cy.ok j.out
    ·rw [show S.fitsC c r (.mk g x m p l) q = .ok false by simp [KS.fitsC,A,k,s,u,I,Except.bind]]
     have hd : decide ((S.ty t).form = 4) = false := by simpa using I
     clear u
     go_enter Tryz.func159,Tryz.ntmps159
     go_wp2_with fail; go_at_call 114; rw [<- f]; refine (R.out _ o.out).mono ?_; rw [k]; rintro e w1 ⟨d,rfl⟩; have j := ze (za o.out d); have B1 : Hid (Box w1 w.heap.size (.mk g x m p l) sv) := Box.kept H.out (za (zc v none) d); have B := zi j.out K.out; have O := zi j.out t0.out
     replace E := E _ j.out
     go_wp2
     go_ret
     exact Cy.ok j.out
end
section
variable {ρ : Lay} {w w' w1 : World} {S : KS} {b : Nat} {c : KSc}
structure KPrs (S : KS) : Prop where
 pars : ∀ p,p < S.prs.length -> ∀ x ∈ (S.pr p).pars,x < S.ths.length /\ (S.th x).kind = 3
 res : ∀ p,p < S.prs.length -> ∀ i,(S.pr p).result = some i -> i < S.tys.length
theorem KM.pars (h : KM ρ w S) {p : Nat} (hp : p < S.prs.length) : ∃ a cp,w.cell? ⟨ρ.pr p,5,none⟩ = some (.slice a (S.pr p).pars.length cp) /\ (S.pr p).pars.length <= cp /\ cp <= maxLen /\ w.cell? ⟨ρ.pr p,6,none⟩ = some (ρ.tyP (S.pr p).result) /\
  ∀ (j : Nat) (q : Nat),(S.pr p).pars[j]? = some q -> ∃ g,a = some ⟨g,0,none⟩ /\ w.cell? ⟨g,j,none⟩ = some (.pointer (some ⟨ρ.th q,0,none⟩)) := by
 obtain ⟨l,m,d,-,e⟩ := (h.pr p hp).bk; obtain ⟨a,cp,rfl,f,i,k⟩ := e.read; refine ⟨a,cp,d.c 5 _ rfl,f,i,d.c 6 _ rfl,fun j q hj => ?_⟩
 exact k j _ (by rw [List.getElem?_map,hj]; rfl)
theorem px {r : KR} {us : List T} {ps : List Nat} {j : Nat} {v : T} {q : Nat} (hv : us[j]? = some v) (hq : ps[j]? = some q) : S.argsC c r (us.drop j) (ps.drop j) = (S.fitsC c r v q).bind fun b => if b = true then S.argsC c r (us.drop (j + 1)) (ps.drop (j + 1)) else thr v 7 := by
 obtain ⟨d,rfl⟩ := List.getElem?_eq_some_iff.1 hv; obtain ⟨e,rfl⟩ := List.getElem?_eq_some_iff.1 hq; rw [List.drop_eq_getElem_cons d,List.drop_eq_getElem_cons e]
 rfl
structure CAr (ρ : Lay) (S : KS) (b : Nat) (c : KSc) (r : KR) (n : T) : Prop where
 ex : CEx ρ S b c r n
 de : zF n = true -> CDe ρ S b c r n
 dot : n.kind = 25 -> 0 < n.subs.length
theorem fE (h : CK ρ w S b c) (n : T) (sv : Value) (hf : Fits n) (ha : AT w n.subs sv) (hT : KAll S) (hF : KFull S) (hP : KPrs S) {r : KR} {u : T} {us : List T} (hl : n.subs = u :: us) (hu : CDe ρ S b c r u) (hsu : u.kind = 25 -> 0 < u.subs.length) (hus : ∀ v ∈ us,CAr ρ S b c r v) :
  Calls Tryz.prog 111 #[.pointer (some ⟨b,0,none⟩),zn n sv] w (Cy w ((S.callC c r n).map fun t => ρ.tyP t)) := by
 have HU := ze (fun w1 (G : w.grownBy w1 none) su (fu : Fits u) (au : AT w u.subs su) => sy (h.up G) u su fu (au.kept G) hsu hu); have HK := ze h; have HM := ze h.km; have J := ze hT; have a5 := ze hus
 have a6 : ∀ q,S.calledC c r u = .ok q -> q < S.prs.length := fun q e => gh h e
 have a7 : ∀ q,q < S.prs.length -> ∀ y ∈ (S.pr q).pars,y < S.ths.length /\ ∃ i,(S.th y).ty = some i := fun q B y hy => ⟨(hP.pars q B y hy).1,hF y (hP.pars q B y hy).1 (.inl (hP.pars q B y hy).2)⟩
 obtain ⟨s,x,m,p,l⟩ := n; obtain rfl : l = u :: us := hl; obtain ⟨g,o,Y,su,rfl,_,_,C,fu,au,ar⟩ := ha.cons; have HA := ze au; have HF := ze fu; have HR := ze ar; have d0 := C.c0; have d1 := C.c1; have d2 := C.c2; have d3 := C.c3; have d4 := C.c4; have zg : g < w.heap.size := zw d0; clear C fu au ar
 change Calls Tryz.prog 111 #[.pointer (some ⟨b,0,none⟩),.agg #[.int .i64 s,.string ⟨x.toArray⟩,.int .i64 m,.int .i64 p,.slice (some ⟨g,o,none⟩) (us.length + 1) Y]] w _
 obtain ⟨w0,A⟩ : ∃ z,z = w.alloc (.cells #[.int .i64 s,.string ⟨x.toArray⟩,.int .i64 m,.int .i64 p,.slice (some ⟨g,o,none⟩) (us.length + 1) Y] 100) := ⟨_,rfl⟩
 have X : Hid (w.grownBy w0 none) := by rw [A]; exact zf (zc w none) _
 have B0 : Hid (Box w0 w.heap.size (.mk s x m p (u :: us)) (.slice (some ⟨g,o,none⟩) (us.length + 1) Y)) := by rw [A]; exact Box.new w (.mk s x m p (u :: us)) (.slice (some ⟨g,o,none⟩) (us.length + 1) Y) _
 clear h ha hf hu hus hT hF hP hsu
 have hz : sub (.mk s x m p (u :: us)) 0 = u := rfl
 have Z : (T.mk s x m p (u :: us)).subs.drop 1 = us := rfl
 cases B : S.calledC c r u with
 | error z =>
  rw [show S.callC c r (.mk s x m p (u :: us)) = .error z by simp [KS.callC,hz,B,Except.bind]]
  go_enter Tryz.func111,Tryz.ntmps111
  go_wp2_with fail; go_at_call 158; rw [<- A]; refine (HU.out _ X.out su HF.out HA.out).mono ?_; rw [B]; rintro e w1 h1; have J := h1; obtain ⟨q,rfl⟩ := h1.thrown
  exact ⟨rfl,J.err X.out⟩
 | ok q =>
  have a4 := a6 q B; obtain ⟨_,pc,L,_,a8,p6,a1⟩ := HM.out.pars a4
  replace L := ze L
  replace p6 := ze p6
  have a9 := ze a1
  have b5 : (S.pr q).pars.length <= 9223372036854775807 := by unfold maxLen at a8; omega
  clear a1
  rcases (by omega : Y = 1 \/ 1 < Y) with rfl | b6
  ·obtain rfl : us = [] := List.eq_nil_of_length_eq_zero (by omega)
   simp only [List.length_nil,Nat.zero_add] at A B0
   by_cases d : (S.pr q).pars.length = 0
   ·rw [show S.callC c r (.mk s x m p [u]) = .ok (S.pr q).result by simp [KS.callC,hz,Z,B,Except.bind,d,KS.argsC]]
    rw [d] at L
    go_enter Tryz.func111,Tryz.ntmps111
    go_wp2_with fail; go_at_call 158; rw [<- A]; refine (HU.out _ X.out su HF.out HA.out).mono ?_; rw [B]; rintro e w1 ⟨f,rfl⟩; have D := ze (za X.out f); have B1 : Hid (Box w1 w.heap.size (.mk s x m p [u]) (.slice (some ⟨g,o,none⟩) 1 1)) := Box.kept B0.out (za (zc w0 none) f); have H := zi D.out L.out; have I := zi D.out p6.out; obtain ⟨M,N,O,Q,R⟩ := B1.out.plain; go_wp2_with fail
    go_loop [30] (fun iv => iv = .int .i64 0) (fun _ => 0)
    case atStart => rfl
    case round =>
     subst hrel; go_wp2
     go_ret
     exact Cy.ok D.out
   ·rw [show S.callC c r (.mk s x m p [u]) = .error (7,p) by simp [KS.callC,hz,Z,B,Except.bind,Ne.symm d,thr,T.at']]
    have b0 : ((0 : Int) != ((S.pr q).pars.length : Int)) = true := by simp; omega
    go_enter Tryz.func111,Tryz.ntmps111
    go_wp2_with fail; go_at_call 158; rw [<- A]; refine (HU.out _ X.out su HF.out HA.out).mono ?_; rw [B]; rintro e w1 ⟨f,rfl⟩; have D := ze (za X.out f); have B1 : Hid (Box w1 w.heap.size (.mk s x m p [u]) (.slice (some ⟨g,o,none⟩) 1 1)) := Box.kept B0.out (za (zc w0 none) f); have H := zi D.out L.out; have I := zi D.out p6.out; obtain ⟨M,N,O,Q,R⟩ := B1.out.plain; go_wp2_with fail; go_at_call 53; refine (zu _ (.mk s x m p [u]) (.slice (some ⟨g,o,none⟩) 1 1) 7).mono ?_; rintro e K h2; have J := h2; obtain ⟨q,rfl⟩ := h2.thrown
    exact ⟨rfl,J.err D.out⟩
  by_cases d : us.length = (S.pr q).pars.length
  ·have hC : S.callC c r (.mk s x m p (u :: us)) = (S.argsC c r us (S.pr q).pars).bind fun _ => .ok (S.pr q).result := by simp only [KS.callC,hz,Z,B,Except.bind,if_pos d]
   rw [hC]; clear hC
   obtain ⟨RR,a0⟩ : ∃ z,z = (S.argsC c r us (S.pr q).pars).bind fun _ => (Except.ok (S.pr q).result : CR (Option Nat)) := ⟨_,rfl⟩
   rw [<- a0]; rw [<- d] at L; have HL := ze d; clear d
   go_enter Tryz.func111,Tryz.ntmps111
   go_wp2_with fail; go_at_call 158; rw [<- A]; refine (HU.out _ X.out su HF.out HA.out).mono ?_; rw [B]; rintro e w1 ⟨f,rfl⟩; have D := ze (za X.out f); have B1 : Hid (Box w1 w.heap.size (.mk s x m p (u :: us)) (.slice (some ⟨g,o,none⟩) (us.length + 1) Y)) := Box.kept B0.out (za (zc w0 none) f); have H := zi D.out L.out; have I := zi D.out p6.out; obtain ⟨M,N,O,Q,R⟩ := B1.out.plain; go_wp2_with fail; clear H I
   go_loopw [30] (fun iv wr => ∃ j : Nat,j <= us.length /\ iv = .int .i64 ↑j /\ Hid (S.argsC c r us (S.pr q).pars = S.argsC c r (us.drop j) ((S.pr q).pars.drop j)) /\ Hid (w1.grownBy wr none)) (fun iv _ => us.length - (intOf iv).toNat)
   case atStart => exact ⟨0,Nat.zero_le _,rfl,by simp [Hid],zc _ _⟩
   case round =>
    obtain ⟨j,_,rfl,HE,HG⟩ := hrel; have GR := ze (za D.out HG.out)
    by_cases b1 : j < us.length
    ·obtain ⟨v,hv⟩ : ∃ v,us[j]? = some v := ⟨_,List.getElem?_eq_getElem b1⟩
     obtain ⟨y,hy⟩ : ∃ y,(S.pr q).pars[j]? = some y := ⟨_,List.getElem?_eq_getElem (by have h9 := HL.out; omega)⟩; obtain ⟨g',o',sw,e1,C,fv,av⟩ := HR.out.node j v hv; cases e1; obtain ⟨va,vc,rfl,-,-⟩ := av.form; obtain ⟨pg,e2,py⟩ := a9.out j y hy; subst e2; obtain ⟨a2,a3⟩ := a7 q a4 y (List.mem_of_getElem? hy); have HV := ze (a5.out v (List.mem_of_getElem? hv)); have HS := ze (px (S := S) (c := c) (r := r) hv hy); have FV := ze fv; have AV := ze av; have PY := ze py
     replace C := C.kept GR.out
     have d0 := C.c0; have d1 := C.c1; have d2 := C.c2; have d3 := C.c3; have d4 := C.c4; have b7 : g < wr.heap.size := zw d0; clear C fv av py hv hy; go_wp2_with fail; obtain ⟨K,U⟩ : ∃ z,z = wr.alloc (.cells #[.int .i64 v.kind,.string ⟨v.name.toArray⟩,.int .i64 v.num,.int .i64 v.at',.slice va v.subs.length vc] 100) := ⟨_,rfl⟩; rw [<- U]
     have E : Hid (w.grownBy K none) := by rw [U]; exact zf GR.out _
     have BV : Hid (Box K wr.heap.size v (.slice va v.subs.length vc)) := by rw [U]; exact Box.new wr v _ _
     have b2 : Hid (w1.grownBy K none) := by rw [U]; exact zf HG.out _
     clear U; cases k : S.fitsC c r v y with
     | error z =>
      obtain rfl : RR = .error z := a0.trans (by rw [HE.out,HS.out,k]; rfl)
      skip
      refine wp_region_held_drew (S := fun w9 => K.grownBy w9 none) (by kernel_rfl) ?_ (fun hHeld => ?_)
      ·exact zh (zc K none)
      refine kQ 0 35 (.pointer (some ⟨b,0,none⟩)) hHeld ?_; simp only [qA,qB,qC,qD]; refine dk 1 (some 36) (zn v (.slice va v.subs.length vc)) rfl rfl (fun w9 hS => by obtain ⟨q0,q1,q2,q3,q4⟩ := Box.kept BV.out hS; go_simp) hHeld ?_; simp only [qA,qB,qC,qD]; refine kQ 2 37 (.pointer (some ⟨ρ.pr q,0,none⟩)) hHeld ?_; simp only [qA,qB,qC,qD]; refine kQ 3 38 (.pointer (some ⟨ρ.pr q,0,none⟩)) hHeld ?_; simp only [qA,qB,qC,qD]; refine kQ 4 39 (.pointer (some ⟨ρ.pr q,5,none⟩)) hHeld ?_; simp only [qA,qB,qC,qD]; refine dk 5 (some 40) (.slice (some ⟨pg,0,none⟩) us.length pc) rfl rfl (fun w9 hS => by have q1 := zi (za E.out hS) L.out; go_simp) hHeld ?_; simp only [qA,qB,qC,qD]; refine kQ 6 41 (.int .i64 ↑j) hHeld ?_; simp only [qA,qB,qC,qD]; refine kQ 7 42 (.pointer (some ⟨pg,j,none⟩)) hHeld ?_; simp only [qA,qB,qC,qD]; refine dk 8 (some 43) (.pointer (some ⟨ρ.th y,0,none⟩)) rfl rfl (fun w9 hS => by have q1 := zi (za E.out hS) PY.out; go_simp) hHeld ?_; simp only [qA,qB,qC,qD]; refine rd 9 rfl fun KK hKK => ?_
      go_simp
      go_at_call 159; refine (kw (HK.out.up (zh E.out)) v _ FV.out (AV.out.kept (zh E.out)) HV.out.dot J.out a2 a3 HV.out.ex HV.out.de).mono ?_; rw [k]; rintro e w3 h3; have J := h3; obtain ⟨q,rfl⟩ := h3.thrown
      exact ⟨rfl,J.err (zh E.out)⟩
     | ok ft =>
      cases ft
      ·obtain rfl : RR = .error (7,v.at') := a0.trans (by rw [HE.out,HS.out,k]; rfl)
       skip
       refine wp_region_held_drew (S := fun w9 => K.grownBy w9 none) (by kernel_rfl) ?_ (fun hHeld => ?_)
       ·exact zh (zc K none)
       refine kQ 0 35 (.pointer (some ⟨b,0,none⟩)) hHeld ?_; simp only [qA,qB,qC,qD]; refine dk 1 (some 36) (zn v (.slice va v.subs.length vc)) rfl rfl (fun w9 hS => by obtain ⟨q0,q1,q2,q3,q4⟩ := Box.kept BV.out hS; go_simp) hHeld ?_; simp only [qA,qB,qC,qD]; refine kQ 2 37 (.pointer (some ⟨ρ.pr q,0,none⟩)) hHeld ?_; simp only [qA,qB,qC,qD]; refine kQ 3 38 (.pointer (some ⟨ρ.pr q,0,none⟩)) hHeld ?_; simp only [qA,qB,qC,qD]; refine kQ 4 39 (.pointer (some ⟨ρ.pr q,5,none⟩)) hHeld ?_; simp only [qA,qB,qC,qD]; refine dk 5 (some 40) (.slice (some ⟨pg,0,none⟩) us.length pc) rfl rfl (fun w9 hS => by have q1 := zi (za E.out hS) L.out; go_simp) hHeld ?_; simp only [qA,qB,qC,qD]; refine kQ 6 41 (.int .i64 ↑j) hHeld ?_; simp only [qA,qB,qC,qD]; refine kQ 7 42 (.pointer (some ⟨pg,j,none⟩)) hHeld ?_; simp only [qA,qB,qC,qD]; refine dk 8 (some 43) (.pointer (some ⟨ρ.th y,0,none⟩)) rfl rfl (fun w9 hS => by have q1 := zi (za E.out hS) PY.out; go_simp) hHeld ?_; simp only [qA,qB,qC,qD]; refine rd 9 rfl fun KK hKK => ?_
       go_simp
       go_at_call 159; refine (kw (HK.out.up (zh E.out)) v _ FV.out (AV.out.kept (zh E.out)) HV.out.dot J.out a2 a3 HV.out.ex HV.out.de).mono ?_; rw [k]; rintro e w3 ⟨F,rfl⟩; have G3 := ze (za (zh E.out) F); have V := ze (za (zh (zc K none)) F); clear F
       go_simp
       refine hKK.out _ _ V.out fun hHeld => ?_
       clear hKK KK; refine kQ 10 45 (.bool true) hHeld ?_; simp only [qA,qB,qC,qD]; refine wpAnyH_done (by kernel_rfl) ?_ _; clear hHeld; obtain ⟨_,_,_,_,_⟩ := Box.kept BV.out V.out; go_wp2_with fail; go_at_call 53; refine (zu _ v _ 7).mono ?_; rintro e w4 h4; have J := h4; obtain ⟨q,rfl⟩ := h4.thrown
       exact ⟨rfl,J.err G3.out⟩
      ·have b3 : Hid (S.argsC c r us (S.pr q).pars = S.argsC c r (us.drop (j + 1)) ((S.pr q).pars.drop (j + 1))) := by show _ = _; rw [HE.out,HS.out,k]; rfl
       skip
       refine wp_region_held_drew (S := fun w9 => K.grownBy w9 none) (by kernel_rfl) ?_ (fun hHeld => ?_)
       ·exact zh (zc K none)
       refine kQ 0 35 (.pointer (some ⟨b,0,none⟩)) hHeld ?_; simp only [qA,qB,qC,qD]; refine dk 1 (some 36) (zn v (.slice va v.subs.length vc)) rfl rfl (fun w9 hS => by obtain ⟨q0,q1,q2,q3,q4⟩ := Box.kept BV.out hS; go_simp) hHeld ?_; simp only [qA,qB,qC,qD]; refine kQ 2 37 (.pointer (some ⟨ρ.pr q,0,none⟩)) hHeld ?_; simp only [qA,qB,qC,qD]; refine kQ 3 38 (.pointer (some ⟨ρ.pr q,0,none⟩)) hHeld ?_; simp only [qA,qB,qC,qD]; refine kQ 4 39 (.pointer (some ⟨ρ.pr q,5,none⟩)) hHeld ?_; simp only [qA,qB,qC,qD]; refine dk 5 (some 40) (.slice (some ⟨pg,0,none⟩) us.length pc) rfl rfl (fun w9 hS => by have q1 := zi (za E.out hS) L.out; go_simp) hHeld ?_; simp only [qA,qB,qC,qD]; refine kQ 6 41 (.int .i64 ↑j) hHeld ?_; simp only [qA,qB,qC,qD]; refine kQ 7 42 (.pointer (some ⟨pg,j,none⟩)) hHeld ?_; simp only [qA,qB,qC,qD]; refine dk 8 (some 43) (.pointer (some ⟨ρ.th y,0,none⟩)) rfl rfl (fun w9 hS => by have q1 := zi (za E.out hS) PY.out; go_simp) hHeld ?_; simp only [qA,qB,qC,qD]; refine rd 9 rfl fun KK hKK => ?_
       go_simp
       go_at_call 159; refine (kw (HK.out.up (zh E.out)) v _ FV.out (AV.out.kept (zh E.out)) HV.out.dot J.out a2 a3 HV.out.ex HV.out.de).mono ?_; rw [k]; rintro e w3 ⟨F,rfl⟩; have G3 := ze (za (zh E.out) F); have V := ze (za (zh (zc K none)) F); clear F
       go_simp
       refine hKK.out _ _ V.out fun hHeld => ?_
       clear hKK KK; refine kQ 10 45 (.bool false) hHeld ?_; simp only [qA,qB,qC,qD]; refine wpAnyH_done (by kernel_rfl) ?_ _; clear hHeld; have b4 := ze (za b2.out V.out); go_wp2_with fail
       go_roundw
       case rel => exact ⟨j + 1,by omega,by go_num,b3,b4.out⟩
       case measure => first | omega | (simp only [intOf]; omega) | (simp; omega)
    ·obtain rfl : RR = .ok (S.pr q).result := a0.trans (by rw [HE.out,List.drop_eq_nil_of_le (by omega)]; rfl)
     have b8 := zi GR.out p6.out; go_wp2
     go_ret
     exact Cy.ok GR.out
  ·rw [show S.callC c r (.mk s x m p (u :: us)) = .error (7,p) by simp only [KS.callC,hz,Z,B,Except.bind,if_neg d,thr,T.at']]
   have b0 : ((us.length : Int) != ((S.pr q).pars.length : Int)) = true := by simp; omega
   go_enter Tryz.func111,Tryz.ntmps111
   go_wp2_with fail; go_at_call 158; rw [<- A]; refine (HU.out _ X.out su HF.out HA.out).mono ?_; rw [B]; rintro e w1 ⟨f,rfl⟩; have D := ze (za X.out f); have B1 : Hid (Box w1 w.heap.size (.mk s x m p (u :: us)) (.slice (some ⟨g,o,none⟩) (us.length + 1) Y)) := Box.kept B0.out (za (zc w0 none) f); have H := zi D.out L.out; have I := zi D.out p6.out; obtain ⟨M,N,O,Q,R⟩ := B1.out.plain; go_wp2_with fail; go_at_call 53; refine (zu _ (.mk s x m p (u :: us)) (.slice (some ⟨g,o,none⟩) (us.length + 1) Y) 7).mono ?_; rintro e K h2; have J := h2; obtain ⟨q,rfl⟩ := h2.thrown
   exact ⟨rfl,J.err D.out⟩
end
section
variable {ρ : Lay} {w w' w1 : World} {S : KS} {b : Nat} {c : KSc}
theorem gG (h : CK ρ w S b c) (n : T) (sv : Value) (hf : Fits n) (ha : AT w n.subs sv) {r : KR} (hk : n.kind = 29 \/ n.kind = 30 \/ n.kind = 31 \/ n.kind = 32) :
  Calls Tryz.prog 157 #[.pointer (some ⟨b,0,none⟩),zn n sv] w (Cy w ((S.exprC c r n).map fun t => .pointer (some ⟨ρ.ty t,0,none⟩))) := by
 have s0 := h.s0; have e := h.km.wc0; have f := h.km.wc1; have g := h.km.wc2; have i := zw s0; have j := zw e; simp only at i j; obtain ⟨d,x,m,p,l⟩ := n; clear h ha hf
 change Calls Tryz.prog 157 #[.pointer (some ⟨b,0,none⟩),.agg #[.int .i64 d,.string ⟨x.toArray⟩,.int .i64 m,.int .i64 p,sv]] w _
 change d = 29 \/ d = 30 \/ d = 31 \/ d = 32 at hk
 rcases hk with rfl | rfl | rfl | rfl
 ·rw [show S.exprC c r (.mk 29 x m p l) = .ok 0 by simp [KS.exprC,T.kind]]
  go_enter Tryz.func157,Tryz.ntmps157
  go_wp2
  go_ret
  exact Cy.ok (zf (zc w none) _)
 ·rw [show S.exprC c r (.mk 30 x m p l) = .ok 1 by simp [KS.exprC,T.kind]]
  go_enter Tryz.func157,Tryz.ntmps157
  go_wp2
  go_ret
  exact Cy.ok (zf (zc w none) _)
 ·rw [show S.exprC c r (.mk 31 x m p l) = .ok 1 by simp [KS.exprC,T.kind]]
  go_enter Tryz.func157,Tryz.ntmps157
  go_wp2
  go_ret
  exact Cy.ok (zf (zc w none) _)
 ·rw [show S.exprC c r (.mk 32 x m p l) = .ok 2 by simp [KS.exprC,T.kind]]
  go_enter Tryz.func157,Tryz.ntmps157
  go_wp2
  go_ret
  exact Cy.ok (zf (zc w none) _)
theorem pQ (h : CK ρ w S b c) (n : T) (sv : Value) (hf : Fits n) (ha : AT w n.subs sv) {r : KR} {u : T} (hk : n.kind = 34) (hl : n.subs = [u]) (hu : CEx ρ S b c r u) :
  Calls Tryz.prog 157 #[.pointer (some ⟨b,0,none⟩),zn n sv] w (Cy w ((S.exprC c r n).map fun t => .pointer (some ⟨ρ.ty t,0,none⟩))) := by
 have h3 := h.ok.three; have V := ze (fun w1 (G : w.grownBy w1 none) i (D : Fits u) (E : AT w u.subs i) => ue (h.up G) u i D (E.kept G) (t := 1) (by omega) hu); have s0 : Hid _ := h.s0; have I : Hid _ := h.km.wc0; have j : Hid _ := h.km.wc1; have J : Hid _ := h.km.wc2; obtain ⟨A,x,m,p,l⟩ := n; obtain rfl : l = [u] := hl; obtain ⟨g,o,k,i,rfl,a1,a2,F,D,E,-⟩ := ha.cons; have X := ze E; have Y := ze D
 replace F := ze F
 clear D E
 change Calls Tryz.prog 157 #[.pointer (some ⟨b,0,none⟩),.agg #[.int .i64 A,.string ⟨x.toArray⟩,.int .i64 m,.int .i64 p,.slice (some ⟨g,o,none⟩) 1 k]] w _
 obtain ⟨q,d⟩ : ∃ z,z = w.alloc (.cells #[.int .i64 A,.string ⟨x.toArray⟩,.int .i64 m,.int .i64 p,.slice (some ⟨g,o,none⟩) 1 k] 100) := ⟨_,rfl⟩
 have f : Hid (w.grownBy q none) := by rw [d]; exact zf (zc w none) _
 have K : Hid (Box q w.heap.size (.mk A x m p [u]) (.slice (some ⟨g,o,none⟩) 1 k)) := by rw [d]; exact Box.new w (.mk A x m p [u]) (.slice (some ⟨g,o,none⟩) 1 k) _
 obtain rfl : A = 34 := hk; clear h ha hf hu
 have Z : sub (.mk 34 x m p [u]) 0 = u := rfl
 cases H : yP r u 1 with
 | error z =>
  rw [show S.exprC c r (.mk 34 x m p [u]) = .error z by simp [KS.exprC,T.kind,Z,H,Except.bind]]
  go_enter Tryz.func157,Tryz.ntmps157
  go_wp2_with fail; rw [<- d]; clear d; refine wp_region_held_drew (S := fun w9 => q.grownBy w9 none) (by kernel_rfl) ?_ (fun hHeld => ?_)
  ·exact zh (zc q none)
  refine kQ 0 41 (.pointer (some ⟨b,0,none⟩)) hHeld ?_; simp only [qA,qB,qC,qD]; refine kQ 1 42 (.pointer (some ⟨w.heap.size,4,none⟩)) hHeld ?_; simp only [qA,qB,qC,qD]; refine dk 2 (some 43) (.slice (some ⟨g,o,none⟩) 1 k) rfl rfl (fun w9 hS => by obtain ⟨L,s,M,N,O⟩ := (Box.kept K.out hS).plain; go_simp) hHeld ?_; simp only [qA,qB,qC,qD]; refine kQ 3 44 (.pointer (some ⟨g,o,none⟩)) hHeld ?_; simp only [qA,qB,qC,qD]; refine dk 4 (some 45) (zn u i) rfl rfl (fun w9 hS => by obtain ⟨L,s,M,N,O⟩ := Node5.kept F.out (za f.out hS); go_simp) hHeld ?_; simp only [qA,qB,qC,qD]; refine kQ 5 46 (.pointer (some ⟨b,0,none⟩)) hHeld ?_; simp only [qA,qB,qC,qD]; refine kQ 6 47 (.pointer (some ⟨b,0,none⟩)) hHeld ?_; simp only [qA,qB,qC,qD]; refine kQ 7 48 (.pointer (some ⟨b,0,none⟩)) hHeld ?_; simp only [qA,qB,qC,qD]; refine kQ 8 49 (.pointer (some ⟨b,0,none⟩)) hHeld ?_; simp only [qA,qB,qC,qD]; refine dk 9 (some 50) (.pointer (some ⟨ρ.wd,0,none⟩)) rfl rfl (fun w9 hS => by have s := zi (za f.out hS) s0.out; go_simp) hHeld ?_; simp only [qA,qB,qC,qD]; refine kQ 10 51 (.pointer (some ⟨ρ.wd,0,none⟩)) hHeld ?_; simp only [qA,qB,qC,qD]; refine kQ 11 52 (.pointer (some ⟨ρ.wd,1,none⟩)) hHeld ?_; simp only [qA,qB,qC,qD]; refine dk 12 (some 53) (.pointer (some ⟨ρ.ty 1,0,none⟩)) rfl rfl (fun w9 hS => by have s := zi (za f.out hS) j.out; go_simp) hHeld ?_; simp only [qA,qB,qC,qD]; refine rd 13 rfl fun KK hKK => ?_
  go_simp
  go_at_call 116; refine (V.out _ (zh f.out) i Y.out X.out).mono ?_; rw [H]; rintro e w1 h1; have HT := h1; obtain ⟨_,rfl⟩ := h1.thrown
  exact ⟨rfl,HT.err (zh f.out)⟩
 | ok _ =>
  rw [show S.exprC c r (.mk 34 x m p [u]) = .ok 1 by simp [KS.exprC,T.kind,Z,H,Except.bind]]
  go_enter Tryz.func157,Tryz.ntmps157
  go_wp2_with fail; rw [<- d]; clear d; refine wp_region_held_drew (S := fun w9 => q.grownBy w9 none) (by kernel_rfl) ?_ (fun hHeld => ?_)
  ·exact zh (zc q none)
  refine kQ 0 41 (.pointer (some ⟨b,0,none⟩)) hHeld ?_; simp only [qA,qB,qC,qD]; refine kQ 1 42 (.pointer (some ⟨w.heap.size,4,none⟩)) hHeld ?_; simp only [qA,qB,qC,qD]; refine dk 2 (some 43) (.slice (some ⟨g,o,none⟩) 1 k) rfl rfl (fun w9 hS => by obtain ⟨L,s,M,N,O⟩ := (Box.kept K.out hS).plain; go_simp) hHeld ?_; simp only [qA,qB,qC,qD]; refine kQ 3 44 (.pointer (some ⟨g,o,none⟩)) hHeld ?_; simp only [qA,qB,qC,qD]; refine dk 4 (some 45) (zn u i) rfl rfl (fun w9 hS => by obtain ⟨L,s,M,N,O⟩ := Node5.kept F.out (za f.out hS); go_simp) hHeld ?_; simp only [qA,qB,qC,qD]; refine kQ 5 46 (.pointer (some ⟨b,0,none⟩)) hHeld ?_; simp only [qA,qB,qC,qD]; refine kQ 6 47 (.pointer (some ⟨b,0,none⟩)) hHeld ?_; simp only [qA,qB,qC,qD]; refine kQ 7 48 (.pointer (some ⟨b,0,none⟩)) hHeld ?_; simp only [qA,qB,qC,qD]; refine kQ 8 49 (.pointer (some ⟨b,0,none⟩)) hHeld ?_; simp only [qA,qB,qC,qD]; refine dk 9 (some 50) (.pointer (some ⟨ρ.wd,0,none⟩)) rfl rfl (fun w9 hS => by have s := zi (za f.out hS) s0.out; go_simp) hHeld ?_; simp only [qA,qB,qC,qD]; refine kQ 10 51 (.pointer (some ⟨ρ.wd,0,none⟩)) hHeld ?_; simp only [qA,qB,qC,qD]; refine kQ 11 52 (.pointer (some ⟨ρ.wd,1,none⟩)) hHeld ?_; simp only [qA,qB,qC,qD]; refine dk 12 (some 53) (.pointer (some ⟨ρ.ty 1,0,none⟩)) rfl rfl (fun w9 hS => by have s := zi (za f.out hS) j.out; go_simp) hHeld ?_; simp only [qA,qB,qC,qD]; refine rd 13 rfl fun KK hKK => ?_
  go_simp
  go_at_call 116; refine (V.out _ (zh f.out) i Y.out X.out).mono ?_; rw [H]; rintro e w1 ⟨v,rfl⟩; have B := ze (za (zh f.out) v); have C := ze (za (zh (zc q none)) v); clear v
  go_simp
  refine hKK.out _ _ C.out fun hHeld => ?_
  clear hKK KK; refine wpAnyH_done (by kernel_rfl) ?_ _; clear hHeld; have B1 : Hid (Box w1 w.heap.size (.mk 34 x m p [u]) (.slice (some ⟨g,o,none⟩) 1 k)) := Box.kept K.out C.out; have a0 := zi B.out s0.out; have Q := zi B.out I.out; have R := zi B.out j.out; have U := zi B.out J.out; go_wp2
  go_ret
  exact Cy.ok B.out
theorem rV (h : CK ρ w S b c) (n : T) (sv : Value) (hf : Fits n) (ha : AT w n.subs sv) {r : KR} {u : T} (hk : n.kind = 35) (hl : n.subs = [u]) (hu : CEx ρ S b c r u) :
  Calls Tryz.prog 157 #[.pointer (some ⟨b,0,none⟩),zn n sv] w (Cy w ((S.exprC c r n).map fun t => .pointer (some ⟨ρ.ty t,0,none⟩))) := by
 have h3 := h.ok.three; have V := ze (fun w1 (G : w.grownBy w1 none) i (D : Fits u) (E : AT w u.subs i) => ue (h.up G) u i D (E.kept G) (t := 0) (by omega) hu); have s0 : Hid _ := h.s0; have j : Hid _ := h.km.wc0; have I : Hid _ := h.km.wc1; have J : Hid _ := h.km.wc2; obtain ⟨A,x,m,p,l⟩ := n; obtain rfl : l = [u] := hl; obtain ⟨g,o,k,i,rfl,a1,a2,F,D,E,-⟩ := ha.cons; have X := ze E; have Y := ze D
 replace F := ze F
 clear D E
 change Calls Tryz.prog 157 #[.pointer (some ⟨b,0,none⟩),.agg #[.int .i64 A,.string ⟨x.toArray⟩,.int .i64 m,.int .i64 p,.slice (some ⟨g,o,none⟩) 1 k]] w _
 obtain ⟨q,d⟩ : ∃ z,z = w.alloc (.cells #[.int .i64 A,.string ⟨x.toArray⟩,.int .i64 m,.int .i64 p,.slice (some ⟨g,o,none⟩) 1 k] 100) := ⟨_,rfl⟩
 have f : Hid (w.grownBy q none) := by rw [d]; exact zf (zc w none) _
 have K : Hid (Box q w.heap.size (.mk A x m p [u]) (.slice (some ⟨g,o,none⟩) 1 k)) := by rw [d]; exact Box.new w (.mk A x m p [u]) (.slice (some ⟨g,o,none⟩) 1 k) _
 obtain rfl : A = 35 := hk; clear h ha hf hu
 have Z : sub (.mk 35 x m p [u]) 0 = u := rfl
 cases H : yP r u 0 with
 | error z =>
  rw [show S.exprC c r (.mk 35 x m p [u]) = .error z by simp [KS.exprC,T.kind,Z,H,Except.bind]]
  go_enter Tryz.func157,Tryz.ntmps157
  go_wp2_with fail; rw [<- d]; clear d; refine wp_region_held_drew (S := fun w9 => q.grownBy w9 none) (by kernel_rfl) ?_ (fun hHeld => ?_)
  ·exact zh (zc q none)
  refine kQ 0 65 (.pointer (some ⟨b,0,none⟩)) hHeld ?_; simp only [qA,qB,qC,qD]; refine kQ 1 66 (.pointer (some ⟨w.heap.size,4,none⟩)) hHeld ?_; simp only [qA,qB,qC,qD]; refine dk 2 (some 67) (.slice (some ⟨g,o,none⟩) 1 k) rfl rfl (fun w9 hS => by obtain ⟨L,s,M,N,O⟩ := (Box.kept K.out hS).plain; go_simp) hHeld ?_; simp only [qA,qB,qC,qD]; refine kQ 3 68 (.pointer (some ⟨g,o,none⟩)) hHeld ?_; simp only [qA,qB,qC,qD]; refine dk 4 (some 69) (zn u i) rfl rfl (fun w9 hS => by obtain ⟨L,s,M,N,O⟩ := Node5.kept F.out (za f.out hS); go_simp) hHeld ?_; simp only [qA,qB,qC,qD]; refine kQ 5 70 (.pointer (some ⟨b,0,none⟩)) hHeld ?_; simp only [qA,qB,qC,qD]; refine kQ 6 71 (.pointer (some ⟨b,0,none⟩)) hHeld ?_; simp only [qA,qB,qC,qD]; refine kQ 7 72 (.pointer (some ⟨b,0,none⟩)) hHeld ?_; simp only [qA,qB,qC,qD]; refine kQ 8 73 (.pointer (some ⟨b,0,none⟩)) hHeld ?_; simp only [qA,qB,qC,qD]; refine dk 9 (some 74) (.pointer (some ⟨ρ.wd,0,none⟩)) rfl rfl (fun w9 hS => by have s := zi (za f.out hS) s0.out; go_simp) hHeld ?_; simp only [qA,qB,qC,qD]; refine kQ 10 75 (.pointer (some ⟨ρ.wd,0,none⟩)) hHeld ?_; simp only [qA,qB,qC,qD]; refine kQ 11 76 (.pointer (some ⟨ρ.wd,0,none⟩)) hHeld ?_; simp only [qA,qB,qC,qD]; refine dk 12 (some 77) (.pointer (some ⟨ρ.ty 0,0,none⟩)) rfl rfl (fun w9 hS => by have s := zi (za f.out hS) j.out; go_simp) hHeld ?_; simp only [qA,qB,qC,qD]; refine rd 13 rfl fun KK hKK => ?_
  go_simp
  go_at_call 116; refine (V.out _ (zh f.out) i Y.out X.out).mono ?_; rw [H]; rintro e w1 h1; have HT := h1; obtain ⟨_,rfl⟩ := h1.thrown
  exact ⟨rfl,HT.err (zh f.out)⟩
 | ok _ =>
  rw [show S.exprC c r (.mk 35 x m p [u]) = .ok 0 by simp [KS.exprC,T.kind,Z,H,Except.bind]]
  go_enter Tryz.func157,Tryz.ntmps157
  go_wp2_with fail; rw [<- d]; clear d; refine wp_region_held_drew (S := fun w9 => q.grownBy w9 none) (by kernel_rfl) ?_ (fun hHeld => ?_)
  ·exact zh (zc q none)
  refine kQ 0 65 (.pointer (some ⟨b,0,none⟩)) hHeld ?_; simp only [qA,qB,qC,qD]; refine kQ 1 66 (.pointer (some ⟨w.heap.size,4,none⟩)) hHeld ?_; simp only [qA,qB,qC,qD]; refine dk 2 (some 67) (.slice (some ⟨g,o,none⟩) 1 k) rfl rfl (fun w9 hS => by obtain ⟨L,s,M,N,O⟩ := (Box.kept K.out hS).plain; go_simp) hHeld ?_; simp only [qA,qB,qC,qD]; refine kQ 3 68 (.pointer (some ⟨g,o,none⟩)) hHeld ?_; simp only [qA,qB,qC,qD]; refine dk 4 (some 69) (zn u i) rfl rfl (fun w9 hS => by obtain ⟨L,s,M,N,O⟩ := Node5.kept F.out (za f.out hS); go_simp) hHeld ?_; simp only [qA,qB,qC,qD]; refine kQ 5 70 (.pointer (some ⟨b,0,none⟩)) hHeld ?_; simp only [qA,qB,qC,qD]; refine kQ 6 71 (.pointer (some ⟨b,0,none⟩)) hHeld ?_; simp only [qA,qB,qC,qD]; refine kQ 7 72 (.pointer (some ⟨b,0,none⟩)) hHeld ?_; simp only [qA,qB,qC,qD]; refine kQ 8 73 (.pointer (some ⟨b,0,none⟩)) hHeld ?_; simp only [qA,qB,qC,qD]; refine dk 9 (some 74) (.pointer (some ⟨ρ.wd,0,none⟩)) rfl rfl (fun w9 hS => by have s := zi (za f.out hS) s0.out; go_simp) hHeld ?_; simp only [qA,qB,qC,qD]; refine kQ 10 75 (.pointer (some ⟨ρ.wd,0,none⟩)) hHeld ?_; simp only [qA,qB,qC,qD]; refine kQ 11 76 (.pointer (some ⟨ρ.wd,0,none⟩)) hHeld ?_; simp only [qA,qB,qC,qD]; refine dk 12 (some 77) (.pointer (some ⟨ρ.ty 0,0,none⟩)) rfl rfl (fun w9 hS => by have s := zi (za f.out hS) j.out; go_simp) hHeld ?_; simp only [qA,qB,qC,qD]; refine rd 13 rfl fun KK hKK => ?_
  go_simp
  go_at_call 116; refine (V.out _ (zh f.out) i Y.out X.out).mono ?_; rw [H]; rintro e w1 ⟨v,rfl⟩; have B := ze (za (zh f.out) v); have C := ze (za (zh (zc q none)) v); clear v
  go_simp
  refine hKK.out _ _ C.out fun hHeld => ?_
  clear hKK KK; refine wpAnyH_done (by kernel_rfl) ?_ _; clear hHeld; have B1 : Hid (Box w1 w.heap.size (.mk 35 x m p [u]) (.slice (some ⟨g,o,none⟩) 1 k)) := Box.kept K.out C.out; have a0 := zi B.out s0.out; have Q := zi B.out j.out; have R := zi B.out I.out; have U := zi B.out J.out; go_wp2
  go_ret
  exact Cy.ok B.out
theorem nl (h : CK ρ w S b c) (n : T) (sv : Value) (hf : Fits n) (ha : AT w n.subs sv) {r : KR} (hk : n.kind = 36) (hd : ∀ w1,w.grownBy w1 none -> Calls Tryz.prog 190 #[.pointer (some ⟨b,0,none⟩),zn n sv] w1 (Cy w1 ((S.operatorC r n).map fun t => .pointer (some ⟨ρ.ty t,0,none⟩)))) :
  Calls Tryz.prog 157 #[.pointer (some ⟨b,0,none⟩),zn n sv] w (Cy w ((S.exprC c r n).map fun t => .pointer (some ⟨ρ.ty t,0,none⟩))) := by
 have o := ze hd; have s0 : Hid _ := h.s0; have s : Hid _ := h.km.wc0; have u : Hid _ := h.km.wc1; have v : Hid _ := h.km.wc2; obtain ⟨f,x,m,p,l⟩ := n
 change Calls Tryz.prog 157 #[.pointer (some ⟨b,0,none⟩),.agg #[.int .i64 f,.string ⟨x.toArray⟩,.int .i64 m,.int .i64 p,sv]] w _
 obtain ⟨k,d⟩ : ∃ z,z = w.alloc (.cells #[.int .i64 f,.string ⟨x.toArray⟩,.int .i64 m,.int .i64 p,sv] 100) := ⟨_,rfl⟩
 have i : Hid (w.grownBy k none) := by rw [d]; exact zf (zc w none) _
 have A : Hid (Box k w.heap.size (.mk f x m p l) sv) := by rw [d]; exact Box.new w (.mk f x m p l) sv _
 obtain rfl : f = 36 := hk; clear h ha hf hd; cases j : S.operatorC r (.mk 36 x m p l) with
 | error z =>
  rw [show S.exprC c r (.mk 36 x m p l) = .error z by simp [KS.exprC,T.kind,j]]
  go_enter Tryz.func157,Tryz.ntmps157
  go_wp2_with fail; go_at_call 190; rw [<- d]; refine (o.out _ i.out).mono ?_; rw [j]; rintro e w1 q; have B := q; obtain ⟨_,rfl⟩ := q.thrown
  exact ⟨rfl,B.err i.out⟩
 | ok t =>
  rw [show S.exprC c r (.mk 36 x m p l) = .ok t by simp [KS.exprC,T.kind,j]]
  go_enter Tryz.func157,Tryz.ntmps157
  go_wp2_with fail; go_at_call 190; rw [<- d]; refine (o.out _ i.out).mono ?_; rw [j]; rintro e w1 ⟨g,rfl⟩; have C := ze (za i.out g); have D : Hid (Box w1 w.heap.size (.mk 36 x m p l) sv) := Box.kept A.out (za (zc k none) g); go_wp2
  go_ret
  exact Cy.ok C.out
theorem oY (h : CK ρ w S b c) (n : T) (sv : Value) (hf : Fits n) (ha : AT w n.subs sv) {r : KR} (hk : n.kind = 37) (hd : ∀ w1,w.grownBy w1 none -> Calls Tryz.prog 191 #[.pointer (some ⟨b,0,none⟩),zn n sv] w1 (Cy w1 ((S.guardedC c r n).map fun t => .pointer (some ⟨ρ.ty t,0,none⟩)))) :
  Calls Tryz.prog 157 #[.pointer (some ⟨b,0,none⟩),zn n sv] w (Cy w ((S.exprC c r n).map fun t => .pointer (some ⟨ρ.ty t,0,none⟩))) := by
 have C := ze hd; have s0 : Hid _ := h.s0; have o : Hid _ := h.km.wc0; have q : Hid _ := h.km.wc1; have s : Hid _ := h.km.wc2; obtain ⟨f,x,m,p,l⟩ := n
 change Calls Tryz.prog 157 #[.pointer (some ⟨b,0,none⟩),.agg #[.int .i64 f,.string ⟨x.toArray⟩,.int .i64 m,.int .i64 p,sv]] w _
 obtain ⟨u,d⟩ : ∃ z,z = w.alloc (.cells #[.int .i64 f,.string ⟨x.toArray⟩,.int .i64 m,.int .i64 p,sv] 100) := ⟨_,rfl⟩
 have j : Hid (w.grownBy u none) := by rw [d]; exact zf (zc w none) _
 have F : Hid (Box u w.heap.size (.mk f x m p l) sv) := by rw [d]; exact Box.new w (.mk f x m p l) sv _
 obtain rfl : f = 37 := hk; clear h ha hf hd; cases k : S.guardedC c r (.mk 37 x m p l) with
 | error z =>
  rw [show S.exprC c r (.mk 37 x m p l) = .error z by simp [KS.exprC,T.kind,k,Except.bind]]
  go_enter Tryz.func157,Tryz.ntmps157
  go_wp2_with fail; go_at_call 191; rw [<- d]; refine (C.out _ j.out).mono ?_; rw [k]; rintro e w1 D; have G := D; obtain ⟨_,rfl⟩ := D.thrown
  exact ⟨rfl,G.err j.out⟩
 | ok t =>
  rw [show S.exprC c r (.mk 37 x m p l) = .ok 1 by simp [KS.exprC,T.kind,k,Except.bind]]
  go_enter Tryz.func157,Tryz.ntmps157
  go_wp2_with fail; go_at_call 191; rw [<- d]; refine (C.out _ j.out).mono ?_; rw [k]; rintro e w1 ⟨g,rfl⟩; have i := ze (za j.out g); have H : Hid (Box w1 w.heap.size (.mk 37 x m p l) sv) := Box.kept F.out (za (zc u none) g); have E := zi i.out s0.out; have v := zi i.out o.out; have A := zi i.out q.out; have B := zi i.out s.out; go_wp2
  go_ret
  exact Cy.ok i.out
theorem sG (_h : CK ρ w S b c) (n : T) (sv : Value) (hf : Fits n) (ha : AT w n.subs sv) {r : KR} (hk : n.kind = 33) (hd : ∀ w1,w.grownBy w1 none -> Calls Tryz.prog 111 #[.pointer (some ⟨b,0,none⟩),zn n sv] w1 (Cy w1 ((S.callC c r n).map fun t => ρ.tyP t))) :
  Calls Tryz.prog 157 #[.pointer (some ⟨b,0,none⟩),zn n sv] w (Cy w ((S.exprC c r n).map fun t => .pointer (some ⟨ρ.ty t,0,none⟩))) := by
 have k := ze hd; obtain ⟨i,x,m,p,l⟩ := n
 change Calls Tryz.prog 157 #[.pointer (some ⟨b,0,none⟩),.agg #[.int .i64 i,.string ⟨x.toArray⟩,.int .i64 m,.int .i64 p,sv]] w _
 obtain ⟨j,d⟩ : ∃ z,z = w.alloc (.cells #[.int .i64 i,.string ⟨x.toArray⟩,.int .i64 m,.int .i64 p,sv] 100) := ⟨_,rfl⟩
 have g : Hid (w.grownBy j none) := by rw [d]; exact zf (zc w none) _
 have u : Hid (Box j w.heap.size (.mk i x m p l) sv) := by rw [d]; exact Box.new w (.mk i x m p l) sv _
 obtain rfl : i = 33 := hk; clear _h ha hf hd; cases h : S.callC c r (.mk 33 x m p l) with
 | error z =>
  rw [show S.exprC c r (.mk 33 x m p l) = .error z by simp [KS.exprC,T.kind,h,Except.bind]]
  go_enter Tryz.func157,Tryz.ntmps157
  go_wp2_with fail; go_at_call 111; rw [<- d]; refine (k.out _ g.out).mono ?_; rw [h]; rintro e w1 v; have o := v; obtain ⟨q,rfl⟩ := v.thrown
  exact ⟨rfl,o.err g.out⟩
 | ok t =>
  cases t with
  | none =>
   rw [show S.exprC c r (.mk 33 x m p l) = .error (7,p) by simp [KS.exprC,T.kind,h,Except.bind,thr,T.at']]
   go_enter Tryz.func157,Tryz.ntmps157
   go_wp2_with fail; go_at_call 111; rw [<- d]; refine (k.out _ g.out).mono ?_; rw [h]; rintro e w1 ⟨f,rfl⟩; simp only [uh]; have s := ze (za g.out f); have A : Hid (Box w1 w.heap.size (.mk 33 x m p l) sv) := Box.kept u.out (za (zc j none) f); obtain ⟨_,_,_,_,_⟩ := A.out.plain; go_wp2_with fail; go_at_call 53; refine (zu _ (.mk 33 x m p l) sv 7).mono ?_; rintro e C B; have o := B; obtain ⟨q,rfl⟩ := B.thrown
   exact ⟨rfl,o.err s.out⟩
  | some t =>
   rw [show S.exprC c r (.mk 33 x m p l) = .ok t by simp [KS.exprC,T.kind,h,Except.bind]]
   go_enter Tryz.func157,Tryz.ntmps157
   go_wp2_with fail; go_at_call 111; rw [<- d]; refine (k.out _ g.out).mono ?_; rw [h]; rintro e w1 ⟨f,rfl⟩; simp only [yd]; have s := ze (za g.out f); have A : Hid (Box w1 w.heap.size (.mk 33 x m p l) sv) := Box.kept u.out (za (zc j none) f); go_wp2
   go_ret
   exact Cy.ok s.out
theorem pE (_h : CK ρ w S b c) (n : T) (sv : Value) (hf : Fits n) (ha : AT w n.subs sv) {r : KR} (hk : zF n = true) (hd : ∀ w1,w.grownBy w1 none -> Calls Tryz.prog 161 #[.pointer (some ⟨b,0,none⟩),zn n sv] w1 (Cy w1 ((S.desigC c r n).map fun t => .pointer (some ⟨ρ.ty t,0,none⟩)))) :
  Calls Tryz.prog 157 #[.pointer (some ⟨b,0,none⟩),zn n sv] w (Cy w ((S.exprC c r n).map fun t => .pointer (some ⟨ρ.ty t,0,none⟩))) := by
 have k := ze hd; obtain ⟨i,x,m,p,l⟩ := n
 change Calls Tryz.prog 157 #[.pointer (some ⟨b,0,none⟩),.agg #[.int .i64 i,.string ⟨x.toArray⟩,.int .i64 m,.int .i64 p,sv]] w _
 obtain ⟨u,f⟩ : ∃ z,z = w.alloc (.cells #[.int .i64 i,.string ⟨x.toArray⟩,.int .i64 m,.int .i64 p,sv] 100) := ⟨_,rfl⟩
 have g : Hid (w.grownBy u none) := by rw [f]; exact zf (zc w none) _
 have v : Hid (Box u w.heap.size (.mk i x m p l) sv) := by rw [f]; exact Box.new w (.mk i x m p l) sv _
 have A : i = 24 \/ i = 25 \/ i = 26 \/ i = 27 \/ i = 28 := by
  simp only [zF,T.kind,Bool.and_eq_true] at hk; have h := of_decide_eq_true hk.1; have C := of_decide_eq_true hk.2
  omega
 clear _h ha hf hd hk; cases j : S.desigC c r (.mk i x m p l) with
 | error z =>
  rw [show S.exprC c r (.mk i x m p l) = .error z by rcases A with rfl | rfl | rfl | rfl | rfl <;> simp [KS.exprC,T.kind,j]]
  rcases A with rfl | rfl | rfl | rfl | rfl
  ·skip
   go_enter Tryz.func157,Tryz.ntmps157
   go_wp2_with fail; go_at_call 161; rw [<- f]; refine (k.out _ g.out).mono ?_; rw [j]; rintro e w1 h; have o := h; obtain ⟨q,rfl⟩ := h.thrown
   exact ⟨rfl,o.err g.out⟩
  ·skip
   go_enter Tryz.func157,Tryz.ntmps157
   go_wp2_with fail; go_at_call 161; rw [<- f]; refine (k.out _ g.out).mono ?_; rw [j]; rintro e w1 h; have o := h; obtain ⟨q,rfl⟩ := h.thrown
   exact ⟨rfl,o.err g.out⟩
  ·skip
   go_enter Tryz.func157,Tryz.ntmps157
   go_wp2_with fail; go_at_call 161; rw [<- f]; refine (k.out _ g.out).mono ?_; rw [j]; rintro e w1 h; have o := h; obtain ⟨q,rfl⟩ := h.thrown
   exact ⟨rfl,o.err g.out⟩
  ·skip
   go_enter Tryz.func157,Tryz.ntmps157
   go_wp2_with fail; go_at_call 161; rw [<- f]; refine (k.out _ g.out).mono ?_; rw [j]; rintro e w1 h; have o := h; obtain ⟨q,rfl⟩ := h.thrown
   exact ⟨rfl,o.err g.out⟩
  ·skip
   go_enter Tryz.func157,Tryz.ntmps157
   go_wp2_with fail; go_at_call 161; rw [<- f]; refine (k.out _ g.out).mono ?_; rw [j]; rintro e w1 h; have o := h; obtain ⟨q,rfl⟩ := h.thrown
   exact ⟨rfl,o.err g.out⟩
 | ok t =>
  rw [show S.exprC c r (.mk i x m p l) = .ok t by rcases A with rfl | rfl | rfl | rfl | rfl <;> simp [KS.exprC,T.kind,j]]
  rcases A with rfl | rfl | rfl | rfl | rfl
  ·skip
   go_enter Tryz.func157,Tryz.ntmps157
   go_wp2_with fail; go_at_call 161; rw [<- f]; refine (k.out _ g.out).mono ?_; rw [j]; rintro e w1 ⟨d,rfl⟩; have s := ze (za g.out d); have B : Hid (Box w1 w.heap.size (.mk 24 x m p l) sv) := Box.kept v.out (za (zc u none) d); go_wp2
   go_ret
   exact Cy.ok s.out
  ·skip
   go_enter Tryz.func157,Tryz.ntmps157
   go_wp2_with fail; go_at_call 161; rw [<- f]; refine (k.out _ g.out).mono ?_; rw [j]; rintro e w1 ⟨d,rfl⟩; have s := ze (za g.out d); have B : Hid (Box w1 w.heap.size (.mk 25 x m p l) sv) := Box.kept v.out (za (zc u none) d); go_wp2
   go_ret
   exact Cy.ok s.out
  ·skip
   go_enter Tryz.func157,Tryz.ntmps157
   go_wp2_with fail; go_at_call 161; rw [<- f]; refine (k.out _ g.out).mono ?_; rw [j]; rintro e w1 ⟨d,rfl⟩; have s := ze (za g.out d); have B : Hid (Box w1 w.heap.size (.mk 26 x m p l) sv) := Box.kept v.out (za (zc u none) d); go_wp2
   go_ret
   exact Cy.ok s.out
  ·skip
   go_enter Tryz.func157,Tryz.ntmps157
   go_wp2_with fail; go_at_call 161; rw [<- f]; refine (k.out _ g.out).mono ?_; rw [j]; rintro e w1 ⟨d,rfl⟩; have s := ze (za g.out d); have B : Hid (Box w1 w.heap.size (.mk 27 x m p l) sv) := Box.kept v.out (za (zc u none) d); go_wp2
   go_ret
   exact Cy.ok s.out
  ·skip
   go_enter Tryz.func157,Tryz.ntmps157
   go_wp2_with fail; go_at_call 161; rw [<- f]; refine (k.out _ g.out).mono ?_; rw [j]; rintro e w1 ⟨d,rfl⟩; have s := ze (za g.out d); have B : Hid (Box w1 w.heap.size (.mk 28 x m p l) sv) := Box.kept v.out (za (zc u none) d); go_wp2
   go_ret
   exact Cy.ok s.out
end
end Go.Proofs.YtnmkffjklpfflaaGreatDoor
