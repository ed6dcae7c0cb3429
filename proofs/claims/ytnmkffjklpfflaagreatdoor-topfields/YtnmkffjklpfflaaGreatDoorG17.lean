/- Expressions: names. -/
import Derived.Test.YtnmkffjklpfflaaGreatDoorG16
namespace Go.Proofs.YtnmkffjklpfflaaGreatDoor
open Go.RowKit
set_option maxHeartbeats 1000000
set_option maxRecDepth 100000
section
variable {ρ : Lay} {w w' w1 : World} {S : KS} {b : Nat} {c : KSc}
structure CEx (ρ : Lay) (S : KS) (b : Nat) (c : KSc) (r : KR) (n : T) : Prop where
 lt : ∀ t,r.ex n = .ok t -> t < S.tys.length
 run : ∀ (w : World) (sv : Value),CK ρ w S b c -> Fits n -> AT w n.subs sv -> Calls Tryz.prog 157 #[pq b,zo n sv] w (Cy w ((r.ex n).map fun t => pq (ρ.ty t)))
structure CDe (ρ : Lay) (S : KS) (b : Nat) (c : KSc) (r : KR) (n : T) : Prop where
 lt : ∀ t,r.de n = .ok t -> t < S.tys.length
 run : ∀ (w : World) (sv : Value),CK ρ w S b c -> Fits n -> AT w n.subs sv -> Calls Tryz.prog 161 #[pq b,zo n sv] w (Cy w ((r.de n).map fun t => pq (ρ.ty t)))
theorem yT (h : CK ρ w S b c) (n : T) (sv : Value) (hf : Fits n) (ha : AT w n.subs sv) (hs : n.kind = 25 -> 0 < n.subs.length) :
  Calls Tryz.prog 153 #[pq b,zo n sv] w (Cy w ((S.meaningC c n).map fun t => ρ.thP t)) := by
 have H := zc (fun w1 (G : w.grownBy w1 none) => rh (h.up G) n sv hf (ha.kept G) hs); have N := zc (fun w1 (G : w.grownBy w1 none) => ko (h.up G) n sv (ha.kept G) hs); obtain ⟨f,x,m,p,l⟩ := n
 change Calls Tryz.prog 153 #[pq b,.agg #[.int .i64 f,.string ⟨x.toArray⟩,.int .i64 m,.int .i64 p,sv]] w _
 obtain ⟨F,i⟩ : ∃ z,z = w.alloc (.cells #[.int .i64 f,.string ⟨x.toArray⟩,.int .i64 m,.int .i64 p,sv] 100) := ⟨_,rfl⟩
 have s : Hid (w.grownBy F none) := by rw [i]; exact zh grn _
 have u : Hid (Box F w.heap.size (.mk f x m p l) sv) := by rw [i]; exact Box.new w (.mk f x m p l) sv _
 clear h ha hf hs; cases v : S.meaning c (.mk f x m p l) with
 | some t =>
  rw [show S.meaningC c (.mk f x m p l) = .ok (some t) by simp [KS.meaningC,v]]
  go_enter Tryz.func153,Tryz.ntmps153
  go_wp2_with fail; rw [<- i]; clear i; refine wp_region_held_drew (S := fun w9 => F.grownBy w9 none) (by kernel_rfl) ?_ (fun hHeld => ?_)
  ·exact zf grn
  refine kQ 0 6 (pq b) hHeld ?_; refine kQ 1 7 (pq b) hHeld ?_; refine kQ 2 8 (pq b) hHeld ?_; refine dk 3 (some 9) (.agg #[.int .i64 f,.string ⟨x.toArray⟩,.int .i64 m,.int .i64 p,sv]) rfl rfl (fun w9 hS => by obtain ⟨A,B,C,D,E⟩ := (Box.kept u.out hS).plain; go_simp) hHeld ?_; simp only [qA,qB,qC,qD]; refine rd 4 rfl fun KK hKK => ?_
  go_simp
  go_at_call 184; refine (H.out _ (zf s.out)).mono ?_; rw [v,yj]; rintro e w1 ⟨rfl,d⟩; have r := zc (za (zf s.out) d); have g := zc (za (zf grn) d); clear d
  go_simp
  refine hKK.out _ _ g.out fun hHeld => ?_
  clear hKK KK; refine kQ 5 5 (pq (ρ.th t)) hHeld ?_; simp only [qA,qB,qC,qD]; refine wpAnyH_done (by kernel_rfl) ?_ _; clear hHeld; have k : Hid (Box w1 w.heap.size (.mk f x m p l) sv) := Box.kept u.out g.out; go_wp2_with fail; refine wp_region_held_drew (S := fun w9 => w1.grownBy w9 none) (by kernel_rfl) ?_ (fun hHeld => ?_)
  ·exact zf grn
  refine kQ 0 11 (pq (ρ.th t)) hHeld ?_; refine kQ 1 12 (.bool false) hHeld ?_; refine kQ 2 13 (.bool false) hHeld ?_; refine dn 3 (some 14) rfl rfl hHeld ?_; refine dn 4 (some 15) rfl rfl hHeld ?_; refine dn 5 (some 16) rfl rfl hHeld ?_; refine dn 6 (some 17) rfl rfl hHeld ?_; refine dn 7 (some 18) rfl rfl hHeld ?_; refine dn 8 (some 19) rfl rfl hHeld ?_; refine dn 9 (some 20) rfl rfl hHeld ?_; refine dn 10 (some 21) rfl rfl hHeld ?_; refine dn 11 (some 22) rfl rfl hHeld ?_; refine dn 12 (some 23) rfl rfl hHeld ?_; refine dn 13 (some 24) rfl rfl hHeld ?_; refine kQ 14 25 (.bool false) hHeld ?_; simp only [qA,qB,qC,qD]; refine wpAnyH_done (by kernel_rfl) ?_ _; clear hHeld; go_wp2
  go_ret
  exact Cy.ok (zf r.out)
 | none =>
  by_cases I : f = 24
  ·subst I
   rw [show S.meaningC c (.mk 24 x m p l) = .error (5,p) by simp [KS.meaningC,v,T.kind,thr,T.at']]
   go_enter Tryz.func153,Tryz.ntmps153
   go_wp2_with fail; rw [<- i]; clear i; refine wp_region_held_drew (S := fun w9 => F.grownBy w9 none) (by kernel_rfl) ?_ (fun hHeld => ?_)
   ·exact zf grn
   refine kQ 0 6 (pq b) hHeld ?_; refine kQ 1 7 (pq b) hHeld ?_; refine kQ 2 8 (pq b) hHeld ?_; refine dk 3 (some 9) (.agg #[.int .i64 24,.string ⟨x.toArray⟩,.int .i64 m,.int .i64 p,sv]) rfl rfl (fun w9 hS => by obtain ⟨A,B,C,D,E⟩ := (Box.kept u.out hS).plain; go_simp) hHeld ?_; simp only [qA,qB,qC,qD]; refine rd 4 rfl fun KK hKK => ?_
   go_simp
   go_at_call 184; refine (H.out _ (zf s.out)).mono ?_; rw [v,zW]; rintro e w1 ⟨rfl,d⟩; have r := zc (za (zf s.out) d); have g := zc (za (zf grn) d); clear d
   go_simp
   refine hKK.out _ _ g.out fun hHeld => ?_
   clear hKK KK; refine kQ 5 5 (.pointer none) hHeld ?_; simp only [qA,qB,qC,qD]; refine wpAnyH_done (by kernel_rfl) ?_ _; clear hHeld; have k : Hid (Box w1 w.heap.size (.mk 24 x m p l) sv) := Box.kept u.out g.out; go_wp2_with fail; refine wp_region_held_drew (S := fun w9 => w1.grownBy w9 none) (by kernel_rfl) ?_ (fun hHeld => ?_)
   ·exact zf grn
   refine kQ 0 11 (.pointer none) hHeld ?_; refine kQ 1 12 (.bool true) hHeld ?_; refine kQ 2 13 (.bool true) hHeld ?_; refine kQ 3 14 (pq w.heap.size) hHeld ?_; refine dk 4 (some 15) (.int .i64 24) rfl rfl (fun w9 hS => by obtain ⟨A,B,C,D,E⟩ := (Box.kept k.out hS).plain; go_simp) hHeld ?_; refine kQ 5 16 (.bool true) hHeld ?_; refine kQ 6 17 (.bool true) hHeld ?_; refine dn 7 (some 18) rfl rfl hHeld ?_; refine dn 8 (some 19) rfl rfl hHeld ?_; refine dn 9 (some 20) rfl rfl hHeld ?_; refine dn 10 (some 21) rfl rfl hHeld ?_; refine dn 11 (some 22) rfl rfl hHeld ?_; refine dn 12 (some 23) rfl rfl hHeld ?_; refine kQ 13 24 (.bool true) hHeld ?_; refine kQ 14 25 (.bool true) hHeld ?_; simp only [qA,qB,qC,qD]; refine wpAnyH_done (by kernel_rfl) ?_ _; clear hHeld; obtain ⟨_,_,_,_,_⟩ := k.out; go_wp2_with fail; go_at_call 53; refine (zu _ (.mk 24 x m p l) sv 5).mono ?_; rintro e J O; have L := O; obtain ⟨q,rfl⟩ := O.thrown
   exact ⟨rfl,L.err (zf r.out)⟩
  have U : decide (f = 24) = false := by simpa using I
  cases K : S.ahead c (.mk f x m p l) with
  | some q =>
   rw [show S.meaningC c (.mk f x m p l) = .error (5,p) by simp [KS.meaningC,v,I,K,T.kind,thr,T.at']]
   go_enter Tryz.func153,Tryz.ntmps153
   go_wp2_with fail; rw [<- i]; clear i; refine wp_region_held_drew (S := fun w9 => F.grownBy w9 none) (by kernel_rfl) ?_ (fun hHeld => ?_)
   ·exact zf grn
   refine kQ 0 6 (pq b) hHeld ?_; refine kQ 1 7 (pq b) hHeld ?_; refine kQ 2 8 (pq b) hHeld ?_; refine dk 3 (some 9) (.agg #[.int .i64 f,.string ⟨x.toArray⟩,.int .i64 m,.int .i64 p,sv]) rfl rfl (fun w9 hS => by obtain ⟨A,B,C,D,E⟩ := (Box.kept u.out hS).plain; go_simp) hHeld ?_; simp only [qA,qB,qC,qD]; refine rd 4 rfl fun KK hKK => ?_
   go_simp
   go_at_call 184; refine (H.out _ (zf s.out)).mono ?_; rw [v,zW]; rintro e w1 ⟨rfl,d⟩; have r := zc (za (zf s.out) d); have g := zc (za (zf grn) d); clear d
   go_simp
   refine hKK.out _ _ g.out fun hHeld => ?_
   clear hKK KK; refine kQ 5 5 (.pointer none) hHeld ?_; simp only [qA,qB,qC,qD]; refine wpAnyH_done (by kernel_rfl) ?_ _; clear hHeld; have k : Hid (Box w1 w.heap.size (.mk f x m p l) sv) := Box.kept u.out g.out; go_wp2_with fail; refine wp_region_held_drew (S := fun w9 => w1.grownBy w9 none) (by kernel_rfl) ?_ (fun hHeld => ?_)
   ·exact zf grn
   refine kQ 0 11 (.pointer none) hHeld ?_; refine kQ 1 12 (.bool true) hHeld ?_; refine kQ 2 13 (.bool true) hHeld ?_; refine kQ 3 14 (pq w.heap.size) hHeld ?_; refine dk 4 (some 15) (.int .i64 f) rfl rfl (fun w9 hS => by obtain ⟨A,B,C,D,E⟩ := (Box.kept k.out hS).plain; go_simp) hHeld ?_; refine kQ 5 16 (.bool false) hHeld ?_; refine kQ 6 17 (.bool false) hHeld ?_; refine kQ 7 18 (pq b) hHeld ?_; refine kQ 8 19 (pq b) hHeld ?_; refine kQ 9 20 (pq b) hHeld ?_; refine dk 10 (some 21) (.agg #[.int .i64 f,.string ⟨x.toArray⟩,.int .i64 m,.int .i64 p,sv]) rfl rfl (fun w9 hS => by obtain ⟨A,B,C,D,E⟩ := (Box.kept k.out hS).plain; go_simp) hHeld ?_; simp only [qA,qB,qC,qD]; refine rd 11 rfl fun KK hKK => ?_
   go_simp
   go_at_call 185; refine (N.out _ (zf r.out)).mono ?_; rw [K,fK]; rintro e J ⟨rfl,j⟩; have M := zc (za (zf r.out) j); have o := zc (za (zf grn) j); clear j
   go_simp
   refine hKK.out _ _ o.out fun hHeld => ?_
   clear hKK KK; refine kQ 12 23 (.bool true) hHeld ?_; refine kQ 13 24 (.bool true) hHeld ?_; refine kQ 14 25 (.bool true) hHeld ?_; simp only [qA,qB,qC,qD]; refine wpAnyH_done (by kernel_rfl) ?_ _; clear hHeld; have Q : Hid (Box J w.heap.size (.mk f x m p l) sv) := Box.kept k.out o.out; obtain ⟨_,_,_,_,_⟩ := Q.out; go_wp2_with fail; go_at_call 53; refine (zu _ (.mk f x m p l) sv 5).mono ?_; rintro e V R; have L := R; obtain ⟨q,rfl⟩ := R.thrown
   exact ⟨rfl,L.err M.out⟩
  | none =>
   rw [show S.meaningC c (.mk f x m p l) = .ok none by simp [KS.meaningC,v,I,K,T.kind]]
   go_enter Tryz.func153,Tryz.ntmps153
   go_wp2_with fail; rw [<- i]; clear i; refine wp_region_held_drew (S := fun w9 => F.grownBy w9 none) (by kernel_rfl) ?_ (fun hHeld => ?_)
   ·exact zf grn
   refine kQ 0 6 (pq b) hHeld ?_; refine kQ 1 7 (pq b) hHeld ?_; refine kQ 2 8 (pq b) hHeld ?_; refine dk 3 (some 9) (.agg #[.int .i64 f,.string ⟨x.toArray⟩,.int .i64 m,.int .i64 p,sv]) rfl rfl (fun w9 hS => by obtain ⟨A,B,C,D,E⟩ := (Box.kept u.out hS).plain; go_simp) hHeld ?_; simp only [qA,qB,qC,qD]; refine rd 4 rfl fun KK hKK => ?_
   go_simp
   go_at_call 184; refine (H.out _ (zf s.out)).mono ?_; rw [v,zW]; rintro e w1 ⟨rfl,d⟩; have r := zc (za (zf s.out) d); have g := zc (za (zf grn) d); clear d
   go_simp
   refine hKK.out _ _ g.out fun hHeld => ?_
   clear hKK KK; refine kQ 5 5 (.pointer none) hHeld ?_; simp only [qA,qB,qC,qD]; refine wpAnyH_done (by kernel_rfl) ?_ _; clear hHeld; have k : Hid (Box w1 w.heap.size (.mk f x m p l) sv) := Box.kept u.out g.out; go_wp2_with fail; refine wp_region_held_drew (S := fun w9 => w1.grownBy w9 none) (by kernel_rfl) ?_ (fun hHeld => ?_)
   ·exact zf grn
   refine kQ 0 11 (.pointer none) hHeld ?_; refine kQ 1 12 (.bool true) hHeld ?_; refine kQ 2 13 (.bool true) hHeld ?_; refine kQ 3 14 (pq w.heap.size) hHeld ?_; refine dk 4 (some 15) (.int .i64 f) rfl rfl (fun w9 hS => by obtain ⟨A,B,C,D,E⟩ := (Box.kept k.out hS).plain; go_simp) hHeld ?_; refine kQ 5 16 (.bool false) hHeld ?_; refine kQ 6 17 (.bool false) hHeld ?_; refine kQ 7 18 (pq b) hHeld ?_; refine kQ 8 19 (pq b) hHeld ?_; refine kQ 9 20 (pq b) hHeld ?_; refine dk 10 (some 21) (.agg #[.int .i64 f,.string ⟨x.toArray⟩,.int .i64 m,.int .i64 p,sv]) rfl rfl (fun w9 hS => by obtain ⟨A,B,C,D,E⟩ := (Box.kept k.out hS).plain; go_simp) hHeld ?_; simp only [qA,qB,qC,qD]; refine rd 11 rfl fun KK hKK => ?_
   go_simp
   go_at_call 185; refine (N.out _ (zf r.out)).mono ?_; rw [K,fe]; rintro e J ⟨rfl,j⟩; have M := zc (za (zf r.out) j); have o := zc (za (zf grn) j); clear j
   go_simp
   refine hKK.out _ _ o.out fun hHeld => ?_
   clear hKK KK; refine kQ 12 23 (.bool false) hHeld ?_; refine kQ 13 24 (.bool false) hHeld ?_; refine kQ 14 25 (.bool false) hHeld ?_; simp only [qA,qB,qC,qD]; refine wpAnyH_done (by kernel_rfl) ?_ _; clear hHeld; have Q : Hid (Box J w.heap.size (.mk f x m p l) sv) := Box.kept k.out o.out; go_wp2
   go_ret
   exact Cy.ok M.out
end
section
variable {ρ : Lay} {w w' w1 : World} {S : KS} {b : Nat} {c : KSc}
theorem AT.pair {w : World} {k m p : Int} {x : List UInt8} {u v : T} {sv : Value} (h : AT w (T.mk k x m p [u,v]).subs sv) : ∃ g o c su sw,sv = .slice (some ⟨g,o,none⟩) 2 c /\ 2 <= c /\ c <= 9223372036854775807 /\ Node5 w g o u su /\ Fits u /\ AT w u.subs su /\ Node5 w g (o + 5) v sw /\ Fits v /\ AT w v.subs sw := by
 obtain ⟨g,o,c,t,su,z,sw,e,f,i,j,l,n,q,r,s,d⟩ := h.two rfl; cases j
 exact ⟨g,o,c,su,sw,e,f,i,l,n,q,r,s,d⟩
theorem gh  (n : T) (sv : Value) (_ha : AT w n.subs sv) :
  Calls Tryz.prog 160 #[zo n sv] w (Sy w (.bool (zI n))) := by
 clear _ha; obtain ⟨d,x,m,p,l⟩ := n
 change Calls Tryz.prog 160 #[.agg #[.int .i64 d,.string ⟨x.toArray⟩,.int .i64 m,.int .i64 p,sv]] w _
 by_cases h : 24 <= d /\ d <= 28
 ·have e : d = 24 \/ d = 25 \/ d = 26 \/ d = 27 \/ d = 28 := by omega
  rw [show zI (.mk d x m p l) = true by simp [zI,T.kind,h]]; clear h
  rcases e with rfl | rfl | rfl | rfl | rfl
  all_goals
   go_enter Tryz.func160,Tryz.ntmps160
   go_wp2
   go_ret
   exact ⟨rfl,zh grn _⟩
 ·have f : (d == 24) = false := by simp; omega
  have g : (d == 25) = false := by simp; omega
  have i : (d == 26) = false := by simp; omega
  have j : (d == 27) = false := by simp; omega
  have k : (d == 28) = false := by simp; omega
  rw [show zI (.mk d x m p l) = false by rw [Bool.eq_false_iff]; intro e; simp only [zI,T.kind,Bool.and_eq_true] at e; exact h ⟨of_decide_eq_true e.1,of_decide_eq_true e.2⟩]; clear h
  go_enter Tryz.func160,Tryz.ntmps160
  go_wp2
  go_ret
  exact ⟨rfl,zh grn _⟩
theorem kW (h : CK ρ w S b c) (n : T) (sv : Value) (hf : Fits n) (ha : AT w n.subs sv) {r : KR} {u : T} {us : List T} (hl : n.subs = u :: us) (hu : CEx ρ S b c r u) :
  Calls Tryz.prog 194 #[pq b,zo n sv] w (Cy w ((S.pointerC r n).map fun t => pq (ρ.ty t))) := by
 have H := zc (fun w1 (G : w.grownBy w1 none) s (D : Fits u) (E : AT w u.subs s) => hu.run w1 s (h.up G) D (E.kept G)); have X := zc h.km; have I := hu.lt; obtain ⟨d,x,m,p,l⟩ := n; obtain rfl : l = u :: us := hl; obtain ⟨g,o,j,s,rfl,Y,Z,v,D,E,-⟩ := ha.cons; have J := zc E; have K := zc D; have d0 := v.c0; have d1 := v.c1; have d2 := v.c2; have d3 := v.c3; have d4 := v.c4; have zg : g < w.heap.size := zw d0; clear v D E
 change Calls Tryz.prog 194 #[pq b,.agg #[.int .i64 d,.string ⟨x.toArray⟩,.int .i64 m,.int .i64 p,.slice (some ⟨g,o,none⟩) (us.length + 1) j]] w _
 obtain ⟨O,f⟩ : ∃ z,z = w.alloc (.cells #[.int .i64 d,.string ⟨x.toArray⟩,.int .i64 m,.int .i64 p,.slice (some ⟨g,o,none⟩) (us.length + 1) j] 100) := ⟨_,rfl⟩
 have A : Hid (w.grownBy O none) := by rw [f]; exact zh grn _
 have Q : Hid (Box O w.heap.size (.mk d x m p (u :: us)) (.slice (some ⟨g,o,none⟩) (us.length + 1) j)) := by rw [f]; exact Box.new w (.mk d x m p (u :: us)) (.slice (some ⟨g,o,none⟩) (us.length + 1) j) _
 clear h ha hf hu
 have L : sub (.mk d x m p (u :: us)) 0 = u := rfl
 cases k : r.ex u with
 | error z =>
  rw [show S.pointerC r (.mk d x m p (u :: us)) = .error z by simp [KS.pointerC,L,k,Except.bind]]
  go_enter Tryz.func194,Tryz.ntmps194
  go_wp2_with fail; go_at_call 157; rw [<- f]; refine (H.out _ A.out s K.out J.out).mono ?_; rw [k]; rintro e w1 R; have M := R; obtain ⟨q,rfl⟩ := R.thrown
  exact ⟨rfl,M.err A.out⟩
 | ok t =>
  have N : Hid (w.cell? ⟨ρ.ty t,0,none⟩ = some (.int .i64 (S.ty t).form)) := X.out.y0 (I t k)
  by_cases F : (S.ty t).form = 5
  ·rw [F] at N
   rw [show S.pointerC r (.mk d x m p (u :: us)) = .ok t by simp [KS.pointerC,L,k,F,Except.bind]]
   go_enter Tryz.func194,Tryz.ntmps194
   go_wp2_with fail; go_at_call 157; rw [<- f]; refine (H.out _ A.out s K.out J.out).mono ?_; rw [k]; rintro e w1 ⟨i,rfl⟩; have B := zc (za A.out i); have U : Hid (Box w1 w.heap.size (.mk d x m p (u :: us)) (.slice (some ⟨g,o,none⟩) (us.length + 1) j)) := Box.kept Q.out (za grn i); have C := ze B.out N.out; go_wp2
   go_ret
   exact Cy.ok B.out
  ·have hd : decide ((S.ty t).form = 5) = false := by simpa using F
   rw [show S.pointerC r (.mk d x m p (u :: us)) = .error (7,p) by simp [KS.pointerC,L,k,F,Except.bind,thr,T.at']]
   go_enter Tryz.func194,Tryz.ntmps194
   go_wp2_with fail; go_at_call 157; rw [<- f]; refine (H.out _ A.out s K.out J.out).mono ?_; rw [k]; rintro e w1 ⟨i,rfl⟩; have B := zc (za A.out i); have U : Hid (Box w1 w.heap.size (.mk d x m p (u :: us)) (.slice (some ⟨g,o,none⟩) (us.length + 1) j)) := Box.kept Q.out (za grn i); have C := ze B.out N.out; obtain ⟨_,_,_,_,_⟩ := U.out; go_wp2_with fail; go_at_call 53; refine (zu _ (.mk d x m p (u :: us)) (.slice (some ⟨g,o,none⟩) (us.length + 1) j) 7).mono ?_; rintro e w2 V; have M := V; obtain ⟨q,rfl⟩ := V.thrown
   exact ⟨rfl,M.err B.out⟩
theorem xQ {r : KR} {n : T} {t : Nat} (e : S.pointerC r n = .ok t) : r.ex (sub n 0) = .ok t /\ (S.ty t).form = 5 := by
 unfold KS.pointerC at e
 cases d : r.ex (sub n 0) with
 | error z => rw [d] at e; cases e
 | ok u =>
  rw [d] at e; simp only [Except.bind] at e
  split at e
  ·rename_i h; cases e; exact ⟨rfl,h⟩
  ·cases e
theorem qe (h : CK ρ w S b c) (n : T) (sv : Value) (hf : Fits n) (ha : AT w n.subs sv) (hT : KAll S) {r : KR} {u v : T} (hl : n.subs = [u,v]) (hu : CEx ρ S b c r u) :
  Calls Tryz.prog 191 #[pq b,zo n sv] w (Cy w ((S.guardedC c r n).map fun t => pq (ρ.ty t))) := by
 have HP := zc (fun w1 (G : w.grownBy w1 none) => kW (h.up G) n sv hf (ha.kept G) hl hu); have HN := zc (fun w1 (G : w.grownBy w1 none) su (fu : Fits v) (au : AT w v.subs su) => yG (h.up G) v su fu (au.kept G)); have HM := zc h.km; have C := zc hT
 have b0 : ∀ t,S.pointerC r n = .ok t -> t < S.tys.length /\ (S.ty t).form = 5 := fun t e => ⟨hu.lt t (by have V := (xQ e).1; unfold sub at V; rw [hl] at V; exact V),(xQ e).2⟩
 have b1 : ∀ t,S.typeName c v = .ok t -> t < S.tys.length := fun t e => yF h e
 obtain ⟨k,x,m,p,l⟩ := n; obtain rfl : l = [u,v] := hl; obtain ⟨g,o,B,su,sw,rfl,_,_,n5,fu,au,n6,fv,av⟩ := ha.pair; have HA := zc av; have HF := zc fv; have d0 : Hid _ := n6.c0; have d1 : Hid _ := n6.c1; have d2 : Hid _ := n6.c2; have d3 : Hid _ := n6.c3; have d4 : Hid _ := n6.c4; clear n5 fu au n6 fv av
 change Calls Tryz.prog 191 #[pq b,.agg #[.int .i64 k,.string ⟨x.toArray⟩,.int .i64 m,.int .i64 p,.slice (some ⟨g,o,none⟩) 2 B]] w _
 obtain ⟨w0,A⟩ : ∃ z,z = w.alloc (.cells #[.int .i64 k,.string ⟨x.toArray⟩,.int .i64 m,.int .i64 p,.slice (some ⟨g,o,none⟩) 2 B] 100) := ⟨_,rfl⟩
 have R : Hid (w.grownBy w0 none) := by rw [A]; exact zh grn _
 have B0 : Hid (Box w0 w.heap.size (.mk k x m p [u,v]) (.slice (some ⟨g,o,none⟩) 2 B)) := by rw [A]; exact Box.new w (.mk k x m p [u,v]) (.slice (some ⟨g,o,none⟩) 2 B) _
 clear h ha hf hu hT
 have hz : sub (.mk k x m p [u,v]) 1 = v := rfl
 cases D : S.pointerC r (.mk k x m p [u,v]) with
 | error z =>
  rw [show S.guardedC c r (.mk k x m p [u,v]) = .error z by simp [KS.guardedC,D,Except.bind]]
  go_enter Tryz.func191,Tryz.ntmps191
  go_wp2_with fail; go_at_call 194; rw [<- A]; refine (HP.out _ R.out).mono ?_; rw [D]; rintro e w1 h1; have C := h1; obtain ⟨q,rfl⟩ := h1.thrown
  exact ⟨rfl,C.err R.out⟩
 | ok f =>
  cases X : S.typeName c v with
  | error z =>
   rw [show S.guardedC c r (.mk k x m p [u,v]) = .error z by simp [KS.guardedC,D,hz,X,Except.bind]]
   go_enter Tryz.func191,Tryz.ntmps191
   go_wp2_with fail; go_at_call 194; rw [<- A]; refine (HP.out _ R.out).mono ?_; rw [D]; rintro e w1 ⟨j,rfl⟩; have d := zc (za R.out j); have U : Hid (Box w1 w.heap.size (.mk k x m p [u,v]) (.slice (some ⟨g,o,none⟩) 2 B)) := Box.kept B0.out (za grn j); have E := ze d.out d0.out; have F := ze d.out d1.out; have H := ze d.out d2.out; have I := ze d.out d3.out; have J := ze d.out d4.out; obtain ⟨K,L,M,N,O⟩ := U.out; go_wp2_with fail; go_at_call 74; refine (HN.out _ d.out sw HF.out HA.out).mono ?_; rw [X]; rintro e Y h2; have C := h2; obtain ⟨q,rfl⟩ := h2.thrown
   exact ⟨rfl,C.err d.out⟩
  | ok t =>
   obtain ⟨a4,b2⟩ := b0 f D; have ht := b1 t X; obtain ⟨o1,o2,_⟩ := C.out.p a4 b2
   have f5 : Hid (w.cell? ⟨ρ.ty f,5,none⟩ = some (pq (ρ.ty (S.of f)))) := by have V := HM.out.y5 a4; rw [o1] at V; exact V
   have t0 : Hid (w.cell? ⟨ρ.ty t,0,none⟩ = some (.int .i64 (S.ty t).form)) := HM.out.y0 ht
   by_cases h5 : (S.ty t).form = 5
   ·obtain ⟨p1,p2,p3⟩ := C.out.p ht h5
    have t5 : Hid (w.cell? ⟨ρ.ty t,5,none⟩ = some (pq (ρ.ty (S.of t)))) := by have V := HM.out.y5 ht; rw [p1] at V; exact V
    rw [h5] at t0; cases he : S.ext (S.of t) (S.of f)
    ·rw [show S.guardedC c r (.mk k x m p [u,v]) = .error (7,p) by simp [KS.guardedC,D,hz,X,h5,he,Except.bind,thr,T.at']]
     go_enter Tryz.func191,Tryz.ntmps191
     go_wp2_with fail; go_at_call 194; rw [<- A]; refine (HP.out _ R.out).mono ?_; rw [D]; rintro e w1 ⟨j,rfl⟩; have d := zc (za R.out j); have U : Hid (Box w1 w.heap.size (.mk k x m p [u,v]) (.slice (some ⟨g,o,none⟩) 2 B)) := Box.kept B0.out (za grn j); have E := ze d.out d0.out; have F := ze d.out d1.out; have H := ze d.out d2.out; have I := ze d.out d3.out; have J := ze d.out d4.out; obtain ⟨K,L,M,N,O⟩ := U.out; go_wp2_with fail; go_at_call 74; refine (HN.out _ d.out sw HF.out HA.out).mono ?_; rw [X]; rintro e Y ⟨s,rfl⟩; have i := zc (za d.out s); have B2 : Hid (Box Y w.heap.size (.mk k x m p [u,v]) (.slice (some ⟨g,o,none⟩) 2 B)) := Box.kept U.out (za grn s); have Z := ze i.out d0.out; have a0 := ze i.out d1.out; have a1 := ze i.out d2.out; have a2 := ze i.out d3.out; have a3 := ze i.out d4.out; go_wp2_with fail; refine wp_region_held_drew (S := fun w9 => Y.grownBy w9 none) (by kernel_rfl) ?_ (fun hHeld => ?_)
     ·exact zf grn
     refine kQ 0 16 (pq (ρ.ty t)) hHeld ?_; refine kQ 1 17 (pq (ρ.ty t)) hHeld ?_; refine kQ 2 18 (pq (ρ.ty t)) hHeld ?_; refine dk 3 (some 19) (.int .i64 5) rfl rfl (fun w9 hS => by have q0 := ze (za i.out hS) t0.out; go_simp) hHeld ?_; refine kQ 4 20 (.bool false) hHeld ?_; refine kQ 5 21 (.bool false) hHeld ?_; refine kQ 6 22 (pq (ρ.ty t)) hHeld ?_; refine kQ 7 23 (pq (ρ.ty t)) hHeld ?_; refine kQ 8 24 (.pointer (some ⟨ρ.ty t,5,none⟩)) hHeld ?_; refine dk 9 (some 25) (pq (ρ.ty (S.of t))) rfl rfl (fun w9 hS => by have q0 := ze (za i.out hS) t5.out; go_simp) hHeld ?_; refine kQ 10 26 (pq (ρ.ty f)) hHeld ?_; refine kQ 11 27 (pq (ρ.ty f)) hHeld ?_; refine kQ 12 28 (.pointer (some ⟨ρ.ty f,5,none⟩)) hHeld ?_; refine dk 13 (some 29) (pq (ρ.ty (S.of f))) rfl rfl (fun w9 hS => by have q0 := ze (za i.out hS) f5.out; go_simp) hHeld ?_; simp only [qA,qB,qC,qD]; refine rd 14 rfl fun KK hKK => ?_
     go_simp
     go_at_call 189; refine (vL (HM.out.up (zf i.out)) C.out.toKTys p2 o2 p3).mono ?_; rw [he]; rintro e w3 ⟨rfl,Q⟩; rw [Q]; clear Q
     go_simp
     refine hKK.out _ _ (zf grn) fun hHeld => ?_
     clear hKK KK; refine kQ 15 31 (.bool true) hHeld ?_; refine kQ 16 32 (.bool true) hHeld ?_; simp only [qA,qB,qC,qD]; refine wpAnyH_done (by kernel_rfl) ?_ _; clear hHeld; obtain ⟨a5,a6,a7,a8,a9⟩ := B2.out; go_wp2_with fail; go_at_call 53; refine (zu _ (.mk k x m p [u,v]) (.slice (some ⟨g,o,none⟩) 2 B) 7).mono ?_; rintro e w3 h3; have C := h3; obtain ⟨q,rfl⟩ := h3.thrown
     exact ⟨rfl,C.err (zf i.out)⟩
    ·rw [show S.guardedC c r (.mk k x m p [u,v]) = .ok t by simp [KS.guardedC,D,hz,X,h5,he,Except.bind]]
     go_enter Tryz.func191,Tryz.ntmps191
     go_wp2_with fail; go_at_call 194; rw [<- A]; refine (HP.out _ R.out).mono ?_; rw [D]; rintro e w1 ⟨j,rfl⟩; have d := zc (za R.out j); have U : Hid (Box w1 w.heap.size (.mk k x m p [u,v]) (.slice (some ⟨g,o,none⟩) 2 B)) := Box.kept B0.out (za grn j); have E := ze d.out d0.out; have F := ze d.out d1.out; have H := ze d.out d2.out; have I := ze d.out d3.out; have J := ze d.out d4.out; obtain ⟨K,L,M,N,O⟩ := U.out; go_wp2_with fail; go_at_call 74; refine (HN.out _ d.out sw HF.out HA.out).mono ?_; rw [X]; rintro e Y ⟨s,rfl⟩; have i := zc (za d.out s); have B2 : Hid (Box Y w.heap.size (.mk k x m p [u,v]) (.slice (some ⟨g,o,none⟩) 2 B)) := Box.kept U.out (za grn s); have Z := ze i.out d0.out; have a0 := ze i.out d1.out; have a1 := ze i.out d2.out; have a2 := ze i.out d3.out; have a3 := ze i.out d4.out; go_wp2_with fail; refine wp_region_held_drew (S := fun w9 => Y.grownBy w9 none) (by kernel_rfl) ?_ (fun hHeld => ?_)
     ·exact zf grn
     refine kQ 0 16 (pq (ρ.ty t)) hHeld ?_; refine kQ 1 17 (pq (ρ.ty t)) hHeld ?_; refine kQ 2 18 (pq (ρ.ty t)) hHeld ?_; refine dk 3 (some 19) (.int .i64 5) rfl rfl (fun w9 hS => by have q0 := ze (za i.out hS) t0.out; go_simp) hHeld ?_; refine kQ 4 20 (.bool false) hHeld ?_; refine kQ 5 21 (.bool false) hHeld ?_; refine kQ 6 22 (pq (ρ.ty t)) hHeld ?_; refine kQ 7 23 (pq (ρ.ty t)) hHeld ?_; refine kQ 8 24 (.pointer (some ⟨ρ.ty t,5,none⟩)) hHeld ?_; refine dk 9 (some 25) (pq (ρ.ty (S.of t))) rfl rfl (fun w9 hS => by have q0 := ze (za i.out hS) t5.out; go_simp) hHeld ?_; refine kQ 10 26 (pq (ρ.ty f)) hHeld ?_; refine kQ 11 27 (pq (ρ.ty f)) hHeld ?_; refine kQ 12 28 (.pointer (some ⟨ρ.ty f,5,none⟩)) hHeld ?_; refine dk 13 (some 29) (pq (ρ.ty (S.of f))) rfl rfl (fun w9 hS => by have q0 := ze (za i.out hS) f5.out; go_simp) hHeld ?_; simp only [qA,qB,qC,qD]; refine rd 14 rfl fun KK hKK => ?_
     go_simp
     go_at_call 189; refine (vL (HM.out.up (zf i.out)) C.out.toKTys p2 o2 p3).mono ?_; rw [he]; rintro e w3 ⟨rfl,Q⟩; rw [Q]; clear Q
     go_simp
     refine hKK.out _ _ (zf grn) fun hHeld => ?_
     clear hKK KK; refine kQ 15 31 (.bool false) hHeld ?_; refine kQ 16 32 (.bool false) hHeld ?_; simp only [qA,qB,qC,qD]; refine wpAnyH_done (by kernel_rfl) ?_ _; clear hHeld; go_wp2
     go_ret
     exact Cy.ok (zf i.out)
   ·rw [show S.guardedC c r (.mk k x m p [u,v]) = .error (7,p) by simp [KS.guardedC,D,hz,X,h5,Except.bind,thr,T.at']]
    have hd : ((S.ty t).form != 5) = true := by simpa using h5
    go_enter Tryz.func191,Tryz.ntmps191
    go_wp2_with fail; go_at_call 194; rw [<- A]; refine (HP.out _ R.out).mono ?_; rw [D]; rintro e w1 ⟨j,rfl⟩; have d := zc (za R.out j); have U : Hid (Box w1 w.heap.size (.mk k x m p [u,v]) (.slice (some ⟨g,o,none⟩) 2 B)) := Box.kept B0.out (za grn j); have E := ze d.out d0.out; have F := ze d.out d1.out; have H := ze d.out d2.out; have I := ze d.out d3.out; have J := ze d.out d4.out; obtain ⟨K,L,M,N,O⟩ := U.out; go_wp2_with fail; go_at_call 74; refine (HN.out _ d.out sw HF.out HA.out).mono ?_; rw [X]; rintro e Y ⟨s,rfl⟩; have i := zc (za d.out s); have B2 : Hid (Box Y w.heap.size (.mk k x m p [u,v]) (.slice (some ⟨g,o,none⟩) 2 B)) := Box.kept U.out (za grn s); have Z := ze i.out d0.out; have a0 := ze i.out d1.out; have a1 := ze i.out d2.out; have a2 := ze i.out d3.out; have a3 := ze i.out d4.out; go_wp2_with fail; refine wp_region_held_drew (S := fun w9 => Y.grownBy w9 none) (by kernel_rfl) ?_ (fun hHeld => ?_)
    ·exact zf grn
    refine kQ 0 16 (pq (ρ.ty t)) hHeld ?_; refine kQ 1 17 (pq (ρ.ty t)) hHeld ?_; refine kQ 2 18 (pq (ρ.ty t)) hHeld ?_; refine dk 3 (some 19) (.int .i64 (S.ty t).form) rfl rfl (fun w9 hS => by have q0 := ze (za i.out hS) t0.out; go_simp) hHeld ?_; refine kQ 4 20 (.bool true) hHeld ?_; refine kQ 5 21 (.bool true) hHeld ?_; refine dn 6 (some 22) rfl rfl hHeld ?_; refine dn 7 (some 23) rfl rfl hHeld ?_; refine dn 8 (some 24) rfl rfl hHeld ?_; refine dn 9 (some 25) rfl rfl hHeld ?_; refine dn 10 (some 26) rfl rfl hHeld ?_; refine dn 11 (some 27) rfl rfl hHeld ?_; refine dn 12 (some 28) rfl rfl hHeld ?_; refine dn 13 (some 29) rfl rfl hHeld ?_; refine dn 14 (some 30) rfl rfl hHeld ?_; refine dn 15 (some 31) rfl rfl hHeld ?_; refine kQ 16 32 (.bool true) hHeld ?_; simp only [qA,qB,qC,qD]; refine wpAnyH_done (by kernel_rfl) ?_ _; clear hHeld; obtain ⟨a5,a6,a7,a8,a9⟩ := B2.out; go_wp2_with fail; go_at_call 53; refine (zu _ (.mk k x m p [u,v]) (.slice (some ⟨g,o,none⟩) 2 B) 7).mono ?_; rintro e w3 h3; have C := h3; obtain ⟨q,rfl⟩ := h3.thrown
    exact ⟨rfl,C.err (zf i.out)⟩
end
set_option maxHeartbeats 4000000
section
variable {ρ : Lay} {w w' w1 : World} {S : KS} {b : Nat} {c : KSc}
theorem dT (hT : KTys S) (x : Nm) : ∀ (f i : Nat) (d : KFd) (o : Nat),i < S.tys.length -> (S.ty i).form = 4 -> S.fieldF f i x = some (d,o) -> o < S.tys.length /\ (S.ty o).form = 4 /\ d.ty < S.tys.length
 | 0,i,d,o,_,_,h => by cases h
 | f + 1,i,d,o,hi,h4,h => by
  unfold KS.fieldF at h
  cases hq : kC (S.ty i).fields x with
  | some e =>
   rw [hq] at h; cases h
   have key : ∀ l : List KFd,kC l x = some d -> d ∈ l := by
    intro l
    induction l with
    | nil => intro h; cases h
    | cons a r ih =>
     intro h
     unfold kC at h
     split at h
     ·cases h; simp
     ·exact List.mem_cons_of_mem _ (ih h)
   exact ⟨hi,h4,hT.fd i hi d (key _ hq)⟩
  | none =>
   rw [hq] at h; cases g : (S.ty i).of with
   | none => rw [g] at h; cases h
   | some q =>
    rw [g] at h; obtain ⟨_,j⟩ := hT.rc i hi h4 q g
    exact dT hT x f q d o (by omega) j h
theorem rK (hT : KTys S) {x : Nm} {i : Nat} {d : KFd} {o : Nat} (hi : i < S.tys.length) (h4 : (S.ty i).form = 4) (h : S.field i x = some (d,o)) : o < S.tys.length /\ (S.ty o).form = 4 /\ d.ty < S.tys.length := dT hT x _ i d o hi h4 h
theorem pO : ρ.fdP none = .tuple #[.agg #[.string ⟨#[]⟩,.bool false,.pointer none,.int .i64 0],.pointer none] := rfl
theorem uK (d : KFd) (o : Nat) : ρ.fdP (some (d,o)) = .tuple #[.agg #[.string ⟨d.name.toArray⟩,.bool d.exp,pq (ρ.ty d.ty),.int .i64 d.first],pq (ρ.ty o)] := rfl
def KS.recOf (S : KS) (t : Nat) : Nat := if (S.ty t).form = 5 then S.of t else t
theorem iX (h : CK ρ w S b c) (n : T) (sv : Value) (hf : Fits n) (ha : AT w n.subs sv) (hT : KAll S) {r : KR} {u : T} (hl : n.subs = [u]) (hu : CDe ρ S b c r u) :
  Calls Tryz.prog 192 #[pq b,zo n sv] w (Cy w ((S.dotC c r n).map fun t => pq (ρ.ty t))) := by
 have HU := zc (fun w1 (G : w.grownBy w1 none) su (fu : Fits u) (au : AT w u.subs su) => hu.run w1 su (h.up G) fu (au.kept G)); have HM := zc h.km; have Y := zc hT; have b8 := hu.lt; have hh := h.hc; have s1 : Hid _ := h.s1; obtain ⟨B,x,m,p,l⟩ := n; obtain rfl : l = [u] := hl; obtain ⟨g,o,E,su,rfl,c6,c7,n5,fu,au,-⟩ := ha.cons; have HA := zc au; have HF := zc fu; have d0 := n5.c0; have d1 := n5.c1; have d2 := n5.c2; have d3 := n5.c3; have d4 := n5.c4; have zg : g < w.heap.size := zw d0; clear n5 fu au
 change Calls Tryz.prog 192 #[pq b,.agg #[.int .i64 B,.string ⟨x.toArray⟩,.int .i64 m,.int .i64 p,.slice (some ⟨g,o,none⟩) 1 E]] w _
 obtain ⟨w0,V⟩ : ∃ z,z = w.alloc (.cells #[.int .i64 B,.string ⟨x.toArray⟩,.int .i64 m,.int .i64 p,.slice (some ⟨g,o,none⟩) 1 E] 100) := ⟨_,rfl⟩
 have G0 : Hid (w.grownBy w0 none) := by rw [V]; exact zh grn _
 have B0 : Hid (Box w0 w.heap.size (.mk B x m p [u]) (.slice (some ⟨g,o,none⟩) 1 E)) := by rw [V]; exact Box.new w (.mk B x m p [u]) (.slice (some ⟨g,o,none⟩) 1 E) _
 clear h ha hf hu hT
 have hz : sub (.mk B x m p [u]) 0 = u := rfl
 have b9 : (T.mk B x m p [u]).name = x := rfl
 cases hq : r.de u with
 | error z =>
  rw [show S.dotC c r (.mk B x m p [u]) = .error z by simp [KS.dotC,hz,hq,Except.bind]]
  go_enter Tryz.func192,Tryz.ntmps192
  go_wp2_with fail; go_at_call 161; rw [<- V]; refine (HU.out _ G0.out su HF.out HA.out).mono ?_; rw [hq]; rintro e w1 h1; have Y := h1; obtain ⟨q,rfl⟩ := h1.thrown
  exact ⟨rfl,Y.err G0.out⟩
 | ok t =>
  have ht := b8 t hq; have H : Hid (w.cell? ⟨ρ.ty t,0,none⟩ = some (.int .i64 (S.ty t).form)) := HM.out.y0 ht; have I : Hid (w.cell? ⟨ρ.ty t,5,none⟩ = some (ρ.tyP (S.ty t).of)) := HM.out.y5 ht
  have hr : (S.ty t).form = 5 -> (S.ty t).of = some (S.of t) := fun F => (Y.out.p ht F).1
  obtain ⟨q,A⟩ : ∃ q,q = S.recOf t := ⟨_,rfl⟩
  have a6 : q < S.tys.length := by
   rw [A]
   unfold KS.recOf
   split
   ·rename_i F; exact (Y.out.p ht F).2.1
   ·exact ht
  have U : Hid (w.cell? ⟨ρ.ty q,0,none⟩ = some (.int .i64 (S.ty q).form)) := HM.out.y0 a6
  have hD : S.dotC c r (.mk B x m p [u]) = if (S.ty q).form = 4 then (match S.field q x with
    | none => thr (.mk B x m p [u]) 5
    | some (d,o) => if d.exp = true then .ok d.ty else if (S.ty o).home = some c.home then .ok d.ty else thr (.mk B x m p [u]) 5) else thr (.mk B x m p [u]) 7 := by
   rw [A]; simp only [KS.dotC,hz,hq,Except.bind,KS.recOf,b9]
   rfl
  rw [hD]; clear hD
  by_cases Z : (S.ty q).form = 4
  ·rw [if_pos Z]
   cases a7 : S.field q x with
   | none =>
    simp only [thr,T.at']; rw [Z] at U
    by_cases F : (S.ty t).form = 5
    ·have e5 := hr F
     rw [show S.recOf t = S.of t by simp [KS.recOf,F]] at A; subst A; rw [e5,yo] at I; rw [F] at H; clear hr e5
     go_enter Tryz.func192,Tryz.ntmps192
     go_wp2_with fail; go_at_call 161; rw [<- V]; refine (HU.out _ G0.out su HF.out HA.out).mono ?_; rw [hq]; rintro e w1 ⟨i,rfl⟩; have j := zc (za G0.out i); have X : Hid (Box w1 w.heap.size (.mk B x m p [u]) (.slice (some ⟨g,o,none⟩) 1 E)) := Box.kept B0.out (za grn i); have J := ze j.out H.out; have K := ze j.out I.out; have L := ze j.out U.out; obtain ⟨M,N,O,Q,R⟩ := X.out; go_wp2_with fail; go_at_call 19; refine (yU (HM.out.up j.out) Y.out.toKTys a6 Z x).mono ?_; rw [a7,pO]; rintro e C ⟨rfl,s⟩; have D := zc (za j.out s); have B2 : Hid (Box C w.heap.size (.mk B x m p [u]) (.slice (some ⟨g,o,none⟩) 1 E)) := Box.kept X.out (za grn s); have a0 := ze D.out H.out; have a1 := ze D.out I.out; have a2 := ze D.out U.out; go_wp2_with fail; obtain ⟨v,f⟩ : ∃ z,z = C.alloc (.cells #[.string ⟨#[]⟩,.bool false,.pointer none,.int .i64 0] 58) := ⟨_,rfl⟩; rw [<- f]
     have k : Hid (w.grownBy v none) := by rw [f]; exact zh D.out _
     have B3 : Hid (Box v w.heap.size (.mk B x m p [u]) (.slice (some ⟨g,o,none⟩) 1 E)) := by rw [f]; exact Box.kept B2.out gan
     have a3 := ze k.out H.out; have a4 := ze k.out I.out; have a5 := ze k.out U.out; clear f; refine wp_region_held_drew (S := fun w9 => v.grownBy w9 none) (by kernel_rfl) ?_ (fun hHeld => ?_)
     ·exact zf grn
     refine kQ 0 37 (.pointer none) hHeld ?_; refine kQ 1 38 (.bool true) hHeld ?_; refine kQ 2 39 (.bool true) hHeld ?_; refine dn 3 (some 40) rfl rfl hHeld ?_; refine dn 4 (some 41) rfl rfl hHeld ?_; refine dn 5 (some 42) rfl rfl hHeld ?_; refine dn 6 (some 43) rfl rfl hHeld ?_; refine dn 7 (some 44) rfl rfl hHeld ?_; refine dn 8 (some 45) rfl rfl hHeld ?_; refine dn 9 (some 46) rfl rfl hHeld ?_; refine dn 10 (some 47) rfl rfl hHeld ?_; refine dn 11 (some 48) rfl rfl hHeld ?_; refine dn 12 (some 49) rfl rfl hHeld ?_; refine dn 13 (some 50) rfl rfl hHeld ?_; refine dn 14 (some 51) rfl rfl hHeld ?_; refine dn 15 (some 52) rfl rfl hHeld ?_; refine dn 16 (some 53) rfl rfl hHeld ?_; refine dn 17 (some 54) rfl rfl hHeld ?_; refine kQ 18 55 (.bool true) hHeld ?_; simp only [qA,qB,qC,qD]; refine wpAnyH_done (by kernel_rfl) ?_ _; clear hHeld; obtain ⟨a9,b0,b1,b2,b3⟩ := B3.out; go_wp2_with fail; go_at_call 53; refine (zu _ (.mk B x m p [u]) (.slice (some ⟨g,o,none⟩) 1 E) 5).mono ?_; rintro e w4 Z; have Y := Z; obtain ⟨q,rfl⟩ := Z.thrown
     exact ⟨rfl,Y.err (zf k.out)⟩
    ·have b5 : decide ((S.ty t).form = 5) = false := by simpa using F
     rw [show S.recOf t = t by simp [KS.recOf,F]] at A; subst A; clear hr
     go_enter Tryz.func192,Tryz.ntmps192
     go_wp2_with fail; go_at_call 161; rw [<- V]; refine (HU.out _ G0.out su HF.out HA.out).mono ?_; rw [hq]; rintro e w1 ⟨i,rfl⟩; have j := zc (za G0.out i); have X : Hid (Box w1 w.heap.size (.mk B x m p [u]) (.slice (some ⟨g,o,none⟩) 1 E)) := Box.kept B0.out (za grn i); have J := ze j.out H.out; have K := ze j.out I.out; have L := ze j.out U.out; obtain ⟨M,N,O,Q,R⟩ := X.out; go_wp2_with fail; go_at_call 19; refine (yU (HM.out.up j.out) Y.out.toKTys a6 Z x).mono ?_; rw [a7,pO]; rintro e C ⟨rfl,s⟩; have D := zc (za j.out s); have B2 : Hid (Box C w.heap.size (.mk B x m p [u]) (.slice (some ⟨g,o,none⟩) 1 E)) := Box.kept X.out (za grn s); have a0 := ze D.out H.out; have a1 := ze D.out I.out; have a2 := ze D.out U.out; go_wp2_with fail; obtain ⟨v,f⟩ : ∃ z,z = C.alloc (.cells #[.string ⟨#[]⟩,.bool false,.pointer none,.int .i64 0] 58) := ⟨_,rfl⟩; rw [<- f]
     have k : Hid (w.grownBy v none) := by rw [f]; exact zh D.out _
     have B3 : Hid (Box v w.heap.size (.mk B x m p [u]) (.slice (some ⟨g,o,none⟩) 1 E)) := by rw [f]; exact Box.kept B2.out gan
     have a3 := ze k.out H.out; have a4 := ze k.out I.out; have a5 := ze k.out U.out; clear f; refine wp_region_held_drew (S := fun w9 => v.grownBy w9 none) (by kernel_rfl) ?_ (fun hHeld => ?_)
     ·exact zf grn
     refine kQ 0 37 (.pointer none) hHeld ?_; refine kQ 1 38 (.bool true) hHeld ?_; refine kQ 2 39 (.bool true) hHeld ?_; refine dn 3 (some 40) rfl rfl hHeld ?_; refine dn 4 (some 41) rfl rfl hHeld ?_; refine dn 5 (some 42) rfl rfl hHeld ?_; refine dn 6 (some 43) rfl rfl hHeld ?_; refine dn 7 (some 44) rfl rfl hHeld ?_; refine dn 8 (some 45) rfl rfl hHeld ?_; refine dn 9 (some 46) rfl rfl hHeld ?_; refine dn 10 (some 47) rfl rfl hHeld ?_; refine dn 11 (some 48) rfl rfl hHeld ?_; refine dn 12 (some 49) rfl rfl hHeld ?_; refine dn 13 (some 50) rfl rfl hHeld ?_; refine dn 14 (some 51) rfl rfl hHeld ?_; refine dn 15 (some 52) rfl rfl hHeld ?_; refine dn 16 (some 53) rfl rfl hHeld ?_; refine dn 17 (some 54) rfl rfl hHeld ?_; refine kQ 18 55 (.bool true) hHeld ?_; simp only [qA,qB,qC,qD]; refine wpAnyH_done (by kernel_rfl) ?_ _; clear hHeld; obtain ⟨a9,b0,b1,b2,b3⟩ := B3.out; go_wp2_with fail; go_at_call 53; refine (zu _ (.mk B x m p [u]) (.slice (some ⟨g,o,none⟩) 1 E) 5).mono ?_; rintro e w4 Z; have Y := Z; obtain ⟨q,rfl⟩ := Z.thrown
     exact ⟨rfl,Y.err (zf k.out)⟩
   | some z =>
    obtain ⟨d,ow⟩ := z; obtain ⟨ho,c5,_⟩ := rK Y.out.toKTys a6 Z a7; obtain ⟨hm,b7,b6⟩ := Y.out.hm ow ho c5
    have o2 : Hid (w.cell? ⟨ρ.ty ow,2,none⟩ = some (pq (ρ.md hm))) := by have h9 := HM.out.y2 ho; rw [b7] at h9; exact h9
    simp only [b7]; rw [Z] at U; cases he : d.exp
    ·by_cases b4 : hm = c.home
     ·simp only [b4,if_true,Bool.false_eq_true,if_false]
      subst b4
      by_cases F : (S.ty t).form = 5
      ·have e5 := hr F
       rw [show S.recOf t = S.of t by simp [KS.recOf,F]] at A; subst A; rw [e5,yo] at I; rw [F] at H; clear hr e5
       go_enter Tryz.func192,Tryz.ntmps192
       go_wp2_with fail; go_at_call 161; rw [<- V]; refine (HU.out _ G0.out su HF.out HA.out).mono ?_; rw [hq]; rintro e w1 ⟨i,rfl⟩; have j := zc (za G0.out i); have X : Hid (Box w1 w.heap.size (.mk B x m p [u]) (.slice (some ⟨g,o,none⟩) 1 E)) := Box.kept B0.out (za grn i); have J := ze j.out H.out; have K := ze j.out I.out; have L := ze j.out U.out; obtain ⟨M,N,O,Q,R⟩ := X.out; go_wp2_with fail; go_at_call 19; refine (yU (HM.out.up j.out) Y.out.toKTys a6 Z x).mono ?_; rw [a7,uK]; rintro e C ⟨rfl,s⟩; have D := zc (za j.out s); have B2 : Hid (Box C w.heap.size (.mk B x m p [u]) (.slice (some ⟨g,o,none⟩) 1 E)) := Box.kept X.out (za grn s); have a0 := ze D.out H.out; have a1 := ze D.out I.out; have a2 := ze D.out U.out; go_wp2_with fail; obtain ⟨v,f⟩ : ∃ z,z = C.alloc (.cells #[.string ⟨d.name.toArray⟩,.bool false,pq (ρ.ty d.ty),.int .i64 d.first] 58) := ⟨_,rfl⟩; rw [<- f]
       have k : Hid (w.grownBy v none) := by rw [f]; exact zh D.out _
       have B3 : Hid (Box v w.heap.size (.mk B x m p [u]) (.slice (some ⟨g,o,none⟩) 1 E)) := by rw [f]; exact Box.kept B2.out gan
       have a3 := ze k.out H.out; have a4 := ze k.out I.out; have a5 := ze k.out U.out
       have F3 : Hid (Bk v C.heap.size [.string ⟨d.name.toArray⟩,.bool false,pq (ρ.ty d.ty),.int .i64 d.first]) := by rw [f]; exact Bk.new _ _ _ rfl
       have f1 : Hid (v.cell? ⟨C.heap.size,1,none⟩ = some (.bool false)) := F3.out.c 1 _ rfl; have f2 := F3.out.c 2 _ rfl
       have a8 := fun w9 (hS : v.grownBy w9 none) => vp (mc (HM.out.up (za k.out hS)) b6 hh true (by simp))
       clear f; refine wp_region_held_drew (S := fun w9 => v.grownBy w9 none) (by kernel_rfl) ?_ (fun hHeld => ?_)
       ·exact zf grn
       refine kQ 0 37 (pq (ρ.ty ow)) hHeld ?_; refine kQ 1 38 (.bool false) hHeld ?_; refine kQ 2 39 (.bool false) hHeld ?_; refine kQ 3 40 (.pointer (some ⟨C.heap.size,1,none⟩)) hHeld ?_; refine dk 4 (some 41) (.bool false) rfl rfl (fun w9 hS => by have q1 := ze hS f1.out; go_simp) hHeld ?_; refine kQ 5 42 (.bool true) hHeld ?_; refine kQ 6 43 (.bool true) hHeld ?_; refine kQ 7 44 (pq (ρ.ty ow)) hHeld ?_; refine kQ 8 45 (pq (ρ.ty ow)) hHeld ?_; refine kQ 9 46 (.pointer (some ⟨ρ.ty ow,2,none⟩)) hHeld ?_; refine dk 10 (some 47) (pq (ρ.md c.home)) rfl rfl (fun w9 hS => by have q1 := ze (za k.out hS) o2.out; go_simp) hHeld ?_; refine kQ 11 48 (pq b) hHeld ?_; refine kQ 12 49 (pq b) hHeld ?_; refine kQ 13 50 (pq b) hHeld ?_; refine kQ 14 51 (.pointer (some ⟨b,1,none⟩)) hHeld ?_; refine dk 15 (some 52) (pq (ρ.md c.home)) rfl rfl (fun w9 hS => by have q1 := ze (za k.out hS) s1.out; go_simp) hHeld ?_; refine dk 16 (some 53) (.bool false) rfl rfl (fun w9 hS => by have q1 := a8 w9 hS; go_simp) hHeld ?_; refine kQ 17 54 (.bool false) hHeld ?_; refine kQ 18 55 (.bool false) hHeld ?_; simp only [qA,qB,qC,qD]; refine wpAnyH_done (by kernel_rfl) ?_ _; clear hHeld; go_wp2
       go_ret
       exact Cy.ok (zf k.out)
      ·have b5 : decide ((S.ty t).form = 5) = false := by simpa using F
       rw [show S.recOf t = t by simp [KS.recOf,F]] at A; subst A; clear hr
       go_enter Tryz.func192,Tryz.ntmps192
       go_wp2_with fail; go_at_call 161; rw [<- V]; refine (HU.out _ G0.out su HF.out HA.out).mono ?_; rw [hq]; rintro e w1 ⟨i,rfl⟩; have j := zc (za G0.out i); have X : Hid (Box w1 w.heap.size (.mk B x m p [u]) (.slice (some ⟨g,o,none⟩) 1 E)) := Box.kept B0.out (za grn i); have J := ze j.out H.out; have K := ze j.out I.out; have L := ze j.out U.out; obtain ⟨M,N,O,Q,R⟩ := X.out; go_wp2_with fail; go_at_call 19; refine (yU (HM.out.up j.out) Y.out.toKTys a6 Z x).mono ?_; rw [a7,uK]; rintro e C ⟨rfl,s⟩; have D := zc (za j.out s); have B2 : Hid (Box C w.heap.size (.mk B x m p [u]) (.slice (some ⟨g,o,none⟩) 1 E)) := Box.kept X.out (za grn s); have a0 := ze D.out H.out; have a1 := ze D.out I.out; have a2 := ze D.out U.out; go_wp2_with fail; obtain ⟨v,f⟩ : ∃ z,z = C.alloc (.cells #[.string ⟨d.name.toArray⟩,.bool false,pq (ρ.ty d.ty),.int .i64 d.first] 58) := ⟨_,rfl⟩; rw [<- f]
       have k : Hid (w.grownBy v none) := by rw [f]; exact zh D.out _
       have B3 : Hid (Box v w.heap.size (.mk B x m p [u]) (.slice (some ⟨g,o,none⟩) 1 E)) := by rw [f]; exact Box.kept B2.out gan
       have a3 := ze k.out H.out; have a4 := ze k.out I.out; have a5 := ze k.out U.out
       have F3 : Hid (Bk v C.heap.size [.string ⟨d.name.toArray⟩,.bool false,pq (ρ.ty d.ty),.int .i64 d.first]) := by rw [f]; exact Bk.new _ _ _ rfl
       have f1 : Hid (v.cell? ⟨C.heap.size,1,none⟩ = some (.bool false)) := F3.out.c 1 _ rfl; have f2 := F3.out.c 2 _ rfl
       have a8 := fun w9 (hS : v.grownBy w9 none) => vp (mc (HM.out.up (za k.out hS)) b6 hh true (by simp))
       clear f; refine wp_region_held_drew (S := fun w9 => v.grownBy w9 none) (by kernel_rfl) ?_ (fun hHeld => ?_)
       ·exact zf grn
       refine kQ 0 37 (pq (ρ.ty ow)) hHeld ?_; refine kQ 1 38 (.bool false) hHeld ?_; refine kQ 2 39 (.bool false) hHeld ?_; refine kQ 3 40 (.pointer (some ⟨C.heap.size,1,none⟩)) hHeld ?_; refine dk 4 (some 41) (.bool false) rfl rfl (fun w9 hS => by have q1 := ze hS f1.out; go_simp) hHeld ?_; refine kQ 5 42 (.bool true) hHeld ?_; refine kQ 6 43 (.bool true) hHeld ?_; refine kQ 7 44 (pq (ρ.ty ow)) hHeld ?_; refine kQ 8 45 (pq (ρ.ty ow)) hHeld ?_; refine kQ 9 46 (.pointer (some ⟨ρ.ty ow,2,none⟩)) hHeld ?_; refine dk 10 (some 47) (pq (ρ.md c.home)) rfl rfl (fun w9 hS => by have q1 := ze (za k.out hS) o2.out; go_simp) hHeld ?_; refine kQ 11 48 (pq b) hHeld ?_; refine kQ 12 49 (pq b) hHeld ?_; refine kQ 13 50 (pq b) hHeld ?_; refine kQ 14 51 (.pointer (some ⟨b,1,none⟩)) hHeld ?_; refine dk 15 (some 52) (pq (ρ.md c.home)) rfl rfl (fun w9 hS => by have q1 := ze (za k.out hS) s1.out; go_simp) hHeld ?_; refine dk 16 (some 53) (.bool false) rfl rfl (fun w9 hS => by have q1 := a8 w9 hS; go_simp) hHeld ?_; refine kQ 17 54 (.bool false) hHeld ?_; refine kQ 18 55 (.bool false) hHeld ?_; simp only [qA,qB,qC,qD]; refine wpAnyH_done (by kernel_rfl) ?_ _; clear hHeld; go_wp2
       go_ret
       exact Cy.ok (zf k.out)
     ·simp only [Option.some.injEq,b4,Bool.false_eq_true,if_false,thr,T.at']
      by_cases F : (S.ty t).form = 5
      ·have e5 := hr F
       rw [show S.recOf t = S.of t by simp [KS.recOf,F]] at A; subst A; rw [e5,yo] at I; rw [F] at H; clear hr e5
       go_enter Tryz.func192,Tryz.ntmps192
       go_wp2_with fail; go_at_call 161; rw [<- V]; refine (HU.out _ G0.out su HF.out HA.out).mono ?_; rw [hq]; rintro e w1 ⟨i,rfl⟩; have j := zc (za G0.out i); have X : Hid (Box w1 w.heap.size (.mk B x m p [u]) (.slice (some ⟨g,o,none⟩) 1 E)) := Box.kept B0.out (za grn i); have J := ze j.out H.out; have K := ze j.out I.out; have L := ze j.out U.out; obtain ⟨M,N,O,Q,R⟩ := X.out; go_wp2_with fail; go_at_call 19; refine (yU (HM.out.up j.out) Y.out.toKTys a6 Z x).mono ?_; rw [a7,uK]; rintro e C ⟨rfl,s⟩; have D := zc (za j.out s); have B2 : Hid (Box C w.heap.size (.mk B x m p [u]) (.slice (some ⟨g,o,none⟩) 1 E)) := Box.kept X.out (za grn s); have a0 := ze D.out H.out; have a1 := ze D.out I.out; have a2 := ze D.out U.out; go_wp2_with fail; obtain ⟨v,f⟩ : ∃ z,z = C.alloc (.cells #[.string ⟨d.name.toArray⟩,.bool false,pq (ρ.ty d.ty),.int .i64 d.first] 58) := ⟨_,rfl⟩; rw [<- f]
       have k : Hid (w.grownBy v none) := by rw [f]; exact zh D.out _
       have B3 : Hid (Box v w.heap.size (.mk B x m p [u]) (.slice (some ⟨g,o,none⟩) 1 E)) := by rw [f]; exact Box.kept B2.out gan
       have a3 := ze k.out H.out; have a4 := ze k.out I.out; have a5 := ze k.out U.out
       have F3 : Hid (Bk v C.heap.size [.string ⟨d.name.toArray⟩,.bool false,pq (ρ.ty d.ty),.int .i64 d.first]) := by rw [f]; exact Bk.new _ _ _ rfl
       have f1 : Hid (v.cell? ⟨C.heap.size,1,none⟩ = some (.bool false)) := F3.out.c 1 _ rfl; have f2 := F3.out.c 2 _ rfl
       have a8 := fun w9 (hS : v.grownBy w9 none) => vp (mc (HM.out.up (za k.out hS)) b6 hh false (by simpa using b4))
       clear f; refine wp_region_held_drew (S := fun w9 => v.grownBy w9 none) (by kernel_rfl) ?_ (fun hHeld => ?_)
       ·exact zf grn
       refine kQ 0 37 (pq (ρ.ty ow)) hHeld ?_; refine kQ 1 38 (.bool false) hHeld ?_; refine kQ 2 39 (.bool false) hHeld ?_; refine kQ 3 40 (.pointer (some ⟨C.heap.size,1,none⟩)) hHeld ?_; refine dk 4 (some 41) (.bool false) rfl rfl (fun w9 hS => by have q1 := ze hS f1.out; go_simp) hHeld ?_; refine kQ 5 42 (.bool true) hHeld ?_; refine kQ 6 43 (.bool true) hHeld ?_; refine kQ 7 44 (pq (ρ.ty ow)) hHeld ?_; refine kQ 8 45 (pq (ρ.ty ow)) hHeld ?_; refine kQ 9 46 (.pointer (some ⟨ρ.ty ow,2,none⟩)) hHeld ?_; refine dk 10 (some 47) (pq (ρ.md hm)) rfl rfl (fun w9 hS => by have q1 := ze (za k.out hS) o2.out; go_simp) hHeld ?_; refine kQ 11 48 (pq b) hHeld ?_; refine kQ 12 49 (pq b) hHeld ?_; refine kQ 13 50 (pq b) hHeld ?_; refine kQ 14 51 (.pointer (some ⟨b,1,none⟩)) hHeld ?_; refine dk 15 (some 52) (pq (ρ.md c.home)) rfl rfl (fun w9 hS => by have q1 := ze (za k.out hS) s1.out; go_simp) hHeld ?_; refine dk 16 (some 53) (.bool true) rfl rfl (fun w9 hS => by have q1 := a8 w9 hS; go_simp) hHeld ?_; refine kQ 17 54 (.bool true) hHeld ?_; refine kQ 18 55 (.bool true) hHeld ?_; simp only [qA,qB,qC,qD]; refine wpAnyH_done (by kernel_rfl) ?_ _; clear hHeld; obtain ⟨a9,b0,b1,b2,b3⟩ := B3.out; go_wp2_with fail; go_at_call 53; refine (zu _ (.mk B x m p [u]) (.slice (some ⟨g,o,none⟩) 1 E) 5).mono ?_; rintro e w4 Z; have Y := Z; obtain ⟨q,rfl⟩ := Z.thrown
       exact ⟨rfl,Y.err (zf k.out)⟩
      ·have b5 : decide ((S.ty t).form = 5) = false := by simpa using F
       rw [show S.recOf t = t by simp [KS.recOf,F]] at A; subst A; clear hr
       go_enter Tryz.func192,Tryz.ntmps192
       go_wp2_with fail; go_at_call 161; rw [<- V]; refine (HU.out _ G0.out su HF.out HA.out).mono ?_; rw [hq]; rintro e w1 ⟨i,rfl⟩; have j := zc (za G0.out i); have X : Hid (Box w1 w.heap.size (.mk B x m p [u]) (.slice (some ⟨g,o,none⟩) 1 E)) := Box.kept B0.out (za grn i); have J := ze j.out H.out; have K := ze j.out I.out; have L := ze j.out U.out; obtain ⟨M,N,O,Q,R⟩ := X.out; go_wp2_with fail; go_at_call 19; refine (yU (HM.out.up j.out) Y.out.toKTys a6 Z x).mono ?_; rw [a7,uK]; rintro e C ⟨rfl,s⟩; have D := zc (za j.out s); have B2 : Hid (Box C w.heap.size (.mk B x m p [u]) (.slice (some ⟨g,o,none⟩) 1 E)) := Box.kept X.out (za grn s); have a0 := ze D.out H.out; have a1 := ze D.out I.out; have a2 := ze D.out U.out; go_wp2_with fail; obtain ⟨v,f⟩ : ∃ z,z = C.alloc (.cells #[.string ⟨d.name.toArray⟩,.bool false,pq (ρ.ty d.ty),.int .i64 d.first] 58) := ⟨_,rfl⟩; rw [<- f]
       have k : Hid (w.grownBy v none) := by rw [f]; exact zh D.out _
       have B3 : Hid (Box v w.heap.size (.mk B x m p [u]) (.slice (some ⟨g,o,none⟩) 1 E)) := by rw [f]; exact Box.kept B2.out gan
       have a3 := ze k.out H.out; have a4 := ze k.out I.out; have a5 := ze k.out U.out
       have F3 : Hid (Bk v C.heap.size [.string ⟨d.name.toArray⟩,.bool false,pq (ρ.ty d.ty),.int .i64 d.first]) := by rw [f]; exact Bk.new _ _ _ rfl
       have f1 : Hid (v.cell? ⟨C.heap.size,1,none⟩ = some (.bool false)) := F3.out.c 1 _ rfl; have f2 := F3.out.c 2 _ rfl
       have a8 := fun w9 (hS : v.grownBy w9 none) => vp (mc (HM.out.up (za k.out hS)) b6 hh false (by simpa using b4))
       clear f; refine wp_region_held_drew (S := fun w9 => v.grownBy w9 none) (by kernel_rfl) ?_ (fun hHeld => ?_)
       ·exact zf grn
       refine kQ 0 37 (pq (ρ.ty ow)) hHeld ?_; refine kQ 1 38 (.bool false) hHeld ?_; refine kQ 2 39 (.bool false) hHeld ?_; refine kQ 3 40 (.pointer (some ⟨C.heap.size,1,none⟩)) hHeld ?_; refine dk 4 (some 41) (.bool false) rfl rfl (fun w9 hS => by have q1 := ze hS f1.out; go_simp) hHeld ?_; refine kQ 5 42 (.bool true) hHeld ?_; refine kQ 6 43 (.bool true) hHeld ?_; refine kQ 7 44 (pq (ρ.ty ow)) hHeld ?_; refine kQ 8 45 (pq (ρ.ty ow)) hHeld ?_; refine kQ 9 46 (.pointer (some ⟨ρ.ty ow,2,none⟩)) hHeld ?_; refine dk 10 (some 47) (pq (ρ.md hm)) rfl rfl (fun w9 hS => by have q1 := ze (za k.out hS) o2.out; go_simp) hHeld ?_; refine kQ 11 48 (pq b) hHeld ?_; refine kQ 12 49 (pq b) hHeld ?_; refine kQ 13 50 (pq b) hHeld ?_; refine kQ 14 51 (.pointer (some ⟨b,1,none⟩)) hHeld ?_; refine dk 15 (some 52) (pq (ρ.md c.home)) rfl rfl (fun w9 hS => by have q1 := ze (za k.out hS) s1.out; go_simp) hHeld ?_; refine dk 16 (some 53) (.bool true) rfl rfl (fun w9 hS => by have q1 := a8 w9 hS; go_simp) hHeld ?_; refine kQ 17 54 (.bool true) hHeld ?_; refine kQ 18 55 (.bool true) hHeld ?_; simp only [qA,qB,qC,qD]; refine wpAnyH_done (by kernel_rfl) ?_ _; clear hHeld; obtain ⟨a9,b0,b1,b2,b3⟩ := B3.out; go_wp2_with fail; go_at_call 53; refine (zu _ (.mk B x m p [u]) (.slice (some ⟨g,o,none⟩) 1 E) 5).mono ?_; rintro e w4 Z; have Y := Z; obtain ⟨q,rfl⟩ := Z.thrown
       exact ⟨rfl,Y.err (zf k.out)⟩
    ·simp only [if_true]
     by_cases F : (S.ty t).form = 5
     ·have e5 := hr F
      rw [show S.recOf t = S.of t by simp [KS.recOf,F]] at A; subst A; rw [e5,yo] at I; rw [F] at H; clear hr e5
      go_enter Tryz.func192,Tryz.ntmps192
      go_wp2_with fail; go_at_call 161; rw [<- V]; refine (HU.out _ G0.out su HF.out HA.out).mono ?_; rw [hq]; rintro e w1 ⟨i,rfl⟩; have j := zc (za G0.out i); have X : Hid (Box w1 w.heap.size (.mk B x m p [u]) (.slice (some ⟨g,o,none⟩) 1 E)) := Box.kept B0.out (za grn i); have J := ze j.out H.out; have K := ze j.out I.out; have L := ze j.out U.out; obtain ⟨M,N,O,Q,R⟩ := X.out; go_wp2_with fail; go_at_call 19; refine (yU (HM.out.up j.out) Y.out.toKTys a6 Z x).mono ?_; rw [a7,uK]; rintro e C ⟨rfl,s⟩; have D := zc (za j.out s); have B2 : Hid (Box C w.heap.size (.mk B x m p [u]) (.slice (some ⟨g,o,none⟩) 1 E)) := Box.kept X.out (za grn s); have a0 := ze D.out H.out; have a1 := ze D.out I.out; have a2 := ze D.out U.out; go_wp2_with fail; obtain ⟨v,f⟩ : ∃ z,z = C.alloc (.cells #[.string ⟨d.name.toArray⟩,.bool true,pq (ρ.ty d.ty),.int .i64 d.first] 58) := ⟨_,rfl⟩; rw [<- f]
      have k : Hid (w.grownBy v none) := by rw [f]; exact zh D.out _
      have B3 : Hid (Box v w.heap.size (.mk B x m p [u]) (.slice (some ⟨g,o,none⟩) 1 E)) := by rw [f]; exact Box.kept B2.out gan
      have a3 := ze k.out H.out; have a4 := ze k.out I.out; have a5 := ze k.out U.out
      have F3 : Hid (Bk v C.heap.size [.string ⟨d.name.toArray⟩,.bool true,pq (ρ.ty d.ty),.int .i64 d.first]) := by rw [f]; exact Bk.new _ _ _ rfl
      have f1 : Hid (v.cell? ⟨C.heap.size,1,none⟩ = some (.bool true)) := F3.out.c 1 _ rfl; have f2 := F3.out.c 2 _ rfl; clear f; refine wp_region_held_drew (S := fun w9 => v.grownBy w9 none) (by kernel_rfl) ?_ (fun hHeld => ?_)
      ·exact zf grn
      refine kQ 0 37 (pq (ρ.ty ow)) hHeld ?_; refine kQ 1 38 (.bool false) hHeld ?_; refine kQ 2 39 (.bool false) hHeld ?_; refine kQ 3 40 (.pointer (some ⟨C.heap.size,1,none⟩)) hHeld ?_; refine dk 4 (some 41) (.bool true) rfl rfl (fun w9 hS => by have q1 := ze hS f1.out; go_simp) hHeld ?_; refine kQ 5 42 (.bool false) hHeld ?_; refine kQ 6 43 (.bool false) hHeld ?_; refine dn 7 (some 44) rfl rfl hHeld ?_; refine dn 8 (some 45) rfl rfl hHeld ?_; refine dn 9 (some 46) rfl rfl hHeld ?_; refine dn 10 (some 47) rfl rfl hHeld ?_; refine dn 11 (some 48) rfl rfl hHeld ?_; refine dn 12 (some 49) rfl rfl hHeld ?_; refine dn 13 (some 50) rfl rfl hHeld ?_; refine dn 14 (some 51) rfl rfl hHeld ?_; refine dn 15 (some 52) rfl rfl hHeld ?_; refine dn 16 (some 53) rfl rfl hHeld ?_; refine kQ 17 54 (.bool false) hHeld ?_; refine kQ 18 55 (.bool false) hHeld ?_; simp only [qA,qB,qC,qD]; refine wpAnyH_done (by kernel_rfl) ?_ _; clear hHeld; go_wp2
      go_ret
      exact Cy.ok (zf k.out)
     ·have b5 : decide ((S.ty t).form = 5) = false := by simpa using F
      rw [show S.recOf t = t by simp [KS.recOf,F]] at A; subst A; clear hr
      go_enter Tryz.func192,Tryz.ntmps192
      go_wp2_with fail; go_at_call 161; rw [<- V]; refine (HU.out _ G0.out su HF.out HA.out).mono ?_; rw [hq]; rintro e w1 ⟨i,rfl⟩; have j := zc (za G0.out i); have X : Hid (Box w1 w.heap.size (.mk B x m p [u]) (.slice (some ⟨g,o,none⟩) 1 E)) := Box.kept B0.out (za grn i); have J := ze j.out H.out; have K := ze j.out I.out; have L := ze j.out U.out; obtain ⟨M,N,O,Q,R⟩ := X.out; go_wp2_with fail; go_at_call 19; refine (yU (HM.out.up j.out) Y.out.toKTys a6 Z x).mono ?_; rw [a7,uK]; rintro e C ⟨rfl,s⟩; have D := zc (za j.out s); have B2 : Hid (Box C w.heap.size (.mk B x m p [u]) (.slice (some ⟨g,o,none⟩) 1 E)) := Box.kept X.out (za grn s); have a0 := ze D.out H.out; have a1 := ze D.out I.out; have a2 := ze D.out U.out; go_wp2_with fail; obtain ⟨v,f⟩ : ∃ z,z = C.alloc (.cells #[.string ⟨d.name.toArray⟩,.bool true,pq (ρ.ty d.ty),.int .i64 d.first] 58) := ⟨_,rfl⟩; rw [<- f]
      have k : Hid (w.grownBy v none) := by rw [f]; exact zh D.out _
      have B3 : Hid (Box v w.heap.size (.mk B x m p [u]) (.slice (some ⟨g,o,none⟩) 1 E)) := by rw [f]; exact Box.kept B2.out gan
      have a3 := ze k.out H.out; have a4 := ze k.out I.out; have a5 := ze k.out U.out
      have F3 : Hid (Bk v C.heap.size [.string ⟨d.name.toArray⟩,.bool true,pq (ρ.ty d.ty),.int .i64 d.first]) := by rw [f]; exact Bk.new _ _ _ rfl
      have f1 : Hid (v.cell? ⟨C.heap.size,1,none⟩ = some (.bool true)) := F3.out.c 1 _ rfl; have f2 := F3.out.c 2 _ rfl; clear f; refine wp_region_held_drew (S := fun w9 => v.grownBy w9 none) (by kernel_rfl) ?_ (fun hHeld => ?_)
      ·exact zf grn
      refine kQ 0 37 (pq (ρ.ty ow)) hHeld ?_; refine kQ 1 38 (.bool false) hHeld ?_; refine kQ 2 39 (.bool false) hHeld ?_; refine kQ 3 40 (.pointer (some ⟨C.heap.size,1,none⟩)) hHeld ?_; refine dk 4 (some 41) (.bool true) rfl rfl (fun w9 hS => by have q1 := ze hS f1.out; go_simp) hHeld ?_; refine kQ 5 42 (.bool false) hHeld ?_; refine kQ 6 43 (.bool false) hHeld ?_; refine dn 7 (some 44) rfl rfl hHeld ?_; refine dn 8 (some 45) rfl rfl hHeld ?_; refine dn 9 (some 46) rfl rfl hHeld ?_; refine dn 10 (some 47) rfl rfl hHeld ?_; refine dn 11 (some 48) rfl rfl hHeld ?_; refine dn 12 (some 49) rfl rfl hHeld ?_; refine dn 13 (some 50) rfl rfl hHeld ?_; refine dn 14 (some 51) rfl rfl hHeld ?_; refine dn 15 (some 52) rfl rfl hHeld ?_; refine dn 16 (some 53) rfl rfl hHeld ?_; refine kQ 17 54 (.bool false) hHeld ?_; refine kQ 18 55 (.bool false) hHeld ?_; simp only [qA,qB,qC,qD]; refine wpAnyH_done (by kernel_rfl) ?_ _; clear hHeld; go_wp2
      go_ret
      exact Cy.ok (zf k.out)
  ·rw [if_neg Z]
   simp only [thr,T.at']
   have c8 : decide ((S.ty q).form = 4) = false := by simpa using Z
   by_cases F : (S.ty t).form = 5
   ·have e5 := hr F
    rw [show S.recOf t = S.of t by simp [KS.recOf,F]] at A; subst A; rw [e5,yo] at I; rw [F] at H; clear hr e5
    go_enter Tryz.func192,Tryz.ntmps192
    go_wp2_with fail; go_at_call 161; rw [<- V]; refine (HU.out _ G0.out su HF.out HA.out).mono ?_; rw [hq]; rintro e w1 ⟨i,rfl⟩; have j := zc (za G0.out i); have X : Hid (Box w1 w.heap.size (.mk B x m p [u]) (.slice (some ⟨g,o,none⟩) 1 E)) := Box.kept B0.out (za grn i); have J := ze j.out H.out; have K := ze j.out I.out; have L := ze j.out U.out; obtain ⟨M,N,O,Q,R⟩ := X.out; go_wp2_with fail; go_at_call 53; refine (zu _ (.mk B x m p [u]) (.slice (some ⟨g,o,none⟩) 1 E) 7).mono ?_; rintro e C h2; have Y := h2; obtain ⟨q,rfl⟩ := h2.thrown
    exact ⟨rfl,Y.err j.out⟩
   ·have b5 : decide ((S.ty t).form = 5) = false := by simpa using F
    rw [show S.recOf t = t by simp [KS.recOf,F]] at A; subst A; clear hr
    go_enter Tryz.func192,Tryz.ntmps192
    go_wp2_with fail; go_at_call 161; rw [<- V]; refine (HU.out _ G0.out su HF.out HA.out).mono ?_; rw [hq]; rintro e w1 ⟨i,rfl⟩; have j := zc (za G0.out i); have X : Hid (Box w1 w.heap.size (.mk B x m p [u]) (.slice (some ⟨g,o,none⟩) 1 E)) := Box.kept B0.out (za grn i); have J := ze j.out H.out; have K := ze j.out I.out; have L := ze j.out U.out; obtain ⟨M,N,O,Q,R⟩ := X.out; go_wp2_with fail; go_at_call 53; refine (zu _ (.mk B x m p [u]) (.slice (some ⟨g,o,none⟩) 1 E) 7).mono ?_; rintro e C h2; have Y := h2; obtain ⟨q,rfl⟩ := h2.thrown
    exact ⟨rfl,Y.err j.out⟩
end
section
variable {ρ : Lay} {w w' w1 : World} {S : KS} {b : Nat} {c : KSc}
theorem oB (h : CK ρ w S b c) (n : T) (sv : Value) (hf : Fits n) (ha : AT w n.subs sv) (hT : KAll S) {r : KR} {u v : T} (hl : n.subs = [u,v]) (hu : CDe ρ S b c r u) (hv : CEx ρ S b c r v) :
  Calls Tryz.prog 193 #[pq b,zo n sv] w (Cy w ((S.indexC r n).map fun t => pq (ρ.ty t))) := by
 have HU := zc (fun w1 (G : w.grownBy w1 none) J (fu : Fits u) (au : AT w u.subs J) => hu.run w1 J (h.up G) fu (au.kept G)); have HV := zc (fun w1 (G : w.grownBy w1 none) J (fu : Fits v) (au : AT w v.subs J) => hv.run w1 J (h.up G) fu (au.kept G)); have HM := zc h.km; have U := zc hT; have a5 := hu.lt; have a6 := hv.lt; have s0 : Hid _ := h.s0; have a3 : Hid _ := h.km.wc0; have h3 := h.ok.three; obtain ⟨K,x,m,p,l⟩ := n; obtain rfl : l = [u,v] := hl; obtain ⟨g,o,D,J,L,rfl,_,_,n5,fu,au,V,fv,av⟩ := ha.pair; have HA := zc au; have HF := zc fu; have M := zc av; have X := zc fv
 replace n5 := zc n5
 replace V := zc V
 clear fu au fv av
 change Calls Tryz.prog 193 #[pq b,.agg #[.int .i64 K,.string ⟨x.toArray⟩,.int .i64 m,.int .i64 p,.slice (some ⟨g,o,none⟩) 2 D]] w _
 obtain ⟨w0,j⟩ : ∃ z,z = w.alloc (.cells #[.int .i64 K,.string ⟨x.toArray⟩,.int .i64 m,.int .i64 p,.slice (some ⟨g,o,none⟩) 2 D] 100) := ⟨_,rfl⟩
 have F : Hid (w.grownBy w0 none) := by rw [j]; exact zh grn _
 have N : Hid (Box w0 w.heap.size (.mk K x m p [u,v]) (.slice (some ⟨g,o,none⟩) 2 D)) := by rw [j]; exact Box.new w (.mk K x m p [u,v]) (.slice (some ⟨g,o,none⟩) 2 D) _
 clear h ha hf hu hv hT
 have hz : sub (.mk K x m p [u,v]) 0 = u := rfl
 have Y : sub (.mk K x m p [u,v]) 1 = v := rfl
 cases Q : r.de u with
 | error z =>
  rw [show S.indexC r (.mk K x m p [u,v]) = .error z by simp [KS.indexC,hz,Q,Except.bind]]
  go_enter Tryz.func193,Tryz.ntmps193
  go_wp2_with fail; rw [<- j]; clear j; refine wp_region_held_drew (S := fun w9 => w0.grownBy w9 none) (by kernel_rfl) ?_ (fun hHeld => ?_)
  ·exact zf grn
  refine kQ 0 7 (pq b) hHeld ?_; refine kQ 1 8 (.pointer (some ⟨w.heap.size,4,none⟩)) hHeld ?_; refine dk 2 (some 9) (.slice (some ⟨g,o,none⟩) 2 D) rfl rfl (fun w9 hS => by obtain ⟨k,f,s,A,B⟩ := (Box.kept N.out hS).plain; go_simp) hHeld ?_; refine kQ 3 10 (.pointer (some ⟨g,o,none⟩)) hHeld ?_; refine dk 4 (some 11) (zo u J) rfl rfl (fun w9 hS => by obtain ⟨k,f,s,A,B⟩ := Node5.kept n5.out (za F.out hS); go_simp) hHeld ?_; refine kQ 6 13 (pq b) hHeld ?_; refine kQ 7 14 (.pointer (some ⟨w.heap.size,4,none⟩)) hHeld ?_; refine dk 8 (some 15) (.slice (some ⟨g,o,none⟩) 2 D) rfl rfl (fun w9 hS => by obtain ⟨k,f,s,A,B⟩ := (Box.kept N.out hS).plain; go_simp) hHeld ?_; refine kQ 9 16 (.pointer (some ⟨g,o + 5,none⟩)) hHeld ?_; refine dk 10 (some 17) (zo v L) rfl rfl (fun w9 hS => by obtain ⟨k,f,s,A,B⟩ := Node5.kept V.out (za F.out hS); go_simp) hHeld ?_; simp only [qA,qB,qC,qD]; refine rd 5 rfl fun KK hKK => ?_
  go_simp
  go_at_call 161; refine (HU.out _ (zf F.out) J HF.out HA.out).mono ?_; rw [Q]; rintro e w1 h1; have U := h1; obtain ⟨q,rfl⟩ := h1.thrown
  exact ⟨rfl,U.err (zf F.out)⟩
 | ok t =>
  cases Z : r.ex v with
  | error z =>
   rw [show S.indexC r (.mk K x m p [u,v]) = .error z by simp [KS.indexC,hz,Y,Q,Z,Except.bind]]
   go_enter Tryz.func193,Tryz.ntmps193
   go_wp2_with fail; rw [<- j]; clear j; refine wp_region_held_drew (S := fun w9 => w0.grownBy w9 none) (by kernel_rfl) ?_ (fun hHeld => ?_)
   ·exact zf grn
   refine kQ 0 7 (pq b) hHeld ?_; refine kQ 1 8 (.pointer (some ⟨w.heap.size,4,none⟩)) hHeld ?_; refine dk 2 (some 9) (.slice (some ⟨g,o,none⟩) 2 D) rfl rfl (fun w9 hS => by obtain ⟨k,f,s,A,B⟩ := (Box.kept N.out hS).plain; go_simp) hHeld ?_; refine kQ 3 10 (.pointer (some ⟨g,o,none⟩)) hHeld ?_; refine dk 4 (some 11) (zo u J) rfl rfl (fun w9 hS => by obtain ⟨k,f,s,A,B⟩ := Node5.kept n5.out (za F.out hS); go_simp) hHeld ?_; refine kQ 6 13 (pq b) hHeld ?_; refine kQ 7 14 (.pointer (some ⟨w.heap.size,4,none⟩)) hHeld ?_; refine dk 8 (some 15) (.slice (some ⟨g,o,none⟩) 2 D) rfl rfl (fun w9 hS => by obtain ⟨k,f,s,A,B⟩ := (Box.kept N.out hS).plain; go_simp) hHeld ?_; refine kQ 9 16 (.pointer (some ⟨g,o + 5,none⟩)) hHeld ?_; refine dk 10 (some 17) (zo v L) rfl rfl (fun w9 hS => by obtain ⟨k,f,s,A,B⟩ := Node5.kept V.out (za F.out hS); go_simp) hHeld ?_; simp only [qA,qB,qC,qD]; refine rd 5 rfl fun KK hKK => ?_
   go_simp
   go_at_call 161; refine (HU.out _ (zf F.out) J HF.out HA.out).mono ?_; rw [Q]; rintro e w1 ⟨d,rfl⟩; have R := zc (za (zf F.out) d); have E := zc (za (zf grn) d); clear d
   go_simp
   refine hKK.out _ _ E.out fun hHeld => ?_
   clear hKK KK; refine rd 11 rfl fun KK hKK => ?_
   go_simp
   go_at_call 157; refine (HV.out _ R.out L X.out M.out).mono ?_; rw [Z]; rintro e w2 h2; have U := h2; obtain ⟨q,rfl⟩ := h2.thrown
   exact ⟨rfl,U.err R.out⟩
  | ok i =>
   have ht := a5 t Q; have hi := a6 i Z; have t0 : Hid (w.cell? ⟨ρ.ty t,0,none⟩ = some (.int .i64 (S.ty t).form)) := HM.out.y0 ht
   by_cases O : (S.ty t).form = 3
   ·obtain ⟨a1,_⟩ := U.out.a ht O
    have t5 : Hid (w.cell? ⟨ρ.ty t,5,none⟩ = some (pq (ρ.ty (S.of t)))) := by have h9 := HM.out.y5 ht; rw [a1] at h9; exact h9
    rw [O] at t0; cases hn : yX v i 0 with
    | error z =>
     rw [show S.indexC r (.mk K x m p [u,v]) = .error z by simp [KS.indexC,hz,Y,Q,Z,O,hn,Except.bind]]
     go_enter Tryz.func193,Tryz.ntmps193
     go_wp2_with fail; rw [<- j]; clear j; refine wp_region_held_drew (S := fun w9 => w0.grownBy w9 none) (by kernel_rfl) ?_ (fun hHeld => ?_)
     ·exact zf grn
     refine kQ 0 7 (pq b) hHeld ?_; refine kQ 1 8 (.pointer (some ⟨w.heap.size,4,none⟩)) hHeld ?_; refine dk 2 (some 9) (.slice (some ⟨g,o,none⟩) 2 D) rfl rfl (fun w9 hS => by obtain ⟨k,f,s,A,B⟩ := (Box.kept N.out hS).plain; go_simp) hHeld ?_; refine kQ 3 10 (.pointer (some ⟨g,o,none⟩)) hHeld ?_; refine dk 4 (some 11) (zo u J) rfl rfl (fun w9 hS => by obtain ⟨k,f,s,A,B⟩ := Node5.kept n5.out (za F.out hS); go_simp) hHeld ?_; refine kQ 6 13 (pq b) hHeld ?_; refine kQ 7 14 (.pointer (some ⟨w.heap.size,4,none⟩)) hHeld ?_; refine dk 8 (some 15) (.slice (some ⟨g,o,none⟩) 2 D) rfl rfl (fun w9 hS => by obtain ⟨k,f,s,A,B⟩ := (Box.kept N.out hS).plain; go_simp) hHeld ?_; refine kQ 9 16 (.pointer (some ⟨g,o + 5,none⟩)) hHeld ?_; refine dk 10 (some 17) (zo v L) rfl rfl (fun w9 hS => by obtain ⟨k,f,s,A,B⟩ := Node5.kept V.out (za F.out hS); go_simp) hHeld ?_; simp only [qA,qB,qC,qD]; refine rd 5 rfl fun KK hKK => ?_
     go_simp
     go_at_call 161; refine (HU.out _ (zf F.out) J HF.out HA.out).mono ?_; rw [Q]; rintro e w1 ⟨d,rfl⟩; have R := zc (za (zf F.out) d); have E := zc (za (zf grn) d); clear d
     go_simp
     refine hKK.out _ _ E.out fun hHeld => ?_
     clear hKK KK; refine rd 11 rfl fun KK hKK => ?_
     go_simp
     go_at_call 157; refine (HV.out _ R.out L X.out M.out).mono ?_; rw [Z]; rintro e w2 ⟨C,rfl⟩; have H := zc (za R.out C); have I := zc (za E.out C); clear C
     go_simp
     refine hKK.out _ _ I.out fun hHeld => ?_
     clear hKK KK; refine kQ 12 5 (pq (ρ.ty t)) hHeld ?_; refine kQ 13 6 (pq (ρ.ty i)) hHeld ?_; simp only [qA,qB,qC,qD]; refine wpAnyH_done (by kernel_rfl) ?_ _; clear hHeld; have B2 : Hid (Box w2 w.heap.size (.mk K x m p [u,v]) (.slice (some ⟨g,o,none⟩) 2 D)) := Box.kept N.out I.out; have a0 := ze H.out t0.out; go_wp2_with fail; refine wp_region_held_drew (S := fun w9 => w2.grownBy w9 none) (by kernel_rfl) ?_ (fun hHeld => ?_)
     ·exact zf grn
     refine kQ 0 26 (.pointer (some ⟨w.heap.size,4,none⟩)) hHeld ?_; refine dk 1 (some 27) (.slice (some ⟨g,o,none⟩) 2 D) rfl rfl (fun w9 hS => by obtain ⟨k,f,s,A,B⟩ := (Box.kept B2.out hS).plain; go_simp) hHeld ?_; refine kQ 2 28 (.pointer (some ⟨g,o + 5,none⟩)) hHeld ?_; refine dk 3 (some 29) (zo v L) rfl rfl (fun w9 hS => by obtain ⟨k,f,s,A,B⟩ := Node5.kept V.out (za H.out hS); go_simp) hHeld ?_; refine kQ 4 30 (pq (ρ.ty i)) hHeld ?_; refine kQ 5 31 (pq b) hHeld ?_; refine kQ 6 32 (pq b) hHeld ?_; refine kQ 7 33 (pq b) hHeld ?_; refine kQ 8 34 (pq b) hHeld ?_; refine dk 9 (some 35) (pq ρ.wd) rfl rfl (fun w9 hS => by have f := ze (za H.out hS) s0.out; go_simp) hHeld ?_; refine kQ 10 36 (pq ρ.wd) hHeld ?_; refine kQ 11 37 (pq ρ.wd) hHeld ?_; refine dk 12 (some 38) (pq (ρ.ty 0)) rfl rfl (fun w9 hS => by have f := ze (za H.out hS) a3.out; go_simp) hHeld ?_; simp only [qA,qB,qC,qD]; refine rd 13 rfl fun KK hKK => ?_
     go_simp
     go_at_call 115; refine (zP (HM.out.up (zf H.out)) v L (M.out.kept (zf H.out)) hi (show 0 < S.tys.length by omega)).mono ?_; rw [hn]; rintro e w3 h3; have U := h3; obtain ⟨q,rfl⟩ := h3.thrown
     exact ⟨rfl,U.err (zf H.out)⟩
    | ok _ =>
     rw [show S.indexC r (.mk K x m p [u,v]) = .ok (S.of t) by simp [KS.indexC,hz,Y,Q,Z,O,hn,Except.bind]]
     go_enter Tryz.func193,Tryz.ntmps193
     go_wp2_with fail; rw [<- j]; clear j; refine wp_region_held_drew (S := fun w9 => w0.grownBy w9 none) (by kernel_rfl) ?_ (fun hHeld => ?_)
     ·exact zf grn
     refine kQ 0 7 (pq b) hHeld ?_; refine kQ 1 8 (.pointer (some ⟨w.heap.size,4,none⟩)) hHeld ?_; refine dk 2 (some 9) (.slice (some ⟨g,o,none⟩) 2 D) rfl rfl (fun w9 hS => by obtain ⟨k,f,s,A,B⟩ := (Box.kept N.out hS).plain; go_simp) hHeld ?_; refine kQ 3 10 (.pointer (some ⟨g,o,none⟩)) hHeld ?_; refine dk 4 (some 11) (zo u J) rfl rfl (fun w9 hS => by obtain ⟨k,f,s,A,B⟩ := Node5.kept n5.out (za F.out hS); go_simp) hHeld ?_; refine kQ 6 13 (pq b) hHeld ?_; refine kQ 7 14 (.pointer (some ⟨w.heap.size,4,none⟩)) hHeld ?_; refine dk 8 (some 15) (.slice (some ⟨g,o,none⟩) 2 D) rfl rfl (fun w9 hS => by obtain ⟨k,f,s,A,B⟩ := (Box.kept N.out hS).plain; go_simp) hHeld ?_; refine kQ 9 16 (.pointer (some ⟨g,o + 5,none⟩)) hHeld ?_; refine dk 10 (some 17) (zo v L) rfl rfl (fun w9 hS => by obtain ⟨k,f,s,A,B⟩ := Node5.kept V.out (za F.out hS); go_simp) hHeld ?_; simp only [qA,qB,qC,qD]; refine rd 5 rfl fun KK hKK => ?_
     go_simp
     go_at_call 161; refine (HU.out _ (zf F.out) J HF.out HA.out).mono ?_; rw [Q]; rintro e w1 ⟨d,rfl⟩; have R := zc (za (zf F.out) d); have E := zc (za (zf grn) d); clear d
     go_simp
     refine hKK.out _ _ E.out fun hHeld => ?_
     clear hKK KK; refine rd 11 rfl fun KK hKK => ?_
     go_simp
     go_at_call 157; refine (HV.out _ R.out L X.out M.out).mono ?_; rw [Z]; rintro e w2 ⟨C,rfl⟩; have H := zc (za R.out C); have I := zc (za E.out C); clear C
     go_simp
     refine hKK.out _ _ I.out fun hHeld => ?_
     clear hKK KK; refine kQ 12 5 (pq (ρ.ty t)) hHeld ?_; refine kQ 13 6 (pq (ρ.ty i)) hHeld ?_; simp only [qA,qB,qC,qD]; refine wpAnyH_done (by kernel_rfl) ?_ _; clear hHeld; have B2 : Hid (Box w2 w.heap.size (.mk K x m p [u,v]) (.slice (some ⟨g,o,none⟩) 2 D)) := Box.kept N.out I.out; have a0 := ze H.out t0.out; go_wp2_with fail; refine wp_region_held_drew (S := fun w9 => w2.grownBy w9 none) (by kernel_rfl) ?_ (fun hHeld => ?_)
     ·exact zf grn
     refine kQ 0 26 (.pointer (some ⟨w.heap.size,4,none⟩)) hHeld ?_; refine dk 1 (some 27) (.slice (some ⟨g,o,none⟩) 2 D) rfl rfl (fun w9 hS => by obtain ⟨k,f,s,A,B⟩ := (Box.kept B2.out hS).plain; go_simp) hHeld ?_; refine kQ 2 28 (.pointer (some ⟨g,o + 5,none⟩)) hHeld ?_; refine dk 3 (some 29) (zo v L) rfl rfl (fun w9 hS => by obtain ⟨k,f,s,A,B⟩ := Node5.kept V.out (za H.out hS); go_simp) hHeld ?_; refine kQ 4 30 (pq (ρ.ty i)) hHeld ?_; refine kQ 5 31 (pq b) hHeld ?_; refine kQ 6 32 (pq b) hHeld ?_; refine kQ 7 33 (pq b) hHeld ?_; refine kQ 8 34 (pq b) hHeld ?_; refine dk 9 (some 35) (pq ρ.wd) rfl rfl (fun w9 hS => by have f := ze (za H.out hS) s0.out; go_simp) hHeld ?_; refine kQ 10 36 (pq ρ.wd) hHeld ?_; refine kQ 11 37 (pq ρ.wd) hHeld ?_; refine dk 12 (some 38) (pq (ρ.ty 0)) rfl rfl (fun w9 hS => by have f := ze (za H.out hS) a3.out; go_simp) hHeld ?_; simp only [qA,qB,qC,qD]; refine rd 13 rfl fun KK hKK => ?_
     go_simp
     go_at_call 115; refine (zP (HM.out.up (zf H.out)) v L (M.out.kept (zf H.out)) hi (show 0 < S.tys.length by omega)).mono ?_; rw [hn]; rintro e w3 ⟨a2,rfl⟩; have G3 := zc (za (zf H.out) a2); have a4 := zc (za (zf grn) a2); clear a2
     go_simp
     refine hKK.out _ _ a4.out fun hHeld => ?_
     clear hKK KK; refine wpAnyH_done (by kernel_rfl) ?_ _; clear hHeld; have B3 : Hid (Box w3 w.heap.size (.mk K x m p [u,v]) (.slice (some ⟨g,o,none⟩) 2 D)) := Box.kept B2.out a4.out; have a7 := ze G3.out t0.out; have a8 := ze G3.out t5.out; go_wp2
     go_ret
     exact Cy.ok G3.out
   ·have hd : decide ((S.ty t).form = 3) = false := by simpa using O
    rw [show S.indexC r (.mk K x m p [u,v]) = .error (7,p) by simp [KS.indexC,hz,Y,Q,Z,O,Except.bind,thr,T.at']]
    go_enter Tryz.func193,Tryz.ntmps193
    go_wp2_with fail; rw [<- j]; clear j; refine wp_region_held_drew (S := fun w9 => w0.grownBy w9 none) (by kernel_rfl) ?_ (fun hHeld => ?_)
    ·exact zf grn
    refine kQ 0 7 (pq b) hHeld ?_; refine kQ 1 8 (.pointer (some ⟨w.heap.size,4,none⟩)) hHeld ?_; refine dk 2 (some 9) (.slice (some ⟨g,o,none⟩) 2 D) rfl rfl (fun w9 hS => by obtain ⟨k,f,s,A,B⟩ := (Box.kept N.out hS).plain; go_simp) hHeld ?_; refine kQ 3 10 (.pointer (some ⟨g,o,none⟩)) hHeld ?_; refine dk 4 (some 11) (zo u J) rfl rfl (fun w9 hS => by obtain ⟨k,f,s,A,B⟩ := Node5.kept n5.out (za F.out hS); go_simp) hHeld ?_; refine kQ 6 13 (pq b) hHeld ?_; refine kQ 7 14 (.pointer (some ⟨w.heap.size,4,none⟩)) hHeld ?_; refine dk 8 (some 15) (.slice (some ⟨g,o,none⟩) 2 D) rfl rfl (fun w9 hS => by obtain ⟨k,f,s,A,B⟩ := (Box.kept N.out hS).plain; go_simp) hHeld ?_; refine kQ 9 16 (.pointer (some ⟨g,o + 5,none⟩)) hHeld ?_; refine dk 10 (some 17) (zo v L) rfl rfl (fun w9 hS => by obtain ⟨k,f,s,A,B⟩ := Node5.kept V.out (za F.out hS); go_simp) hHeld ?_; simp only [qA,qB,qC,qD]; refine rd 5 rfl fun KK hKK => ?_
    go_simp
    go_at_call 161; refine (HU.out _ (zf F.out) J HF.out HA.out).mono ?_; rw [Q]; rintro e w1 ⟨d,rfl⟩; have R := zc (za (zf F.out) d); have E := zc (za (zf grn) d); clear d
    go_simp
    refine hKK.out _ _ E.out fun hHeld => ?_
    clear hKK KK; refine rd 11 rfl fun KK hKK => ?_
    go_simp
    go_at_call 157; refine (HV.out _ R.out L X.out M.out).mono ?_; rw [Z]; rintro e w2 ⟨C,rfl⟩; have H := zc (za R.out C); have I := zc (za E.out C); clear C
    go_simp
    refine hKK.out _ _ I.out fun hHeld => ?_
    clear hKK KK; refine kQ 12 5 (pq (ρ.ty t)) hHeld ?_; refine kQ 13 6 (pq (ρ.ty i)) hHeld ?_; simp only [qA,qB,qC,qD]; refine wpAnyH_done (by kernel_rfl) ?_ _; clear hHeld; have B2 : Hid (Box w2 w.heap.size (.mk K x m p [u,v]) (.slice (some ⟨g,o,none⟩) 2 D)) := Box.kept N.out I.out; have a0 := ze H.out t0.out; obtain ⟨_,_,_,_,_⟩ := B2.out; go_wp2_with fail; go_at_call 53; refine (zu _ (.mk K x m p [u,v]) (.slice (some ⟨g,o,none⟩) 2 D) 7).mono ?_; rintro e w3 h3; have U := h3; obtain ⟨q,rfl⟩ := h3.thrown
    exact ⟨rfl,U.err H.out⟩
theorem uB (h : CK ρ w S b c) (n : T) (sv : Value) (hf : Fits n) (ha : AT w n.subs sv) {r : KR} {t : Nat} (ht : t < S.tys.length) (hn : CEx ρ S b c r n) :
  Calls Tryz.prog 116 #[pq b,zo n sv,pq (ρ.ty t)] w (Cy w ((xe r n t).map fun _ => .tuple #[])) := by
 have H := zc (fun w1 (G : w.grownBy w1 none) => hn.run w1 sv (h.up G) hf (ha.kept G)); have K := zc (fun w1 (G : w.grownBy w1 none) a (ht' : a < S.tys.length) => zP (h.km.up G) n sv (ha.kept G) ht' ht); have I := hn.lt; obtain ⟨f,x,m,p,l⟩ := n
 change Calls Tryz.prog 116 #[pq b,.agg #[.int .i64 f,.string ⟨x.toArray⟩,.int .i64 m,.int .i64 p,sv],pq (ρ.ty t)] w _
 obtain ⟨u,d⟩ : ∃ z,z = w.alloc (.cells #[.int .i64 f,.string ⟨x.toArray⟩,.int .i64 m,.int .i64 p,sv] 100) := ⟨_,rfl⟩
 have o : Hid (w.grownBy u none) := by rw [d]; exact zh grn _
 have j : Hid (Box u w.heap.size (.mk f x m p l) sv) := by rw [d]; exact Box.new w (.mk f x m p l) sv _
 clear h ha hf hn; cases s : r.ex (.mk f x m p l) with
 | error z =>
  rw [show xe r (.mk f x m p l) t = .error z by simp [xe,s,Except.bind]]
  go_enter Tryz.func116,Tryz.ntmps116
  go_wp2_with fail; rw [<- d]; clear d; refine wp_region_held_drew (S := fun w9 => u.grownBy w9 none) (by kernel_rfl) ?_ (fun hHeld => ?_)
  ·exact zf grn
  refine dk 0 (some 6) (.agg #[.int .i64 f,.string ⟨x.toArray⟩,.int .i64 m,.int .i64 p,sv]) rfl rfl (fun w9 hS => by obtain ⟨v,A,B,C,D⟩ := (Box.kept j.out hS).plain; go_simp) hHeld ?_; refine kQ 1 7 (pq b) hHeld ?_; refine dk 2 (some 8) (.agg #[.int .i64 f,.string ⟨x.toArray⟩,.int .i64 m,.int .i64 p,sv]) rfl rfl (fun w9 hS => by obtain ⟨v,A,B,C,D⟩ := (Box.kept j.out hS).plain; go_simp) hHeld ?_; refine kQ 4 10 (pq (ρ.ty t)) hHeld ?_; simp only [qA,qB,qC,qD]; refine rd 3 rfl fun KK hKK => ?_
  go_simp
  go_at_call 157; refine (H.out _ (zf o.out)).mono ?_; rw [s]; rintro e w1 L; have J := L; obtain ⟨q,rfl⟩ := L.thrown
  exact ⟨rfl,J.err (zf o.out)⟩
 | ok a =>
  have ha := I a s; rw [show xe r (.mk f x m p l) t = yX (.mk f x m p l) a t by simp [xe,s,Except.bind]]; cases hn : yX (.mk f x m p l) a t with
  | error z =>
   go_enter Tryz.func116,Tryz.ntmps116
   go_wp2_with fail; rw [<- d]; clear d; refine wp_region_held_drew (S := fun w9 => u.grownBy w9 none) (by kernel_rfl) ?_ (fun hHeld => ?_)
   ·exact zf grn
   refine dk 0 (some 6) (.agg #[.int .i64 f,.string ⟨x.toArray⟩,.int .i64 m,.int .i64 p,sv]) rfl rfl (fun w9 hS => by obtain ⟨v,A,B,C,D⟩ := (Box.kept j.out hS).plain; go_simp) hHeld ?_; refine kQ 1 7 (pq b) hHeld ?_; refine dk 2 (some 8) (.agg #[.int .i64 f,.string ⟨x.toArray⟩,.int .i64 m,.int .i64 p,sv]) rfl rfl (fun w9 hS => by obtain ⟨v,A,B,C,D⟩ := (Box.kept j.out hS).plain; go_simp) hHeld ?_; refine kQ 4 10 (pq (ρ.ty t)) hHeld ?_; simp only [qA,qB,qC,qD]; refine rd 3 rfl fun KK hKK => ?_
   go_simp
   go_at_call 157; refine (H.out _ (zf o.out)).mono ?_; rw [s]; rintro e w1 ⟨g,rfl⟩; have E := zc (za (zf o.out) g); have i := zc (za (zf grn) g); clear g
   go_simp
   refine hKK.out _ _ i.out fun hHeld => ?_
   clear hKK KK; refine rd 5 rfl fun KK hKK => ?_
   go_simp
   go_at_call 115; refine (K.out _ E.out a ha).mono ?_; rw [hn]; rintro e M N; have J := N; obtain ⟨q,rfl⟩ := N.thrown
   exact ⟨rfl,J.err E.out⟩
  | ok _ =>
   go_enter Tryz.func116,Tryz.ntmps116
   go_wp2_with fail; rw [<- d]; clear d; refine wp_region_held_drew (S := fun w9 => u.grownBy w9 none) (by kernel_rfl) ?_ (fun hHeld => ?_)
   ·exact zf grn
   refine dk 0 (some 6) (.agg #[.int .i64 f,.string ⟨x.toArray⟩,.int .i64 m,.int .i64 p,sv]) rfl rfl (fun w9 hS => by obtain ⟨v,A,B,C,D⟩ := (Box.kept j.out hS).plain; go_simp) hHeld ?_; refine kQ 1 7 (pq b) hHeld ?_; refine dk 2 (some 8) (.agg #[.int .i64 f,.string ⟨x.toArray⟩,.int .i64 m,.int .i64 p,sv]) rfl rfl (fun w9 hS => by obtain ⟨v,A,B,C,D⟩ := (Box.kept j.out hS).plain; go_simp) hHeld ?_; refine kQ 4 10 (pq (ρ.ty t)) hHeld ?_; simp only [qA,qB,qC,qD]; refine rd 3 rfl fun KK hKK => ?_
   go_simp
   go_at_call 157; refine (H.out _ (zf o.out)).mono ?_; rw [s]; rintro e w1 ⟨g,rfl⟩; have E := zc (za (zf o.out) g); have i := zc (za (zf grn) g); clear g
   go_simp
   refine hKK.out _ _ i.out fun hHeld => ?_
   clear hKK KK; refine rd 5 rfl fun KK hKK => ?_
   go_simp
   go_at_call 115; refine (K.out _ E.out a ha).mono ?_; rw [hn]; rintro e M ⟨k,rfl⟩; have O := zc (za E.out k); have F := zc (za i.out k); clear k
   go_simp
   refine hKK.out _ _ F.out fun hHeld => ?_
   clear hKK KK; refine wpAnyH_done (by kernel_rfl) ?_ _; clear hHeld; have Q : Hid (Box M w.heap.size (.mk f x m p l) sv) := Box.kept j.out F.out; go_wp2; refine bodyPost_end (results_none rfl _ _ _) rfl ?_
   exact Cy.ok O.out
end
set_option maxHeartbeats 1000000
section
variable {ρ : Lay} {w w' w1 : World} {S : KS} {b : Nat} {c : KSc}
def KFull (S : KS) : Prop := ∀ t,t < S.ths.length -> ((S.th t).kind = 3 \/ (S.th t).kind = 1) -> ∃ i,(S.th t).ty = some i
theorem ub (h : CK ρ w S b c) {n : T} {t : Nat} (e : S.meaning c n = some t) : t < S.ths.length := by
 unfold KS.meaning at e
 split at e
 ·exact kP h e
 ·cases d : S.ahead c n with
  | none => rw [d] at e; cases e
  | some m =>
   rw [d] at e
   have f : m < S.mds.length := by
    unfold KS.ahead at d
    split at d
    ·split at d
     ·exact jy h d
     ·cases d
    ·cases d
   exact pl h f e
theorem xF {n : T} {t : Nat} (e : S.meaningC c n = .ok (some t)) : S.meaning c n = some t := by
 unfold KS.meaningC at e
 cases d : S.meaning c n with
 | some u => rw [d] at e; cases e; rfl
 | none =>
  rw [d] at e; simp only at e
  split at e
  ·cases e
  ·split at e <;> cases e
theorem sP (h : CK ρ w S b c) (n : T) (sv : Value) (hf : Fits n) (ha : AT w n.subs sv) (hs : n.kind = 25 -> 0 < n.subs.length) (hF : KFull S) {r : KR} (hne : S.meaningC c n ≠ .ok none) :
  Calls Tryz.prog 161 #[pq b,zo n sv] w (Cy w ((S.desigC c r n).map fun t => pq (ρ.ty t))) := by
 have E := zc (fun w1 (G : w.grownBy w1 none) => yT (h.up G) n sv hf (ha.kept G) hs); have M := zc h.km
 have A : ∀ t,S.meaningC c n = .ok (some t) -> t < S.ths.length := fun t e => ub h (xF e)
 have B : ∀ t,t < S.ths.length -> ((S.th t).kind = 3 \/ (S.th t).kind = 1) -> ∃ i,(S.th t).ty = some i := hF; obtain ⟨j,x,m,p,l⟩ := n
 change Calls Tryz.prog 161 #[pq b,.agg #[.int .i64 j,.string ⟨x.toArray⟩,.int .i64 m,.int .i64 p,sv]] w _
 obtain ⟨N,g⟩ : ∃ z,z = w.alloc (.cells #[.int .i64 j,.string ⟨x.toArray⟩,.int .i64 m,.int .i64 p,sv] 100) := ⟨_,rfl⟩
 have u : Hid (w.grownBy N none) := by rw [g]; exact zh grn _
 have F : Hid (Box N w.heap.size (.mk j x m p l) sv) := by rw [g]; exact Box.new w (.mk j x m p l) sv _
 clear h ha hf hs hF; cases s : S.meaningC c (.mk j x m p l) with
 | error z =>
  rw [show S.desigC c r (.mk j x m p l) = .error z by simp [KS.desigC,s,Except.bind]]
  go_enter Tryz.func161,Tryz.ntmps161
  go_wp2_with fail; go_at_call 153; rw [<- g]; refine (E.out _ u.out).mono ?_; rw [s]; rintro e w1 O; have H := O; obtain ⟨q,rfl⟩ := O.thrown
  exact ⟨rfl,H.err u.out⟩
 | ok o =>
  cases o with
  | none =>
   exact absurd s hne
  | some t =>
   have I := A t s; have C : Hid (w.cell? ⟨ρ.th t,0,none⟩ = some (.int .i64 (S.th t).kind)) := (M.out.th t I).bk.c 0 _ rfl; have J : Hid (w.cell? ⟨ρ.th t,4,none⟩ = some (ρ.tyP (S.th t).ty)) := (M.out.th t I).bk.c 4 _ rfl
   by_cases f : (S.th t).kind = 3 \/ (S.th t).kind = 1
   ·obtain ⟨i,K⟩ := B t I f
    rw [show S.desigC c r (.mk j x m p l) = .ok i by simp [KS.desigC,s,f,K,Except.bind]]; rw [K,yo] at J; clear K A B hne
    rcases f with f | f
    ·rw [f] at C
     clear f
     go_enter Tryz.func161,Tryz.ntmps161
     go_wp2_with fail; go_at_call 153; rw [<- g]; refine (E.out _ u.out).mono ?_; rw [s]; rintro e w1 ⟨d,rfl⟩; simp only [yj]; have k := zc (za u.out d); have L : Hid (Box w1 w.heap.size (.mk j x m p l) sv) := Box.kept F.out (za grn d); have v := ze k.out C.out; have D := ze k.out J.out; go_wp2
     go_ret
     exact Cy.ok k.out
    ·rw [f] at C
     clear f
     go_enter Tryz.func161,Tryz.ntmps161
     go_wp2_with fail; go_at_call 153; rw [<- g]; refine (E.out _ u.out).mono ?_; rw [s]; rintro e w1 ⟨d,rfl⟩; simp only [yj]; have k := zc (za u.out d); have L : Hid (Box w1 w.heap.size (.mk j x m p l) sv) := Box.kept F.out (za grn d); have v := ze k.out C.out; have D := ze k.out J.out; go_wp2
     go_ret
     exact Cy.ok k.out
   ·rw [show S.desigC c r (.mk j x m p l) = .error (8,p) by simp only [KS.desigC,s,Except.bind,if_neg f,thr,T.at']]
    simp only [not_or] at f
    have R : ((S.th t).kind != 3) = true := by simpa using f.1
    have U : ((S.th t).kind != 1) = true := by simpa using f.2
    clear f A B hne
    go_enter Tryz.func161,Tryz.ntmps161
    go_wp2_with fail; go_at_call 153; rw [<- g]; refine (E.out _ u.out).mono ?_; rw [s]; rintro e w1 ⟨d,rfl⟩; simp only [yj]; have k := zc (za u.out d); have L : Hid (Box w1 w.heap.size (.mk j x m p l) sv) := Box.kept F.out (za grn d); have v := ze k.out C.out; obtain ⟨_,_,_,_,_⟩ := L.out; go_wp2_with fail; go_at_call 53; refine (zu _ (.mk j x m p l) sv 8).mono ?_; rintro e V Q; have H := Q; obtain ⟨q,rfl⟩ := Q.thrown
    exact ⟨rfl,H.err k.out⟩
theorem ng (h : CK ρ w S b c) (n : T) (sv : Value) (hf : Fits n) (ha : AT w n.subs sv) (hs : n.kind = 25 -> 0 < n.subs.length) {r : KR} (hk : n.kind = 25) (hne : S.meaningC c n = .ok none) (hd : ∀ w1,w.grownBy w1 none -> Calls Tryz.prog 192 #[pq b,zo n sv] w1 (Cy w1 ((S.dotC c r n).map fun t => pq (ρ.ty t)))) :
  Calls Tryz.prog 161 #[pq b,zo n sv] w (Cy w ((S.desigC c r n).map fun t => pq (ρ.ty t))) := by
 have B := zc (fun w1 (G : w.grownBy w1 none) => yT (h.up G) n sv hf (ha.kept G) hs); have C := zc hd; obtain ⟨g,x,m,p,l⟩ := n
 change Calls Tryz.prog 161 #[pq b,.agg #[.int .i64 g,.string ⟨x.toArray⟩,.int .i64 m,.int .i64 p,sv]] w _
 obtain ⟨D,f⟩ : ∃ z,z = w.alloc (.cells #[.int .i64 g,.string ⟨x.toArray⟩,.int .i64 m,.int .i64 p,sv] 100) := ⟨_,rfl⟩
 have v : Hid (w.grownBy D none) := by rw [f]; exact zh grn _
 have E : Hid (Box D w.heap.size (.mk g x m p l) sv) := by rw [f]; exact Box.new w (.mk g x m p l) sv _
 obtain rfl : g = 25 := hk; clear h ha hf hs hd; rw [show S.desigC c r (.mk 25 x m p l) = S.dotC c r (.mk 25 x m p l) by simp [KS.desigC,hne,Except.bind,T.kind]]; cases F : S.dotC c r (.mk 25 x m p l) with
 | error z =>
  go_enter Tryz.func161,Tryz.ntmps161
  go_wp2_with fail; go_at_call 153; rw [<- f]; refine (B.out _ v.out).mono ?_; rw [hne]; rintro e w1 ⟨d,rfl⟩; simp only [zW]; have i := zc (za v.out d); have A : Hid (Box w1 w.heap.size (.mk 25 x m p l) sv) := Box.kept E.out (za grn d); obtain ⟨j,k,o,q,s⟩ := A.out; go_wp2_with fail; go_at_call 192; refine (C.out _ i.out).mono ?_; rw [F]; rintro e H I; have J := I; obtain ⟨_,rfl⟩ := I.thrown
  exact ⟨rfl,J.err i.out⟩
 | ok t =>
  go_enter Tryz.func161,Tryz.ntmps161
  go_wp2_with fail; go_at_call 153; rw [<- f]; refine (B.out _ v.out).mono ?_; rw [hne]; rintro e w1 ⟨d,rfl⟩; simp only [zW]; have i := zc (za v.out d); have A : Hid (Box w1 w.heap.size (.mk 25 x m p l) sv) := Box.kept E.out (za grn d); obtain ⟨j,k,o,q,s⟩ := A.out; go_wp2_with fail; go_at_call 192; refine (C.out _ i.out).mono ?_; rw [F]; rintro e H ⟨u,rfl⟩; have K := zc (za i.out u); have L : Hid (Box H w.heap.size (.mk 25 x m p l) sv) := Box.kept A.out (za grn u); go_wp2
  go_ret
  exact Cy.ok K.out
theorem sH (h : CK ρ w S b c) (n : T) (sv : Value) (hf : Fits n) (ha : AT w n.subs sv) (hs : n.kind = 25 -> 0 < n.subs.length) {r : KR} (hk : n.kind = 26) (hne : S.meaningC c n = .ok none) (hd : ∀ w1,w.grownBy w1 none -> Calls Tryz.prog 193 #[pq b,zo n sv] w1 (Cy w1 ((S.indexC r n).map fun t => pq (ρ.ty t)))) :
  Calls Tryz.prog 161 #[pq b,zo n sv] w (Cy w ((S.desigC c r n).map fun t => pq (ρ.ty t))) := by
 have B := zc (fun w1 (G : w.grownBy w1 none) => yT (h.up G) n sv hf (ha.kept G) hs); have C := zc hd; obtain ⟨g,x,m,p,l⟩ := n
 change Calls Tryz.prog 161 #[pq b,.agg #[.int .i64 g,.string ⟨x.toArray⟩,.int .i64 m,.int .i64 p,sv]] w _
 obtain ⟨D,f⟩ : ∃ z,z = w.alloc (.cells #[.int .i64 g,.string ⟨x.toArray⟩,.int .i64 m,.int .i64 p,sv] 100) := ⟨_,rfl⟩
 have v : Hid (w.grownBy D none) := by rw [f]; exact zh grn _
 have E : Hid (Box D w.heap.size (.mk g x m p l) sv) := by rw [f]; exact Box.new w (.mk g x m p l) sv _
 obtain rfl : g = 26 := hk; clear h ha hf hs hd; rw [show S.desigC c r (.mk 26 x m p l) = S.indexC r (.mk 26 x m p l) by simp [KS.desigC,hne,Except.bind,T.kind]]; cases F : S.indexC r (.mk 26 x m p l) with
 | error z =>
  go_enter Tryz.func161,Tryz.ntmps161
  go_wp2_with fail; go_at_call 153; rw [<- f]; refine (B.out _ v.out).mono ?_; rw [hne]; rintro e w1 ⟨d,rfl⟩; simp only [zW]; have i := zc (za v.out d); have A : Hid (Box w1 w.heap.size (.mk 26 x m p l) sv) := Box.kept E.out (za grn d); obtain ⟨j,k,o,q,s⟩ := A.out; go_wp2_with fail; go_at_call 193; refine (C.out _ i.out).mono ?_; rw [F]; rintro e H I; have J := I; obtain ⟨_,rfl⟩ := I.thrown
  exact ⟨rfl,J.err i.out⟩
 | ok t =>
  go_enter Tryz.func161,Tryz.ntmps161
  go_wp2_with fail; go_at_call 153; rw [<- f]; refine (B.out _ v.out).mono ?_; rw [hne]; rintro e w1 ⟨d,rfl⟩; simp only [zW]; have i := zc (za v.out d); have A : Hid (Box w1 w.heap.size (.mk 26 x m p l) sv) := Box.kept E.out (za grn d); obtain ⟨j,k,o,q,s⟩ := A.out; go_wp2_with fail; go_at_call 193; refine (C.out _ i.out).mono ?_; rw [F]; rintro e H ⟨u,rfl⟩; have K := zc (za i.out u); have L : Hid (Box H w.heap.size (.mk 26 x m p l) sv) := Box.kept A.out (za grn u); go_wp2
  go_ret
  exact Cy.ok K.out
theorem sA (h : CK ρ w S b c) (n : T) (sv : Value) (hf : Fits n) (ha : AT w n.subs sv) (hs : n.kind = 25 -> 0 < n.subs.length) {r : KR} (hk : n.kind = 28) (hne : S.meaningC c n = .ok none) (hd : ∀ w1,w.grownBy w1 none -> Calls Tryz.prog 191 #[pq b,zo n sv] w1 (Cy w1 ((S.guardedC c r n).map fun t => pq (ρ.ty t)))) :
  Calls Tryz.prog 161 #[pq b,zo n sv] w (Cy w ((S.desigC c r n).map fun t => pq (ρ.ty t))) := by
 have B := zc (fun w1 (G : w.grownBy w1 none) => yT (h.up G) n sv hf (ha.kept G) hs); have C := zc hd; obtain ⟨g,x,m,p,l⟩ := n
 change Calls Tryz.prog 161 #[pq b,.agg #[.int .i64 g,.string ⟨x.toArray⟩,.int .i64 m,.int .i64 p,sv]] w _
 obtain ⟨D,f⟩ : ∃ z,z = w.alloc (.cells #[.int .i64 g,.string ⟨x.toArray⟩,.int .i64 m,.int .i64 p,sv] 100) := ⟨_,rfl⟩
 have v : Hid (w.grownBy D none) := by rw [f]; exact zh grn _
 have E : Hid (Box D w.heap.size (.mk g x m p l) sv) := by rw [f]; exact Box.new w (.mk g x m p l) sv _
 obtain rfl : g = 28 := hk; clear h ha hf hs hd; rw [show S.desigC c r (.mk 28 x m p l) = S.guardedC c r (.mk 28 x m p l) by simp [KS.desigC,hne,Except.bind,T.kind]]; cases F : S.guardedC c r (.mk 28 x m p l) with
 | error z =>
  go_enter Tryz.func161,Tryz.ntmps161
  go_wp2_with fail; go_at_call 153; rw [<- f]; refine (B.out _ v.out).mono ?_; rw [hne]; rintro e w1 ⟨d,rfl⟩; simp only [zW]; have i := zc (za v.out d); have A : Hid (Box w1 w.heap.size (.mk 28 x m p l) sv) := Box.kept E.out (za grn d); obtain ⟨j,k,o,q,s⟩ := A.out; go_wp2_with fail; go_at_call 191; refine (C.out _ i.out).mono ?_; rw [F]; rintro e H I; have J := I; obtain ⟨_,rfl⟩ := I.thrown
  exact ⟨rfl,J.err i.out⟩
 | ok t =>
  go_enter Tryz.func161,Tryz.ntmps161
  go_wp2_with fail; go_at_call 153; rw [<- f]; refine (B.out _ v.out).mono ?_; rw [hne]; rintro e w1 ⟨d,rfl⟩; simp only [zW]; have i := zc (za v.out d); have A : Hid (Box w1 w.heap.size (.mk 28 x m p l) sv) := Box.kept E.out (za grn d); obtain ⟨j,k,o,q,s⟩ := A.out; go_wp2_with fail; go_at_call 191; refine (C.out _ i.out).mono ?_; rw [F]; rintro e H ⟨u,rfl⟩; have K := zc (za i.out u); have L : Hid (Box H w.heap.size (.mk 28 x m p l) sv) := Box.kept A.out (za grn u); go_wp2
  go_ret
  exact Cy.ok K.out
theorem sO (h : CK ρ w S b c) (n : T) (sv : Value) (hf : Fits n) (ha : AT w n.subs sv) (hs : n.kind = 25 -> 0 < n.subs.length) (hT : KAll S) {r : KR} {u : T} {us : List T} (hk : n.kind = 27) (hl : n.subs = u :: us) (hu : CEx ρ S b c r u) (hne : S.meaningC c n = .ok none) :
  Calls Tryz.prog 161 #[pq b,zo n sv] w (Cy w ((S.desigC c r n).map fun t => pq (ρ.ty t))) := by
 have H := zc (fun w1 (G : w.grownBy w1 none) => yT (h.up G) n sv hf (ha.kept G) hs); have I := zc (fun w1 (G : w.grownBy w1 none) => kW (h.up G) n sv hf (ha.kept G) hl hu); have V := zc h.km; have E := zc hT
 have F : ∀ t,S.pointerC r n = .ok t -> t < S.tys.length /\ (S.ty t).form = 5 := fun t e => ⟨hu.lt t (by have g := (xQ e).1; unfold sub at g; rw [hl] at g; exact g),(xQ e).2⟩
 obtain ⟨j,x,m,p,l⟩ := n
 change Calls Tryz.prog 161 #[pq b,.agg #[.int .i64 j,.string ⟨x.toArray⟩,.int .i64 m,.int .i64 p,sv]] w _
 obtain ⟨J,f⟩ : ∃ z,z = w.alloc (.cells #[.int .i64 j,.string ⟨x.toArray⟩,.int .i64 m,.int .i64 p,sv] 100) := ⟨_,rfl⟩
 have C : Hid (w.grownBy J none) := by rw [f]; exact zh grn _
 have K : Hid (Box J w.heap.size (.mk j x m p l) sv) := by rw [f]; exact Box.new w (.mk j x m p l) sv _
 obtain rfl : j = 27 := hk; clear h ha hf hs hu hl hT; cases k : S.pointerC r (.mk 27 x m p l) with
 | error z =>
  rw [show S.desigC c r (.mk 27 x m p l) = .error z by simp [KS.desigC,hne,k,Except.bind,T.kind]]
  go_enter Tryz.func161,Tryz.ntmps161
  go_wp2_with fail; go_at_call 153; rw [<- f]; refine (H.out _ C.out).mono ?_; rw [hne]; rintro e w1 ⟨d,rfl⟩; simp only [zW]; have i := zc (za C.out d); have D : Hid (Box w1 w.heap.size (.mk 27 x m p l) sv) := Box.kept K.out (za grn d); obtain ⟨o,q,s,v,A⟩ := D.out; go_wp2_with fail; go_at_call 194; refine (I.out _ i.out).mono ?_; rw [k]; rintro e L M; have E := M; obtain ⟨_,rfl⟩ := M.thrown
  exact ⟨rfl,E.err i.out⟩
 | ok t =>
  obtain ⟨N,X⟩ := F t k; obtain ⟨Y,_,_⟩ := E.out.p N X
  have O : Hid (w.cell? ⟨ρ.ty t,5,none⟩ = some (pq (ρ.ty (S.of t)))) := by have g := V.out.y5 N; rw [Y] at g; exact g
  rw [show S.desigC c r (.mk 27 x m p l) = .ok (S.of t) by simp [KS.desigC,hne,k,Except.bind,T.kind]]
  go_enter Tryz.func161,Tryz.ntmps161
  go_wp2_with fail; go_at_call 153; rw [<- f]; refine (H.out _ C.out).mono ?_; rw [hne]; rintro e w1 ⟨d,rfl⟩; simp only [zW]; have i := zc (za C.out d); have D : Hid (Box w1 w.heap.size (.mk 27 x m p l) sv) := Box.kept K.out (za grn d); have Q := ze i.out O.out; obtain ⟨o,q,s,v,A⟩ := D.out; go_wp2_with fail; go_at_call 194; refine (I.out _ i.out).mono ?_; rw [k]; rintro e L ⟨B,rfl⟩; have R := zc (za i.out B); have Z : Hid (Box L w.heap.size (.mk 27 x m p l) sv) := Box.kept D.out (za grn B); have U := ze R.out O.out; go_wp2
  go_ret
  exact Cy.ok R.out
end
set_option maxHeartbeats 4000000
section
variable {ρ : Lay} {w w' w1 : World} {S : KS} {b : Nat} {c : KSc}
theorem Box.at {w : World} {b : Nat} (hb : b = w.heap.size) (t : T) (sv : Value) (ty : TypeId) : Box (w.alloc (.cells #[.int .i64 t.kind,.string ⟨t.name.toArray⟩,.int .i64 t.num,.int .i64 t.at',sv] ty)) b t sv := by
 subst hb
 exact Box.new w t sv ty
theorem Box.alloc {w : World} {b : Nat} {t : T} {sv : Value} (h : Box w b t sv) (o : Obj) : Box (w.alloc o) b t sv := h.kept (World.grownBy_alloc w o none)
theorem Box.drew {w : World} {b : Nat} {t : T} {sv : Value} (h : Box w b t sv) : Box w.drew b t sv := h.kept (zf grn)
theorem dD (h : CK ρ w S b c) (n : T) (sv : Value) (hf : Fits n) (ha : AT w n.subs sv) (hT : KAll S) {r : KR} {u v : T} (hl : n.subs = [u,v]) (hu : CEx ρ S b c r u) (hv : CEx ρ S b c r v) :
  Calls Tryz.prog 190 #[pq b,zo n sv] w (Cy w ((S.operatorC r n).map fun t => pq (ρ.ty t))) := by
 have HU := zc (fun w1 (G : w.grownBy w1 none) su (fu : Fits u) (au : AT w u.subs su) => hu.run w1 su (h.up G) fu (au.kept G)); have HV := zc (fun w1 (G : w.grownBy w1 none) su (fu : Fits v) (au : AT w v.subs su) => hv.run w1 su (h.up G) fu (au.kept G)); have HK := zc h; have HT := zc hT; have d2 := hu.lt; have d3 := hv.lt; have h3 := h.ok.three; obtain ⟨B,x,m,p,l⟩ := n; obtain rfl : l = [u,v] := hl; obtain ⟨g,o,C,su,_,rfl,_,_,n5,fu,au,n6,fv,av⟩ := ha.pair; obtain ⟨ua,uc,rfl,-,-⟩ := au.form; obtain ⟨va,vc,rfl,-,-⟩ := av.form; have HA := zc au; have HF := zc fu; have F := zc av; have V := zc fv
 replace n5 := zc n5
 replace n6 := zc n6
 clear fu au fv av
 change Calls Tryz.prog 190 #[pq b,.agg #[.int .i64 B,.string ⟨x.toArray⟩,.int .i64 m,.int .i64 p,.slice (some ⟨g,o,none⟩) 2 C]] w _
 obtain ⟨w0,a3⟩ : ∃ z,z = w.alloc (.cells #[.int .i64 B,.string ⟨x.toArray⟩,.int .i64 m,.int .i64 p,.slice (some ⟨g,o,none⟩) 2 C] 100) := ⟨_,rfl⟩
 have G0 : Hid (w.grownBy w0 none) := by rw [a3]; exact zh grn _
 have B0 : Hid (Box w0 w.heap.size (.mk B x m p [u,v]) (.slice (some ⟨g,o,none⟩) 2 C)) := by rw [a3]; exact Box.new w (.mk B x m p [u,v]) (.slice (some ⟨g,o,none⟩) 2 C) _
 clear h ha hf hu hv hT
 have hz : sub (.mk B x m p [u,v]) 0 = u := rfl
 have a2 : sub (.mk B x m p [u,v]) 1 = v := rfl
 have a4 : (T.mk B x m p [u,v]).name = x := rfl
 generalize hR : S.operatorC r (.mk B x m p [u,v]) = R
 go_enter Tryz.func190,Tryz.ntmps190
 go_wp2_with fail; rw [<- a3]
 have b2 : w0.heap.size = w.heap.size + 1 := by rw [a3]; simp
 clear a3
 have HS : Hid (∀ w',w0.grownBy w' none -> w'.cell? ⟨w.heap.size,4,none⟩ = some (.slice (some ⟨g,o,none⟩) 2 C) /\ w'.cell? ⟨g,o,none⟩ = some (.int .i64 u.kind) /\ w'.cell? ⟨g,o + 1,none⟩ = some (.string ⟨u.name.toArray⟩) /\ w'.cell? ⟨g,o + 2,none⟩ = some (.int .i64 u.num) /\ w'.cell? ⟨g,o + 3,none⟩ = some (.int .i64 u.at') /\ w'.cell? ⟨g,o + 4,none⟩ = some ((.slice ua u.subs.length uc)) /\ w'.cell? ⟨g,o + 5,none⟩ = some (.int .i64 v.kind) /\ w'.cell? ⟨g,o + 6,none⟩ = some (.string ⟨v.name.toArray⟩) /\ w'.cell? ⟨g,o + 7,none⟩ = some (.int .i64 v.num) /\ w'.cell? ⟨g,o + 8,none⟩ = some (.int .i64 v.at') /\ w'.cell? ⟨g,o + 9,none⟩ = some ((.slice va v.subs.length vc))) := fun w' hg => by
  have hh := za G0.out hg
  exact ⟨ze hg B0.out.c4,ze hh n5.out.c0,ze hh n5.out.c1,ze hh n5.out.c2,ze hh n5.out.c3,ze hh n5.out.c4,ze hh n6.out.c0,ze hh n6.out.c1,ze hh n6.out.c2,ze hh n6.out.c3,ze hh n6.out.c4⟩
 go_cut [5,6] from 18 (fun s1 s2 wx => ∃ (P Q : Nat),s1 = pq P /\ s2 = pq Q /\ Box wx P u (.slice ua u.subs.length uc) /\ Box wx Q v (.slice va v.subs.length vc) /\ w0.grownBy wx none)
 case first =>
  go_region_held (fun w' => w'.cell? ⟨w.heap.size,4,none⟩ = some (.slice (some ⟨g,o,none⟩) 2 C) /\ w'.cell? ⟨g,o,none⟩ = some (.int .i64 u.kind) /\ w'.cell? ⟨g,o + 1,none⟩ = some (.string ⟨u.name.toArray⟩) /\ w'.cell? ⟨g,o + 2,none⟩ = some (.int .i64 u.num) /\ w'.cell? ⟨g,o + 3,none⟩ = some (.int .i64 u.at') /\ w'.cell? ⟨g,o + 4,none⟩ = some ((.slice ua u.subs.length uc)) /\ w'.cell? ⟨g,o + 5,none⟩ = some (.int .i64 v.kind) /\ w'.cell? ⟨g,o + 6,none⟩ = some (.string ⟨v.name.toArray⟩) /\ w'.cell? ⟨g,o + 7,none⟩ = some (.int .i64 v.num) /\ w'.cell? ⟨g,o + 8,none⟩ = some (.int .i64 v.at') /\ w'.cell? ⟨g,o + 9,none⟩ = some ((.slice va v.subs.length vc))) (exact HS.out _ (by first | with_reducible exact zf grn | with_reducible exact zf gan | with_reducible exact zf (zh gan _))) (fail)
  all_goals
   go_wp2_with fail; go_meet
  case rel => exact ⟨_,_,rfl,rfl,((Box.at b2.symm _ _ _).alloc _).drew,(Box.at (by simp [b2]) _ _ _).drew,(zf (zh gan _))⟩
  case rel => exact ⟨_,_,rfl,rfl,(Box.at (by simp [b2]) _ _ _).drew,((Box.at b2.symm _ _ _).alloc _).drew,(zf (zh gan _))⟩
 case rest =>
  obtain ⟨P,Q,rfl,rfl,N,O,gx⟩ := hcut; obtain ⟨w1,d4⟩ : ∃ z,z = wc := ⟨_,rfl⟩; subst d4; have U := zc (za G0.out gx); have B1 : Hid (Box w1 w.heap.size (.mk B x m p [u,v]) (.slice (some ⟨g,o,none⟩) 2 C)) := Box.kept B0.out gx
  replace N := zc N
  replace O := zc O
  clear gx; cases X : r.ex u with
  | error z =>
   obtain rfl : R = .error z := hR.symm.trans (by simp [KS.operatorC,hz,X,Except.bind]); go_wp2_with fail; refine wp_region_held_drew (S := fun w9 => w1.grownBy w9 none) (by kernel_rfl) ?_ (fun hHeld => ?_)
   ·exact zf grn
   refine kQ 0 18 (pq b) hHeld ?_; refine dk 1 (some 19) (zo u (.slice ua u.subs.length uc)) rfl rfl (fun w9 hS => by obtain ⟨Y,Z,q2,q3,q4⟩ := Box.kept N.out hS; go_simp) hHeld ?_; refine kQ 3 21 (pq b) hHeld ?_; refine dk 4 (some 22) (zo v (.slice va v.subs.length vc)) rfl rfl (fun w9 hS => by obtain ⟨Y,Z,q2,q3,q4⟩ := Box.kept O.out hS; go_simp) hHeld ?_; simp only [qA,qB,qC,qD]; refine rd 2 rfl fun KK hKK => ?_
   go_simp
   go_at_call 157; refine (HU.out _ (zf U.out) _ HF.out HA.out).mono ?_; rw [X]; rintro e w2 h2; have HT := h2; obtain ⟨q,rfl⟩ := h2.thrown
   exact ⟨rfl,HT.err (zf U.out)⟩
  | ok a =>
   have ha := d2 a X; cases hy : r.ex v with
   | error z =>
    obtain rfl : R = .error z := hR.symm.trans (by simp [KS.operatorC,hz,a2,X,hy,Except.bind]); go_wp2_with fail; refine wp_region_held_drew (S := fun w9 => w1.grownBy w9 none) (by kernel_rfl) ?_ (fun hHeld => ?_)
    ·exact zf grn
    refine kQ 0 18 (pq b) hHeld ?_; refine dk 1 (some 19) (zo u (.slice ua u.subs.length uc)) rfl rfl (fun w9 hS => by obtain ⟨Y,Z,q2,q3,q4⟩ := Box.kept N.out hS; go_simp) hHeld ?_; refine kQ 3 21 (pq b) hHeld ?_; refine dk 4 (some 22) (zo v (.slice va v.subs.length vc)) rfl rfl (fun w9 hS => by obtain ⟨Y,Z,q2,q3,q4⟩ := Box.kept O.out hS; go_simp) hHeld ?_; simp only [qA,qB,qC,qD]; refine rd 2 rfl fun KK hKK => ?_
    go_simp
    go_at_call 157; refine (HU.out _ (zf U.out) _ HF.out HA.out).mono ?_; rw [X]; rintro e w2 ⟨f,rfl⟩; have D := zc (za (zf U.out) f); have k := zc (za (zf grn) f); clear f
    go_simp
    refine hKK.out _ _ k.out fun hHeld => ?_
    clear hKK KK; refine rd 5 rfl fun KK hKK => ?_
    go_simp
    go_at_call 157; refine (HV.out _ D.out _ V.out F.out).mono ?_; rw [hy]; rintro e w3 h3; have HT := h3; obtain ⟨q,rfl⟩ := h3.thrown
    exact ⟨rfl,HT.err D.out⟩
   | ok e =>
    have hb := d3 e hy
    have d6 : xd x < S.tys.length := by unfold xd; split <;> omega
    have a5 : yD x < S.tys.length := by unfold yD; split <;> omega
    by_cases j : x = vK \/ x = so
    ·cases hm : S.mayEq a e
     ·obtain rfl : R = .error (7,p) := hR.symm.trans (by simp [KS.operatorC,hz,a2,a4,X,hy,j,hm,Except.bind,thr,T.at'])
      rcases j with j | j
      ·subst j
       go_wp2_with fail; refine wp_region_held_drew (S := fun w9 => w1.grownBy w9 none) (by kernel_rfl) ?_ (fun hHeld => ?_)
       ·exact zf grn
       refine kQ 0 18 (pq b) hHeld ?_; refine dk 1 (some 19) (zo u (.slice ua u.subs.length uc)) rfl rfl (fun w9 hS => by obtain ⟨Y,Z,q2,q3,q4⟩ := Box.kept N.out hS; go_simp) hHeld ?_; refine kQ 3 21 (pq b) hHeld ?_; refine dk 4 (some 22) (zo v (.slice va v.subs.length vc)) rfl rfl (fun w9 hS => by obtain ⟨Y,Z,q2,q3,q4⟩ := Box.kept O.out hS; go_simp) hHeld ?_; simp only [qA,qB,qC,qD]; refine rd 2 rfl fun KK hKK => ?_
       go_simp
       go_at_call 157; refine (HU.out _ (zf U.out) _ HF.out HA.out).mono ?_; rw [X]; rintro e w2 ⟨f,rfl⟩; have D := zc (za (zf U.out) f); have k := zc (za (zf grn) f); clear f
       go_simp
       refine hKK.out _ _ k.out fun hHeld => ?_
       clear hKK KK; refine rd 5 rfl fun KK hKK => ?_
       go_simp
       go_at_call 157; refine (HV.out _ D.out _ V.out F.out).mono ?_; rw [hy]; rintro e w3 ⟨i,rfl⟩; have A := zc (za D.out i); have d := zc (za k.out i); clear i
       go_simp
       refine hKK.out _ _ d.out fun hHeld => ?_
       clear hKK KK; refine kQ 6 7 (pq (ρ.ty a)) hHeld ?_; refine kQ 7 8 (pq (ρ.ty e)) hHeld ?_; simp only [qA,qB,qC,qD]; refine wpAnyH_done (by kernel_rfl) ?_ _; clear hHeld; have M : Hid (Box w3 w.heap.size (.mk B vK m p [u,v]) (.slice (some ⟨g,o,none⟩) 2 C)) := Box.kept B1.out d.out; have E := zc (Box.kept N.out d.out); have a0 := zc (Box.kept O.out d.out); obtain ⟨H,I,J,K,L⟩ := M.out; go_wp2_with fail; go_at_call 208; refine (uW (HK.out.up A.out) HT.out ha hb).mono ?_; rw [hm]; rintro e w4 ⟨rfl,s⟩; have G4 := zc (za A.out s); have B4 : Hid (Box w4 w.heap.size (.mk B vK m p [u,v]) (.slice (some ⟨g,o,none⟩) 2 C)) := Box.kept M.out (za grn s); obtain ⟨a6,a7,a8,a9,b0⟩ := B4.out; go_wp2_with fail; go_at_call 53; refine (zu _ (.mk B vK m p [u,v]) (.slice (some ⟨g,o,none⟩) 2 C) 7).mono ?_; rintro e w5 h5; have HT := h5; obtain ⟨q,rfl⟩ := h5.thrown
       exact ⟨rfl,HT.err G4.out⟩
      ·have e1 : (x == [61]) = false := by subst j; rfl
       subst j; go_wp2_with fail; refine wp_region_held_drew (S := fun w9 => w1.grownBy w9 none) (by kernel_rfl) ?_ (fun hHeld => ?_)
       ·exact zf grn
       refine kQ 0 18 (pq b) hHeld ?_; refine dk 1 (some 19) (zo u (.slice ua u.subs.length uc)) rfl rfl (fun w9 hS => by obtain ⟨Y,Z,q2,q3,q4⟩ := Box.kept N.out hS; go_simp) hHeld ?_; refine kQ 3 21 (pq b) hHeld ?_; refine dk 4 (some 22) (zo v (.slice va v.subs.length vc)) rfl rfl (fun w9 hS => by obtain ⟨Y,Z,q2,q3,q4⟩ := Box.kept O.out hS; go_simp) hHeld ?_; simp only [qA,qB,qC,qD]; refine rd 2 rfl fun KK hKK => ?_
       go_simp
       go_at_call 157; refine (HU.out _ (zf U.out) _ HF.out HA.out).mono ?_; rw [X]; rintro e w2 ⟨f,rfl⟩; have D := zc (za (zf U.out) f); have k := zc (za (zf grn) f); clear f
       go_simp
       refine hKK.out _ _ k.out fun hHeld => ?_
       clear hKK KK; refine rd 5 rfl fun KK hKK => ?_
       go_simp
       go_at_call 157; refine (HV.out _ D.out _ V.out F.out).mono ?_; rw [hy]; rintro e w3 ⟨i,rfl⟩; have A := zc (za D.out i); have d := zc (za k.out i); clear i
       go_simp
       refine hKK.out _ _ d.out fun hHeld => ?_
       clear hKK KK; refine kQ 6 7 (pq (ρ.ty a)) hHeld ?_; refine kQ 7 8 (pq (ρ.ty e)) hHeld ?_; simp only [qA,qB,qC,qD]; refine wpAnyH_done (by kernel_rfl) ?_ _; clear hHeld; have M : Hid (Box w3 w.heap.size (.mk B so m p [u,v]) (.slice (some ⟨g,o,none⟩) 2 C)) := Box.kept B1.out d.out; have E := zc (Box.kept N.out d.out); have a0 := zc (Box.kept O.out d.out); obtain ⟨H,I,J,K,L⟩ := M.out; go_wp2_with fail; go_at_call 208; refine (uW (HK.out.up A.out) HT.out ha hb).mono ?_; rw [hm]; rintro e w4 ⟨rfl,s⟩; have G4 := zc (za A.out s); have B4 : Hid (Box w4 w.heap.size (.mk B so m p [u,v]) (.slice (some ⟨g,o,none⟩) 2 C)) := Box.kept M.out (za grn s); obtain ⟨a6,a7,a8,a9,b0⟩ := B4.out; go_wp2_with fail; go_at_call 53; refine (zu _ (.mk B so m p [u,v]) (.slice (some ⟨g,o,none⟩) 2 C) 7).mono ?_; rintro e w5 h5; have HT := h5; obtain ⟨q,rfl⟩ := h5.thrown
       exact ⟨rfl,HT.err G4.out⟩
     ·obtain rfl : R = .ok (xd x) := hR.symm.trans (by simp [KS.operatorC,hz,a2,a4,X,hy,j,hm,Except.bind])
      rcases j with j | j
      ·subst j
       go_wp2_with fail; refine wp_region_held_drew (S := fun w9 => w1.grownBy w9 none) (by kernel_rfl) ?_ (fun hHeld => ?_)
       ·exact zf grn
       refine kQ 0 18 (pq b) hHeld ?_; refine dk 1 (some 19) (zo u (.slice ua u.subs.length uc)) rfl rfl (fun w9 hS => by obtain ⟨Y,Z,q2,q3,q4⟩ := Box.kept N.out hS; go_simp) hHeld ?_; refine kQ 3 21 (pq b) hHeld ?_; refine dk 4 (some 22) (zo v (.slice va v.subs.length vc)) rfl rfl (fun w9 hS => by obtain ⟨Y,Z,q2,q3,q4⟩ := Box.kept O.out hS; go_simp) hHeld ?_; simp only [qA,qB,qC,qD]; refine rd 2 rfl fun KK hKK => ?_
       go_simp
       go_at_call 157; refine (HU.out _ (zf U.out) _ HF.out HA.out).mono ?_; rw [X]; rintro e w2 ⟨f,rfl⟩; have D := zc (za (zf U.out) f); have k := zc (za (zf grn) f); clear f
       go_simp
       refine hKK.out _ _ k.out fun hHeld => ?_
       clear hKK KK; refine rd 5 rfl fun KK hKK => ?_
       go_simp
       go_at_call 157; refine (HV.out _ D.out _ V.out F.out).mono ?_; rw [hy]; rintro e w3 ⟨i,rfl⟩; have A := zc (za D.out i); have d := zc (za k.out i); clear i
       go_simp
       refine hKK.out _ _ d.out fun hHeld => ?_
       clear hKK KK; refine kQ 6 7 (pq (ρ.ty a)) hHeld ?_; refine kQ 7 8 (pq (ρ.ty e)) hHeld ?_; simp only [qA,qB,qC,qD]; refine wpAnyH_done (by kernel_rfl) ?_ _; clear hHeld; have M : Hid (Box w3 w.heap.size (.mk B vK m p [u,v]) (.slice (some ⟨g,o,none⟩) 2 C)) := Box.kept B1.out d.out; have E := zc (Box.kept N.out d.out); have a0 := zc (Box.kept O.out d.out); obtain ⟨H,I,J,K,L⟩ := M.out; go_wp2_with fail; go_at_call 208; refine (uW (HK.out.up A.out) HT.out ha hb).mono ?_; rw [hm]; rintro e w4 ⟨rfl,s⟩; have G4 := zc (za A.out s); have B4 : Hid (Box w4 w.heap.size (.mk B vK m p [u,v]) (.slice (some ⟨g,o,none⟩) 2 C)) := Box.kept M.out (za grn s); obtain ⟨a6,a7,a8,a9,b0⟩ := B4.out; go_wp2_with fail; go_at_call 151; refine (xI (HK.out.up G4.out) vK).mono ?_; rintro e w5 ⟨rfl,b1⟩; rw [b1]; clear b1; go_wp2
       go_ret
       exact Cy.ok G4.out
      ·have e1 : (x == [61]) = false := by subst j; rfl
       subst j; go_wp2_with fail; refine wp_region_held_drew (S := fun w9 => w1.grownBy w9 none) (by kernel_rfl) ?_ (fun hHeld => ?_)
       ·exact zf grn
       refine kQ 0 18 (pq b) hHeld ?_; refine dk 1 (some 19) (zo u (.slice ua u.subs.length uc)) rfl rfl (fun w9 hS => by obtain ⟨Y,Z,q2,q3,q4⟩ := Box.kept N.out hS; go_simp) hHeld ?_; refine kQ 3 21 (pq b) hHeld ?_; refine dk 4 (some 22) (zo v (.slice va v.subs.length vc)) rfl rfl (fun w9 hS => by obtain ⟨Y,Z,q2,q3,q4⟩ := Box.kept O.out hS; go_simp) hHeld ?_; simp only [qA,qB,qC,qD]; refine rd 2 rfl fun KK hKK => ?_
       go_simp
       go_at_call 157; refine (HU.out _ (zf U.out) _ HF.out HA.out).mono ?_; rw [X]; rintro e w2 ⟨f,rfl⟩; have D := zc (za (zf U.out) f); have k := zc (za (zf grn) f); clear f
       go_simp
       refine hKK.out _ _ k.out fun hHeld => ?_
       clear hKK KK; refine rd 5 rfl fun KK hKK => ?_
       go_simp
       go_at_call 157; refine (HV.out _ D.out _ V.out F.out).mono ?_; rw [hy]; rintro e w3 ⟨i,rfl⟩; have A := zc (za D.out i); have d := zc (za k.out i); clear i
       go_simp
       refine hKK.out _ _ d.out fun hHeld => ?_
       clear hKK KK; refine kQ 6 7 (pq (ρ.ty a)) hHeld ?_; refine kQ 7 8 (pq (ρ.ty e)) hHeld ?_; simp only [qA,qB,qC,qD]; refine wpAnyH_done (by kernel_rfl) ?_ _; clear hHeld; have M : Hid (Box w3 w.heap.size (.mk B so m p [u,v]) (.slice (some ⟨g,o,none⟩) 2 C)) := Box.kept B1.out d.out; have E := zc (Box.kept N.out d.out); have a0 := zc (Box.kept O.out d.out); obtain ⟨H,I,J,K,L⟩ := M.out; go_wp2_with fail; go_at_call 208; refine (uW (HK.out.up A.out) HT.out ha hb).mono ?_; rw [hm]; rintro e w4 ⟨rfl,s⟩; have G4 := zc (za A.out s); have B4 : Hid (Box w4 w.heap.size (.mk B so m p [u,v]) (.slice (some ⟨g,o,none⟩) 2 C)) := Box.kept M.out (za grn s); obtain ⟨a6,a7,a8,a9,b0⟩ := B4.out; go_wp2_with fail; go_at_call 151; refine (xI (HK.out.up G4.out) so).mono ?_; rintro e w5 ⟨rfl,b1⟩; rw [b1]; clear b1; go_wp2
       go_ret
       exact Cy.ok G4.out
    ·have e1 : (x == [61]) = false := by simp only [not_or] at j; simpa [vK] using j.1
     have e2 : (x == [35]) = false := by simp only [not_or] at j; simpa [so] using j.2
     cases hn : yX u a (yD x) with
     | error z =>
      obtain rfl : R = .error z := hR.symm.trans (by simp only [KS.operatorC,hz,a2,a4,X,hy,if_neg j,hn,Except.bind]); clear j; go_wp2_with fail; refine wp_region_held_drew (S := fun w9 => w1.grownBy w9 none) (by kernel_rfl) ?_ (fun hHeld => ?_)
      ·exact zf grn
      refine kQ 0 18 (pq b) hHeld ?_; refine dk 1 (some 19) (zo u (.slice ua u.subs.length uc)) rfl rfl (fun w9 hS => by obtain ⟨Y,Z,q2,q3,q4⟩ := Box.kept N.out hS; go_simp) hHeld ?_; refine kQ 3 21 (pq b) hHeld ?_; refine dk 4 (some 22) (zo v (.slice va v.subs.length vc)) rfl rfl (fun w9 hS => by obtain ⟨Y,Z,q2,q3,q4⟩ := Box.kept O.out hS; go_simp) hHeld ?_; simp only [qA,qB,qC,qD]; refine rd 2 rfl fun KK hKK => ?_
      go_simp
      go_at_call 157; refine (HU.out _ (zf U.out) _ HF.out HA.out).mono ?_; rw [X]; rintro e w2 ⟨f,rfl⟩; have D := zc (za (zf U.out) f); have k := zc (za (zf grn) f); clear f
      go_simp
      refine hKK.out _ _ k.out fun hHeld => ?_
      clear hKK KK; refine rd 5 rfl fun KK hKK => ?_
      go_simp
      go_at_call 157; refine (HV.out _ D.out _ V.out F.out).mono ?_; rw [hy]; rintro e w3 ⟨i,rfl⟩; have A := zc (za D.out i); have d := zc (za k.out i); clear i
      go_simp
      refine hKK.out _ _ d.out fun hHeld => ?_
      clear hKK KK; refine kQ 6 7 (pq (ρ.ty a)) hHeld ?_; refine kQ 7 8 (pq (ρ.ty e)) hHeld ?_; simp only [qA,qB,qC,qD]; refine wpAnyH_done (by kernel_rfl) ?_ _; clear hHeld; have M : Hid (Box w3 w.heap.size (.mk B x m p [u,v]) (.slice (some ⟨g,o,none⟩) 2 C)) := Box.kept B1.out d.out; have E := zc (Box.kept N.out d.out); have a0 := zc (Box.kept O.out d.out); obtain ⟨H,I,J,K,L⟩ := M.out; go_wp2_with fail; go_at_call 150; refine (xY (HK.out.up A.out) x).mono ?_; rintro e w4 ⟨rfl,a1⟩; rw [a1]; clear a1; obtain ⟨b4,b5,b6,b7,b8⟩ := E.out; go_wp2_with fail; go_at_call 115; refine (zP (HK.out.up A.out).km u _ (HA.out.kept A.out) ha a5).mono ?_; rw [hn]; rintro e w4 h4; have HT := h4; obtain ⟨q,rfl⟩ := h4.thrown
      exact ⟨rfl,HT.err A.out⟩
     | ok _ =>
      cases b3 : yX v e (yD x) with
      | error z =>
       obtain rfl : R = .error z := hR.symm.trans (by simp only [KS.operatorC,hz,a2,a4,X,hy,if_neg j,hn,b3,Except.bind]); clear j; go_wp2_with fail; refine wp_region_held_drew (S := fun w9 => w1.grownBy w9 none) (by kernel_rfl) ?_ (fun hHeld => ?_)
       ·exact zf grn
       refine kQ 0 18 (pq b) hHeld ?_; refine dk 1 (some 19) (zo u (.slice ua u.subs.length uc)) rfl rfl (fun w9 hS => by obtain ⟨Y,Z,q2,q3,q4⟩ := Box.kept N.out hS; go_simp) hHeld ?_; refine kQ 3 21 (pq b) hHeld ?_; refine dk 4 (some 22) (zo v (.slice va v.subs.length vc)) rfl rfl (fun w9 hS => by obtain ⟨Y,Z,q2,q3,q4⟩ := Box.kept O.out hS; go_simp) hHeld ?_; simp only [qA,qB,qC,qD]; refine rd 2 rfl fun KK hKK => ?_
       go_simp
       go_at_call 157; refine (HU.out _ (zf U.out) _ HF.out HA.out).mono ?_; rw [X]; rintro e w2 ⟨f,rfl⟩; have D := zc (za (zf U.out) f); have k := zc (za (zf grn) f); clear f
       go_simp
       refine hKK.out _ _ k.out fun hHeld => ?_
       clear hKK KK; refine rd 5 rfl fun KK hKK => ?_
       go_simp
       go_at_call 157; refine (HV.out _ D.out _ V.out F.out).mono ?_; rw [hy]; rintro e w3 ⟨i,rfl⟩; have A := zc (za D.out i); have d := zc (za k.out i); clear i
       go_simp
       refine hKK.out _ _ d.out fun hHeld => ?_
       clear hKK KK; refine kQ 6 7 (pq (ρ.ty a)) hHeld ?_; refine kQ 7 8 (pq (ρ.ty e)) hHeld ?_; simp only [qA,qB,qC,qD]; refine wpAnyH_done (by kernel_rfl) ?_ _; clear hHeld; have M : Hid (Box w3 w.heap.size (.mk B x m p [u,v]) (.slice (some ⟨g,o,none⟩) 2 C)) := Box.kept B1.out d.out; have E := zc (Box.kept N.out d.out); have a0 := zc (Box.kept O.out d.out); obtain ⟨H,I,J,K,L⟩ := M.out; go_wp2_with fail; go_at_call 150; refine (xY (HK.out.up A.out) x).mono ?_; rintro e w4 ⟨rfl,a1⟩; rw [a1]; clear a1; obtain ⟨b4,b5,b6,b7,b8⟩ := E.out; go_wp2_with fail; go_at_call 115; refine (zP (HK.out.up A.out).km u _ (HA.out.kept A.out) ha a5).mono ?_; rw [hn]; rintro e w4 ⟨s,rfl⟩; have G4 := zc (za A.out s); have B4 : Hid (Box w4 w.heap.size (.mk B x m p [u,v]) (.slice (some ⟨g,o,none⟩) 2 C)) := Box.kept M.out (za grn s); have d5 := zc (Box.kept E.out (za grn s)); have b9 := zc (Box.kept a0.out (za grn s)); obtain ⟨c5,c6,c7,c8,c9⟩ := b9.out; go_wp2_with fail; go_at_call 115; refine (zP (HK.out.up G4.out).km v _ (F.out.kept G4.out) hb a5).mono ?_; rw [b3]; rintro e w5 h5; have HT := h5; obtain ⟨q,rfl⟩ := h5.thrown
       exact ⟨rfl,HT.err G4.out⟩
      | ok _ =>
       obtain rfl : R = .ok (xd x) := hR.symm.trans (by simp only [KS.operatorC,hz,a2,a4,X,hy,if_neg j,hn,b3,Except.bind]); clear j; go_wp2_with fail; refine wp_region_held_drew (S := fun w9 => w1.grownBy w9 none) (by kernel_rfl) ?_ (fun hHeld => ?_)
       ·exact zf grn
       refine kQ 0 18 (pq b) hHeld ?_; refine dk 1 (some 19) (zo u (.slice ua u.subs.length uc)) rfl rfl (fun w9 hS => by obtain ⟨Y,Z,q2,q3,q4⟩ := Box.kept N.out hS; go_simp) hHeld ?_; refine kQ 3 21 (pq b) hHeld ?_; refine dk 4 (some 22) (zo v (.slice va v.subs.length vc)) rfl rfl (fun w9 hS => by obtain ⟨Y,Z,q2,q3,q4⟩ := Box.kept O.out hS; go_simp) hHeld ?_; simp only [qA,qB,qC,qD]; refine rd 2 rfl fun KK hKK => ?_
       go_simp
       go_at_call 157; refine (HU.out _ (zf U.out) _ HF.out HA.out).mono ?_; rw [X]; rintro e w2 ⟨f,rfl⟩; have D := zc (za (zf U.out) f); have k := zc (za (zf grn) f); clear f
       go_simp
       refine hKK.out _ _ k.out fun hHeld => ?_
       clear hKK KK; refine rd 5 rfl fun KK hKK => ?_
       go_simp
       go_at_call 157; refine (HV.out _ D.out _ V.out F.out).mono ?_; rw [hy]; rintro e w3 ⟨i,rfl⟩; have A := zc (za D.out i); have d := zc (za k.out i); clear i
       go_simp
       refine hKK.out _ _ d.out fun hHeld => ?_
       clear hKK KK; refine kQ 6 7 (pq (ρ.ty a)) hHeld ?_; refine kQ 7 8 (pq (ρ.ty e)) hHeld ?_; simp only [qA,qB,qC,qD]; refine wpAnyH_done (by kernel_rfl) ?_ _; clear hHeld; have M : Hid (Box w3 w.heap.size (.mk B x m p [u,v]) (.slice (some ⟨g,o,none⟩) 2 C)) := Box.kept B1.out d.out; have E := zc (Box.kept N.out d.out); have a0 := zc (Box.kept O.out d.out); obtain ⟨H,I,J,K,L⟩ := M.out; go_wp2_with fail; go_at_call 150; refine (xY (HK.out.up A.out) x).mono ?_; rintro e w4 ⟨rfl,a1⟩; rw [a1]; clear a1; obtain ⟨b4,b5,b6,b7,b8⟩ := E.out; go_wp2_with fail; go_at_call 115; refine (zP (HK.out.up A.out).km u _ (HA.out.kept A.out) ha a5).mono ?_; rw [hn]; rintro e w4 ⟨s,rfl⟩; have G4 := zc (za A.out s); have B4 : Hid (Box w4 w.heap.size (.mk B x m p [u,v]) (.slice (some ⟨g,o,none⟩) 2 C)) := Box.kept M.out (za grn s); have d5 := zc (Box.kept E.out (za grn s)); have b9 := zc (Box.kept a0.out (za grn s)); obtain ⟨c5,c6,c7,c8,c9⟩ := b9.out; go_wp2_with fail; go_at_call 115; refine (zP (HK.out.up G4.out).km v _ (F.out.kept G4.out) hb a5).mono ?_; rw [b3]; rintro e w5 ⟨d0,rfl⟩; have G5 := zc (za G4.out d0); have B5 : Hid (Box w5 w.heap.size (.mk B x m p [u,v]) (.slice (some ⟨g,o,none⟩) 2 C)) := Box.kept B4.out (za grn d0); obtain ⟨_,_,_,_,_⟩ := B5.out; go_wp2_with fail; go_at_call 151; refine (xI (HK.out.up G5.out) x).mono ?_; rintro e w6 ⟨rfl,d1⟩; rw [d1]; clear d1; go_wp2
       go_ret
       exact Cy.ok G5.out
end
section
variable {ρ : Lay} {w w' w1 : World} {S : KS} {b : Nat} {c : KSc}
theorem vA (h : CK ρ w S b c) (n : T) (sv : Value) (hf : Fits n) (ha : AT w n.subs sv) (hs : n.kind = 25 -> 0 < n.subs.length) {r : KR} (hn : zI n = true -> CDe ρ S b c r n) :
  Calls Tryz.prog 114 #[pq b,zo n sv] w (Cy w ((S.variableC c r.de n).map fun t => pq (ρ.ty t))) := by
 have HC := zc (fun w1 (G : w.grownBy w1 none) => yT (h.up G) n sv hf (ha.kept G) hs); have HD := zc (fun (hd : zI n = true) w1 (G : w.grownBy w1 none) => (hn hd).run w1 sv (h.up G) hf (ha.kept G)); have HN := zc (fun w1 (G : w.grownBy w1 none) => gh (w := w1) n sv (ha.kept G)); have HM := zc h.km
 have a5 : ∀ t,S.meaningC c n = .ok (some t) -> t < S.ths.length := fun t e => ub h (xF e)
 obtain ⟨g,x,m,p,l⟩ := n
 change Calls Tryz.prog 114 #[pq b,.agg #[.int .i64 g,.string ⟨x.toArray⟩,.int .i64 m,.int .i64 p,sv]] w _
 obtain ⟨w0,D⟩ : ∃ z,z = w.alloc (.cells #[.int .i64 g,.string ⟨x.toArray⟩,.int .i64 m,.int .i64 p,sv] 100) := ⟨_,rfl⟩
 have M : Hid (w.grownBy w0 none) := by rw [D]; exact zh grn _
 have B0 : Hid (Box w0 w.heap.size (.mk g x m p l) sv) := by rw [D]; exact Box.new w (.mk g x m p l) sv _
 clear h ha hf hs hn; cases B : zI (.mk g x m p l)
 ·rw [show S.variableC c r.de (.mk g x m p l) = .error (8,p) by simp [KS.variableC,B,thr,T.at']]
  go_enter Tryz.func114,Tryz.ntmps114
  go_wp2_with fail; go_at_call 160; rw [<- D]; refine (HN.out _ M.out).mono ?_; rw [B]; rintro e w1 ⟨rfl,d⟩; have j := zc (za M.out d); have C : Hid (Box w1 w.heap.size (.mk g x m p l) sv) := Box.kept B0.out (za grn d); obtain ⟨k,s,u,v,A⟩ := C.out.plain; go_wp2_with fail; go_at_call 53; refine (zu _ (.mk g x m p l) sv 8).mono ?_; rintro e Q h2; have U := h2; obtain ⟨q,rfl⟩ := h2.thrown
  exact ⟨rfl,U.err j.out⟩
 cases N : S.meaningC c (.mk g x m p l) with
 | error z =>
  rw [show S.variableC c r.de (.mk g x m p l) = .error z by simp [KS.variableC,B,N,Except.bind]]
  go_enter Tryz.func114,Tryz.ntmps114
  go_wp2_with fail; go_at_call 160; rw [<- D]; refine (HN.out _ M.out).mono ?_; rw [B]; rintro e w1 ⟨rfl,d⟩; have j := zc (za M.out d); have C : Hid (Box w1 w.heap.size (.mk g x m p l) sv) := Box.kept B0.out (za grn d); obtain ⟨k,s,u,v,A⟩ := C.out.plain; go_wp2_with fail; go_at_call 153; refine (HC.out _ j.out).mono ?_; rw [N]; rintro e Q h2; have U := h2; obtain ⟨q,rfl⟩ := h2.thrown
  exact ⟨rfl,U.err j.out⟩
 | ok o =>
  cases o with
  | none =>
   cases V : r.de (.mk g x m p l) with
   | error z =>
    rw [show S.variableC c r.de (.mk g x m p l) = .error z by simp [KS.variableC,B,N,V,Except.bind]]
    go_enter Tryz.func114,Tryz.ntmps114
    go_wp2_with fail; go_at_call 160; rw [<- D]; refine (HN.out _ M.out).mono ?_; rw [B]; rintro e w1 ⟨rfl,d⟩; have j := zc (za M.out d); have C : Hid (Box w1 w.heap.size (.mk g x m p l) sv) := Box.kept B0.out (za grn d); obtain ⟨k,s,u,v,A⟩ := C.out.plain; go_wp2_with fail; go_at_call 153; refine (HC.out _ j.out).mono ?_; rw [N]; rintro e Q ⟨f,rfl⟩; simp only [zW]; have E := zc (za j.out f); have O : Hid (Box Q w.heap.size (.mk g x m p l) sv) := Box.kept C.out (za grn f); obtain ⟨H,I,J,K,L⟩ := O.out.plain; go_wp2_with fail; go_at_call 161; refine (HD.out B _ E.out).mono ?_; rw [V]; rintro e w3 R; have U := R; obtain ⟨q,rfl⟩ := R.thrown
    exact ⟨rfl,U.err E.out⟩
   | ok i =>
    by_cases hk : g = 28
    ·subst hk
     rw [show S.variableC c r.de (.mk 28 x m p l) = .error (8,p) by simp [KS.variableC,B,N,V,Except.bind,T.kind,thr,T.at']]
     go_enter Tryz.func114,Tryz.ntmps114
     go_wp2_with fail; go_at_call 160; rw [<- D]; refine (HN.out _ M.out).mono ?_; rw [B]; rintro e w1 ⟨rfl,d⟩; have j := zc (za M.out d); have C : Hid (Box w1 w.heap.size (.mk 28 x m p l) sv) := Box.kept B0.out (za grn d); obtain ⟨k,s,u,v,A⟩ := C.out.plain; go_wp2_with fail; go_at_call 153; refine (HC.out _ j.out).mono ?_; rw [N]; rintro e Q ⟨f,rfl⟩; simp only [zW]; have E := zc (za j.out f); have O : Hid (Box Q w.heap.size (.mk 28 x m p l) sv) := Box.kept C.out (za grn f); obtain ⟨H,I,J,K,L⟩ := O.out.plain; go_wp2_with fail; go_at_call 161; refine (HD.out B _ E.out).mono ?_; rw [V]; rintro e w3 ⟨F,rfl⟩; have G3 := zc (za E.out F); have B3 : Hid (Box w3 w.heap.size (.mk 28 x m p l) sv) := Box.kept O.out (za grn F); obtain ⟨X,Y,Z,a0,a1⟩ := B3.out.plain; go_wp2_with fail; go_at_call 53; refine (zu _ (.mk 28 x m p l) sv 8).mono ?_; rintro e w4 h4; have U := h4; obtain ⟨q,rfl⟩ := h4.thrown
     exact ⟨rfl,U.err G3.out⟩
    ·have hd : decide (g = 28) = false := by simpa using hk
     have a6 : (g == 28) = false := by simpa using hk
     rw [show S.variableC c r.de (.mk g x m p l) = .ok i by simp [KS.variableC,B,N,V,hk,Except.bind,T.kind]]
     go_enter Tryz.func114,Tryz.ntmps114
     go_wp2_with fail; go_at_call 160; rw [<- D]; refine (HN.out _ M.out).mono ?_; rw [B]; rintro e w1 ⟨rfl,d⟩; have j := zc (za M.out d); have C : Hid (Box w1 w.heap.size (.mk g x m p l) sv) := Box.kept B0.out (za grn d); obtain ⟨k,s,u,v,A⟩ := C.out.plain; go_wp2_with fail; go_at_call 153; refine (HC.out _ j.out).mono ?_; rw [N]; rintro e Q ⟨f,rfl⟩; simp only [zW]; have E := zc (za j.out f); have O : Hid (Box Q w.heap.size (.mk g x m p l) sv) := Box.kept C.out (za grn f); obtain ⟨H,I,J,K,L⟩ := O.out.plain; go_wp2_with fail; go_at_call 161; refine (HD.out B _ E.out).mono ?_; rw [V]; rintro e w3 ⟨F,rfl⟩; have G3 := zc (za E.out F); have B3 : Hid (Box w3 w.heap.size (.mk g x m p l) sv) := Box.kept O.out (za grn F); obtain ⟨X,Y,Z,a0,a1⟩ := B3.out.plain; go_wp2
     go_ret
     exact Cy.ok G3.out
  | some t =>
   have ht := a5 t N; have t0 : Hid (w.cell? ⟨ρ.th t,0,none⟩ = some (.int .i64 (S.th t).kind)) := (HM.out.th t ht).bk.c 0 _ rfl
   by_cases R : (S.th t).kind = 3
   ·rw [R] at t0
    cases V : r.de (.mk g x m p l) with
    | error z =>
     rw [show S.variableC c r.de (.mk g x m p l) = .error z by simp [KS.variableC,B,N,V,R,Except.bind]]
     go_enter Tryz.func114,Tryz.ntmps114
     go_wp2_with fail; go_at_call 160; rw [<- D]; refine (HN.out _ M.out).mono ?_; rw [B]; rintro e w1 ⟨rfl,d⟩; have j := zc (za M.out d); have C : Hid (Box w1 w.heap.size (.mk g x m p l) sv) := Box.kept B0.out (za grn d); have a2 := ze j.out t0.out; obtain ⟨k,s,u,v,A⟩ := C.out.plain; go_wp2_with fail; go_at_call 153; refine (HC.out _ j.out).mono ?_; rw [N]; rintro e Q ⟨f,rfl⟩; simp only [yj]; have E := zc (za j.out f); have O : Hid (Box Q w.heap.size (.mk g x m p l) sv) := Box.kept C.out (za grn f); have a3 := ze E.out t0.out; obtain ⟨H,I,J,K,L⟩ := O.out.plain; go_wp2_with fail; go_at_call 161; refine (HD.out B _ E.out).mono ?_; rw [V]; rintro e w3 R; have U := R; obtain ⟨q,rfl⟩ := R.thrown
     exact ⟨rfl,U.err E.out⟩
    | ok i =>
     by_cases hk : g = 28
     ·subst hk
      rw [show S.variableC c r.de (.mk 28 x m p l) = .error (8,p) by simp [KS.variableC,B,N,V,R,Except.bind,T.kind,thr,T.at']]
      go_enter Tryz.func114,Tryz.ntmps114
      go_wp2_with fail; go_at_call 160; rw [<- D]; refine (HN.out _ M.out).mono ?_; rw [B]; rintro e w1 ⟨rfl,d⟩; have j := zc (za M.out d); have C : Hid (Box w1 w.heap.size (.mk 28 x m p l) sv) := Box.kept B0.out (za grn d); have a2 := ze j.out t0.out; obtain ⟨k,s,u,v,A⟩ := C.out.plain; go_wp2_with fail; go_at_call 153; refine (HC.out _ j.out).mono ?_; rw [N]; rintro e Q ⟨f,rfl⟩; simp only [yj]; have E := zc (za j.out f); have O : Hid (Box Q w.heap.size (.mk 28 x m p l) sv) := Box.kept C.out (za grn f); have a3 := ze E.out t0.out; obtain ⟨H,I,J,K,L⟩ := O.out.plain; go_wp2_with fail; go_at_call 161; refine (HD.out B _ E.out).mono ?_; rw [V]; rintro e w3 ⟨F,rfl⟩; have G3 := zc (za E.out F); have B3 : Hid (Box w3 w.heap.size (.mk 28 x m p l) sv) := Box.kept O.out (za grn F); have a4 := ze G3.out t0.out; obtain ⟨X,Y,Z,a0,a1⟩ := B3.out.plain; go_wp2_with fail; go_at_call 53; refine (zu _ (.mk 28 x m p l) sv 8).mono ?_; rintro e w4 h4; have U := h4; obtain ⟨q,rfl⟩ := h4.thrown
      exact ⟨rfl,U.err G3.out⟩
     ·have hd : decide (g = 28) = false := by simpa using hk
      have a6 : (g == 28) = false := by simpa using hk
      rw [show S.variableC c r.de (.mk g x m p l) = .ok i by simp [KS.variableC,B,N,V,hk,R,Except.bind,T.kind]]
      go_enter Tryz.func114,Tryz.ntmps114
      go_wp2_with fail; go_at_call 160; rw [<- D]; refine (HN.out _ M.out).mono ?_; rw [B]; rintro e w1 ⟨rfl,d⟩; have j := zc (za M.out d); have C : Hid (Box w1 w.heap.size (.mk g x m p l) sv) := Box.kept B0.out (za grn d); have a2 := ze j.out t0.out; obtain ⟨k,s,u,v,A⟩ := C.out.plain; go_wp2_with fail; go_at_call 153; refine (HC.out _ j.out).mono ?_; rw [N]; rintro e Q ⟨f,rfl⟩; simp only [yj]; have E := zc (za j.out f); have O : Hid (Box Q w.heap.size (.mk g x m p l) sv) := Box.kept C.out (za grn f); have a3 := ze E.out t0.out; obtain ⟨H,I,J,K,L⟩ := O.out.plain; go_wp2_with fail; go_at_call 161; refine (HD.out B _ E.out).mono ?_; rw [V]; rintro e w3 ⟨F,rfl⟩; have G3 := zc (za E.out F); have B3 : Hid (Box w3 w.heap.size (.mk g x m p l) sv) := Box.kept O.out (za grn F); have a4 := ze G3.out t0.out; obtain ⟨X,Y,Z,a0,a1⟩ := B3.out.plain; go_wp2
      go_ret
      exact Cy.ok G3.out
   ·have hd : ((S.th t).kind != 3) = true := by simpa using R
    rw [show S.variableC c r.de (.mk g x m p l) = .error (8,p) by simp [KS.variableC,B,N,R,Except.bind,thr,T.at']]
    go_enter Tryz.func114,Tryz.ntmps114
    go_wp2_with fail; go_at_call 160; rw [<- D]; refine (HN.out _ M.out).mono ?_; rw [B]; rintro e w1 ⟨rfl,d⟩; have j := zc (za M.out d); have C : Hid (Box w1 w.heap.size (.mk g x m p l) sv) := Box.kept B0.out (za grn d); have a2 := ze j.out t0.out; obtain ⟨k,s,u,v,A⟩ := C.out.plain; go_wp2_with fail; go_at_call 153; refine (HC.out _ j.out).mono ?_; rw [N]; rintro e Q ⟨f,rfl⟩; simp only [yj]; have E := zc (za j.out f); have O : Hid (Box Q w.heap.size (.mk g x m p l) sv) := Box.kept C.out (za grn f); have a3 := ze E.out t0.out; obtain ⟨H,I,J,K,L⟩ := O.out.plain; go_wp2_with fail; go_at_call 53; refine (zu _ (.mk g x m p l) sv 8).mono ?_; rintro e w3 R; have U := R; obtain ⟨q,rfl⟩ := R.thrown
    exact ⟨rfl,U.err E.out⟩
theorem bind_ok {α β : Type} {x : CR α} {f : α -> CR β} {t : β} (h : x.bind f = .ok t) : ∃ a,x = .ok a /\ f a = .ok t := by
 cases x with
 | error z => cases h
 | ok a => exact ⟨a,rfl,h⟩
theorem vI {r : KR} {n : T} {t : Nat} (hn : zI n = true -> CDe ρ S b c r n) (e : S.variableC c r.de n = .ok t) : t < S.tys.length := by
 unfold KS.variableC at e
 by_cases d : zI n = true
 ·rw [if_pos d] at e
  obtain ⟨m,-,e⟩ := bind_ok e
  have f : (r.de n).bind (fun t => if n.kind = 28 then thr n 8 else .ok t) = .ok t := by
   cases m with
   | none => simpa using e
   | some u =>
    by_cases g : (S.th u).kind = 3
    ·simpa [g] using e
    ·simp [g,thr] at e
  obtain ⟨_,h,e⟩ := bind_ok f
  split at e
  ·cases e
  ·cases e; exact (hn d).lt _ h
 ·rw [if_neg d] at e
  cases e
theorem rQ (h : CK ρ w S b c) (n : T) (sv : Value) (hf : Fits n) (ha : AT w n.subs sv) (hs : n.kind = 25 -> 0 < n.subs.length) {r : KR} (hn : CDe ρ S b c r n) :
  Calls Tryz.prog 158 #[pq b,zo n sv] w (Cy w ((S.calledC c r n).map fun t => pq (ρ.pr t))) := by
 have H := zc (fun w1 (G : w.grownBy w1 none) => yT (h.up G) n sv hf (ha.kept G) hs); have Y := zc (fun w1 (G : w.grownBy w1 none) => hn.run w1 sv (h.up G) hf (ha.kept G)); have Z := zc h.km
 have R : ∀ t,S.meaningC c n = .ok (some t) -> t < S.ths.length := fun t e => ub h (xF e)
 have U : ∀ t,t < S.ths.length -> (S.th t).kind = 4 -> ∃ p,(S.th t).proc = some p := fun t I hk => by obtain ⟨p,N,_⟩ := h.ok.kpr t I hk; exact ⟨p,N⟩
 obtain ⟨f,x,m,p,l⟩ := n
 change Calls Tryz.prog 158 #[pq b,.agg #[.int .i64 f,.string ⟨x.toArray⟩,.int .i64 m,.int .i64 p,sv]] w _
 obtain ⟨w0,g⟩ : ∃ z,z = w.alloc (.cells #[.int .i64 f,.string ⟨x.toArray⟩,.int .i64 m,.int .i64 p,sv] 100) := ⟨_,rfl⟩
 have C : Hid (w.grownBy w0 none) := by rw [g]; exact zh grn _
 have O : Hid (Box w0 w.heap.size (.mk f x m p l) sv) := by rw [g]; exact Box.new w (.mk f x m p l) sv _
 clear h ha hf hs hn; cases k : S.meaningC c (.mk f x m p l) with
 | error z =>
  rw [show S.calledC c r (.mk f x m p l) = .error z by simp [KS.calledC,k,Except.bind]]
  go_enter Tryz.func158,Tryz.ntmps158
  go_wp2_with fail; go_at_call 153; rw [<- g]; refine (H.out _ C.out).mono ?_; rw [k]; rintro e w1 N; have E := N; obtain ⟨q,rfl⟩ := N.thrown
  exact ⟨rfl,E.err C.out⟩
 | ok o =>
  cases o with
  | none =>
   cases Q : r.de (.mk f x m p l) with
   | error z =>
    rw [show S.calledC c r (.mk f x m p l) = .error z by simp [KS.calledC,k,Q,Except.bind]]
    go_enter Tryz.func158,Tryz.ntmps158
    go_wp2_with fail; go_at_call 153; rw [<- g]; refine (H.out _ C.out).mono ?_; rw [k]; rintro e w1 ⟨d,rfl⟩; simp only [zW]; have j := zc (za C.out d); have D : Hid (Box w1 w.heap.size (.mk f x m p l) sv) := Box.kept O.out (za grn d); obtain ⟨s,u,v,A,B⟩ := D.out.plain; go_wp2_with fail; go_at_call 161; refine (Y.out _ j.out).mono ?_; rw [Q]; rintro e V J; have E := J; obtain ⟨q,rfl⟩ := J.thrown
    exact ⟨rfl,E.err j.out⟩
   | ok i =>
    rw [show S.calledC c r (.mk f x m p l) = .error (8,p) by simp [KS.calledC,k,Q,Except.bind,thr,T.at']]
    go_enter Tryz.func158,Tryz.ntmps158
    go_wp2_with fail; go_at_call 153; rw [<- g]; refine (H.out _ C.out).mono ?_; rw [k]; rintro e w1 ⟨d,rfl⟩; simp only [zW]; have j := zc (za C.out d); have D : Hid (Box w1 w.heap.size (.mk f x m p l) sv) := Box.kept O.out (za grn d); obtain ⟨s,u,v,A,B⟩ := D.out.plain; go_wp2_with fail; go_at_call 161; refine (Y.out _ j.out).mono ?_; rw [Q]; rintro e V ⟨K,rfl⟩; have G2 := zc (za j.out K); have B2 : Hid (Box V w.heap.size (.mk f x m p l) sv) := Box.kept D.out (za grn K); obtain ⟨_,_,_,_,_⟩ := B2.out.plain; go_wp2_with fail; go_at_call 53; refine (zu _ (.mk f x m p l) sv 8).mono ?_; rintro e w3 h3; have E := h3; obtain ⟨q,rfl⟩ := h3.thrown
    exact ⟨rfl,E.err G2.out⟩
  | some t =>
   have I := R t k; have X : Hid (w.cell? ⟨ρ.th t,0,none⟩ = some (.int .i64 (S.th t).kind)) := (Z.out.th t I).bk.c 0 _ rfl; have t8 : Hid (w.cell? ⟨ρ.th t,8,none⟩ = some (ρ.prP (S.th t).proc)) := (Z.out.th t I).bk.c 8 _ rfl
   by_cases L : (S.th t).kind = 4
   ·obtain ⟨pp,F⟩ := U t I L
    rw [show S.calledC c r (.mk f x m p l) = .ok pp by simp [KS.calledC,k,L,F,Except.bind]]; rw [L] at X; rw [F,iU] at t8; clear F
    go_enter Tryz.func158,Tryz.ntmps158
    go_wp2_with fail; go_at_call 153; rw [<- g]; refine (H.out _ C.out).mono ?_; rw [k]; rintro e w1 ⟨d,rfl⟩; simp only [yj]; have j := zc (za C.out d); have D : Hid (Box w1 w.heap.size (.mk f x m p l) sv) := Box.kept O.out (za grn d); have M := ze j.out X.out; have a0 := ze j.out t8.out; obtain ⟨s,u,v,A,B⟩ := D.out.plain; go_wp2
    go_ret
    exact Cy.ok j.out
   ·have hd : ((S.th t).kind != 4) = true := by simpa using L
    rw [show S.calledC c r (.mk f x m p l) = .error (8,p) by simp [KS.calledC,k,L,Except.bind,thr,T.at']]
    go_enter Tryz.func158,Tryz.ntmps158
    go_wp2_with fail; go_at_call 153; rw [<- g]; refine (H.out _ C.out).mono ?_; rw [k]; rintro e w1 ⟨d,rfl⟩; simp only [yj]; have j := zc (za C.out d); have D : Hid (Box w1 w.heap.size (.mk f x m p l) sv) := Box.kept O.out (za grn d); have M := ze j.out X.out; obtain ⟨s,u,v,A,B⟩ := D.out.plain; go_wp2_with fail; go_at_call 53; refine (zu _ (.mk f x m p l) sv 8).mono ?_; rintro e V J; have E := J; obtain ⟨q,rfl⟩ := J.thrown
    exact ⟨rfl,E.err j.out⟩
theorem da (h : CK ρ w S b c) {r : KR} {n : T} {p : Nat} (e : S.calledC c r n = .ok p) : p < S.prs.length := by
 unfold KS.calledC at e
 cases d : S.meaningC c n with
 | error z => rw [d] at e; cases e
 | ok o =>
  rw [d] at e; cases o with
  | none =>
   simp only [Except.bind] at e; cases f : r.de n with
   | error z => rw [f] at e; cases e
   | ok i => rw [f] at e; cases e
  | some t =>
   simp only [Except.bind] at e
   split at e
   ·rename_i hk
    obtain ⟨p,g,j⟩ := h.ok.kpr t (ub h (xF d)) hk; rw [g] at e; cases e
    exact j
   ·cases e
theorem qp (h : CK ρ w S b c) (n : T) (sv : Value) (hf : Fits n) (ha : AT w n.subs sv) (hs : n.kind = 25 -> 0 < n.subs.length) (hT : KAll S) {r : KR} {q : Nat} (hql : q < S.ths.length) (hqt : ∃ i,(S.th q).ty = some i) (hx : CEx ρ S b c r n) (hn : zI n = true -> CDe ρ S b c r n) :
  Calls Tryz.prog 159 #[pq b,zo n sv,pq (ρ.th q)] w (Cy w ((S.fitsC c r n q).map fun t => .bool t)) := by
 obtain ⟨i,s⟩ := hqt; have U := h.ok.ty q hql i s; have I := zc h.km; have E := zc hT; have HX := zc (fun w1 (G : w.grownBy w1 none) => hx.run w1 sv (h.up G) hf (ha.kept G)); have Q := zc (fun w1 (G : w.grownBy w1 none) => vA (h.up G) n sv hf (ha.kept G) hs hn); have V := hx.lt
 have X := fun t e => vI hn (t := t) e
 have J : Hid (w.cell? ⟨ρ.th q,4,none⟩ = some (pq (ρ.ty i))) := by have h9 := (h.km.th q hql).bk.c 4 _ rfl; rw [s] at h9; exact h9
 have Y := (h.km.th q hql).bk.c 7 _ rfl; have zt : ρ.th q < w.heap.size := zw Y; obtain ⟨g,x,m,p,l⟩ := n
 change Calls Tryz.prog 159 #[pq b,.agg #[.int .i64 g,.string ⟨x.toArray⟩,.int .i64 m,.int .i64 p,sv],pq (ρ.th q)] w _
 obtain ⟨R,f⟩ : ∃ z,z = w.alloc (.cells #[.int .i64 g,.string ⟨x.toArray⟩,.int .i64 m,.int .i64 p,sv] 100) := ⟨_,rfl⟩
 have o : Hid (w.grownBy R none) := by rw [f]; exact zh grn _
 have F : Hid (Box R w.heap.size (.mk g x m p l) sv) := by rw [f]; exact Box.new w (.mk g x m p l) sv _
 clear h ha hf hs hn hx hT; cases v : (S.th q).byVar
 ·rw [v] at Y
  cases k : r.ex (.mk g x m p l) with
  | error z =>
   rw [show S.fitsC c r (.mk g x m p l) q = .error z by simp [KS.fitsC,v,k,Except.bind]]
   go_enter Tryz.func159,Tryz.ntmps159
   go_wp2_with fail; rw [<- f]; clear f; refine wp_region_held_drew (S := fun w9 => R.grownBy w9 none) (by kernel_rfl) ?_ (fun hHeld => ?_)
   ·exact zf grn
   refine kQ 0 13 (pq (ρ.th q)) hHeld ?_; refine kQ 1 14 (pq (ρ.th q)) hHeld ?_; refine kQ 2 15 (.pointer (some ⟨ρ.th q,4,none⟩)) hHeld ?_; refine dk 3 (some 16) (pq (ρ.ty i)) rfl rfl (fun w9 hS => by have Z := ze (za o.out hS) J.out; go_simp) hHeld ?_; refine kQ 4 17 (pq b) hHeld ?_; refine dk 5 (some 18) (.agg #[.int .i64 g,.string ⟨x.toArray⟩,.int .i64 m,.int .i64 p,sv]) rfl rfl (fun w9 hS => by obtain ⟨q0,Z,q2,q3,q4⟩ := (Box.kept F.out hS).plain; go_simp) hHeld ?_; simp only [qA,qB,qC,qD]; refine rd 6 rfl fun KK hKK => ?_
   go_simp
   go_at_call 157; refine (HX.out _ (zf o.out)).mono ?_; rw [k]; rintro e w1 K; have E := K; obtain ⟨q,rfl⟩ := K.thrown
   exact ⟨rfl,E.err (zf o.out)⟩
  | ok t =>
   have B := V t k; rw [show S.fitsC c r (.mk g x m p l) q = .ok (S.takes i t) by simp [KS.fitsC,v,k,s,Except.bind]]
   go_enter Tryz.func159,Tryz.ntmps159
   go_wp2_with fail; rw [<- f]; clear f; refine wp_region_held_drew (S := fun w9 => R.grownBy w9 none) (by kernel_rfl) ?_ (fun hHeld => ?_)
   ·exact zf grn
   refine kQ 0 13 (pq (ρ.th q)) hHeld ?_; refine kQ 1 14 (pq (ρ.th q)) hHeld ?_; refine kQ 2 15 (.pointer (some ⟨ρ.th q,4,none⟩)) hHeld ?_; refine dk 3 (some 16) (pq (ρ.ty i)) rfl rfl (fun w9 hS => by have Z := ze (za o.out hS) J.out; go_simp) hHeld ?_; refine kQ 4 17 (pq b) hHeld ?_; refine dk 5 (some 18) (.agg #[.int .i64 g,.string ⟨x.toArray⟩,.int .i64 m,.int .i64 p,sv]) rfl rfl (fun w9 hS => by obtain ⟨q0,Z,q2,q3,q4⟩ := (Box.kept F.out hS).plain; go_simp) hHeld ?_; simp only [qA,qB,qC,qD]; refine rd 6 rfl fun KK hKK => ?_
   go_simp
   go_at_call 157; refine (HX.out _ (zf o.out)).mono ?_; rw [k]; rintro e w1 ⟨d,rfl⟩; have j := zc (za (zf o.out) d); have L := zc (za (zf grn) d); clear d
   go_simp
   refine hKK.out _ _ L.out fun hHeld => ?_
   clear hKK KK; refine rd 7 rfl fun KK hKK => ?_
   go_simp
   go_at_call 156; refine (yI (I.out.up j.out) E.out U B).mono ?_; rintro e w2 ⟨rfl,C⟩; have G2 := zc (za j.out C); have M := zc (za L.out C); clear C
   go_simp
   refine hKK.out _ _ M.out fun hHeld => ?_
   clear hKK KK; refine kQ 8 6 (.bool (S.takes i t)) hHeld ?_; simp only [qA,qB,qC,qD]; refine wpAnyH_done (by kernel_rfl) ?_ _; clear hHeld; have B2 : Hid (Box w2 w.heap.size (.mk g x m p l) sv) := Box.kept F.out M.out; go_wp2
   go_ret
   exact Cy.ok G2.out
 ·rw [v] at Y
  cases k : S.variableC c r.de (.mk g x m p l) with
  | error z =>
   rw [show S.fitsC c r (.mk g x m p l) q = .error z by simp [KS.fitsC,v,k,Except.bind]]
   go_enter Tryz.func159,Tryz.ntmps159
   go_wp2_with fail; go_at_call 114; rw [<- f]; refine (Q.out _ o.out).mono ?_; rw [k]; rintro e w1 K; have E := K; obtain ⟨q,rfl⟩ := K.thrown
   exact ⟨rfl,E.err o.out⟩
  | ok t =>
   have B := X t k
   by_cases u : t = i
   ·subst u
    have D := fun w1 (G : w.grownBy w1 none) => jX (I.out.up G) B B true (by simp)
    rw [show S.fitsC c r (.mk g x m p l) q = .ok true by simp [KS.fitsC,v,k,s,Except.bind]]
    go_enter Tryz.func159,Tryz.ntmps159
    go_wp2_with fail; go_at_call 114; rw [<- f]; refine (Q.out _ o.out).mono ?_; rw [k]; rintro e w1 ⟨d,rfl⟩; have j := zc (za o.out d); have B1 : Hid (Box w1 w.heap.size (.mk g x m p l) sv) := Box.kept F.out (za grn d); have A := ze j.out J.out
    replace D := D _ j.out
    go_wp2
    go_ret
    exact Cy.ok j.out
   ·have D := fun w1 (G : w.grownBy w1 none) => jX (I.out.up G) B U false (by simpa using u)
    have t0 : Hid (w.cell? ⟨ρ.ty t,0,none⟩ = some (.int .i64 (S.ty t).form)) := I.out.y0 B
    by_cases H : (S.ty t).form = 4
    ·rw [show S.fitsC c r (.mk g x m p l) q = .ok (S.ext t i) by simp [KS.fitsC,v,k,s,u,H,Except.bind]]
     have H4 := zc H; rw [H] at t0; clear H u
     go_enter Tryz.func159,Tryz.ntmps159
     go_wp2_with fail; go_at_call 114; rw [<- f]; refine (Q.out _ o.out).mono ?_; rw [k]; rintro e w1 ⟨d,rfl⟩; have j := zc (za o.out d); have B1 : Hid (Box w1 w.heap.size (.mk g x m p l) sv) := Box.kept F.out (za grn d); have A := ze j.out J.out; have N := ze j.out t0.out
     replace D := D _ j.out
     go_wp2_with fail; go_at_call 189; refine (vL (I.out.up j.out) E.out.toKTys B U H4.out).mono ?_; rintro e w2 ⟨rfl,O⟩; rw [O]; clear O; go_wp2
     go_ret
     exact Cy.ok j.out
    ·rw [show S.fitsC c r (.mk g x m p l) q = .ok false by simp [KS.fitsC,v,k,s,u,H,Except.bind]]
     have hd : decide ((S.ty t).form = 4) = false := by simpa using H
     clear u
     go_enter Tryz.func159,Tryz.ntmps159
     go_wp2_with fail; go_at_call 114; rw [<- f]; refine (Q.out _ o.out).mono ?_; rw [k]; rintro e w1 ⟨d,rfl⟩; have j := zc (za o.out d); have B1 : Hid (Box w1 w.heap.size (.mk g x m p l) sv) := Box.kept F.out (za grn d); have A := ze j.out J.out; have N := ze j.out t0.out
     replace D := D _ j.out
     go_wp2
     go_ret
     exact Cy.ok j.out
end
section
variable {ρ : Lay} {w w' w1 : World} {S : KS} {b : Nat} {c : KSc}
structure KPrs (S : KS) : Prop where
 pars : ∀ p,p < S.prs.length -> ∀ x ∈ (S.pr p).pars,x < S.ths.length /\ (S.th x).kind = 3
 res : ∀ p,p < S.prs.length -> ∀ i,(S.pr p).result = some i -> i < S.tys.length
theorem KM.pars (h : KM ρ w S) {p : Nat} (hp : p < S.prs.length) : ∃ a cp,w.cell? ⟨ρ.pr p,5,none⟩ = some (.slice a (S.pr p).pars.length cp) /\ (S.pr p).pars.length <= cp /\ cp <= maxLen /\ w.cell? ⟨ρ.pr p,6,none⟩ = some (ρ.tyP (S.pr p).result) /\
  ∀ (j : Nat) (q : Nat),(S.pr p).pars[j]? = some q -> ∃ g,a = some ⟨g,0,none⟩ /\ w.cell? ⟨g,j,none⟩ = some (pq (ρ.th q)) := by
 obtain ⟨l,m,d,-,e⟩ := (h.pr p hp).bk; obtain ⟨a,cp,rfl,f,i,k⟩ := e.read; refine ⟨a,cp,d.c 5 _ rfl,f,i,d.c 6 _ rfl,fun j q hj => ?_⟩
 exact k j _ (by rw [List.getElem?_map,hj]; rfl)
theorem mM {r : KR} {us : List T} {ps : List Nat} {j : Nat} {v : T} {q : Nat} (hv : us[j]? = some v) (hq : ps[j]? = some q) : S.argsC c r (us.drop j) (ps.drop j) = (S.fitsC c r v q).bind fun b => if b = true then S.argsC c r (us.drop (j + 1)) (ps.drop (j + 1)) else thr v 7 := by
 obtain ⟨d,rfl⟩ := List.getElem?_eq_some_iff.1 hv; obtain ⟨e,rfl⟩ := List.getElem?_eq_some_iff.1 hq; rw [List.drop_eq_getElem_cons d,List.drop_eq_getElem_cons e]
 rfl
structure CAr (ρ : Lay) (S : KS) (b : Nat) (c : KSc) (r : KR) (n : T) : Prop where
 ex : CEx ρ S b c r n
 de : zI n = true -> CDe ρ S b c r n
 dot : n.kind = 25 -> 0 < n.subs.length
theorem tf (h : CK ρ w S b c) (n : T) (sv : Value) (hf : Fits n) (ha : AT w n.subs sv) (hT : KAll S) (hF : KFull S) (hP : KPrs S) {r : KR} {u : T} {us : List T} (hl : n.subs = u :: us) (hu : CDe ρ S b c r u) (hsu : u.kind = 25 -> 0 < u.subs.length) (hus : ∀ v ∈ us,CAr ρ S b c r v) :
  Calls Tryz.prog 111 #[pq b,zo n sv] w (Cy w ((S.callC c r n).map fun t => ρ.tyP t)) := by
 have HU := zc (fun w1 (G : w.grownBy w1 none) su (fu : Fits u) (au : AT w u.subs su) => rQ (h.up G) u su fu (au.kept G) hsu hu); have HK := zc h; have HM := zc h.km; have J := zc hT; have a4 := zc hus
 have a5 : ∀ q,S.calledC c r u = .ok q -> q < S.prs.length := fun q e => da h e
 have a6 : ∀ q,q < S.prs.length -> ∀ y ∈ (S.pr q).pars,y < S.ths.length /\ ∃ i,(S.th y).ty = some i := fun q B y hy => ⟨(hP.pars q B y hy).1,hF y (hP.pars q B y hy).1 (.inl (hP.pars q B y hy).2)⟩
 obtain ⟨s,x,m,p,l⟩ := n; obtain rfl : l = u :: us := hl; obtain ⟨g,o,X,su,rfl,_,_,C,fu,au,ar⟩ := ha.cons; have HA := zc au; have HF := zc fu; have HR := zc ar; have d0 := C.c0; have d1 := C.c1; have d2 := C.c2; have d3 := C.c3; have d4 := C.c4; have zg : g < w.heap.size := zw d0; clear C fu au ar
 change Calls Tryz.prog 111 #[pq b,.agg #[.int .i64 s,.string ⟨x.toArray⟩,.int .i64 m,.int .i64 p,.slice (some ⟨g,o,none⟩) (us.length + 1) X]] w _
 obtain ⟨w0,A⟩ : ∃ z,z = w.alloc (.cells #[.int .i64 s,.string ⟨x.toArray⟩,.int .i64 m,.int .i64 p,.slice (some ⟨g,o,none⟩) (us.length + 1) X] 100) := ⟨_,rfl⟩
 have V : Hid (w.grownBy w0 none) := by rw [A]; exact zh grn _
 have B0 : Hid (Box w0 w.heap.size (.mk s x m p (u :: us)) (.slice (some ⟨g,o,none⟩) (us.length + 1) X)) := by rw [A]; exact Box.new w (.mk s x m p (u :: us)) (.slice (some ⟨g,o,none⟩) (us.length + 1) X) _
 clear h ha hf hu hus hT hF hP hsu
 have hz : sub (.mk s x m p (u :: us)) 0 = u := rfl
 have Y : (T.mk s x m p (u :: us)).subs.drop 1 = us := rfl
 cases B : S.calledC c r u with
 | error z =>
  rw [show S.callC c r (.mk s x m p (u :: us)) = .error z by simp [KS.callC,hz,B,Except.bind]]
  go_enter Tryz.func111,Tryz.ntmps111
  go_wp2_with fail; go_at_call 158; rw [<- A]; refine (HU.out _ V.out su HF.out HA.out).mono ?_; rw [B]; rintro e w1 h1; have J := h1; obtain ⟨q,rfl⟩ := h1.thrown
  exact ⟨rfl,J.err V.out⟩
 | ok q =>
  have a3 := a5 q B; obtain ⟨_,pc,K,_,a7,p6,a0⟩ := HM.out.pars a3
  replace K := zc K
  replace p6 := zc p6
  have a8 := zc a0
  have b4 : (S.pr q).pars.length <= 9223372036854775807 := by unfold maxLen at a7; omega
  clear a0
  rcases (by omega : X = 1 \/ 1 < X) with rfl | b5
  ·obtain rfl : us = [] := List.eq_nil_of_length_eq_zero (by omega)
   simp only [List.length_nil,Nat.zero_add] at A B0
   by_cases d : (S.pr q).pars.length = 0
   ·rw [show S.callC c r (.mk s x m p [u]) = .ok (S.pr q).result by simp [KS.callC,hz,Y,B,Except.bind,d,KS.argsC]]
    rw [d] at K
    go_enter Tryz.func111,Tryz.ntmps111
    go_wp2_with fail; go_at_call 158; rw [<- A]; refine (HU.out _ V.out su HF.out HA.out).mono ?_; rw [B]; rintro e w1 ⟨f,rfl⟩; have D := zc (za V.out f); have B1 : Hid (Box w1 w.heap.size (.mk s x m p [u]) (.slice (some ⟨g,o,none⟩) 1 1)) := Box.kept B0.out (za grn f); have H := ze D.out K.out; have I := ze D.out p6.out; obtain ⟨L,M,N,O,Q⟩ := B1.out.plain; go_wp2_with fail
    go_loop [30] (fun iv => iv = .int .i64 0) (fun _ => 0)
    case atStart => rfl
    case round =>
     subst hrel; go_wp2
     go_ret
     exact Cy.ok D.out
   ·rw [show S.callC c r (.mk s x m p [u]) = .error (7,p) by simp [KS.callC,hz,Y,B,Except.bind,Ne.symm d,thr,T.at']]
    have a9 : ((0 : Int) != ((S.pr q).pars.length : Int)) = true := by simp; omega
    go_enter Tryz.func111,Tryz.ntmps111
    go_wp2_with fail; go_at_call 158; rw [<- A]; refine (HU.out _ V.out su HF.out HA.out).mono ?_; rw [B]; rintro e w1 ⟨f,rfl⟩; have D := zc (za V.out f); have B1 : Hid (Box w1 w.heap.size (.mk s x m p [u]) (.slice (some ⟨g,o,none⟩) 1 1)) := Box.kept B0.out (za grn f); have H := ze D.out K.out; have I := ze D.out p6.out; obtain ⟨L,M,N,O,Q⟩ := B1.out.plain; go_wp2_with fail; go_at_call 53; refine (zu _ (.mk s x m p [u]) (.slice (some ⟨g,o,none⟩) 1 1) 7).mono ?_; rintro e w2 h2; have J := h2; obtain ⟨q,rfl⟩ := h2.thrown
    exact ⟨rfl,J.err D.out⟩
  by_cases d : us.length = (S.pr q).pars.length
  ·have hC : S.callC c r (.mk s x m p (u :: us)) = (S.argsC c r us (S.pr q).pars).bind fun _ => .ok (S.pr q).result := by simp only [KS.callC,hz,Y,B,Except.bind,if_pos d]
   rw [hC]; clear hC
   obtain ⟨RR,Z⟩ : ∃ z,z = (S.argsC c r us (S.pr q).pars).bind fun _ => (Except.ok (S.pr q).result : CR (Option Nat)) := ⟨_,rfl⟩
   rw [<- Z]; rw [<- d] at K; have HL := zc d; clear d
   go_enter Tryz.func111,Tryz.ntmps111
   go_wp2_with fail; go_at_call 158; rw [<- A]; refine (HU.out _ V.out su HF.out HA.out).mono ?_; rw [B]; rintro e w1 ⟨f,rfl⟩; have D := zc (za V.out f); have B1 : Hid (Box w1 w.heap.size (.mk s x m p (u :: us)) (.slice (some ⟨g,o,none⟩) (us.length + 1) X)) := Box.kept B0.out (za grn f); have H := ze D.out K.out; have I := ze D.out p6.out; obtain ⟨L,M,N,O,Q⟩ := B1.out.plain; go_wp2_with fail; clear H I
   go_loopw [30] (fun iv wr => ∃ j : Nat,j <= us.length /\ iv = .int .i64 ↑j /\ Hid (S.argsC c r us (S.pr q).pars = S.argsC c r (us.drop j) ((S.pr q).pars.drop j)) /\ Hid (w1.grownBy wr none)) (fun iv _ => us.length - (intOf iv).toNat)
   case atStart => exact ⟨0,Nat.zero_le _,rfl,by simp [Hid],zj _ _⟩
   case round =>
    obtain ⟨j,_,rfl,HE,HG⟩ := hrel; have GR := zc (za D.out HG.out)
    by_cases b0 : j < us.length
    ·obtain ⟨v,hv⟩ : ∃ v,us[j]? = some v := ⟨_,List.getElem?_eq_getElem b0⟩
     obtain ⟨y,hy⟩ : ∃ y,(S.pr q).pars[j]? = some y := ⟨_,List.getElem?_eq_getElem (by have h9 := HL.out; omega)⟩; obtain ⟨g',o',sw,e1,C,fv,av⟩ := HR.out.node j v hv; cases e1; obtain ⟨va,vc,rfl,-,-⟩ := av.form; obtain ⟨pg,e2,py⟩ := a8.out j y hy; subst e2; obtain ⟨a1,a2⟩ := a6 q a3 y (List.mem_of_getElem? hy); have HV := zc (a4.out v (List.mem_of_getElem? hv)); have HS := zc (mM (S := S) (c := c) (r := r) hv hy); have FV := zc fv; have AV := zc av; have PY := zc py
     replace C := C.kept GR.out
     have d0 := C.c0; have d1 := C.c1; have d2 := C.c2; have d3 := C.c3; have d4 := C.c4; have b6 : g < wr.heap.size := zw d0; clear C fv av py hv hy; go_wp2_with fail; obtain ⟨w2,R⟩ : ∃ z,z = wr.alloc (.cells #[.int .i64 v.kind,.string ⟨v.name.toArray⟩,.int .i64 v.num,.int .i64 v.at',.slice va v.subs.length vc] 100) := ⟨_,rfl⟩; rw [<- R]
     have E : Hid (w.grownBy w2 none) := by rw [R]; exact zh GR.out _
     have BV : Hid (Box w2 wr.heap.size v (.slice va v.subs.length vc)) := by rw [R]; exact Box.new wr v _ _
     have b1 : Hid (w1.grownBy w2 none) := by rw [R]; exact zh HG.out _
     clear R; cases k : S.fitsC c r v y with
     | error z =>
      obtain rfl : RR = .error z := Z.trans (by rw [HE.out,HS.out,k]; rfl)
      skip
      refine wp_region_held_drew (S := fun w9 => w2.grownBy w9 none) (by kernel_rfl) ?_ (fun hHeld => ?_)
      ·exact zf grn
      refine kQ 0 35 (pq b) hHeld ?_; refine dk 1 (some 36) (zo v (.slice va v.subs.length vc)) rfl rfl (fun w9 hS => by obtain ⟨q0,q1,q2,q3,q4⟩ := Box.kept BV.out hS; go_simp) hHeld ?_; refine kQ 2 37 (pq (ρ.pr q)) hHeld ?_; refine kQ 3 38 (pq (ρ.pr q)) hHeld ?_; refine kQ 4 39 (.pointer (some ⟨ρ.pr q,5,none⟩)) hHeld ?_; refine dk 5 (some 40) (.slice (some ⟨pg,0,none⟩) us.length pc) rfl rfl (fun w9 hS => by have q1 := ze (za E.out hS) K.out; go_simp) hHeld ?_; refine kQ 6 41 (.int .i64 ↑j) hHeld ?_; refine kQ 7 42 (.pointer (some ⟨pg,j,none⟩)) hHeld ?_; refine dk 8 (some 43) (pq (ρ.th y)) rfl rfl (fun w9 hS => by have q1 := ze (za E.out hS) PY.out; go_simp) hHeld ?_; simp only [qA,qB,qC,qD]; refine rd 9 rfl fun KK hKK => ?_
      go_simp
      go_at_call 159; refine (qp (HK.out.up (zf E.out)) v _ FV.out (AV.out.kept (zf E.out)) HV.out.dot J.out a1 a2 HV.out.ex HV.out.de).mono ?_; rw [k]; rintro e w3 h3; have J := h3; obtain ⟨q,rfl⟩ := h3.thrown
      exact ⟨rfl,J.err (zf E.out)⟩
     | ok ft =>
      cases ft
      ·obtain rfl : RR = .error (7,v.at') := Z.trans (by rw [HE.out,HS.out,k]; rfl)
       skip
       refine wp_region_held_drew (S := fun w9 => w2.grownBy w9 none) (by kernel_rfl) ?_ (fun hHeld => ?_)
       ·exact zf grn
       refine kQ 0 35 (pq b) hHeld ?_; refine dk 1 (some 36) (zo v (.slice va v.subs.length vc)) rfl rfl (fun w9 hS => by obtain ⟨q0,q1,q2,q3,q4⟩ := Box.kept BV.out hS; go_simp) hHeld ?_; refine kQ 2 37 (pq (ρ.pr q)) hHeld ?_; refine kQ 3 38 (pq (ρ.pr q)) hHeld ?_; refine kQ 4 39 (.pointer (some ⟨ρ.pr q,5,none⟩)) hHeld ?_; refine dk 5 (some 40) (.slice (some ⟨pg,0,none⟩) us.length pc) rfl rfl (fun w9 hS => by have q1 := ze (za E.out hS) K.out; go_simp) hHeld ?_; refine kQ 6 41 (.int .i64 ↑j) hHeld ?_; refine kQ 7 42 (.pointer (some ⟨pg,j,none⟩)) hHeld ?_; refine dk 8 (some 43) (pq (ρ.th y)) rfl rfl (fun w9 hS => by have q1 := ze (za E.out hS) PY.out; go_simp) hHeld ?_; simp only [qA,qB,qC,qD]; refine rd 9 rfl fun KK hKK => ?_
       go_simp
       go_at_call 159; refine (qp (HK.out.up (zf E.out)) v _ FV.out (AV.out.kept (zf E.out)) HV.out.dot J.out a1 a2 HV.out.ex HV.out.de).mono ?_; rw [k]; rintro e w3 ⟨F,rfl⟩; have G3 := zc (za (zf E.out) F); have U := zc (za (zf grn) F); clear F
       go_simp
       refine hKK.out _ _ U.out fun hHeld => ?_
       clear hKK KK; refine kQ 10 45 (.bool true) hHeld ?_; simp only [qA,qB,qC,qD]; refine wpAnyH_done (by kernel_rfl) ?_ _; clear hHeld; obtain ⟨_,_,_,_,_⟩ := Box.kept BV.out U.out; go_wp2_with fail; go_at_call 53; refine (zu _ v _ 7).mono ?_; rintro e w4 h4; have J := h4; obtain ⟨q,rfl⟩ := h4.thrown
       exact ⟨rfl,J.err G3.out⟩
      ·have b2 : Hid (S.argsC c r us (S.pr q).pars = S.argsC c r (us.drop (j + 1)) ((S.pr q).pars.drop (j + 1))) := by show _ = _; rw [HE.out,HS.out,k]; rfl
       skip
       refine wp_region_held_drew (S := fun w9 => w2.grownBy w9 none) (by kernel_rfl) ?_ (fun hHeld => ?_)
       ·exact zf grn
       refine kQ 0 35 (pq b) hHeld ?_; refine dk 1 (some 36) (zo v (.slice va v.subs.length vc)) rfl rfl (fun w9 hS => by obtain ⟨q0,q1,q2,q3,q4⟩ := Box.kept BV.out hS; go_simp) hHeld ?_; refine kQ 2 37 (pq (ρ.pr q)) hHeld ?_; refine kQ 3 38 (pq (ρ.pr q)) hHeld ?_; refine kQ 4 39 (.pointer (some ⟨ρ.pr q,5,none⟩)) hHeld ?_; refine dk 5 (some 40) (.slice (some ⟨pg,0,none⟩) us.length pc) rfl rfl (fun w9 hS => by have q1 := ze (za E.out hS) K.out; go_simp) hHeld ?_; refine kQ 6 41 (.int .i64 ↑j) hHeld ?_; refine kQ 7 42 (.pointer (some ⟨pg,j,none⟩)) hHeld ?_; refine dk 8 (some 43) (pq (ρ.th y)) rfl rfl (fun w9 hS => by have q1 := ze (za E.out hS) PY.out; go_simp) hHeld ?_; simp only [qA,qB,qC,qD]; refine rd 9 rfl fun KK hKK => ?_
       go_simp
       go_at_call 159; refine (qp (HK.out.up (zf E.out)) v _ FV.out (AV.out.kept (zf E.out)) HV.out.dot J.out a1 a2 HV.out.ex HV.out.de).mono ?_; rw [k]; rintro e w3 ⟨F,rfl⟩; have G3 := zc (za (zf E.out) F); have U := zc (za (zf grn) F); clear F
       go_simp
       refine hKK.out _ _ U.out fun hHeld => ?_
       clear hKK KK; refine kQ 10 45 (.bool false) hHeld ?_; simp only [qA,qB,qC,qD]; refine wpAnyH_done (by kernel_rfl) ?_ _; clear hHeld; have b3 := zc (za b1.out U.out); go_wp2_with fail
       go_roundw
       case rel => exact ⟨j + 1,by omega,by go_num,b2,b3.out⟩
       case measure => first | omega | (simp only [intOf]; omega) | (simp; omega)
    ·obtain rfl : RR = .ok (S.pr q).result := Z.trans (by rw [HE.out,List.drop_eq_nil_of_le (by omega)]; rfl)
     have b7 := ze GR.out p6.out; go_wp2
     go_ret
     exact Cy.ok GR.out
  ·rw [show S.callC c r (.mk s x m p (u :: us)) = .error (7,p) by simp only [KS.callC,hz,Y,B,Except.bind,if_neg d,thr,T.at']]
   have a9 : ((us.length : Int) != ((S.pr q).pars.length : Int)) = true := by simp; omega
   go_enter Tryz.func111,Tryz.ntmps111
   go_wp2_with fail; go_at_call 158; rw [<- A]; refine (HU.out _ V.out su HF.out HA.out).mono ?_; rw [B]; rintro e w1 ⟨f,rfl⟩; have D := zc (za V.out f); have B1 : Hid (Box w1 w.heap.size (.mk s x m p (u :: us)) (.slice (some ⟨g,o,none⟩) (us.length + 1) X)) := Box.kept B0.out (za grn f); have H := ze D.out K.out; have I := ze D.out p6.out; obtain ⟨L,M,N,O,Q⟩ := B1.out.plain; go_wp2_with fail; go_at_call 53; refine (zu _ (.mk s x m p (u :: us)) (.slice (some ⟨g,o,none⟩) (us.length + 1) X) 7).mono ?_; rintro e w2 h2; have J := h2; obtain ⟨q,rfl⟩ := h2.thrown
   exact ⟨rfl,J.err D.out⟩
end
section
variable {ρ : Lay} {w w' w1 : World} {S : KS} {b : Nat} {c : KSc}
theorem gJ (h : CK ρ w S b c) (n : T) (sv : Value) (hf : Fits n) (ha : AT w n.subs sv) {r : KR} (hk : n.kind = 29 \/ n.kind = 30 \/ n.kind = 31 \/ n.kind = 32) :
  Calls Tryz.prog 157 #[pq b,zo n sv] w (Cy w ((S.exprC c r n).map fun t => pq (ρ.ty t))) := by
 have s0 := h.s0; have e := h.km.wc0; have f := h.km.wc1; have g := h.km.wc2; have i := zw s0; have j := zw e; simp only at i j; obtain ⟨d,x,m,p,l⟩ := n; clear h ha hf
 change Calls Tryz.prog 157 #[pq b,.agg #[.int .i64 d,.string ⟨x.toArray⟩,.int .i64 m,.int .i64 p,sv]] w _
 change d = 29 \/ d = 30 \/ d = 31 \/ d = 32 at hk
 rcases hk with rfl | rfl | rfl | rfl
 ·rw [show S.exprC c r (.mk 29 x m p l) = .ok 0 by simp [KS.exprC,T.kind]]
  go_enter Tryz.func157,Tryz.ntmps157
  go_wp2
  go_ret
  exact Cy.ok gan
 ·rw [show S.exprC c r (.mk 30 x m p l) = .ok 1 by simp [KS.exprC,T.kind]]
  go_enter Tryz.func157,Tryz.ntmps157
  go_wp2
  go_ret
  exact Cy.ok gan
 ·rw [show S.exprC c r (.mk 31 x m p l) = .ok 1 by simp [KS.exprC,T.kind]]
  go_enter Tryz.func157,Tryz.ntmps157
  go_wp2
  go_ret
  exact Cy.ok gan
 ·rw [show S.exprC c r (.mk 32 x m p l) = .ok 2 by simp [KS.exprC,T.kind]]
  go_enter Tryz.func157,Tryz.ntmps157
  go_wp2
  go_ret
  exact Cy.ok gan
theorem mC (h : CK ρ w S b c) (n : T) (sv : Value) (hf : Fits n) (ha : AT w n.subs sv) {r : KR} {u : T} (hk : n.kind = 34) (hl : n.subs = [u]) (hu : CEx ρ S b c r u) :
  Calls Tryz.prog 157 #[pq b,zo n sv] w (Cy w ((S.exprC c r n).map fun t => pq (ρ.ty t))) := by
 have h3 := h.ok.three; have V := zc (fun w1 (G : w.grownBy w1 none) i (C : Fits u) (D : AT w u.subs i) => uB (h.up G) u i C (D.kept G) (t := 1) (by omega) hu); have s0 : Hid _ := h.s0; have I : Hid _ := h.km.wc0; have j : Hid _ := h.km.wc1; have J : Hid _ := h.km.wc2; obtain ⟨v,x,m,p,l⟩ := n; obtain rfl : l = [u] := hl; obtain ⟨g,o,k,i,rfl,a1,a2,E,C,D,-⟩ := ha.cons; have X := zc D; have Y := zc C
 replace E := zc E
 clear C D
 change Calls Tryz.prog 157 #[pq b,.agg #[.int .i64 v,.string ⟨x.toArray⟩,.int .i64 m,.int .i64 p,.slice (some ⟨g,o,none⟩) 1 k]] w _
 obtain ⟨F,d⟩ : ∃ z,z = w.alloc (.cells #[.int .i64 v,.string ⟨x.toArray⟩,.int .i64 m,.int .i64 p,.slice (some ⟨g,o,none⟩) 1 k] 100) := ⟨_,rfl⟩
 have f : Hid (w.grownBy F none) := by rw [d]; exact zh grn _
 have K : Hid (Box F w.heap.size (.mk v x m p [u]) (.slice (some ⟨g,o,none⟩) 1 k)) := by rw [d]; exact Box.new w (.mk v x m p [u]) (.slice (some ⟨g,o,none⟩) 1 k) _
 obtain rfl : v = 34 := hk; clear h ha hf hu
 have Z : sub (.mk 34 x m p [u]) 0 = u := rfl
 cases H : xe r u 1 with
 | error z =>
  rw [show S.exprC c r (.mk 34 x m p [u]) = .error z by simp [KS.exprC,T.kind,Z,H,Except.bind]]
  go_enter Tryz.func157,Tryz.ntmps157
  go_wp2_with fail; rw [<- d]; clear d; refine wp_region_held_drew (S := fun w9 => F.grownBy w9 none) (by kernel_rfl) ?_ (fun hHeld => ?_)
  ·exact zf grn
  refine kQ 0 41 (pq b) hHeld ?_; refine kQ 1 42 (.pointer (some ⟨w.heap.size,4,none⟩)) hHeld ?_; refine dk 2 (some 43) (.slice (some ⟨g,o,none⟩) 1 k) rfl rfl (fun w9 hS => by obtain ⟨L,q,M,N,O⟩ := (Box.kept K.out hS).plain; go_simp) hHeld ?_; refine kQ 3 44 (.pointer (some ⟨g,o,none⟩)) hHeld ?_; refine dk 4 (some 45) (zo u i) rfl rfl (fun w9 hS => by obtain ⟨L,q,M,N,O⟩ := Node5.kept E.out (za f.out hS); go_simp) hHeld ?_; refine kQ 5 46 (pq b) hHeld ?_; refine kQ 6 47 (pq b) hHeld ?_; refine kQ 7 48 (pq b) hHeld ?_; refine kQ 8 49 (pq b) hHeld ?_; refine dk 9 (some 50) (pq ρ.wd) rfl rfl (fun w9 hS => by have q := ze (za f.out hS) s0.out; go_simp) hHeld ?_; refine kQ 10 51 (pq ρ.wd) hHeld ?_; refine kQ 11 52 (.pointer (some ⟨ρ.wd,1,none⟩)) hHeld ?_; refine dk 12 (some 53) (pq (ρ.ty 1)) rfl rfl (fun w9 hS => by have q := ze (za f.out hS) j.out; go_simp) hHeld ?_; simp only [qA,qB,qC,qD]; refine rd 13 rfl fun KK hKK => ?_
  go_simp
  go_at_call 116; refine (V.out _ (zf f.out) i Y.out X.out).mono ?_; rw [H]; rintro e w1 h1; have HT := h1; obtain ⟨_,rfl⟩ := h1.thrown
  exact ⟨rfl,HT.err (zf f.out)⟩
 | ok _ =>
  rw [show S.exprC c r (.mk 34 x m p [u]) = .ok 1 by simp [KS.exprC,T.kind,Z,H,Except.bind]]
  go_enter Tryz.func157,Tryz.ntmps157
  go_wp2_with fail; rw [<- d]; clear d; refine wp_region_held_drew (S := fun w9 => F.grownBy w9 none) (by kernel_rfl) ?_ (fun hHeld => ?_)
  ·exact zf grn
  refine kQ 0 41 (pq b) hHeld ?_; refine kQ 1 42 (.pointer (some ⟨w.heap.size,4,none⟩)) hHeld ?_; refine dk 2 (some 43) (.slice (some ⟨g,o,none⟩) 1 k) rfl rfl (fun w9 hS => by obtain ⟨L,q,M,N,O⟩ := (Box.kept K.out hS).plain; go_simp) hHeld ?_; refine kQ 3 44 (.pointer (some ⟨g,o,none⟩)) hHeld ?_; refine dk 4 (some 45) (zo u i) rfl rfl (fun w9 hS => by obtain ⟨L,q,M,N,O⟩ := Node5.kept E.out (za f.out hS); go_simp) hHeld ?_; refine kQ 5 46 (pq b) hHeld ?_; refine kQ 6 47 (pq b) hHeld ?_; refine kQ 7 48 (pq b) hHeld ?_; refine kQ 8 49 (pq b) hHeld ?_; refine dk 9 (some 50) (pq ρ.wd) rfl rfl (fun w9 hS => by have q := ze (za f.out hS) s0.out; go_simp) hHeld ?_; refine kQ 10 51 (pq ρ.wd) hHeld ?_; refine kQ 11 52 (.pointer (some ⟨ρ.wd,1,none⟩)) hHeld ?_; refine dk 12 (some 53) (pq (ρ.ty 1)) rfl rfl (fun w9 hS => by have q := ze (za f.out hS) j.out; go_simp) hHeld ?_; simp only [qA,qB,qC,qD]; refine rd 13 rfl fun KK hKK => ?_
  go_simp
  go_at_call 116; refine (V.out _ (zf f.out) i Y.out X.out).mono ?_; rw [H]; rintro e w1 ⟨s,rfl⟩; have A := zc (za (zf f.out) s); have B := zc (za (zf grn) s); clear s
  go_simp
  refine hKK.out _ _ B.out fun hHeld => ?_
  clear hKK KK; refine wpAnyH_done (by kernel_rfl) ?_ _; clear hHeld; have B1 : Hid (Box w1 w.heap.size (.mk 34 x m p [u]) (.slice (some ⟨g,o,none⟩) 1 k)) := Box.kept K.out B.out; have a0 := ze A.out s0.out; have Q := ze A.out I.out; have R := ze A.out j.out; have U := ze A.out J.out; go_wp2
  go_ret
  exact Cy.ok A.out
theorem mI (h : CK ρ w S b c) (n : T) (sv : Value) (hf : Fits n) (ha : AT w n.subs sv) {r : KR} {u : T} (hk : n.kind = 35) (hl : n.subs = [u]) (hu : CEx ρ S b c r u) :
  Calls Tryz.prog 157 #[pq b,zo n sv] w (Cy w ((S.exprC c r n).map fun t => pq (ρ.ty t))) := by
 have h3 := h.ok.three; have V := zc (fun w1 (G : w.grownBy w1 none) i (C : Fits u) (D : AT w u.subs i) => uB (h.up G) u i C (D.kept G) (t := 0) (by omega) hu); have s0 : Hid _ := h.s0; have j : Hid _ := h.km.wc0; have I : Hid _ := h.km.wc1; have J : Hid _ := h.km.wc2; obtain ⟨v,x,m,p,l⟩ := n; obtain rfl : l = [u] := hl; obtain ⟨g,o,k,i,rfl,a1,a2,E,C,D,-⟩ := ha.cons; have X := zc D; have Y := zc C
 replace E := zc E
 clear C D
 change Calls Tryz.prog 157 #[pq b,.agg #[.int .i64 v,.string ⟨x.toArray⟩,.int .i64 m,.int .i64 p,.slice (some ⟨g,o,none⟩) 1 k]] w _
 obtain ⟨F,d⟩ : ∃ z,z = w.alloc (.cells #[.int .i64 v,.string ⟨x.toArray⟩,.int .i64 m,.int .i64 p,.slice (some ⟨g,o,none⟩) 1 k] 100) := ⟨_,rfl⟩
 have f : Hid (w.grownBy F none) := by rw [d]; exact zh grn _
 have K : Hid (Box F w.heap.size (.mk v x m p [u]) (.slice (some ⟨g,o,none⟩) 1 k)) := by rw [d]; exact Box.new w (.mk v x m p [u]) (.slice (some ⟨g,o,none⟩) 1 k) _
 obtain rfl : v = 35 := hk; clear h ha hf hu
 have Z : sub (.mk 35 x m p [u]) 0 = u := rfl
 cases H : xe r u 0 with
 | error z =>
  rw [show S.exprC c r (.mk 35 x m p [u]) = .error z by simp [KS.exprC,T.kind,Z,H,Except.bind]]
  go_enter Tryz.func157,Tryz.ntmps157
  go_wp2_with fail; rw [<- d]; clear d; refine wp_region_held_drew (S := fun w9 => F.grownBy w9 none) (by kernel_rfl) ?_ (fun hHeld => ?_)
  ·exact zf grn
  refine kQ 0 65 (pq b) hHeld ?_; refine kQ 1 66 (.pointer (some ⟨w.heap.size,4,none⟩)) hHeld ?_; refine dk 2 (some 67) (.slice (some ⟨g,o,none⟩) 1 k) rfl rfl (fun w9 hS => by obtain ⟨L,q,M,N,O⟩ := (Box.kept K.out hS).plain; go_simp) hHeld ?_; refine kQ 3 68 (.pointer (some ⟨g,o,none⟩)) hHeld ?_; refine dk 4 (some 69) (zo u i) rfl rfl (fun w9 hS => by obtain ⟨L,q,M,N,O⟩ := Node5.kept E.out (za f.out hS); go_simp) hHeld ?_; refine kQ 5 70 (pq b) hHeld ?_; refine kQ 6 71 (pq b) hHeld ?_; refine kQ 7 72 (pq b) hHeld ?_; refine kQ 8 73 (pq b) hHeld ?_; refine dk 9 (some 74) (pq ρ.wd) rfl rfl (fun w9 hS => by have q := ze (za f.out hS) s0.out; go_simp) hHeld ?_; refine kQ 10 75 (pq ρ.wd) hHeld ?_; refine kQ 11 76 (pq ρ.wd) hHeld ?_; refine dk 12 (some 77) (pq (ρ.ty 0)) rfl rfl (fun w9 hS => by have q := ze (za f.out hS) j.out; go_simp) hHeld ?_; simp only [qA,qB,qC,qD]; refine rd 13 rfl fun KK hKK => ?_
  go_simp
  go_at_call 116; refine (V.out _ (zf f.out) i Y.out X.out).mono ?_; rw [H]; rintro e w1 h1; have HT := h1; obtain ⟨_,rfl⟩ := h1.thrown
  exact ⟨rfl,HT.err (zf f.out)⟩
 | ok _ =>
  rw [show S.exprC c r (.mk 35 x m p [u]) = .ok 0 by simp [KS.exprC,T.kind,Z,H,Except.bind]]
  go_enter Tryz.func157,Tryz.ntmps157
  go_wp2_with fail; rw [<- d]; clear d; refine wp_region_held_drew (S := fun w9 => F.grownBy w9 none) (by kernel_rfl) ?_ (fun hHeld => ?_)
  ·exact zf grn
  refine kQ 0 65 (pq b) hHeld ?_; refine kQ 1 66 (.pointer (some ⟨w.heap.size,4,none⟩)) hHeld ?_; refine dk 2 (some 67) (.slice (some ⟨g,o,none⟩) 1 k) rfl rfl (fun w9 hS => by obtain ⟨L,q,M,N,O⟩ := (Box.kept K.out hS).plain; go_simp) hHeld ?_; refine kQ 3 68 (.pointer (some ⟨g,o,none⟩)) hHeld ?_; refine dk 4 (some 69) (zo u i) rfl rfl (fun w9 hS => by obtain ⟨L,q,M,N,O⟩ := Node5.kept E.out (za f.out hS); go_simp) hHeld ?_; refine kQ 5 70 (pq b) hHeld ?_; refine kQ 6 71 (pq b) hHeld ?_; refine kQ 7 72 (pq b) hHeld ?_; refine kQ 8 73 (pq b) hHeld ?_; refine dk 9 (some 74) (pq ρ.wd) rfl rfl (fun w9 hS => by have q := ze (za f.out hS) s0.out; go_simp) hHeld ?_; refine kQ 10 75 (pq ρ.wd) hHeld ?_; refine kQ 11 76 (pq ρ.wd) hHeld ?_; refine dk 12 (some 77) (pq (ρ.ty 0)) rfl rfl (fun w9 hS => by have q := ze (za f.out hS) j.out; go_simp) hHeld ?_; simp only [qA,qB,qC,qD]; refine rd 13 rfl fun KK hKK => ?_
  go_simp
  go_at_call 116; refine (V.out _ (zf f.out) i Y.out X.out).mono ?_; rw [H]; rintro e w1 ⟨s,rfl⟩; have A := zc (za (zf f.out) s); have B := zc (za (zf grn) s); clear s
  go_simp
  refine hKK.out _ _ B.out fun hHeld => ?_
  clear hKK KK; refine wpAnyH_done (by kernel_rfl) ?_ _; clear hHeld; have B1 : Hid (Box w1 w.heap.size (.mk 35 x m p [u]) (.slice (some ⟨g,o,none⟩) 1 k)) := Box.kept K.out B.out; have a0 := ze A.out s0.out; have Q := ze A.out j.out; have R := ze A.out I.out; have U := ze A.out J.out; go_wp2
  go_ret
  exact Cy.ok A.out
theorem ct (h : CK ρ w S b c) (n : T) (sv : Value) (hf : Fits n) (ha : AT w n.subs sv) {r : KR} (hk : n.kind = 36) (hd : ∀ w1,w.grownBy w1 none -> Calls Tryz.prog 190 #[pq b,zo n sv] w1 (Cy w1 ((S.operatorC r n).map fun t => pq (ρ.ty t)))) :
  Calls Tryz.prog 157 #[pq b,zo n sv] w (Cy w ((S.exprC c r n).map fun t => pq (ρ.ty t))) := by
 have k := zc hd; have s0 : Hid _ := h.s0; have s : Hid _ := h.km.wc0; have u : Hid _ := h.km.wc1; have v : Hid _ := h.km.wc2; obtain ⟨f,x,m,p,l⟩ := n
 change Calls Tryz.prog 157 #[pq b,.agg #[.int .i64 f,.string ⟨x.toArray⟩,.int .i64 m,.int .i64 p,sv]] w _
 obtain ⟨o,d⟩ : ∃ z,z = w.alloc (.cells #[.int .i64 f,.string ⟨x.toArray⟩,.int .i64 m,.int .i64 p,sv] 100) := ⟨_,rfl⟩
 have i : Hid (w.grownBy o none) := by rw [d]; exact zh grn _
 have A : Hid (Box o w.heap.size (.mk f x m p l) sv) := by rw [d]; exact Box.new w (.mk f x m p l) sv _
 obtain rfl : f = 36 := hk; clear h ha hf hd; cases j : S.operatorC r (.mk 36 x m p l) with
 | error z =>
  rw [show S.exprC c r (.mk 36 x m p l) = .error z by simp [KS.exprC,T.kind,j]]
  go_enter Tryz.func157,Tryz.ntmps157
  go_wp2_with fail; go_at_call 190; rw [<- d]; refine (k.out _ i.out).mono ?_; rw [j]; rintro e w1 q; have B := q; obtain ⟨_,rfl⟩ := q.thrown
  exact ⟨rfl,B.err i.out⟩
 | ok t =>
  rw [show S.exprC c r (.mk 36 x m p l) = .ok t by simp [KS.exprC,T.kind,j]]
  go_enter Tryz.func157,Tryz.ntmps157
  go_wp2_with fail; go_at_call 190; rw [<- d]; refine (k.out _ i.out).mono ?_; rw [j]; rintro e w1 ⟨g,rfl⟩; have C := zc (za i.out g); have D : Hid (Box w1 w.heap.size (.mk 36 x m p l) sv) := Box.kept A.out (za grn g); go_wp2
  go_ret
  exact Cy.ok C.out
theorem iG (h : CK ρ w S b c) (n : T) (sv : Value) (hf : Fits n) (ha : AT w n.subs sv) {r : KR} (hk : n.kind = 37) (hd : ∀ w1,w.grownBy w1 none -> Calls Tryz.prog 191 #[pq b,zo n sv] w1 (Cy w1 ((S.guardedC c r n).map fun t => pq (ρ.ty t)))) :
  Calls Tryz.prog 157 #[pq b,zo n sv] w (Cy w ((S.exprC c r n).map fun t => pq (ρ.ty t))) := by
 have B := zc hd; have s0 : Hid _ := h.s0; have o : Hid _ := h.km.wc0; have q : Hid _ := h.km.wc1; have s : Hid _ := h.km.wc2; obtain ⟨f,x,m,p,l⟩ := n
 change Calls Tryz.prog 157 #[pq b,.agg #[.int .i64 f,.string ⟨x.toArray⟩,.int .i64 m,.int .i64 p,sv]] w _
 obtain ⟨C,d⟩ : ∃ z,z = w.alloc (.cells #[.int .i64 f,.string ⟨x.toArray⟩,.int .i64 m,.int .i64 p,sv] 100) := ⟨_,rfl⟩
 have j : Hid (w.grownBy C none) := by rw [d]; exact zh grn _
 have F : Hid (Box C w.heap.size (.mk f x m p l) sv) := by rw [d]; exact Box.new w (.mk f x m p l) sv _
 obtain rfl : f = 37 := hk; clear h ha hf hd; cases k : S.guardedC c r (.mk 37 x m p l) with
 | error z =>
  rw [show S.exprC c r (.mk 37 x m p l) = .error z by simp [KS.exprC,T.kind,k,Except.bind]]
  go_enter Tryz.func157,Tryz.ntmps157
  go_wp2_with fail; go_at_call 191; rw [<- d]; refine (B.out _ j.out).mono ?_; rw [k]; rintro e w1 D; have G := D; obtain ⟨_,rfl⟩ := D.thrown
  exact ⟨rfl,G.err j.out⟩
 | ok t =>
  rw [show S.exprC c r (.mk 37 x m p l) = .ok 1 by simp [KS.exprC,T.kind,k,Except.bind]]
  go_enter Tryz.func157,Tryz.ntmps157
  go_wp2_with fail; go_at_call 191; rw [<- d]; refine (B.out _ j.out).mono ?_; rw [k]; rintro e w1 ⟨g,rfl⟩; have i := zc (za j.out g); have H : Hid (Box w1 w.heap.size (.mk 37 x m p l) sv) := Box.kept F.out (za grn g); have E := ze i.out s0.out; have u := ze i.out o.out; have v := ze i.out q.out; have A := ze i.out s.out; go_wp2
  go_ret
  exact Cy.ok i.out
theorem oA (_h : CK ρ w S b c) (n : T) (sv : Value) (hf : Fits n) (ha : AT w n.subs sv) {r : KR} (hk : n.kind = 33) (hd : ∀ w1,w.grownBy w1 none -> Calls Tryz.prog 111 #[pq b,zo n sv] w1 (Cy w1 ((S.callC c r n).map fun t => ρ.tyP t))) :
  Calls Tryz.prog 157 #[pq b,zo n sv] w (Cy w ((S.exprC c r n).map fun t => pq (ρ.ty t))) := by
 have j := zc hd; obtain ⟨i,x,m,p,l⟩ := n
 change Calls Tryz.prog 157 #[pq b,.agg #[.int .i64 i,.string ⟨x.toArray⟩,.int .i64 m,.int .i64 p,sv]] w _
 obtain ⟨s,d⟩ : ∃ z,z = w.alloc (.cells #[.int .i64 i,.string ⟨x.toArray⟩,.int .i64 m,.int .i64 p,sv] 100) := ⟨_,rfl⟩
 have g : Hid (w.grownBy s none) := by rw [d]; exact zh grn _
 have u : Hid (Box s w.heap.size (.mk i x m p l) sv) := by rw [d]; exact Box.new w (.mk i x m p l) sv _
 obtain rfl : i = 33 := hk; clear _h ha hf hd; cases h : S.callC c r (.mk 33 x m p l) with
 | error z =>
  rw [show S.exprC c r (.mk 33 x m p l) = .error z by simp [KS.exprC,T.kind,h,Except.bind]]
  go_enter Tryz.func157,Tryz.ntmps157
  go_wp2_with fail; go_at_call 111; rw [<- d]; refine (j.out _ g.out).mono ?_; rw [h]; rintro e w1 v; have k := v; obtain ⟨q,rfl⟩ := v.thrown
  exact ⟨rfl,k.err g.out⟩
 | ok t =>
  cases t with
  | none =>
   rw [show S.exprC c r (.mk 33 x m p l) = .error (7,p) by simp [KS.exprC,T.kind,h,Except.bind,thr,T.at']]
   go_enter Tryz.func157,Tryz.ntmps157
   go_wp2_with fail; go_at_call 111; rw [<- d]; refine (j.out _ g.out).mono ?_; rw [h]; rintro e w1 ⟨f,rfl⟩; simp only [uM]; have o := zc (za g.out f); have A : Hid (Box w1 w.heap.size (.mk 33 x m p l) sv) := Box.kept u.out (za grn f); obtain ⟨_,_,_,_,_⟩ := A.out.plain; go_wp2_with fail; go_at_call 53; refine (zu _ (.mk 33 x m p l) sv 7).mono ?_; rintro e C B; have k := B; obtain ⟨q,rfl⟩ := B.thrown
   exact ⟨rfl,k.err o.out⟩
  | some t =>
   rw [show S.exprC c r (.mk 33 x m p l) = .ok t by simp [KS.exprC,T.kind,h,Except.bind]]
   go_enter Tryz.func157,Tryz.ntmps157
   go_wp2_with fail; go_at_call 111; rw [<- d]; refine (j.out _ g.out).mono ?_; rw [h]; rintro e w1 ⟨f,rfl⟩; simp only [yo]; have o := zc (za g.out f); have A : Hid (Box w1 w.heap.size (.mk 33 x m p l) sv) := Box.kept u.out (za grn f); go_wp2
   go_ret
   exact Cy.ok o.out
theorem mJ (_h : CK ρ w S b c) (n : T) (sv : Value) (hf : Fits n) (ha : AT w n.subs sv) {r : KR} (hk : zI n = true) (hd : ∀ w1,w.grownBy w1 none -> Calls Tryz.prog 161 #[pq b,zo n sv] w1 (Cy w1 ((S.desigC c r n).map fun t => pq (ρ.ty t)))) :
  Calls Tryz.prog 157 #[pq b,zo n sv] w (Cy w ((S.exprC c r n).map fun t => pq (ρ.ty t))) := by
 have k := zc hd; obtain ⟨i,x,m,p,l⟩ := n
 change Calls Tryz.prog 157 #[pq b,.agg #[.int .i64 i,.string ⟨x.toArray⟩,.int .i64 m,.int .i64 p,sv]] w _
 obtain ⟨B,f⟩ : ∃ z,z = w.alloc (.cells #[.int .i64 i,.string ⟨x.toArray⟩,.int .i64 m,.int .i64 p,sv] 100) := ⟨_,rfl⟩
 have g : Hid (w.grownBy B none) := by rw [f]; exact zh grn _
 have u : Hid (Box B w.heap.size (.mk i x m p l) sv) := by rw [f]; exact Box.new w (.mk i x m p l) sv _
 have v : i = 24 \/ i = 25 \/ i = 26 \/ i = 27 \/ i = 28 := by
  simp only [zI,T.kind,Bool.and_eq_true] at hk; have h := of_decide_eq_true hk.1; have C := of_decide_eq_true hk.2
  omega
 clear _h ha hf hd hk; cases j : S.desigC c r (.mk i x m p l) with
 | error z =>
  rw [show S.exprC c r (.mk i x m p l) = .error z by rcases v with rfl | rfl | rfl | rfl | rfl <;> simp [KS.exprC,T.kind,j]]
  rcases v with rfl | rfl | rfl | rfl | rfl
  ·skip
   go_enter Tryz.func157,Tryz.ntmps157
   go_wp2_with fail; go_at_call 161; rw [<- f]; refine (k.out _ g.out).mono ?_; rw [j]; rintro e w1 h; have o := h; obtain ⟨q,rfl⟩ := h.thrown
   exact ⟨rfl,o.err g.out⟩
  ·skip
   go_enter Tryz.func157,Tryz.ntmps157
   go_wp2_with fail; go_at_call 161; rw [<- f]; refine (k.out _ g.out).mono ?_; rw [j]; rintro e w1 h; have o := h; obtain ⟨q,rfl⟩ := h.thrown
   exact ⟨rfl,o.err g.out⟩
  ·skip
   go_enter Tryz.func157,Tryz.ntmps157
   go_wp2_with fail; go_at_call 161; rw [<- f]; refine (k.out _ g.out).mono ?_; rw [j]; rintro e w1 h; have o := h; obtain ⟨q,rfl⟩ := h.thrown
   exact ⟨rfl,o.err g.out⟩
  ·skip
   go_enter Tryz.func157,Tryz.ntmps157
   go_wp2_with fail; go_at_call 161; rw [<- f]; refine (k.out _ g.out).mono ?_; rw [j]; rintro e w1 h; have o := h; obtain ⟨q,rfl⟩ := h.thrown
   exact ⟨rfl,o.err g.out⟩
  ·skip
   go_enter Tryz.func157,Tryz.ntmps157
   go_wp2_with fail; go_at_call 161; rw [<- f]; refine (k.out _ g.out).mono ?_; rw [j]; rintro e w1 h; have o := h; obtain ⟨q,rfl⟩ := h.thrown
   exact ⟨rfl,o.err g.out⟩
 | ok t =>
  rw [show S.exprC c r (.mk i x m p l) = .ok t by rcases v with rfl | rfl | rfl | rfl | rfl <;> simp [KS.exprC,T.kind,j]]
  rcases v with rfl | rfl | rfl | rfl | rfl
  ·skip
   go_enter Tryz.func157,Tryz.ntmps157
   go_wp2_with fail; go_at_call 161; rw [<- f]; refine (k.out _ g.out).mono ?_; rw [j]; rintro e w1 ⟨d,rfl⟩; have s := zc (za g.out d); have A : Hid (Box w1 w.heap.size (.mk 24 x m p l) sv) := Box.kept u.out (za grn d); go_wp2
   go_ret
   exact Cy.ok s.out
  ·skip
   go_enter Tryz.func157,Tryz.ntmps157
   go_wp2_with fail; go_at_call 161; rw [<- f]; refine (k.out _ g.out).mono ?_; rw [j]; rintro e w1 ⟨d,rfl⟩; have s := zc (za g.out d); have A : Hid (Box w1 w.heap.size (.mk 25 x m p l) sv) := Box.kept u.out (za grn d); go_wp2
   go_ret
   exact Cy.ok s.out
  ·skip
   go_enter Tryz.func157,Tryz.ntmps157
   go_wp2_with fail; go_at_call 161; rw [<- f]; refine (k.out _ g.out).mono ?_; rw [j]; rintro e w1 ⟨d,rfl⟩; have s := zc (za g.out d); have A : Hid (Box w1 w.heap.size (.mk 26 x m p l) sv) := Box.kept u.out (za grn d); go_wp2
   go_ret
   exact Cy.ok s.out
  ·skip
   go_enter Tryz.func157,Tryz.ntmps157
   go_wp2_with fail; go_at_call 161; rw [<- f]; refine (k.out _ g.out).mono ?_; rw [j]; rintro e w1 ⟨d,rfl⟩; have s := zc (za g.out d); have A : Hid (Box w1 w.heap.size (.mk 27 x m p l) sv) := Box.kept u.out (za grn d); go_wp2
   go_ret
   exact Cy.ok s.out
  ·skip
   go_enter Tryz.func157,Tryz.ntmps157
   go_wp2_with fail; go_at_call 161; rw [<- f]; refine (k.out _ g.out).mono ?_; rw [j]; rintro e w1 ⟨d,rfl⟩; have s := zc (za g.out d); have A : Hid (Box w1 w.heap.size (.mk 28 x m p l) sv) := Box.kept u.out (za grn d); go_wp2
   go_ret
   exact Cy.ok s.out
end
end Go.Proofs.YtnmkffjklpfflaaGreatDoor
