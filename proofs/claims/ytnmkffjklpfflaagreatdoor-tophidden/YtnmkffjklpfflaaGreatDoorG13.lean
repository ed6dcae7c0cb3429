/- Expressions: names. -/
import Derived.Test.YtnmkffjklpfflaaGreatDoorG11
namespace Go.Proofs.YtnmkffjklpfflaaGreatDoor
open Go.RowKit
set_option maxHeartbeats 1000000
set_option maxRecDepth 100000
section
variable {ρ : Lay} {w w' w1 : World} {S : KS} {b : Nat} {c : KSc}
structure CEx (ρ : Lay) (S : KS) (b : Nat) (c : KSc) (r : KR) (n : T) : Prop where
 lt : ∀ t,r.ex n = .ok t -> t < S.tys.length
 run : ∀ (w : World) (sv : Value),CK ρ w S b c -> Fits n -> AT w n.subs sv -> Calls Tryz.prog 157 #[.pointer (some ⟨b,0,none⟩),zn n sv] w (Cy w ((r.ex n).map fun t => .pointer (some ⟨ρ.ty t,0,none⟩)))
structure CDe (ρ : Lay) (S : KS) (b : Nat) (c : KSc) (r : KR) (n : T) : Prop where
 lt : ∀ t,r.de n = .ok t -> t < S.tys.length
 run : ∀ (w : World) (sv : Value),CK ρ w S b c -> Fits n -> AT w n.subs sv -> Calls Tryz.prog 161 #[.pointer (some ⟨b,0,none⟩),zn n sv] w (Cy w ((r.de n).map fun t => .pointer (some ⟨ρ.ty t,0,none⟩)))
theorem yI (h : CK ρ w S b c) (n : T) (sv : Value) (hf : Fits n) (ha : AT w n.subs sv) (hs : n.kind = 25 -> 0 < n.subs.length) :
  Calls Tryz.prog 153 #[.pointer (some ⟨b,0,none⟩),zn n sv] w (Cy w ((S.meaningC c n).map fun t => ρ.thP t)) := by
 have H := ze (fun w1 (G : w.grownBy w1 none) => dQ (h.up G) n sv hf (ha.kept G) hs); have N := ze (fun w1 (G : w.grownBy w1 none) => jK (h.up G) n sv (ha.kept G) hs); obtain ⟨f,x,m,p,l⟩ := n
 change Calls Tryz.prog 153 #[.pointer (some ⟨b,0,none⟩),.agg #[.int .i64 f,.string ⟨x.toArray⟩,.int .i64 m,.int .i64 p,sv]] w _
 obtain ⟨k,i⟩ : ∃ z,z = w.alloc (.cells #[.int .i64 f,.string ⟨x.toArray⟩,.int .i64 m,.int .i64 p,sv] 100) := ⟨_,rfl⟩
 have u : Hid (w.grownBy k none) := by rw [i]; exact zf (zc w none) _
 have v : Hid (Box k w.heap.size (.mk f x m p l) sv) := by rw [i]; exact Box.new w (.mk f x m p l) sv _
 clear h ha hf hs; cases A : S.meaning c (.mk f x m p l) with
 | some t =>
  rw [show S.meaningC c (.mk f x m p l) = .ok (some t) by simp [KS.meaningC,A]]
  go_enter Tryz.func153,Tryz.ntmps153
  go_wp2_with fail; rw [<- i]; clear i; refine wp_region_held_drew (S := fun w9 => k.grownBy w9 none) (by kernel_rfl) ?_ (fun hHeld => ?_)
  ·exact zh (zc k none)
  refine kQ 0 6 (.pointer (some ⟨b,0,none⟩)) hHeld ?_; simp only [qA,qB,qC,qD]; refine kQ 1 7 (.pointer (some ⟨b,0,none⟩)) hHeld ?_; simp only [qA,qB,qC,qD]; refine kQ 2 8 (.pointer (some ⟨b,0,none⟩)) hHeld ?_; simp only [qA,qB,qC,qD]; refine dk 3 (some 9) (.agg #[.int .i64 f,.string ⟨x.toArray⟩,.int .i64 m,.int .i64 p,sv]) rfl rfl (fun w9 hS => by obtain ⟨B,C,D,E,F⟩ := (Box.kept v.out hS).plain; go_simp) hHeld ?_; simp only [qA,qB,qC,qD]; refine rd 4 rfl fun KK hKK => ?_
  go_simp
  go_at_call 184; refine (H.out _ (zh u.out)).mono ?_; rw [A,ya]; rintro e w1 ⟨rfl,d⟩; have s := ze (za (zh u.out) d); have g := ze (za (zh (zc k none)) d); clear d
  go_simp
  refine hKK.out _ _ g.out fun hHeld => ?_
  clear hKK KK; refine kQ 5 5 (.pointer (some ⟨ρ.th t,0,none⟩)) hHeld ?_; simp only [qA,qB,qC,qD]; refine wpAnyH_done (by kernel_rfl) ?_ _; clear hHeld; have o : Hid (Box w1 w.heap.size (.mk f x m p l) sv) := Box.kept v.out g.out; go_wp2_with fail; refine wp_region_held_drew (S := fun w9 => w1.grownBy w9 none) (by kernel_rfl) ?_ (fun hHeld => ?_)
  ·exact zh (zc w1 none)
  refine kQ 0 11 (.pointer (some ⟨ρ.th t,0,none⟩)) hHeld ?_; simp only [qA,qB,qC,qD]; refine kQ 1 12 (.bool false) hHeld ?_; simp only [qA,qB,qC,qD]; refine kQ 2 13 (.bool false) hHeld ?_; simp only [qA,qB,qC,qD]; refine dn 3 (some 14) rfl rfl hHeld ?_; simp only [qA,qB,qC,qD]; refine dn 4 (some 15) rfl rfl hHeld ?_; simp only [qA,qB,qC,qD]; refine dn 5 (some 16) rfl rfl hHeld ?_; simp only [qA,qB,qC,qD]; refine dn 6 (some 17) rfl rfl hHeld ?_; simp only [qA,qB,qC,qD]; refine dn 7 (some 18) rfl rfl hHeld ?_; simp only [qA,qB,qC,qD]; refine dn 8 (some 19) rfl rfl hHeld ?_; simp only [qA,qB,qC,qD]; refine dn 9 (some 20) rfl rfl hHeld ?_; simp only [qA,qB,qC,qD]; refine dn 10 (some 21) rfl rfl hHeld ?_; simp only [qA,qB,qC,qD]; refine dn 11 (some 22) rfl rfl hHeld ?_; simp only [qA,qB,qC,qD]; refine dn 12 (some 23) rfl rfl hHeld ?_; simp only [qA,qB,qC,qD]; refine dn 13 (some 24) rfl rfl hHeld ?_; simp only [qA,qB,qC,qD]; refine kQ 14 25 (.bool false) hHeld ?_; simp only [qA,qB,qC,qD]; refine wpAnyH_done (by kernel_rfl) ?_ _; clear hHeld; go_wp2
  go_ret
  exact Cy.ok (zh s.out)
 | none =>
  by_cases I : f = 24
  ·subst I
   rw [show S.meaningC c (.mk 24 x m p l) = .error (5,p) by simp [KS.meaningC,A,T.kind,thr,T.at']]
   go_enter Tryz.func153,Tryz.ntmps153
   go_wp2_with fail; rw [<- i]; clear i; refine wp_region_held_drew (S := fun w9 => k.grownBy w9 none) (by kernel_rfl) ?_ (fun hHeld => ?_)
   ·exact zh (zc k none)
   refine kQ 0 6 (.pointer (some ⟨b,0,none⟩)) hHeld ?_; simp only [qA,qB,qC,qD]; refine kQ 1 7 (.pointer (some ⟨b,0,none⟩)) hHeld ?_; simp only [qA,qB,qC,qD]; refine kQ 2 8 (.pointer (some ⟨b,0,none⟩)) hHeld ?_; simp only [qA,qB,qC,qD]; refine dk 3 (some 9) (.agg #[.int .i64 24,.string ⟨x.toArray⟩,.int .i64 m,.int .i64 p,sv]) rfl rfl (fun w9 hS => by obtain ⟨B,C,D,E,F⟩ := (Box.kept v.out hS).plain; go_simp) hHeld ?_; simp only [qA,qB,qC,qD]; refine rd 4 rfl fun KK hKK => ?_
   go_simp
   go_at_call 184; refine (H.out _ (zh u.out)).mono ?_; rw [A,zO]; rintro e w1 ⟨rfl,d⟩; have s := ze (za (zh u.out) d); have g := ze (za (zh (zc k none)) d); clear d
   go_simp
   refine hKK.out _ _ g.out fun hHeld => ?_
   clear hKK KK; refine kQ 5 5 (.pointer none) hHeld ?_; simp only [qA,qB,qC,qD]; refine wpAnyH_done (by kernel_rfl) ?_ _; clear hHeld; have o : Hid (Box w1 w.heap.size (.mk 24 x m p l) sv) := Box.kept v.out g.out; go_wp2_with fail; refine wp_region_held_drew (S := fun w9 => w1.grownBy w9 none) (by kernel_rfl) ?_ (fun hHeld => ?_)
   ·exact zh (zc w1 none)
   refine kQ 0 11 (.pointer none) hHeld ?_; simp only [qA,qB,qC,qD]; refine kQ 1 12 (.bool true) hHeld ?_; simp only [qA,qB,qC,qD]; refine kQ 2 13 (.bool true) hHeld ?_; simp only [qA,qB,qC,qD]; refine kQ 3 14 (.pointer (some ⟨w.heap.size,0,none⟩)) hHeld ?_; simp only [qA,qB,qC,qD]; refine dk 4 (some 15) (.int .i64 24) rfl rfl (fun w9 hS => by obtain ⟨B,C,D,E,F⟩ := (Box.kept o.out hS).plain; go_simp) hHeld ?_; simp only [qA,qB,qC,qD]; refine kQ 5 16 (.bool true) hHeld ?_; simp only [qA,qB,qC,qD]; refine kQ 6 17 (.bool true) hHeld ?_; simp only [qA,qB,qC,qD]; refine dn 7 (some 18) rfl rfl hHeld ?_; simp only [qA,qB,qC,qD]; refine dn 8 (some 19) rfl rfl hHeld ?_; simp only [qA,qB,qC,qD]; refine dn 9 (some 20) rfl rfl hHeld ?_; simp only [qA,qB,qC,qD]; refine dn 10 (some 21) rfl rfl hHeld ?_; simp only [qA,qB,qC,qD]; refine dn 11 (some 22) rfl rfl hHeld ?_; simp only [qA,qB,qC,qD]; refine dn 12 (some 23) rfl rfl hHeld ?_; simp only [qA,qB,qC,qD]; refine kQ 13 24 (.bool true) hHeld ?_; simp only [qA,qB,qC,qD]; refine kQ 14 25 (.bool true) hHeld ?_; simp only [qA,qB,qC,qD]; refine wpAnyH_done (by kernel_rfl) ?_ _; clear hHeld; obtain ⟨_,_,_,_,_⟩ := o.out; go_wp2_with fail; go_at_call 53; refine (zu _ (.mk 24 x m p l) sv 5).mono ?_; rintro e J O; have L := O; obtain ⟨q,rfl⟩ := O.thrown
   exact ⟨rfl,L.err (zh s.out)⟩
  have U : decide (f = 24) = false := by simpa using I
  cases K : S.ahead c (.mk f x m p l) with
  | some q =>
   rw [show S.meaningC c (.mk f x m p l) = .error (5,p) by simp [KS.meaningC,A,I,K,T.kind,thr,T.at']]
   go_enter Tryz.func153,Tryz.ntmps153
   go_wp2_with fail; rw [<- i]; clear i; refine wp_region_held_drew (S := fun w9 => k.grownBy w9 none) (by kernel_rfl) ?_ (fun hHeld => ?_)
   ·exact zh (zc k none)
   refine kQ 0 6 (.pointer (some ⟨b,0,none⟩)) hHeld ?_; simp only [qA,qB,qC,qD]; refine kQ 1 7 (.pointer (some ⟨b,0,none⟩)) hHeld ?_; simp only [qA,qB,qC,qD]; refine kQ 2 8 (.pointer (some ⟨b,0,none⟩)) hHeld ?_; simp only [qA,qB,qC,qD]; refine dk 3 (some 9) (.agg #[.int .i64 f,.string ⟨x.toArray⟩,.int .i64 m,.int .i64 p,sv]) rfl rfl (fun w9 hS => by obtain ⟨B,C,D,E,F⟩ := (Box.kept v.out hS).plain; go_simp) hHeld ?_; simp only [qA,qB,qC,qD]; refine rd 4 rfl fun KK hKK => ?_
   go_simp
   go_at_call 184; refine (H.out _ (zh u.out)).mono ?_; rw [A,zO]; rintro e w1 ⟨rfl,d⟩; have s := ze (za (zh u.out) d); have g := ze (za (zh (zc k none)) d); clear d
   go_simp
   refine hKK.out _ _ g.out fun hHeld => ?_
   clear hKK KK; refine kQ 5 5 (.pointer none) hHeld ?_; simp only [qA,qB,qC,qD]; refine wpAnyH_done (by kernel_rfl) ?_ _; clear hHeld; have o : Hid (Box w1 w.heap.size (.mk f x m p l) sv) := Box.kept v.out g.out; go_wp2_with fail; refine wp_region_held_drew (S := fun w9 => w1.grownBy w9 none) (by kernel_rfl) ?_ (fun hHeld => ?_)
   ·exact zh (zc w1 none)
   refine kQ 0 11 (.pointer none) hHeld ?_; simp only [qA,qB,qC,qD]; refine kQ 1 12 (.bool true) hHeld ?_; simp only [qA,qB,qC,qD]; refine kQ 2 13 (.bool true) hHeld ?_; simp only [qA,qB,qC,qD]; refine kQ 3 14 (.pointer (some ⟨w.heap.size,0,none⟩)) hHeld ?_; simp only [qA,qB,qC,qD]; refine dk 4 (some 15) (.int .i64 f) rfl rfl (fun w9 hS => by obtain ⟨B,C,D,E,F⟩ := (Box.kept o.out hS).plain; go_simp) hHeld ?_; simp only [qA,qB,qC,qD]; refine kQ 5 16 (.bool false) hHeld ?_; simp only [qA,qB,qC,qD]; refine kQ 6 17 (.bool false) hHeld ?_; simp only [qA,qB,qC,qD]; refine kQ 7 18 (.pointer (some ⟨b,0,none⟩)) hHeld ?_; simp only [qA,qB,qC,qD]; refine kQ 8 19 (.pointer (some ⟨b,0,none⟩)) hHeld ?_; simp only [qA,qB,qC,qD]; refine kQ 9 20 (.pointer (some ⟨b,0,none⟩)) hHeld ?_; simp only [qA,qB,qC,qD]; refine dk 10 (some 21) (.agg #[.int .i64 f,.string ⟨x.toArray⟩,.int .i64 m,.int .i64 p,sv]) rfl rfl (fun w9 hS => by obtain ⟨B,C,D,E,F⟩ := (Box.kept o.out hS).plain; go_simp) hHeld ?_; simp only [qA,qB,qC,qD]; refine rd 11 rfl fun KK hKK => ?_
   go_simp
   go_at_call 185; refine (N.out _ (zh s.out)).mono ?_; rw [K,qR]; rintro e J ⟨rfl,j⟩; have M := ze (za (zh s.out) j); have r := ze (za (zh (zc w1 none)) j); clear j
   go_simp
   refine hKK.out _ _ r.out fun hHeld => ?_
   clear hKK KK; refine kQ 12 23 (.bool true) hHeld ?_; simp only [qA,qB,qC,qD]; refine kQ 13 24 (.bool true) hHeld ?_; simp only [qA,qB,qC,qD]; refine kQ 14 25 (.bool true) hHeld ?_; simp only [qA,qB,qC,qD]; refine wpAnyH_done (by kernel_rfl) ?_ _; clear hHeld; have Q : Hid (Box J w.heap.size (.mk f x m p l) sv) := Box.kept o.out r.out; obtain ⟨_,_,_,_,_⟩ := Q.out; go_wp2_with fail; go_at_call 53; refine (zu _ (.mk f x m p l) sv 5).mono ?_; rintro e V R; have L := R; obtain ⟨q,rfl⟩ := R.thrown
   exact ⟨rfl,L.err M.out⟩
  | none =>
   rw [show S.meaningC c (.mk f x m p l) = .ok none by simp [KS.meaningC,A,I,K,T.kind]]
   go_enter Tryz.func153,Tryz.ntmps153
   go_wp2_with fail; rw [<- i]; clear i; refine wp_region_held_drew (S := fun w9 => k.grownBy w9 none) (by kernel_rfl) ?_ (fun hHeld => ?_)
   ·exact zh (zc k none)
   refine kQ 0 6 (.pointer (some ⟨b,0,none⟩)) hHeld ?_; simp only [qA,qB,qC,qD]; refine kQ 1 7 (.pointer (some ⟨b,0,none⟩)) hHeld ?_; simp only [qA,qB,qC,qD]; refine kQ 2 8 (.pointer (some ⟨b,0,none⟩)) hHeld ?_; simp only [qA,qB,qC,qD]; refine dk 3 (some 9) (.agg #[.int .i64 f,.string ⟨x.toArray⟩,.int .i64 m,.int .i64 p,sv]) rfl rfl (fun w9 hS => by obtain ⟨B,C,D,E,F⟩ := (Box.kept v.out hS).plain; go_simp) hHeld ?_; simp only [qA,qB,qC,qD]; refine rd 4 rfl fun KK hKK => ?_
   go_simp
   go_at_call 184; refine (H.out _ (zh u.out)).mono ?_; rw [A,zO]; rintro e w1 ⟨rfl,d⟩; have s := ze (za (zh u.out) d); have g := ze (za (zh (zc k none)) d); clear d
   go_simp
   refine hKK.out _ _ g.out fun hHeld => ?_
   clear hKK KK; refine kQ 5 5 (.pointer none) hHeld ?_; simp only [qA,qB,qC,qD]; refine wpAnyH_done (by kernel_rfl) ?_ _; clear hHeld; have o : Hid (Box w1 w.heap.size (.mk f x m p l) sv) := Box.kept v.out g.out; go_wp2_with fail; refine wp_region_held_drew (S := fun w9 => w1.grownBy w9 none) (by kernel_rfl) ?_ (fun hHeld => ?_)
   ·exact zh (zc w1 none)
   refine kQ 0 11 (.pointer none) hHeld ?_; simp only [qA,qB,qC,qD]; refine kQ 1 12 (.bool true) hHeld ?_; simp only [qA,qB,qC,qD]; refine kQ 2 13 (.bool true) hHeld ?_; simp only [qA,qB,qC,qD]; refine kQ 3 14 (.pointer (some ⟨w.heap.size,0,none⟩)) hHeld ?_; simp only [qA,qB,qC,qD]; refine dk 4 (some 15) (.int .i64 f) rfl rfl (fun w9 hS => by obtain ⟨B,C,D,E,F⟩ := (Box.kept o.out hS).plain; go_simp) hHeld ?_; simp only [qA,qB,qC,qD]; refine kQ 5 16 (.bool false) hHeld ?_; simp only [qA,qB,qC,qD]; refine kQ 6 17 (.bool false) hHeld ?_; simp only [qA,qB,qC,qD]; refine kQ 7 18 (.pointer (some ⟨b,0,none⟩)) hHeld ?_; simp only [qA,qB,qC,qD]; refine kQ 8 19 (.pointer (some ⟨b,0,none⟩)) hHeld ?_; simp only [qA,qB,qC,qD]; refine kQ 9 20 (.pointer (some ⟨b,0,none⟩)) hHeld ?_; simp only [qA,qB,qC,qD]; refine dk 10 (some 21) (.agg #[.int .i64 f,.string ⟨x.toArray⟩,.int .i64 m,.int .i64 p,sv]) rfl rfl (fun w9 hS => by obtain ⟨B,C,D,E,F⟩ := (Box.kept o.out hS).plain; go_simp) hHeld ?_; simp only [qA,qB,qC,qD]; refine rd 11 rfl fun KK hKK => ?_
   go_simp
   go_at_call 185; refine (N.out _ (zh s.out)).mono ?_; rw [K,gn]; rintro e J ⟨rfl,j⟩; have M := ze (za (zh s.out) j); have r := ze (za (zh (zc w1 none)) j); clear j
   go_simp
   refine hKK.out _ _ r.out fun hHeld => ?_
   clear hKK KK; refine kQ 12 23 (.bool false) hHeld ?_; simp only [qA,qB,qC,qD]; refine kQ 13 24 (.bool false) hHeld ?_; simp only [qA,qB,qC,qD]; refine kQ 14 25 (.bool false) hHeld ?_; simp only [qA,qB,qC,qD]; refine wpAnyH_done (by kernel_rfl) ?_ _; clear hHeld; have Q : Hid (Box J w.heap.size (.mk f x m p l) sv) := Box.kept o.out r.out; go_wp2
   go_ret
   exact Cy.ok M.out
end
section
variable {ρ : Lay} {w w' w1 : World} {S : KS} {b : Nat} {c : KSc}
theorem AT.pair {w : World} {k m p : Int} {x : List UInt8} {u v : T} {sv : Value} (h : AT w (T.mk k x m p [u,v]).subs sv) : ∃ g o c su sw,sv = .slice (some ⟨g,o,none⟩) 2 c /\ 2 <= c /\ c <= 9223372036854775807 /\ Node5 w g o u su /\ Fits u /\ AT w u.subs su /\ Node5 w g (o + 5) v sw /\ Fits v /\ AT w v.subs sw := by
 obtain ⟨g,o,c,t,su,z,sw,e,f,i,j,l,n,q,r,s,d⟩ := h.two rfl; cases j
 exact ⟨g,o,c,su,sw,e,f,i,l,n,q,r,s,d⟩
theorem qs  (n : T) (sv : Value) (_ha : AT w n.subs sv) :
  Calls Tryz.prog 160 #[zn n sv] w (Sy w (.bool (zF n))) := by
 clear _ha; obtain ⟨d,x,m,p,l⟩ := n
 change Calls Tryz.prog 160 #[.agg #[.int .i64 d,.string ⟨x.toArray⟩,.int .i64 m,.int .i64 p,sv]] w _
 by_cases h : 24 <= d /\ d <= 28
 ·have e : d = 24 \/ d = 25 \/ d = 26 \/ d = 27 \/ d = 28 := by omega
  rw [show zF (.mk d x m p l) = true by simp [zF,T.kind,h]]; clear h
  rcases e with rfl | rfl | rfl | rfl | rfl
  all_goals
   go_enter Tryz.func160,Tryz.ntmps160
   go_wp2
   go_ret
   exact ⟨rfl,zf (zc w none) _⟩
 ·have f : (d == 24) = false := by simp; omega
  have g : (d == 25) = false := by simp; omega
  have i : (d == 26) = false := by simp; omega
  have j : (d == 27) = false := by simp; omega
  have k : (d == 28) = false := by simp; omega
  rw [show zF (.mk d x m p l) = false by rw [Bool.eq_false_iff]; intro e; simp only [zF,T.kind,Bool.and_eq_true] at e; exact h ⟨of_decide_eq_true e.1,of_decide_eq_true e.2⟩]; clear h
  go_enter Tryz.func160,Tryz.ntmps160
  go_wp2
  go_ret
  exact ⟨rfl,zf (zc w none) _⟩
theorem ka (h : CK ρ w S b c) (n : T) (sv : Value) (hf : Fits n) (ha : AT w n.subs sv) {r : KR} {u : T} {us : List T} (hl : n.subs = u :: us) (hu : CEx ρ S b c r u) :
  Calls Tryz.prog 194 #[.pointer (some ⟨b,0,none⟩),zn n sv] w (Cy w ((S.pointerC r n).map fun t => .pointer (some ⟨ρ.ty t,0,none⟩))) := by
 have I := ze (fun w1 (G : w.grownBy w1 none) s (D : Fits u) (E : AT w u.subs s) => hu.run w1 s (h.up G) D (E.kept G)); have X := ze h.km; have J := hu.lt; obtain ⟨d,x,m,p,l⟩ := n; obtain rfl : l = u :: us := hl; obtain ⟨g,o,j,s,rfl,Y,Z,v,D,E,-⟩ := ha.cons; have K := ze E; have L := ze D; have d0 := v.c0; have d1 := v.c1; have d2 := v.c2; have d3 := v.c3; have d4 := v.c4; have zg : g < w.heap.size := zw d0; clear v D E
 change Calls Tryz.prog 194 #[.pointer (some ⟨b,0,none⟩),.agg #[.int .i64 d,.string ⟨x.toArray⟩,.int .i64 m,.int .i64 p,.slice (some ⟨g,o,none⟩) (us.length + 1) j]] w _
 obtain ⟨F,f⟩ : ∃ z,z = w.alloc (.cells #[.int .i64 d,.string ⟨x.toArray⟩,.int .i64 m,.int .i64 p,.slice (some ⟨g,o,none⟩) (us.length + 1) j] 100) := ⟨_,rfl⟩
 have A : Hid (w.grownBy F none) := by rw [f]; exact zf (zc w none) _
 have Q : Hid (Box F w.heap.size (.mk d x m p (u :: us)) (.slice (some ⟨g,o,none⟩) (us.length + 1) j)) := by rw [f]; exact Box.new w (.mk d x m p (u :: us)) (.slice (some ⟨g,o,none⟩) (us.length + 1) j) _
 clear h ha hf hu
 have M : sub (.mk d x m p (u :: us)) 0 = u := rfl
 cases k : r.ex u with
 | error z =>
  rw [show S.pointerC r (.mk d x m p (u :: us)) = .error z by simp [KS.pointerC,M,k,Except.bind]]
  go_enter Tryz.func194,Tryz.ntmps194
  go_wp2_with fail; go_at_call 157; rw [<- f]; refine (I.out _ A.out s L.out K.out).mono ?_; rw [k]; rintro e w1 R; have N := R; obtain ⟨q,rfl⟩ := R.thrown
  exact ⟨rfl,N.err A.out⟩
 | ok t =>
  have O : Hid (w.cell? ⟨ρ.ty t,0,none⟩ = some (.int .i64 (S.ty t).form)) := X.out.y0 (J t k)
  by_cases H : (S.ty t).form = 5
  ·rw [H] at O
   rw [show S.pointerC r (.mk d x m p (u :: us)) = .ok t by simp [KS.pointerC,M,k,H,Except.bind]]
   go_enter Tryz.func194,Tryz.ntmps194
   go_wp2_with fail; go_at_call 157; rw [<- f]; refine (I.out _ A.out s L.out K.out).mono ?_; rw [k]; rintro e w1 ⟨i,rfl⟩; have B := ze (za A.out i); have U : Hid (Box w1 w.heap.size (.mk d x m p (u :: us)) (.slice (some ⟨g,o,none⟩) (us.length + 1) j)) := Box.kept Q.out (za (zc F none) i); have C := zi B.out O.out; go_wp2
   go_ret
   exact Cy.ok B.out
  ·have hd : decide ((S.ty t).form = 5) = false := by simpa using H
   rw [show S.pointerC r (.mk d x m p (u :: us)) = .error (7,p) by simp [KS.pointerC,M,k,H,Except.bind,thr,T.at']]
   go_enter Tryz.func194,Tryz.ntmps194
   go_wp2_with fail; go_at_call 157; rw [<- f]; refine (I.out _ A.out s L.out K.out).mono ?_; rw [k]; rintro e w1 ⟨i,rfl⟩; have B := ze (za A.out i); have U : Hid (Box w1 w.heap.size (.mk d x m p (u :: us)) (.slice (some ⟨g,o,none⟩) (us.length + 1) j)) := Box.kept Q.out (za (zc F none) i); have C := zi B.out O.out; obtain ⟨_,_,_,_,_⟩ := U.out; go_wp2_with fail; go_at_call 53; refine (zu _ (.mk d x m p (u :: us)) (.slice (some ⟨g,o,none⟩) (us.length + 1) j) 7).mono ?_; rintro e w2 V; have N := V; obtain ⟨q,rfl⟩ := V.thrown
   exact ⟨rfl,N.err B.out⟩
theorem xv {r : KR} {n : T} {t : Nat} (e : S.pointerC r n = .ok t) : r.ex (sub n 0) = .ok t /\ (S.ty t).form = 5 := by
 unfold KS.pointerC at e
 cases d : r.ex (sub n 0) with
 | error z => rw [d] at e; cases e
 | ok u =>
  rw [d] at e; simp only [Except.bind] at e
  split at e
  ·rename_i h; cases e; exact ⟨rfl,h⟩
  ·cases e
theorem kh (h : CK ρ w S b c) (n : T) (sv : Value) (hf : Fits n) (ha : AT w n.subs sv) (hT : KAll S) {r : KR} {u v : T} (hl : n.subs = [u,v]) (hu : CEx ρ S b c r u) :
  Calls Tryz.prog 191 #[.pointer (some ⟨b,0,none⟩),zn n sv] w (Cy w ((S.guardedC c r n).map fun t => .pointer (some ⟨ρ.ty t,0,none⟩))) := by
 have HP := ze (fun w1 (G : w.grownBy w1 none) => ka (h.up G) n sv hf (ha.kept G) hl hu); have HN := ze (fun w1 (G : w.grownBy w1 none) su (fu : Fits v) (au : AT w v.subs su) => ym (h.up G) v su fu (au.kept G)); have HM := ze h.km; have D := ze hT
 have b0 : ∀ t,S.pointerC r n = .ok t -> t < S.tys.length /\ (S.ty t).form = 5 := fun t e => ⟨hu.lt t (by have X := (xv e).1; unfold sub at X; rw [hl] at X; exact X),(xv e).2⟩
 have b1 : ∀ t,S.typeName c v = .ok t -> t < S.tys.length := fun t e => yM h e
 obtain ⟨k,x,m,p,l⟩ := n; obtain rfl : l = [u,v] := hl; obtain ⟨g,o,C,su,sw,rfl,_,_,n5,fu,au,n6,fv,av⟩ := ha.pair; have HA := ze av; have HF := ze fv; have d0 : Hid _ := n6.c0; have d1 : Hid _ := n6.c1; have d2 : Hid _ := n6.c2; have d3 : Hid _ := n6.c3; have d4 : Hid _ := n6.c4; clear n5 fu au n6 fv av
 change Calls Tryz.prog 191 #[.pointer (some ⟨b,0,none⟩),.agg #[.int .i64 k,.string ⟨x.toArray⟩,.int .i64 m,.int .i64 p,.slice (some ⟨g,o,none⟩) 2 C]] w _
 obtain ⟨w0,A⟩ : ∃ z,z = w.alloc (.cells #[.int .i64 k,.string ⟨x.toArray⟩,.int .i64 m,.int .i64 p,.slice (some ⟨g,o,none⟩) 2 C] 100) := ⟨_,rfl⟩
 have U : Hid (w.grownBy w0 none) := by rw [A]; exact zf (zc w none) _
 have B0 : Hid (Box w0 w.heap.size (.mk k x m p [u,v]) (.slice (some ⟨g,o,none⟩) 2 C)) := by rw [A]; exact Box.new w (.mk k x m p [u,v]) (.slice (some ⟨g,o,none⟩) 2 C) _
 clear h ha hf hu hT
 have hz : sub (.mk k x m p [u,v]) 1 = v := rfl
 cases E : S.pointerC r (.mk k x m p [u,v]) with
 | error z =>
  rw [show S.guardedC c r (.mk k x m p [u,v]) = .error z by simp [KS.guardedC,E,Except.bind]]
  go_enter Tryz.func191,Tryz.ntmps191
  go_wp2_with fail; go_at_call 194; rw [<- A]; refine (HP.out _ U.out).mono ?_; rw [E]; rintro e w1 h1; have D := h1; obtain ⟨q,rfl⟩ := h1.thrown
  exact ⟨rfl,D.err U.out⟩
 | ok f =>
  cases Y : S.typeName c v with
  | error z =>
   rw [show S.guardedC c r (.mk k x m p [u,v]) = .error z by simp [KS.guardedC,E,hz,Y,Except.bind]]
   go_enter Tryz.func191,Tryz.ntmps191
   go_wp2_with fail; go_at_call 194; rw [<- A]; refine (HP.out _ U.out).mono ?_; rw [E]; rintro e w1 ⟨j,rfl⟩; have d := ze (za U.out j); have V : Hid (Box w1 w.heap.size (.mk k x m p [u,v]) (.slice (some ⟨g,o,none⟩) 2 C)) := Box.kept B0.out (za (zc w0 none) j); have F := zi d.out d0.out; have H := zi d.out d1.out; have I := zi d.out d2.out; have J := zi d.out d3.out; have K := zi d.out d4.out; obtain ⟨L,M,N,O,Q⟩ := V.out; go_wp2_with fail; go_at_call 74; refine (HN.out _ d.out sw HF.out HA.out).mono ?_; rw [Y]; rintro e B h2; have D := h2; obtain ⟨q,rfl⟩ := h2.thrown
   exact ⟨rfl,D.err d.out⟩
  | ok t =>
   obtain ⟨a4,b2⟩ := b0 f E; have ht := b1 t Y; obtain ⟨o1,o2,_⟩ := D.out.p a4 b2
   have f5 : Hid (w.cell? ⟨ρ.ty f,5,none⟩ = some (.pointer (some ⟨ρ.ty (S.of f),0,none⟩))) := by have X := HM.out.y5 a4; rw [o1] at X; exact X
   have t0 : Hid (w.cell? ⟨ρ.ty t,0,none⟩ = some (.int .i64 (S.ty t).form)) := HM.out.y0 ht
   by_cases h5 : (S.ty t).form = 5
   ·obtain ⟨p1,p2,p3⟩ := D.out.p ht h5
    have t5 : Hid (w.cell? ⟨ρ.ty t,5,none⟩ = some (.pointer (some ⟨ρ.ty (S.of t),0,none⟩))) := by have X := HM.out.y5 ht; rw [p1] at X; exact X
    rw [h5] at t0; cases he : S.ext (S.of t) (S.of f)
    ·rw [show S.guardedC c r (.mk k x m p [u,v]) = .error (7,p) by simp [KS.guardedC,E,hz,Y,h5,he,Except.bind,thr,T.at']]
     go_enter Tryz.func191,Tryz.ntmps191
     go_wp2_with fail; go_at_call 194; rw [<- A]; refine (HP.out _ U.out).mono ?_; rw [E]; rintro e w1 ⟨j,rfl⟩; have d := ze (za U.out j); have V : Hid (Box w1 w.heap.size (.mk k x m p [u,v]) (.slice (some ⟨g,o,none⟩) 2 C)) := Box.kept B0.out (za (zc w0 none) j); have F := zi d.out d0.out; have H := zi d.out d1.out; have I := zi d.out d2.out; have J := zi d.out d3.out; have K := zi d.out d4.out; obtain ⟨L,M,N,O,Q⟩ := V.out; go_wp2_with fail; go_at_call 74; refine (HN.out _ d.out sw HF.out HA.out).mono ?_; rw [Y]; rintro e B ⟨s,rfl⟩; have i := ze (za d.out s); have B2 : Hid (Box B w.heap.size (.mk k x m p [u,v]) (.slice (some ⟨g,o,none⟩) 2 C)) := Box.kept V.out (za (zc w1 none) s); have Z := zi i.out d0.out; have a0 := zi i.out d1.out; have a1 := zi i.out d2.out; have a2 := zi i.out d3.out; have a3 := zi i.out d4.out; go_wp2_with fail; refine wp_region_held_drew (S := fun w9 => B.grownBy w9 none) (by kernel_rfl) ?_ (fun hHeld => ?_)
     ·exact zh (zc B none)
     refine kQ 0 16 (.pointer (some ⟨ρ.ty t,0,none⟩)) hHeld ?_; simp only [qA,qB,qC,qD]; refine kQ 1 17 (.pointer (some ⟨ρ.ty t,0,none⟩)) hHeld ?_; simp only [qA,qB,qC,qD]; refine kQ 2 18 (.pointer (some ⟨ρ.ty t,0,none⟩)) hHeld ?_; simp only [qA,qB,qC,qD]; refine dk 3 (some 19) (.int .i64 5) rfl rfl (fun w9 hS => by have q0 := zi (za i.out hS) t0.out; go_simp) hHeld ?_; simp only [qA,qB,qC,qD]; refine kQ 4 20 (.bool false) hHeld ?_; simp only [qA,qB,qC,qD]; refine kQ 5 21 (.bool false) hHeld ?_; simp only [qA,qB,qC,qD]; refine kQ 6 22 (.pointer (some ⟨ρ.ty t,0,none⟩)) hHeld ?_; simp only [qA,qB,qC,qD]; refine kQ 7 23 (.pointer (some ⟨ρ.ty t,0,none⟩)) hHeld ?_; simp only [qA,qB,qC,qD]; refine kQ 8 24 (.pointer (some ⟨ρ.ty t,5,none⟩)) hHeld ?_; simp only [qA,qB,qC,qD]; refine dk 9 (some 25) (.pointer (some ⟨ρ.ty (S.of t),0,none⟩)) rfl rfl (fun w9 hS => by have q0 := zi (za i.out hS) t5.out; go_simp) hHeld ?_; simp only [qA,qB,qC,qD]; refine kQ 10 26 (.pointer (some ⟨ρ.ty f,0,none⟩)) hHeld ?_; simp only [qA,qB,qC,qD]; refine kQ 11 27 (.pointer (some ⟨ρ.ty f,0,none⟩)) hHeld ?_; simp only [qA,qB,qC,qD]; refine kQ 12 28 (.pointer (some ⟨ρ.ty f,5,none⟩)) hHeld ?_; simp only [qA,qB,qC,qD]; refine dk 13 (some 29) (.pointer (some ⟨ρ.ty (S.of f),0,none⟩)) rfl rfl (fun w9 hS => by have q0 := zi (za i.out hS) f5.out; go_simp) hHeld ?_; simp only [qA,qB,qC,qD]; refine rd 14 rfl fun KK hKK => ?_
     go_simp
     go_at_call 189; refine (vj (HM.out.up (zh i.out)) D.out.toKTys p2 o2 p3).mono ?_; rw [he]; rintro e w3 ⟨rfl,R⟩; rw [R]; clear R
     go_simp
     refine hKK.out _ _ (zh (zc B none)) fun hHeld => ?_
     clear hKK KK; refine kQ 15 31 (.bool true) hHeld ?_; simp only [qA,qB,qC,qD]; refine kQ 16 32 (.bool true) hHeld ?_; simp only [qA,qB,qC,qD]; refine wpAnyH_done (by kernel_rfl) ?_ _; clear hHeld; obtain ⟨a5,a6,a7,a8,a9⟩ := B2.out; go_wp2_with fail; go_at_call 53; refine (zu _ (.mk k x m p [u,v]) (.slice (some ⟨g,o,none⟩) 2 C) 7).mono ?_; rintro e w3 h3; have D := h3; obtain ⟨q,rfl⟩ := h3.thrown
     exact ⟨rfl,D.err (zh i.out)⟩
    ·rw [show S.guardedC c r (.mk k x m p [u,v]) = .ok t by simp [KS.guardedC,E,hz,Y,h5,he,Except.bind]]
     go_enter Tryz.func191,Tryz.ntmps191
     go_wp2_with fail; go_at_call 194; rw [<- A]; refine (HP.out _ U.out).mono ?_; rw [E]; rintro e w1 ⟨j,rfl⟩; have d := ze (za U.out j); have V : Hid (Box w1 w.heap.size (.mk k x m p [u,v]) (.slice (some ⟨g,o,none⟩) 2 C)) := Box.kept B0.out (za (zc w0 none) j); have F := zi d.out d0.out; have H := zi d.out d1.out; have I := zi d.out d2.out; have J := zi d.out d3.out; have K := zi d.out d4.out; obtain ⟨L,M,N,O,Q⟩ := V.out; go_wp2_with fail; go_at_call 74; refine (HN.out _ d.out sw HF.out HA.out).mono ?_; rw [Y]; rintro e B ⟨s,rfl⟩; have i := ze (za d.out s); have B2 : Hid (Box B w.heap.size (.mk k x m p [u,v]) (.slice (some ⟨g,o,none⟩) 2 C)) := Box.kept V.out (za (zc w1 none) s); have Z := zi i.out d0.out; have a0 := zi i.out d1.out; have a1 := zi i.out d2.out; have a2 := zi i.out d3.out; have a3 := zi i.out d4.out; go_wp2_with fail; refine wp_region_held_drew (S := fun w9 => B.grownBy w9 none) (by kernel_rfl) ?_ (fun hHeld => ?_)
     ·exact zh (zc B none)
     refine kQ 0 16 (.pointer (some ⟨ρ.ty t,0,none⟩)) hHeld ?_; simp only [qA,qB,qC,qD]; refine kQ 1 17 (.pointer (some ⟨ρ.ty t,0,none⟩)) hHeld ?_; simp only [qA,qB,qC,qD]; refine kQ 2 18 (.pointer (some ⟨ρ.ty t,0,none⟩)) hHeld ?_; simp only [qA,qB,qC,qD]; refine dk 3 (some 19) (.int .i64 5) rfl rfl (fun w9 hS => by have q0 := zi (za i.out hS) t0.out; go_simp) hHeld ?_; simp only [qA,qB,qC,qD]; refine kQ 4 20 (.bool false) hHeld ?_; simp only [qA,qB,qC,qD]; refine kQ 5 21 (.bool false) hHeld ?_; simp only [qA,qB,qC,qD]; refine kQ 6 22 (.pointer (some ⟨ρ.ty t,0,none⟩)) hHeld ?_; simp only [qA,qB,qC,qD]; refine kQ 7 23 (.pointer (some ⟨ρ.ty t,0,none⟩)) hHeld ?_; simp only [qA,qB,qC,qD]; refine kQ 8 24 (.pointer (some ⟨ρ.ty t,5,none⟩)) hHeld ?_; simp only [qA,qB,qC,qD]; refine dk 9 (some 25) (.pointer (some ⟨ρ.ty (S.of t),0,none⟩)) rfl rfl (fun w9 hS => by have q0 := zi (za i.out hS) t5.out; go_simp) hHeld ?_; simp only [qA,qB,qC,qD]; refine kQ 10 26 (.pointer (some ⟨ρ.ty f,0,none⟩)) hHeld ?_; simp only [qA,qB,qC,qD]; refine kQ 11 27 (.pointer (some ⟨ρ.ty f,0,none⟩)) hHeld ?_; simp only [qA,qB,qC,qD]; refine kQ 12 28 (.pointer (some ⟨ρ.ty f,5,none⟩)) hHeld ?_; simp only [qA,qB,qC,qD]; refine dk 13 (some 29) (.pointer (some ⟨ρ.ty (S.of f),0,none⟩)) rfl rfl (fun w9 hS => by have q0 := zi (za i.out hS) f5.out; go_simp) hHeld ?_; simp only [qA,qB,qC,qD]; refine rd 14 rfl fun KK hKK => ?_
     go_simp
     go_at_call 189; refine (vj (HM.out.up (zh i.out)) D.out.toKTys p2 o2 p3).mono ?_; rw [he]; rintro e w3 ⟨rfl,R⟩; rw [R]; clear R
     go_simp
     refine hKK.out _ _ (zh (zc B none)) fun hHeld => ?_
     clear hKK KK; refine kQ 15 31 (.bool false) hHeld ?_; simp only [qA,qB,qC,qD]; refine kQ 16 32 (.bool false) hHeld ?_; simp only [qA,qB,qC,qD]; refine wpAnyH_done (by kernel_rfl) ?_ _; clear hHeld; go_wp2
     go_ret
     exact Cy.ok (zh i.out)
   ·rw [show S.guardedC c r (.mk k x m p [u,v]) = .error (7,p) by simp [KS.guardedC,E,hz,Y,h5,Except.bind,thr,T.at']]
    have hd : ((S.ty t).form != 5) = true := by simpa using h5
    go_enter Tryz.func191,Tryz.ntmps191
    go_wp2_with fail; go_at_call 194; rw [<- A]; refine (HP.out _ U.out).mono ?_; rw [E]; rintro e w1 ⟨j,rfl⟩; have d := ze (za U.out j); have V : Hid (Box w1 w.heap.size (.mk k x m p [u,v]) (.slice (some ⟨g,o,none⟩) 2 C)) := Box.kept B0.out (za (zc w0 none) j); have F := zi d.out d0.out; have H := zi d.out d1.out; have I := zi d.out d2.out; have J := zi d.out d3.out; have K := zi d.out d4.out; obtain ⟨L,M,N,O,Q⟩ := V.out; go_wp2_with fail; go_at_call 74; refine (HN.out _ d.out sw HF.out HA.out).mono ?_; rw [Y]; rintro e B ⟨s,rfl⟩; have i := ze (za d.out s); have B2 : Hid (Box B w.heap.size (.mk k x m p [u,v]) (.slice (some ⟨g,o,none⟩) 2 C)) := Box.kept V.out (za (zc w1 none) s); have Z := zi i.out d0.out; have a0 := zi i.out d1.out; have a1 := zi i.out d2.out; have a2 := zi i.out d3.out; have a3 := zi i.out d4.out; go_wp2_with fail; refine wp_region_held_drew (S := fun w9 => B.grownBy w9 none) (by kernel_rfl) ?_ (fun hHeld => ?_)
    ·exact zh (zc B none)
    refine kQ 0 16 (.pointer (some ⟨ρ.ty t,0,none⟩)) hHeld ?_; simp only [qA,qB,qC,qD]; refine kQ 1 17 (.pointer (some ⟨ρ.ty t,0,none⟩)) hHeld ?_; simp only [qA,qB,qC,qD]; refine kQ 2 18 (.pointer (some ⟨ρ.ty t,0,none⟩)) hHeld ?_; simp only [qA,qB,qC,qD]; refine dk 3 (some 19) (.int .i64 (S.ty t).form) rfl rfl (fun w9 hS => by have q0 := zi (za i.out hS) t0.out; go_simp) hHeld ?_; simp only [qA,qB,qC,qD]; refine kQ 4 20 (.bool true) hHeld ?_; simp only [qA,qB,qC,qD]; refine kQ 5 21 (.bool true) hHeld ?_; simp only [qA,qB,qC,qD]; refine dn 6 (some 22) rfl rfl hHeld ?_; simp only [qA,qB,qC,qD]; refine dn 7 (some 23) rfl rfl hHeld ?_; simp only [qA,qB,qC,qD]; refine dn 8 (some 24) rfl rfl hHeld ?_; simp only [qA,qB,qC,qD]; refine dn 9 (some 25) rfl rfl hHeld ?_; simp only [qA,qB,qC,qD]; refine dn 10 (some 26) rfl rfl hHeld ?_; simp only [qA,qB,qC,qD]; refine dn 11 (some 27) rfl rfl hHeld ?_; simp only [qA,qB,qC,qD]; refine dn 12 (some 28) rfl rfl hHeld ?_; simp only [qA,qB,qC,qD]; refine dn 13 (some 29) rfl rfl hHeld ?_; simp only [qA,qB,qC,qD]; refine dn 14 (some 30) rfl rfl hHeld ?_; simp only [qA,qB,qC,qD]; refine dn 15 (some 31) rfl rfl hHeld ?_; simp only [qA,qB,qC,qD]; refine kQ 16 32 (.bool true) hHeld ?_; simp only [qA,qB,qC,qD]; refine wpAnyH_done (by kernel_rfl) ?_ _; clear hHeld; obtain ⟨a5,a6,a7,a8,a9⟩ := B2.out; go_wp2_with fail; go_at_call 53; refine (zu _ (.mk k x m p [u,v]) (.slice (some ⟨g,o,none⟩) 2 C) 7).mono ?_; rintro e w3 h3; have D := h3; obtain ⟨q,rfl⟩ := h3.thrown
    exact ⟨rfl,D.err (zh i.out)⟩
end
set_option maxHeartbeats 4000000
section
variable {ρ : Lay} {w w' w1 : World} {S : KS} {b : Nat} {c : KSc}
theorem fV (hT : KTys S) (x : Nm) : ∀ (f i : Nat) (d : KFd) (o : Nat),i < S.tys.length -> (S.ty i).form = 4 -> S.fieldF f i x = some (d,o) -> o < S.tys.length /\ (S.ty o).form = 4 /\ d.ty < S.tys.length
 | 0,i,d,o,_,_,h => by cases h
 | f + 1,i,d,o,hi,h4,h => by
  unfold KS.fieldF at h
  cases hq : kr (S.ty i).fields x with
  | some e =>
   rw [hq] at h; cases h
   have key : ∀ l : List KFd,kr l x = some d -> d ∈ l := by
    intro l
    induction l with
    | nil => intro h; cases h
    | cons a r ih =>
     intro h
     unfold kr at h
     split at h
     ·cases h; simp
     ·exact List.mem_cons_of_mem _ (ih h)
   exact ⟨hi,h4,hT.fd i hi d (key _ hq)⟩
  | none =>
   rw [hq] at h; cases g : (S.ty i).of with
   | none => rw [g] at h; cases h
   | some q =>
    rw [g] at h; obtain ⟨_,j⟩ := hT.rc i hi h4 q g
    exact fV hT x f q d o (by omega) j h
theorem tl (hT : KTys S) {x : Nm} {i : Nat} {d : KFd} {o : Nat} (hi : i < S.tys.length) (h4 : (S.ty i).form = 4) (h : S.field i x = some (d,o)) : o < S.tys.length /\ (S.ty o).form = 4 /\ d.ty < S.tys.length := fV hT x _ i d o hi h4 h
theorem tE : ρ.fdP none = .tuple #[.agg #[.string ⟨#[]⟩,.bool false,.pointer none,.int .i64 0],.pointer none] := rfl
theorem uf (d : KFd) (o : Nat) : ρ.fdP (some (d,o)) = .tuple #[.agg #[.string ⟨d.name.toArray⟩,.bool d.exp,.pointer (some ⟨ρ.ty d.ty,0,none⟩),.int .i64 d.first],.pointer (some ⟨ρ.ty o,0,none⟩)] := rfl
def KS.recOf (S : KS) (t : Nat) : Nat := if (S.ty t).form = 5 then S.of t else t
theorem oQ (h : CK ρ w S b c) (n : T) (sv : Value) (hf : Fits n) (ha : AT w n.subs sv) (hT : KAll S) {r : KR} {u : T} (hl : n.subs = [u]) (hu : CDe ρ S b c r u) :
  Calls Tryz.prog 192 #[.pointer (some ⟨b,0,none⟩),zn n sv] w (Cy w ((S.dotC c r n).map fun t => .pointer (some ⟨ρ.ty t,0,none⟩))) := by
 have HU := ze (fun w1 (G : w.grownBy w1 none) su (fu : Fits u) (au : AT w u.subs su) => hu.run w1 su (h.up G) fu (au.kept G)); have HM := ze h.km; have Y := ze hT; have b8 := hu.lt; have hh := h.hc; have s1 : Hid _ := h.s1; obtain ⟨B,x,m,p,l⟩ := n; obtain rfl : l = [u] := hl; obtain ⟨g,o,E,su,rfl,c6,c7,n5,fu,au,-⟩ := ha.cons; have HA := ze au; have HF := ze fu; have d0 := n5.c0; have d1 := n5.c1; have d2 := n5.c2; have d3 := n5.c3; have d4 := n5.c4; have zg : g < w.heap.size := zw d0; clear n5 fu au
 change Calls Tryz.prog 192 #[.pointer (some ⟨b,0,none⟩),.agg #[.int .i64 B,.string ⟨x.toArray⟩,.int .i64 m,.int .i64 p,.slice (some ⟨g,o,none⟩) 1 E]] w _
 obtain ⟨w0,V⟩ : ∃ z,z = w.alloc (.cells #[.int .i64 B,.string ⟨x.toArray⟩,.int .i64 m,.int .i64 p,.slice (some ⟨g,o,none⟩) 1 E] 100) := ⟨_,rfl⟩
 have G0 : Hid (w.grownBy w0 none) := by rw [V]; exact zf (zc w none) _
 have B0 : Hid (Box w0 w.heap.size (.mk B x m p [u]) (.slice (some ⟨g,o,none⟩) 1 E)) := by rw [V]; exact Box.new w (.mk B x m p [u]) (.slice (some ⟨g,o,none⟩) 1 E) _
 clear h ha hf hu hT
 have hz : sub (.mk B x m p [u]) 0 = u := rfl
 have b9 : (T.mk B x m p [u]).name = x := rfl
 cases hq : r.de u with
 | error z =>
  rw [show S.dotC c r (.mk B x m p [u]) = .error z by simp [KS.dotC,hz,hq,Except.bind]]
  go_enter Tryz.func192,Tryz.ntmps192
  go_wp2_with fail; go_at_call 161; rw [<- V]; refine (HU.out _ G0.out su HF.out HA.out).mono ?_; rw [hq]; rintro e w1 h1; have Y := h1; obtain ⟨q,rfl⟩ := h1.thrown
  exact ⟨rfl,Y.err G0.out⟩
 | ok t =>
  have ht := b8 t hq; have H : Hid (w.cell? ⟨ρ.ty t,0,none⟩ = some (.int .i64 (S.ty t).form)) := HM.out.y0 ht; have I : Hid (w.cell? ⟨ρ.ty t,5,none⟩ = some (ρ.tyP (S.ty t).of)) := HM.out.y5 ht
  have hr : (S.ty t).form = 5 -> (S.ty t).of = some (S.of t) := fun F => (Y.out.p ht F).1
  obtain ⟨q,A⟩ : ∃ q,q = S.recOf t := ⟨_,rfl⟩
  have a6 : q < S.tys.length := by
   rw [A]
   unfold KS.recOf
   split
   ·rename_i F; exact (Y.out.p ht F).2.1
   ·exact ht
  have U : Hid (w.cell? ⟨ρ.ty q,0,none⟩ = some (.int .i64 (S.ty q).form)) := HM.out.y0 a6
  have hD : S.dotC c r (.mk B x m p [u]) = if (S.ty q).form = 4 then (match S.field q x with
    | none => thr (.mk B x m p [u]) 5
    | some (d,o) => if d.exp = true then .ok d.ty else if (S.ty o).home = some c.home then .ok d.ty else thr (.mk B x m p [u]) 5) else thr (.mk B x m p [u]) 7 := by
   rw [A]; simp only [KS.dotC,hz,hq,Except.bind,KS.recOf,b9]
   rfl
  rw [hD]; clear hD
  by_cases Z : (S.ty q).form = 4
  ·rw [if_pos Z]
   cases a7 : S.field q x with
   | none =>
    simp only [thr,T.at']; rw [Z] at U
    by_cases F : (S.ty t).form = 5
    ·have e5 := hr F
     rw [show S.recOf t = S.of t by simp [KS.recOf,F]] at A; subst A; rw [e5,yd] at I; rw [F] at H; clear hr e5
     go_enter Tryz.func192,Tryz.ntmps192
     go_wp2_with fail; go_at_call 161; rw [<- V]; refine (HU.out _ G0.out su HF.out HA.out).mono ?_; rw [hq]; rintro e w1 ⟨i,rfl⟩; have j := ze (za G0.out i); have X : Hid (Box w1 w.heap.size (.mk B x m p [u]) (.slice (some ⟨g,o,none⟩) 1 E)) := Box.kept B0.out (za (zc w0 none) i); have J := zi j.out H.out; have K := zi j.out I.out; have L := zi j.out U.out; obtain ⟨M,N,O,Q,R⟩ := X.out; go_wp2_with fail; go_at_call 19; refine (yS (HM.out.up j.out) Y.out.toKTys a6 Z x).mono ?_; rw [a7,tE]; rintro e C ⟨rfl,v⟩; have D := ze (za j.out v); have B2 : Hid (Box C w.heap.size (.mk B x m p [u]) (.slice (some ⟨g,o,none⟩) 1 E)) := Box.kept X.out (za (zc w1 none) v); have a0 := zi D.out H.out; have a1 := zi D.out I.out; have a2 := zi D.out U.out; go_wp2_with fail; obtain ⟨k,f⟩ : ∃ z,z = C.alloc (.cells #[.string ⟨#[]⟩,.bool false,.pointer none,.int .i64 0] 58) := ⟨_,rfl⟩; rw [<- f]
     have s : Hid (w.grownBy k none) := by rw [f]; exact zf D.out _
     have B3 : Hid (Box k w.heap.size (.mk B x m p [u]) (.slice (some ⟨g,o,none⟩) 1 E)) := by rw [f]; exact Box.kept B2.out (zf (zc _ none) _)
     have a3 := zi s.out H.out; have a4 := zi s.out I.out; have a5 := zi s.out U.out; clear f; refine wp_region_held_drew (S := fun w9 => k.grownBy w9 none) (by kernel_rfl) ?_ (fun hHeld => ?_)
     ·exact zh (zc k none)
     refine kQ 0 37 (.pointer none) hHeld ?_; simp only [qA,qB,qC,qD]; refine kQ 1 38 (.bool true) hHeld ?_; simp only [qA,qB,qC,qD]; refine kQ 2 39 (.bool true) hHeld ?_; simp only [qA,qB,qC,qD]; refine dn 3 (some 40) rfl rfl hHeld ?_; simp only [qA,qB,qC,qD]; refine dn 4 (some 41) rfl rfl hHeld ?_; simp only [qA,qB,qC,qD]; refine dn 5 (some 42) rfl rfl hHeld ?_; simp only [qA,qB,qC,qD]; refine dn 6 (some 43) rfl rfl hHeld ?_; simp only [qA,qB,qC,qD]; refine dn 7 (some 44) rfl rfl hHeld ?_; simp only [qA,qB,qC,qD]; refine dn 8 (some 45) rfl rfl hHeld ?_; simp only [qA,qB,qC,qD]; refine dn 9 (some 46) rfl rfl hHeld ?_; simp only [qA,qB,qC,qD]; refine dn 10 (some 47) rfl rfl hHeld ?_; simp only [qA,qB,qC,qD]; refine dn 11 (some 48) rfl rfl hHeld ?_; simp only [qA,qB,qC,qD]; refine dn 12 (some 49) rfl rfl hHeld ?_; simp only [qA,qB,qC,qD]; refine dn 13 (some 50) rfl rfl hHeld ?_; simp only [qA,qB,qC,qD]; refine dn 14 (some 51) rfl rfl hHeld ?_; simp only [qA,qB,qC,qD]; refine dn 15 (some 52) rfl rfl hHeld ?_; simp only [qA,qB,qC,qD]; refine dn 16 (some 53) rfl rfl hHeld ?_; simp only [qA,qB,qC,qD]; refine dn 17 (some 54) rfl rfl hHeld ?_; simp only [qA,qB,qC,qD]; refine kQ 18 55 (.bool true) hHeld ?_; simp only [qA,qB,qC,qD]; refine wpAnyH_done (by kernel_rfl) ?_ _; clear hHeld; obtain ⟨a9,b0,b1,b2,b3⟩ := B3.out; go_wp2_with fail; go_at_call 53; refine (zu _ (.mk B x m p [u]) (.slice (some ⟨g,o,none⟩) 1 E) 5).mono ?_; rintro e w4 Z; have Y := Z; obtain ⟨q,rfl⟩ := Z.thrown
     exact ⟨rfl,Y.err (zh s.out)⟩
    ·have b5 : decide ((S.ty t).form = 5) = false := by simpa using F
     rw [show S.recOf t = t by simp [KS.recOf,F]] at A; subst A; clear hr
     go_enter Tryz.func192,Tryz.ntmps192
     go_wp2_with fail; go_at_call 161; rw [<- V]; refine (HU.out _ G0.out su HF.out HA.out).mono ?_; rw [hq]; rintro e w1 ⟨i,rfl⟩; have j := ze (za G0.out i); have X : Hid (Box w1 w.heap.size (.mk B x m p [u]) (.slice (some ⟨g,o,none⟩) 1 E)) := Box.kept B0.out (za (zc w0 none) i); have J := zi j.out H.out; have K := zi j.out I.out; have L := zi j.out U.out; obtain ⟨M,N,O,Q,R⟩ := X.out; go_wp2_with fail; go_at_call 19; refine (yS (HM.out.up j.out) Y.out.toKTys a6 Z x).mono ?_; rw [a7,tE]; rintro e C ⟨rfl,v⟩; have D := ze (za j.out v); have B2 : Hid (Box C w.heap.size (.mk B x m p [u]) (.slice (some ⟨g,o,none⟩) 1 E)) := Box.kept X.out (za (zc w1 none) v); have a0 := zi D.out H.out; have a1 := zi D.out I.out; have a2 := zi D.out U.out; go_wp2_with fail; obtain ⟨k,f⟩ : ∃ z,z = C.alloc (.cells #[.string ⟨#[]⟩,.bool false,.pointer none,.int .i64 0] 58) := ⟨_,rfl⟩; rw [<- f]
     have s : Hid (w.grownBy k none) := by rw [f]; exact zf D.out _
     have B3 : Hid (Box k w.heap.size (.mk B x m p [u]) (.slice (some ⟨g,o,none⟩) 1 E)) := by rw [f]; exact Box.kept B2.out (zf (zc _ none) _)
     have a3 := zi s.out H.out; have a4 := zi s.out I.out; have a5 := zi s.out U.out; clear f; refine wp_region_held_drew (S := fun w9 => k.grownBy w9 none) (by kernel_rfl) ?_ (fun hHeld => ?_)
     ·exact zh (zc k none)
     refine kQ 0 37 (.pointer none) hHeld ?_; simp only [qA,qB,qC,qD]; refine kQ 1 38 (.bool true) hHeld ?_; simp only [qA,qB,qC,qD]; refine kQ 2 39 (.bool true) hHeld ?_; simp only [qA,qB,qC,qD]; refine dn 3 (some 40) rfl rfl hHeld ?_; simp only [qA,qB,qC,qD]; refine dn 4 (some 41) rfl rfl hHeld ?_; simp only [qA,qB,qC,qD]; refine dn 5 (some 42) rfl rfl hHeld ?_; simp only [qA,qB,qC,qD]; refine dn 6 (some 43) rfl rfl hHeld ?_; simp only [qA,qB,qC,qD]; refine dn 7 (some 44) rfl rfl hHeld ?_; simp only [qA,qB,qC,qD]; refine dn 8 (some 45) rfl rfl hHeld ?_; simp only [qA,qB,qC,qD]; refine dn 9 (some 46) rfl rfl hHeld ?_; simp only [qA,qB,qC,qD]; refine dn 10 (some 47) rfl rfl hHeld ?_; simp only [qA,qB,qC,qD]; refine dn 11 (some 48) rfl rfl hHeld ?_; simp only [qA,qB,qC,qD]; refine dn 12 (some 49) rfl rfl hHeld ?_; simp only [qA,qB,qC,qD]; refine dn 13 (some 50) rfl rfl hHeld ?_; simp only [qA,qB,qC,qD]; refine dn 14 (some 51) rfl rfl hHeld ?_; simp only [qA,qB,qC,qD]; refine dn 15 (some 52) rfl rfl hHeld ?_; simp only [qA,qB,qC,qD]; refine dn 16 (some 53) rfl rfl hHeld ?_; simp only [qA,qB,qC,qD]; refine dn 17 (some 54) rfl rfl hHeld ?_; simp only [qA,qB,qC,qD]; refine kQ 18 55 (.bool true) hHeld ?_; simp only [qA,qB,qC,qD]; refine wpAnyH_done (by kernel_rfl) ?_ _; clear hHeld; obtain ⟨a9,b0,b1,b2,b3⟩ := B3.out; go_wp2_with fail; go_at_call 53; refine (zu _ (.mk B x m p [u]) (.slice (some ⟨g,o,none⟩) 1 E) 5).mono ?_; rintro e w4 Z; have Y := Z; obtain ⟨q,rfl⟩ := Z.thrown
     exact ⟨rfl,Y.err (zh s.out)⟩
   | some z =>
    obtain ⟨d,ow⟩ := z; obtain ⟨ho,c5,_⟩ := tl Y.out.toKTys a6 Z a7; obtain ⟨hm,b7,b6⟩ := Y.out.hm ow ho c5
    have o2 : Hid (w.cell? ⟨ρ.ty ow,2,none⟩ = some (.pointer (some ⟨ρ.md hm,0,none⟩))) := by have h9 := HM.out.y2 ho; rw [b7] at h9; exact h9
    simp only [b7]; rw [Z] at U; cases he : d.exp
    ·by_cases b4 : hm = c.home
     ·simp only [b4,if_true,Bool.false_eq_true,if_false]
      subst b4
      by_cases F : (S.ty t).form = 5
      ·have e5 := hr F
       rw [show S.recOf t = S.of t by simp [KS.recOf,F]] at A; subst A; rw [e5,yd] at I; rw [F] at H; clear hr e5
       go_enter Tryz.func192,Tryz.ntmps192
       go_wp2_with fail; go_at_call 161; rw [<- V]; refine (HU.out _ G0.out su HF.out HA.out).mono ?_; rw [hq]; rintro e w1 ⟨i,rfl⟩; have j := ze (za G0.out i); have X : Hid (Box w1 w.heap.size (.mk B x m p [u]) (.slice (some ⟨g,o,none⟩) 1 E)) := Box.kept B0.out (za (zc w0 none) i); have J := zi j.out H.out; have K := zi j.out I.out; have L := zi j.out U.out; obtain ⟨M,N,O,Q,R⟩ := X.out; go_wp2_with fail; go_at_call 19; refine (yS (HM.out.up j.out) Y.out.toKTys a6 Z x).mono ?_; rw [a7,uf]; rintro e C ⟨rfl,v⟩; have D := ze (za j.out v); have B2 : Hid (Box C w.heap.size (.mk B x m p [u]) (.slice (some ⟨g,o,none⟩) 1 E)) := Box.kept X.out (za (zc w1 none) v); have a0 := zi D.out H.out; have a1 := zi D.out I.out; have a2 := zi D.out U.out; go_wp2_with fail; obtain ⟨k,f⟩ : ∃ z,z = C.alloc (.cells #[.string ⟨d.name.toArray⟩,.bool false,.pointer (some ⟨ρ.ty d.ty,0,none⟩),.int .i64 d.first] 58) := ⟨_,rfl⟩; rw [<- f]
       have s : Hid (w.grownBy k none) := by rw [f]; exact zf D.out _
       have B3 : Hid (Box k w.heap.size (.mk B x m p [u]) (.slice (some ⟨g,o,none⟩) 1 E)) := by rw [f]; exact Box.kept B2.out (zf (zc _ none) _)
       have a3 := zi s.out H.out; have a4 := zi s.out I.out; have a5 := zi s.out U.out
       have F3 : Hid (Bk k C.heap.size [.string ⟨d.name.toArray⟩,.bool false,.pointer (some ⟨ρ.ty d.ty,0,none⟩),.int .i64 d.first]) := by rw [f]; exact Bk.new _ _ _ rfl
       have f1 : Hid (k.cell? ⟨C.heap.size,1,none⟩ = some (.bool false)) := F3.out.c 1 _ rfl; have f2 := F3.out.c 2 _ rfl
       have a8 := fun w9 (hS : k.grownBy w9 none) => xN (rL (HM.out.up (za s.out hS)) b6 hh true (by simp))
       clear f; refine wp_region_held_drew (S := fun w9 => k.grownBy w9 none) (by kernel_rfl) ?_ (fun hHeld => ?_)
       ·exact zh (zc k none)
       refine kQ 0 37 (.pointer (some ⟨ρ.ty ow,0,none⟩)) hHeld ?_; simp only [qA,qB,qC,qD]; refine kQ 1 38 (.bool false) hHeld ?_; simp only [qA,qB,qC,qD]; refine kQ 2 39 (.bool false) hHeld ?_; simp only [qA,qB,qC,qD]; refine kQ 3 40 (.pointer (some ⟨C.heap.size,1,none⟩)) hHeld ?_; simp only [qA,qB,qC,qD]; refine dk 4 (some 41) (.bool false) rfl rfl (fun w9 hS => by have q1 := zi hS f1.out; go_simp) hHeld ?_; simp only [qA,qB,qC,qD]; refine kQ 5 42 (.bool true) hHeld ?_; simp only [qA,qB,qC,qD]; refine kQ 6 43 (.bool true) hHeld ?_; simp only [qA,qB,qC,qD]; refine kQ 7 44 (.pointer (some ⟨ρ.ty ow,0,none⟩)) hHeld ?_; simp only [qA,qB,qC,qD]; refine kQ 8 45 (.pointer (some ⟨ρ.ty ow,0,none⟩)) hHeld ?_; simp only [qA,qB,qC,qD]; refine kQ 9 46 (.pointer (some ⟨ρ.ty ow,2,none⟩)) hHeld ?_; simp only [qA,qB,qC,qD]; refine dk 10 (some 47) (.pointer (some ⟨ρ.md c.home,0,none⟩)) rfl rfl (fun w9 hS => by have q1 := zi (za s.out hS) o2.out; go_simp) hHeld ?_; simp only [qA,qB,qC,qD]; refine kQ 11 48 (.pointer (some ⟨b,0,none⟩)) hHeld ?_; simp only [qA,qB,qC,qD]; refine kQ 12 49 (.pointer (some ⟨b,0,none⟩)) hHeld ?_; simp only [qA,qB,qC,qD]; refine kQ 13 50 (.pointer (some ⟨b,0,none⟩)) hHeld ?_; simp only [qA,qB,qC,qD]; refine kQ 14 51 (.pointer (some ⟨b,1,none⟩)) hHeld ?_; simp only [qA,qB,qC,qD]; refine dk 15 (some 52) (.pointer (some ⟨ρ.md c.home,0,none⟩)) rfl rfl (fun w9 hS => by have q1 := zi (za s.out hS) s1.out; go_simp) hHeld ?_; simp only [qA,qB,qC,qD]
       refine dk 16 (some 53) (.bool false) rfl rfl (fun w9 hS => by have q1 := a8 w9 hS; go_simp) hHeld ?_; simp only [qA,qB,qC,qD]; refine kQ 17 54 (.bool false) hHeld ?_; simp only [qA,qB,qC,qD]; refine kQ 18 55 (.bool false) hHeld ?_; simp only [qA,qB,qC,qD]; refine wpAnyH_done (by kernel_rfl) ?_ _; clear hHeld; go_wp2
       go_ret
       exact Cy.ok (zh s.out)
      ·have b5 : decide ((S.ty t).form = 5) = false := by simpa using F
       rw [show S.recOf t = t by simp [KS.recOf,F]] at A; subst A; clear hr
       go_enter Tryz.func192,Tryz.ntmps192
       go_wp2_with fail; go_at_call 161; rw [<- V]; refine (HU.out _ G0.out su HF.out HA.out).mono ?_; rw [hq]; rintro e w1 ⟨i,rfl⟩; have j := ze (za G0.out i); have X : Hid (Box w1 w.heap.size (.mk B x m p [u]) (.slice (some ⟨g,o,none⟩) 1 E)) := Box.kept B0.out (za (zc w0 none) i); have J := zi j.out H.out; have K := zi j.out I.out; have L := zi j.out U.out; obtain ⟨M,N,O,Q,R⟩ := X.out; go_wp2_with fail; go_at_call 19; refine (yS (HM.out.up j.out) Y.out.toKTys a6 Z x).mono ?_; rw [a7,uf]; rintro e C ⟨rfl,v⟩; have D := ze (za j.out v); have B2 : Hid (Box C w.heap.size (.mk B x m p [u]) (.slice (some ⟨g,o,none⟩) 1 E)) := Box.kept X.out (za (zc w1 none) v); have a0 := zi D.out H.out; have a1 := zi D.out I.out; have a2 := zi D.out U.out; go_wp2_with fail; obtain ⟨k,f⟩ : ∃ z,z = C.alloc (.cells #[.string ⟨d.name.toArray⟩,.bool false,.pointer (some ⟨ρ.ty d.ty,0,none⟩),.int .i64 d.first] 58) := ⟨_,rfl⟩; rw [<- f]
       have s : Hid (w.grownBy k none) := by rw [f]; exact zf D.out _
       have B3 : Hid (Box k w.heap.size (.mk B x m p [u]) (.slice (some ⟨g,o,none⟩) 1 E)) := by rw [f]; exact Box.kept B2.out (zf (zc _ none) _)
       have a3 := zi s.out H.out; have a4 := zi s.out I.out; have a5 := zi s.out U.out
       have F3 : Hid (Bk k C.heap.size [.string ⟨d.name.toArray⟩,.bool false,.pointer (some ⟨ρ.ty d.ty,0,none⟩),.int .i64 d.first]) := by rw [f]; exact Bk.new _ _ _ rfl
       have f1 : Hid (k.cell? ⟨C.heap.size,1,none⟩ = some (.bool false)) := F3.out.c 1 _ rfl; have f2 := F3.out.c 2 _ rfl
       have a8 := fun w9 (hS : k.grownBy w9 none) => xN (rL (HM.out.up (za s.out hS)) b6 hh true (by simp))
       clear f; refine wp_region_held_drew (S := fun w9 => k.grownBy w9 none) (by kernel_rfl) ?_ (fun hHeld => ?_)
       ·exact zh (zc k none)
       refine kQ 0 37 (.pointer (some ⟨ρ.ty ow,0,none⟩)) hHeld ?_; simp only [qA,qB,qC,qD]; refine kQ 1 38 (.bool false) hHeld ?_; simp only [qA,qB,qC,qD]; refine kQ 2 39 (.bool false) hHeld ?_; simp only [qA,qB,qC,qD]; refine kQ 3 40 (.pointer (some ⟨C.heap.size,1,none⟩)) hHeld ?_; simp only [qA,qB,qC,qD]; refine dk 4 (some 41) (.bool false) rfl rfl (fun w9 hS => by have q1 := zi hS f1.out; go_simp) hHeld ?_; simp only [qA,qB,qC,qD]; refine kQ 5 42 (.bool true) hHeld ?_; simp only [qA,qB,qC,qD]; refine kQ 6 43 (.bool true) hHeld ?_; simp only [qA,qB,qC,qD]; refine kQ 7 44 (.pointer (some ⟨ρ.ty ow,0,none⟩)) hHeld ?_; simp only [qA,qB,qC,qD]; refine kQ 8 45 (.pointer (some ⟨ρ.ty ow,0,none⟩)) hHeld ?_; simp only [qA,qB,qC,qD]; refine kQ 9 46 (.pointer (some ⟨ρ.ty ow,2,none⟩)) hHeld ?_; simp only [qA,qB,qC,qD]; refine dk 10 (some 47) (.pointer (some ⟨ρ.md c.home,0,none⟩)) rfl rfl (fun w9 hS => by have q1 := zi (za s.out hS) o2.out; go_simp) hHeld ?_; simp only [qA,qB,qC,qD]; refine kQ 11 48 (.pointer (some ⟨b,0,none⟩)) hHeld ?_; simp only [qA,qB,qC,qD]; refine kQ 12 49 (.pointer (some ⟨b,0,none⟩)) hHeld ?_; simp only [qA,qB,qC,qD]; refine kQ 13 50 (.pointer (some ⟨b,0,none⟩)) hHeld ?_; simp only [qA,qB,qC,qD]; refine kQ 14 51 (.pointer (some ⟨b,1,none⟩)) hHeld ?_; simp only [qA,qB,qC,qD]; refine dk 15 (some 52) (.pointer (some ⟨ρ.md c.home,0,none⟩)) rfl rfl (fun w9 hS => by have q1 := zi (za s.out hS) s1.out; go_simp) hHeld ?_; simp only [qA,qB,qC,qD]
       refine dk 16 (some 53) (.bool false) rfl rfl (fun w9 hS => by have q1 := a8 w9 hS; go_simp) hHeld ?_; simp only [qA,qB,qC,qD]; refine kQ 17 54 (.bool false) hHeld ?_; simp only [qA,qB,qC,qD]; refine kQ 18 55 (.bool false) hHeld ?_; simp only [qA,qB,qC,qD]; refine wpAnyH_done (by kernel_rfl) ?_ _; clear hHeld; go_wp2
       go_ret
       exact Cy.ok (zh s.out)
     ·simp only [Option.some.injEq,b4,Bool.false_eq_true,if_false,thr,T.at']
      by_cases F : (S.ty t).form = 5
      ·have e5 := hr F
       rw [show S.recOf t = S.of t by simp [KS.recOf,F]] at A; subst A; rw [e5,yd] at I; rw [F] at H; clear hr e5
       go_enter Tryz.func192,Tryz.ntmps192
       go_wp2_with fail; go_at_call 161; rw [<- V]; refine (HU.out _ G0.out su HF.out HA.out).mono ?_; rw [hq]; rintro e w1 ⟨i,rfl⟩; have j := ze (za G0.out i); have X : Hid (Box w1 w.heap.size (.mk B x m p [u]) (.slice (some ⟨g,o,none⟩) 1 E)) := Box.kept B0.out (za (zc w0 none) i); have J := zi j.out H.out; have K := zi j.out I.out; have L := zi j.out U.out; obtain ⟨M,N,O,Q,R⟩ := X.out; go_wp2_with fail; go_at_call 19; refine (yS (HM.out.up j.out) Y.out.toKTys a6 Z x).mono ?_; rw [a7,uf]; rintro e C ⟨rfl,v⟩; have D := ze (za j.out v); have B2 : Hid (Box C w.heap.size (.mk B x m p [u]) (.slice (some ⟨g,o,none⟩) 1 E)) := Box.kept X.out (za (zc w1 none) v); have a0 := zi D.out H.out; have a1 := zi D.out I.out; have a2 := zi D.out U.out; go_wp2_with fail; obtain ⟨k,f⟩ : ∃ z,z = C.alloc (.cells #[.string ⟨d.name.toArray⟩,.bool false,.pointer (some ⟨ρ.ty d.ty,0,none⟩),.int .i64 d.first] 58) := ⟨_,rfl⟩; rw [<- f]
       have s : Hid (w.grownBy k none) := by rw [f]; exact zf D.out _
       have B3 : Hid (Box k w.heap.size (.mk B x m p [u]) (.slice (some ⟨g,o,none⟩) 1 E)) := by rw [f]; exact Box.kept B2.out (zf (zc _ none) _)
       have a3 := zi s.out H.out; have a4 := zi s.out I.out; have a5 := zi s.out U.out
       have F3 : Hid (Bk k C.heap.size [.string ⟨d.name.toArray⟩,.bool false,.pointer (some ⟨ρ.ty d.ty,0,none⟩),.int .i64 d.first]) := by rw [f]; exact Bk.new _ _ _ rfl
       have f1 : Hid (k.cell? ⟨C.heap.size,1,none⟩ = some (.bool false)) := F3.out.c 1 _ rfl; have f2 := F3.out.c 2 _ rfl
       have a8 := fun w9 (hS : k.grownBy w9 none) => xN (rL (HM.out.up (za s.out hS)) b6 hh false (by simpa using b4))
       clear f; refine wp_region_held_drew (S := fun w9 => k.grownBy w9 none) (by kernel_rfl) ?_ (fun hHeld => ?_)
       ·exact zh (zc k none)
       refine kQ 0 37 (.pointer (some ⟨ρ.ty ow,0,none⟩)) hHeld ?_; simp only [qA,qB,qC,qD]; refine kQ 1 38 (.bool false) hHeld ?_; simp only [qA,qB,qC,qD]; refine kQ 2 39 (.bool false) hHeld ?_; simp only [qA,qB,qC,qD]; refine kQ 3 40 (.pointer (some ⟨C.heap.size,1,none⟩)) hHeld ?_; simp only [qA,qB,qC,qD]; refine dk 4 (some 41) (.bool false) rfl rfl (fun w9 hS => by have q1 := zi hS f1.out; go_simp) hHeld ?_; simp only [qA,qB,qC,qD]; refine kQ 5 42 (.bool true) hHeld ?_; simp only [qA,qB,qC,qD]; refine kQ 6 43 (.bool true) hHeld ?_; simp only [qA,qB,qC,qD]; refine kQ 7 44 (.pointer (some ⟨ρ.ty ow,0,none⟩)) hHeld ?_; simp only [qA,qB,qC,qD]; refine kQ 8 45 (.pointer (some ⟨ρ.ty ow,0,none⟩)) hHeld ?_; simp only [qA,qB,qC,qD]; refine kQ 9 46 (.pointer (some ⟨ρ.ty ow,2,none⟩)) hHeld ?_; simp only [qA,qB,qC,qD]; refine dk 10 (some 47) (.pointer (some ⟨ρ.md hm,0,none⟩)) rfl rfl (fun w9 hS => by have q1 := zi (za s.out hS) o2.out; go_simp) hHeld ?_; simp only [qA,qB,qC,qD]; refine kQ 11 48 (.pointer (some ⟨b,0,none⟩)) hHeld ?_; simp only [qA,qB,qC,qD]; refine kQ 12 49 (.pointer (some ⟨b,0,none⟩)) hHeld ?_; simp only [qA,qB,qC,qD]; refine kQ 13 50 (.pointer (some ⟨b,0,none⟩)) hHeld ?_; simp only [qA,qB,qC,qD]; refine kQ 14 51 (.pointer (some ⟨b,1,none⟩)) hHeld ?_; simp only [qA,qB,qC,qD]; refine dk 15 (some 52) (.pointer (some ⟨ρ.md c.home,0,none⟩)) rfl rfl (fun w9 hS => by have q1 := zi (za s.out hS) s1.out; go_simp) hHeld ?_; simp only [qA,qB,qC,qD]
       refine dk 16 (some 53) (.bool true) rfl rfl (fun w9 hS => by have q1 := a8 w9 hS; go_simp) hHeld ?_; simp only [qA,qB,qC,qD]; refine kQ 17 54 (.bool true) hHeld ?_; simp only [qA,qB,qC,qD]; refine kQ 18 55 (.bool true) hHeld ?_; simp only [qA,qB,qC,qD]; refine wpAnyH_done (by kernel_rfl) ?_ _; clear hHeld; obtain ⟨a9,b0,b1,b2,b3⟩ := B3.out; go_wp2_with fail; go_at_call 53; refine (zu _ (.mk B x m p [u]) (.slice (some ⟨g,o,none⟩) 1 E) 5).mono ?_; rintro e w4 Z; have Y := Z; obtain ⟨q,rfl⟩ := Z.thrown
       exact ⟨rfl,Y.err (zh s.out)⟩
      ·have b5 : decide ((S.ty t).form = 5) = false := by simpa using F
       rw [show S.recOf t = t by simp [KS.recOf,F]] at A; subst A; clear hr
       go_enter Tryz.func192,Tryz.ntmps192
       go_wp2_with fail; go_at_call 161; rw [<- V]; refine (HU.out _ G0.out su HF.out HA.out).mono ?_; rw [hq]; rintro e w1 ⟨i,rfl⟩; have j := ze (za G0.out i); have X : Hid (Box w1 w.heap.size (.mk B x m p [u]) (.slice (some ⟨g,o,none⟩) 1 E)) := Box.kept B0.out (za (zc w0 none) i); have J := zi j.out H.out; have K := zi j.out I.out; have L := zi j.out U.out; obtain ⟨M,N,O,Q,R⟩ := X.out; go_wp2_with fail; go_at_call 19; refine (yS (HM.out.up j.out) Y.out.toKTys a6 Z x).mono ?_; rw [a7,uf]; rintro e C ⟨rfl,v⟩; have D := ze (za j.out v); have B2 : Hid (Box C w.heap.size (.mk B x m p [u]) (.slice (some ⟨g,o,none⟩) 1 E)) := Box.kept X.out (za (zc w1 none) v); have a0 := zi D.out H.out; have a1 := zi D.out I.out; have a2 := zi D.out U.out; go_wp2_with fail; obtain ⟨k,f⟩ : ∃ z,z = C.alloc (.cells #[.string ⟨d.name.toArray⟩,.bool false,.pointer (some ⟨ρ.ty d.ty,0,none⟩),.int .i64 d.first] 58) := ⟨_,rfl⟩; rw [<- f]
       have s : Hid (w.grownBy k none) := by rw [f]; exact zf D.out _
       have B3 : Hid (Box k w.heap.size (.mk B x m p [u]) (.slice (some ⟨g,o,none⟩) 1 E)) := by rw [f]; exact Box.kept B2.out (zf (zc _ none) _)
       have a3 := zi s.out H.out; have a4 := zi s.out I.out; have a5 := zi s.out U.out
       have F3 : Hid (Bk k C.heap.size [.string ⟨d.name.toArray⟩,.bool false,.pointer (some ⟨ρ.ty d.ty,0,none⟩),.int .i64 d.first]) := by rw [f]; exact Bk.new _ _ _ rfl
       have f1 : Hid (k.cell? ⟨C.heap.size,1,none⟩ = some (.bool false)) := F3.out.c 1 _ rfl; have f2 := F3.out.c 2 _ rfl
       have a8 := fun w9 (hS : k.grownBy w9 none) => xN (rL (HM.out.up (za s.out hS)) b6 hh false (by simpa using b4))
       clear f; refine wp_region_held_drew (S := fun w9 => k.grownBy w9 none) (by kernel_rfl) ?_ (fun hHeld => ?_)
       ·exact zh (zc k none)
       refine kQ 0 37 (.pointer (some ⟨ρ.ty ow,0,none⟩)) hHeld ?_; simp only [qA,qB,qC,qD]; refine kQ 1 38 (.bool false) hHeld ?_; simp only [qA,qB,qC,qD]; refine kQ 2 39 (.bool false) hHeld ?_; simp only [qA,qB,qC,qD]; refine kQ 3 40 (.pointer (some ⟨C.heap.size,1,none⟩)) hHeld ?_; simp only [qA,qB,qC,qD]; refine dk 4 (some 41) (.bool false) rfl rfl (fun w9 hS => by have q1 := zi hS f1.out; go_simp) hHeld ?_; simp only [qA,qB,qC,qD]; refine kQ 5 42 (.bool true) hHeld ?_; simp only [qA,qB,qC,qD]; refine kQ 6 43 (.bool true) hHeld ?_; simp only [qA,qB,qC,qD]; refine kQ 7 44 (.pointer (some ⟨ρ.ty ow,0,none⟩)) hHeld ?_; simp only [qA,qB,qC,qD]; refine kQ 8 45 (.pointer (some ⟨ρ.ty ow,0,none⟩)) hHeld ?_; simp only [qA,qB,qC,qD]; refine kQ 9 46 (.pointer (some ⟨ρ.ty ow,2,none⟩)) hHeld ?_; simp only [qA,qB,qC,qD]; refine dk 10 (some 47) (.pointer (some ⟨ρ.md hm,0,none⟩)) rfl rfl (fun w9 hS => by have q1 := zi (za s.out hS) o2.out; go_simp) hHeld ?_; simp only [qA,qB,qC,qD]; refine kQ 11 48 (.pointer (some ⟨b,0,none⟩)) hHeld ?_; simp only [qA,qB,qC,qD]; refine kQ 12 49 (.pointer (some ⟨b,0,none⟩)) hHeld ?_; simp only [qA,qB,qC,qD]; refine kQ 13 50 (.pointer (some ⟨b,0,none⟩)) hHeld ?_; simp only [qA,qB,qC,qD]; refine kQ 14 51 (.pointer (some ⟨b,1,none⟩)) hHeld ?_; simp only [qA,qB,qC,qD]; refine dk 15 (some 52) (.pointer (some ⟨ρ.md c.home,0,none⟩)) rfl rfl (fun w9 hS => by have q1 := zi (za s.out hS) s1.out; go_simp) hHeld ?_; simp only [qA,qB,qC,qD]
       refine dk 16 (some 53) (.bool true) rfl rfl (fun w9 hS => by have q1 := a8 w9 hS; go_simp) hHeld ?_; simp only [qA,qB,qC,qD]; refine kQ 17 54 (.bool true) hHeld ?_; simp only [qA,qB,qC,qD]; refine kQ 18 55 (.bool true) hHeld ?_; simp only [qA,qB,qC,qD]; refine wpAnyH_done (by kernel_rfl) ?_ _; clear hHeld; obtain ⟨a9,b0,b1,b2,b3⟩ := B3.out; go_wp2_with fail; go_at_call 53; refine (zu _ (.mk B x m p [u]) (.slice (some ⟨g,o,none⟩) 1 E) 5).mono ?_; rintro e w4 Z; have Y := Z; obtain ⟨q,rfl⟩ := Z.thrown
       exact ⟨rfl,Y.err (zh s.out)⟩
    ·simp only [if_true]
     by_cases F : (S.ty t).form = 5
     ·have e5 := hr F
      rw [show S.recOf t = S.of t by simp [KS.recOf,F]] at A; subst A; rw [e5,yd] at I; rw [F] at H; clear hr e5
      go_enter Tryz.func192,Tryz.ntmps192
      go_wp2_with fail; go_at_call 161; rw [<- V]; refine (HU.out _ G0.out su HF.out HA.out).mono ?_; rw [hq]; rintro e w1 ⟨i,rfl⟩; have j := ze (za G0.out i); have X : Hid (Box w1 w.heap.size (.mk B x m p [u]) (.slice (some ⟨g,o,none⟩) 1 E)) := Box.kept B0.out (za (zc w0 none) i); have J := zi j.out H.out; have K := zi j.out I.out; have L := zi j.out U.out; obtain ⟨M,N,O,Q,R⟩ := X.out; go_wp2_with fail; go_at_call 19; refine (yS (HM.out.up j.out) Y.out.toKTys a6 Z x).mono ?_; rw [a7,uf]; rintro e C ⟨rfl,v⟩; have D := ze (za j.out v); have B2 : Hid (Box C w.heap.size (.mk B x m p [u]) (.slice (some ⟨g,o,none⟩) 1 E)) := Box.kept X.out (za (zc w1 none) v); have a0 := zi D.out H.out; have a1 := zi D.out I.out; have a2 := zi D.out U.out; go_wp2_with fail; obtain ⟨k,f⟩ : ∃ z,z = C.alloc (.cells #[.string ⟨d.name.toArray⟩,.bool true,.pointer (some ⟨ρ.ty d.ty,0,none⟩),.int .i64 d.first] 58) := ⟨_,rfl⟩; rw [<- f]
      have s : Hid (w.grownBy k none) := by rw [f]; exact zf D.out _
      have B3 : Hid (Box k w.heap.size (.mk B x m p [u]) (.slice (some ⟨g,o,none⟩) 1 E)) := by rw [f]; exact Box.kept B2.out (zf (zc _ none) _)
      have a3 := zi s.out H.out; have a4 := zi s.out I.out; have a5 := zi s.out U.out
      have F3 : Hid (Bk k C.heap.size [.string ⟨d.name.toArray⟩,.bool true,.pointer (some ⟨ρ.ty d.ty,0,none⟩),.int .i64 d.first]) := by rw [f]; exact Bk.new _ _ _ rfl
      have f1 : Hid (k.cell? ⟨C.heap.size,1,none⟩ = some (.bool true)) := F3.out.c 1 _ rfl; have f2 := F3.out.c 2 _ rfl; clear f; refine wp_region_held_drew (S := fun w9 => k.grownBy w9 none) (by kernel_rfl) ?_ (fun hHeld => ?_)
      ·exact zh (zc k none)
      refine kQ 0 37 (.pointer (some ⟨ρ.ty ow,0,none⟩)) hHeld ?_; simp only [qA,qB,qC,qD]; refine kQ 1 38 (.bool false) hHeld ?_; simp only [qA,qB,qC,qD]; refine kQ 2 39 (.bool false) hHeld ?_; simp only [qA,qB,qC,qD]; refine kQ 3 40 (.pointer (some ⟨C.heap.size,1,none⟩)) hHeld ?_; simp only [qA,qB,qC,qD]; refine dk 4 (some 41) (.bool true) rfl rfl (fun w9 hS => by have q1 := zi hS f1.out; go_simp) hHeld ?_; simp only [qA,qB,qC,qD]; refine kQ 5 42 (.bool false) hHeld ?_; simp only [qA,qB,qC,qD]; refine kQ 6 43 (.bool false) hHeld ?_; simp only [qA,qB,qC,qD]; refine dn 7 (some 44) rfl rfl hHeld ?_; simp only [qA,qB,qC,qD]; refine dn 8 (some 45) rfl rfl hHeld ?_; simp only [qA,qB,qC,qD]; refine dn 9 (some 46) rfl rfl hHeld ?_; simp only [qA,qB,qC,qD]; refine dn 10 (some 47) rfl rfl hHeld ?_; simp only [qA,qB,qC,qD]; refine dn 11 (some 48) rfl rfl hHeld ?_; simp only [qA,qB,qC,qD]; refine dn 12 (some 49) rfl rfl hHeld ?_; simp only [qA,qB,qC,qD]; refine dn 13 (some 50) rfl rfl hHeld ?_; simp only [qA,qB,qC,qD]; refine dn 14 (some 51) rfl rfl hHeld ?_; simp only [qA,qB,qC,qD]; refine dn 15 (some 52) rfl rfl hHeld ?_; simp only [qA,qB,qC,qD]; refine dn 16 (some 53) rfl rfl hHeld ?_; simp only [qA,qB,qC,qD]; refine kQ 17 54 (.bool false) hHeld ?_; simp only [qA,qB,qC,qD]; refine kQ 18 55 (.bool false) hHeld ?_; simp only [qA,qB,qC,qD]; refine wpAnyH_done (by kernel_rfl) ?_ _; clear hHeld; go_wp2
      go_ret
      exact Cy.ok (zh s.out)
     ·have b5 : decide ((S.ty t).form = 5) = false := by simpa using F
      rw [show S.recOf t = t by simp [KS.recOf,F]] at A; subst A; clear hr
      go_enter Tryz.func192,Tryz.ntmps192
      go_wp2_with fail; go_at_call 161; rw [<- V]; refine (HU.out _ G0.out su HF.out HA.out).mono ?_; rw [hq]; rintro e w1 ⟨i,rfl⟩; have j := ze (za G0.out i); have X : Hid (Box w1 w.heap.size (.mk B x m p [u]) (.slice (some ⟨g,o,none⟩) 1 E)) := Box.kept B0.out (za (zc w0 none) i); have J := zi j.out H.out; have K := zi j.out I.out; have L := zi j.out U.out; obtain ⟨M,N,O,Q,R⟩ := X.out; go_wp2_with fail; go_at_call 19; refine (yS (HM.out.up j.out) Y.out.toKTys a6 Z x).mono ?_; rw [a7,uf]; rintro e C ⟨rfl,v⟩; have D := ze (za j.out v); have B2 : Hid (Box C w.heap.size (.mk B x m p [u]) (.slice (some ⟨g,o,none⟩) 1 E)) := Box.kept X.out (za (zc w1 none) v); have a0 := zi D.out H.out; have a1 := zi D.out I.out; have a2 := zi D.out U.out; go_wp2_with fail; obtain ⟨k,f⟩ : ∃ z,z = C.alloc (.cells #[.string ⟨d.name.toArray⟩,.bool true,.pointer (some ⟨ρ.ty d.ty,0,none⟩),.int .i64 d.first] 58) := ⟨_,rfl⟩; rw [<- f]
      have s : Hid (w.grownBy k none) := by rw [f]; exact zf D.out _
      have B3 : Hid (Box k w.heap.size (.mk B x m p [u]) (.slice (some ⟨g,o,none⟩) 1 E)) := by rw [f]; exact Box.kept B2.out (zf (zc _ none) _)
      have a3 := zi s.out H.out; have a4 := zi s.out I.out; have a5 := zi s.out U.out
      have F3 : Hid (Bk k C.heap.size [.string ⟨d.name.toArray⟩,.bool true,.pointer (some ⟨ρ.ty d.ty,0,none⟩),.int .i64 d.first]) := by rw [f]; exact Bk.new _ _ _ rfl
      have f1 : Hid (k.cell? ⟨C.heap.size,1,none⟩ = some (.bool true)) := F3.out.c 1 _ rfl; have f2 := F3.out.c 2 _ rfl; clear f; refine wp_region_held_drew (S := fun w9 => k.grownBy w9 none) (by kernel_rfl) ?_ (fun hHeld => ?_)
      ·exact zh (zc k none)
      refine kQ 0 37 (.pointer (some ⟨ρ.ty ow,0,none⟩)) hHeld ?_; simp only [qA,qB,qC,qD]; refine kQ 1 38 (.bool false) hHeld ?_; simp only [qA,qB,qC,qD]; refine kQ 2 39 (.bool false) hHeld ?_; simp only [qA,qB,qC,qD]; refine kQ 3 40 (.pointer (some ⟨C.heap.size,1,none⟩)) hHeld ?_; simp only [qA,qB,qC,qD]; refine dk 4 (some 41) (.bool true) rfl rfl (fun w9 hS => by have q1 := zi hS f1.out; go_simp) hHeld ?_; simp only [qA,qB,qC,qD]; refine kQ 5 42 (.bool false) hHeld ?_; simp only [qA,qB,qC,qD]; refine kQ 6 43 (.bool false) hHeld ?_; simp only [qA,qB,qC,qD]; refine dn 7 (some 44) rfl rfl hHeld ?_; simp only [qA,qB,qC,qD]; refine dn 8 (some 45) rfl rfl hHeld ?_; simp only [qA,qB,qC,qD]; refine dn 9 (some 46) rfl rfl hHeld ?_; simp only [qA,qB,qC,qD]; refine dn 10 (some 47) rfl rfl hHeld ?_; simp only [qA,qB,qC,qD]; refine dn 11 (some 48) rfl rfl hHeld ?_; simp only [qA,qB,qC,qD]; refine dn 12 (some 49) rfl rfl hHeld ?_; simp only [qA,qB,qC,qD]; refine dn 13 (some 50) rfl rfl hHeld ?_; simp only [qA,qB,qC,qD]; refine dn 14 (some 51) rfl rfl hHeld ?_; simp only [qA,qB,qC,qD]; refine dn 15 (some 52) rfl rfl hHeld ?_; simp only [qA,qB,qC,qD]; refine dn 16 (some 53) rfl rfl hHeld ?_; simp only [qA,qB,qC,qD]; refine kQ 17 54 (.bool false) hHeld ?_; simp only [qA,qB,qC,qD]; refine kQ 18 55 (.bool false) hHeld ?_; simp only [qA,qB,qC,qD]; refine wpAnyH_done (by kernel_rfl) ?_ _; clear hHeld; go_wp2
      go_ret
      exact Cy.ok (zh s.out)
  ·rw [if_neg Z]
   simp only [thr,T.at']
   have c8 : decide ((S.ty q).form = 4) = false := by simpa using Z
   by_cases F : (S.ty t).form = 5
   ·have e5 := hr F
    rw [show S.recOf t = S.of t by simp [KS.recOf,F]] at A; subst A; rw [e5,yd] at I; rw [F] at H; clear hr e5
    go_enter Tryz.func192,Tryz.ntmps192
    go_wp2_with fail; go_at_call 161; rw [<- V]; refine (HU.out _ G0.out su HF.out HA.out).mono ?_; rw [hq]; rintro e w1 ⟨i,rfl⟩; have j := ze (za G0.out i); have X : Hid (Box w1 w.heap.size (.mk B x m p [u]) (.slice (some ⟨g,o,none⟩) 1 E)) := Box.kept B0.out (za (zc w0 none) i); have J := zi j.out H.out; have K := zi j.out I.out; have L := zi j.out U.out; obtain ⟨M,N,O,Q,R⟩ := X.out; go_wp2_with fail; go_at_call 53; refine (zu _ (.mk B x m p [u]) (.slice (some ⟨g,o,none⟩) 1 E) 7).mono ?_; rintro e C h2; have Y := h2; obtain ⟨q,rfl⟩ := h2.thrown
    exact ⟨rfl,Y.err j.out⟩
   ·have b5 : decide ((S.ty t).form = 5) = false := by simpa using F
    rw [show S.recOf t = t by simp [KS.recOf,F]] at A; subst A; clear hr
    go_enter Tryz.func192,Tryz.ntmps192
    go_wp2_with fail; go_at_call 161; rw [<- V]; refine (HU.out _ G0.out su HF.out HA.out).mono ?_; rw [hq]; rintro e w1 ⟨i,rfl⟩; have j := ze (za G0.out i); have X : Hid (Box w1 w.heap.size (.mk B x m p [u]) (.slice (some ⟨g,o,none⟩) 1 E)) := Box.kept B0.out (za (zc w0 none) i); have J := zi j.out H.out; have K := zi j.out I.out; have L := zi j.out U.out; obtain ⟨M,N,O,Q,R⟩ := X.out; go_wp2_with fail; go_at_call 53; refine (zu _ (.mk B x m p [u]) (.slice (some ⟨g,o,none⟩) 1 E) 7).mono ?_; rintro e C h2; have Y := h2; obtain ⟨q,rfl⟩ := h2.thrown
    exact ⟨rfl,Y.err j.out⟩
end
section
variable {ρ : Lay} {w w' w1 : World} {S : KS} {b : Nat} {c : KSc}
theorem rh (h : CK ρ w S b c) (n : T) (sv : Value) (hf : Fits n) (ha : AT w n.subs sv) (hT : KAll S) {r : KR} {u v : T} (hl : n.subs = [u,v]) (hu : CDe ρ S b c r u) (hv : CEx ρ S b c r v) :
  Calls Tryz.prog 193 #[.pointer (some ⟨b,0,none⟩),zn n sv] w (Cy w ((S.indexC r n).map fun t => .pointer (some ⟨ρ.ty t,0,none⟩))) := by
 have HU := ze (fun w1 (G : w.grownBy w1 none) J (fu : Fits u) (au : AT w u.subs J) => hu.run w1 J (h.up G) fu (au.kept G)); have HV := ze (fun w1 (G : w.grownBy w1 none) J (fu : Fits v) (au : AT w v.subs J) => hv.run w1 J (h.up G) fu (au.kept G)); have HM := ze h.km; have V := ze hT; have a5 := hu.lt; have a6 := hv.lt; have s0 : Hid _ := h.s0; have a3 : Hid _ := h.km.wc0; have h3 := h.ok.three; obtain ⟨K,x,m,p,l⟩ := n; obtain rfl : l = [u,v] := hl; obtain ⟨g,o,D,J,L,rfl,_,_,n5,fu,au,X,fv,av⟩ := ha.pair; have HA := ze au; have HF := ze fu; have M := ze av; have Y := ze fv
 replace n5 := ze n5
 replace X := ze X
 clear fu au fv av
 change Calls Tryz.prog 193 #[.pointer (some ⟨b,0,none⟩),.agg #[.int .i64 K,.string ⟨x.toArray⟩,.int .i64 m,.int .i64 p,.slice (some ⟨g,o,none⟩) 2 D]] w _
 obtain ⟨w0,j⟩ : ∃ z,z = w.alloc (.cells #[.int .i64 K,.string ⟨x.toArray⟩,.int .i64 m,.int .i64 p,.slice (some ⟨g,o,none⟩) 2 D] 100) := ⟨_,rfl⟩
 have F : Hid (w.grownBy w0 none) := by rw [j]; exact zf (zc w none) _
 have N : Hid (Box w0 w.heap.size (.mk K x m p [u,v]) (.slice (some ⟨g,o,none⟩) 2 D)) := by rw [j]; exact Box.new w (.mk K x m p [u,v]) (.slice (some ⟨g,o,none⟩) 2 D) _
 clear h ha hf hu hv hT
 have hz : sub (.mk K x m p [u,v]) 0 = u := rfl
 have Z : sub (.mk K x m p [u,v]) 1 = v := rfl
 cases Q : r.de u with
 | error z =>
  rw [show S.indexC r (.mk K x m p [u,v]) = .error z by simp [KS.indexC,hz,Q,Except.bind]]
  go_enter Tryz.func193,Tryz.ntmps193
  go_wp2_with fail; rw [<- j]; clear j; refine wp_region_held_drew (S := fun w9 => w0.grownBy w9 none) (by kernel_rfl) ?_ (fun hHeld => ?_)
  ·exact zh (zc w0 none)
  refine kQ 0 7 (.pointer (some ⟨b,0,none⟩)) hHeld ?_; simp only [qA,qB,qC,qD]; refine kQ 1 8 (.pointer (some ⟨w.heap.size,4,none⟩)) hHeld ?_; simp only [qA,qB,qC,qD]; refine dk 2 (some 9) (.slice (some ⟨g,o,none⟩) 2 D) rfl rfl (fun w9 hS => by obtain ⟨k,f,s,A,B⟩ := (Box.kept N.out hS).plain; go_simp) hHeld ?_; simp only [qA,qB,qC,qD]; refine kQ 3 10 (.pointer (some ⟨g,o,none⟩)) hHeld ?_; simp only [qA,qB,qC,qD]; refine dk 4 (some 11) (zn u J) rfl rfl (fun w9 hS => by obtain ⟨k,f,s,A,B⟩ := Node5.kept n5.out (za F.out hS); go_simp) hHeld ?_; simp only [qA,qB,qC,qD]; refine kQ 6 13 (.pointer (some ⟨b,0,none⟩)) hHeld ?_; simp only [qA,qB,qC,qD]; refine kQ 7 14 (.pointer (some ⟨w.heap.size,4,none⟩)) hHeld ?_; simp only [qA,qB,qC,qD]; refine dk 8 (some 15) (.slice (some ⟨g,o,none⟩) 2 D) rfl rfl (fun w9 hS => by obtain ⟨k,f,s,A,B⟩ := (Box.kept N.out hS).plain; go_simp) hHeld ?_; simp only [qA,qB,qC,qD]; refine kQ 9 16 (.pointer (some ⟨g,o + 5,none⟩)) hHeld ?_; simp only [qA,qB,qC,qD]; refine dk 10 (some 17) (zn v L) rfl rfl (fun w9 hS => by obtain ⟨k,f,s,A,B⟩ := Node5.kept X.out (za F.out hS); go_simp) hHeld ?_; simp only [qA,qB,qC,qD]; refine rd 5 rfl fun KK hKK => ?_
  go_simp
  go_at_call 161; refine (HU.out _ (zh F.out) J HF.out HA.out).mono ?_; rw [Q]; rintro e w1 h1; have V := h1; obtain ⟨q,rfl⟩ := h1.thrown
  exact ⟨rfl,V.err (zh F.out)⟩
 | ok t =>
  cases hy : r.ex v with
  | error z =>
   rw [show S.indexC r (.mk K x m p [u,v]) = .error z by simp [KS.indexC,hz,Z,Q,hy,Except.bind]]
   go_enter Tryz.func193,Tryz.ntmps193
   go_wp2_with fail; rw [<- j]; clear j; refine wp_region_held_drew (S := fun w9 => w0.grownBy w9 none) (by kernel_rfl) ?_ (fun hHeld => ?_)
   ·exact zh (zc w0 none)
   refine kQ 0 7 (.pointer (some ⟨b,0,none⟩)) hHeld ?_; simp only [qA,qB,qC,qD]; refine kQ 1 8 (.pointer (some ⟨w.heap.size,4,none⟩)) hHeld ?_; simp only [qA,qB,qC,qD]; refine dk 2 (some 9) (.slice (some ⟨g,o,none⟩) 2 D) rfl rfl (fun w9 hS => by obtain ⟨k,f,s,A,B⟩ := (Box.kept N.out hS).plain; go_simp) hHeld ?_; simp only [qA,qB,qC,qD]; refine kQ 3 10 (.pointer (some ⟨g,o,none⟩)) hHeld ?_; simp only [qA,qB,qC,qD]; refine dk 4 (some 11) (zn u J) rfl rfl (fun w9 hS => by obtain ⟨k,f,s,A,B⟩ := Node5.kept n5.out (za F.out hS); go_simp) hHeld ?_; simp only [qA,qB,qC,qD]; refine kQ 6 13 (.pointer (some ⟨b,0,none⟩)) hHeld ?_; simp only [qA,qB,qC,qD]; refine kQ 7 14 (.pointer (some ⟨w.heap.size,4,none⟩)) hHeld ?_; simp only [qA,qB,qC,qD]; refine dk 8 (some 15) (.slice (some ⟨g,o,none⟩) 2 D) rfl rfl (fun w9 hS => by obtain ⟨k,f,s,A,B⟩ := (Box.kept N.out hS).plain; go_simp) hHeld ?_; simp only [qA,qB,qC,qD]; refine kQ 9 16 (.pointer (some ⟨g,o + 5,none⟩)) hHeld ?_; simp only [qA,qB,qC,qD]; refine dk 10 (some 17) (zn v L) rfl rfl (fun w9 hS => by obtain ⟨k,f,s,A,B⟩ := Node5.kept X.out (za F.out hS); go_simp) hHeld ?_; simp only [qA,qB,qC,qD]; refine rd 5 rfl fun KK hKK => ?_
   go_simp
   go_at_call 161; refine (HU.out _ (zh F.out) J HF.out HA.out).mono ?_; rw [Q]; rintro e w1 ⟨d,rfl⟩; have R := ze (za (zh F.out) d); have E := ze (za (zh (zc w0 none)) d); clear d
   go_simp
   refine hKK.out _ _ E.out fun hHeld => ?_
   clear hKK KK; refine rd 11 rfl fun KK hKK => ?_
   go_simp
   go_at_call 157; refine (HV.out _ R.out L Y.out M.out).mono ?_; rw [hy]; rintro e U h2; have V := h2; obtain ⟨q,rfl⟩ := h2.thrown
   exact ⟨rfl,V.err R.out⟩
  | ok i =>
   have ht := a5 t Q; have hi := a6 i hy; have t0 : Hid (w.cell? ⟨ρ.ty t,0,none⟩ = some (.int .i64 (S.ty t).form)) := HM.out.y0 ht
   by_cases O : (S.ty t).form = 3
   ·obtain ⟨a1,_⟩ := V.out.a ht O
    have t5 : Hid (w.cell? ⟨ρ.ty t,5,none⟩ = some (.pointer (some ⟨ρ.ty (S.of t),0,none⟩))) := by have h9 := HM.out.y5 ht; rw [a1] at h9; exact h9
    rw [O] at t0; cases hn : yE v i 0 with
    | error z =>
     rw [show S.indexC r (.mk K x m p [u,v]) = .error z by simp [KS.indexC,hz,Z,Q,hy,O,hn,Except.bind]]
     go_enter Tryz.func193,Tryz.ntmps193
     go_wp2_with fail; rw [<- j]; clear j; refine wp_region_held_drew (S := fun w9 => w0.grownBy w9 none) (by kernel_rfl) ?_ (fun hHeld => ?_)
     ·exact zh (zc w0 none)
     refine kQ 0 7 (.pointer (some ⟨b,0,none⟩)) hHeld ?_; simp only [qA,qB,qC,qD]; refine kQ 1 8 (.pointer (some ⟨w.heap.size,4,none⟩)) hHeld ?_; simp only [qA,qB,qC,qD]; refine dk 2 (some 9) (.slice (some ⟨g,o,none⟩) 2 D) rfl rfl (fun w9 hS => by obtain ⟨k,f,s,A,B⟩ := (Box.kept N.out hS).plain; go_simp) hHeld ?_; simp only [qA,qB,qC,qD]; refine kQ 3 10 (.pointer (some ⟨g,o,none⟩)) hHeld ?_; simp only [qA,qB,qC,qD]; refine dk 4 (some 11) (zn u J) rfl rfl (fun w9 hS => by obtain ⟨k,f,s,A,B⟩ := Node5.kept n5.out (za F.out hS); go_simp) hHeld ?_; simp only [qA,qB,qC,qD]; refine kQ 6 13 (.pointer (some ⟨b,0,none⟩)) hHeld ?_; simp only [qA,qB,qC,qD]; refine kQ 7 14 (.pointer (some ⟨w.heap.size,4,none⟩)) hHeld ?_; simp only [qA,qB,qC,qD]; refine dk 8 (some 15) (.slice (some ⟨g,o,none⟩) 2 D) rfl rfl (fun w9 hS => by obtain ⟨k,f,s,A,B⟩ := (Box.kept N.out hS).plain; go_simp) hHeld ?_; simp only [qA,qB,qC,qD]; refine kQ 9 16 (.pointer (some ⟨g,o + 5,none⟩)) hHeld ?_; simp only [qA,qB,qC,qD]; refine dk 10 (some 17) (zn v L) rfl rfl (fun w9 hS => by obtain ⟨k,f,s,A,B⟩ := Node5.kept X.out (za F.out hS); go_simp) hHeld ?_; simp only [qA,qB,qC,qD]; refine rd 5 rfl fun KK hKK => ?_
     go_simp
     go_at_call 161; refine (HU.out _ (zh F.out) J HF.out HA.out).mono ?_; rw [Q]; rintro e w1 ⟨d,rfl⟩; have R := ze (za (zh F.out) d); have E := ze (za (zh (zc w0 none)) d); clear d
     go_simp
     refine hKK.out _ _ E.out fun hHeld => ?_
     clear hKK KK; refine rd 11 rfl fun KK hKK => ?_
     go_simp
     go_at_call 157; refine (HV.out _ R.out L Y.out M.out).mono ?_; rw [hy]; rintro e U ⟨C,rfl⟩; have H := ze (za R.out C); have I := ze (za E.out C); clear C
     go_simp
     refine hKK.out _ _ I.out fun hHeld => ?_
     clear hKK KK; refine kQ 12 5 (.pointer (some ⟨ρ.ty t,0,none⟩)) hHeld ?_; simp only [qA,qB,qC,qD]; refine kQ 13 6 (.pointer (some ⟨ρ.ty i,0,none⟩)) hHeld ?_; simp only [qA,qB,qC,qD]; refine wpAnyH_done (by kernel_rfl) ?_ _; clear hHeld; have B2 : Hid (Box U w.heap.size (.mk K x m p [u,v]) (.slice (some ⟨g,o,none⟩) 2 D)) := Box.kept N.out I.out; have a0 := zi H.out t0.out; go_wp2_with fail; refine wp_region_held_drew (S := fun w9 => U.grownBy w9 none) (by kernel_rfl) ?_ (fun hHeld => ?_)
     ·exact zh (zc U none)
     refine kQ 0 26 (.pointer (some ⟨w.heap.size,4,none⟩)) hHeld ?_; simp only [qA,qB,qC,qD]; refine dk 1 (some 27) (.slice (some ⟨g,o,none⟩) 2 D) rfl rfl (fun w9 hS => by obtain ⟨k,f,s,A,B⟩ := (Box.kept B2.out hS).plain; go_simp) hHeld ?_; simp only [qA,qB,qC,qD]; refine kQ 2 28 (.pointer (some ⟨g,o + 5,none⟩)) hHeld ?_; simp only [qA,qB,qC,qD]; refine dk 3 (some 29) (zn v L) rfl rfl (fun w9 hS => by obtain ⟨k,f,s,A,B⟩ := Node5.kept X.out (za H.out hS); go_simp) hHeld ?_; simp only [qA,qB,qC,qD]; refine kQ 4 30 (.pointer (some ⟨ρ.ty i,0,none⟩)) hHeld ?_; simp only [qA,qB,qC,qD]; refine kQ 5 31 (.pointer (some ⟨b,0,none⟩)) hHeld ?_; simp only [qA,qB,qC,qD]; refine kQ 6 32 (.pointer (some ⟨b,0,none⟩)) hHeld ?_; simp only [qA,qB,qC,qD]; refine kQ 7 33 (.pointer (some ⟨b,0,none⟩)) hHeld ?_; simp only [qA,qB,qC,qD]; refine kQ 8 34 (.pointer (some ⟨b,0,none⟩)) hHeld ?_; simp only [qA,qB,qC,qD]; refine dk 9 (some 35) (.pointer (some ⟨ρ.wd,0,none⟩)) rfl rfl (fun w9 hS => by have f := zi (za H.out hS) s0.out; go_simp) hHeld ?_; simp only [qA,qB,qC,qD]; refine kQ 10 36 (.pointer (some ⟨ρ.wd,0,none⟩)) hHeld ?_; simp only [qA,qB,qC,qD]; refine kQ 11 37 (.pointer (some ⟨ρ.wd,0,none⟩)) hHeld ?_; simp only [qA,qB,qC,qD]; refine dk 12 (some 38) (.pointer (some ⟨ρ.ty 0,0,none⟩)) rfl rfl (fun w9 hS => by have f := zi (za H.out hS) a3.out; go_simp) hHeld ?_; simp only [qA,qB,qC,qD]; refine rd 13 rfl fun KK hKK => ?_
     go_simp
     go_at_call 115; refine (zL (HM.out.up (zh H.out)) v L (M.out.kept (zh H.out)) hi (show 0 < S.tys.length by omega)).mono ?_; rw [hn]; rintro e w3 h3; have V := h3; obtain ⟨q,rfl⟩ := h3.thrown
     exact ⟨rfl,V.err (zh H.out)⟩
    | ok _ =>
     rw [show S.indexC r (.mk K x m p [u,v]) = .ok (S.of t) by simp [KS.indexC,hz,Z,Q,hy,O,hn,Except.bind]]
     go_enter Tryz.func193,Tryz.ntmps193
     go_wp2_with fail; rw [<- j]; clear j; refine wp_region_held_drew (S := fun w9 => w0.grownBy w9 none) (by kernel_rfl) ?_ (fun hHeld => ?_)
     ·exact zh (zc w0 none)
     refine kQ 0 7 (.pointer (some ⟨b,0,none⟩)) hHeld ?_; simp only [qA,qB,qC,qD]; refine kQ 1 8 (.pointer (some ⟨w.heap.size,4,none⟩)) hHeld ?_; simp only [qA,qB,qC,qD]; refine dk 2 (some 9) (.slice (some ⟨g,o,none⟩) 2 D) rfl rfl (fun w9 hS => by obtain ⟨k,f,s,A,B⟩ := (Box.kept N.out hS).plain; go_simp) hHeld ?_; simp only [qA,qB,qC,qD]; refine kQ 3 10 (.pointer (some ⟨g,o,none⟩)) hHeld ?_; simp only [qA,qB,qC,qD]; refine dk 4 (some 11) (zn u J) rfl rfl (fun w9 hS => by obtain ⟨k,f,s,A,B⟩ := Node5.kept n5.out (za F.out hS); go_simp) hHeld ?_; simp only [qA,qB,qC,qD]; refine kQ 6 13 (.pointer (some ⟨b,0,none⟩)) hHeld ?_; simp only [qA,qB,qC,qD]; refine kQ 7 14 (.pointer (some ⟨w.heap.size,4,none⟩)) hHeld ?_; simp only [qA,qB,qC,qD]; refine dk 8 (some 15) (.slice (some ⟨g,o,none⟩) 2 D) rfl rfl (fun w9 hS => by obtain ⟨k,f,s,A,B⟩ := (Box.kept N.out hS).plain; go_simp) hHeld ?_; simp only [qA,qB,qC,qD]; refine kQ 9 16 (.pointer (some ⟨g,o + 5,none⟩)) hHeld ?_; simp only [qA,qB,qC,qD]; refine dk 10 (some 17) (zn v L) rfl rfl (fun w9 hS => by obtain ⟨k,f,s,A,B⟩ := Node5.kept X.out (za F.out hS); go_simp) hHeld ?_; simp only [qA,qB,qC,qD]; refine rd 5 rfl fun KK hKK => ?_
     go_simp
     go_at_call 161; refine (HU.out _ (zh F.out) J HF.out HA.out).mono ?_; rw [Q]; rintro e w1 ⟨d,rfl⟩; have R := ze (za (zh F.out) d); have E := ze (za (zh (zc w0 none)) d); clear d
     go_simp
     refine hKK.out _ _ E.out fun hHeld => ?_
     clear hKK KK; refine rd 11 rfl fun KK hKK => ?_
     go_simp
     go_at_call 157; refine (HV.out _ R.out L Y.out M.out).mono ?_; rw [hy]; rintro e U ⟨C,rfl⟩; have H := ze (za R.out C); have I := ze (za E.out C); clear C
     go_simp
     refine hKK.out _ _ I.out fun hHeld => ?_
     clear hKK KK; refine kQ 12 5 (.pointer (some ⟨ρ.ty t,0,none⟩)) hHeld ?_; simp only [qA,qB,qC,qD]; refine kQ 13 6 (.pointer (some ⟨ρ.ty i,0,none⟩)) hHeld ?_; simp only [qA,qB,qC,qD]; refine wpAnyH_done (by kernel_rfl) ?_ _; clear hHeld; have B2 : Hid (Box U w.heap.size (.mk K x m p [u,v]) (.slice (some ⟨g,o,none⟩) 2 D)) := Box.kept N.out I.out; have a0 := zi H.out t0.out; go_wp2_with fail; refine wp_region_held_drew (S := fun w9 => U.grownBy w9 none) (by kernel_rfl) ?_ (fun hHeld => ?_)
     ·exact zh (zc U none)
     refine kQ 0 26 (.pointer (some ⟨w.heap.size,4,none⟩)) hHeld ?_; simp only [qA,qB,qC,qD]; refine dk 1 (some 27) (.slice (some ⟨g,o,none⟩) 2 D) rfl rfl (fun w9 hS => by obtain ⟨k,f,s,A,B⟩ := (Box.kept B2.out hS).plain; go_simp) hHeld ?_; simp only [qA,qB,qC,qD]; refine kQ 2 28 (.pointer (some ⟨g,o + 5,none⟩)) hHeld ?_; simp only [qA,qB,qC,qD]; refine dk 3 (some 29) (zn v L) rfl rfl (fun w9 hS => by obtain ⟨k,f,s,A,B⟩ := Node5.kept X.out (za H.out hS); go_simp) hHeld ?_; simp only [qA,qB,qC,qD]; refine kQ 4 30 (.pointer (some ⟨ρ.ty i,0,none⟩)) hHeld ?_; simp only [qA,qB,qC,qD]; refine kQ 5 31 (.pointer (some ⟨b,0,none⟩)) hHeld ?_; simp only [qA,qB,qC,qD]; refine kQ 6 32 (.pointer (some ⟨b,0,none⟩)) hHeld ?_; simp only [qA,qB,qC,qD]; refine kQ 7 33 (.pointer (some ⟨b,0,none⟩)) hHeld ?_; simp only [qA,qB,qC,qD]; refine kQ 8 34 (.pointer (some ⟨b,0,none⟩)) hHeld ?_; simp only [qA,qB,qC,qD]; refine dk 9 (some 35) (.pointer (some ⟨ρ.wd,0,none⟩)) rfl rfl (fun w9 hS => by have f := zi (za H.out hS) s0.out; go_simp) hHeld ?_; simp only [qA,qB,qC,qD]; refine kQ 10 36 (.pointer (some ⟨ρ.wd,0,none⟩)) hHeld ?_; simp only [qA,qB,qC,qD]; refine kQ 11 37 (.pointer (some ⟨ρ.wd,0,none⟩)) hHeld ?_; simp only [qA,qB,qC,qD]; refine dk 12 (some 38) (.pointer (some ⟨ρ.ty 0,0,none⟩)) rfl rfl (fun w9 hS => by have f := zi (za H.out hS) a3.out; go_simp) hHeld ?_; simp only [qA,qB,qC,qD]; refine rd 13 rfl fun KK hKK => ?_
     go_simp
     go_at_call 115; refine (zL (HM.out.up (zh H.out)) v L (M.out.kept (zh H.out)) hi (show 0 < S.tys.length by omega)).mono ?_; rw [hn]; rintro e w3 ⟨a2,rfl⟩; have G3 := ze (za (zh H.out) a2); have a4 := ze (za (zh (zc U none)) a2); clear a2
     go_simp
     refine hKK.out _ _ a4.out fun hHeld => ?_
     clear hKK KK; refine wpAnyH_done (by kernel_rfl) ?_ _; clear hHeld; have B3 : Hid (Box w3 w.heap.size (.mk K x m p [u,v]) (.slice (some ⟨g,o,none⟩) 2 D)) := Box.kept B2.out a4.out; have a7 := zi G3.out t0.out; have a8 := zi G3.out t5.out; go_wp2
     go_ret
     exact Cy.ok G3.out
   ·have hd : decide ((S.ty t).form = 3) = false := by simpa using O
    rw [show S.indexC r (.mk K x m p [u,v]) = .error (7,p) by simp [KS.indexC,hz,Z,Q,hy,O,Except.bind,thr,T.at']]
    go_enter Tryz.func193,Tryz.ntmps193
    go_wp2_with fail; rw [<- j]; clear j; refine wp_region_held_drew (S := fun w9 => w0.grownBy w9 none) (by kernel_rfl) ?_ (fun hHeld => ?_)
    ·exact zh (zc w0 none)
    refine kQ 0 7 (.pointer (some ⟨b,0,none⟩)) hHeld ?_; simp only [qA,qB,qC,qD]; refine kQ 1 8 (.pointer (some ⟨w.heap.size,4,none⟩)) hHeld ?_; simp only [qA,qB,qC,qD]; refine dk 2 (some 9) (.slice (some ⟨g,o,none⟩) 2 D) rfl rfl (fun w9 hS => by obtain ⟨k,f,s,A,B⟩ := (Box.kept N.out hS).plain; go_simp) hHeld ?_; simp only [qA,qB,qC,qD]; refine kQ 3 10 (.pointer (some ⟨g,o,none⟩)) hHeld ?_; simp only [qA,qB,qC,qD]; refine dk 4 (some 11) (zn u J) rfl rfl (fun w9 hS => by obtain ⟨k,f,s,A,B⟩ := Node5.kept n5.out (za F.out hS); go_simp) hHeld ?_; simp only [qA,qB,qC,qD]; refine kQ 6 13 (.pointer (some ⟨b,0,none⟩)) hHeld ?_; simp only [qA,qB,qC,qD]; refine kQ 7 14 (.pointer (some ⟨w.heap.size,4,none⟩)) hHeld ?_; simp only [qA,qB,qC,qD]; refine dk 8 (some 15) (.slice (some ⟨g,o,none⟩) 2 D) rfl rfl (fun w9 hS => by obtain ⟨k,f,s,A,B⟩ := (Box.kept N.out hS).plain; go_simp) hHeld ?_; simp only [qA,qB,qC,qD]; refine kQ 9 16 (.pointer (some ⟨g,o + 5,none⟩)) hHeld ?_; simp only [qA,qB,qC,qD]; refine dk 10 (some 17) (zn v L) rfl rfl (fun w9 hS => by obtain ⟨k,f,s,A,B⟩ := Node5.kept X.out (za F.out hS); go_simp) hHeld ?_; simp only [qA,qB,qC,qD]; refine rd 5 rfl fun KK hKK => ?_
    go_simp
    go_at_call 161; refine (HU.out _ (zh F.out) J HF.out HA.out).mono ?_; rw [Q]; rintro e w1 ⟨d,rfl⟩; have R := ze (za (zh F.out) d); have E := ze (za (zh (zc w0 none)) d); clear d
    go_simp
    refine hKK.out _ _ E.out fun hHeld => ?_
    clear hKK KK; refine rd 11 rfl fun KK hKK => ?_
    go_simp
    go_at_call 157; refine (HV.out _ R.out L Y.out M.out).mono ?_; rw [hy]; rintro e U ⟨C,rfl⟩; have H := ze (za R.out C); have I := ze (za E.out C); clear C
    go_simp
    refine hKK.out _ _ I.out fun hHeld => ?_
    clear hKK KK; refine kQ 12 5 (.pointer (some ⟨ρ.ty t,0,none⟩)) hHeld ?_; simp only [qA,qB,qC,qD]; refine kQ 13 6 (.pointer (some ⟨ρ.ty i,0,none⟩)) hHeld ?_; simp only [qA,qB,qC,qD]; refine wpAnyH_done (by kernel_rfl) ?_ _; clear hHeld; have B2 : Hid (Box U w.heap.size (.mk K x m p [u,v]) (.slice (some ⟨g,o,none⟩) 2 D)) := Box.kept N.out I.out; have a0 := zi H.out t0.out; obtain ⟨_,_,_,_,_⟩ := B2.out; go_wp2_with fail; go_at_call 53; refine (zu _ (.mk K x m p [u,v]) (.slice (some ⟨g,o,none⟩) 2 D) 7).mono ?_; rintro e w3 h3; have V := h3; obtain ⟨q,rfl⟩ := h3.thrown
    exact ⟨rfl,V.err H.out⟩
theorem ue (h : CK ρ w S b c) (n : T) (sv : Value) (hf : Fits n) (ha : AT w n.subs sv) {r : KR} {t : Nat} (ht : t < S.tys.length) (hn : CEx ρ S b c r n) :
  Calls Tryz.prog 116 #[.pointer (some ⟨b,0,none⟩),zn n sv,.pointer (some ⟨ρ.ty t,0,none⟩)] w (Cy w ((yP r n t).map fun _ => .tuple #[])) := by
 have H := ze (fun w1 (G : w.grownBy w1 none) => hn.run w1 sv (h.up G) hf (ha.kept G)); have K := ze (fun w1 (G : w.grownBy w1 none) a (ht' : a < S.tys.length) => zL (h.km.up G) n sv (ha.kept G) ht' ht); have I := hn.lt; obtain ⟨f,x,m,p,l⟩ := n
 change Calls Tryz.prog 116 #[.pointer (some ⟨b,0,none⟩),.agg #[.int .i64 f,.string ⟨x.toArray⟩,.int .i64 m,.int .i64 p,sv],.pointer (some ⟨ρ.ty t,0,none⟩)] w _
 obtain ⟨i,d⟩ : ∃ z,z = w.alloc (.cells #[.int .i64 f,.string ⟨x.toArray⟩,.int .i64 m,.int .i64 p,sv] 100) := ⟨_,rfl⟩
 have s : Hid (w.grownBy i none) := by rw [d]; exact zf (zc w none) _
 have k : Hid (Box i w.heap.size (.mk f x m p l) sv) := by rw [d]; exact Box.new w (.mk f x m p l) sv _
 clear h ha hf hn; cases u : r.ex (.mk f x m p l) with
 | error z =>
  rw [show yP r (.mk f x m p l) t = .error z by simp [yP,u,Except.bind]]
  go_enter Tryz.func116,Tryz.ntmps116
  go_wp2_with fail; rw [<- d]; clear d; refine wp_region_held_drew (S := fun w9 => i.grownBy w9 none) (by kernel_rfl) ?_ (fun hHeld => ?_)
  ·exact zh (zc i none)
  refine dk 0 (some 6) (.agg #[.int .i64 f,.string ⟨x.toArray⟩,.int .i64 m,.int .i64 p,sv]) rfl rfl (fun w9 hS => by obtain ⟨v,A,B,C,D⟩ := (Box.kept k.out hS).plain; go_simp) hHeld ?_; simp only [qA,qB,qC,qD]; refine kQ 1 7 (.pointer (some ⟨b,0,none⟩)) hHeld ?_; simp only [qA,qB,qC,qD]; refine dk 2 (some 8) (.agg #[.int .i64 f,.string ⟨x.toArray⟩,.int .i64 m,.int .i64 p,sv]) rfl rfl (fun w9 hS => by obtain ⟨v,A,B,C,D⟩ := (Box.kept k.out hS).plain; go_simp) hHeld ?_; simp only [qA,qB,qC,qD]; refine kQ 4 10 (.pointer (some ⟨ρ.ty t,0,none⟩)) hHeld ?_; simp only [qA,qB,qC,qD]; refine rd 3 rfl fun KK hKK => ?_
  go_simp
  go_at_call 157; refine (H.out _ (zh s.out)).mono ?_; rw [u]; rintro e w1 L; have J := L; obtain ⟨q,rfl⟩ := L.thrown
  exact ⟨rfl,J.err (zh s.out)⟩
 | ok a =>
  have ha := I a u; rw [show yP r (.mk f x m p l) t = yE (.mk f x m p l) a t by simp [yP,u,Except.bind]]; cases hn : yE (.mk f x m p l) a t with
  | error z =>
   go_enter Tryz.func116,Tryz.ntmps116
   go_wp2_with fail; rw [<- d]; clear d; refine wp_region_held_drew (S := fun w9 => i.grownBy w9 none) (by kernel_rfl) ?_ (fun hHeld => ?_)
   ·exact zh (zc i none)
   refine dk 0 (some 6) (.agg #[.int .i64 f,.string ⟨x.toArray⟩,.int .i64 m,.int .i64 p,sv]) rfl rfl (fun w9 hS => by obtain ⟨v,A,B,C,D⟩ := (Box.kept k.out hS).plain; go_simp) hHeld ?_; simp only [qA,qB,qC,qD]; refine kQ 1 7 (.pointer (some ⟨b,0,none⟩)) hHeld ?_; simp only [qA,qB,qC,qD]; refine dk 2 (some 8) (.agg #[.int .i64 f,.string ⟨x.toArray⟩,.int .i64 m,.int .i64 p,sv]) rfl rfl (fun w9 hS => by obtain ⟨v,A,B,C,D⟩ := (Box.kept k.out hS).plain; go_simp) hHeld ?_; simp only [qA,qB,qC,qD]; refine kQ 4 10 (.pointer (some ⟨ρ.ty t,0,none⟩)) hHeld ?_; simp only [qA,qB,qC,qD]; refine rd 3 rfl fun KK hKK => ?_
   go_simp
   go_at_call 157; refine (H.out _ (zh s.out)).mono ?_; rw [u]; rintro e w1 ⟨g,rfl⟩; have E := ze (za (zh s.out) g); have j := ze (za (zh (zc i none)) g); clear g
   go_simp
   refine hKK.out _ _ j.out fun hHeld => ?_
   clear hKK KK; refine rd 5 rfl fun KK hKK => ?_
   go_simp
   go_at_call 115; refine (K.out _ E.out a ha).mono ?_; rw [hn]; rintro e M N; have J := N; obtain ⟨q,rfl⟩ := N.thrown
   exact ⟨rfl,J.err E.out⟩
  | ok _ =>
   go_enter Tryz.func116,Tryz.ntmps116
   go_wp2_with fail; rw [<- d]; clear d; refine wp_region_held_drew (S := fun w9 => i.grownBy w9 none) (by kernel_rfl) ?_ (fun hHeld => ?_)
   ·exact zh (zc i none)
   refine dk 0 (some 6) (.agg #[.int .i64 f,.string ⟨x.toArray⟩,.int .i64 m,.int .i64 p,sv]) rfl rfl (fun w9 hS => by obtain ⟨v,A,B,C,D⟩ := (Box.kept k.out hS).plain; go_simp) hHeld ?_; simp only [qA,qB,qC,qD]; refine kQ 1 7 (.pointer (some ⟨b,0,none⟩)) hHeld ?_; simp only [qA,qB,qC,qD]; refine dk 2 (some 8) (.agg #[.int .i64 f,.string ⟨x.toArray⟩,.int .i64 m,.int .i64 p,sv]) rfl rfl (fun w9 hS => by obtain ⟨v,A,B,C,D⟩ := (Box.kept k.out hS).plain; go_simp) hHeld ?_; simp only [qA,qB,qC,qD]; refine kQ 4 10 (.pointer (some ⟨ρ.ty t,0,none⟩)) hHeld ?_; simp only [qA,qB,qC,qD]; refine rd 3 rfl fun KK hKK => ?_
   go_simp
   go_at_call 157; refine (H.out _ (zh s.out)).mono ?_; rw [u]; rintro e w1 ⟨g,rfl⟩; have E := ze (za (zh s.out) g); have j := ze (za (zh (zc i none)) g); clear g
   go_simp
   refine hKK.out _ _ j.out fun hHeld => ?_
   clear hKK KK; refine rd 5 rfl fun KK hKK => ?_
   go_simp
   go_at_call 115; refine (K.out _ E.out a ha).mono ?_; rw [hn]; rintro e M ⟨o,rfl⟩; have O := ze (za E.out o); have F := ze (za j.out o); clear o
   go_simp
   refine hKK.out _ _ F.out fun hHeld => ?_
   clear hKK KK; refine wpAnyH_done (by kernel_rfl) ?_ _; clear hHeld; have Q : Hid (Box M w.heap.size (.mk f x m p l) sv) := Box.kept k.out F.out; go_wp2; refine bodyPost_end (results_none rfl _ _ _) rfl ?_
   exact Cy.ok O.out
end
set_option maxHeartbeats 1000000
section
variable {ρ : Lay} {w w' w1 : World} {S : KS} {b : Nat} {c : KSc}
def KFull (S : KS) : Prop := ∀ t,t < S.ths.length -> ((S.th t).kind = 3 \/ (S.th t).kind = 1) -> ∃ i,(S.th t).ty = some i
theorem vx (h : CK ρ w S b c) {n : T} {t : Nat} (e : S.meaning c n = some t) : t < S.ths.length := by
 unfold KS.meaning at e
 split at e
 ·exact ks h e
 ·cases d : S.ahead c n with
  | none => rw [d] at e; cases e
  | some m =>
   rw [d] at e
   have f : m < S.mds.length := by
    unfold KS.ahead at d
    split at d
    ·split at d
     ·exact uZ h d
     ·cases d
    ·cases d
   exact sC h f e
theorem xj {n : T} {t : Nat} (e : S.meaningC c n = .ok (some t)) : S.meaning c n = some t := by
 unfold KS.meaningC at e
 cases d : S.meaning c n with
 | some u => rw [d] at e; cases e; rfl
 | none =>
  rw [d] at e; simp only at e
  split at e
  ·cases e
  ·split at e <;> cases e
theorem dy (h : CK ρ w S b c) (n : T) (sv : Value) (hf : Fits n) (ha : AT w n.subs sv) (hs : n.kind = 25 -> 0 < n.subs.length) (hF : KFull S) {r : KR} (hne : S.meaningC c n ≠ .ok none) :
  Calls Tryz.prog 161 #[.pointer (some ⟨b,0,none⟩),zn n sv] w (Cy w ((S.desigC c r n).map fun t => .pointer (some ⟨ρ.ty t,0,none⟩))) := by
 have F := ze (fun w1 (G : w.grownBy w1 none) => yI (h.up G) n sv hf (ha.kept G) hs); have N := ze h.km
 have A : ∀ t,S.meaningC c n = .ok (some t) -> t < S.ths.length := fun t e => vx h (xj e)
 have B : ∀ t,t < S.ths.length -> ((S.th t).kind = 3 \/ (S.th t).kind = 1) -> ∃ i,(S.th t).ty = some i := hF; obtain ⟨j,x,m,p,l⟩ := n
 change Calls Tryz.prog 161 #[.pointer (some ⟨b,0,none⟩),.agg #[.int .i64 j,.string ⟨x.toArray⟩,.int .i64 m,.int .i64 p,sv]] w _
 obtain ⟨C,g⟩ : ∃ z,z = w.alloc (.cells #[.int .i64 j,.string ⟨x.toArray⟩,.int .i64 m,.int .i64 p,sv] 100) := ⟨_,rfl⟩
 have u : Hid (w.grownBy C none) := by rw [g]; exact zf (zc w none) _
 have H : Hid (Box C w.heap.size (.mk j x m p l) sv) := by rw [g]; exact Box.new w (.mk j x m p l) sv _
 clear h ha hf hs hF; cases s : S.meaningC c (.mk j x m p l) with
 | error z =>
  rw [show S.desigC c r (.mk j x m p l) = .error z by simp [KS.desigC,s,Except.bind]]
  go_enter Tryz.func161,Tryz.ntmps161
  go_wp2_with fail; go_at_call 153; rw [<- g]; refine (F.out _ u.out).mono ?_; rw [s]; rintro e w1 O; have I := O; obtain ⟨q,rfl⟩ := O.thrown
  exact ⟨rfl,I.err u.out⟩
 | ok o =>
  cases o with
  | none =>
   exact absurd s hne
  | some t =>
   have J := A t s; have D : Hid (w.cell? ⟨ρ.th t,0,none⟩ = some (.int .i64 (S.th t).kind)) := (N.out.th t J).bk.c 0 _ rfl; have K : Hid (w.cell? ⟨ρ.th t,4,none⟩ = some (ρ.tyP (S.th t).ty)) := (N.out.th t J).bk.c 4 _ rfl
   by_cases f : (S.th t).kind = 3 \/ (S.th t).kind = 1
   ·obtain ⟨i,L⟩ := B t J f
    rw [show S.desigC c r (.mk j x m p l) = .ok i by simp [KS.desigC,s,f,L,Except.bind]]; rw [L,yd] at K; clear L A B hne
    rcases f with f | f
    ·rw [f] at D
     clear f
     go_enter Tryz.func161,Tryz.ntmps161
     go_wp2_with fail; go_at_call 153; rw [<- g]; refine (F.out _ u.out).mono ?_; rw [s]; rintro e w1 ⟨d,rfl⟩; simp only [ya]; have k := ze (za u.out d); have M : Hid (Box w1 w.heap.size (.mk j x m p l) sv) := Box.kept H.out (za (zc C none) d); have v := zi k.out D.out; have E := zi k.out K.out; go_wp2
     go_ret
     exact Cy.ok k.out
    ·rw [f] at D
     clear f
     go_enter Tryz.func161,Tryz.ntmps161
     go_wp2_with fail; go_at_call 153; rw [<- g]; refine (F.out _ u.out).mono ?_; rw [s]; rintro e w1 ⟨d,rfl⟩; simp only [ya]; have k := ze (za u.out d); have M : Hid (Box w1 w.heap.size (.mk j x m p l) sv) := Box.kept H.out (za (zc C none) d); have v := zi k.out D.out; have E := zi k.out K.out; go_wp2
     go_ret
     exact Cy.ok k.out
   ·rw [show S.desigC c r (.mk j x m p l) = .error (8,p) by simp only [KS.desigC,s,Except.bind,if_neg f,thr,T.at']]
    simp only [not_or] at f
    have R : ((S.th t).kind != 3) = true := by simpa using f.1
    have U : ((S.th t).kind != 1) = true := by simpa using f.2
    clear f A B hne
    go_enter Tryz.func161,Tryz.ntmps161
    go_wp2_with fail; go_at_call 153; rw [<- g]; refine (F.out _ u.out).mono ?_; rw [s]; rintro e w1 ⟨d,rfl⟩; simp only [ya]; have k := ze (za u.out d); have M : Hid (Box w1 w.heap.size (.mk j x m p l) sv) := Box.kept H.out (za (zc C none) d); have v := zi k.out D.out; obtain ⟨_,_,_,_,_⟩ := M.out; go_wp2_with fail; go_at_call 53; refine (zu _ (.mk j x m p l) sv 8).mono ?_; rintro e V Q; have I := Q; obtain ⟨q,rfl⟩ := Q.thrown
    exact ⟨rfl,I.err k.out⟩
theorem sH (h : CK ρ w S b c) (n : T) (sv : Value) (hf : Fits n) (ha : AT w n.subs sv) (hs : n.kind = 25 -> 0 < n.subs.length) {r : KR} (hk : n.kind = 25) (hne : S.meaningC c n = .ok none) (hd : ∀ w1,w.grownBy w1 none -> Calls Tryz.prog 192 #[.pointer (some ⟨b,0,none⟩),zn n sv] w1 (Cy w1 ((S.dotC c r n).map fun t => .pointer (some ⟨ρ.ty t,0,none⟩)))) :
  Calls Tryz.prog 161 #[.pointer (some ⟨b,0,none⟩),zn n sv] w (Cy w ((S.desigC c r n).map fun t => .pointer (some ⟨ρ.ty t,0,none⟩))) := by
 have C := ze (fun w1 (G : w.grownBy w1 none) => yI (h.up G) n sv hf (ha.kept G) hs); have D := ze hd; obtain ⟨g,x,m,p,l⟩ := n
 change Calls Tryz.prog 161 #[.pointer (some ⟨b,0,none⟩),.agg #[.int .i64 g,.string ⟨x.toArray⟩,.int .i64 m,.int .i64 p,sv]] w _
 obtain ⟨v,f⟩ : ∃ z,z = w.alloc (.cells #[.int .i64 g,.string ⟨x.toArray⟩,.int .i64 m,.int .i64 p,sv] 100) := ⟨_,rfl⟩
 have A : Hid (w.grownBy v none) := by rw [f]; exact zf (zc w none) _
 have E : Hid (Box v w.heap.size (.mk g x m p l) sv) := by rw [f]; exact Box.new w (.mk g x m p l) sv _
 obtain rfl : g = 25 := hk; clear h ha hf hs hd; rw [show S.desigC c r (.mk 25 x m p l) = S.dotC c r (.mk 25 x m p l) by simp [KS.desigC,hne,Except.bind,T.kind]]; cases F : S.dotC c r (.mk 25 x m p l) with
 | error z =>
  go_enter Tryz.func161,Tryz.ntmps161
  go_wp2_with fail; go_at_call 153; rw [<- f]; refine (C.out _ A.out).mono ?_; rw [hne]; rintro e w1 ⟨d,rfl⟩; simp only [zO]; have i := ze (za A.out d); have B : Hid (Box w1 w.heap.size (.mk 25 x m p l) sv) := Box.kept E.out (za (zc v none) d); obtain ⟨j,k,o,q,s⟩ := B.out; go_wp2_with fail; go_at_call 192; refine (D.out _ i.out).mono ?_; rw [F]; rintro e H I; have J := I; obtain ⟨_,rfl⟩ := I.thrown
  exact ⟨rfl,J.err i.out⟩
 | ok t =>
  go_enter Tryz.func161,Tryz.ntmps161
  go_wp2_with fail; go_at_call 153; rw [<- f]; refine (C.out _ A.out).mono ?_; rw [hne]; rintro e w1 ⟨d,rfl⟩; simp only [zO]; have i := ze (za A.out d); have B : Hid (Box w1 w.heap.size (.mk 25 x m p l) sv) := Box.kept E.out (za (zc v none) d); obtain ⟨j,k,o,q,s⟩ := B.out; go_wp2_with fail; go_at_call 192; refine (D.out _ i.out).mono ?_; rw [F]; rintro e H ⟨u,rfl⟩; have K := ze (za i.out u); have L : Hid (Box H w.heap.size (.mk 25 x m p l) sv) := Box.kept B.out (za (zc w1 none) u); go_wp2
  go_ret
  exact Cy.ok K.out
theorem dC (h : CK ρ w S b c) (n : T) (sv : Value) (hf : Fits n) (ha : AT w n.subs sv) (hs : n.kind = 25 -> 0 < n.subs.length) {r : KR} (hk : n.kind = 26) (hne : S.meaningC c n = .ok none) (hd : ∀ w1,w.grownBy w1 none -> Calls Tryz.prog 193 #[.pointer (some ⟨b,0,none⟩),zn n sv] w1 (Cy w1 ((S.indexC r n).map fun t => .pointer (some ⟨ρ.ty t,0,none⟩)))) :
  Calls Tryz.prog 161 #[.pointer (some ⟨b,0,none⟩),zn n sv] w (Cy w ((S.desigC c r n).map fun t => .pointer (some ⟨ρ.ty t,0,none⟩))) := by
 have C := ze (fun w1 (G : w.grownBy w1 none) => yI (h.up G) n sv hf (ha.kept G) hs); have D := ze hd; obtain ⟨g,x,m,p,l⟩ := n
 change Calls Tryz.prog 161 #[.pointer (some ⟨b,0,none⟩),.agg #[.int .i64 g,.string ⟨x.toArray⟩,.int .i64 m,.int .i64 p,sv]] w _
 obtain ⟨v,f⟩ : ∃ z,z = w.alloc (.cells #[.int .i64 g,.string ⟨x.toArray⟩,.int .i64 m,.int .i64 p,sv] 100) := ⟨_,rfl⟩
 have A : Hid (w.grownBy v none) := by rw [f]; exact zf (zc w none) _
 have E : Hid (Box v w.heap.size (.mk g x m p l) sv) := by rw [f]; exact Box.new w (.mk g x m p l) sv _
 obtain rfl : g = 26 := hk; clear h ha hf hs hd; rw [show S.desigC c r (.mk 26 x m p l) = S.indexC r (.mk 26 x m p l) by simp [KS.desigC,hne,Except.bind,T.kind]]; cases F : S.indexC r (.mk 26 x m p l) with
 | error z =>
  go_enter Tryz.func161,Tryz.ntmps161
  go_wp2_with fail; go_at_call 153; rw [<- f]; refine (C.out _ A.out).mono ?_; rw [hne]; rintro e w1 ⟨d,rfl⟩; simp only [zO]; have i := ze (za A.out d); have B : Hid (Box w1 w.heap.size (.mk 26 x m p l) sv) := Box.kept E.out (za (zc v none) d); obtain ⟨j,k,o,q,s⟩ := B.out; go_wp2_with fail; go_at_call 193; refine (D.out _ i.out).mono ?_; rw [F]; rintro e H I; have J := I; obtain ⟨_,rfl⟩ := I.thrown
  exact ⟨rfl,J.err i.out⟩
 | ok t =>
  go_enter Tryz.func161,Tryz.ntmps161
  go_wp2_with fail; go_at_call 153; rw [<- f]; refine (C.out _ A.out).mono ?_; rw [hne]; rintro e w1 ⟨d,rfl⟩; simp only [zO]; have i := ze (za A.out d); have B : Hid (Box w1 w.heap.size (.mk 26 x m p l) sv) := Box.kept E.out (za (zc v none) d); obtain ⟨j,k,o,q,s⟩ := B.out; go_wp2_with fail; go_at_call 193; refine (D.out _ i.out).mono ?_; rw [F]; rintro e H ⟨u,rfl⟩; have K := ze (za i.out u); have L : Hid (Box H w.heap.size (.mk 26 x m p l) sv) := Box.kept B.out (za (zc w1 none) u); go_wp2
  go_ret
  exact Cy.ok K.out
theorem dE (h : CK ρ w S b c) (n : T) (sv : Value) (hf : Fits n) (ha : AT w n.subs sv) (hs : n.kind = 25 -> 0 < n.subs.length) {r : KR} (hk : n.kind = 28) (hne : S.meaningC c n = .ok none) (hd : ∀ w1,w.grownBy w1 none -> Calls Tryz.prog 191 #[.pointer (some ⟨b,0,none⟩),zn n sv] w1 (Cy w1 ((S.guardedC c r n).map fun t => .pointer (some ⟨ρ.ty t,0,none⟩)))) :
  Calls Tryz.prog 161 #[.pointer (some ⟨b,0,none⟩),zn n sv] w (Cy w ((S.desigC c r n).map fun t => .pointer (some ⟨ρ.ty t,0,none⟩))) := by
 have C := ze (fun w1 (G : w.grownBy w1 none) => yI (h.up G) n sv hf (ha.kept G) hs); have D := ze hd; obtain ⟨g,x,m,p,l⟩ := n
 change Calls Tryz.prog 161 #[.pointer (some ⟨b,0,none⟩),.agg #[.int .i64 g,.string ⟨x.toArray⟩,.int .i64 m,.int .i64 p,sv]] w _
 obtain ⟨v,f⟩ : ∃ z,z = w.alloc (.cells #[.int .i64 g,.string ⟨x.toArray⟩,.int .i64 m,.int .i64 p,sv] 100) := ⟨_,rfl⟩
 have A : Hid (w.grownBy v none) := by rw [f]; exact zf (zc w none) _
 have E : Hid (Box v w.heap.size (.mk g x m p l) sv) := by rw [f]; exact Box.new w (.mk g x m p l) sv _
 obtain rfl : g = 28 := hk; clear h ha hf hs hd; rw [show S.desigC c r (.mk 28 x m p l) = S.guardedC c r (.mk 28 x m p l) by simp [KS.desigC,hne,Except.bind,T.kind]]; cases F : S.guardedC c r (.mk 28 x m p l) with
 | error z =>
  go_enter Tryz.func161,Tryz.ntmps161
  go_wp2_with fail; go_at_call 153; rw [<- f]; refine (C.out _ A.out).mono ?_; rw [hne]; rintro e w1 ⟨d,rfl⟩; simp only [zO]; have i := ze (za A.out d); have B : Hid (Box w1 w.heap.size (.mk 28 x m p l) sv) := Box.kept E.out (za (zc v none) d); obtain ⟨j,k,o,q,s⟩ := B.out; go_wp2_with fail; go_at_call 191; refine (D.out _ i.out).mono ?_; rw [F]; rintro e H I; have J := I; obtain ⟨_,rfl⟩ := I.thrown
  exact ⟨rfl,J.err i.out⟩
 | ok t =>
  go_enter Tryz.func161,Tryz.ntmps161
  go_wp2_with fail; go_at_call 153; rw [<- f]; refine (C.out _ A.out).mono ?_; rw [hne]; rintro e w1 ⟨d,rfl⟩; simp only [zO]; have i := ze (za A.out d); have B : Hid (Box w1 w.heap.size (.mk 28 x m p l) sv) := Box.kept E.out (za (zc v none) d); obtain ⟨j,k,o,q,s⟩ := B.out; go_wp2_with fail; go_at_call 191; refine (D.out _ i.out).mono ?_; rw [F]; rintro e H ⟨u,rfl⟩; have K := ze (za i.out u); have L : Hid (Box H w.heap.size (.mk 28 x m p l) sv) := Box.kept B.out (za (zc w1 none) u); go_wp2
  go_ret
  exact Cy.ok K.out
theorem dW (h : CK ρ w S b c) (n : T) (sv : Value) (hf : Fits n) (ha : AT w n.subs sv) (hs : n.kind = 25 -> 0 < n.subs.length) (hT : KAll S) {r : KR} {u : T} {us : List T} (hk : n.kind = 27) (hl : n.subs = u :: us) (hu : CEx ρ S b c r u) (hne : S.meaningC c n = .ok none) :
  Calls Tryz.prog 161 #[.pointer (some ⟨b,0,none⟩),zn n sv] w (Cy w ((S.desigC c r n).map fun t => .pointer (some ⟨ρ.ty t,0,none⟩))) := by
 have I := ze (fun w1 (G : w.grownBy w1 none) => yI (h.up G) n sv hf (ha.kept G) hs); have J := ze (fun w1 (G : w.grownBy w1 none) => ka (h.up G) n sv hf (ha.kept G) hl hu); have V := ze h.km; have F := ze hT
 have H : ∀ t,S.pointerC r n = .ok t -> t < S.tys.length /\ (S.ty t).form = 5 := fun t e => ⟨hu.lt t (by have g := (xv e).1; unfold sub at g; rw [hl] at g; exact g),(xv e).2⟩
 obtain ⟨j,x,m,p,l⟩ := n
 change Calls Tryz.prog 161 #[.pointer (some ⟨b,0,none⟩),.agg #[.int .i64 j,.string ⟨x.toArray⟩,.int .i64 m,.int .i64 p,sv]] w _
 obtain ⟨C,f⟩ : ∃ z,z = w.alloc (.cells #[.int .i64 j,.string ⟨x.toArray⟩,.int .i64 m,.int .i64 p,sv] 100) := ⟨_,rfl⟩
 have D : Hid (w.grownBy C none) := by rw [f]; exact zf (zc w none) _
 have K : Hid (Box C w.heap.size (.mk j x m p l) sv) := by rw [f]; exact Box.new w (.mk j x m p l) sv _
 obtain rfl : j = 27 := hk; clear h ha hf hs hu hl hT; cases k : S.pointerC r (.mk 27 x m p l) with
 | error z =>
  rw [show S.desigC c r (.mk 27 x m p l) = .error z by simp [KS.desigC,hne,k,Except.bind,T.kind]]
  go_enter Tryz.func161,Tryz.ntmps161
  go_wp2_with fail; go_at_call 153; rw [<- f]; refine (I.out _ D.out).mono ?_; rw [hne]; rintro e w1 ⟨d,rfl⟩; simp only [zO]; have i := ze (za D.out d); have E : Hid (Box w1 w.heap.size (.mk 27 x m p l) sv) := Box.kept K.out (za (zc C none) d); obtain ⟨o,q,s,v,A⟩ := E.out; go_wp2_with fail; go_at_call 194; refine (J.out _ i.out).mono ?_; rw [k]; rintro e L M; have F := M; obtain ⟨_,rfl⟩ := M.thrown
  exact ⟨rfl,F.err i.out⟩
 | ok t =>
  obtain ⟨N,X⟩ := H t k; obtain ⟨Y,_,_⟩ := F.out.p N X
  have O : Hid (w.cell? ⟨ρ.ty t,5,none⟩ = some (.pointer (some ⟨ρ.ty (S.of t),0,none⟩))) := by have g := V.out.y5 N; rw [Y] at g; exact g
  rw [show S.desigC c r (.mk 27 x m p l) = .ok (S.of t) by simp [KS.desigC,hne,k,Except.bind,T.kind]]
  go_enter Tryz.func161,Tryz.ntmps161
  go_wp2_with fail; go_at_call 153; rw [<- f]; refine (I.out _ D.out).mono ?_; rw [hne]; rintro e w1 ⟨d,rfl⟩; simp only [zO]; have i := ze (za D.out d); have E : Hid (Box w1 w.heap.size (.mk 27 x m p l) sv) := Box.kept K.out (za (zc C none) d); have Q := zi i.out O.out; obtain ⟨o,q,s,v,A⟩ := E.out; go_wp2_with fail; go_at_call 194; refine (J.out _ i.out).mono ?_; rw [k]; rintro e L ⟨B,rfl⟩; have R := ze (za i.out B); have Z : Hid (Box L w.heap.size (.mk 27 x m p l) sv) := Box.kept E.out (za (zc w1 none) B); have U := zi R.out O.out; go_wp2
  go_ret
  exact Cy.ok R.out
end
set_option maxHeartbeats 4000000
section
variable {ρ : Lay} {w w' w1 : World} {S : KS} {b : Nat} {c : KSc}
theorem Box.at {w : World} {b : Nat} (hb : b = w.heap.size) (t : T) (sv : Value) (ty : TypeId) : Box (w.alloc (.cells #[.int .i64 t.kind,.string ⟨t.name.toArray⟩,.int .i64 t.num,.int .i64 t.at',sv] ty)) b t sv := by
 subst hb
 exact Box.new w t sv ty
theorem Box.alloc {w : World} {b : Nat} {t : T} {sv : Value} (h : Box w b t sv) (o : Obj) : Box (w.alloc o) b t sv := h.kept (World.grownBy_alloc w o none)
theorem Box.drew {w : World} {b : Nat} {t : T} {sv : Value} (h : Box w b t sv) : Box w.drew b t sv := h.kept (zh (zc w none))
theorem ff (h : CK ρ w S b c) (n : T) (sv : Value) (hf : Fits n) (ha : AT w n.subs sv) (hT : KAll S) {r : KR} {u v : T} (hl : n.subs = [u,v]) (hu : CEx ρ S b c r u) (hv : CEx ρ S b c r v) :
  Calls Tryz.prog 190 #[.pointer (some ⟨b,0,none⟩),zn n sv] w (Cy w ((S.operatorC r n).map fun t => .pointer (some ⟨ρ.ty t,0,none⟩))) := by
 have HU := ze (fun w1 (G : w.grownBy w1 none) su (fu : Fits u) (au : AT w u.subs su) => hu.run w1 su (h.up G) fu (au.kept G)); have HV := ze (fun w1 (G : w.grownBy w1 none) su (fu : Fits v) (au : AT w v.subs su) => hv.run w1 su (h.up G) fu (au.kept G)); have HK := ze h; have HT := ze hT; have d2 := hu.lt; have d3 := hv.lt; have h3 := h.ok.three; obtain ⟨B,x,m,p,l⟩ := n; obtain rfl : l = [u,v] := hl; obtain ⟨g,o,D,su,_,rfl,_,_,n5,fu,au,n6,fv,av⟩ := ha.pair; obtain ⟨ua,uc,rfl,-,-⟩ := au.form; obtain ⟨va,vc,rfl,-,-⟩ := av.form; have HA := ze au; have HF := ze fu; have H := ze av; have X := ze fv
 replace n5 := ze n5
 replace n6 := ze n6
 clear fu au fv av
 change Calls Tryz.prog 190 #[.pointer (some ⟨b,0,none⟩),.agg #[.int .i64 B,.string ⟨x.toArray⟩,.int .i64 m,.int .i64 p,.slice (some ⟨g,o,none⟩) 2 D]] w _
 obtain ⟨w0,a3⟩ : ∃ z,z = w.alloc (.cells #[.int .i64 B,.string ⟨x.toArray⟩,.int .i64 m,.int .i64 p,.slice (some ⟨g,o,none⟩) 2 D] 100) := ⟨_,rfl⟩
 have G0 : Hid (w.grownBy w0 none) := by rw [a3]; exact zf (zc w none) _
 have B0 : Hid (Box w0 w.heap.size (.mk B x m p [u,v]) (.slice (some ⟨g,o,none⟩) 2 D)) := by rw [a3]; exact Box.new w (.mk B x m p [u,v]) (.slice (some ⟨g,o,none⟩) 2 D) _
 clear h ha hf hu hv hT
 have hz : sub (.mk B x m p [u,v]) 0 = u := rfl
 have a2 : sub (.mk B x m p [u,v]) 1 = v := rfl
 have a4 : (T.mk B x m p [u,v]).name = x := rfl
 generalize hR : S.operatorC r (.mk B x m p [u,v]) = R
 go_enter Tryz.func190,Tryz.ntmps190
 go_wp2_with fail; rw [<- a3]
 have b2 : w0.heap.size = w.heap.size + 1 := by rw [a3]; simp
 clear a3
 have HS : Hid (∀ w',w0.grownBy w' none -> w'.cell? ⟨w.heap.size,4,none⟩ = some (.slice (some ⟨g,o,none⟩) 2 D) /\ w'.cell? ⟨g,o,none⟩ = some (.int .i64 u.kind) /\ w'.cell? ⟨g,o + 1,none⟩ = some (.string ⟨u.name.toArray⟩) /\ w'.cell? ⟨g,o + 2,none⟩ = some (.int .i64 u.num) /\ w'.cell? ⟨g,o + 3,none⟩ = some (.int .i64 u.at') /\ w'.cell? ⟨g,o + 4,none⟩ = some ((.slice ua u.subs.length uc)) /\ w'.cell? ⟨g,o + 5,none⟩ = some (.int .i64 v.kind) /\ w'.cell? ⟨g,o + 6,none⟩ = some (.string ⟨v.name.toArray⟩) /\ w'.cell? ⟨g,o + 7,none⟩ = some (.int .i64 v.num) /\ w'.cell? ⟨g,o + 8,none⟩ = some (.int .i64 v.at') /\ w'.cell? ⟨g,o + 9,none⟩ = some ((.slice va v.subs.length vc))) := fun w' hg => by
  have hh := za G0.out hg
  exact ⟨zi hg B0.out.c4,zi hh n5.out.c0,zi hh n5.out.c1,zi hh n5.out.c2,zi hh n5.out.c3,zi hh n5.out.c4,zi hh n6.out.c0,zi hh n6.out.c1,zi hh n6.out.c2,zi hh n6.out.c3,zi hh n6.out.c4⟩
 go_cut [5,6] from 18 (fun s1 s2 wx => ∃ (P Q : Nat),s1 = .pointer (some ⟨P,0,none⟩) /\ s2 = .pointer (some ⟨Q,0,none⟩) /\ Box wx P u (.slice ua u.subs.length uc) /\ Box wx Q v (.slice va v.subs.length vc) /\ w0.grownBy wx none)
 case first =>
  go_region_held (fun w' => w'.cell? ⟨w.heap.size,4,none⟩ = some (.slice (some ⟨g,o,none⟩) 2 D) /\ w'.cell? ⟨g,o,none⟩ = some (.int .i64 u.kind) /\ w'.cell? ⟨g,o + 1,none⟩ = some (.string ⟨u.name.toArray⟩) /\ w'.cell? ⟨g,o + 2,none⟩ = some (.int .i64 u.num) /\ w'.cell? ⟨g,o + 3,none⟩ = some (.int .i64 u.at') /\ w'.cell? ⟨g,o + 4,none⟩ = some ((.slice ua u.subs.length uc)) /\ w'.cell? ⟨g,o + 5,none⟩ = some (.int .i64 v.kind) /\ w'.cell? ⟨g,o + 6,none⟩ = some (.string ⟨v.name.toArray⟩) /\ w'.cell? ⟨g,o + 7,none⟩ = some (.int .i64 v.num) /\ w'.cell? ⟨g,o + 8,none⟩ = some (.int .i64 v.at') /\ w'.cell? ⟨g,o + 9,none⟩ = some ((.slice va v.subs.length vc))) (exact HS.out _ (by first | with_reducible exact zh (zc w0 none) | with_reducible exact zh (zf (zc w0 none) _) | with_reducible exact zh (zf (zf (zc w0 none) _) _))) (fail)
  all_goals
   go_wp2_with fail; go_meet
  case rel => exact ⟨_,_,rfl,rfl,((Box.at b2.symm _ _ _).alloc _).drew,(Box.at (by simp [b2]) _ _ _).drew,(zh (zf (zf (zc w0 none) _) _))⟩
  case rel => exact ⟨_,_,rfl,rfl,(Box.at (by simp [b2]) _ _ _).drew,((Box.at b2.symm _ _ _).alloc _).drew,(zh (zf (zf (zc w0 none) _) _))⟩
 case rest =>
  obtain ⟨P,Q,rfl,rfl,O,U,gx⟩ := hcut; obtain ⟨w1,d4⟩ : ∃ z,z = wc := ⟨_,rfl⟩; subst d4; have V := ze (za G0.out gx); have B1 : Hid (Box w1 w.heap.size (.mk B x m p [u,v]) (.slice (some ⟨g,o,none⟩) 2 D)) := Box.kept B0.out gx
  replace O := ze O
  replace U := ze U
  clear gx; cases Y : r.ex u with
  | error z =>
   obtain rfl : R = .error z := hR.symm.trans (by simp [KS.operatorC,hz,Y,Except.bind]); go_wp2_with fail; refine wp_region_held_drew (S := fun w9 => w1.grownBy w9 none) (by kernel_rfl) ?_ (fun hHeld => ?_)
   ·exact zh (zc w1 none)
   refine kQ 0 18 (.pointer (some ⟨b,0,none⟩)) hHeld ?_; simp only [qA,qB,qC,qD]; refine dk 1 (some 19) (zn u (.slice ua u.subs.length uc)) rfl rfl (fun w9 hS => by obtain ⟨Z,q1,q2,q3,q4⟩ := Box.kept O.out hS; go_simp) hHeld ?_; simp only [qA,qB,qC,qD]; refine kQ 3 21 (.pointer (some ⟨b,0,none⟩)) hHeld ?_; simp only [qA,qB,qC,qD]; refine dk 4 (some 22) (zn v (.slice va v.subs.length vc)) rfl rfl (fun w9 hS => by obtain ⟨Z,q1,q2,q3,q4⟩ := Box.kept U.out hS; go_simp) hHeld ?_; simp only [qA,qB,qC,qD]; refine rd 2 rfl fun KK hKK => ?_
   go_simp
   go_at_call 157; refine (HU.out _ (zh V.out) _ HF.out HA.out).mono ?_; rw [Y]; rintro e w2 h2; have HT := h2; obtain ⟨q,rfl⟩ := h2.thrown
   exact ⟨rfl,HT.err (zh V.out)⟩
  | ok a =>
   have ha := d2 a Y; cases hy : r.ex v with
   | error z =>
    obtain rfl : R = .error z := hR.symm.trans (by simp [KS.operatorC,hz,a2,Y,hy,Except.bind]); go_wp2_with fail; refine wp_region_held_drew (S := fun w9 => w1.grownBy w9 none) (by kernel_rfl) ?_ (fun hHeld => ?_)
    ·exact zh (zc w1 none)
    refine kQ 0 18 (.pointer (some ⟨b,0,none⟩)) hHeld ?_; simp only [qA,qB,qC,qD]; refine dk 1 (some 19) (zn u (.slice ua u.subs.length uc)) rfl rfl (fun w9 hS => by obtain ⟨Z,q1,q2,q3,q4⟩ := Box.kept O.out hS; go_simp) hHeld ?_; simp only [qA,qB,qC,qD]; refine kQ 3 21 (.pointer (some ⟨b,0,none⟩)) hHeld ?_; simp only [qA,qB,qC,qD]; refine dk 4 (some 22) (zn v (.slice va v.subs.length vc)) rfl rfl (fun w9 hS => by obtain ⟨Z,q1,q2,q3,q4⟩ := Box.kept U.out hS; go_simp) hHeld ?_; simp only [qA,qB,qC,qD]; refine rd 2 rfl fun KK hKK => ?_
    go_simp
    go_at_call 157; refine (HU.out _ (zh V.out) _ HF.out HA.out).mono ?_; rw [Y]; rintro e w2 ⟨f,rfl⟩; have E := ze (za (zh V.out) f); have k := ze (za (zh (zc w1 none)) f); clear f
    go_simp
    refine hKK.out _ _ k.out fun hHeld => ?_
    clear hKK KK; refine rd 5 rfl fun KK hKK => ?_
    go_simp
    go_at_call 157; refine (HV.out _ E.out _ X.out H.out).mono ?_; rw [hy]; rintro e C h3; have HT := h3; obtain ⟨q,rfl⟩ := h3.thrown
    exact ⟨rfl,HT.err E.out⟩
   | ok e =>
    have hb := d3 e hy
    have d6 : yL x < S.tys.length := by unfold yL; split <;> omega
    have a5 : yj x < S.tys.length := by unfold yj; split <;> omega
    by_cases j : x = vn \/ x = dA
    ·cases hm : S.mayEq a e
     ·obtain rfl : R = .error (7,p) := hR.symm.trans (by simp [KS.operatorC,hz,a2,a4,Y,hy,j,hm,Except.bind,thr,T.at'])
      rcases j with j | j
      ·subst j
       go_wp2_with fail; refine wp_region_held_drew (S := fun w9 => w1.grownBy w9 none) (by kernel_rfl) ?_ (fun hHeld => ?_)
       ·exact zh (zc w1 none)
       refine kQ 0 18 (.pointer (some ⟨b,0,none⟩)) hHeld ?_; simp only [qA,qB,qC,qD]; refine dk 1 (some 19) (zn u (.slice ua u.subs.length uc)) rfl rfl (fun w9 hS => by obtain ⟨Z,q1,q2,q3,q4⟩ := Box.kept O.out hS; go_simp) hHeld ?_; simp only [qA,qB,qC,qD]; refine kQ 3 21 (.pointer (some ⟨b,0,none⟩)) hHeld ?_; simp only [qA,qB,qC,qD]; refine dk 4 (some 22) (zn v (.slice va v.subs.length vc)) rfl rfl (fun w9 hS => by obtain ⟨Z,q1,q2,q3,q4⟩ := Box.kept U.out hS; go_simp) hHeld ?_; simp only [qA,qB,qC,qD]; refine rd 2 rfl fun KK hKK => ?_
       go_simp
       go_at_call 157; refine (HU.out _ (zh V.out) _ HF.out HA.out).mono ?_; rw [Y]; rintro e w2 ⟨f,rfl⟩; have E := ze (za (zh V.out) f); have k := ze (za (zh (zc w1 none)) f); clear f
       go_simp
       refine hKK.out _ _ k.out fun hHeld => ?_
       clear hKK KK; refine rd 5 rfl fun KK hKK => ?_
       go_simp
       go_at_call 157; refine (HV.out _ E.out _ X.out H.out).mono ?_; rw [hy]; rintro e C ⟨i,rfl⟩; have A := ze (za E.out i); have d := ze (za k.out i); clear i
       go_simp
       refine hKK.out _ _ d.out fun hHeld => ?_
       clear hKK KK; refine kQ 6 7 (.pointer (some ⟨ρ.ty a,0,none⟩)) hHeld ?_; simp only [qA,qB,qC,qD]; refine kQ 7 8 (.pointer (some ⟨ρ.ty e,0,none⟩)) hHeld ?_; simp only [qA,qB,qC,qD]; refine wpAnyH_done (by kernel_rfl) ?_ _; clear hHeld; have N : Hid (Box C w.heap.size (.mk B vn m p [u,v]) (.slice (some ⟨g,o,none⟩) 2 D)) := Box.kept B1.out d.out; have F := ze (Box.kept O.out d.out); have a0 := ze (Box.kept U.out d.out); obtain ⟨I,J,K,L,M⟩ := N.out; go_wp2_with fail; go_at_call 208; refine (uw (HK.out.up A.out) HT.out ha hb).mono ?_; rw [hm]; rintro e w4 ⟨rfl,s⟩; have G4 := ze (za A.out s); have B4 : Hid (Box w4 w.heap.size (.mk B vn m p [u,v]) (.slice (some ⟨g,o,none⟩) 2 D)) := Box.kept N.out (za (zc C none) s); obtain ⟨a6,a7,a8,a9,b0⟩ := B4.out; go_wp2_with fail; go_at_call 53; refine (zu _ (.mk B vn m p [u,v]) (.slice (some ⟨g,o,none⟩) 2 D) 7).mono ?_; rintro e w5 h5; have HT := h5; obtain ⟨q,rfl⟩ := h5.thrown
       exact ⟨rfl,HT.err G4.out⟩
      ·have e1 : (x == [61]) = false := by subst j; rfl
       subst j; go_wp2_with fail; refine wp_region_held_drew (S := fun w9 => w1.grownBy w9 none) (by kernel_rfl) ?_ (fun hHeld => ?_)
       ·exact zh (zc w1 none)
       refine kQ 0 18 (.pointer (some ⟨b,0,none⟩)) hHeld ?_; simp only [qA,qB,qC,qD]; refine dk 1 (some 19) (zn u (.slice ua u.subs.length uc)) rfl rfl (fun w9 hS => by obtain ⟨Z,q1,q2,q3,q4⟩ := Box.kept O.out hS; go_simp) hHeld ?_; simp only [qA,qB,qC,qD]; refine kQ 3 21 (.pointer (some ⟨b,0,none⟩)) hHeld ?_; simp only [qA,qB,qC,qD]; refine dk 4 (some 22) (zn v (.slice va v.subs.length vc)) rfl rfl (fun w9 hS => by obtain ⟨Z,q1,q2,q3,q4⟩ := Box.kept U.out hS; go_simp) hHeld ?_; simp only [qA,qB,qC,qD]; refine rd 2 rfl fun KK hKK => ?_
       go_simp
       go_at_call 157; refine (HU.out _ (zh V.out) _ HF.out HA.out).mono ?_; rw [Y]; rintro e w2 ⟨f,rfl⟩; have E := ze (za (zh V.out) f); have k := ze (za (zh (zc w1 none)) f); clear f
       go_simp
       refine hKK.out _ _ k.out fun hHeld => ?_
       clear hKK KK; refine rd 5 rfl fun KK hKK => ?_
       go_simp
       go_at_call 157; refine (HV.out _ E.out _ X.out H.out).mono ?_; rw [hy]; rintro e C ⟨i,rfl⟩; have A := ze (za E.out i); have d := ze (za k.out i); clear i
       go_simp
       refine hKK.out _ _ d.out fun hHeld => ?_
       clear hKK KK; refine kQ 6 7 (.pointer (some ⟨ρ.ty a,0,none⟩)) hHeld ?_; simp only [qA,qB,qC,qD]; refine kQ 7 8 (.pointer (some ⟨ρ.ty e,0,none⟩)) hHeld ?_; simp only [qA,qB,qC,qD]; refine wpAnyH_done (by kernel_rfl) ?_ _; clear hHeld; have N : Hid (Box C w.heap.size (.mk B dA m p [u,v]) (.slice (some ⟨g,o,none⟩) 2 D)) := Box.kept B1.out d.out; have F := ze (Box.kept O.out d.out); have a0 := ze (Box.kept U.out d.out); obtain ⟨I,J,K,L,M⟩ := N.out; go_wp2_with fail; go_at_call 208; refine (uw (HK.out.up A.out) HT.out ha hb).mono ?_; rw [hm]; rintro e w4 ⟨rfl,s⟩; have G4 := ze (za A.out s); have B4 : Hid (Box w4 w.heap.size (.mk B dA m p [u,v]) (.slice (some ⟨g,o,none⟩) 2 D)) := Box.kept N.out (za (zc C none) s); obtain ⟨a6,a7,a8,a9,b0⟩ := B4.out; go_wp2_with fail; go_at_call 53; refine (zu _ (.mk B dA m p [u,v]) (.slice (some ⟨g,o,none⟩) 2 D) 7).mono ?_; rintro e w5 h5; have HT := h5; obtain ⟨q,rfl⟩ := h5.thrown
       exact ⟨rfl,HT.err G4.out⟩
     ·obtain rfl : R = .ok (yL x) := hR.symm.trans (by simp [KS.operatorC,hz,a2,a4,Y,hy,j,hm,Except.bind])
      rcases j with j | j
      ·subst j
       go_wp2_with fail; refine wp_region_held_drew (S := fun w9 => w1.grownBy w9 none) (by kernel_rfl) ?_ (fun hHeld => ?_)
       ·exact zh (zc w1 none)
       refine kQ 0 18 (.pointer (some ⟨b,0,none⟩)) hHeld ?_; simp only [qA,qB,qC,qD]; refine dk 1 (some 19) (zn u (.slice ua u.subs.length uc)) rfl rfl (fun w9 hS => by obtain ⟨Z,q1,q2,q3,q4⟩ := Box.kept O.out hS; go_simp) hHeld ?_; simp only [qA,qB,qC,qD]; refine kQ 3 21 (.pointer (some ⟨b,0,none⟩)) hHeld ?_; simp only [qA,qB,qC,qD]; refine dk 4 (some 22) (zn v (.slice va v.subs.length vc)) rfl rfl (fun w9 hS => by obtain ⟨Z,q1,q2,q3,q4⟩ := Box.kept U.out hS; go_simp) hHeld ?_; simp only [qA,qB,qC,qD]; refine rd 2 rfl fun KK hKK => ?_
       go_simp
       go_at_call 157; refine (HU.out _ (zh V.out) _ HF.out HA.out).mono ?_; rw [Y]; rintro e w2 ⟨f,rfl⟩; have E := ze (za (zh V.out) f); have k := ze (za (zh (zc w1 none)) f); clear f
       go_simp
       refine hKK.out _ _ k.out fun hHeld => ?_
       clear hKK KK; refine rd 5 rfl fun KK hKK => ?_
       go_simp
       go_at_call 157; refine (HV.out _ E.out _ X.out H.out).mono ?_; rw [hy]; rintro e C ⟨i,rfl⟩; have A := ze (za E.out i); have d := ze (za k.out i); clear i
       go_simp
       refine hKK.out _ _ d.out fun hHeld => ?_
       clear hKK KK; refine kQ 6 7 (.pointer (some ⟨ρ.ty a,0,none⟩)) hHeld ?_; simp only [qA,qB,qC,qD]; refine kQ 7 8 (.pointer (some ⟨ρ.ty e,0,none⟩)) hHeld ?_; simp only [qA,qB,qC,qD]; refine wpAnyH_done (by kernel_rfl) ?_ _; clear hHeld; have N : Hid (Box C w.heap.size (.mk B vn m p [u,v]) (.slice (some ⟨g,o,none⟩) 2 D)) := Box.kept B1.out d.out; have F := ze (Box.kept O.out d.out); have a0 := ze (Box.kept U.out d.out); obtain ⟨I,J,K,L,M⟩ := N.out; go_wp2_with fail; go_at_call 208; refine (uw (HK.out.up A.out) HT.out ha hb).mono ?_; rw [hm]; rintro e w4 ⟨rfl,s⟩; have G4 := ze (za A.out s); have B4 : Hid (Box w4 w.heap.size (.mk B vn m p [u,v]) (.slice (some ⟨g,o,none⟩) 2 D)) := Box.kept N.out (za (zc C none) s); obtain ⟨a6,a7,a8,a9,b0⟩ := B4.out; go_wp2_with fail; go_at_call 151; refine (xk (HK.out.up G4.out) vn).mono ?_; rintro e w5 ⟨rfl,b1⟩; rw [b1]; clear b1; go_wp2
       go_ret
       exact Cy.ok G4.out
      ·have e1 : (x == [61]) = false := by subst j; rfl
       subst j; go_wp2_with fail; refine wp_region_held_drew (S := fun w9 => w1.grownBy w9 none) (by kernel_rfl) ?_ (fun hHeld => ?_)
       ·exact zh (zc w1 none)
       refine kQ 0 18 (.pointer (some ⟨b,0,none⟩)) hHeld ?_; simp only [qA,qB,qC,qD]; refine dk 1 (some 19) (zn u (.slice ua u.subs.length uc)) rfl rfl (fun w9 hS => by obtain ⟨Z,q1,q2,q3,q4⟩ := Box.kept O.out hS; go_simp) hHeld ?_; simp only [qA,qB,qC,qD]; refine kQ 3 21 (.pointer (some ⟨b,0,none⟩)) hHeld ?_; simp only [qA,qB,qC,qD]; refine dk 4 (some 22) (zn v (.slice va v.subs.length vc)) rfl rfl (fun w9 hS => by obtain ⟨Z,q1,q2,q3,q4⟩ := Box.kept U.out hS; go_simp) hHeld ?_; simp only [qA,qB,qC,qD]; refine rd 2 rfl fun KK hKK => ?_
       go_simp
       go_at_call 157; refine (HU.out _ (zh V.out) _ HF.out HA.out).mono ?_; rw [Y]; rintro e w2 ⟨f,rfl⟩; have E := ze (za (zh V.out) f); have k := ze (za (zh (zc w1 none)) f); clear f
       go_simp
       refine hKK.out _ _ k.out fun hHeld => ?_
       clear hKK KK; refine rd 5 rfl fun KK hKK => ?_
       go_simp
       go_at_call 157; refine (HV.out _ E.out _ X.out H.out).mono ?_; rw [hy]; rintro e C ⟨i,rfl⟩; have A := ze (za E.out i); have d := ze (za k.out i); clear i
       go_simp
       refine hKK.out _ _ d.out fun hHeld => ?_
       clear hKK KK; refine kQ 6 7 (.pointer (some ⟨ρ.ty a,0,none⟩)) hHeld ?_; simp only [qA,qB,qC,qD]; refine kQ 7 8 (.pointer (some ⟨ρ.ty e,0,none⟩)) hHeld ?_; simp only [qA,qB,qC,qD]; refine wpAnyH_done (by kernel_rfl) ?_ _; clear hHeld; have N : Hid (Box C w.heap.size (.mk B dA m p [u,v]) (.slice (some ⟨g,o,none⟩) 2 D)) := Box.kept B1.out d.out; have F := ze (Box.kept O.out d.out); have a0 := ze (Box.kept U.out d.out); obtain ⟨I,J,K,L,M⟩ := N.out; go_wp2_with fail; go_at_call 208; refine (uw (HK.out.up A.out) HT.out ha hb).mono ?_; rw [hm]; rintro e w4 ⟨rfl,s⟩; have G4 := ze (za A.out s); have B4 : Hid (Box w4 w.heap.size (.mk B dA m p [u,v]) (.slice (some ⟨g,o,none⟩) 2 D)) := Box.kept N.out (za (zc C none) s); obtain ⟨a6,a7,a8,a9,b0⟩ := B4.out; go_wp2_with fail; go_at_call 151; refine (xk (HK.out.up G4.out) dA).mono ?_; rintro e w5 ⟨rfl,b1⟩; rw [b1]; clear b1; go_wp2
       go_ret
       exact Cy.ok G4.out
    ·have e1 : (x == [61]) = false := by simp only [not_or] at j; simpa [vn] using j.1
     have e2 : (x == [35]) = false := by simp only [not_or] at j; simpa [dA] using j.2
     cases hn : yE u a (yj x) with
     | error z =>
      obtain rfl : R = .error z := hR.symm.trans (by simp only [KS.operatorC,hz,a2,a4,Y,hy,if_neg j,hn,Except.bind]); clear j; go_wp2_with fail; refine wp_region_held_drew (S := fun w9 => w1.grownBy w9 none) (by kernel_rfl) ?_ (fun hHeld => ?_)
      ·exact zh (zc w1 none)
      refine kQ 0 18 (.pointer (some ⟨b,0,none⟩)) hHeld ?_; simp only [qA,qB,qC,qD]; refine dk 1 (some 19) (zn u (.slice ua u.subs.length uc)) rfl rfl (fun w9 hS => by obtain ⟨Z,q1,q2,q3,q4⟩ := Box.kept O.out hS; go_simp) hHeld ?_; simp only [qA,qB,qC,qD]; refine kQ 3 21 (.pointer (some ⟨b,0,none⟩)) hHeld ?_; simp only [qA,qB,qC,qD]; refine dk 4 (some 22) (zn v (.slice va v.subs.length vc)) rfl rfl (fun w9 hS => by obtain ⟨Z,q1,q2,q3,q4⟩ := Box.kept U.out hS; go_simp) hHeld ?_; simp only [qA,qB,qC,qD]; refine rd 2 rfl fun KK hKK => ?_
      go_simp
      go_at_call 157; refine (HU.out _ (zh V.out) _ HF.out HA.out).mono ?_; rw [Y]; rintro e w2 ⟨f,rfl⟩; have E := ze (za (zh V.out) f); have k := ze (za (zh (zc w1 none)) f); clear f
      go_simp
      refine hKK.out _ _ k.out fun hHeld => ?_
      clear hKK KK; refine rd 5 rfl fun KK hKK => ?_
      go_simp
      go_at_call 157; refine (HV.out _ E.out _ X.out H.out).mono ?_; rw [hy]; rintro e C ⟨i,rfl⟩; have A := ze (za E.out i); have d := ze (za k.out i); clear i
      go_simp
      refine hKK.out _ _ d.out fun hHeld => ?_
      clear hKK KK; refine kQ 6 7 (.pointer (some ⟨ρ.ty a,0,none⟩)) hHeld ?_; simp only [qA,qB,qC,qD]; refine kQ 7 8 (.pointer (some ⟨ρ.ty e,0,none⟩)) hHeld ?_; simp only [qA,qB,qC,qD]; refine wpAnyH_done (by kernel_rfl) ?_ _; clear hHeld; have N : Hid (Box C w.heap.size (.mk B x m p [u,v]) (.slice (some ⟨g,o,none⟩) 2 D)) := Box.kept B1.out d.out; have F := ze (Box.kept O.out d.out); have a0 := ze (Box.kept U.out d.out); obtain ⟨I,J,K,L,M⟩ := N.out; go_wp2_with fail; go_at_call 150; refine (xC (HK.out.up A.out) x).mono ?_; rintro e w4 ⟨rfl,a1⟩; rw [a1]; clear a1; obtain ⟨b4,b5,b6,b7,b8⟩ := F.out; go_wp2_with fail; go_at_call 115; refine (zL (HK.out.up A.out).km u _ (HA.out.kept A.out) ha a5).mono ?_; rw [hn]; rintro e w4 h4; have HT := h4; obtain ⟨q,rfl⟩ := h4.thrown
      exact ⟨rfl,HT.err A.out⟩
     | ok _ =>
      cases b3 : yE v e (yj x) with
      | error z =>
       obtain rfl : R = .error z := hR.symm.trans (by simp only [KS.operatorC,hz,a2,a4,Y,hy,if_neg j,hn,b3,Except.bind]); clear j; go_wp2_with fail; refine wp_region_held_drew (S := fun w9 => w1.grownBy w9 none) (by kernel_rfl) ?_ (fun hHeld => ?_)
       ·exact zh (zc w1 none)
       refine kQ 0 18 (.pointer (some ⟨b,0,none⟩)) hHeld ?_; simp only [qA,qB,qC,qD]; refine dk 1 (some 19) (zn u (.slice ua u.subs.length uc)) rfl rfl (fun w9 hS => by obtain ⟨Z,q1,q2,q3,q4⟩ := Box.kept O.out hS; go_simp) hHeld ?_; simp only [qA,qB,qC,qD]; refine kQ 3 21 (.pointer (some ⟨b,0,none⟩)) hHeld ?_; simp only [qA,qB,qC,qD]; refine dk 4 (some 22) (zn v (.slice va v.subs.length vc)) rfl rfl (fun w9 hS => by obtain ⟨Z,q1,q2,q3,q4⟩ := Box.kept U.out hS; go_simp) hHeld ?_; simp only [qA,qB,qC,qD]; refine rd 2 rfl fun KK hKK => ?_
       go_simp
       go_at_call 157; refine (HU.out _ (zh V.out) _ HF.out HA.out).mono ?_; rw [Y]; rintro e w2 ⟨f,rfl⟩; have E := ze (za (zh V.out) f); have k := ze (za (zh (zc w1 none)) f); clear f
       go_simp
       refine hKK.out _ _ k.out fun hHeld => ?_
       clear hKK KK; refine rd 5 rfl fun KK hKK => ?_
       go_simp
       go_at_call 157; refine (HV.out _ E.out _ X.out H.out).mono ?_; rw [hy]; rintro e C ⟨i,rfl⟩; have A := ze (za E.out i); have d := ze (za k.out i); clear i
       go_simp
       refine hKK.out _ _ d.out fun hHeld => ?_
       clear hKK KK; refine kQ 6 7 (.pointer (some ⟨ρ.ty a,0,none⟩)) hHeld ?_; simp only [qA,qB,qC,qD]; refine kQ 7 8 (.pointer (some ⟨ρ.ty e,0,none⟩)) hHeld ?_; simp only [qA,qB,qC,qD]; refine wpAnyH_done (by kernel_rfl) ?_ _; clear hHeld; have N : Hid (Box C w.heap.size (.mk B x m p [u,v]) (.slice (some ⟨g,o,none⟩) 2 D)) := Box.kept B1.out d.out; have F := ze (Box.kept O.out d.out); have a0 := ze (Box.kept U.out d.out); obtain ⟨I,J,K,L,M⟩ := N.out; go_wp2_with fail; go_at_call 150; refine (xC (HK.out.up A.out) x).mono ?_; rintro e w4 ⟨rfl,a1⟩; rw [a1]; clear a1; obtain ⟨b4,b5,b6,b7,b8⟩ := F.out; go_wp2_with fail; go_at_call 115; refine (zL (HK.out.up A.out).km u _ (HA.out.kept A.out) ha a5).mono ?_; rw [hn]; rintro e w4 ⟨s,rfl⟩; have G4 := ze (za A.out s); have B4 : Hid (Box w4 w.heap.size (.mk B x m p [u,v]) (.slice (some ⟨g,o,none⟩) 2 D)) := Box.kept N.out (za (zc C none) s); have d5 := ze (Box.kept F.out (za (zc C none) s)); have b9 := ze (Box.kept a0.out (za (zc C none) s)); obtain ⟨c5,c6,c7,c8,c9⟩ := b9.out; go_wp2_with fail; go_at_call 115; refine (zL (HK.out.up G4.out).km v _ (H.out.kept G4.out) hb a5).mono ?_; rw [b3]; rintro e w5 h5; have HT := h5; obtain ⟨q,rfl⟩ := h5.thrown
       exact ⟨rfl,HT.err G4.out⟩
      | ok _ =>
       obtain rfl : R = .ok (yL x) := hR.symm.trans (by simp only [KS.operatorC,hz,a2,a4,Y,hy,if_neg j,hn,b3,Except.bind]); clear j; go_wp2_with fail; refine wp_region_held_drew (S := fun w9 => w1.grownBy w9 none) (by kernel_rfl) ?_ (fun hHeld => ?_)
       ·exact zh (zc w1 none)
       refine kQ 0 18 (.pointer (some ⟨b,0,none⟩)) hHeld ?_; simp only [qA,qB,qC,qD]; refine dk 1 (some 19) (zn u (.slice ua u.subs.length uc)) rfl rfl (fun w9 hS => by obtain ⟨Z,q1,q2,q3,q4⟩ := Box.kept O.out hS; go_simp) hHeld ?_; simp only [qA,qB,qC,qD]; refine kQ 3 21 (.pointer (some ⟨b,0,none⟩)) hHeld ?_; simp only [qA,qB,qC,qD]; refine dk 4 (some 22) (zn v (.slice va v.subs.length vc)) rfl rfl (fun w9 hS => by obtain ⟨Z,q1,q2,q3,q4⟩ := Box.kept U.out hS; go_simp) hHeld ?_; simp only [qA,qB,qC,qD]; refine rd 2 rfl fun KK hKK => ?_
       go_simp
       go_at_call 157; refine (HU.out _ (zh V.out) _ HF.out HA.out).mono ?_; rw [Y]; rintro e w2 ⟨f,rfl⟩; have E := ze (za (zh V.out) f); have k := ze (za (zh (zc w1 none)) f); clear f
       go_simp
       refine hKK.out _ _ k.out fun hHeld => ?_
       clear hKK KK; refine rd 5 rfl fun KK hKK => ?_
       go_simp
       go_at_call 157; refine (HV.out _ E.out _ X.out H.out).mono ?_; rw [hy]; rintro e C ⟨i,rfl⟩; have A := ze (za E.out i); have d := ze (za k.out i); clear i
       go_simp
       refine hKK.out _ _ d.out fun hHeld => ?_
       clear hKK KK; refine kQ 6 7 (.pointer (some ⟨ρ.ty a,0,none⟩)) hHeld ?_; simp only [qA,qB,qC,qD]; refine kQ 7 8 (.pointer (some ⟨ρ.ty e,0,none⟩)) hHeld ?_; simp only [qA,qB,qC,qD]; refine wpAnyH_done (by kernel_rfl) ?_ _; clear hHeld; have N : Hid (Box C w.heap.size (.mk B x m p [u,v]) (.slice (some ⟨g,o,none⟩) 2 D)) := Box.kept B1.out d.out; have F := ze (Box.kept O.out d.out); have a0 := ze (Box.kept U.out d.out); obtain ⟨I,J,K,L,M⟩ := N.out; go_wp2_with fail; go_at_call 150; refine (xC (HK.out.up A.out) x).mono ?_; rintro e w4 ⟨rfl,a1⟩; rw [a1]; clear a1; obtain ⟨b4,b5,b6,b7,b8⟩ := F.out; go_wp2_with fail; go_at_call 115; refine (zL (HK.out.up A.out).km u _ (HA.out.kept A.out) ha a5).mono ?_; rw [hn]; rintro e w4 ⟨s,rfl⟩; have G4 := ze (za A.out s); have B4 : Hid (Box w4 w.heap.size (.mk B x m p [u,v]) (.slice (some ⟨g,o,none⟩) 2 D)) := Box.kept N.out (za (zc C none) s); have d5 := ze (Box.kept F.out (za (zc C none) s)); have b9 := ze (Box.kept a0.out (za (zc C none) s)); obtain ⟨c5,c6,c7,c8,c9⟩ := b9.out; go_wp2_with fail; go_at_call 115; refine (zL (HK.out.up G4.out).km v _ (H.out.kept G4.out) hb a5).mono ?_; rw [b3]; rintro e w5 ⟨d0,rfl⟩; have G5 := ze (za G4.out d0); have B5 : Hid (Box w5 w.heap.size (.mk B x m p [u,v]) (.slice (some ⟨g,o,none⟩) 2 D)) := Box.kept B4.out (za (zc w4 none) d0); obtain ⟨_,_,_,_,_⟩ := B5.out; go_wp2_with fail; go_at_call 151; refine (xk (HK.out.up G5.out) x).mono ?_; rintro e w6 ⟨rfl,d1⟩; rw [d1]; clear d1; go_wp2
       go_ret
       exact Cy.ok G5.out
end
end Go.Proofs.YtnmkffjklpfflaaGreatDoor
