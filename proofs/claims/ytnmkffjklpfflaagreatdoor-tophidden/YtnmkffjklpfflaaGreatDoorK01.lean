/- Expressions: names. -/
import Derived.Test.YtnmkffjklpfflaaGreatDoorG11
namespace Go.Proofs.YtnmkffjklpfflaaGreatDoor
open Go.RowKit
set_option maxHeartbeats 1000000
set_option maxRecDepth 100000
section
variable {ρ : Lay} {w w' w1 : World} {S : KS} {b : Nat} {c : KSc}
structure CEx (ρ : Lay) (S : KS) (b : Nat) (c : KSc) (r : KR) (n : T) : Prop where
 lt : ∀ t,r.ex n = .ok t -> t < S.tys.length
 run : ∀ (w : World) (sv : Value),CK ρ w S b c -> Fits n -> AT w n.subs sv -> Calls Tryz.prog 157 #[.pointer (some ⟨b,0,none⟩),zn n sv] w (Cy w ((r.ex n).map fun t => .pointer (some ⟨ρ.ty t,0,none⟩)))
structure CDe (ρ : Lay) (S : KS) (b : Nat) (c : KSc) (r : KR) (n : T) : Prop where
 lt : ∀ t,r.de n = .ok t -> t < S.tys.length
 run : ∀ (w : World) (sv : Value),CK ρ w S b c -> Fits n -> AT w n.subs sv -> Calls Tryz.prog 161 #[.pointer (some ⟨b,0,none⟩),zn n sv] w (Cy w ((r.de n).map fun t => .pointer (some ⟨ρ.ty t,0,none⟩)))
theorem yI (h : CK ρ w S b c) (n : T) (sv : Value) (hf : Fits n) (ha : AT w n.subs sv) (hs : n.kind = 25 -> 0 < n.subs.length) :
  Calls Tryz.prog 153 #[.pointer (some ⟨b,0,none⟩),zn n sv] w (Cy w ((S.meaningC c n).map fun t => ρ.thP t)) := by
 have H := ze (fun w1 (G : w.grownBy w1 none) => dQ (h.up G) n sv hf (ha.kept G) hs); have N := ze (fun w1 (G : w.grownBy w1 none) => jK (h.up G) n sv (ha.kept G) hs); obtain ⟨f,x,m,p,l⟩ := n
 change Calls Tryz.prog 153 #[.pointer (some ⟨b,0,none⟩),.agg #[.int .i64 f,.string ⟨x.toArray⟩,.int .i64 m,.int .i64 p,sv]] w _
 obtain ⟨k,i⟩ : ∃ z,z = w.alloc (.cells #[.int .i64 f,.string ⟨x.toArray⟩,.int .i64 m,.int .i64 p,sv] 100) := ⟨_,rfl⟩
 have u : Hid (w.grownBy k none) := by rw [i]; exact zf (zc w none) _
 have v : Hid (Box k w.heap.size (.mk f x m p l) sv) := by rw [i]; exact Box.new w (.mk f x m p l) sv _
 clear h ha hf hs; cases A : S.meaning c (.mk f x m p l) with
 | some t =>
  rw [show S.meaningC c (.mk f x m p l) = .ok (some t) by simp [KS.meaningC,A]]
  go_enter Tryz.func153,Tryz.ntmps153
  go_wp2_with fail; rw [<- i]; clear i; refine wp_region_held_drew (S := fun w9 => k.grownBy w9 none) (by kernel_rfl) ?_ (fun hHeld => ?_)
  ·exact zh (zc k none)
  refine kQ 0 6 (.pointer (some ⟨b,0,none⟩)) hHeld ?_; simp only [qA,qB,qC,qD]; refine kQ 1 7 (.pointer (some ⟨b,0,none⟩)) hHeld ?_; simp only [qA,qB,qC,qD]; refine kQ 2 8 (.pointer (some ⟨b,0,none⟩)) hHeld ?_; simp only [qA,qB,qC,qD]; refine dk 3 (some 9) (.agg #[.int .i64 f,.string ⟨x.toArray⟩,.int .i64 m,.int .i64 p,sv]) rfl rfl (fun w9 hS => by obtain ⟨B,C,D,E,F⟩ := (Box.kept v.out hS).plain; go_simp) hHeld ?_; simp only [qA,qB,qC,qD]; refine rd 4 rfl fun KK hKK => ?_
  go_simp
  go_at_call 184; refine (H.out _ (zh u.out)).mono ?_; rw [A,ya]; rintro e w1 ⟨rfl,d⟩; have s := ze (za (zh u.out) d); have g := ze (za (zh (zc k none)) d); clear d
  go_simp
  refine hKK.out _ _ g.out fun hHeld => ?_
  clear hKK KK; refine kQ 5 5 (.pointer (some ⟨ρ.th t,0,none⟩)) hHeld ?_; simp only [qA,qB,qC,qD]; refine wpAnyH_done (by kernel_rfl) ?_ _; clear hHeld; have o : Hid (Box w1 w.heap.size (.mk f x m p l) sv) := Box.kept v.out g.out; go_wp2_with fail; refine wp_region_held_drew (S := fun w9 => w1.grownBy w9 none) (by kernel_rfl) ?_ (fun hHeld => ?_)
  ·exact zh (zc w1 none)
  refine kQ 0 11 (.pointer (some ⟨ρ.th t,0,none⟩)) hHeld ?_; simp only [qA,qB,qC,qD]; refine kQ 1 12 (.bool false) hHeld ?_; simp only [qA,qB,qC,qD]; refine kQ 2 13 (.bool false) hHeld ?_; simp only [qA,qB,qC,qD]; refine dn 3 (some 14) rfl rfl hHeld ?_; simp only [qA,qB,qC,qD]; refine dn 4 (some 15) rfl rfl hHeld ?_; simp only [qA,qB,qC,qD]; refine dn 5 (some 16) rfl rfl hHeld ?_; simp only [qA,qB,qC,qD]; refine dn 6 (some 17) rfl rfl hHeld ?_; simp only [qA,qB,qC,qD]; refine dn 7 (some 18) rfl rfl hHeld ?_; simp only [qA,qB,qC,qD]; refine dn 8 (some 19) rfl rfl hHeld ?_; simp only [qA,qB,qC,qD]; refine dn 9 (some 20) rfl rfl hHeld ?_; simp only [qA,qB,qC,qD]; refine dn 10 (some 21) rfl rfl hHeld ?_; simp only [qA,qB,qC,qD]; refine dn 11 (some 22) rfl rfl hHeld ?_; simp only [qA,qB,qC,qD]; refine dn 12 (some 23) rfl rfl hHeld ?_; simp only [qA,qB,qC,qD]; refine dn 13 (some 24) rfl rfl hHeld ?_; simp only [qA,qB,qC,qD]; refine kQ 14 25 (.bool false) hHeld ?_; simp only [qA,qB,qC,qD]; refine wpAnyH_done (by kernel_rfl) ?_ _; clear hHeld; go_wp2
  go_ret
  exact Cy.ok (zh s.out)
 | none =>
  by_cases I : f = 24
  ·subst I
   rw [show S.meaningC c (.mk 24 x m p l) = .error (5,p) by simp [KS.meaningC,A,T.kind,thr,T.at']]
   go_enter Tryz.func153,Tryz.ntmps153
   go_wp2_with fail; rw [<- i]; clear i; refine wp_region_held_drew (S := fun w9 => k.grownBy w9 none) (by kernel_rfl) ?_ (fun hHeld => ?_)
   ·exact zh (zc k none)
   refine kQ 0 6 (.pointer (some ⟨b,0,none⟩)) hHeld ?_; simp only [qA,qB,qC,qD]; refine kQ 1 7 (.pointer (some ⟨b,0,none⟩)) hHeld ?_; simp only [qA,qB,qC,qD]; refine kQ 2 8 (.pointer (some ⟨b,0,none⟩)) hHeld ?_; simp only [qA,qB,qC,qD]; refine dk 3 (some 9) (.agg #[.int .i64 24,.string ⟨x.toArray⟩,.int .i64 m,.int .i64 p,sv]) rfl rfl (fun w9 hS => by obtain ⟨B,C,D,E,F⟩ := (Box.kept v.out hS).plain; go_simp) hHeld ?_; simp only [qA,qB,qC,qD]; refine rd 4 rfl fun KK hKK => ?_
   go_simp
   go_at_call 184; refine (H.out _ (zh u.out)).mono ?_; rw [A,zO]; rintro e w1 ⟨rfl,d⟩; have s := ze (za (zh u.out) d); have g := ze (za (zh (zc k none)) d); clear d
   go_simp
   refine hKK.out _ _ g.out fun hHeld => ?_
   clear hKK KK; refine kQ 5 5 (.pointer none) hHeld ?_; simp only [qA,qB,qC,qD]; refine wpAnyH_done (by kernel_rfl) ?_ _; clear hHeld; have o : Hid (Box w1 w.heap.size (.mk 24 x m p l) sv) := Box.kept v.out g.out; go_wp2_with fail; refine wp_region_held_drew (S := fun w9 => w1.grownBy w9 none) (by kernel_rfl) ?_ (fun hHeld => ?_)
   ·exact zh (zc w1 none)
   refine kQ 0 11 (.pointer none) hHeld ?_; simp only [qA,qB,qC,qD]; refine kQ 1 12 (.bool true) hHeld ?_; simp only [qA,qB,qC,qD]; refine kQ 2 13 (.bool true) hHeld ?_; simp only [qA,qB,qC,qD]; refine kQ 3 14 (.pointer (some ⟨w.heap.size,0,none⟩)) hHeld ?_; simp only [qA,qB,qC,qD]; refine dk 4 (some 15) (.int .i64 24) rfl rfl (fun w9 hS => by obtain ⟨B,C,D,E,F⟩ := (Box.kept o.out hS).plain; go_simp) hHeld ?_; simp only [qA,qB,qC,qD]; refine kQ 5 16 (.bool true) hHeld ?_; simp only [qA,qB,qC,qD]; refine kQ 6 17 (.bool true) hHeld ?_; simp only [qA,qB,qC,qD]; refine dn 7 (some 18) rfl rfl hHeld ?_; simp only [qA,qB,qC,qD]; refine dn 8 (some 19) rfl rfl hHeld ?_; simp only [qA,qB,qC,qD]; refine dn 9 (some 20) rfl rfl hHeld ?_; simp only [qA,qB,qC,qD]; refine dn 10 (some 21) rfl rfl hHeld ?_; simp only [qA,qB,qC,qD]; refine dn 11 (some 22) rfl rfl hHeld ?_; simp only [qA,qB,qC,qD]; refine dn 12 (some 23) rfl rfl hHeld ?_; simp only [qA,qB,qC,qD]; refine kQ 13 24 (.bool true) hHeld ?_; simp only [qA,qB,qC,qD]; refine kQ 14 25 (.bool true) hHeld ?_; simp only [qA,qB,qC,qD]; refine wpAnyH_done (by kernel_rfl) ?_ _; clear hHeld; obtain ⟨_,_,_,_,_⟩ := o.out; go_wp2_with fail; go_at_call 53; refine (zu _ (.mk 24 x m p l) sv 5).mono ?_; rintro e J O; have L := O; obtain ⟨q,rfl⟩ := O.thrown
   exact ⟨rfl,L.err (zh s.out)⟩
  have U : decide (f = 24) = false := by simpa using I
  cases K : S.ahead c (.mk f x m p l) with
  | some q =>
   rw [show S.meaningC c (.mk f x m p l) = .error (5,p) by simp [KS.meaningC,A,I,K,T.kind,thr,T.at']]
   go_enter Tryz.func153,Tryz.ntmps153
   go_wp2_with fail; rw [<- i]; clear i; refine wp_region_held_drew (S := fun w9 => k.grownBy w9 none) (by kernel_rfl) ?_ (fun hHeld => ?_)
   ·exact zh (zc k none)
   refine kQ 0 6 (.pointer (some ⟨b,0,none⟩)) hHeld ?_; simp only [qA,qB,qC,qD]; refine kQ 1 7 (.pointer (some ⟨b,0,none⟩)) hHeld ?_; simp only [qA,qB,qC,qD]; refine kQ 2 8 (.pointer (some ⟨b,0,none⟩)) hHeld ?_; simp only [qA,qB,qC,qD]; refine dk 3 (some 9) (.agg #[.int .i64 f,.string ⟨x.toArray⟩,.int .i64 m,.int .i64 p,sv]) rfl rfl (fun w9 hS => by obtain ⟨B,C,D,E,F⟩ := (Box.kept v.out hS).plain; go_simp) hHeld ?_; simp only [qA,qB,qC,qD]; refine rd 4 rfl fun KK hKK => ?_
   go_simp
   go_at_call 184; refine (H.out _ (zh u.out)).mono ?_; rw [A,zO]; rintro e w1 ⟨rfl,d⟩; have s := ze (za (zh u.out) d); have g := ze (za (zh (zc k none)) d); clear d
   go_simp
   refine hKK.out _ _ g.out fun hHeld => ?_
   clear hKK KK; refine kQ 5 5 (.pointer none) hHeld ?_; simp only [qA,qB,qC,qD]; refine wpAnyH_done (by kernel_rfl) ?_ _; clear hHeld; have o : Hid (Box w1 w.heap.size (.mk f x m p l) sv) := Box.kept v.out g.out; go_wp2_with fail; refine wp_region_held_drew (S := fun w9 => w1.grownBy w9 none) (by kernel_rfl) ?_ (fun hHeld => ?_)
   ·exact zh (zc w1 none)
   refine kQ 0 11 (.pointer none) hHeld ?_; simp only [qA,qB,qC,qD]; refine kQ 1 12 (.bool true) hHeld ?_; simp only [qA,qB,qC,qD]; refine kQ 2 13 (.bool true) hHeld ?_; simp only [qA,qB,qC,qD]; refine kQ 3 14 (.pointer (some ⟨w.heap.size,0,none⟩)) hHeld ?_; simp only [qA,qB,qC,qD]; refine dk 4 (some 15) (.int .i64 f) rfl rfl (fun w9 hS => by obtain ⟨B,C,D,E,F⟩ := (Box.kept o.out hS).plain; go_simp) hHeld ?_; simp only [qA,qB,qC,qD]; refine kQ 5 16 (.bool false) hHeld ?_; simp only [qA,qB,qC,qD]; refine kQ 6 17 (.bool false) hHeld ?_; simp only [qA,qB,qC,qD]; refine kQ 7 18 (.pointer (some ⟨b,0,none⟩)) hHeld ?_; simp only [qA,qB,qC,qD]; refine kQ 8 19 (.pointer (some ⟨b,0,none⟩)) hHeld ?_; simp only [qA,qB,qC,qD]; refine kQ 9 20 (.pointer (some ⟨b,0,none⟩)) hHeld ?_; simp only [qA,qB,qC,qD]; refine dk 10 (some 21) (.agg #[.int .i64 f,.string ⟨x.toArray⟩,.int .i64 m,.int .i64 p,sv]) rfl rfl (fun w9 hS => by obtain ⟨B,C,D,E,F⟩ := (Box.kept o.out hS).plain; go_simp) hHeld ?_; simp only [qA,qB,qC,qD]; refine rd 11 rfl fun KK hKK => ?_
   go_simp
   go_at_call 185; refine (N.out _ (zh s.out)).mono ?_; rw [K,qR]; rintro e J ⟨rfl,j⟩; have M := ze (za (zh s.out) j); have r := ze (za (zh (zc w1 none)) j); clear j
   go_simp
   refine hKK.out _ _ r.out fun hHeld => ?_
   clear hKK KK; refine kQ 12 23 (.bool true) hHeld ?_; simp only [qA,qB,qC,qD]; refine kQ 13 24 (.bool true) hHeld ?_; simp only [qA,qB,qC,qD]; refine kQ 14 25 (.bool true) hHeld ?_; simp only [qA,qB,qC,qD]; refine wpAnyH_done (by kernel_rfl) ?_ _; clear hHeld; have Q : Hid (Box J w.heap.size (.mk f x m p l) sv) := Box.kept o.out r.out; obtain ⟨_,_,_,_,_⟩ := Q.out; go_wp2_with fail; go_at_call 53; refine (zu _ (.mk f x m p l) sv 5).mono ?_; rintro e V R; have L := R; obtain ⟨q,rfl⟩ := R.thrown
   exact ⟨rfl,L.err M.out⟩
  | none =>
   rw [show S.meaningC c (.mk f x m p l) = .ok none by simp [KS.meaningC,A,I,K,T.kind]]
   go_enter Tryz.func153,Tryz.ntmps153
   go_wp2_with fail; rw [<- i]; clear i; refine wp_region_held_drew (S := fun w9 => k.grownBy w9 none) (by kernel_rfl) ?_ (fun hHeld => ?_)
   ·exact zh (zc k none)
   refine kQ 0 6 (.pointer (some ⟨b,0,none⟩)) hHeld ?_; simp only [qA,qB,qC,qD]; refine kQ 1 7 (.pointer (some ⟨b,0,none⟩)) hHeld ?_; simp only [qA,qB,qC,qD]; refine kQ 2 8 (.pointer (some ⟨b,0,none⟩)) hHeld ?_; simp only [qA,qB,qC,qD]; refine dk 3 (some 9) (.agg #[.int .i64 f,.string ⟨x.toArray⟩,.int .i64 m,.int .i64 p,sv]) rfl rfl (fun w9 hS => by obtain ⟨B,C,D,E,F⟩ := (Box.kept v.out hS).plain; go_simp) hHeld ?_; simp only [qA,qB,qC,qD]; refine rd 4 rfl fun KK hKK => ?_
   go_simp
   go_at_call 184; refine (H.out _ (zh u.out)).mono ?_; rw [A,zO]; rintro e w1 ⟨rfl,d⟩; have s := ze (za (zh u.out) d); have g := ze (za (zh (zc k none)) d); clear d
   go_simp
   refine hKK.out _ _ g.out fun hHeld => ?_
   clear hKK KK; refine kQ 5 5 (.pointer none) hHeld ?_; simp only [qA,qB,qC,qD]; refine wpAnyH_done (by kernel_rfl) ?_ _; clear hHeld; have o : Hid (Box w1 w.heap.size (.mk f x m p l) sv) := Box.kept v.out g.out; go_wp2_with fail; refine wp_region_held_drew (S := fun w9 => w1.grownBy w9 none) (by kernel_rfl) ?_ (fun hHeld => ?_)
   ·exact zh (zc w1 none)
   refine kQ 0 11 (.pointer none) hHeld ?_; simp only [qA,qB,qC,qD]; refine kQ 1 12 (.bool true) hHeld ?_; simp only [qA,qB,qC,qD]; refine kQ 2 13 (.bool true) hHeld ?_; simp only [qA,qB,qC,qD]; refine kQ 3 14 (.pointer (some ⟨w.heap.size,0,none⟩)) hHeld ?_; simp only [qA,qB,qC,qD]; refine dk 4 (some 15) (.int .i64 f) rfl rfl (fun w9 hS => by obtain ⟨B,C,D,E,F⟩ := (Box.kept o.out hS).plain; go_simp) hHeld ?_; simp only [qA,qB,qC,qD]; refine kQ 5 16 (.bool false) hHeld ?_; simp only [qA,qB,qC,qD]; refine kQ 6 17 (.bool false) hHeld ?_; simp only [qA,qB,qC,qD]; refine kQ 7 18 (.pointer (some ⟨b,0,none⟩)) hHeld ?_; simp only [qA,qB,qC,qD]; refine kQ 8 19 (.pointer (some ⟨b,0,none⟩)) hHeld ?_; simp only [qA,qB,qC,qD]; refine kQ 9 20 (.pointer (some ⟨b,0,none⟩)) hHeld ?_; simp only [qA,qB,qC,qD]; refine dk 10 (some 21) (.agg #[.int .i64 f,.string ⟨x.toArray⟩,.int .i64 m,.int .i64 p,sv]) rfl rfl (fun w9 hS => by obtain ⟨B,C,D,E,F⟩ := (Box.kept o.out hS).plain; go_simp) hHeld ?_; simp only [qA,qB,qC,qD]; refine rd 11 rfl fun KK hKK => ?_
   go_simp
   go_at_call 185; refine (N.out _ (zh s.out)).mono ?_; rw [K,gn]; rintro e J ⟨rfl,j⟩; have M := ze (za (zh s.out) j); have r := ze (za (zh (zc w1 none)) j); clear j
   go_simp
   refine hKK.out _ _ r.out fun hHeld => ?_
   clear hKK KK; refine kQ 12 23 (.bool false) hHeld ?_; simp only [qA,qB,qC,qD]; refine kQ 13 24 (.bool false) hHeld ?_; simp only [qA,qB,qC,qD]; refine kQ 14 25 (.bool false) hHeld ?_; simp only [qA,qB,qC,qD]; refine wpAnyH_done (by kernel_rfl) ?_ _; clear hHeld; have Q : Hid (Box J w.heap.size (.mk f x m p l) sv) := Box.kept o.out r.out; go_wp2
   go_ret
   exact Cy.ok M.out
end
section
variable {ρ : Lay} {w w' w1 : World} {S : KS} {b : Nat} {c : KSc}
theorem AT.pair {w : World} {k m p : Int} {x : List UInt8} {u v : T} {sv : Value} (h : AT w (T.mk k x m p [u,v]).subs sv) : ∃ g o c su sw,sv = .slice (some ⟨g,o,none⟩) 2 c /\ 2 <= c /\ c <= 9223372036854775807 /\ Node5 w g o u su /\ Fits u /\ AT w u.subs su /\ Node5 w g (o + 5) v sw /\ Fits v /\ AT w v.subs sw := by
 obtain ⟨g,o,c,t,su,z,sw,e,f,i,j,l,n,q,r,s,d⟩ := h.two rfl; cases j
 exact ⟨g,o,c,su,sw,e,f,i,l,n,q,r,s,d⟩
theorem qs  (n : T) (sv : Value) (_ha : AT w n.subs sv) :
  Calls Tryz.prog 160 #[zn n sv] w (Sy w (.bool (zF n))) := by
 clear _ha; obtain ⟨d,x,m,p,l⟩ := n
 change Calls Tryz.prog 160 #[.agg #[.int .i64 d,.string ⟨x.toArray⟩,.int .i64 m,.int .i64 p,sv]] w _
 by_cases h : 24 <= d /\ d <= 28
 ·have e : d = 24 \/ d = 25 \/ d = 26 \/ d = 27 \/ d = 28 := by omega
  rw [show zF (.mk d x m p l) = true by simp [zF,T.kind,h]]; clear h
  rcases e with rfl | rfl | rfl | rfl | rfl
  all_goals
   go_enter Tryz.func160,Tryz.ntmps160
   go_wp2
   go_ret
   exact ⟨rfl,zf (zc w none) _⟩
 ·have f : (d == 24) = false := by simp; omega
  have g : (d == 25) = false := by simp; omega
  have i : (d == 26) = false := by simp; omega
  have j : (d == 27) = false := by simp; omega
  have k : (d == 28) = false := by simp; omega
  rw [show zF (.mk d x m p l) = false by rw [Bool.eq_false_iff]; intro e; simp only [zF,T.kind,Bool.and_eq_true] at e; exact h ⟨of_decide_eq_true e.1,of_decide_eq_true e.2⟩]; clear h
  go_enter Tryz.func160,Tryz.ntmps160
  go_wp2
  go_ret
  exact ⟨rfl,zf (zc w none) _⟩
theorem ka (h : CK ρ w S b c) (n : T) (sv : Value) (hf : Fits n) (ha : AT w n.subs sv) {r : KR} {u : T} {us : List T} (hl : n.subs = u :: us) (hu : CEx ρ S b c r u) :
  Calls Tryz.prog 194 #[.pointer (some ⟨b,0,none⟩),zn n sv] w (Cy w ((S.pointerC r n).map fun t => .pointer (some ⟨ρ.ty t,0,none⟩))) := by
 have I := ze (fun w1 (G : w.grownBy w1 none) s (D : Fits u) (E : AT w u.subs s) => hu.run w1 s (h.up G) D (E.kept G)); have X := ze h.km; have J := hu.lt; obtain ⟨d,x,m,p,l⟩ := n; obtain rfl : l = u :: us := hl; obtain ⟨g,o,j,s,rfl,Y,Z,v,D,E,-⟩ := ha.cons; have K := ze E; have L := ze D; have d0 := v.c0; have d1 := v.c1; have d2 := v.c2; have d3 := v.c3; have d4 := v.c4; have zg : g < w.heap.size := zw d0; clear v D E
 change Calls Tryz.prog 194 #[.pointer (some ⟨b,0,none⟩),.agg #[.int .i64 d,.string ⟨x.toArray⟩,.int .i64 m,.int .i64 p,.slice (some ⟨g,o,none⟩) (us.length + 1) j]] w _
 obtain ⟨F,f⟩ : ∃ z,z = w.alloc (.cells #[.int .i64 d,.string ⟨x.toArray⟩,.int .i64 m,.int .i64 p,.slice (some ⟨g,o,none⟩) (us.length + 1) j] 100) := ⟨_,rfl⟩
 have A : Hid (w.grownBy F none) := by rw [f]; exact zf (zc w none) _
 have Q : Hid (Box F w.heap.size (.mk d x m p (u :: us)) (.slice (some ⟨g,o,none⟩) (us.length + 1) j)) := by rw [f]; exact Box.new w (.mk d x m p (u :: us)) (.slice (some ⟨g,o,none⟩) (us.length + 1) j) _
 clear h ha hf hu
 have M : sub (.mk d x m p (u :: us)) 0 = u := rfl
 cases k : r.ex u with
 | error z =>
  rw [show S.pointerC r (.mk d x m p (u :: us)) = .error z by simp [KS.pointerC,M,k,Except.bind]]
  go_enter Tryz.func194,Tryz.ntmps194
  go_wp2_with fail; go_at_call 157; rw [<- f]; refine (I.out _ A.out s L.out K.out).mono ?_; rw [k]; rintro e w1 R; have N := R; obtain ⟨q,rfl⟩ := R.thrown
  exact ⟨rfl,N.err A.out⟩
 | ok t =>
  have O : Hid (w.cell? ⟨ρ.ty t,0,none⟩ = some (.int .i64 (S.ty t).form)) := X.out.y0 (J t k)
  by_cases H : (S.ty t).form = 5
  ·rw [H] at O
   rw [show S.pointerC r (.mk d x m p (u :: us)) = .ok t by simp [KS.pointerC,M,k,H,Except.bind]]
   go_enter Tryz.func194,Tryz.ntmps194
   go_wp2_with fail; go_at_call 157; rw [<- f]; refine (I.out _ A.out s L.out K.out).mono ?_; rw [k]; rintro e w1 ⟨i,rfl⟩; have B := ze (za A.out i); have U : Hid (Box w1 w.heap.size (.mk d x m p (u :: us)) (.slice (some ⟨g,o,none⟩) (us.length + 1) j)) := Box.kept Q.out (za (zc F none) i); have C := zi B.out O.out; go_wp2
   go_ret
   exact Cy.ok B.out
  ·have hd : decide ((S.ty t).form = 5) = false := by simpa using H
   rw [show S.pointerC r (.mk d x m p (u :: us)) = .error (7,p) by simp [KS.pointerC,M,k,H,Except.bind,thr,T.at']]
   go_enter Tryz.func194,Tryz.ntmps194
   go_wp2_with fail; go_at_call 157; rw [<- f]; refine (I.out _ A.out s L.out K.out).mono ?_; rw [k]; rintro e w1 ⟨i,rfl⟩; have B := ze (za A.out i); have U : Hid (Box w1 w.heap.size (.mk d x m p (u :: us)) (.slice (some ⟨g,o,none⟩) (us.length + 1) j)) := Box.kept Q.out (za (zc F none) i); have C := zi B.out O.out; obtain ⟨_,_,_,_,_⟩ := U.out; go_wp2_with fail; go_at_call 53; refine (zu _ (.mk d x m p (u :: us)) (.slice (some ⟨g,o,none⟩) (us.length + 1) j) 7).mono ?_; rintro e w2 V; have N := V; obtain ⟨q,rfl⟩ := V.thrown
   exact ⟨rfl,N.err B.out⟩
theorem xv {r : KR} {n : T} {t : Nat} (e : S.pointerC r n = .ok t) : r.ex (sub n 0) = .ok t /\ (S.ty t).form = 5 := by
 unfold KS.pointerC at e
 cases d : r.ex (sub n 0) with
 | error z => rw [d] at e; cases e
 | ok u =>
  rw [d] at e; simp only [Except.bind] at e
  split at e
  ·rename_i h; cases e; exact ⟨rfl,h⟩
  ·cases e
theorem kh (h : CK ρ w S b c) (n : T) (sv : Value) (hf : Fits n) (ha : AT w n.subs sv) (hT : KAll S) {r : KR} {u v : T} (hl : n.subs = [u,v]) (hu : CEx ρ S b c r u) :
  Calls Tryz.prog 191 #[.pointer (some ⟨b,0,none⟩),zn n sv] w (Cy w ((S.guardedC c r n).map fun t => .pointer (some ⟨ρ.ty t,0,none⟩))) := by
 have HP := ze (fun w1 (G : w.grownBy w1 none) => ka (h.up G) n sv hf (ha.kept G) hl hu); have HN := ze (fun w1 (G : w.grownBy w1 none) su (fu : Fits v) (au : AT w v.subs su) => ym (h.up G) v su fu (au.kept G)); have HM := ze h.km; have D := ze hT
 have b0 : ∀ t,S.pointerC r n = .ok t -> t < S.tys.length /\ (S.ty t).form = 5 := fun t e => ⟨hu.lt t (by have X := (xv e).1; unfold sub at X; rw [hl] at X; exact X),(xv e).2⟩
 have b1 : ∀ t,S.typeName c v = .ok t -> t < S.tys.length := fun t e => yM h e
 obtain ⟨k,x,m,p,l⟩ := n; obtain rfl : l = [u,v] := hl; obtain ⟨g,o,C,su,sw,rfl,_,_,n5,fu,au,n6,fv,av⟩ := ha.pair; have HA := ze av; have HF := ze fv; have d0 : Hid _ := n6.c0; have d1 : Hid _ := n6.c1; have d2 : Hid _ := n6.c2; have d3 : Hid _ := n6.c3; have d4 : Hid _ := n6.c4; clear n5 fu au n6 fv av
 change Calls Tryz.prog 191 #[.pointer (some ⟨b,0,none⟩),.agg #[.int .i64 k,.string ⟨x.toArray⟩,.int .i64 m,.int .i64 p,.slice (some ⟨g,o,none⟩) 2 C]] w _
 obtain ⟨w0,A⟩ : ∃ z,z = w.alloc (.cells #[.int .i64 k,.string ⟨x.toArray⟩,.int .i64 m,.int .i64 p,.slice (some ⟨g,o,none⟩) 2 C] 100) := ⟨_,rfl⟩
 have U : Hid (w.grownBy w0 none) := by rw [A]; exact zf (zc w none) _
 have B0 : Hid (Box w0 w.heap.size (.mk k x m p [u,v]) (.slice (some ⟨g,o,none⟩) 2 C)) := by rw [A]; exact Box.new w (.mk k x m p [u,v]) (.slice (some ⟨g,o,none⟩) 2 C) _
 clear h ha hf hu hT
 have hz : sub (.mk k x m p [u,v]) 1 = v := rfl
 cases E : S.pointerC r (.mk k x m p [u,v]) with
 | error z =>
  rw [show S.guardedC c r (.mk k x m p [u,v]) = .error z by simp [KS.guardedC,E,Except.bind]]
  go_enter Tryz.func191,Tryz.ntmps191
  go_wp2_with fail; go_at_call 194; rw [<- A]; refine (HP.out _ U.out).mono ?_; rw [E]; rintro e w1 h1; have D := h1; obtain ⟨q,rfl⟩ := h1.thrown
  exact ⟨rfl,D.err U.out⟩
 | ok f =>
  cases Y : S.typeName c v with
  | error z =>
   rw [show S.guardedC c r (.mk k x m p [u,v]) = .error z by simp [KS.guardedC,E,hz,Y,Except.bind]]
   go_enter Tryz.func191,Tryz.ntmps191
   go_wp2_with fail; go_at_call 194; rw [<- A]; refine (HP.out _ U.out).mono ?_; rw [E]; rintro e w1 ⟨j,rfl⟩; have d := ze (za U.out j); have V : Hid (Box w1 w.heap.size (.mk k x m p [u,v]) (.slice (some ⟨g,o,none⟩) 2 C)) := Box.kept B0.out (za (zc w0 none) j); have F := zi d.out d0.out; have H := zi d.out d1.out; have I := zi d.out d2.out; have J := zi d.out d3.out; have K := zi d.out d4.out; obtain ⟨L,M,N,O,Q⟩ := V.out; go_wp2_with fail; go_at_call 74; refine (HN.out _ d.out sw HF.out HA.out).mono ?_; rw [Y]; rintro e B h2; have D := h2; obtain ⟨q,rfl⟩ := h2.thrown
   exact ⟨rfl,D.err d.out⟩
  | ok t =>
   obtain ⟨a4,b2⟩ := b0 f E; have ht := b1 t Y; obtain ⟨o1,o2,_⟩ := D.out.p a4 b2
   have f5 : Hid (w.cell? ⟨ρ.ty f,5,none⟩ = some (.pointer (some ⟨ρ.ty (S.of f),0,none⟩))) := by have X := HM.out.y5 a4; rw [o1] at X; exact X
   have t0 : Hid (w.cell? ⟨ρ.ty t,0,none⟩ = some (.int .i64 (S.ty t).form)) := HM.out.y0 ht
   by_cases h5 : (S.ty t).form = 5
   ·obtain ⟨p1,p2,p3⟩ := D.out.p ht h5
    have t5 : Hid (w.cell? ⟨ρ.ty t,5,none⟩ = some (.pointer (some ⟨ρ.ty (S.of t),0,none⟩))) := by have X := HM.out.y5 ht; rw [p1] at X; exact X
    rw [h5] at t0; cases he : S.ext (S.of t) (S.of f)
    ·rw [show S.guardedC c r (.mk k x m p [u,v]) = .error (7,p) by simp [KS.guardedC,E,hz,Y,h5,he,Except.bind,thr,T.at']]
     go_enter Tryz.func191,Tryz.ntmps191
     go_wp2_with fail; go_at_call 194; rw [<- A]; refine (HP.out _ U.out).mono ?_; rw [E]; rintro e w1 ⟨j,rfl⟩; have d := ze (za U.out j); have V : Hid (Box w1 w.heap.size (.mk k x m p [u,v]) (.slice (some ⟨g,o,none⟩) 2 C)) := Box.kept B0.out (za (zc w0 none) j); have F := zi d.out d0.out; have H := zi d.out d1.out; have I := zi d.out d2.out; have J := zi d.out d3.out; have K := zi d.out d4.out; obtain ⟨L,M,N,O,Q⟩ := V.out; go_wp2_with fail; go_at_call 74; refine (HN.out _ d.out sw HF.out HA.out).mono ?_; rw [Y]; rintro e B ⟨s,rfl⟩; have i := ze (za d.out s); have B2 : Hid (Box B w.heap.size (.mk k x m p [u,v]) (.slice (some ⟨g,o,none⟩) 2 C)) := Box.kept V.out (za (zc w1 none) s); have Z := zi i.out d0.out; have a0 := zi i.out d1.out; have a1 := zi i.out d2.out; have a2 := zi i.out d3.out; have a3 := zi i.out d4.out; go_wp2_with fail; refine wp_region_held_drew (S := fun w9 => B.grownBy w9 none) (by kernel_rfl) ?_ (fun hHeld => ?_)
     ·exact zh (zc B none)
     refine kQ 0 16 (.pointer (some ⟨ρ.ty t,0,none⟩)) hHeld ?_; simp only [qA,qB,qC,qD]; refine kQ 1 17 (.pointer (some ⟨ρ.ty t,0,none⟩)) hHeld ?_; simp only [qA,qB,qC,qD]; refine kQ 2 18 (.pointer (some ⟨ρ.ty t,0,none⟩)) hHeld ?_; simp only [qA,qB,qC,qD]; refine dk 3 (some 19) (.int .i64 5) rfl rfl (fun w9 hS => by have q0 := zi (za i.out hS) t0.out; go_simp) hHeld ?_; simp only [qA,qB,qC,qD]; refine kQ 4 20 (.bool false) hHeld ?_; simp only [qA,qB,qC,qD]; refine kQ 5 21 (.bool false) hHeld ?_; simp only [qA,qB,qC,qD]; refine kQ 6 22 (.pointer (some ⟨ρ.ty t,0,none⟩)) hHeld ?_; simp only [qA,qB,qC,qD]; refine kQ 7 23 (.pointer (some ⟨ρ.ty t,0,none⟩)) hHeld ?_; simp only [qA,qB,qC,qD]; refine kQ 8 24 (.pointer (some ⟨ρ.ty t,5,none⟩)) hHeld ?_; simp only [qA,qB,qC,qD]; refine dk 9 (some 25) (.pointer (some ⟨ρ.ty (S.of t),0,none⟩)) rfl rfl (fun w9 hS => by have q0 := zi (za i.out hS) t5.out; go_simp) hHeld ?_; simp only [qA,qB,qC,qD]; refine kQ 10 26 (.pointer (some ⟨ρ.ty f,0,none⟩)) hHeld ?_; simp only [qA,qB,qC,qD]; refine kQ 11 27 (.pointer (some ⟨ρ.ty f,0,none⟩)) hHeld ?_; simp only [qA,qB,qC,qD]; refine kQ 12 28 (.pointer (some ⟨ρ.ty f,5,none⟩)) hHeld ?_; simp only [qA,qB,qC,qD]; refine dk 13 (some 29) (.pointer (some ⟨ρ.ty (S.of f),0,none⟩)) rfl rfl (fun w9 hS => by have q0 := zi (za i.out hS) f5.out; go_simp) hHeld ?_; simp only [qA,qB,qC,qD]; refine rd 14 rfl fun KK hKK => ?_
     go_simp
     go_at_call 189; refine (vj (HM.out.up (zh i.out)) D.out.toKTys p2 o2 p3).mono ?_; rw [he]; rintro e w3 ⟨rfl,R⟩; rw [R]; clear R
     go_simp
     refine hKK.out _ _ (zh (zc B none)) fun hHeld => ?_
     clear hKK KK; refine kQ 15 31 (.bool true) hHeld ?_; simp only [qA,qB,qC,qD]; refine kQ 16 32 (.bool true) hHeld ?_; simp only [qA,qB,qC,qD]; refine wpAnyH_done (by kernel_rfl) ?_ _; clear hHeld; obtain ⟨a5,a6,a7,a8,a9⟩ := B2.out; go_wp2_with fail; go_at_call 53; refine (zu _ (.mk k x m p [u,v]) (.slice (some ⟨g,o,none⟩) 2 C) 7).mono ?_; rintro e w3 h3; have D := h3; obtain ⟨q,rfl⟩ := h3.thrown
     exact ⟨rfl,D.err (zh i.out)⟩
    ·rw [show S.guardedC c r (.mk k x m p [u,v]) = .ok t by simp [KS.guardedC,E,hz,Y,h5,he,Except.bind]]
     go_enter Tryz.func191,Tryz.ntmps191
     go_wp2_with fail; go_at_call 194; rw [<- A]; refine (HP.out _ U.out).mono ?_; rw [E]; rintro e w1 ⟨j,rfl⟩; have d := ze (za U.out j); have V : Hid (Box w1 w.heap.size (.mk k x m p [u,v]) (.slice (some ⟨g,o,none⟩) 2 C)) := Box.kept B0.out (za (zc w0 none) j); have F := zi d.out d0.out; have H := zi d.out d1.out; have I := zi d.out d2.out; have J := zi d.out d3.out; have K := zi d.out d4.out; obtain ⟨L,M,N,O,Q⟩ := V.out; go_wp2_with fail; go_at_call 74; refine (HN.out _ d.out sw HF.out HA.out).mono ?_; rw [Y]; rintro e B ⟨s,rfl⟩; have i := ze (za d.out s); have B2 : Hid (Box B w.heap.size (.mk k x m p [u,v]) (.slice (some ⟨g,o,none⟩) 2 C)) := Box.kept V.out (za (zc w1 none) s); have Z := zi i.out d0.out; have a0 := zi i.out d1.out; have a1 := zi i.out d2.out; have a2 := zi i.out d3.out; have a3 := zi i.out d4.out; go_wp2_with fail; refine wp_region_held_drew (S := fun w9 => B.grownBy w9 none) (by kernel_rfl) ?_ (fun hHeld => ?_)
     ·exact zh (zc B none)
     refine kQ 0 16 (.pointer (some ⟨ρ.ty t,0,none⟩)) hHeld ?_; simp only [qA,qB,qC,qD]; refine kQ 1 17 (.pointer (some ⟨ρ.ty t,0,none⟩)) hHeld ?_; simp only [qA,qB,qC,qD]; refine kQ 2 18 (.pointer (some ⟨ρ.ty t,0,none⟩)) hHeld ?_; simp only [qA,qB,qC,qD]; refine dk 3 (some 19) (.int .i64 5) rfl rfl (fun w9 hS => by have q0 := zi (za i.out hS) t0.out; go_simp) hHeld ?_; simp only [qA,qB,qC,qD]; refine kQ 4 20 (.bool false) hHeld ?_; simp only [qA,qB,qC,qD]; refine kQ 5 21 (.bool false) hHeld ?_; simp only [qA,qB,qC,qD]; refine kQ 6 22 (.pointer (some ⟨ρ.ty t,0,none⟩)) hHeld ?_; simp only [qA,qB,qC,qD]; refine kQ 7 23 (.pointer (some ⟨ρ.ty t,0,none⟩)) hHeld ?_; simp only [qA,qB,qC,qD]; refine kQ 8 24 (.pointer (some ⟨ρ.ty t,5,none⟩)) hHeld ?_; simp only [qA,qB,qC,qD]; refine dk 9 (some 25) (.pointer (some ⟨ρ.ty (S.of t),0,none⟩)) rfl rfl (fun w9 hS => by have q0 := zi (za i.out hS) t5.out; go_simp) hHeld ?_; simp only [qA,qB,qC,qD]; refine kQ 10 26 (.pointer (some ⟨ρ.ty f,0,none⟩)) hHeld ?_; simp only [qA,qB,qC,qD]; refine kQ 11 27 (.pointer (some ⟨ρ.ty f,0,none⟩)) hHeld ?_; simp only [qA,qB,qC,qD]; refine kQ 12 28 (.pointer (some ⟨ρ.ty f,5,none⟩)) hHeld ?_; simp only [qA,qB,qC,qD]; refine dk 13 (some 29) (.pointer (some ⟨ρ.ty (S.of f),0,none⟩)) rfl rfl (fun w9 hS => by have q0 := zi (za i.out hS) f5.out; go_simp) hHeld ?_; simp only [qA,qB,qC,qD]; refine rd 14 rfl fun KK hKK => ?_
     go_simp
     go_at_call 189; refine (vj (HM.out.up (zh i.out)) D.out.toKTys p2 o2 p3).mono ?_; rw [he]; rintro e w3 ⟨rfl,R⟩; rw [R]; clear R
     go_simp
     refine hKK.out _ _ (zh (zc B none)) fun hHeld => ?_
     clear hKK KK; refine kQ 15 31 (.bool false) hHeld ?_; simp only [qA,qB,qC,qD]; refine kQ 16 32 (.bool false) hHeld ?_; simp only [qA,qB,qC,qD]; refine wpAnyH_done (by kernel_rfl) ?_ _; clear hHeld; go_wp2
     go_ret
     exact Cy.ok (zh i.out)
   ·rw [show S.guardedC c r (.mk k x m p [u,v]) = .error (7,p) by simp [KS.guardedC,E,hz,Y,h5,Except.bind,thr,T.at']]
    have hd : ((S.ty t).form != 5) = true := by simpa using h5
    go_enter Tryz.func191,Tryz.ntmps191
    go_wp2_with fail; go_at_call 194; rw [<- A]; refine (HP.out _ U.out).mono ?_; rw [E]; rintro e w1 ⟨j,rfl⟩; have d := ze (za U.out j); have V : Hid (Box w1 w.heap.size (.mk k x m p [u,v]) (.slice (some ⟨g,o,none⟩) 2 C)) := Box.kept B0.out (za (zc w0 none) j); have F := zi d.out d0.out; have H := zi d.out d1.out; have I := zi d.out d2.out; have J := zi d.out d3.out; have K := zi d.out d4.out; obtain ⟨L,M,N,O,Q⟩ := V.out; go_wp2_with fail; go_at_call 74; refine (HN.out _ d.out sw HF.out HA.out).mono ?_; rw [Y]; rintro e B ⟨s,rfl⟩; have i := ze (za d.out s); have B2 : Hid (Box B w.heap.size (.mk k x m p [u,v]) (.slice (some ⟨g,o,none⟩) 2 C)) := Box.kept V.out (za (zc w1 none) s); have Z := zi i.out d0.out; have a0 := zi i.out d1.out; have a1 := zi i.out d2.out; have a2 := zi i.out d3.out; have a3 := zi i.out d4.out; go_wp2_with fail; refine wp_region_held_drew (S := fun w9 => B.grownBy w9 none) (by kernel_rfl) ?_ (fun hHeld => ?_)
    ·exact zh (zc B none)
    refine kQ 0 16 (.pointer (some ⟨ρ.ty t,0,none⟩)) hHeld ?_; simp only [qA,qB,qC,qD]; refine kQ 1 17 (.pointer (some ⟨ρ.ty t,0,none⟩)) hHeld ?_; simp only [qA,qB,qC,qD]; refine kQ 2 18 (.pointer (some ⟨ρ.ty t,0,none⟩)) hHeld ?_; simp only [qA,qB,qC,qD]; refine dk 3 (some 19) (.int .i64 (S.ty t).form) rfl rfl (fun w9 hS => by have q0 := zi (za i.out hS) t0.out; go_simp) hHeld ?_; simp only [qA,qB,qC,qD]; refine kQ 4 20 (.bool true) hHeld ?_; simp only [qA,qB,qC,qD]; refine kQ 5 21 (.bool true) hHeld ?_; simp only [qA,qB,qC,qD]; refine dn 6 (some 22) rfl rfl hHeld ?_; simp only [qA,qB,qC,qD]; refine dn 7 (some 23) rfl rfl hHeld ?_; simp only [qA,qB,qC,qD]; refine dn 8 (some 24) rfl rfl hHeld ?_; simp only [qA,qB,qC,qD]; refine dn 9 (some 25) rfl rfl hHeld ?_; simp only [qA,qB,qC,qD]; refine dn 10 (some 26) rfl rfl hHeld ?_; simp only [qA,qB,qC,qD]; refine dn 11 (some 27) rfl rfl hHeld ?_; simp only [qA,qB,qC,qD]; refine dn 12 (some 28) rfl rfl hHeld ?_; simp only [qA,qB,qC,qD]; refine dn 13 (some 29) rfl rfl hHeld ?_; simp only [qA,qB,qC,qD]; refine dn 14 (some 30) rfl rfl hHeld ?_; simp only [qA,qB,qC,qD]; refine dn 15 (some 31) rfl rfl hHeld ?_; simp only [qA,qB,qC,qD]; refine kQ 16 32 (.bool true) hHeld ?_; simp only [qA,qB,qC,qD]; refine wpAnyH_done (by kernel_rfl) ?_ _; clear hHeld; obtain ⟨a5,a6,a7,a8,a9⟩ := B2.out; go_wp2_with fail; go_at_call 53; refine (zu _ (.mk k x m p [u,v]) (.slice (some ⟨g,o,none⟩) 2 C) 7).mono ?_; rintro e w3 h3; have D := h3; obtain ⟨q,rfl⟩ := h3.thrown
    exact ⟨rfl,D.err (zh i.out)⟩
end
section
variable {ρ : Lay} {w w' w1 : World} {S : KS} {b : Nat} {c : KSc}
def KFull (S : KS) : Prop := ∀ t,t < S.ths.length -> ((S.th t).kind = 3 \/ (S.th t).kind = 1) -> ∃ i,(S.th t).ty = some i
theorem vx (h : CK ρ w S b c) {n : T} {t : Nat} (e : S.meaning c n = some t) : t < S.ths.length := by
 unfold KS.meaning at e
 split at e
 ·exact ks h e
 ·cases d : S.ahead c n with
  | none => rw [d] at e; cases e
  | some m =>
   rw [d] at e
   have f : m < S.mds.length := by
    unfold KS.ahead at d
    split at d
    ·split at d
     ·exact uZ h d
     ·cases d
    ·cases d
   exact sC h f e
theorem xj {n : T} {t : Nat} (e : S.meaningC c n = .ok (some t)) : S.meaning c n = some t := by
 unfold KS.meaningC at e
 cases d : S.meaning c n with
 | some u => rw [d] at e; cases e; rfl
 | none =>
  rw [d] at e; simp only at e
  split at e
  ·cases e
  ·split at e <;> cases e
theorem dy (h : CK ρ w S b c) (n : T) (sv : Value) (hf : Fits n) (ha : AT w n.subs sv) (hs : n.kind = 25 -> 0 < n.subs.length) (hF : KFull S) {r : KR} (hne : S.meaningC c n ≠ .ok none) :
  Calls Tryz.prog 161 #[.pointer (some ⟨b,0,none⟩),zn n sv] w (Cy w ((S.desigC c r n).map fun t => .pointer (some ⟨ρ.ty t,0,none⟩))) := by
 have F := ze (fun w1 (G : w.grownBy w1 none) => yI (h.up G) n sv hf (ha.kept G) hs); have N := ze h.km
 have A : ∀ t,S.meaningC c n = .ok (some t) -> t < S.ths.length := fun t e => vx h (xj e)
 have B : ∀ t,t < S.ths.length -> ((S.th t).kind = 3 \/ (S.th t).kind = 1) -> ∃ i,(S.th t).ty = some i := hF; obtain ⟨j,x,m,p,l⟩ := n
 change Calls Tryz.prog 161 #[.pointer (some ⟨b,0,none⟩),.agg #[.int .i64 j,.string ⟨x.toArray⟩,.int .i64 m,.int .i64 p,sv]] w _
 obtain ⟨C,g⟩ : ∃ z,z = w.alloc (.cells #[.int .i64 j,.string ⟨x.toArray⟩,.int .i64 m,.int .i64 p,sv] 100) := ⟨_,rfl⟩
 have u : Hid (w.grownBy C none) := by rw [g]; exact zf (zc w none) _
 have H : Hid (Box C w.heap.size (.mk j x m p l) sv) := by rw [g]; exact Box.new w (.mk j x m p l) sv _
 clear h ha hf hs hF; cases s : S.meaningC c (.mk j x m p l) with
 | error z =>
  rw [show S.desigC c r (.mk j x m p l) = .error z by simp [KS.desigC,s,Except.bind]]
  go_enter Tryz.func161,Tryz.ntmps161
  go_wp2_with fail; go_at_call 153; rw [<- g]; refine (F.out _ u.out).mono ?_; rw [s]; rintro e w1 O; have I := O; obtain ⟨q,rfl⟩ := O.thrown
  exact ⟨rfl,I.err u.out⟩
 | ok o =>
  cases o with
  | none =>
   exact absurd s hne
  | some t =>
   have J := A t s; have D : Hid (w.cell? ⟨ρ.th t,0,none⟩ = some (.int .i64 (S.th t).kind)) := (N.out.th t J).bk.c 0 _ rfl; have K : Hid (w.cell? ⟨ρ.th t,4,none⟩ = some (ρ.tyP (S.th t).ty)) := (N.out.th t J).bk.c 4 _ rfl
   by_cases f : (S.th t).kind = 3 \/ (S.th t).kind = 1
   ·obtain ⟨i,L⟩ := B t J f
    rw [show S.desigC c r (.mk j x m p l) = .ok i by simp [KS.desigC,s,f,L,Except.bind]]; rw [L,yd] at K; clear L A B hne
    rcases f with f | f
    ·rw [f] at D
     clear f
     go_enter Tryz.func161,Tryz.ntmps161
     go_wp2_with fail; go_at_call 153; rw [<- g]; refine (F.out _ u.out).mono ?_; rw [s]; rintro e w1 ⟨d,rfl⟩; simp only [ya]; have k := ze (za u.out d); have M : Hid (Box w1 w.heap.size (.mk j x m p l) sv) := Box.kept H.out (za (zc C none) d); have v := zi k.out D.out; have E := zi k.out K.out; go_wp2
     go_ret
     exact Cy.ok k.out
    ·rw [f] at D
     clear f
     go_enter Tryz.func161,Tryz.ntmps161
     go_wp2_with fail; go_at_call 153; rw [<- g]; refine (F.out _ u.out).mono ?_; rw [s]; rintro e w1 ⟨d,rfl⟩; simp only [ya]; have k := ze (za u.out d); have M : Hid (Box w1 w.heap.size (.mk j x m p l) sv) := Box.kept H.out (za (zc C none) d); have v := zi k.out D.out; have E := zi k.out K.out; go_wp2
     go_ret
     exact Cy.ok k.out
   ·rw [show S.desigC c r (.mk j x m p l) = .error (8,p) by simp only [KS.desigC,s,Except.bind,if_neg f,thr,T.at']]
    simp only [not_or] at f
    have R : ((S.th t).kind != 3) = true := by simpa using f.1
    have U : ((S.th t).kind != 1) = true := by simpa using f.2
    clear f A B hne
    go_enter Tryz.func161,Tryz.ntmps161
    go_wp2_with fail; go_at_call 153; rw [<- g]; refine (F.out _ u.out).mono ?_; rw [s]; rintro e w1 ⟨d,rfl⟩; simp only [ya]; have k := ze (za u.out d); have M : Hid (Box w1 w.heap.size (.mk j x m p l) sv) := Box.kept H.out (za (zc C none) d); have v := zi k.out D.out; obtain ⟨_,_,_,_,_⟩ := M.out; go_wp2_with fail; go_at_call 53; refine (zu _ (.mk j x m p l) sv 8).mono ?_; rintro e V Q; have I := Q; obtain ⟨q,rfl⟩ := Q.thrown
    exact ⟨rfl,I.err k.out⟩
theorem sH (h : CK ρ w S b c) (n : T) (sv : Value) (hf : Fits n) (ha : AT w n.subs sv) (hs : n.kind = 25 -> 0 < n.subs.length) {r : KR} (hk : n.kind = 25) (hne : S.meaningC c n = .ok none) (hd : ∀ w1,w.grownBy w1 none -> Calls Tryz.prog 192 #[.pointer (some ⟨b,0,none⟩),zn n sv] w1 (Cy w1 ((S.dotC c r n).map fun t => .pointer (some ⟨ρ.ty t,0,none⟩)))) :
  Calls Tryz.prog 161 #[.pointer (some ⟨b,0,none⟩),zn n sv] w (Cy w ((S.desigC c r n).map fun t => .pointer (some ⟨ρ.ty t,0,none⟩))) := by
 have C := ze (fun w1 (G : w.grownBy w1 none) => yI (h.up G) n sv hf (ha.kept G) hs); have D := ze hd; obtain ⟨g,x,m,p,l⟩ := n
 change Calls Tryz.prog 161 #[.pointer (some ⟨b,0,none⟩),.agg #[.int .i64 g,.string ⟨x.toArray⟩,.int .i64 m,.int .i64 p,sv]] w _
 obtain ⟨v,f⟩ : ∃ z,z = w.alloc (.cells #[.int .i64 g,.string ⟨x.toArray⟩,.int .i64 m,.int .i64 p,sv] 100) := ⟨_,rfl⟩
 have A : Hid (w.grownBy v none) := by rw [f]; exact zf (zc w none) _
 have E : Hid (Box v w.heap.size (.mk g x m p l) sv) := by rw [f]; exact Box.new w (.mk g x m p l) sv _
 obtain rfl : g = 25 := hk; clear h ha hf hs hd; rw [show S.desigC c r (.mk 25 x m p l) = S.dotC c r (.mk 25 x m p l) by simp [KS.desigC,hne,Except.bind,T.kind]]; cases F : S.dotC c r (.mk 25 x m p l) with
 | error z =>
  go_enter Tryz.func161,Tryz.ntmps161
  go_wp2_with fail; go_at_call 153; rw [<- f]; refine (C.out _ A.out).mono ?_; rw [hne]; rintro e w1 ⟨d,rfl⟩; simp only [zO]; have i := ze (za A.out d); have B : Hid (Box w1 w.heap.size (.mk 25 x m p l) sv) := Box.kept E.out (za (zc v none) d); obtain ⟨j,k,o,q,s⟩ := B.out; go_wp2_with fail; go_at_call 192; refine (D.out _ i.out).mono ?_; rw [F]; rintro e H I; have J := I; obtain ⟨_,rfl⟩ := I.thrown
  exact ⟨rfl,J.err i.out⟩
 | ok t =>
  go_enter Tryz.func161,Tryz.ntmps161
  go_wp2_with fail; go_at_call 153; rw [<- f]; refine (C.out _ A.out).mono ?_; rw [hne]; rintro e w1 ⟨d,rfl⟩; simp only [zO]; have i := ze (za A.out d); have B : Hid (Box w1 w.heap.size (.mk 25 x m p l) sv) := Box.kept E.out (za (zc v none) d); obtain ⟨j,k,o,q,s⟩ := B.out; go_wp2_with fail; go_at_call 192; refine (D.out _ i.out).mono ?_; rw [F]; rintro e H ⟨u,rfl⟩; have K := ze (za i.out u); have L : Hid (Box H w.heap.size (.mk 25 x m p l) sv) := Box.kept B.out (za (zc w1 none) u); go_wp2
  go_ret
  exact Cy.ok K.out
theorem dC (h : CK ρ w S b c) (n : T) (sv : Value) (hf : Fits n) (ha : AT w n.subs sv) (hs : n.kind = 25 -> 0 < n.subs.length) {r : KR} (hk : n.kind = 26) (hne : S.meaningC c n = .ok none) (hd : ∀ w1,w.grownBy w1 none -> Calls Tryz.prog 193 #[.pointer (some ⟨b,0,none⟩),zn n sv] w1 (Cy w1 ((S.indexC r n).map fun t => .pointer (some ⟨ρ.ty t,0,none⟩)))) :
  Calls Tryz.prog 161 #[.pointer (some ⟨b,0,none⟩),zn n sv] w (Cy w ((S.desigC c r n).map fun t => .pointer (some ⟨ρ.ty t,0,none⟩))) := by
 have C := ze (fun w1 (G : w.grownBy w1 none) => yI (h.up G) n sv hf (ha.kept G) hs); have D := ze hd; obtain ⟨g,x,m,p,l⟩ := n
 change Calls Tryz.prog 161 #[.pointer (some ⟨b,0,none⟩),.agg #[.int .i64 g,.string ⟨x.toArray⟩,.int .i64 m,.int .i64 p,sv]] w _
 obtain ⟨v,f⟩ : ∃ z,z = w.alloc (.cells #[.int .i64 g,.string ⟨x.toArray⟩,.int .i64 m,.int .i64 p,sv] 100) := ⟨_,rfl⟩
 have A : Hid (w.grownBy v none) := by rw [f]; exact zf (zc w none) _
 have E : Hid (Box v w.heap.size (.mk g x m p l) sv) := by rw [f]; exact Box.new w (.mk g x m p l) sv _
 obtain rfl : g = 26 := hk; clear h ha hf hs hd; rw [show S.desigC c r (.mk 26 x m p l) = S.indexC r (.mk 26 x m p l) by simp [KS.desigC,hne,Except.bind,T.kind]]; cases F : S.indexC r (.mk 26 x m p l) with
 | error z =>
  go_enter Tryz.func161,Tryz.ntmps161
  go_wp2_with fail; go_at_call 153; rw [<- f]; refine (C.out _ A.out).mono ?_; rw [hne]; rintro e w1 ⟨d,rfl⟩; simp only [zO]; have i := ze (za A.out d); have B : Hid (Box w1 w.heap.size (.mk 26 x m p l) sv) := Box.kept E.out (za (zc v none) d); obtain ⟨j,k,o,q,s⟩ := B.out; go_wp2_with fail; go_at_call 193; refine (D.out _ i.out).mono ?_; rw [F]; rintro e H I; have J := I; obtain ⟨_,rfl⟩ := I.thrown
  exact ⟨rfl,J.err i.out⟩
 | ok t =>
  go_enter Tryz.func161,Tryz.ntmps161
  go_wp2_with fail; go_at_call 153; rw [<- f]; refine (C.out _ A.out).mono ?_; rw [hne]; rintro e w1 ⟨d,rfl⟩; simp only [zO]; have i := ze (za A.out d); have B : Hid (Box w1 w.heap.size (.mk 26 x m p l) sv) := Box.kept E.out (za (zc v none) d); obtain ⟨j,k,o,q,s⟩ := B.out; go_wp2_with fail; go_at_call 193; refine (D.out _ i.out).mono ?_; rw [F]; rintro e H ⟨u,rfl⟩; have K := ze (za i.out u); have L : Hid (Box H w.heap.size (.mk 26 x m p l) sv) := Box.kept B.out (za (zc w1 none) u); go_wp2
  go_ret
  exact Cy.ok K.out
theorem dE (h : CK ρ w S b c) (n : T) (sv : Value) (hf : Fits n) (ha : AT w n.subs sv) (hs : n.kind = 25 -> 0 < n.subs.length) {r : KR} (hk : n.kind = 28) (hne : S.meaningC c n = .ok none) (hd : ∀ w1,w.grownBy w1 none -> Calls Tryz.prog 191 #[.pointer (some ⟨b,0,none⟩),zn n sv] w1 (Cy w1 ((S.guardedC c r n).map fun t => .pointer (some ⟨ρ.ty t,0,none⟩)))) :
  Calls Tryz.prog 161 #[.pointer (some ⟨b,0,none⟩),zn n sv] w (Cy w ((S.desigC c r n).map fun t => .pointer (some ⟨ρ.ty t,0,none⟩))) := by
 have C := ze (fun w1 (G : w.grownBy w1 none) => yI (h.up G) n sv hf (ha.kept G) hs); have D := ze hd; obtain ⟨g,x,m,p,l⟩ := n
 change Calls Tryz.prog 161 #[.pointer (some ⟨b,0,none⟩),.agg #[.int .i64 g,.string ⟨x.toArray⟩,.int .i64 m,.int .i64 p,sv]] w _
 obtain ⟨v,f⟩ : ∃ z,z = w.alloc (.cells #[.int .i64 g,.string ⟨x.toArray⟩,.int .i64 m,.int .i64 p,sv] 100) := ⟨_,rfl⟩
 have A : Hid (w.grownBy v none) := by rw [f]; exact zf (zc w none) _
 have E : Hid (Box v w.heap.size (.mk g x m p l) sv) := by rw [f]; exact Box.new w (.mk g x m p l) sv _
 obtain rfl : g = 28 := hk; clear h ha hf hs hd; rw [show S.desigC c r (.mk 28 x m p l) = S.guardedC c r (.mk 28 x m p l) by simp [KS.desigC,hne,Except.bind,T.kind]]; cases F : S.guardedC c r (.mk 28 x m p l) with
 | error z =>
  go_enter Tryz.func161,Tryz.ntmps161
  go_wp2_with fail; go_at_call 153; rw [<- f]; refine (C.out _ A.out).mono ?_; rw [hne]; rintro e w1 ⟨d,rfl⟩; simp only [zO]; have i := ze (za A.out d); have B : Hid (Box w1 w.heap.size (.mk 28 x m p l) sv) := Box.kept E.out (za (zc v none) d); obtain ⟨j,k,o,q,s⟩ := B.out; go_wp2_with fail; go_at_call 191; refine (D.out _ i.out).mono ?_; rw [F]; rintro e H I; have J := I; obtain ⟨_,rfl⟩ := I.thrown
  exact ⟨rfl,J.err i.out⟩
 | ok t =>
  go_enter Tryz.func161,Tryz.ntmps161
  go_wp2_with fail; go_at_call 153; rw [<- f]; refine (C.out _ A.out).mono ?_; rw [hne]; rintro e w1 ⟨d,rfl⟩; simp only [zO]; have i := ze (za A.out d); have B : Hid (Box w1 w.heap.size (.mk 28 x m p l) sv) := Box.kept E.out (za (zc v none) d); obtain ⟨j,k,o,q,s⟩ := B.out; go_wp2_with fail; go_at_call 191; refine (D.out _ i.out).mono ?_; rw [F]; rintro e H ⟨u,rfl⟩; have K := ze (za i.out u); have L : Hid (Box H w.heap.size (.mk 28 x m p l) sv) := Box.kept B.out (za (zc w1 none) u); go_wp2
  go_ret
  exact Cy.ok K.out
theorem dW (h : CK ρ w S b c) (n : T) (sv : Value) (hf : Fits n) (ha : AT w n.subs sv) (hs : n.kind = 25 -> 0 < n.subs.length) (hT : KAll S) {r : KR} {u : T} {us : List T} (hk : n.kind = 27) (hl : n.subs = u :: us) (hu : CEx ρ S b c r u) (hne : S.meaningC c n = .ok none) :
  Calls Tryz.prog 161 #[.pointer (some ⟨b,0,none⟩),zn n sv] w (Cy w ((S.desigC c r n).map fun t => .pointer (some ⟨ρ.ty t,0,none⟩))) := by
 have I := ze (fun w1 (G : w.grownBy w1 none) => yI (h.up G) n sv hf (ha.kept G) hs); have J := ze (fun w1 (G : w.grownBy w1 none) => ka (h.up G) n sv hf (ha.kept G) hl hu); have V := ze h.km; have F := ze hT
 have H : ∀ t,S.pointerC r n = .ok t -> t < S.tys.length /\ (S.ty t).form = 5 := fun t e => ⟨hu.lt t (by have g := (xv e).1; unfold sub at g; rw [hl] at g; exact g),(xv e).2⟩
 obtain ⟨j,x,m,p,l⟩ := n
 change Calls Tryz.prog 161 #[.pointer (some ⟨b,0,none⟩),.agg #[.int .i64 j,.string ⟨x.toArray⟩,.int .i64 m,.int .i64 p,sv]] w _
 obtain ⟨C,f⟩ : ∃ z,z = w.alloc (.cells #[.int .i64 j,.string ⟨x.toArray⟩,.int .i64 m,.int .i64 p,sv] 100) := ⟨_,rfl⟩
 have D : Hid (w.grownBy C none) := by rw [f]; exact zf (zc w none) _
 have K : Hid (Box C w.heap.size (.mk j x m p l) sv) := by rw [f]; exact Box.new w (.mk j x m p l) sv _
 obtain rfl : j = 27 := hk; clear h ha hf hs hu hl hT; cases k : S.pointerC r (.mk 27 x m p l) with
 | error z =>
  rw [show S.desigC c r (.mk 27 x m p l) = .error z by simp [KS.desigC,hne,k,Except.bind,T.kind]]
  go_enter Tryz.func161,Tryz.ntmps161
  go_wp2_with fail; go_at_call 153; rw [<- f]; refine (I.out _ D.out).mono ?_; rw [hne]; rintro e w1 ⟨d,rfl⟩; simp only [zO]; have i := ze (za D.out d); have E : Hid (Box w1 w.heap.size (.mk 27 x m p l) sv) := Box.kept K.out (za (zc C none) d); obtain ⟨o,q,s,v,A⟩ := E.out; go_wp2_with fail; go_at_call 194; refine (J.out _ i.out).mono ?_; rw [k]; rintro e L M; have F := M; obtain ⟨_,rfl⟩ := M.thrown
  exact ⟨rfl,F.err i.out⟩
 | ok t =>
  obtain ⟨N,X⟩ := H t k; obtain ⟨Y,_,_⟩ := F.out.p N X
  have O : Hid (w.cell? ⟨ρ.ty t,5,none⟩ = some (.pointer (some ⟨ρ.ty (S.of t),0,none⟩))) := by have g := V.out.y5 N; rw [Y] at g; exact g
  rw [show S.desigC c r (.mk 27 x m p l) = .ok (S.of t) by simp [KS.desigC,hne,k,Except.bind,T.kind]]
  go_enter Tryz.func161,Tryz.ntmps161
  go_wp2_with fail; go_at_call 153; rw [<- f]; refine (I.out _ D.out).mono ?_; rw [hne]; rintro e w1 ⟨d,rfl⟩; simp only [zO]; have i := ze (za D.out d); have E : Hid (Box w1 w.heap.size (.mk 27 x m p l) sv) := Box.kept K.out (za (zc C none) d); have Q := zi i.out O.out; obtain ⟨o,q,s,v,A⟩ := E.out; go_wp2_with fail; go_at_call 194; refine (J.out _ i.out).mono ?_; rw [k]; rintro e L ⟨B,rfl⟩; have R := ze (za i.out B); have Z : Hid (Box L w.heap.size (.mk 27 x m p l) sv) := Box.kept E.out (za (zc w1 none) B); have U := zi R.out O.out; go_wp2
  go_ret
  exact Cy.ok R.out
end
end Go.Proofs.YtnmkffjklpfflaaGreatDoor
