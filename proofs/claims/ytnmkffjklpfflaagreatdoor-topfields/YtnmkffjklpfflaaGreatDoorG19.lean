/- Every list of acts is told. -/
import Derived.Test.YtnmkffjklpfflaaGreatDoorG18
import Derived.Test.YtnmkffjklpfflaaGreatDoorG09
import Derived.Maps.AppendAt
import Derived.OwnWalk
namespace Go.Proofs.YtnmkffjklpfflaaGreatDoor
open Go.RowKit
section
variable {ρ : Lay} {w w' w1 : World} {S : KS} {b : Nat} {c : KSc}
theorem mX {us : List T} (h : Turns us) : ∀ y ∈ us,Well .expression y \/ Well (.list .act) y := by
 induction h with
 | nil => intro y d; cases d
 | one v hv => intro y d; simp at d; subst d; exact .inr hv
 | more u v us hu hv hs ih =>
  intro y d
  simp at d
  rcases d with rfl | rfl | d
  ·exact .inl hu
  ·exact .inr hv
  ·exact ih y d
theorem bx {y : T} (h : Well .expression y) : 24 <= y.kind := by
 cases aq h <;> simp only [T.kind] <;> omega
theorem bA {y : T} (h : Well (.list .act) y) : y.kind = 1 := by
 obtain ⟨_,_,rfl,_⟩ := nU h
 rfl
structure CAll (ρ : Lay) (S : KS) (b : Nat) (c : KSc) (F : Nat) : Prop where
 ty : KAll S
 full : KFull S
 prs : KPrs S
 three : 3 <= S.tys.length
 ex : ∀ n,yf n <= F -> Well .expression n -> CEx ρ S b c (S.level c F) n
 de : ∀ n,yf n <= F -> Well .designator n -> CDe ρ S b c (S.level c F) n
theorem CAll.of (h : CK ρ w S b c) (hT : KAll S) (hF : KFull S) (hP : KPrs S) (F : Nat) : CAll ρ S b c F :=
 ⟨hT,hF,hP,h.ok.three,fun n hn hw => (fy h hT hF hP F n hn).1 hw,fun n hn hw => (fy h hT hF hP F n hn).2 hw⟩
theorem CAll.ar {F : Nat} (H : CAll ρ S b c F) {n : T} (hn : yf n <= F) (hw : Well .expression n) : CAr ρ S b c (S.level c F) n := ⟨H.ex n hn hw,fun hd => H.de n hn (kw hw hd),gw hw⟩
theorem cr {F : Nat} (H : CAll ρ S b c F) {res : Option Nat} (hres : ∀ q,res = some q -> q < S.tys.length) {acts : List T -> CR Unit} {n : T} (hn : Well .act n) (hd : yf n <= F)
  (hl : ∀ y ∈ n.subs,Well (.list .act) y -> ∀ (w : World) (sv : Value),CK ρ w S b c -> w.cell? ⟨b,3,none⟩ = some (ρ.tyP res) -> AT w y.subs sv -> Calls Tryz.prog 59 #[pq b,sv] w (Cy w ((acts y.subs).map fun _ => .tuple #[])))
  (w : World) (sv : Value) (h : CK ρ w S b c) (hc : w.cell? ⟨b,3,none⟩ = some (ρ.tyP res)) (hf : Fits n) (ha : AT w n.subs sv) :
  Calls Tryz.prog 77 #[pq b,zo n sv] w (Cy w ((S.actC c (S.level c F) res acts n).map fun _ => .tuple #[])) := by
 have d : ∀ u ∈ n.subs,yf u <= F := fun u hu => by have := xP hu; omega
 have e : (∀ y ∈ n.subs,Well .expression y \/ Well (.list .act) y) -> ∀ w1,w.grownBy w1 none -> Calls Tryz.prog 112 #[pq b,sv] w1 (Cy w1 ((yQ (fun y => if y.kind = 1 then acts y.subs else xe (S.level c F) y 1) n.subs).map fun _ => .tuple #[])) := by
  intro hy w1 G; refine qr (h.up G) (ha.kept G) (fun y hy' => ⟨fun hk w2 sv2 G2 ha2 => ?_,fun hk w2 sv2 G2 hf2 ha2 => ?_⟩)
  ·rw [if_pos hk]
   rcases hy y hy' with f | f
   ·have := bx f; omega
   ·exact hl y hy' f w2 sv2 ((h.up G).up G2) (ze (za G G2) hc) ha2
  ·rw [if_neg hk]
   rcases hy y hy' with f | f
   ·exact uB ((h.up G).up G2) y sv2 hf2 ha2 (by have := H.three; omega) (H.ex y (d y hy') f)
   ·exact absurd (bA f) hk
 cases za4 hn with
 | assign p u v hu hv =>
  exact rm h _ sv hf ha rfl (fun w1 G => hO (h.up G) _ sv hf (ha.kept G) H.ty rfl (H.ar (d u (by simp [T.subs])) (uh hu)) (H.ex v (d v (by simp [T.subs])) hv))
 | call p u us hu hs =>
  exact bq h _ sv hf ha rfl (fun w1 G => tf (h.up G) _ sv hf (ha.kept G) H.ty H.full H.prs rfl (H.de u (d u (by simp [T.subs])) hu) (gw (uh hu)) (fun v hv => H.ar (d v (by simp [T.subs,hv])) (hs v hv)))
 | choice m p u v us hm hu hv hs =>
  refine cn h _ sv hf ha rfl (e ?_); intro y hy
  simp [T.subs] at hy
  rcases hy with rfl | rfl | hy
  ·exact .inl hu
  ·exact .inr hv
  ·exact mX hs y hy
 | loop p u v hu hv =>
  refine lF h _ sv hf ha rfl (e ?_); intro y hy
  simp [T.subs] at hy
  rcases hy with rfl | rfl
  ·exact .inl hu
  ·exact .inr hv
 | rept p u v hu hv =>
  refine lC h _ sv hf ha rfl (e ?_); intro y hy
  simp [T.subs] at hy
  rcases hy with rfl | rfl
  ·exact .inr hu
  ·exact .inl hv
 | ret0 p => exact pC h _ sv hf ha rfl (fun w1 G => jw (h.up G) _ sv hf (ha.kept G) H.ty (ze G hc) hres (by simp [T.subs]) (fun u hu => by simp [T.subs] at hu))
 | ret1 p u hu => exact pC h _ sv hf ha rfl (fun w1 G => jw (h.up G) _ sv hf (ha.kept G) H.ty (ze G hc) hres (by simp [T.subs]) (fun v hv => by simp [T.subs] at hv; subst hv; exact H.ex v (d v (by simp [T.subs])) hu))
 | word k p u hk hu =>
  have g := H.ar (d u (by simp [T.subs])) hu
  rcases hk with rfl | rfl | rfl | rfl
  ·exact lJ h _ sv hf ha rfl rfl g
  ·exact i9 h _ sv hf ha rfl rfl g.ex
  ·exact cw h _ sv hf ha rfl rfl g
  ·exact pV h _ sv hf ha rfl rfl g.ex
theorem gN {F : Nat} (H : CAll ρ S b c F) {res : Option Nat} (hres : ∀ q,res = some q -> q < S.tys.length) : ∀ (f : Nat) (l : List T),(∀ n ∈ l,Well .act n /\ yf n <= f /\ yf n <= F) -> ∀ (w : World) (sv : Value),CK ρ w S b c -> w.cell? ⟨b,3,none⟩ = some (ρ.tyP res) -> AT w l sv ->
  Calls Tryz.prog 59 #[pq b,sv] w (Cy w ((S.actsF c (S.level c F) res f l).map fun _ => .tuple #[]))
 | 0,l,hl,w,sv,h,hc,ha => by
  cases l with
  | nil => exact dM (f := fun _ => .ok ()) h ha (fun n hn => by cases hn)
  | cons n r =>
   have h9 : 0 < yf n := by cases n; rw [yf]; omega
   have := (hl n (by simp)).2.1
   omega
 | f + 1,l,hl,w,sv,h,hc,ha => by
  refine dM (f := S.actC c (S.level c F) res (S.actsF c (S.level c F) res f)) h ha (fun n hn w1 sv1 G hf ha1 => ?_); obtain ⟨h1,_,h3⟩ := hl n hn; refine cr H hres h1 h3 (fun y hy hw w2 sv2 h' hc' ha' => ?_) w1 sv1 (h.up G) (ze G hc) hf ha1; obtain ⟨p,us,rfl,hus⟩ := nU hw; refine gN H hres f us (fun u hu => ?_) w2 sv2 h' hc' ha'; have d1 := xP hy; have d2 := xP (t := .mk 1 [] 0 p us) (u := u) hu
  exact ⟨hus u hu,by omega,by omega⟩
end
set_option maxHeartbeats 4000000
set_option maxRecDepth 100000
section
variable {ρ : Lay} {w w' w1 : World} {S : KS} {b : Nat} {c : KSc}
inductive CV : T -> Int -> Prop
 | num (m p : Int) (h0 : 0 <= m) (h1 : m <= 1000) : CV (.mk 29 [] m p []) m
 | add (p : Int) (u v : T) (a e : Int) (hu : CV u a) (hv : CV v e) (h : a + e <= 1000) : CV (.mk 36 [43] 0 p [u,v]) (a + e)
 | mul (p : Int) (u v : T) (a e : Int) (hu : CV u a) (hv : CV v e) (h : a * e <= 1000) : CV (.mk 36 [42] 0 p [u,v]) (a * e)
theorem CV.rng {n : T} {a : Int} (h : CV n a) : 0 <= a /\ a <= 1000 := by
 induction h with
 | num m p h0 h1 => exact ⟨h0,h1⟩
 | add p u v a e hu hv h ih1 ih2 => omega
 | mul p u v a e hu hv h ih1 ih2 => exact ⟨Int.mul_nonneg ih1.1 ih2.1,h⟩
theorem sF (w : World) (a e : Int) (h0 : 0 <= a + e) (h : a + e <= 1000) : Calls Tryz.prog 152 #[.string ⟨#[43]⟩,.int .i32 a,.int .i32 e] w fun r w' => r = .returned (.int .i32 (a + e)) /\ w' = w := by
 go_enter Tryz.func152,Tryz.ntmps152
 go_wp2
 go_ret
 exact ⟨rfl,rfl⟩
theorem sZ (w : World) (a e : Int) (h0 : 0 <= a * e) (h : a * e <= 1000) : Calls Tryz.prog 152 #[.string ⟨#[42]⟩,.int .i32 a,.int .i32 e] w fun r w' => r = .returned (.int .i32 (a * e)) /\ w' = w := by
 go_enter Tryz.func152,Tryz.ntmps152
 go_wp2
 go_ret
 exact ⟨rfl,rfl⟩
theorem kq (h : CK ρ w S b c) (n : T) (sv : Value) (hf : Fits n) (ha : AT w n.subs sv) {u v : T} {a e : Int} (hx : n.name = [43]) (hl : n.subs = [u,v]) (hu : ∀ (w : World) (sv : Value),CK ρ w S b c -> Fits u -> AT w u.subs sv -> Calls Tryz.prog 71 #[pq b,zo u sv] w (Sy w (.tuple #[pq (ρ.ty 0),.int .i32 a]))) (hv : ∀ (w : World) (sv : Value),CK ρ w S b c -> Fits v -> AT w v.subs sv -> Calls Tryz.prog 71 #[pq b,zo v sv] w (Sy w (.tuple #[pq (ρ.ty 0),.int .i32 e]))) (h0 : 0 <= a + e) (h1 : a + e <= 1000) :
  Calls Tryz.prog 102 #[pq b,zo n sv] w (Sy w (.tuple #[pq (ρ.ty 0),.int .i32 (a + e)])) := by
 have HU := zc hu; have HV := zc hv; have C := zc h; have h3 := h.ok.three; obtain ⟨k,x,m,p,l⟩ := n; obtain rfl : l = [u,v] := hl; obtain rfl : x = [43] := hx; obtain ⟨g,o,d,_,_,rfl,_,_,A,fu,N,B,fv,O⟩ := ha.pair; obtain ⟨R,U,rfl,-,-⟩ := N.form; obtain ⟨V,X,rfl,-,-⟩ := O.form; have HA := zc N; have HF := zc fu; have D := zc O; have Y := zc fv
 replace A := zc A
 replace B := zc B
 clear fu N fv O
 change Calls Tryz.prog 102 #[pq b,.agg #[.int .i64 k,.string ⟨List.toArray [43]⟩,.int .i64 m,.int .i64 p,.slice (some ⟨g,o,none⟩) 2 d]] w _
 obtain ⟨E,f⟩ : ∃ z,z = w.alloc (.cells #[.int .i64 k,.string ⟨List.toArray [43]⟩,.int .i64 m,.int .i64 p,.slice (some ⟨g,o,none⟩) 2 d] 100) := ⟨_,rfl⟩
 have G0 : Hid (w.grownBy E none) := by rw [f]; exact zh grn _
 have B0 : Hid (Box E w.heap.size (.mk k [43] m p [u,v]) (.slice (some ⟨g,o,none⟩) 2 d)) := by rw [f]; exact Box.new w (.mk k [43] m p [u,v]) (.slice (some ⟨g,o,none⟩) 2 d) _
 clear h ha hf hu hv
 have F : 0 < S.tys.length := by omega
 have G : yD [43] < S.tys.length := by show 0 < _; omega
 go_enter Tryz.func102,Tryz.ntmps102
 go_wp2_with fail; rw [<- f]
 have q : E.heap.size = w.heap.size + 1 := by rw [f]; simp
 clear f
 have HS : Hid (∀ w',E.grownBy w' none -> w'.cell? ⟨w.heap.size,4,none⟩ = some (.slice (some ⟨g,o,none⟩) 2 d) /\ w'.cell? ⟨g,o,none⟩ = some (.int .i64 u.kind) /\ w'.cell? ⟨g,o + 1,none⟩ = some (.string ⟨u.name.toArray⟩) /\ w'.cell? ⟨g,o + 2,none⟩ = some (.int .i64 u.num) /\ w'.cell? ⟨g,o + 3,none⟩ = some (.int .i64 u.at') /\ w'.cell? ⟨g,o + 4,none⟩ = some ((.slice R u.subs.length U)) /\ w'.cell? ⟨g,o + 5,none⟩ = some (.int .i64 v.kind) /\ w'.cell? ⟨g,o + 6,none⟩ = some (.string ⟨v.name.toArray⟩) /\ w'.cell? ⟨g,o + 7,none⟩ = some (.int .i64 v.num) /\ w'.cell? ⟨g,o + 8,none⟩ = some (.int .i64 v.at') /\ w'.cell? ⟨g,o + 9,none⟩ = some ((.slice V v.subs.length X))) := fun w' hg => by
  have j := za G0.out hg
  exact ⟨ze hg B0.out.c4,ze j A.out.c0,ze j A.out.c1,ze j A.out.c2,ze j A.out.c3,ze j A.out.c4,ze j B.out.c0,ze j B.out.c1,ze j B.out.c2,ze j B.out.c3,ze j B.out.c4⟩
 go_cut [6,7] from 22 (fun s1 s2 wx => ∃ (P Q : Nat),s1 = pq P /\ s2 = pq Q /\ Box wx P u (.slice R u.subs.length U) /\ Box wx Q v (.slice V v.subs.length X) /\ E.grownBy wx none)
 case first =>
  go_region_held (fun w' => w'.cell? ⟨w.heap.size,4,none⟩ = some (.slice (some ⟨g,o,none⟩) 2 d) /\ w'.cell? ⟨g,o,none⟩ = some (.int .i64 u.kind) /\ w'.cell? ⟨g,o + 1,none⟩ = some (.string ⟨u.name.toArray⟩) /\ w'.cell? ⟨g,o + 2,none⟩ = some (.int .i64 u.num) /\ w'.cell? ⟨g,o + 3,none⟩ = some (.int .i64 u.at') /\ w'.cell? ⟨g,o + 4,none⟩ = some ((.slice R u.subs.length U)) /\ w'.cell? ⟨g,o + 5,none⟩ = some (.int .i64 v.kind) /\ w'.cell? ⟨g,o + 6,none⟩ = some (.string ⟨v.name.toArray⟩) /\ w'.cell? ⟨g,o + 7,none⟩ = some (.int .i64 v.num) /\ w'.cell? ⟨g,o + 8,none⟩ = some (.int .i64 v.at') /\ w'.cell? ⟨g,o + 9,none⟩ = some ((.slice V v.subs.length X))) (exact HS.out _ (by first | with_reducible exact zf grn | with_reducible exact zf gan | with_reducible exact zf (zh gan _))) (fail)
  all_goals
   go_wp2_with fail; go_meet
  case rel => exact ⟨_,_,rfl,rfl,((Box.at q.symm _ _ _).alloc _).drew,(Box.at (by simp [q]) _ _ _).drew,(zf (zh gan _))⟩
  case rel => exact ⟨_,_,rfl,rfl,(Box.at (by simp [q]) _ _ _).drew,((Box.at q.symm _ _ _).alloc _).drew,(zf (zh gan _))⟩
 case rest =>
  obtain ⟨P,Q,rfl,rfl,L,Z,gx⟩ := hcut; obtain ⟨w1,a0⟩ : ∃ z,z = wc := ⟨_,rfl⟩; subst a0; have G1 := zc (za G0.out gx); have B1 : Hid (Box w1 w.heap.size (.mk k [43] m p [u,v]) (.slice (some ⟨g,o,none⟩) 2 d)) := Box.kept B0.out gx
  replace L := zc L
  replace Z := zc Z
  clear gx; obtain ⟨_,_,_,_,_⟩ := L.out; go_wp2_with fail; go_at_call 71; refine (HU.out _ _ (C.out.up G1.out) HF.out (HA.out.kept G1.out)).mono ?_; rintro e w2 ⟨rfl,r⟩; have G2 := zc (za G1.out r); have B2 : Hid (Box w2 w.heap.size (.mk k [43] m p [u,v]) (.slice (some ⟨g,o,none⟩) 2 d)) := Box.kept B1.out (za grn r); have a1 := zc (Box.kept L.out (za grn r)); have H := zc (Box.kept Z.out (za grn r)); obtain ⟨_,_,_,_,_⟩ := H.out; go_wp2_with fail; go_at_call 71; refine (HV.out _ _ (C.out.up G2.out) Y.out (D.out.kept G2.out)).mono ?_; rintro e w3 ⟨rfl,s⟩; have M := zc (za G2.out s); have B3 : Hid (Box w3 w.heap.size (.mk k [43] m p [u,v]) (.slice (some ⟨g,o,none⟩) 2 d)) := Box.kept B2.out (za grn s); obtain ⟨_,_,_,_,_⟩ := B3.out.plain; have I := zc (Box.kept a1.out (za grn s)); have a2 := zc (Box.kept H.out (za grn s)); go_wp2_with fail; go_at_call 150; refine (xY (C.out.up M.out) [43]).mono ?_; rintro e w4 ⟨rfl,J⟩; rw [J]; clear J; obtain ⟨_,_,_,_,_⟩ := I.out; go_wp2_with fail; go_at_call 115; refine (zP (C.out.up M.out).km u _ (HA.out.kept M.out) F G).mono ?_; rw [show yX u 0 (yD [43]) = .ok () from rfl]; rintro e w4 ⟨t,rfl⟩; have G4 := zc (za M.out t); have B4 : Hid (Box w4 w.heap.size (.mk k [43] m p [u,v]) (.slice (some ⟨g,o,none⟩) 2 d)) := Box.kept B3.out (za grn t); have a4 := zc (Box.kept I.out (za grn t)); have a3 := zc (Box.kept a2.out (za grn t)); obtain ⟨_,_,_,_,_⟩ := a3.out; go_wp2_with fail; go_at_call 115; refine (zP (C.out.up G4.out).km v _ (D.out.kept G4.out) F G).mono ?_; rw [show yX v 0 (yD [43]) = .ok () from rfl]; rintro e w5 ⟨K,rfl⟩; have G5 := zc (za G4.out K); have B5 : Hid (Box w5 w.heap.size (.mk k [43] m p [u,v]) (.slice (some ⟨g,o,none⟩) 2 d)) := Box.kept B4.out (za grn K); obtain ⟨_,_,_,_,_⟩ := B5.out.plain; go_wp2_with fail; refine wp_region_held_drew (S := fun w9 => w5.grownBy w9 none) (by kernel_rfl) ?_ (fun hHeld => ?_)
  ·exact zf grn
  refine kQ 0 71 (pq b) hHeld ?_; refine kQ 1 72 (.pointer (some ⟨w.heap.size,1,none⟩)) hHeld ?_; refine dk 2 (some 73) (.string ⟨List.toArray [43]⟩) rfl rfl (fun w9 hS => by obtain ⟨q0,q1,q2,q3,q4⟩ := (Box.kept B5.out hS).plain; go_simp) hHeld ?_; refine kQ 4 75 (.pointer (some ⟨w.heap.size,1,none⟩)) hHeld ?_; refine dk 5 (some 76) (.string ⟨List.toArray [43]⟩) rfl rfl (fun w9 hS => by obtain ⟨q0,q1,q2,q3,q4⟩ := (Box.kept B5.out hS).plain; go_simp) hHeld ?_; refine kQ 6 77 (.int .i32 a) hHeld ?_; refine kQ 7 78 (.int .i32 e) hHeld ?_; simp only [qA,qB,qC,qD]; refine rd 3 rfl fun KK hKK => ?_
  go_simp
  go_at_call 151; refine (xI (C.out.up (zf G5.out)) [43]).mono ?_; rintro e w6 ⟨rfl,i⟩; rw [i]; clear i
  go_simp
  refine hKK.out _ _ (zf grn) fun hHeld => ?_
  clear hKK KK; refine rd 8 rfl fun KK hKK => ?_
  go_simp
  go_at_call 152; refine (sF _ a e h0 h1).mono ?_; rintro e w6 ⟨rfl,i⟩; rw [i]; clear i
  go_simp
  refine hKK.out _ _ (zf grn) fun hHeld => ?_
  clear hKK KK; refine kQ 9 4 (pq (ρ.ty (xd [43]))) hHeld ?_; refine kQ 10 5 (.int .i32 (a + e)) hHeld ?_; simp only [qA,qB,qC,qD]; refine wpAnyH_done (by kernel_rfl) ?_ _; clear hHeld; go_wp2
  go_ret2
  exact ⟨rfl,(zf G5.out)⟩
theorem kf (h : CK ρ w S b c) (n : T) (sv : Value) (hf : Fits n) (ha : AT w n.subs sv) {u v : T} {a e : Int} (hx : n.name = [42]) (hl : n.subs = [u,v]) (hu : ∀ (w : World) (sv : Value),CK ρ w S b c -> Fits u -> AT w u.subs sv -> Calls Tryz.prog 71 #[pq b,zo u sv] w (Sy w (.tuple #[pq (ρ.ty 0),.int .i32 a]))) (hv : ∀ (w : World) (sv : Value),CK ρ w S b c -> Fits v -> AT w v.subs sv -> Calls Tryz.prog 71 #[pq b,zo v sv] w (Sy w (.tuple #[pq (ρ.ty 0),.int .i32 e]))) (h0 : 0 <= a * e) (h1 : a * e <= 1000) :
  Calls Tryz.prog 102 #[pq b,zo n sv] w (Sy w (.tuple #[pq (ρ.ty 0),.int .i32 (a * e)])) := by
 have HU := zc hu; have HV := zc hv; have C := zc h; have h3 := h.ok.three; obtain ⟨k,x,m,p,l⟩ := n; obtain rfl : l = [u,v] := hl; obtain rfl : x = [42] := hx; obtain ⟨g,o,d,_,_,rfl,_,_,A,fu,N,B,fv,O⟩ := ha.pair; obtain ⟨R,U,rfl,-,-⟩ := N.form; obtain ⟨V,X,rfl,-,-⟩ := O.form; have HA := zc N; have HF := zc fu; have D := zc O; have Y := zc fv
 replace A := zc A
 replace B := zc B
 clear fu N fv O
 change Calls Tryz.prog 102 #[pq b,.agg #[.int .i64 k,.string ⟨List.toArray [42]⟩,.int .i64 m,.int .i64 p,.slice (some ⟨g,o,none⟩) 2 d]] w _
 obtain ⟨E,f⟩ : ∃ z,z = w.alloc (.cells #[.int .i64 k,.string ⟨List.toArray [42]⟩,.int .i64 m,.int .i64 p,.slice (some ⟨g,o,none⟩) 2 d] 100) := ⟨_,rfl⟩
 have G0 : Hid (w.grownBy E none) := by rw [f]; exact zh grn _
 have B0 : Hid (Box E w.heap.size (.mk k [42] m p [u,v]) (.slice (some ⟨g,o,none⟩) 2 d)) := by rw [f]; exact Box.new w (.mk k [42] m p [u,v]) (.slice (some ⟨g,o,none⟩) 2 d) _
 clear h ha hf hu hv
 have F : 0 < S.tys.length := by omega
 have G : yD [42] < S.tys.length := by show 0 < _; omega
 go_enter Tryz.func102,Tryz.ntmps102
 go_wp2_with fail; rw [<- f]
 have q : E.heap.size = w.heap.size + 1 := by rw [f]; simp
 clear f
 have HS : Hid (∀ w',E.grownBy w' none -> w'.cell? ⟨w.heap.size,4,none⟩ = some (.slice (some ⟨g,o,none⟩) 2 d) /\ w'.cell? ⟨g,o,none⟩ = some (.int .i64 u.kind) /\ w'.cell? ⟨g,o + 1,none⟩ = some (.string ⟨u.name.toArray⟩) /\ w'.cell? ⟨g,o + 2,none⟩ = some (.int .i64 u.num) /\ w'.cell? ⟨g,o + 3,none⟩ = some (.int .i64 u.at') /\ w'.cell? ⟨g,o + 4,none⟩ = some ((.slice R u.subs.length U)) /\ w'.cell? ⟨g,o + 5,none⟩ = some (.int .i64 v.kind) /\ w'.cell? ⟨g,o + 6,none⟩ = some (.string ⟨v.name.toArray⟩) /\ w'.cell? ⟨g,o + 7,none⟩ = some (.int .i64 v.num) /\ w'.cell? ⟨g,o + 8,none⟩ = some (.int .i64 v.at') /\ w'.cell? ⟨g,o + 9,none⟩ = some ((.slice V v.subs.length X))) := fun w' hg => by
  have j := za G0.out hg
  exact ⟨ze hg B0.out.c4,ze j A.out.c0,ze j A.out.c1,ze j A.out.c2,ze j A.out.c3,ze j A.out.c4,ze j B.out.c0,ze j B.out.c1,ze j B.out.c2,ze j B.out.c3,ze j B.out.c4⟩
 go_cut [6,7] from 22 (fun s1 s2 wx => ∃ (P Q : Nat),s1 = pq P /\ s2 = pq Q /\ Box wx P u (.slice R u.subs.length U) /\ Box wx Q v (.slice V v.subs.length X) /\ E.grownBy wx none)
 case first =>
  go_region_held (fun w' => w'.cell? ⟨w.heap.size,4,none⟩ = some (.slice (some ⟨g,o,none⟩) 2 d) /\ w'.cell? ⟨g,o,none⟩ = some (.int .i64 u.kind) /\ w'.cell? ⟨g,o + 1,none⟩ = some (.string ⟨u.name.toArray⟩) /\ w'.cell? ⟨g,o + 2,none⟩ = some (.int .i64 u.num) /\ w'.cell? ⟨g,o + 3,none⟩ = some (.int .i64 u.at') /\ w'.cell? ⟨g,o + 4,none⟩ = some ((.slice R u.subs.length U)) /\ w'.cell? ⟨g,o + 5,none⟩ = some (.int .i64 v.kind) /\ w'.cell? ⟨g,o + 6,none⟩ = some (.string ⟨v.name.toArray⟩) /\ w'.cell? ⟨g,o + 7,none⟩ = some (.int .i64 v.num) /\ w'.cell? ⟨g,o + 8,none⟩ = some (.int .i64 v.at') /\ w'.cell? ⟨g,o + 9,none⟩ = some ((.slice V v.subs.length X))) (exact HS.out _ (by first | with_reducible exact zf grn | with_reducible exact zf gan | with_reducible exact zf (zh gan _))) (fail)
  all_goals
   go_wp2_with fail; go_meet
  case rel => exact ⟨_,_,rfl,rfl,((Box.at q.symm _ _ _).alloc _).drew,(Box.at (by simp [q]) _ _ _).drew,(zf (zh gan _))⟩
  case rel => exact ⟨_,_,rfl,rfl,(Box.at (by simp [q]) _ _ _).drew,((Box.at q.symm _ _ _).alloc _).drew,(zf (zh gan _))⟩
 case rest =>
  obtain ⟨P,Q,rfl,rfl,L,Z,gx⟩ := hcut; obtain ⟨w1,a0⟩ : ∃ z,z = wc := ⟨_,rfl⟩; subst a0; have G1 := zc (za G0.out gx); have B1 : Hid (Box w1 w.heap.size (.mk k [42] m p [u,v]) (.slice (some ⟨g,o,none⟩) 2 d)) := Box.kept B0.out gx
  replace L := zc L
  replace Z := zc Z
  clear gx; obtain ⟨_,_,_,_,_⟩ := L.out; go_wp2_with fail; go_at_call 71; refine (HU.out _ _ (C.out.up G1.out) HF.out (HA.out.kept G1.out)).mono ?_; rintro e w2 ⟨rfl,r⟩; have G2 := zc (za G1.out r); have B2 : Hid (Box w2 w.heap.size (.mk k [42] m p [u,v]) (.slice (some ⟨g,o,none⟩) 2 d)) := Box.kept B1.out (za grn r); have a1 := zc (Box.kept L.out (za grn r)); have H := zc (Box.kept Z.out (za grn r)); obtain ⟨_,_,_,_,_⟩ := H.out; go_wp2_with fail; go_at_call 71; refine (HV.out _ _ (C.out.up G2.out) Y.out (D.out.kept G2.out)).mono ?_; rintro e w3 ⟨rfl,s⟩; have M := zc (za G2.out s); have B3 : Hid (Box w3 w.heap.size (.mk k [42] m p [u,v]) (.slice (some ⟨g,o,none⟩) 2 d)) := Box.kept B2.out (za grn s); obtain ⟨_,_,_,_,_⟩ := B3.out.plain; have I := zc (Box.kept a1.out (za grn s)); have a2 := zc (Box.kept H.out (za grn s)); go_wp2_with fail; go_at_call 150; refine (xY (C.out.up M.out) [42]).mono ?_; rintro e w4 ⟨rfl,J⟩; rw [J]; clear J; obtain ⟨_,_,_,_,_⟩ := I.out; go_wp2_with fail; go_at_call 115; refine (zP (C.out.up M.out).km u _ (HA.out.kept M.out) F G).mono ?_; rw [show yX u 0 (yD [42]) = .ok () from rfl]; rintro e w4 ⟨t,rfl⟩; have G4 := zc (za M.out t); have B4 : Hid (Box w4 w.heap.size (.mk k [42] m p [u,v]) (.slice (some ⟨g,o,none⟩) 2 d)) := Box.kept B3.out (za grn t); have a4 := zc (Box.kept I.out (za grn t)); have a3 := zc (Box.kept a2.out (za grn t)); obtain ⟨_,_,_,_,_⟩ := a3.out; go_wp2_with fail; go_at_call 115; refine (zP (C.out.up G4.out).km v _ (D.out.kept G4.out) F G).mono ?_; rw [show yX v 0 (yD [42]) = .ok () from rfl]; rintro e w5 ⟨K,rfl⟩; have G5 := zc (za G4.out K); have B5 : Hid (Box w5 w.heap.size (.mk k [42] m p [u,v]) (.slice (some ⟨g,o,none⟩) 2 d)) := Box.kept B4.out (za grn K); obtain ⟨_,_,_,_,_⟩ := B5.out.plain; go_wp2_with fail; refine wp_region_held_drew (S := fun w9 => w5.grownBy w9 none) (by kernel_rfl) ?_ (fun hHeld => ?_)
  ·exact zf grn
  refine kQ 0 71 (pq b) hHeld ?_; refine kQ 1 72 (.pointer (some ⟨w.heap.size,1,none⟩)) hHeld ?_; refine dk 2 (some 73) (.string ⟨List.toArray [42]⟩) rfl rfl (fun w9 hS => by obtain ⟨q0,q1,q2,q3,q4⟩ := (Box.kept B5.out hS).plain; go_simp) hHeld ?_; refine kQ 4 75 (.pointer (some ⟨w.heap.size,1,none⟩)) hHeld ?_; refine dk 5 (some 76) (.string ⟨List.toArray [42]⟩) rfl rfl (fun w9 hS => by obtain ⟨q0,q1,q2,q3,q4⟩ := (Box.kept B5.out hS).plain; go_simp) hHeld ?_; refine kQ 6 77 (.int .i32 a) hHeld ?_; refine kQ 7 78 (.int .i32 e) hHeld ?_; simp only [qA,qB,qC,qD]; refine rd 3 rfl fun KK hKK => ?_
  go_simp
  go_at_call 151; refine (xI (C.out.up (zf G5.out)) [42]).mono ?_; rintro e w6 ⟨rfl,i⟩; rw [i]; clear i
  go_simp
  refine hKK.out _ _ (zf grn) fun hHeld => ?_
  clear hKK KK; refine rd 8 rfl fun KK hKK => ?_
  go_simp
  go_at_call 152; refine (sZ _ a e h0 h1).mono ?_; rintro e w6 ⟨rfl,i⟩; rw [i]; clear i
  go_simp
  refine hKK.out _ _ (zf grn) fun hHeld => ?_
  clear hKK KK; refine kQ 9 4 (pq (ρ.ty (xd [42]))) hHeld ?_; refine kQ 10 5 (.int .i32 (a * e)) hHeld ?_; simp only [qA,qB,qC,qD]; refine wpAnyH_done (by kernel_rfl) ?_ _; clear hHeld; go_wp2
  go_ret2
  exact ⟨rfl,(zf G5.out)⟩
theorem oR (h : CK ρ w S b c) (n : T) (sv : Value) (hf : Fits n) (ha : AT w n.subs sv) (hk : n.kind = 29) (h0 : 0 <= n.num) (h1 : n.num <= 1000) :
  Calls Tryz.prog 71 #[pq b,zo n sv] w (Sy w (.tuple #[pq (ρ.ty 0),.int .i32 n.num])) := by
 have s0 : Hid _ := h.s0; have f : Hid _ := h.km.wc0; obtain ⟨e,x,m,p,l⟩ := n
 change Calls Tryz.prog 71 #[pq b,.agg #[.int .i64 e,.string ⟨x.toArray⟩,.int .i64 m,.int .i64 p,sv]] w _
 obtain ⟨g,d⟩ : ∃ z,z = w.alloc (.cells #[.int .i64 e,.string ⟨x.toArray⟩,.int .i64 m,.int .i64 p,sv] 100) := ⟨_,rfl⟩
 have i : Hid (w.grownBy g none) := by rw [d]; exact zh grn _
 have k : Hid (Box g w.heap.size (.mk e x m p l) sv) := by rw [d]; exact Box.new w (.mk e x m p l) sv _
 obtain rfl : e = 29 := hk
 change 0 <= m at h0
 change m <= 1000 at h1
 have o : IntKind.i32.wrap m = m := by
  have q : IntKind.i32.bits = 32 := rfl
  simp [IntKind.wrap,q]
  try omega
 clear h ha hf
 go_enter Tryz.func71,Tryz.ntmps71
 go_wp2_with fail; rw [<- d]; clear d; refine wp_region_held_drew (S := fun w9 => g.grownBy w9 none) (by kernel_rfl) ?_ (fun hHeld => ?_)
 ·exact zf grn
 refine kQ 0 10 (pq b) hHeld ?_; refine kQ 1 11 (pq b) hHeld ?_; refine kQ 2 12 (pq b) hHeld ?_; refine kQ 3 13 (pq b) hHeld ?_; refine dk 4 (some 14) (pq ρ.wd) rfl rfl (fun w9 hS => by have j := ze (za i.out hS) s0.out; go_simp) hHeld ?_; refine kQ 5 15 (pq ρ.wd) hHeld ?_; refine kQ 6 16 (pq ρ.wd) hHeld ?_; refine dk 7 (some 17) (pq (ρ.ty 0)) rfl rfl (fun w9 hS => by have j := ze (za i.out hS) f.out; go_simp) hHeld ?_; refine kQ 8 18 (.pointer (some ⟨w.heap.size,2,none⟩)) hHeld ?_; refine dk 9 (some 19) (.int .i64 m) rfl rfl (fun w9 hS => by obtain ⟨_,j,_,_,_⟩ := (Box.kept k.out hS).plain; go_simp) hHeld ?_; refine kQ 10 20 (.int .i32 m) hHeld ?_; refine kQ 11 4 (pq (ρ.ty 0)) hHeld ?_; refine kQ 12 5 (.int .i32 m) hHeld ?_; simp only [qA,qB,qC,qD]; refine wpAnyH_done (by kernel_rfl) ?_ _; clear hHeld; go_wp2
 go_ret2
 exact ⟨rfl,(zf i.out)⟩
theorem tu (_h : CK ρ w S b c) (n : T) (sv : Value) (hf : Fits n) (ha : AT w n.subs sv) {z : Int} (hk : n.kind = 36) (hd : ∀ w1,w.grownBy w1 none -> Calls Tryz.prog 102 #[pq b,zo n sv] w1 (Sy w1 (.tuple #[pq (ρ.ty 0),.int .i32 z]))) :
  Calls Tryz.prog 71 #[pq b,zo n sv] w (Sy w (.tuple #[pq (ρ.ty 0),.int .i32 z])) := by
 have j := zc hd; obtain ⟨f,x,m,p,l⟩ := n
 change Calls Tryz.prog 71 #[pq b,.agg #[.int .i64 f,.string ⟨x.toArray⟩,.int .i64 m,.int .i64 p,sv]] w _
 obtain ⟨h,d⟩ : ∃ z,z = w.alloc (.cells #[.int .i64 f,.string ⟨x.toArray⟩,.int .i64 m,.int .i64 p,sv] 100) := ⟨_,rfl⟩
 have i : Hid (w.grownBy h none) := by rw [d]; exact zh grn _
 have k : Hid (Box h w.heap.size (.mk f x m p l) sv) := by rw [d]; exact Box.new w (.mk f x m p l) sv _
 obtain rfl : f = 36 := hk; clear _h ha hf hd
 go_enter Tryz.func71,Tryz.ntmps71
 go_wp2_with fail; go_at_call 102; rw [<- d]; refine (j.out _ i.out).mono ?_; rintro e w1 ⟨rfl,g⟩; have o := zc (za i.out g); have q : Hid (Box w1 w.heap.size (.mk 36 x m p l) sv) := Box.kept k.out (za grn g); go_wp2
 go_ret2
 exact ⟨rfl,o.out⟩
theorem oW {n : T} {a : Int} (hv : CV n a) : ∀ (w : World) (sv : Value),CK ρ w S b c -> Fits n -> AT w n.subs sv -> Calls Tryz.prog 71 #[pq b,zo n sv] w (Sy w (.tuple #[pq (ρ.ty 0),.int .i32 a])) := by
 induction hv with
 | num m p h0 h1 => exact fun w sv h hf ha => oR h _ sv hf ha rfl h0 h1
 | add p u v a e hu hv h9 ih1 ih2 => exact fun w sv h hf ha => tu h _ sv hf ha rfl (fun w1 G => kq (h.up G) _ sv hf (ha.kept G) rfl rfl ih1 ih2 (by have := hu.rng; have := hv.rng; omega) h9)
 | mul p u v a e hu hv h9 ih1 ih2 => exact fun w sv h hf ha => tu h _ sv hf ha rfl (fun w1 G => kf (h.up G) _ sv hf (ha.kept G) rfl rfl ih1 ih2 (Int.mul_nonneg hu.rng.1 hv.rng.1) h9)
end
structure Sm (w w' : World) (P : Nat -> Prop) : Prop where
 os : w'.os = w.os
 tape : w'.tape = w.tape
 output : w'.output = w.output
 size : w.heap.size <= w'.heap.size
 block : ∀ b,b < w.heap.size -> P b -> w'.heap[b]? = w.heap[b]?
section
variable {ρ ρ' ρ1 : Lay} {w w' w1 : World} {S S' : KS} {P Q : Nat -> Prop} {i b : Nat}
theorem Sm.grown {row : Option Nat} (h : w.grownBy w' row) : Sm w w' (fun b => some b ≠ row) := ⟨h.os,h.tape,h.output,h.size,h.block⟩
theorem Sm.mono (h : Sm w w' P) (hq : ∀ b,b < w.heap.size -> Q b -> P b) : Sm w w' Q := ⟨h.os,h.tape,h.output,h.size,fun b hb hB => h.block b hb (hq b hb hB)⟩
theorem Sm.refl (w : World) (P : Nat -> Prop) : Sm w w P := ⟨rfl,rfl,rfl,Nat.le_refl _,fun _ _ _ => rfl⟩
theorem Sm.trans (h : Sm w w1 P) (k : Sm w1 w' P) : Sm w w' P := ⟨k.os.trans h.os,k.tape.trans h.tape,k.output.trans h.output,Nat.le_trans h.size k.size,fun b hb hB => (k.block b (Nat.lt_of_lt_of_le hb h.size) hB).trans (h.block b hb hB)⟩
theorem Sm.cell (h : Sm w w' P) {a : Addr} {v : Value} (hc : w.cell? a = some v) (hp : P a.block) : w'.cell? a = some v := (World.cell?_of_block (h.block a.block (zw hc) hp)).trans hc
theorem Sm.gb (h : Sm w w' (fun _ => True)) : w.grownBy w' none := ⟨h.os,h.tape,h.output,h.size,fun b hb _ => h.block b hb trivial⟩
theorem Bk.sm {vs : List Value} (h : Bk w b vs) (hs : Sm w w' P) (hp : P b) : Bk w' b vs :=
 ⟨fun j v hj => hs.cell (h.c j v hj) hp,fun o => (World.frozen?_of_block (hs.block b h.lt hp)).trans (h.z o),Nat.lt_of_lt_of_le h.lt hs.size,by obtain ⟨cs,t,e⟩ := h.ob; exact ⟨cs,t,(hs.block b h.lt hp).trans e⟩⟩
theorem MapAt.sm {l : List (Nm × Nat)} (h : MapAt w b l) (hs : Sm w w' P) (hp : P b) : MapAt w' b l := by
 have d := h.lt; obtain ⟨e,c,f,F,g,j⟩ := h
 exact ⟨e,c,(hs.block b d hp).trans f,F,g,j⟩
theorem zR {e : TypeId} {k n : Nat} {v : Value} {cs : List Value} (h : w.ownsRow 0 e k v n cs) (hs : Sm w w' P) (hp : ∀ g,v.ownBlock = some g -> P g) : w'.ownsRow 0 e k v n cs := by
 obtain ⟨l,c⟩ := h; refine ⟨l,?_⟩
 rcases c with c | ⟨g,d,f,rfl,m,j,o⟩
 ·exact .inl c
 ·exact .inr ⟨g,d,f,rfl,m,(hs.block g (Array.getElem?_eq_some_iff.1 j).1 (hp g rfl)).trans j,o⟩
theorem AF.sm {ts : List T} {v : Value} {R : Nat -> Prop} (h : AF R w ts v) (hs : Sm w w' P) (hp : ∀ g,R g -> P g) : AF R w' ts v := by
 induction h with
 | nil a c hc => exact .nil a c hc
 | mk ts g o c svs hl h1 h2 hg cells sub ih =>
  refine .mk ts g o c svs hl h1 h2 hg (fun i t sv e1 e2 => ?_) ih; obtain ⟨d,e⟩ := cells i t sv e1 e2
  exact ⟨⟨hs.cell d.c0 (hp g hg),hs.cell d.c1 (hp g hg),hs.cell d.c2 (hp g hg),hs.cell d.c3 (hp g hg),hs.cell d.c4 (hp g hg)⟩,e⟩
theorem AF.weak {ts : List T} {v : Value} {R R' : Nat -> Prop} (h : AF R w ts v) (hr : ∀ g,R g -> R' g) : AF R' w ts v := by
 induction h with
 | nil a c hc => exact .nil a c hc
 | mk ts g o c svs hl h1 h2 hg cells sub ih => exact .mk ts g o c svs hl h1 h2 (hr g hg) cells ih
theorem TyAt.sm {t : KTy} (h : TyAt ρ w i t) (hs : Sm w w' P) (h1 : ∀ g,ρ.col g = some (.ty i) -> P g) (h2 : ∀ g,ρ.col g = some (.fl i) -> P g) : TyAt ρ w' i t := by
 obtain ⟨d,e,f,c⟩ := h.bk
 exact ⟨⟨d,e.sm hs (h1 _ h.col),zR f hs (fun g hg => h2 g (c g hg)),c⟩,h.col⟩
theorem ThAt.sm {t : KTh} (h : ThAt ρ w i t) (hs : Sm w w' P) (h1 : ∀ g,ρ.col g = some (.th i) -> P g) : ThAt ρ w' i t := ⟨h.bk.sm hs (h1 _ h.col),h.col⟩
theorem PrAt.sm {p : KPr} (h : PrAt ρ w i p) (hs : Sm w w' P) (h0 : ∀ g,ρ.col g = some .tr -> P g) (h1 : ∀ g,ρ.col g = some (.pr i) -> P g) (h2 : ∀ g,ρ.col g = some (.pa i) -> P g) (h3 : ∀ g,ρ.col g = some (.inn i) -> P g) : PrAt ρ w' i p := by
 obtain ⟨d,e,f,j,k,c⟩ := h.bk
 exact ⟨⟨d,e,f.sm hs (h1 _ h.col),j.sm hs h0,zR k hs (fun g hg => h2 g (c g hg)),c⟩,h.mp.sm hs (h3 _ h.coln),h.col,h.coln⟩
theorem MdAt.sm {m : KMd} (h : MdAt ρ w i m) (hs : Sm w w' P) (h0 : ∀ g,ρ.col g = some .tr -> P g) (h1 : ∀ g,ρ.col g = some (.md i) -> P g) (h2 : ∀ g,ρ.col g = some (.im i) -> P g) (h3 : ∀ g,ρ.col g = some (.de i) -> P g) (h4 : ∀ g,ρ.col g = some (.nm i) -> P g) : MdAt ρ w' i m := by
 obtain ⟨e,f,j,k,l,⟨n,c⟩,o,d⟩ := h.bk
 exact ⟨⟨e,f,j,k.sm hs (h1 _ h.col),l.sm hs h0,⟨zR n hs (fun g hg => h2 g (c g hg)),c⟩,zR o hs (fun g hg => h3 g (d g hg)),d⟩,h.mp.sm hs (h4 _ h.coln),h.col,h.coln⟩
/-! ### Ids in range,and other layouts that agree there -/
structure KIn (S : KS) : Prop where
 tyOf : ∀ i,i < S.tys.length -> ∀ j,(S.ty i).of = some j -> j < S.tys.length
 tyHome : ∀ i,i < S.tys.length -> ∀ j,(S.ty i).home = some j -> j < S.mds.length
 tyFd : ∀ i,i < S.tys.length -> ∀ d ∈ (S.ty i).fields,d.ty < S.tys.length
 thHome : ∀ i,i < S.ths.length -> ∀ j,(S.th i).home = some j -> j < S.mds.length
 thTy : ∀ i,i < S.ths.length -> ∀ j,(S.th i).ty = some j -> j < S.tys.length
 thPr : ∀ i,i < S.ths.length -> ∀ j,(S.th i).proc = some j -> j < S.prs.length
 thMod : ∀ i,i < S.ths.length -> ∀ j,(S.th i).mod = some j -> j < S.mds.length
 prHome : ∀ i,i < S.prs.length -> (S.pr i).home < S.mds.length
 prRes : ∀ i,i < S.prs.length -> ∀ j,(S.pr i).result = some j -> j < S.tys.length
 prPars : ∀ i,i < S.prs.length -> ∀ j ∈ (S.pr i).pars,j < S.ths.length
 prInn : ∀ i,i < S.prs.length -> ∀ q ∈ (S.pr i).inner,q.2 < S.ths.length
 mdImps : ∀ i,i < S.mds.length -> ∀ j ∈ (S.md i).imps,j < S.mds.length
 mdDecl : ∀ i,i < S.mds.length -> ∀ j ∈ (S.md i).decl,j < S.ths.length
 mdNames : ∀ i,i < S.mds.length -> ∀ q ∈ (S.md i).names,q.2 < S.ths.length
 mods : ∀ q ∈ S.mods,q.2 < S.mds.length
 two : 2 <= S.ths.length
 three : 3 <= S.tys.length
structure Agr (ρ ρ' : Lay) (S : KS) : Prop where
 wd : ρ'.wd = ρ.wd
 ba : ρ'.ba = ρ.ba
 mo : ρ'.mo = ρ.mo
 ty : ∀ i,i < S.tys.length -> ρ'.ty i = ρ.ty i
 th : ∀ i,i < S.ths.length -> ρ'.th i = ρ.th i
 pr : ∀ i,i < S.prs.length -> ρ'.pr i = ρ.pr i
 inn : ∀ i,i < S.prs.length -> ρ'.inn i = ρ.inn i
 md : ∀ i,i < S.mds.length -> ρ'.md i = ρ.md i
 nm : ∀ i,i < S.mds.length -> ρ'.nm i = ρ.nm i
 col : ∀ b lb,ρ.col b = some lb -> ρ'.col b = some lb
theorem qu {o : Option Nat} {f g : Nat -> Nat} (h : ∀ i,o = some i -> f i = g i) : o.map f = o.map g := by
 cases o with
 | none => rfl
 | some i => simp [h i rfl]
theorem qm (ha : Agr ρ ρ' S) {o : Option Nat} (h : ∀ i,o = some i -> i < S.mds.length) : ρ'.mdP o = ρ.mdP o := by unfold Lay.mdP; rw [qu (fun i hi => ha.md i (h i hi))]
theorem jF (ha : Agr ρ ρ' S) {o : Option Nat} (h : ∀ i,o = some i -> i < S.tys.length) : ρ'.tyP o = ρ.tyP o := by unfold Lay.tyP; rw [qu (fun i hi => ha.ty i (h i hi))]
theorem az (ha : Agr ρ ρ' S) {o : Option Nat} (h : ∀ i,o = some i -> i < S.prs.length) : ρ'.prP o = ρ.prP o := by unfold Lay.prP; rw [qu (fun i hi => ha.pr i (h i hi))]
theorem dd (ha : Agr ρ ρ' S) {i : Nat} (h : i < S.ths.length) : ρ'.thP (some i) = ρ.thP (some i) := by unfold Lay.thP; rw [qu (fun j hj => by cases hj; exact ha.th i h)]
theorem qt (ha : Agr ρ ρ' S) {l : List (Nm × Nat)} (h : ∀ q ∈ l,q.2 < S.ths.length) : ρ'.ths l = ρ.ths l := List.map_congr_left (fun q hq => by rw [ha.th _ (h q hq)])
theorem aJ (ha : Agr ρ ρ' S) {l : List (Nm × Nat)} (h : ∀ q ∈ l,q.2 < S.mds.length) : ρ'.mds l = ρ.mds l := List.map_congr_left (fun q hq => by rw [ha.md _ (h q hq)])
theorem iE (ha : Agr ρ ρ' S) : ∀ {l : List KFd},(∀ d ∈ l,d.ty < S.tys.length) -> l.flatMap (fdV ρ') = l.flatMap (fdV ρ)
 | [],_ => rfl
 | d :: r,h => by
  rw [List.flatMap_cons,List.flatMap_cons,iE ha (fun e he => h e (by simp [he]))]
  congr 1
  unfold fdV
  rw [jF ha (fun i hi => by cases hi; exact h d (by simp))]
theorem TyAt.re (h : TyAt ρ w i (S.ty i)) (hi : KIn S) (ha : Agr ρ ρ' S) (hl : i < S.tys.length) : TyAt ρ' w i (S.ty i) := by
 obtain ⟨c,d,e,f⟩ := h.bk; refine ⟨⟨c,?_,?_,fun g hg => ha.col _ _ (f g hg)⟩,?_⟩
 ·rw [ha.ty i hl]
  unfold tyV
  rw [qm ha (hi.tyHome i hl),jF ha (hi.tyOf i hl)]
  exact d
 ·rw [iE ha (hi.tyFd i hl)]; exact e
 ·rw [ha.ty i hl]; exact ha.col _ _ h.col
theorem ThAt.re (h : ThAt ρ w i (S.th i)) (hi : KIn S) (ha : Agr ρ ρ' S) (hl : i < S.ths.length) : ThAt ρ' w i (S.th i) := by
 refine ⟨?_,?_⟩
 ·rw [ha.th i hl]
  unfold thV
  rw [qm ha (hi.thHome i hl),jF ha (hi.thTy i hl),az ha (hi.thPr i hl),qm ha (hi.thMod i hl)]
  exact h.bk
 ·rw [ha.th i hl]; exact ha.col _ _ h.col
theorem PrAt.re (h : PrAt ρ w i (S.pr i)) (hi : KIn S) (ha : Agr ρ ρ' S) (hl : i < S.prs.length) : PrAt ρ' w i (S.pr i) := by
 obtain ⟨c,d,e,f,k,l⟩ := h.bk; refine ⟨⟨c,d,?_,f.weak (fun g hg => ha.col _ _ hg),?_,fun g hg => ha.col _ _ (l g hg)⟩,?_,?_,?_⟩
 ·rw [ha.pr i hl]
  unfold prV
  rw [ha.wd,qm ha (fun j hj => by cases hj; exact hi.prHome i hl),ha.inn i hl,jF ha (hi.prRes i hl)]
  exact e
 ·rw [List.map_congr_left (fun j hj => dd ha (hi.prPars i hl j hj))]; exact k
 ·rw [ha.inn i hl,qt ha (hi.prInn i hl)]; exact h.mp
 ·rw [ha.pr i hl]; exact ha.col _ _ h.col
 ·rw [ha.inn i hl]; exact ha.col _ _ h.coln
theorem MdAt.re (h : MdAt ρ w i (S.md i)) (hi : KIn S) (ha : Agr ρ ρ' S) (hl : i < S.mds.length) : MdAt ρ' w i (S.md i) := by
 obtain ⟨c,d,e,f,k,⟨l,m⟩,n,r⟩ := h.bk; refine ⟨⟨c,d,e,?_,k.weak (fun g hg => ha.col _ _ hg),⟨?_,fun g hg => ha.col _ _ (m g hg)⟩,?_,fun g hg => ha.col _ _ (r g hg)⟩,?_,?_,?_⟩
 ·rw [ha.md i hl]
  unfold mdV
  rw [ha.wd,qm ha (fun j hj => by cases hj; exact hl),ha.nm i hl]
  exact f
 ·rw [List.map_congr_left (fun j hj => qm ha (o := some j) (fun q hq => by cases hq; exact hi.mdImps i hl j hj))]; exact l
 ·rw [List.map_congr_left (fun j hj => dd ha (hi.mdDecl i hl j hj))]; exact n
 ·rw [ha.nm i hl,qt ha (hi.mdNames i hl)]; exact h.mp
 ·rw [ha.md i hl]; exact ha.col _ _ h.col
 ·rw [ha.nm i hl]; exact ha.col _ _ h.coln
theorem zaz (hi : KIn S) (ha : Agr ρ ρ' S) : wdV ρ' = wdV ρ := by
 have c := hi.three
 unfold wdV
 rw [jF ha (fun i h => by cases h; omega),jF ha (fun i h => by cases h; omega),jF ha (fun i h => by cases h; omega),ha.ba,ha.mo]
theorem za9 (hi : KIn S) (ha : Agr ρ ρ' S) : ρ'.ths ym = ρ.ths ym := qt ha (fun q hq => by have h2 := hi.two; simp [ym] at hq; rcases hq with rfl | rfl <;> simp <;> omega)
theorem KM.turn (h : KM ρ w S) (hi : KIn S) (ha : Agr ρ ρ' S) (hs : Sm w w' P) (hf : ∀ b,w'.heap.size <= b -> ρ'.col b = none) (hw : ∀ g,ρ.col g = some .wd -> P g) (hb : ∀ g,ρ.col g = some .ba -> P g)
  (mo : MapAt w' ρ'.mo (ρ'.mds S'.mods)) (ty : ∀ i,i < S'.tys.length -> TyAt ρ' w' i (S'.ty i)) (th : ∀ i,i < S'.ths.length -> ThAt ρ' w' i (S'.th i)) (pr : ∀ i,i < S'.prs.length -> PrAt ρ' w' i (S'.pr i)) (md : ∀ i,i < S'.mds.length -> MdAt ρ' w' i (S'.md i)) : KM ρ' w' S' where
 wd := by rw [zaz hi ha,ha.wd]; exact h.wd.sm hs (hw _ h.wdc)
 wdc := by rw [ha.wd]; exact ha.col _ _ h.wdc
 ba := by rw [ha.ba,za9 hi ha]; exact h.ba.sm hs (hb _ h.bac)
 bac := by rw [ha.ba]; exact ha.col _ _ h.bac
 mo := mo
 moc := by rw [ha.mo]; exact ha.col _ _ h.moc
 ty := ty
 th := th
 pr := pr
 md := md
 fr := hf
theorem KM.mo_turn (h : KM ρ w S) (hi : KIn S) (ha : Agr ρ ρ' S) (hs : Sm w w' P) (hp : ∀ g,ρ.col g = some .mo -> P g) : MapAt w' ρ'.mo (ρ'.mds S.mods) := by
 rw [ha.mo,aJ ha hi.mods]
 exact h.mo.sm hs (hp _ h.moc)
end
def KS.addTh (S : KS) (t : KTh) : KS := { S with ths := S.ths ++ [t] }
def KS.setTh (S : KS) (i : Nat) (t : KTh) : KS := { S with ths := S.ths.set i t }
def KS.addTy (S : KS) (t : KTy) : KS := { S with tys := S.tys ++ [t] }
def KS.setTy (S : KS) (i : Nat) (t : KTy) : KS := { S with tys := S.tys.set i t }
def KS.addPr (S : KS) (t : KPr) : KS := { S with prs := S.prs ++ [t] }
def KS.setPr (S : KS) (i : Nat) (t : KPr) : KS := { S with prs := S.prs.set i t }
def KS.addMd (S : KS) (t : KMd) : KS := { S with mds := S.mds ++ [t] }
def KS.setMd (S : KS) (i : Nat) (t : KMd) : KS := { S with mds := S.mds.set i t }
theorem vb {α : Type} (l : List α) (a d : α) {i : Nat} (h : i < l.length) : ((l ++ [a])[i]?).getD d = (l[i]?).getD d := by rw [List.getElem?_append_left h]
theorem xg {α : Type} (l : List α) (a d : α) : ((l ++ [a])[l.length]?).getD d = a := by simp
theorem vP {α : Type} {l : List α} {a : α} {i : Nat} (h : i < (l ++ [a]).length) : i < l.length \/ i = l.length := by simp at h; omega
theorem zY {α : Type} (l : List α) (a d : α) {i : Nat} (h : i < l.length) : ((l.set i a)[i]?).getD d = a := by simp [h]
theorem yN {α : Type} (l : List α) (a d : α) {i j : Nat} (h : j ≠ i) : ((l.set i a)[j]?).getD d = (l[j]?).getD d := by rw [List.getElem?_set,if_neg (fun e => h e.symm)]
section
variable {ρ ρ' ρ1 : Lay} {w w' w1 : World} {S S' : KS} {P Q : Nat -> Prop} {i b : Nat}
theorem Agr.refl (ρ : Lay) (S : KS) : Agr ρ ρ S := ⟨rfl,rfl,rfl,fun _ _ => rfl,fun _ _ => rfl,fun _ _ => rfl,fun _ _ => rfl,fun _ _ => rfl,fun _ _ => rfl,fun _ _ h => h⟩
theorem KM.frs (h : KM ρ w S) (hs : Sm w w' P) : ∀ b,w'.heap.size <= b -> ρ.col b = none := fun b hb => h.fr b (Nat.le_trans hs.size hb)
/-! ### Things -/
theorem KM.setTh (h : KM ρ w S) (hi : KIn S) {t : KTh} (hl : i < S.ths.length) (hs : Sm w w' (fun g => ρ.col g ≠ some (.th i))) (hb : Bk w' (ρ.th i) (thV ρ t)) : KM ρ w' (S.setTh i t) := by
 refine h.turn hi (Agr.refl ρ S) hs (h.frs hs) (fun g hg => by rw [hg]; nofun) (fun g hg => by rw [hg]; nofun) (h.mo_turn hi (Agr.refl ρ S) hs (fun g hg => by rw [hg]; nofun)) (fun j hj => (h.ty j hj).sm hs (fun g hg => by rw [hg]; nofun) (fun g hg => by rw [hg]; nofun)) (fun j hj => ?_)
  (fun j hj => (h.pr j hj).sm hs (fun g hg => by rw [hg]; nofun) (fun g hg => by rw [hg]; nofun) (fun g hg => by rw [hg]; nofun) (fun g hg => by rw [hg]; nofun)) (fun j hj => (h.md j hj).sm hs (fun g hg => by rw [hg]; nofun) (fun g hg => by rw [hg]; nofun) (fun g hg => by rw [hg]; nofun) (fun g hg => by rw [hg]; nofun) (fun g hg => by rw [hg]; nofun))
 by_cases e : j = i
 ·subst e
  rw [show (S.setTh j t).th j = t from zY _ _ _ hl]
  exact ⟨hb,(h.th j hl).col⟩
 ·rw [show (S.setTh i t).th j = S.th j from yN _ _ _ e]
  have c : j < S.ths.length := by simpa [KS.setTh] using hj
  exact (h.th j c).sm hs (fun g hg => by rw [hg]; intro d; cases d; exact e rfl)
/-! ### Types -/
def Lay.addTy (ρ : Lay) (n tb : Nat) : Lay := { ρ with ty := fun i => if i = n then tb else ρ.ty i,col := fun b => if b = tb then some (.ty n) else ρ.col b }
theorem dH (S : KS) {tb : Nat} (hc : ρ.col tb = none) : Agr ρ (ρ.addTy S.tys.length tb) S :=
 ⟨rfl,rfl,rfl,fun i h => by simp [Lay.addTy]; intro e; omega,fun _ _ => rfl,fun _ _ => rfl,fun _ _ => rfl,fun _ _ => rfl,fun _ _ => rfl,fun b lb h => by
  simp only [Lay.addTy]; rw [if_neg (fun e => by rw [e,hc] at h; cases h)]
  exact h⟩
theorem KM.addTy (h : KM ρ w S) (hi : KIn S) {t : KTy} {tb : Nat} (hb : Bk w tb (tyV ρ t (.slice none 0 0))) (hc : ρ.col tb = none) (hfl : t.fields = []) (hof : t.of = none) : KM (ρ.addTy S.tys.length tb) w (S.addTy t) := by
 have c := dH S hc; refine h.turn (P := fun _ => True) hi c (Sm.refl w _) (fun b d => ?_) (fun _ _ => trivial) (fun _ _ => trivial) (h.mo_turn hi c (Sm.refl w (fun _ => True)) (fun _ _ => trivial)) (fun j hj => ?_) (fun j hj => (h.th j hj).re hi c hj) (fun j hj => (h.pr j hj).re hi c hj) (fun j hj => (h.md j hj).re hi c hj)
 ·have f := hb.lt
  simp only [Lay.addTy]; rw [if_neg (by omega)]
  exact h.fr b d
 ·rcases vP hj with d | rfl
  ·rw [show (S.addTy t).ty j = S.ty j from vb _ _ _ d]
   exact (h.ty j d).re hi c d
  ·rw [show (S.addTy t).ty S.tys.length = t from xg _ _ _]
   refine ⟨⟨.slice none 0 0,?_,?_,nofun⟩,by simp [Lay.addTy]⟩
   ·have e : tyV (ρ.addTy S.tys.length tb) t (.slice none 0 0) = tyV ρ t (.slice none 0 0) := by unfold tyV; rw [hof]; rfl
    rw [e]; simp only [Lay.addTy,if_true]
    exact hb
   ·rw [hfl]; exact World.ownsRow_nil _ _ _ _
theorem KM.setTy (h : KM ρ w S) (hi : KIn S) (ha : Agr ρ ρ' S) {t : KTy} (hl : i < S.tys.length) (hs : Sm w w' (fun g => ρ.col g ≠ some (.ty i) /\ ρ.col g ≠ some (.fl i))) (hf : ∀ b,w'.heap.size <= b -> ρ'.col b = none) (hb : TyAt ρ' w' i t) : KM ρ' w' (S.setTy i t) := by
 refine h.turn hi ha hs hf (fun g hg => by rw [hg]; exact ⟨nofun,nofun⟩) (fun g hg => by rw [hg]; exact ⟨nofun,nofun⟩) (h.mo_turn hi ha hs (fun g hg => by rw [hg]; exact ⟨nofun,nofun⟩)) (fun j hj => ?_) (fun j hj => ((h.th j hj).sm hs (fun g hg => by rw [hg]; exact ⟨nofun,nofun⟩)).re hi ha hj)
  (fun j hj => ((h.pr j hj).sm hs (fun g hg => by rw [hg]; exact ⟨nofun,nofun⟩) (fun g hg => by rw [hg]; exact ⟨nofun,nofun⟩) (fun g hg => by rw [hg]; exact ⟨nofun,nofun⟩) (fun g hg => by rw [hg]; exact ⟨nofun,nofun⟩)).re hi ha hj) (fun j hj => ((h.md j hj).sm hs (fun g hg => by rw [hg]; exact ⟨nofun,nofun⟩) (fun g hg => by rw [hg]; exact ⟨nofun,nofun⟩) (fun g hg => by rw [hg]; exact ⟨nofun,nofun⟩) (fun g hg => by rw [hg]; exact ⟨nofun,nofun⟩) (fun g hg => by rw [hg]; exact ⟨nofun,nofun⟩)).re hi ha hj)
 by_cases e : j = i
 ·subst e
  rw [show (S.setTy j t).ty j = t from zY _ _ _ hl]
  exact hb
 ·rw [show (S.setTy i t).ty j = S.ty j from yN _ _ _ e]
  have c : j < S.tys.length := by simpa [KS.setTy] using hj
  exact ((h.ty j c).sm hs (fun g hg => by rw [hg]; exact ⟨fun e2 => by cases e2; exact e rfl,nofun⟩) (fun g hg => by rw [hg]; exact ⟨nofun,fun e2 => by cases e2; exact e rfl⟩)).re hi ha c
/-! ### Modules,procedures -/
theorem KM.setMd (h : KM ρ w S) (hi : KIn S) (ha : Agr ρ ρ' S) {t : KMd} (hl : i < S.mds.length) (hs : Sm w w' (fun g => ρ.col g ≠ some (.md i) /\ ρ.col g ≠ some (.im i) /\ ρ.col g ≠ some (.de i) /\ ρ.col g ≠ some (.nm i))) (hf : ∀ b,w'.heap.size <= b -> ρ'.col b = none) (hb : MdAt ρ' w' i t) : KM ρ' w' (S.setMd i t) := by
 have N : ∀ lb : Lb,(∀ j,lb ≠ .md j /\ lb ≠ .im j /\ lb ≠ .de j /\ lb ≠ .nm j) -> ∀ g,ρ.col g = some lb -> ρ.col g ≠ some (.md i) /\ ρ.col g ≠ some (.im i) /\ ρ.col g ≠ some (.de i) /\ ρ.col g ≠ some (.nm i) := fun lb hlb g hg => by
  rw [hg]; obtain ⟨d,f,k,l⟩ := hlb i
  exact ⟨fun e => d (Option.some.inj e),fun e => f (Option.some.inj e),fun e => k (Option.some.inj e),fun e => l (Option.some.inj e)⟩
 refine h.turn hi ha hs hf (N _ (fun _ => ⟨nofun,nofun,nofun,nofun⟩)) (N _ (fun _ => ⟨nofun,nofun,nofun,nofun⟩)) (h.mo_turn hi ha hs (N _ (fun _ => ⟨nofun,nofun,nofun,nofun⟩))) (fun j hj => ((h.ty j hj).sm hs (N _ (fun _ => ⟨nofun,nofun,nofun,nofun⟩)) (N _ (fun _ => ⟨nofun,nofun,nofun,nofun⟩))).re hi ha hj) (fun j hj => ((h.th j hj).sm hs (N _ (fun _ => ⟨nofun,nofun,nofun,nofun⟩))).re hi ha hj)
  (fun j hj => ((h.pr j hj).sm hs (N _ (fun _ => ⟨nofun,nofun,nofun,nofun⟩)) (N _ (fun _ => ⟨nofun,nofun,nofun,nofun⟩)) (N _ (fun _ => ⟨nofun,nofun,nofun,nofun⟩)) (N _ (fun _ => ⟨nofun,nofun,nofun,nofun⟩))).re hi ha hj) (fun j hj => ?_)
 by_cases e : j = i
 ·subst e
  rw [show (S.setMd j t).md j = t from zY _ _ _ hl]
  exact hb
 ·rw [show (S.setMd i t).md j = S.md j from yN _ _ _ e]
  have c : j < S.mds.length := by simpa [KS.setMd] using hj
  exact ((h.md j c).sm hs (N _ (fun _ => ⟨nofun,nofun,nofun,nofun⟩)) (fun g hg => by rw [hg]; exact ⟨fun e2 => by cases e2; exact e rfl,nofun,nofun,nofun⟩) (fun g hg => by rw [hg]; exact ⟨nofun,fun e2 => by cases e2; exact e rfl,nofun,nofun⟩) (fun g hg => by rw [hg]; exact ⟨nofun,nofun,fun e2 => by cases e2; exact e rfl,nofun⟩) (fun g hg => by rw [hg]; exact ⟨nofun,nofun,nofun,fun e2 => by cases e2; exact e rfl⟩)).re hi ha c
theorem KM.setPr (h : KM ρ w S) (hi : KIn S) (ha : Agr ρ ρ' S) {t : KPr} (hl : i < S.prs.length) (hs : Sm w w' (fun g => ρ.col g ≠ some (.pr i) /\ ρ.col g ≠ some (.pa i) /\ ρ.col g ≠ some (.inn i))) (hf : ∀ b,w'.heap.size <= b -> ρ'.col b = none) (hb : PrAt ρ' w' i t) : KM ρ' w' (S.setPr i t) := by
 have N : ∀ lb : Lb,(∀ j,lb ≠ .pr j /\ lb ≠ .pa j /\ lb ≠ .inn j) -> ∀ g,ρ.col g = some lb -> ρ.col g ≠ some (.pr i) /\ ρ.col g ≠ some (.pa i) /\ ρ.col g ≠ some (.inn i) := fun lb hlb g hg => by
  rw [hg]; obtain ⟨d,f,k⟩ := hlb i
  exact ⟨fun e => d (Option.some.inj e),fun e => f (Option.some.inj e),fun e => k (Option.some.inj e)⟩
 refine h.turn hi ha hs hf (N _ (fun _ => ⟨nofun,nofun,nofun⟩)) (N _ (fun _ => ⟨nofun,nofun,nofun⟩)) (h.mo_turn hi ha hs (N _ (fun _ => ⟨nofun,nofun,nofun⟩))) (fun j hj => ((h.ty j hj).sm hs (N _ (fun _ => ⟨nofun,nofun,nofun⟩)) (N _ (fun _ => ⟨nofun,nofun,nofun⟩))).re hi ha hj) (fun j hj => ((h.th j hj).sm hs (N _ (fun _ => ⟨nofun,nofun,nofun⟩))).re hi ha hj)
  (fun j hj => ?_) (fun j hj => ((h.md j hj).sm hs (N _ (fun _ => ⟨nofun,nofun,nofun⟩)) (N _ (fun _ => ⟨nofun,nofun,nofun⟩)) (N _ (fun _ => ⟨nofun,nofun,nofun⟩)) (N _ (fun _ => ⟨nofun,nofun,nofun⟩)) (N _ (fun _ => ⟨nofun,nofun,nofun⟩))).re hi ha hj)
 by_cases e : j = i
 ·subst e
  rw [show (S.setPr j t).pr j = t from zY _ _ _ hl]
  exact hb
 ·rw [show (S.setPr i t).pr j = S.pr j from yN _ _ _ e]
  have c : j < S.prs.length := by simpa [KS.setPr] using hj
  exact ((h.pr j c).sm hs (N _ (fun _ => ⟨nofun,nofun,nofun⟩)) (fun g hg => by rw [hg]; exact ⟨fun e2 => by cases e2; exact e rfl,nofun,nofun⟩) (fun g hg => by rw [hg]; exact ⟨nofun,fun e2 => by cases e2; exact e rfl,nofun⟩) (fun g hg => by rw [hg]; exact ⟨nofun,nofun,fun e2 => by cases e2; exact e rfl⟩)).re hi ha c
end
set_option maxHeartbeats 1000000
section
variable {ρ : Lay} {w w' w1 : World} {S : KS} {b : Nat} {c : KSc}
theorem rD (h : CK ρ w S b c) (n : T) (sv : Value) (hf : Fits n) {mb tb : Nat} {l0 : List (Nm × Nat)} (hmp : MapAt w mb (ρ.ths l0)) (hml : l0.length < maxLen) (_hmb : mb < w.heap.size) :
  Calls Tryz.prog 99 #[pq b,.map (some mb),zo n sv,pq tb] w (fun e w' => (((lk l0 n.name ≠ none \/ lk ym n.name ≠ none) /\ Cy w (.error (6,n.at')) e w') \/ (lk l0 n.name = none /\ lk ym n.name = none /\ e = .returned (.tuple #[]) /\ MapAt w' mb ((n.name,tb) :: ρ.ths l0) /\ w.grownBy w' (some mb)))) := by
 have F := hf.name; have X := zc h.km; have N := zc hmp; have s0 : Hid _ := h.s0; have u : Hid _ := h.km.w3; obtain ⟨r,x,m,p,l⟩ := n
 change Calls Tryz.prog 99 #[pq b,.map (some mb),.agg #[.int .i64 r,.string ⟨x.toArray⟩,.int .i64 m,.int .i64 p,sv],pq tb] w _
 obtain ⟨s,d⟩ : ∃ z,z = w.alloc (.cells #[.int .i64 r,.string ⟨x.toArray⟩,.int .i64 m,.int .i64 p,sv] 100) := ⟨_,rfl⟩
 have g : Hid (w.grownBy s none) := by rw [d]; exact zh grn _
 have k : Hid (Box s w.heap.size (.mk r x m p l) sv) := by rw [d]; exact Box.new w (.mk r x m p l) sv _
 clear h hf hmp
 change x.length <= maxLen at F
 change Calls Tryz.prog 99 #[pq b,.map (some mb),.agg #[.int .i64 r,.string ⟨x.toArray⟩,.int .i64 m,.int .i64 p,sv],pq tb] w (fun e w' => (((lk l0 x ≠ none \/ lk ym x ≠ none) /\ Cy w (.error (6,p)) e w') \/ (lk l0 x = none /\ lk ym x = none /\ e = .returned (.tuple #[]) /\ MapAt w' mb ((x,tb) :: ρ.ths l0) /\ w.grownBy w' (some mb))))
 have i := zc (fun w9 (G : w.grownBy w9 none) => xM (ρ := ρ) (N.out.kept G (by simp)) x F); have j := zc (fun w9 (G : w.grownBy w9 none) => xM (ρ := ρ) (X.out.up G).ba x F); cases o : lk l0 x with
 | some t =>
  rw [o,yj] at i; refine Calls.mono ?_ (fun e w' h9 => .inl ⟨.inl nofun,h9⟩)
  go_enter Tryz.func99,Tryz.ntmps99
  go_wp2_with fail; rw [<- d]; clear d; refine wp_region_held_drew (S := fun w9 => s.grownBy w9 none) (by kernel_rfl) ?_ (fun hHeld => ?_)
  ·exact zf grn
  refine kQ 0 8 (.map (some mb)) hHeld ?_; refine kQ 1 9 (.pointer (some ⟨w.heap.size,1,none⟩)) hHeld ?_; refine dk 2 (some 10) (.string ⟨x.toArray⟩) rfl rfl (fun w9 hS => by obtain ⟨H,f,I,J,K⟩ := (Box.kept k.out hS).plain; go_simp) hHeld ?_; refine dk 3 (some 11) (pq (ρ.th t)) rfl rfl (fun w9 hS => by have f := i.out w9 (za g.out hS); go_simp) hHeld ?_; refine kQ 4 12 (.bool true) hHeld ?_; refine kQ 5 13 (.bool true) hHeld ?_; refine dn 6 (some 14) rfl rfl hHeld ?_; refine dn 7 (some 15) rfl rfl hHeld ?_; refine dn 8 (some 16) rfl rfl hHeld ?_; refine dn 9 (some 17) rfl rfl hHeld ?_; refine dn 10 (some 18) rfl rfl hHeld ?_; refine dn 11 (some 19) rfl rfl hHeld ?_; refine dn 12 (some 20) rfl rfl hHeld ?_; refine dn 13 (some 21) rfl rfl hHeld ?_; refine dn 14 (some 22) rfl rfl hHeld ?_; refine dn 15 (some 23) rfl rfl hHeld ?_; refine dn 16 (some 24) rfl rfl hHeld ?_; refine kQ 17 25 (.bool true) hHeld ?_; simp only [qA,qB,qC,qD]; refine wpAnyH_done (by kernel_rfl) ?_ _; clear hHeld; obtain ⟨v,A,B,C,D⟩ := k.out.plain; go_wp2_with fail; go_at_call 53; refine (zu _ (.mk r x m p l) sv 6).mono ?_; rintro e w1 o; have L := o; obtain ⟨q,rfl⟩ := o.thrown
  exact ⟨rfl,L.err (zf g.out)⟩
 | none =>
  rw [o,zW] at i; cases O : lk ym x with
  | some t =>
   rw [O,yj] at j; refine Calls.mono ?_ (fun e w' h9 => .inl ⟨.inr nofun,h9⟩)
   go_enter Tryz.func99,Tryz.ntmps99
   go_wp2_with fail; rw [<- d]; clear d; refine wp_region_held_drew (S := fun w9 => s.grownBy w9 none) (by kernel_rfl) ?_ (fun hHeld => ?_)
   ·exact zf grn
   refine kQ 0 8 (.map (some mb)) hHeld ?_; refine kQ 1 9 (.pointer (some ⟨w.heap.size,1,none⟩)) hHeld ?_; refine dk 2 (some 10) (.string ⟨x.toArray⟩) rfl rfl (fun w9 hS => by obtain ⟨H,f,I,J,K⟩ := (Box.kept k.out hS).plain; go_simp) hHeld ?_; refine dk 3 (some 11) (.pointer none) rfl rfl (fun w9 hS => by have f := i.out w9 (za g.out hS); go_simp) hHeld ?_; refine kQ 4 12 (.bool false) hHeld ?_; refine kQ 5 13 (.bool false) hHeld ?_; refine kQ 6 14 (pq b) hHeld ?_; refine kQ 7 15 (pq b) hHeld ?_; refine kQ 8 16 (pq b) hHeld ?_; refine dk 9 (some 17) (pq ρ.wd) rfl rfl (fun w9 hS => by have f := ze (za g.out hS) s0.out; go_simp) hHeld ?_; refine kQ 10 18 (pq ρ.wd) hHeld ?_; refine kQ 11 19 (.pointer (some ⟨ρ.wd,3,none⟩)) hHeld ?_; refine dk 12 (some 20) (.map (some ρ.ba)) rfl rfl (fun w9 hS => by have f := ze (za g.out hS) u.out; go_simp) hHeld ?_; refine kQ 13 21 (.pointer (some ⟨w.heap.size,1,none⟩)) hHeld ?_; refine dk 14 (some 22) (.string ⟨x.toArray⟩) rfl rfl (fun w9 hS => by obtain ⟨H,f,I,J,K⟩ := (Box.kept k.out hS).plain; go_simp) hHeld ?_; refine dk 15 (some 23) (pq (ρ.th t)) rfl rfl (fun w9 hS => by have f := j.out w9 (za g.out hS); go_simp) hHeld ?_
   refine kQ 16 24 (.bool true) hHeld ?_; refine kQ 17 25 (.bool true) hHeld ?_; simp only [qA,qB,qC,qD]; refine wpAnyH_done (by kernel_rfl) ?_ _; clear hHeld; obtain ⟨v,A,B,C,D⟩ := k.out.plain; go_wp2_with fail; go_at_call 53; refine (zu _ (.mk r x m p l) sv 6).mono ?_; rintro e w1 o; have L := o; obtain ⟨q,rfl⟩ := o.thrown
   exact ⟨rfl,L.err (zf g.out)⟩
  | none =>
   rw [O,zW] at j; have Q : Hid (w.grownBy s.drew none) := zf g.out; obtain ⟨U,V,E,M⟩ := MapAt.put (N.out.kept Q.out (by simp)) Tryz.underlying77 x F tb (by simpa [Lay.ths] using hml)
   replace V : (Instr.mapUpdate 77 (.map (some mb)) (.string ⟨x.toArray⟩) (pq tb)).run Tryz.prog s.drew = .ok () U := V
   refine Calls.mono (R := fun e w' => e = .returned (.tuple #[]) /\ w' = U) ?_ (fun e w' h9 => .inr ⟨rfl,rfl,h9.1,by rw [h9.2]; exact E,by rw [h9.2]; exact za (zv Q.out _) M⟩)
   go_enter Tryz.func99,Tryz.ntmps99
   go_wp2_with fail; rw [<- d]; clear d; refine wp_region_held_drew (S := fun w9 => s.grownBy w9 none) (by kernel_rfl) ?_ (fun hHeld => ?_)
   ·exact zf grn
   refine kQ 0 8 (.map (some mb)) hHeld ?_; refine kQ 1 9 (.pointer (some ⟨w.heap.size,1,none⟩)) hHeld ?_; refine dk 2 (some 10) (.string ⟨x.toArray⟩) rfl rfl (fun w9 hS => by obtain ⟨H,f,I,J,K⟩ := (Box.kept k.out hS).plain; go_simp) hHeld ?_; refine dk 3 (some 11) (.pointer none) rfl rfl (fun w9 hS => by have f := i.out w9 (za g.out hS); go_simp) hHeld ?_; refine kQ 4 12 (.bool false) hHeld ?_; refine kQ 5 13 (.bool false) hHeld ?_; refine kQ 6 14 (pq b) hHeld ?_; refine kQ 7 15 (pq b) hHeld ?_; refine kQ 8 16 (pq b) hHeld ?_; refine dk 9 (some 17) (pq ρ.wd) rfl rfl (fun w9 hS => by have f := ze (za g.out hS) s0.out; go_simp) hHeld ?_; refine kQ 10 18 (pq ρ.wd) hHeld ?_; refine kQ 11 19 (.pointer (some ⟨ρ.wd,3,none⟩)) hHeld ?_; refine dk 12 (some 20) (.map (some ρ.ba)) rfl rfl (fun w9 hS => by have f := ze (za g.out hS) u.out; go_simp) hHeld ?_; refine kQ 13 21 (.pointer (some ⟨w.heap.size,1,none⟩)) hHeld ?_; refine dk 14 (some 22) (.string ⟨x.toArray⟩) rfl rfl (fun w9 hS => by obtain ⟨H,f,I,J,K⟩ := (Box.kept k.out hS).plain; go_simp) hHeld ?_; refine dk 15 (some 23) (.pointer none) rfl rfl (fun w9 hS => by have f := j.out w9 (za g.out hS); go_simp) hHeld ?_
   refine kQ 16 24 (.bool false) hHeld ?_; refine kQ 17 25 (.bool false) hHeld ?_; simp only [qA,qB,qC,qD]; refine wpAnyH_done (by kernel_rfl) ?_ _; clear hHeld; obtain ⟨_,_,_,_,_⟩ := (Box.drew k.out).plain; go_wp2; refine bodyPost_end (results_none rfl _ _ _) rfl ?_
   exact ⟨rfl,rfl⟩
end
section
variable {ρ ρ' ρ1 : Lay} {w w' w1 : World} {S S' : KS} {P Q : Nat -> Prop} {i b : Nat}
theorem Sm.put (h : Sm w w' P) (hb : ¬ P b) (o : Nat) (v : Value) : Sm w (w'.setCell ⟨b,o,none⟩ v) P :=
 ⟨h.os,h.tape,h.output,by simpa [World.setCell] using h.size,fun g hg hp => (Below.heap_setCell _ _ _ _ (by intro e; have e2 : g = b := e; exact hb (e2 ▸ hp))).trans (h.block g hg hp)⟩
theorem Sm.drew (h : Sm w w' P) : Sm w w'.drew P := ⟨h.os,h.tape,h.output,h.size,h.block⟩
theorem Sm.gbn {row : Option Nat} (h : Sm w w1 P) (k : w1.grownBy w' row) (hr : ∀ g,row = some g -> ¬ P g) : Sm w w' P :=
 h.trans ((Sm.grown k).mono (fun g _ hp e => hr g e.symm hp))
theorem Sm.of_none (k : w.grownBy w' none) (P : Nat -> Prop) : Sm w w' P := ⟨k.os,k.tape,k.output,k.size,fun g hg _ => k.block g hg (by simp)⟩
theorem KM.sm (h : KM ρ w S) (hi : KIn S) (hs : Sm w w' P) (hp : ∀ g lb,ρ.col g = some lb -> P g) : KM ρ w' S :=
 h.turn hi (Agr.refl ρ S) hs (h.frs hs) (fun g hg => hp g _ hg) (fun g hg => hp g _ hg) (h.mo_turn hi (Agr.refl ρ S) hs (fun g hg => hp g _ hg)) (fun j hj => (h.ty j hj).sm hs (fun g hg => hp g _ hg) (fun g hg => hp g _ hg)) (fun j hj => (h.th j hj).sm hs (fun g hg => hp g _ hg))
  (fun j hj => (h.pr j hj).sm hs (fun g hg => hp g _ hg) (fun g hg => hp g _ hg) (fun g hg => hp g _ hg) (fun g hg => hp g _ hg)) (fun j hj => (h.md j hj).sm hs (fun g hg => hp g _ hg) (fun g hg => hp g _ hg) (fun g hg => hp g _ hg) (fun g hg => hp g _ hg) (fun g hg => hp g _ hg))
theorem Box.sm {t : T} {sv : Value} (h : Box w b t sv) (hs : Sm w w' P) (hp : P b) : Box w' b t sv := ⟨hs.cell h.c0 hp,hs.cell h.c1 hp,hs.cell h.c2 hp,hs.cell h.c3 hp,hs.cell h.c4 hp⟩
theorem Bk.drew {vs : List Value} (h : Bk w b vs) : Bk w.drew b vs := h.sm (Sm.refl w (fun _ => True)).drew trivial
theorem Threw.le {k n : Int} {e : Ending} (h : Threw w1 k n e w') (hs : w.heap.size <= w1.heap.size) : Threw w k n e w' := by
 obtain ⟨q,c,d,f⟩ := h
 exact ⟨q,c,Nat.le_trans hs d,f⟩
theorem MapAt.ne_cell {mb : Nat} {l : List (Nm × Nat)} (h : MapAt w mb l) {a : Addr} {v : Value} (hc : w.cell? a = some v) : a.block ≠ mb := by
 obtain ⟨_,_,c,_⟩ := h; intro e; rw [World.cell?,e,c] at hc
 simp at hc
end
set_option maxHeartbeats 2000000
section
variable {ρ : Lay} {w w' w1 : World} {S : KS} {b : Nat} {c : KSc}
theorem ur (h : CK ρ w S b c) (n : T) (sv : Value) (hf : Fits n) (hi : KIn S) {tb q : Nat} {t : KTh} (hin : c.inner = some q) (hlen : (S.pr q).inner.length < maxLen) (hb : Bk w tb (thV ρ t)) (hc : ρ.col tb = none) :
  Calls Tryz.prog 109 #[pq b,zo n sv,pq tb] w (fun e w' => (((lk (S.pr q).inner n.name ≠ none \/ lk ym n.name ≠ none) /\ Threw w n.at' 6 e w' /\ Sm w w' (fun g => g ≠ tb)) \/ (lk (S.pr q).inner n.name = none /\ lk ym n.name = none /\ e = .returned (.tuple #[]) /\ Bk w' tb (thV ρ { t with kind := 3,name := n.name }) /\ MapAt w' (ρ.inn q) ((n.name,tb) :: ρ.ths (S.pr q).inner) /\ Sm w w' (fun g => g ≠ tb /\ g ≠ ρ.inn q)))) := by
 have fx := hf.name; have u := h.hi q hin; have HK := zc h; have HI := zc hi; have HB := zc hb; have HF := zc hf
 have s2 : Hid (w.cell? ⟨b,2,none⟩ = some (.map (some (ρ.inn q)))) := by have d := h.s2; rw [hin] at d; exact d
 have i : b ≠ tb := fun e => by
  have U := hb.c 2 _ rfl; rw [<- e,h.s2] at U; cases U
 have a0 := hb.lt; obtain ⟨s,x,m,p,l⟩ := n
 change Calls Tryz.prog 109 #[pq b,.agg #[.int .i64 s,.string ⟨x.toArray⟩,.int .i64 m,.int .i64 p,sv],pq tb] w _
 obtain ⟨f,j⟩ : ∃ z,z = w.alloc (.cells #[.int .i64 s,.string ⟨x.toArray⟩,.int .i64 m,.int .i64 p,sv] 100) := ⟨_,rfl⟩
 have H : Hid (w.grownBy f none) := by rw [j]; exact zh grn _
 have V : Hid (Box f w.heap.size (.mk s x m p l) sv) := by rw [j]; exact Box.new w (.mk s x m p l) sv _
 clear h hf hb hi
 change x.length <= maxLen at fx
 change Calls Tryz.prog 109 #[pq b,.agg #[.int .i64 s,.string ⟨x.toArray⟩,.int .i64 m,.int .i64 p,sv],pq tb] w (fun e w' => (((lk (S.pr q).inner x ≠ none \/ lk ym x ≠ none) /\ Threw w p 6 e w' /\ Sm w w' (fun g => g ≠ tb)) \/ (lk (S.pr q).inner x = none /\ lk ym x = none /\ e = .returned (.tuple #[]) /\ Bk w' tb (thV ρ { t with kind := 3,name := x }) /\ MapAt w' (ρ.inn q) ((x,tb) :: ρ.ths (S.pr q).inner) /\ Sm w w' (fun g => g ≠ tb /\ g ≠ ρ.inn q))))
 have k : Hid (Bk f tb (thV ρ t)) := HB.out.kept H.out (by simp)
 go_enter Tryz.func109,Tryz.ntmps109
 go_wp2_with fail; rw [<- j]; clear j; refine wp_region_held_drew (S := fun w9 => Sm f w9 (fun g => g ≠ tb)) (by kernel_rfl) ?_ (fun hHeld => ?_)
 ·exact (Sm.refl f _).drew
 refine kQ 0 6 (pq tb) hHeld ?_; refine kQ 1 7 (pq tb) hHeld ?_; refine kQ 2 8 (.pointer (some ⟨w.heap.size,1,none⟩)) hHeld ?_; refine dk 3 (some 9) (.string ⟨x.toArray⟩) rfl rfl (fun w9 hS => by obtain ⟨q0,X,q2,q3,q4⟩ := (Box.sm V.out hS (show w.heap.size ≠ tb by omega)).plain; go_simp) hHeld ?_; refine kQ 4 10 (pq tb) hHeld ?_; refine kQ 5 11 (pq tb) hHeld ?_; simp only [qA,qB,qC,qD]; have J := k.out.c 0 _ rfl; have ez := k.out.z; refine rd 6 rfl fun KK hKK => ?_
 go_simp
 refine hKK.out _ _ (((Sm.refl f _).put (fun d => d rfl) _ _).drew) fun hHeld => ?_
 clear hKK KK; clear J; refine kQ 7 12 (pq tb) hHeld ?_; refine kQ 8 13 (.pointer (some ⟨tb,1,none⟩)) hHeld ?_; simp only [qA,qB,qC,qD]; have J := k.out.c 1 _ rfl; refine rd 9 rfl fun KK hKK => ?_
 go_simp
 refine hKK.out _ _ ((((Sm.refl f _).put (fun d => d rfl) _ _).put (fun d => d rfl) _ _).drew) fun hHeld => ?_
 clear hKK KK; clear J ez; refine wpAnyH_done (by kernel_rfl) ?_ _; clear hHeld; obtain ⟨w1,o⟩ : ∃ z,z = ((f.setCell ⟨tb,0,none⟩ (.int .i64 3)).setCell ⟨tb,1,none⟩ (.string ⟨x.toArray⟩)).drew := ⟨_,rfl⟩; rw [<- o]
 have v : Hid (Sm f w1 (fun g => g ≠ tb)) := by rw [o]; exact (((Sm.refl f _).put (fun d => d rfl) _ _).put (fun d => d rfl) _ _).drew
 have Y : Hid (Bk w1 tb (thV ρ { t with kind := 3,name := x })) := by rw [o]; exact ((k.out.set 0 _).set 1 _).drew
 clear o; have Z : Hid (Box w1 w.heap.size (.mk s x m p l) sv) := V.out.sm v.out (by omega)
 have I : Hid (CK ρ w1 S b c) := by
  have A := HK.out.up H.out
  exact ⟨A.km.sm HI.out v.out (fun g lb hg e => by rw [e,hc] at hg; cases hg),A.ok,v.out.cell A.s0 i,v.out.cell A.s1 i,v.out.cell A.s2 i,A.hc,A.hi⟩
 have B : Hid _ := v.out.cell (ze H.out s2.out) i; have K : Hid (Sm w w1 (fun g => g ≠ tb)) := (Sm.of_none H.out _).trans v.out; have G1 : Hid (w1.grownBy w1 none) := zj w1 none; have C := zc (fun L (G : w1.grownBy L none) => rD (I.out.up G) (.mk s x m p l) sv HF.out (tb := tb) (MapAt.kept (I.out.km.pr q u).mp G (by simp)) hlen (MapAt.lt (MapAt.kept (I.out.km.pr q u).mp G (by simp)))); have r := (I.out.km.pr q u).mp; have M : b ≠ ρ.inn q := r.ne_cell B.out; have N : w.heap.size ≠ ρ.inn q := r.ne_cell Z.out.c0; have O : tb ≠ ρ.inn q := r.ne_cell (Y.out.c 0 _ rfl); clear r; go_wp2_with fail; refine wp_region_held_drew (S := fun w9 => Sm w1 w9 (fun g => g ≠ ρ.inn q)) (by kernel_rfl) ?_ (fun hHeld => ?_)
 ·exact (Sm.refl w1 _).drew
 refine kQ 0 14 (pq b) hHeld ?_; refine kQ 1 15 (pq b) hHeld ?_; refine kQ 2 16 (pq b) hHeld ?_; refine kQ 3 17 (.pointer (some ⟨b,2,none⟩)) hHeld ?_; refine dk 4 (some 18) (.map (some (ρ.inn q))) rfl rfl (fun w9 hS => by have X := Sm.cell hS B.out M; go_simp) hHeld ?_; refine dk 5 (some 19) (.agg #[.int .i64 s,.string ⟨x.toArray⟩,.int .i64 m,.int .i64 p,sv]) rfl rfl (fun w9 hS => by obtain ⟨q0,X,q2,q3,q4⟩ := (Box.sm Z.out hS N).plain; go_simp) hHeld ?_; refine kQ 6 20 (pq tb) hHeld ?_; simp only [qA,qB,qC,qD]; refine rd 7 rfl fun KK hKK => ?_
 go_simp
 go_at_call 99; refine (C.out _ (zf G1.out)).mono ?_; rintro e L (⟨hd,D⟩ | ⟨Q,R,rfl,E,F⟩)
 ·have HT := D
  obtain ⟨z,rfl⟩ := D.thrown
  exact ⟨rfl,.inl ⟨hd,HT.2.le K.out.size,K.out.trans (Sm.of_none (za (zf grn) HT.1) _)⟩⟩
 go_simp
 refine hKK.out _ _ ((Sm.grown (za (zv (zf grn) (some (ρ.inn q))) F)).mono (fun g _ d e => d (Option.some.inj e))) fun hHeld => ?_
 clear hKK KK; refine wpAnyH_done (by kernel_rfl) ?_ _; clear hHeld; have S2 : Hid (Sm w1 L (fun g => g ≠ ρ.inn q)) := (Sm.grown (za (zv (zf grn) (some (ρ.inn q))) F)).mono (fun g _ d e => d (Option.some.inj e)); go_wp2; refine bodyPost_end (results_none rfl _ _ _) rfl ?_
 exact .inr ⟨Q,R,rfl,Y.out.sm S2.out O,E,(K.out.mono (fun g _ d => d.1)).trans (S2.out.mono (fun g _ d => d.2))⟩
end
theorem Tryz.infoThingP : (Tryz.prog.info? 86).map (fun i => (i.zero,i.size,i.bytes)) = some (some (.pointer none),1,8) := by kernel_rfl
theorem Tryz.infoModuleP : (Tryz.prog.info? 51).map (fun i => (i.zero,i.size,i.bytes)) = some (some (.pointer none),1,8) := by kernel_rfl
theorem kI {ops : Array Oper} {o : Oper} {a : Act} {w : World} {K : Act -> World -> Prop} {Q : Exit -> Act -> World -> Prop} {E : Prop} (t e : TypeId) (ht : Tryz.prog.underlying t = some (.slice e)) (hin : (Tryz.prog.info? e).map (fun i => (i.zero,i.size,i.bytes)) = some (some (.pointer none),1,8)) (hgd : o.guard = none) (s x : Operand)
  (ho : o.op = .call { callee := .builtin .append,args := #[s,x],argTypes := #[t,t] })
  {g n : Nat} {v : Value} {q : Option Addr} {cs : List Value} (hs : a.eval s = v) (hx : a.eval x = .slice (some ⟨g,0,none⟩) 1 1) (hl : w.ownsRow 0 e 1 v n cs) (hc : w.cell? ⟨g,0,none⟩ = some (.pointer q)) (hn : n <= 1000000)
  (k : ∀ v' w',w'.ownsRow 0 e 1 v' (n + 1) (cs ++ [.pointer q]) -> w.grownBy w' v.ownBlock -> (v'.ownBlock = v.ownBlock \/ v'.ownBlock = some w.heap.size) -> K (a.put o.dst v') w') :
  if Region.wanted o (yielded ops a.tmps) = true then Oper.wp Tryz.prog o a w K Q else E := by
 have m : Region.wanted o (yielded ops a.tmps) = true := by simp [Region.wanted,hgd]
 rw [if_pos m]; obtain ⟨r,c,d,f,h⟩ := info_parts hin; obtain ⟨v',w',z,b,A,_,l⟩ := run_append_own_at (P := Tryz.prog) w 0 t o.type e r _ 1 8 ht c d f h rfl (by decide) v n cs hl ⟨g,0,none⟩ 1 1 [.pointer q]
  rfl (fun j u hj => by
   match j,hj with
   | 0,hj => simp at hj; subst hj; simpa [Addr.add] using hc) (fun u hu => by simp at hu; subst hu; rfl) (by unfold maxLen; omega) (by omega) (Nat.zero_le _)
 unfold Oper.wp execOp
 simp only [ho,resolve,invoke,builtin,Sem.run_bind,Sem.run_pure,Result.andThen_ok,List.map_toArray,List.map_cons,List.map_nil,hs,hx,z]
 exact k v' w' b A l
set_option maxHeartbeats 4000000
section
variable {ρ : Lay} {w w' w1 : World} {S : KS} {b : Nat} {c : KSc}
theorem qb (h : CK ρ w S b c) (n : T) (sv : Value) (hf : Fits n) (hi : KIn S) {tb : Nat} {t : KTh} (hcb : ρ.col b = some .ck) (hlen : (S.md c.home).names.length < maxLen) (hdl : (S.md c.home).decl.length <= 1000000) (hb : Bk w tb (thV ρ t)) (hc : ρ.col tb = none) :
  Calls Tryz.prog 70 #[pq b,zo n sv,pq tb] w (fun e w' => (((lk (S.md c.home).names n.name ≠ none \/ lk ym n.name ≠ none) /\ Threw w n.at' 6 e w' /\ Sm w w' (fun g => g ≠ tb)) \/ (lk (S.md c.home).names n.name = none /\ lk ym n.name = none /\ e = .returned (.tuple #[]) /\ Bk w' tb (thV ρ { t with name := n.name,exp := (n.num == 1),home := some c.home }) /\ MapAt w' (ρ.nm c.home) ((n.name,tb) :: ρ.ths (S.md c.home).names) /\
   (∃ av iv dv,Bk w' (ρ.md c.home) (mdV ρ c.home (S.md c.home) av iv dv) /\ AF ρ.tr w' (S.md c.home).acts av /\ RowAt ρ w' 51 1 iv (S.md c.home).imps.length ((S.md c.home).imps.map fun y => ρ.mdP (some y)) (.im c.home) /\ w'.ownsRow 0 86 1 dv ((S.md c.home).decl.length + 1) (((S.md c.home).decl.map fun y => ρ.thP (some y)) ++ [pq tb]) /\ ∀ g,dv.ownBlock = some g -> ρ.col g = some (.de c.home) \/ w.heap.size <= g) /\
   Sm w w' (fun g => g ≠ tb /\ ρ.col g ≠ some (.nm c.home) /\ ρ.col g ≠ some (.md c.home) /\ ρ.col g ≠ some (.de c.home))))) := by
 have fx := hf.name; have u := h.hc; have HK := zc h; have HI := zc hi; have HB := zc hb; have HF := zc hf; have s1 : Hid (w.cell? ⟨b,1,none⟩ = some (pq (ρ.md c.home))) := h.s1
 have C : b ≠ tb := fun e => by rw [<- e,hcb] at hc; cases hc
 have c4 := hb.lt; obtain ⟨X,x,m,p,l⟩ := n
 change Calls Tryz.prog 70 #[pq b,.agg #[.int .i64 X,.string ⟨x.toArray⟩,.int .i64 m,.int .i64 p,sv],pq tb] w _
 obtain ⟨D,M⟩ : ∃ z,z = w.alloc (.cells #[.int .i64 X,.string ⟨x.toArray⟩,.int .i64 m,.int .i64 p,sv] 100) := ⟨_,rfl⟩
 have G0 : Hid (w.grownBy D none) := by rw [M]; exact zh grn _
 have B0 : Hid (Box D w.heap.size (.mk X x m p l) sv) := by rw [M]; exact Box.new w (.mk X x m p l) sv _
 clear h hf hb hi
 change x.length <= maxLen at fx
 change Calls Tryz.prog 70 #[pq b,.agg #[.int .i64 X,.string ⟨x.toArray⟩,.int .i64 m,.int .i64 p,sv],pq tb] w (fun e w' => (((lk (S.md c.home).names x ≠ none \/ lk ym x ≠ none) /\ Threw w p 6 e w' /\ Sm w w' (fun g => g ≠ tb)) \/ (lk (S.md c.home).names x = none /\ lk ym x = none /\ e = .returned (.tuple #[]) /\ Bk w' tb (thV ρ { t with name := x,exp := (m == 1),home := some c.home }) /\ MapAt w' (ρ.nm c.home) ((x,tb) :: ρ.ths (S.md c.home).names) /\
    (∃ av iv dv,Bk w' (ρ.md c.home) (mdV ρ c.home (S.md c.home) av iv dv) /\ AF ρ.tr w' (S.md c.home).acts av /\ RowAt ρ w' 51 1 iv (S.md c.home).imps.length ((S.md c.home).imps.map fun y => ρ.mdP (some y)) (.im c.home) /\ w'.ownsRow 0 86 1 dv ((S.md c.home).decl.length + 1) (((S.md c.home).decl.map fun y => ρ.thP (some y)) ++ [pq tb]) /\ ∀ g,dv.ownBlock = some g -> ρ.col g = some (.de c.home) \/ w.heap.size <= g) /\
    Sm w w' (fun g => g ≠ tb /\ ρ.col g ≠ some (.nm c.home) /\ ρ.col g ≠ some (.md c.home) /\ ρ.col g ≠ some (.de c.home)))))
 have E : Hid (Bk D tb (thV ρ t)) := HB.out.kept G0.out (by simp)
 obtain ⟨R,hR⟩ : ∃ R : Ending -> World -> Prop,R = fun e w' => (((lk (S.md c.home).names x ≠ none \/ lk ym x ≠ none) /\ Threw w p 6 e w' /\ Sm w w' (fun g => g ≠ tb)) \/ (lk (S.md c.home).names x = none /\ lk ym x = none /\ e = .returned (.tuple #[]) /\ Bk w' tb (thV ρ { t with name := x,exp := (m == 1),home := some c.home }) /\ MapAt w' (ρ.nm c.home) ((x,tb) :: ρ.ths (S.md c.home).names) /\
    (∃ av iv dv,Bk w' (ρ.md c.home) (mdV ρ c.home (S.md c.home) av iv dv) /\ AF ρ.tr w' (S.md c.home).acts av /\ RowAt ρ w' 51 1 iv (S.md c.home).imps.length ((S.md c.home).imps.map fun y => ρ.mdP (some y)) (.im c.home) /\ w'.ownsRow 0 86 1 dv ((S.md c.home).decl.length + 1) (((S.md c.home).decl.map fun y => ρ.thP (some y)) ++ [pq tb]) /\ ∀ g,dv.ownBlock = some g -> ρ.col g = some (.de c.home) \/ w.heap.size <= g) /\
    Sm w w' (fun g => g ≠ tb /\ ρ.col g ≠ some (.nm c.home) /\ ρ.col g ≠ some (.md c.home) /\ ρ.col g ≠ some (.de c.home)))) := ⟨_,rfl⟩
 rw [<- hR]
 go_enter Tryz.func70,Tryz.ntmps70
 go_wp2_with fail; rw [<- M]; clear M; refine wp_region_held_drew (S := fun w9 => Sm D w9 (fun g => g ≠ tb)) (by kernel_rfl) ?_ (fun hHeld => ?_)
 ·exact (Sm.refl D _).drew
 refine kQ 0 6 (pq tb) hHeld ?_; refine kQ 1 7 (pq tb) hHeld ?_; refine kQ 2 8 (pq tb) hHeld ?_; refine kQ 3 9 (.pointer (some ⟨w.heap.size,1,none⟩)) hHeld ?_; refine dk 4 (some 10) (.string ⟨x.toArray⟩) rfl rfl (fun w9 hS => by obtain ⟨q0,q1,q2,q3,q4⟩ := (Box.sm B0.out hS (show w.heap.size ≠ tb by omega)).plain; go_simp) hHeld ?_; refine kQ 5 11 (.pointer (some ⟨w.heap.size,2,none⟩)) hHeld ?_; refine dk 6 (some 12) (.int .i64 m) rfl rfl (fun w9 hS => by obtain ⟨q0,q1,q2,q3,q4⟩ := (Box.sm B0.out hS (show w.heap.size ≠ tb by omega)).plain; go_simp) hHeld ?_; refine kQ 7 13 (.bool (m == 1)) hHeld ?_; refine kQ 8 14 (pq b) hHeld ?_; refine kQ 9 15 (pq b) hHeld ?_; refine kQ 10 16 (.pointer (some ⟨b,1,none⟩)) hHeld ?_; refine dk 11 (some 17) (pq (ρ.md c.home)) rfl rfl (fun w9 hS => by have q1 := Sm.cell hS (ze G0.out s1.out) C; go_simp) hHeld ?_; refine kQ 12 18 (pq tb) hHeld ?_; refine kQ 13 19 (.pointer (some ⟨tb,1,none⟩)) hHeld ?_; simp only [qA,qB,qC,qD]; have e0 := E.out.c 1 _ rfl; have ez := E.out.z; refine rd 14 rfl fun KK hKK => ?_
 go_simp
 refine hKK.out _ _ (((Sm.refl D _).put (fun d => d rfl) _ _).drew) fun hHeld => ?_
 clear hKK KK; clear e0; refine kQ 15 20 (pq tb) hHeld ?_; refine kQ 16 21 (.pointer (some ⟨tb,2,none⟩)) hHeld ?_; simp only [qA,qB,qC,qD]; have e0 := E.out.c 2 _ rfl; refine rd 17 rfl fun KK hKK => ?_
 go_simp
 refine hKK.out _ _ ((((Sm.refl D _).put (fun d => d rfl) _ _).put (fun d => d rfl) _ _).drew) fun hHeld => ?_
 clear hKK KK; clear e0; refine kQ 18 22 (pq tb) hHeld ?_; refine kQ 19 23 (.pointer (some ⟨tb,3,none⟩)) hHeld ?_; simp only [qA,qB,qC,qD]; have e0 := E.out.c 3 _ rfl; refine rd 20 rfl fun KK hKK => ?_
 go_simp
 refine hKK.out _ _ (((((Sm.refl D _).put (fun d => d rfl) _ _).put (fun d => d rfl) _ _).put (fun d => d rfl) _ _).drew) fun hHeld => ?_
 clear hKK KK; clear e0 ez; refine wpAnyH_done (by kernel_rfl) ?_ _; clear hHeld; obtain ⟨w1,N⟩ : ∃ z,z = (((D.setCell ⟨tb,1,none⟩ (.string ⟨x.toArray⟩)).setCell ⟨tb,2,none⟩ (.bool (m == 1))).setCell ⟨tb,3,none⟩ (pq (ρ.md c.home))).drew := ⟨_,rfl⟩; rw [<- N]
 have S1 : Hid (Sm D w1 (fun g => g ≠ tb)) := by rw [N]; exact ((((Sm.refl D _).put (fun d => d rfl) _ _).put (fun d => d rfl) _ _).put (fun d => d rfl) _ _).drew
 have T1 : Hid (Bk w1 tb (thV ρ { t with name := x,exp := (m == 1),home := some c.home })) := by rw [N]; exact (((E.out.set 1 _).set 2 _).set 3 _).drew
 clear N; have B1 : Hid (Box w1 w.heap.size (.mk X x m p l) sv) := B0.out.sm S1.out (by omega)
 have K1 : Hid (CK ρ w1 S b c) := by
  have k0 := HK.out.up G0.out
  exact ⟨k0.km.sm HI.out S1.out (fun g lb hg e => by rw [e,hc] at hg; cases hg),k0.ok,S1.out.cell k0.s0 C,S1.out.cell k0.s1 C,S1.out.cell k0.s2 C,k0.hc,k0.hi⟩
 have a1 : Hid _ := S1.out.cell (ze G0.out s1.out) C; have SW : Hid (Sm w w1 (fun g => g ≠ tb)) := (Sm.of_none G0.out _).trans S1.out; have G1 : Hid (w1.grownBy w1 none) := zj w1 none; have a6 := zc (fun f (G : w1.grownBy f none) => rD (K1.out.up G) (.mk X x m p l) sv HF.out (tb := tb) (MapAt.kept (K1.out.km.md c.home u).mp G (by simp)) hlen (MapAt.lt (MapAt.kept (K1.out.km.md c.home u).mp G (by simp)))); obtain ⟨av,iv,dv,a2,Y,a7,a8⟩ := (K1.out.km.md c.home u).bk; have MB := zc a2; have MA := zc Y; have MI := zc a7; have MD := zc a8; have m8 : Hid (w1.cell? ⟨ρ.md c.home,8,none⟩ = some (.map (some (ρ.nm c.home)))) := a2.c 8 _ rfl; have i := (K1.out.km.md c.home u).col; have r := (K1.out.km.md c.home u).coln; have F := (K1.out.km.md c.home u).mp; have a9 : b ≠ ρ.nm c.home := F.ne_cell a1.out; have b7 : w.heap.size ≠ ρ.nm c.home := F.ne_cell B1.out.c0; have b8 : tb ≠ ρ.nm c.home := F.ne_cell (T1.out.c 0 _ rfl); have O : ρ.md c.home ≠ ρ.nm c.home := F.ne_cell m8.out
 have b0 : b ≠ ρ.md c.home := fun e => by rw [e,i] at hcb; cases hcb
 have b1 : tb ≠ ρ.md c.home := fun e => by rw [e,i] at hc; cases hc
 clear F a2 Y a7 a8; go_wp2_with fail; refine wp_region_held_drew (S := fun w9 => Sm w1 w9 (fun g => g ≠ ρ.nm c.home)) (by kernel_rfl) ?_ (fun hHeld => ?_)
 ·exact (Sm.refl w1 _).drew
 refine kQ 0 24 (pq b) hHeld ?_; refine kQ 1 25 (pq b) hHeld ?_; refine kQ 2 26 (pq b) hHeld ?_; refine kQ 3 27 (.pointer (some ⟨b,1,none⟩)) hHeld ?_; refine dk 4 (some 28) (pq (ρ.md c.home)) rfl rfl (fun w9 hS => by have q1 := Sm.cell hS a1.out a9; go_simp) hHeld ?_; refine kQ 5 29 (pq (ρ.md c.home)) hHeld ?_; refine kQ 6 30 (.pointer (some ⟨ρ.md c.home,8,none⟩)) hHeld ?_; refine dk 7 (some 31) (.map (some (ρ.nm c.home))) rfl rfl (fun w9 hS => by have q1 := Sm.cell hS m8.out O; go_simp) hHeld ?_; refine dk 8 (some 32) (.agg #[.int .i64 X,.string ⟨x.toArray⟩,.int .i64 m,.int .i64 p,sv]) rfl rfl (fun w9 hS => by obtain ⟨q0,q1,q2,q3,q4⟩ := (Box.sm B1.out hS b7).plain; go_simp) hHeld ?_; refine kQ 9 33 (pq tb) hHeld ?_; simp only [qA,qB,qC,qD]; refine rd 10 rfl fun KK hKK => ?_
 go_simp
 go_at_call 99; refine (a6.out _ (zf G1.out)).mono ?_; rintro e f (⟨hd,b2⟩ | ⟨b3,b4,rfl,Z,a4⟩)
 ·have HT := b2
  obtain ⟨z,rfl⟩ := b2.thrown
  try rw [hR]
  exact ⟨rfl,.inl ⟨hd,HT.2.le SW.out.size,SW.out.trans (Sm.of_none (za (zf grn) HT.1) _)⟩⟩
 go_simp
 refine hKK.out _ _ ((Sm.grown (za (zv (zf grn) (some (ρ.nm c.home))) a4)).mono (fun g _ d e => d (Option.some.inj e))) fun hHeld => ?_
 clear hKK KK; refine wpAnyH_done (by kernel_rfl) ?_ _; clear hHeld; have Q : Hid (Sm w1 f (fun g => g ≠ ρ.nm c.home)) := (Sm.grown (za (zv (zf grn) (some (ρ.nm c.home))) a4)).mono (fun g _ d e => d (Option.some.inj e)); have T2 := zc (T1.out.sm Q.out b8); have A := zc (MB.out.sm Q.out O); have b5 : Hid (AF ρ.tr f (S.md c.home).acts av) := MA.out.sm Q.out (fun g hg e => by unfold Lay.tr at hg; rw [e,r] at hg; cases hg); have B : Hid (RowAt ρ f _ 1 iv _ _ (.im c.home)) := ⟨zR MI.out.1 Q.out (fun g hg e => by have d := MI.out.2 g hg; rw [e,r] at d; cases d),MI.out.2⟩; have o : Hid (RowAt ρ f _ 1 dv _ _ (.de c.home)) := ⟨zR MD.out.1 Q.out (fun g hg e => by have d := MD.out.2 g hg; rw [e,r] at d; cases d),MD.out.2⟩; have b6 : Hid _ := Q.out.cell a1.out a9; have a0 := zc Z; have c5 := Q.out.size; clear Z a4; have G2 : Hid (f.grownBy f none) := zj f none; go_wp2_with fail; refine wp_region_held_drew (S := fun w9 => Sm f w9 (fun g => g ≠ ρ.md c.home /\ ρ.col g ≠ some (.de c.home))) (by kernel_rfl) ?_ (fun hHeld => ?_)
 ·exact (Sm.refl f _).drew
 refine kQ 0 35 (pq b) hHeld ?_; refine kQ 1 36 (pq b) hHeld ?_; refine kQ 2 37 (.pointer (some ⟨b,1,none⟩)) hHeld ?_; refine dk 3 (some 38) (pq (ρ.md c.home)) rfl rfl (fun w9 hS => by have q1 := Sm.cell hS b6.out ⟨b0,by rw [hcb]; nofun⟩; go_simp) hHeld ?_; refine kQ 4 39 (pq b) hHeld ?_; refine kQ 5 40 (pq b) hHeld ?_; refine kQ 6 41 (.pointer (some ⟨b,1,none⟩)) hHeld ?_; refine dk 7 (some 42) (pq (ρ.md c.home)) rfl rfl (fun w9 hS => by have q1 := Sm.cell hS b6.out ⟨b0,by rw [hcb]; nofun⟩; go_simp) hHeld ?_; refine kQ 8 43 (pq (ρ.md c.home)) hHeld ?_; refine kQ 9 44 (.pointer (some ⟨ρ.md c.home,7,none⟩)) hHeld ?_; refine kQ 11 46 (pq tb) hHeld ?_; simp only [qA,qB,qC,qD]; have m7 := A.out.c 7 _ rfl; have zm := A.out.lt; refine wpAnyH_ready (rs := [10,12]) (by kernel_rfl) (by simp) ?_; refine AllReadyH.cons rfl (fun KK hKK => ?_) (AllReadyH.cons rfl (fun KK hKK => ?_) AllReadyH.nil)
 ·go_simp
  refine hKK.out _ _ ((Sm.refl f _).drew) fun hHeld => ?_
  clear hKK KK; refine rd 12 rfl fun KK hKK => ?_
  go_simp
  refine hKK.out _ _ (Sm.of_none (zf gan) _) fun hHeld => ?_
  clear hKK KK m7 zm; obtain ⟨wa,j⟩ : ∃ z,z = (f.alloc (Obj.cells #[pq tb] 86)).drew := ⟨_,rfl⟩; rw [<- j] at hHeld ⊢
  have A3 : Hid (f.grownBy wa none) := by rw [j]; exact zf gan
  have ca : wa.cell? ⟨f.heap.size,0,none⟩ = some (pq tb) := by rw [j]; exact Bk.c (vs := [pq tb]) (Bk.drew (Bk.new f _ _ rfl)) 0 _ rfl
  have b9 : wa.heap.size = f.heap.size + 1 := by rw [j]; simp
  clear j; refine rd 13 rfl fun KK hKK => ?_; refine kI 83 86 Tryz.underlying83 Tryz.infoThingP rfl _ _ rfl (v := dv) (g := f.heap.size) rfl rfl (zR o.out.1 (Sm.of_none A3.out (fun _ => True)) (fun _ _ => trivial)) ca hdl ?_; intro v3 w3 k H q; have U : Hid (Sm f w3 (fun g => ρ.col g ≠ some (.de c.home))) := (Sm.of_none A3.out _).gbn H (fun g hg d => d (o.out.2 g hg)); refine hKK.out _ _ (U.out.mono (fun g _ d => d.2)) fun hHeld => ?_
  clear hKK KK
  obtain ⟨a3,c3,rfl⟩ : ∃ aa cc,v3 = .slice aa ((S.md c.home).decl.length + 1) cc := by
   rcases k.2 with ⟨_,d⟩ | ⟨g,c1,c2,d,_⟩
   ·omega
   ·exact ⟨_,_,d⟩
  have O3 := zc k; have I := zc q
  have J : ρ.col (ρ.md c.home) ≠ some (.de c.home) := by rw [i]; nofun
  have s := zc (A.out.sm U.out J); have e7 := s.out.c 7 _ rfl; have ez := s.out.z; clear k q H ca; refine kQ 14 49 (pq (ρ.md c.home)) hHeld ?_; simp only [Act.put,List.setIfInBounds_toArray]; refine kQ 15 50 (.pointer (some ⟨ρ.md c.home,7,none⟩)) hHeld ?_; simp only [Act.put]; refine rd 16 rfl fun KK hKK => ?_
  go_simp
  refine hKK.out _ _ ((U.out.mono (fun g _ d => d.2)).put (fun d => d.1 rfl) _ _) fun hHeld => ?_
  clear hKK KK e7 ez; refine wpAnyH_done (by kernel_rfl) ?_ _; clear hHeld; go_wp2; refine bodyPost_end (results_none rfl _ _ _) rfl ?_
  try rw [hR]
  have K : Sm f (w3.setCell ⟨ρ.md c.home,7,none⟩ (.slice a3 ((S.md c.home).decl.length + 1) c3)) (fun g => g ≠ ρ.md c.home /\ ρ.col g ≠ some (.de c.home)) := (U.out.mono (fun g _ d => d.2)).put (fun d => d.1 rfl) _ _
  have L : ∀ g,(Value.slice a3 ((S.md c.home).decl.length + 1) c3).ownBlock = some g -> ρ.col g = some (.de c.home) \/ w.heap.size <= g := fun g hg => by
   rcases I.out with d | d
   ·exact .inl (o.out.2 g (d ▸ hg))
   ·have V := SW.out.size
    rw [d] at hg; cases hg
    exact .inr (by omega)
  have a5 : ∀ g,(Value.slice a3 ((S.md c.home).decl.length + 1) c3).ownBlock = some g -> g ≠ ρ.md c.home := fun g hg e => by
   rcases I.out with d | d
   ·have V := o.out.2 g (d ▸ hg)
    rw [e,i] at V; cases V
   ·have V := A.out.lt
    rw [d] at hg; cases hg
    omega
  refine .inr ⟨b3,b4,rfl,T2.out.sm K ⟨b1,by rw [hc]; nofun⟩,a0.out.sm K ⟨fun e => O e.symm,by rw [r]; nofun⟩,⟨av,iv,_,s.out.set 7 _,b5.out.sm K (fun g hg => ?_),⟨zR B.out.1 K (fun g hg => ?_),B.out.2⟩,zR O3.out ((Sm.refl w3 (fun g => g ≠ ρ.md c.home)).put (fun d => d rfl) _ _) a5,L⟩,?_⟩
  ·unfold Lay.tr at hg
   exact ⟨fun e => (by rw [e,i] at hg; cases hg),by rw [hg]; nofun⟩
  ·have d := B.out.2 g hg
   exact ⟨fun e => (by rw [e,i] at d; cases d),by rw [d]; nofun⟩
  ·exact ((SW.out.mono (fun g _ d => d.1)).trans (Q.out.mono (fun g _ d e => d.2.1 (by rw [e]; exact r)))).trans (K.mono (fun g _ d => ⟨fun e => d.2.2.1 (by rw [e]; exact i),d.2.2.2⟩))
 ·go_simp
  refine hKK.out _ _ (Sm.of_none (zf gan) _) fun hHeld => ?_
  clear hKK KK; refine rd 10 rfl fun KK hKK => ?_
  go_simp
  refine hKK.out _ _ (Sm.of_none (zf gan) _) fun hHeld => ?_
  clear hKK KK m7 zm; obtain ⟨wa,j⟩ : ∃ z,z = (f.alloc (Obj.cells #[pq tb] 86)).drew := ⟨_,rfl⟩; rw [<- j] at hHeld ⊢
  have A3 : Hid (f.grownBy wa none) := by rw [j]; exact zf gan
  have ca : wa.cell? ⟨f.heap.size,0,none⟩ = some (pq tb) := by rw [j]; exact Bk.c (vs := [pq tb]) (Bk.drew (Bk.new f _ _ rfl)) 0 _ rfl
  have b9 : wa.heap.size = f.heap.size + 1 := by rw [j]; simp
  clear j; refine rd 13 rfl fun KK hKK => ?_; refine kI 83 86 Tryz.underlying83 Tryz.infoThingP rfl _ _ rfl (v := dv) (g := f.heap.size) rfl rfl (zR o.out.1 (Sm.of_none A3.out (fun _ => True)) (fun _ _ => trivial)) ca hdl ?_; intro v3 w3 k H q; have U : Hid (Sm f w3 (fun g => ρ.col g ≠ some (.de c.home))) := (Sm.of_none A3.out _).gbn H (fun g hg d => d (o.out.2 g hg)); refine hKK.out _ _ (U.out.mono (fun g _ d => d.2)) fun hHeld => ?_
  clear hKK KK
  obtain ⟨a3,c3,rfl⟩ : ∃ aa cc,v3 = .slice aa ((S.md c.home).decl.length + 1) cc := by
   rcases k.2 with ⟨_,d⟩ | ⟨g,c1,c2,d,_⟩
   ·omega
   ·exact ⟨_,_,d⟩
  have O3 := zc k; have I := zc q
  have J : ρ.col (ρ.md c.home) ≠ some (.de c.home) := by rw [i]; nofun
  have s := zc (A.out.sm U.out J); have e7 := s.out.c 7 _ rfl; have ez := s.out.z; clear k q H ca; refine kQ 14 49 (pq (ρ.md c.home)) hHeld ?_; simp only [Act.put,List.setIfInBounds_toArray]; refine kQ 15 50 (.pointer (some ⟨ρ.md c.home,7,none⟩)) hHeld ?_; simp only [Act.put]; refine rd 16 rfl fun KK hKK => ?_
  go_simp
  refine hKK.out _ _ ((U.out.mono (fun g _ d => d.2)).put (fun d => d.1 rfl) _ _) fun hHeld => ?_
  clear hKK KK e7 ez; refine wpAnyH_done (by kernel_rfl) ?_ _; clear hHeld; go_wp2; refine bodyPost_end (results_none rfl _ _ _) rfl ?_
  try rw [hR]
  have K : Sm f (w3.setCell ⟨ρ.md c.home,7,none⟩ (.slice a3 ((S.md c.home).decl.length + 1) c3)) (fun g => g ≠ ρ.md c.home /\ ρ.col g ≠ some (.de c.home)) := (U.out.mono (fun g _ d => d.2)).put (fun d => d.1 rfl) _ _
  have L : ∀ g,(Value.slice a3 ((S.md c.home).decl.length + 1) c3).ownBlock = some g -> ρ.col g = some (.de c.home) \/ w.heap.size <= g := fun g hg => by
   rcases I.out with d | d
   ·exact .inl (o.out.2 g (d ▸ hg))
   ·have V := SW.out.size
    rw [d] at hg; cases hg
    exact .inr (by omega)
  have a5 : ∀ g,(Value.slice a3 ((S.md c.home).decl.length + 1) c3).ownBlock = some g -> g ≠ ρ.md c.home := fun g hg e => by
   rcases I.out with d | d
   ·have V := o.out.2 g (d ▸ hg)
    rw [e,i] at V; cases V
   ·have V := A.out.lt
    rw [d] at hg; cases hg
    omega
  refine .inr ⟨b3,b4,rfl,T2.out.sm K ⟨b1,by rw [hc]; nofun⟩,a0.out.sm K ⟨fun e => O e.symm,by rw [r]; nofun⟩,⟨av,iv,_,s.out.set 7 _,b5.out.sm K (fun g hg => ?_),⟨zR B.out.1 K (fun g hg => ?_),B.out.2⟩,zR O3.out ((Sm.refl w3 (fun g => g ≠ ρ.md c.home)).put (fun d => d rfl) _ _) a5,L⟩,?_⟩
  ·unfold Lay.tr at hg
   exact ⟨fun e => (by rw [e,i] at hg; cases hg),by rw [hg]; nofun⟩
  ·have d := B.out.2 g hg
   exact ⟨fun e => (by rw [e,i] at d; cases d),by rw [d]; nofun⟩
  ·exact ((SW.out.mono (fun g _ d => d.1)).trans (Q.out.mono (fun g _ d e => d.2.1 (by rw [e]; exact r)))).trans (K.mono (fun g _ d => ⟨fun e => d.2.2.1 (by rw [e]; exact i),d.2.2.2⟩))
end
section
variable {ρ ρ' ρ1 : Lay} {w w' w1 : World} {S S' : KS} {P Q : Nat -> Prop} {i b : Nat}
def Lay.dr (ρ : Lay) (n tb : Nat) (G : Option Nat) (lb : Lb) : Lay := { ρ with th := fun i => if i = n then tb else ρ.th i,col := fun b => if b = tb then some (.th n) else match ρ.col b with | some l => some l | none => if some b = G then some lb else none }
theorem sY {n tb : Nat} {G : Option Nat} {lb l : Lb} (h : ρ.col b = some l) (hc : ρ.col tb = none) : (ρ.dr n tb G lb).col b = some l := by
 simp only [Lay.dr]; rw [if_neg (fun e => by rw [e,hc] at h; cases h),h]
theorem qg (S : KS) {tb : Nat} (G : Option Nat) (lb : Lb) (hc : ρ.col tb = none) : Agr ρ (ρ.dr S.ths.length tb G lb) S :=
 ⟨rfl,rfl,rfl,fun _ _ => rfl,fun i h => by simp only [Lay.dr]; rw [if_neg (by omega)],fun _ _ => rfl,fun _ _ => rfl,fun _ _ => rfl,fun _ _ => rfl,fun b lb h => sY h hc⟩
theorem jl (ρ : Lay) (n tb : Nat) (G : Option Nat) (lb : Lb) : (ρ.dr n tb G lb).th n = tb := by simp [Lay.dr]
theorem jM {n tb : Nat} {G : Option Nat} {lb : Lb} (h : ρ.col b = none) (h1 : b ≠ tb) (h2 : some b ≠ G) : (ρ.dr n tb G lb).col b = none := by
 simp only [Lay.dr]; rw [if_neg h1,h]
 simp [h2]
theorem qn {e : TypeId} {k n : Nat} {v : Value} {cs : List Value} (h : w.ownsRow 0 e k v n cs) {g : Nat} (hg : v.ownBlock = some g) : g < w.heap.size := by
 obtain ⟨_,c⟩ := h
 rcases c with ⟨c,_⟩ | ⟨l,d,f,rfl,m,j,o⟩
 ·rw [c] at hg; cases hg
 ·cases hg
  exact (Array.getElem?_eq_some_iff.1 j).1
theorem KM.declared (h : KM ρ w S) (hi : KIn S) {tb : Nat} (hc : ρ.col tb = none) (hl : i < S.mds.length) {t : KTh} {x : Nm} (hb : Bk w' tb (thV ρ t)) (hm : MapAt w' (ρ.nm i) ((x,tb) :: ρ.ths (S.md i).names)) {av iv dv : Value}
  (k1 : Bk w' (ρ.md i) (mdV ρ i (S.md i) av iv dv)) (k2 : AF ρ.tr w' (S.md i).acts av) (k3 : RowAt ρ w' 51 1 iv (S.md i).imps.length ((S.md i).imps.map fun y => ρ.mdP (some y)) (.im i))
  (k4 : w'.ownsRow 0 86 1 dv ((S.md i).decl.length + 1) (((S.md i).decl.map fun y => ρ.thP (some y)) ++ [pq tb])) (k5 : ∀ g,dv.ownBlock = some g -> ρ.col g = some (.de i) \/ w.heap.size <= g) (htb : tb < w.heap.size)
  (hs : Sm w w' (fun g => g ≠ tb /\ ρ.col g ≠ some (.nm i) /\ ρ.col g ≠ some (.md i) /\ ρ.col g ≠ some (.de i))) :
  KM (ρ.dr S.ths.length tb dv.ownBlock (.de i)) w' ((S.addTh t).setMd i { S.md i with names := (x,S.ths.length) :: (S.md i).names,decl := (S.md i).decl ++ [S.ths.length] }) := by
 have c := qg S dv.ownBlock (.de i) hc
 have N : ∀ lb : Lb,(lb ≠ .nm i /\ lb ≠ .md i /\ lb ≠ .de i) -> ∀ g,ρ.col g = some lb -> g ≠ tb /\ ρ.col g ≠ some (.nm i) /\ ρ.col g ≠ some (.md i) /\ ρ.col g ≠ some (.de i) := fun lb hlb g hg => by
  refine ⟨fun e => (by rw [e,hc] at hg; cases hg),?_⟩; rw [hg]; obtain ⟨l,m,n⟩ := hlb
  exact ⟨fun e => l (Option.some.inj e),fun e => m (Option.some.inj e),fun e => n (Option.some.inj e)⟩
 have o := hs.size; refine h.turn hi c hs (fun b d => jM (h.fr b (by omega)) (by omega) (fun e => ?_)) (N _ ⟨nofun,nofun,nofun⟩) (N _ ⟨nofun,nofun,nofun⟩) (h.mo_turn hi c hs (N _ ⟨nofun,nofun,nofun⟩)) (fun j hj => ((h.ty j hj).sm hs (N _ ⟨nofun,nofun,nofun⟩) (N _ ⟨nofun,nofun,nofun⟩)).re hi c hj) (fun j hj => ?_)
  (fun j hj => ((h.pr j hj).sm hs (N _ ⟨nofun,nofun,nofun⟩) (N _ ⟨nofun,nofun,nofun⟩) (N _ ⟨nofun,nofun,nofun⟩) (N _ ⟨nofun,nofun,nofun⟩)).re hi c hj) (fun j hj => ?_)
 ·have q := qn k4 e.symm
  omega
 ·rcases vP hj with d | rfl
  ·rw [show ((S.addTh t).setMd i _).th j = S.th j from vb _ _ _ d]
   exact ((h.th j d).sm hs (N _ ⟨nofun,nofun,nofun⟩)).re hi c d
  ·rw [show ((S.addTh t).setMd i _).th S.ths.length = t from xg _ _ _]
   exact ⟨by rw [jl]; exact hb,by rw [jl]; simp [Lay.dr]⟩
 ·have k : j < S.mds.length := by simpa [KS.setMd,KS.addTh] using hj
  by_cases e : j = i
  ·subst e
   rw [show ((S.addTh t).setMd j _).md j = _ from zY _ _ _ hl]; refine ⟨⟨av,iv,dv,k1,k2.weak (fun g hg => c.col _ _ hg),⟨k3.1,fun g hg => c.col _ _ (k3.2 g hg)⟩,?_,fun g hg => ?_⟩,?_,c.col _ _ (h.md j hl).col,c.col _ _ (h.md j hl).coln⟩
   ·simp only [List.map_append,List.map_cons,List.map_nil,la,lc,ln]
    rw [List.map_congr_left (fun y hy => dd c (hi.mdDecl j hl y hy))]
    unfold Lay.thP at k4 ⊢
    rw [show (Option.map (ρ.dr S.ths.length tb dv.ownBlock (.de j)).th (some S.ths.length)) = some tb by rw [Option.map_some,jl]]
    exact k4
   ·rcases k5 g hg with d | d
    ·exact c.col _ _ d
    ·simp only [Lay.dr]
     rw [if_neg (by omega),h.fr g d]
     simp [hg]
   ·have f : (ρ.dr S.ths.length tb dv.ownBlock (.de j)).ths ((x,S.ths.length) :: (S.md j).names) = (x,tb) :: ρ.ths (S.md j).names := by
     rw [<- qt c (hi.mdNames j hl)]; simp only [Lay.ths,List.map_cons,jl]
    show MapAt w' (ρ.nm j) _
    rw [f]
    exact hm
  ·rw [show ((S.addTh t).setMd i _).md j = S.md j from yN _ _ _ e]
   exact ((h.md j k).sm hs (N _ ⟨nofun,nofun,nofun⟩) (N _ ⟨nofun,fun f => by cases f; exact e rfl,nofun⟩) (N _ ⟨nofun,nofun,nofun⟩) (N _ ⟨nofun,nofun,fun f => by cases f; exact e rfl⟩) (N _ ⟨fun f => by cases f; exact e rfl,nofun,nofun⟩)).re hi c k
theorem KM.declaredInner (h : KM ρ w S) (hi : KIn S) {tb : Nat} (hc : ρ.col tb = none) (hl : i < S.prs.length) {t : KTh} {x : Nm} (hb : Bk w' tb (thV ρ t)) (hm : MapAt w' (ρ.inn i) ((x,tb) :: ρ.ths (S.pr i).inner)) (htb : tb < w.heap.size)
  (hs : Sm w w' (fun g => g ≠ tb /\ ρ.col g ≠ some (.inn i))) :
  KM (ρ.dr S.ths.length tb none (.inn i)) w' ((S.addTh t).setPr i { S.pr i with inner := (x,S.ths.length) :: (S.pr i).inner }) := by
 have c := qg S none (.inn i) hc
 have N : ∀ lb : Lb,lb ≠ .inn i -> ∀ g,ρ.col g = some lb -> g ≠ tb /\ ρ.col g ≠ some (.inn i) := fun lb hlb g hg => by
  refine ⟨fun e => (by rw [e,hc] at hg; cases hg),?_⟩; rw [hg]
  exact fun e => hlb (Option.some.inj e)
 have m := hs.size; refine h.turn hi c hs (fun b f => jM (h.fr b (by omega)) (by omega) nofun) (N _ nofun) (N _ nofun) (h.mo_turn hi c hs (N _ nofun)) (fun j hj => ((h.ty j hj).sm hs (N _ nofun) (N _ nofun)).re hi c hj) (fun j hj => ?_)
  (fun j hj => ?_) (fun j hj => ((h.md j hj).sm hs (N _ nofun) (N _ nofun) (N _ nofun) (N _ nofun) (N _ nofun)).re hi c hj)
 ·rcases vP hj with f | rfl
  ·rw [show ((S.addTh t).setPr i _).th j = S.th j from vb _ _ _ f]
   exact ((h.th j f).sm hs (N _ nofun)).re hi c f
  ·rw [show ((S.addTh t).setPr i _).th S.ths.length = t from xg _ _ _]
   exact ⟨by rw [jl]; exact hb,by rw [jl]; simp [Lay.dr]⟩
 ·have d : j < S.prs.length := by simpa [KS.setPr,KS.addTh] using hj
  by_cases e : j = i
  ·subst e
   rw [show ((S.addTh t).setPr j _).pr j = _ from zY _ _ _ hl]; obtain ⟨n,o,q,r,s,l⟩ := (h.pr j hl).bk; refine ⟨⟨n,o,q.sm hs (N (.pr j) nofun _ (h.pr j hl).col),(r.sm hs (N _ nofun)).weak (fun g hg => c.col _ _ hg),?_,fun g hg => c.col _ _ (l g hg)⟩,?_,c.col _ _ (h.pr j hl).col,c.col _ _ (h.pr j hl).coln⟩
   ·rw [List.map_congr_left (fun y hy => dd c (hi.prPars j hl y hy))]
    exact zR s hs (fun g hg => N (.pa j) nofun g (l g hg))
   ·have k : (ρ.dr S.ths.length tb none (.inn j)).ths ((x,S.ths.length) :: (S.pr j).inner) = (x,tb) :: ρ.ths (S.pr j).inner := by
     rw [<- qt c (hi.prInn j hl)]; simp only [Lay.ths,List.map_cons,jl]
    show MapAt w' (ρ.inn j) _
    rw [k]
    exact hm
  ·rw [show ((S.addTh t).setPr i _).pr j = S.pr j from yN _ _ _ e]
   exact ((h.pr j d).sm hs (N _ nofun) (N _ nofun) (N _ nofun) (N _ (fun k => by cases k; exact e rfl))).re hi c d
end
/-! ### Ids in range,and the like,as a question that can be answered -/
def opB (o : Option Nat) (n : Nat) : Bool := match o with | some j => decide (j < n) | none => true
def KS.okTy (S : KS) (t : KTy) : Bool := opB t.of S.tys.length && opB t.home S.mds.length && (t.fields.all fun d => decide (d.ty < S.tys.length)) && (decide (0 <= t.words) && decide (t.words <= 1000000))
def KS.okTh (S : KS) (t : KTh) : Bool := opB t.home S.mds.length && opB t.ty S.tys.length && opB t.proc S.prs.length && opB t.mod S.mds.length && (decide (t.kind ≠ 2) || t.ty.isSome) && (decide (t.kind ≠ 4) || t.proc.isSome)
def KS.okPr (S : KS) (p : KPr) : Bool := decide (p.home < S.mds.length) && opB p.result S.tys.length && (p.pars.all fun j => decide (j < S.ths.length)) && (p.inner.all fun q => decide (q.2 < S.ths.length)) && decide (p.inner.length <= 100000) && decide (p.pars.length <= 100000)
def KS.okMd (S : KS) (m : KMd) : Bool := (m.imps.all fun j => decide (j < S.mds.length)) && (m.decl.all fun j => decide (j < S.ths.length)) && (m.names.all fun q => decide (q.2 < S.ths.length)) && decide (m.names.length <= 100000) && decide (m.decl.length <= 100000) && decide (m.imps.length <= 100000)
def KS.okB (S : KS) : Bool := S.tys.all S.okTy && S.ths.all S.okTh && S.prs.all S.okPr && S.mds.all S.okMd && (S.mods.all fun q => decide (q.2 < S.mds.length)) && decide (2 <= S.ths.length) && decide (3 <= S.tys.length)
def KS.tysB (S : KS) : Bool := (List.range S.tys.length).all fun i => (decide ((S.ty i).form ≠ 4) || ((match (S.ty i).of with | some j => decide (j < i) && decide ((S.ty j).form = 4) | none => true) && (S.ty i).home.isSome)) &&
 (decide ((S.ty i).form ≠ 5) || !(S.ty i).complete || (match (S.ty i).of with | some j => decide ((S.ty j).form = 4) | none => false)) && (decide ((S.ty i).form ≠ 3) || !(S.ty i).complete || (S.ty i).of.isSome)
def KS.fullB (S : KS) : Bool := S.tysB && (S.tys.all fun t => decide (t.form = 2) || t.complete) && (S.ths.all fun t => (decide (t.kind ≠ 3) && decide (t.kind ≠ 1)) || t.ty.isSome) && (S.prs.all fun p => p.pars.all fun x => decide ((S.th x).kind = 3))
section
variable {S : KS}
theorem uN {α : Type} {l : List α} {f : α -> Bool} (h : l.all f = true) {i : Nat} (hi : i < l.length) (d : α) : f ((l[i]?).getD d) = true := by
 rw [List.getElem?_eq_getElem hi]
 exact List.all_eq_true.1 h _ (List.getElem_mem hi)
theorem uw {o : Option Nat} {n j : Nat} (h : opB o n = true) (e : o = some j) : j < n := by
 subst e
 simpa [opB] using h
theorem uk {α : Type} {l : List α} {f : α -> Bool} (h : l.all f = true) {x : α} (hx : x ∈ l) : f x = true := List.all_eq_true.1 h x hx
theorem sK {l : List (Nm × Nat)} {x : Nm} {t : Nat} (h : lk l x = some t) : ∃ q ∈ l,q.2 = t := by
 induction l with
 | nil => cases h
 | cons p r ih =>
  unfold lk at h
  split at h
  ·exact ⟨p,by simp,Option.some.inj h⟩
  ·obtain ⟨q,b,c⟩ := ih h
   exact ⟨q,by simp [b],c⟩
structure OkP (S : KS) : Prop where
 ty : S.tys.all S.okTy = true
 th : S.ths.all S.okTh = true
 pr : S.prs.all S.okPr = true
 md : S.mds.all S.okMd = true
 mods : (S.mods.all fun q => decide (q.2 < S.mds.length)) = true
 two : 2 <= S.ths.length
 three : 3 <= S.tys.length
theorem KS.okP (h : S.okB = true) : OkP S := by
 simp only [KS.okB,Bool.and_eq_true,decide_eq_true_eq] at h; obtain ⟨⟨⟨⟨⟨⟨b,c⟩,d⟩,e⟩,f⟩,g⟩,i⟩ := h
 exact ⟨b,c,d,e,f,g,i⟩
theorem OkP.tyP (h : OkP S) {i : Nat} (hi : i < S.tys.length) : ((opB (S.ty i).of S.tys.length = true /\ opB (S.ty i).home S.mds.length = true) /\ ((S.ty i).fields.all fun d => decide (d.ty < S.tys.length)) = true) /\ (0 <= (S.ty i).words /\ (S.ty i).words <= 1000000) := by
 have : S.okTy (S.ty i) = true := uN h.ty hi ty0
 simpa only [KS.okTy,Bool.and_eq_true,decide_eq_true_eq] using this
theorem OkP.thP (h : OkP S) {i : Nat} (hi : i < S.ths.length) : ((((opB (S.th i).home S.mds.length = true /\ opB (S.th i).ty S.tys.length = true) /\ opB (S.th i).proc S.prs.length = true) /\ opB (S.th i).mod S.mds.length = true) /\ (decide ((S.th i).kind ≠ 2) || (S.th i).ty.isSome) = true) /\ (decide ((S.th i).kind ≠ 4) || (S.th i).proc.isSome) = true := by
 have : S.okTh (S.th i) = true := uN h.th hi th0
 simpa only [KS.okTh,Bool.and_eq_true] using this
theorem OkP.prP (h : OkP S) {i : Nat} (hi : i < S.prs.length) : (((((S.pr i).home < S.mds.length /\ opB (S.pr i).result S.tys.length = true) /\ ((S.pr i).pars.all fun j => decide (j < S.ths.length)) = true) /\ ((S.pr i).inner.all fun q => decide (q.2 < S.ths.length)) = true) /\ (S.pr i).inner.length <= 100000) /\ (S.pr i).pars.length <= 100000 := by
 have : S.okPr (S.pr i) = true := uN h.pr hi pr0
 simpa only [KS.okPr,Bool.and_eq_true,decide_eq_true_eq] using this
theorem OkP.mdP (h : OkP S) {i : Nat} (hi : i < S.mds.length) : (((((((S.md i).imps.all fun j => decide (j < S.mds.length)) = true /\ ((S.md i).decl.all fun j => decide (j < S.ths.length)) = true) /\ ((S.md i).names.all fun q => decide (q.2 < S.ths.length)) = true) /\ (S.md i).names.length <= 100000) /\ (S.md i).decl.length <= 100000) /\ (S.md i).imps.length <= 100000) := by
 have : S.okMd (S.md i) = true := uN h.md hi md0
 simpa only [KS.okMd,Bool.and_eq_true,decide_eq_true_eq] using this
theorem ra {l : List Nat} {n x : Nat} (h : (l.all fun j => decide (j < n)) = true) (hx : x ∈ l) : x < n := by simpa using uk h hx
theorem uU {l : List (Nm × Nat)} {n : Nat} {q : Nm × Nat} (h : (l.all fun q => decide (q.2 < n)) = true) (hx : q ∈ l) : q.2 < n := by simpa using uk h hx
theorem KS.okIn (h : S.okB = true) : KIn S := by
 have h := KS.okP h
 exact ⟨fun i hi j e => uw (h.tyP hi).1.1.1 e,fun i hi j e => uw (h.tyP hi).1.1.2 e,fun i hi d hd => by simpa using uk (h.tyP hi).1.2 hd,
  fun i hi j e => uw (h.thP hi).1.1.1.1.1 e,fun i hi j e => uw (h.thP hi).1.1.1.1.2 e,fun i hi j e => uw (h.thP hi).1.1.1.2 e,fun i hi j e => uw (h.thP hi).1.1.2 e,
  fun i hi => (h.prP hi).1.1.1.1.1,fun i hi j e => uw (h.prP hi).1.1.1.1.2 e,fun i hi j hj => ra (h.prP hi).1.1.1.2 hj,fun i hi q hq => uU (h.prP hi).1.1.2 hq,
  fun i hi j hj => ra (h.mdP hi).1.1.1.1.1 hj,fun i hi j hj => ra (h.mdP hi).1.1.1.1.2 hj,fun i hi q hq => uU (h.mdP hi).1.1.1.2 hq,fun q hq => uU h.mods hq,h.two,h.three⟩
theorem vk {α : Type} {o : Option α} (h : o.isSome = true) : ∃ a,o = some a := Option.isSome_iff_exists.1 h
theorem KS.okOk (h : S.okB = true) : KOk S := by
 have h := KS.okP h; refine ⟨fun m hm x t e => ?_,fun p hp x t e => ?_,fun t ht m e => uw (h.thP ht).1.1.2 e,fun t ht i e => uw (h.thP ht).1.1.1.1.2 e,fun t ht e => ?_,fun t ht e => ?_,h.two,h.three⟩
 ·obtain ⟨q,c,rfl⟩ := sK e
  exact uU (h.mdP hm).1.1.1.2 c
 ·obtain ⟨q,c,rfl⟩ := sK e
  exact uU (h.prP hp).1.1.2 c
 ·have b := (h.thP ht).1.2
  simp only [e,ne_eq,not_true_eq_false,decide_false,Bool.false_or] at b
  exact vk b
 ·have b := (h.thP ht).2
  simp only [e,ne_eq,not_true_eq_false,decide_false,Bool.false_or] at b; obtain ⟨p,d⟩ := vk b
  exact ⟨p,d,uw (h.thP ht).1.1.1.2 d⟩
theorem KS.tysP (h : S.tysB = true) {i : Nat} (hi : i < S.tys.length) : ((decide ((S.ty i).form ≠ 4) || ((match (S.ty i).of with | some j => decide (j < i) && decide ((S.ty j).form = 4) | none => true) && (S.ty i).home.isSome)) = true /\
  (decide ((S.ty i).form ≠ 5) || !(S.ty i).complete || (match (S.ty i).of with | some j => decide ((S.ty j).form = 4) | none => false)) = true) /\ (decide ((S.ty i).form ≠ 3) || !(S.ty i).complete || (S.ty i).of.isSome) = true := by
 have := uk h (List.mem_range.2 hi)
 simpa only [Bool.and_eq_true] using this
theorem KS.tysOk (h : S.okB = true) (h2 : S.tysB = true) : KTys S := by
 have d := KS.okIn h; refine ⟨fun i hi e j ej => ?_,d.tyFd,fun i hi e => ?_,fun i hi e ec => ?_,fun i hi e ec => ?_⟩
 ·have b := (KS.tysP h2 hi).1.1
  rw [ej,e] at b; simp only [ne_eq,not_true_eq_false,decide_false,Bool.false_or,Bool.and_eq_true,decide_eq_true_eq] at b
  exact b.1
 ·have b := (KS.tysP h2 hi).1.1
  rw [e] at b; simp only [ne_eq,not_true_eq_false,decide_false,Bool.false_or,Bool.and_eq_true] at b; obtain ⟨m,c⟩ := vk b.2
  exact ⟨m,c,d.tyHome i hi m c⟩
 ·have b := (KS.tysP h2 hi).1.2
  rw [e,ec] at b; cases f : (S.ty i).of with
  | none => rw [f] at b; simp at b
  | some j => rw [f] at b; exact ⟨j,rfl,d.tyOf i hi j f,by simpa using b⟩
 ·have b := (KS.tysP h2 hi).2
  rw [e,ec] at b; simp only [ne_eq,not_true_eq_false,decide_false,Bool.false_or,Bool.not_true] at b; obtain ⟨m,c⟩ := vk b
  exact ⟨m,c,d.tyOf i hi m c⟩
theorem KS.full (h : S.okB = true) (h2 : S.fullB = true) : KAll S /\ KFull S /\ KPrs S := by
 have d := KS.okIn h; simp only [KS.fullB,Bool.and_eq_true] at h2; obtain ⟨⟨⟨f,g⟩,j⟩,k⟩ := h2; refine ⟨{ KS.tysOk h f with cp := fun i hi e => ?_ },fun t ht e => ?_,⟨fun p hp x hx => ⟨d.prPars p hp x hx,?_⟩,d.prRes⟩⟩
 ·have c : (decide ((S.ty i).form = 2) || (S.ty i).complete) = true := uN g hi ty0
  rcases (Bool.or_eq_true _ _ ▸ c : _ \/ _) with b | b
  ·exact absurd (by simpa using b) e
  ·exact b
 ·have c := uN j ht th0
  rcases (Bool.or_eq_true _ _ ▸ c : _ \/ _) with b | b
  ·simp only [Bool.and_eq_true,decide_eq_true_eq] at b
   rcases e with e | e
   ·exact absurd e b.1
   ·exact absurd e b.2
  ·exact vk b
 ·simpa using uk (uN k hp pr0) hx
end
/-! ### Declarations -/
def xC (S : KS) : Option KS := if S.okB = true then some S else none
theorem yn {S S' : KS} (h : xC S = some S') : S' = S /\ S.okB = true := by
 unfold xC at h
 split at h
 ·exact ⟨(Option.some.inj h).symm,by assumption⟩
 ·cases h
def uS {α : Type} (r : CR α) : Option α := match r with
 | .ok a => some a
 | .error _ => none
theorem qf {α : Type} {r : CR α} {a : α} (h : uS r = some a) : r = .ok a := by
 cases r with
 | ok b => cases h; rfl
 | error e => cases h
def zX (f : KS -> T -> Option KS) : List T -> KS -> Option KS
 | [],S => some S
 | x :: r,S => (f S x).bind (zX f r)
def xm (f : KS -> Int -> T -> Option (KS × Int)) : List T -> KS -> Int -> Option (KS × Int)
 | [],S,k => some (S,k)
 | x :: r,S,k => (f S k x).bind fun p => xm f r p.1 p.2
def KS.typeO (S : KS) (c : KSc) (n : T) : Option Nat := if n.kind = 0 then none else uS (S.typeName c n)
def KS.oneO (S : KS) (c : KSc) (n : T) : Option Nat := if n.kind = 0 then none else uS (S.oneWordType c n)
def KS.namedO (S : KS) (c : KSc) (n : T) : Option Nat := if n.kind = 0 then none else uS (S.namedType c n)
theorem kD {S : KS} {c : KSc} {n : T} {t : Nat} (h : S.typeO c n = some t) : n.kind ≠ 0 /\ S.typeName c n = .ok t := by
 unfold KS.typeO at h
 split at h
 ·cases h
 ·exact ⟨by assumption,qf h⟩
theorem ab {S : KS} {c : KSc} {n : T} {t : Nat} (h : S.oneO c n = some t) : n.kind ≠ 0 /\ S.oneWordType c n = .ok t := by
 unfold KS.oneO at h
 split at h
 ·cases h
 ·exact ⟨by assumption,qf h⟩
theorem mE {S : KS} {c : KSc} {n : T} {t : Nat} (h : S.namedO c n = some t) : n.kind ≠ 0 /\ S.namedType c n = .ok t := by
 unfold KS.namedO at h
 split at h
 ·cases h
 ·exact ⟨by assumption,qf h⟩
def ndB : List (Nm × Nat) -> Bool
 | [] => true
 | p :: r => (lk r p.1).isNone && ndB r
def KS.declC (S : KS) (m : Nat) (n : T) (t : KTh) : Option KS := match lk (S.md m).names n.name,lk ym n.name with
 | none,none => xC ((S.addTh { t with name := n.name,exp := (n.num == 1),home := some m }).setMd m { S.md m with names := (n.name,S.ths.length) :: (S.md m).names,decl := (S.md m).decl ++ [S.ths.length] })
 | _,_ => none
def KS.innerC (S : KS) (p : Nat) (n : T) (t : KTh) : Option KS := match lk (S.pr p).inner n.name,lk ym n.name with
 | none,none => xC ((S.addTh { t with kind := 3,name := n.name }).setPr p { S.pr p with inner := (n.name,S.ths.length) :: (S.pr p).inner })
 | _,_ => none
def KS.importC (m : Nat) (S : KS) (n : T) : Option KS := match lk S.mods n.name,lk (S.md m).names n.name with
 | some q,none => xC ((S.addTh { th0 with mod := some q }).setMd m { S.md m with names := (n.name,S.ths.length) :: (S.md m).names,imps := (S.md m).imps ++ [q] })
 | _,_ => none
def cvF : Nat -> T -> Option Int
 | 0,_ => none
 | f + 1,.mk k x m _ l => match l with
  | [] => if k = 29 /\ x = [] /\ 0 <= m /\ m <= 1000 then some m else none
  | [u,v] => if k = 36 /\ m = 0 then (match cvF f u,cvF f v with
   | some a,some e => if x = [43] /\ a + e <= 1000 then some (a + e) else if x = [42] /\ a * e <= 1000 then some (a * e) else none
   | _,_ => none) else none
  | _ => none
theorem fC : ∀ (f : Nat) (n : T) (a : Int),cvF f n = some a -> CV n a
 | 0,_,_,h => by cases h
 | f + 1,.mk k x m p l,a,h => by
  unfold cvF at h
  split at h
  ·split at h
   ·rename_i h9
    obtain ⟨rfl,rfl,h0,h1⟩ := h9; cases h
    exact .num m p h0 h1
   ·cases h
  ·rename_i u v
   split at h
   ·rename_i h9
    obtain ⟨rfl,rfl⟩ := h9
    split at h
    ·rename_i a e ha he
     split at h
     ·rename_i h8
      obtain ⟨rfl,h8⟩ := h8; cases h
      exact .add p u v a e (fC f u a ha) (fC f v e he) h8
     ·split at h
      ·rename_i h8
       obtain ⟨rfl,h8⟩ := h8; cases h
       exact .mul p u v a e (fC f u a ha) (fC f v e he) h8
      ·cases h
    ·cases h
   ·cases h
  ·cases h
def KS.constC (m : Nat) (S : KS) (n : T) : Option KS := (S.declC m n { th0 with kind := 1 }).bind fun S1 => (cvF 20 (sub n 0)).bind fun a => xC (S1.setTh S.ths.length { S1.th S.ths.length with ty := some 0,value := a,valued := true })
def rx (n : T) : Int := if n.kind = 9 then 3 else if n.kind = 10 then 4 else 5
def KS.typeC (m : Nat) (S : KS) (n : T) : Option KS := (xC (S.addTy { ty0 with form := rx (sub n 0),name := n.name,home := some m })).bind fun S1 => S1.declC m n { th0 with kind := 2,ty := some S.tys.length }
def KS.fieldC (c : KSc) (i : Nat) (S : KS) (x : T) : Option KS := if S.tysB = true /\ (S.ty i).fields.length <= 1000 then (match S.field i x.name with
 | some _ => none
 | none => (S.typeO c (sub x 0)).bind fun j => xC (S.setTy i { S.ty i with fields := (S.ty i).fields ++ [⟨x.name,x.num == 1,j,(S.ty i).words⟩],words := (S.ty i).words + (S.ty j).words })) else none
def KS.fillRecordC (S : KS) (c : KSc) (i : Nat) (n : T) : Option KS := (if (sub n 0).kind = 0 then some S else (S.typeO c (sub n 0)).bind fun j => (uS (S.record (sub n 0) j)).bind fun j => xC (S.setTy i { S.ty i with of := some j,words := (S.ty j).words })).bind (zX (KS.fieldC c i) (n.subs.drop 1))
def KS.fillC (S : KS) (c : KSc) (i : Nat) (n : T) : Option KS := if (S.ty i).form = 3 then (if 1 <= n.num /\ n.num <= 64 then (S.typeO c (sub n 0)).bind fun j => xC (S.setTy i { S.ty i with of := some j,places := n.num,words := n.num * (S.ty j).words }) else none)
 else if (S.ty i).form = 4 then (if 2 <= n.subs.length then S.fillRecordC c i n else none)
 else if (S.ty i).form = 5 then (S.namedO c (sub n 0)).bind fun j => (uS (S.record (sub n 0) j)).bind fun j => xC (S.setTy i { S.ty i with of := some j,words := 1 }) else none
def KS.filledC (m : Nat) (S : KS) (n : T) : Option KS := match lk (S.md m).names n.name with
 | some t => if (S.th t).kind = 2 then (S.fillC ⟨m,none⟩ ((S.th t).ty.getD 0) (sub n 0)).bind fun S1 => if (S1.ty ((S.th t).ty.getD 0)).words <= 512 then xC (S1.setTy ((S.th t).ty.getD 0) { S1.ty ((S.th t).ty.getD 0) with complete := true }) else none else none
 | none => none
def KS.varC (m : Nat) (S : KS) (k : Int) (n : T) : Option (KS × Int) := (S.declC m n { th0 with kind := 3,first := k }).bind fun S1 => (S1.typeO ⟨m,none⟩ (sub n 0)).bind fun j => (xC (S1.setTh S.ths.length { S1.th S.ths.length with ty := some j })).bind fun S2 =>
 if k + (S1.ty j).words <= 512 then some (S2,k + (S1.ty j).words) else none
def KS.parC (m p : Nat) (S : KS) (n : T) : Option KS := if ndB (S.pr p).inner = false then none else (S.innerC p n { th0 with first := (S.pr p).inner.length,byVar := (n.num == 1) }).bind fun S1 =>
 (if n.num = 1 then S1.typeO ⟨m,some p⟩ (sub n 0) else S1.oneO ⟨m,some p⟩ (sub n 0)).bind fun j => (xC (S1.setTh S.ths.length { S1.th S.ths.length with ty := some j })).bind fun S2 =>
 xC (S2.setPr p { S2.pr p with pars := (S2.pr p).pars ++ [S.ths.length] })
def KS.headC (m : Nat) (S : KS) (n : T) : Option KS := (xC (S.addPr { pr0 with home := m,acts := (sub n 3).subs })).bind fun S1 => (S1.declC m n { th0 with kind := 4,proc := some S.prs.length }).bind fun S2 =>
 (zX (KS.parC m S.prs.length) (sub n 0).subs S2).bind fun S3 => if (sub n 1).kind = 0 then some S3 else (S3.oneO ⟨m,some S.prs.length⟩ (sub n 1)).bind fun j => xC (S3.setPr S.prs.length { S3.pr S.prs.length with result := some j })
def KS.innVarC (m p : Nat) (S : KS) (k : Int) (n : T) : Option (KS × Int) := (S.typeO ⟨m,some p⟩ (sub n 0)).bind fun j => (S.innerC p n { th0 with first := k,ty := some j }).bind fun S1 => if k + (S.ty j).words <= 512 then some (S1,k + (S.ty j).words) else none
def dI : Nat -> Rule -> T -> Bool
 | 0,_,_ => false
 | f + 1,r,t => match yi r t with
  | none => false
  | some l => l.all fun p => dI f p.2 p.1
theorem fN : ∀ (f : Nat) (r : Rule) (t : T),dI f r t = true -> Well r t
 | 0,_,_,h => by cases h
 | f + 1,r,t,h => by
  unfold dI at h
  split at h
  ·cases h
  ·rename_i l hl
   exact .mk l hl (fun p hp => fN f p.2 p.1 (List.all_eq_true.1 h p hp))
def dpF : Nat -> T -> Bool
 | 0,_ => false
 | f + 1,t => t.subs.all (dpF f)
theorem qo {f : Nat} : ∀ (l : List T),(∀ u ∈ l,yf u <= f) -> uX l <= f
 | [],_ => by rw [uX]; exact Nat.zero_le _
 | t :: l,h => by
  rw [uX]
  exact Nat.max_le.2 ⟨h t (by simp),qo l (fun u hu => h u (by simp [hu]))⟩
theorem qJ : ∀ (f : Nat) (t : T),dpF f t = true -> yf t <= f
 | 0,_,h => by cases h
 | f + 1,.mk k x m p l,h => by
  unfold dpF at h
  have h9 := qo (f := f) l (fun u hu => qJ f u (List.all_eq_true.1 h u hu)); rw [yf]
  omega
def vR (l : List T) : Bool := l.all fun n => dI 9000 .act n && dpF 9000 n
theorem dW {l : List T} (h : vR l = true) : ∀ n ∈ l,Well .act n /\ yf n <= 9000 /\ yf n <= 9000 := fun n hn => by
 have h9 := List.all_eq_true.1 h n hn; rw [Bool.and_eq_true] at h9
 exact ⟨fN _ _ _ h9.1,qJ _ _ h9.2,qJ _ _ h9.2⟩
def KS.actsO (S : KS) (c : KSc) (res : Option Nat) (l : List T) : Option KS := if S.fullB = true /\ vR l = true then (uS (S.actsF c (S.level c 9000) res 9000 l)).bind fun _ => some S else none
def KS.procC (m p : Nat) (S : KS) (n : T) : Option KS := if ndB (S.pr p).inner = false \/ (S.pr p).home ≠ m then none else (xm (KS.innVarC m p) (sub n 2).subs S (S.pr p).inner.length).bind fun q => (xC (q.1.setPr p { q.1.pr p with words := q.2 })).bind fun S1 => S1.actsO ⟨m,some p⟩ (S1.pr p).result (S1.pr p).acts
def xK (m : Nat) : Nat -> List T -> KS -> Option KS
 | _,[],S => some S
 | p,n :: r,S => (S.procC m p n).bind (xK m (p + 1) r)
def ks0 : KS := ⟨[⟨0,yL,none,1,0,none,[],true⟩,⟨1,yO,none,1,0,none,[],true⟩,⟨2,[],none,0,0,none,[],false⟩],[{ th0 with kind := 2,ty := some 0 },{ th0 with kind := 2,ty := some 1 }],[],[],[]⟩
theorem aW : ks0.okB = true := by decide
def Kp (ρ : Lay) (k : Prop) (g : Nat) : Prop := ρ.col g = none \/ ρ.col g = some .tr \/ (ρ.col g = some .ck /\ k)
structure Stp (k : Prop) (ρ : Lay) (w : World) (S : KS) (ρ' : Lay) (w' : World) (S' : KS) : Prop where
 km : KM ρ' w' S'
 ok : S'.okB = true
 agr : Agr ρ ρ' S
 col : ∀ g,g < w.heap.size -> ρ'.col g = ρ.col g
 sm : Sm w w' (Kp ρ k)
 tys : S.tys.length <= S'.tys.length
 ths : S.ths.length <= S'.ths.length
 prs : S.prs.length <= S'.prs.length
 mds : S.mds.length <= S'.mds.length
section
variable {ρ ρ' ρ1 : Lay} {w w' w0 w1 : World} {S S' S1 : KS} {k k' : Prop} {b : Nat} {c : KSc}
theorem Agr.trans (h : Agr ρ ρ1 S) (h2 : Agr ρ1 ρ' S1) (a : S.tys.length <= S1.tys.length) (b : S.ths.length <= S1.ths.length) (c : S.prs.length <= S1.prs.length) (d : S.mds.length <= S1.mds.length) : Agr ρ ρ' S :=
 ⟨h2.wd.trans h.wd,h2.ba.trans h.ba,h2.mo.trans h.mo,fun i hi => (h2.ty i (by omega)).trans (h.ty i hi),fun i hi => (h2.th i (by omega)).trans (h.th i hi),fun i hi => (h2.pr i (by omega)).trans (h.pr i hi),fun i hi => (h2.inn i (by omega)).trans (h.inn i hi),fun i hi => (h2.md i (by omega)).trans (h.md i hi),fun i hi => (h2.nm i (by omega)).trans (h.nm i hi),fun b lb hb => h2.col b lb (h.col b lb hb)⟩
theorem Stp.trans (h : Stp k ρ w S ρ1 w1 S1) (h2 : Stp k ρ1 w1 S1 ρ' w' S') : Stp k ρ w S ρ' w' S' where
 km := h2.km
 ok := h2.ok
 agr := h.agr.trans h2.agr h.tys h.ths h.prs h.mds
 col := fun g hg => (h2.col g (Nat.lt_of_lt_of_le hg h.sm.size)).trans (h.col g hg)
 sm := by
  have d := h.sm.size; refine ⟨h2.sm.os.trans h.sm.os,h2.sm.tape.trans h.sm.tape,h2.sm.output.trans h.sm.output,Nat.le_trans d h2.sm.size,fun b hb hB => ?_⟩; refine (h2.sm.block b (by omega) ?_).trans (h.sm.block b hb hB)
  unfold Kp at hB ⊢
  rw [h.col b hb]
  exact hB
 tys := Nat.le_trans h.tys h2.tys
 ths := Nat.le_trans h.ths h2.ths
 prs := Nat.le_trans h.prs h2.prs
 mds := Nat.le_trans h.mds h2.mds
theorem Stp.refl (h : KM ρ w S) (hk : S.okB = true) : Stp k ρ w S ρ w S := ⟨h,hk,Agr.refl ρ S,fun _ _ => rfl,Sm.refl w _,Nat.le_refl _,Nat.le_refl _,Nat.le_refl _,Nat.le_refl _⟩
theorem Stp.ahead (hg : w0.grownBy w none) (h : Stp k ρ w S ρ' w' S') : Stp k ρ w0 S ρ' w' S' := ⟨h.km,h.ok,h.agr,fun g hl => h.col g (Nat.lt_of_lt_of_le hl hg.size),(Sm.of_none hg _).trans h.sm,h.tys,h.ths,h.prs,h.mds⟩
theorem Stp.behind (h : Stp k ρ w S ρ' w1 S') (hg : w1.grownBy w' none) : Stp k ρ w S ρ' w' S' := ⟨h.km.up hg,h.ok,h.agr,h.col,h.sm.trans (Sm.of_none hg _),h.tys,h.ths,h.prs,h.mds⟩
theorem CK.step (h : CK ρ w S b c) (hs : Stp True ρ w S ρ' w' S') (hb : ρ.col b = some .ck) : CK ρ' w' S' b c := by
 have d : Kp ρ True b := .inr (.inr ⟨hb,trivial⟩); refine ⟨hs.km,KS.okOk hs.ok,?_,?_,?_,Nat.lt_of_lt_of_le h.hc hs.mds,fun p d => Nat.lt_of_lt_of_le (h.hi p d) hs.prs⟩
 ·rw [hs.agr.wd]; exact hs.sm.cell h.s0 d
 ·rw [hs.agr.md _ h.hc]; exact hs.sm.cell h.s1 d
 ·rw [qu (fun i hi => hs.agr.inn i (h.hi i hi))]; exact hs.sm.cell h.s2 d
theorem AF.step {ts : List T} {v : Value} (h : AF ρ.tr w ts v) (hs : Stp k ρ w S ρ' w' S') : AF ρ'.tr w' ts v := (h.sm hs.sm (fun _g hg => .inr (.inl hg))).weak (fun _g hg => hs.agr.col _ _ hg)
theorem kJ {m : Nat} {n : T} {t : KTh} (h : S.declC m n t = some S') : lk (S.md m).names n.name = none /\ lk ym n.name = none /\ S' = ((S.addTh { t with name := n.name,exp := (n.num == 1),home := some m }).setMd m { S.md m with names := (n.name,S.ths.length) :: (S.md m).names,decl := (S.md m).decl ++ [S.ths.length] }) /\ S'.okB = true := by
 unfold KS.declC at h
 split at h
 ·rename_i h1 h2
  obtain ⟨rfl,d⟩ := yn h
  exact ⟨h1,h2,rfl,d⟩
 ·cases h
theorem yP {p : Nat} {n : T} {t : KTh} (h : S.innerC p n t = some S') : lk (S.pr p).inner n.name = none /\ lk ym n.name = none /\ S' = ((S.addTh { t with kind := 3,name := n.name }).setPr p { S.pr p with inner := (n.name,S.ths.length) :: (S.pr p).inner }) /\ S'.okB = true := by
 unfold KS.innerC at h
 split at h
 ·rename_i h1 h2
  obtain ⟨rfl,d⟩ := yn h
  exact ⟨h1,h2,rfl,d⟩
 ·cases h
theorem qs {m : Nat} {n : T} {t : KTh} (h : S.declC m n t = some S') : S.ths.length < S'.ths.length := by
 obtain ⟨-,-,rfl,-⟩ := kJ h
 simp [KS.addTh,KS.setMd]
theorem ji {p : Nat} {n : T} {t : KTh} (h : S.innerC p n t = some S') : S.ths.length < S'.ths.length := by
 obtain ⟨-,-,rfl,-⟩ := yP h
 simp [KS.addTh,KS.setPr]
theorem vB (hg : w0.grownBy w none) (h : CK ρ w S b c) (hk : S.okB = true) (hcb : ρ.col b = some .ck) (n : T) (sv : Value) (hf : Fits n) {tb : Nat} {t : KTh} (hb : Bk w tb (thV ρ t)) (hc : ρ.col tb = none) (h0 : w0.heap.size <= tb) (hd : S.declC c.home n t = some S') :
  Calls Tryz.prog 70 #[pq b,zo n sv,pq tb] w (fun e w' => e = .returned (.tuple #[]) /\ ∃ ρ',Stp True ρ w0 S ρ' w' S' /\ ρ'.th S.ths.length = tb /\ Bk w' tb (thV ρ' (S'.th S.ths.length)) /\ Sm w w' (fun g => Kp ρ True g /\ g ≠ tb)) := by
 obtain ⟨r,s,rfl,u⟩ := kJ hd; have m := (KS.okP hk).mdP h.hc; refine (qb h n sv hf (KS.okIn hk) hcb (Nat.lt_of_le_of_lt m.1.1.2 (by decide)) (Nat.le_trans m.1.2 (by decide)) hb hc).mono ?_; rintro e w' (⟨f | f,-⟩ | ⟨-,-,rfl,o,v,⟨D,E,F,x,z,A,B,q⟩,i⟩)
 ·exact absurd r f
 ·exact absurd s f
 have j := hb.lt; have K := h.km.declared (KS.okIn hk) hc h.hc o v x z A B q j i; refine ⟨rfl,_,⟨K,u,qg S _ _ hc,fun g hl => ?_,?_,Nat.le_refl _,?_,Nat.le_refl _,?_⟩,jl _ _ _ _ _,?_,?_⟩
 ·have C := hg.size
  cases l : ρ.col g with
  | some lb => exact sY l hc
  | none =>
   refine jM l (by omega) (fun e => ?_)
   rcases q g e.symm with f | f
   ·rw [l] at f; cases f
   ·omega
 ·refine ⟨i.os.trans hg.os,i.tape.trans hg.tape,i.output.trans hg.output,Nat.le_trans hg.size i.size,fun g hl d => ?_⟩
  have C := hg.size; refine (i.block g (by omega) ⟨by omega,?_⟩).trans (hg.block g hl (by simp))
  rcases d with d | d | ⟨d,-⟩ <;> rw [d] <;> exact ⟨nofun,nofun,nofun⟩
 ·simp [KS.addTh,KS.setMd]
 ·simp [KS.addTh,KS.setMd]
 ·rw [show ((S.addTh _).setMd c.home _).th S.ths.length = _ from xg _ _ _]
  exact o
 ·refine i.mono (fun g _ d => ⟨d.2,?_⟩)
  rcases d.1 with d | d | ⟨d,-⟩ <;> rw [d] <;> exact ⟨nofun,nofun,nofun⟩
theorem sT (hg : w0.grownBy w none) (h : CK ρ w S b c) (hk : S.okB = true) (n : T) (sv : Value) (hf : Fits n) {tb q : Nat} {t : KTh} (hin : c.inner = some q) (hb : Bk w tb (thV ρ t)) (hc : ρ.col tb = none) (h0 : w0.heap.size <= tb) (hd : S.innerC q n t = some S') :
  Calls Tryz.prog 109 #[pq b,zo n sv,pq tb] w (fun e w' => e = .returned (.tuple #[]) /\ ∃ ρ',Stp True ρ w0 S ρ' w' S' /\ ρ'.th S.ths.length = tb /\ Bk w' tb (thV ρ' (S'.th S.ths.length)) /\ Sm w w' (fun g => g ≠ tb /\ ρ.col g ≠ some (.inn q))) := by
 obtain ⟨o,r,rfl,s⟩ := yP hd; have i := h.hi q hin; have u := (KS.okP hk).prP i; refine (ur h n sv hf (KS.okIn hk) hin (Nat.lt_of_le_of_lt u.1.2 (by decide)) hb hc).mono ?_; rintro e w' (⟨j | j,-⟩ | ⟨-,-,rfl,m,v,x⟩)
 ·exact absurd o j
 ·exact absurd r j
 have l := hb.lt; have f : Sm w w' (fun g => g ≠ tb /\ ρ.col g ≠ some (.inn q)) := x.mono (fun g _ d => ⟨d.1,fun e => d.2 (by rw [e]; exact (h.km.pr q i).coln)⟩); have K := h.km.declaredInner (KS.okIn hk) hc i m v l f; refine ⟨rfl,_,⟨K,s,qg S _ _ hc,fun g hl => ?_,?_,Nat.le_refl _,?_,?_,Nat.le_refl _⟩,jl _ _ _ _ _,?_,?_⟩
 ·have z := hg.size
  cases i : ρ.col g with
  | some lb => exact sY i hc
  | none => exact jM i (by omega) nofun
 ·refine ⟨f.os.trans hg.os,f.tape.trans hg.tape,f.output.trans hg.output,Nat.le_trans hg.size f.size,fun g hl d => ?_⟩
  have z := hg.size; refine (f.block g (by omega) ⟨by omega,?_⟩).trans (hg.block g hl (by simp))
  rcases d with d | d | ⟨d,-⟩ <;> rw [d] <;> nofun
 ·simp [KS.addTh,KS.setPr]
 ·simp [KS.addTh,KS.setPr]
 ·rw [show ((S.addTh _).setPr q _).th S.ths.length = _ from xg _ _ _]
  exact m
 ·exact f
theorem Stp.setTh (h : Stp k ρ w S ρ' w1 S1) {i : Nat} {t : KTh} (hl : i < S1.ths.length) (hs : Sm w1 w' (fun g => g ≠ ρ'.th i)) (h0 : w.heap.size <= ρ'.th i) (hb : Bk w' (ρ'.th i) (thV ρ' t)) (hk : (S1.setTh i t).okB = true) : Stp k ρ w S ρ' w' (S1.setTh i t) where
 km := h.km.setTh (KS.okIn h.ok) hl (hs.mono (fun g _ hg e => hg (by rw [e]; exact (h.km.th i hl).col))) hb
 ok := hk
 agr := h.agr
 col := h.col
 sm := by
  have d := h.sm.size
  exact ⟨hs.os.trans h.sm.os,hs.tape.trans h.sm.tape,hs.output.trans h.sm.output,Nat.le_trans d hs.size,fun b hb hB => (hs.block b (by omega) (by omega)).trans (h.sm.block b hb hB)⟩
 tys := h.tys
 ths := by simpa [KS.setTh] using h.ths
 prs := h.prs
 mds := h.mds
theorem Kp.ne (h : Kp ρ k b) {g : Nat} {lb : Lb} (hg : ρ.col g = some lb) (h1 : lb ≠ .tr) (h2 : lb ≠ .ck) : b ≠ g := by
 rintro rfl
 rcases h with h | h | ⟨h,-⟩ <;> rw [hg] at h
 ·cases h
 ·exact h1 (Option.some.inj h)
 ·exact h2 (Option.some.inj h)
theorem Stp.smTurn (h : Stp k ρ w S ρ' w1 S1) {g : Nat} {lb : Lb} (hg : ρ'.col g = some lb) (h1 : lb ≠ .tr) (h2 : lb ≠ .ck) (hs : Sm w1 w' (fun b => b ≠ g)) : Sm w w' (Kp ρ k) := by
 have d := h.sm.size; refine ⟨hs.os.trans h.sm.os,hs.tape.trans h.sm.tape,hs.output.trans h.sm.output,Nat.le_trans d hs.size,fun b hb hB => (hs.block b (by omega) ?_).trans (h.sm.block b hb hB)⟩; refine Kp.ne (ρ := ρ') (k := k) ?_ hg h1 h2
 unfold Kp at hB ⊢
 rw [h.col b hb]
 exact hB
theorem Stp.words (h : Stp k ρ w S ρ' w1 S1) {i : Nat} {z : Int} (hl : i < S1.mds.length) (hk : (S1.setMd i { S1.md i with words := z }).okB = true) : Stp k ρ w S ρ' (w1.setCell ⟨ρ'.md i,4,none⟩ (.int .i64 z)) (S1.setMd i { S1.md i with words := z }) := by
 have M := h.km.md i hl; have d : Sm w1 (w1.setCell ⟨ρ'.md i,4,none⟩ (.int .i64 z)) (fun g => g ≠ ρ'.md i) := (Sm.refl w1 _).put (fun h9 => h9 rfl) _ _
 have N : ∀ lb : Lb,lb ≠ .md i -> ∀ g,ρ'.col g = some lb -> g ≠ ρ'.md i := fun lb hlb g hg e => hlb (by rw [e,M.col] at hg; exact (Option.some.inj hg).symm)
 obtain ⟨l,m,n,o,q,f,j⟩ := M.bk
 refine ⟨h.km.setMd (KS.okIn h.ok) (Agr.refl _ _) hl (d.mono (fun g _ hg e => hg.1 (by rw [e]; exact M.col))) (fun b hb => h.km.fr b (Nat.le_trans d.size hb)) ⟨⟨l,m,n,o.set 4 _,q.sm d (N _ nofun),⟨zR f.1 d (fun g hg => N (.im i) nofun g (f.2 g hg)),f.2⟩,zR j.1 d (fun g hg => N (.de i) nofun g (j.2 g hg)),j.2⟩,M.mp.sm d (N (.nm i) nofun _ M.coln),M.col,M.coln⟩,
  hk,h.agr,h.col,h.smTurn M.col nofun nofun d,h.tys,h.ths,h.prs,by simpa [KS.setMd] using h.mds⟩
theorem AF.node {P : Nat -> Prop} {ts : List T} {a : Option Addr} {n cp : Nat} (h : AF P w ts (.slice a n cp)) {j : Nat} {v : T} (hv : ts[j]? = some v) : ∃ g o sw,a = some ⟨g,o,none⟩ /\ P g /\ Node5 w g (o + j * 5) v sw /\ Fits v /\ AF P w v.subs sw := by
 cases h with
 | nil _ _ _ => simp at hv
 | mk _ g o _ svs hl h1 h2 hp cells sub =>
  obtain ⟨e,-⟩ := List.getElem?_eq_some_iff.1 hv; have d : svs[j]? = some svs[j] := List.getElem?_eq_getElem (by omega)
  exact ⟨g,o,svs[j],rfl,hp,(cells j v _ hv d).1,(cells j v _ hv d).2,sub j v _ hv d⟩
theorem vS {f : KS -> T -> Option KS} {l : List T} {j : Nat} {v : T} (hv : l[j]? = some v) (h : zX f (l.drop j) S = some S') : ∃ S1,f S v = some S1 /\ zX f (l.drop (j + 1)) S1 = some S' := by
 obtain ⟨d,rfl⟩ := List.getElem?_eq_some_iff.1 hv; rw [List.drop_eq_getElem_cons d] at h
 unfold zX at h
 exact Option.bind_eq_some_iff.1 h
theorem nj {f : KS -> Int -> T -> Option (KS × Int)} {l : List T} {j : Nat} {v : T} {z : Int} {q : KS × Int} (hv : l[j]? = some v) (h : xm f (l.drop j) S z = some q) : ∃ p,f S z v = some p /\ xm f (l.drop (j + 1)) p.1 p.2 = some q := by
 obtain ⟨d,rfl⟩ := List.getElem?_eq_some_iff.1 hv; rw [List.drop_eq_getElem_cons d] at h
 unfold xm at h
 exact Option.bind_eq_some_iff.1 h
theorem mQ {f : KS -> Int -> T -> Option (KS × Int)} {l : List T} {j : Nat} {z : Int} {q : KS × Int} (hj : l.length <= j) (h : xm f (l.drop j) S z = some q) : q = (S,z) := by
 rw [List.drop_eq_nil_of_le hj] at h
 exact (Option.some.inj h).symm
theorem pd {n : T} (h : (sub n 0).kind ≠ 0) : ∃ u r,n.subs = u :: r /\ sub n 0 = u := by
 unfold Go.Proofs.YtnmkffjklpfflaaGreatDoor.sub at *
 cases d : n.subs with
 | nil => rw [d] at h; exact absurd rfl h
 | cons u r => exact ⟨u,r,rfl,rfl⟩
theorem bF {m : Nat} {n : T} {z : Int} {p : KS × Int} (h : KS.varC m S z n = some p) : ∃ S1 t u r,S.declC m n { th0 with kind := 3,first := z } = some S1 /\ n.subs = u :: r /\ S1.typeName ⟨m,none⟩ u = .ok t /\ p.1 = S1.setTh S.ths.length { S1.th S.ths.length with ty := some t } /\ p.1.okB = true /\ p.2 = z + (S1.ty t).words /\ p.2 <= 512 := by
 obtain ⟨S1,i,j⟩ := Option.bind_eq_some_iff.1 h; obtain ⟨t,l,o⟩ := Option.bind_eq_some_iff.1 j; obtain ⟨_,q,d⟩ := Option.bind_eq_some_iff.1 o; obtain ⟨s,g⟩ := kD l; obtain ⟨u,r,v,e⟩ := pd s; rw [e] at g; obtain ⟨rfl,f⟩ := yn q
 split at d
 ·rename_i h12
  cases d
  exact ⟨S1,t,u,r,i,v,g,rfl,f,rfl,h12⟩
 ·cases d
theorem uD {f : KS -> T -> Option KS} {l : List T} {j : Nat} (hj : l.length <= j) (h : zX f (l.drop j) S = some S') : S' = S := by
 rw [List.drop_eq_nil_of_le hj] at h
 exact (Option.some.inj h).symm
theorem zam {f : Nat} {n : T} {z : Int} (h : cvF f (sub n 0) = some z) : ∃ u r,n.subs = u :: r /\ CV u z := by
 have d := fC _ _ _ h
 unfold Go.Proofs.YtnmkffjklpfflaaGreatDoor.sub at d
 cases e : n.subs with
 | nil => rw [e] at d; exact absurd d (by intro g; cases g)
 | cons u r => rw [e] at d; exact ⟨u,r,rfl,d⟩
theorem mN {m : Nat} {n : T} (h : S.constC m n = some S') : ∃ S1 z u r,S.declC m n { th0 with kind := 1 } = some S1 /\ n.subs = u :: r /\ CV u z /\ S' = S1.setTh S.ths.length { S1.th S.ths.length with ty := some 0,value := z,valued := true } /\ S'.okB = true := by
 obtain ⟨S1,d,e⟩ := Option.bind_eq_some_iff.1 h; obtain ⟨z,f,g⟩ := Option.bind_eq_some_iff.1 e; obtain ⟨u,r,i,j⟩ := zam f; obtain ⟨rfl,l⟩ := yn g
 exact ⟨S1,z,u,r,d,i,j,rfl,l⟩
end
section
variable {ρ : Lay} {w w' : World} {S S' : KS} {i : Nat}
theorem KM.imported (h : KM ρ w S) (hi : KIn S) {tb q : Nat} (hc : ρ.col tb = none) (hl : i < S.mds.length) (_hq : q < S.mds.length) {x : Nm} (hb : Bk w' tb (thV ρ { th0 with mod := some q })) (hm : MapAt w' (ρ.nm i) ((x,tb) :: ρ.ths (S.md i).names)) {av iv dv : Value}
  (k1 : Bk w' (ρ.md i) (mdV ρ i (S.md i) av iv dv)) (k2 : AF ρ.tr w' (S.md i).acts av) (k3 : w'.ownsRow 0 51 1 iv ((S.md i).imps.length + 1) (((S.md i).imps.map fun y => ρ.mdP (some y)) ++ [pq (ρ.md q)])) (k5 : ∀ g,iv.ownBlock = some g -> ρ.col g = some (.im i) \/ w.heap.size <= g /\ g ≠ tb)
  (k4 : RowAt ρ w' 86 1 dv (S.md i).decl.length ((S.md i).decl.map fun y => ρ.thP (some y)) (.de i)) (htb : tb < w'.heap.size) (htw : w.heap.size <= tb)
  (hs : Sm w w' (fun g => g ≠ tb /\ ρ.col g ≠ some (.nm i) /\ ρ.col g ≠ some (.md i) /\ ρ.col g ≠ some (.im i))) :
  KM (ρ.dr S.ths.length tb iv.ownBlock (.im i)) w' ((S.addTh { th0 with mod := some q }).setMd i { S.md i with names := (x,S.ths.length) :: (S.md i).names,imps := (S.md i).imps ++ [q] }) := by
 have c := qg S iv.ownBlock (.im i) hc
 have N : ∀ lb : Lb,(lb ≠ .nm i /\ lb ≠ .md i /\ lb ≠ .im i) -> ∀ g,ρ.col g = some lb -> g ≠ tb /\ ρ.col g ≠ some (.nm i) /\ ρ.col g ≠ some (.md i) /\ ρ.col g ≠ some (.im i) := fun lb hlb g hg => by
  refine ⟨fun e => (by rw [e,hc] at hg; cases hg),?_⟩; rw [hg]; obtain ⟨m,n,o⟩ := hlb
  exact ⟨fun e => m (Option.some.inj e),fun e => n (Option.some.inj e),fun e => o (Option.some.inj e)⟩
 have r := hs.size; refine h.turn hi c hs (fun b d => jM (h.fr b (by omega)) (by omega) (fun e => ?_)) (N _ ⟨nofun,nofun,nofun⟩) (N _ ⟨nofun,nofun,nofun⟩) (h.mo_turn hi c hs (N _ ⟨nofun,nofun,nofun⟩)) (fun j hj => ((h.ty j hj).sm hs (N _ ⟨nofun,nofun,nofun⟩) (N _ ⟨nofun,nofun,nofun⟩)).re hi c hj) (fun j hj => ?_)
  (fun j hj => ((h.pr j hj).sm hs (N _ ⟨nofun,nofun,nofun⟩) (N _ ⟨nofun,nofun,nofun⟩) (N _ ⟨nofun,nofun,nofun⟩) (N _ ⟨nofun,nofun,nofun⟩)).re hi c hj) (fun j hj => ?_)
 ·have l := qn k3 e.symm
  omega
 ·rcases vP hj with d | rfl
  ·rw [show ((S.addTh _).setMd i _).th j = S.th j from vb _ _ _ d]
   exact ((h.th j d).sm hs (N _ ⟨nofun,nofun,nofun⟩)).re hi c d
  ·rw [show ((S.addTh _).setMd i _).th S.ths.length = _ from xg _ _ _]
   exact ⟨by rw [jl]; exact hb,by rw [jl]; simp [Lay.dr]⟩
 ·have k : j < S.mds.length := by simpa [KS.setMd,KS.addTh] using hj
  by_cases e : j = i
  ·subst e
   rw [show ((S.addTh _).setMd j _).md j = _ from zY _ _ _ hl]; refine ⟨⟨av,iv,dv,k1,k2.weak (fun g hg => c.col _ _ hg),⟨?_,fun g hg => ?_⟩,?_,fun g hg => c.col _ _ (k4.2 g hg)⟩,?_,c.col _ _ (h.md j hl).col,c.col _ _ (h.md j hl).coln⟩
   ·simp only [List.map_append,List.map_cons,List.map_nil,la,lc,ln]
    exact k3
   ·rcases k5 g hg with d | ⟨d,l⟩
    ·exact c.col _ _ d
    ·simp only [Lay.dr]
     rw [if_neg l,h.fr g d]
     simp [hg]
   ·rw [List.map_congr_left (fun y hy => dd c (hi.mdDecl j hl y hy))]
    exact k4.1
   ·have f : (ρ.dr S.ths.length tb iv.ownBlock (.im j)).ths ((x,S.ths.length) :: (S.md j).names) = (x,tb) :: ρ.ths (S.md j).names := by
     rw [<- qt c (hi.mdNames j hl)]; simp only [Lay.ths,List.map_cons,jl]
    show MapAt w' (ρ.nm j) _
    rw [f]
    exact hm
  ·rw [show ((S.addTh _).setMd i _).md j = S.md j from yN _ _ _ e]
   exact ((h.md j k).sm hs (N _ ⟨nofun,nofun,nofun⟩) (N _ ⟨nofun,fun f => by cases f; exact e rfl,nofun⟩) (N _ ⟨nofun,nofun,fun f => by cases f; exact e rfl⟩) (N _ ⟨nofun,nofun,nofun⟩) (N _ ⟨fun f => by cases f; exact e rfl,nofun,nofun⟩)).re hi c k
theorem Stp.imported (h : KM ρ w S) (hk : S.okB = true) {tb q : Nat} (hl : i < S.mds.length) (hq : q < S.mds.length) {x : Nm} (hb : Bk w' tb (thV ρ { th0 with mod := some q })) (hm : MapAt w' (ρ.nm i) ((x,tb) :: ρ.ths (S.md i).names)) {av iv dv : Value}
  (k1 : Bk w' (ρ.md i) (mdV ρ i (S.md i) av iv dv)) (k2 : AF ρ.tr w' (S.md i).acts av) (k3 : w'.ownsRow 0 51 1 iv ((S.md i).imps.length + 1) (((S.md i).imps.map fun y => ρ.mdP (some y)) ++ [pq (ρ.md q)])) (k5 : ∀ g,iv.ownBlock = some g -> ρ.col g = some (.im i) \/ w.heap.size <= g /\ g ≠ tb)
  (k4 : RowAt ρ w' 86 1 dv (S.md i).decl.length ((S.md i).decl.map fun y => ρ.thP (some y)) (.de i)) (htb : tb < w'.heap.size) (htw : w.heap.size <= tb)
  (hs : Sm w w' (fun g => g ≠ tb /\ ρ.col g ≠ some (.nm i) /\ ρ.col g ≠ some (.md i) /\ ρ.col g ≠ some (.im i))) {S' : KS} (hS : S' = (S.addTh { th0 with mod := some q }).setMd i { S.md i with names := (x,S.ths.length) :: (S.md i).names,imps := (S.md i).imps ++ [q] }) (hk' : S'.okB = true) :
  Stp True ρ w S (ρ.dr S.ths.length tb iv.ownBlock (.im i)) w' S' := by
 have c : ρ.col tb = none := h.fr tb htw; subst hS; refine ⟨h.imported (KS.okIn hk) c hl hq hb hm k1 k2 k3 k5 k4 htb htw hs,hk',qg S _ _ c,fun g hg => ?_,hs.mono (fun g hg b => ?_),Nat.le_refl _,by simp [KS.addTh,KS.setMd],Nat.le_refl _,by simp [KS.addTh,KS.setMd]⟩
 ·cases hq : ρ.col g with
  | some lb => exact sY hq c
  | none =>
   refine jM hq (by omega) (fun e => ?_)
   rcases k5 g e.symm with d | d
   ·rw [hq] at d; cases d
   ·omega
 ·refine ⟨by omega,?_⟩
  rcases b with b | b | ⟨b,-⟩ <;> rw [b] <;> exact ⟨nofun,nofun,nofun⟩
theorem oZ {m : Nat} {n : T} (h : KS.importC m S n = some S') : ∃ q,lk S.mods n.name = some q /\ lk (S.md m).names n.name = none /\ S' = (S.addTh { th0 with mod := some q }).setMd m { S.md m with names := (n.name,S.ths.length) :: (S.md m).names,imps := (S.md m).imps ++ [q] } /\ S'.okB = true := by
 unfold KS.importC at h
 split at h
 ·rename_i q h1 h2
  obtain ⟨rfl,b⟩ := yn h
  exact ⟨q,h1,h2,rfl,b⟩
 ·cases h
end
end Go.Proofs.YtnmkffjklpfflaaGreatDoor
