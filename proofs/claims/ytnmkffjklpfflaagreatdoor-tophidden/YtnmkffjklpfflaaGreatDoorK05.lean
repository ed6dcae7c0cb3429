/- What stands in constants. -/
import Derived.Test.YtnmkffjklpfflaaGreatDoorK03
namespace Go.Proofs.YtnmkffjklpfflaaGreatDoor
open Go.RowKit
set_option maxHeartbeats 4000000
set_option maxRecDepth 100000
section
variable {ρ : Lay} {w w' w1 : World} {S : KS} {b : Nat} {c : KSc}
inductive CV : T -> Int -> Prop
 | num (m p : Int) (h0 : 0 <= m) (h1 : m <= 1000) : CV (.mk 29 [] m p []) m
 | add (p : Int) (u v : T) (a e : Int) (hu : CV u a) (hv : CV v e) (h : a + e <= 1000) : CV (.mk 36 [43] 0 p [u,v]) (a + e)
 | mul (p : Int) (u v : T) (a e : Int) (hu : CV u a) (hv : CV v e) (h : a * e <= 1000) : CV (.mk 36 [42] 0 p [u,v]) (a * e)
theorem CV.rng {n : T} {a : Int} (h : CV n a) : 0 <= a /\ a <= 1000 := by
 induction h with
 | num m p h0 h1 => exact ⟨h0,h1⟩
 | add p u v a e hu hv h ih1 ih2 => omega
 | mul p u v a e hu hv h ih1 ih2 => exact ⟨Int.mul_nonneg ih1.1 ih2.1,h⟩
theorem dJ (w : World) (a e : Int) (h0 : 0 <= a + e) (h : a + e <= 1000) : Calls Tryz.prog 152 #[.string ⟨#[43]⟩,.int .i32 a,.int .i32 e] w fun r w' => r = .returned (.int .i32 (a + e)) /\ w' = w := by
 go_enter Tryz.func152,Tryz.ntmps152
 go_wp2
 go_ret
 exact ⟨rfl,rfl⟩
theorem dB (w : World) (a e : Int) (h0 : 0 <= a * e) (h : a * e <= 1000) : Calls Tryz.prog 152 #[.string ⟨#[42]⟩,.int .i32 a,.int .i32 e] w fun r w' => r = .returned (.int .i32 (a * e)) /\ w' = w := by
 go_enter Tryz.func152,Tryz.ntmps152
 go_wp2
 go_ret
 exact ⟨rfl,rfl⟩
theorem jE (h : CK ρ w S b c) (n : T) (sv : Value) (hf : Fits n) (ha : AT w n.subs sv) {u v : T} {a e : Int} (hx : n.name = [43]) (hl : n.subs = [u,v]) (hu : ∀ (w : World) (sv : Value),CK ρ w S b c -> Fits u -> AT w u.subs sv -> Calls Tryz.prog 71 #[.pointer (some ⟨b,0,none⟩),zn u sv] w (Sy w (.tuple #[.pointer (some ⟨ρ.ty 0,0,none⟩),.int .i32 a]))) (hv : ∀ (w : World) (sv : Value),CK ρ w S b c -> Fits v -> AT w v.subs sv -> Calls Tryz.prog 71 #[.pointer (some ⟨b,0,none⟩),zn v sv] w (Sy w (.tuple #[.pointer (some ⟨ρ.ty 0,0,none⟩),.int .i32 e]))) (h0 : 0 <= a + e) (h1 : a + e <= 1000) :
  Calls Tryz.prog 102 #[.pointer (some ⟨b,0,none⟩),zn n sv] w (Sy w (.tuple #[.pointer (some ⟨ρ.ty 0,0,none⟩),.int .i32 (a + e)])) := by
 have HU := ze hu; have HV := ze hv; have D := ze h; have h3 := h.ok.three; obtain ⟨q,x,m,p,l⟩ := n; obtain rfl : l = [u,v] := hl; obtain rfl : x = [43] := hx; obtain ⟨g,o,d,_,_,rfl,_,_,B,fu,U,C,fv,V⟩ := ha.pair; obtain ⟨X,Y,rfl,-,-⟩ := U.form; obtain ⟨Z,vc,rfl,-,-⟩ := V.form; have HA := ze U; have HF := ze fu; have E := ze V; have a0 := ze fv
 replace B := ze B
 replace C := ze C
 clear fu U fv V
 change Calls Tryz.prog 102 #[.pointer (some ⟨b,0,none⟩),.agg #[.int .i64 q,.string ⟨List.toArray [43]⟩,.int .i64 m,.int .i64 p,.slice (some ⟨g,o,none⟩) 2 d]] w _
 obtain ⟨j,f⟩ : ∃ z,z = w.alloc (.cells #[.int .i64 q,.string ⟨List.toArray [43]⟩,.int .i64 m,.int .i64 p,.slice (some ⟨g,o,none⟩) 2 d] 100) := ⟨_,rfl⟩
 have G0 : Hid (w.grownBy j none) := by rw [f]; exact zf (zc w none) _
 have B0 : Hid (Box j w.heap.size (.mk q [43] m p [u,v]) (.slice (some ⟨g,o,none⟩) 2 d)) := by rw [f]; exact Box.new w (.mk q [43] m p [u,v]) (.slice (some ⟨g,o,none⟩) 2 d) _
 clear h ha hf hu hv
 have F : 0 < S.tys.length := by omega
 have G : yj [43] < S.tys.length := by show 0 < _; omega
 go_enter Tryz.func102,Tryz.ntmps102
 go_wp2_with fail; rw [<- f]
 have r : j.heap.size = w.heap.size + 1 := by rw [f]; simp
 clear f
 have HS : Hid (∀ w',j.grownBy w' none -> w'.cell? ⟨w.heap.size,4,none⟩ = some (.slice (some ⟨g,o,none⟩) 2 d) /\ w'.cell? ⟨g,o,none⟩ = some (.int .i64 u.kind) /\ w'.cell? ⟨g,o + 1,none⟩ = some (.string ⟨u.name.toArray⟩) /\ w'.cell? ⟨g,o + 2,none⟩ = some (.int .i64 u.num) /\ w'.cell? ⟨g,o + 3,none⟩ = some (.int .i64 u.at') /\ w'.cell? ⟨g,o + 4,none⟩ = some ((.slice X u.subs.length Y)) /\ w'.cell? ⟨g,o + 5,none⟩ = some (.int .i64 v.kind) /\ w'.cell? ⟨g,o + 6,none⟩ = some (.string ⟨v.name.toArray⟩) /\ w'.cell? ⟨g,o + 7,none⟩ = some (.int .i64 v.num) /\ w'.cell? ⟨g,o + 8,none⟩ = some (.int .i64 v.at') /\ w'.cell? ⟨g,o + 9,none⟩ = some ((.slice Z v.subs.length vc))) := fun w' hg => by
  have k := za G0.out hg
  exact ⟨zi hg B0.out.c4,zi k B.out.c0,zi k B.out.c1,zi k B.out.c2,zi k B.out.c3,zi k B.out.c4,zi k C.out.c0,zi k C.out.c1,zi k C.out.c2,zi k C.out.c3,zi k C.out.c4⟩
 go_cut [6,7] from 22 (fun s1 s2 wx => ∃ (P Q : Nat),s1 = .pointer (some ⟨P,0,none⟩) /\ s2 = .pointer (some ⟨Q,0,none⟩) /\ Box wx P u (.slice X u.subs.length Y) /\ Box wx Q v (.slice Z v.subs.length vc) /\ j.grownBy wx none)
 case first =>
  go_region_held (fun w' => w'.cell? ⟨w.heap.size,4,none⟩ = some (.slice (some ⟨g,o,none⟩) 2 d) /\ w'.cell? ⟨g,o,none⟩ = some (.int .i64 u.kind) /\ w'.cell? ⟨g,o + 1,none⟩ = some (.string ⟨u.name.toArray⟩) /\ w'.cell? ⟨g,o + 2,none⟩ = some (.int .i64 u.num) /\ w'.cell? ⟨g,o + 3,none⟩ = some (.int .i64 u.at') /\ w'.cell? ⟨g,o + 4,none⟩ = some ((.slice X u.subs.length Y)) /\ w'.cell? ⟨g,o + 5,none⟩ = some (.int .i64 v.kind) /\ w'.cell? ⟨g,o + 6,none⟩ = some (.string ⟨v.name.toArray⟩) /\ w'.cell? ⟨g,o + 7,none⟩ = some (.int .i64 v.num) /\ w'.cell? ⟨g,o + 8,none⟩ = some (.int .i64 v.at') /\ w'.cell? ⟨g,o + 9,none⟩ = some ((.slice Z v.subs.length vc))) (exact HS.out _ (by first | with_reducible exact zh (zc j none) | with_reducible exact zh (zf (zc j none) _) | with_reducible exact zh (zf (zf (zc j none) _) _))) (fail)
  all_goals
   go_wp2_with fail; go_meet
  case rel => exact ⟨_,_,rfl,rfl,((Box.at r.symm _ _ _).alloc _).drew,(Box.at (by simp [r]) _ _ _).drew,(zh (zf (zf (zc j none) _) _))⟩
  case rel => exact ⟨_,_,rfl,rfl,(Box.at (by simp [r]) _ _ _).drew,((Box.at r.symm _ _ _).alloc _).drew,(zh (zf (zf (zc j none) _) _))⟩
 case rest =>
  obtain ⟨P,Q,rfl,rfl,M,bQ,gx⟩ := hcut; obtain ⟨w1,a1⟩ : ∃ z,z = wc := ⟨_,rfl⟩; subst a1; have G1 := ze (za G0.out gx); have B1 : Hid (Box w1 w.heap.size (.mk q [43] m p [u,v]) (.slice (some ⟨g,o,none⟩) 2 d)) := Box.kept B0.out gx
  replace M := ze M
  replace bQ := ze bQ
  clear gx; obtain ⟨_,_,_,_,_⟩ := M.out; go_wp2_with fail; go_at_call 71; refine (HU.out _ _ (D.out.up G1.out) HF.out (HA.out.kept G1.out)).mono ?_; rintro e N ⟨rfl,s⟩; have G2 := ze (za G1.out s); have B2 : Hid (Box N w.heap.size (.mk q [43] m p [u,v]) (.slice (some ⟨g,o,none⟩) 2 d)) := Box.kept B1.out (za (zc w1 none) s); have a2 := ze (Box.kept M.out (za (zc w1 none) s)); have H := ze (Box.kept bQ.out (za (zc w1 none) s)); obtain ⟨_,_,_,_,_⟩ := H.out; go_wp2_with fail; go_at_call 71; refine (HV.out _ _ (D.out.up G2.out) a0.out (E.out.kept G2.out)).mono ?_; rintro e O ⟨rfl,t⟩; have R := ze (za G2.out t); have B3 : Hid (Box O w.heap.size (.mk q [43] m p [u,v]) (.slice (some ⟨g,o,none⟩) 2 d)) := Box.kept B2.out (za (zc N none) t); obtain ⟨_,_,_,_,_⟩ := B3.out.plain; have I := ze (Box.kept a2.out (za (zc N none) t)); have a3 := ze (Box.kept H.out (za (zc N none) t)); go_wp2_with fail; go_at_call 150; refine (xC (D.out.up R.out) [43]).mono ?_; rintro e w4 ⟨rfl,J⟩; rw [J]; clear J; obtain ⟨_,_,_,_,_⟩ := I.out; go_wp2_with fail; go_at_call 115; refine (zL (D.out.up R.out).km u _ (HA.out.kept R.out) F G).mono ?_; rw [show yE u 0 (yj [43]) = .ok () from rfl]; rintro e w4 ⟨A,rfl⟩; have G4 := ze (za R.out A); have B4 : Hid (Box w4 w.heap.size (.mk q [43] m p [u,v]) (.slice (some ⟨g,o,none⟩) 2 d)) := Box.kept B3.out (za (zc O none) A); have a5 := ze (Box.kept I.out (za (zc O none) A)); have a4 := ze (Box.kept a3.out (za (zc O none) A)); obtain ⟨_,_,_,_,_⟩ := a4.out; go_wp2_with fail; go_at_call 115; refine (zL (D.out.up G4.out).km v _ (E.out.kept G4.out) F G).mono ?_; rw [show yE v 0 (yj [43]) = .ok () from rfl]; rintro e K ⟨L,rfl⟩; have G5 := ze (za G4.out L); have B5 : Hid (Box K w.heap.size (.mk q [43] m p [u,v]) (.slice (some ⟨g,o,none⟩) 2 d)) := Box.kept B4.out (za (zc w4 none) L); obtain ⟨_,_,_,_,_⟩ := B5.out.plain; go_wp2_with fail; refine wp_region_held_drew (S := fun w9 => K.grownBy w9 none) (by kernel_rfl) ?_ (fun hHeld => ?_)
  ·exact zh (zc K none)
  refine kQ 0 71 (.pointer (some ⟨b,0,none⟩)) hHeld ?_; simp only [qA,qB,qC,qD]; refine kQ 1 72 (.pointer (some ⟨w.heap.size,1,none⟩)) hHeld ?_; simp only [qA,qB,qC,qD]; refine dk 2 (some 73) (.string ⟨List.toArray [43]⟩) rfl rfl (fun w9 hS => by obtain ⟨q0,q1,q2,q3,q4⟩ := (Box.kept B5.out hS).plain; go_simp) hHeld ?_; simp only [qA,qB,qC,qD]; refine kQ 4 75 (.pointer (some ⟨w.heap.size,1,none⟩)) hHeld ?_; simp only [qA,qB,qC,qD]; refine dk 5 (some 76) (.string ⟨List.toArray [43]⟩) rfl rfl (fun w9 hS => by obtain ⟨q0,q1,q2,q3,q4⟩ := (Box.kept B5.out hS).plain; go_simp) hHeld ?_; simp only [qA,qB,qC,qD]; refine kQ 6 77 (.int .i32 a) hHeld ?_; simp only [qA,qB,qC,qD]; refine kQ 7 78 (.int .i32 e) hHeld ?_; simp only [qA,qB,qC,qD]; refine rd 3 rfl fun KK hKK => ?_
  go_simp
  go_at_call 151; refine (xk (D.out.up (zh G5.out)) [43]).mono ?_; rintro e w6 ⟨rfl,i⟩; rw [i]; clear i
  go_simp
  refine hKK.out _ _ (zh (zc K none)) fun hHeld => ?_
  clear hKK KK; refine rd 8 rfl fun KK hKK => ?_
  go_simp
  go_at_call 152; refine (dJ _ a e h0 h1).mono ?_; rintro e w6 ⟨rfl,i⟩; rw [i]; clear i
  go_simp
  refine hKK.out _ _ (zh (zc K none)) fun hHeld => ?_
  clear hKK KK; refine kQ 9 4 (.pointer (some ⟨ρ.ty (yL [43]),0,none⟩)) hHeld ?_; simp only [qA,qB,qC,qD]; refine kQ 10 5 (.int .i32 (a + e)) hHeld ?_; simp only [qA,qB,qC,qD]; refine wpAnyH_done (by kernel_rfl) ?_ _; clear hHeld; go_wp2
  go_ret2
  exact ⟨rfl,(zh G5.out)⟩
theorem jz (h : CK ρ w S b c) (n : T) (sv : Value) (hf : Fits n) (ha : AT w n.subs sv) {u v : T} {a e : Int} (hx : n.name = [42]) (hl : n.subs = [u,v]) (hu : ∀ (w : World) (sv : Value),CK ρ w S b c -> Fits u -> AT w u.subs sv -> Calls Tryz.prog 71 #[.pointer (some ⟨b,0,none⟩),zn u sv] w (Sy w (.tuple #[.pointer (some ⟨ρ.ty 0,0,none⟩),.int .i32 a]))) (hv : ∀ (w : World) (sv : Value),CK ρ w S b c -> Fits v -> AT w v.subs sv -> Calls Tryz.prog 71 #[.pointer (some ⟨b,0,none⟩),zn v sv] w (Sy w (.tuple #[.pointer (some ⟨ρ.ty 0,0,none⟩),.int .i32 e]))) (h0 : 0 <= a * e) (h1 : a * e <= 1000) :
  Calls Tryz.prog 102 #[.pointer (some ⟨b,0,none⟩),zn n sv] w (Sy w (.tuple #[.pointer (some ⟨ρ.ty 0,0,none⟩),.int .i32 (a * e)])) := by
 have HU := ze hu; have HV := ze hv; have D := ze h; have h3 := h.ok.three; obtain ⟨q,x,m,p,l⟩ := n; obtain rfl : l = [u,v] := hl; obtain rfl : x = [42] := hx; obtain ⟨g,o,d,_,_,rfl,_,_,B,fu,U,C,fv,V⟩ := ha.pair; obtain ⟨X,Y,rfl,-,-⟩ := U.form; obtain ⟨Z,vc,rfl,-,-⟩ := V.form; have HA := ze U; have HF := ze fu; have E := ze V; have a0 := ze fv
 replace B := ze B
 replace C := ze C
 clear fu U fv V
 change Calls Tryz.prog 102 #[.pointer (some ⟨b,0,none⟩),.agg #[.int .i64 q,.string ⟨List.toArray [42]⟩,.int .i64 m,.int .i64 p,.slice (some ⟨g,o,none⟩) 2 d]] w _
 obtain ⟨j,f⟩ : ∃ z,z = w.alloc (.cells #[.int .i64 q,.string ⟨List.toArray [42]⟩,.int .i64 m,.int .i64 p,.slice (some ⟨g,o,none⟩) 2 d] 100) := ⟨_,rfl⟩
 have G0 : Hid (w.grownBy j none) := by rw [f]; exact zf (zc w none) _
 have B0 : Hid (Box j w.heap.size (.mk q [42] m p [u,v]) (.slice (some ⟨g,o,none⟩) 2 d)) := by rw [f]; exact Box.new w (.mk q [42] m p [u,v]) (.slice (some ⟨g,o,none⟩) 2 d) _
 clear h ha hf hu hv
 have F : 0 < S.tys.length := by omega
 have G : yj [42] < S.tys.length := by show 0 < _; omega
 go_enter Tryz.func102,Tryz.ntmps102
 go_wp2_with fail; rw [<- f]
 have r : j.heap.size = w.heap.size + 1 := by rw [f]; simp
 clear f
 have HS : Hid (∀ w',j.grownBy w' none -> w'.cell? ⟨w.heap.size,4,none⟩ = some (.slice (some ⟨g,o,none⟩) 2 d) /\ w'.cell? ⟨g,o,none⟩ = some (.int .i64 u.kind) /\ w'.cell? ⟨g,o + 1,none⟩ = some (.string ⟨u.name.toArray⟩) /\ w'.cell? ⟨g,o + 2,none⟩ = some (.int .i64 u.num) /\ w'.cell? ⟨g,o + 3,none⟩ = some (.int .i64 u.at') /\ w'.cell? ⟨g,o + 4,none⟩ = some ((.slice X u.subs.length Y)) /\ w'.cell? ⟨g,o + 5,none⟩ = some (.int .i64 v.kind) /\ w'.cell? ⟨g,o + 6,none⟩ = some (.string ⟨v.name.toArray⟩) /\ w'.cell? ⟨g,o + 7,none⟩ = some (.int .i64 v.num) /\ w'.cell? ⟨g,o + 8,none⟩ = some (.int .i64 v.at') /\ w'.cell? ⟨g,o + 9,none⟩ = some ((.slice Z v.subs.length vc))) := fun w' hg => by
  have k := za G0.out hg
  exact ⟨zi hg B0.out.c4,zi k B.out.c0,zi k B.out.c1,zi k B.out.c2,zi k B.out.c3,zi k B.out.c4,zi k C.out.c0,zi k C.out.c1,zi k C.out.c2,zi k C.out.c3,zi k C.out.c4⟩
 go_cut [6,7] from 22 (fun s1 s2 wx => ∃ (P Q : Nat),s1 = .pointer (some ⟨P,0,none⟩) /\ s2 = .pointer (some ⟨Q,0,none⟩) /\ Box wx P u (.slice X u.subs.length Y) /\ Box wx Q v (.slice Z v.subs.length vc) /\ j.grownBy wx none)
 case first =>
  go_region_held (fun w' => w'.cell? ⟨w.heap.size,4,none⟩ = some (.slice (some ⟨g,o,none⟩) 2 d) /\ w'.cell? ⟨g,o,none⟩ = some (.int .i64 u.kind) /\ w'.cell? ⟨g,o + 1,none⟩ = some (.string ⟨u.name.toArray⟩) /\ w'.cell? ⟨g,o + 2,none⟩ = some (.int .i64 u.num) /\ w'.cell? ⟨g,o + 3,none⟩ = some (.int .i64 u.at') /\ w'.cell? ⟨g,o + 4,none⟩ = some ((.slice X u.subs.length Y)) /\ w'.cell? ⟨g,o + 5,none⟩ = some (.int .i64 v.kind) /\ w'.cell? ⟨g,o + 6,none⟩ = some (.string ⟨v.name.toArray⟩) /\ w'.cell? ⟨g,o + 7,none⟩ = some (.int .i64 v.num) /\ w'.cell? ⟨g,o + 8,none⟩ = some (.int .i64 v.at') /\ w'.cell? ⟨g,o + 9,none⟩ = some ((.slice Z v.subs.length vc))) (exact HS.out _ (by first | with_reducible exact zh (zc j none) | with_reducible exact zh (zf (zc j none) _) | with_reducible exact zh (zf (zf (zc j none) _) _))) (fail)
  all_goals
   go_wp2_with fail; go_meet
  case rel => exact ⟨_,_,rfl,rfl,((Box.at r.symm _ _ _).alloc _).drew,(Box.at (by simp [r]) _ _ _).drew,(zh (zf (zf (zc j none) _) _))⟩
  case rel => exact ⟨_,_,rfl,rfl,(Box.at (by simp [r]) _ _ _).drew,((Box.at r.symm _ _ _).alloc _).drew,(zh (zf (zf (zc j none) _) _))⟩
 case rest =>
  obtain ⟨P,Q,rfl,rfl,M,bQ,gx⟩ := hcut; obtain ⟨w1,a1⟩ : ∃ z,z = wc := ⟨_,rfl⟩; subst a1; have G1 := ze (za G0.out gx); have B1 : Hid (Box w1 w.heap.size (.mk q [42] m p [u,v]) (.slice (some ⟨g,o,none⟩) 2 d)) := Box.kept B0.out gx
  replace M := ze M
  replace bQ := ze bQ
  clear gx; obtain ⟨_,_,_,_,_⟩ := M.out; go_wp2_with fail; go_at_call 71; refine (HU.out _ _ (D.out.up G1.out) HF.out (HA.out.kept G1.out)).mono ?_; rintro e N ⟨rfl,s⟩; have G2 := ze (za G1.out s); have B2 : Hid (Box N w.heap.size (.mk q [42] m p [u,v]) (.slice (some ⟨g,o,none⟩) 2 d)) := Box.kept B1.out (za (zc w1 none) s); have a2 := ze (Box.kept M.out (za (zc w1 none) s)); have H := ze (Box.kept bQ.out (za (zc w1 none) s)); obtain ⟨_,_,_,_,_⟩ := H.out; go_wp2_with fail; go_at_call 71; refine (HV.out _ _ (D.out.up G2.out) a0.out (E.out.kept G2.out)).mono ?_; rintro e O ⟨rfl,t⟩; have R := ze (za G2.out t); have B3 : Hid (Box O w.heap.size (.mk q [42] m p [u,v]) (.slice (some ⟨g,o,none⟩) 2 d)) := Box.kept B2.out (za (zc N none) t); obtain ⟨_,_,_,_,_⟩ := B3.out.plain; have I := ze (Box.kept a2.out (za (zc N none) t)); have a3 := ze (Box.kept H.out (za (zc N none) t)); go_wp2_with fail; go_at_call 150; refine (xC (D.out.up R.out) [42]).mono ?_; rintro e w4 ⟨rfl,J⟩; rw [J]; clear J; obtain ⟨_,_,_,_,_⟩ := I.out; go_wp2_with fail; go_at_call 115; refine (zL (D.out.up R.out).km u _ (HA.out.kept R.out) F G).mono ?_; rw [show yE u 0 (yj [42]) = .ok () from rfl]; rintro e w4 ⟨A,rfl⟩; have G4 := ze (za R.out A); have B4 : Hid (Box w4 w.heap.size (.mk q [42] m p [u,v]) (.slice (some ⟨g,o,none⟩) 2 d)) := Box.kept B3.out (za (zc O none) A); have a5 := ze (Box.kept I.out (za (zc O none) A)); have a4 := ze (Box.kept a3.out (za (zc O none) A)); obtain ⟨_,_,_,_,_⟩ := a4.out; go_wp2_with fail; go_at_call 115; refine (zL (D.out.up G4.out).km v _ (E.out.kept G4.out) F G).mono ?_; rw [show yE v 0 (yj [42]) = .ok () from rfl]; rintro e K ⟨L,rfl⟩; have G5 := ze (za G4.out L); have B5 : Hid (Box K w.heap.size (.mk q [42] m p [u,v]) (.slice (some ⟨g,o,none⟩) 2 d)) := Box.kept B4.out (za (zc w4 none) L); obtain ⟨_,_,_,_,_⟩ := B5.out.plain; go_wp2_with fail; refine wp_region_held_drew (S := fun w9 => K.grownBy w9 none) (by kernel_rfl) ?_ (fun hHeld => ?_)
  ·exact zh (zc K none)
  refine kQ 0 71 (.pointer (some ⟨b,0,none⟩)) hHeld ?_; simp only [qA,qB,qC,qD]; refine kQ 1 72 (.pointer (some ⟨w.heap.size,1,none⟩)) hHeld ?_; simp only [qA,qB,qC,qD]; refine dk 2 (some 73) (.string ⟨List.toArray [42]⟩) rfl rfl (fun w9 hS => by obtain ⟨q0,q1,q2,q3,q4⟩ := (Box.kept B5.out hS).plain; go_simp) hHeld ?_; simp only [qA,qB,qC,qD]; refine kQ 4 75 (.pointer (some ⟨w.heap.size,1,none⟩)) hHeld ?_; simp only [qA,qB,qC,qD]; refine dk 5 (some 76) (.string ⟨List.toArray [42]⟩) rfl rfl (fun w9 hS => by obtain ⟨q0,q1,q2,q3,q4⟩ := (Box.kept B5.out hS).plain; go_simp) hHeld ?_; simp only [qA,qB,qC,qD]; refine kQ 6 77 (.int .i32 a) hHeld ?_; simp only [qA,qB,qC,qD]; refine kQ 7 78 (.int .i32 e) hHeld ?_; simp only [qA,qB,qC,qD]; refine rd 3 rfl fun KK hKK => ?_
  go_simp
  go_at_call 151; refine (xk (D.out.up (zh G5.out)) [42]).mono ?_; rintro e w6 ⟨rfl,i⟩; rw [i]; clear i
  go_simp
  refine hKK.out _ _ (zh (zc K none)) fun hHeld => ?_
  clear hKK KK; refine rd 8 rfl fun KK hKK => ?_
  go_simp
  go_at_call 152; refine (dB _ a e h0 h1).mono ?_; rintro e w6 ⟨rfl,i⟩; rw [i]; clear i
  go_simp
  refine hKK.out _ _ (zh (zc K none)) fun hHeld => ?_
  clear hKK KK; refine kQ 9 4 (.pointer (some ⟨ρ.ty (yL [42]),0,none⟩)) hHeld ?_; simp only [qA,qB,qC,qD]; refine kQ 10 5 (.int .i32 (a * e)) hHeld ?_; simp only [qA,qB,qC,qD]; refine wpAnyH_done (by kernel_rfl) ?_ _; clear hHeld; go_wp2
  go_ret2
  exact ⟨rfl,(zh G5.out)⟩
theorem sR (h : CK ρ w S b c) (n : T) (sv : Value) (hf : Fits n) (ha : AT w n.subs sv) (hk : n.kind = 29) (h0 : 0 <= n.num) (h1 : n.num <= 1000) :
  Calls Tryz.prog 71 #[.pointer (some ⟨b,0,none⟩),zn n sv] w (Sy w (.tuple #[.pointer (some ⟨ρ.ty 0,0,none⟩),.int .i32 n.num])) := by
 have s0 : Hid _ := h.s0; have g : Hid _ := h.km.wc0; obtain ⟨e,x,m,p,l⟩ := n
 change Calls Tryz.prog 71 #[.pointer (some ⟨b,0,none⟩),.agg #[.int .i64 e,.string ⟨x.toArray⟩,.int .i64 m,.int .i64 p,sv]] w _
 obtain ⟨f,d⟩ : ∃ z,z = w.alloc (.cells #[.int .i64 e,.string ⟨x.toArray⟩,.int .i64 m,.int .i64 p,sv] 100) := ⟨_,rfl⟩
 have i : Hid (w.grownBy f none) := by rw [d]; exact zf (zc w none) _
 have k : Hid (Box f w.heap.size (.mk e x m p l) sv) := by rw [d]; exact Box.new w (.mk e x m p l) sv _
 obtain rfl : e = 29 := hk
 change 0 <= m at h0
 change m <= 1000 at h1
 have o : IntKind.i32.wrap m = m := by
  have q : IntKind.i32.bits = 32 := rfl
  simp [IntKind.wrap,q]
  try omega
 clear h ha hf
 go_enter Tryz.func71,Tryz.ntmps71
 go_wp2_with fail; rw [<- d]; clear d; refine wp_region_held_drew (S := fun w9 => f.grownBy w9 none) (by kernel_rfl) ?_ (fun hHeld => ?_)
 ·exact zh (zc f none)
 refine kQ 0 10 (.pointer (some ⟨b,0,none⟩)) hHeld ?_; simp only [qA,qB,qC,qD]; refine kQ 1 11 (.pointer (some ⟨b,0,none⟩)) hHeld ?_; simp only [qA,qB,qC,qD]; refine kQ 2 12 (.pointer (some ⟨b,0,none⟩)) hHeld ?_; simp only [qA,qB,qC,qD]; refine kQ 3 13 (.pointer (some ⟨b,0,none⟩)) hHeld ?_; simp only [qA,qB,qC,qD]; refine dk 4 (some 14) (.pointer (some ⟨ρ.wd,0,none⟩)) rfl rfl (fun w9 hS => by have j := zi (za i.out hS) s0.out; go_simp) hHeld ?_; simp only [qA,qB,qC,qD]; refine kQ 5 15 (.pointer (some ⟨ρ.wd,0,none⟩)) hHeld ?_; simp only [qA,qB,qC,qD]; refine kQ 6 16 (.pointer (some ⟨ρ.wd,0,none⟩)) hHeld ?_; simp only [qA,qB,qC,qD]; refine dk 7 (some 17) (.pointer (some ⟨ρ.ty 0,0,none⟩)) rfl rfl (fun w9 hS => by have j := zi (za i.out hS) g.out; go_simp) hHeld ?_; simp only [qA,qB,qC,qD]; refine kQ 8 18 (.pointer (some ⟨w.heap.size,2,none⟩)) hHeld ?_; simp only [qA,qB,qC,qD]; refine dk 9 (some 19) (.int .i64 m) rfl rfl (fun w9 hS => by obtain ⟨_,j,_,_,_⟩ := (Box.kept k.out hS).plain; go_simp) hHeld ?_; simp only [qA,qB,qC,qD]; refine kQ 10 20 (.int .i32 m) hHeld ?_; simp only [qA,qB,qC,qD]; refine kQ 11 4 (.pointer (some ⟨ρ.ty 0,0,none⟩)) hHeld ?_; simp only [qA,qB,qC,qD]; refine kQ 12 5 (.int .i32 m) hHeld ?_; simp only [qA,qB,qC,qD]; refine wpAnyH_done (by kernel_rfl) ?_ _; clear hHeld; go_wp2
 go_ret2
 exact ⟨rfl,(zh i.out)⟩
theorem fQ (_h : CK ρ w S b c) (n : T) (sv : Value) (hf : Fits n) (ha : AT w n.subs sv) {z : Int} (hk : n.kind = 36) (hd : ∀ w1,w.grownBy w1 none -> Calls Tryz.prog 102 #[.pointer (some ⟨b,0,none⟩),zn n sv] w1 (Sy w1 (.tuple #[.pointer (some ⟨ρ.ty 0,0,none⟩),.int .i32 z]))) :
  Calls Tryz.prog 71 #[.pointer (some ⟨b,0,none⟩),zn n sv] w (Sy w (.tuple #[.pointer (some ⟨ρ.ty 0,0,none⟩),.int .i32 z])) := by
 have j := ze hd; obtain ⟨f,x,m,p,l⟩ := n
 change Calls Tryz.prog 71 #[.pointer (some ⟨b,0,none⟩),.agg #[.int .i64 f,.string ⟨x.toArray⟩,.int .i64 m,.int .i64 p,sv]] w _
 obtain ⟨h,d⟩ : ∃ z,z = w.alloc (.cells #[.int .i64 f,.string ⟨x.toArray⟩,.int .i64 m,.int .i64 p,sv] 100) := ⟨_,rfl⟩
 have i : Hid (w.grownBy h none) := by rw [d]; exact zf (zc w none) _
 have k : Hid (Box h w.heap.size (.mk f x m p l) sv) := by rw [d]; exact Box.new w (.mk f x m p l) sv _
 obtain rfl : f = 36 := hk; clear _h ha hf hd
 go_enter Tryz.func71,Tryz.ntmps71
 go_wp2_with fail; go_at_call 102; rw [<- d]; refine (j.out _ i.out).mono ?_; rintro e w1 ⟨rfl,g⟩; have o := ze (za i.out g); have q : Hid (Box w1 w.heap.size (.mk 36 x m p l) sv) := Box.kept k.out (za (zc h none) g); go_wp2
 go_ret2
 exact ⟨rfl,o.out⟩
theorem rg {n : T} {a : Int} (hv : CV n a) : ∀ (w : World) (sv : Value),CK ρ w S b c -> Fits n -> AT w n.subs sv -> Calls Tryz.prog 71 #[.pointer (some ⟨b,0,none⟩),zn n sv] w (Sy w (.tuple #[.pointer (some ⟨ρ.ty 0,0,none⟩),.int .i32 a])) := by
 induction hv with
 | num m p h0 h1 => exact fun w sv h hf ha => sR h _ sv hf ha rfl h0 h1
 | add p u v a e hu hv h9 ih1 ih2 => exact fun w sv h hf ha => fQ h _ sv hf ha rfl (fun w1 G => jE (h.up G) _ sv hf (ha.kept G) rfl rfl ih1 ih2 (by have := hu.rng; have := hv.rng; omega) h9)
 | mul p u v a e hu hv h9 ih1 ih2 => exact fun w sv h hf ha => fQ h _ sv hf ha rfl (fun w1 G => jz (h.up G) _ sv hf (ha.kept G) rfl rfl ih1 ih2 (Int.mul_nonneg hu.rng.1 hv.rng.1) h9)
end
end Go.Proofs.YtnmkffjklpfflaaGreatDoor
