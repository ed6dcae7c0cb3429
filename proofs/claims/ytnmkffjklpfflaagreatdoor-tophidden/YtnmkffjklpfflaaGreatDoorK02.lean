/- Expressions: fields. -/
import Derived.Test.YtnmkffjklpfflaaGreatDoorK01
namespace Go.Proofs.YtnmkffjklpfflaaGreatDoor
open Go.RowKit
set_option maxHeartbeats 4000000
set_option maxRecDepth 100000
section
variable {ρ : Lay} {w w' w1 : World} {S : KS} {b : Nat} {c : KSc}
theorem fV (hT : KTys S) (x : Nm) : ∀ (f i : Nat) (d : KFd) (o : Nat),i < S.tys.length -> (S.ty i).form = 4 -> S.fieldF f i x = some (d,o) -> o < S.tys.length /\ (S.ty o).form = 4 /\ d.ty < S.tys.length
 | 0,i,d,o,_,_,h => by cases h
 | f + 1,i,d,o,hi,h4,h => by
  unfold KS.fieldF at h
  cases hq : kr (S.ty i).fields x with
  | some e =>
   rw [hq] at h; cases h
   have key : ∀ l : List KFd,kr l x = some d -> d ∈ l := by
    intro l
    induction l with
    | nil => intro h; cases h
    | cons a r ih =>
     intro h
     unfold kr at h
     split at h
     ·cases h; simp
     ·exact List.mem_cons_of_mem _ (ih h)
   exact ⟨hi,h4,hT.fd i hi d (key _ hq)⟩
  | none =>
   rw [hq] at h; cases g : (S.ty i).of with
   | none => rw [g] at h; cases h
   | some q =>
    rw [g] at h; obtain ⟨_,j⟩ := hT.rc i hi h4 q g
    exact fV hT x f q d o (by omega) j h
theorem tl (hT : KTys S) {x : Nm} {i : Nat} {d : KFd} {o : Nat} (hi : i < S.tys.length) (h4 : (S.ty i).form = 4) (h : S.field i x = some (d,o)) : o < S.tys.length /\ (S.ty o).form = 4 /\ d.ty < S.tys.length := fV hT x _ i d o hi h4 h
theorem tE : ρ.fdP none = .tuple #[.agg #[.string ⟨#[]⟩,.bool false,.pointer none,.int .i64 0],.pointer none] := rfl
theorem uf (d : KFd) (o : Nat) : ρ.fdP (some (d,o)) = .tuple #[.agg #[.string ⟨d.name.toArray⟩,.bool d.exp,.pointer (some ⟨ρ.ty d.ty,0,none⟩),.int .i64 d.first],.pointer (some ⟨ρ.ty o,0,none⟩)] := rfl
def KS.recOf (S : KS) (t : Nat) : Nat := if (S.ty t).form = 5 then S.of t else t
theorem oQ (h : CK ρ w S b c) (n : T) (sv : Value) (hf : Fits n) (ha : AT w n.subs sv) (hT : KAll S) {r : KR} {u : T} (hl : n.subs = [u]) (hu : CDe ρ S b c r u) :
  Calls Tryz.prog 192 #[.pointer (some ⟨b,0,none⟩),zn n sv] w (Cy w ((S.dotC c r n).map fun t => .pointer (some ⟨ρ.ty t,0,none⟩))) := by
 have HU := ze (fun w1 (G : w.grownBy w1 none) su (fu : Fits u) (au : AT w u.subs su) => hu.run w1 su (h.up G) fu (au.kept G)); have HM := ze h.km; have Y := ze hT; have b8 := hu.lt; have hh := h.hc; have s1 : Hid _ := h.s1; obtain ⟨B,x,m,p,l⟩ := n; obtain rfl : l = [u] := hl; obtain ⟨g,o,E,su,rfl,c6,c7,n5,fu,au,-⟩ := ha.cons; have HA := ze au; have HF := ze fu; have d0 := n5.c0; have d1 := n5.c1; have d2 := n5.c2; have d3 := n5.c3; have d4 := n5.c4; have zg : g < w.heap.size := zw d0; clear n5 fu au
 change Calls Tryz.prog 192 #[.pointer (some ⟨b,0,none⟩),.agg #[.int .i64 B,.string ⟨x.toArray⟩,.int .i64 m,.int .i64 p,.slice (some ⟨g,o,none⟩) 1 E]] w _
 obtain ⟨w0,V⟩ : ∃ z,z = w.alloc (.cells #[.int .i64 B,.string ⟨x.toArray⟩,.int .i64 m,.int .i64 p,.slice (some ⟨g,o,none⟩) 1 E] 100) := ⟨_,rfl⟩
 have G0 : Hid (w.grownBy w0 none) := by rw [V]; exact zf (zc w none) _
 have B0 : Hid (Box w0 w.heap.size (.mk B x m p [u]) (.slice (some ⟨g,o,none⟩) 1 E)) := by rw [V]; exact Box.new w (.mk B x m p [u]) (.slice (some ⟨g,o,none⟩) 1 E) _
 clear h ha hf hu hT
 have hz : sub (.mk B x m p [u]) 0 = u := rfl
 have b9 : (T.mk B x m p [u]).name = x := rfl
 cases hq : r.de u with
 | error z =>
  rw [show S.dotC c r (.mk B x m p [u]) = .error z by simp [KS.dotC,hz,hq,Except.bind]]
  go_enter Tryz.func192,Tryz.ntmps192
  go_wp2_with fail; go_at_call 161; rw [<- V]; refine (HU.out _ G0.out su HF.out HA.out).mono ?_; rw [hq]; rintro e w1 h1; have Y := h1; obtain ⟨q,rfl⟩ := h1.thrown
  exact ⟨rfl,Y.err G0.out⟩
 | ok t =>
  have ht := b8 t hq; have H : Hid (w.cell? ⟨ρ.ty t,0,none⟩ = some (.int .i64 (S.ty t).form)) := HM.out.y0 ht; have I : Hid (w.cell? ⟨ρ.ty t,5,none⟩ = some (ρ.tyP (S.ty t).of)) := HM.out.y5 ht
  have hr : (S.ty t).form = 5 -> (S.ty t).of = some (S.of t) := fun F => (Y.out.p ht F).1
  obtain ⟨q,A⟩ : ∃ q,q = S.recOf t := ⟨_,rfl⟩
  have a6 : q < S.tys.length := by
   rw [A]
   unfold KS.recOf
   split
   ·rename_i F; exact (Y.out.p ht F).2.1
   ·exact ht
  have U : Hid (w.cell? ⟨ρ.ty q,0,none⟩ = some (.int .i64 (S.ty q).form)) := HM.out.y0 a6
  have hD : S.dotC c r (.mk B x m p [u]) = if (S.ty q).form = 4 then (match S.field q x with
    | none => thr (.mk B x m p [u]) 5
    | some (d,o) => if d.exp = true then .ok d.ty else if (S.ty o).home = some c.home then .ok d.ty else thr (.mk B x m p [u]) 5) else thr (.mk B x m p [u]) 7 := by
   rw [A]; simp only [KS.dotC,hz,hq,Except.bind,KS.recOf,b9]
   rfl
  rw [hD]; clear hD
  by_cases Z : (S.ty q).form = 4
  ·rw [if_pos Z]
   cases a7 : S.field q x with
   | none =>
    simp only [thr,T.at']; rw [Z] at U
    by_cases F : (S.ty t).form = 5
    ·have e5 := hr F
     rw [show S.recOf t = S.of t by simp [KS.recOf,F]] at A; subst A; rw [e5,yd] at I; rw [F] at H; clear hr e5
     go_enter Tryz.func192,Tryz.ntmps192
     go_wp2_with fail; go_at_call 161; rw [<- V]; refine (HU.out _ G0.out su HF.out HA.out).mono ?_; rw [hq]; rintro e w1 ⟨i,rfl⟩; have j := ze (za G0.out i); have X : Hid (Box w1 w.heap.size (.mk B x m p [u]) (.slice (some ⟨g,o,none⟩) 1 E)) := Box.kept B0.out (za (zc w0 none) i); have J := zi j.out H.out; have K := zi j.out I.out; have L := zi j.out U.out; obtain ⟨M,N,O,Q,R⟩ := X.out; go_wp2_with fail; go_at_call 19; refine (yS (HM.out.up j.out) Y.out.toKTys a6 Z x).mono ?_; rw [a7,tE]; rintro e C ⟨rfl,v⟩; have D := ze (za j.out v); have B2 : Hid (Box C w.heap.size (.mk B x m p [u]) (.slice (some ⟨g,o,none⟩) 1 E)) := Box.kept X.out (za (zc w1 none) v); have a0 := zi D.out H.out; have a1 := zi D.out I.out; have a2 := zi D.out U.out; go_wp2_with fail; obtain ⟨k,f⟩ : ∃ z,z = C.alloc (.cells #[.string ⟨#[]⟩,.bool false,.pointer none,.int .i64 0] 58) := ⟨_,rfl⟩; rw [<- f]
     have s : Hid (w.grownBy k none) := by rw [f]; exact zf D.out _
     have B3 : Hid (Box k w.heap.size (.mk B x m p [u]) (.slice (some ⟨g,o,none⟩) 1 E)) := by rw [f]; exact Box.kept B2.out (zf (zc _ none) _)
     have a3 := zi s.out H.out; have a4 := zi s.out I.out; have a5 := zi s.out U.out; clear f; refine wp_region_held_drew (S := fun w9 => k.grownBy w9 none) (by kernel_rfl) ?_ (fun hHeld => ?_)
     ·exact zh (zc k none)
     refine kQ 0 37 (.pointer none) hHeld ?_; simp only [qA,qB,qC,qD]; refine kQ 1 38 (.bool true) hHeld ?_; simp only [qA,qB,qC,qD]; refine kQ 2 39 (.bool true) hHeld ?_; simp only [qA,qB,qC,qD]; refine dn 3 (some 40) rfl rfl hHeld ?_; simp only [qA,qB,qC,qD]; refine dn 4 (some 41) rfl rfl hHeld ?_; simp only [qA,qB,qC,qD]; refine dn 5 (some 42) rfl rfl hHeld ?_; simp only [qA,qB,qC,qD]; refine dn 6 (some 43) rfl rfl hHeld ?_; simp only [qA,qB,qC,qD]; refine dn 7 (some 44) rfl rfl hHeld ?_; simp only [qA,qB,qC,qD]; refine dn 8 (some 45) rfl rfl hHeld ?_; simp only [qA,qB,qC,qD]; refine dn 9 (some 46) rfl rfl hHeld ?_; simp only [qA,qB,qC,qD]; refine dn 10 (some 47) rfl rfl hHeld ?_; simp only [qA,qB,qC,qD]; refine dn 11 (some 48) rfl rfl hHeld ?_; simp only [qA,qB,qC,qD]; refine dn 12 (some 49) rfl rfl hHeld ?_; simp only [qA,qB,qC,qD]; refine dn 13 (some 50) rfl rfl hHeld ?_; simp only [qA,qB,qC,qD]; refine dn 14 (some 51) rfl rfl hHeld ?_; simp only [qA,qB,qC,qD]; refine dn 15 (some 52) rfl rfl hHeld ?_; simp only [qA,qB,qC,qD]; refine dn 16 (some 53) rfl rfl hHeld ?_; simp only [qA,qB,qC,qD]; refine dn 17 (some 54) rfl rfl hHeld ?_; simp only [qA,qB,qC,qD]; refine kQ 18 55 (.bool true) hHeld ?_; simp only [qA,qB,qC,qD]; refine wpAnyH_done (by kernel_rfl) ?_ _; clear hHeld; obtain ⟨a9,b0,b1,b2,b3⟩ := B3.out; go_wp2_with fail; go_at_call 53; refine (zu _ (.mk B x m p [u]) (.slice (some ⟨g,o,none⟩) 1 E) 5).mono ?_; rintro e w4 Z; have Y := Z; obtain ⟨q,rfl⟩ := Z.thrown
     exact ⟨rfl,Y.err (zh s.out)⟩
    ·have b5 : decide ((S.ty t).form = 5) = false := by simpa using F
     rw [show S.recOf t = t by simp [KS.recOf,F]] at A; subst A; clear hr
     go_enter Tryz.func192,Tryz.ntmps192
     go_wp2_with fail; go_at_call 161; rw [<- V]; refine (HU.out _ G0.out su HF.out HA.out).mono ?_; rw [hq]; rintro e w1 ⟨i,rfl⟩; have j := ze (za G0.out i); have X : Hid (Box w1 w.heap.size (.mk B x m p [u]) (.slice (some ⟨g,o,none⟩) 1 E)) := Box.kept B0.out (za (zc w0 none) i); have J := zi j.out H.out; have K := zi j.out I.out; have L := zi j.out U.out; obtain ⟨M,N,O,Q,R⟩ := X.out; go_wp2_with fail; go_at_call 19; refine (yS (HM.out.up j.out) Y.out.toKTys a6 Z x).mono ?_; rw [a7,tE]; rintro e C ⟨rfl,v⟩; have D := ze (za j.out v); have B2 : Hid (Box C w.heap.size (.mk B x m p [u]) (.slice (some ⟨g,o,none⟩) 1 E)) := Box.kept X.out (za (zc w1 none) v); have a0 := zi D.out H.out; have a1 := zi D.out I.out; have a2 := zi D.out U.out; go_wp2_with fail; obtain ⟨k,f⟩ : ∃ z,z = C.alloc (.cells #[.string ⟨#[]⟩,.bool false,.pointer none,.int .i64 0] 58) := ⟨_,rfl⟩; rw [<- f]
     have s : Hid (w.grownBy k none) := by rw [f]; exact zf D.out _
     have B3 : Hid (Box k w.heap.size (.mk B x m p [u]) (.slice (some ⟨g,o,none⟩) 1 E)) := by rw [f]; exact Box.kept B2.out (zf (zc _ none) _)
     have a3 := zi s.out H.out; have a4 := zi s.out I.out; have a5 := zi s.out U.out; clear f; refine wp_region_held_drew (S := fun w9 => k.grownBy w9 none) (by kernel_rfl) ?_ (fun hHeld => ?_)
     ·exact zh (zc k none)
     refine kQ 0 37 (.pointer none) hHeld ?_; simp only [qA,qB,qC,qD]; refine kQ 1 38 (.bool true) hHeld ?_; simp only [qA,qB,qC,qD]; refine kQ 2 39 (.bool true) hHeld ?_; simp only [qA,qB,qC,qD]; refine dn 3 (some 40) rfl rfl hHeld ?_; simp only [qA,qB,qC,qD]; refine dn 4 (some 41) rfl rfl hHeld ?_; simp only [qA,qB,qC,qD]; refine dn 5 (some 42) rfl rfl hHeld ?_; simp only [qA,qB,qC,qD]; refine dn 6 (some 43) rfl rfl hHeld ?_; simp only [qA,qB,qC,qD]; refine dn 7 (some 44) rfl rfl hHeld ?_; simp only [qA,qB,qC,qD]; refine dn 8 (some 45) rfl rfl hHeld ?_; simp only [qA,qB,qC,qD]; refine dn 9 (some 46) rfl rfl hHeld ?_; simp only [qA,qB,qC,qD]; refine dn 10 (some 47) rfl rfl hHeld ?_; simp only [qA,qB,qC,qD]; refine dn 11 (some 48) rfl rfl hHeld ?_; simp only [qA,qB,qC,qD]; refine dn 12 (some 49) rfl rfl hHeld ?_; simp only [qA,qB,qC,qD]; refine dn 13 (some 50) rfl rfl hHeld ?_; simp only [qA,qB,qC,qD]; refine dn 14 (some 51) rfl rfl hHeld ?_; simp only [qA,qB,qC,qD]; refine dn 15 (some 52) rfl rfl hHeld ?_; simp only [qA,qB,qC,qD]; refine dn 16 (some 53) rfl rfl hHeld ?_; simp only [qA,qB,qC,qD]; refine dn 17 (some 54) rfl rfl hHeld ?_; simp only [qA,qB,qC,qD]; refine kQ 18 55 (.bool true) hHeld ?_; simp only [qA,qB,qC,qD]; refine wpAnyH_done (by kernel_rfl) ?_ _; clear hHeld; obtain ⟨a9,b0,b1,b2,b3⟩ := B3.out; go_wp2_with fail; go_at_call 53; refine (zu _ (.mk B x m p [u]) (.slice (some ⟨g,o,none⟩) 1 E) 5).mono ?_; rintro e w4 Z; have Y := Z; obtain ⟨q,rfl⟩ := Z.thrown
     exact ⟨rfl,Y.err (zh s.out)⟩
   | some z =>
    obtain ⟨d,ow⟩ := z; obtain ⟨ho,c5,_⟩ := tl Y.out.toKTys a6 Z a7; obtain ⟨hm,b7,b6⟩ := Y.out.hm ow ho c5
    have o2 : Hid (w.cell? ⟨ρ.ty ow,2,none⟩ = some (.pointer (some ⟨ρ.md hm,0,none⟩))) := by have h9 := HM.out.y2 ho; rw [b7] at h9; exact h9
    simp only [b7]; rw [Z] at U; cases he : d.exp
    ·by_cases b4 : hm = c.home
     ·simp only [b4,if_true,Bool.false_eq_true,if_false]
      subst b4
      by_cases F : (S.ty t).form = 5
      ·have e5 := hr F
       rw [show S.recOf t = S.of t by simp [KS.recOf,F]] at A; subst A; rw [e5,yd] at I; rw [F] at H; clear hr e5
       go_enter Tryz.func192,Tryz.ntmps192
       go_wp2_with fail; go_at_call 161; rw [<- V]; refine (HU.out _ G0.out su HF.out HA.out).mono ?_; rw [hq]; rintro e w1 ⟨i,rfl⟩; have j := ze (za G0.out i); have X : Hid (Box w1 w.heap.size (.mk B x m p [u]) (.slice (some ⟨g,o,none⟩) 1 E)) := Box.kept B0.out (za (zc w0 none) i); have J := zi j.out H.out; have K := zi j.out I.out; have L := zi j.out U.out; obtain ⟨M,N,O,Q,R⟩ := X.out; go_wp2_with fail; go_at_call 19; refine (yS (HM.out.up j.out) Y.out.toKTys a6 Z x).mono ?_; rw [a7,uf]; rintro e C ⟨rfl,v⟩; have D := ze (za j.out v); have B2 : Hid (Box C w.heap.size (.mk B x m p [u]) (.slice (some ⟨g,o,none⟩) 1 E)) := Box.kept X.out (za (zc w1 none) v); have a0 := zi D.out H.out; have a1 := zi D.out I.out; have a2 := zi D.out U.out; go_wp2_with fail; obtain ⟨k,f⟩ : ∃ z,z = C.alloc (.cells #[.string ⟨d.name.toArray⟩,.bool false,.pointer (some ⟨ρ.ty d.ty,0,none⟩),.int .i64 d.first] 58) := ⟨_,rfl⟩; rw [<- f]
       have s : Hid (w.grownBy k none) := by rw [f]; exact zf D.out _
       have B3 : Hid (Box k w.heap.size (.mk B x m p [u]) (.slice (some ⟨g,o,none⟩) 1 E)) := by rw [f]; exact Box.kept B2.out (zf (zc _ none) _)
       have a3 := zi s.out H.out; have a4 := zi s.out I.out; have a5 := zi s.out U.out
       have F3 : Hid (Bk k C.heap.size [.string ⟨d.name.toArray⟩,.bool false,.pointer (some ⟨ρ.ty d.ty,0,none⟩),.int .i64 d.first]) := by rw [f]; exact Bk.new _ _ _ rfl
       have f1 : Hid (k.cell? ⟨C.heap.size,1,none⟩ = some (.bool false)) := F3.out.c 1 _ rfl; have f2 := F3.out.c 2 _ rfl
       have a8 := fun w9 (hS : k.grownBy w9 none) => xN (rL (HM.out.up (za s.out hS)) b6 hh true (by simp))
       clear f; refine wp_region_held_drew (S := fun w9 => k.grownBy w9 none) (by kernel_rfl) ?_ (fun hHeld => ?_)
       ·exact zh (zc k none)
       refine kQ 0 37 (.pointer (some ⟨ρ.ty ow,0,none⟩)) hHeld ?_; simp only [qA,qB,qC,qD]; refine kQ 1 38 (.bool false) hHeld ?_; simp only [qA,qB,qC,qD]; refine kQ 2 39 (.bool false) hHeld ?_; simp only [qA,qB,qC,qD]; refine kQ 3 40 (.pointer (some ⟨C.heap.size,1,none⟩)) hHeld ?_; simp only [qA,qB,qC,qD]; refine dk 4 (some 41) (.bool false) rfl rfl (fun w9 hS => by have q1 := zi hS f1.out; go_simp) hHeld ?_; simp only [qA,qB,qC,qD]; refine kQ 5 42 (.bool true) hHeld ?_; simp only [qA,qB,qC,qD]; refine kQ 6 43 (.bool true) hHeld ?_; simp only [qA,qB,qC,qD]; refine kQ 7 44 (.pointer (some ⟨ρ.ty ow,0,none⟩)) hHeld ?_; simp only [qA,qB,qC,qD]; refine kQ 8 45 (.pointer (some ⟨ρ.ty ow,0,none⟩)) hHeld ?_; simp only [qA,qB,qC,qD]; refine kQ 9 46 (.pointer (some ⟨ρ.ty ow,2,none⟩)) hHeld ?_; simp only [qA,qB,qC,qD]; refine dk 10 (some 47) (.pointer (some ⟨ρ.md c.home,0,none⟩)) rfl rfl (fun w9 hS => by have q1 := zi (za s.out hS) o2.out; go_simp) hHeld ?_; simp only [qA,qB,qC,qD]; refine kQ 11 48 (.pointer (some ⟨b,0,none⟩)) hHeld ?_; simp only [qA,qB,qC,qD]; refine kQ 12 49 (.pointer (some ⟨b,0,none⟩)) hHeld ?_; simp only [qA,qB,qC,qD]; refine kQ 13 50 (.pointer (some ⟨b,0,none⟩)) hHeld ?_; simp only [qA,qB,qC,qD]; refine kQ 14 51 (.pointer (some ⟨b,1,none⟩)) hHeld ?_; simp only [qA,qB,qC,qD]; refine dk 15 (some 52) (.pointer (some ⟨ρ.md c.home,0,none⟩)) rfl rfl (fun w9 hS => by have q1 := zi (za s.out hS) s1.out; go_simp) hHeld ?_; simp only [qA,qB,qC,qD]
       refine dk 16 (some 53) (.bool false) rfl rfl (fun w9 hS => by have q1 := a8 w9 hS; go_simp) hHeld ?_; simp only [qA,qB,qC,qD]; refine kQ 17 54 (.bool false) hHeld ?_; simp only [qA,qB,qC,qD]; refine kQ 18 55 (.bool false) hHeld ?_; simp only [qA,qB,qC,qD]; refine wpAnyH_done (by kernel_rfl) ?_ _; clear hHeld; go_wp2
       go_ret
       exact Cy.ok (zh s.out)
      ·have b5 : decide ((S.ty t).form = 5) = false := by simpa using F
       rw [show S.recOf t = t by simp [KS.recOf,F]] at A; subst A; clear hr
       go_enter Tryz.func192,Tryz.ntmps192
       go_wp2_with fail; go_at_call 161; rw [<- V]; refine (HU.out _ G0.out su HF.out HA.out).mono ?_; rw [hq]; rintro e w1 ⟨i,rfl⟩; have j := ze (za G0.out i); have X : Hid (Box w1 w.heap.size (.mk B x m p [u]) (.slice (some ⟨g,o,none⟩) 1 E)) := Box.kept B0.out (za (zc w0 none) i); have J := zi j.out H.out; have K := zi j.out I.out; have L := zi j.out U.out; obtain ⟨M,N,O,Q,R⟩ := X.out; go_wp2_with fail; go_at_call 19; refine (yS (HM.out.up j.out) Y.out.toKTys a6 Z x).mono ?_; rw [a7,uf]; rintro e C ⟨rfl,v⟩; have D := ze (za j.out v); have B2 : Hid (Box C w.heap.size (.mk B x m p [u]) (.slice (some ⟨g,o,none⟩) 1 E)) := Box.kept X.out (za (zc w1 none) v); have a0 := zi D.out H.out; have a1 := zi D.out I.out; have a2 := zi D.out U.out; go_wp2_with fail; obtain ⟨k,f⟩ : ∃ z,z = C.alloc (.cells #[.string ⟨d.name.toArray⟩,.bool false,.pointer (some ⟨ρ.ty d.ty,0,none⟩),.int .i64 d.first] 58) := ⟨_,rfl⟩; rw [<- f]
       have s : Hid (w.grownBy k none) := by rw [f]; exact zf D.out _
       have B3 : Hid (Box k w.heap.size (.mk B x m p [u]) (.slice (some ⟨g,o,none⟩) 1 E)) := by rw [f]; exact Box.kept B2.out (zf (zc _ none) _)
       have a3 := zi s.out H.out; have a4 := zi s.out I.out; have a5 := zi s.out U.out
       have F3 : Hid (Bk k C.heap.size [.string ⟨d.name.toArray⟩,.bool false,.pointer (some ⟨ρ.ty d.ty,0,none⟩),.int .i64 d.first]) := by rw [f]; exact Bk.new _ _ _ rfl
       have f1 : Hid (k.cell? ⟨C.heap.size,1,none⟩ = some (.bool false)) := F3.out.c 1 _ rfl; have f2 := F3.out.c 2 _ rfl
       have a8 := fun w9 (hS : k.grownBy w9 none) => xN (rL (HM.out.up (za s.out hS)) b6 hh true (by simp))
       clear f; refine wp_region_held_drew (S := fun w9 => k.grownBy w9 none) (by kernel_rfl) ?_ (fun hHeld => ?_)
       ·exact zh (zc k none)
       refine kQ 0 37 (.pointer (some ⟨ρ.ty ow,0,none⟩)) hHeld ?_; simp only [qA,qB,qC,qD]; refine kQ 1 38 (.bool false) hHeld ?_; simp only [qA,qB,qC,qD]; refine kQ 2 39 (.bool false) hHeld ?_; simp only [qA,qB,qC,qD]; refine kQ 3 40 (.pointer (some ⟨C.heap.size,1,none⟩)) hHeld ?_; simp only [qA,qB,qC,qD]; refine dk 4 (some 41) (.bool false) rfl rfl (fun w9 hS => by have q1 := zi hS f1.out; go_simp) hHeld ?_; simp only [qA,qB,qC,qD]; refine kQ 5 42 (.bool true) hHeld ?_; simp only [qA,qB,qC,qD]; refine kQ 6 43 (.bool true) hHeld ?_; simp only [qA,qB,qC,qD]; refine kQ 7 44 (.pointer (some ⟨ρ.ty ow,0,none⟩)) hHeld ?_; simp only [qA,qB,qC,qD]; refine kQ 8 45 (.pointer (some ⟨ρ.ty ow,0,none⟩)) hHeld ?_; simp only [qA,qB,qC,qD]; refine kQ 9 46 (.pointer (some ⟨ρ.ty ow,2,none⟩)) hHeld ?_; simp only [qA,qB,qC,qD]; refine dk 10 (some 47) (.pointer (some ⟨ρ.md c.home,0,none⟩)) rfl rfl (fun w9 hS => by have q1 := zi (za s.out hS) o2.out; go_simp) hHeld ?_; simp only [qA,qB,qC,qD]; refine kQ 11 48 (.pointer (some ⟨b,0,none⟩)) hHeld ?_; simp only [qA,qB,qC,qD]; refine kQ 12 49 (.pointer (some ⟨b,0,none⟩)) hHeld ?_; simp only [qA,qB,qC,qD]; refine kQ 13 50 (.pointer (some ⟨b,0,none⟩)) hHeld ?_; simp only [qA,qB,qC,qD]; refine kQ 14 51 (.pointer (some ⟨b,1,none⟩)) hHeld ?_; simp only [qA,qB,qC,qD]; refine dk 15 (some 52) (.pointer (some ⟨ρ.md c.home,0,none⟩)) rfl rfl (fun w9 hS => by have q1 := zi (za s.out hS) s1.out; go_simp) hHeld ?_; simp only [qA,qB,qC,qD]
       refine dk 16 (some 53) (.bool false) rfl rfl (fun w9 hS => by have q1 := a8 w9 hS; go_simp) hHeld ?_; simp only [qA,qB,qC,qD]; refine kQ 17 54 (.bool false) hHeld ?_; simp only [qA,qB,qC,qD]; refine kQ 18 55 (.bool false) hHeld ?_; simp only [qA,qB,qC,qD]; refine wpAnyH_done (by kernel_rfl) ?_ _; clear hHeld; go_wp2
       go_ret
       exact Cy.ok (zh s.out)
     ·simp only [Option.some.injEq,b4,Bool.false_eq_true,if_false,thr,T.at']
      by_cases F : (S.ty t).form = 5
      ·have e5 := hr F
       rw [show S.recOf t = S.of t by simp [KS.recOf,F]] at A; subst A; rw [e5,yd] at I; rw [F] at H; clear hr e5
       go_enter Tryz.func192,Tryz.ntmps192
       go_wp2_with fail; go_at_call 161; rw [<- V]; refine (HU.out _ G0.out su HF.out HA.out).mono ?_; rw [hq]; rintro e w1 ⟨i,rfl⟩; have j := ze (za G0.out i); have X : Hid (Box w1 w.heap.size (.mk B x m p [u]) (.slice (some ⟨g,o,none⟩) 1 E)) := Box.kept B0.out (za (zc w0 none) i); have J := zi j.out H.out; have K := zi j.out I.out; have L := zi j.out U.out; obtain ⟨M,N,O,Q,R⟩ := X.out; go_wp2_with fail; go_at_call 19; refine (yS (HM.out.up j.out) Y.out.toKTys a6 Z x).mono ?_; rw [a7,uf]; rintro e C ⟨rfl,v⟩; have D := ze (za j.out v); have B2 : Hid (Box C w.heap.size (.mk B x m p [u]) (.slice (some ⟨g,o,none⟩) 1 E)) := Box.kept X.out (za (zc w1 none) v); have a0 := zi D.out H.out; have a1 := zi D.out I.out; have a2 := zi D.out U.out; go_wp2_with fail; obtain ⟨k,f⟩ : ∃ z,z = C.alloc (.cells #[.string ⟨d.name.toArray⟩,.bool false,.pointer (some ⟨ρ.ty d.ty,0,none⟩),.int .i64 d.first] 58) := ⟨_,rfl⟩; rw [<- f]
       have s : Hid (w.grownBy k none) := by rw [f]; exact zf D.out _
       have B3 : Hid (Box k w.heap.size (.mk B x m p [u]) (.slice (some ⟨g,o,none⟩) 1 E)) := by rw [f]; exact Box.kept B2.out (zf (zc _ none) _)
       have a3 := zi s.out H.out; have a4 := zi s.out I.out; have a5 := zi s.out U.out
       have F3 : Hid (Bk k C.heap.size [.string ⟨d.name.toArray⟩,.bool false,.pointer (some ⟨ρ.ty d.ty,0,none⟩),.int .i64 d.first]) := by rw [f]; exact Bk.new _ _ _ rfl
       have f1 : Hid (k.cell? ⟨C.heap.size,1,none⟩ = some (.bool false)) := F3.out.c 1 _ rfl; have f2 := F3.out.c 2 _ rfl
       have a8 := fun w9 (hS : k.grownBy w9 none) => xN (rL (HM.out.up (za s.out hS)) b6 hh false (by simpa using b4))
       clear f; refine wp_region_held_drew (S := fun w9 => k.grownBy w9 none) (by kernel_rfl) ?_ (fun hHeld => ?_)
       ·exact zh (zc k none)
       refine kQ 0 37 (.pointer (some ⟨ρ.ty ow,0,none⟩)) hHeld ?_; simp only [qA,qB,qC,qD]; refine kQ 1 38 (.bool false) hHeld ?_; simp only [qA,qB,qC,qD]; refine kQ 2 39 (.bool false) hHeld ?_; simp only [qA,qB,qC,qD]; refine kQ 3 40 (.pointer (some ⟨C.heap.size,1,none⟩)) hHeld ?_; simp only [qA,qB,qC,qD]; refine dk 4 (some 41) (.bool false) rfl rfl (fun w9 hS => by have q1 := zi hS f1.out; go_simp) hHeld ?_; simp only [qA,qB,qC,qD]; refine kQ 5 42 (.bool true) hHeld ?_; simp only [qA,qB,qC,qD]; refine kQ 6 43 (.bool true) hHeld ?_; simp only [qA,qB,qC,qD]; refine kQ 7 44 (.pointer (some ⟨ρ.ty ow,0,none⟩)) hHeld ?_; simp only [qA,qB,qC,qD]; refine kQ 8 45 (.pointer (some ⟨ρ.ty ow,0,none⟩)) hHeld ?_; simp only [qA,qB,qC,qD]; refine kQ 9 46 (.pointer (some ⟨ρ.ty ow,2,none⟩)) hHeld ?_; simp only [qA,qB,qC,qD]; refine dk 10 (some 47) (.pointer (some ⟨ρ.md hm,0,none⟩)) rfl rfl (fun w9 hS => by have q1 := zi (za s.out hS) o2.out; go_simp) hHeld ?_; simp only [qA,qB,qC,qD]; refine kQ 11 48 (.pointer (some ⟨b,0,none⟩)) hHeld ?_; simp only [qA,qB,qC,qD]; refine kQ 12 49 (.pointer (some ⟨b,0,none⟩)) hHeld ?_; simp only [qA,qB,qC,qD]; refine kQ 13 50 (.pointer (some ⟨b,0,none⟩)) hHeld ?_; simp only [qA,qB,qC,qD]; refine kQ 14 51 (.pointer (some ⟨b,1,none⟩)) hHeld ?_; simp only [qA,qB,qC,qD]; refine dk 15 (some 52) (.pointer (some ⟨ρ.md c.home,0,none⟩)) rfl rfl (fun w9 hS => by have q1 := zi (za s.out hS) s1.out; go_simp) hHeld ?_; simp only [qA,qB,qC,qD]
       refine dk 16 (some 53) (.bool true) rfl rfl (fun w9 hS => by have q1 := a8 w9 hS; go_simp) hHeld ?_; simp only [qA,qB,qC,qD]; refine kQ 17 54 (.bool true) hHeld ?_; simp only [qA,qB,qC,qD]; refine kQ 18 55 (.bool true) hHeld ?_; simp only [qA,qB,qC,qD]; refine wpAnyH_done (by kernel_rfl) ?_ _; clear hHeld; obtain ⟨a9,b0,b1,b2,b3⟩ := B3.out; go_wp2_with fail; go_at_call 53; refine (zu _ (.mk B x m p [u]) (.slice (some ⟨g,o,none⟩) 1 E) 5).mono ?_; rintro e w4 Z; have Y := Z; obtain ⟨q,rfl⟩ := Z.thrown
       exact ⟨rfl,Y.err (zh s.out)⟩
      ·have b5 : decide ((S.ty t).form = 5) = false := by simpa using F
       rw [show S.recOf t = t by simp [KS.recOf,F]] at A; subst A; clear hr
       go_enter Tryz.func192,Tryz.ntmps192
       go_wp2_with fail; go_at_call 161; rw [<- V]; refine (HU.out _ G0.out su HF.out HA.out).mono ?_; rw [hq]; rintro e w1 ⟨i,rfl⟩; have j := ze (za G0.out i); have X : Hid (Box w1 w.heap.size (.mk B x m p [u]) (.slice (some ⟨g,o,none⟩) 1 E)) := Box.kept B0.out (za (zc w0 none) i); have J := zi j.out H.out; have K := zi j.out I.out; have L := zi j.out U.out; obtain ⟨M,N,O,Q,R⟩ := X.out; go_wp2_with fail; go_at_call 19; refine (yS (HM.out.up j.out) Y.out.toKTys a6 Z x).mono ?_; rw [a7,uf]; rintro e C ⟨rfl,v⟩; have D := ze (za j.out v); have B2 : Hid (Box C w.heap.size (.mk B x m p [u]) (.slice (some ⟨g,o,none⟩) 1 E)) := Box.kept X.out (za (zc w1 none) v); have a0 := zi D.out H.out; have a1 := zi D.out I.out; have a2 := zi D.out U.out; go_wp2_with fail; obtain ⟨k,f⟩ : ∃ z,z = C.alloc (.cells #[.string ⟨d.name.toArray⟩,.bool false,.pointer (some ⟨ρ.ty d.ty,0,none⟩),.int .i64 d.first] 58) := ⟨_,rfl⟩; rw [<- f]
       have s : Hid (w.grownBy k none) := by rw [f]; exact zf D.out _
       have B3 : Hid (Box k w.heap.size (.mk B x m p [u]) (.slice (some ⟨g,o,none⟩) 1 E)) := by rw [f]; exact Box.kept B2.out (zf (zc _ none) _)
       have a3 := zi s.out H.out; have a4 := zi s.out I.out; have a5 := zi s.out U.out
       have F3 : Hid (Bk k C.heap.size [.string ⟨d.name.toArray⟩,.bool false,.pointer (some ⟨ρ.ty d.ty,0,none⟩),.int .i64 d.first]) := by rw [f]; exact Bk.new _ _ _ rfl
       have f1 : Hid (k.cell? ⟨C.heap.size,1,none⟩ = some (.bool false)) := F3.out.c 1 _ rfl; have f2 := F3.out.c 2 _ rfl
       have a8 := fun w9 (hS : k.grownBy w9 none) => xN (rL (HM.out.up (za s.out hS)) b6 hh false (by simpa using b4))
       clear f; refine wp_region_held_drew (S := fun w9 => k.grownBy w9 none) (by kernel_rfl) ?_ (fun hHeld => ?_)
       ·exact zh (zc k none)
       refine kQ 0 37 (.pointer (some ⟨ρ.ty ow,0,none⟩)) hHeld ?_; simp only [qA,qB,qC,qD]; refine kQ 1 38 (.bool false) hHeld ?_; simp only [qA,qB,qC,qD]; refine kQ 2 39 (.bool false) hHeld ?_; simp only [qA,qB,qC,qD]; refine kQ 3 40 (.pointer (some ⟨C.heap.size,1,none⟩)) hHeld ?_; simp only [qA,qB,qC,qD]; refine dk 4 (some 41) (.bool false) rfl rfl (fun w9 hS => by have q1 := zi hS f1.out; go_simp) hHeld ?_; simp only [qA,qB,qC,qD]; refine kQ 5 42 (.bool true) hHeld ?_; simp only [qA,qB,qC,qD]; refine kQ 6 43 (.bool true) hHeld ?_; simp only [qA,qB,qC,qD]; refine kQ 7 44 (.pointer (some ⟨ρ.ty ow,0,none⟩)) hHeld ?_; simp only [qA,qB,qC,qD]; refine kQ 8 45 (.pointer (some ⟨ρ.ty ow,0,none⟩)) hHeld ?_; simp only [qA,qB,qC,qD]; refine kQ 9 46 (.pointer (some ⟨ρ.ty ow,2,none⟩)) hHeld ?_; simp only [qA,qB,qC,qD]; refine dk 10 (some 47) (.pointer (some ⟨ρ.md hm,0,none⟩)) rfl rfl (fun w9 hS => by have q1 := zi (za s.out hS) o2.out; go_simp) hHeld ?_; simp only [qA,qB,qC,qD]; refine kQ 11 48 (.pointer (some ⟨b,0,none⟩)) hHeld ?_; simp only [qA,qB,qC,qD]; refine kQ 12 49 (.pointer (some ⟨b,0,none⟩)) hHeld ?_; simp only [qA,qB,qC,qD]; refine kQ 13 50 (.pointer (some ⟨b,0,none⟩)) hHeld ?_; simp only [qA,qB,qC,qD]; refine kQ 14 51 (.pointer (some ⟨b,1,none⟩)) hHeld ?_; simp only [qA,qB,qC,qD]; refine dk 15 (some 52) (.pointer (some ⟨ρ.md c.home,0,none⟩)) rfl rfl (fun w9 hS => by have q1 := zi (za s.out hS) s1.out; go_simp) hHeld ?_; simp only [qA,qB,qC,qD]
       refine dk 16 (some 53) (.bool true) rfl rfl (fun w9 hS => by have q1 := a8 w9 hS; go_simp) hHeld ?_; simp only [qA,qB,qC,qD]; refine kQ 17 54 (.bool true) hHeld ?_; simp only [qA,qB,qC,qD]; refine kQ 18 55 (.bool true) hHeld ?_; simp only [qA,qB,qC,qD]; refine wpAnyH_done (by kernel_rfl) ?_ _; clear hHeld; obtain ⟨a9,b0,b1,b2,b3⟩ := B3.out; go_wp2_with fail; go_at_call 53; refine (zu _ (.mk B x m p [u]) (.slice (some ⟨g,o,none⟩) 1 E) 5).mono ?_; rintro e w4 Z; have Y := Z; obtain ⟨q,rfl⟩ := Z.thrown
       exact ⟨rfl,Y.err (zh s.out)⟩
    ·simp only [if_true]
     by_cases F : (S.ty t).form = 5
     ·have e5 := hr F
      rw [show S.recOf t = S.of t by simp [KS.recOf,F]] at A; subst A; rw [e5,yd] at I; rw [F] at H; clear hr e5
      go_enter Tryz.func192,Tryz.ntmps192
      go_wp2_with fail; go_at_call 161; rw [<- V]; refine (HU.out _ G0.out su HF.out HA.out).mono ?_; rw [hq]; rintro e w1 ⟨i,rfl⟩; have j := ze (za G0.out i); have X : Hid (Box w1 w.heap.size (.mk B x m p [u]) (.slice (some ⟨g,o,none⟩) 1 E)) := Box.kept B0.out (za (zc w0 none) i); have J := zi j.out H.out; have K := zi j.out I.out; have L := zi j.out U.out; obtain ⟨M,N,O,Q,R⟩ := X.out; go_wp2_with fail; go_at_call 19; refine (yS (HM.out.up j.out) Y.out.toKTys a6 Z x).mono ?_; rw [a7,uf]; rintro e C ⟨rfl,v⟩; have D := ze (za j.out v); have B2 : Hid (Box C w.heap.size (.mk B x m p [u]) (.slice (some ⟨g,o,none⟩) 1 E)) := Box.kept X.out (za (zc w1 none) v); have a0 := zi D.out H.out; have a1 := zi D.out I.out; have a2 := zi D.out U.out; go_wp2_with fail; obtain ⟨k,f⟩ : ∃ z,z = C.alloc (.cells #[.string ⟨d.name.toArray⟩,.bool true,.pointer (some ⟨ρ.ty d.ty,0,none⟩),.int .i64 d.first] 58) := ⟨_,rfl⟩; rw [<- f]
      have s : Hid (w.grownBy k none) := by rw [f]; exact zf D.out _
      have B3 : Hid (Box k w.heap.size (.mk B x m p [u]) (.slice (some ⟨g,o,none⟩) 1 E)) := by rw [f]; exact Box.kept B2.out (zf (zc _ none) _)
      have a3 := zi s.out H.out; have a4 := zi s.out I.out; have a5 := zi s.out U.out
      have F3 : Hid (Bk k C.heap.size [.string ⟨d.name.toArray⟩,.bool true,.pointer (some ⟨ρ.ty d.ty,0,none⟩),.int .i64 d.first]) := by rw [f]; exact Bk.new _ _ _ rfl
      have f1 : Hid (k.cell? ⟨C.heap.size,1,none⟩ = some (.bool true)) := F3.out.c 1 _ rfl; have f2 := F3.out.c 2 _ rfl; clear f; refine wp_region_held_drew (S := fun w9 => k.grownBy w9 none) (by kernel_rfl) ?_ (fun hHeld => ?_)
      ·exact zh (zc k none)
      refine kQ 0 37 (.pointer (some ⟨ρ.ty ow,0,none⟩)) hHeld ?_; simp only [qA,qB,qC,qD]; refine kQ 1 38 (.bool false) hHeld ?_; simp only [qA,qB,qC,qD]; refine kQ 2 39 (.bool false) hHeld ?_; simp only [qA,qB,qC,qD]; refine kQ 3 40 (.pointer (some ⟨C.heap.size,1,none⟩)) hHeld ?_; simp only [qA,qB,qC,qD]; refine dk 4 (some 41) (.bool true) rfl rfl (fun w9 hS => by have q1 := zi hS f1.out; go_simp) hHeld ?_; simp only [qA,qB,qC,qD]; refine kQ 5 42 (.bool false) hHeld ?_; simp only [qA,qB,qC,qD]; refine kQ 6 43 (.bool false) hHeld ?_; simp only [qA,qB,qC,qD]; refine dn 7 (some 44) rfl rfl hHeld ?_; simp only [qA,qB,qC,qD]; refine dn 8 (some 45) rfl rfl hHeld ?_; simp only [qA,qB,qC,qD]; refine dn 9 (some 46) rfl rfl hHeld ?_; simp only [qA,qB,qC,qD]; refine dn 10 (some 47) rfl rfl hHeld ?_; simp only [qA,qB,qC,qD]; refine dn 11 (some 48) rfl rfl hHeld ?_; simp only [qA,qB,qC,qD]; refine dn 12 (some 49) rfl rfl hHeld ?_; simp only [qA,qB,qC,qD]; refine dn 13 (some 50) rfl rfl hHeld ?_; simp only [qA,qB,qC,qD]; refine dn 14 (some 51) rfl rfl hHeld ?_; simp only [qA,qB,qC,qD]; refine dn 15 (some 52) rfl rfl hHeld ?_; simp only [qA,qB,qC,qD]; refine dn 16 (some 53) rfl rfl hHeld ?_; simp only [qA,qB,qC,qD]; refine kQ 17 54 (.bool false) hHeld ?_; simp only [qA,qB,qC,qD]; refine kQ 18 55 (.bool false) hHeld ?_; simp only [qA,qB,qC,qD]; refine wpAnyH_done (by kernel_rfl) ?_ _; clear hHeld; go_wp2
      go_ret
      exact Cy.ok (zh s.out)
     ·have b5 : decide ((S.ty t).form = 5) = false := by simpa using F
      rw [show S.recOf t = t by simp [KS.recOf,F]] at A; subst A; clear hr
      go_enter Tryz.func192,Tryz.ntmps192
      go_wp2_with fail; go_at_call 161; rw [<- V]; refine (HU.out _ G0.out su HF.out HA.out).mono ?_; rw [hq]; rintro e w1 ⟨i,rfl⟩; have j := ze (za G0.out i); have X : Hid (Box w1 w.heap.size (.mk B x m p [u]) (.slice (some ⟨g,o,none⟩) 1 E)) := Box.kept B0.out (za (zc w0 none) i); have J := zi j.out H.out; have K := zi j.out I.out; have L := zi j.out U.out; obtain ⟨M,N,O,Q,R⟩ := X.out; go_wp2_with fail; go_at_call 19; refine (yS (HM.out.up j.out) Y.out.toKTys a6 Z x).mono ?_; rw [a7,uf]; rintro e C ⟨rfl,v⟩; have D := ze (za j.out v); have B2 : Hid (Box C w.heap.size (.mk B x m p [u]) (.slice (some ⟨g,o,none⟩) 1 E)) := Box.kept X.out (za (zc w1 none) v); have a0 := zi D.out H.out; have a1 := zi D.out I.out; have a2 := zi D.out U.out; go_wp2_with fail; obtain ⟨k,f⟩ : ∃ z,z = C.alloc (.cells #[.string ⟨d.name.toArray⟩,.bool true,.pointer (some ⟨ρ.ty d.ty,0,none⟩),.int .i64 d.first] 58) := ⟨_,rfl⟩; rw [<- f]
      have s : Hid (w.grownBy k none) := by rw [f]; exact zf D.out _
      have B3 : Hid (Box k w.heap.size (.mk B x m p [u]) (.slice (some ⟨g,o,none⟩) 1 E)) := by rw [f]; exact Box.kept B2.out (zf (zc _ none) _)
      have a3 := zi s.out H.out; have a4 := zi s.out I.out; have a5 := zi s.out U.out
      have F3 : Hid (Bk k C.heap.size [.string ⟨d.name.toArray⟩,.bool true,.pointer (some ⟨ρ.ty d.ty,0,none⟩),.int .i64 d.first]) := by rw [f]; exact Bk.new _ _ _ rfl
      have f1 : Hid (k.cell? ⟨C.heap.size,1,none⟩ = some (.bool true)) := F3.out.c 1 _ rfl; have f2 := F3.out.c 2 _ rfl; clear f; refine wp_region_held_drew (S := fun w9 => k.grownBy w9 none) (by kernel_rfl) ?_ (fun hHeld => ?_)
      ·exact zh (zc k none)
      refine kQ 0 37 (.pointer (some ⟨ρ.ty ow,0,none⟩)) hHeld ?_; simp only [qA,qB,qC,qD]; refine kQ 1 38 (.bool false) hHeld ?_; simp only [qA,qB,qC,qD]; refine kQ 2 39 (.bool false) hHeld ?_; simp only [qA,qB,qC,qD]; refine kQ 3 40 (.pointer (some ⟨C.heap.size,1,none⟩)) hHeld ?_; simp only [qA,qB,qC,qD]; refine dk 4 (some 41) (.bool true) rfl rfl (fun w9 hS => by have q1 := zi hS f1.out; go_simp) hHeld ?_; simp only [qA,qB,qC,qD]; refine kQ 5 42 (.bool false) hHeld ?_; simp only [qA,qB,qC,qD]; refine kQ 6 43 (.bool false) hHeld ?_; simp only [qA,qB,qC,qD]; refine dn 7 (some 44) rfl rfl hHeld ?_; simp only [qA,qB,qC,qD]; refine dn 8 (some 45) rfl rfl hHeld ?_; simp only [qA,qB,qC,qD]; refine dn 9 (some 46) rfl rfl hHeld ?_; simp only [qA,qB,qC,qD]; refine dn 10 (some 47) rfl rfl hHeld ?_; simp only [qA,qB,qC,qD]; refine dn 11 (some 48) rfl rfl hHeld ?_; simp only [qA,qB,qC,qD]; refine dn 12 (some 49) rfl rfl hHeld ?_; simp only [qA,qB,qC,qD]; refine dn 13 (some 50) rfl rfl hHeld ?_; simp only [qA,qB,qC,qD]; refine dn 14 (some 51) rfl rfl hHeld ?_; simp only [qA,qB,qC,qD]; refine dn 15 (some 52) rfl rfl hHeld ?_; simp only [qA,qB,qC,qD]; refine dn 16 (some 53) rfl rfl hHeld ?_; simp only [qA,qB,qC,qD]; refine kQ 17 54 (.bool false) hHeld ?_; simp only [qA,qB,qC,qD]; refine kQ 18 55 (.bool false) hHeld ?_; simp only [qA,qB,qC,qD]; refine wpAnyH_done (by kernel_rfl) ?_ _; clear hHeld; go_wp2
      go_ret
      exact Cy.ok (zh s.out)
  ·rw [if_neg Z]
   simp only [thr,T.at']
   have c8 : decide ((S.ty q).form = 4) = false := by simpa using Z
   by_cases F : (S.ty t).form = 5
   ·have e5 := hr F
    rw [show S.recOf t = S.of t by simp [KS.recOf,F]] at A; subst A; rw [e5,yd] at I; rw [F] at H; clear hr e5
    go_enter Tryz.func192,Tryz.ntmps192
    go_wp2_with fail; go_at_call 161; rw [<- V]; refine (HU.out _ G0.out su HF.out HA.out).mono ?_; rw [hq]; rintro e w1 ⟨i,rfl⟩; have j := ze (za G0.out i); have X : Hid (Box w1 w.heap.size (.mk B x m p [u]) (.slice (some ⟨g,o,none⟩) 1 E)) := Box.kept B0.out (za (zc w0 none) i); have J := zi j.out H.out; have K := zi j.out I.out; have L := zi j.out U.out; obtain ⟨M,N,O,Q,R⟩ := X.out; go_wp2_with fail; go_at_call 53; refine (zu _ (.mk B x m p [u]) (.slice (some ⟨g,o,none⟩) 1 E) 7).mono ?_; rintro e C h2; have Y := h2; obtain ⟨q,rfl⟩ := h2.thrown
    exact ⟨rfl,Y.err j.out⟩
   ·have b5 : decide ((S.ty t).form = 5) = false := by simpa using F
    rw [show S.recOf t = t by simp [KS.recOf,F]] at A; subst A; clear hr
    go_enter Tryz.func192,Tryz.ntmps192
    go_wp2_with fail; go_at_call 161; rw [<- V]; refine (HU.out _ G0.out su HF.out HA.out).mono ?_; rw [hq]; rintro e w1 ⟨i,rfl⟩; have j := ze (za G0.out i); have X : Hid (Box w1 w.heap.size (.mk B x m p [u]) (.slice (some ⟨g,o,none⟩) 1 E)) := Box.kept B0.out (za (zc w0 none) i); have J := zi j.out H.out; have K := zi j.out I.out; have L := zi j.out U.out; obtain ⟨M,N,O,Q,R⟩ := X.out; go_wp2_with fail; go_at_call 53; refine (zu _ (.mk B x m p [u]) (.slice (some ⟨g,o,none⟩) 1 E) 7).mono ?_; rintro e C h2; have Y := h2; obtain ⟨q,rfl⟩ := h2.thrown
    exact ⟨rfl,Y.err j.out⟩
end
section
variable {ρ : Lay} {w w' w1 : World} {S : KS} {b : Nat} {c : KSc}
theorem rh (h : CK ρ w S b c) (n : T) (sv : Value) (hf : Fits n) (ha : AT w n.subs sv) (hT : KAll S) {r : KR} {u v : T} (hl : n.subs = [u,v]) (hu : CDe ρ S b c r u) (hv : CEx ρ S b c r v) :
  Calls Tryz.prog 193 #[.pointer (some ⟨b,0,none⟩),zn n sv] w (Cy w ((S.indexC r n).map fun t => .pointer (some ⟨ρ.ty t,0,none⟩))) := by
 have HU := ze (fun w1 (G : w.grownBy w1 none) J (fu : Fits u) (au : AT w u.subs J) => hu.run w1 J (h.up G) fu (au.kept G)); have HV := ze (fun w1 (G : w.grownBy w1 none) J (fu : Fits v) (au : AT w v.subs J) => hv.run w1 J (h.up G) fu (au.kept G)); have HM := ze h.km; have V := ze hT; have a5 := hu.lt; have a6 := hv.lt; have s0 : Hid _ := h.s0; have a3 : Hid _ := h.km.wc0; have h3 := h.ok.three; obtain ⟨K,x,m,p,l⟩ := n; obtain rfl : l = [u,v] := hl; obtain ⟨g,o,D,J,L,rfl,_,_,n5,fu,au,X,fv,av⟩ := ha.pair; have HA := ze au; have HF := ze fu; have M := ze av; have Y := ze fv
 replace n5 := ze n5
 replace X := ze X
 clear fu au fv av
 change Calls Tryz.prog 193 #[.pointer (some ⟨b,0,none⟩),.agg #[.int .i64 K,.string ⟨x.toArray⟩,.int .i64 m,.int .i64 p,.slice (some ⟨g,o,none⟩) 2 D]] w _
 obtain ⟨w0,j⟩ : ∃ z,z = w.alloc (.cells #[.int .i64 K,.string ⟨x.toArray⟩,.int .i64 m,.int .i64 p,.slice (some ⟨g,o,none⟩) 2 D] 100) := ⟨_,rfl⟩
 have F : Hid (w.grownBy w0 none) := by rw [j]; exact zf (zc w none) _
 have N : Hid (Box w0 w.heap.size (.mk K x m p [u,v]) (.slice (some ⟨g,o,none⟩) 2 D)) := by rw [j]; exact Box.new w (.mk K x m p [u,v]) (.slice (some ⟨g,o,none⟩) 2 D) _
 clear h ha hf hu hv hT
 have hz : sub (.mk K x m p [u,v]) 0 = u := rfl
 have Z : sub (.mk K x m p [u,v]) 1 = v := rfl
 cases Q : r.de u with
 | error z =>
  rw [show S.indexC r (.mk K x m p [u,v]) = .error z by simp [KS.indexC,hz,Q,Except.bind]]
  go_enter Tryz.func193,Tryz.ntmps193
  go_wp2_with fail; rw [<- j]; clear j; refine wp_region_held_drew (S := fun w9 => w0.grownBy w9 none) (by kernel_rfl) ?_ (fun hHeld => ?_)
  ·exact zh (zc w0 none)
  refine kQ 0 7 (.pointer (some ⟨b,0,none⟩)) hHeld ?_; simp only [qA,qB,qC,qD]; refine kQ 1 8 (.pointer (some ⟨w.heap.size,4,none⟩)) hHeld ?_; simp only [qA,qB,qC,qD]; refine dk 2 (some 9) (.slice (some ⟨g,o,none⟩) 2 D) rfl rfl (fun w9 hS => by obtain ⟨k,f,s,A,B⟩ := (Box.kept N.out hS).plain; go_simp) hHeld ?_; simp only [qA,qB,qC,qD]; refine kQ 3 10 (.pointer (some ⟨g,o,none⟩)) hHeld ?_; simp only [qA,qB,qC,qD]; refine dk 4 (some 11) (zn u J) rfl rfl (fun w9 hS => by obtain ⟨k,f,s,A,B⟩ := Node5.kept n5.out (za F.out hS); go_simp) hHeld ?_; simp only [qA,qB,qC,qD]; refine kQ 6 13 (.pointer (some ⟨b,0,none⟩)) hHeld ?_; simp only [qA,qB,qC,qD]; refine kQ 7 14 (.pointer (some ⟨w.heap.size,4,none⟩)) hHeld ?_; simp only [qA,qB,qC,qD]; refine dk 8 (some 15) (.slice (some ⟨g,o,none⟩) 2 D) rfl rfl (fun w9 hS => by obtain ⟨k,f,s,A,B⟩ := (Box.kept N.out hS).plain; go_simp) hHeld ?_; simp only [qA,qB,qC,qD]; refine kQ 9 16 (.pointer (some ⟨g,o + 5,none⟩)) hHeld ?_; simp only [qA,qB,qC,qD]; refine dk 10 (some 17) (zn v L) rfl rfl (fun w9 hS => by obtain ⟨k,f,s,A,B⟩ := Node5.kept X.out (za F.out hS); go_simp) hHeld ?_; simp only [qA,qB,qC,qD]; refine rd 5 rfl fun KK hKK => ?_
  go_simp
  go_at_call 161; refine (HU.out _ (zh F.out) J HF.out HA.out).mono ?_; rw [Q]; rintro e w1 h1; have V := h1; obtain ⟨q,rfl⟩ := h1.thrown
  exact ⟨rfl,V.err (zh F.out)⟩
 | ok t =>
  cases hy : r.ex v with
  | error z =>
   rw [show S.indexC r (.mk K x m p [u,v]) = .error z by simp [KS.indexC,hz,Z,Q,hy,Except.bind]]
   go_enter Tryz.func193,Tryz.ntmps193
   go_wp2_with fail; rw [<- j]; clear j; refine wp_region_held_drew (S := fun w9 => w0.grownBy w9 none) (by kernel_rfl) ?_ (fun hHeld => ?_)
   ·exact zh (zc w0 none)
   refine kQ 0 7 (.pointer (some ⟨b,0,none⟩)) hHeld ?_; simp only [qA,qB,qC,qD]; refine kQ 1 8 (.pointer (some ⟨w.heap.size,4,none⟩)) hHeld ?_; simp only [qA,qB,qC,qD]; refine dk 2 (some 9) (.slice (some ⟨g,o,none⟩) 2 D) rfl rfl (fun w9 hS => by obtain ⟨k,f,s,A,B⟩ := (Box.kept N.out hS).plain; go_simp) hHeld ?_; simp only [qA,qB,qC,qD]; refine kQ 3 10 (.pointer (some ⟨g,o,none⟩)) hHeld ?_; simp only [qA,qB,qC,qD]; refine dk 4 (some 11) (zn u J) rfl rfl (fun w9 hS => by obtain ⟨k,f,s,A,B⟩ := Node5.kept n5.out (za F.out hS); go_simp) hHeld ?_; simp only [qA,qB,qC,qD]; refine kQ 6 13 (.pointer (some ⟨b,0,none⟩)) hHeld ?_; simp only [qA,qB,qC,qD]; refine kQ 7 14 (.pointer (some ⟨w.heap.size,4,none⟩)) hHeld ?_; simp only [qA,qB,qC,qD]; refine dk 8 (some 15) (.slice (some ⟨g,o,none⟩) 2 D) rfl rfl (fun w9 hS => by obtain ⟨k,f,s,A,B⟩ := (Box.kept N.out hS).plain; go_simp) hHeld ?_; simp only [qA,qB,qC,qD]; refine kQ 9 16 (.pointer (some ⟨g,o + 5,none⟩)) hHeld ?_; simp only [qA,qB,qC,qD]; refine dk 10 (some 17) (zn v L) rfl rfl (fun w9 hS => by obtain ⟨k,f,s,A,B⟩ := Node5.kept X.out (za F.out hS); go_simp) hHeld ?_; simp only [qA,qB,qC,qD]; refine rd 5 rfl fun KK hKK => ?_
   go_simp
   go_at_call 161; refine (HU.out _ (zh F.out) J HF.out HA.out).mono ?_; rw [Q]; rintro e w1 ⟨d,rfl⟩; have R := ze (za (zh F.out) d); have E := ze (za (zh (zc w0 none)) d); clear d
   go_simp
   refine hKK.out _ _ E.out fun hHeld => ?_
   clear hKK KK; refine rd 11 rfl fun KK hKK => ?_
   go_simp
   go_at_call 157; refine (HV.out _ R.out L Y.out M.out).mono ?_; rw [hy]; rintro e U h2; have V := h2; obtain ⟨q,rfl⟩ := h2.thrown
   exact ⟨rfl,V.err R.out⟩
  | ok i =>
   have ht := a5 t Q; have hi := a6 i hy; have t0 : Hid (w.cell? ⟨ρ.ty t,0,none⟩ = some (.int .i64 (S.ty t).form)) := HM.out.y0 ht
   by_cases O : (S.ty t).form = 3
   ·obtain ⟨a1,_⟩ := V.out.a ht O
    have t5 : Hid (w.cell? ⟨ρ.ty t,5,none⟩ = some (.pointer (some ⟨ρ.ty (S.of t),0,none⟩))) := by have h9 := HM.out.y5 ht; rw [a1] at h9; exact h9
    rw [O] at t0; cases hn : yE v i 0 with
    | error z =>
     rw [show S.indexC r (.mk K x m p [u,v]) = .error z by simp [KS.indexC,hz,Z,Q,hy,O,hn,Except.bind]]
     go_enter Tryz.func193,Tryz.ntmps193
     go_wp2_with fail; rw [<- j]; clear j; refine wp_region_held_drew (S := fun w9 => w0.grownBy w9 none) (by kernel_rfl) ?_ (fun hHeld => ?_)
     ·exact zh (zc w0 none)
     refine kQ 0 7 (.pointer (some ⟨b,0,none⟩)) hHeld ?_; simp only [qA,qB,qC,qD]; refine kQ 1 8 (.pointer (some ⟨w.heap.size,4,none⟩)) hHeld ?_; simp only [qA,qB,qC,qD]; refine dk 2 (some 9) (.slice (some ⟨g,o,none⟩) 2 D) rfl rfl (fun w9 hS => by obtain ⟨k,f,s,A,B⟩ := (Box.kept N.out hS).plain; go_simp) hHeld ?_; simp only [qA,qB,qC,qD]; refine kQ 3 10 (.pointer (some ⟨g,o,none⟩)) hHeld ?_; simp only [qA,qB,qC,qD]; refine dk 4 (some 11) (zn u J) rfl rfl (fun w9 hS => by obtain ⟨k,f,s,A,B⟩ := Node5.kept n5.out (za F.out hS); go_simp) hHeld ?_; simp only [qA,qB,qC,qD]; refine kQ 6 13 (.pointer (some ⟨b,0,none⟩)) hHeld ?_; simp only [qA,qB,qC,qD]; refine kQ 7 14 (.pointer (some ⟨w.heap.size,4,none⟩)) hHeld ?_; simp only [qA,qB,qC,qD]; refine dk 8 (some 15) (.slice (some ⟨g,o,none⟩) 2 D) rfl rfl (fun w9 hS => by obtain ⟨k,f,s,A,B⟩ := (Box.kept N.out hS).plain; go_simp) hHeld ?_; simp only [qA,qB,qC,qD]; refine kQ 9 16 (.pointer (some ⟨g,o + 5,none⟩)) hHeld ?_; simp only [qA,qB,qC,qD]; refine dk 10 (some 17) (zn v L) rfl rfl (fun w9 hS => by obtain ⟨k,f,s,A,B⟩ := Node5.kept X.out (za F.out hS); go_simp) hHeld ?_; simp only [qA,qB,qC,qD]; refine rd 5 rfl fun KK hKK => ?_
     go_simp
     go_at_call 161; refine (HU.out _ (zh F.out) J HF.out HA.out).mono ?_; rw [Q]; rintro e w1 ⟨d,rfl⟩; have R := ze (za (zh F.out) d); have E := ze (za (zh (zc w0 none)) d); clear d
     go_simp
     refine hKK.out _ _ E.out fun hHeld => ?_
     clear hKK KK; refine rd 11 rfl fun KK hKK => ?_
     go_simp
     go_at_call 157; refine (HV.out _ R.out L Y.out M.out).mono ?_; rw [hy]; rintro e U ⟨C,rfl⟩; have H := ze (za R.out C); have I := ze (za E.out C); clear C
     go_simp
     refine hKK.out _ _ I.out fun hHeld => ?_
     clear hKK KK; refine kQ 12 5 (.pointer (some ⟨ρ.ty t,0,none⟩)) hHeld ?_; simp only [qA,qB,qC,qD]; refine kQ 13 6 (.pointer (some ⟨ρ.ty i,0,none⟩)) hHeld ?_; simp only [qA,qB,qC,qD]; refine wpAnyH_done (by kernel_rfl) ?_ _; clear hHeld; have B2 : Hid (Box U w.heap.size (.mk K x m p [u,v]) (.slice (some ⟨g,o,none⟩) 2 D)) := Box.kept N.out I.out; have a0 := zi H.out t0.out; go_wp2_with fail; refine wp_region_held_drew (S := fun w9 => U.grownBy w9 none) (by kernel_rfl) ?_ (fun hHeld => ?_)
     ·exact zh (zc U none)
     refine kQ 0 26 (.pointer (some ⟨w.heap.size,4,none⟩)) hHeld ?_; simp only [qA,qB,qC,qD]; refine dk 1 (some 27) (.slice (some ⟨g,o,none⟩) 2 D) rfl rfl (fun w9 hS => by obtain ⟨k,f,s,A,B⟩ := (Box.kept B2.out hS).plain; go_simp) hHeld ?_; simp only [qA,qB,qC,qD]; refine kQ 2 28 (.pointer (some ⟨g,o + 5,none⟩)) hHeld ?_; simp only [qA,qB,qC,qD]; refine dk 3 (some 29) (zn v L) rfl rfl (fun w9 hS => by obtain ⟨k,f,s,A,B⟩ := Node5.kept X.out (za H.out hS); go_simp) hHeld ?_; simp only [qA,qB,qC,qD]; refine kQ 4 30 (.pointer (some ⟨ρ.ty i,0,none⟩)) hHeld ?_; simp only [qA,qB,qC,qD]; refine kQ 5 31 (.pointer (some ⟨b,0,none⟩)) hHeld ?_; simp only [qA,qB,qC,qD]; refine kQ 6 32 (.pointer (some ⟨b,0,none⟩)) hHeld ?_; simp only [qA,qB,qC,qD]; refine kQ 7 33 (.pointer (some ⟨b,0,none⟩)) hHeld ?_; simp only [qA,qB,qC,qD]; refine kQ 8 34 (.pointer (some ⟨b,0,none⟩)) hHeld ?_; simp only [qA,qB,qC,qD]; refine dk 9 (some 35) (.pointer (some ⟨ρ.wd,0,none⟩)) rfl rfl (fun w9 hS => by have f := zi (za H.out hS) s0.out; go_simp) hHeld ?_; simp only [qA,qB,qC,qD]; refine kQ 10 36 (.pointer (some ⟨ρ.wd,0,none⟩)) hHeld ?_; simp only [qA,qB,qC,qD]; refine kQ 11 37 (.pointer (some ⟨ρ.wd,0,none⟩)) hHeld ?_; simp only [qA,qB,qC,qD]; refine dk 12 (some 38) (.pointer (some ⟨ρ.ty 0,0,none⟩)) rfl rfl (fun w9 hS => by have f := zi (za H.out hS) a3.out; go_simp) hHeld ?_; simp only [qA,qB,qC,qD]; refine rd 13 rfl fun KK hKK => ?_
     go_simp
     go_at_call 115; refine (zL (HM.out.up (zh H.out)) v L (M.out.kept (zh H.out)) hi (show 0 < S.tys.length by omega)).mono ?_; rw [hn]; rintro e w3 h3; have V := h3; obtain ⟨q,rfl⟩ := h3.thrown
     exact ⟨rfl,V.err (zh H.out)⟩
    | ok _ =>
     rw [show S.indexC r (.mk K x m p [u,v]) = .ok (S.of t) by simp [KS.indexC,hz,Z,Q,hy,O,hn,Except.bind]]
     go_enter Tryz.func193,Tryz.ntmps193
     go_wp2_with fail; rw [<- j]; clear j; refine wp_region_held_drew (S := fun w9 => w0.grownBy w9 none) (by kernel_rfl) ?_ (fun hHeld => ?_)
     ·exact zh (zc w0 none)
     refine kQ 0 7 (.pointer (some ⟨b,0,none⟩)) hHeld ?_; simp only [qA,qB,qC,qD]; refine kQ 1 8 (.pointer (some ⟨w.heap.size,4,none⟩)) hHeld ?_; simp only [qA,qB,qC,qD]; refine dk 2 (some 9) (.slice (some ⟨g,o,none⟩) 2 D) rfl rfl (fun w9 hS => by obtain ⟨k,f,s,A,B⟩ := (Box.kept N.out hS).plain; go_simp) hHeld ?_; simp only [qA,qB,qC,qD]; refine kQ 3 10 (.pointer (some ⟨g,o,none⟩)) hHeld ?_; simp only [qA,qB,qC,qD]; refine dk 4 (some 11) (zn u J) rfl rfl (fun w9 hS => by obtain ⟨k,f,s,A,B⟩ := Node5.kept n5.out (za F.out hS); go_simp) hHeld ?_; simp only [qA,qB,qC,qD]; refine kQ 6 13 (.pointer (some ⟨b,0,none⟩)) hHeld ?_; simp only [qA,qB,qC,qD]; refine kQ 7 14 (.pointer (some ⟨w.heap.size,4,none⟩)) hHeld ?_; simp only [qA,qB,qC,qD]; refine dk 8 (some 15) (.slice (some ⟨g,o,none⟩) 2 D) rfl rfl (fun w9 hS => by obtain ⟨k,f,s,A,B⟩ := (Box.kept N.out hS).plain; go_simp) hHeld ?_; simp only [qA,qB,qC,qD]; refine kQ 9 16 (.pointer (some ⟨g,o + 5,none⟩)) hHeld ?_; simp only [qA,qB,qC,qD]; refine dk 10 (some 17) (zn v L) rfl rfl (fun w9 hS => by obtain ⟨k,f,s,A,B⟩ := Node5.kept X.out (za F.out hS); go_simp) hHeld ?_; simp only [qA,qB,qC,qD]; refine rd 5 rfl fun KK hKK => ?_
     go_simp
     go_at_call 161; refine (HU.out _ (zh F.out) J HF.out HA.out).mono ?_; rw [Q]; rintro e w1 ⟨d,rfl⟩; have R := ze (za (zh F.out) d); have E := ze (za (zh (zc w0 none)) d); clear d
     go_simp
     refine hKK.out _ _ E.out fun hHeld => ?_
     clear hKK KK; refine rd 11 rfl fun KK hKK => ?_
     go_simp
     go_at_call 157; refine (HV.out _ R.out L Y.out M.out).mono ?_; rw [hy]; rintro e U ⟨C,rfl⟩; have H := ze (za R.out C); have I := ze (za E.out C); clear C
     go_simp
     refine hKK.out _ _ I.out fun hHeld => ?_
     clear hKK KK; refine kQ 12 5 (.pointer (some ⟨ρ.ty t,0,none⟩)) hHeld ?_; simp only [qA,qB,qC,qD]; refine kQ 13 6 (.pointer (some ⟨ρ.ty i,0,none⟩)) hHeld ?_; simp only [qA,qB,qC,qD]; refine wpAnyH_done (by kernel_rfl) ?_ _; clear hHeld; have B2 : Hid (Box U w.heap.size (.mk K x m p [u,v]) (.slice (some ⟨g,o,none⟩) 2 D)) := Box.kept N.out I.out; have a0 := zi H.out t0.out; go_wp2_with fail; refine wp_region_held_drew (S := fun w9 => U.grownBy w9 none) (by kernel_rfl) ?_ (fun hHeld => ?_)
     ·exact zh (zc U none)
     refine kQ 0 26 (.pointer (some ⟨w.heap.size,4,none⟩)) hHeld ?_; simp only [qA,qB,qC,qD]; refine dk 1 (some 27) (.slice (some ⟨g,o,none⟩) 2 D) rfl rfl (fun w9 hS => by obtain ⟨k,f,s,A,B⟩ := (Box.kept B2.out hS).plain; go_simp) hHeld ?_; simp only [qA,qB,qC,qD]; refine kQ 2 28 (.pointer (some ⟨g,o + 5,none⟩)) hHeld ?_; simp only [qA,qB,qC,qD]; refine dk 3 (some 29) (zn v L) rfl rfl (fun w9 hS => by obtain ⟨k,f,s,A,B⟩ := Node5.kept X.out (za H.out hS); go_simp) hHeld ?_; simp only [qA,qB,qC,qD]; refine kQ 4 30 (.pointer (some ⟨ρ.ty i,0,none⟩)) hHeld ?_; simp only [qA,qB,qC,qD]; refine kQ 5 31 (.pointer (some ⟨b,0,none⟩)) hHeld ?_; simp only [qA,qB,qC,qD]; refine kQ 6 32 (.pointer (some ⟨b,0,none⟩)) hHeld ?_; simp only [qA,qB,qC,qD]; refine kQ 7 33 (.pointer (some ⟨b,0,none⟩)) hHeld ?_; simp only [qA,qB,qC,qD]; refine kQ 8 34 (.pointer (some ⟨b,0,none⟩)) hHeld ?_; simp only [qA,qB,qC,qD]; refine dk 9 (some 35) (.pointer (some ⟨ρ.wd,0,none⟩)) rfl rfl (fun w9 hS => by have f := zi (za H.out hS) s0.out; go_simp) hHeld ?_; simp only [qA,qB,qC,qD]; refine kQ 10 36 (.pointer (some ⟨ρ.wd,0,none⟩)) hHeld ?_; simp only [qA,qB,qC,qD]; refine kQ 11 37 (.pointer (some ⟨ρ.wd,0,none⟩)) hHeld ?_; simp only [qA,qB,qC,qD]; refine dk 12 (some 38) (.pointer (some ⟨ρ.ty 0,0,none⟩)) rfl rfl (fun w9 hS => by have f := zi (za H.out hS) a3.out; go_simp) hHeld ?_; simp only [qA,qB,qC,qD]; refine rd 13 rfl fun KK hKK => ?_
     go_simp
     go_at_call 115; refine (zL (HM.out.up (zh H.out)) v L (M.out.kept (zh H.out)) hi (show 0 < S.tys.length by omega)).mono ?_; rw [hn]; rintro e w3 ⟨a2,rfl⟩; have G3 := ze (za (zh H.out) a2); have a4 := ze (za (zh (zc U none)) a2); clear a2
     go_simp
     refine hKK.out _ _ a4.out fun hHeld => ?_
     clear hKK KK; refine wpAnyH_done (by kernel_rfl) ?_ _; clear hHeld; have B3 : Hid (Box w3 w.heap.size (.mk K x m p [u,v]) (.slice (some ⟨g,o,none⟩) 2 D)) := Box.kept B2.out a4.out; have a7 := zi G3.out t0.out; have a8 := zi G3.out t5.out; go_wp2
     go_ret
     exact Cy.ok G3.out
   ·have hd : decide ((S.ty t).form = 3) = false := by simpa using O
    rw [show S.indexC r (.mk K x m p [u,v]) = .error (7,p) by simp [KS.indexC,hz,Z,Q,hy,O,Except.bind,thr,T.at']]
    go_enter Tryz.func193,Tryz.ntmps193
    go_wp2_with fail; rw [<- j]; clear j; refine wp_region_held_drew (S := fun w9 => w0.grownBy w9 none) (by kernel_rfl) ?_ (fun hHeld => ?_)
    ·exact zh (zc w0 none)
    refine kQ 0 7 (.pointer (some ⟨b,0,none⟩)) hHeld ?_; simp only [qA,qB,qC,qD]; refine kQ 1 8 (.pointer (some ⟨w.heap.size,4,none⟩)) hHeld ?_; simp only [qA,qB,qC,qD]; refine dk 2 (some 9) (.slice (some ⟨g,o,none⟩) 2 D) rfl rfl (fun w9 hS => by obtain ⟨k,f,s,A,B⟩ := (Box.kept N.out hS).plain; go_simp) hHeld ?_; simp only [qA,qB,qC,qD]; refine kQ 3 10 (.pointer (some ⟨g,o,none⟩)) hHeld ?_; simp only [qA,qB,qC,qD]; refine dk 4 (some 11) (zn u J) rfl rfl (fun w9 hS => by obtain ⟨k,f,s,A,B⟩ := Node5.kept n5.out (za F.out hS); go_simp) hHeld ?_; simp only [qA,qB,qC,qD]; refine kQ 6 13 (.pointer (some ⟨b,0,none⟩)) hHeld ?_; simp only [qA,qB,qC,qD]; refine kQ 7 14 (.pointer (some ⟨w.heap.size,4,none⟩)) hHeld ?_; simp only [qA,qB,qC,qD]; refine dk 8 (some 15) (.slice (some ⟨g,o,none⟩) 2 D) rfl rfl (fun w9 hS => by obtain ⟨k,f,s,A,B⟩ := (Box.kept N.out hS).plain; go_simp) hHeld ?_; simp only [qA,qB,qC,qD]; refine kQ 9 16 (.pointer (some ⟨g,o + 5,none⟩)) hHeld ?_; simp only [qA,qB,qC,qD]; refine dk 10 (some 17) (zn v L) rfl rfl (fun w9 hS => by obtain ⟨k,f,s,A,B⟩ := Node5.kept X.out (za F.out hS); go_simp) hHeld ?_; simp only [qA,qB,qC,qD]; refine rd 5 rfl fun KK hKK => ?_
    go_simp
    go_at_call 161; refine (HU.out _ (zh F.out) J HF.out HA.out).mono ?_; rw [Q]; rintro e w1 ⟨d,rfl⟩; have R := ze (za (zh F.out) d); have E := ze (za (zh (zc w0 none)) d); clear d
    go_simp
    refine hKK.out _ _ E.out fun hHeld => ?_
    clear hKK KK; refine rd 11 rfl fun KK hKK => ?_
    go_simp
    go_at_call 157; refine (HV.out _ R.out L Y.out M.out).mono ?_; rw [hy]; rintro e U ⟨C,rfl⟩; have H := ze (za R.out C); have I := ze (za E.out C); clear C
    go_simp
    refine hKK.out _ _ I.out fun hHeld => ?_
    clear hKK KK; refine kQ 12 5 (.pointer (some ⟨ρ.ty t,0,none⟩)) hHeld ?_; simp only [qA,qB,qC,qD]; refine kQ 13 6 (.pointer (some ⟨ρ.ty i,0,none⟩)) hHeld ?_; simp only [qA,qB,qC,qD]; refine wpAnyH_done (by kernel_rfl) ?_ _; clear hHeld; have B2 : Hid (Box U w.heap.size (.mk K x m p [u,v]) (.slice (some ⟨g,o,none⟩) 2 D)) := Box.kept N.out I.out; have a0 := zi H.out t0.out; obtain ⟨_,_,_,_,_⟩ := B2.out; go_wp2_with fail; go_at_call 53; refine (zu _ (.mk K x m p [u,v]) (.slice (some ⟨g,o,none⟩) 2 D) 7).mono ?_; rintro e w3 h3; have V := h3; obtain ⟨q,rfl⟩ := h3.thrown
    exact ⟨rfl,V.err H.out⟩
theorem ue (h : CK ρ w S b c) (n : T) (sv : Value) (hf : Fits n) (ha : AT w n.subs sv) {r : KR} {t : Nat} (ht : t < S.tys.length) (hn : CEx ρ S b c r n) :
  Calls Tryz.prog 116 #[.pointer (some ⟨b,0,none⟩),zn n sv,.pointer (some ⟨ρ.ty t,0,none⟩)] w (Cy w ((yP r n t).map fun _ => .tuple #[])) := by
 have H := ze (fun w1 (G : w.grownBy w1 none) => hn.run w1 sv (h.up G) hf (ha.kept G)); have K := ze (fun w1 (G : w.grownBy w1 none) a (ht' : a < S.tys.length) => zL (h.km.up G) n sv (ha.kept G) ht' ht); have I := hn.lt; obtain ⟨f,x,m,p,l⟩ := n
 change Calls Tryz.prog 116 #[.pointer (some ⟨b,0,none⟩),.agg #[.int .i64 f,.string ⟨x.toArray⟩,.int .i64 m,.int .i64 p,sv],.pointer (some ⟨ρ.ty t,0,none⟩)] w _
 obtain ⟨i,d⟩ : ∃ z,z = w.alloc (.cells #[.int .i64 f,.string ⟨x.toArray⟩,.int .i64 m,.int .i64 p,sv] 100) := ⟨_,rfl⟩
 have s : Hid (w.grownBy i none) := by rw [d]; exact zf (zc w none) _
 have k : Hid (Box i w.heap.size (.mk f x m p l) sv) := by rw [d]; exact Box.new w (.mk f x m p l) sv _
 clear h ha hf hn; cases u : r.ex (.mk f x m p l) with
 | error z =>
  rw [show yP r (.mk f x m p l) t = .error z by simp [yP,u,Except.bind]]
  go_enter Tryz.func116,Tryz.ntmps116
  go_wp2_with fail; rw [<- d]; clear d; refine wp_region_held_drew (S := fun w9 => i.grownBy w9 none) (by kernel_rfl) ?_ (fun hHeld => ?_)
  ·exact zh (zc i none)
  refine dk 0 (some 6) (.agg #[.int .i64 f,.string ⟨x.toArray⟩,.int .i64 m,.int .i64 p,sv]) rfl rfl (fun w9 hS => by obtain ⟨v,A,B,C,D⟩ := (Box.kept k.out hS).plain; go_simp) hHeld ?_; simp only [qA,qB,qC,qD]; refine kQ 1 7 (.pointer (some ⟨b,0,none⟩)) hHeld ?_; simp only [qA,qB,qC,qD]; refine dk 2 (some 8) (.agg #[.int .i64 f,.string ⟨x.toArray⟩,.int .i64 m,.int .i64 p,sv]) rfl rfl (fun w9 hS => by obtain ⟨v,A,B,C,D⟩ := (Box.kept k.out hS).plain; go_simp) hHeld ?_; simp only [qA,qB,qC,qD]; refine kQ 4 10 (.pointer (some ⟨ρ.ty t,0,none⟩)) hHeld ?_; simp only [qA,qB,qC,qD]; refine rd 3 rfl fun KK hKK => ?_
  go_simp
  go_at_call 157; refine (H.out _ (zh s.out)).mono ?_; rw [u]; rintro e w1 L; have J := L; obtain ⟨q,rfl⟩ := L.thrown
  exact ⟨rfl,J.err (zh s.out)⟩
 | ok a =>
  have ha := I a u; rw [show yP r (.mk f x m p l) t = yE (.mk f x m p l) a t by simp [yP,u,Except.bind]]; cases hn : yE (.mk f x m p l) a t with
  | error z =>
   go_enter Tryz.func116,Tryz.ntmps116
   go_wp2_with fail; rw [<- d]; clear d; refine wp_region_held_drew (S := fun w9 => i.grownBy w9 none) (by kernel_rfl) ?_ (fun hHeld => ?_)
   ·exact zh (zc i none)
   refine dk 0 (some 6) (.agg #[.int .i64 f,.string ⟨x.toArray⟩,.int .i64 m,.int .i64 p,sv]) rfl rfl (fun w9 hS => by obtain ⟨v,A,B,C,D⟩ := (Box.kept k.out hS).plain; go_simp) hHeld ?_; simp only [qA,qB,qC,qD]; refine kQ 1 7 (.pointer (some ⟨b,0,none⟩)) hHeld ?_; simp only [qA,qB,qC,qD]; refine dk 2 (some 8) (.agg #[.int .i64 f,.string ⟨x.toArray⟩,.int .i64 m,.int .i64 p,sv]) rfl rfl (fun w9 hS => by obtain ⟨v,A,B,C,D⟩ := (Box.kept k.out hS).plain; go_simp) hHeld ?_; simp only [qA,qB,qC,qD]; refine kQ 4 10 (.pointer (some ⟨ρ.ty t,0,none⟩)) hHeld ?_; simp only [qA,qB,qC,qD]; refine rd 3 rfl fun KK hKK => ?_
   go_simp
   go_at_call 157; refine (H.out _ (zh s.out)).mono ?_; rw [u]; rintro e w1 ⟨g,rfl⟩; have E := ze (za (zh s.out) g); have j := ze (za (zh (zc i none)) g); clear g
   go_simp
   refine hKK.out _ _ j.out fun hHeld => ?_
   clear hKK KK; refine rd 5 rfl fun KK hKK => ?_
   go_simp
   go_at_call 115; refine (K.out _ E.out a ha).mono ?_; rw [hn]; rintro e M N; have J := N; obtain ⟨q,rfl⟩ := N.thrown
   exact ⟨rfl,J.err E.out⟩
  | ok _ =>
   go_enter Tryz.func116,Tryz.ntmps116
   go_wp2_with fail; rw [<- d]; clear d; refine wp_region_held_drew (S := fun w9 => i.grownBy w9 none) (by kernel_rfl) ?_ (fun hHeld => ?_)
   ·exact zh (zc i none)
   refine dk 0 (some 6) (.agg #[.int .i64 f,.string ⟨x.toArray⟩,.int .i64 m,.int .i64 p,sv]) rfl rfl (fun w9 hS => by obtain ⟨v,A,B,C,D⟩ := (Box.kept k.out hS).plain; go_simp) hHeld ?_; simp only [qA,qB,qC,qD]; refine kQ 1 7 (.pointer (some ⟨b,0,none⟩)) hHeld ?_; simp only [qA,qB,qC,qD]; refine dk 2 (some 8) (.agg #[.int .i64 f,.string ⟨x.toArray⟩,.int .i64 m,.int .i64 p,sv]) rfl rfl (fun w9 hS => by obtain ⟨v,A,B,C,D⟩ := (Box.kept k.out hS).plain; go_simp) hHeld ?_; simp only [qA,qB,qC,qD]; refine kQ 4 10 (.pointer (some ⟨ρ.ty t,0,none⟩)) hHeld ?_; simp only [qA,qB,qC,qD]; refine rd 3 rfl fun KK hKK => ?_
   go_simp
   go_at_call 157; refine (H.out _ (zh s.out)).mono ?_; rw [u]; rintro e w1 ⟨g,rfl⟩; have E := ze (za (zh s.out) g); have j := ze (za (zh (zc i none)) g); clear g
   go_simp
   refine hKK.out _ _ j.out fun hHeld => ?_
   clear hKK KK; refine rd 5 rfl fun KK hKK => ?_
   go_simp
   go_at_call 115; refine (K.out _ E.out a ha).mono ?_; rw [hn]; rintro e M ⟨o,rfl⟩; have O := ze (za E.out o); have F := ze (za j.out o); clear o
   go_simp
   refine hKK.out _ _ F.out fun hHeld => ?_
   clear hKK KK; refine wpAnyH_done (by kernel_rfl) ?_ _; clear hHeld; have Q : Hid (Box M w.heap.size (.mk f x m p l) sv) := Box.kept k.out F.out; go_wp2; refine bodyPost_end (results_none rfl _ _ _) rfl ?_
   exact Cy.ok O.out
end
end Go.Proofs.YtnmkffjklpfflaaGreatDoor
