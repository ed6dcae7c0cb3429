/- The world of the checker,new. -/
import Derived.Test.YtnmkffjklpfflaaGreatDoorK07
namespace Go.Proofs.YtnmkffjklpfflaaGreatDoor
open Go.RowKit
set_option maxHeartbeats 4000000
set_option maxRecDepth 100000
section
variable {ρ : Lay} {w w' w1 : World} {S : KS} {b : Nat} {c : KSc}
def vU (n t1 t2 mo wd mb ta tb g : Nat) : Option Lb := if g = n then some (.ty 0) else if g = t1 then some (.ty 1) else if g = t2 then some (.ty 2) else if g = mo then some .mo else if g = wd then some .wd else if g = mb then some .ba else if g = ta then some (.th 0) else if g = tb then some (.th 1) else none
theorem km0 {w : World} {n t1 t2 mo wd mb ta tb : Nat} (e1 : t1 = n + 1) (e2 : t2 = n + 2) (e3 : mo = n + 3) (e4 : wd = n + 4) (h1 : n + 5 <= mb) (h2 : n + 5 <= ta) (h3 : n + 5 <= tb) (h4 : mb ≠ ta) (h5 : mb ≠ tb) (h6 : ta ≠ tb)
  (b0 : Bk w n [.int .i64 0,.string ⟨#[73,78,84,69,71,69,82]⟩,.pointer none,.int .i64 1,.int .i64 0,.pointer none,.slice none 0 0,.bool true]) (b1 : Bk w t1 [.int .i64 1,.string ⟨#[66,79,79,76,69,65,78]⟩,.pointer none,.int .i64 1,.int .i64 0,.pointer none,.slice none 0 0,.bool true]) (b2 : Bk w t2 [.int .i64 2,.string ⟨#[]⟩,.pointer none,.int .i64 0,.int .i64 0,.pointer none,.slice none 0 0,.bool false]) (bm : MapAt w mo []) (bw : Bk w wd [.pointer (some ⟨n,0,none⟩),.pointer (some ⟨t1,0,none⟩),.pointer (some ⟨t2,0,none⟩),.map (some mb),.map (some mo)]) (bb : MapAt w mb [(zG,ta),(zH,tb)]) (ba : Bk w ta [.int .i64 2,.string ⟨#[]⟩,.bool false,.pointer none,.pointer (some ⟨n,0,none⟩),.int .i32 0,.int .i64 0,.bool false,.pointer none,.bool false,.pointer none]) (bc : Bk w tb [.int .i64 2,.string ⟨#[]⟩,.bool false,.pointer none,.pointer (some ⟨t1,0,none⟩),.int .i32 0,.int .i64 0,.bool false,.pointer none,.bool false,.pointer none]) :
  ∃ ρ : Lay,ρ.wd = wd /\ KM ρ w ks0 /\ (∀ g,g < n -> ρ.col g = none) := by
 refine ⟨⟨wd,mb,mo,fun i => if i = 0 then n else if i = 1 then t1 else t2,fun i => if i = 0 then ta else tb,fun _ => 0,fun _ => 0,fun _ => 0,fun _ => 0,
  vU n t1 t2 mo wd mb ta tb⟩,rfl,?_,?_⟩
 ·have f := b0.lt
  have h := bw.lt; have j := bb.lt; have k := ba.lt; have m := bc.lt; refine ⟨bw,?_,bb,?_,bm,?_,?_,?_,fun i d => absurd d (Nat.not_lt_zero _),fun i d => absurd d (Nat.not_lt_zero _),?_⟩
  ·show vU n t1 t2 mo wd mb ta tb wd = _
   unfold vU
   rw [if_neg (by omega),if_neg (by omega),if_neg (by omega),if_neg (by omega),if_pos rfl]
  ·show vU n t1 t2 mo wd mb ta tb mb = _
   unfold vU
   rw [if_neg (by omega),if_neg (by omega),if_neg (by omega),if_neg (by omega),if_neg (by omega),if_pos rfl]
  ·show vU n t1 t2 mo wd mb ta tb mo = _
   unfold vU
   rw [if_neg (by omega),if_neg (by omega),if_neg (by omega),if_pos rfl]
  ·intro i d
   match i,d with
   | 0,_ => exact ⟨⟨.slice none 0 0,b0,World.ownsRow_nil _ _ _ _,nofun⟩,by show vU n t1 t2 mo wd mb ta tb n = _; unfold vU; rw [if_pos rfl]⟩
   | 1,_ => exact ⟨⟨.slice none 0 0,b1,World.ownsRow_nil _ _ _ _,nofun⟩,by show vU n t1 t2 mo wd mb ta tb t1 = _; unfold vU; rw [if_neg (by omega),if_pos rfl]⟩
   | 2,_ => exact ⟨⟨.slice none 0 0,b2,World.ownsRow_nil _ _ _ _,nofun⟩,by show vU n t1 t2 mo wd mb ta tb t2 = _; unfold vU; rw [if_neg (by omega),if_neg (by omega),if_pos rfl]⟩
   | i + 3,d => exact absurd d (by simp [ks0])
  ·intro i d
   match i,d with
   | 0,_ => exact ⟨ba,by show vU n t1 t2 mo wd mb ta tb ta = _; unfold vU; rw [if_neg (by omega),if_neg (by omega),if_neg (by omega),if_neg (by omega),if_neg (by omega),if_neg (by omega),if_pos rfl]⟩
   | 1,_ => exact ⟨bc,by show vU n t1 t2 mo wd mb ta tb tb = _; unfold vU; rw [if_neg (by omega),if_neg (by omega),if_neg (by omega),if_neg (by omega),if_neg (by omega),if_neg (by omega),if_neg (by omega),if_pos rfl]⟩
   | i + 2,d => exact absurd d (by simp [ks0])
  ·intro g e
   show vU n t1 t2 mo wd mb ta tb g = _
   unfold vU
   rw [if_neg (by omega),if_neg (by omega),if_neg (by omega),if_neg (by omega),if_neg (by omega),if_neg (by omega),if_neg (by omega),if_neg (by omega)]
 ·intro g e
  show vU n t1 t2 mo wd mb ta tb g = _
  unfold vU
  rw [if_neg (by omega),if_neg (by omega),if_neg (by omega),if_neg (by omega),if_neg (by omega),if_neg (by omega),if_neg (by omega),if_neg (by omega)]
theorem rj {w : World} {mb ta tb : Nat} (h : MapAt w mb [(zH,tb),(zG,ta)]) : MapAt w mb [(zG,ta),(zH,tb)] := by
 have e : jW [(zH,tb),(zG,ta)] = jW [(zG,ta),(zH,tb)] := rfl
 unfold MapAt at h ⊢
 rw [<- e]
 exact h
structure NW (v V : World) (n t1 : Nat) (om oa ob : Option Nat) (l : List (Nm × Nat)) : Prop where
 s : Sm v V (fun _ => True)
 m : ∀ x,om = some x -> MapAt V x l /\ v.heap.size <= x
 a : ∀ x,oa = some x -> Bk V x [.int .i64 2,.string ⟨#[]⟩,.bool false,.pointer none,.pointer (some ⟨n,0,none⟩),.int .i32 0,.int .i64 0,.bool false,.pointer none,.bool false,.pointer none] /\ v.heap.size <= x
 b : ∀ x,ob = some x -> Bk V x [.int .i64 2,.string ⟨#[]⟩,.bool false,.pointer none,.pointer (some ⟨t1,0,none⟩),.int .i32 0,.int .i64 0,.bool false,.pointer none,.bool false,.pointer none] /\ v.heap.size <= x
 d1 : ∀ x y,om = some x -> oa = some y -> x ≠ y
 d2 : ∀ x y,om = some x -> ob = some y -> x ≠ y
 d3 : ∀ x y,oa = some x -> ob = some y -> x ≠ y
section
variable {v V : World} {n t1 : Nat} {om oa ob : Option Nat} {l : List (Nm × Nat)}
theorem NW.map (h : NW v V n t1 none oa ob l) : NW v (V.alloc (.map #[] 0)) n t1 (some V.heap.size) oa ob [] := by
 have d := zf (zc V none) (.map #[] 0)
 exact ⟨h.s.trans (Sm.of_none d _),fun x e => by cases e; exact ⟨MapAt.new V,h.s.size⟩,fun x e => ⟨(h.a x e).1.kept d (by simp),(h.a x e).2⟩,fun x e => ⟨(h.b x e).1.kept d (by simp),(h.b x e).2⟩,
  fun x y e e2 => by cases e; have := (h.a y e2).1.lt; omega,fun x y e e2 => by cases e; have := (h.b y e2).1.lt; omega,h.d3⟩
theorem NW.int (h : NW v V n t1 om none ob l) : NW v (V.alloc (.cells #[.int .i64 2,.string ⟨#[]⟩,.bool false,.pointer none,.pointer (some ⟨n,0,none⟩),.int .i32 0,.int .i64 0,.bool false,.pointer none,.bool false,.pointer none] 90)) n t1 om (some V.heap.size) ob l := by
 have d := zf (zc V none) (.cells #[.int .i64 2,.string ⟨#[]⟩,.bool false,.pointer none,.pointer (some ⟨n,0,none⟩),.int .i32 0,.int .i64 0,.bool false,.pointer none,.bool false,.pointer none] 90)
 exact ⟨h.s.trans (Sm.of_none d _),fun x e => ⟨(h.m x e).1.kept d (by simp),(h.m x e).2⟩,fun x e => by cases e; exact ⟨Bk.new V _ _ rfl,h.s.size⟩,fun x e => ⟨(h.b x e).1.kept d (by simp),(h.b x e).2⟩,
  fun x y e e2 => by cases e2; have := (h.m x e).1.lt; omega,h.d2,fun x y e e2 => by cases e; have := (h.b y e2).1.lt; omega⟩
theorem NW.boo (h : NW v V n t1 om oa none l) : NW v (V.alloc (.cells #[.int .i64 2,.string ⟨#[]⟩,.bool false,.pointer none,.pointer (some ⟨t1,0,none⟩),.int .i32 0,.int .i64 0,.bool false,.pointer none,.bool false,.pointer none] 90)) n t1 om oa (some V.heap.size) l := by
 have d := zf (zc V none) (.cells #[.int .i64 2,.string ⟨#[]⟩,.bool false,.pointer none,.pointer (some ⟨t1,0,none⟩),.int .i32 0,.int .i64 0,.bool false,.pointer none,.bool false,.pointer none] 90)
 exact ⟨h.s.trans (Sm.of_none d _),fun x e => ⟨(h.m x e).1.kept d (by simp),(h.m x e).2⟩,fun x e => ⟨(h.a x e).1.kept d (by simp),(h.a x e).2⟩,fun x e => by cases e; exact ⟨Bk.new V _ _ rfl,h.s.size⟩,
  h.d1,fun x y e e2 => by cases e2; have := (h.m x e).1.lt; omega,fun x y e e2 => by cases e2; have := (h.a x e).1.lt; omega⟩
theorem NW.swap {mb ta tb : Nat} (h : NW v V n t1 (some mb) (some ta) (some tb) [(zH,tb),(zG,ta)]) : NW v V n t1 (some mb) (some ta) (some tb) [(zG,ta),(zH,tb)] := ⟨h.s,fun x e => ⟨rj (h.m x e).1,(h.m x e).2⟩,h.a,h.b,h.d1,h.d2,h.d3⟩
theorem NW.put {mb : Nat} (h : NW v V n t1 (some mb) oa ob l) (x : Nm) (q : Nat) (hx : x.length <= maxLen) (hl : l.length < maxLen) : ∃ V',(Instr.mapUpdate 77 (.map (some mb)) (.string ⟨x.toArray⟩) (.pointer (some ⟨q,0,none⟩))).run Tryz.prog V = .ok () V' /\ NW v V' n t1 (some mb) oa ob ((x,q) :: l) := by
 obtain ⟨V',i,j,f⟩ := MapAt.put (h.m mb rfl).1 Tryz.underlying77 x hx q hl; have d : Sm V V' (fun g => g ≠ mb) := (Sm.grown f).mono (fun g _ h9 e => h9 (Option.some.inj e)); have k := (h.m mb rfl).2
 exact ⟨V',i,h.s.comp d (fun g f _ => by omega),fun x e => by cases e; exact ⟨j,k⟩,fun x e => ⟨(h.a x e).1.sm d (fun e2 => h.d1 mb x rfl e e2.symm),(h.a x e).2⟩,fun x e => ⟨(h.b x e).1.sm d (fun e2 => h.d2 mb x rfl e e2.symm),(h.b x e).2⟩,h.d1,h.d2,h.d3⟩
end
theorem gY  :
  Calls Tryz.prog 25 #[] w (fun e w' => ∃ ρ : Lay,e = .returned (.pointer (some ⟨ρ.wd,0,none⟩)) /\ KM ρ w' ks0 /\ (∀ g,g < w.heap.size -> ρ.col g = none) /\ w.grownBy w' none) := by
 have a4 := @run_makeMap Tryz.prog
 go_enter Tryz.func25,Tryz.ntmps25
 go_wp2_with fail; obtain ⟨n,hn⟩ : ∃ z,z = w.heap.size := ⟨_,rfl⟩; rw [<- hn]; obtain ⟨t1,U⟩ : ∃ z,z = n + 1 := ⟨_,rfl⟩; rw [<- U]; obtain ⟨O,j⟩ : ∃ z,z = t1 + 1 := ⟨_,rfl⟩; rw [<- j]; obtain ⟨Q,A⟩ : ∃ z,z = O + 1 := ⟨_,rfl⟩; rw [<- A]; obtain ⟨wd,Z⟩ : ∃ z,z = Q + 1 := ⟨_,rfl⟩; rw [<- Z]; obtain ⟨X,M⟩ : ∃ z,z = w.alloc (.cells #[.int .i64 0,.string ⟨#[73,78,84,69,71,69,82]⟩,.pointer none,.int .i64 1,.int .i64 0,.pointer none,.slice none 0 0,.bool true] 54) := ⟨_,rfl⟩; rw [<- M]; obtain ⟨v2,N⟩ : ∃ z,z = X.alloc (.cells #[.int .i64 1,.string ⟨#[66,79,79,76,69,65,78]⟩,.pointer none,.int .i64 1,.int .i64 0,.pointer none,.slice none 0 0,.bool true] 54) := ⟨_,rfl⟩; rw [<- N]; obtain ⟨v3,L⟩ : ∃ z,z = v2.alloc (.cells #[.int .i64 2,.string ⟨#[]⟩,.pointer none,.int .i64 0,.int .i64 0,.pointer none,.slice none 0 0,.bool false] 54) := ⟨_,rfl⟩; rw [<- L]; obtain ⟨v4,J⟩ : ∃ z,z = v3.alloc (.map #[] 0) := ⟨_,rfl⟩; rw [<- J]; obtain ⟨u,I⟩ : ∃ z,z = v4.alloc (.cells #[.pointer (some ⟨n,0,none⟩),.pointer (some ⟨t1,0,none⟩),.pointer (some ⟨O,0,none⟩),.map none,.map (some Q)] 98) := ⟨_,rfl⟩; rw [<- I]
 have z0 : w.heap.size = n := by rw [hn]
 have G1 : X.grownBy u none := by rw [I,J,L,N]; exact zf (zf (zf (zf (zc X none) _) _) _) _
 have z1 : X.heap.size = t1 := by rw [M,U]; simp [z0]
 have G2 : v2.grownBy u none := by rw [I,J,L]; exact zf (zf (zf (zc v2 none) _) _) _
 have z2 : v2.heap.size = O := by rw [N,j]; simp [z1]
 have G3 : v3.grownBy u none := by rw [I,J]; exact zf (zf (zc v3 none) _) _
 have z3 : v3.heap.size = Q := by rw [L,A]; simp [z2]
 have G4 : v4.grownBy u none := by rw [I]; exact zf (zc v4 none) _
 have z4 : v4.heap.size = wd := by rw [J,Z]; simp [z3]
 have G5 : u.grownBy u none := zc u none
 have B0 : Hid (Bk u n [.int .i64 0,.string ⟨#[73,78,84,69,71,69,82]⟩,.pointer none,.int .i64 1,.int .i64 0,.pointer none,.slice none 0 0,.bool true]) := by
  have t := Bk.new w #[.int .i64 0,.string ⟨#[73,78,84,69,71,69,82]⟩,.pointer none,.int .i64 1,.int .i64 0,.pointer none,.slice none 0 0,.bool true] 54 (vs := [.int .i64 0,.string ⟨#[73,78,84,69,71,69,82]⟩,.pointer none,.int .i64 1,.int .i64 0,.pointer none,.slice none 0 0,.bool true]) rfl; rw [<- M,z0] at t
  exact t.kept G1 (by simp)
 have B1 : Hid (Bk u t1 [.int .i64 1,.string ⟨#[66,79,79,76,69,65,78]⟩,.pointer none,.int .i64 1,.int .i64 0,.pointer none,.slice none 0 0,.bool true]) := by
  have t := Bk.new X #[.int .i64 1,.string ⟨#[66,79,79,76,69,65,78]⟩,.pointer none,.int .i64 1,.int .i64 0,.pointer none,.slice none 0 0,.bool true] 54 (vs := [.int .i64 1,.string ⟨#[66,79,79,76,69,65,78]⟩,.pointer none,.int .i64 1,.int .i64 0,.pointer none,.slice none 0 0,.bool true]) rfl; rw [<- N,z1] at t
  exact t.kept G2 (by simp)
 have B2 : Hid (Bk u O [.int .i64 2,.string ⟨#[]⟩,.pointer none,.int .i64 0,.int .i64 0,.pointer none,.slice none 0 0,.bool false]) := by
  have t := Bk.new v2 #[.int .i64 2,.string ⟨#[]⟩,.pointer none,.int .i64 0,.int .i64 0,.pointer none,.slice none 0 0,.bool false] 54 (vs := [.int .i64 2,.string ⟨#[]⟩,.pointer none,.int .i64 0,.int .i64 0,.pointer none,.slice none 0 0,.bool false]) rfl; rw [<- L,z2] at t
  exact t.kept G3 (by simp)
 have F : Hid (Bk u wd [.pointer (some ⟨n,0,none⟩),.pointer (some ⟨t1,0,none⟩),.pointer (some ⟨O,0,none⟩),.map none,.map (some Q)]) := by
  have t := Bk.new v4 #[.pointer (some ⟨n,0,none⟩),.pointer (some ⟨t1,0,none⟩),.pointer (some ⟨O,0,none⟩),.map none,.map (some Q)] 98 (vs := [.pointer (some ⟨n,0,none⟩),.pointer (some ⟨t1,0,none⟩),.pointer (some ⟨O,0,none⟩),.map none,.map (some Q)]) rfl; rw [<- I,z4] at t
  exact t.kept G5 (by simp)
 have B3 : Hid (MapAt u Q []) := by
  have t := MapAt.new v3; rw [<- J,z3] at t
  exact t.kept G4 (by simp)
 have GW : Hid (w.grownBy u none) := by
  have t : w.grownBy X none := by rw [M]; exact zf (zc w none) _
  exact za t G1
 have z5 : n + 5 <= u.heap.size := by rw [I]; simp; omega
 have HE : Hid (t1 = n + 1 /\ O = n + 2 /\ Q = n + 3 /\ wd = n + 4 /\ n = w.heap.size) := ⟨U,by omega,by omega,by omega,hn⟩; have q : Hid (u.cell? ⟨wd,0,none⟩ = some (.pointer (some ⟨n,0,none⟩))) := F.out.c 0 _ rfl; have r : Hid (u.cell? ⟨wd,1,none⟩ = some (.pointer (some ⟨t1,0,none⟩))) := F.out.c 1 _ rfl; have m0 : Hid (u.cell? ⟨n,1,none⟩ = some (.string ⟨#[73,78,84,69,71,69,82]⟩)) := B0.out.c 1 _ rfl; have m1 : Hid (u.cell? ⟨t1,1,none⟩ = some (.string ⟨#[66,79,79,76,69,65,78]⟩)) := B1.out.c 1 _ rfl
 have a2 : n ≠ wd := by omega
 have a3 : t1 ≠ wd := by omega
 clear M N L J I z0 z1 z2 z3 z4 G1 G2 G3 G4 G5 U j A Z hn
 have B : Hid (∀ V h k o,NW u V n t1 (some h) (some k) (some o) [(zG,k),(zH,o)] -> ∃ ρ : Lay,Ending.returned (.pointer (some ⟨wd,0,none⟩)) = .returned (.pointer (some ⟨ρ.wd,0,none⟩)) /\ KM ρ (V.setCell ⟨wd,3,none⟩ (.map (some h))) ks0 /\ (∀ g,g < w.heap.size -> ρ.col g = none) /\ w.grownBy (V.setCell ⟨wd,3,none⟩ (.map (some h))) none) := fun V h k o H => by
  obtain ⟨U,j,A,Z,_⟩ := HE.out; have R : Sm V (V.setCell ⟨wd,3,none⟩ (.map (some h))) (fun g => g ≠ wd) := (Sm.refl V _).put (fun t => t rfl) _ _; obtain ⟨m1,_⟩ := H.m h rfl; obtain ⟨a1,_⟩ := H.a k rfl; obtain ⟨b1,_⟩ := H.b o rfl; obtain ⟨ρ,r1,r2,r3⟩ := km0 U j A Z (by omega) (by omega) (by omega) (H.d1 h k rfl rfl) (H.d2 h o rfl rfl) (H.d3 k o rfl rfl) ((B0.out.sm H.s trivial).sm R (by omega)) ((B1.out.sm H.s trivial).sm R (by omega)) ((B2.out.sm H.s trivial).sm R (by omega)) ((B3.out.sm H.s trivial).sm R (by omega)) ((F.out.sm H.s trivial).set 3 _) (m1.sm R (by omega)) (a1.sm R (by omega)) (b1.sm R (by omega)); refine ⟨ρ,by rw [r1],r2,fun g hg => r3 g (by omega),?_⟩
  exact (((Sm.of_none GW.out (fun _ => True)).trans H.s).comp R (fun g hg _ => by omega)).gb
 skip
 refine wp_region_held_drew (S := fun w9 => w9.cell? ⟨wd,0,none⟩ = some (.pointer (some ⟨n,0,none⟩)) /\ w9.cell? ⟨wd,1,none⟩ = some (.pointer (some ⟨t1,0,none⟩)) /\ Sm u w9 (fun g => g ≠ wd)) (by kernel_rfl) ?_ (fun hHeld => ?_)
 ·exact ⟨(F.out.drew).c 0 _ rfl,(F.out.drew).c 1 _ rfl,(Sm.refl u _).drew⟩
 refine kQ 0 11 (.pointer (some ⟨wd,0,none⟩)) hHeld ?_; simp only [qA,qB,qC,qD]; refine kQ 2 13 (.pointer (some ⟨wd,0,none⟩)) hHeld ?_; simp only [qA,qB,qC,qD]; refine kQ 3 14 (.pointer (some ⟨wd,0,none⟩)) hHeld ?_; simp only [qA,qB,qC,qD]; refine kQ 4 15 (.pointer (some ⟨wd,0,none⟩)) hHeld ?_; simp only [qA,qB,qC,qD]; refine dk 5 (some 16) (.pointer (some ⟨n,0,none⟩)) rfl rfl (fun w9 hS => by have i := hS.1; go_simp) hHeld ?_; simp only [qA,qB,qC,qD]; refine kQ 6 17 (.pointer (some ⟨n,0,none⟩)) hHeld ?_; simp only [qA,qB,qC,qD]; refine kQ 7 18 (.pointer (some ⟨n,1,none⟩)) hHeld ?_; simp only [qA,qB,qC,qD]; refine dk 8 (some 19) (.string ⟨#[73,78,84,69,71,69,82]⟩) rfl rfl (fun w9 hS => by have i := hS.2.2.cell m0.out a2; go_simp) hHeld ?_; simp only [qA,qB,qC,qD]; refine kQ 9 20 (.pointer (some ⟨wd,0,none⟩)) hHeld ?_; simp only [qA,qB,qC,qD]; refine kQ 10 21 (.pointer (some ⟨wd,0,none⟩)) hHeld ?_; simp only [qA,qB,qC,qD]; refine kQ 11 22 (.pointer (some ⟨wd,0,none⟩)) hHeld ?_; simp only [qA,qB,qC,qD]; refine dk 12 (some 23) (.pointer (some ⟨n,0,none⟩)) rfl rfl (fun w9 hS => by have i := hS.1; go_simp) hHeld ?_; simp only [qA,qB,qC,qD]; refine kQ 13 24 (.agg #[.int .i64 2,.string ⟨#[]⟩,.bool false,.pointer none,.pointer (some ⟨n,0,none⟩),.int .i32 0,.int .i64 0,.bool false,.pointer none,.bool false,.pointer none]) hHeld ?_; simp only [qA,qB,qC,qD]; refine kQ 16 26 (.pointer (some ⟨wd,0,none⟩)) hHeld ?_; simp only [qA,qB,qC,qD]; refine kQ 17 27 (.pointer (some ⟨wd,0,none⟩)) hHeld ?_; simp only [qA,qB,qC,qD]
 refine kQ 18 28 (.pointer (some ⟨wd,1,none⟩)) hHeld ?_; simp only [qA,qB,qC,qD]; refine dk 19 (some 29) (.pointer (some ⟨t1,0,none⟩)) rfl rfl (fun w9 hS => by have i := hS.2.1; go_simp) hHeld ?_; simp only [qA,qB,qC,qD]; refine kQ 20 30 (.pointer (some ⟨t1,0,none⟩)) hHeld ?_; simp only [qA,qB,qC,qD]; refine kQ 21 31 (.pointer (some ⟨t1,1,none⟩)) hHeld ?_; simp only [qA,qB,qC,qD]; refine dk 22 (some 32) (.string ⟨#[66,79,79,76,69,65,78]⟩) rfl rfl (fun w9 hS => by have i := hS.2.2.cell m1.out a3; go_simp) hHeld ?_; simp only [qA,qB,qC,qD]; refine kQ 23 33 (.pointer (some ⟨wd,0,none⟩)) hHeld ?_; simp only [qA,qB,qC,qD]; refine kQ 24 34 (.pointer (some ⟨wd,0,none⟩)) hHeld ?_; simp only [qA,qB,qC,qD]; refine kQ 25 35 (.pointer (some ⟨wd,1,none⟩)) hHeld ?_; simp only [qA,qB,qC,qD]; refine dk 26 (some 36) (.pointer (some ⟨t1,0,none⟩)) rfl rfl (fun w9 hS => by have i := hS.2.1; go_simp) hHeld ?_; simp only [qA,qB,qC,qD]; refine kQ 27 37 (.agg #[.int .i64 2,.string ⟨#[]⟩,.bool false,.pointer none,.pointer (some ⟨t1,0,none⟩),.int .i32 0,.int .i64 0,.bool false,.pointer none,.bool false,.pointer none]) hHeld ?_; simp only [qA,qB,qC,qD]; obtain ⟨Y,a0,H⟩ : ∃ z,z = u.drew /\ Hid (NW u z n t1 none none none []) := ⟨_,rfl,(Sm.refl u _).drew,nofun,nofun,nofun,nofun,nofun,nofun⟩; rw [<- a0] at hHeld ⊢; clear a0; refine wpAnyH_ready (rs := [1,14,28]) (by kernel_rfl) (by simp) (AllReadyH.cons rfl (fun KK hKK => ?_) (AllReadyH.cons rfl (fun KK hKK => ?_) (AllReadyH.cons rfl (fun KK hKK => ?_) AllReadyH.nil)))
 ·obtain ⟨K,h,e,j,H⟩ : ∃ z y,z = Y.alloc (.map #[] 0) /\ y = Y.heap.size /\ Hid (NW u z n t1 (some y) none none []) := ⟨_,_,rfl,rfl,H.out.map⟩
  go_simp
  rw [<- e,<- j]; refine hKK.out _ _ ⟨H.out.s.cell q.out trivial,H.out.s.cell r.out trivial,H.out.s.mono (fun _ _ _ => trivial)⟩ (fun hHeld => ?_); clear hKK KK e j; refine wpAnyH_ready (rs := [14,28]) (by kernel_rfl) (by simp) (AllReadyH.cons rfl (fun KK hKK => ?_) (AllReadyH.cons rfl (fun KK hKK => ?_) AllReadyH.nil))
  ·obtain ⟨G,k,e,j,H⟩ : ∃ z y,z = K.alloc (.cells #[.int .i64 2,.string ⟨#[]⟩,.bool false,.pointer none,.pointer (some ⟨n,0,none⟩),.int .i32 0,.int .i64 0,.bool false,.pointer none,.bool false,.pointer none] 90) /\ y = K.heap.size /\ Hid (NW u z n t1 (some h) (some y) none []) := ⟨_,_,rfl,rfl,H.out.int⟩
   go_simp
   rw [<- e,<- j]; refine hKK.out _ _ ⟨H.out.s.cell q.out trivial,H.out.s.cell r.out trivial,H.out.s.mono (fun _ _ _ => trivial)⟩ (fun hHeld => ?_); clear hKK KK e j; refine wpAnyH_ready (rs := [15,28]) (by kernel_rfl) (by simp) (AllReadyH.cons rfl (fun KK hKK => ?_) (AllReadyH.cons rfl (fun KK hKK => ?_) AllReadyH.nil))
   ·obtain ⟨C,d,H⟩ := H.out.put zG k (by decide) (by simp [maxLen])
    have i : (Instr.mapUpdate 77 (.map (some h)) (.string ⟨#[73,78,84,69,71,69,82]⟩) (.pointer (some ⟨k,0,none⟩))).run Tryz.prog G = .ok () C := d
    replace H := ze H
    go_simp
    refine hKK.out _ _ ⟨H.out.s.cell q.out trivial,H.out.s.cell r.out trivial,H.out.s.mono (fun _ _ _ => trivial)⟩ (fun hHeld => ?_); clear hKK KK i d; refine wpAnyH_ready (rs := [28]) (by kernel_rfl) (by simp) (AllReadyH.cons rfl (fun KK hKK => ?_) AllReadyH.nil)
    ·obtain ⟨x,o,e,j,H⟩ : ∃ z y,z = C.alloc (.cells #[.int .i64 2,.string ⟨#[]⟩,.bool false,.pointer none,.pointer (some ⟨t1,0,none⟩),.int .i32 0,.int .i64 0,.bool false,.pointer none,.bool false,.pointer none] 90) /\ y = C.heap.size /\ Hid (NW u z n t1 (some h) (some k) (some y) [(zG,k)]) := ⟨_,_,rfl,rfl,H.out.boo⟩
     go_simp
     rw [<- e,<- j]; refine hKK.out _ _ ⟨H.out.s.cell q.out trivial,H.out.s.cell r.out trivial,H.out.s.mono (fun _ _ _ => trivial)⟩ (fun hHeld => ?_); clear hKK KK e j; refine wpAnyH_ready (rs := [29]) (by kernel_rfl) (by simp) (AllReadyH.cons rfl (fun KK hKK => ?_) AllReadyH.nil)
     ·obtain ⟨D,d,H⟩ := H.out.put zH o (by decide) (by simp [maxLen])
      have i : (Instr.mapUpdate 77 (.map (some h)) (.string ⟨#[66,79,79,76,69,65,78]⟩) (.pointer (some ⟨o,0,none⟩))).run Tryz.prog x = .ok () D := d
      replace H := ze H
      go_simp
      refine hKK.out _ _ ⟨H.out.s.cell q.out trivial,H.out.s.cell r.out trivial,H.out.s.mono (fun _ _ _ => trivial)⟩ (fun hHeld => ?_); clear hKK KK i d; refine kQ 30 39 (.map (some h)) hHeld ?_; simp only [qA,qB,qC,qD]; refine kQ 31 40 (.pointer (some ⟨wd,0,none⟩)) hHeld ?_; simp only [qA,qB,qC,qD]; refine kQ 32 41 (.pointer (some ⟨wd,3,none⟩)) hHeld ?_; simp only [qA,qB,qC,qD]; have f := F.out.sm H.out.s trivial; have A := f.c 3 _ rfl; have E := f.z; refine rd 33 rfl fun KK hKK => ?_
      go_simp
      refine hKK.out _ _ ⟨(f.set 3 _).c 0 _ rfl,(f.set 3 _).c 1 _ rfl,(H.out.s.mono (fun _ _ _ => trivial)).put (fun t => t rfl) _ _⟩ (fun hHeld => ?_); clear hKK KK A E; refine wpAnyH_done (by kernel_rfl) ?_ _; go_wp2
      go_ret
      exact B.out _ _ _ _ H.out.swap
   ·obtain ⟨C,o,e,j,H⟩ : ∃ z y,z = G.alloc (.cells #[.int .i64 2,.string ⟨#[]⟩,.bool false,.pointer none,.pointer (some ⟨t1,0,none⟩),.int .i32 0,.int .i64 0,.bool false,.pointer none,.bool false,.pointer none] 90) /\ y = G.heap.size /\ Hid (NW u z n t1 (some h) (some k) (some y) []) := ⟨_,_,rfl,rfl,H.out.boo⟩
    go_simp
    rw [<- e,<- j]; refine hKK.out _ _ ⟨H.out.s.cell q.out trivial,H.out.s.cell r.out trivial,H.out.s.mono (fun _ _ _ => trivial)⟩ (fun hHeld => ?_); clear hKK KK e j; refine wpAnyH_ready (rs := [15,29]) (by kernel_rfl) (by simp) (AllReadyH.cons rfl (fun KK hKK => ?_) (AllReadyH.cons rfl (fun KK hKK => ?_) AllReadyH.nil))
    ·obtain ⟨x,d,H⟩ := H.out.put zG k (by decide) (by simp [maxLen])
     have i : (Instr.mapUpdate 77 (.map (some h)) (.string ⟨#[73,78,84,69,71,69,82]⟩) (.pointer (some ⟨k,0,none⟩))).run Tryz.prog C = .ok () x := d
     replace H := ze H
     go_simp
     refine hKK.out _ _ ⟨H.out.s.cell q.out trivial,H.out.s.cell r.out trivial,H.out.s.mono (fun _ _ _ => trivial)⟩ (fun hHeld => ?_); clear hKK KK i d; refine wpAnyH_ready (rs := [29]) (by kernel_rfl) (by simp) (AllReadyH.cons rfl (fun KK hKK => ?_) AllReadyH.nil)
     ·obtain ⟨D,d,H⟩ := H.out.put zH o (by decide) (by simp [maxLen])
      have i : (Instr.mapUpdate 77 (.map (some h)) (.string ⟨#[66,79,79,76,69,65,78]⟩) (.pointer (some ⟨o,0,none⟩))).run Tryz.prog x = .ok () D := d
      replace H := ze H
      go_simp
      refine hKK.out _ _ ⟨H.out.s.cell q.out trivial,H.out.s.cell r.out trivial,H.out.s.mono (fun _ _ _ => trivial)⟩ (fun hHeld => ?_); clear hKK KK i d; refine kQ 30 39 (.map (some h)) hHeld ?_; simp only [qA,qB,qC,qD]; refine kQ 31 40 (.pointer (some ⟨wd,0,none⟩)) hHeld ?_; simp only [qA,qB,qC,qD]; refine kQ 32 41 (.pointer (some ⟨wd,3,none⟩)) hHeld ?_; simp only [qA,qB,qC,qD]; have f := F.out.sm H.out.s trivial; have A := f.c 3 _ rfl; have E := f.z; refine rd 33 rfl fun KK hKK => ?_
      go_simp
      refine hKK.out _ _ ⟨(f.set 3 _).c 0 _ rfl,(f.set 3 _).c 1 _ rfl,(H.out.s.mono (fun _ _ _ => trivial)).put (fun t => t rfl) _ _⟩ (fun hHeld => ?_); clear hKK KK A E; refine wpAnyH_done (by kernel_rfl) ?_ _; go_wp2
      go_ret
      exact B.out _ _ _ _ H.out.swap
    ·obtain ⟨x,d,H⟩ := H.out.put zH o (by decide) (by simp [maxLen])
     have i : (Instr.mapUpdate 77 (.map (some h)) (.string ⟨#[66,79,79,76,69,65,78]⟩) (.pointer (some ⟨o,0,none⟩))).run Tryz.prog C = .ok () x := d
     replace H := ze H
     go_simp
     refine hKK.out _ _ ⟨H.out.s.cell q.out trivial,H.out.s.cell r.out trivial,H.out.s.mono (fun _ _ _ => trivial)⟩ (fun hHeld => ?_); clear hKK KK i d; refine wpAnyH_ready (rs := [15]) (by kernel_rfl) (by simp) (AllReadyH.cons rfl (fun KK hKK => ?_) AllReadyH.nil)
     ·obtain ⟨D,d,H⟩ := H.out.put zG k (by decide) (by simp [maxLen])
      have i : (Instr.mapUpdate 77 (.map (some h)) (.string ⟨#[73,78,84,69,71,69,82]⟩) (.pointer (some ⟨k,0,none⟩))).run Tryz.prog x = .ok () D := d
      replace H := ze H
      go_simp
      refine hKK.out _ _ ⟨H.out.s.cell q.out trivial,H.out.s.cell r.out trivial,H.out.s.mono (fun _ _ _ => trivial)⟩ (fun hHeld => ?_); clear hKK KK i d; refine kQ 30 39 (.map (some h)) hHeld ?_; simp only [qA,qB,qC,qD]; refine kQ 31 40 (.pointer (some ⟨wd,0,none⟩)) hHeld ?_; simp only [qA,qB,qC,qD]; refine kQ 32 41 (.pointer (some ⟨wd,3,none⟩)) hHeld ?_; simp only [qA,qB,qC,qD]; have f := F.out.sm H.out.s trivial; have A := f.c 3 _ rfl; have E := f.z; refine rd 33 rfl fun KK hKK => ?_
      go_simp
      refine hKK.out _ _ ⟨(f.set 3 _).c 0 _ rfl,(f.set 3 _).c 1 _ rfl,(H.out.s.mono (fun _ _ _ => trivial)).put (fun t => t rfl) _ _⟩ (fun hHeld => ?_); clear hKK KK A E; refine wpAnyH_done (by kernel_rfl) ?_ _; go_wp2
      go_ret
      exact B.out _ _ _ _ H.out
  ·obtain ⟨G,o,e,j,H⟩ : ∃ z y,z = K.alloc (.cells #[.int .i64 2,.string ⟨#[]⟩,.bool false,.pointer none,.pointer (some ⟨t1,0,none⟩),.int .i32 0,.int .i64 0,.bool false,.pointer none,.bool false,.pointer none] 90) /\ y = K.heap.size /\ Hid (NW u z n t1 (some h) none (some y) []) := ⟨_,_,rfl,rfl,H.out.boo⟩
   go_simp
   rw [<- e,<- j]; refine hKK.out _ _ ⟨H.out.s.cell q.out trivial,H.out.s.cell r.out trivial,H.out.s.mono (fun _ _ _ => trivial)⟩ (fun hHeld => ?_); clear hKK KK e j; refine wpAnyH_ready (rs := [14,29]) (by kernel_rfl) (by simp) (AllReadyH.cons rfl (fun KK hKK => ?_) (AllReadyH.cons rfl (fun KK hKK => ?_) AllReadyH.nil))
   ·obtain ⟨C,k,e,j,H⟩ : ∃ z y,z = G.alloc (.cells #[.int .i64 2,.string ⟨#[]⟩,.bool false,.pointer none,.pointer (some ⟨n,0,none⟩),.int .i32 0,.int .i64 0,.bool false,.pointer none,.bool false,.pointer none] 90) /\ y = G.heap.size /\ Hid (NW u z n t1 (some h) (some y) (some o) []) := ⟨_,_,rfl,rfl,H.out.int⟩
    go_simp
    rw [<- e,<- j]; refine hKK.out _ _ ⟨H.out.s.cell q.out trivial,H.out.s.cell r.out trivial,H.out.s.mono (fun _ _ _ => trivial)⟩ (fun hHeld => ?_); clear hKK KK e j; refine wpAnyH_ready (rs := [15,29]) (by kernel_rfl) (by simp) (AllReadyH.cons rfl (fun KK hKK => ?_) (AllReadyH.cons rfl (fun KK hKK => ?_) AllReadyH.nil))
    ·obtain ⟨x,d,H⟩ := H.out.put zG k (by decide) (by simp [maxLen])
     have i : (Instr.mapUpdate 77 (.map (some h)) (.string ⟨#[73,78,84,69,71,69,82]⟩) (.pointer (some ⟨k,0,none⟩))).run Tryz.prog C = .ok () x := d
     replace H := ze H
     go_simp
     refine hKK.out _ _ ⟨H.out.s.cell q.out trivial,H.out.s.cell r.out trivial,H.out.s.mono (fun _ _ _ => trivial)⟩ (fun hHeld => ?_); clear hKK KK i d; refine wpAnyH_ready (rs := [29]) (by kernel_rfl) (by simp) (AllReadyH.cons rfl (fun KK hKK => ?_) AllReadyH.nil)
     ·obtain ⟨D,d,H⟩ := H.out.put zH o (by decide) (by simp [maxLen])
      have i : (Instr.mapUpdate 77 (.map (some h)) (.string ⟨#[66,79,79,76,69,65,78]⟩) (.pointer (some ⟨o,0,none⟩))).run Tryz.prog x = .ok () D := d
      replace H := ze H
      go_simp
      refine hKK.out _ _ ⟨H.out.s.cell q.out trivial,H.out.s.cell r.out trivial,H.out.s.mono (fun _ _ _ => trivial)⟩ (fun hHeld => ?_); clear hKK KK i d; refine kQ 30 39 (.map (some h)) hHeld ?_; simp only [qA,qB,qC,qD]; refine kQ 31 40 (.pointer (some ⟨wd,0,none⟩)) hHeld ?_; simp only [qA,qB,qC,qD]; refine kQ 32 41 (.pointer (some ⟨wd,3,none⟩)) hHeld ?_; simp only [qA,qB,qC,qD]; have f := F.out.sm H.out.s trivial; have A := f.c 3 _ rfl; have E := f.z; refine rd 33 rfl fun KK hKK => ?_
      go_simp
      refine hKK.out _ _ ⟨(f.set 3 _).c 0 _ rfl,(f.set 3 _).c 1 _ rfl,(H.out.s.mono (fun _ _ _ => trivial)).put (fun t => t rfl) _ _⟩ (fun hHeld => ?_); clear hKK KK A E; refine wpAnyH_done (by kernel_rfl) ?_ _; go_wp2
      go_ret
      exact B.out _ _ _ _ H.out.swap
    ·obtain ⟨x,d,H⟩ := H.out.put zH o (by decide) (by simp [maxLen])
     have i : (Instr.mapUpdate 77 (.map (some h)) (.string ⟨#[66,79,79,76,69,65,78]⟩) (.pointer (some ⟨o,0,none⟩))).run Tryz.prog C = .ok () x := d
     replace H := ze H
     go_simp
     refine hKK.out _ _ ⟨H.out.s.cell q.out trivial,H.out.s.cell r.out trivial,H.out.s.mono (fun _ _ _ => trivial)⟩ (fun hHeld => ?_); clear hKK KK i d; refine wpAnyH_ready (rs := [15]) (by kernel_rfl) (by simp) (AllReadyH.cons rfl (fun KK hKK => ?_) AllReadyH.nil)
     ·obtain ⟨D,d,H⟩ := H.out.put zG k (by decide) (by simp [maxLen])
      have i : (Instr.mapUpdate 77 (.map (some h)) (.string ⟨#[73,78,84,69,71,69,82]⟩) (.pointer (some ⟨k,0,none⟩))).run Tryz.prog x = .ok () D := d
      replace H := ze H
      go_simp
      refine hKK.out _ _ ⟨H.out.s.cell q.out trivial,H.out.s.cell r.out trivial,H.out.s.mono (fun _ _ _ => trivial)⟩ (fun hHeld => ?_); clear hKK KK i d; refine kQ 30 39 (.map (some h)) hHeld ?_; simp only [qA,qB,qC,qD]; refine kQ 31 40 (.pointer (some ⟨wd,0,none⟩)) hHeld ?_; simp only [qA,qB,qC,qD]; refine kQ 32 41 (.pointer (some ⟨wd,3,none⟩)) hHeld ?_; simp only [qA,qB,qC,qD]; have f := F.out.sm H.out.s trivial; have A := f.c 3 _ rfl; have E := f.z; refine rd 33 rfl fun KK hKK => ?_
      go_simp
      refine hKK.out _ _ ⟨(f.set 3 _).c 0 _ rfl,(f.set 3 _).c 1 _ rfl,(H.out.s.mono (fun _ _ _ => trivial)).put (fun t => t rfl) _ _⟩ (fun hHeld => ?_); clear hKK KK A E; refine wpAnyH_done (by kernel_rfl) ?_ _; go_wp2
      go_ret
      exact B.out _ _ _ _ H.out
   ·obtain ⟨C,d,H⟩ := H.out.put zH o (by decide) (by simp [maxLen])
    have i : (Instr.mapUpdate 77 (.map (some h)) (.string ⟨#[66,79,79,76,69,65,78]⟩) (.pointer (some ⟨o,0,none⟩))).run Tryz.prog G = .ok () C := d
    replace H := ze H
    go_simp
    refine hKK.out _ _ ⟨H.out.s.cell q.out trivial,H.out.s.cell r.out trivial,H.out.s.mono (fun _ _ _ => trivial)⟩ (fun hHeld => ?_); clear hKK KK i d; refine wpAnyH_ready (rs := [14]) (by kernel_rfl) (by simp) (AllReadyH.cons rfl (fun KK hKK => ?_) AllReadyH.nil)
    ·obtain ⟨x,k,e,j,H⟩ : ∃ z y,z = C.alloc (.cells #[.int .i64 2,.string ⟨#[]⟩,.bool false,.pointer none,.pointer (some ⟨n,0,none⟩),.int .i32 0,.int .i64 0,.bool false,.pointer none,.bool false,.pointer none] 90) /\ y = C.heap.size /\ Hid (NW u z n t1 (some h) (some y) (some o) [(zH,o)]) := ⟨_,_,rfl,rfl,H.out.int⟩
     go_simp
     rw [<- e,<- j]; refine hKK.out _ _ ⟨H.out.s.cell q.out trivial,H.out.s.cell r.out trivial,H.out.s.mono (fun _ _ _ => trivial)⟩ (fun hHeld => ?_); clear hKK KK e j; refine wpAnyH_ready (rs := [15]) (by kernel_rfl) (by simp) (AllReadyH.cons rfl (fun KK hKK => ?_) AllReadyH.nil)
     ·obtain ⟨D,d,H⟩ := H.out.put zG k (by decide) (by simp [maxLen])
      have i : (Instr.mapUpdate 77 (.map (some h)) (.string ⟨#[73,78,84,69,71,69,82]⟩) (.pointer (some ⟨k,0,none⟩))).run Tryz.prog x = .ok () D := d
      replace H := ze H
      go_simp
      refine hKK.out _ _ ⟨H.out.s.cell q.out trivial,H.out.s.cell r.out trivial,H.out.s.mono (fun _ _ _ => trivial)⟩ (fun hHeld => ?_); clear hKK KK i d; refine kQ 30 39 (.map (some h)) hHeld ?_; simp only [qA,qB,qC,qD]; refine kQ 31 40 (.pointer (some ⟨wd,0,none⟩)) hHeld ?_; simp only [qA,qB,qC,qD]; refine kQ 32 41 (.pointer (some ⟨wd,3,none⟩)) hHeld ?_; simp only [qA,qB,qC,qD]; have f := F.out.sm H.out.s trivial; have A := f.c 3 _ rfl; have E := f.z; refine rd 33 rfl fun KK hKK => ?_
      go_simp
      refine hKK.out _ _ ⟨(f.set 3 _).c 0 _ rfl,(f.set 3 _).c 1 _ rfl,(H.out.s.mono (fun _ _ _ => trivial)).put (fun t => t rfl) _ _⟩ (fun hHeld => ?_); clear hKK KK A E; refine wpAnyH_done (by kernel_rfl) ?_ _; go_wp2
      go_ret
      exact B.out _ _ _ _ H.out
 ·obtain ⟨K,k,e,j,H⟩ : ∃ z y,z = Y.alloc (.cells #[.int .i64 2,.string ⟨#[]⟩,.bool false,.pointer none,.pointer (some ⟨n,0,none⟩),.int .i32 0,.int .i64 0,.bool false,.pointer none,.bool false,.pointer none] 90) /\ y = Y.heap.size /\ Hid (NW u z n t1 none (some y) none []) := ⟨_,_,rfl,rfl,H.out.int⟩
  go_simp
  rw [<- e,<- j]; refine hKK.out _ _ ⟨H.out.s.cell q.out trivial,H.out.s.cell r.out trivial,H.out.s.mono (fun _ _ _ => trivial)⟩ (fun hHeld => ?_); clear hKK KK e j; refine wpAnyH_ready (rs := [1,28]) (by kernel_rfl) (by simp) (AllReadyH.cons rfl (fun KK hKK => ?_) (AllReadyH.cons rfl (fun KK hKK => ?_) AllReadyH.nil))
  ·obtain ⟨G,h,e,j,H⟩ : ∃ z y,z = K.alloc (.map #[] 0) /\ y = K.heap.size /\ Hid (NW u z n t1 (some y) (some k) none []) := ⟨_,_,rfl,rfl,H.out.map⟩
   go_simp
   rw [<- e,<- j]; refine hKK.out _ _ ⟨H.out.s.cell q.out trivial,H.out.s.cell r.out trivial,H.out.s.mono (fun _ _ _ => trivial)⟩ (fun hHeld => ?_); clear hKK KK e j; refine wpAnyH_ready (rs := [15,28]) (by kernel_rfl) (by simp) (AllReadyH.cons rfl (fun KK hKK => ?_) (AllReadyH.cons rfl (fun KK hKK => ?_) AllReadyH.nil))
   ·obtain ⟨C,d,H⟩ := H.out.put zG k (by decide) (by simp [maxLen])
    have i : (Instr.mapUpdate 77 (.map (some h)) (.string ⟨#[73,78,84,69,71,69,82]⟩) (.pointer (some ⟨k,0,none⟩))).run Tryz.prog G = .ok () C := d
    replace H := ze H
    go_simp
    refine hKK.out _ _ ⟨H.out.s.cell q.out trivial,H.out.s.cell r.out trivial,H.out.s.mono (fun _ _ _ => trivial)⟩ (fun hHeld => ?_); clear hKK KK i d; refine wpAnyH_ready (rs := [28]) (by kernel_rfl) (by simp) (AllReadyH.cons rfl (fun KK hKK => ?_) AllReadyH.nil)
    ·obtain ⟨x,o,e,j,H⟩ : ∃ z y,z = C.alloc (.cells #[.int .i64 2,.string ⟨#[]⟩,.bool false,.pointer none,.pointer (some ⟨t1,0,none⟩),.int .i32 0,.int .i64 0,.bool false,.pointer none,.bool false,.pointer none] 90) /\ y = C.heap.size /\ Hid (NW u z n t1 (some h) (some k) (some y) [(zG,k)]) := ⟨_,_,rfl,rfl,H.out.boo⟩
     go_simp
     rw [<- e,<- j]; refine hKK.out _ _ ⟨H.out.s.cell q.out trivial,H.out.s.cell r.out trivial,H.out.s.mono (fun _ _ _ => trivial)⟩ (fun hHeld => ?_); clear hKK KK e j; refine wpAnyH_ready (rs := [29]) (by kernel_rfl) (by simp) (AllReadyH.cons rfl (fun KK hKK => ?_) AllReadyH.nil)
     ·obtain ⟨D,d,H⟩ := H.out.put zH o (by decide) (by simp [maxLen])
      have i : (Instr.mapUpdate 77 (.map (some h)) (.string ⟨#[66,79,79,76,69,65,78]⟩) (.pointer (some ⟨o,0,none⟩))).run Tryz.prog x = .ok () D := d
      replace H := ze H
      go_simp
      refine hKK.out _ _ ⟨H.out.s.cell q.out trivial,H.out.s.cell r.out trivial,H.out.s.mono (fun _ _ _ => trivial)⟩ (fun hHeld => ?_); clear hKK KK i d; refine kQ 30 39 (.map (some h)) hHeld ?_; simp only [qA,qB,qC,qD]; refine kQ 31 40 (.pointer (some ⟨wd,0,none⟩)) hHeld ?_; simp only [qA,qB,qC,qD]; refine kQ 32 41 (.pointer (some ⟨wd,3,none⟩)) hHeld ?_; simp only [qA,qB,qC,qD]; have f := F.out.sm H.out.s trivial; have A := f.c 3 _ rfl; have E := f.z; refine rd 33 rfl fun KK hKK => ?_
      go_simp
      refine hKK.out _ _ ⟨(f.set 3 _).c 0 _ rfl,(f.set 3 _).c 1 _ rfl,(H.out.s.mono (fun _ _ _ => trivial)).put (fun t => t rfl) _ _⟩ (fun hHeld => ?_); clear hKK KK A E; refine wpAnyH_done (by kernel_rfl) ?_ _; go_wp2
      go_ret
      exact B.out _ _ _ _ H.out.swap
   ·obtain ⟨C,o,e,j,H⟩ : ∃ z y,z = G.alloc (.cells #[.int .i64 2,.string ⟨#[]⟩,.bool false,.pointer none,.pointer (some ⟨t1,0,none⟩),.int .i32 0,.int .i64 0,.bool false,.pointer none,.bool false,.pointer none] 90) /\ y = G.heap.size /\ Hid (NW u z n t1 (some h) (some k) (some y) []) := ⟨_,_,rfl,rfl,H.out.boo⟩
    go_simp
    rw [<- e,<- j]; refine hKK.out _ _ ⟨H.out.s.cell q.out trivial,H.out.s.cell r.out trivial,H.out.s.mono (fun _ _ _ => trivial)⟩ (fun hHeld => ?_); clear hKK KK e j; refine wpAnyH_ready (rs := [15,29]) (by kernel_rfl) (by simp) (AllReadyH.cons rfl (fun KK hKK => ?_) (AllReadyH.cons rfl (fun KK hKK => ?_) AllReadyH.nil))
    ·obtain ⟨x,d,H⟩ := H.out.put zG k (by decide) (by simp [maxLen])
     have i : (Instr.mapUpdate 77 (.map (some h)) (.string ⟨#[73,78,84,69,71,69,82]⟩) (.pointer (some ⟨k,0,none⟩))).run Tryz.prog C = .ok () x := d
     replace H := ze H
     go_simp
     refine hKK.out _ _ ⟨H.out.s.cell q.out trivial,H.out.s.cell r.out trivial,H.out.s.mono (fun _ _ _ => trivial)⟩ (fun hHeld => ?_); clear hKK KK i d; refine wpAnyH_ready (rs := [29]) (by kernel_rfl) (by simp) (AllReadyH.cons rfl (fun KK hKK => ?_) AllReadyH.nil)
     ·obtain ⟨D,d,H⟩ := H.out.put zH o (by decide) (by simp [maxLen])
      have i : (Instr.mapUpdate 77 (.map (some h)) (.string ⟨#[66,79,79,76,69,65,78]⟩) (.pointer (some ⟨o,0,none⟩))).run Tryz.prog x = .ok () D := d
      replace H := ze H
      go_simp
      refine hKK.out _ _ ⟨H.out.s.cell q.out trivial,H.out.s.cell r.out trivial,H.out.s.mono (fun _ _ _ => trivial)⟩ (fun hHeld => ?_); clear hKK KK i d; refine kQ 30 39 (.map (some h)) hHeld ?_; simp only [qA,qB,qC,qD]; refine kQ 31 40 (.pointer (some ⟨wd,0,none⟩)) hHeld ?_; simp only [qA,qB,qC,qD]; refine kQ 32 41 (.pointer (some ⟨wd,3,none⟩)) hHeld ?_; simp only [qA,qB,qC,qD]; have f := F.out.sm H.out.s trivial; have A := f.c 3 _ rfl; have E := f.z; refine rd 33 rfl fun KK hKK => ?_
      go_simp
      refine hKK.out _ _ ⟨(f.set 3 _).c 0 _ rfl,(f.set 3 _).c 1 _ rfl,(H.out.s.mono (fun _ _ _ => trivial)).put (fun t => t rfl) _ _⟩ (fun hHeld => ?_); clear hKK KK A E; refine wpAnyH_done (by kernel_rfl) ?_ _; go_wp2
      go_ret
      exact B.out _ _ _ _ H.out.swap
    ·obtain ⟨x,d,H⟩ := H.out.put zH o (by decide) (by simp [maxLen])
     have i : (Instr.mapUpdate 77 (.map (some h)) (.string ⟨#[66,79,79,76,69,65,78]⟩) (.pointer (some ⟨o,0,none⟩))).run Tryz.prog C = .ok () x := d
     replace H := ze H
     go_simp
     refine hKK.out _ _ ⟨H.out.s.cell q.out trivial,H.out.s.cell r.out trivial,H.out.s.mono (fun _ _ _ => trivial)⟩ (fun hHeld => ?_); clear hKK KK i d; refine wpAnyH_ready (rs := [15]) (by kernel_rfl) (by simp) (AllReadyH.cons rfl (fun KK hKK => ?_) AllReadyH.nil)
     ·obtain ⟨D,d,H⟩ := H.out.put zG k (by decide) (by simp [maxLen])
      have i : (Instr.mapUpdate 77 (.map (some h)) (.string ⟨#[73,78,84,69,71,69,82]⟩) (.pointer (some ⟨k,0,none⟩))).run Tryz.prog x = .ok () D := d
      replace H := ze H
      go_simp
      refine hKK.out _ _ ⟨H.out.s.cell q.out trivial,H.out.s.cell r.out trivial,H.out.s.mono (fun _ _ _ => trivial)⟩ (fun hHeld => ?_); clear hKK KK i d; refine kQ 30 39 (.map (some h)) hHeld ?_; simp only [qA,qB,qC,qD]; refine kQ 31 40 (.pointer (some ⟨wd,0,none⟩)) hHeld ?_; simp only [qA,qB,qC,qD]; refine kQ 32 41 (.pointer (some ⟨wd,3,none⟩)) hHeld ?_; simp only [qA,qB,qC,qD]; have f := F.out.sm H.out.s trivial; have A := f.c 3 _ rfl; have E := f.z; refine rd 33 rfl fun KK hKK => ?_
      go_simp
      refine hKK.out _ _ ⟨(f.set 3 _).c 0 _ rfl,(f.set 3 _).c 1 _ rfl,(H.out.s.mono (fun _ _ _ => trivial)).put (fun t => t rfl) _ _⟩ (fun hHeld => ?_); clear hKK KK A E; refine wpAnyH_done (by kernel_rfl) ?_ _; go_wp2
      go_ret
      exact B.out _ _ _ _ H.out
  ·obtain ⟨G,o,e,j,H⟩ : ∃ z y,z = K.alloc (.cells #[.int .i64 2,.string ⟨#[]⟩,.bool false,.pointer none,.pointer (some ⟨t1,0,none⟩),.int .i32 0,.int .i64 0,.bool false,.pointer none,.bool false,.pointer none] 90) /\ y = K.heap.size /\ Hid (NW u z n t1 none (some k) (some y) []) := ⟨_,_,rfl,rfl,H.out.boo⟩
   go_simp
   rw [<- e,<- j]; refine hKK.out _ _ ⟨H.out.s.cell q.out trivial,H.out.s.cell r.out trivial,H.out.s.mono (fun _ _ _ => trivial)⟩ (fun hHeld => ?_); clear hKK KK e j; refine wpAnyH_ready (rs := [1]) (by kernel_rfl) (by simp) (AllReadyH.cons rfl (fun KK hKK => ?_) AllReadyH.nil)
   ·obtain ⟨C,h,e,j,H⟩ : ∃ z y,z = G.alloc (.map #[] 0) /\ y = G.heap.size /\ Hid (NW u z n t1 (some y) (some k) (some o) []) := ⟨_,_,rfl,rfl,H.out.map⟩
    go_simp
    rw [<- e,<- j]; refine hKK.out _ _ ⟨H.out.s.cell q.out trivial,H.out.s.cell r.out trivial,H.out.s.mono (fun _ _ _ => trivial)⟩ (fun hHeld => ?_); clear hKK KK e j; refine wpAnyH_ready (rs := [15,29]) (by kernel_rfl) (by simp) (AllReadyH.cons rfl (fun KK hKK => ?_) (AllReadyH.cons rfl (fun KK hKK => ?_) AllReadyH.nil))
    ·obtain ⟨x,d,H⟩ := H.out.put zG k (by decide) (by simp [maxLen])
     have i : (Instr.mapUpdate 77 (.map (some h)) (.string ⟨#[73,78,84,69,71,69,82]⟩) (.pointer (some ⟨k,0,none⟩))).run Tryz.prog C = .ok () x := d
     replace H := ze H
     go_simp
     refine hKK.out _ _ ⟨H.out.s.cell q.out trivial,H.out.s.cell r.out trivial,H.out.s.mono (fun _ _ _ => trivial)⟩ (fun hHeld => ?_); clear hKK KK i d; refine wpAnyH_ready (rs := [29]) (by kernel_rfl) (by simp) (AllReadyH.cons rfl (fun KK hKK => ?_) AllReadyH.nil)
     ·obtain ⟨D,d,H⟩ := H.out.put zH o (by decide) (by simp [maxLen])
      have i : (Instr.mapUpdate 77 (.map (some h)) (.string ⟨#[66,79,79,76,69,65,78]⟩) (.pointer (some ⟨o,0,none⟩))).run Tryz.prog x = .ok () D := d
      replace H := ze H
      go_simp
      refine hKK.out _ _ ⟨H.out.s.cell q.out trivial,H.out.s.cell r.out trivial,H.out.s.mono (fun _ _ _ => trivial)⟩ (fun hHeld => ?_); clear hKK KK i d; refine kQ 30 39 (.map (some h)) hHeld ?_; simp only [qA,qB,qC,qD]; refine kQ 31 40 (.pointer (some ⟨wd,0,none⟩)) hHeld ?_; simp only [qA,qB,qC,qD]; refine kQ 32 41 (.pointer (some ⟨wd,3,none⟩)) hHeld ?_; simp only [qA,qB,qC,qD]; have f := F.out.sm H.out.s trivial; have A := f.c 3 _ rfl; have E := f.z; refine rd 33 rfl fun KK hKK => ?_
      go_simp
      refine hKK.out _ _ ⟨(f.set 3 _).c 0 _ rfl,(f.set 3 _).c 1 _ rfl,(H.out.s.mono (fun _ _ _ => trivial)).put (fun t => t rfl) _ _⟩ (fun hHeld => ?_); clear hKK KK A E; refine wpAnyH_done (by kernel_rfl) ?_ _; go_wp2
      go_ret
      exact B.out _ _ _ _ H.out.swap
    ·obtain ⟨x,d,H⟩ := H.out.put zH o (by decide) (by simp [maxLen])
     have i : (Instr.mapUpdate 77 (.map (some h)) (.string ⟨#[66,79,79,76,69,65,78]⟩) (.pointer (some ⟨o,0,none⟩))).run Tryz.prog C = .ok () x := d
     replace H := ze H
     go_simp
     refine hKK.out _ _ ⟨H.out.s.cell q.out trivial,H.out.s.cell r.out trivial,H.out.s.mono (fun _ _ _ => trivial)⟩ (fun hHeld => ?_); clear hKK KK i d; refine wpAnyH_ready (rs := [15]) (by kernel_rfl) (by simp) (AllReadyH.cons rfl (fun KK hKK => ?_) AllReadyH.nil)
     ·obtain ⟨D,d,H⟩ := H.out.put zG k (by decide) (by simp [maxLen])
      have i : (Instr.mapUpdate 77 (.map (some h)) (.string ⟨#[73,78,84,69,71,69,82]⟩) (.pointer (some ⟨k,0,none⟩))).run Tryz.prog x = .ok () D := d
      replace H := ze H
      go_simp
      refine hKK.out _ _ ⟨H.out.s.cell q.out trivial,H.out.s.cell r.out trivial,H.out.s.mono (fun _ _ _ => trivial)⟩ (fun hHeld => ?_); clear hKK KK i d; refine kQ 30 39 (.map (some h)) hHeld ?_; simp only [qA,qB,qC,qD]; refine kQ 31 40 (.pointer (some ⟨wd,0,none⟩)) hHeld ?_; simp only [qA,qB,qC,qD]; refine kQ 32 41 (.pointer (some ⟨wd,3,none⟩)) hHeld ?_; simp only [qA,qB,qC,qD]; have f := F.out.sm H.out.s trivial; have A := f.c 3 _ rfl; have E := f.z; refine rd 33 rfl fun KK hKK => ?_
      go_simp
      refine hKK.out _ _ ⟨(f.set 3 _).c 0 _ rfl,(f.set 3 _).c 1 _ rfl,(H.out.s.mono (fun _ _ _ => trivial)).put (fun t => t rfl) _ _⟩ (fun hHeld => ?_); clear hKK KK A E; refine wpAnyH_done (by kernel_rfl) ?_ _; go_wp2
      go_ret
      exact B.out _ _ _ _ H.out
 ·obtain ⟨K,o,e,j,H⟩ : ∃ z y,z = Y.alloc (.cells #[.int .i64 2,.string ⟨#[]⟩,.bool false,.pointer none,.pointer (some ⟨t1,0,none⟩),.int .i32 0,.int .i64 0,.bool false,.pointer none,.bool false,.pointer none] 90) /\ y = Y.heap.size /\ Hid (NW u z n t1 none none (some y) []) := ⟨_,_,rfl,rfl,H.out.boo⟩
  go_simp
  rw [<- e,<- j]; refine hKK.out _ _ ⟨H.out.s.cell q.out trivial,H.out.s.cell r.out trivial,H.out.s.mono (fun _ _ _ => trivial)⟩ (fun hHeld => ?_); clear hKK KK e j; refine wpAnyH_ready (rs := [1,14]) (by kernel_rfl) (by simp) (AllReadyH.cons rfl (fun KK hKK => ?_) (AllReadyH.cons rfl (fun KK hKK => ?_) AllReadyH.nil))
  ·obtain ⟨G,h,e,j,H⟩ : ∃ z y,z = K.alloc (.map #[] 0) /\ y = K.heap.size /\ Hid (NW u z n t1 (some y) none (some o) []) := ⟨_,_,rfl,rfl,H.out.map⟩
   go_simp
   rw [<- e,<- j]; refine hKK.out _ _ ⟨H.out.s.cell q.out trivial,H.out.s.cell r.out trivial,H.out.s.mono (fun _ _ _ => trivial)⟩ (fun hHeld => ?_); clear hKK KK e j; refine wpAnyH_ready (rs := [14,29]) (by kernel_rfl) (by simp) (AllReadyH.cons rfl (fun KK hKK => ?_) (AllReadyH.cons rfl (fun KK hKK => ?_) AllReadyH.nil))
   ·obtain ⟨C,k,e,j,H⟩ : ∃ z y,z = G.alloc (.cells #[.int .i64 2,.string ⟨#[]⟩,.bool false,.pointer none,.pointer (some ⟨n,0,none⟩),.int .i32 0,.int .i64 0,.bool false,.pointer none,.bool false,.pointer none] 90) /\ y = G.heap.size /\ Hid (NW u z n t1 (some h) (some y) (some o) []) := ⟨_,_,rfl,rfl,H.out.int⟩
    go_simp
    rw [<- e,<- j]; refine hKK.out _ _ ⟨H.out.s.cell q.out trivial,H.out.s.cell r.out trivial,H.out.s.mono (fun _ _ _ => trivial)⟩ (fun hHeld => ?_); clear hKK KK e j; refine wpAnyH_ready (rs := [15,29]) (by kernel_rfl) (by simp) (AllReadyH.cons rfl (fun KK hKK => ?_) (AllReadyH.cons rfl (fun KK hKK => ?_) AllReadyH.nil))
    ·obtain ⟨x,d,H⟩ := H.out.put zG k (by decide) (by simp [maxLen])
     have i : (Instr.mapUpdate 77 (.map (some h)) (.string ⟨#[73,78,84,69,71,69,82]⟩) (.pointer (some ⟨k,0,none⟩))).run Tryz.prog C = .ok () x := d
     replace H := ze H
     go_simp
     refine hKK.out _ _ ⟨H.out.s.cell q.out trivial,H.out.s.cell r.out trivial,H.out.s.mono (fun _ _ _ => trivial)⟩ (fun hHeld => ?_); clear hKK KK i d; refine wpAnyH_ready (rs := [29]) (by kernel_rfl) (by simp) (AllReadyH.cons rfl (fun KK hKK => ?_) AllReadyH.nil)
     ·obtain ⟨D,d,H⟩ := H.out.put zH o (by decide) (by simp [maxLen])
      have i : (Instr.mapUpdate 77 (.map (some h)) (.string ⟨#[66,79,79,76,69,65,78]⟩) (.pointer (some ⟨o,0,none⟩))).run Tryz.prog x = .ok () D := d
      replace H := ze H
      go_simp
      refine hKK.out _ _ ⟨H.out.s.cell q.out trivial,H.out.s.cell r.out trivial,H.out.s.mono (fun _ _ _ => trivial)⟩ (fun hHeld => ?_); clear hKK KK i d; refine kQ 30 39 (.map (some h)) hHeld ?_; simp only [qA,qB,qC,qD]; refine kQ 31 40 (.pointer (some ⟨wd,0,none⟩)) hHeld ?_; simp only [qA,qB,qC,qD]; refine kQ 32 41 (.pointer (some ⟨wd,3,none⟩)) hHeld ?_; simp only [qA,qB,qC,qD]; have f := F.out.sm H.out.s trivial; have A := f.c 3 _ rfl; have E := f.z; refine rd 33 rfl fun KK hKK => ?_
      go_simp
      refine hKK.out _ _ ⟨(f.set 3 _).c 0 _ rfl,(f.set 3 _).c 1 _ rfl,(H.out.s.mono (fun _ _ _ => trivial)).put (fun t => t rfl) _ _⟩ (fun hHeld => ?_); clear hKK KK A E; refine wpAnyH_done (by kernel_rfl) ?_ _; go_wp2
      go_ret
      exact B.out _ _ _ _ H.out.swap
    ·obtain ⟨x,d,H⟩ := H.out.put zH o (by decide) (by simp [maxLen])
     have i : (Instr.mapUpdate 77 (.map (some h)) (.string ⟨#[66,79,79,76,69,65,78]⟩) (.pointer (some ⟨o,0,none⟩))).run Tryz.prog C = .ok () x := d
     replace H := ze H
     go_simp
     refine hKK.out _ _ ⟨H.out.s.cell q.out trivial,H.out.s.cell r.out trivial,H.out.s.mono (fun _ _ _ => trivial)⟩ (fun hHeld => ?_); clear hKK KK i d; refine wpAnyH_ready (rs := [15]) (by kernel_rfl) (by simp) (AllReadyH.cons rfl (fun KK hKK => ?_) AllReadyH.nil)
     ·obtain ⟨D,d,H⟩ := H.out.put zG k (by decide) (by simp [maxLen])
      have i : (Instr.mapUpdate 77 (.map (some h)) (.string ⟨#[73,78,84,69,71,69,82]⟩) (.pointer (some ⟨k,0,none⟩))).run Tryz.prog x = .ok () D := d
      replace H := ze H
      go_simp
      refine hKK.out _ _ ⟨H.out.s.cell q.out trivial,H.out.s.cell r.out trivial,H.out.s.mono (fun _ _ _ => trivial)⟩ (fun hHeld => ?_); clear hKK KK i d; refine kQ 30 39 (.map (some h)) hHeld ?_; simp only [qA,qB,qC,qD]; refine kQ 31 40 (.pointer (some ⟨wd,0,none⟩)) hHeld ?_; simp only [qA,qB,qC,qD]; refine kQ 32 41 (.pointer (some ⟨wd,3,none⟩)) hHeld ?_; simp only [qA,qB,qC,qD]; have f := F.out.sm H.out.s trivial; have A := f.c 3 _ rfl; have E := f.z; refine rd 33 rfl fun KK hKK => ?_
      go_simp
      refine hKK.out _ _ ⟨(f.set 3 _).c 0 _ rfl,(f.set 3 _).c 1 _ rfl,(H.out.s.mono (fun _ _ _ => trivial)).put (fun t => t rfl) _ _⟩ (fun hHeld => ?_); clear hKK KK A E; refine wpAnyH_done (by kernel_rfl) ?_ _; go_wp2
      go_ret
      exact B.out _ _ _ _ H.out
   ·obtain ⟨C,d,H⟩ := H.out.put zH o (by decide) (by simp [maxLen])
    have i : (Instr.mapUpdate 77 (.map (some h)) (.string ⟨#[66,79,79,76,69,65,78]⟩) (.pointer (some ⟨o,0,none⟩))).run Tryz.prog G = .ok () C := d
    replace H := ze H
    go_simp
    refine hKK.out _ _ ⟨H.out.s.cell q.out trivial,H.out.s.cell r.out trivial,H.out.s.mono (fun _ _ _ => trivial)⟩ (fun hHeld => ?_); clear hKK KK i d; refine wpAnyH_ready (rs := [14]) (by kernel_rfl) (by simp) (AllReadyH.cons rfl (fun KK hKK => ?_) AllReadyH.nil)
    ·obtain ⟨x,k,e,j,H⟩ : ∃ z y,z = C.alloc (.cells #[.int .i64 2,.string ⟨#[]⟩,.bool false,.pointer none,.pointer (some ⟨n,0,none⟩),.int .i32 0,.int .i64 0,.bool false,.pointer none,.bool false,.pointer none] 90) /\ y = C.heap.size /\ Hid (NW u z n t1 (some h) (some y) (some o) [(zH,o)]) := ⟨_,_,rfl,rfl,H.out.int⟩
     go_simp
     rw [<- e,<- j]; refine hKK.out _ _ ⟨H.out.s.cell q.out trivial,H.out.s.cell r.out trivial,H.out.s.mono (fun _ _ _ => trivial)⟩ (fun hHeld => ?_); clear hKK KK e j; refine wpAnyH_ready (rs := [15]) (by kernel_rfl) (by simp) (AllReadyH.cons rfl (fun KK hKK => ?_) AllReadyH.nil)
     ·obtain ⟨D,d,H⟩ := H.out.put zG k (by decide) (by simp [maxLen])
      have i : (Instr.mapUpdate 77 (.map (some h)) (.string ⟨#[73,78,84,69,71,69,82]⟩) (.pointer (some ⟨k,0,none⟩))).run Tryz.prog x = .ok () D := d
      replace H := ze H
      go_simp
      refine hKK.out _ _ ⟨H.out.s.cell q.out trivial,H.out.s.cell r.out trivial,H.out.s.mono (fun _ _ _ => trivial)⟩ (fun hHeld => ?_); clear hKK KK i d; refine kQ 30 39 (.map (some h)) hHeld ?_; simp only [qA,qB,qC,qD]; refine kQ 31 40 (.pointer (some ⟨wd,0,none⟩)) hHeld ?_; simp only [qA,qB,qC,qD]; refine kQ 32 41 (.pointer (some ⟨wd,3,none⟩)) hHeld ?_; simp only [qA,qB,qC,qD]; have f := F.out.sm H.out.s trivial; have A := f.c 3 _ rfl; have E := f.z; refine rd 33 rfl fun KK hKK => ?_
      go_simp
      refine hKK.out _ _ ⟨(f.set 3 _).c 0 _ rfl,(f.set 3 _).c 1 _ rfl,(H.out.s.mono (fun _ _ _ => trivial)).put (fun t => t rfl) _ _⟩ (fun hHeld => ?_); clear hKK KK A E; refine wpAnyH_done (by kernel_rfl) ?_ _; go_wp2
      go_ret
      exact B.out _ _ _ _ H.out
  ·obtain ⟨G,k,e,j,H⟩ : ∃ z y,z = K.alloc (.cells #[.int .i64 2,.string ⟨#[]⟩,.bool false,.pointer none,.pointer (some ⟨n,0,none⟩),.int .i32 0,.int .i64 0,.bool false,.pointer none,.bool false,.pointer none] 90) /\ y = K.heap.size /\ Hid (NW u z n t1 none (some y) (some o) []) := ⟨_,_,rfl,rfl,H.out.int⟩
   go_simp
   rw [<- e,<- j]; refine hKK.out _ _ ⟨H.out.s.cell q.out trivial,H.out.s.cell r.out trivial,H.out.s.mono (fun _ _ _ => trivial)⟩ (fun hHeld => ?_); clear hKK KK e j; refine wpAnyH_ready (rs := [1]) (by kernel_rfl) (by simp) (AllReadyH.cons rfl (fun KK hKK => ?_) AllReadyH.nil)
   ·obtain ⟨C,h,e,j,H⟩ : ∃ z y,z = G.alloc (.map #[] 0) /\ y = G.heap.size /\ Hid (NW u z n t1 (some y) (some k) (some o) []) := ⟨_,_,rfl,rfl,H.out.map⟩
    go_simp
    rw [<- e,<- j]; refine hKK.out _ _ ⟨H.out.s.cell q.out trivial,H.out.s.cell r.out trivial,H.out.s.mono (fun _ _ _ => trivial)⟩ (fun hHeld => ?_); clear hKK KK e j; refine wpAnyH_ready (rs := [15,29]) (by kernel_rfl) (by simp) (AllReadyH.cons rfl (fun KK hKK => ?_) (AllReadyH.cons rfl (fun KK hKK => ?_) AllReadyH.nil))
    ·obtain ⟨x,d,H⟩ := H.out.put zG k (by decide) (by simp [maxLen])
     have i : (Instr.mapUpdate 77 (.map (some h)) (.string ⟨#[73,78,84,69,71,69,82]⟩) (.pointer (some ⟨k,0,none⟩))).run Tryz.prog C = .ok () x := d
     replace H := ze H
     go_simp
     refine hKK.out _ _ ⟨H.out.s.cell q.out trivial,H.out.s.cell r.out trivial,H.out.s.mono (fun _ _ _ => trivial)⟩ (fun hHeld => ?_); clear hKK KK i d; refine wpAnyH_ready (rs := [29]) (by kernel_rfl) (by simp) (AllReadyH.cons rfl (fun KK hKK => ?_) AllReadyH.nil)
     ·obtain ⟨D,d,H⟩ := H.out.put zH o (by decide) (by simp [maxLen])
      have i : (Instr.mapUpdate 77 (.map (some h)) (.string ⟨#[66,79,79,76,69,65,78]⟩) (.pointer (some ⟨o,0,none⟩))).run Tryz.prog x = .ok () D := d
      replace H := ze H
      go_simp
      refine hKK.out _ _ ⟨H.out.s.cell q.out trivial,H.out.s.cell r.out trivial,H.out.s.mono (fun _ _ _ => trivial)⟩ (fun hHeld => ?_); clear hKK KK i d; refine kQ 30 39 (.map (some h)) hHeld ?_; simp only [qA,qB,qC,qD]; refine kQ 31 40 (.pointer (some ⟨wd,0,none⟩)) hHeld ?_; simp only [qA,qB,qC,qD]; refine kQ 32 41 (.pointer (some ⟨wd,3,none⟩)) hHeld ?_; simp only [qA,qB,qC,qD]; have f := F.out.sm H.out.s trivial; have A := f.c 3 _ rfl; have E := f.z; refine rd 33 rfl fun KK hKK => ?_
      go_simp
      refine hKK.out _ _ ⟨(f.set 3 _).c 0 _ rfl,(f.set 3 _).c 1 _ rfl,(H.out.s.mono (fun _ _ _ => trivial)).put (fun t => t rfl) _ _⟩ (fun hHeld => ?_); clear hKK KK A E; refine wpAnyH_done (by kernel_rfl) ?_ _; go_wp2
      go_ret
      exact B.out _ _ _ _ H.out.swap
    ·obtain ⟨x,d,H⟩ := H.out.put zH o (by decide) (by simp [maxLen])
     have i : (Instr.mapUpdate 77 (.map (some h)) (.string ⟨#[66,79,79,76,69,65,78]⟩) (.pointer (some ⟨o,0,none⟩))).run Tryz.prog C = .ok () x := d
     replace H := ze H
     go_simp
     refine hKK.out _ _ ⟨H.out.s.cell q.out trivial,H.out.s.cell r.out trivial,H.out.s.mono (fun _ _ _ => trivial)⟩ (fun hHeld => ?_); clear hKK KK i d; refine wpAnyH_ready (rs := [15]) (by kernel_rfl) (by simp) (AllReadyH.cons rfl (fun KK hKK => ?_) AllReadyH.nil)
     ·obtain ⟨D,d,H⟩ := H.out.put zG k (by decide) (by simp [maxLen])
      have i : (Instr.mapUpdate 77 (.map (some h)) (.string ⟨#[73,78,84,69,71,69,82]⟩) (.pointer (some ⟨k,0,none⟩))).run Tryz.prog x = .ok () D := d
      replace H := ze H
      go_simp
      refine hKK.out _ _ ⟨H.out.s.cell q.out trivial,H.out.s.cell r.out trivial,H.out.s.mono (fun _ _ _ => trivial)⟩ (fun hHeld => ?_); clear hKK KK i d; refine kQ 30 39 (.map (some h)) hHeld ?_; simp only [qA,qB,qC,qD]; refine kQ 31 40 (.pointer (some ⟨wd,0,none⟩)) hHeld ?_; simp only [qA,qB,qC,qD]; refine kQ 32 41 (.pointer (some ⟨wd,3,none⟩)) hHeld ?_; simp only [qA,qB,qC,qD]; have f := F.out.sm H.out.s trivial; have A := f.c 3 _ rfl; have E := f.z; refine rd 33 rfl fun KK hKK => ?_
      go_simp
      refine hKK.out _ _ ⟨(f.set 3 _).c 0 _ rfl,(f.set 3 _).c 1 _ rfl,(H.out.s.mono (fun _ _ _ => trivial)).put (fun t => t rfl) _ _⟩ (fun hHeld => ?_); clear hKK KK A E; refine wpAnyH_done (by kernel_rfl) ?_ _; go_wp2
      go_ret
      exact B.out _ _ _ _ H.out
end
end Go.Proofs.YtnmkffjklpfflaaGreatDoor
