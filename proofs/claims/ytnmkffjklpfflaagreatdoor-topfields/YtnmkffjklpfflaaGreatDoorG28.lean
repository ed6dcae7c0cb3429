/- The world of the checker,new. -/
import Derived.Test.YtnmkffjklpfflaaGreatDoorG25
namespace Go.Proofs.YtnmkffjklpfflaaGreatDoor
open Go.RowKit
set_option maxHeartbeats 4000000
set_option maxRecDepth 100000
section
variable {ρ : Lay} {w w' w1 : World} {S : KS} {b : Nat} {c : KSc}
def uv (n t1 t2 mo wd mb ta tb g : Nat) : Option Lb := if g = n then some (.ty 0) else if g = t1 then some (.ty 1) else if g = t2 then some (.ty 2) else if g = mo then some .mo else if g = wd then some .wd else if g = mb then some .ba else if g = ta then some (.th 0) else if g = tb then some (.th 1) else none
theorem km0 {w : World} {n t1 t2 mo wd mb ta tb : Nat} (e1 : t1 = n + 1) (e2 : t2 = n + 2) (e3 : mo = n + 3) (e4 : wd = n + 4) (h1 : n + 5 <= mb) (h2 : n + 5 <= ta) (h3 : n + 5 <= tb) (h4 : mb ≠ ta) (h5 : mb ≠ tb) (h6 : ta ≠ tb)
  (b0 : Bk w n [.int .i64 0,.string ⟨#[73,78,84,69,71,69,82]⟩,.pointer none,.int .i64 1,.int .i64 0,.pointer none,.slice none 0 0,.bool true]) (b1 : Bk w t1 [.int .i64 1,.string ⟨#[66,79,79,76,69,65,78]⟩,.pointer none,.int .i64 1,.int .i64 0,.pointer none,.slice none 0 0,.bool true]) (b2 : Bk w t2 [.int .i64 2,.string ⟨#[]⟩,.pointer none,.int .i64 0,.int .i64 0,.pointer none,.slice none 0 0,.bool false]) (bm : MapAt w mo []) (bw : Bk w wd [pq n,pq t1,pq t2,.map (some mb),.map (some mo)]) (bb : MapAt w mb [(yL,ta),(yO,tb)]) (ba : Bk w ta [.int .i64 2,.string ⟨#[]⟩,.bool false,.pointer none,pq n,.int .i32 0,.int .i64 0,.bool false,.pointer none,.bool false,.pointer none]) (bc : Bk w tb [.int .i64 2,.string ⟨#[]⟩,.bool false,.pointer none,pq t1,.int .i32 0,.int .i64 0,.bool false,.pointer none,.bool false,.pointer none]) :
  ∃ ρ : Lay,ρ.wd = wd /\ KM ρ w ks0 /\ (∀ g,g < n -> ρ.col g = none) := by
 refine ⟨⟨wd,mb,mo,fun i => if i = 0 then n else if i = 1 then t1 else t2,fun i => if i = 0 then ta else tb,fun _ => 0,fun _ => 0,fun _ => 0,fun _ => 0,
  uv n t1 t2 mo wd mb ta tb⟩,rfl,?_,?_⟩
 ·have f := b0.lt
  have h := bw.lt; have j := bb.lt; have k := ba.lt; have m := bc.lt; refine ⟨bw,?_,bb,?_,bm,?_,?_,?_,fun i d => absurd d (Nat.not_lt_zero _),fun i d => absurd d (Nat.not_lt_zero _),?_⟩
  ·show uv n t1 t2 mo wd mb ta tb wd = _
   unfold uv
   rw [if_neg (by omega),if_neg (by omega),if_neg (by omega),if_neg (by omega),if_pos rfl]
  ·show uv n t1 t2 mo wd mb ta tb mb = _
   unfold uv
   rw [if_neg (by omega),if_neg (by omega),if_neg (by omega),if_neg (by omega),if_neg (by omega),if_pos rfl]
  ·show uv n t1 t2 mo wd mb ta tb mo = _
   unfold uv
   rw [if_neg (by omega),if_neg (by omega),if_neg (by omega),if_pos rfl]
  ·intro i d
   match i,d with
   | 0,_ => exact ⟨⟨.slice none 0 0,b0,World.ownsRow_nil _ _ _ _,nofun⟩,by show uv n t1 t2 mo wd mb ta tb n = _; unfold uv; rw [if_pos rfl]⟩
   | 1,_ => exact ⟨⟨.slice none 0 0,b1,World.ownsRow_nil _ _ _ _,nofun⟩,by show uv n t1 t2 mo wd mb ta tb t1 = _; unfold uv; rw [if_neg (by omega),if_pos rfl]⟩
   | 2,_ => exact ⟨⟨.slice none 0 0,b2,World.ownsRow_nil _ _ _ _,nofun⟩,by show uv n t1 t2 mo wd mb ta tb t2 = _; unfold uv; rw [if_neg (by omega),if_neg (by omega),if_pos rfl]⟩
   | i + 3,d => exact absurd d (by simp [ks0])
  ·intro i d
   match i,d with
   | 0,_ => exact ⟨ba,by show uv n t1 t2 mo wd mb ta tb ta = _; unfold uv; rw [if_neg (by omega),if_neg (by omega),if_neg (by omega),if_neg (by omega),if_neg (by omega),if_neg (by omega),if_pos rfl]⟩
   | 1,_ => exact ⟨bc,by show uv n t1 t2 mo wd mb ta tb tb = _; unfold uv; rw [if_neg (by omega),if_neg (by omega),if_neg (by omega),if_neg (by omega),if_neg (by omega),if_neg (by omega),if_neg (by omega),if_pos rfl]⟩
   | i + 2,d => exact absurd d (by simp [ks0])
  ·intro g e
   show uv n t1 t2 mo wd mb ta tb g = _
   unfold uv
   rw [if_neg (by omega),if_neg (by omega),if_neg (by omega),if_neg (by omega),if_neg (by omega),if_neg (by omega),if_neg (by omega),if_neg (by omega)]
 ·intro g e
  show uv n t1 t2 mo wd mb ta tb g = _
  unfold uv
  rw [if_neg (by omega),if_neg (by omega),if_neg (by omega),if_neg (by omega),if_neg (by omega),if_neg (by omega),if_neg (by omega),if_neg (by omega)]
theorem nu {w : World} {mb ta tb : Nat} (h : MapAt w mb [(yO,tb),(yL,ta)]) : MapAt w mb [(yL,ta),(yO,tb)] := by
 have e : kt [(yO,tb),(yL,ta)] = kt [(yL,ta),(yO,tb)] := rfl
 unfold MapAt at h ⊢
 rw [<- e]
 exact h
structure NW (v V : World) (n t1 : Nat) (om oa ob : Option Nat) (l : List (Nm × Nat)) : Prop where
 s : Sm v V (fun _ => True)
 m : ∀ x,om = some x -> MapAt V x l /\ v.heap.size <= x
 a : ∀ x,oa = some x -> Bk V x [.int .i64 2,.string ⟨#[]⟩,.bool false,.pointer none,pq n,.int .i32 0,.int .i64 0,.bool false,.pointer none,.bool false,.pointer none] /\ v.heap.size <= x
 b : ∀ x,ob = some x -> Bk V x [.int .i64 2,.string ⟨#[]⟩,.bool false,.pointer none,pq t1,.int .i32 0,.int .i64 0,.bool false,.pointer none,.bool false,.pointer none] /\ v.heap.size <= x
 d1 : ∀ x y,om = some x -> oa = some y -> x ≠ y
 d2 : ∀ x y,om = some x -> ob = some y -> x ≠ y
 d3 : ∀ x y,oa = some x -> ob = some y -> x ≠ y
section
variable {v V : World} {n t1 : Nat} {om oa ob : Option Nat} {l : List (Nm × Nat)}
theorem NW.map (h : NW v V n t1 none oa ob l) : NW v (V.alloc (.map #[] 0)) n t1 (some V.heap.size) oa ob [] := by
 have d := zh (zj V none) (.map #[] 0)
 exact ⟨h.s.trans (Sm.of_none d _),fun x e => by cases e; exact ⟨MapAt.new V,h.s.size⟩,fun x e => ⟨(h.a x e).1.kept d (by simp),(h.a x e).2⟩,fun x e => ⟨(h.b x e).1.kept d (by simp),(h.b x e).2⟩,
  fun x y e e2 => by cases e; have := (h.a y e2).1.lt; omega,fun x y e e2 => by cases e; have := (h.b y e2).1.lt; omega,h.d3⟩
theorem NW.int (h : NW v V n t1 om none ob l) : NW v (V.alloc (.cells #[.int .i64 2,.string ⟨#[]⟩,.bool false,.pointer none,pq n,.int .i32 0,.int .i64 0,.bool false,.pointer none,.bool false,.pointer none] 90)) n t1 om (some V.heap.size) ob l := by
 have d := zh (zj V none) (.cells #[.int .i64 2,.string ⟨#[]⟩,.bool false,.pointer none,pq n,.int .i32 0,.int .i64 0,.bool false,.pointer none,.bool false,.pointer none] 90)
 exact ⟨h.s.trans (Sm.of_none d _),fun x e => ⟨(h.m x e).1.kept d (by simp),(h.m x e).2⟩,fun x e => by cases e; exact ⟨Bk.new V _ _ rfl,h.s.size⟩,fun x e => ⟨(h.b x e).1.kept d (by simp),(h.b x e).2⟩,
  fun x y e e2 => by cases e2; have := (h.m x e).1.lt; omega,h.d2,fun x y e e2 => by cases e; have := (h.b y e2).1.lt; omega⟩
theorem NW.boo (h : NW v V n t1 om oa none l) : NW v (V.alloc (.cells #[.int .i64 2,.string ⟨#[]⟩,.bool false,.pointer none,pq t1,.int .i32 0,.int .i64 0,.bool false,.pointer none,.bool false,.pointer none] 90)) n t1 om oa (some V.heap.size) l := by
 have d := zh (zj V none) (.cells #[.int .i64 2,.string ⟨#[]⟩,.bool false,.pointer none,pq t1,.int .i32 0,.int .i64 0,.bool false,.pointer none,.bool false,.pointer none] 90)
 exact ⟨h.s.trans (Sm.of_none d _),fun x e => ⟨(h.m x e).1.kept d (by simp),(h.m x e).2⟩,fun x e => ⟨(h.a x e).1.kept d (by simp),(h.a x e).2⟩,fun x e => by cases e; exact ⟨Bk.new V _ _ rfl,h.s.size⟩,
  h.d1,fun x y e e2 => by cases e2; have := (h.m x e).1.lt; omega,fun x y e e2 => by cases e2; have := (h.a x e).1.lt; omega⟩
theorem NW.swap {mb ta tb : Nat} (h : NW v V n t1 (some mb) (some ta) (some tb) [(yO,tb),(yL,ta)]) : NW v V n t1 (some mb) (some ta) (some tb) [(yL,ta),(yO,tb)] := ⟨h.s,fun x e => ⟨nu (h.m x e).1,(h.m x e).2⟩,h.a,h.b,h.d1,h.d2,h.d3⟩
theorem NW.put {mb : Nat} (h : NW v V n t1 (some mb) oa ob l) (x : Nm) (q : Nat) (hx : x.length <= maxLen) (hl : l.length < maxLen) : ∃ V',(Instr.mapUpdate 77 (.map (some mb)) (.string ⟨x.toArray⟩) (pq q)).run Tryz.prog V = .ok () V' /\ NW v V' n t1 (some mb) oa ob ((x,q) :: l) := by
 obtain ⟨V',i,j,f⟩ := MapAt.put (h.m mb rfl).1 Tryz.underlying77 x hx q hl; have d : Sm V V' (fun g => g ≠ mb) := (Sm.grown f).mono (fun g _ h9 e => h9 (Option.some.inj e)); have k := (h.m mb rfl).2
 exact ⟨V',i,h.s.comp d (fun g f _ => by omega),fun x e => by cases e; exact ⟨j,k⟩,fun x e => ⟨(h.a x e).1.sm d (fun e2 => h.d1 mb x rfl e e2.symm),(h.a x e).2⟩,fun x e => ⟨(h.b x e).1.sm d (fun e2 => h.d2 mb x rfl e e2.symm),(h.b x e).2⟩,h.d1,h.d2,h.d3⟩
theorem NW.map' (h : NW v V n t1 none oa ob l) : ∃ z y,z = V.alloc (.map #[] 0) /\ y = V.heap.size /\ Hid (NW v z n t1 (some y) oa ob []) := ⟨_,_,rfl,rfl,h.map⟩
theorem NW.int' (h : NW v V n t1 om none ob l) : ∃ z y,z = V.alloc (.cells #[.int .i64 2,.string ⟨#[]⟩,.bool false,.pointer none,pq n,.int .i32 0,.int .i64 0,.bool false,.pointer none,.bool false,.pointer none] 90) /\ y = V.heap.size /\ Hid (NW v z n t1 om (some y) ob l) := ⟨_,_,rfl,rfl,h.int⟩
theorem NW.boo' (h : NW v V n t1 om oa none l) : ∃ z y,z = V.alloc (.cells #[.int .i64 2,.string ⟨#[]⟩,.bool false,.pointer none,pq t1,.int .i32 0,.int .i64 0,.bool false,.pointer none,.bool false,.pointer none] 90) /\ y = V.heap.size /\ Hid (NW v z n t1 om oa (some y) l) := ⟨_,_,rfl,rfl,h.boo⟩
theorem NW.putI {mb ta : Nat} (h : NW v V n t1 (some mb) oa ob l) (hl : l.length < maxLen) : ∃ V',(Instr.mapUpdate 77 (.map (some mb)) (.string ⟨#[73,78,84,69,71,69,82]⟩) (pq ta)).run Tryz.prog V = .ok () V' /\ Hid (NW v V' n t1 (some mb) oa ob ((yL,ta) :: l)) := h.put yL ta (by decide) hl
theorem NW.putB {mb ta : Nat} (h : NW v V n t1 (some mb) oa ob l) (hl : l.length < maxLen) : ∃ V',(Instr.mapUpdate 77 (.map (some mb)) (.string ⟨#[66,79,79,76,69,65,78]⟩) (pq ta)).run Tryz.prog V = .ok () V' /\ Hid (NW v V' n t1 (some mb) oa ob ((yO,ta) :: l)) := h.put yO ta (by decide) hl
theorem NW.sS (h : NW v V n t1 om oa ob l) {wd : Nat} {x y : Value} (l0 : v.cell? ⟨wd,0,none⟩ = some x) (l1 : v.cell? ⟨wd,1,none⟩ = some y) : V.cell? ⟨wd,0,none⟩ = some x /\ V.cell? ⟨wd,1,none⟩ = some y /\ Sm v V (fun g => g ≠ wd) := ⟨h.s.cell l0 trivial,h.s.cell l1 trivial,h.s.mono (fun _ _ _ => trivial)⟩
theorem NW.sE (h : NW v V n t1 om oa ob l) {wd : Nat} {x y z c : Value} {r : List Value} (hb : Bk v wd (x :: y :: z :: c :: r)) (u : Value) : (V.setCell ⟨wd,3,none⟩ u).cell? ⟨wd,0,none⟩ = some x /\ (V.setCell ⟨wd,3,none⟩ u).cell? ⟨wd,1,none⟩ = some y /\ Sm v (V.setCell ⟨wd,3,none⟩ u) (fun g => g ≠ wd) :=
 have k := (hb.sm h.s trivial).set 3 u
 ⟨k.c 0 _ rfl,k.c 1 _ rfl,(h.s.mono (fun _ _ _ => trivial)).put (fun h9 => h9 rfl) _ _⟩
end
theorem dt  :
  Calls Tryz.prog 25 #[] w (fun e w' => ∃ ρ : Lay,e = .returned (pq ρ.wd) /\ KM ρ w' ks0 /\ (∀ g,g < w.heap.size -> ρ.col g = none) /\ w.grownBy w' none) := by
 have a3 := @run_makeMap Tryz.prog
 go_enter Tryz.func25,Tryz.ntmps25
 go_wp2_with fail; obtain ⟨n,X⟩ : ∃ z,z = w.heap.size := ⟨_,rfl⟩; rw [<- X]; obtain ⟨t1,N⟩ : ∃ z,z = n + 1 := ⟨_,rfl⟩; rw [<- N]; obtain ⟨K,h⟩ : ∃ z,z = t1 + 1 := ⟨_,rfl⟩; rw [<- h]; obtain ⟨L,k⟩ : ∃ z,z = K + 1 := ⟨_,rfl⟩; rw [<- k]; obtain ⟨wd,O⟩ : ∃ z,z = L + 1 := ⟨_,rfl⟩; rw [<- O]; obtain ⟨Q,G⟩ : ∃ z,z = w.alloc (.cells #[.int .i64 0,.string ⟨#[73,78,84,69,71,69,82]⟩,.pointer none,.int .i64 1,.int .i64 0,.pointer none,.slice none 0 0,.bool true] 54) := ⟨_,rfl⟩; rw [<- G]; obtain ⟨Y,I⟩ : ∃ z,z = Q.alloc (.cells #[.int .i64 1,.string ⟨#[66,79,79,76,69,65,78]⟩,.pointer none,.int .i64 1,.int .i64 0,.pointer none,.slice none 0 0,.bool true] 54) := ⟨_,rfl⟩; rw [<- I]; obtain ⟨Z,F⟩ : ∃ z,z = Y.alloc (.cells #[.int .i64 2,.string ⟨#[]⟩,.pointer none,.int .i64 0,.int .i64 0,.pointer none,.slice none 0 0,.bool false] 54) := ⟨_,rfl⟩; rw [<- F]; obtain ⟨v4,C⟩ : ∃ z,z = Z.alloc (.map #[] 0) := ⟨_,rfl⟩; rw [<- C]; obtain ⟨x,B⟩ : ∃ z,z = v4.alloc (.cells #[pq n,pq t1,pq K,.map none,.map (some L)] 98) := ⟨_,rfl⟩; rw [<- B]
 have z0 : w.heap.size = n := by rw [X]
 have G1 : Q.grownBy x none := by rw [B,C,F,I]; exact zh (zh (zh gan _) _) _
 have z1 : Q.heap.size = t1 := by rw [G,N]; simp [z0]
 have G2 : Y.grownBy x none := by rw [B,C,F]; exact zh (zh gan _) _
 have z2 : Y.heap.size = K := by rw [I,h]; simp [z1]
 have G3 : Z.grownBy x none := by rw [B,C]; exact zh gan _
 have z3 : Z.heap.size = L := by rw [F,k]; simp [z2]
 have G4 : v4.grownBy x none := by rw [B]; exact zh grn _
 have z4 : v4.heap.size = wd := by rw [C,O]; simp [z3]
 have G5 : x.grownBy x none := zj x none
 have B0 : Hid (Bk x n [.int .i64 0,.string ⟨#[73,78,84,69,71,69,82]⟩,.pointer none,.int .i64 1,.int .i64 0,.pointer none,.slice none 0 0,.bool true]) := by
  have A := Bk.new w #[.int .i64 0,.string ⟨#[73,78,84,69,71,69,82]⟩,.pointer none,.int .i64 1,.int .i64 0,.pointer none,.slice none 0 0,.bool true] 54 (vs := [.int .i64 0,.string ⟨#[73,78,84,69,71,69,82]⟩,.pointer none,.int .i64 1,.int .i64 0,.pointer none,.slice none 0 0,.bool true]) rfl; rw [<- G,z0] at A
  exact A.kept G1 (by simp)
 have B1 : Hid (Bk x t1 [.int .i64 1,.string ⟨#[66,79,79,76,69,65,78]⟩,.pointer none,.int .i64 1,.int .i64 0,.pointer none,.slice none 0 0,.bool true]) := by
  have A := Bk.new Q #[.int .i64 1,.string ⟨#[66,79,79,76,69,65,78]⟩,.pointer none,.int .i64 1,.int .i64 0,.pointer none,.slice none 0 0,.bool true] 54 (vs := [.int .i64 1,.string ⟨#[66,79,79,76,69,65,78]⟩,.pointer none,.int .i64 1,.int .i64 0,.pointer none,.slice none 0 0,.bool true]) rfl; rw [<- I,z1] at A
  exact A.kept G2 (by simp)
 have B2 : Hid (Bk x K [.int .i64 2,.string ⟨#[]⟩,.pointer none,.int .i64 0,.int .i64 0,.pointer none,.slice none 0 0,.bool false]) := by
  have A := Bk.new Y #[.int .i64 2,.string ⟨#[]⟩,.pointer none,.int .i64 0,.int .i64 0,.pointer none,.slice none 0 0,.bool false] 54 (vs := [.int .i64 2,.string ⟨#[]⟩,.pointer none,.int .i64 0,.int .i64 0,.pointer none,.slice none 0 0,.bool false]) rfl; rw [<- F,z2] at A
  exact A.kept G3 (by simp)
 have o : Hid (Bk x wd [pq n,pq t1,pq K,.map none,.map (some L)]) := by
  have A := Bk.new v4 #[pq n,pq t1,pq K,.map none,.map (some L)] 98 (vs := [pq n,pq t1,pq K,.map none,.map (some L)]) rfl; rw [<- B,z4] at A
  exact A.kept G5 (by simp)
 have B3 : Hid (MapAt x L []) := by
  have A := MapAt.new Z; rw [<- C,z3] at A
  exact A.kept G4 (by simp)
 have GW : Hid (w.grownBy x none) := by
  have A : w.grownBy Q none := by rw [G]; exact zh grn _
  exact za A G1
 have z5 : n + 5 <= x.heap.size := by rw [B]; simp; omega
 have HE : Hid (t1 = n + 1 /\ K = n + 2 /\ L = n + 3 /\ wd = n + 4 /\ n = w.heap.size) := ⟨N,by omega,by omega,by omega,X⟩; have i : Hid (x.cell? ⟨wd,0,none⟩ = some (pq n)) := o.out.c 0 _ rfl; have j : Hid (x.cell? ⟨wd,1,none⟩ = some (pq t1)) := o.out.c 1 _ rfl; have m0 : Hid (x.cell? ⟨n,1,none⟩ = some (.string ⟨#[73,78,84,69,71,69,82]⟩)) := B0.out.c 1 _ rfl; have m1 : Hid (x.cell? ⟨t1,1,none⟩ = some (.string ⟨#[66,79,79,76,69,65,78]⟩)) := B1.out.c 1 _ rfl
 have a0 : n ≠ wd := by omega
 have a2 : t1 ≠ wd := by omega
 clear G I F C B z0 z1 z2 z3 z4 G1 G2 G3 G4 G5 N h k O X
 have q : Hid (∀ V t ta u,NW x V n t1 (some t) (some ta) (some u) [(yL,ta),(yO,u)] -> ∃ ρ : Lay,Ending.returned (pq wd) = .returned (pq ρ.wd) /\ KM ρ (V.setCell ⟨wd,3,none⟩ (.map (some t))) ks0 /\ (∀ g,g < w.heap.size -> ρ.col g = none) /\ w.grownBy (V.setCell ⟨wd,3,none⟩ (.map (some t))) none) := fun V t ta u H => by
  obtain ⟨N,h,k,O,_⟩ := HE.out; have M : Sm V (V.setCell ⟨wd,3,none⟩ (.map (some t))) (fun g => g ≠ wd) := (Sm.refl V _).put (fun A => A rfl) _ _; obtain ⟨m1,_⟩ := H.m t rfl; obtain ⟨a1,_⟩ := H.a ta rfl; obtain ⟨b1,_⟩ := H.b u rfl; obtain ⟨ρ,r1,r2,r3⟩ := km0 N h k O (by omega) (by omega) (by omega) (H.d1 t ta rfl rfl) (H.d2 t u rfl rfl) (H.d3 ta u rfl rfl) ((B0.out.sm H.s trivial).sm M (by omega)) ((B1.out.sm H.s trivial).sm M (by omega)) ((B2.out.sm H.s trivial).sm M (by omega)) ((B3.out.sm H.s trivial).sm M (by omega)) ((o.out.sm H.s trivial).set 3 _) (m1.sm M (by omega)) (a1.sm M (by omega)) (b1.sm M (by omega)); refine ⟨ρ,by rw [r1],r2,fun g hg => r3 g (by omega),?_⟩
  exact (((Sm.of_none GW.out (fun _ => True)).trans H.s).comp M (fun g hg _ => by omega)).gb
 skip
 refine wp_region_held_drew (S := fun w9 => w9.cell? ⟨wd,0,none⟩ = some (pq n) /\ w9.cell? ⟨wd,1,none⟩ = some (pq t1) /\ Sm x w9 (fun g => g ≠ wd)) (by kernel_rfl) ?_ (fun hHeld => ?_)
 ·exact ⟨(o.out.drew).c 0 _ rfl,(o.out.drew).c 1 _ rfl,(Sm.refl x _).drew⟩
 refine kQ 0 11 (pq wd) hHeld ?_; refine kQ 2 13 (pq wd) hHeld ?_; refine kQ 3 14 (pq wd) hHeld ?_; refine kQ 4 15 (pq wd) hHeld ?_; refine dk 5 (some 16) (pq n) rfl rfl (fun w9 hS => by have d := hS.1; go_simp) hHeld ?_; refine kQ 6 17 (pq n) hHeld ?_; refine kQ 7 18 (.pointer (some ⟨n,1,none⟩)) hHeld ?_; refine dk 8 (some 19) (.string ⟨#[73,78,84,69,71,69,82]⟩) rfl rfl (fun w9 hS => by have d := hS.2.2.cell m0.out a0; go_simp) hHeld ?_; refine kQ 9 20 (pq wd) hHeld ?_; refine kQ 10 21 (pq wd) hHeld ?_; refine kQ 11 22 (pq wd) hHeld ?_; refine dk 12 (some 23) (pq n) rfl rfl (fun w9 hS => by have d := hS.1; go_simp) hHeld ?_; refine kQ 13 24 (.agg #[.int .i64 2,.string ⟨#[]⟩,.bool false,.pointer none,pq n,.int .i32 0,.int .i64 0,.bool false,.pointer none,.bool false,.pointer none]) hHeld ?_; refine kQ 16 26 (pq wd) hHeld ?_; refine kQ 17 27 (pq wd) hHeld ?_; refine kQ 18 28 (.pointer (some ⟨wd,1,none⟩)) hHeld ?_; refine dk 19 (some 29) (pq t1) rfl rfl (fun w9 hS => by have d := hS.2.1; go_simp) hHeld ?_; refine kQ 20 30 (pq t1) hHeld ?_; refine kQ 21 31 (.pointer (some ⟨t1,1,none⟩)) hHeld ?_; refine dk 22 (some 32) (.string ⟨#[66,79,79,76,69,65,78]⟩) rfl rfl (fun w9 hS => by have d := hS.2.2.cell m1.out a2; go_simp) hHeld ?_; refine kQ 23 33 (pq wd) hHeld ?_; refine kQ 24 34 (pq wd) hHeld ?_; refine kQ 25 35 (.pointer (some ⟨wd,1,none⟩)) hHeld ?_; refine dk 26 (some 36) (pq t1) rfl rfl (fun w9 hS => by have d := hS.2.1; go_simp) hHeld ?_; refine kQ 27 37 (.agg #[.int .i64 2,.string ⟨#[]⟩,.bool false,.pointer none,pq t1,.int .i32 0,.int .i64 0,.bool false,.pointer none,.bool false,.pointer none]) hHeld ?_; simp only [qA,qB,qC,qD]; obtain ⟨V0,R,H⟩ : ∃ z,z = x.drew /\ Hid (NW x z n t1 none none none []) := ⟨_,rfl,(Sm.refl x _).drew,nofun,nofun,nofun,nofun,nofun,nofun⟩; rw [<- R] at hHeld ⊢; clear R; refine wpAnyH_ready (rs := [1,14,28]) (by kernel_rfl) (by simp) (AllReadyH.cons rfl (fun KK hKK => ?_) (AllReadyH.cons rfl (fun KK hKK => ?_) (AllReadyH.cons rfl (fun KK hKK => ?_) AllReadyH.nil)))
 ·obtain ⟨V1,t,e,h,H⟩ := H.out.map'
  go_simp
  rw [<- e,<- h]; refine hKK.out _ _ (H.out.sS i.out j.out) (fun hHeld => ?_); clear hKK KK e h; refine wpAnyH_ready (rs := [14,28]) (by kernel_rfl) (by simp) (AllReadyH.cons rfl (fun KK hKK => ?_) (AllReadyH.cons rfl (fun KK hKK => ?_) AllReadyH.nil))
  ·obtain ⟨U,ta,e,h,H⟩ := H.out.int'
   go_simp
   rw [<- e,<- h]; refine hKK.out _ _ (H.out.sS i.out j.out) (fun hHeld => ?_); clear hKK KK e h; refine wpAnyH_ready (rs := [15,28]) (by kernel_rfl) (by simp) (AllReadyH.cons rfl (fun KK hKK => ?_) (AllReadyH.cons rfl (fun KK hKK => ?_) AllReadyH.nil))
   ·obtain ⟨J,d,H⟩ := H.out.putI (ta := ta) (by simp [maxLen])
    go_simp
    refine hKK.out _ _ (H.out.sS i.out j.out) (fun hHeld => ?_); clear hKK KK d; refine wpAnyH_ready (rs := [28]) (by kernel_rfl) (by simp) (AllReadyH.cons rfl (fun KK hKK => ?_) AllReadyH.nil)
    ·obtain ⟨D,u,e,h,H⟩ := H.out.boo'
     go_simp
     rw [<- e,<- h]; refine hKK.out _ _ (H.out.sS i.out j.out) (fun hHeld => ?_); clear hKK KK e h; refine wpAnyH_ready (rs := [29]) (by kernel_rfl) (by simp) (AllReadyH.cons rfl (fun KK hKK => ?_) AllReadyH.nil)
     ·obtain ⟨E,d,H⟩ := H.out.putB (ta := u) (by simp [maxLen])
      go_simp
      refine hKK.out _ _ (H.out.sS i.out j.out) (fun hHeld => ?_); clear hKK KK d; refine kQ 30 39 (.map (some t)) hHeld ?_; refine kQ 31 40 (pq wd) hHeld ?_; refine kQ 32 41 (.pointer (some ⟨wd,3,none⟩)) hHeld ?_; simp only [qA,qB,qC,qD]; have f := o.out.sm H.out.s trivial; have k := f.c 3 _ rfl; have r := f.z; refine rd 33 rfl fun KK hKK => ?_
      go_simp
      refine hKK.out _ _ (H.out.sE o.out _) (fun hHeld => ?_); clear hKK KK k r f; refine wpAnyH_done (by kernel_rfl) ?_ _; go_wp2
      go_ret
      exact q.out _ _ _ _ H.out.swap
   ·obtain ⟨J,u,e,h,H⟩ := H.out.boo'
    go_simp
    rw [<- e,<- h]; refine hKK.out _ _ (H.out.sS i.out j.out) (fun hHeld => ?_); clear hKK KK e h; refine wpAnyH_ready (rs := [15,29]) (by kernel_rfl) (by simp) (AllReadyH.cons rfl (fun KK hKK => ?_) (AllReadyH.cons rfl (fun KK hKK => ?_) AllReadyH.nil))
    ·obtain ⟨D,d,H⟩ := H.out.putI (ta := ta) (by simp [maxLen])
     go_simp
     refine hKK.out _ _ (H.out.sS i.out j.out) (fun hHeld => ?_); clear hKK KK d; refine wpAnyH_ready (rs := [29]) (by kernel_rfl) (by simp) (AllReadyH.cons rfl (fun KK hKK => ?_) AllReadyH.nil)
     ·obtain ⟨E,d,H⟩ := H.out.putB (ta := u) (by simp [maxLen])
      go_simp
      refine hKK.out _ _ (H.out.sS i.out j.out) (fun hHeld => ?_); clear hKK KK d; refine kQ 30 39 (.map (some t)) hHeld ?_; refine kQ 31 40 (pq wd) hHeld ?_; refine kQ 32 41 (.pointer (some ⟨wd,3,none⟩)) hHeld ?_; simp only [qA,qB,qC,qD]; have f := o.out.sm H.out.s trivial; have k := f.c 3 _ rfl; have r := f.z; refine rd 33 rfl fun KK hKK => ?_
      go_simp
      refine hKK.out _ _ (H.out.sE o.out _) (fun hHeld => ?_); clear hKK KK k r f; refine wpAnyH_done (by kernel_rfl) ?_ _; go_wp2
      go_ret
      exact q.out _ _ _ _ H.out.swap
    ·obtain ⟨D,d,H⟩ := H.out.putB (ta := u) (by simp [maxLen])
     go_simp
     refine hKK.out _ _ (H.out.sS i.out j.out) (fun hHeld => ?_); clear hKK KK d; refine wpAnyH_ready (rs := [15]) (by kernel_rfl) (by simp) (AllReadyH.cons rfl (fun KK hKK => ?_) AllReadyH.nil)
     ·obtain ⟨E,d,H⟩ := H.out.putI (ta := ta) (by simp [maxLen])
      go_simp
      refine hKK.out _ _ (H.out.sS i.out j.out) (fun hHeld => ?_); clear hKK KK d; refine kQ 30 39 (.map (some t)) hHeld ?_; refine kQ 31 40 (pq wd) hHeld ?_; refine kQ 32 41 (.pointer (some ⟨wd,3,none⟩)) hHeld ?_; simp only [qA,qB,qC,qD]; have f := o.out.sm H.out.s trivial; have k := f.c 3 _ rfl; have r := f.z; refine rd 33 rfl fun KK hKK => ?_
      go_simp
      refine hKK.out _ _ (H.out.sE o.out _) (fun hHeld => ?_); clear hKK KK k r f; refine wpAnyH_done (by kernel_rfl) ?_ _; go_wp2
      go_ret
      exact q.out _ _ _ _ H.out
  ·obtain ⟨U,u,e,h,H⟩ := H.out.boo'
   go_simp
   rw [<- e,<- h]; refine hKK.out _ _ (H.out.sS i.out j.out) (fun hHeld => ?_); clear hKK KK e h; refine wpAnyH_ready (rs := [14,29]) (by kernel_rfl) (by simp) (AllReadyH.cons rfl (fun KK hKK => ?_) (AllReadyH.cons rfl (fun KK hKK => ?_) AllReadyH.nil))
   ·obtain ⟨J,ta,e,h,H⟩ := H.out.int'
    go_simp
    rw [<- e,<- h]; refine hKK.out _ _ (H.out.sS i.out j.out) (fun hHeld => ?_); clear hKK KK e h; refine wpAnyH_ready (rs := [15,29]) (by kernel_rfl) (by simp) (AllReadyH.cons rfl (fun KK hKK => ?_) (AllReadyH.cons rfl (fun KK hKK => ?_) AllReadyH.nil))
    ·obtain ⟨D,d,H⟩ := H.out.putI (ta := ta) (by simp [maxLen])
     go_simp
     refine hKK.out _ _ (H.out.sS i.out j.out) (fun hHeld => ?_); clear hKK KK d; refine wpAnyH_ready (rs := [29]) (by kernel_rfl) (by simp) (AllReadyH.cons rfl (fun KK hKK => ?_) AllReadyH.nil)
     ·obtain ⟨E,d,H⟩ := H.out.putB (ta := u) (by simp [maxLen])
      go_simp
      refine hKK.out _ _ (H.out.sS i.out j.out) (fun hHeld => ?_); clear hKK KK d; refine kQ 30 39 (.map (some t)) hHeld ?_; refine kQ 31 40 (pq wd) hHeld ?_; refine kQ 32 41 (.pointer (some ⟨wd,3,none⟩)) hHeld ?_; simp only [qA,qB,qC,qD]; have f := o.out.sm H.out.s trivial; have k := f.c 3 _ rfl; have r := f.z; refine rd 33 rfl fun KK hKK => ?_
      go_simp
      refine hKK.out _ _ (H.out.sE o.out _) (fun hHeld => ?_); clear hKK KK k r f; refine wpAnyH_done (by kernel_rfl) ?_ _; go_wp2
      go_ret
      exact q.out _ _ _ _ H.out.swap
    ·obtain ⟨D,d,H⟩ := H.out.putB (ta := u) (by simp [maxLen])
     go_simp
     refine hKK.out _ _ (H.out.sS i.out j.out) (fun hHeld => ?_); clear hKK KK d; refine wpAnyH_ready (rs := [15]) (by kernel_rfl) (by simp) (AllReadyH.cons rfl (fun KK hKK => ?_) AllReadyH.nil)
     ·obtain ⟨E,d,H⟩ := H.out.putI (ta := ta) (by simp [maxLen])
      go_simp
      refine hKK.out _ _ (H.out.sS i.out j.out) (fun hHeld => ?_); clear hKK KK d; refine kQ 30 39 (.map (some t)) hHeld ?_; refine kQ 31 40 (pq wd) hHeld ?_; refine kQ 32 41 (.pointer (some ⟨wd,3,none⟩)) hHeld ?_; simp only [qA,qB,qC,qD]; have f := o.out.sm H.out.s trivial; have k := f.c 3 _ rfl; have r := f.z; refine rd 33 rfl fun KK hKK => ?_
      go_simp
      refine hKK.out _ _ (H.out.sE o.out _) (fun hHeld => ?_); clear hKK KK k r f; refine wpAnyH_done (by kernel_rfl) ?_ _; go_wp2
      go_ret
      exact q.out _ _ _ _ H.out
   ·obtain ⟨J,d,H⟩ := H.out.putB (ta := u) (by simp [maxLen])
    go_simp
    refine hKK.out _ _ (H.out.sS i.out j.out) (fun hHeld => ?_); clear hKK KK d; refine wpAnyH_ready (rs := [14]) (by kernel_rfl) (by simp) (AllReadyH.cons rfl (fun KK hKK => ?_) AllReadyH.nil)
    ·obtain ⟨D,ta,e,h,H⟩ := H.out.int'
     go_simp
     rw [<- e,<- h]; refine hKK.out _ _ (H.out.sS i.out j.out) (fun hHeld => ?_); clear hKK KK e h; refine wpAnyH_ready (rs := [15]) (by kernel_rfl) (by simp) (AllReadyH.cons rfl (fun KK hKK => ?_) AllReadyH.nil)
     ·obtain ⟨E,d,H⟩ := H.out.putI (ta := ta) (by simp [maxLen])
      go_simp
      refine hKK.out _ _ (H.out.sS i.out j.out) (fun hHeld => ?_); clear hKK KK d; refine kQ 30 39 (.map (some t)) hHeld ?_; refine kQ 31 40 (pq wd) hHeld ?_; refine kQ 32 41 (.pointer (some ⟨wd,3,none⟩)) hHeld ?_; simp only [qA,qB,qC,qD]; have f := o.out.sm H.out.s trivial; have k := f.c 3 _ rfl; have r := f.z; refine rd 33 rfl fun KK hKK => ?_
      go_simp
      refine hKK.out _ _ (H.out.sE o.out _) (fun hHeld => ?_); clear hKK KK k r f; refine wpAnyH_done (by kernel_rfl) ?_ _; go_wp2
      go_ret
      exact q.out _ _ _ _ H.out
 ·obtain ⟨V1,ta,e,h,H⟩ := H.out.int'
  go_simp
  rw [<- e,<- h]; refine hKK.out _ _ (H.out.sS i.out j.out) (fun hHeld => ?_); clear hKK KK e h; refine wpAnyH_ready (rs := [1,28]) (by kernel_rfl) (by simp) (AllReadyH.cons rfl (fun KK hKK => ?_) (AllReadyH.cons rfl (fun KK hKK => ?_) AllReadyH.nil))
  ·obtain ⟨U,t,e,h,H⟩ := H.out.map'
   go_simp
   rw [<- e,<- h]; refine hKK.out _ _ (H.out.sS i.out j.out) (fun hHeld => ?_); clear hKK KK e h; refine wpAnyH_ready (rs := [15,28]) (by kernel_rfl) (by simp) (AllReadyH.cons rfl (fun KK hKK => ?_) (AllReadyH.cons rfl (fun KK hKK => ?_) AllReadyH.nil))
   ·obtain ⟨J,d,H⟩ := H.out.putI (ta := ta) (by simp [maxLen])
    go_simp
    refine hKK.out _ _ (H.out.sS i.out j.out) (fun hHeld => ?_); clear hKK KK d; refine wpAnyH_ready (rs := [28]) (by kernel_rfl) (by simp) (AllReadyH.cons rfl (fun KK hKK => ?_) AllReadyH.nil)
    ·obtain ⟨D,u,e,h,H⟩ := H.out.boo'
     go_simp
     rw [<- e,<- h]; refine hKK.out _ _ (H.out.sS i.out j.out) (fun hHeld => ?_); clear hKK KK e h; refine wpAnyH_ready (rs := [29]) (by kernel_rfl) (by simp) (AllReadyH.cons rfl (fun KK hKK => ?_) AllReadyH.nil)
     ·obtain ⟨E,d,H⟩ := H.out.putB (ta := u) (by simp [maxLen])
      go_simp
      refine hKK.out _ _ (H.out.sS i.out j.out) (fun hHeld => ?_); clear hKK KK d; refine kQ 30 39 (.map (some t)) hHeld ?_; refine kQ 31 40 (pq wd) hHeld ?_; refine kQ 32 41 (.pointer (some ⟨wd,3,none⟩)) hHeld ?_; simp only [qA,qB,qC,qD]; have f := o.out.sm H.out.s trivial; have k := f.c 3 _ rfl; have r := f.z; refine rd 33 rfl fun KK hKK => ?_
      go_simp
      refine hKK.out _ _ (H.out.sE o.out _) (fun hHeld => ?_); clear hKK KK k r f; refine wpAnyH_done (by kernel_rfl) ?_ _; go_wp2
      go_ret
      exact q.out _ _ _ _ H.out.swap
   ·obtain ⟨J,u,e,h,H⟩ := H.out.boo'
    go_simp
    rw [<- e,<- h]; refine hKK.out _ _ (H.out.sS i.out j.out) (fun hHeld => ?_); clear hKK KK e h; refine wpAnyH_ready (rs := [15,29]) (by kernel_rfl) (by simp) (AllReadyH.cons rfl (fun KK hKK => ?_) (AllReadyH.cons rfl (fun KK hKK => ?_) AllReadyH.nil))
    ·obtain ⟨D,d,H⟩ := H.out.putI (ta := ta) (by simp [maxLen])
     go_simp
     refine hKK.out _ _ (H.out.sS i.out j.out) (fun hHeld => ?_); clear hKK KK d; refine wpAnyH_ready (rs := [29]) (by kernel_rfl) (by simp) (AllReadyH.cons rfl (fun KK hKK => ?_) AllReadyH.nil)
     ·obtain ⟨E,d,H⟩ := H.out.putB (ta := u) (by simp [maxLen])
      go_simp
      refine hKK.out _ _ (H.out.sS i.out j.out) (fun hHeld => ?_); clear hKK KK d; refine kQ 30 39 (.map (some t)) hHeld ?_; refine kQ 31 40 (pq wd) hHeld ?_; refine kQ 32 41 (.pointer (some ⟨wd,3,none⟩)) hHeld ?_; simp only [qA,qB,qC,qD]; have f := o.out.sm H.out.s trivial; have k := f.c 3 _ rfl; have r := f.z; refine rd 33 rfl fun KK hKK => ?_
      go_simp
      refine hKK.out _ _ (H.out.sE o.out _) (fun hHeld => ?_); clear hKK KK k r f; refine wpAnyH_done (by kernel_rfl) ?_ _; go_wp2
      go_ret
      exact q.out _ _ _ _ H.out.swap
    ·obtain ⟨D,d,H⟩ := H.out.putB (ta := u) (by simp [maxLen])
     go_simp
     refine hKK.out _ _ (H.out.sS i.out j.out) (fun hHeld => ?_); clear hKK KK d; refine wpAnyH_ready (rs := [15]) (by kernel_rfl) (by simp) (AllReadyH.cons rfl (fun KK hKK => ?_) AllReadyH.nil)
     ·obtain ⟨E,d,H⟩ := H.out.putI (ta := ta) (by simp [maxLen])
      go_simp
      refine hKK.out _ _ (H.out.sS i.out j.out) (fun hHeld => ?_); clear hKK KK d; refine kQ 30 39 (.map (some t)) hHeld ?_; refine kQ 31 40 (pq wd) hHeld ?_; refine kQ 32 41 (.pointer (some ⟨wd,3,none⟩)) hHeld ?_; simp only [qA,qB,qC,qD]; have f := o.out.sm H.out.s trivial; have k := f.c 3 _ rfl; have r := f.z; refine rd 33 rfl fun KK hKK => ?_
      go_simp
      refine hKK.out _ _ (H.out.sE o.out _) (fun hHeld => ?_); clear hKK KK k r f; refine wpAnyH_done (by kernel_rfl) ?_ _; go_wp2
      go_ret
      exact q.out _ _ _ _ H.out
  ·obtain ⟨U,u,e,h,H⟩ := H.out.boo'
   go_simp
   rw [<- e,<- h]; refine hKK.out _ _ (H.out.sS i.out j.out) (fun hHeld => ?_); clear hKK KK e h; refine wpAnyH_ready (rs := [1]) (by kernel_rfl) (by simp) (AllReadyH.cons rfl (fun KK hKK => ?_) AllReadyH.nil)
   ·obtain ⟨J,t,e,h,H⟩ := H.out.map'
    go_simp
    rw [<- e,<- h]; refine hKK.out _ _ (H.out.sS i.out j.out) (fun hHeld => ?_); clear hKK KK e h; refine wpAnyH_ready (rs := [15,29]) (by kernel_rfl) (by simp) (AllReadyH.cons rfl (fun KK hKK => ?_) (AllReadyH.cons rfl (fun KK hKK => ?_) AllReadyH.nil))
    ·obtain ⟨D,d,H⟩ := H.out.putI (ta := ta) (by simp [maxLen])
     go_simp
     refine hKK.out _ _ (H.out.sS i.out j.out) (fun hHeld => ?_); clear hKK KK d; refine wpAnyH_ready (rs := [29]) (by kernel_rfl) (by simp) (AllReadyH.cons rfl (fun KK hKK => ?_) AllReadyH.nil)
     ·obtain ⟨E,d,H⟩ := H.out.putB (ta := u) (by simp [maxLen])
      go_simp
      refine hKK.out _ _ (H.out.sS i.out j.out) (fun hHeld => ?_); clear hKK KK d; refine kQ 30 39 (.map (some t)) hHeld ?_; refine kQ 31 40 (pq wd) hHeld ?_; refine kQ 32 41 (.pointer (some ⟨wd,3,none⟩)) hHeld ?_; simp only [qA,qB,qC,qD]; have f := o.out.sm H.out.s trivial; have k := f.c 3 _ rfl; have r := f.z; refine rd 33 rfl fun KK hKK => ?_
      go_simp
      refine hKK.out _ _ (H.out.sE o.out _) (fun hHeld => ?_); clear hKK KK k r f; refine wpAnyH_done (by kernel_rfl) ?_ _; go_wp2
      go_ret
      exact q.out _ _ _ _ H.out.swap
    ·obtain ⟨D,d,H⟩ := H.out.putB (ta := u) (by simp [maxLen])
     go_simp
     refine hKK.out _ _ (H.out.sS i.out j.out) (fun hHeld => ?_); clear hKK KK d; refine wpAnyH_ready (rs := [15]) (by kernel_rfl) (by simp) (AllReadyH.cons rfl (fun KK hKK => ?_) AllReadyH.nil)
     ·obtain ⟨E,d,H⟩ := H.out.putI (ta := ta) (by simp [maxLen])
      go_simp
      refine hKK.out _ _ (H.out.sS i.out j.out) (fun hHeld => ?_); clear hKK KK d; refine kQ 30 39 (.map (some t)) hHeld ?_; refine kQ 31 40 (pq wd) hHeld ?_; refine kQ 32 41 (.pointer (some ⟨wd,3,none⟩)) hHeld ?_; simp only [qA,qB,qC,qD]; have f := o.out.sm H.out.s trivial; have k := f.c 3 _ rfl; have r := f.z; refine rd 33 rfl fun KK hKK => ?_
      go_simp
      refine hKK.out _ _ (H.out.sE o.out _) (fun hHeld => ?_); clear hKK KK k r f; refine wpAnyH_done (by kernel_rfl) ?_ _; go_wp2
      go_ret
      exact q.out _ _ _ _ H.out
 ·obtain ⟨V1,u,e,h,H⟩ := H.out.boo'
  go_simp
  rw [<- e,<- h]; refine hKK.out _ _ (H.out.sS i.out j.out) (fun hHeld => ?_); clear hKK KK e h; refine wpAnyH_ready (rs := [1,14]) (by kernel_rfl) (by simp) (AllReadyH.cons rfl (fun KK hKK => ?_) (AllReadyH.cons rfl (fun KK hKK => ?_) AllReadyH.nil))
  ·obtain ⟨U,t,e,h,H⟩ := H.out.map'
   go_simp
   rw [<- e,<- h]; refine hKK.out _ _ (H.out.sS i.out j.out) (fun hHeld => ?_); clear hKK KK e h; refine wpAnyH_ready (rs := [14,29]) (by kernel_rfl) (by simp) (AllReadyH.cons rfl (fun KK hKK => ?_) (AllReadyH.cons rfl (fun KK hKK => ?_) AllReadyH.nil))
   ·obtain ⟨J,ta,e,h,H⟩ := H.out.int'
    go_simp
    rw [<- e,<- h]; refine hKK.out _ _ (H.out.sS i.out j.out) (fun hHeld => ?_); clear hKK KK e h; refine wpAnyH_ready (rs := [15,29]) (by kernel_rfl) (by simp) (AllReadyH.cons rfl (fun KK hKK => ?_) (AllReadyH.cons rfl (fun KK hKK => ?_) AllReadyH.nil))
    ·obtain ⟨D,d,H⟩ := H.out.putI (ta := ta) (by simp [maxLen])
     go_simp
     refine hKK.out _ _ (H.out.sS i.out j.out) (fun hHeld => ?_); clear hKK KK d; refine wpAnyH_ready (rs := [29]) (by kernel_rfl) (by simp) (AllReadyH.cons rfl (fun KK hKK => ?_) AllReadyH.nil)
     ·obtain ⟨E,d,H⟩ := H.out.putB (ta := u) (by simp [maxLen])
      go_simp
      refine hKK.out _ _ (H.out.sS i.out j.out) (fun hHeld => ?_); clear hKK KK d; refine kQ 30 39 (.map (some t)) hHeld ?_; refine kQ 31 40 (pq wd) hHeld ?_; refine kQ 32 41 (.pointer (some ⟨wd,3,none⟩)) hHeld ?_; simp only [qA,qB,qC,qD]; have f := o.out.sm H.out.s trivial; have k := f.c 3 _ rfl; have r := f.z; refine rd 33 rfl fun KK hKK => ?_
      go_simp
      refine hKK.out _ _ (H.out.sE o.out _) (fun hHeld => ?_); clear hKK KK k r f; refine wpAnyH_done (by kernel_rfl) ?_ _; go_wp2
      go_ret
      exact q.out _ _ _ _ H.out.swap
    ·obtain ⟨D,d,H⟩ := H.out.putB (ta := u) (by simp [maxLen])
     go_simp
     refine hKK.out _ _ (H.out.sS i.out j.out) (fun hHeld => ?_); clear hKK KK d; refine wpAnyH_ready (rs := [15]) (by kernel_rfl) (by simp) (AllReadyH.cons rfl (fun KK hKK => ?_) AllReadyH.nil)
     ·obtain ⟨E,d,H⟩ := H.out.putI (ta := ta) (by simp [maxLen])
      go_simp
      refine hKK.out _ _ (H.out.sS i.out j.out) (fun hHeld => ?_); clear hKK KK d; refine kQ 30 39 (.map (some t)) hHeld ?_; refine kQ 31 40 (pq wd) hHeld ?_; refine kQ 32 41 (.pointer (some ⟨wd,3,none⟩)) hHeld ?_; simp only [qA,qB,qC,qD]; have f := o.out.sm H.out.s trivial; have k := f.c 3 _ rfl; have r := f.z; refine rd 33 rfl fun KK hKK => ?_
      go_simp
      refine hKK.out _ _ (H.out.sE o.out _) (fun hHeld => ?_); clear hKK KK k r f; refine wpAnyH_done (by kernel_rfl) ?_ _; go_wp2
      go_ret
      exact q.out _ _ _ _ H.out
   ·obtain ⟨J,d,H⟩ := H.out.putB (ta := u) (by simp [maxLen])
    go_simp
    refine hKK.out _ _ (H.out.sS i.out j.out) (fun hHeld => ?_); clear hKK KK d; refine wpAnyH_ready (rs := [14]) (by kernel_rfl) (by simp) (AllReadyH.cons rfl (fun KK hKK => ?_) AllReadyH.nil)
    ·obtain ⟨D,ta,e,h,H⟩ := H.out.int'
     go_simp
     rw [<- e,<- h]; refine hKK.out _ _ (H.out.sS i.out j.out) (fun hHeld => ?_); clear hKK KK e h; refine wpAnyH_ready (rs := [15]) (by kernel_rfl) (by simp) (AllReadyH.cons rfl (fun KK hKK => ?_) AllReadyH.nil)
     ·obtain ⟨E,d,H⟩ := H.out.putI (ta := ta) (by simp [maxLen])
      go_simp
      refine hKK.out _ _ (H.out.sS i.out j.out) (fun hHeld => ?_); clear hKK KK d; refine kQ 30 39 (.map (some t)) hHeld ?_; refine kQ 31 40 (pq wd) hHeld ?_; refine kQ 32 41 (.pointer (some ⟨wd,3,none⟩)) hHeld ?_; simp only [qA,qB,qC,qD]; have f := o.out.sm H.out.s trivial; have k := f.c 3 _ rfl; have r := f.z; refine rd 33 rfl fun KK hKK => ?_
      go_simp
      refine hKK.out _ _ (H.out.sE o.out _) (fun hHeld => ?_); clear hKK KK k r f; refine wpAnyH_done (by kernel_rfl) ?_ _; go_wp2
      go_ret
      exact q.out _ _ _ _ H.out
  ·obtain ⟨U,ta,e,h,H⟩ := H.out.int'
   go_simp
   rw [<- e,<- h]; refine hKK.out _ _ (H.out.sS i.out j.out) (fun hHeld => ?_); clear hKK KK e h; refine wpAnyH_ready (rs := [1]) (by kernel_rfl) (by simp) (AllReadyH.cons rfl (fun KK hKK => ?_) AllReadyH.nil)
   ·obtain ⟨J,t,e,h,H⟩ := H.out.map'
    go_simp
    rw [<- e,<- h]; refine hKK.out _ _ (H.out.sS i.out j.out) (fun hHeld => ?_); clear hKK KK e h; refine wpAnyH_ready (rs := [15,29]) (by kernel_rfl) (by simp) (AllReadyH.cons rfl (fun KK hKK => ?_) (AllReadyH.cons rfl (fun KK hKK => ?_) AllReadyH.nil))
    ·obtain ⟨D,d,H⟩ := H.out.putI (ta := ta) (by simp [maxLen])
     go_simp
     refine hKK.out _ _ (H.out.sS i.out j.out) (fun hHeld => ?_); clear hKK KK d; refine wpAnyH_ready (rs := [29]) (by kernel_rfl) (by simp) (AllReadyH.cons rfl (fun KK hKK => ?_) AllReadyH.nil)
     ·obtain ⟨E,d,H⟩ := H.out.putB (ta := u) (by simp [maxLen])
      go_simp
      refine hKK.out _ _ (H.out.sS i.out j.out) (fun hHeld => ?_); clear hKK KK d; refine kQ 30 39 (.map (some t)) hHeld ?_; refine kQ 31 40 (pq wd) hHeld ?_; refine kQ 32 41 (.pointer (some ⟨wd,3,none⟩)) hHeld ?_; simp only [qA,qB,qC,qD]; have f := o.out.sm H.out.s trivial; have k := f.c 3 _ rfl; have r := f.z; refine rd 33 rfl fun KK hKK => ?_
      go_simp
      refine hKK.out _ _ (H.out.sE o.out _) (fun hHeld => ?_); clear hKK KK k r f; refine wpAnyH_done (by kernel_rfl) ?_ _; go_wp2
      go_ret
      exact q.out _ _ _ _ H.out.swap
    ·obtain ⟨D,d,H⟩ := H.out.putB (ta := u) (by simp [maxLen])
     go_simp
     refine hKK.out _ _ (H.out.sS i.out j.out) (fun hHeld => ?_); clear hKK KK d; refine wpAnyH_ready (rs := [15]) (by kernel_rfl) (by simp) (AllReadyH.cons rfl (fun KK hKK => ?_) AllReadyH.nil)
     ·obtain ⟨E,d,H⟩ := H.out.putI (ta := ta) (by simp [maxLen])
      go_simp
      refine hKK.out _ _ (H.out.sS i.out j.out) (fun hHeld => ?_); clear hKK KK d; refine kQ 30 39 (.map (some t)) hHeld ?_; refine kQ 31 40 (pq wd) hHeld ?_; refine kQ 32 41 (.pointer (some ⟨wd,3,none⟩)) hHeld ?_; simp only [qA,qB,qC,qD]; have f := o.out.sm H.out.s trivial; have k := f.c 3 _ rfl; have r := f.z; refine rd 33 rfl fun KK hKK => ?_
      go_simp
      refine hKK.out _ _ (H.out.sE o.out _) (fun hHeld => ?_); clear hKK KK k r f; refine wpAnyH_done (by kernel_rfl) ?_ _; go_wp2
      go_ret
      exact q.out _ _ _ _ H.out
end
end Go.Proofs.YtnmkffjklpfflaaGreatDoor
