/- The document's tree of a text,told loosely: whatever the text,it answers; where nothing is wrong,a tree in memory. -/
import Derived.Test.YtifapidjkelnfaaGreatDoorG11
import Derived.Test.YtifapidjkelnfaaGreatDoorG13
import Derived.Test.YtifapidjkelnfaaGreatDoorG14
import Derived.Test.YtifapidjkelnfaaGreatDoorG02
namespace Go.Proofs.YtifapidjkelnfaaGreatDoor
open Go.RowKit
structure B3 (w : World) (b : Nat) (v0 v1 v2 : Value) : Prop where
 c0 : w.cell? ⟨b,0,none⟩ = some v0
 c1 : w.cell? ⟨b,1,none⟩ = some v1
 c2 : w.cell? ⟨b,2,none⟩ = some v2
 z : ∀ o,w.frozen? ⟨b,o,none⟩ = false
section
variable {w w' : World} {b b' : Nat} {v0 v1 v2 u0 u1 u2 : Value}
theorem B3.lt (h : B3 w b v0 v1 v2) : b < w.heap.size := zc h.c0
theorem B3.kept {row : Option Nat} (h : B3 w b v0 v1 v2) (hg : w.grownBy w' row) (hr : some b ≠ row) : B3 w' b v0 v1 v2 := ⟨zO hg h.c0 hr,zO hg h.c1 hr,zO hg h.c2 hr,fun o => yx hg h.lt (h.z o) hr⟩
theorem B3.new (w : World) (t : TypeId) : B3 (w.alloc (.cells #[v0,v1,v2] t)) w.heap.size v0 v1 v2 :=
 ⟨by rw [World.cell?_alloc_at _ _ _ _ rfl]; rfl,by rw [World.cell?_alloc_at _ _ _ _ rfl]; rfl,by rw [World.cell?_alloc_at _ _ _ _ rfl]; rfl,fun o => World.frozen?_alloc_at _ _ _ _ rfl⟩
theorem B3.put (h : B3 w b v0 v1 v2) (o : Nat) (u : Value) : B3 (w.setCell ⟨b,o,none⟩ u) b (if o = 0 then u else v0) (if o = 1 then u else v1) (if o = 2 then u else v2) := ⟨KS.cell _ h.c0,KS.cell _ h.c1,KS.cell _ h.c2,fun o => by rw [World.frozen?_setCell]; exact h.z o⟩
end
def KTr (w : World) (e : Ending) (w' : World) : Prop := Below w.heap.size w w' /\ ∃ k x m p l ad n cp E t a,e = .returned (.tuple #[.agg #[.int .i64 k,.string ⟨List.toArray x⟩,.int .i64 m,.int .i64 p,.slice ad n cp],.agg #[.int .i64 E,.int .i64 t,.int .i64 a]]) /\ (E = 0 -> FT (.mk k x m p l) /\ ∃ S,LR w' S l (.slice ad n cp))
theorem mV {w W W9 : World} {b : Nat} {k m p E t a : Int} {x : Bs} {l : List T} {ad : Option Addr} {nn cp : Nat} {x0 x1 x2 : Value} {act : Act} (hr : RB W b) (he : B3 W (b + 1) x0 x1 x2) (hb : Below w.heap.size w W) (hg : ((((((((W.setCell ⟨b,0,none⟩ (.int .i64 k)).setCell ⟨b,1,none⟩ (.string ⟨x.toArray⟩)).setCell ⟨b,2,none⟩ (.int .i64 m)).setCell ⟨b,3,none⟩ (.int .i64 p)).setCell ⟨b,4,none⟩ (.slice ad nn cp)).setCell ⟨b + 1,0,none⟩ (.int .i64 E)).setCell ⟨b + 1,1,none⟩ (.int .i64 t)).setCell ⟨b + 1,2,none⟩ (.int .i64 a)).grownBy W9 none)
  (hbw : b = w.heap.size) (hL : E = 0 -> FT (.mk k x m p l) /\ ∃ lo hi,b + 1 < lo /\ LR W (In lo hi) l (.slice ad nn cp)) (t2 : act.tmps[2]?.getD undef = .pointer (some ⟨b,0,none⟩) := by rfl) (t3 : act.tmps[3]?.getD undef = .pointer (some ⟨b + 1,0,none⟩) := by rfl) (hd : act.defers = [] := by rfl) :
  bodyPost Tryz.prog Tryz.f4 (KTr w) .ret act W9 := by
 subst hbw; have g : W.grownBy (((((W.setCell ⟨w.heap.size,0,none⟩ (.int .i64 k)).setCell ⟨w.heap.size,1,none⟩ (.string ⟨x.toArray⟩)).setCell ⟨w.heap.size,2,none⟩ (.int .i64 m)).setCell ⟨w.heap.size,3,none⟩ (.int .i64 p)).setCell ⟨w.heap.size,4,none⟩ (.slice ad nn cp)) (some w.heap.size) := z6 (z6 (z6 (z6 (z6 (zj _ _) _ _) _ _) _ _) _ _) _ _; have n := (NB.far (NB.far (NB.far (RB.five (u0 := .int .i64 k) (u1 := .string ⟨x.toArray⟩) (u2 := .int .i64 m) (u3 := .int .i64 p) (u4 := .slice ad nn cp) hr) (b' := w.heap.size + 1) (by omega) 0 (.int .i64 E)) (by omega) 1 (.int .i64 t)) (by omega) 2 (.int .i64 a)).kept hg (by simp); have q := ((((he.kept g (by simp)).put 0 (.int .i64 E)).put 1 (.int .i64 t)).put 2 (.int .i64 a)).kept hg (by simp); have f := ((((((((hb.setCell (by simp) _).setCell (by simp) _).setCell (by simp) _).setCell (by simp) _).setCell (by simp) _).setCell (by simp) _).setCell (by simp) _).setCell (by simp) _).grown hg (by have := hb.size; simpa [World.setCell] using this) (fun _ e => by cases e); refine bodyPost_ret (by simp [results,Tryz.results4,t2,t3,go_sem,n.c0,n.c1,n.c2,n.c3,n.c4,q.c0,q.c1,q.c2]) hd ⟨f,k,x,m,p,l,ad,nn,cp,E,t,a,rfl,fun h0 => ?_⟩; obtain ⟨h,lo,hi,j,i⟩ := hL h0
 exact ⟨h,_,(LR.put (LR.put (LR.put (i.kept g (fun _ e hs => by cases e; have : lo <= w.heap.size := hs.1; omega)) (by omega) _ _) (by omega) _ _) (by omega) _ _).kept hg (fun _ e => by cases e)⟩
set_option maxRecDepth 100000 in
set_option maxHeartbeats 4000000 in
theorem pX (s : ByteArray) (w : World) (a : Addr) (kc : Nat) (hs : s.size <= maxLen) (hk : Kept33 w a kc) : Calls Tryz.prog 4 #[.string s] w (KTr w) := by
  have HK := zb hk; have b1 := hk.lt; have a0 := zc hk.head; simp only at a0; clear hk
  go_enter Tryz.func4,Tryz.ntmps4
  go_wp2_with fail; go_at_call 7; refine (sY s _ hs).mono ?_; rintro _ R ⟨H,v,E1,t1,a1,rfl,L⟩; have V := uA H none; have r := ((RB.new w _).alloc _).kept V (by simp); have e := (B3.new (v0 := .int .i64 0) (v1 := .int .i64 0) (v2 := .int .i64 0) (w.alloc (.cells #[.int .i64 0,.string ⟨#[]⟩,.int .i64 0,.int .i64 0,.slice none 0 0] 24)) 27).kept V (by simp); simp only [World.size_alloc] at e; have f : Below w.heap.size w R := (((Below.refl _ _).alloc (Nat.le_refl _) _).alloc (by simp) _).trans (H.mono (by simp; omega)); have s1 := H.size
  simp at s1
  cases hE : E1 == 0
  · clear L
    obtain ⟨_,_,_,_,_,_,_,_,_,_,_⟩ := id r; obtain ⟨_,_,_,_⟩ := id e; have el := e.lt; go_wp2_with fail; obtain ⟨y,D⟩ : ∃ x,x = R.alloc (.cells #[.int .i64 E1,.int .i64 t1,.int .i64 a1] 27) := ⟨_,rfl⟩; rw [<- D]
    have b2 : B3 y R.heap.size (.int .i64 E1) (.int .i64 t1) (.int .i64 a1) := by rw [D]; exact B3.new R _
    have I : R.grownBy y none := by rw [D]; exact World.grownBy_alloc _ _ none
    have r := r.kept I (by simp); have e := e.kept I (by simp)
    have M : Below w.heap.size w y := by rw [D]; exact f.alloc (by omega) _
    clear D; have b3 := b2.lt; have b4 := r.lt; obtain ⟨_,_,_,_,_,_,_,_,_,_,_⟩ := id r; obtain ⟨_,_,_,_⟩ := id e; obtain ⟨_,_,_,_⟩ := id b2
    go_region
    all_goals
      go_wp2
    all_goals exact mV (x := []) (l := []) r e M (ze (zj _ _)) rfl (fun h => absurd h (by simpa using hE))
  · obtain ⟨i,q,A,a8,E⟩ := L (by simpa using hE)
    clear L
    obtain ⟨N,t,rfl,a2,a3⟩ : ∃ g t,v = .slice (some ⟨g,0,none⟩) (i.length + 1) t /\ i.length + 1 <= t /\ t <= maxLen := by
      rcases A.2 with ⟨_,h0⟩ | ⟨g,t,b5,rfl,_,_,h1,h2,_⟩
      · omega
      · exact ⟨g,t,rfl,h1,h2⟩
    have a4 := A.lt N (by simp [Value.ownBlock])
    simp at a4
    go_wp2_with fail; go_at_call 8; refine (jR _).mono ?_; rintro _ y ⟨rfl,M⟩; have I : R.grownBy y none := za (World.grownBy_alloc _ _ none) (uA M none); have r := r.kept I (by simp); have e := e.kept I (by simp); have s2 := I.size; have f := f.grown I (by omega) (fun _ hk => by cases hk); have ho := (A.kept I (.inr (by simp [Value.ownBlock]))).alloc (.cells #[.slice (some ⟨N,0,none⟩) (i.length + 1) t,.int .i64 0,.int .i64 0,.int .i64 0,.int .i64 (-1),.int .i64 (-1)] 38); have X : Kept33 y a kc := (HK.far (uA (((Below.refl _ _).alloc (Nat.le_refl _) _).alloc (by simp) _ |>.trans (H.mono (by simp; omega))) none) (by simp) (by simp)).far I (by simp) (by simp)
    have K : ∀ j,j < i.length + 1 -> (((i ++ [(([] : Bs),q)])[j]?.getD ([],0)).1 = [] ↔ j = i.length) := fun j hj => by
      by_cases h : j < i.length
      · rw [List.getElem?_append_left h,List.getElem?_eq_getElem h]
        exact ⟨fun e => absurd e (E _ (List.getElem_mem h)).1,fun e => by omega⟩
      · obtain rfl : j = i.length := by omega
        simp
    have hp : KS ⟨y.heap.size,N,i.length + 1,t,a,kc,fun j => ((i ++ [([],q)])[j]?.getD ([],0)).1,fun j => ((i ++ [([],q)])[j]?.getD ([],0)).2⟩ (y.alloc (.cells #[.slice (some ⟨N,0,none⟩) (i.length + 1) t,.int .i64 0,.int .i64 0,.int .i64 0,.int .i64 (-1),.int .i64 (-1)] 38)) (y.alloc (.cells #[.slice (some ⟨N,0,none⟩) (i.length + 1) t,.int .i64 0,.int .i64 0,.int .i64 0,.int .i64 (-1),.int .i64 (-1)] 38)) 0 0 := by
      refine ⟨zj _ _,?_,?_,⟨0,?_⟩,?_,⟨-1,?_⟩,⟨-1,?_⟩,fun o => World.frozen?_alloc_at _ _ _ _ rfl,fun j hj => ?_,X.far (World.grownBy_alloc _ _ none) (by simp) (by simp),?_,?_,?_,?_,?_,?_,?_,Nat.succ_pos _,⟨?_,a2,a3⟩,fun j hj hne => ?_,fun j => ?_⟩
      iterate 6 (rw [World.cell?_alloc_at _ _ _ _ rfl]; rfl)
      · have Y : j < (i ++ [(([] : Bs),q)]).length := by simpa using hj
        have hf := gP _ j Y
        show _ = some (Value.string ⟨List.toArray ((i ++ [([],q)])[j]?.getD ([],0)).1⟩) /\ _ = some (Value.int .i64 ((i ++ [([],q)])[j]?.getD ([],0)).2)
        rw [List.getElem?_eq_getElem Y]; simp only at hj
        exact ⟨(ho.cellAt (j * 2) (by omega)).trans hf.1,(ho.cellAt (j * 2 + 1) (by omega)).trans hf.2⟩
      · show N ≠ y.heap.size
        omega
      · show a.block ≠ y.heap.size
        omega
      · show 1 ≠ y.heap.size
        omega
      all_goals simp only [World.size_alloc]
      · omega
      · omega
      · omega
      · omega
      · omega
      · simp only at hj hne
        have : j ≠ i.length := fun e => hne ((K j hj).2 e)
        show j + 1 < i.length + 1
        omega
      · show List.length ((i ++ [([],q)])[j]?.getD ([],0)).1 <= 4000
        by_cases h : j < i.length
        · rw [List.getElem?_append_left h,List.getElem?_eq_getElem h]
          exact (E _ (List.getElem_mem h)).2
        · by_cases h2 : j = i.length
          · subst h2; simp
          · rw [List.getElem?_eq_none (by simp; omega)]; simp
    generalize Z : KC.mk y.heap.size N (i.length + 1) t a kc _ _ = c at hp
    have u : c.rb = y.heap.size := by rw [<- Z]
    clear Z K ho A X; go_wp2_with fail; go_at_call 9; rw [<- u]
    have a9 : y.heap.size <= c.rb := by omega
    have b0 : c.rb <= y.heap.size := by omega
    refine (mO c _ _ _ hp).mono ?_; rintro _ w3 ⟨_,i3,E3,rfl,⟨k,x,m,pp,l,ad,cp,rfl,hf,B⟩,p,-,-⟩; have g3 := p.g; have s3 := g3.size
    simp at s3
    have r := (r.alloc _).kept g3 (by simp; omega); have e := (e.kept (World.grownBy_alloc _ _ none) (by simp)).kept g3 (by simp; omega); have f := (f.alloc (by omega) _).grown g3 (by simp; omega) (fun _ hk => by cases hk; omega); obtain ⟨w4,J⟩ : ∃ z,z = w3.alloc (.cells #[.int .i64 k,.string ⟨x.toArray⟩,.int .i64 m,.int .i64 pp,.slice ad l.length cp] 24) := ⟨_,rfl⟩
    have U : w3.grownBy w4 none := by rw [J]; exact World.grownBy_alloc _ _ none
    have s4 := U.size
    have n : NB w4 w3.heap.size (.int .i64 k) (.string ⟨x.toArray⟩) (.int .i64 m) (.int .i64 pp) (.slice ad l.length cp) := by rw [J]; exact NB.new w3 _
    have r := r.kept U (by simp); have e := e.kept U (by simp); have f := f.grown U (by omega) (fun _ hk => by cases hk); have p := (p.grown U).here; have B := B.kept U (fun _ e => by cases e); obtain ⟨lo,a5,B⟩ : ∃ lo,lo = _ /\ LR w4 (In lo _) l (.slice ad l.length cp) := ⟨_,rfl,B⟩
    simp at a5
    go_wp2_with fail; rw [<- J]; clear J; go_at_call 10
    try rw [<- u]
    refine (yX c _ _ _ p).mono ?_; rintro _ w5 ⟨rfl,O⟩; have p := (p.grown O).here; have s5 := O.size; have n := n.kept O (by simp); have r := r.kept O (by simp); have e := e.kept O (by simp); have B := B.kept O (fun _ e => by cases e); have f := f.grown O (by omega) (fun _ hk => by cases hk); cases a6 : E3 == 0
    · go_wp2_with fail
      go_at_call 10
      try rw [<- u]
      refine (yX c _ _ _ p).mono ?_; rintro _ w6 ⟨rfl,C⟩; have p := (p.grown C).here; have r := r.kept C (by simp); have e := e.kept C (by simp); have f := f.grown C (by omega) (fun _ hk => by cases hk); have d3 := p.c3; obtain ⟨_,d4⟩ := p.c4; obtain ⟨_,d5⟩ := p.c5; rw [u] at d3 d4 d5; have rl := r.lt; have el := e.lt; have pl := p.l1; obtain ⟨_,_,_,_,_,_,_,_,_,_,_⟩ := id r; obtain ⟨_,_,_,_⟩ := id e; go_wp2_with fail
      go_region
      all_goals
        go_wp2
      all_goals exact mV (x := []) (l := []) r e f (ze (zj _ _)) rfl (fun h => absurd h (by simpa using a6))
    · go_wp2_with fail
      go_at_call 11
      try rw [<- u]
      refine (yv c _ _ _ p).mono ?_; rintro _ w6 ⟨rfl,C⟩; have p := (p.grown C).here; have s6 := C.size; have n := n.kept C (by simp); have r := r.kept C (by simp); have e := e.kept C (by simp); have B := B.kept C (fun _ e => by cases e); have f := f.grown C (by omega) (fun _ hk => by cases hk); cases hx : (c.W i3).isEmpty
      · go_wp2_with fail
        go_at_call 12
        try rw [<- u]
        refine (xS c _ _ _ p).mono ?_; rintro _ w7 ⟨rfl,E7,Q,p⟩; have F := p.g; have s7 := F.size; have p := p.here; have r := r.kept F (by simp; omega); have e := e.kept F (by simp; omega); have f := f.grown F (by omega) (fun _ hk => by cases hk; omega)
        have Q : (E7 == 0) = false := by simpa using Q
        go_wp2_with fail; go_at_call 10
        try rw [<- u]
        refine (yX c _ _ _ p).mono ?_; rintro _ w8 ⟨rfl,G⟩; have p := (p.grown G).here; have r := r.kept G (by simp); have e := e.kept G (by simp); have f := f.grown G (by omega) (fun _ hk => by cases hk); have d3 := p.c3; obtain ⟨_,d4⟩ := p.c4; obtain ⟨_,d5⟩ := p.c5; rw [u] at d3 d4 d5; have rl := r.lt; have el := e.lt; have pl := p.l1; obtain ⟨_,_,_,_,_,_,_,_,_,_,_⟩ := id r; obtain ⟨_,_,_,_⟩ := id e; go_wp2_with fail
        go_region
        all_goals
          go_wp2
        all_goals exact mV (x := []) (l := []) r e f (ze (zj _ _)) rfl (fun h => absurd h (by simpa using Q))
      · go_wp2_with fail
        go_at_call 10
        try rw [<- u]
        refine (yX c _ _ _ p).mono ?_; rintro _ w7 ⟨rfl,F⟩; have s7 := F.size; have n := n.kept F (by simp); have r := r.kept F (by simp); have e := e.kept F (by simp); have B := B.kept F (fun _ e => by cases e); have f := f.grown F (by omega) (fun _ hk => by cases hk); have nl := n.lt; obtain ⟨_,_,_,_,_,_⟩ := id n; go_wp2_with fail
        go_region_with (go_at_call 8
                        refine (jR _).mono ?_; rintro _ w8 ⟨rfl,a7⟩; have G : w7.grownBy w8 none := za (yl (zj w7 none) _) (uA a7 none); have s8 := G.size; have n := n.kept G (by simp); have r := r.kept G (by simp); have e := e.kept G (by simp); have B := B.kept G (fun _ e => by cases e); have f := f.grown G (by omega) (fun _ hk => by cases hk); have rl := r.lt; have el := e.lt; have b6 := n.lt; obtain ⟨_,_,_,_,_,_⟩ := id n; obtain ⟨_,_,_,_,_,_,_,_,_,_,_⟩ := id r
                        obtain ⟨_,_,_,_⟩ := id e)
        all_goals
          go_wp2
        all_goals exact mV r e f (zj _ _) rfl (fun _ => ⟨hf,_,_,by omega,B⟩)
end Go.Proofs.YtifapidjkelnfaaGreatDoor
