/- Two trees in memory of one tree are equal. -/
import Derived.Test.YtifapidjkelnfaaGreatDoorG02
import Derived.BigRegion
namespace Go.Proofs.YtifapidjkelnfaaGreatDoor
open Go.RowKit
set_option maxHeartbeats 1000000
set_option maxRecDepth 100000
theorem uQ : ∀ (ts : List T) (svs : List Value) (i : Nat) (t : T) (sv : Value) (j : Nat),svs.length = ts.length -> ts[i]? = some t -> svs[i]? = some sv -> j < 5 -> (xg ts svs)[i * 5 + j]? = (uy t sv)[j]?
 | [],_,i,t,sv,j,_,h,_,_ => by simp at h
 | t0 :: ts,[],i,t,sv,j,h,_,_,_ => by simp at h
 | t0 :: ts,s0 :: svs,0,t,sv,j,h,ht,hs,hj => by
  cases ht; cases hs; rw [xg,Nat.zero_mul,Nat.zero_add,List.getElem?_append_left (by simpa [uy] using hj)]
 | t0 :: ts,s0 :: svs,i + 1,t,sv,j,h,ht,hs,hj => by
  rw [xg,List.getElem?_append_right (by simp [uy]; omega)]; have := uQ ts svs i t sv j (by simpa using h) (by simpa using ht) (by simpa using hs) hj; rw [<- this]
  congr 1
  simp [uy]
  omega
theorem LR.node {w : World} {S : Nat -> Prop} {ts : List T} {v : Value} (h : LR w S ts v) (i : Nat) (t : T) (ht : ts[i]? = some t) : ∃ g cap sv,v = .slice (some ⟨g,0,none⟩) ts.length cap /\ ts.length <= maxLen /\ LR w (fun _ => True) t.subs sv /\
  w.cell? ⟨g,i * 5,none⟩ = some (.int .i64 t.kind) /\ w.cell? ⟨g,i * 5 + 1,none⟩ = some (.string ⟨t.name.toArray⟩) /\ w.cell? ⟨g,i * 5 + 2,none⟩ = some (.int .i64 t.num) /\ w.cell? ⟨g,i * 5 + 3,none⟩ = some (.int .i64 t.at') /\ w.cell? ⟨g,i * 5 + 4,none⟩ = some sv := by
 obtain ⟨b,l,own,_,d⟩ := h.own
 have n : i < ts.length := by
  rcases Nat.lt_or_ge i ts.length with k | k
  ·exact k
  ·rw [List.getElem?_eq_none k] at ht; cases ht
 obtain ⟨sv,f⟩ : ∃ sv,b[i]? = some sv := ⟨_,List.getElem?_eq_getElem (by omega)⟩
 rcases own.2 with ⟨_,r⟩ | ⟨g,cap,m,rfl,s⟩
 ·omega
 ·have a : ∀ j,j < 5 -> w.cell? ⟨g,i * 5 + j,none⟩ = (uy t sv)[j]? := fun j hj => (own.cellAt (i * 5 + j) (by omega)).trans (uQ ts b i t sv j l ht f hj)
  exact ⟨g,cap,sv,rfl,by omega,(d i t sv ht f).mono (fun _ _ => trivial),a 0 (by omega),a 1 (by omega),a 2 (by omega),a 3 (by omega),a 4 (by omega)⟩
theorem LR.nodeS {w : World} {S : Nat -> Prop} {ts : List T} {v : Value} (h : LR w S ts v) (i : Nat) (t : T) (ht : ts[i]? = some t) : ∃ g cap sv,v = .slice (some ⟨g,0,none⟩) ts.length cap /\ ts.length <= cap /\ cap <= maxLen /\ S g /\ Node5 w g (i * 5) t sv /\ LR w (fun k => S k /\ g ≠ k) t.subs sv := by
 obtain ⟨b,r,own,l,d⟩ := h.own
 have u : i < ts.length := by
  rcases Nat.lt_or_ge i ts.length with m | m
  ·exact m
  ·rw [List.getElem?_eq_none m] at ht; cases ht
 obtain ⟨sv,f⟩ : ∃ sv,b[i]? = some sv := ⟨_,List.getElem?_eq_getElem (by omega)⟩
 rcases own.2 with ⟨_,x⟩ | ⟨g,cap,s,rfl,n⟩
 ·omega
 ·have a : ∀ j,j < 5 -> w.cell? ⟨g,i * 5 + j,none⟩ = (uy t sv)[j]? := fun j hj => (own.cellAt (i * 5 + j) (by omega)).trans (uQ ts b i t sv j r ht f hj)
  exact ⟨g,cap,sv,rfl,n.2.2.1,n.2.2.2.1,l g rfl,⟨a 0 (by omega),a 1 (by omega),a 2 (by omega),a 3 (by omega),a 4 (by omega)⟩,(d i t sv ht f).mono (fun k hk => ⟨hk.1,fun e => hk.2 (by rw [e]; rfl)⟩)⟩
theorem LR.one {w : World} {S : Nat -> Prop} {a : T} {v : Value} (h : LR w S [a] v) : ∃ g cap sa,v = .slice (some ⟨g,0,none⟩) 1 cap /\ 1 <= cap /\ cap <= maxLen /\ Node5 w g 0 a sa /\ LR w S a.subs sa := by
 obtain ⟨g,cap,sa,e,b,d,_,f,i⟩ := h.nodeS 0 a rfl
 exact ⟨g,cap,sa,e,b,d,by simpa using f,i.mono (fun k hk => hk.1)⟩
theorem LR.two {w : World} {S : Nat -> Prop} {a b : T} {v : Value} (h : LR w S [a,b] v) : ∃ g cap sa sb,v = .slice (some ⟨g,0,none⟩) 2 cap /\ 2 <= cap /\ cap <= maxLen /\ Node5 w g 0 a sa /\ Node5 w g 5 b sb /\ LR w S a.subs sa /\ LR w S b.subs sb := by
 obtain ⟨g,cap,sa,e,i,j,_,l,m⟩ := h.nodeS 0 a rfl; obtain ⟨s,d,sb,f,_,_,_,n,r⟩ := h.nodeS 1 b rfl; rw [e] at f; cases f
 exact ⟨g,cap,sa,sb,e,i,j,by simpa using l,by simpa using n,m.mono (fun k hk => hk.1),r.mono (fun k hk => hk.1)⟩
theorem sG (t : T) (ih : ∀ u,u ∈ t.subs -> ∀ (w : World) (sv1 sv2 : Value),LR w (fun _ => True) u.subs sv1 -> LR w (fun _ => True) u.subs sv2 -> Calls Tryz.prog 20 #[zq u sv1,zq u sv2] w fun e w' => e = .returned (.bool true) /\ w.grownBy w' none)
    (w : World) (sv1 sv2 : Value) (h1 : LR w (fun _ => True) t.subs sv1) (h2 : LR w (fun _ => True) t.subs sv2) :
    Calls Tryz.prog 20 #[zq t sv1,zq t sv2] w fun e w' => e = .returned (.bool true) /\ w.grownBy w' none := by
  obtain ⟨k,x,m,a,l⟩ := t; simp only [T.subs] at h1 h2 ih; obtain ⟨b,d,rfl⟩ := h1.form; obtain ⟨f,g,rfl⟩ := h2.form; have J := zb h1; have K := zb h2; have L := zb ih
  have y : l.length <= maxLen := by
    cases l with
    | nil => simp
    | cons u us =>
      obtain ⟨_,_,_,_,M,_⟩ := h1.node 0 u rfl
      exact M
  unfold maxLen at y
  clear h1 h2 ih
  show Calls Tryz.prog 20 #[.agg #[.int .i64 k,.string ⟨x.toArray⟩,.int .i64 m,.int .i64 a,.slice b l.length d],.agg #[.int .i64 k,.string ⟨x.toArray⟩,.int .i64 m,.int .i64 a,.slice f l.length g]] w _
  go_enter Tryz.func20,Tryz.ntmps20
  go_wp2
  go_loopw [5] (fun iv wr => ∃ j : Nat,j <= l.length /\ iv = .int .i64 j /\ NB wr w.heap.size (.int .i64 k) (.string ⟨x.toArray⟩) (.int .i64 m) (.int .i64 a) (.slice b l.length d) /\ NB wr (w.heap.size + 1) (.int .i64 k) (.string ⟨x.toArray⟩) (.int .i64 m) (.int .i64 a) (.slice f l.length g) /\ Hid (w.grownBy wr none)) (fun iv _ => l.length - (intOf iv).toNat)
  case atStart => exact ⟨0,Nat.zero_le _,rfl,(NB.alloc (NB.new' (by simp)) _),(NB.new' (by simp)),zf gan _⟩
  case round =>
    obtain ⟨j,_,rfl,z,A,s⟩ := hrel; have N := z.lt; have O := A.lt; have Q := zb z; have B := zb A; obtain ⟨_,_,_,_,_,_⟩ := id z; obtain ⟨_,_,_,_,_,_⟩ := id A
    by_cases C : j < l.length
    · obtain ⟨u,v⟩ : ∃ u,l[j]? = some u := ⟨_,List.getElem?_eq_getElem C⟩
      have h : u ∈ l := List.mem_of_getElem? v; have i := J.kept s (fun _ hk => by cases hk); have n := K.kept s (fun _ hk => by cases hk); obtain ⟨_,_,sv1,R,_,H,_,_,_,_,_⟩ := i.node j u v; obtain ⟨_,_,sv2,U,_,I,_,_,_,_,_⟩ := n.node j u v; cases R; cases U
      have r := fun w9 s1 s2 hl1 hl2 => L u h w9 s1 s2 hl1 hl2
      clear i n v; have D := zb H; have E := zb I; have V := zb r; clear H I r; go_wp2_with fail
      go_region_with (go_at_call 20
                      refine (V _ sv1 sv2 (D.kept (yl grn _) (fun _ hk => by cases hk)) (E.kept (yl grn _) (fun _ hk => by cases hk))).mono ?_
                      rintro e w9 ⟨rfl,F⟩)
      all_goals
        go_wp2; have G : wr.grownBy w9 none := za (yl grn _) F
        exact ⟨⟨j + 1,by omega,by go_num,Q.kept G (by simp),B.kept G (by simp),za s G⟩,by simp [intOf]; omega⟩
    · go_wp2
      go_ret
      exact ⟨rfl,s⟩
theorem kf (t : T) (w : World) (sv1 sv2 : Value) (h1 : LR w (fun _ => True) t.subs sv1) (h2 : LR w (fun _ => True) t.subs sv2) :
  Calls Tryz.prog 20 #[zq t sv1,zq t sv2] w fun e w' => e = .returned (.bool true) /\ w.grownBy w' none :=
 sG t (fun u _hu w sv1 sv2 h1 h2 => kf u w sv1 sv2 h1 h2) w sv1 sv2 h1 h2
 termination_by SizeOf.sizeOf t
 decreasing_by
  obtain ⟨_,_,_,_,l⟩ := t; have h9 := List.sizeOf_lt_of_mem (show u ∈ l from _hu); simp only [T.mk.sizeOf_spec]
  omega
structure KC where
 rb : Nat
 tb : Nat
 n : Nat
 cap : Nat
 ka : Addr
 kc : Nat
 W : Nat -> Bs
 A : Nat -> Int
structure KS (c : KC) (a w : World) (i : Nat) (E : Int) : Prop where
 g : a.grownBy w (some c.rb)
 c0 : w.cell? ⟨c.rb,0,none⟩ = some (.slice (some ⟨c.tb,0,none⟩) c.n c.cap)
 c1 : w.cell? ⟨c.rb,1,none⟩ = some (.int .i64 i)
 c2 : ∃ d,w.cell? ⟨c.rb,2,none⟩ = some (.int .i64 d)
 c3 : w.cell? ⟨c.rb,3,none⟩ = some (.int .i64 E)
 c4 : ∃ d,w.cell? ⟨c.rb,4,none⟩ = some (.int .i64 d)
 c5 : ∃ d,w.cell? ⟨c.rb,5,none⟩ = some (.int .i64 d)
 z : ∀ o,w.frozen? ⟨c.rb,o,none⟩ = false
 tk : ∀ j,j < c.n -> w.cell? ⟨c.tb,j * 2,none⟩ = some (.string ⟨(c.W j).toArray⟩) /\ w.cell? ⟨c.tb,j * 2 + 1,none⟩ = some (.int .i64 (c.A j))
 kp : Kept33 w c.ka c.kc
 n1 : c.tb ≠ c.rb
 n2 : c.ka.block ≠ c.rb
 n3 : 1 ≠ c.rb
 l1 : c.rb < a.heap.size
 l2 : c.tb < a.heap.size
 l3 : c.ka.block < a.heap.size
 l4 : 1 < a.heap.size
 il : i < c.n
 few : c.n <= 4001 /\ c.n <= c.cap /\ c.cap <= maxLen
 nx : ∀ j,j < c.n -> c.W j ≠ [] -> j + 1 < c.n
 sh : ∀ j,(c.W j).length <= 4000
theorem rq {w w' : World} (h : w.grownBy w' none) (row : Option Nat) : w.grownBy w' row := ⟨h.os,h.tape,h.output,h.size,fun i hi _ => h.block i hi (by simp)⟩
theorem Kept33.far {w w' : World} {a : Addr} {cap : Nat} {row : Option Nat} (h : Kept33 w a cap) (hg : w.grownBy w' row) (h1 : some a.block ≠ row) (h2 : some 1 ≠ row) : Kept33 w' a cap where
 lt := Nat.lt_of_lt_of_le h.lt hg.size
 head := zO hg h.head h2
 room := h.room
 cell := fun k hk => zO hg (h.cell k hk) (by rw [show (a.add k).block = a.block by unfold Addr.add; split <;> rfl]; exact h1)
section
variable {c : KC} {a w w' : World} {i : Nat} {E : Int}
theorem KS.far {row : Option Nat} (h : KS c a w i E) (hg : w.grownBy w' row) (hr : ∀ b,row = some b -> a.heap.size <= b) (h0 : a.grownBy w' (some c.rb)) : KS c a w' i E := by
 have q : ∀ b,b < a.heap.size -> some b ≠ row := fun b hb e => by have := hr b e.symm; omega
 have f := q _ h.l1; obtain ⟨g,l⟩ := h.c2; obtain ⟨m,n⟩ := h.c4; obtain ⟨p,r⟩ := h.c5
 exact ⟨h0,zO hg h.c0 f,zO hg h.c1 f,⟨g,zO hg l f⟩,zO hg h.c3 f,⟨m,zO hg n f⟩,⟨p,zO hg r f⟩,
  fun o => yx hg (show c.rb < w.heap.size from zc h.c0) (h.z o) f,fun j hj => ⟨zO hg (h.tk j hj).1 (q _ h.l2),zO hg (h.tk j hj).2 (q _ h.l2)⟩,h.kp.far hg (q _ h.l3) (q _ h.l4),h.n1,h.n2,h.n3,h.l1,h.l2,h.l3,h.l4,h.il,h.few,h.nx,h.sh⟩
theorem KS.here (h : KS c a w i E) : KS c w w i E := { h with g := zj _ _,l1 := Nat.lt_of_lt_of_le h.l1 h.g.size,l2 := Nat.lt_of_lt_of_le h.l2 h.g.size,l3 := Nat.lt_of_lt_of_le h.l3 h.g.size,l4 := Nat.lt_of_lt_of_le h.l4 h.g.size }
theorem KS.on {i' : Nat} {E' : Int} (h : KS c a w i E) (k : KS c w w' i' E') : KS c a w' i' E' := { k with g := za h.g k.g,l1 := h.l1,l2 := h.l2,l3 := h.l3,l4 := h.l4 }
theorem KS.grown (h : KS c a w i E) (hg : w.grownBy w' none) : KS c a w' i E := h.far hg (fun _ e => by cases e) (za h.g (rq hg _))
theorem KS.put (h : KS c a w i E) {b : Nat} (hb : a.heap.size <= b) (o : Nat) (v : Value) : KS c a (w.setCell ⟨b,o,none⟩ v) i E := h.far (z6 (zj w (some b)) o v) (fun k e => by cases e; exact hb) (y7 h.g hb _ _)
theorem KS.alloc (h : KS c a w i E) (o : Obj) : KS c a (w.alloc o) i E := h.grown (World.grownBy_alloc w o none)
theorem KS.drewN (h : KS c a w i E) (n : Nat) : KS c a (w.drewN n) i E := h.grown (yl (zj _ _) n)
theorem KS.drew (h : KS c a w i E) : KS c a w.drew i E := h.drewN 1
theorem KS.cell {o o' : Nat} {v u : Value} (b : Nat) (h : w.cell? ⟨b,o',none⟩ = some u) : (w.setCell ⟨b,o,none⟩ v).cell? ⟨b,o',none⟩ = some (if o = o' then v else u) := by
 by_cases e : o = o'
 ·subst e
  rw [if_pos rfl]
  exact World.cell?_setCell_same _ _ _ h
 ·rw [if_neg e,World.cell?_setCell_other _ _ _ _ (by simp)]
  exact h
theorem KS.own (h : KS c a w i E) {o i' : Nat} {E' : Int} (v : Int) (ho : o ≠ 0) (h1 : (if o = 1 then v else i) = i') (h3 : (if o = 3 then v else E) = E') (hi : i' < c.n) : KS c a (w.setCell ⟨c.rb,o,none⟩ (.int .i64 v)) i' E' := by
 subst h3; obtain ⟨p,e⟩ := h.c2; obtain ⟨r,l⟩ := h.c4; obtain ⟨s,m⟩ := h.c5; have b : w.grownBy (w.setCell ⟨c.rb,o,none⟩ (.int .i64 v)) (some c.rb) := z6 (zj w _) _ _
 have f : ∀ {q : Nat} {x : Int},w.cell? ⟨c.rb,q,none⟩ = some (.int .i64 x) -> (w.setCell ⟨c.rb,o,none⟩ (.int .i64 v)).cell? ⟨c.rb,q,none⟩ = some (.int .i64 (if o = q then v else x)) := fun hx => by rw [KS.cell _ hx]; split <;> rfl
 refine ⟨z6 h.g _ _,?_,?_,⟨_,f e⟩,f h.c3,⟨_,f l⟩,⟨_,f m⟩,fun o => by rw [World.frozen?_setCell]; exact h.z o,
  fun j hj => ⟨zO b (h.tk j hj).1 (by simpa using h.n1),zO b (h.tk j hj).2 (by simpa using h.n1)⟩,h.kp.far b (by simpa using h.n2) (by simpa using h.n3),h.n1,h.n2,h.n3,h.l1,h.l2,h.l3,h.l4,hi,h.few,h.nx,h.sh⟩
 ·rw [World.cell?_setCell_other _ _ _ _ (by simp)]
  exact h.c0
 ·rw [f h.c1,h1]
theorem KS.inc (h : KS c a w i E) (hw : c.W i ≠ []) : KS c a (w.setCell ⟨c.rb,1,none⟩ (.int .i64 ((i : Int) + 1))) (i + 1) E := h.own _ (by decide) (by simp) (by simp) (h.nx _ h.il hw)
end
def Kr (c : KC) (w : World) (i : Nat) (E : Int) (k : Nat) (enc : World -> Int -> Value -> Prop) (e : Ending) (w' : World) : Prop :=
 ∃ v i' E',e = .returned v /\ enc w' E' v /\ KS c w w' i' E' /\ i <= i' /\ (E' = 0 -> E = 0 /\ i + k <= i')
section
variable (c : KC) (w : World) (i : Nat) (E : Int) (h : KS c w w i E)
include h
set_option maxHeartbeats 400000
theorem yv : Calls Tryz.prog 11 #[.pointer (some ⟨c.rb,0,none⟩)] w fun e w' => e = .returned (.string ⟨(c.W i).toArray⟩) /\ w.grownBy w' none := by
 have c0 := h.c0; have c1 := h.c1; have b := (h.tk i h.il).1; have f := h.il; have g := h.few.1; clear h
 go_enter Tryz.func11,Tryz.ntmps11
 go_wp2
 go_quiet (fail)
 go_wp2
 go_ret
 exact ⟨rfl,yl (zj _ _) _⟩
theorem yN : Calls Tryz.prog 27 #[.pointer (some ⟨c.rb,0,none⟩)] w fun e w' => e = .returned (.int .i64 (c.A i)) /\ w.grownBy w' none := by
 have c0 := h.c0; have c1 := h.c1; have b := (h.tk i h.il).2; have f := h.il; have g := h.few.1; clear h
 go_enter Tryz.func27,Tryz.ntmps27
 go_wp2
 go_quiet (fail)
 go_wp2
 go_ret
 exact ⟨rfl,yl (zj _ _) _⟩
theorem yX : Calls Tryz.prog 10 #[.pointer (some ⟨c.rb,0,none⟩)] w fun e w' => e = .returned (.bool (E == 0)) /\ w.grownBy w' none := by
 have c3 := h.c3; clear h
 go_enter Tryz.func10,Tryz.ntmps10
 go_wp2
 go_ret
 exact ⟨rfl,zj _ _⟩
theorem ud (n : Int) (hn : n ≠ 0) : Calls Tryz.prog 34 #[.pointer (some ⟨c.rb,0,none⟩),.int .i64 n] w fun e w' => e = .returned (.tuple #[]) /\ ∃ E',E' ≠ 0 /\ KS c w w' i E' := by
 have l := zb h; clear h
 go_enter Tryz.func34,Tryz.ntmps34
 go_wp2_with fail; go_at_call 10; refine (yX c _ i E l).mono ?_; rintro e p ⟨rfl,f⟩; have b := l.grown f; cases m : E == 0
 ·go_wp2
  refine bodyPost_end (results_none rfl _ _ _) rfl ?_
  exact ⟨rfl,E,by simpa using m,b⟩
 ·have c0 := b.c0
  have c1 := b.c1; have z := b.z; have c3 := b.c3; obtain ⟨q,c4⟩ := b.c4; obtain ⟨r,c5⟩ := b.c5; have s := (b.tk i b.il).2; have g : i < c.n := b.il; have t := b.few.1; have j := zb b; clear b; go_wp2
  go_region
  go_wp2; refine bodyPost_end (results_none rfl _ _ _) rfl ?_
  exact ⟨rfl,n,hn,(((j.drewN _).own (i' := i) (E' := n) n (by decide) (by simp) (by simp) g).own (i' := i) (E' := n) 0 (by decide) (by simp) (by simp) g).own _ (by decide) (by simp) (by simp) g⟩
theorem xS : Calls Tryz.prog 12 #[.pointer (some ⟨c.rb,0,none⟩)] w fun e w' => e = .returned (.tuple #[]) /\ ∃ E',E' ≠ 0 /\ KS c w w' i E' := by
 have f := zb h; clear h
 go_enter Tryz.func12,Tryz.ntmps12
 go_wp2_with fail; go_at_call 11; refine (yv c _ i E f).mono ?_; rintro e m ⟨rfl,b⟩; have g := f.grown b; cases n : (c.W i).isEmpty
 all_goals
  go_wp2_with fail; go_at_call 34; refine (ud c _ i E g.here _ (by decide)).mono ?_; rintro e p ⟨rfl,E',j,l⟩; go_wp2; refine bodyPost_end (results_none rfl _ _ _) rfl ?_
  exact ⟨rfl,E',j,g.on l⟩
def Ki (c : KC) (w : World) (i : Nat) (E : Int) (x : Bs) (e : Ending) (w' : World) : Prop :=
 ∃ b,e = .returned (.bool b) /\ if b = true then c.W i = x /\ E = 0 /\ KS c w w' (i + 1) E else (E = 0 -> c.W i ≠ x) /\ KS c w w' i E
theorem zW (x : Bs) (hx : x ≠ [] \/ E ≠ 0) : Calls Tryz.prog 30 #[.pointer (some ⟨c.rb,0,none⟩),.string ⟨x.toArray⟩] w (Ki c w i E x) := by
 have n := zb h; clear h
 go_enter Tryz.func30,Tryz.ntmps30
 go_wp2_with fail; go_at_call 10; refine (yX c _ i E n).mono ?_; rintro e r ⟨rfl,j⟩; have l := n.grown j; cases b : E == 0
 ·have b : E ≠ 0 := by simpa using b
  go_wp2
  go_ret
  exact ⟨false,rfl,fun e => absurd e b,l⟩
 ·have b : E = 0 := by simpa using b
  go_wp2_with fail; go_at_call 11; refine (yv c _ i E l.here).mono ?_; rintro e s ⟨rfl,m⟩; have f := l.grown m; have c1 := f.c1; have z := f.z; have t := f.il; have u := f.few.1; cases p : c.W i == x
  ·have g : Hid (c.W i ≠ x) := zb (by simpa using p)
   go_wp2
   go_ret
   exact ⟨false,rfl,fun _ => g,f⟩
  ·have g : Hid (c.W i = x) := zb (by simpa using p)
   have q : Hid (x ≠ []) := hx.resolve_right (fun h => h b); go_wp2
   go_ret
   exact ⟨true,rfl,g,b,f.inc (by rw [g.out]; exact q)⟩
theorem zN (x : Bs) (hx : x ≠ [] \/ E ≠ 0) : Calls Tryz.prog 28 #[.pointer (some ⟨c.rb,0,none⟩),.string ⟨x.toArray⟩] w (Kr c w i E 1 fun _ _ _ => True) := by
 have f := zb h; clear h
 go_enter Tryz.func28,Tryz.ntmps28
 go_wp2_with fail; go_at_call 30; refine (zW c _ i E f x hx).mono ?_; rintro e m ⟨_ | _,rfl,b⟩
 ·go_wp2_with fail
  go_at_call 12; refine (xS c _ i E b.2.here).mono ?_; rintro e n ⟨rfl,g,j,l⟩; go_wp2; refine bodyPost_end (results_none rfl _ _ _) rfl ?_
  exact ⟨_,i,g,rfl,trivial,KS.on b.2 l,Nat.le_refl _,fun e => absurd e j⟩
 ·go_wp2
  refine bodyPost_end (results_none rfl _ _ _) rfl ?_
  exact ⟨_,i + 1,E,rfl,trivial,b.2.2,by omega,fun e => ⟨e,Nat.le_refl _⟩⟩
theorem xD : Calls Tryz.prog 29 #[.pointer (some ⟨c.rb,0,none⟩)] w (Kr c w i E 1 fun _ E' v => ∃ x : Bs,v = .string ⟨x.toArray⟩ /\ x.length <= maxLen /\ (E' = 0 -> x ≠ [])) := by
 have n := zb h; clear h
 go_enter Tryz.func29,Tryz.ntmps29
 go_wp2_with fail; go_at_call 10; refine (yX c _ i E n).mono ?_; rintro e y ⟨rfl,j⟩; have g := n.grown j; cases f : E == 0
 ·go_wp2_with fail
  go_at_call 12; refine (xS c _ i E g.here).mono ?_; rintro e r ⟨rfl,E',f,b⟩; go_wp2
  go_ret
  exact ⟨_,i,E',rfl,⟨[],rfl,by decide,fun h => absurd h f⟩,g.on b,Nat.le_refl _,fun h => absurd h f⟩
 ·have f : E = 0 := by simpa using f
  go_wp2_with fail; go_at_call 11; refine (yv c _ i E g.here).mono ?_; rintro e r ⟨rfl,l⟩; have b := g.grown l; go_wp2_with fail; go_at_call 57; refine (vT ⟨(c.W i).toArray⟩ c.ka c.kc _ (by have := b.sh i; unfold maxLen; simp [ByteArray.size]; omega) b.kp).mono ?_; rintro e _ ⟨rfl,rfl⟩; cases p : yB (c.W i)
  ·go_wp2_with fail
   go_at_call 12; refine (xS c _ i E b.here).mono ?_; rintro e A ⟨rfl,E',f,s⟩; go_wp2
   go_ret
   exact ⟨_,i,E',rfl,⟨[],rfl,by decide,fun h => absurd h f⟩,b.on s,Nat.le_refl _,fun h => absurd h f⟩
  ·have q : Hid (c.W i ≠ []) := fun e => by
    rw [e] at p
    revert p
    decide
   have c0 := b.c0; have c1 := b.c1; have z := b.z; have t := b.il; have B := b.few.1; have C := (b.tk i t).1; have u : Hid ((c.W i).length <= maxLen) := Nat.le_trans (b.sh i) (by decide); have m := zb b; clear g b; go_wp2
   go_quiet (fail)
   go_wp2
   go_ret
   exact ⟨_,i + 1,E,rfl,⟨c.W i,rfl,u,fun _ => q⟩,(m.inc q).drewN _,by omega,fun _ => ⟨f,Nat.le_refl _⟩⟩
theorem uC : Calls Tryz.prog 60 #[.pointer (some ⟨c.rb,0,none⟩)] w (Kr c w i E 0 fun _ _ _ => True) := by
 have b := zb h; obtain ⟨d,c2⟩ := h.c2; have z := h.z; clear h
 go_enter Tryz.func60,Tryz.ntmps60
 go_wp2_with fail
 ·go_at_call 34
  have p := b.own (o := 2) (i' := i) (E' := E) (wrap64 (d + 1)) (by decide) (by simp) (by simp) b.il; refine (ud c _ i E p.here _ (by decide)).mono ?_; rintro e j ⟨rfl,E',f,g⟩; go_wp2; refine bodyPost_end (results_none rfl _ _ _) rfl ?_
  exact ⟨_,i,E',rfl,trivial,p.on g,Nat.le_refl _,fun h => absurd h f⟩
 ·refine bodyPost_end (results_none rfl _ _ _) rfl ?_
  exact ⟨_,i,E,rfl,trivial,b.own _ (by decide) (by simp) (by simp) b.il,Nat.le_refl _,fun h => ⟨h,Nat.le_refl _⟩⟩
end
theorem pM (n : Int) : -9223372036854775808 <= wrap64 n /\ wrap64 n <= 9223372036854775807 := by unfold wrap64; omega
set_option maxRecDepth 100000 in
set_option maxHeartbeats 400000 in
theorem qM (c : KC) (w : World) (i : Nat) (E : Int) (h : KS c w w i E) : Calls Tryz.prog 138 #[.pointer (some ⟨c.rb,0,none⟩)] w (Kr c w i E 1 fun _ _ v => ∃ m,v = .int .i64 m /\ -9223372036854775808 <= m /\ m <= 9223372036854775807) := by
 obtain ⟨sb,hsb⟩ : ∃ sb : ByteArray,sb = ⟨(c.W i).toArray⟩ := ⟨_,rfl⟩; have HW := zb (yv c w i E h); rw [<- hsb] at HW
 have hz : sb.size = (c.W i).length := by rw [hsb]; simp [ByteArray.size]
 have hsh := h.sh i; have HP := zb h; clear h hsb
 go_enter Tryz.func138,Tryz.ntmps138
 go_wp2_with fail; go_at_call 11; refine HW.out.mono ?_; rintro e w1 ⟨rfl,hg1⟩; go_wp2_with fail; go_at_call 10; refine (yX c _ i E (HP.out.grown hg1).here).mono ?_; rintro e w2 ⟨rfl,hg2⟩; have p2 := (HP.out.grown hg1).grown hg2; have emp := xX sb
 by_cases h0 : 0 < sb.size
 ·have hemp : sb.toList.isEmpty = false := by rw [emp]; simp only [decide_eq_false_iff_not]; omega
  have HN : Hid (c.W i ≠ []) := zb (fun e => by rw [e] at hz; exact absurd h0 (by rw [hz]; simp)); have hl := p2.il; have hf := p2.few.1; have c1 := p2.c1; have z := p2.z; have HP2 := zb p2; clear emp p2 HW HP; cases hE : E == 0
  ·go_wp2_with fail
   go_at_call 12; refine (xS c _ i E HP2.out.here).mono ?_; rintro e w3 ⟨rfl,E',hE,p3⟩; go_wp2
   go_ret
   exact ⟨_,i,E',rfl,⟨0,rfl,by decide⟩,HP2.out.on p3,Nat.le_refl _,fun h => absurd h hE⟩
  ·go_wp2_with (go_at_call 24; refine (xU _ _).mono ?_; rintro e _ ⟨rfl,rfl⟩; cases hd : yq ((sb[0]'h0).toNat : Int))
   ·go_at_call 12
    refine (xS c _ i E HP2.out.here).mono ?_; rintro e w3 ⟨rfl,E',hE,p3⟩; go_wp2
    go_ret
    exact ⟨_,i,E',rfl,⟨0,rfl,by decide⟩,HP2.out.on p3,Nat.le_refl _,fun h => absurd h hE⟩
   ·go_loop [4,5] (fun n j => ∃ (k : Nat) (m : Int),n = .int .i64 m /\ j = .int .i64 k /\ k <= sb.size /\ -9223372036854775808 <= m /\ m <= 9223372036854775807) (fun _ j => sb.size - (intOf j).toNat)
    case atStart => exact ⟨0,0,rfl,rfl,by omega,by decide⟩
    case round =>
     obtain ⟨k,m,rfl,rfl,hk,hm⟩ := hrel
     by_cases hlt : k < sb.size
     ·go_wp2
      exact ⟨⟨k + 1,_,rfl,by go_num,by omega,pM _⟩,by simp [intOf]; omega⟩
     ·go_wp2
      go_ret
      exact ⟨_,i + 1,E,rfl,⟨m,rfl,hm⟩,HP2.out.inc HN.out,by omega,fun _ => ⟨by simpa using hE,Nat.le_refl _⟩⟩
 ·obtain rfl : sb = ⟨#[]⟩ := by
   obtain ⟨d⟩ := sb; have : d = #[] := Array.eq_empty_of_size_eq_zero (by simp only [ByteArray.size] at h0; omega); rw [this]
  cases hE : E == 0
  all_goals
   go_wp2_with fail; go_at_call 12; refine (xS c _ i E p2.here).mono ?_; rintro e w3 ⟨rfl,E',hE,p3⟩; go_wp2
   go_ret
   exact ⟨_,i,E',rfl,⟨0,rfl,by decide⟩,p2.on p3,Nat.le_refl _,fun h => absurd h hE⟩
inductive FT : T -> Prop
 | mk (t : T) (h : Fits t) (s : ∀ u,u ∈ t.subs -> FT u) : FT t
def FL (l : List T) : Prop := ∀ t,t ∈ l -> FT t
theorem FL.nil : FL [] := fun _ h => by cases h
theorem FL.app {l l' : List T} (h : FL l) (h' : FL l') : FL (l ++ l') := fun t ht => (List.mem_append.1 ht).elim (h t) (h' t)
theorem FL.cons {t : T} {l : List T} (h : FT t) (h' : FL l) : FL (t :: l) := fun u hu => (List.mem_cons.1 hu).elim (fun e => e ▸ h) (h' u)
theorem ft {k m p : Int} {x : Bs} {l : List T} (hl : FL l) (hx : x.length <= maxLen := by first | assumption | decide) (hk : -9223372036854775808 <= k /\ k <= 9223372036854775807 := by first | assumption | decide) (hm : -9223372036854775808 <= m /\ m <= 9223372036854775807 := by first | assumption | decide) : FT (.mk k x m p l) :=
 .mk _ ⟨hx,hk.1,hk.2,hm.1,hm.2⟩ hl
theorem AT.of {w : World} {S : Nat -> Prop} {ts : List T} {v : Value} (h : LR w S ts v) (hf : FL ts) : AT w ts v := by
 induction h with
 | mk S ts v svs hl own inS sub ih =>
  have key : ∀ (g : Nat) (c : Nat),v = .slice (some ⟨g,0,none⟩) ts.length c -> ∀ (i : Nat) (t : T) (sv : Value),ts[i]? = some t -> svs[i]? = some sv -> Node5 w g (0 + i * 5) t sv := by
   intro g c e i t sv h1 h2; subst e; have hi : i < ts.length := (List.getElem?_eq_some_iff.1 h1).1
   have k : ∀ j,j < 5 -> w.cell? ⟨g,i * 5 + j,none⟩ = (uy t sv)[j]? := fun j hj => (own.cellAt (i * 5 + j) (by omega)).trans (uQ ts svs i t sv j hl h1 h2 hj)
   rw [Nat.zero_add]
   exact ⟨k 0 (by omega),k 1 (by omega),k 2 (by omega),k 3 (by omega),k 4 (by omega)⟩
  rcases own.2 with ⟨rfl,h0⟩ | ⟨g,cap,cur,rfl,hx⟩
  ·obtain rfl : ts = [] := List.length_eq_zero_iff.1 h0
   exact .nil _ _ (by decide)
  ·refine .mk ts g 0 cap svs hl hx.2.2.1 hx.2.2.2.1 (fun i t sv h1 h2 => ⟨key g cap rfl i t sv h1 h2,?_⟩) (fun i t sv h1 h2 => ih i t sv h1 h2 ?_)
   all_goals
    cases hf t (List.mem_of_getElem? h1) with
    | mk _ a b => first | exact a | exact b
def KT (lo : Nat) (w : World) (_ : Int) (v : Value) : Prop := ∃ k x m p l ad cp,v = .agg #[.int .i64 k,.string ⟨List.toArray x⟩,.int .i64 m,.int .i64 p,.slice ad (List.length l) cp] /\ FT (.mk k x m p l) /\ LR w (In lo w.heap.size) l (.slice ad l.length cp)
def KOK (c : KC) (f k m : Nat) : Prop := ∀ (w : World) (i : Nat) (E : Int),KS c w w i E -> c.n <= i + m -> Calls Tryz.prog f #[.pointer (some ⟨c.rb,0,none⟩)] w (Kr c w i E k (KT w.heap.size))
def Kq (c : KC) (a w : World) (i : Nat) (E : Int) (k : Nat) (enc : World -> Int -> Value -> Prop) (e : Ending) (w' : World) : Prop :=
 ∃ v i' E',e = .returned v /\ enc w' E' v /\ KS c a w' i' E' /\ w.grownBy w' (some c.rb) /\ i <= i' /\ (E' = 0 -> E = 0 /\ i + k <= i')
section
variable {c : KC} {a w w' : World} {i k f : Nat} {E : Int} {args : Array Value} {enc : World -> Int -> Value -> Prop} {v : Value} {x : Bs}
theorem kc (h : KS c a w i E) (q : KS c w w i E -> Calls Tryz.prog f args w (Kr c w i E k enc)) : Calls Tryz.prog f args w (Kq c a w i E k enc) := (q h.here).mono fun _ _ ⟨v,i',E',e1,e2,e3,e4⟩ => ⟨v,i',E',e1,e2,h.on e3,e3.g,e4⟩
theorem kt (h : KS c a w i E) (q : KS c w w i E -> Calls Tryz.prog f args w (Kr c w i E k (KT w.heap.size))) : Calls Tryz.prog f args w (Kq c a w i E k fun w' E' v => ∃ g,g = w.heap.size /\ KT g w' E' v) := (kc h q).mono fun _ _ ⟨v,i',E',e1,e2,e3⟩ => ⟨v,i',E',e1,⟨_,rfl,e2⟩,e3⟩
theorem kn (h : KS c a w i E) (q : KS c w w i E -> Calls Tryz.prog f args w fun e w' => e = .returned v /\ w.grownBy w' none) : Calls Tryz.prog f args w fun e w' => e = .returned v /\ KS c a w' i E /\ w.grownBy w' (some c.rb) := (q h.here).mono fun _ _ ⟨e1,e2⟩ => ⟨e1,h.grown e2,rq e2 _⟩
theorem ki (h : KS c a w i E) (q : KS c w w i E -> Calls Tryz.prog f args w (Ki c w i E x)) : Calls Tryz.prog f args w fun e w' => ∃ i',KS c a w' i' E /\ w.grownBy w' (some c.rb) /\ (e = .returned (.bool false) /\ i' = i \/ e = .returned (.bool true) /\ E = 0 /\ i' = i + 1) := (q h.here).mono fun _ _ ⟨b,e1,e2⟩ => by
 cases b
 ·exact ⟨i,h.on e2.2,e2.2.g,.inl ⟨e1,rfl⟩⟩
 ·exact ⟨i + 1,h.on e2.2.2,e2.2.2.g,.inr ⟨e1,e2.2.1,rfl⟩⟩
theorem kj (h : KS c a w i E) (q : KS c w w i E -> Calls Tryz.prog f args w (Ki c w i E x)) : Calls Tryz.prog f args w fun e w' => ∃ b i',e = .returned (.bool b) /\ KS c a w' i' E /\ w.grownBy w' (some c.rb) /\ (b = false /\ i' = i \/ b = true /\ E = 0 /\ i' = i + 1) := (ki h q).mono fun _ _ ⟨i',e1,e2,e3⟩ => e3.elim (fun e => ⟨_,i',e.1,e1,e2,.inl ⟨rfl,e.2⟩⟩) (fun e => ⟨_,i',e.1,e1,e2,.inr ⟨rfl,e.2⟩⟩)
theorem kx (h : KS c a w i E) (q : KS c w w i E -> Calls Tryz.prog f args w fun e w' => e = .returned v /\ ∃ E',E' ≠ 0 /\ KS c w w' i E') : Calls Tryz.prog f args w fun e w' => e = .returned v /\ ∃ E',E' ≠ 0 /\ KS c a w' i E' /\ w.grownBy w' (some c.rb) := (q h.here).mono fun _ _ ⟨e1,E',e2,e3⟩ => ⟨e1,E',e2,h.on e3,e3.g⟩
theorem KS.lev (h : KS c a w i E) (v : Int) : KS c a (w.setCell ⟨c.rb,2,none⟩ (.int .i64 v)) i E := h.own v (by decide) (by simp) (by simp) h.il
theorem KS.ev (h : KS c a w i E) (e : KS c a w i E -> KS c a w' i E := by intro h; repeat' (first | with_reducible exact h | with_reducible refine KS.put ?_ (by omega) _ _ | with_reducible refine KS.lev ?_ _ | with_reducible refine KS.alloc ?_ _ | with_reducible refine KS.drewN ?_ _ | with_reducible refine KS.drew ?_)) : KS c a w' i E := e h
end
theorem RB.ev {w w' : World} {b : Nat} (h : RB w b) (e : RB w b -> RB w' b := by intro h; repeat' (first | with_reducible exact h | with_reducible refine RB.put ?_ _ _ _ | with_reducible refine RB.alloc ?_ _ | with_reducible refine RB.drewN ?_ _ | with_reducible refine RB.drew ?_)) : RB w' b := e h
def vH (w : World) (b n : Nat) : Nat := match w.cell? ⟨b,1,none⟩,w.cell? ⟨b,3,none⟩ with
 | some (.int _ i),some (.int _ E) => if E = 0 then n + 1 - i.toNat else 0
 | _,_ => 0
theorem KS.left {c : KC} {a w : World} {i : Nat} {E : Int} (h : KS c a w i E) : vH w c.rb c.n = if E = 0 then c.n + 1 - i else 0 := by
 unfold vH
 rw [h.c1,h.c3]
 simp
theorem KS.less {c : KC} {a b w w' : World} {i i' : Nat} {E E' : Int} (h : KS c a w i E) (hE : E = 0) (h' : KS c b w' i' E') (hi : E' = 0 -> i < i') : vH w' c.rb c.n < vH w c.rb c.n := by
 have := h.il; rw [h.left,h'.left,if_pos hE]
 split
 ·have := hi (by assumption)
  omega
 ·omega
def Ho (lo hi b : Nat) : Nat -> Prop := fun k => (lo <= k /\ k < hi) /\ k ≠ b
abbrev i64 (k : Int) : Prop := -9223372036854775808 <= k /\ k <= 9223372036854775807
structure KN (w : World) (b lo hi N : Nat) (k : Int) (x : Bs) (m p : Int) (l : List T) (sv : Value) : Prop where
 nb : NB w b (.int .i64 k) (.string ⟨x.toArray⟩) (.int .i64 m) (.int .i64 p) sv
 lr : LR w (Ho lo hi b) l sv
 fl : FL l
 hw : hi <= w.heap.size
 hx : x.length <= maxLen
 hk : i64 k
 hm : i64 m
 len : l.length <= N
def KX (w : World) (b lo hi N : Nat) : Prop := ∃ k x m p l sv,KN w b lo hi N k x m p l sv
theorem FT.all {k m p : Int} {x : Bs} {l : List T} (h : FT (.mk k x m p l)) : x.length <= maxLen /\ i64 k /\ i64 m /\ FL l := by
 cases h with
 | mk _ a b => exact ⟨a.name,⟨a.k1,a.k2⟩,⟨a.n1,a.n2⟩,b⟩
section
variable {w w' : World} {b lo hi o b' N : Nat} {u v : Value}
theorem KX.c (h : KX w b lo hi N) : ∃ (k : Int) (x : Bs) (m p : Int) (ad : Option Addr) (ln cp : Nat),b < w.heap.size /\ x.length <= maxLen /\ ln <= N /\ w.cell? ⟨b,0,none⟩ = some (.int .i64 k) /\ w.cell? ⟨b,1,none⟩ = some (.string ⟨x.toArray⟩) /\ w.cell? ⟨b,2,none⟩ = some (.int .i64 m) /\ w.cell? ⟨b,3,none⟩ = some (.int .i64 p) /\ w.cell? ⟨b,4,none⟩ = some (.slice ad ln cp) /\ ∀ o,w.frozen? ⟨b,o,none⟩ = false := by
 obtain ⟨k,x,m,p,l,e,h⟩ := h; obtain ⟨ad,cp,rfl⟩ := h.lr.form
 exact ⟨_,_,_,_,_,_,_,h.nb.lt,h.hx,h.len,h.nb.c0,h.nb.c1,h.nb.c2,h.nb.c3,h.nb.c4,h.nb.z⟩
theorem KX.rb (h : KX w b lo hi N) : RB w b := by
 obtain ⟨_,_,_,_,_,_,h⟩ := h
 exact h.nb.rb
theorem KX.new {k m p : Int} {x : Bs} {t : TypeId} {b : Nat} (hb : b = w.heap.size := by first | rfl | simp) (hx : x.length <= maxLen := by first | assumption | decide) (hk : i64 k := by first | assumption | decide) (hm : i64 m := by first | assumption | decide) : KX (w.alloc (.cells #[.int .i64 k,.string ⟨x.toArray⟩,.int .i64 m,.int .i64 p,.slice none 0 0] t)) b (b + 1) (b + 1) N :=
 ⟨k,x,m,p,[],_,NB.new' hb,LR.nil _ _,FL.nil,by subst hb; simp,hx,hk,hm,by simp⟩
theorem KX.kept {row : Option Nat} (h : KX w b lo hi N) (hg : w.grownBy w' row) (h1 : some b ≠ row) (h2 : ∀ g,row = some g -> g < lo \/ hi <= g) : KX w' b lo hi N := by
 obtain ⟨k,x,m,p,l,j,h⟩ := h
 exact ⟨k,x,m,p,l,j,h.nb.kept hg h1,h.lr.kept hg (fun g e hs => by have n := hs.1; have := h2 g e; omega),h.fl,Nat.le_trans h.hw hg.size,h.hx,h.hk,h.hm,h.len⟩
theorem KX.call (h : KX w b lo hi N) (hg : w.grownBy w' (some b')) (hb : b' < b := by omega) (hl : b' < lo := by omega) : KX w' b lo hi N := h.kept hg (by simp; omega) (fun g e => by cases e; exact .inl hl)
theorem KX.alloc (h : KX w b lo hi N) (o : Obj) : KX (w.alloc o) b lo hi N := h.kept (World.grownBy_alloc w o none) (by simp) (fun _ e => by cases e)
theorem KX.drewN (h : KX w b lo hi N) (n : Nat) : KX (w.drewN n) b lo hi N := h.kept (yl (zj w none) n) (by simp) (fun _ e => by cases e)
theorem KX.drew (h : KX w b lo hi N) : KX w.drew b lo hi N := h.drewN 1
theorem KX.far (h : KX w b lo hi N) (h1 : b' ≠ b) (h2 : b' < lo \/ hi <= b') (o : Nat) (u : Value) : KX (w.setCell ⟨b',o,none⟩ u) b lo hi N := h.kept (z6 (zj w (some b')) o u) (by simp; omega) (fun g e => by cases e; exact h2)
theorem LR.mine {l : List T} (h : LR w (Ho lo hi b) l v) (o : Nat) (u : Value) : LR (w.setCell ⟨b,o,none⟩ u) (Ho lo hi b) l v := h.kept (z6 (zj w (some b)) o u) (fun g e hs => by cases e; exact hs.2 rfl)
theorem KX.s0 (h : KX w b lo hi N) (k : Int) (hk : i64 k) : KX (w.setCell ⟨b,0,none⟩ (.int .i64 k)) b lo hi N := by
 obtain ⟨_,x,m,p,l,e,h⟩ := h
 exact ⟨k,x,m,p,l,e,h.nb.s0 _,h.lr.mine _ _,h.fl,by simpa [World.setCell] using h.hw,h.hx,hk,h.hm,h.len⟩
theorem KX.s1 (h : KX w b lo hi N) (x : Bs) (hx : x.length <= maxLen) : KX (w.setCell ⟨b,1,none⟩ (.string ⟨x.toArray⟩)) b lo hi N := by
 obtain ⟨k,_,m,p,l,e,h⟩ := h
 exact ⟨k,x,m,p,l,e,h.nb.s1 _,h.lr.mine _ _,h.fl,by simpa [World.setCell] using h.hw,hx,h.hk,h.hm,h.len⟩
theorem KX.s2 (h : KX w b lo hi N) (m : Int) (hm : i64 m) : KX (w.setCell ⟨b,2,none⟩ (.int .i64 m)) b lo hi N := by
 obtain ⟨k,x,_,p,l,e,h⟩ := h
 exact ⟨k,x,m,p,l,e,h.nb.s2 _,h.lr.mine _ _,h.fl,by simpa [World.setCell] using h.hw,h.hx,h.hk,hm,h.len⟩
theorem KX.s4 {hi' lo' M : Nat} {l : List T} (h : KX w b lo' hi M) (hl : LR w (Ho lo hi' b) l v) (hf : FL l) (h2 : hi' <= w.heap.size) (h3 : l.length <= N) : KX (w.setCell ⟨b,4,none⟩ v) b lo hi' N := by
 obtain ⟨k,x,m,p,_,_,h⟩ := h
 exact ⟨k,x,m,p,l,v,h.nb.s4 _,hl.mine _ _,hf,by simpa [World.setCell] using h2,h.hx,h.hk,h.hm,h3⟩
theorem KX.more {M : Nat} (h : KX w b lo hi M) (hm : M <= N := by omega) : KX w b lo hi N := by
 obtain ⟨k,x,m,p,l,e,h⟩ := h
 exact ⟨k,x,m,p,l,e,{ h with len := Nat.le_trans h.len hm }⟩
theorem KX.wide {lo' hi' : Nat} (h : KX w b lo hi N) (h1 : lo' <= lo := by omega) (h2 : hi <= hi' := by omega) (h3 : hi' <= w.heap.size := by omega) : KX w b lo' hi' N := by
 obtain ⟨k,x,m,p,l,e,h⟩ := h
 exact ⟨k,x,m,p,l,e,{ h with lr := h.lr.mono (fun j hj => ⟨⟨by have := hj.1; omega,by have := hj.1; omega⟩,hj.2⟩),hw := h3 }⟩
theorem KX.ev (h : KX w b lo hi N) (e : KX w b lo hi N -> KX w' b lo hi N := by intro h; repeat' (first | with_reducible exact h | with_reducible refine KX.s0 ?_ _ (by first | assumption | decide) | with_reducible refine KX.s1 ?_ _ (by assumption) | with_reducible refine KX.s2 ?_ _ (by first | assumption | decide) | with_reducible refine KX.far ?_ (by omega) (by omega) _ _ | with_reducible refine KX.alloc ?_ _ | with_reducible refine KX.drewN ?_ _ | with_reducible refine KX.drew ?_)) : KX w' b lo hi N := e h
theorem RB.call (h : RB w b) (hg : w.grownBy w' (some b')) (hb : b' < b := by omega) : RB w' b := h.kept hg (by simp; omega)
theorem RB.k {w1 : World} (h : RB w b) (hg : w1.grownBy w' (some b')) (e : RB w b -> RB w1 b := by intro h; repeat' (first | with_reducible exact h | with_reducible refine RB.put ?_ _ _ _ | with_reducible refine RB.alloc ?_ _ | with_reducible refine RB.drewN ?_ _ | with_reducible refine RB.drew ?_)) (hb : b' < b := by omega) : RB w' b := (e h).call hg hb
theorem KX.k {w1 : World} (h : KX w b lo hi N) (hg : w1.grownBy w' (some b')) (e : KX w b lo hi N -> KX w1 b lo hi N := by intro h; repeat' (first | with_reducible exact h | with_reducible refine KX.s0 ?_ _ (by first | assumption | decide) | with_reducible refine KX.s1 ?_ _ (by assumption) | with_reducible refine KX.s2 ?_ _ (by first | assumption | decide) | with_reducible refine KX.far ?_ (by omega) (by omega) _ _ | with_reducible refine KX.alloc ?_ _ | with_reducible refine KX.drewN ?_ _ | with_reducible refine KX.drew ?_)) (hb : b' < b := by omega) (hl : b' < lo := by omega) : KX w' b lo hi N := (e h).call hg hb hl
theorem KX.sl (e : w = w') (h : KX w b lo hi N) : KX w' b lo hi N := e ▸ h
theorem RB.sl (e : w = w') (h : RB w b) : RB w' b := e ▸ h
theorem KS.sl {c : KC} {a : World} {i : Nat} {E : Int} (e : w = w') (h : KS c a w i E) : KS c a w' i E := e ▸ h
inductive KC16 (w : World) (b N : Nat) : Prop
 | mk (k : Int) (x : Bs) (m p : Int) (ad : Option Addr) (ln cp : Nat) (h0 : b < w.heap.size) (h1 : x.length <= maxLen) (h2 : ln <= N) (c0 : w.cell? ⟨b,0,none⟩ = some (.int .i64 k)) (c1 : w.cell? ⟨b,1,none⟩ = some (.string ⟨x.toArray⟩)) (c2 : w.cell? ⟨b,2,none⟩ = some (.int .i64 m)) (c3 : w.cell? ⟨b,3,none⟩ = some (.int .i64 p)) (c4 : w.cell? ⟨b,4,none⟩ = some (.slice ad ln cp)) (z : ∀ o,w.frozen? ⟨b,o,none⟩ = false) : KC16 w b N
theorem KX.cc (h : KX w b lo hi N) : KC16 w b N := by
 obtain ⟨k,x,m,p,e,g,j,l,n,q,r,s,t,y,A,z⟩ := h.c
 exact ⟨k,x,m,p,e,g,j,l,n,q,r,s,t,y,A,z⟩
inductive KC11 (w : World) (b : Nat) : Prop
 | mk (v0 v1 v2 v3 v4 : Value) (c0 : w.cell? ⟨b,0,none⟩ = some v0) (c1 : w.cell? ⟨b,1,none⟩ = some v1) (c2 : w.cell? ⟨b,2,none⟩ = some v2) (c3 : w.cell? ⟨b,3,none⟩ = some v3) (c4 : w.cell? ⟨b,4,none⟩ = some v4) (z : ∀ o,w.frozen? ⟨b,o,none⟩ = false) : KC11 w b
theorem RB.d (h : RB w b) : KC11 w b := by
 obtain ⟨e,g,j,l,m,n,p,q,r,s,z⟩ := h
 exact ⟨e,g,j,l,m,n,p,q,r,s,z⟩
theorem LR.ho {l : List T} (h : LR w (In lo hi) l v) (hb : b < lo \/ hi <= b := by omega) {lo' hi' : Nat} (h1 : lo' <= lo := by omega) (h2 : hi <= hi' := by omega) : LR w (Ho lo' hi' b) l v := h.mono (fun j hj => by have h3 : lo <= j := hj.1; have h4 : j < hi := hj.2; exact ⟨⟨by omega,by omega⟩,by omega⟩)
theorem KX.one {k m p : Int} {x : Bs} {l : List T} {sv : Value} {g g0 M lo' : Nat} (h : KX w b lo' hi M) (ht : FT (.mk k x m p l)) (hl : LR w (In g0 w.heap.size) l sv) (h0 : lo <= g0 := by omega) (hb : b < g0 := by omega) (hg : g = w.heap.size := by rfl) (h1 : g0 <= w.heap.size := by omega) (h2 : 1 <= N := by omega) : KX ((w.setCell ⟨b,4,none⟩ (.slice (some ⟨g,0,none⟩) 1 1)).alloc (.cells #[.int .i64 k,.string ⟨x.toArray⟩,.int .i64 m,.int .i64 p,sv] 24)) b lo (g + 1) N := by
 subst hg; obtain ⟨j,n,q,r,_,_,h⟩ := h
 have e : (w.setCell ⟨b,4,none⟩ (.slice (some ⟨w.heap.size,0,none⟩) 1 1)).heap.size = w.heap.size := by simp [World.setCell]
 exact ⟨j,n,q,r,[.mk k x m p l],_,(h.nb.s4 _).alloc _,LR.ho (b := b) (LR.build1 (lo := g0) _ (t := .mk k x m p l) (sv := sv) (hl.put (.inl hb) _ _) e.symm rfl h1) (.inl hb) h0 (Nat.le_refl _),FL.cons ht FL.nil,by simp [World.setCell],h.hx,h.hk,h.hm,h2⟩
end
theorem KX.tree {w w' : World} {b r lo hi q N : Nat} {k m p : Int} {x : Bs} {ad : Option Addr} {ln cp : Nat} (h : KX w b lo hi N) (c0 : w.cell? ⟨b,0,none⟩ = some (.int .i64 k)) (c1 : w.cell? ⟨b,1,none⟩ = some (.string ⟨x.toArray⟩)) (c2 : w.cell? ⟨b,2,none⟩ = some (.int .i64 m)) (c3 : w.cell? ⟨b,3,none⟩ = some (.int .i64 p)) (c4 : w.cell? ⟨b,4,none⟩ = some (.slice ad ln cp))
  (hg : w.grownBy w' (some r)) (hr : r < lo \/ hi <= r) (hq : q <= lo) {E : Int} : KT q w' E (.agg #[.int .i64 k,.string ⟨x.toArray⟩,.int .i64 m,.int .i64 p,.slice ad ln cp]) := by
 obtain ⟨C,D,F,G,l,s,h⟩ := h; have t := h.nb.c0.symm.trans c0; have y := h.nb.c1.symm.trans c1; have z := h.nb.c2.symm.trans c2; have A := h.nb.c3.symm.trans c3; have B := h.nb.c4.symm.trans c4; cases t; cases y; cases z; cases A; cases B; obtain ⟨_,_,e⟩ := h.lr.form; cases e; have n := hg.size; have hw := h.hw
 exact ⟨_,_,_,_,l,_,_,rfl,ft h.fl h.hx h.hk h.hm,(h.lr.kept hg (fun g e n => by cases e; have := n.1; omega)).mono (fun j hj => ⟨by have := hj.1; omega,by have := hj.1; omega⟩)⟩
theorem xi {c : KC} {w w1 : World} {i i' k b r lo hi N : Nat} {E E' : Int} {fn : Func} {p : Tmp} {act : Act} {k0 m0 p0 : Int} {x0 : Bs} {ad : Option Addr} {ln cp : Nat} (hf : fn.results = #[.cell p 24]) (h : KS c w w1 i' E') (n : KX w1 b lo hi N) (hr : RB w1 r)
  (hp : act.tmps[p]?.getD undef = .pointer (some ⟨r,0,none⟩) := by rfl) (hd : act.defers = [] := by rfl) (c0 : w1.cell? ⟨b,0,none⟩ = some (.int .i64 k0) := by first | assumption | go_simp) (c1 : w1.cell? ⟨b,1,none⟩ = some (.string ⟨x0.toArray⟩) := by first | assumption | go_simp) (c2 : w1.cell? ⟨b,2,none⟩ = some (.int .i64 m0) := by first | assumption | go_simp) (c3 : w1.cell? ⟨b,3,none⟩ = some (.int .i64 p0) := by first | assumption | go_simp) (c4 : w1.cell? ⟨b,4,none⟩ = some (.slice ad ln cp) := by first | assumption | go_simp)
  (h1 : w.heap.size <= r := by omega) (h2 : r < lo \/ hi <= r := by omega) (h3 : w.heap.size <= lo := by omega) (h4 : i <= i' := by omega) (h5 : E' = 0 -> E = 0 /\ i + k <= i' := by omega) :
  bodyPost Tryz.prog fn (Kr c w i E k (KT w.heap.size)) .ret act (((((w1.setCell ⟨r,0,none⟩ (.int .i64 k0)).setCell ⟨r,1,none⟩ (.string ⟨x0.toArray⟩)).setCell ⟨r,2,none⟩ (.int .i64 m0)).setCell ⟨r,3,none⟩ (.int .i64 p0)).setCell ⟨r,4,none⟩ (.slice ad ln cp)) :=
 zP hf hp (RB.five hr) hd ⟨_,i',E',rfl,n.tree c0 c1 c2 c3 c4 (z6 (z6 (z6 (z6 (z6 (zj w1 (some r)) _ _) _ _) _ _) _ _) _ _) h2 h3,h.ev,h4,h5⟩
set_option maxHeartbeats 1000000
theorem yP (c : KC) (w : World) (i : Nat) (E : Int) (p : KS c w w i E) : Calls Tryz.prog 59 #[.pointer (some ⟨c.rb,0,none⟩)] w (Kr c w i E 1 (KT w.heap.size)) := by
 have m := p.l1
 go_enter Tryz.func59,Tryz.ntmps59
 go_wp2_with fail; go_at_call 27; refine (kn p.ev fun h => yN c _ _ _ h).mono ?_; rintro _ a ⟨rfl,p,g⟩; have r := (RB.new w _).call g; have b := g.size
 simp at b
 go_wp2_with fail; go_at_call 29; refine (kc p.ev fun h => xD c _ _ _ h).mono ?_; rintro _ q ⟨_,s,t,rfl,⟨x,rfl,u,-⟩,p,g,v,z⟩; have r := r.k g; have n := (KX.new (N := 5)).call g; cases n.cc; have e := g.size
 simp at e
 go_wp2_with fail; go_at_call 30; refine (ki p.ev fun h => zW c _ _ _ h [46] (by simp)).mono ?_; rintro _ f ⟨A,p,g,⟨rfl,j⟩ | ⟨rfl,j⟩⟩
 all_goals
  have r := r.k g; have n := n.k g; cases n.cc; have l := g.size
  simp at l
 ·cases r.d
  go_wp2
  exact xi Tryz.results59 p.ev n.ev r.ev
 ·go_wp2_with fail
  go_at_call 29; refine (kc p.ev fun h => xD c _ _ _ h).mono ?_; rintro _ B ⟨_,C,D,rfl,⟨y,rfl,F,-⟩,p,g,G,H⟩; have r := r.k g; have n := (n.one (lo := a.heap.size + 1) (g0 := f.heap.size) (N := 5) (ft FL.nil) (LR.nil _ _)).call g; cases n.cc; cases r.d; go_wp2
  exact xi Tryz.results59 p.ev n.ev r.ev
theorem jL {a w w' : World} {row : Option Nat} {b : Nat} (h : a.grownBy w (some b)) (hg : w.grownBy w' row) (hb : ∀ k,row = some k -> a.heap.size <= k) : a.grownBy w' (some b) :=
 ⟨hg.os.trans h.os,hg.tape.trans h.tape,hg.output.trans h.output,Nat.le_trans h.size hg.size,fun k hk hne => (hg.block k (Nat.lt_of_lt_of_le hk h.size) (fun e => by have := hb k e.symm; omega)).trans (h.block k hk hne)⟩
section
variable {w w' : World} {b lo hi N b' : Nat} {k m p : Int} {x : Bs} {l : List T} {sv : Value}
theorem KX.o (h : KX w b lo hi N) : ∃ k x m p l ad cp,b < w.heap.size /\ hi <= w.heap.size /\ KN w b lo hi N k x m p l (.slice ad l.length cp) := by
 obtain ⟨k,x,m,p,l,sv,h⟩ := h; obtain ⟨ad,cp,rfl⟩ := h.lr.form
 exact ⟨k,x,m,p,l,ad,cp,h.nb.lt,h.hw,h⟩
theorem KN.call (h : KN w b lo hi N k x m p l sv) (hg : w.grownBy w' (some b')) (hb : b' < b := by omega) (hl : b' < lo := by omega) : KN w' b lo hi N k x m p l sv :=
 { h with nb := h.nb.kept hg (by simp; omega),lr := h.lr.kept hg (fun g e hs => by cases e; have := hs.1; omega),hw := Nat.le_trans h.hw hg.size }
theorem KN.drew (h : KN w b lo hi N k x m p l sv) : KN w.drew b lo hi N k x m p l sv := { h with nb := h.nb.drew,lr := h.lr.kept (ze (zj w none)) (fun _ e => by cases e) }
theorem KN.alloc (h : KN w b lo hi N k x m p l sv) (o : Obj) : KN (w.alloc o) b lo hi N k x m p l sv := { h with nb := h.nb.alloc o,lr := h.lr.kept (World.grownBy_alloc w o none) (fun _ e => by cases e),hw := Nat.le_trans h.hw (World.grownBy_alloc w o none).size }
theorem KN.ev (h : KN w b lo hi N k x m p l sv) (e : KN w b lo hi N k x m p l sv -> KN w' b lo hi N k x m p l sv := by intro h; repeat' (first | with_reducible exact h | with_reducible refine KN.alloc ?_ _ | with_reducible refine KN.drew ?_)) : KN w' b lo hi N k x m p l sv := e h
theorem KN.kx (h : KN w b lo hi N k x m p l sv) : KX w b lo hi N := ⟨_,_,_,_,_,_,h⟩
end
theorem KN.k {w w' w1 : World} {b lo hi N b' : Nat} {k m p : Int} {x : Bs} {l : List T} {sv : Value} (h : KN w b lo hi N k x m p l sv) (hg : w1.grownBy w' (some b')) (e : KN w b lo hi N k x m p l sv -> KN w1 b lo hi N k x m p l sv := by intro h; repeat' (first | with_reducible exact h | with_reducible refine KN.alloc ?_ _ | with_reducible refine KN.drew ?_)) (hb : b' < b := by omega) (hl : b' < lo := by omega) : KN w' b lo hi N k x m p l sv := (e h).call hg hb hl
theorem LR.buildH (w : World) {lo g b n : Nat} {ts : List T} {cs : Array Value} {svs : List Value} (hg : g = w.heap.size) (hn : n = ts.length) (hc : cs.toList = xg ts svs) (hl : svs.length = ts.length) (hlen : ts.length <= 5000) (hlo : lo <= g) (hb : b < g)
  (hs : ∀ (i : Nat) (t : T) (sv : Value),ts[i]? = some t -> svs[i]? = some sv -> LR w (Ho lo g b) t.subs sv) : LR (w.alloc (.cells cs 24)) (Ho lo (g + 1) b) ts (.slice (some ⟨g,0,none⟩) n n) := by
 subst hg hn
 have a : cs.size = ts.length * 5 := by rw [<- Array.length_toList,hc,yH _ _ hl]
 refine .mk _ _ _ svs hl ⟨yH _ _ hl,.inr ⟨w.heap.size,ts.length,cs,rfl,Nat.zero_le _,heap_alloc_new w _,Nat.le_refl _,by unfold maxLen; omega,a,?_⟩⟩ (fun j hj => ?_) (fun i t sv h1 h2 => ?_)
 ·rw [hc,<- yH _ _ hl,List.take_length]
 ·cases hj
  exact ⟨⟨hlo,Nat.lt_succ_self _⟩,Nat.ne_of_gt hb⟩
 ·refine ((hs i t sv h1 h2).kept (World.grownBy_alloc w _ none) (fun _ e => by cases e)).mono (fun k hk => ⟨⟨⟨hk.1.1,Nat.lt_succ_of_lt hk.1.2⟩,hk.2⟩,fun e => ?_⟩)
  have f := hk.1.2
  simp [Value.ownBlock] at e
  omega
theorem KX.two {w : World} {b lo hi N g0 g cp cp0 : Nat} {k k0 k' m m0 m' p p0 p' : Int} {x x0 x' : Bs} {l l0 : List T} {ad ad0 : Option Addr} (n : KN w b lo hi N k x m p l (.slice ad l.length cp)) (hf : FT (.mk k0 x0 m0 p0 l0)) (hl : LR w (In g0 w.heap.size) l0 (.slice ad0 l0.length cp0)) (h1 : hi <= g0 := by omega) (h2 : b < g0 := by omega) (h3 : g0 <= w.heap.size := by omega) (h4 : lo <= g0 := by omega) (hg : g = w.heap.size := by rfl)
  (hx : x'.length <= maxLen := by first | assumption | decide) (hk : i64 k' := by decide) (hm : i64 m' := by decide) : KX ((((((w.setCell ⟨b,0,none⟩ (.int .i64 k')).setCell ⟨b,1,none⟩ (.string ⟨x'.toArray⟩)).setCell ⟨b,2,none⟩ (.int .i64 m')).setCell ⟨b,3,none⟩ (.int .i64 p')).setCell ⟨b,4,none⟩ (.slice (some ⟨g,0,none⟩) 2 2)).alloc (.cells #[.int .i64 k,.string ⟨x.toArray⟩,.int .i64 m,.int .i64 p,.slice ad l.length cp,.int .i64 k0,.string ⟨x0.toArray⟩,.int .i64 m0,.int .i64 p0,.slice ad0 l0.length cp0] 24)) b lo (g + 1) 2 := by
 subst hg; refine ⟨k',x',m',p',[.mk k x m p l,.mk k0 x0 m0 p0 l0],_,NB.alloc (RB.five n.nb.rb) _,LR.buildH _ (svs := [.slice ad l.length cp,.slice ad0 l0.length cp0]) (by simp [World.setCell]) rfl rfl rfl (by simp) (by omega) (by omega) (fun i t sv e1 e2 => ?_),FL.cons (ft n.fl n.hx n.hk n.hm) (FL.cons hf FL.nil),by simp [World.setCell],hx,hk,hm,by simp⟩
 match i,e1,e2 with
 | 0,e1,e2 =>
  cases e1; cases e2
  exact ((((n.lr.mine _ _).mine _ _).mine _ _).mine _ _).mine _ _ |>.mono (fun j hj => ⟨⟨hj.1.1,by have := hj.1.2; omega⟩,hj.2⟩)
 | 1,e1,e2 =>
  cases e1; cases e2
  exact (((((hl.ho (b := b) (lo' := lo) (hi' := w.heap.size) (.inl h2) h4 (Nat.le_refl _)).mine _ _).mine _ _).mine _ _).mine _ _).mine _ _
theorem pN {ops : Array Oper} {o : Oper} {act : Act} {K : Act -> World -> Prop} {Q : Exit -> Act -> World -> Prop} {E' : Prop} {c : KC} {a w : World} {i r b lo hi N g0 cp cp0 : Nat} {E k k0 m m0 p p0 : Int} {x x0 : Bs} {l l0 : List T} {ad ad0 : Option Addr} (hgd : o.guard = none) (s t : Operand)
  (ho : o.op = .call { callee := .builtin .append,args := #[s,t],argTypes := #[22,22] }) (h : KS c a w i E) (hr : RB w r) (n : KN w b lo hi N k x m p l (.slice ad l.length cp)) (hf : FT (.mk k0 x0 m0 p0 l0)) (hl : LR w (In g0 w.heap.size) l0 (.slice ad0 l0.length cp0))
  (hs : act.eval s = .slice ad l.length cp) (ht : act.eval t = .slice (some ⟨w.heap.size,0,none⟩) 1 1)
  (q : ∀ ad' ln' cp' w',KS c a w' i E -> RB w' r -> NB w' b (.int .i64 k) (.string ⟨x.toArray⟩) (.int .i64 m) (.int .i64 p) (.slice ad l.length cp) -> KX (w'.setCell ⟨b,4,none⟩ (.slice ad' ln' cp')) b lo w'.heap.size (N + 1) -> w.heap.size + 1 <= w'.heap.size ->
   (∃ row,(w.alloc (.cells #[.int .i64 k0,.string ⟨x0.toArray⟩,.int .i64 m0,.int .i64 p0,.slice ad0 l0.length cp0] 24)).grownBy w' row /\ ∀ g,row = some g -> lo <= g /\ g < hi /\ g ≠ b) -> K (act.put o.dst (.slice ad' ln' cp')) w')
  (h1 : hi <= g0 := by omega) (h2 : b < g0 := by omega) (h3 : g0 <= w.heap.size := by omega) (h4 : a.heap.size <= lo := by omega) (h5 : lo <= g0 := by omega) (h6 : r < lo \/ hi <= r := by omega) (h7 : N <= 9000 := by omega) :
  if Region.wanted o (yielded ops act.tmps) = true then Oper.wp Tryz.prog o act (w.alloc (.cells #[.int .i64 k0,.string ⟨x0.toArray⟩,.int .i64 m0,.int .i64 p0,.slice ad0 l0.length cp0] 24)) K Q else E' := by
 obtain ⟨_,_,_,u,_⟩ := n.lr.own
 have f : ∀ g,(Value.slice ad l.length cp).ownBlock = some g -> lo <= g /\ g < hi /\ g ≠ b := fun g e => ⟨(u g e).1.1,(u g e).1.2,(u g e).2⟩
 refine jP (v := .slice ad l.length cp) hgd s t ho (Ho lo (w.heap.size + 2) b) hs ht (n.lr.kept (World.grownBy_alloc w _ none) (fun _ e => by cases e)) (LR.build1 w (t := .mk k0 x0 m0 p0 l0) (sv := .slice ad0 l0.length cp0) hl rfl rfl h3)
  (fun j hj e => by have A := f j e; have D : g0 <= j := hj.1; omega) (fun j hj => ⟨⟨hj.1.1,by have A := hj.1.2; have := n.hw; omega⟩,hj.2⟩) (fun j hj => ⟨⟨by have A : g0 <= j := hj.1; omega,by have A : j < w.heap.size + 1 := hj.2; omega⟩,by have A : g0 <= j := hj.1; omega⟩) ⟨⟨by simp; omega,by simp⟩,by simp; omega⟩ (by have := n.len; simp; omega) ?_
 intro F w' lr y; obtain ⟨ad',cp',rfl⟩ := lr.form; have C := y.size; simp only [World.size_alloc] at C; have z := (n.nb.alloc _).kept y (fun e => (f b e.symm).2.2 rfl); have B : FL (l ++ [.mk k0 x0 m0 p0 l0]) := n.fl.app (FL.cons hf FL.nil)
 exact q ad' _ cp' w' ((h.alloc _).far y (fun g e => Nat.le_trans h4 (f g e).1) (jL (h.alloc _).g y (fun g e => Nat.le_trans h4 (f g e).1))) ((hr.alloc _).kept y (fun e => by have := f r e.symm; omega)) z
  ⟨k,x,m,p,_,_,z.s4 _,(lr.bounded.mono (fun j hj => ⟨⟨hj.1.1.1,hj.2⟩,hj.1.2⟩)).mine _ _,B,by simp [World.setCell],n.hx,n.hk,n.hm,by have := n.len; simp; omega⟩ C ⟨_,y,f⟩
theorem KX.of {w : World} {k m p : Int} {x : Bs} {l : List T} {sv : Value} {g0 b : Nat} {t : TypeId} (hf : FT (.mk k x m p l)) (hl : LR w (In g0 w.heap.size) l sv) (hb : b = w.heap.size := by rfl) : KX (w.alloc (.cells #[.int .i64 k,.string ⟨x.toArray⟩,.int .i64 m,.int .i64 p,sv] t)) b g0 b l.length := by
 subst hb; obtain ⟨a,e,f,g⟩ := hf.all
 exact ⟨k,x,m,p,l,sv,NB.new w t,LR.ho (hl.alloc _) (.inr (Nat.le_refl _)) (Nat.le_refl _) (Nat.le_refl _),g,by simp,a,e,f,Nat.le_refl _⟩
theorem KX.set {w : World} {k m p : Int} {x : Bs} {l : List T} {sv : Value} {g0 b lo : Nat} (r : RB w b) (hf : FT (.mk k x m p l)) (hl : LR w (In g0 w.heap.size) l sv) (hb : b < g0 := by omega) (h1 : lo <= g0 := by omega) : KX (((((w.setCell ⟨b,0,none⟩ (.int .i64 k)).setCell ⟨b,1,none⟩ (.string ⟨x.toArray⟩)).setCell ⟨b,2,none⟩ (.int .i64 m)).setCell ⟨b,3,none⟩ (.int .i64 p)).setCell ⟨b,4,none⟩ sv) b lo w.heap.size l.length := by
 obtain ⟨a,e,f,g⟩ := hf.all
 exact ⟨k,x,m,p,l,sv,RB.five r,(((((hl.ho (b := b) (.inl hb) h1 (Nat.le_refl _)).mine _ _).mine _ _).mine _ _).mine _ _).mine _ _,g,by simp [World.setCell],a,e,f,Nat.le_refl _⟩
theorem KX.one5 {w : World} {k m p k' m' p' : Int} {x x' : Bs} {l : List T} {sv : Value} {g0 b lo g : Nat} (r : RB w b) (hf : FT (.mk k x m p l)) (hl : LR w (In g0 w.heap.size) l sv) (hb : b < g0 := by omega) (h1 : lo <= g0 := by omega) (h2 : g0 <= w.heap.size := by omega) (hg : g = w.heap.size := by rfl) (hx : x'.length <= maxLen := by first | assumption | decide) (hk : i64 k' := by decide) (hm : i64 m' := by decide) :
  KX ((((((w.setCell ⟨b,0,none⟩ (.int .i64 k')).setCell ⟨b,1,none⟩ (.string ⟨x'.toArray⟩)).setCell ⟨b,2,none⟩ (.int .i64 m')).setCell ⟨b,3,none⟩ (.int .i64 p')).setCell ⟨b,4,none⟩ (.slice (some ⟨g,0,none⟩) 1 1)).alloc (.cells #[.int .i64 k,.string ⟨x.toArray⟩,.int .i64 m,.int .i64 p,sv] 24)) b lo (g + 1) 1 := by
 subst hg
 exact ⟨k',x',m',p',[.mk k x m p l],_,NB.alloc (RB.five r) _,LR.ho (b := b) (LR.build1 (lo := g0) _ (t := .mk k x m p l) (sv := sv) (((((hl.put (.inl hb) _ _).put (.inl hb) _ _).put (.inl hb) _ _).put (.inl hb) _ _).put (.inl hb) _ _) (by simp [World.setCell]) rfl h2) (.inl hb) h1 (Nat.le_refl _),FL.cons hf FL.nil,by simp [World.setCell],hx,hk,hm,by simp⟩
theorem sk {xs : List Bs} {x : Bs} (h : inB xs x = true) (hx : [] ∉ xs) : x ≠ [] := by
 intro e; subst e
 exact hx (by simpa [inB] using h)
def KL (lo : Nat) (w : World) (_ : Int) (v : Value) : Prop := ∃ (l : List T) (ad : Option Addr) (cp : Nat),v = .slice ad l.length cp /\ FL l /\ l.length <= 4100 /\ LR w (In lo w.heap.size) l (.slice ad l.length cp)
set_option maxRecDepth 100000 in
set_option maxHeartbeats 4000000 in
theorem qr (c : KC) (m : Nat) (w : World) (i : Nat) (E : Int) (p : KS c w w i E) (hm : c.n <= i + (m + 1)) (hX : KOK c 95 1 m) : Calls Tryz.prog 98 #[.pointer (some ⟨c.rb,0,none⟩)] w (Kr c w i E 0 (KL w.heap.size)) := by
 have hb := p.l1; have hn := p.il; have N := p.few.1
 go_enter Tryz.func98,Tryz.ntmps98
 go_wp2_with fail; go_at_call 30; refine (ki p.ev fun h => zW c _ _ _ h [40] (by simp)).mono ?_; rintro _ w1 ⟨i1,p,g,⟨rfl,Z⟩ | ⟨rfl,Z⟩⟩
 all_goals
  have s1 := g.size
  try simp at s1
 ·go_wp2
  go_ret
  exact ⟨_,_,_,rfl,⟨[],none,0,rfl,FL.nil,by simp,LR.nil _ _⟩,p,by omega,by omega⟩
 ·go_wp2_with fail
  go_at_call 30; refine (ki p.ev fun h => zW c _ _ _ h [41] (by simp)).mono ?_; rintro _ O ⟨i2,p,g,⟨rfl,h2⟩ | ⟨rfl,h2⟩⟩
  all_goals
   have s2 := g.size
   try simp at s2
  ·go_wp2_with fail
   go_loopw [3] (fun v wr => ∃ (x : Nat) (y : Int) (l : List T) (Q : Option Addr) (R : Nat),v = .slice Q l.length R /\ Hid (KS c w wr x y) /\ Hid (FL l) /\ Hid (LR wr (In O.heap.size wr.heap.size) l v) /\ i + 1 <= x /\ y = 0 /\ l.length <= x /\ O.heap.size <= wr.heap.size) (fun _ wr => vH wr c.rb c.n)
   case atStart => exact ⟨_,_,[],none,0,rfl,p,FL.nil,LR.nil _ _,by omega,by omega,by simp,Nat.le_refl _⟩
   case round =>
    clear p g; obtain ⟨x,y,l,Q,R,rfl,p,z,u,h5,U,h7,h8⟩ := hrel
    have hE : (y == 0) = true := by simp [U]
    replace p := p.out
    have a0 := p.il; have PL := zb p; go_wp2_with fail; go_at_call 10; refine (kn p.ev fun h => yX c _ _ _ h).mono ?_; rintro _ a1 ⟨rfl,p,g⟩; have B := g.size
    try simp at B
    have u := u.call g (by omega); go_wp2_with fail; go_at_call 95; refine (kt p.ev fun h => hX _ _ _ h (by omega)).mono ?_; rintro _ C ⟨_,a2,a4,rfl,⟨bb,D,j,q,r,s,b,F,G,rfl,fb,H⟩,p,g,a5⟩
    try simp at D
    have I := g.size
    try simp at I
    have u := zb ((u.call g (by omega)).alloc (.cells #[.int .i64 j,.string ⟨q.toArray⟩,.int .i64 r,.int .i64 s,.slice F b.length G] 24)); have H := zb (LR.build1 C (t := .mk j q r s b) (sv := .slice F b.length G) (cs := #[.int .i64 j,.string ⟨q.toArray⟩,.int .i64 r,.int .i64 s,.slice F b.length G]) H rfl rfl (by omega)); have f := u.rows
    go_wp2_with (at_builtin; refine vf rfl _ _ rfl rfl rfl u H (by omega) (by omega) (by simp; omega) (by simp) (by simp; omega) ?_; intro v3 a6 a J)
    have p := (p.alloc _).far J (fun k e => by have := f k e; omega) (jL (p.alloc _).g J (fun k e => by have := f k e; omega)); have K := J.size
    simp at K
    obtain ⟨V,X,Y⟩ := a.form
    have A : (l ++ [T.mk j q r s b]).length = l.length + 1 := by simp
    rw [A] at Y; subst Y
    replace z : FL (l ++ [.mk j q r s b]) := z.app (FL.cons fb FL.nil)
    go_at_call 30; refine (ki p.ev fun h => zW c _ _ _ h [44] (by simp)).mono ?_; rintro _ a7 ⟨a8,p,g,⟨rfl,L⟩ | ⟨rfl,L⟩⟩
    all_goals have a := a.call g (by omega)
    all_goals have a9 := g.size
    ·go_wp2_with fail
     go_at_call 28; refine (kc p.ev fun h => zN c _ _ _ h [41] (by simp)).mono ?_; rintro _ b0 ⟨_,b1,b2,rfl,-,p,g,b3⟩; have M := g.size
     try simp at M
     go_wp2
     go_ret
     exact ⟨_,_,_,rfl,⟨l ++ [.mk j q r s b],V,X,by rw [A]; rfl,z,by omega,by rw [A]; exact (a.call g (by omega)).wide (by omega) (by omega)⟩,p,by omega,by omega⟩
    ·go_wp2
     exact ⟨⟨_,_,l ++ [.mk j q r s b],V,X,by rw [A],p,zb z,zb (a.wide (Nat.le_refl _) (by omega)),by omega,by omega,by omega,by omega⟩,PL.less U p (by omega)⟩
  ·go_wp2
   go_ret
   exact ⟨_,_,_,rfl,⟨[],none,0,rfl,FL.nil,by simp,LR.nil _ _⟩,p,by omega,by omega⟩
set_option maxHeartbeats 400000
def NL (w : World) (S : Nat -> Prop) (t : T) : Ending -> World -> Prop := fun e w' => ∃ sv,e = .returned (zq t sv) /\ LR w' S t.subs sv /\ w.grownBy w' none
theorem xR {w w' : World} {S : Nat -> Prop} {k : Int} {x : Bs} {m p : Int} {l : List T} {sv : Value} (h : LR w S (T.mk k x m p l).subs sv) (hg : w.grownBy w' none) : NL w S (.mk k x m p l) (.returned (.agg #[.int .i64 k,.string ⟨x.toArray⟩,.int .i64 m,.int .i64 p,sv])) w' := ⟨sv,rfl,h.kept hg (fun _ hk => by cases hk),hg⟩
theorem uJ (v p : Int) (h0 : -2147483647 <= v) (h1 : v <= 2147483647) (w : World) : Calls Tryz.prog 175 #[.int .i32 v,.int .i64 p] w (NL w (fun k => w.heap.size <= k) (jw v p)) := by
 by_cases f : v < 0
 ·have l : wrap32 (-v) = -v := fx (by omega) (by omega)
  have b : Hid (jw v p = .mk 35 [] 0 p [.mk 29 [] (-v) p []]) := by show _ = _; unfold jw; rw [if_pos f]
  go_enter Tryz.func175,Tryz.ntmps175
  go_wp2_with fail; go_at_call 175; refine (uH (-v) p (by omega) (by omega) _).mono ?_; rintro e g ⟨rfl,a⟩; have h := za gan a; have d := (NB.new w 24).kept a (by simp); have i := zb d; have m := d.lt; obtain ⟨_,_,_,_,_,_⟩ := d; clear a; go_wp2_with fail; refine zP Tryz.results175 rfl (NB.alloc (RB.five i.rb) _) rfl ?_
  unfold NL
  rw [b.out]; refine ⟨.slice (some ⟨g.heap.size,0,none⟩) 1 1,rfl,?_,(zf (yC h (by omega)) _)⟩
  exact (LR.build1 _ (t := .mk 29 [] (-v) p []) (lo := w.heap.size) (LR.nil _ _) (by simp) rfl (by omega)).mono (fun k hk => hk.1)
 ·have b : Hid (jw v p = .mk 29 [] v p []) := by show _ = _; unfold jw; rw [if_neg f]
  refine (uH v p (by omega) h1 w).mono ?_; rintro e g ⟨rfl,j⟩
  unfold NL
  rw [b.out]
  exact ⟨_,rfl,LR.nil _ _,j⟩
theorem gZ {l : List T} (h : l.length = 2) : ∃ a b,l = [a,b] := by
 match l,h with
 | [a,b],_ => exact ⟨a,b,rfl⟩
theorem tG {l : List T} (h : l.length = 1) : ∃ a,l = [a] := by
 match l,h with
 | [a],_ => exact ⟨a,rfl⟩
theorem dv (t : T) (sv : Value) (S : Nat -> Prop) (w : World) (ha : LR w S t.subs sv) (hg : GT t) : Calls Tryz.prog 91 #[zq t sv] w (Sy w (.bool (xP t))) := by
 cases hg with
 | mk k x m p l hl h1 h2 h3 h4 h5 =>
  by_cases d : k = 17
  ·subst d
   obtain ⟨a,b,rfl⟩ := gZ (h3 rfl); obtain ⟨g,c,i,_,rfl,_,f,j,n,r,s⟩ := LR.two (show LR w S [a,b] sv from ha)
   unfold maxLen at f
   have u := zc j.c0; obtain ⟨_,_,_,_,_⟩ := j; clear ha hl h1 h2 h3 h4 h5 n r s
   have h : Hid (xP (T.mk 17 x m p [a,b]) = (a.kind == 31)) := by
    show _ = _
    have e : zI (T.mk 17 x m p [a,b]) 0 = a := rfl
    unfold xP
    rw [e,show decide ((T.mk 17 x m p [a,b]).kind = 17) = true from rfl,Bool.true_and]
    rfl
   change Calls Tryz.prog 91 #[.agg #[.int .i64 17,.string ⟨x.toArray⟩,.int .i64 m,.int .i64 p,.slice (some ⟨g,0,none⟩) 2 c]] w _
   rw [h.out]
   go_enter Tryz.func91,Tryz.ntmps91
   go_wp2_with fail
   go_ret
   exact ⟨rfl,gan⟩
  ·have y : (k == 17) = false := bn d
   obtain ⟨i,v,rfl⟩ := ha.form; have h : Hid (xP (T.mk k x m p l) = false) := jv (show (T.mk k x m p l).kind ≠ 17 from d); clear ha hl h1 h2 h3 h4 h5
   change Calls Tryz.prog 91 #[.agg #[.int .i64 k,.string ⟨x.toArray⟩,.int .i64 m,.int .i64 p,.slice i l.length v]] w _
   rw [h.out]
   go_enter Tryz.func91,Tryz.ntmps91
   go_wp2_with fail
   go_ret
   exact ⟨rfl,gan⟩
theorem dt (x : Bs) (m p : Int) (a b : T) (sv : Value) (S : Nat -> Prop) (v : Bool) (w : World) (ha : LR w S [a,b] sv) (hx : x = [38] \/ x = [79,82]) : Calls Tryz.prog 163 #[zq (.mk 36 x m p [a,b]) sv,.bool v] w (NL w S (if v = decide (x = [38]) then b else a)) := by
 obtain ⟨g,c,_,_,rfl,_,d,i,l,f,h⟩ := LR.two ha
 unfold maxLen at d
 have n := zc i.c0; have j := zb f; have k := zb h; obtain ⟨_,_,_,_,_⟩ := a; obtain ⟨_,_,_,_,_⟩ := b; obtain ⟨_,_,rfl⟩ := f.form; obtain ⟨_,_,rfl⟩ := h.form; obtain ⟨_,_,_,_,_⟩ := i; obtain ⟨_,_,_,_,_⟩ := l; clear ha f h
 change Calls Tryz.prog 163 #[.agg #[.int .i64 36,.string ⟨x.toArray⟩,.int .i64 m,.int .i64 p,.slice (some ⟨g,0,none⟩) 2 c],.bool v] w _
 rcases hx with rfl | rfl <;> cases v
 ·rw [if_neg (by decide)]
  go_enter Tryz.func163,Tryz.ntmps163
  go_wp2_with fail; refine zP Tryz.results163 rfl (NB.new' (by simp)) rfl (xR j ?_)
  exact zf gan _
 ·rw [if_pos (by decide)]
  go_enter Tryz.func163,Tryz.ntmps163
  go_wp2_with fail; refine zP Tryz.results163 rfl (NB.new' (by simp)) rfl (xR k ?_)
  exact zf gan _
 ·rw [if_pos (by decide)]
  go_enter Tryz.func163,Tryz.ntmps163
  go_wp2_with fail; refine zP Tryz.results163 rfl (NB.new' (by simp)) rfl (xR k ?_)
  exact zf gan _
 ·rw [if_neg (by decide)]
  go_enter Tryz.func163,Tryz.ntmps163
  go_wp2_with fail; refine zP Tryz.results163 rfl (NB.new' (by simp)) rfl (xR j ?_)
  exact zf gan _
theorem tv (n : Int) : arZ n = wrap32 n := by unfold arZ wrap32; rfl
theorem qt {a b : Int} (ha : -2147483647 <= a /\ a <= 2147483647) (hb : 0 < b) : -2147483647 <= a.tdiv b /\ a.tdiv b <= 2147483647 := by
 have f := Int.mul_tdiv_add_tmod a b; have g := Int.tmod_lt_of_pos a hb; have h := Int.lt_tmod_of_pos a hb
 constructor
 ·by_cases d : a.tdiv b < -2147483647
  ·have : b * a.tdiv b <= b * (-2147483648) := Int.mul_le_mul_of_nonneg_left (by omega) (by omega)
   omega
  ·omega
 ·by_cases d : 2147483647 < a.tdiv b
  ·have : b * 2147483648 <= b * a.tdiv b := Int.mul_le_mul_of_nonneg_left (by omega) (by omega)
   omega
  ·omega
theorem jJ (a b : Int) (w : World) (ha : -2147483647 <= a /\ a <= 2147483647) (hb : 0 < b) (hb2 : b <= 2147483647) : Calls Tryz.prog 183 #[.int .i32 a,.int .i32 b] w (Sy w (.int .i32 (a / b))) := by
 have d : b ≠ 0 := by omega
 have g : (b == 0) = false := bn d
 go_enter Tryz.func183,Tryz.ntmps183
 have h := Int.mul_tdiv_add_tmod a b; have i := Int.tmod_lt_of_pos a hb; have j := Int.lt_tmod_of_pos a hb; have k := qt ha hb; go_wp2_with fail
 ·go_ret
  refine ⟨?_,zj w none⟩
  rename_i hneg
  have f : (a / b = a.tdiv b - 1 /\ a % b = a.tmod b + b) := (Int.ediv_emod_unique hb).2 ⟨by rw [Int.mul_sub,Int.mul_one]; omega,by omega,by omega⟩; rw [f.1]
  rfl
 ·go_ret
  refine ⟨?_,zj w none⟩
  rename_i hneg
  have f : (a / b = a.tdiv b /\ a % b = a.tmod b) := (Int.ediv_emod_unique hb).2 ⟨by omega,by omega,by omega⟩; rw [f.1]
  rfl
theorem vw (v : Bool) (w : World) : Calls Tryz.prog 184 #[.bool v] w (Sy w (.int .i32 (if v then 1 else 0))) := by
 cases v
 ·go_enter Tryz.func184,Tryz.ntmps184
  go_wp2
  go_ret
  exact ⟨rfl,zj w none⟩
 ·go_enter Tryz.func184,Tryz.ntmps184
  go_wp2
  go_ret
  exact ⟨rfl,zj w none⟩
theorem pB (a b : Int) (w : World) : Calls Tryz.prog 185 #[.string ⟨List.toArray [61]⟩,.int .i32 a,.int .i32 b] w (Sy w (.bool (yD [61] a b))) := by
 go_enter Tryz.func185,Tryz.ntmps185
 go_wp2
 go_ret
 exact ⟨by simp [yD]; rfl,zj w none⟩
theorem rI (a b : Int) (w : World) : Calls Tryz.prog 185 #[.string ⟨List.toArray [35]⟩,.int .i32 a,.int .i32 b] w (Sy w (.bool (yD [35] a b))) := by
 go_enter Tryz.func185,Tryz.ntmps185
 go_wp2
 go_ret
 exact ⟨by simp [yD]; rfl,zj w none⟩
theorem oh (a b : Int) (w : World) : Calls Tryz.prog 185 #[.string ⟨List.toArray [60]⟩,.int .i32 a,.int .i32 b] w (Sy w (.bool (yD [60] a b))) := by
 go_enter Tryz.func185,Tryz.ntmps185
 go_wp2
 go_ret
 exact ⟨by simp [yD],zj w none⟩
theorem pO (a b : Int) (w : World) : Calls Tryz.prog 185 #[.string ⟨List.toArray [60,61]⟩,.int .i32 a,.int .i32 b] w (Sy w (.bool (yD [60,61] a b))) := by
 go_enter Tryz.func185,Tryz.ntmps185
 go_wp2
 go_ret
 exact ⟨by simp [yD],zj w none⟩
theorem pq (a b : Int) (w : World) : Calls Tryz.prog 185 #[.string ⟨List.toArray [62]⟩,.int .i32 a,.int .i32 b] w (Sy w (.bool (yD [62] a b))) := by
 go_enter Tryz.func185,Tryz.ntmps185
 go_wp2
 go_ret
 exact ⟨by simp [yD],zj w none⟩
theorem pK (a b : Int) (w : World) : Calls Tryz.prog 185 #[.string ⟨List.toArray [62,61]⟩,.int .i32 a,.int .i32 b] w (Sy w (.bool (yD [62,61] a b))) := by
 go_enter Tryz.func185,Tryz.ntmps185
 go_wp2
 go_ret
 exact ⟨by simp [yD],zj w none⟩
theorem fN (a b : Int) (w : World) : Calls Tryz.prog 174 #[.string ⟨List.toArray [43]⟩,.int .i32 a,.int .i32 b] w (Sy w (.int .i32 (arZ (a + b)))) := by
 rw [tv]
 go_enter Tryz.func174,Tryz.ntmps174
 go_wp2
 go_ret
 exact ⟨rfl,zj w none⟩
theorem di (a b : Int) (w : World) : Calls Tryz.prog 174 #[.string ⟨List.toArray [45]⟩,.int .i32 a,.int .i32 b] w (Sy w (.int .i32 (arZ (a - b)))) := by
 rw [tv]
 go_enter Tryz.func174,Tryz.ntmps174
 go_wp2
 go_ret
 exact ⟨rfl,zj w none⟩
theorem dT (a b : Int) (w : World) : Calls Tryz.prog 174 #[.string ⟨List.toArray [42]⟩,.int .i32 a,.int .i32 b] w (Sy w (.int .i32 (arZ (a * b)))) := by
 rw [tv]
 go_enter Tryz.func174,Tryz.ntmps174
 go_wp2
 go_ret
 exact ⟨rfl,zj w none⟩
theorem dR (a b : Int) (w : World) (ha : -2147483647 <= a /\ a <= 2147483647) (hb : 0 < b) (hb2 : b <= 2147483647) : Calls Tryz.prog 174 #[.string ⟨List.toArray [68,73,86]⟩,.int .i32 a,.int .i32 b] w (Sy w (.int .i32 (a / b))) := by
 go_enter Tryz.func174,Tryz.ntmps174
 go_wp2_with fail; go_at_call 183; refine (jJ a b _ ha hb hb2).mono ?_; rintro e f ⟨rfl,d⟩; go_wp2_with fail
 go_ret
 exact ⟨rfl,d⟩
theorem dB (a b : Int) (w : World) (ha : -2147483647 <= a /\ a <= 2147483647) (hb : 0 < b) (hb2 : b <= 2147483647) : Calls Tryz.prog 174 #[.string ⟨List.toArray [77,79,68]⟩,.int .i32 a,.int .i32 b] w (Sy w (.int .i32 (a % b))) := by
 have h := Int.mul_ediv_add_emod a b; have i := Int.emod_nonneg a (show b ≠ 0 by omega); have j := Int.emod_lt_of_pos a hb; have k := Int.mul_comm b (a / b)
 go_enter Tryz.func174,Tryz.ntmps174
 go_wp2_with fail; go_at_call 183; refine (jJ a b _ ha hb hb2).mono ?_; rintro e l ⟨rfl,d⟩; go_wp2_with fail
 go_ret
 refine ⟨?_,d⟩
 have f : wrap32 (a / b * b) = wrap32 (a - a % b) := by congr 1; omega
 have g : wrap32 (a - wrap32 (a - a % b)) = a % b := by unfold wrap32; omega
 first
 | (show Ending.returned (.int .i32 (wrap32 (a - wrap32 (a / b * b)))) = _; rw [f,g])
 | (show Ending.returned (.int .i32 (a - a / b * b)) = _; congr 2; omega)
 | (show Ending.returned (.int .i32 (a - wrap32 (a / b * b))) = _; rw [f]; congr 2; unfold wrap32; omega)
theorem sB (a b : Int) (w : World) : Calls Tryz.prog 174 #[.string ⟨List.toArray [61]⟩,.int .i32 a,.int .i32 b] w (Sy w (.int .i32 (if yD [61] a b then 1 else 0))) := by
 have g := fun w' => zb (pB a b w')
 have h := fun w' => zb (vw (yD [61] a b) w')
 generalize (if yD [61] a b = true then (1 : Int) else 0) = z at *
 generalize yD [61] a b = r at *
 go_enter Tryz.func174,Tryz.ntmps174
 go_wp2_with fail; go_at_call 185; refine ((g _)).mono ?_; rintro e i ⟨rfl,d⟩; have j : Hid (w.grownBy i none) := d; clear d; go_wp2_with fail; go_at_call 184; refine ((h _)).mono ?_; rintro e l ⟨rfl,f⟩; have k := za j f; clear f; go_wp2_with fail
 go_ret
 exact ⟨rfl,k⟩
theorem sS (a b : Int) (w : World) : Calls Tryz.prog 174 #[.string ⟨List.toArray [35]⟩,.int .i32 a,.int .i32 b] w (Sy w (.int .i32 (if yD [35] a b then 1 else 0))) := by
 have g := fun w' => zb (rI a b w')
 have h := fun w' => zb (vw (yD [35] a b) w')
 generalize (if yD [35] a b = true then (1 : Int) else 0) = z at *
 generalize yD [35] a b = r at *
 go_enter Tryz.func174,Tryz.ntmps174
 go_wp2_with fail; go_at_call 185; refine ((g _)).mono ?_; rintro e i ⟨rfl,d⟩; have j : Hid (w.grownBy i none) := d; clear d; go_wp2_with fail; go_at_call 184; refine ((h _)).mono ?_; rintro e l ⟨rfl,f⟩; have k := za j f; clear f; go_wp2_with fail
 go_ret
 exact ⟨rfl,k⟩
theorem sZ (a b : Int) (w : World) : Calls Tryz.prog 174 #[.string ⟨List.toArray [60]⟩,.int .i32 a,.int .i32 b] w (Sy w (.int .i32 (if yD [60] a b then 1 else 0))) := by
 have g := fun w' => zb (oh a b w')
 have h := fun w' => zb (vw (yD [60] a b) w')
 generalize (if yD [60] a b = true then (1 : Int) else 0) = z at *
 generalize yD [60] a b = r at *
 go_enter Tryz.func174,Tryz.ntmps174
 go_wp2_with fail; go_at_call 185; refine ((g _)).mono ?_; rintro e i ⟨rfl,d⟩; have j : Hid (w.grownBy i none) := d; clear d; go_wp2_with fail; go_at_call 184; refine ((h _)).mono ?_; rintro e l ⟨rfl,f⟩; have k := za j f; clear f; go_wp2_with fail
 go_ret
 exact ⟨rfl,k⟩
theorem tF (a b : Int) (w : World) : Calls Tryz.prog 174 #[.string ⟨List.toArray [60,61]⟩,.int .i32 a,.int .i32 b] w (Sy w (.int .i32 (if yD [60,61] a b then 1 else 0))) := by
 have g := fun w' => zb (pO a b w')
 have h := fun w' => zb (vw (yD [60,61] a b) w')
 generalize (if yD [60,61] a b = true then (1 : Int) else 0) = z at *
 generalize yD [60,61] a b = r at *
 go_enter Tryz.func174,Tryz.ntmps174
 go_wp2_with fail; go_at_call 185; refine ((g _)).mono ?_; rintro e i ⟨rfl,d⟩; have j : Hid (w.grownBy i none) := d; clear d; go_wp2_with fail; go_at_call 184; refine ((h _)).mono ?_; rintro e l ⟨rfl,f⟩; have k := za j f; clear f; go_wp2_with fail
 go_ret
 exact ⟨rfl,k⟩
theorem tU (a b : Int) (w : World) : Calls Tryz.prog 174 #[.string ⟨List.toArray [62]⟩,.int .i32 a,.int .i32 b] w (Sy w (.int .i32 (if yD [62] a b then 1 else 0))) := by
 have g := fun w' => zb (pq a b w')
 have h := fun w' => zb (vw (yD [62] a b) w')
 generalize (if yD [62] a b = true then (1 : Int) else 0) = z at *
 generalize yD [62] a b = r at *
 go_enter Tryz.func174,Tryz.ntmps174
 go_wp2_with fail; go_at_call 185; refine ((g _)).mono ?_; rintro e i ⟨rfl,d⟩; have j : Hid (w.grownBy i none) := d; clear d; go_wp2_with fail; go_at_call 184; refine ((h _)).mono ?_; rintro e l ⟨rfl,f⟩; have k := za j f; clear f; go_wp2_with fail
 go_ret
 exact ⟨rfl,k⟩
theorem sP (a b : Int) (w : World) : Calls Tryz.prog 174 #[.string ⟨List.toArray [62,61]⟩,.int .i32 a,.int .i32 b] w (Sy w (.int .i32 (if yD [62,61] a b then 1 else 0))) := by
 have g := fun w' => zb (pK a b w')
 have h := fun w' => zb (vw (yD [62,61] a b) w')
 generalize (if yD [62,61] a b = true then (1 : Int) else 0) = z at *
 generalize yD [62,61] a b = r at *
 go_enter Tryz.func174,Tryz.ntmps174
 go_wp2_with fail; go_at_call 185; refine ((g _)).mono ?_; rintro e i ⟨rfl,d⟩; have j : Hid (w.grownBy i none) := d; clear d; go_wp2_with fail; go_at_call 184; refine ((h _)).mono ?_; rintro e l ⟨rfl,f⟩; have k := za j f; clear f; go_wp2_with fail
 go_ret
 exact ⟨rfl,k⟩
end Go.Proofs.YtifapidjkelnfaaGreatDoor
