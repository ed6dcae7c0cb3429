/- The program's reader of words: what it holds in memory,and its smallest steps. -/
import Derived.Test.YtnmkffjklpfflaaGreatDoorG04
import Derived.Test.YtnmkffjklpfflaaGreatDoorG01
import Derived.Test.YtnmkffjklpfflaaGreatDoorG05
import Derived.Deep.RegionWith
namespace Go.Proofs.YtnmkffjklpfflaaGreatDoor
open Go.RowKit
set_option maxHeartbeats 400000
set_option maxRecDepth 100000
structure PC where
 pb : Nat
 tb : Nat
 cap : Nat
 lb : Nat
 L : List Tok
structure GoodL (L : List Tok) : Prop where
 last : ∀ j,j < L.length -> (wd L j = [] ↔ j + 1 = L.length)
 short : ∀ j,(wd L j).length <= 4000
 few : L.length <= 5000
 dig : ∀ j,zA (((wd L j).headD 0).toNat : Int) = true -> ∀ c ∈ wd L j,zA (c.toNat : Int) = true
 low : ∀ j,((wd L j).headD 0).toNat < 128
 val : ∀ j,wd L j ≠ [] -> zA (((wd L j).headD 0).toNat : Int) = true -> ∃ n,zX 0 (wd L j) = some n
theorem GoodL.next {L : List Tok} (h : GoodL L) {i : Nat} (hi : i < L.length) (hn : wd L i ≠ []) : i + 1 < L.length := by
 rcases Nat.lt_or_ge (i + 1) L.length with b | b
 ·exact b
 ·exact absurd ((h.last i hi).2 (by omega)) hn
structure PS (c : PC) (w : World) (i d : Nat) : Prop where
 c0 : w.cell? ⟨c.pb,0,none⟩ = some (.slice (some ⟨c.tb,0,none⟩) c.L.length c.cap)
 c1 : w.cell? ⟨c.pb,1,none⟩ = some (.int .i64 i)
 c2 : w.cell? ⟨c.pb,2,none⟩ = some (.int .i64 d)
 c3 : w.cell? ⟨c.pb,3,none⟩ = some (.map (some c.lb))
 z1 : w.frozen? ⟨c.pb,1,none⟩ = false
 z2 : w.frozen? ⟨c.pb,2,none⟩ = false
 tk : ∀ j,j < c.L.length -> w.cell? ⟨c.tb,j * 2,none⟩ = some (.string ⟨(wd c.L j).toArray⟩) /\ w.cell? ⟨c.tb,j * 2 + 1,none⟩ = some (.int .i64 (pos c.L j))
 lx : IsLex w c.lb
 n1 : c.tb ≠ c.pb
 n2 : c.lb ≠ c.pb
 il : i < c.L.length
 good : GoodL c.L
 deep : d <= 21
theorem zw {w : World} {a : Addr} {v : Value} (h : w.cell? a = some v) : a.block < w.heap.size := World.block_lt_of_cell? w a h
theorem PS.lt {c : PC} {w : World} {i d : Nat} (h : PS c w i d) : c.pb < w.heap.size := zw h.c0
theorem PS.kept {c : PC} {w w' : World} {i d : Nat} (h : PS c w i d) (hg : w.grownBy w' none) : PS c w' i d where
 c0 := zC hg h.c0 (by simp)
 c1 := zC hg h.c1 (by simp)
 c2 := zC hg h.c2 (by simp)
 c3 := zC hg h.c3 (by simp)
 z1 := zV hg h.lt h.z1 (by simp)
 z2 := zV hg h.lt h.z2 (by simp)
 tk := fun j hj => ⟨zC hg (h.tk j hj).1 (by simp),zC hg (h.tk j hj).2 (by simp)⟩
 lx := World.ownsMap.kept h.lx hg (by simp)
 n1 := h.n1
 n2 := h.n2
 il := h.il
 good := h.good
 deep := h.deep
theorem PS.drewN {c : PC} {w : World} {i d : Nat} (h : PS c w i d) (n : Nat) : PS c (w.drewN n) i d := h.kept (zo (zc _ _) n)
theorem PS.alloc {c : PC} {w : World} {i d : Nat} (h : PS c w i d) (o : Obj) : PS c (w.alloc o) i d := h.kept (World.grownBy_alloc w o none)
theorem PS.set1 {c : PC} {w : World} {i d : Nat} (h : PS c w i d) (v : Int) (k : Nat) (hv : v = k) (hk : k < c.L.length) : PS c (w.setCell ⟨c.pb,1,none⟩ (.int .i64 v)) k d where
 c0 := by rw [World.cell?_setCell_other _ _ _ _ (by simp)]; exact h.c0
 c1 := by subst hv; exact World.cell?_setCell_same _ _ _ h.c1
 c2 := by rw [World.cell?_setCell_other _ _ _ _ (by simp)]; exact h.c2
 c3 := by rw [World.cell?_setCell_other _ _ _ _ (by simp)]; exact h.c3
 z1 := by rw [World.frozen?_setCell]; exact h.z1
 z2 := by rw [World.frozen?_setCell]; exact h.z2
 tk := fun j hj => ⟨by rw [World.cell?_setCell_other _ _ _ _ (by intro e; injection e with e; exact h.n1 e.symm)]; exact (h.tk j hj).1,by rw [World.cell?_setCell_other _ _ _ _ (by intro e; injection e with e; exact h.n1 e.symm)]; exact (h.tk j hj).2⟩
 lx := World.ownsMap.setCell h.lx (a := ⟨c.pb,1,none⟩) (by simp; exact h.n2) _
 n1 := h.n1
 n2 := h.n2
 il := hk
 good := h.good
 deep := h.deep
theorem PS.set2 {c : PC} {w : World} {i d : Nat} (h : PS c w i d) (v : Int) (k : Nat) (hv : v = k) (hk : k <= 21) : PS c (w.setCell ⟨c.pb,2,none⟩ (.int .i64 v)) i k where
 c0 := by rw [World.cell?_setCell_other _ _ _ _ (by simp)]; exact h.c0
 c1 := by rw [World.cell?_setCell_other _ _ _ _ (by simp)]; exact h.c1
 c2 := by subst hv; exact World.cell?_setCell_same _ _ _ h.c2
 c3 := by rw [World.cell?_setCell_other _ _ _ _ (by simp)]; exact h.c3
 z1 := by rw [World.frozen?_setCell]; exact h.z1
 z2 := by rw [World.frozen?_setCell]; exact h.z2
 tk := fun j hj => ⟨by rw [World.cell?_setCell_other _ _ _ _ (by intro e; injection e with e; exact h.n1 e.symm)]; exact (h.tk j hj).1,by rw [World.cell?_setCell_other _ _ _ _ (by intro e; injection e with e; exact h.n1 e.symm)]; exact (h.tk j hj).2⟩
 lx := World.ownsMap.setCell h.lx (a := ⟨c.pb,2,none⟩) (by simp; exact h.n2) _
 n1 := h.n1
 n2 := h.n2
 il := h.il
 good := h.good
 deep := hk
theorem yA (c : PC) (w : World) (i d : Nat) (h : PS c w i d) :
  Calls Tryz.prog 68 #[.pointer (some ⟨c.pb,0,none⟩)] w fun e w' => e = .returned (.string ⟨(wd c.L i).toArray⟩) /\ ∃ n,w' = w.drewN n := by
 have c0 := h.c0; have c1 := h.c1; have b := (h.tk i h.il).1; have f := h.il; have g := h.good.few; clear h
 go_enter Tryz.func68,Tryz.ntmps68
 go_wp2
 go_quiet (fail)
 go_wp2
 go_ret
 exact ⟨rfl,_,rfl⟩
theorem rI (c : PC) (w : World) (i d : Nat) (h : PS c w i d) :
  Calls Tryz.prog 136 #[.pointer (some ⟨c.pb,0,none⟩)] w fun e w' => e = .returned (.int .i64 (pos c.L i)) /\ ∃ n,w' = w.drewN n := by
 have c0 := h.c0; have c1 := h.c1; have b := (h.tk i h.il).2; have f := h.il; have g := h.good.few; clear h
 go_enter Tryz.func136,Tryz.ntmps136
 go_wp2
 go_quiet (fail)
 go_wp2
 go_ret
 exact ⟨rfl,_,rfl⟩
theorem rF {w w' : World} (h : Below w.heap.size w w') (row : Option Nat) : w.grownBy w' row := ⟨h.os,h.tape,h.output,h.size,fun i hi _ => h.block i hi⟩
theorem xV {l : List UInt8} (h : l ≠ []) : l.isEmpty = false := by cases l <;> simp_all
theorem xg (c : PC) (w : World) (i d : Nat) (h : PS c w i d) (hne : wd c.L i ≠ []) :
  Calls Tryz.prog 139 #[.pointer (some ⟨c.pb,0,none⟩)] w fun e w' => e = .returned (.string ⟨(wd c.L i).toArray⟩) /\ w.grownBy w' (some c.pb) /\ PS c w' (i + 1) d := by
 have g := xV hne; have b := ze h; have k := h.good.few; have l := h.il; have f := ze (h.good.next h.il hne); clear h hne
 go_enter Tryz.func139,Tryz.ntmps139
 go_wp2_with (go_at_call 68; refine (yA c _ i d b.out).mono ?_; rintro e w1 ⟨rfl,n,rfl⟩; have c1 := (b.out.drewN n).c1; have z1 := (b.out.drewN n).z1)
 go_ret
 exact ⟨rfl,zR (zo (zc _ _) _) _ _,(b.out.drewN n).set1 _ _ (by simp) f.out⟩
theorem Threw.up {w w1 w' : World} {k n : Int} {e : Ending} {row : Option Nat} (h : Threw w1 k n e w') (hg : w.grownBy w1 row) : Threw w k n e w' := by
 obtain ⟨q,b,f,g⟩ := h
 exact ⟨q,b,Nat.le_trans hg.size f,g⟩
theorem vz (c : PC) (w : World) (i d : Nat) (n : Int) (h : PS c w i d) :
  Calls Tryz.prog 98 #[.pointer (some ⟨c.pb,0,none⟩),.int .i64 n] w fun e w' => Threw w (pos c.L i) n e w' /\ w.grownBy w' none := by
 have b := ze h; clear h
 go_enter Tryz.func98,Tryz.ntmps98
 go_wp2_with (go_at_call 136; refine (rI c _ i d b.out).mono ?_; rintro e w1 ⟨rfl,m,rfl⟩)
 exact ⟨rfl,kG (Nat.le_refl _),zf (zo (zc _ _) _) _⟩
theorem vb (c : PC) (w : World) (i d : Nat) (h : PS c w i d) :
    Calls Tryz.prog 69 #[.pointer (some ⟨c.pb,0,none⟩)] w fun e w' => Threw w (yi c.L i).2 (yi c.L i).1 e w' /\ w.grownBy w' none := by
  have g := ze h; clear h
  by_cases b : wd c.L i = []
  · have k : (wd c.L i).isEmpty = true := by rw [b]; rfl
    have l : Hid (yi c.L i = (2,pos c.L i)) := by unfold yi; rw [if_pos b]; exact rfl
    clear b
    go_enter Tryz.func69,Tryz.ntmps69
    go_wp2_with (first
      | (go_at_call 68; refine (yA c _ i d g.out).mono ?_; rintro e w1 ⟨rfl,n,rfl⟩)
      | (go_at_call 98; refine (vz c _ i d 2 (g.out.drewN n)).mono ?_; rintro e s ⟨f,m⟩; have o := ze f; obtain ⟨q,rfl,-⟩ := f))
    rw [l.out]
    exact ⟨rfl,o.out.up (zo (zc w none) _),za (zo (zc _ _) _) m⟩
  · have k := xV b
    have l : Hid (yi c.L i = (4,pos c.L i)) := by unfold yi; rw [if_neg b]; exact rfl
    clear b
    go_enter Tryz.func69,Tryz.ntmps69
    go_wp2_with (first
      | (go_at_call 68; refine (yA c _ i d g.out).mono ?_; rintro e w1 ⟨rfl,n,rfl⟩)
      | (go_at_call 98; refine (vz c _ i d 4 (g.out.drewN n)).mono ?_; rintro e s ⟨f,m⟩; have o := ze f; obtain ⟨q,rfl,-⟩ := f))
    rw [l.out]
    exact ⟨rfl,o.out.up (zo (zc w none) _),za (zo (zc _ _) _) m⟩
def Steps {α : Type} (c : PC) (w : World) (i d : Nat) (enc : World -> α -> Value -> Prop) (r : Except (Int × Int) (α × Nat)) (e : Ending) (w' : World) : Prop :=
 (∃ x,r = .error x /\ Threw w x.2 x.1 e w' /\ w.grownBy w' (some c.pb)) \/ (∃ a j v,r = .ok (a,j) /\ e = .returned v /\ enc w' a v /\ w.grownBy w' (some c.pb) /\ PS c w' j d /\ i <= j)
section
variable {α : Type} {c : PC} {w w1 w' : World} {i d j : Nat} {enc : World -> α -> Value -> Prop} {r : Except (Int × Int) (α × Nat)} {e : Ending}
theorem Steps.err {x : Int × Int} (h : r = .error x) (ht : Threw w1 x.2 x.1 e w') (hg : w.grownBy w1 (some c.pb)) (hg' : w1.grownBy w' (some c.pb)) : Steps c w i d enc r e w' :=
 .inl ⟨x,h,ht.up hg,za hg hg'⟩
theorem Steps.ok {a : α} {v : Value} (h : r = .ok (a,j)) (he : enc w' a v) (hg : w.grownBy w' (some c.pb)) (hp : PS c w' j d) (hi : i <= j) : Steps c w i d enc r (.returned v) w' :=
 .inr ⟨a,j,v,h,rfl,he,hg,hp,hi⟩
end
theorem yb (c : PC) (w : World) (i d : Nat) (x : List UInt8) (sb : ByteArray) (hsb : sb.data.toList = x) (hx : x ≠ []) (h : PS c w i d) :
    Calls Tryz.prog 137 #[.pointer (some ⟨c.pb,0,none⟩),.string sb] w fun e w' => ∃ b j,yu c.L x i = .ok (b,j) /\ e = .returned (.bool b) /\ w.grownBy w' (some c.pb) /\ PS c w' j d /\ i <= j := by
  have g := ze h; clear h
  obtain rfl : sb = ⟨x.toArray⟩ := by subst hsb; simp
  by_cases f : wd c.L i = x
  · have l : (wd c.L i == x) = true := by rw [f]; simp
    have k : Hid (yu c.L x i = .ok (true,i + 1)) := by unfold yu; rw [if_pos f]; exact rfl
    have m : Hid (wd c.L i ≠ []) := by show _ ≠ _; rw [f]; exact hx
    clear f hx
    go_enter Tryz.func137,Tryz.ntmps137
    go_wp2_with (first
      | (go_at_call 68; refine (yA c _ i d g.out).mono ?_; rintro e w1 ⟨rfl,n,rfl⟩)
      | (go_at_call 139; refine (xg c _ i d (g.out.drewN n) m.out).mono ?_; rintro e s ⟨rfl,o,q⟩))
    go_ret
    exact ⟨true,i + 1,k.out,rfl,za (zo (zc _ _) _) o,q,by omega⟩
  · have l : (wd c.L i == x) = false := by simpa using f
    have k : Hid (yu c.L x i = .ok (false,i)) := by unfold yu; rw [if_neg f]; exact rfl
    clear f hx
    go_enter Tryz.func137,Tryz.ntmps137
    go_wp2_with (first
      | (go_at_call 68; refine (yA c _ i d g.out).mono ?_; rintro e w1 ⟨rfl,n,rfl⟩))
    go_ret
    exact ⟨false,i,k.out,rfl,zo (zc _ _) _,g.out.drewN n,Nat.le_refl _⟩
theorem zx (c : PC) (w : World) (i d : Nat) (x : List UInt8) (sb : ByteArray) (hsb : sb.data.toList = x) (hx : x ≠ []) (h : PS c w i d) :
    Calls Tryz.prog 88 #[.pointer (some ⟨c.pb,0,none⟩),.string sb] w (Steps c w i d (fun _ _ _ => True) (zD c.L x i)) := by
  have t := ze h; clear h
  by_cases f : wd c.L i = x
  · have k : Hid (zD c.L x i = .ok ((),i + 1)) := by unfold zD; rw [if_pos f]; exact rfl
    have l : Hid (yu c.L x i = .ok (true,i + 1)) := by unfold yu; rw [if_pos f]; exact rfl
    clear f
    go_enter Tryz.func88,Tryz.ntmps88
    go_wp2_with (first
      | (go_at_call 137; refine (yb c _ i d x _ hsb hx t.out).mono ?_; rintro e w1 ⟨b,j,g,rfl,m,n,o⟩; rw [l.out] at g; cases g))
    refine bodyPost_end (results_none rfl _ _ _) rfl ?_
    exact Steps.ok k.out trivial m n (by omega)
  · have k : Hid (zD c.L x i = .error (yi c.L i)) := by unfold zD; rw [if_neg f]; exact rfl
    have l : Hid (yu c.L x i = .ok (false,i)) := by unfold yu; rw [if_neg f]; exact rfl
    clear f
    go_enter Tryz.func88,Tryz.ntmps88
    go_wp2_with (first
      | (go_at_call 137; refine (yb c _ i d x _ hsb hx t.out).mono ?_; rintro e w1 ⟨b,j,g,rfl,m,n,o⟩; rw [l.out] at g; cases g)
      | (go_at_call 69; refine (vb c _ i d n).mono ?_; rintro e z ⟨u,s⟩; have v := ze u; obtain ⟨q,rfl,-⟩ := u))
    exact ⟨rfl,Steps.err k.out v.out m (zv s _)⟩
theorem xl (c : PC) (w : World) (i d : Nat) (h : PS c w i d) :
    Calls Tryz.prog 138 #[.pointer (some ⟨c.pb,0,none⟩)] w fun e w' => e = .returned (.bool (yv (wd c.L i))) /\ w.grownBy w' none := by
  have b := ze h; have c3 := h.c3; have g := h.good.short i; clear h
  go_enter Tryz.func138,Tryz.ntmps138
  go_wp2
  go_region_with (first
    | (go_at_call 68; refine (yA c _ i d (b.out.drewN _)).mono ?_; rintro e w1 ⟨rfl,n,rfl⟩)
    | (go_at_call 171; refine (td c.lb ⟨(wd c.L i).toArray⟩ _ (by unfold maxLen; simp [ByteArray.size]; omega) (b.out.drewN _).lx).mono ?_; rintro e k ⟨rfl,f⟩))
  all_goals
    go_wp2
    go_ret
    exact ⟨rfl,za (zo (zc _ _) _) (rF f none)⟩
theorem vq (c : PC) (w : World) (i d : Nat) (h : PS c w i d) :
    Calls Tryz.prog 89 #[.pointer (some ⟨c.pb,0,none⟩)] w (Steps c w i d (fun _ s v => v = .string ⟨s.toArray⟩ /\ s ≠ [] /\ s.length <= 4000) (uj c.L i)) := by
  have k := ze h; clear h; cases f : yv (wd c.L i)
  · have l : Hid (uj c.L i = .error (yi c.L i)) := by unfold uj; rw [f]; exact rfl
    go_enter Tryz.func89,Tryz.ntmps89
    go_wp2_with (first
      | (go_at_call 138; refine (xl c _ i d k.out).mono ?_; rintro e w1 ⟨rfl,g⟩; simp only [f])
      | (go_at_call 69; refine (vb c _ i d (k.out.kept g)).mono ?_; rintro e t ⟨m,b⟩; have u := ze m; obtain ⟨q,rfl,-⟩ := m))
    exact ⟨rfl,Steps.err l.out u.out (zv g _) (zv b _)⟩
  · have l : Hid (uj c.L i = .ok (wd c.L i,i + 1)) := by unfold uj; rw [f]; exact rfl
    have n : Hid (wd c.L i ≠ []) := by
      show _ ≠ _
      intro e; rw [e] at f
      revert f
      decide
    go_enter Tryz.func89,Tryz.ntmps89
    go_wp2_with (first
      | (go_at_call 138; refine (xl c _ i d k.out).mono ?_; rintro e w1 ⟨rfl,g⟩; simp only [f])
      | (go_at_call 139; refine (xg c _ i d (k.out.kept g) n.out).mono ?_; rintro e t ⟨rfl,b,o⟩))
    go_ret
    exact Steps.ok l.out ⟨rfl,n.out,o.good.short i⟩ (za (zv g _) b) o (by omega)
end Go.Proofs.YtnmkffjklpfflaaGreatDoor
