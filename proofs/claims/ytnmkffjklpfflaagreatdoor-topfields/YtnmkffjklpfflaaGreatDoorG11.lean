/- 'append' of any list of trees,nil too; arguments. -/
import Derived.Test.YtnmkffjklpfflaaGreatDoorG10
namespace Go.Proofs.YtnmkffjklpfflaaGreatDoor
open Go.RowKit
set_option maxHeartbeats 4000000
set_option maxRecDepth 100000
theorem xf {ops : Array Oper} {o : Oper} {a : Act} {w : World} {K : Act -> World -> Prop} {Q : Exit -> Act -> World -> Prop} {E : Prop} (hgd : o.guard = none) (s x : Operand)
  (ho : o.op = .call { callee := .builtin .append,args := #[s,x],argTypes := #[80,80] })
  {S S2 : Nat -> Prop} (S' : Nat -> Prop) {ts us : List T} {v u : Value} (hs : a.eval s = v) (hx : a.eval x = u) (hl : LR w S ts v) (hu : LR w S2 us u)
  (hd : ∀ k,S2 k -> v.ownBlock ≠ some k) (h1 : ∀ k,S k -> S' k) (h2 : ∀ k,S2 k -> S' k) (h3 : S' w.heap.size) (hlen : ts.length + us.length <= 20000)
  (k : ∀ v' w',LR w' S' (ts ++ us) v' -> w.grownBy w' v.ownBlock -> K (a.put o.dst v') w') :
  if Region.wanted o (yielded ops a.tmps) = true then Oper.wp Tryz.prog o a w K Q else E := by
 obtain ⟨_,_,b,_,_⟩ := hu.own
 rcases b.2 with ⟨rfl,j⟩ | ⟨g,c,d,rfl,_⟩
 ·have e : us = [] := List.eq_nil_of_length_eq_zero j
  subst e; have i := k v w (by rw [List.append_nil]; exact hl.mono h1) (zj _ _)
  have l : Region.wanted o (yielded ops a.tmps) = true := by simp [Region.wanted,hgd]
  obtain ⟨_,_,own,_,_⟩ := hl.own
  rcases own.2 with ⟨rfl,m⟩ | ⟨g,c,d,rfl,_,_,f,_⟩
  ·rw [if_pos l]
   obtain ⟨_,h,_,_,_⟩ := info_parts Tryz.infoNode
   have n : (Builtin.append_ #[80,80] o.type #[.slice none 0 0,.slice none 0 0]).run Tryz.prog w = .ok (.slice none 0 0) w := by
    simp [Builtin.append_,run_underlying Tryz.underlying80,sizeOf,typeInfo,h,Builtin.lenOf,Builtin.firstCells]
   unfold Oper.wp execOp
   simp only [ho,resolve,invoke,builtin,Sem.run_bind,Sem.run_pure,Result.andThen_ok,List.map_toArray,List.map_cons,List.map_nil,hs,hx,n]
   exact i
  ·exact rU hgd s x ho hs hx f i
 ·exact vh hgd s x ho S' hs hx hl hu hd h1 h2 h3 hlen k
theorem jr (c : PC) (w : World) (i d : Nat) (E : P T) (h : PS c w i d) (hE : ExprOK c d E) :
  Calls Tryz.prog 225 #[pq c.pb] w (Steps c w i d (fun w' ts v => LR w' (In w.heap.size w'.heap.size) ts v /\ ts.length <= 5001) (vY c.L E i)) := by
 have l := zc h; have m := zc hE; clear h hE
 go_enter Tryz.func225,Tryz.ntmps225
 go_wp2_with fail; go_at_call 204; refine (jA c _ i d 145 E gz _ rfl (by decide) l.out m.out).mono ?_; rintro e o (⟨r,b,g,f⟩ | ⟨s,t,u,b,rfl,j,f,n,k⟩)
 ·obtain ⟨q,rfl,-⟩ := id g; exact ⟨rfl,Steps.err b g (zj _ _) f⟩
 go_wp2
 go_ret
 exact Steps.ok b j f n k
theorem jo (c : PC) (w : World) (i d : Nat) (E : P T) (h : PS c w i d) (hE : ExprOK c d E)
    (hD : ∀ (w : World) (i : Nat),PS c w i d -> Calls Tryz.prog 218 #[pq c.pb] w (Steps c w i d (fun w' t v => TR w' w.heap.size w'.heap.size t v) (zQ c.L E i))) :
    Calls Tryz.prog 229 #[pq c.pb] w (Steps c w i d (fun w' t v => TR w' w.heap.size w'.heap.size t v) (yR c.L E i)) := by
  have HP := zc h; have HL := zc h.low; have K := h.lt; have b7 := h.good.few; have HE := zc hE; clear h hE
  go_enter Tryz.func229,Tryz.ntmps229
  go_wp2_with fail; go_at_call 218; refine (hD _ i (PS.alloc HP.out _)).mono ?_; rintro e C (⟨x1,N,Y,G⟩ | ⟨⟨x,z,A,s,l⟩,U,v1,N,rfl,⟨b8,rfl,H⟩,G,p1,b9⟩)
  · obtain ⟨q,rfl,-⟩ := id Y; exact ⟨rfl,Steps.err (P.bind_err N) Y ga G⟩
  have Z : yR c.L E i = _ := P.bind_ok N; simp only [T.kind,T.name,T.num,T.at',T.subs] at H ⊢; obtain ⟨m,n,rfl⟩ := H.form; obtain ⟨I,a7,H⟩ := H.nm
  try simp at a7
  have G1 := za ga G; have s1 := G.size
  try simp at s1
  have r1 : RB C w.heap.size := RB.kept (RB.new' (by simp)) G (by simp; omega); go_wp2_with fail; go_at_call 68; refine (xh c _ U d (PS.alloc p1 _)).mono ?_; rintro e B ⟨rfl,D⟩; have p2 : PS c B U d := PS.kept (PS.alloc p1 _) D; have G2 : w.grownBy B (some c.pb) := za (zh G1 _) (zv D _); have s2 := D.size
  try simp at s2
  have r2 : RB B w.heap.size := RB.kept (RB.alloc r1 _) D (by simp); have n2 : NB B C.heap.size (.int .i64 x) (.string ⟨z.toArray⟩) (.int .i64 A) (.int .i64 s) (.slice m l.length n) := NB.kept (NB.new' (by simp)) D (by simp); have l2 : LR B (In I C.heap.size) l (.slice m l.length n) := LR.grown (LR.alloc H _) D; have a8 := r2.lt; have a9 := n2.lt; obtain ⟨_,_,_,_,_,_,_,_,_,_,_⟩ := id r2; obtain ⟨_,x1,_,_,x4,_⟩ := id n2
  by_cases hw : wd c.L U = xA
  · have b0 : (wd c.L U == [40]) = true := by rw [hw]; decide
    have a0 := Z.trans (if_pos hw); go_wp2_with fail
    go_region_law (first
      | (go_simp
         go_at_call 225; refine (jr c _ U d E (by first | with_reducible exact PS.drew p2 | with_reducible exact PS.drew (PS.alloc p2 _)) HE.out).mono ?_; rintro e o (⟨x4,O,a1,r⟩ | ⟨V,j4,v4,O,rfl,⟨J,c0⟩,r,p4,c1⟩)
         focus
           have HT := a1; obtain ⟨q,rfl,-⟩ := a1
           exact ⟨rfl,Steps.err (a0.trans (P.bind_err O)) HT (by first | with_reducible exact zf G2 | with_reducible exact zf (zh G2 _)) r⟩
         have s4 := r.size
         try simp at s4
         have n4 : NB o C.heap.size (.int .i64 x) (.string ⟨z.toArray⟩) (.int .i64 A) (.int .i64 s) (.slice m l.length n) := NB.kept (by first | with_reducible exact NB.drew n2 | with_reducible exact NB.drew (NB.alloc n2 _)) r (by simp; omega); have r4 : RB o w.heap.size := RB.kept (by first | with_reducible exact RB.drew r2 | with_reducible exact RB.drew (RB.alloc r2 _)) r (by simp; omega); have G4 : w.grownBy o (some c.pb) := za (by first | with_reducible exact zf G2 | with_reducible exact zf (zh G2 _)) r; have l4 : LR o (In I C.heap.size) l (.slice m l.length n) := LR.c (by first | with_reducible exact LR.drew l2 | with_reducible exact LR.drew (LR.alloc l2 _)) r; have b2 := n4.lt; have b3 := r4.lt; obtain ⟨a2,a3,rfl⟩ := J.form; obtain ⟨b4,b5,J⟩ := J.nm
         try simp at b5
         obtain ⟨_,_,_,_,_,_⟩ := id n4)
      | (have lb : LR o (fun k => In I C.heap.size k \/ k = B.heap.size) [T.mk x z A s l] (.slice (some ⟨B.heap.size,0,none⟩) 1 1) := (LR.build1S B.drew (g := B.heap.size) (S := In I C.heap.size) (t := T.mk x z A s l) (cs := #[.int .i64 x,.string ⟨z.toArray⟩,.int .i64 A,.int .i64 s,.slice m l.length n]) l2.drew (fun k hk => Nat.lt_of_lt_of_le hk.2 (by omega)) rfl rfl).kept r (fun b K hs => by cases K; rcases hs with hs | hs; (have h1 : I <= c.pb := hs.1; omega); omega)
         have f : ∀ b,Value.ownBlock (.slice (some ⟨B.heap.size,0,none⟩) 1 1) = some b -> b = B.heap.size := fun b e => by simp [Value.ownBlock] at e; omega
         refine xf (v := .slice (some ⟨B.heap.size,0,none⟩) 1 1) (u := .slice a2 V.length a3) rfl _ _ rfl (fun k => In I C.heap.size k \/ (B.heap.size <= k /\ k <= o.heap.size + 1)) rfl rfl lb J
           (fun k hk e => by have h1 := f k e; have h2 : b4 <= k := hk.1; have h3 : k < o.heap.size := hk.2; omega) (fun k hk => hk.elim .inl (fun h => .inr ⟨by omega,by omega⟩)) (fun k hk => .inr ⟨by have h2 : b4 <= k := hk.1; omega,by have h3 : k < o.heap.size := hk.2; omega⟩) (.inr ⟨by first | omega | (simp <;> omega),by first | omega | (simp <;> omega)⟩) (by simp; omega) ?_
         intro v5 F M j; obtain ⟨a5,a6,e5⟩ := M.form; rw [List.length_append,List.length_singleton] at e5; subst e5; have s5 := j.size
         try simp at s5
         have X : RB F w.heap.size := RB.kept r4 j (fun e => by have := f _ e.symm; omega); have p5 : PS c F j4 d := PS.own p4 HL.out j (fun b K => by have := f b K; omega); have G5 : w.grownBy F (some c.pb) := xi G4 j (fun b K => by have := f b K; omega); have n5 : NB F C.heap.size (.int .i64 x) (.string ⟨z.toArray⟩) (.int .i64 A) (.int .i64 s) (.slice m l.length n) := NB.kept n4 j (fun e => by have := f _ e.symm; omega); have Q := X.lt; have R := n5.lt; obtain ⟨t0,t1,t2,t3,t4,tz⟩ := id n5
         obtain ⟨_,_,_,_,_,u0,u1,u2,u3,u4,uz⟩ := id X)
      | (have lb : LR (o.alloc (.cells #[.int .i64 x,.string ⟨z.toArray⟩,.int .i64 A,.int .i64 s,.slice m l.length n] 100)) (fun k => In I C.heap.size k \/ k = o.heap.size) [T.mk x z A s l] (.slice (some ⟨o.heap.size,0,none⟩) 1 1) := LR.build1S o (S := In I C.heap.size) (t := T.mk x z A s l) (cs := #[.int .i64 x,.string ⟨z.toArray⟩,.int .i64 A,.int .i64 s,.slice m l.length n]) l4 (fun k hk => Nat.lt_of_lt_of_le hk.2 (by omega)) rfl rfl
         have f : ∀ b,Value.ownBlock (.slice (some ⟨o.heap.size,0,none⟩) 1 1) = some b -> b = o.heap.size := fun b e => by simp [Value.ownBlock] at e; omega
         refine xf (v := .slice (some ⟨o.heap.size,0,none⟩) 1 1) (u := .slice a2 V.length a3) rfl _ _ rfl (fun k => In I C.heap.size k \/ (B.heap.size <= k /\ k <= o.heap.size + 1)) rfl rfl lb (J.alloc _)
           (fun k hk e => by have h1 := f k e; have h2 : b4 <= k := hk.1; have h3 : k < o.heap.size := hk.2; omega) (fun k hk => hk.elim .inl (fun h => .inr ⟨by omega,by omega⟩)) (fun k hk => .inr ⟨by have h2 : b4 <= k := hk.1; omega,by have h3 : k < o.heap.size := hk.2; omega⟩) (.inr ⟨by first | omega | (simp <;> omega),by first | omega | (simp <;> omega)⟩) (by simp; omega) ?_
         intro v5 F M j; obtain ⟨a5,a6,e5⟩ := M.form; rw [List.length_append,List.length_singleton] at e5; subst e5; have s5 := j.size
         try simp at s5
         have X : RB F w.heap.size := RB.kept (RB.alloc r4 _) j (fun e => by have := f _ e.symm; omega); have p5 : PS c F j4 d := PS.own (PS.alloc p4 _) HL.out j (fun b K => by have := f b K; omega); have G5 : w.grownBy F (some c.pb) := xi (zh G4 _) j (fun b K => by have := f b K; omega); have n5 : NB F C.heap.size (.int .i64 x) (.string ⟨z.toArray⟩) (.int .i64 A) (.int .i64 s) (.slice m l.length n) := NB.kept (NB.alloc n4 _) j (fun e => by have := f _ e.symm; omega); have Q := X.lt; have R := n5.lt; obtain ⟨t0,t1,t2,t3,t4,tz⟩ := id n5
         obtain ⟨_,_,_,_,_,u0,u1,u2,u3,u4,uz⟩ := id X))
    all_goals
      go_wp2; refine zn Tryz.results229 rfl (RB.five ?_) rfl ?_
      · exact X
      refine Steps.ok (a := T.mk 33 [] 0 s (T.mk x z A s l :: V)) (a0.trans (P.bind_ok O)) ⟨_,rfl,?_⟩ ?_ ?_ (by omega)
      · have b6 : LR F (In I F.heap.size) (T.mk x z A s l :: V) (.slice a5 (1 + V.length) a6) := M.bounded.mono (fun k hk => ⟨hk.1.elim (fun h => h.1) (fun h => by omega),hk.2⟩)
        refine LR.wide (lo := I) (hi := F.heap.size) (ts := T.mk x z A s l :: V) ?_ (by omega) (by first | omega | (simp <;> omega))
        exact LR.p5 b6 (by omega)
      · exact zC G5 (by omega)
      · exact PS.p5 p5 HL.out (by omega)
  · have b0 : (wd c.L U == [40]) = false := by simpa [xA] using hw
    go_wp2; refine zn Tryz.results229 rfl (RB.five ?_) rfl ?_
    · exact r2
    refine Steps.ok (a := T.mk x z A s l) (Z.trans (if_neg hw)) ⟨_,rfl,?_⟩ ?_ ?_ (by omega)
    · exact (LR.p5 l2 (by omega)).wd
    · exact zC G2 (by omega)
    · exact PS.p5 p2 HL.out (by omega)
end Go.Proofs.YtnmkffjklpfflaaGreatDoor
