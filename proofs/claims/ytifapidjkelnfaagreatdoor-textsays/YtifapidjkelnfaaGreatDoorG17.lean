/- The program's writer: the builder's methods,one text,several texts,blanks. -/
import Derived.Test.YtifapidjkelnfaaGreatDoorG02
namespace Go.Proofs.YtifapidjkelnfaaGreatDoor
open Go.RowKit Go.Maps Go.WideMaps Go.WideElems
set_option maxHeartbeats 2000000
set_option maxRecDepth 1000000
theorem vF (w0 : World) (wb : Nat) (w : World) (S : Bs) (L : Nat) (s : Bs) (h : Wr w0 wb w S L) (hlen : S.length + s.length <= 1000000000) :
  Calls Tryz.prog 120 #[ptr wb,.string ⟨s.toArray⟩] w (WPv w0 wb w S L s (.tuple #[.int .i64 s.length,.nilIface])) := by
 have g := zb (uZ w0 wb w S L h); have l := zb h; clear h
 go_enter Tryz.func120,Tryz.ntmps120
 go_wp2_with fail; go_at_call 153; refine g.out.mono ?_; rintro e i ⟨rfl,a,b,m⟩
 obtain ⟨z,j⟩ : ∃ z,i.cell? ⟨wb,1,none⟩ = some z := by
  obtain ⟨_,v,_,_,_,k,_⟩ := a.st
  exact ⟨v,by rw [Lib.cell_of_heap k]; rfl⟩
 have a := zb a; have b := zb b
 go_wp2_with (at_builtin; refine lE rfl _ _ rfl a.out j s rfl hlen ?_)
 intro q n c r y d f t u; have d := zb d; have f := zb f; go_wp2_with fail
 go_ret2
 exact ⟨rfl,d.out,b.out.trans f.out⟩
theorem t6 (w : World) (ty : TypeId) (c : Int) : ∀ (j : Nat) (u : Value),[Value.int .u8 c][j]? = some u -> (w.alloc (.cells #[.int .u8 c] ty)).cell? (Addr.add ⟨w.heap.size,0,none⟩ j) = some u := by
 intro j u a
 have d : j = 0 := by
  rcases Nat.lt_or_ge j 1 with b | b
  ·omega
  ·rw [List.getElem?_eq_none (by simpa using b)] at a; cases a
 subst d; rw [Addr.add_lit,World.cell?_alloc_at (hn := rfl)]
 simpa using a
theorem oX {w : World} {ops : Array Oper} {rest : List Oper} {o : Oper} {a : Act} {Q : Exit -> Act -> World -> Prop} (hgd : o.guard = none) (sl x : Operand)
  (ho : o.op = .call { callee := .builtin .append,args := #[sl,x],argTypes := #[73,73] }) {w0 : World} {wb : Nat} {S : Bs} {L : Nat} (c : UInt8) (ty : TypeId) (h : Wr w0 wb (w.alloc (.cells #[.int .u8 c.toNat] ty)) S L) (hc : (w.alloc (.cells #[.int .u8 c.toNat] ty)).cell? ⟨wb,1,none⟩ = some (a.eval sl)) (hx : a.eval x = .slice (some ⟨w.heap.size,0,none⟩) 1 1) (hlen : S.length + 1 <= 1000000000)
  (k : ∀ q n m w' z,Wr w0 wb (w'.setCell ⟨wb,1,none⟩ (.slice q n m)) (S ++ [c]) L -> WK wb (w.alloc (.cells #[.int .u8 c.toNat] ty)) (w'.setCell ⟨wb,1,none⟩ (.slice q n m)) -> w'.frozen? ⟨wb,1,none⟩ = false -> w'.cell? ⟨wb,1,none⟩ = some z -> wpList Tryz.prog ops Q rest (a.put o.dst (.slice q n m)) w') : wpList Tryz.prog ops Q (o :: rest) a (w.alloc (.cells #[.int .u8 c.toNat] ty)) := by
 obtain ⟨C,D,j,l,r⟩ := info_parts mi; obtain ⟨p,v,E,F,G,hb,own,d,s,H,I,J⟩ := h.st
 have M : a.eval sl = v := by
  rw [Lib.cell_of_heap hb] at hc
  simpa using hc.symm
 refine wpList_plain hgd fun K hK => ?_
 obtain ⟨y,w',N,A,B,X,t⟩ := run_append_own_at (P := Tryz.prog) (w.alloc (.cells #[.int .u8 c.toNat] ty)) w0.heap.size 73 o.type U8 C _ 1 1 Tryz.underlying73 D j l r rfl (by decide) v S.length _ own ⟨w.heap.size,0,none⟩ 1 1 [.int .u8 c.toNat]
  rfl (t6 w ty c.toNat) (fun u hu => by simp at hu; subst hu; rfl) (by unfold maxLen; omega) (by omega) h.gb.size
 have f : w'.ownsRow w0.heap.size U8 1 y (S ++ [c]).length (Lib.byteCells (S ++ [c])) := by
  rw [List.length_append,uh]
  exact A
 obtain ⟨O,R⟩ := Wr.push h G hb own d s H I J f B (by rcases t with e | e; exact .inl e; exact .inr (fun b hb' => by rw [e] at hb'; cases hb'; exact Nat.le_refl _)); have i : w'.heap[wb]? = some (.cells #[p,v,.int .i64 L,.map (some E),.map (some F)] WT (0,0)) := (B.block wb h.lt (fun e => d e.symm)).trans hb
 unfold Oper.wp execOp
 simp only [ho,resolve,invoke,builtin,Sem.run_bind,Sem.run_pure,Result.andThen_ok,List.map_toArray,List.map_cons,List.map_nil,M,hx,N]
 obtain ⟨q,n,m,rfl⟩ : ∃ q n m,y = .slice q n m := by
  rcases A.2 with ⟨e,_⟩ | ⟨g,U,V,e,_⟩
  ·exact ⟨_,_,_,e⟩
  ·exact ⟨_,_,_,e⟩
 exact hK _ _ (k q n m w' v O R (Lib.frozen_of_heap i 1) (by rw [Lib.cell_of_heap i]; rfl))
theorem gf (w0 : World) (wb : Nat) (w : World) (S : Bs) (L : Nat) (h : Wr w0 wb w S L) (hlen : S.length + 1 <= 1000000000) :
  Calls Tryz.prog 116 #[ptr wb,.int .u8 10] w (WPv w0 wb w S L [10] .nilIface) := by
 have i := zb (uZ w0 wb w S L h); have m := zb h; clear h
 go_enter Tryz.func116,Tryz.ntmps116
 go_wp2_with fail; go_at_call 153; refine i.out.mono ?_; rintro e j ⟨rfl,a,b,r⟩; have d := a.lt
 obtain ⟨z,k⟩ : ∃ z,j.cell? ⟨wb,1,none⟩ = some z := by
  obtain ⟨_,v,_,_,_,l,_⟩ := a.st
  exact ⟨v,by rw [Lib.cell_of_heap l]; rfl⟩
 have a := zb a; have b := zb b
 go_wp2_with (at_builtin; refine oX rfl _ _ rfl (10 : UInt8) _ (a.out.grown gan) (by rw [World.cell?_alloc_lt _ _ _ (by simpa using d)]; exact k) rfl hlen ?_)
 intro q n c s y f g t u; have f := zb f; have g := zb g; go_wp2_with fail
 go_ret
 exact ⟨rfl,f.out,b.out.trans ((WK.grown a.out gan).trans g.out)⟩
structure SL (wb : Nat) (w : World) (ss : List Bs) (g c : Nat) : Prop where
 fr : Fr wb w g
 n1 : ss.length <= c
 n2 : c <= 9223372036854775807
 cell : ∀ (k : Nat) (s : Bs),ss[k]? = some s -> w.cell? ⟨g,k,none⟩ = some (.string ⟨s.toArray⟩)
theorem SL.step {wb : Nat} {w w' : World} {ss : List Bs} {g c : Nat} (h : SL wb w ss g c) (hk : WK wb w w') : SL wb w' ss g c := ⟨h.fr.step hk,h.n1,h.n2,fun k s e => hk.cell h.fr (h.cell k s e)⟩
theorem fm {ss : List Bs} {i : Nat} {s : Bs} (h : ss[i]? = some s) : (ss.take (i + 1)).flatten = (ss.take i).flatten ++ s := by
 rw [List.take_add_one,h]
 simp
theorem sV (ss : List Bs) (i : Nat) : (ss.take i).flatten.length <= ss.flatten.length := by
 have h : (ss.take i ++ ss.drop i).flatten = (ss.take i).flatten ++ (ss.drop i).flatten := List.flatten_append; rw [List.take_append_drop] at h; rw [h,List.length_append]
 omega
theorem ub (w0 : World) (wb : Nat) (w : World) (S : Bs) (L : Nat) (ss : List Bs) (g c : Nat) (h : Wr w0 wb w S L) (hs : SL wb w ss g c) (hlen : S.length + ss.flatten.length <= 1000000000) (hn : ss.length <= 1000) :
  Calls Tryz.prog 82 #[ptr wb,.slice (some ⟨g,0,none⟩) ss.length c] w (WP w0 wb w S L ss.flatten) := by
 have t := zb h; have u := zb hs; have v := hs.n2; clear h hs
 go_enter Tryz.func82,Tryz.ntmps82
 go_wp2_with fail
 go_loopw [8] (fun iv wr => ∃ i : Nat,i <= ss.length /\ iv = .int .i64 ↑i /\ Hid (Wr w0 wb wr (S ++ (ss.take i).flatten) L) /\ Hid (WK wb w wr)) (fun iv _ => ss.length - (intOf iv).toNat)
 case atStart => exact ⟨0,Nat.zero_le _,rfl,by show Wr _ _ _ _ _; simpa using t.out,WK.refl _ _⟩
 case round =>
  obtain ⟨i,_,rfl,k,a⟩ := hrel
  by_cases b : i < ss.length
  ·obtain ⟨s,d⟩ : ∃ s,ss[i]? = some s := ⟨_,List.getElem?_eq_getElem b⟩
   have y := (u.out.step a.out).cell i s d; have l : Hid ((ss.take (i + 1)).flatten = (ss.take i).flatten ++ s) := fm d; have f := sV ss (i + 1); rw [l.out,List.length_append] at f; clear d; go_wp2_with fail; go_at_call 120; refine (vF w0 wb _ _ L s k.out (by rw [List.length_append]; omega)).mono ?_; rintro e m ⟨rfl,n,r⟩
   have j : Hid (Wr w0 wb m (S ++ (ss.take (i + 1)).flatten) L) := by show Wr _ _ _ _ _; rw [l.out,<- List.append_assoc]; exact n
   have x : Hid (WK wb w m) := a.out.trans r; clear n r; go_wp2_with fail
   exact ⟨⟨i + 1,by omega,by go_num,j,x⟩,by simp [intOf]; omega⟩
  ·have j : Hid (Wr w0 wb wr (S ++ ss.flatten) L) := by
    have := k.out; rw [List.take_of_length_le (by omega)] at this
    exact this
   go_wp2_with fail
   go_end0
   exact ⟨rfl,j.out,a.out⟩
theorem SL.new {w0 : World} {wb : Nat} {W : World} {S : Bs} {L : Nat} (h : Wr w0 wb W S L) (ss : List Bs) (cs : Array Value) (ty : TypeId) (hcs : cs = (ss.map fun l => Value.string ⟨l.toArray⟩).toArray) (hn : ss.length <= 1000) : SL wb (W.alloc (.cells cs ty)) ss W.heap.size ss.length := by
 subst hcs; refine ⟨Fr.new h gan (Nat.le_refl _) (by simp),Nat.le_refl _,by omega,fun k s e => ?_⟩; rw [World.cell?_alloc_at _ _ _ _ rfl]
 simp [e]
theorem zQ (w0 : World) (wb : Nat) (W : World) (S : Bs) (L : Nat) (s : Bs) (ty : TypeId) (b : Nat) (hb : b = W.heap.size) (h : Wr w0 wb W S L) (hlen : S.length + s.length <= 1000000000 := by first | omega | (simp only [List.length_append,List.length_cons,List.length_nil,zr]; omega)) :
  Calls Tryz.prog 82 #[ptr wb,.slice (some ⟨b,0,none⟩) 1 1] (W.alloc (.cells #[.string ⟨s.toArray⟩] ty)) fun e w' => e = .returned (.tuple #[]) /\ Wr w0 wb w' (S ++ s) L /\ WK wb W w' := by
 subst hb; refine (ub w0 wb _ S L [s] _ 1 (h.grown gan) (SL.new h [s] _ ty rfl (by simp)) (by simpa using hlen) (by simp)).mono ?_; rintro e w' ⟨rfl,q,r⟩
 exact ⟨rfl,by simpa using q,(WK.grown h gan).trans r⟩
theorem ko (w0 : World) (wb : Nat) (W : World) (S : Bs) (L : Nat) (s t : Bs) (ty : TypeId) (b : Nat) (hb : b = W.heap.size) (h : Wr w0 wb W S L) (hlen : S.length + s.length + t.length <= 1000000000) :
  Calls Tryz.prog 82 #[ptr wb,.slice (some ⟨b,0,none⟩) 2 2] (W.alloc (.cells #[.string ⟨s.toArray⟩,.string ⟨t.toArray⟩] ty)) fun e w' => e = .returned (.tuple #[]) /\ Wr w0 wb w' (S ++ (s ++ t)) L /\ WK wb W w' := by
 subst hb; refine (ub w0 wb _ S L [s,t] _ 2 (h.grown gan) (SL.new h [s,t] _ ty rfl (by simp)) (by simp; omega) (by simp)).mono ?_; rintro e w' ⟨rfl,q,r⟩
 exact ⟨rfl,by simpa using q,(WK.grown h gan).trans r⟩
theorem fk (w0 : World) (wb : Nat) (W : World) (S : Bs) (L : Nat) (s t u : Bs) (ty : TypeId) (b : Nat) (hb : b = W.heap.size) (h : Wr w0 wb W S L) (hlen : S.length + s.length + t.length + u.length <= 1000000000) :
  Calls Tryz.prog 82 #[ptr wb,.slice (some ⟨b,0,none⟩) 3 3] (W.alloc (.cells #[.string ⟨s.toArray⟩,.string ⟨t.toArray⟩,.string ⟨u.toArray⟩] ty)) fun e w' => e = .returned (.tuple #[]) /\ Wr w0 wb w' (S ++ (s ++ (t ++ u))) L /\ WK wb W w' := by
 subst hb; refine (ub w0 wb _ S L [s,t,u] _ 3 (h.grown gan) (SL.new h [s,t,u] _ ty rfl (by simp)) (by simp; omega) (by simp)).mono ?_; rintro e w' ⟨rfl,q,r⟩
 exact ⟨rfl,by simpa using q,(WK.grown h gan).trans r⟩
theorem dW (i : Nat) : zD (i + 1) = zD i ++ [32,32] := by
 unfold zD
 rw [show 2 * (i + 1) = 2 * i + 1 + 1 by omega,List.replicate_succ',List.replicate_succ']
 simp
theorem x8 (w0 : World) (wb : Nat) (w : World) (S : Bs) (L : Nat) (h : Wr w0 wb w S L) (hlen : S.length + 2 * L <= 1000000000 := by first | omega | (simp only [List.length_append,List.length_cons,List.length_nil,zr]; omega)) :
  Calls Tryz.prog 115 #[ptr wb] w (WP w0 wb w S L (zD L)) := by
 have j := zb h; have n := h.lcell.1; clear h
 go_enter Tryz.func115,Tryz.ntmps115
 go_wp2_with fail
 go_loopw [6] (fun iv wr => ∃ i : Nat,i <= L /\ iv = .int .i64 ↑i /\ Hid (Wr w0 wb wr (S ++ zD i) L) /\ Hid (WK wb w wr)) (fun iv _ => L - (intOf iv).toNat)
 case atStart => exact ⟨0,Nat.zero_le _,rfl,by show Wr _ _ _ _ _; simpa [zD] using j.out,WK.refl _ _⟩
 case round =>
  obtain ⟨i,_,rfl,a,b⟩ := hrel
  by_cases k : i < L
  ·go_wp2_with fail
   go_at_call 120; refine (vF w0 wb _ _ L [32,32] a.out (by simp [zr]; omega)).mono ?_; rintro e d ⟨rfl,f,g⟩
   have l : Hid (Wr w0 wb d (S ++ zD (i + 1)) L) := by show Wr _ _ _ _ _; rw [dW,<- List.append_assoc]; exact f
   have m : Hid (WK wb w d) := b.out.trans g; clear f g; go_wp2_with fail
   exact ⟨⟨i + 1,by omega,by go_num,l,m⟩,by simp [intOf]; omega⟩
  ·obtain rfl : i = L := by omega
   go_wp2_with fail
   go_end0
   exact ⟨rfl,a.out,b.out⟩
theorem fM (w0 : World) (wb : Nat) (w : World) (S : Bs) (L : Nat) (ss : List Bs) (g c : Nat) (h : Wr w0 wb w S L) (hs : SL wb w ss g c) (hlen : S.length + 2 * L + ss.flatten.length + 1 <= 1000000000) (hn : ss.length <= 1000) :
  Calls Tryz.prog 77 #[ptr wb,.slice (some ⟨g,0,none⟩) ss.length c] w (WP w0 wb w S L (zD L ++ (ss.flatten ++ [10]))) := by
 have l := zb h; have m := zb hs; clear h hs
 go_enter Tryz.func77,Tryz.ntmps77
 go_wp2_with fail; go_at_call 115; refine (x8 w0 wb _ S L l.out).mono ?_; rintro e x ⟨rfl,a,b⟩; have n := zb a; have d := zb b; clear a b; go_wp2_with fail; go_at_call 82; refine (ub w0 wb _ _ L ss g c n.out (m.out.step d.out) (by rw [List.length_append,zr]; omega) hn).mono ?_; rintro e y ⟨rfl,f,i⟩; have r := zb f; have s := zb (d.out.trans i); clear f i; go_wp2_with fail; go_at_call 116; refine (gf w0 wb _ _ L r.out (by rw [List.length_append,List.length_append,zr]; omega)).mono ?_; rintro e t ⟨rfl,j,k⟩
 have u : Hid (Wr w0 wb t (S ++ (zD L ++ (ss.flatten ++ [10]))) L) := by show Wr _ _ _ _ _; simpa only [List.append_assoc] using j
 have v := zb (s.out.trans k); clear j k; go_wp2_with fail
 go_end0
 exact ⟨rfl,u.out,v.out⟩
theorem kL (w0 : World) (wb : Nat) (W : World) (S : Bs) (L : Nat) (s : Bs) (ty : TypeId) (b : Nat) (hb : b = W.heap.size) (h : Wr w0 wb W S L) (hlen : S.length + 2 * L + s.length + 1 <= 1000000000 := by first | omega | (simp only [List.length_append,List.length_cons,List.length_nil,zr]; omega)) :
  Calls Tryz.prog 77 #[ptr wb,.slice (some ⟨b,0,none⟩) 1 1] (W.alloc (.cells #[.string ⟨s.toArray⟩] ty)) fun e w' => e = .returned (.tuple #[]) /\ Wr w0 wb w' (S ++ (zD L ++ (s ++ [10]))) L /\ WK wb W w' := by
 subst hb; refine (fM w0 wb _ S L [s] _ 1 (h.grown gan) (SL.new h [s] _ ty rfl (by simp)) (by simpa using hlen) (by simp)).mono ?_; rintro e w' ⟨rfl,q,r⟩
 exact ⟨rfl,by simpa using q,(WK.grown h gan).trans r⟩
theorem ky (w0 : World) (wb : Nat) (W : World) (S : Bs) (L : Nat) (s t u : Bs) (ty : TypeId) (b : Nat) (hb : b = W.heap.size) (h : Wr w0 wb W S L) (hlen : S.length + 2 * L + s.length + t.length + u.length + 1 <= 1000000000 := by first | omega | (simp only [List.length_append,List.length_cons,List.length_nil,zr]; omega)) :
  Calls Tryz.prog 77 #[ptr wb,.slice (some ⟨b,0,none⟩) 3 3] (W.alloc (.cells #[.string ⟨s.toArray⟩,.string ⟨t.toArray⟩,.string ⟨u.toArray⟩] ty)) fun e w' => e = .returned (.tuple #[]) /\ Wr w0 wb w' (S ++ (zD L ++ (s ++ (t ++ (u ++ [10]))))) L /\ WK wb W w' := by
 subst hb; refine (fM w0 wb _ S L [s,t,u] _ 3 (h.grown gan) (SL.new h [s,t,u] _ ty rfl (by simp)) (by simp; omega) (by simp)).mono ?_; rintro e w' ⟨rfl,q,r⟩
 exact ⟨rfl,by simpa using q,(WK.grown h gan).trans r⟩
def EW (w0 : World) (wb : Nat) (w : World) (L : Nat) (g : Nat) (fa ca : Array Value) (l : List T) (tx : T -> Bs) : Prop :=
 ∀ (t : T) (sv : Value) (w1 : World) (S : Bs),t ∈ l -> AT w0 t.subs sv -> Wr w0 wb w1 S L -> WK wb w w1 -> S.length + (tx t).length <= 1000000000 -> Calls Tryz.prog g (fa ++ #[zq t sv] ++ ca) w1 (WP w0 wb w1 S L (tx t))
theorem EW.step {w0 : World} {wb : Nat} {w w' : World} {L g : Nat} {fa ca : Array Value} {l : List T} {tx : T -> Bs} (h : EW w0 wb w L g fa ca l tx) (hk : WK wb w w') : EW w0 wb w' L g fa ca l tx := fun t sv w1 S hm ha hw hk1 hl => h t sv w1 S hm ha hw (hk.trans hk1) hl
def EN (g : Nat) : Prop := ∀ (args : Array Value) (w : World),(callFunc g args).run Tryz.prog w = .ok (.enter g args) w
theorem vt (sep : Bs) (l : List Bs) (i : Nat) (x : Bs) (h : l[i]? = some x) : zE sep (l.take (i + 1)) = zE sep (l.take i) ++ ((if i = 0 then [] else sep) ++ x) := by
 have f : i < l.length := by
  rcases Nat.lt_or_ge i l.length with a | a
  ·exact a
  ·rw [List.getElem?_eq_none a] at h; cases h
 rw [List.take_add_one,h]; simp only [Option.toList_some]; rw [tZ]
 congr 2
 by_cases b : i = 0
 ·subst b; simp
 ·rw [if_neg b,if_neg]
  simp only [List.isEmpty_iff]; intro e; have d := congrArg List.length e; rw [List.length_take,List.length_nil] at d
  omega
theorem tW (sep : Bs) (l : List Bs) (i k : Nat) : (zE sep (l.take i)).length <= (zE sep (l.take (i + k))).length := by
 induction k with
 | zero => exact Nat.le_refl _
 | succ k ih =>
  rcases Nat.lt_or_ge (i + k) l.length with h | h
  ·rw [<- Nat.add_assoc,vt sep l (i + k) _ (List.getElem?_eq_getElem h),List.length_append]
   omega
  ·rw [<- Nat.add_assoc,List.take_of_length_le (show l.length <= i + k + 1 by omega)]
   rw [List.take_of_length_le h] at ih
   exact ih
theorem vM (sep : Bs) (l : List Bs) (i : Nat) : (zE sep (l.take i)).length <= (zE sep l).length := by
 have := tW sep l i l.length; rw [List.take_of_length_le (show l.length <= i + l.length by omega)] at this
 exact this
theorem vb (w0 : World) (wb : Nat) (w : World) (S : Bs) (L : Nat) (ts : List T) (sl : Value) (sep : Bs) (g : Nat) (fa ca : Array Value) (tx : T -> Bs) (h : Wr w0 wb w S L) (ha : AT w0 ts sl) (he : EW w0 wb w L g fa ca ts tx) (hn : EN g) (hlen : S.length + (zE sep (ts.map tx)).length <= 1000000000 := by first | omega | (simp only [List.length_append,List.length_cons,List.length_nil,zr]; omega)) :
  Calls Tryz.prog 117 #[ptr wb,sl,.string ⟨sep.toArray⟩,.func (.func g) fa ca] w (WP w0 wb w S L (zE sep (ts.map tx))) := by
 obtain ⟨_,_,rfl,_,r⟩ := ha.form
 unfold maxLen at r
 have J := zb h; have K := zb ha; have D := zb he; have M : ∀ (args : Array Value) (w : World),(callFunc g args).run Tryz.prog w = .ok (.enter g args) w := hn; clear h ha he hn
 go_enter Tryz.func117,Tryz.ntmps117
 go_wp2_with fail
 go_loopw [12] (fun iv wr => ∃ i : Nat,i <= ts.length /\ iv = .int .i64 ↑i /\ Hid (Wr w0 wb wr (S ++ zE sep ((ts.map tx).take i)) L) /\ Hid (WK wb w wr)) (fun iv _ => ts.length - (intOf iv).toNat)
 case atStart => exact ⟨0,Nat.zero_le _,rfl,by show Wr _ _ _ _ _; simpa [zE] using J.out,WK.refl _ _⟩
 case round =>
  obtain ⟨i,_,rfl,a,m⟩ := hrel
  by_cases s : i < ts.length
  ·obtain ⟨u,t⟩ : ∃ u,ts[i]? = some u := ⟨_,List.getElem?_eq_getElem s⟩
   obtain ⟨_,_,_,N,E,O,v⟩ := K.out.node i u t; cases N; obtain ⟨Q,R,rfl,_,_⟩ := v.form; obtain ⟨_,_,_,_,_⟩ := E.kept a.out.gb; have F := zb v; have G := zb t; have U := a.out.lt; clear t O v E
   have f : (ts.map tx)[i]? = some (tx u) := by rw [List.getElem?_map,G.out]; rfl
   have b := vM sep (ts.map tx) (i + 1); have n := zb (vt sep (ts.map tx) i (tx u) f); clear f; have x := FB.new a.out u (.slice Q u.subs.length R) 24 grn; have d := List.mem_of_getElem? G.out
   by_cases h0 : 0 < i
   ·have y : (0 : Int) < (i : Int) := by omega
    rw [n.out,if_neg (show ¬ i = 0 by omega)] at b; simp only [List.length_append] at b; have V := zb x; clear x; go_wp2_with fail; go_at_call 120; refine (vF w0 wb _ _ L sep (a.out.grown gan) (by rw [List.length_append]; omega)).mono ?_; rintro e X ⟨rfl,H,z⟩; have A := zb H; have I := zb (m.out.trans ((WK.grown a.out gan).trans z)); obtain ⟨_,_,_,_,_⟩ := (V.out.step z).box; clear H z; go_wp2_with fail; refine (D.out u _ _ _ d F.out A.out I.out (by rw [List.length_append,List.length_append]; omega)).mono ?_; rintro e j ⟨rfl,k,l⟩
    have B : Hid (Wr w0 wb j (S ++ zE sep ((ts.map tx).take (i + 1))) L) := by show Wr _ _ _ _ _; rw [n.out,if_neg (show ¬ i = 0 by omega)]; simpa only [List.append_assoc] using k
    have C : Hid (WK wb w j) := I.out.trans l; clear k l; go_wp2_with fail
    exact ⟨⟨i + 1,by omega,by go_num,B,C⟩,by simp [intOf]; omega⟩
   ·have y : ¬ (0 : Int) < (i : Int) := by omega
    rw [n.out,if_pos (show i = 0 by omega)] at b; simp only [List.length_append,List.nil_append] at b; clear x; go_wp2_with fail; refine (D.out u _ _ _ d F.out (a.out.grown gan) (m.out.trans (WK.grown a.out gan)) (by rw [List.length_append]; omega)).mono ?_; rintro e j ⟨rfl,k,l⟩
    have B : Hid (Wr w0 wb j (S ++ zE sep ((ts.map tx).take (i + 1))) L) := by show Wr _ _ _ _ _; rw [n.out,if_pos (show i = 0 by omega)]; simpa only [List.append_assoc,List.nil_append] using k
    have C : Hid (WK wb w j) := m.out.trans ((WK.grown a.out gan).trans l); clear k l; go_wp2_with fail
    exact ⟨⟨i + 1,by omega,by go_num,B,C⟩,by simp [intOf]; omega⟩
  ·have A : Hid (Wr w0 wb wr (S ++ zE sep (ts.map tx)) L) := by
    have := a.out; rw [List.take_of_length_le (by simp; omega)] at this
    exact this
   go_wp2_with fail
   go_end0
   exact ⟨rfl,A.out,m.out⟩
set_option maxHeartbeats 4000000
theorem sO (w0 : World) (wb : Nat) (w : World) (S : Bs) (L : Nat) (t : T) (sv : Value) (X : Bs) (b1 b2 g : Nat) (fa ca : Array Value) (h : Wr w0 wb w S L) (ha : AT w0 t.subs sv) (d1 : w.cell? ⟨b1,0,none⟩ = some (ptr wb)) (d2 : w.cell? ⟨b2,0,none⟩ = some (.func (.func g) fa ca)) (f2 : Fr wb w b2) (hn : EN g)
  (he : ∀ w1 S',Wr w0 wb w1 S' L -> WK wb w w1 -> S'.length + X.length <= 1000000000 -> Calls Tryz.prog g (fa ++ #[zq t sv] ++ ca) w1 (WP w0 wb w1 S' L X)) (hlen : S.length + 2 * L + X.length <= 1000000000) :
  Calls Tryz.prog 154 #[zq t sv,ptr b1,ptr b2] w (WP w0 wb w S L (zD L ++ X)) := by
 obtain ⟨d,f,rfl,_,_⟩ := ha.form; have i := zb h; have s := zb he; have u : ∀ (args : Array Value) (w : World),(callFunc g args).run Tryz.prog w = .ok (.enter g args) w := hn; have j := FB.new h t (.slice d t.subs.length f) 24 grn; have v := zb j; have y := zb f2; have z := f2.lt; have A := zc d1; obtain ⟨B,x,m,p,l⟩ := t; clear h ha he hn j f2
 change Calls Tryz.prog 154 #[.agg #[.int .i64 B,.string ⟨x.toArray⟩,.int .i64 m,.int .i64 p,.slice d l.length f],ptr b1,ptr b2] w _
 go_enter Tryz.func154,Tryz.ntmps154
 go_wp2_with fail; go_at_call 115; refine (x8 w0 wb _ S L (i.grown gan)).mono ?_; rintro e w1 ⟨rfl,k,a⟩; have C := zb k; have b := (WK.grown i gan).trans a; obtain ⟨_,_,_,_,_⟩ := ((v.step a).box).p
 have G := b.cell y d2; clear k a; go_wp2_with fail; refine (s _ _ C b (by rw [List.length_append,zr]; omega)).mono ?_; rintro e D ⟨rfl,n,r⟩
 have E : Hid (Wr w0 wb D (S ++ (zD L ++ X)) L) := by show Wr _ _ _ _ _; simpa only [List.append_assoc] using n
 have F := b.trans r; clear n r; go_wp2_with fail
 go_end0
 exact ⟨rfl,E,F⟩
theorem Wr.levelI {w0 : World} {wb : Nat} {w : World} {S : Bs} {L : Nat} (h : Wr w0 wb w S L) (L' : Nat) (z : Int) (hz : z = L') : Wr w0 wb (w.setCell ⟨wb,2,none⟩ (.int .i64 z)) S L' := by subst hz; exact h.level L'
theorem oI : EN 154 := enters_of Tryz.func154 (by kernel_rfl) rfl
theorem uj (w : World) (v : Value) (ty : TypeId) : (w.alloc (.cells #[v] ty)).cell? ⟨w.heap.size,0,none⟩ = some v := by rw [World.cell?_alloc_at _ _ _ _ rfl]; rfl
theorem EW.lines {w0 : World} {wb : Nat} {w : World} {S : Bs} {L g : Nat} {fa ca : Array Value} {ts : List T} {tx : T -> Bs} (h : Wr w0 wb w S L) (he : EW w0 wb w L g fa ca ts tx) (hn : EN g) (t1 t2 : TypeId) :
  EW w0 wb ((w.alloc (.cells #[ptr wb] t1)).alloc (.cells #[.func (.func g) fa ca] t2)) L 154 #[] #[ptr w.heap.size,ptr (w.heap.size + 1)] ts (fun t => zD L ++ tx t) := by
 have d : w.grownBy (w.alloc (.cells #[ptr wb] t1)) none := zf (zj w none) _; have a : w.grownBy ((w.alloc (.cells #[ptr wb] t1)).alloc (.cells #[.func (.func g) fa ca] t2)) none := zf d _; have k : Fr wb ((w.alloc (.cells #[ptr wb] t1)).alloc (.cells #[.func (.func g) fa ca] t2)) w.heap.size := Fr.new h a (Nat.le_refl _) (by simp; omega); have f : Fr wb ((w.alloc (.cells #[ptr wb] t1)).alloc (.cells #[.func (.func g) fa ca] t2)) (w.heap.size + 1) := Fr.new h a (by omega) (by simp)
 have l : ((w.alloc (.cells #[ptr wb] t1)).alloc (.cells #[.func (.func g) fa ca] t2)).cell? ⟨w.heap.size,0,none⟩ = some (ptr wb) := by
  rw [World.cell?_alloc_lt _ _ _ (by simp)]; exact uj w _ t1
 have m : ((w.alloc (.cells #[ptr wb] t1)).alloc (.cells #[.func (.func g) fa ca] t2)).cell? ⟨w.heap.size + 1,0,none⟩ = some (.func (.func g) fa ca) := by
  simp
 intro t i n r s j u b v; simp only [List.length_append,zr] at v
 exact sO w0 wb n r L t i (tx t) _ _ g fa ca u j (b.cell k l) (b.cell f m) (f.step b) hn (fun w2 S2 hw2 hk2 hl2 => he t i w2 S2 s j hw2 ((WK.grown h a).trans (b.trans hk2)) hl2) (by omega)
theorem pC {w0 : World} {wb : Nat} {w : World} {S : Bs} {L : Nat} (h : Wr w0 wb w S L) (v : Value) (t1 t2 : TypeId) : Fr wb ((w.alloc (.cells #[ptr wb] t1)).alloc (.cells #[v] t2)) w.heap.size /\ ((w.alloc (.cells #[ptr wb] t1)).alloc (.cells #[v] t2)).cell? ⟨w.heap.size,0,none⟩ = some (ptr wb) :=
 ⟨Fr.new h (zf gan _) (Nat.le_refl _) (by simp; omega),by rw [World.cell?_alloc_lt _ _ _ (by simp)]; exact uj w _ t1⟩
theorem pE (w0 : World) (wb : Nat) (w : World) (S : Bs) (L : Nat) (ts : List T) (sl : Value) (sep : Bs) (sb : ByteArray) (hsb : sb = ⟨sep.toArray⟩) (g : Nat) (fa ca : Array Value) (tx : T -> Bs) (h : Wr w0 wb w S L) (ha : AT w0 ts sl) (he : EW w0 wb w L g fa ca ts tx) (hn : EN g) (hlen : S.length + (zE sep (ts.map tx)).length <= 1000000000) :
  Calls Tryz.prog 117 #[ptr wb,sl,.string sb,.func (.func g) fa ca] w (WP w0 wb w S L (zE sep (ts.map tx))) := by
 subst hsb
 exact vb w0 wb w S L ts sl sep g fa ca tx h ha he hn hlen
theorem gO (w0 : World) (wb : Nat) (w : World) (S : Bs) (L : Nat) (ts : List T) (sl : Value) (sep last : Bs) (g : Nat) (fa ca : Array Value) (tx : T -> Bs) (h : Wr w0 wb w S L) (ha : AT w0 ts sl) (he : EW w0 wb w (L + 1) g fa ca ts tx) (hn : EN g) (hsep : sep.length <= 100) (hL : L <= 1000) (hlen : S.length + (yz sep last tx L ts).length <= 1000000000) :
  Calls Tryz.prog 119 #[ptr wb,sl,.string ⟨sep.toArray⟩,.string ⟨last.toArray⟩,.func (.func g) fa ca] w (WP w0 wb w S L (yz sep last tx L ts)) := by
 have y := zb ha; have z := h.lt; obtain ⟨_,_,rfl,_,m⟩ := ha.form; have i := zb h; have A := zb he; have B := zb hn; have M := h.lcell.1; have N := h.lcell.2; clear h ha he hn
 unfold maxLen at m
 by_cases r : ts.length = 0
 ·obtain rfl : ts = [] := List.eq_nil_of_length_eq_zero r
  have j : Hid (yz sep last tx L [] = []) := rfl
  go_enter Tryz.func119,Tryz.ntmps119
  go_wp2_with fail
  go_end0
  exact ⟨rfl,by rw [j.out,List.append_nil]; exact i.grown (zf gan _),WK.grown i (zf gan _)⟩
 ·have j : Hid (yz sep last tx L ts = zE (sep ++ [10]) (ts.map fun t => zD (L + 1) ++ tx t) ++ (last ++ [10])) := by
   show _ = _
   unfold yz
   rw [if_neg (by simpa [List.isEmpty_iff] using fun e => r (by rw [e]; rfl))]
  rw [j.out] at hlen; simp only [la,lc,ln] at hlen
  have C : ((ts.length : Int) == 0) = false := bn (by omega)
  have O : ¬ (9223372036854775807 < sep.length + 1) := by omega
  go_enter Tryz.func119,Tryz.ntmps119
  go_wp2_with fail; have k : Hid (Wr w0 wb (w.setCell ⟨wb,2,none⟩ (.int .i64 ((L : Int) + 1))) S (L + 1)) := i.levelI (L + 1) _ (by omega); have s : Hid (WK wb w (w.setCell ⟨wb,2,none⟩ (.int .i64 ((L : Int) + 1)))) := WK.set i 2 _ (by omega)
  have b : (w.setCell ⟨wb,2,none⟩ (.int .i64 ((L : Int) + 1))).heap.size = w.heap.size := by simp [World.setCell]
  have d := zb (EW.lines k (A.step s) B 69 71); have a := zb (pC k (.func (.func g) fa ca) 69 71); rw [b] at d a; clear b
  generalize w.setCell ⟨wb,2,none⟩ (.int .i64 ((L : Int) + 1)) = wl at *
  go_at_call 117; refine (pE w0 wb _ S (L + 1) ts _ (sep ++ [10]) _ (zC sep [10]) _ _ _ (fun t => zD (L + 1) ++ tx t) (k.grown (zf gan _)) y d oI (by omega)).mono ?_; rintro e D ⟨rfl,u,l⟩; have E := zb u; have F := s.trans ((WK.grown k (zf gan _)).trans l); have G := a.1.step l; have H := l.cell a.1 a.2; clear u l; go_wp2_with fail; go_at_call 82; refine (ko w0 wb D _ (L + 1) last [10] _ _ rfl E (by simp only [la,lc,ln]; omega)).mono ?_; rintro e Q ⟨rfl,f,n⟩; have v := zb f; have I := F.trans n; have R := n.cell G H; have J := f.lcell.1; have K := f.lcell.2; have x := f.lt; clear f n; go_wp2_with fail
  go_end0
  refine ⟨rfl,?_,I.trans (WK.set v 2 _ (by omega))⟩; rw [j.out,<- List.append_assoc]
  exact v.levelI L _ (by omega)
theorem y9 (w0 : World) (wb : Nat) (w : World) (S : Bs) (word : Bs) (ts : List T) (sl : Value) (g : Nat) (fa ca : Array Value) (tx : T -> Bs) (h : Wr w0 wb w S 0) (ha : AT w0 ts sl) (he : EW w0 wb w 1 g fa ca ts tx) (hn : EN g) (hlen : S.length + (zy word tx ts).length <= 1000000000 := by first | omega | (simp only [List.length_append,List.length_cons,List.length_nil,zr]; omega)) :
  Calls Tryz.prog 79 #[ptr wb,.string ⟨word.toArray⟩,sl,.func (.func g) fa ca] w (WP w0 wb w S 0 (zy word tx ts)) := by
 have n := zb ha; obtain ⟨_,_,rfl,_,b⟩ := ha.form; have d := zb h; have r := zb he; have s := zb hn; clear h ha he hn
 unfold maxLen at b
 by_cases f : ts.length = 0
 ·obtain rfl : ts = [] := List.eq_nil_of_length_eq_zero f
  have a : Hid (zy word tx [] = []) := rfl
  go_enter Tryz.func79,Tryz.ntmps79
  go_wp2_with fail
  go_end0
  exact ⟨rfl,by rw [a.out,List.append_nil]; exact d,WK.refl _ _⟩
 ·have a : Hid (zy word tx ts = word ++ ([10] ++ yz [59] [59] tx 0 ts)) := by
   show _ = _
   unfold zy
   rw [if_neg (by simpa [List.isEmpty_iff] using fun e => f (by rw [e]; rfl))]
   rfl
  rw [a.out] at hlen; simp only [la,lc,ln] at hlen
  have t : (0 : Int) < (ts.length : Int) := by omega
  go_enter Tryz.func79,Tryz.ntmps79
  go_wp2_with fail; go_at_call 77; refine (kL w0 wb w _ 0 word _ _ rfl d).mono ?_; rintro e z ⟨rfl,i,j⟩; have u := zb i; have k := zb j; clear i j; go_wp2_with fail; go_at_call 119; refine (gO w0 wb _ _ 0 ts _ [59] [59] g fa ca tx u n (r.step k) s (by decide) (by decide) (by simp only [la,lc,ln,zr]; omega)).mono ?_; rintro e v ⟨rfl,l,m⟩
  have x : Hid (Wr w0 wb v (S ++ zy word tx ts) 0) := by
   show Wr _ _ _ _ _
   rw [a.out]
   simpa only [List.append_assoc,show zD 0 = [] from rfl,List.nil_append] using l
  have y := k.trans m; clear l m; go_wp2_with fail
  go_end0
  exact ⟨rfl,x,y⟩
theorem x7 (w0 : World) (wb : Nat) (w : World) (S : Bs) (L : Nat) (kd : Int) (x : Bs) (m p : Int) (ts : List T) (sv : Value) (h : Wr w0 wb w S L) (ha : AT w0 (T.mk kd x m p ts).subs sv) (hlen : S.length + (zv (.mk kd x m p ts)).length <= 1000000000) :
  Calls Tryz.prog 81 #[ptr wb,zq (.mk kd x m p ts) sv] w (WP w0 wb w S L (zv (.mk kd x m p ts))) := by
 have J := zb ha; have b := zb h; have F := h.lt; obtain ⟨a,n,c,rfl,_,_,A⟩ := ha.any
 change ts.length = n at A
 subst A; clear h ha
 change Calls Tryz.prog 81 #[ptr wb,.agg #[.int .i64 kd,.string ⟨x.toArray⟩,.int .i64 m,.int .i64 p,.slice a ts.length c]] w _
 by_cases B : m = 1
 ·subst B
  have g : Hid (zv (.mk kd x 1 p ts) = x ++ [42]) := rfl
  rw [g.out] at hlen; simp only [la,lc,ln] at hlen
  go_enter Tryz.func81,Tryz.ntmps81
  go_wp2_with fail; go_at_call 82; refine (zQ w0 wb _ _ L x _ _ (by simp) (b.grown gan)).mono ?_; rintro e G ⟨rfl,i,d⟩; have j := zb i; have y := (WK.grown b gan).trans d; have f := zb ((FB.newX b kd x 1 p ts (.slice a ts.length c) 24 grn).step ((WK.grown (b.grown gan) grn).trans d)); obtain ⟨k,l,r,s,t⟩ := f.box.p; have u := f.fr.lt
  clear i d; go_wp2_with fail; go_at_call 82; refine (zQ w0 wb _ _ L [42] _ _ (by simp) (j.grown grn)).mono ?_; rintro e K ⟨rfl,C,z⟩; have H := zb C; have I := km y j z; have D := bm f j z; cases D.box.q; have E := D.fr.lt
  clear C z; go_wp2_with fail
  go_end0
  rw [g.out]; refine ⟨rfl,?_,I⟩; have v := id H
  try simp only [List.append_assoc] at v ⊢
  exact v
 ·have g : Hid (zv (.mk kd x m p ts) = x) := by show _ = _; simp [zv,T.num,T.name,B]
  rw [g.out] at hlen
  go_enter Tryz.func81,Tryz.ntmps81
  go_wp2_with fail; go_at_call 82; refine (zQ w0 wb _ _ L x _ _ (by simp) (b.grown gan)).mono ?_; rintro e G ⟨rfl,i,d⟩; have j := zb i; have y := (WK.grown b gan).trans d; have f := zb ((FB.newX b kd x m p ts (.slice a ts.length c) 24 grn).step ((WK.grown (b.grown gan) grn).trans d)); obtain ⟨k,l,r,s,t⟩ := f.box.p; have u := f.fr.lt
  clear i d; go_wp2_with fail
  go_end0
  rw [g.out]; refine ⟨rfl,?_,y⟩; have v := id j
  try simp only [List.append_assoc,List.nil_append,List.append_nil] at v ⊢
  exact v
def xJ (ts : List T) : Bs := zu (fun u => u.name ++ [46]) ts
theorem pt {ts : List T} {i : Nat} {u : T} (h : ts[i]? = some u) : xJ (ts.take (i + 1)) = xJ (ts.take i) ++ (u.name ++ [46]) := by
 unfold xJ
 rw [List.take_add_one,h,yf]
 simp [zu]
theorem mB (ts : List T) (i : Nat) : (xJ (ts.take i)).length <= (xJ ts).length := by
 have h : xJ (ts.take i ++ ts.drop i) = xJ (ts.take i) ++ xJ (ts.drop i) := yf _ _ _; rw [List.take_append_drop] at h; rw [h,List.length_append]
 omega
theorem tI (w0 : World) (wb : Nat) (w : World) (S : Bs) (L : Nat) (kd : Int) (x : Bs) (m p : Int) (ts : List T) (sv : Value) (h : Wr w0 wb w S L) (ha : AT w0 (T.mk kd x m p ts).subs sv) (hlen : S.length + (xJ ts ++ x).length <= 1000000000) :
  Calls Tryz.prog 124 #[ptr wb,zq (.mk kd x m p ts) sv] w (WP w0 wb w S L (xJ ts ++ x)) := by
 have D := zb ha; have k := zb h; have E := h.lt; obtain ⟨a,n,c,rfl,_,_,t⟩ := ha.any
 change ts.length = n at t
 subst t; clear h ha
 change Calls Tryz.prog 124 #[ptr wb,.agg #[.int .i64 kd,.string ⟨x.toArray⟩,.int .i64 m,.int .i64 p,.slice a ts.length c]] w _
 simp only [List.length_append] at hlen
 go_enter Tryz.func124,Tryz.ntmps124
 go_wp2_with fail
 go_loopw [9] (fun iv wr => ∃ i : Nat,i <= ts.length /\ iv = .int .i64 ↑i /\ Hid (Wr w0 wb wr (S ++ xJ (ts.take i)) L) /\ Hid (WK wb w wr) /\ Hid (FB wb wr w.heap.size (.mk kd x m p ts) (.slice a ts.length c))) (fun iv _ => ts.length - (intOf iv).toNat)
 case atStart => exact ⟨0,Nat.zero_le _,rfl,by show Wr _ _ _ _ _; simpa [xJ,zu] using k.grown gan,WK.grown k gan,FB.new k (.mk kd x m p ts) (.slice a ts.length c) 24 grn⟩
 case round =>
  obtain ⟨i,_,rfl,b,v,y⟩ := hrel; cases y.box.q
  by_cases l : i < ts.length
  ·obtain ⟨u,r⟩ : ∃ u,ts[i]? = some u := ⟨_,List.getElem?_eq_getElem l⟩
   obtain ⟨_,_,_,F,z,G,A⟩ := D.node i u r; cases F; obtain ⟨H,I,rfl,_,_⟩ := A.form; obtain ⟨_,_,_,_,_⟩ := z.kept b.gb; have B := zb (pt r); have f := mB ts (i + 1); rw [B.out] at f; simp only [la,lc,ln] at f; clear r G A z; have C := FB.new b u (.slice H u.subs.length I) 24 grn; have O := zb C; clear C; go_wp2_with fail; go_at_call 82; refine (ko w0 wb _ _ L u.name [46] _ _ (by simp) (b.grown gan) (by simp only [la,lc,ln]; omega)).mono ?_; rintro e s ⟨rfl,g,d⟩
   have j : Hid (Wr w0 wb s (S ++ xJ (ts.take (i + 1))) L) := by show Wr _ _ _ _ _; rw [B.out]; simpa only [List.append_assoc] using g
   have J := v.trans ((WK.grown b gan).trans d); have K := y.step ((WK.grown b gan).trans d); clear g d; go_wp2_with fail
   exact ⟨⟨i + 1,by omega,by go_num,j,J,K⟩,by simp [intOf]; omega⟩
  ·have j : Hid (Wr w0 wb wr (S ++ xJ ts) L) := by
    have := id b; rw [List.take_of_length_le (by omega)] at this
    exact this
   go_wp2_with fail; go_at_call 82; refine (zQ w0 wb _ _ L x _ _ (by simp) (j.grown grn) (by simp only [List.length_append]; omega)).mono ?_; rintro e s ⟨rfl,g,d⟩
   have M : Hid (Wr w0 wb s (S ++ (xJ ts ++ x)) L) := by show Wr _ _ _ _ _; simpa only [List.append_assoc] using g
   have N := v.trans ((WK.grown j grn).trans d); clear g d; go_wp2_with fail
   go_end0
   exact ⟨rfl,M,N⟩
theorem mK {t : T} (h : TN t) : zz t = xJ t.subs ++ t.name := by
 cases h with
 | plain x p h => rfl
 | dot x p y q h hy => simp [zz,xJ,zu,T.subs,T.name]
theorem yI (w0 : World) (wb : Nat) (w : World) (S : Bs) (L : Nat) (t : T) (sv : Value) (h : Wr w0 wb w S L) (ha : AT w0 t.subs sv) (ht : TN t) (hlen : S.length + (zz t).length <= 1000000000 := by first | omega | (simp only [List.length_append,List.length_cons,List.length_nil,zr]; omega)) :
  Calls Tryz.prog 124 #[ptr wb,zq t sv] w (WP w0 wb w S L (zz t)) := by
 have e := mK ht; obtain ⟨a,x,m,p,b⟩ := t; rw [e] at hlen ⊢
 exact tI w0 wb w S L a x m p b sv h ha hlen
end Go.Proofs.YtifapidjkelnfaaGreatDoor
