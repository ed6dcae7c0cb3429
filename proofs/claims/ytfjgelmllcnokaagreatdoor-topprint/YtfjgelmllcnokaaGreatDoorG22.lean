/- The program's writer: the builder's methods,one text,several texts,blanks. -/
import Derived.Test.YtfjgelmllcnokaaGreatDoorG03
import Derived.Test.YtfjgelmllcnokaaGreatDoorG04
namespace Go.Proofs.YtfjgelmllcnokaaGreatDoor
open Go.RowKit Go.Maps Go.WideMaps Go.WideElems
set_option maxHeartbeats 2000000
set_option maxRecDepth 1000000
theorem jW (w0 : World) (wb : Nat) (w : World) (S : List UInt8) (L : Nat) (s : List UInt8) (h : Wr w0 wb w S L) (hlen : S.length + s.length <= 1000000000) :
  Calls Tryz.prog 86 #[ptr wb,.string ⟨s.toArray⟩] w (WPv w0 wb w S L s (.tuple #[.int .i64 s.length,.nilIface])) := by
 have i := za (gO w0 wb w S L h); have o := za h; clear h
 go_enter Tryz.func86,Tryz.ntmps86
 go_wp2_with fail; go_at_call 137; refine i.out.mono ?_; rintro e j ⟨rfl,b,d,r⟩
 obtain ⟨z,l⟩ : ∃ z,j.cell? ⟨wb,1,none⟩ = some z := by
  obtain ⟨_,v,_,_,_,m,_⟩ := b.st
  exact ⟨v,by rw [Lib.cell_of_heap m]; rfl⟩
 have b := za b; have d := za d
 go_wp2_with (at_builtin; refine zfe rfl _ _ rfl b.out l s rfl hlen ?_)
 intro q n c t y f g u x; have f := za f; have g := za g; go_wp2_with fail
 go_ret2
 exact ⟨rfl,f.out,d.out.trans g.out⟩
theorem iz (w : World) (ty : TypeId) (c : Int) : ∀ (j : Nat) (u : Value),[Value.int .u8 c][j]? = some u -> (w.alloc (.cells #[.int .u8 c] ty)).cell? (Addr.add ⟨w.heap.size,0,none⟩ j) = some u := by
 intro j u b
 have e : j = 0 := by
  rcases Nat.lt_or_ge j 1 with d | d
  ·omega
  ·rw [List.getElem?_eq_none (by simpa using d)] at b; cases b
 subst e; rw [Addr.add_lit,World.cell?_alloc_at (hn := rfl)]
 simpa using b
theorem zat {w : World} {ops : Array Oper} {rest : List Oper} {o : Oper} {a : Act} {Q : Exit -> Act -> World -> Prop} (hgd : o.guard = none) (sl x : Operand)
  (ho : o.op = .call { callee := .builtin .append,args := #[sl,x],argTypes := #[63,63] }) {w0 : World} {wb : Nat} {S : List UInt8} {L : Nat} (c : UInt8) (ty : TypeId) (h : Wr w0 wb (w.alloc (.cells #[.int .u8 c.toNat] ty)) S L) (hc : (w.alloc (.cells #[.int .u8 c.toNat] ty)).cell? ⟨wb,1,none⟩ = some (a.eval sl)) (hx : a.eval x = .slice (some ⟨w.heap.size,0,none⟩) 1 1) (hlen : S.length + 1 <= 1000000000)
  (k : ∀ q n m w' z,Wr w0 wb (w'.setCell ⟨wb,1,none⟩ (.slice q n m)) (S ++ [c]) L -> WK wb (w.alloc (.cells #[.int .u8 c.toNat] ty)) (w'.setCell ⟨wb,1,none⟩ (.slice q n m)) -> w'.frozen? ⟨wb,1,none⟩ = false -> w'.cell? ⟨wb,1,none⟩ = some z -> wpList Tryz.prog ops Q rest (a.put o.dst (.slice q n m)) w') : wpList Tryz.prog ops Q (o :: rest) a (w.alloc (.cells #[.int .u8 c.toNat] ty)) := by
 obtain ⟨C,D,j,l,r⟩ := info_parts zdp; obtain ⟨p,v,E,F,H,hb,own,d,s,I,J,M⟩ := h.st
 have N : a.eval sl = v := by
  rw [Lib.cell_of_heap hb] at hc
  simpa using hc.symm
 refine wpList_plain hgd fun K hK => ?_
 obtain ⟨y,w',O,A,B,Y,t⟩ := run_append_own_at (P := Tryz.prog) (w.alloc (.cells #[.int .u8 c.toNat] ty)) w0.heap.size 63 o.type U8 C _ 1 1 Tryz.underlying63 D j l r rfl (by decide) v S.length _ own ⟨w.heap.size,0,none⟩ 1 1 [.int .u8 c.toNat]
  rfl (iz w ty c.toNat) (fun u hu => by simp at hu; subst hu; rfl) (by unfold maxLen; omega) (by omega) h.gb.size
 have f : w'.ownsRow w0.heap.size U8 1 y (S ++ [c]).length (Lib.byteCells (S ++ [c])) := by
  rw [List.length_append,qf]
  exact A
 obtain ⟨R,U⟩ := Wr.push h H hb own d s I J M f B (by rcases t with e | e; exact .inl e; exact .inr (fun b hb' => by rw [e] at hb'; cases hb'; exact Nat.le_refl _)); have i : w'.heap[wb]? = some (.cells #[p,v,.int .i64 L,.map (some E),.map (some F)] WT (0,0)) := (B.block wb h.lt (fun e => d e.symm)).trans hb
 unfold Oper.wp execOp
 simp only [ho,resolve,invoke,builtin,Sem.run_bind,Sem.run_pure,Result.andThen_ok,List.map_toArray,List.map_cons,List.map_nil,N,hx,O]
 obtain ⟨q,n,m,rfl⟩ : ∃ q n m,y = .slice q n m := by
  rcases A.2 with ⟨e,_⟩ | ⟨g,V,X,e,_⟩
  ·exact ⟨_,_,_,e⟩
  ·exact ⟨_,_,_,e⟩
 exact hK _ _ (k q n m w' v R U (Lib.frozen_of_heap i 1) (by rw [Lib.cell_of_heap i]; rfl))
theorem ph (w0 : World) (wb : Nat) (w : World) (S : List UInt8) (L : Nat) (h : Wr w0 wb w S L) (hlen : S.length + 1 <= 1000000000) :
  Calls Tryz.prog 82 #[ptr wb,.int .u8 10] w (WPv w0 wb w S L [10] .nilIface) := by
 have j := za (gO w0 wb w S L h); have r := za h; clear h
 go_enter Tryz.func82,Tryz.ntmps82
 go_wp2_with fail; go_at_call 137; refine j.out.mono ?_; rintro e l ⟨rfl,b,d,s⟩; have f := b.lt
 obtain ⟨z,m⟩ : ∃ z,l.cell? ⟨wb,1,none⟩ = some z := by
  obtain ⟨_,v,_,_,_,o,_⟩ := b.st
  exact ⟨v,by rw [Lib.cell_of_heap o]; rfl⟩
 have b := za b; have d := za d
 go_wp2_with (at_builtin; refine zat rfl _ _ rfl (10 : UInt8) _ (b.out.grown gan) (by rw [World.cell?_alloc_lt _ _ _ (by simpa using f)]; exact m) rfl hlen ?_)
 intro q n c t y g i u x; have g := za g; have i := za i; go_wp2_with fail
 go_ret
 exact ⟨rfl,g.out,d.out.trans ((WK.grown b.out gan).trans i.out)⟩
structure SL (wb : Nat) (w : World) (ss : List (List UInt8)) (g c : Nat) : Prop where
 fr : Fr wb w g
 n1 : ss.length <= c
 n2 : c <= 9223372036854775807
 cell : ∀ (k : Nat) (s : List UInt8),ss[k]? = some s -> w.cell? ⟨g,k,none⟩ = some (.string ⟨s.toArray⟩)
theorem SL.step {wb : Nat} {w w' : World} {ss : List (List UInt8)} {g c : Nat} (h : SL wb w ss g c) (hk : WK wb w w') : SL wb w' ss g c := ⟨h.fr.step hk,h.n1,h.n2,fun k s e => hk.cell h.fr (h.cell k s e)⟩
theorem oW {ss : List (List UInt8)} {i : Nat} {s : List UInt8} (h : ss[i]? = some s) : (ss.take (i + 1)).flatten = (ss.take i).flatten ++ s := by
 rw [List.take_add_one,h]
 simp
theorem i8 (ss : List (List UInt8)) (i : Nat) : (ss.take i).flatten.length <= ss.flatten.length := by
 have h : (ss.take i ++ ss.drop i).flatten = (ss.take i).flatten ++ (ss.drop i).flatten := List.flatten_append; rw [List.take_append_drop] at h; rw [h,List.length_append]
 omega
theorem qh (w0 : World) (wb : Nat) (w : World) (S : List UInt8) (L : Nat) (ss : List (List UInt8)) (g c : Nat) (h : Wr w0 wb w S L) (hs : SL wb w ss g c) (hlen : S.length + ss.flatten.length <= 1000000000) (hn : ss.length <= 1000) :
  Calls Tryz.prog 40 #[ptr wb,.slice (some ⟨g,0,none⟩) ss.length c] w (WP w0 wb w S L ss.flatten) := by
 have u := za h; have v := za hs; have x := hs.n2; clear h hs
 go_enter Tryz.func40,Tryz.ntmps40
 go_wp2_with fail
 go_loopw [8] (fun iv wr => ∃ i : Nat,i <= ss.length /\ iv = .int .i64 ↑i /\ Hid (Wr w0 wb wr (S ++ (ss.take i).flatten) L) /\ Hid (WK wb w wr)) (fun iv _ => ss.length - (intOf iv).toNat)
 case atStart => exact ⟨0,Nat.zero_le _,rfl,by show Wr _ _ _ _ _; simpa using u.out,WK.refl _ _⟩
 case round =>
  obtain ⟨i,_,rfl,m,b⟩ := hrel
  by_cases d : i < ss.length
  ·obtain ⟨s,f⟩ : ∃ s,ss[i]? = some s := ⟨_,List.getElem?_eq_getElem d⟩
   have z := (v.out.step b.out).cell i s f; have n : Hid ((ss.take (i + 1)).flatten = (ss.take i).flatten ++ s) := oW f; have j := i8 ss (i + 1); rw [n.out,List.length_append] at j; clear f; go_wp2_with fail; go_at_call 86; refine (jW w0 wb _ _ L s m.out (by rw [List.length_append]; omega)).mono ?_; rintro e o ⟨rfl,r,t⟩
   have l : Hid (Wr w0 wb o (S ++ (ss.take (i + 1)).flatten) L) := by show Wr _ _ _ _ _; rw [n.out,<- List.append_assoc]; exact r
   have y : Hid (WK wb w o) := b.out.trans t; clear r t; go_wp2_with fail
   exact ⟨⟨i + 1,by omega,by go_num,l,y⟩,by simp [intOf]; omega⟩
  ·have l : Hid (Wr w0 wb wr (S ++ ss.flatten) L) := by
    have := m.out; rw [List.take_of_length_le (by omega)] at this
    exact this
   go_wp2_with fail
   go_end0
   exact ⟨rfl,l.out,b.out⟩
theorem SL.new {w0 : World} {wb : Nat} {W : World} {S : List UInt8} {L : Nat} (h : Wr w0 wb W S L) (ss : List (List UInt8)) (cs : Array Value) (ty : TypeId) (hcs : cs = (ss.map fun l => Value.string ⟨l.toArray⟩).toArray) (hn : ss.length <= 1000) : SL wb (W.alloc (.cells cs ty)) ss W.heap.size ss.length := by
 subst hcs; refine ⟨Fr.new h gan (Nat.le_refl _) (by simp),Nat.le_refl _,by omega,fun k s e => ?_⟩; rw [World.cell?_alloc_at _ _ _ _ rfl]
 simp [e]
theorem ye (w0 : World) (wb : Nat) (W : World) (S : List UInt8) (L : Nat) (s : List UInt8) (ty : TypeId) (b : Nat) (hb : b = W.heap.size) (h : Wr w0 wb W S L) (hlen : S.length + s.length <= 1000000000) :
  Calls Tryz.prog 40 #[ptr wb,.slice (some ⟨b,0,none⟩) 1 1] (W.alloc (.cells #[.string ⟨s.toArray⟩] ty)) fun e w' => e = .returned (.tuple #[]) /\ Wr w0 wb w' (S ++ s) L /\ WK wb W w' := by
 subst hb; refine (qh w0 wb _ S L [s] _ 1 (h.grown gan) (SL.new h [s] _ ty rfl (by simp)) (by simpa using hlen) (by simp)).mono ?_; rintro e w' ⟨rfl,q,r⟩
 exact ⟨rfl,by simpa using q,(WK.grown h gan).trans r⟩
theorem dE (w0 : World) (wb : Nat) (W : World) (S : List UInt8) (L : Nat) (s t : List UInt8) (ty : TypeId) (b : Nat) (hb : b = W.heap.size) (h : Wr w0 wb W S L) (hlen : S.length + s.length + t.length <= 1000000000) :
  Calls Tryz.prog 40 #[ptr wb,.slice (some ⟨b,0,none⟩) 2 2] (W.alloc (.cells #[.string ⟨s.toArray⟩,.string ⟨t.toArray⟩] ty)) fun e w' => e = .returned (.tuple #[]) /\ Wr w0 wb w' (S ++ (s ++ t)) L /\ WK wb W w' := by
 subst hb; refine (qh w0 wb _ S L [s,t] _ 2 (h.grown gan) (SL.new h [s,t] _ ty rfl (by simp)) (by simp; omega) (by simp)).mono ?_; rintro e w' ⟨rfl,q,r⟩
 exact ⟨rfl,by simpa using q,(WK.grown h gan).trans r⟩
theorem ni (w0 : World) (wb : Nat) (W : World) (S : List UInt8) (L : Nat) (s t u : List UInt8) (ty : TypeId) (b : Nat) (hb : b = W.heap.size) (h : Wr w0 wb W S L) (hlen : S.length + s.length + t.length + u.length <= 1000000000) :
  Calls Tryz.prog 40 #[ptr wb,.slice (some ⟨b,0,none⟩) 3 3] (W.alloc (.cells #[.string ⟨s.toArray⟩,.string ⟨t.toArray⟩,.string ⟨u.toArray⟩] ty)) fun e w' => e = .returned (.tuple #[]) /\ Wr w0 wb w' (S ++ (s ++ (t ++ u))) L /\ WK wb W w' := by
 subst hb; refine (qh w0 wb _ S L [s,t,u] _ 3 (h.grown gan) (SL.new h [s,t,u] _ ty rfl (by simp)) (by simp; omega) (by simp)).mono ?_; rintro e w' ⟨rfl,q,r⟩
 exact ⟨rfl,by simpa using q,(WK.grown h gan).trans r⟩
theorem zaj (i : Nat) : zR (i + 1) = zR i ++ [32,32] := by
 unfold zR
 rw [show 2 * (i + 1) = 2 * i + 1 + 1 by omega,List.replicate_succ',List.replicate_succ']
 simp
theorem uX (w0 : World) (wb : Nat) (w : World) (S : List UInt8) (L : Nat) (h : Wr w0 wb w S L) (hlen : S.length + 2 * L <= 1000000000) :
  Calls Tryz.prog 81 #[ptr wb] w (WP w0 wb w S L (zR L)) := by
 have l := za h; have r := h.lcell.1; clear h
 go_enter Tryz.func81,Tryz.ntmps81
 go_wp2_with fail
 go_loopw [6] (fun iv wr => ∃ i : Nat,i <= L /\ iv = .int .i64 ↑i /\ Hid (Wr w0 wb wr (S ++ zR i) L) /\ Hid (WK wb w wr)) (fun iv _ => L - (intOf iv).toNat)
 case atStart => exact ⟨0,Nat.zero_le _,rfl,by show Wr _ _ _ _ _; simpa [zR] using l.out,WK.refl _ _⟩
 case round =>
  obtain ⟨i,_,rfl,b,d⟩ := hrel
  by_cases m : i < L
  ·go_wp2_with fail
   go_at_call 86; refine (jW w0 wb _ _ L [32,32] b.out (by simp [zo]; omega)).mono ?_; rintro e f ⟨rfl,g,j⟩
   have n : Hid (Wr w0 wb f (S ++ zR (i + 1)) L) := by show Wr _ _ _ _ _; rw [zaj,<- List.append_assoc]; exact g
   have o : Hid (WK wb w f) := d.out.trans j; clear g j; go_wp2_with fail
   exact ⟨⟨i + 1,by omega,by go_num,n,o⟩,by simp [intOf]; omega⟩
  ·obtain rfl : i = L := by omega
   go_wp2_with fail
   go_end0
   exact ⟨rfl,b.out,d.out⟩
theorem lm (w0 : World) (wb : Nat) (w : World) (S : List UInt8) (L : Nat) (ss : List (List UInt8)) (g c : Nat) (h : Wr w0 wb w S L) (hs : SL wb w ss g c) (hlen : S.length + 2 * L + ss.flatten.length + 1 <= 1000000000) (hn : ss.length <= 1000) :
  Calls Tryz.prog 35 #[ptr wb,.slice (some ⟨g,0,none⟩) ss.length c] w (WP w0 wb w S L (zR L ++ (ss.flatten ++ [10]))) := by
 have n := za h; have o := za hs; clear h hs
 go_enter Tryz.func35,Tryz.ntmps35
 go_wp2_with fail; go_at_call 81; refine (uX w0 wb _ S L n.out (by omega)).mono ?_; rintro e y ⟨rfl,b,d⟩; have r := za b; have f := za d; clear b d; go_wp2_with fail; go_at_call 40; refine (qh w0 wb _ _ L ss g c r.out (o.out.step f.out) (by rw [List.length_append,zo]; omega) hn).mono ?_; rintro e z ⟨rfl,i,j⟩; have s := za i; have t := za (f.out.trans j); clear i j; go_wp2_with fail; go_at_call 82; refine (ph w0 wb _ _ L s.out (by rw [List.length_append,List.length_append,zo]; omega)).mono ?_; rintro e u ⟨rfl,l,m⟩
 have v : Hid (Wr w0 wb u (S ++ (zR L ++ (ss.flatten ++ [10]))) L) := by show Wr _ _ _ _ _; simpa only [List.append_assoc] using l
 have x := za (t.out.trans m); clear l m; go_wp2_with fail
 go_end0
 exact ⟨rfl,v.out,x.out⟩
theorem sG (w0 : World) (wb : Nat) (W : World) (S : List UInt8) (L : Nat) (s : List UInt8) (ty : TypeId) (b : Nat) (hb : b = W.heap.size) (h : Wr w0 wb W S L) (hlen : S.length + 2 * L + s.length + 1 <= 1000000000) :
  Calls Tryz.prog 35 #[ptr wb,.slice (some ⟨b,0,none⟩) 1 1] (W.alloc (.cells #[.string ⟨s.toArray⟩] ty)) fun e w' => e = .returned (.tuple #[]) /\ Wr w0 wb w' (S ++ (zR L ++ (s ++ [10]))) L /\ WK wb W w' := by
 subst hb; refine (lm w0 wb _ S L [s] _ 1 (h.grown gan) (SL.new h [s] _ ty rfl (by simp)) (by simpa using hlen) (by simp)).mono ?_; rintro e w' ⟨rfl,q,r⟩
 exact ⟨rfl,by simpa using q,(WK.grown h gan).trans r⟩
theorem ol (w0 : World) (wb : Nat) (W : World) (S : List UInt8) (L : Nat) (s t u : List UInt8) (ty : TypeId) (b : Nat) (hb : b = W.heap.size) (h : Wr w0 wb W S L) (hlen : S.length + 2 * L + s.length + t.length + u.length + 1 <= 1000000000) :
  Calls Tryz.prog 35 #[ptr wb,.slice (some ⟨b,0,none⟩) 3 3] (W.alloc (.cells #[.string ⟨s.toArray⟩,.string ⟨t.toArray⟩,.string ⟨u.toArray⟩] ty)) fun e w' => e = .returned (.tuple #[]) /\ Wr w0 wb w' (S ++ (zR L ++ (s ++ (t ++ (u ++ [10]))))) L /\ WK wb W w' := by
 subst hb; refine (lm w0 wb _ S L [s,t,u] _ 3 (h.grown gan) (SL.new h [s,t,u] _ ty rfl (by simp)) (by simp; omega) (by simp)).mono ?_; rintro e w' ⟨rfl,q,r⟩
 exact ⟨rfl,by simpa using q,(WK.grown h gan).trans r⟩
def EW (w0 : World) (wb : Nat) (w : World) (L : Nat) (g : Nat) (fa ca : Array Value) (l : List T) (tx : T -> List UInt8) : Prop :=
 ∀ (t : T) (sv : Value) (w1 : World) (S : List UInt8),t ∈ l -> AT w0 t.subs sv -> Wr w0 wb w1 S L -> WK wb w w1 -> S.length + (tx t).length <= 1000000000 -> Calls Tryz.prog g (fa ++ #[yl t sv] ++ ca) w1 (WP w0 wb w1 S L (tx t))
theorem EW.step {w0 : World} {wb : Nat} {w w' : World} {L g : Nat} {fa ca : Array Value} {l : List T} {tx : T -> List UInt8} (h : EW w0 wb w L g fa ca l tx) (hk : WK wb w w') : EW w0 wb w' L g fa ca l tx := fun t sv w1 S hm ha hw hk1 hl => h t sv w1 S hm ha hw (hk.trans hk1) hl
def EN (g : Nat) : Prop := ∀ (args : Array Value) (w : World),(callFunc g args).run Tryz.prog w = .ok (.enter g args) w
theorem rI (sep : List UInt8) (l : List (List UInt8)) (i : Nat) (x : List UInt8) (h : l[i]? = some x) : zM sep (l.take (i + 1)) = zM sep (l.take i) ++ ((if i = 0 then [] else sep) ++ x) := by
 have g : i < l.length := by
  rcases Nat.lt_or_ge i l.length with b | b
  ·exact b
  ·rw [List.getElem?_eq_none b] at h; cases h
 rw [List.take_add_one,h]; simp only [Option.toList_some]; rw [ct]
 congr 2
 by_cases d : i = 0
 ·subst d; simp
 ·rw [if_neg d,if_neg]
  simp only [List.isEmpty_iff]; intro e; have f := congrArg List.length e; rw [List.length_take,List.length_nil] at f
  omega
theorem iZ (sep : List UInt8) (l : List (List UInt8)) (i k : Nat) : (zM sep (l.take i)).length <= (zM sep (l.take (i + k))).length := by
 induction k with
 | zero => exact Nat.le_refl _
 | succ k ih =>
  rcases Nat.lt_or_ge (i + k) l.length with h | h
  ·rw [<- Nat.add_assoc,rI sep l (i + k) _ (List.getElem?_eq_getElem h),List.length_append]
   omega
  ·rw [<- Nat.add_assoc,List.take_of_length_le (show l.length <= i + k + 1 by omega)]
   rw [List.take_of_length_le h] at ih
   exact ih
theorem zcp (sep : List UInt8) (l : List (List UInt8)) (i : Nat) : (zM sep (l.take i)).length <= (zM sep l).length := by
 have := iZ sep l i l.length; rw [List.take_of_length_le (show l.length <= i + l.length by omega)] at this
 exact this
theorem je (w0 : World) (wb : Nat) (w : World) (S : List UInt8) (L : Nat) (ts : List T) (sl : Value) (sep : List UInt8) (g : Nat) (fa ca : Array Value) (tx : T -> List UInt8) (h : Wr w0 wb w S L) (ha : AT w0 ts sl) (he : EW w0 wb w L g fa ca ts tx) (hn : EN g) (hlen : S.length + (zM sep (ts.map tx)).length <= 1000000000) :
  Calls Tryz.prog 83 #[ptr wb,sl,.string ⟨sep.toArray⟩,.func (.func g) fa ca] w (WP w0 wb w S L (zM sep (ts.map tx))) := by
 obtain ⟨_,_,rfl,_,s⟩ := ha.form
 unfold maxLen at s
 have M := za h; have N := za ha; have E := za he; have O : ∀ (args : Array Value) (w : World),(callFunc g args).run Tryz.prog w = .ok (.enter g args) w := hn; clear h ha he hn
 go_enter Tryz.func83,Tryz.ntmps83
 go_wp2_with fail
 go_loopw [12] (fun iv wr => ∃ i : Nat,i <= ts.length /\ iv = .int .i64 ↑i /\ Hid (Wr w0 wb wr (S ++ zM sep ((ts.map tx).take i)) L) /\ Hid (WK wb w wr)) (fun iv _ => ts.length - (intOf iv).toNat)
 case atStart => exact ⟨0,Nat.zero_le _,rfl,by show Wr _ _ _ _ _; simpa [zM] using M.out,WK.refl _ _⟩
 case round =>
  obtain ⟨i,_,rfl,b,o⟩ := hrel
  by_cases t : i < ts.length
  ·obtain ⟨u,v⟩ : ∃ u,ts[i]? = some u := ⟨_,List.getElem?_eq_getElem t⟩
   obtain ⟨_,_,_,R,F,U,x⟩ := N.out.node i u v; cases R; obtain ⟨V,X,rfl,_,_⟩ := x.form; obtain ⟨_,_,_,_,_⟩ := F.kept b.out.gb; have H := za x; have I := za v; have Y := b.out.lt; clear v U x F
   have j : (ts.map tx)[i]? = some (tx u) := by rw [List.getElem?_map,I.out]; rfl
   have d := zcp sep (ts.map tx) (i + 1); have r := za (rI sep (ts.map tx) i (tx u) j); clear j; have y := FB.new b.out u (.slice V u.subs.length X) 28 grn; have f := List.mem_of_getElem? I.out
   by_cases h0 : 0 < i
   ·have z : (0 : Int) < (i : Int) := by omega
    rw [r.out,if_neg (show ¬ i = 0 by omega)] at d; simp only [List.length_append] at d; have Z := za y; clear y; go_wp2_with fail; go_at_call 86; refine (jW w0 wb _ _ L sep (b.out.grown gan) (by rw [List.length_append]; omega)).mono ?_; rintro e w2 ⟨rfl,J,A⟩; have B := za J; have K := za (o.out.trans ((WK.grown b.out gan).trans A)); obtain ⟨_,_,_,_,_⟩ := (Z.out.step A).box; clear J A; go_wp2_with fail; refine (E.out u _ _ _ f H.out B.out K.out (by rw [List.length_append,List.length_append]; omega)).mono ?_; rintro e l ⟨rfl,m,n⟩
    have C : Hid (Wr w0 wb l (S ++ zM sep ((ts.map tx).take (i + 1))) L) := by show Wr _ _ _ _ _; rw [r.out,if_neg (show ¬ i = 0 by omega)]; simpa only [List.append_assoc] using m
    have D : Hid (WK wb w l) := K.out.trans n; clear m n; go_wp2_with fail
    exact ⟨⟨i + 1,by omega,by go_num,C,D⟩,by simp [intOf]; omega⟩
   ·have z : ¬ (0 : Int) < (i : Int) := by omega
    rw [r.out,if_pos (show i = 0 by omega)] at d; simp only [List.length_append,List.nil_append] at d; clear y; go_wp2_with fail; refine (E.out u _ _ _ f H.out (b.out.grown gan) (o.out.trans (WK.grown b.out gan)) (by rw [List.length_append]; omega)).mono ?_; rintro e l ⟨rfl,m,n⟩
    have C : Hid (Wr w0 wb l (S ++ zM sep ((ts.map tx).take (i + 1))) L) := by show Wr _ _ _ _ _; rw [r.out,if_pos (show i = 0 by omega)]; simpa only [List.append_assoc,List.nil_append] using m
    have D : Hid (WK wb w l) := o.out.trans ((WK.grown b.out gan).trans n); clear m n; go_wp2_with fail
    exact ⟨⟨i + 1,by omega,by go_num,C,D⟩,by simp [intOf]; omega⟩
  ·have B : Hid (Wr w0 wb wr (S ++ zM sep (ts.map tx)) L) := by
    have := b.out; rw [List.take_of_length_le (by simp; omega)] at this
    exact this
   go_wp2_with fail
   go_end0
   exact ⟨rfl,B.out,o.out⟩
set_option maxHeartbeats 4000000
theorem ip (w0 : World) (wb : Nat) (w : World) (S : List UInt8) (L : Nat) (t : T) (sv : Value) (X : List UInt8) (b1 b2 g : Nat) (fa ca : Array Value) (h : Wr w0 wb w S L) (ha : AT w0 t.subs sv) (d1 : w.cell? ⟨b1,0,none⟩ = some (ptr wb)) (d2 : w.cell? ⟨b2,0,none⟩ = some (.func (.func g) fa ca)) (f2 : Fr wb w b2) (hn : EN g)
  (he : ∀ w1 S',Wr w0 wb w1 S' L -> WK wb w w1 -> S'.length + X.length <= 1000000000 -> Calls Tryz.prog g (fa ++ #[yl t sv] ++ ca) w1 (WP w0 wb w1 S' L X)) (hlen : S.length + 2 * L + X.length <= 1000000000) :
  Calls Tryz.prog 138 #[yl t sv,ptr b1,ptr b2] w (WP w0 wb w S L (zR L ++ X)) := by
 obtain ⟨f,i,rfl,_,_⟩ := ha.form; have j := za h; have u := za he; have v : ∀ (args : Array Value) (w : World),(callFunc g args).run Tryz.prog w = .ok (.enter g args) w := hn; have n := FB.new h t (.slice f t.subs.length i) 28 grn; have y := za n; have z := za f2; have A := f2.lt; have B := ze d1; obtain ⟨C,x,m,p,l⟩ := t; clear h ha he hn n f2
 change Calls Tryz.prog 138 #[.agg #[.int .i64 C,.string ⟨x.toArray⟩,.int .i64 m,.int .i64 p,.slice f l.length i],ptr b1,ptr b2] w _
 go_enter Tryz.func138,Tryz.ntmps138
 go_wp2_with fail; go_at_call 81; refine (uX w0 wb _ S L (j.out.grown gan) (by omega)).mono ?_; rintro e w1 ⟨rfl,o,b⟩; have D := za o; have d := za ((WK.grown j.out gan).trans b); obtain ⟨_,_,_,_,_⟩ := ((y.out.step b).box).p
 have I := d.out.cell z.out d2; clear o b; go_wp2_with fail; refine (u.out _ _ D.out d.out (by rw [List.length_append,zo]; omega)).mono ?_; rintro e E ⟨rfl,r,s⟩
 have F : Hid (Wr w0 wb E (S ++ (zR L ++ X)) L) := by show Wr _ _ _ _ _; simpa only [List.append_assoc] using r
 have H := za (d.out.trans s); clear r s; go_wp2_with fail
 go_end0
 exact ⟨rfl,F.out,H.out⟩
theorem Wr.levelI {w0 : World} {wb : Nat} {w : World} {S : List UInt8} {L : Nat} (h : Wr w0 wb w S L) (L' : Nat) (z : Int) (hz : z = L') : Wr w0 wb (w.setCell ⟨wb,2,none⟩ (.int .i64 z)) S L' := by subst hz; exact h.level L'
theorem zcs : EN 138 := enters_of Tryz.func138 (by kernel_rfl) rfl
theorem gC (w : World) (v : Value) (ty : TypeId) : (w.alloc (.cells #[v] ty)).cell? ⟨w.heap.size,0,none⟩ = some v := by rw [World.cell?_alloc_at _ _ _ _ rfl]; rfl
theorem EW.lines {w0 : World} {wb : Nat} {w : World} {S : List UInt8} {L g : Nat} {fa ca : Array Value} {ts : List T} {tx : T -> List UInt8} (h : Wr w0 wb w S L) (he : EW w0 wb w L g fa ca ts tx) (hn : EN g) (t1 t2 : TypeId) :
  EW w0 wb ((w.alloc (.cells #[ptr wb] t1)).alloc (.cells #[.func (.func g) fa ca] t2)) L 138 #[] #[ptr w.heap.size,ptr (w.heap.size + 1)] ts (fun t => zR L ++ tx t) := by
 have e : w.grownBy (w.alloc (.cells #[ptr wb] t1)) none := zf (zl w none) _; have b : w.grownBy ((w.alloc (.cells #[ptr wb] t1)).alloc (.cells #[.func (.func g) fa ca] t2)) none := zf e _; have l : Fr wb ((w.alloc (.cells #[ptr wb] t1)).alloc (.cells #[.func (.func g) fa ca] t2)) w.heap.size := Fr.new h b (Nat.le_refl _) (by simp; omega); have f : Fr wb ((w.alloc (.cells #[ptr wb] t1)).alloc (.cells #[.func (.func g) fa ca] t2)) (w.heap.size + 1) := Fr.new h b (by omega) (by simp)
 have m : ((w.alloc (.cells #[ptr wb] t1)).alloc (.cells #[.func (.func g) fa ca] t2)).cell? ⟨w.heap.size,0,none⟩ = some (ptr wb) := by
  rw [World.cell?_alloc_lt _ _ _ (by simp)]; exact gC w _ t1
 have n : ((w.alloc (.cells #[ptr wb] t1)).alloc (.cells #[.func (.func g) fa ca] t2)).cell? ⟨w.heap.size + 1,0,none⟩ = some (.func (.func g) fa ca) := by
  simp
 intro t i o r s j u d v; simp only [List.length_append,zo] at v
 exact ip w0 wb o r L t i (tx t) _ _ g fa ca u j (d.cell l m) (d.cell f n) (f.step d) hn (fun w2 S2 hw2 hk2 hl2 => he t i w2 S2 s j hw2 ((WK.grown h b).trans (d.trans hk2)) hl2) (by omega)
theorem am {w0 : World} {wb : Nat} {w : World} {S : List UInt8} {L : Nat} (h : Wr w0 wb w S L) (v : Value) (t1 t2 : TypeId) : Fr wb ((w.alloc (.cells #[ptr wb] t1)).alloc (.cells #[v] t2)) w.heap.size /\ ((w.alloc (.cells #[ptr wb] t1)).alloc (.cells #[v] t2)).cell? ⟨w.heap.size,0,none⟩ = some (ptr wb) :=
 ⟨Fr.new h (zf gan _) (Nat.le_refl _) (by simp; omega),by rw [World.cell?_alloc_lt _ _ _ (by simp)]; exact gC w _ t1⟩
theorem zae (w0 : World) (wb : Nat) (w : World) (S : List UInt8) (L : Nat) (ts : List T) (sl : Value) (sep : List UInt8) (sb : ByteArray) (hsb : sb = ⟨sep.toArray⟩) (g : Nat) (fa ca : Array Value) (tx : T -> List UInt8) (h : Wr w0 wb w S L) (ha : AT w0 ts sl) (he : EW w0 wb w L g fa ca ts tx) (hn : EN g) (hlen : S.length + (zM sep (ts.map tx)).length <= 1000000000) :
  Calls Tryz.prog 83 #[ptr wb,sl,.string sb,.func (.func g) fa ca] w (WP w0 wb w S L (zM sep (ts.map tx))) := by
 subst hsb
 exact je w0 wb w S L ts sl sep g fa ca tx h ha he hn hlen
theorem pF (w0 : World) (wb : Nat) (w : World) (S : List UInt8) (L : Nat) (ts : List T) (sl : Value) (sep last : List UInt8) (g : Nat) (fa ca : Array Value) (tx : T -> List UInt8) (h : Wr w0 wb w S L) (ha : AT w0 ts sl) (he : EW w0 wb w (L + 1) g fa ca ts tx) (hn : EN g) (hsep : sep.length <= 100) (hL : L <= 20000) (hlen : S.length + (yC sep last tx L ts).length <= 1000000000) :
  Calls Tryz.prog 85 #[ptr wb,sl,.string ⟨sep.toArray⟩,.string ⟨last.toArray⟩,.func (.func g) fa ca] w (WP w0 wb w S L (yC sep last tx L ts)) := by
 have z := za ha; have A := h.lt; obtain ⟨_,_,rfl,_,o⟩ := ha.form; have j := za h; have B := za he; have C := za hn; have O := h.lcell.1; have R := h.lcell.2; clear h ha he hn
 unfold maxLen at o
 by_cases s : ts.length = 0
 ·obtain rfl : ts = [] := List.eq_nil_of_length_eq_zero s
  have l : Hid (yC sep last tx L [] = []) := rfl
  go_enter Tryz.func85,Tryz.ntmps85
  go_wp2_with fail
  go_end0
  exact ⟨rfl,by rw [l.out,List.append_nil]; exact j.out.grown (zf gan _),WK.grown j.out (zf gan _)⟩
 ·have l : Hid (yC sep last tx L ts = zM (sep ++ [10]) (ts.map fun t => zR (L + 1) ++ tx t) ++ (last ++ [10])) := by
   show _ = _
   unfold yC
   rw [if_neg (by simpa [List.isEmpty_iff] using fun e => s (by rw [e]; rfl))]
  rw [l.out] at hlen; simp only [la,lc,ln] at hlen
  have D : ((ts.length : Int) == 0) = false := by rw [beq_eq_false_iff_ne]; omega
  have U : ¬ (9223372036854775807 < sep.length + 1) := by omega
  go_enter Tryz.func85,Tryz.ntmps85
  go_wp2_with fail; have m : Hid (Wr w0 wb (w.setCell ⟨wb,2,none⟩ (.int .i64 ((L : Int) + 1))) S (L + 1)) := j.out.levelI (L + 1) _ (by omega); have u : Hid (WK wb w (w.setCell ⟨wb,2,none⟩ (.int .i64 ((L : Int) + 1)))) := WK.set j.out 2 _ (by omega)
  have d : (w.setCell ⟨wb,2,none⟩ (.int .i64 ((L : Int) + 1))).heap.size = w.heap.size := by simp [World.setCell]
  have f := za (EW.lines m.out (B.out.step u.out) C.out 58 60); have b := za (am m.out (.func (.func g) fa ca) 58 60); rw [d] at f b; clear d
  generalize w.setCell ⟨wb,2,none⟩ (.int .i64 ((L : Int) + 1)) = wl at *
  go_at_call 83; refine (zae w0 wb _ S (L + 1) ts _ (sep ++ [10]) _ (xg sep [10]) _ _ _ (fun t => zR (L + 1) ++ tx t) (m.out.grown (zf gan _)) z.out f.out zcs (by omega)).mono ?_; rintro e E ⟨rfl,v,n⟩; have F := za v; have H := za (u.out.trans ((WK.grown m.out (zf gan _)).trans n)); have I := za (b.out.1.step n); have J := n.cell b.out.1 b.out.2; clear v n; go_wp2_with fail; go_at_call 40; refine (dE w0 wb E _ (L + 1) last [10] _ _ rfl F.out (by simp only [la,lc,ln]; omega)).mono ?_; rintro e V ⟨rfl,i,r⟩; have x := za i; have K := za (H.out.trans r); have X := r.cell I.out J; have M := i.lcell.1; have N := i.lcell.2; have y := i.lt; clear i r; go_wp2_with fail
  go_end0
  refine ⟨rfl,?_,K.out.trans (WK.set x.out 2 _ (by omega))⟩; rw [l.out,<- List.append_assoc]
  exact x.out.levelI L _ (by omega)
theorem uV (w0 : World) (wb : Nat) (w : World) (S : List UInt8) (word : List UInt8) (ts : List T) (sl : Value) (g : Nat) (fa ca : Array Value) (tx : T -> List UInt8) (h : Wr w0 wb w S 0) (ha : AT w0 ts sl) (he : EW w0 wb w 1 g fa ca ts tx) (hn : EN g) (hlen : S.length + (zO word tx ts).length <= 1000000000) :
  Calls Tryz.prog 37 #[ptr wb,.string ⟨word.toArray⟩,sl,.func (.func g) fa ca] w (WP w0 wb w S 0 (zO word tx ts)) := by
 have r := za ha; obtain ⟨_,_,rfl,_,d⟩ := ha.form; have f := za h; have s := za he; have t := za hn; clear h ha he hn
 unfold maxLen at d
 by_cases i : ts.length = 0
 ·obtain rfl : ts = [] := List.eq_nil_of_length_eq_zero i
  have b : Hid (zO word tx [] = []) := rfl
  go_enter Tryz.func37,Tryz.ntmps37
  go_wp2_with fail
  go_end0
  exact ⟨rfl,by rw [b.out,List.append_nil]; exact f.out,WK.refl _ _⟩
 ·have b : Hid (zO word tx ts = word ++ ([10] ++ yC [59] [59] tx 0 ts)) := by
   show _ = _
   unfold zO
   rw [if_neg (by simpa [List.isEmpty_iff] using fun e => i (by rw [e]; rfl))]
   rfl
  rw [b.out] at hlen; simp only [la,lc,ln] at hlen
  have u : (0 : Int) < (ts.length : Int) := by omega
  go_enter Tryz.func37,Tryz.ntmps37
  go_wp2_with fail; go_at_call 35; refine (sG w0 wb w _ 0 word _ _ rfl f.out (by omega)).mono ?_; rintro e A ⟨rfl,j,l⟩; have v := za j; have m := za l; clear j l; go_wp2_with fail; go_at_call 85; refine (pF w0 wb _ _ 0 ts _ [59] [59] g fa ca tx v.out r.out (s.out.step m.out) t.out (by decide) (by decide) (by simp only [la,lc,ln,zo]; omega)).mono ?_; rintro e x ⟨rfl,n,o⟩
  have y : Hid (Wr w0 wb x (S ++ zO word tx ts) 0) := by
   show Wr _ _ _ _ _
   rw [b.out]
   simpa only [List.append_assoc,show zR 0 = [] from rfl,List.nil_append] using n
  have z := za (m.out.trans o); clear n o; go_wp2_with fail
  go_end0
  exact ⟨rfl,y.out,z.out⟩
end Go.Proofs.YtfjgelmllcnokaaGreatDoor
