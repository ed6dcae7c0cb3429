/- The program's judge of shapes: whatever rule a part has; how the last part is taken off the list. -/
import Derived.Test.YtfjgelmllcnokaaGreatDoorG28
import Derived.Test.YtfjgelmllcnokaaGreatDoorG29
import Derived.Test.YtfjgelmllcnokaaGreatDoorG03
import Derived.Shelf.Abstract
namespace Go.Proofs.YtfjgelmllcnokaaGreatDoor
open Go.RowKit Go.Maps Go.WideMaps Go.WideElems
structure Two : Prop where
 module : RuleSays 33 .module
 procedure : RuleSays 79 .procedure
theorem aP (H : Two) (w0 : World) (jb lb ob : Nat) (w : World) (l : List (T × Rule)) (v : Value) (t : T) (sv : Value) (r : Rule) (g : Nat) (fa ca : Array Value) (h : JS w0 jb lb ob w l v) (hlen : l.length + t.subs.length <= 20000) (hf : Fits t) (ha : AT w0 t.subs sv) (hr : RV w jb (free jb v) r (.func (.func g) fa ca)) :
  Calls Tryz.prog g (fa ++ #[yl t sv] ++ ca) w (JR w0 jb lb ob l v w r t) := by
 cases hr with
 | meth r g hg =>
  cases r <;> simp only [rf,Option.some.injEq,reduceCtorEq] at hg <;> subst hg
  ·exact H.module w0 jb lb ob w l v t sv h hlen hf ha
  ·exact po w0 jb lb ob w l v t sv h hlen hf ha
  ·exact H.procedure w0 jb lb ob w l v t sv h hlen hf ha
  ·exact tg w0 jb lb ob w l v t sv h hlen hf ha
  ·exact gP w0 jb lb ob w l v t sv h hlen hf ha
  ·exact gM w0 jb lb ob w l v t sv h hlen hf ha
  ·exact lL w0 jb lb ob w l v t sv h hlen hf ha
  ·exact zcl w0 jb lb ob w l v t sv h hlen hf ha
  ·exact th w0 jb lb ob w l v t sv h hlen hf ha
  ·exact qL w0 jb lb ob w l v t sv h hlen hf ha
 | list r rv b1 b2 s1 s2 c1 c2 hq => exact bT w0 jb lb ob w l v t sv r rv b1 b2 h hlen hf ha c1 c2 hq
 | declared k m r rv b1 b2 b3 b4 s1 s2 s3 s4 c1 c2 c3 c4 hq => exact pi w0 jb lb ob w l v t sv k m r rv b1 b2 b3 b4 h hlen hf ha c1 c2 c3 c4 hq
theorem ly {w : World} {jb : Nat} {S : Nat -> Prop} {r : Rule} {g : Nat} {fa ca : Array Value} (hr : RV w jb S r (.func (.func g) fa ca)) : ∀ (args : Array Value) (w : World),(callFunc g args).run Tryz.prog w = .ok (.enter g args) w := by
 cases hr with
 | meth r g hg =>
  cases r <;> simp only [rf,Option.some.injEq,reduceCtorEq] at hg <;> subst hg
  ·exact enters_of Tryz.func33 (by kernel_rfl) rfl
  ·exact enters_of Tryz.func74 (by kernel_rfl) rfl
  ·exact enters_of Tryz.func79 (by kernel_rfl) rfl
  ·exact enters_of Tryz.func77 (by kernel_rfl) rfl
  ·exact enters_of Tryz.func78 (by kernel_rfl) rfl
  ·exact enters_of Tryz.func134 (by kernel_rfl) rfl
  ·exact enters_of Tryz.func135 (by kernel_rfl) rfl
  ·exact enters_of Tryz.func80 (by kernel_rfl) rfl
  ·exact enters_of Tryz.func76 (by kernel_rfl) rfl
  ·exact enters_of Tryz.func133 (by kernel_rfl) rfl
 | list r rv b1 b2 s1 s2 c1 c2 hq => exact enters_of Tryz.func128 (by kernel_rfl) rfl
 | declared k m r rv b1 b2 b3 b4 s1 s2 s3 s4 c1 c2 c3 c4 hq => exact enters_of Tryz.func131 (by kernel_rfl) rfl
theorem rl (l : List (T × Rule)) (svs rvs : List Value) (p : T × Rule) (sv rv : Value) (h1 : svs.length = l.length) (h2 : rvs.length = l.length) (j : Nat) : (jr (l ++ [p]) (svs ++ [sv]) (rvs ++ [rv]))[l.length * 6 + j]? = [Value.int .i64 p.1.kind,.string ⟨p.1.name.toArray⟩,.int .i64 p.1.num,.int .i64 p.1.at',sv,rv][j]? := by
 rw [jZ _ _ _ _ _ _ h1 h2,List.getElem?_append_right (by rw [uL _ _ _ h1 h2]; omega),uL _ _ _ h1 h2]
 simp [jr]
theorem qW {α : Type} : ∀ (l : List α) (n : Nat),l.length = n + 1 -> ∃ l' a,l = l' ++ [a] /\ l'.length = n := by
 intro l n h; refine ⟨l.take n,l[n]'(by omega),?_,by simp; omega⟩; rw [<- List.take_succ_eq_append_getElem (by omega),List.take_of_length_le (by omega)]
theorem JS.pop {w0 : World} {jb lb ob : Nat} {w : World} {l : List (T × Rule)} {v : Value} {t : T} {r : Rule} (h : JS w0 jb lb ob w (l ++ [(t,r)]) v) : ∃ g c sv rv,v = .slice (some ⟨g,0,none⟩) (l.length + 1) c /\ l.length + 1 <= c /\ c <= 9223372036854775807 /\
  w.cell? ⟨g,l.length * 6,none⟩ = some (.int .i64 t.kind) /\ w.cell? ⟨g,l.length * 6 + 1,none⟩ = some (.string ⟨t.name.toArray⟩) /\ w.cell? ⟨g,l.length * 6 + 2,none⟩ = some (.int .i64 t.num) /\ w.cell? ⟨g,l.length * 6 + 3,none⟩ = some (.int .i64 t.at') /\ w.cell? ⟨g,l.length * 6 + 4,none⟩ = some sv /\ w.cell? ⟨g,l.length * 6 + 5,none⟩ = some rv /\
  Fits t /\ AT w0 t.subs sv /\ RV w jb (free jb v) r rv /\ g ≠ jb /\
  JS w0 jb lb ob (w.setCell ⟨jb,2,none⟩ (.slice (some ⟨g,0,none⟩) l.length c)) l (.slice (some ⟨g,0,none⟩) l.length c) /\ RV (w.setCell ⟨jb,2,none⟩ (.slice (some ⟨g,0,none⟩) l.length c)) jb (free jb (.slice (some ⟨g,0,none⟩) l.length c)) r rv := by
 obtain ⟨x,y,h1,h2,n,I⟩ := h.row; rw [List.length_append,List.length_singleton] at h1 h2 n; obtain ⟨o,sv,rfl,d⟩ := qW x _ h1; obtain ⟨s,rv,rfl,f⟩ := qW y _ h2
 rcases id n.2 with ⟨_,C⟩ | ⟨g,c,z,rfl,K,L,D,E,F,H⟩
 ·omega
 have m : ∀ j,j < 6 -> w.cell? ⟨g,l.length * 6 + j,none⟩ = [Value.int .i64 t.kind,.string ⟨t.name.toArray⟩,.int .i64 t.num,.int .i64 t.at',sv,rv][j]? := fun j hj => (n.cellAt (l.length * 6 + j) (by omega)).trans (rl l o s (t,r) sv rv d f j)
 obtain ⟨M,N,J⟩ := I l.length (t,r) sv rv (by simp) (by rw [<- d]; simp) (by rw [<- f]; simp)
 have u : g ≠ jb := fun e => h.rne (by rw [e]; rfl)
 have b : KB (fun k => k ≠ jb) w (w.setCell ⟨jb,2,none⟩ (.slice (some ⟨g,0,none⟩) l.length c)) := ⟨rfl,rfl,rfl,by simp [World.setCell],fun k _ hk => Below.heap_setCell _ _ _ _ (by simpa using hk)⟩
 have A : ∀ k,k < w.heap.size -> free jb (.slice (some ⟨g,0,none⟩) (l.length + 1) c) k -> free jb (.slice (some ⟨g,0,none⟩) l.length c) k := fun k _ hk => hk
 have B : KB (free jb (.slice (some ⟨g,0,none⟩) (l.length + 1) c)) w (w.setCell ⟨jb,2,none⟩ (.slice (some ⟨g,0,none⟩) l.length c)) := ⟨b.os,b.tape,b.output,b.size,fun k hk hs => b.block k hk hs.1⟩
 unfold maxLen at E
 refine ⟨g,c,sv,rv,rfl,D,by omega,m 0 (by omega),m 1 (by omega),m 2 (by omega),m 3 (by omega),m 4 (by omega),m 5 (by omega),M,N,J,u,?_,J.kept B A⟩
 exact {
  gb := ⟨b.os.trans h.gb.os,b.tape.trans h.gb.tape,b.output.trans h.gb.output,Nat.le_trans h.gb.size b.size,fun k hk _ => (b.block k (Nat.lt_of_lt_of_le hk h.gb.size) (by have := h.jlo; omega)).trans (h.gb.block k hk (by simp))⟩
  jlo := h.jlo
  c0 := by rw [World.cell?_setCell_other _ _ _ _ (by simp)]; exact h.c0
  c1 := by rw [World.cell?_setCell_other _ _ _ _ (by simp)]; exact h.c1
  c2 := World.cell?_setCell_same _ _ _ h.c2
  z2 := by rw [World.frozen?_setCell]; exact h.z2
  lex := yN h.lex (b.block _ (World.ownsMap.lt h.lex) h.lne)
  ops := yN h.ops (b.block _ (World.ownsMap.lt h.ops) h.one)
  lne := h.lne
  one := h.one
  rne := fun e => u (by simpa [Value.ownBlock] using e)
  row := by
   refine ⟨o,s,d,f,⟨uL _ _ _ d f,.inr ⟨g,c,z,rfl,K,(b.block g (World.block_lt_of_cell? w ⟨g,_,none⟩ (m 0 (by omega))) u).trans L,by omega,by unfold maxLen; omega,F,?_⟩⟩,fun i p sv' rv' e1 e2 e3 => ?_⟩
   ·have O : jr l o s = (z.toList.take ((l.length + 1) * 6)).take (l.length * 6) := by
     rw [H,jZ _ _ _ _ _ _ d f,List.take_append_of_le_length (by rw [uL _ _ _ d f]; omega),List.take_of_length_le (by rw [uL _ _ _ d f]; omega)]
    rw [O,List.take_take]
    congr 1
    omega
   ·have R : i < l.length := by
     rcases Nat.lt_or_ge i l.length with C | C
     ·exact C
     ·rw [List.getElem?_eq_none C] at e1; cases e1
    obtain ⟨U,z2,V⟩ := I i p sv' rv' (by rw [List.getElem?_append_left R]; exact e1) (by rw [List.getElem?_append_left (by omega)]; exact e2) (by rw [List.getElem?_append_left (by omega)]; exact e3)
    exact ⟨U,z2,V.kept B A⟩ }
end Go.Proofs.YtfjgelmllcnokaaGreatDoor
