/- The program's judge of shapes: rules that are closures. -/
import Derived.Test.YtfjgelmllcnokaaGreatDoorG26
import Derived.Test.YtfjgelmllcnokaaGreatDoorG04
namespace Go.Proofs.YtfjgelmllcnokaaGreatDoor
open Go.RowKit Go.Maps Go.WideMaps Go.WideElems
set_option maxHeartbeats 2000000
set_option maxRecDepth 1000000
theorem bT (w0 : World) (jb lb ob : Nat) (w : World) (l : List (T × Rule)) (v : Value) (t : T) (sv : Value) (r : Rule) (rv : Value) (e1 e2 : Nat) (h : JS w0 jb lb ob w l v) (hlen : l.length + t.subs.length <= 20000) (hf : Fits t) (ha : AT w0 t.subs sv) (q1 : w.cell? ⟨e1,0,none⟩ = some (ptr jb)) (q2 : w.cell? ⟨e2,0,none⟩ = some rv) (hr : RV w jb (free jb v) r rv) :
  Calls Tryz.prog 128 #[yl t sv,ptr e1,ptr e2] w (JR w0 jb lb ob l v w (.list r) t) := by
 have A := za h; have HF := za hf; have K := za ha; have L := za hr; have M := h.lt
 have HV : Hid (∀ b,v.ownBlock = some b -> b < w.heap.size) := fun b hb => (h.room hb).2
 obtain ⟨i,x,m,p,d⟩ := t; obtain ⟨a,n,c,rfl,_,_,E⟩ := ha.any
 change d.length = n at E
 subst E
 change l.length + d.length <= 20000 at hlen
 obtain ⟨_,_,_,rfl⟩ := hr.form; have N := ze q1; have O := ze q2; have R := za q1; have U := za q2
 have B : Hid (zw (.list r) (.mk i x m p d) = zq (zD (.mk i x m p d) 1 false 0 (-1)) (vf d r)) := rfl
 clear hr
 change Calls Tryz.prog 128 #[.agg #[.int .i64 i,.string ⟨x.toArray⟩,.int .i64 m,.int .i64 p,.slice a d.length c],ptr e1,ptr e2] w _
 by_cases F : i = 1
 ·subst F
  cases z : ((T.mk 1 x m p d).name.isEmpty && zU (.mk 1 x m p d) 0)
  ·have C : Hid (zw (.list r) (.mk 1 x m p d) = none) := B.out.trans (zm (by rw [zi (t := (.mk 1 x m p d)) (k := 1) rfl,z]; rfl))
   clear h hf ha
   go_enter Tryz.func128,Tryz.ntmps128
   go_wp2_with fail; go_at_call 129; refine (zL (.mk 1 x m p d) _ 0 _ ⟨_,_,_,rfl⟩).mono ?_; rintro e V ⟨rfl,f⟩; rw [z]; have g := za (zb gan f); have D := za ((Box.new w (.mk 1 x m p d) (.slice a d.length c) 28).kept f); obtain ⟨j,o,s,u,y⟩ := D.out; clear f; go_wp2_with fail
   go_ret
   exact .inl ⟨C.out,rfl,zb A.out.gb g.out⟩
  ·have X : Hid (zw (.list r) (.mk 1 x m p d) = some (vf d r)) := B.out.trans (zN (by rw [zi (t := (.mk 1 x m p d)) (k := 1) rfl,z]; simp))
   clear h hf ha
   go_enter Tryz.func128,Tryz.ntmps128
   go_wp2_with fail; go_at_call 129; refine (zL (.mk 1 x m p d) _ 0 _ ⟨_,_,_,rfl⟩).mono ?_; rintro e V ⟨rfl,f⟩; rw [z]; have g := za (zb gan f); have D := za ((Box.new w (.mk 1 x m p d) (.slice a d.length c) 28).kept f); obtain ⟨j,o,s,u,y⟩ := D.out; have p1 := yI g.out R.out; have p2 := yI g.out U.out; clear f; go_wp2_with fail; go_at_call 130; refine (qX w0 jb lb ob _ l v d _ r _ (A.out.grown g.out) hlen K.out (L.out.grown g.out)).mono ?_; rintro e Y ⟨H,rfl,I,J⟩; have Z := za I; have K2 : Hid (JK jb v w Y H) := (JK.grown g.out).trans J; clear I J; go_wp2_with fail
   go_ret
   exact .inr ⟨_,H,X.out,rfl,Z.out,K2.out⟩
 ·have C : Hid (zw (.list r) (.mk i x m p d) = none) := B.out.trans (zm (by simp [zD,T.kind,F]))
  clear h hf ha
  go_enter Tryz.func128,Tryz.ntmps128
  go_wp2_with fail
  go_ret
  exact .inl ⟨C.out,rfl,zb A.out.gb gan⟩
theorem pi (w0 : World) (jb lb ob : Nat) (w : World) (l : List (T × Rule)) (v : Value) (t : T) (sv : Value) (k most : Int) (r : Rule) (rv : Value) (e1 e2 e3 e4 : Nat) (h : JS w0 jb lb ob w l v) (hlen : l.length + t.subs.length <= 20000) (hf : Fits t) (ha : AT w0 t.subs sv) (q1 : w.cell? ⟨e1,0,none⟩ = some (.int .i64 k)) (q2 : w.cell? ⟨e2,0,none⟩ = some (ptr jb)) (q3 : w.cell? ⟨e3,0,none⟩ = some (.int .i64 most)) (q4 : w.cell? ⟨e4,0,none⟩ = some rv) (hr : RV w jb (free jb v) r rv) :
  Calls Tryz.prog 131 #[yl t sv,ptr e1,ptr e2,ptr e3,ptr e4] w (JR w0 jb lb ob l v w (.declared k most r) t) := by
 have j := za h; have K := za hf; have U := za ha; have V := za hr; have X := h.lt
 have Y : Hid (∀ b,v.ownBlock = some b -> b < w.heap.size) := fun b hb => (h.room hb).2
 obtain ⟨d,x,m,p,f⟩ := t; obtain ⟨a,n,c,rfl,_,_,L⟩ := ha.any
 change f.length = n at L
 subst L
 change l.length + f.length <= 20000 at hlen
 obtain ⟨_,_,_,rfl⟩ := hr.form; have Z := ze q1; have a0 := ze q2; have a1 := ze q3; have a2 := ze q4; have Q2 := za q2; have Q4 := za q4
 have C : Hid (zw (.declared k most r) (.mk d x m p f) = zq (zD (.mk d x m p f) k true most 1) (yn f [r])) := rfl
 clear hr
 change Calls Tryz.prog 131 #[.agg #[.int .i64 d,.string ⟨x.toArray⟩,.int .i64 m,.int .i64 p,.slice a f.length c],ptr e1,ptr e2,ptr e3,ptr e4] w _
 by_cases D : d = k
 ·subst D
  cases o : (zF (T.mk d x m p f).name && zU (.mk d x m p f) most)
  ·have E : Hid (zw (.declared d most r) (.mk d x m p f) = none) := C.out.trans (zm (by rw [yL (t := (.mk d x m p f)) (k := d) rfl,o]; rfl))
   clear h hf ha
   go_enter Tryz.func131,Tryz.ntmps131
   go_wp2_with fail; go_at_call 71; refine (vw jb lb (.mk d x m p f) _ most _ (j.out.grown gan).c0 (j.out.grown gan).lex K.out ⟨_,_,_,rfl⟩).mono ?_; rintro e M ⟨rfl,i⟩; rw [o]; have g := za (zb gan i); have F := za ((Box.new w (.mk d x m p f) (.slice a f.length c) 28).kept i); obtain ⟨s,u,y,z,A⟩ := F.out; clear i; go_wp2_with fail
   go_ret
   exact .inl ⟨E.out,rfl,zb j.out.gb g.out⟩
  ·skip
   clear h hf ha
   go_enter Tryz.func131,Tryz.ntmps131
   go_wp2_with fail; go_at_call 71; refine (vw jb lb (.mk d x m p f) _ most _ (j.out.grown gan).c0 (j.out.grown gan).lex K.out ⟨_,_,_,rfl⟩).mono ?_; rintro e M ⟨rfl,i⟩; rw [o]; have g := za (zb gan i); have F := za ((Box.new w (.mk d x m p f) (.slice a f.length c) 28).kept i); obtain ⟨s,u,y,z,A⟩ := F.out; have p2 := yI g.out Q2.out; have p4 := yI g.out Q4.out; have a3 := g.out.size
   have H : jb < M.heap.size := by omega
   clear i; go_wp2_with fail; go_at_call 72; refine (yE w0 jb lb ob _ l v (.mk d x m p f) _ [r] _ (j.out.grown (zf g.out _)) hlen (by simp) U.out (RL.new1 _ _ (V.out.grown (zf g.out _)) (by simpa using H) (fun b hb => by have := Y.out b hb; omega))).mono ?_; rintro e w2 (⟨I,rfl,J⟩ | ⟨B,N,rfl,O,R⟩)
   ·go_wp2_with fail
    go_ret
    exact .inl ⟨C.out.trans (zm (by rw [yL (t := (.mk d x m p f)) (k := d) rfl,o]; exact (Bool.true_and _).trans (xO (n := 1) I))),rfl,zb j.out.gb (zb (zf g.out _) J)⟩
   have J2 := za O; have K2 : Hid (JK jb v w w2 N) := (JK.grown (zf g.out _)).trans R; clear O R; go_wp2_with fail
   go_ret
   exact .inr ⟨_,N,C.out.trans (zN (by rw [yL (t := (.mk d x m p f)) (k := d) rfl,o]; exact (Bool.true_and _).trans (xl (n := 1) B))),rfl,J2.out,K2.out⟩
 ·have E : Hid (zw (.declared k most r) (.mk d x m p f) = none) := C.out.trans (zm (by simp [zD,T.kind,D]))
  have a4 : (d == k) = false := by simpa using D
  clear h hf ha
  go_enter Tryz.func131,Tryz.ntmps131
  go_wp2_with fail
  go_ret
  exact .inl ⟨E.out,rfl,zb j.out.gb gan⟩
end Go.Proofs.YtfjgelmllcnokaaGreatDoor
