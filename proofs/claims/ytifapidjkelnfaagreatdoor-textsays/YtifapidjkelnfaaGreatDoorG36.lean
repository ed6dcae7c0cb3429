/- The program's judge of shapes: every node by the rules of names,types,designators,expressions. -/
import Derived.Test.YtifapidjkelnfaaGreatDoorG35
import Derived.Test.YtifapidjkelnfaaGreatDoorG02
import Derived.Test.YtifapidjkelnfaaGreatDoorG20
namespace Go.Proofs.YtifapidjkelnfaaGreatDoor
open Go.RowKit Go.Maps Go.WideMaps Go.WideElems
set_option maxHeartbeats 2000000
set_option maxRecDepth 1000000
theorem JR.up {w0 : World} {jb lb ob : Nat} {l : List (T × Rule)} {v : Value} {w w1 : World} {r q : Rule} {t : T} {e : Ending} {w' : World} (h : JR w0 jb lb ob l v w1 r t e w') (hg : w.grownBy w1 none) (hs : zw q t = zw r t) : JR w0 jb lb ob l v w q t e w' := by
 rcases h with ⟨a,b,d⟩ | ⟨m,f,a,b,d,g⟩
 ·exact .inl ⟨hs.trans a,b,d⟩
 ·exact .inr ⟨m,f,hs.trans a,b,d,(JK.grown hg).trans g⟩
theorem JR.ret {w0 : World} {jb lb ob : Nat} {l : List (T × Rule)} {v : Value} {w : World} {r : Rule} {t : T} {e : Ending} {w' : World} (h : JR w0 jb lb ob l v w r t e w') : ∃ b : Bool,e = .returned (.bool b) /\ JR w0 jb lb ob l v w r t (.returned (.bool b)) w' := by
 rcases id h with ⟨_,rfl,_⟩ | ⟨_,_,_,rfl,_⟩
 ·exact ⟨_,rfl,h⟩
 ·exact ⟨_,rfl,h⟩
def RuleSays (f : Nat) (r : Rule) : Prop := ∀ (w0 : World) (jb lb ob : Nat) (w : World) (l : List (T × Rule)) (v : Value) (t : T) (sv : Value),JS w0 jb lb ob w l v -> l.length + t.subs.length <= 20000 -> Fits t -> AT w0 t.subs sv -> Calls Tryz.prog f #[ptr jb,zq t sv] w (JR w0 jb lb ob l v w r t)
theorem bZ (w0 : World) (jb lb ob : Nat) (w : World) (l : List (T × Rule)) (v : Value) (kd : Int) (x : Bs) (m p : Int) (ts : List T) (sv : Value) (h : JS w0 jb lb ob w l v) (_hlen : l.length + ts.length <= 20000) (hf : Fits (.mk kd x m p ts)) (ha : AT w0 (T.mk kd x m p ts).subs sv) (h3 : ¬ kd = 3) :
  Calls Tryz.prog 108 #[ptr jb,.agg #[.int .i64 kd,.string ⟨x.toArray⟩,.int .i64 m,.int .i64 p,sv]] w (JR w0 jb lb ob l v w .imported (.mk kd x m p ts)) := by
 have d := zb h; have i := zb hf; have j := zb ha; have f := h.lt
 have k : Hid (∀ b,v.ownBlock = some b -> b < w.heap.size) := fun b hb => (h.room hb).2
 obtain ⟨_,n,_,rfl,_,_,a⟩ := ha.any
 change ts.length = n at a
 subst a
 have g : Hid (zw .imported (.mk kd x m p ts) = none) := by show _ = _; rw [show zw .imported (.mk kd x m p ts) = zt _ _ from rfl]; exact zm (by simp [zk,T.kind,h3])
 clear h hf ha
 go_enter Tryz.func108,Tryz.ntmps108
 go_wp2_with fail
 go_ret
 exact .inl ⟨g,rfl,za d.gb gan⟩
theorem hZ : RuleSays 108 .imported := by
 intro d f g i w l v t j h a k n; obtain ⟨r,x,m,p,b⟩ := t
 change l.length + b.length <= 20000 at a
 by_cases s : r = 3
 ·subst s; exact bS d f g i w l v x m p b j h a k n
 exact bZ d f g i w l v r x m p b j h a k n s
theorem bC (w0 : World) (jb lb ob : Nat) (w : World) (l : List (T × Rule)) (v : Value) (kd : Int) (x : Bs) (m p : Int) (ts : List T) (sv : Value) (h : JS w0 jb lb ob w l v) (_hlen : l.length + ts.length <= 20000) (hf : Fits (.mk kd x m p ts)) (ha : AT w0 (T.mk kd x m p ts).subs sv) (h24 : ¬ kd = 24) :
  Calls Tryz.prog 151 #[ptr jb,.agg #[.int .i64 kd,.string ⟨x.toArray⟩,.int .i64 m,.int .i64 p,sv]] w (JR w0 jb lb ob l v w .ref (.mk kd x m p ts)) := by
 have d := zb h; have i := zb hf; have j := zb ha; have f := h.lt
 have k : Hid (∀ b,v.ownBlock = some b -> b < w.heap.size) := fun b hb => (h.room hb).2
 obtain ⟨_,n,_,rfl,_,_,a⟩ := ha.any
 change ts.length = n at a
 subst a
 have g : Hid (zw .ref (.mk kd x m p ts) = none) := by show _ = _; rw [show zw .ref (.mk kd x m p ts) = zt _ _ from rfl]; exact zm (by simp [zk,T.kind,h24])
 clear h hf ha
 go_enter Tryz.func151,Tryz.ntmps151
 go_wp2_with fail
 go_ret
 exact .inl ⟨g,rfl,za d.gb gan⟩
theorem dG : RuleSays 151 .ref := by
 intro f g i j w l v t k h a n r; obtain ⟨s,x,m,p,d⟩ := t
 change l.length + d.length <= 20000 at a
 by_cases b : s = 24
 ·subst b; exact cC f g i j w l v x m p d k h a n r
 exact bC f g i j w l v s x m p d k h a n r b
theorem zal (w0 : World) (jb lb ob : Nat) (w : World) (l : List (T × Rule)) (v : Value) (kd : Int) (x : Bs) (m p : Int) (ts : List T) (sv : Value) (h : JS w0 jb lb ob w l v) (_hlen : l.length + ts.length <= 20000) (hf : Fits (.mk kd x m p ts)) (ha : AT w0 (T.mk kd x m p ts).subs sv) (h13 : ¬ kd = 13) :
  Calls Tryz.prog 112 #[ptr jb,.agg #[.int .i64 kd,.string ⟨x.toArray⟩,.int .i64 m,.int .i64 p,sv]] w (JR w0 jb lb ob l v w .typeName (.mk kd x m p ts)) := by
 have d := zb h; have i := zb hf; have j := zb ha; have f := h.lt
 have k : Hid (∀ b,v.ownBlock = some b -> b < w.heap.size) := fun b hb => (h.room hb).2
 obtain ⟨_,n,_,rfl,_,_,a⟩ := ha.any
 change ts.length = n at a
 subst a
 have g : Hid (zw .typeName (.mk kd x m p ts) = none) := by show _ = _; rw [show zw .typeName (.mk kd x m p ts) = zt (zk (.mk kd x m p ts) 13 true 0 (-1) && decide (ts.length <= 1)) (yE ts .ref) from rfl]; exact zm (by simp [zk,T.kind,h13])
 clear h hf ha
 go_enter Tryz.func112,Tryz.ntmps112
 go_wp2_with fail
 go_ret
 exact .inl ⟨g,rfl,za d.gb gan⟩
theorem uY : RuleSays 112 .typeName := by
 intro f g i j w l v t k h a n r; obtain ⟨s,x,m,p,d⟩ := t
 change l.length + d.length <= 20000 at a
 by_cases b : s = 13
 ·subst b; exact br f g i j w l v x m p d k h a n r
 exact zal f g i j w l v s x m p d k h a n r b
theorem zah (w0 : World) (jb lb ob : Nat) (w : World) (l : List (T × Rule)) (v : Value) (kd : Int) (x : Bs) (m p : Int) (ts : List T) (sv : Value) (h : JS w0 jb lb ob w l v) (hlen : l.length + ts.length <= 20000) (hf : Fits (.mk kd x m p ts)) (ha : AT w0 (T.mk kd x m p ts).subs sv) (h0 : ¬ kd = 0) :
  Calls Tryz.prog 150 #[ptr jb,.agg #[.int .i64 kd,.string ⟨x.toArray⟩,.int .i64 m,.int .i64 p,sv]] w (JR w0 jb lb ob l v w .typeNameOrNone (.mk kd x m p ts)) := by
 have f := zb h; have g := zb hf; have i := zb ha; have j := h.lt
 have t : Hid (∀ b,v.ownBlock = some b -> b < w.heap.size) := fun b hb => (h.room hb).2
 obtain ⟨_,n,_,rfl,_,_,d⟩ := ha.any
 change ts.length = n at d
 subst d
 have k : Hid (zw .typeNameOrNone (.mk kd x m p ts) = zw .typeName (.mk kd x m p ts)) := by show _ = _; simp [zw,T.kind,h0]
 clear h hf ha
 go_enter Tryz.func150,Tryz.ntmps150
 go_wp2_with fail; go_at_call 112; refine (uY w0 jb lb ob _ l v (.mk kd x m p ts) _ (f.grown gan) hlen g i).mono ?_; intro e r a; obtain ⟨b,rfl,a⟩ := a.ret; have s : Hid (JR w0 jb lb ob l v w .typeNameOrNone (.mk kd x m p ts) (.returned (.bool b)) r) := a.up gan k; clear a; go_wp2_with fail
 go_ret
 exact s
theorem uT : RuleSays 150 .typeNameOrNone := by
 intro d f g i w l v t j h a k n; obtain ⟨r,x,m,p,b⟩ := t
 change l.length + b.length <= 20000 at a
 by_cases s : r = 0
 ·subst s; exact zaw d f g i w l v x m p b j h a k n
 exact zah d f g i w l v r x m p b j h a k n s
theorem aH (w0 : World) (jb lb ob : Nat) (w : World) (l : List (T × Rule)) (v : Value) (kd : Int) (x : Bs) (m p : Int) (ts : List T) (sv : Value) (h : JS w0 jb lb ob w l v) (_hlen : l.length + ts.length <= 20000) (hf : Fits (.mk kd x m p ts)) (ha : AT w0 (T.mk kd x m p ts).subs sv) (h9 : ¬ kd = 9) (h10 : ¬ kd = 10) (h12 : ¬ kd = 12) :
  Calls Tryz.prog 111 #[ptr jb,.agg #[.int .i64 kd,.string ⟨x.toArray⟩,.int .i64 m,.int .i64 p,sv]] w (JR w0 jb lb ob l v w .typeItself (.mk kd x m p ts)) := by
 have d := zb h; have i := zb hf; have j := zb ha; have f := h.lt
 have k : Hid (∀ b,v.ownBlock = some b -> b < w.heap.size) := fun b hb => (h.room hb).2
 obtain ⟨_,n,_,rfl,_,_,a⟩ := ha.any
 change ts.length = n at a
 subst a
 have g : Hid (zw .typeItself (.mk kd x m p ts) = none) := by show _ = _; simp [zw,T.kind,h9,h10,h12]
 clear h hf ha
 go_enter Tryz.func111,Tryz.ntmps111
 go_wp2_with fail
 go_ret
 exact .inl ⟨g,rfl,za d.gb gan⟩
theorem kT : RuleSays 111 .typeItself := by
 intro g i j k w l v t n h a r s; obtain ⟨u,x,m,p,b⟩ := t
 change l.length + b.length <= 20000 at a
 by_cases y : u = 9
 ·subst y; exact aK g i j k w l v x m p b n h a r s
 by_cases d : u = 10
 ·subst d; exact bB g i j k w l v x m p b n h a r s
 by_cases f : u = 12
 ·subst f; exact bQ g i j k w l v x m p b n h a r s
 exact aH g i j k w l v u x m p b n h a r s y d f
theorem cD : JC 149 .designator 24 := by
 intro i j k r w l v x m p a E h d s g
 have u := zb h; have y := zb s; have z := zb g; have A := h.lt
 have F : Hid (∀ b,v.ownBlock = some b -> b < w.heap.size) := fun b hb => (h.room hb).2
 obtain ⟨_,n,_,rfl,_,_,t⟩ := g.any
 change a.length = n at t
 subst t
 have B : Hid (zw .designator (.mk 24 x m p a) = zw .ref (.mk 24 x m p a)) := by show _ = _; rfl
 clear h s g
 go_enter Tryz.func149,Tryz.ntmps149
 go_wp2_with fail; go_at_call 151; refine (dG i j k r _ l v (.mk 24 x m p a) _ (u.grown gan) d y z).mono ?_; intro e C f; obtain ⟨b,rfl,f⟩ := f.ret; have D : Hid (JR i j k r l v w .designator (.mk 24 x m p a) (.returned (.bool b)) C) := f.up gan B; clear f; go_wp2_with fail
 go_ret
 exact D
theorem bA (w0 : World) (jb lb ob : Nat) (w : World) (l : List (T × Rule)) (v : Value) (kd : Int) (x : Bs) (m p : Int) (ts : List T) (sv : Value) (h : JS w0 jb lb ob w l v) (_hlen : l.length + ts.length <= 20000) (hf : Fits (.mk kd x m p ts)) (ha : AT w0 (T.mk kd x m p ts).subs sv) (h24 : ¬ kd = 24) (h25 : ¬ kd = 25) (h26 : ¬ kd = 26) (h27 : ¬ kd = 27) (h28 : ¬ kd = 28) :
  Calls Tryz.prog 149 #[ptr jb,.agg #[.int .i64 kd,.string ⟨x.toArray⟩,.int .i64 m,.int .i64 p,sv]] w (JR w0 jb lb ob l v w .designator (.mk kd x m p ts)) := by
 have d := zb h; have i := zb hf; have j := zb ha; have f := h.lt
 have k : Hid (∀ b,v.ownBlock = some b -> b < w.heap.size) := fun b hb => (h.room hb).2
 obtain ⟨_,n,_,rfl,_,_,a⟩ := ha.any
 change ts.length = n at a
 subst a
 have g : Hid (zw .designator (.mk kd x m p ts) = none) := by show _ = _; simp [zw,yJ,T.kind,h24,h25,h26,h27,h28]
 clear h hf ha
 go_enter Tryz.func149,Tryz.ntmps149
 go_wp2_with fail
 go_ret
 exact .inl ⟨g,rfl,za d.gb gan⟩
theorem uB : RuleSays 149 .designator := by
 intro d f g i w l v t j h a k n; obtain ⟨r,x,m,p,b⟩ := t
 change l.length + b.length <= 20000 at a
 by_cases s : r = 24
 ·subst s; exact cD d f g i w l v x m p b j h a k n
 by_cases u : r = 25
 ·subst u; exact cM d f g i w l v x m p b j h a k n
 by_cases y : r = 26
 ·subst y; exact cI d f g i w l v x m p b j h a k n
 by_cases z : r = 27
 ·subst z; exact iM d f g i w l v x m p b j h a k n
 by_cases A : r = 28
 ·subst A; exact iK d f g i w l v x m p b j h a k n
 exact bA d f g i w l v r x m p b j h a k n s u y z A
theorem bj (w0 : World) (jb lb ob : Nat) (w : World) (l : List (T × Rule)) (v : Value) (kd : Int) (x : Bs) (m p : Int) (ts : List T) (sv : Value) (h : JS w0 jb lb ob w l v) (hlen : l.length + ts.length <= 20000) (hf : Fits (.mk kd x m p ts)) (ha : AT w0 (T.mk kd x m p ts).subs sv) (h29 : ¬ kd = 29) (h30 : ¬ kd = 30) (h31 : ¬ kd = 31) (h32 : ¬ kd = 32) (h33 : ¬ kd = 33) (h34 : ¬ kd = 34) (h35 : ¬ kd = 35) (h36 : ¬ kd = 36) (h37 : ¬ kd = 37) :
  Calls Tryz.prog 110 #[ptr jb,.agg #[.int .i64 kd,.string ⟨x.toArray⟩,.int .i64 m,.int .i64 p,sv]] w (JR w0 jb lb ob l v w .expression (.mk kd x m p ts)) := by
 have f := zb h; have g := zb hf; have i := zb ha; have j := h.lt
 have t : Hid (∀ b,v.ownBlock = some b -> b < w.heap.size) := fun b hb => (h.room hb).2
 obtain ⟨_,n,_,rfl,_,_,d⟩ := ha.any
 change ts.length = n at d
 subst d
 have k : Hid (zw .expression (.mk kd x m p ts) = zw .designator (.mk kd x m p ts)) := by show _ = _; simp [zw,yR,T.kind,h29,h30,h31,h32,h33,h34,h35,h36,h37]
 clear h hf ha
 go_enter Tryz.func110,Tryz.ntmps110
 go_wp2_with fail; go_at_call 149; refine (uB w0 jb lb ob _ l v (.mk kd x m p ts) _ (f.grown gan) hlen g i).mono ?_; intro e r a; obtain ⟨b,rfl,a⟩ := a.ret; have s : Hid (JR w0 jb lb ob l v w .expression (.mk kd x m p ts) (.returned (.bool b)) r) := a.up gan k; clear a; go_wp2_with fail
 go_ret
 exact s
theorem kV : RuleSays 110 .expression := by
 intro d f g i w l v t j h a k n; obtain ⟨r,x,m,p,b⟩ := t
 change l.length + b.length <= 20000 at a
 by_cases s : r = 29
 ·subst s; exact cO d f g i w l v x m p b j h a k n
 by_cases u : r = 30
 ·subst u; exact iQ d f g i w l v x m p b j h a k n
 by_cases y : r = 31
 ·subst y; exact ij d f g i w l v x m p b j h a k n
 by_cases z : r = 32
 ·subst z; exact iI d f g i w l v x m p b j h a k n
 by_cases A : r = 33
 ·subst A; exact iZ d f g i w l v x m p b j h a k n
 by_cases B : r = 34
 ·subst B; exact ik d f g i w l v x m p b j h a k n
 by_cases C : r = 35
 ·subst C; exact im d f g i w l v x m p b j h a k n
 by_cases D : r = 36
 ·subst D; exact cq d f g i w l v x m p b j h a k n
 by_cases E : r = 37
 ·subst E; exact iN d f g i w l v x m p b j h a k n
 exact bj d f g i w l v r x m p b j h a k n s u y z A B C D E
theorem rQ (w0 : World) (jb lb ob : Nat) (w : World) (l : List (T × Rule)) (v : Value) (t : T) (sv : Value) (r : Rule) (rv : Value) (e1 e2 : Nat) (h : JS w0 jb lb ob w l v) (hlen : l.length + t.subs.length <= 20000) (hf : Fits t) (ha : AT w0 t.subs sv) (q1 : w.cell? ⟨e1,0,none⟩ = some (ptr jb)) (q2 : w.cell? ⟨e2,0,none⟩ = some rv) (hr : RV w jb (free jb v) r rv) :
  Calls Tryz.prog 144 #[zq t sv,ptr e1,ptr e2] w (JR w0 jb lb ob l v w (.list r) t) := by
 have B := zb h; have HF := zb hf; have K := zb ha; have L := zb hr; have M := h.lt
 have HV : Hid (∀ b,v.ownBlock = some b -> b < w.heap.size) := fun b hb => (h.room hb).2
 obtain ⟨i,x,m,p,d⟩ := t; obtain ⟨a,n,c,rfl,_,_,F⟩ := ha.any
 change d.length = n at F
 subst F
 change l.length + d.length <= 20000 at hlen
 obtain ⟨_,_,_,rfl⟩ := hr.form; have N := zc q1; have O := zc q2; have Q := zb q1; have R := zb q2
 have C : Hid (zw (.list r) (.mk i x m p d) = zt (zk (.mk i x m p d) 1 false 0 (-1)) (yE d r)) := rfl
 clear hr
 change Calls Tryz.prog 144 #[.agg #[.int .i64 i,.string ⟨x.toArray⟩,.int .i64 m,.int .i64 p,.slice a d.length c],ptr e1,ptr e2] w _
 by_cases G : i = 1
 ·subst G
  cases A : ((T.mk 1 x m p d).name.isEmpty && zM (.mk 1 x m p d) 0)
  ·have D : Hid (zw (.list r) (.mk 1 x m p d) = none) := C.trans (zm (by rw [zi (t := (.mk 1 x m p d)) (k := 1) rfl,A]; rfl))
   clear h hf ha
   go_enter Tryz.func144,Tryz.ntmps144
   go_wp2_with fail; go_at_call 145; refine (zG (.mk 1 x m p d) _ 0 _ ⟨_,_,_,rfl⟩).mono ?_; rintro e U ⟨rfl,f⟩; rw [A]; have g := za gan f; have E := zb ((Box.new w (.mk 1 x m p d) (.slice a d.length c) 24).kept f); obtain ⟨j,s,u,y,z⟩ := id E; clear f; go_wp2_with fail
   go_ret
   exact .inl ⟨D,rfl,za B.gb g⟩
  ·have V : Hid (zw (.list r) (.mk 1 x m p d) = some (yE d r)) := C.trans (zH (by rw [zi (t := (.mk 1 x m p d)) (k := 1) rfl,A]; simp))
   clear h hf ha
   go_enter Tryz.func144,Tryz.ntmps144
   go_wp2_with fail; go_at_call 145; refine (zG (.mk 1 x m p d) _ 0 _ ⟨_,_,_,rfl⟩).mono ?_; rintro e U ⟨rfl,f⟩; rw [A]; have g := za gan f; have E := zb ((Box.new w (.mk 1 x m p d) (.slice a d.length c) 24).kept f); obtain ⟨j,s,u,y,z⟩ := id E; have p1 := zg g Q; have p2 := zg g R; clear f; go_wp2_with fail; go_at_call 146; refine (uE w0 jb lb ob _ l v d _ r _ (B.grown g) hlen K (L.grown g)).mono ?_; rintro e X ⟨H,rfl,I,J⟩; have Y := zb I; have Z : Hid (JK jb v w X H) := (JK.grown g).trans J; clear I J; go_wp2_with fail
   go_ret
   exact .inr ⟨_,H,V,rfl,Y,Z⟩
 ·have D : Hid (zw (.list r) (.mk i x m p d) = none) := C.trans (zm (by simp [zk,T.kind,G]))
  clear h hf ha
  go_enter Tryz.func144,Tryz.ntmps144
  go_wp2_with fail
  go_ret
  exact .inl ⟨D,rfl,za B.gb gan⟩
theorem gk (w0 : World) (jb lb ob : Nat) (w : World) (l : List (T × Rule)) (v : Value) (t : T) (sv : Value) (k most : Int) (r : Rule) (rv : Value) (e1 e2 e3 e4 : Nat) (h : JS w0 jb lb ob w l v) (hlen : l.length + t.subs.length <= 20000) (hf : Fits t) (ha : AT w0 t.subs sv) (q1 : w.cell? ⟨e1,0,none⟩ = some (.int .i64 k)) (q2 : w.cell? ⟨e2,0,none⟩ = some (ptr jb)) (q3 : w.cell? ⟨e3,0,none⟩ = some (.int .i64 most)) (q4 : w.cell? ⟨e4,0,none⟩ = some rv) (hr : RV w jb (free jb v) r rv) :
  Calls Tryz.prog 147 #[zq t sv,ptr e1,ptr e2,ptr e3,ptr e4] w (JR w0 jb lb ob l v w (.declared k most r) t) := by
 have j := zb h; have K := zb hf; have R := zb ha; have U := zb hr; have V := h.lt
 have X : Hid (∀ b,v.ownBlock = some b -> b < w.heap.size) := fun b hb => (h.room hb).2
 obtain ⟨d,x,m,p,f⟩ := t; obtain ⟨a,n,c,rfl,_,_,L⟩ := ha.any
 change f.length = n at L
 subst L
 change l.length + f.length <= 20000 at hlen
 obtain ⟨_,_,_,rfl⟩ := hr.form; have Y := zc q1; have Z := zc q2; have a0 := zc q3; have a1 := zc q4; have Q2 := zb q2; have Q4 := zb q4
 have D : Hid (zw (.declared k most r) (.mk d x m p f) = zt (zk (.mk d x m p f) k true most 1) (zJ f [r])) := rfl
 clear hr
 change Calls Tryz.prog 147 #[.agg #[.int .i64 d,.string ⟨x.toArray⟩,.int .i64 m,.int .i64 p,.slice a f.length c],ptr e1,ptr e2,ptr e3,ptr e4] w _
 by_cases E : d = k
 ·subst E
  cases s : (yB (T.mk d x m p f).name && zM (.mk d x m p f) most)
  ·have F : Hid (zw (.declared d most r) (.mk d x m p f) = none) := D.trans (zm (by rw [yd (t := (.mk d x m p f)) (k := d) rfl,s]; rfl))
   clear h hf ha
   go_enter Tryz.func147,Tryz.ntmps147
   go_wp2_with fail; go_at_call 105; refine (xk jb lb (.mk d x m p f) _ most _ (j.grown gan).c0 (j.grown gan).lex K ⟨_,_,_,rfl⟩).mono ?_; rintro e M ⟨rfl,i⟩; rw [s]; have g := za gan i; have G := zb ((Box.new w (.mk d x m p f) (.slice a f.length c) 24).kept i); obtain ⟨u,y,z,A,B⟩ := id G; clear i; go_wp2_with fail
   go_ret
   exact .inl ⟨F,rfl,za j.gb g⟩
  ·skip
   clear h hf ha
   go_enter Tryz.func147,Tryz.ntmps147
   go_wp2_with fail; go_at_call 105; refine (xk jb lb (.mk d x m p f) _ most _ (j.grown gan).c0 (j.grown gan).lex K ⟨_,_,_,rfl⟩).mono ?_; rintro e M ⟨rfl,i⟩; rw [s]; have g := za gan i; have G := zb ((Box.new w (.mk d x m p f) (.slice a f.length c) 24).kept i); obtain ⟨u,y,z,A,B⟩ := id G; have p2 := zg g Q2; have p4 := zg g Q4; have a2 := g.size
   have H : jb < M.heap.size := by omega
   clear i; go_wp2_with fail; go_at_call 106; refine (ya w0 jb lb ob _ l v (.mk d x m p f) _ [r] _ (j.grown (zf g _)) hlen (by simp) R (RL.new1 _ _ (U.grown (zf g _)) (by simpa using H) (fun b hb => by have := id X b hb; omega))).mono ?_; rintro e w2 (⟨I,rfl,J⟩ | ⟨C,N,rfl,O,Q⟩)
   ·go_wp2_with fail
    go_ret
    exact .inl ⟨D.trans (zm (by rw [yd (t := (.mk d x m p f)) (k := d) rfl,s]; exact (Bool.true_and _).trans (yT (n := 1) I))),rfl,za j.gb (za (zf g _) J)⟩
   have J2 := zb O; have K2 : Hid (JK jb v w w2 N) := (JK.grown (zf g _)).trans Q; clear O Q; go_wp2_with fail
   go_ret
   exact .inr ⟨_,N,D.trans (zH (by rw [yd (t := (.mk d x m p f)) (k := d) rfl,s]; exact (Bool.true_and _).trans (yy (n := 1) C))),rfl,J2,K2⟩
 ·have F : Hid (zw (.declared k most r) (.mk d x m p f) = none) := D.trans (zm (by simp [zk,T.kind,E]))
  have a3 : (d == k) = false := by simpa using E
  clear h hf ha
  go_enter Tryz.func147,Tryz.ntmps147
  go_wp2_with fail
  go_ret
  exact .inl ⟨F,rfl,za j.gb gan⟩
end Go.Proofs.YtifapidjkelnfaaGreatDoor
