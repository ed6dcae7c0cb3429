/- The program's writer: acts,kind by kind,but for choices. -/
import Derived.Test.YtifapidjkelnfaaGreatDoorG21
import Derived.Test.YtifapidjkelnfaaGreatDoorG02
namespace Go.Proofs.YtifapidjkelnfaaGreatDoor
open Go.RowKit Go.Maps Go.WideMaps Go.WideElems
set_option maxHeartbeats 4000000
set_option maxRecDepth 1000000
def AW (w0 : World) (wb L : Nat) (t : T) (X : Bs) : Prop := ∀ (w : World) (S : Bs) (sv : Value),Wr w0 wb w S L -> AT w0 t.subs sv -> S.length + X.length <= 1000000000 -> Calls Tryz.prog 129 #[ptr wb,zq t sv] w (WP w0 wb w S L X)
def LW (w0 : World) (wb L : Nat) (us : List T) (X : Bs) : Prop := ∀ (w : World) (S : Bs) (sl : Value),Wr w0 wb w S L -> AT w0 us sl -> S.length + X.length <= 1000000000 -> Calls Tryz.prog 88 #[ptr wb,sl] w (WP w0 wb w S L X)
theorem cj : EN 129 := enters_of Tryz.func129 (by kernel_rfl) rfl
theorem EW.act {w0 : World} {wb L : Nat} {us : List T} {tx : T -> Bs} (H : ∀ v ∈ us,AW w0 wb L v (tx v)) (w : World) : EW w0 wb w L 129 #[ptr wb] #[] us tx := fun t sv w1 S hm ha hw _ hl => H t hm w1 S sv hw ha hl
theorem iS (w0 : World) (wb L : Nat) (us : List T) (tx : T -> Bs) (H : ∀ v ∈ us,AW w0 wb (L + 1) v (tx v)) (hL : L <= 1000) (w : World) (S : Bs) (sl : Value) (h : Wr w0 wb w S L) (ha : AT w0 us sl) (hlen : S.length + (yz [59] [] tx L us).length <= 1000000000) :
  Calls Tryz.prog 88 #[ptr wb,sl] w (WP w0 wb w S L (yz [59] [] tx L us)) := by
 have a := zb h; have j := zb ha; have k := zb H; obtain ⟨_,_,rfl,_,_⟩ := ha.form
 generalize b : yz [59] [] tx L us = X at hlen ⊢
 clear h ha H
 go_enter Tryz.func88,Tryz.ntmps88
 go_wp2_with fail; go_at_call 119; refine (gO w0 wb _ _ L us _ [59] [] _ _ _ tx (a.out.grown grn) j.out (EW.act k.out _) cj (by decide) hL (by rw [b]; omega)).mono ?_; rintro e m ⟨rfl,d,f⟩; have g := zb d; have l := zb ((WK.grown a.out grn).trans f); clear d f; rw [b] at g; go_wp2_with fail
 go_end0
 refine ⟨rfl,?_,l.out⟩; have i := g.out
 try simp only [List.append_assoc,List.nil_append,List.append_nil] at i ⊢
 exact i
theorem qc (w0 : World) (wb L : Nat) (us : List T) (tx : T -> Bs) (H : ∀ v ∈ us,AW w0 wb (L + 1) v (tx v)) (hL : L <= 1000) : LW w0 wb L us (yz [59] [] tx L us) := fun w S sl h ha hlen => iS w0 wb L us tx H hL w S sl h ha hlen
theorem fw (w0 : World) (wb : Nat) (w : World) (S : Bs) (L : Nat) (h : Wr w0 wb w S L) (hlen : S.length + 2 * L + 3 <= 1000000000) :
  Calls Tryz.prog 159 #[ptr wb] w (WP w0 wb w S L (zD L ++ [69,78,68])) := by
 have a := zb h; clear h
 go_enter Tryz.func159,Tryz.ntmps159
 go_wp2_with fail; go_at_call 115; refine (x8 w0 wb _ _ L (a.out.grown grn)).mono ?_; rintro e n ⟨rfl,b,d⟩; have f := zb b; have k := zb ((WK.grown a.out grn).trans d); clear b d; go_wp2_with fail; go_at_call 82; refine (zQ w0 wb _ _ L [69,78,68] _ _ (by simp) (f.out.grown grn)).mono ?_; rintro e r ⟨rfl,g,i⟩; have l := zb g; have m := km k f i; clear g i; go_wp2_with fail
 go_end0
 refine ⟨rfl,?_,m.out⟩; have j := l.out
 try simp only [List.append_assoc] at j ⊢
 exact j
theorem vo (w0 : World) (wb : Nat) (w : World) (S : Bs) (L : Nat) (ahead behind : Bs) (u v : T) (us : List T) (sl : Value) (h : Wr w0 wb w S L) (ha : AT w0 (u :: v :: us) sl) (U Z : Bs) (hu : EXW w0 wb u U) (hz : LW w0 wb L v.subs Z) (hlen : S.length + (ahead ++ (U ++ (behind ++ ([10] ++ Z)))).length <= 1000000000) :
  Calls Tryz.prog 158 #[ptr wb,.string ⟨ahead.toArray⟩,sl,.string ⟨behind.toArray⟩] w (WP w0 wb w S L (ahead ++ (U ++ (behind ++ ([10] ++ Z))))) := by
 have J := zb h; have a0 := h.lt; have HU := zb hu; have HZ := zb hz; obtain ⟨_,c,rfl,K,hc⟩ := ha.form
 unfold maxLen at hc
 obtain ⟨g,o,_,rfl,m,fu,M⟩ := ha.node 0 u rfl; obtain ⟨g',o',sw,e2,n,fv,N⟩ := ha.node 1 v rfl; cases e2; rw [show o + 0 * 5 = o by omega] at m; rw [show o + 1 * 5 = o + 5 by omega] at n; have r := zb m; have AU := zb M; have s := zb n; have AV := zb N; obtain ⟨z,_,_,_,_⟩ := m.kept h.gb; obtain ⟨_,_,_,_,_⟩ := n.kept h.gb; have a1 := zc z
 have a2 : us.length + 2 <= c := by simpa using K
 clear h ha hu hz fu M m fv N n K
 change Calls Tryz.prog 158 #[ptr wb,.string ⟨ahead.toArray⟩,.slice (some ⟨g,o,none⟩) (us.length + 1 + 1) c,.string ⟨behind.toArray⟩] w _
 simp only [la,lc,ln] at hlen
 go_enter Tryz.func158,Tryz.ntmps158
 go_wp2_with fail; go_at_call 82; refine (zQ w0 wb _ _ L ahead _ _ (by simp) (J.out.grown grn)).mono ?_; rintro e w1 ⟨rfl,O,Q⟩; have t := zb O; have K1 := zb ((WK.grown J.out grn).trans Q); obtain ⟨a,_,_,_,_⟩ := r.out.kept t.out.gb; have A := zc a; obtain ⟨b,_,_,_,_⟩ := s.out.kept t.out.gb; have B := zc b; clear O Q; go_wp2_with fail; go_at_call 83; refine (HU.out _ _ L _ (t.out.grown grn) AU.out (by first | omega | (simp only [List.length_append]; omega))).mono ?_; rintro e w2 ⟨rfl,R,V⟩; have x := zb R; have K2 := km K1 t V; obtain ⟨d,_,_,_,_⟩ := r.out.kept x.out.gb; have C := zc d; obtain ⟨f,_,_,_,_⟩ := s.out.kept x.out.gb; have D := zc f; clear R V; go_wp2_with fail; go_at_call 82; refine (ko w0 wb _ _ L behind [10] _ _ (by simp) (x.out.grown grn) (by first | omega | (simp only [la,lc,ln]; omega))).mono ?_; rintro e w3 ⟨rfl,X,Y⟩; have y := zb X; have K3 := km K2 x Y; obtain ⟨i,_,_,_,_⟩ := r.out.kept y.out.gb; have E := zc i; obtain ⟨j,_,_,_,_⟩ := s.out.kept y.out.gb; have F := zc j; clear X Y; go_wp2_with fail; go_at_call 88; refine (HZ.out _ _ _ (y.out.grown grn) AV.out (by first | omega | (simp only [la,lc,ln]; omega))).mono ?_; rintro e w4 ⟨rfl,j4,k4⟩; have G := zb j4; have K4 := km K3 y k4; obtain ⟨k,_,_,_,_⟩ := r.out.kept G.out.gb; have H := zc k; obtain ⟨l,_,_,_,_⟩ := s.out.kept G.out.gb; have I := zc l; clear j4 k4; go_wp2_with fail
 go_end0
 refine ⟨rfl,?_,K4.out⟩; have J9 := G.out
 try simp only [List.append_assoc] at J9 ⊢
 exact J9
theorem aD (w0 : World) (wb : Nat) (w : World) (S : Bs) (L : Nat) (x : Bs) (m : Int) (p : Int) (u : T) (v : T) (sv : Value) (h : Wr w0 wb w S L) (ha : AT w0 (T.mk 14 x m p [u,v]).subs sv) (U V : Bs) (he : EXW w0 wb u U) (hf : EXW w0 wb v V) (hlen : S.length + (U ++ ([32,58,61,32] ++ V)).length <= 1000000000) :
  Calls Tryz.prog 129 #[ptr wb,.agg #[.int .i64 14,.string ⟨List.toArray x⟩,.int .i64 m,.int .i64 p,sv]] w (WP w0 wb w S L (U ++ ([32,58,61,32] ++ V))) := by
 have n := zb h; have a2 := h.lt; have HL := zb hlen; have HA := zb ha; obtain ⟨g,o,c,u',su,v',sw,rfl,hn,hc,O,r,fu,Q,s,fv,R⟩ := ha.two rfl
 have t : u = u' /\ v = v' := by simpa [T.subs] using O
 obtain ⟨rfl,rfl⟩ := t; have y := zb r; have AU := zb Q; have z := zb s; have AV := zb R; obtain ⟨A,_,_,_,_⟩ := r.kept h.gb; obtain ⟨_,_,_,_,_⟩ := s.kept h.gb; have a3 := zc A; clear h ha O fu Q r fv R s
 try simp only [la,lc,ln] at hlen
 have HE := zb he; clear he; have HF := zb hf; clear hf
 go_enter Tryz.func129,Tryz.ntmps129
 go_wp2_with fail; go_at_call 83; refine (HE.out _ _ L _ (n.out.grown gan) AU.out (by first | omega | (simp only [la,lc,ln,zr]; omega))).mono ?_; rintro e w1 ⟨rfl,X,B⟩; have k := zb X; have K1 := zb ((WK.grown n.out gan).trans B); have C := zb ((FB.newX n.out 14 x m p [u,v] (.slice (some ⟨g,o,none⟩) 2 c) 24 grn).step ((WK.grown (n.out.grown gan) grn).trans B)); cases C.out.box.q; have Y := C.out.fr.lt
 obtain ⟨a,_,_,_,_⟩ := y.out.kept k.out.gb; have D := zc a; obtain ⟨b,_,_,_,_⟩ := z.out.kept k.out.gb; have E := zc b; clear X B; go_wp2_with fail; go_at_call 82; refine (zQ w0 wb _ _ L [32,58,61,32] _ _ (by simp) (k.out.grown grn)).mono ?_; rintro e w2 ⟨rfl,Z,F⟩; have l := zb Z; have K2 := km K1 k F; have G := bm C k F; cases G.out.box.q; have a0 := G.out.fr.lt
 obtain ⟨d,_,_,_,_⟩ := y.out.kept l.out.gb; have H := zc d; obtain ⟨f,_,_,_,_⟩ := z.out.kept l.out.gb; have I := zc f; clear Z F; go_wp2_with fail; go_at_call 83; refine (HF.out _ _ L _ (l.out.grown grn) AV.out (by first | omega | (simp only [la,lc,ln]; omega))).mono ?_; rintro e w3 ⟨rfl,j3,J⟩; have K := zb j3; have K3 := km K2 l J; have B3 := bm G l J; cases B3.out.box.q; have a1 := B3.out.fr.lt
 obtain ⟨i,_,_,_,_⟩ := y.out.kept K.out.gb; have M := zc i; obtain ⟨j,_,_,_,_⟩ := z.out.kept K.out.gb; have N := zc j; clear j3 J; go_wp2_with fail
 go_end0
 refine ⟨rfl,?_,K3.out⟩; have J9 := K.out
 try simp only [List.append_assoc] at J9 ⊢
 exact J9
theorem bE (w0 : World) (wb : Nat) (w : World) (S : Bs) (L : Nat) (x : Bs) (m p : Int) (u : T) (us : List T) (sv : Value) (h : Wr w0 wb w S L) (ha : AT w0 (T.mk 15 x m p (u :: us)).subs sv) (U : Bs) (tx : T -> Bs) (hu : EXW w0 wb u U) (he : ∀ v ∈ us,EXW w0 wb v (tx v)) (hus : 0 < us.length) (hlen : S.length + (U ++ ([40] ++ (zE [44,32] (us.map tx) ++ [41]))).length <= 1000000000) :
  Calls Tryz.prog 129 #[ptr wb,.agg #[.int .i64 15,.string ⟨List.toArray x⟩,.int .i64 m,.int .i64 p,sv]] w (WP w0 wb w S L (U ++ ([40] ++ (zE [44,32] (us.map tx) ++ [41])))) := by
 have f := zb h; have K := h.lt; have M := zb hu; have N := zb he; obtain ⟨g,o,c,_,rfl,_,_,j,O,z,A⟩ := AT.cons ha; have B := zb j; have Q := zb z; obtain ⟨k,_,_,_,_⟩ := j.kept h.gb; have R := zc k; have V := zb A; clear h ha hu he O z j A
 try simp only [la,lc,ln] at hlen
 rcases Nat.lt_or_ge 1 c with l | l
 ·have d := zb V.out
  have C : (1 : Int) < (us.length : Int) + 1 := by omega
  go_enter Tryz.func129,Tryz.ntmps129
  go_wp2_with fail; go_at_call 83; refine (M.out _ _ L _ (f.out.grown gan) Q.out (by first | omega | (simp only [la,lc,ln,zr]; omega))).mono ?_; rintro e Z ⟨rfl,D,n⟩; have i := zb D; have X := zb ((WK.grown f.out gan).trans n); have r := zb ((FB.newX f.out 15 x m p (u :: us) (.slice (some ⟨g,o,none⟩) (us.length + 1) c) 24 grn).step ((WK.grown (f.out.grown gan) grn).trans n)); cases r.out.box.q; have E := r.out.fr.lt
  obtain ⟨a,_,_,_,_⟩ := B.out.kept i.out.gb; have s := zc a; clear D n; go_wp2_with fail; go_at_call 122; refine (vB w0 wb _ _ L us _ tx (i.out.grown grn) d.out N.out (by first | omega | (simp only [la,lc,ln]; omega))).mono ?_; rintro e w2 ⟨rfl,F,t⟩; have G := zb F; have Y := km X i t; have H := bm r i t; cases H.out.box.q; have I := H.out.fr.lt
  obtain ⟨b,_,_,_,_⟩ := B.out.kept G.out.gb; have y := zc b; clear F t; go_wp2_with fail
  go_end0
  refine ⟨rfl,?_,Y.out⟩; have J := G.out
  try simp only [List.append_assoc] at J ⊢
  exact J
 ·obtain rfl : c = 1 := by omega
  obtain rfl : us = [] := List.eq_nil_of_length_eq_zero (by omega); have d : Hid (AT w0 [] (.slice (some ⟨g,o,none⟩) 0 0)) := AT.nil _ _ (Nat.zero_le _)
  exact absurd hus (by simp)
theorem ai (w0 : World) (wb : Nat) (w : World) (S : Bs) (L : Nat) (x : Bs) (m : Int) (p : Int) (u : T) (sv : Value) (h : Wr w0 wb w S L) (ha : AT w0 (T.mk 15 x m p [u]).subs sv) (U : Bs) (he : EXW w0 wb u U) (hlen : S.length + (U).length <= 1000000000) :
  Calls Tryz.prog 129 #[ptr wb,.agg #[.int .i64 15,.string ⟨List.toArray x⟩,.int .i64 m,.int .i64 p,sv]] w (WP w0 wb w S L U) := by
 have b := zb h; have y := h.lt; have G := zb hlen; have H := zb ha; obtain ⟨g,o,c,z,I,rfl,J,K,k,d,A,l⟩ := ha.one rfl
 obtain rfl : u = z := by simpa [T.subs] using k
 have B := zb d; have C := zb l; obtain ⟨f,_,_,_,_⟩ := d.kept h.gb; have D := zc f; clear h ha k A l d
 try simp only [la,lc,ln,zr] at hlen
 have E := zb he; clear he
 go_enter Tryz.func129,Tryz.ntmps129
 go_wp2_with fail; go_at_call 83; refine (E.out _ _ L _ (b.out.grown gan) C.out (by first | omega | (simp only [la,lc,ln,zr]; omega))).mono ?_; rintro e M ⟨rfl,n,i⟩; have r := zb n; have F := zb ((WK.grown b.out gan).trans i); have s := zb ((FB.newX b.out 15 x m p [u] (.slice (some ⟨g,o,none⟩) 1 c) 24 grn).step ((WK.grown (b.out.grown gan) grn).trans i)); cases s.out.box.q; have t := s.out.fr.lt
 obtain ⟨a,_,_,_,_⟩ := B.out.kept r.out.gb; have j := zc a; clear n i; go_wp2_with fail
 go_end0
 refine ⟨rfl,?_,F.out⟩; have v := r.out
 try simp only [List.append_assoc,List.nil_append,List.append_nil] at v ⊢
 exact v
theorem aO (w0 : World) (wb : Nat) (w : World) (S : Bs) (L : Nat) (x : Bs) (m : Int) (p : Int) (u : T) (v : T) (sv : Value) (h : Wr w0 wb w S L) (ha : AT w0 (T.mk 17 x m p [u,v]).subs sv) (U Z : Bs) (he : EXW w0 wb u U) (hz : LW w0 wb L v.subs Z) (hlen : S.length + ([87,72,73,76,69,32] ++ (U ++ ([32,68,79] ++ ([10] ++ (Z ++ (zD L ++ [69,78,68])))))).length <= 1000000000) :
  Calls Tryz.prog 129 #[ptr wb,.agg #[.int .i64 17,.string ⟨List.toArray x⟩,.int .i64 m,.int .i64 p,sv]] w (WP w0 wb w S L ([87,72,73,76,69,32] ++ (U ++ ([32,68,79] ++ ([10] ++ (Z ++ (zD L ++ [69,78,68]))))))) := by
 have j := zb h; have R := h.lt; have HL := zb hlen; have V := zb ha; obtain ⟨g,o,c,X,su,Y,sw,rfl,hn,hc,E,k,fu,F,l,fv,G⟩ := ha.two rfl
 have n : u = X /\ v = Y := by simpa [T.subs] using E
 obtain ⟨rfl,rfl⟩ := n; have H := zb k; have AU := zb F; have I := zb l; have AV := zb G; obtain ⟨r,_,_,_,_⟩ := k.kept h.gb; obtain ⟨_,_,_,_,_⟩ := l.kept h.gb; have a0 := zc r; clear h ha E fu F k fv G l
 try simp only [la,lc,ln,zr] at hlen
 have HE := zb he; clear he; have HZ := zb hz; clear hz
 go_enter Tryz.func129,Tryz.ntmps129
 go_wp2_with fail; go_at_call 158; refine (vo w0 wb _ _ L [87,72,73,76,69,32] [32,68,79] u v [] _ (j.out.grown gan) V.out U Z HE.out HZ.out (by first | omega | (simp only [la,lc,ln]; omega))).mono ?_; rintro e w1 ⟨rfl,J,s⟩; have i := zb J; have K1 := zb ((WK.grown j.out gan).trans s); have t := zb ((FB.newX j.out 17 x m p [u,v] (.slice (some ⟨g,o,none⟩) 2 c) 24 grn).step ((WK.grown (j.out.grown gan) grn).trans s)); cases t.out.box.q; have K := t.out.fr.lt
 obtain ⟨a,_,_,_,_⟩ := H.out.kept i.out.gb; have y := zc a; obtain ⟨b,_,_,_,_⟩ := I.out.kept i.out.gb; have z := zc b; clear J s; go_wp2_with fail; go_at_call 159; refine (fw w0 wb _ _ L (i.out.grown grn) (by first | omega | (simp only [la,lc,ln]; omega))).mono ?_; rintro e w2 ⟨rfl,M,A⟩; have B := zb M; have K2 := km K1 i A; have N := bm t i A; cases N.out.box.q; have O := N.out.fr.lt
 obtain ⟨d,_,_,_,_⟩ := H.out.kept B.out.gb; have C := zc d; obtain ⟨f,_,_,_,_⟩ := I.out.kept B.out.gb; have D := zc f; clear M A; go_wp2_with fail
 go_end0
 refine ⟨rfl,?_,K2.out⟩; have Q := B.out
 try simp only [List.append_assoc] at Q ⊢
 exact Q
theorem za1 (w0 : World) (wb : Nat) (w : World) (S : Bs) (L : Nat) (x : Bs) (m : Int) (p : Int) (u : T) (v : T) (sv : Value) (h : Wr w0 wb w S L) (ha : AT w0 (T.mk 18 x m p [u,v]).subs sv) (Z V : Bs) (hz : LW w0 wb L u.subs Z) (he : EXW w0 wb v V) (hlen : S.length + ([82,69,80,69,65,84,10] ++ (Z ++ (zD L ++ ([85,78,84,73,76,32] ++ V)))).length <= 1000000000) :
  Calls Tryz.prog 129 #[ptr wb,.agg #[.int .i64 18,.string ⟨List.toArray x⟩,.int .i64 m,.int .i64 p,sv]] w (WP w0 wb w S L ([82,69,80,69,65,84,10] ++ (Z ++ (zD L ++ ([85,78,84,73,76,32] ++ V))))) := by
 have C := zb h; have a9 := h.lt; have HL := zb hlen; have HA := zb ha; obtain ⟨g,o,c,u',su,v',sw,rfl,hn,hc,hl,D,fu,au,E,fv,av⟩ := ha.two rfl
 have F : u = u' /\ v = v' := by simpa [T.subs] using hl
 obtain ⟨rfl,rfl⟩ := F; have s := zb D; have AU := zb au; have t := zb E; have AV := zb av; obtain ⟨G,_,_,_,_⟩ := D.kept h.gb; obtain ⟨_,_,_,_,_⟩ := E.kept h.gb; have b0 := zc G; clear h ha hl fu au D fv av E
 try simp only [la,lc,ln,zr] at hlen
 have HZ := zb hz; clear hz; have HE := zb he; clear he
 go_enter Tryz.func129,Tryz.ntmps129
 go_wp2_with fail; go_at_call 82; refine (zQ w0 wb _ _ L [82,69,80,69,65,84,10] _ _ (by simp) (C.out.grown gan)).mono ?_; rintro e w1 ⟨rfl,j1,H⟩; have y := zb j1; have K1 := zb ((WK.grown C.out gan).trans H); have I := zb ((FB.newX C.out 18 x m p [u,v] (.slice (some ⟨g,o,none⟩) 2 c) 24 grn).step ((WK.grown (C.out.grown gan) grn).trans H)); cases I.out.box.q; have a4 := I.out.fr.lt
 obtain ⟨a,_,_,_,_⟩ := s.out.kept y.out.gb; have J := zc a; obtain ⟨b,_,_,_,_⟩ := t.out.kept y.out.gb; have K := zc b; clear j1 H; go_wp2_with fail; go_at_call 88; refine (HZ.out _ _ _ (y.out.grown grn) AU.out (by first | omega | (simp only [la,lc,ln]; omega))).mono ?_; rintro e w2 ⟨rfl,j2,M⟩; have z := zb j2; have K2 := km K1 y M; have N := bm I y M; cases N.out.box.q; have a5 := N.out.fr.lt
 obtain ⟨d,_,_,_,_⟩ := s.out.kept z.out.gb; have O := zc d; obtain ⟨f,_,_,_,_⟩ := t.out.kept z.out.gb; have Q := zc f; clear j2 M; go_wp2_with fail; go_at_call 115; refine (x8 w0 wb _ _ L (z.out.grown grn)).mono ?_; rintro e w3 ⟨rfl,j3,R⟩; have A := zb j3; have K3 := km K2 z R; have U := bm N z R; cases U.out.box.q; have a6 := U.out.fr.lt
 obtain ⟨i,_,_,_,_⟩ := s.out.kept A.out.gb; have X := zc i; obtain ⟨j,_,_,_,_⟩ := t.out.kept A.out.gb; have Y := zc j; clear j3 R; go_wp2_with fail; go_at_call 82; refine (zQ w0 wb _ _ L [85,78,84,73,76,32] _ _ (by simp) (A.out.grown grn)).mono ?_; rintro e w4 ⟨rfl,j4,k4⟩; have B := zb j4; have K4 := km K3 A k4; have B4 := bm U A k4; cases B4.out.box.q; have a7 := B4.out.fr.lt
 obtain ⟨k,_,_,_,_⟩ := s.out.kept B.out.gb; have a0 := zc k; obtain ⟨l,_,_,_,_⟩ := t.out.kept B.out.gb; have a1 := zc l; clear j4 k4; go_wp2_with fail; go_at_call 83; refine (HE.out _ _ L _ (B.out.grown grn) AV.out (by first | omega | (simp only [la,lc,ln,zr]; omega))).mono ?_; rintro e w5 ⟨rfl,j5,k5⟩; have W5 := zb j5; have K5 := km K4 B k5; have B5 := bm B4 B k5; cases B5.out.box.q; have a8 := B5.out.fr.lt
 obtain ⟨n,_,_,_,_⟩ := s.out.kept W5.out.gb; have a2 := zc n; obtain ⟨r,_,_,_,_⟩ := t.out.kept W5.out.gb; have a3 := zc r; clear j5 k5; go_wp2_with fail
 go_end0
 refine ⟨rfl,?_,K5.out⟩; have J9 := W5.out
 try simp only [List.append_assoc] at J9 ⊢
 exact J9
theorem aA (w0 : World) (wb : Nat) (w : World) (S : Bs) (L : Nat) (k : Int) (x : Bs) (m p : Int) (u : T) (sv : Value) (h : Wr w0 wb w S L) (ha : AT w0 (T.mk k x m p [u]).subs sv) (U : Bs) (hu : EXW w0 wb u U) (hk : k = 20 \/ k = 21 \/ k = 22 \/ k = 23) (hlen : S.length + (kS k ++ ([40] ++ (zE [44,32] ([u].map fun _ => U) ++ [41]))).length <= 1000000000) :
    Calls Tryz.prog 129 #[ptr wb,.agg #[.int .i64 k,.string ⟨List.toArray x⟩,.int .i64 m,.int .i64 p,sv]] w (WP w0 wb w S L (kS k ++ ([40] ++ (zE [44,32] ([u].map fun _ => U) ++ [41])))) := by
  have b := zb h; have z := h.lt; have A := zb ha; have B := zb hu; obtain ⟨a,n,c,rfl,_,_,g⟩ := ha.any
  change 1 = n at g
  subst g; obtain ⟨I,C,-,J,-,d⟩ := h.maps; have D := tn ((w.alloc (.cells #[.int .i64 k,.string ⟨x.toArray⟩,.int .i64 m,.int .i64 p,.slice a 1 c] 24)).drew) C k (yc d ((ze gan).block _ (World.ownsMap.lt d) (by simp))) (by rcases hk with e | e | e | e <;> simp [e]); clear h d ha hu
  rcases hk with rfl | rfl | rfl | rfl
  all_goals
    generalize kS _ = X at *
    have E := qV X; simp only [la,lc,ln] at hlen
    go_enter Tryz.func129,Tryz.ntmps129
    go_wp2_with fail
    go_region_with
      (go_at_call 82
       refine (uO w0 wb _ _ L X _ _ (by simp) (b.out.grown gan)).mono ?_; rintro e K ⟨rfl,i,f⟩; have j := zb i; have F := zb ((WK.grown b.out gan).trans f); have l := zb ((FB.newX b.out _ x m p [u] (.slice a 1 c) 24 grn).step f); obtain ⟨_,_,_,_,_⟩ := l.out.box; have r := l.out.fr.lt
       clear i f)
    all_goals
      go_wp2_with fail; go_at_call 122; refine (vB w0 wb _ _ L [u] _ (fun _ => U) (j.out.grown grn) A.out (fun v hv => (List.mem_singleton.1 hv).symm ▸ B.out) (by first | omega | (simp only [la,lc,ln]; omega))).mono ?_; rintro e M ⟨rfl,s,t⟩; have G := zb s; have H := km F j t; clear s t; go_wp2_with fail
      go_end0
      refine ⟨rfl,?_,H.out⟩; have y := G.out; simp only [List.append_assoc] at y ⊢
      exact y
def vk (tx : T -> Bs) (ts : List T) : Bs := zu (fun v => [32] ++ tx v) ts
theorem me {tx : T -> Bs} {ts : List T} {i : Nat} {u : T} (h : ts[i]? = some u) : vk tx (ts.take (i + 1)) = vk tx (ts.take i) ++ ([32] ++ tx u) := by
 unfold vk
 rw [List.take_add_one,h,yf]
 simp [zu]
theorem iY (tx : T -> Bs) (ts : List T) (i : Nat) : (vk tx (ts.take i)).length <= (vk tx ts).length := by
 have h : vk tx (ts.take i ++ ts.drop i) = vk tx (ts.take i) ++ vk tx (ts.drop i) := yf _ _ _; rw [List.take_append_drop] at h; rw [h,List.length_append]
 omega
theorem bH (w0 : World) (wb : Nat) (w : World) (S : Bs) (L : Nat) (x : Bs) (m p : Int) (ts : List T) (sv : Value) (h : Wr w0 wb w S L) (ha : AT w0 (T.mk 19 x m p ts).subs sv) (tx : T -> Bs) (he : ∀ v ∈ ts,EXW w0 wb v (tx v)) (hlen : S.length + ([82,69,84,85,82,78] ++ vk tx ts).length <= 1000000000) :
  Calls Tryz.prog 129 #[ptr wb,.agg #[.int .i64 19,.string ⟨List.toArray x⟩,.int .i64 m,.int .i64 p,sv]] w (WP w0 wb w S L ([82,69,84,85,82,78] ++ vk tx ts)) := by
 have K := zb ha; have f := zb h; have M := h.lt; have N := zb he; obtain ⟨a,n,c,rfl,_,_,z⟩ := ha.any
 change ts.length = n at z
 subst z; clear h ha he; simp only [la,lc,ln] at hlen
 go_enter Tryz.func129,Tryz.ntmps129
 go_wp2_with fail; go_at_call 82; refine (zQ w0 wb _ _ L [82,69,84,85,82,78] _ _ (by simp) (f.out.grown gan)).mono ?_; rintro e w1 ⟨rfl,A,l⟩; have O := zb A; have g := zb ((WK.grown f.out gan).trans l); have B := zb ((FB.newX f.out 19 x m p ts (.slice a ts.length c) 24 grn).step ((WK.grown (f.out.grown gan) grn).trans l)); cases B.out.box.q; have C := B.out.fr.lt
 clear A l; go_wp2_with fail
 go_loopw [101] (fun iv wr => ∃ i : Nat,i <= ts.length /\ iv = .int .i64 ↑i /\ Hid (Wr w0 wb wr (S ++ ([82,69,84,85,82,78] ++ vk tx (ts.take i))) L) /\ Hid (WK wb w wr)) (fun iv _ => ts.length - (intOf iv).toNat)
 case atStart => exact ⟨0,Nat.zero_le _,rfl,by show Wr _ _ _ _ _; simpa [vk,zu] using O.out,g.out⟩
 case round =>
  obtain ⟨i,_,rfl,b,g⟩ := hrel
  by_cases r : i < ts.length
  ·obtain ⟨u,j⟩ : ∃ u,ts[i]? = some u := ⟨_,List.getElem?_eq_getElem r⟩
   obtain ⟨_,_,_,D,E,Q,s⟩ := K.out.node i u j; cases D; obtain ⟨R,U,rfl,_,_⟩ := s.form; obtain ⟨_,_,_,_,_⟩ := E.kept b.out.gb; have F := zb (me (tx := tx) j); have d := iY tx ts (i + 1); have V := zb s; have t := zb (N.out u (List.mem_of_getElem? j)); rw [F.out] at d; simp only [la,lc,ln] at d; clear j Q s E; have G := FB.new b.out u (.slice R u.subs.length U) 24 grn; have X := zb G; clear G; go_wp2_with fail; go_at_call 82; refine (zQ w0 wb _ _ L [32] _ _ (by simp) (b.out.grown gan)).mono ?_; rintro e x2 ⟨rfl,H,y⟩; have k := zb H; have Y := zb (g.out.trans ((WK.grown b.out gan).trans y)); obtain ⟨_,D,_,_,_⟩ := (X.out.step ((WK.grown (b.out.grown gan) grn).trans y)).box; clear H y; go_wp2_with fail; go_at_call 83; refine (t.out _ _ L _ (k.out.grown grn) V.out (by first | omega | (simp only [la,lc,ln]; omega))).mono ?_; rintro e Z ⟨rfl,I,J⟩
   have J3 : Hid (Wr w0 wb Z (S ++ ([82,69,84,85,82,78] ++ vk tx (ts.take (i + 1)))) L) := by show Wr _ _ _ _ _; rw [F.out]; simpa only [List.append_assoc] using I
   have K3 := zb (Y.out.trans ((WK.grown k.out grn).trans J)); clear I J; go_wp2_with fail
   exact ⟨⟨i + 1,by omega,by go_num,J3,K3⟩,by simp [intOf]; omega⟩
  ·have k : Hid (Wr w0 wb wr (S ++ ([82,69,84,85,82,78] ++ vk tx ts)) L) := by
    have := b.out; rw [List.take_of_length_le (by omega)] at this
    exact this
   go_wp2_with fail
   go_end0
   exact ⟨rfl,k.out,g.out⟩
theorem jB {ex ac : T -> Bs} {L : Nat} {l : List T} (h : l.length <= 1) : yn ex ac L l = zu (fun x => zD L ++ ([69,76,83,69] ++ ([10] ++ ac x))) l := by
 match l,h with
 | [],_ => rfl
 | [x],_ => simp [yn,zu]
def xE (ac : T -> Bs) (L : Nat) (l : List T) : Bs := zu (fun x => zD L ++ ([69,76,83,69] ++ ([10] ++ ac x))) l
theorem gC {ac : T -> Bs} {L : Nat} {ts : List T} {i : Nat} {u : T} (h : ts[i]? = some u) : xE ac L (ts.take (i + 1)) = xE ac L (ts.take i) ++ (zD L ++ ([69,76,83,69] ++ ([10] ++ ac u))) := by
 unfold xE
 rw [List.take_add_one,h,yf]
 simp [zu]
theorem rx (ac : T -> Bs) (L : Nat) (ts : List T) (i : Nat) : (xE ac L (ts.take i)).length <= (xE ac L ts).length := by
 have h : xE ac L (ts.take i ++ ts.drop i) = xE ac L (ts.take i) ++ xE ac L (ts.drop i) := yf _ _ _; rw [List.take_append_drop] at h; rw [h,List.length_append]
 omega
def go : Value -> Nat
 | .slice _ n _ => n
 | _ => 0
inductive Rest (w0 : World) (wb L : Nat) (ex ac : T -> Bs) : List T -> Prop
 | nil : Rest w0 wb L ex ac []
 | one (x : T) (h : LW w0 wb L x.subs (ac x)) : Rest w0 wb L ex ac [x]
 | more (x y : T) (l : List T) (hx : EXW w0 wb x (ex x)) (hy : LW w0 wb L y.subs (ac y)) (h : Rest w0 wb L ex ac l) : Rest w0 wb L ex ac (x :: y :: l)
theorem AT.rest2 {w : World} {x y : T} {l : List T} {a : Option Addr} {n c : Nat} (h : AT w (x :: y :: l) (.slice a n c)) : ∃ g o,a = some ⟨g,o,none⟩ /\ n = l.length + 2 /\ l.length + 2 <= c /\ c <= 9223372036854775807 /\ AT w l (.slice (some ⟨g,o + 10,none⟩) l.length (c - 2)) := by
 obtain ⟨i,j,e,b,d⟩ := h.form; cases e
 unfold maxLen at d
 obtain ⟨g,o,k,rfl,-,-,-⟩ := h.node 0 x rfl; have := h.drop 2 (by simp)
 exact ⟨g,o,rfl,by simp,by simpa using b,by omega,by simpa using this⟩
theorem AT.slice {w : World} {l : List T} {v : Value} (h : AT w l v) : ∃ a c,v = .slice a l.length c /\ l.length <= c /\ c <= 9223372036854775807 := by
 obtain ⟨a,c,e,b,d⟩ := h.form
 unfold maxLen at d
 exact ⟨a,c,e,b,by omega⟩
theorem nm (w0 : World) (wb : Nat) (w : World) (S : Bs) (L : Nat) (x : Bs) (m p : Int) (u v : T) (us : List T) (sv : Value) (h : Wr w0 wb w S L) (ha : AT w0 (T.mk 16 x m p (u :: v :: us)).subs sv) (U Z : Bs) (ex ac : T -> Bs) (hu : EXW w0 wb u U) (hz : LW w0 wb L v.subs Z) (hr : Rest w0 wb L ex ac us) (hlen : S.length + ([73,70,32] ++ (U ++ ([32,84,72,69,78] ++ ([10] ++ (Z ++ (yn ex ac L us ++ (zD L ++ [69,78,68]))))))).length <= 1000000000) :
  Calls Tryz.prog 157 #[ptr wb,zq (.mk 16 x m p (u :: v :: us)) sv] w (WP w0 wb w S L ([73,70,32] ++ (U ++ ([32,84,72,69,78] ++ ([10] ++ (Z ++ (yn ex ac L us ++ (zD L ++ [69,78,68])))))))) := by
 have HW := zb h; have c9 := h.lt; have HU := zb hu; have HZ := zb hz; have HR := zb hr; have HA := zb ha; obtain ⟨a,c,rfl,hn,_⟩ := AT.slice ha; obtain ⟨g,o,rfl,b7,d0,-,ar⟩ := AT.rest2 (show AT w0 (u :: v :: us) _ from ha); have AR := zb ar
 have d1 : g < w.heap.size := by
  obtain ⟨g',o',su,e,n5,-,-⟩ := ha.node 0 u rfl; cases e
  exact zc (n5.kept h.gb).c0
 clear h ha hu hz hr ar hn b7
 change Calls Tryz.prog 157 #[ptr wb,.agg #[.int .i64 16,.string ⟨List.toArray x⟩,.int .i64 m,.int .i64 p,.slice (some ⟨g,o,none⟩) (us.length + 1 + 1) c]] w _
 simp only [la,lc,ln,zr] at hlen
 have a7 : ∃ B,Hid (AT w0 us B) /\ ((2 < c /\ B = .slice (some ⟨g,o + 10,none⟩) us.length (c - 2)) \/ (c = 2 /\ B = .slice (some ⟨g,o,none⟩) 0 0)) := by
  rcases Nat.lt_or_ge 2 c with h2 | h2
  ·exact ⟨_,AR,.inl ⟨h2,rfl⟩⟩
  ·obtain rfl : c = 2 := by omega
   obtain rfl : us = [] := List.eq_nil_of_length_eq_zero (by omega)
   exact ⟨_,AT.nil _ _ (Nat.zero_le _),.inr ⟨rfl,rfl⟩⟩
 obtain ⟨B,a7,b8⟩ := a7
 have b9 : ((us.length : Int) + 1 + 1 - 2).toNat = us.length := by omega
 rcases b8 with ⟨h2,rfl⟩ | ⟨rfl,rfl⟩
 ·go_enter Tryz.func157,Tryz.ntmps157
  go_wp2_with fail; go_at_call 158; refine (vo w0 wb _ _ L [73,70,32] [32,84,72,69,78] u v us _ (HW.out.grown gan) HA.out U Z HU.out HZ.out (by first | omega | (simp only [la,lc,ln]; omega))).mono ?_; rintro e w1 ⟨rfl,j1,k1⟩; have W1 := zb j1; have F := zb ((WK.grown HW.out gan).trans k1); have B1 := zb ((FB.newX HW.out 16 x m p (u :: v :: us) (.slice (some ⟨g,o,none⟩) (us.length + 1 + 1) c) 24 grn).step ((WK.grown (HW.out.grown gan) grn).trans k1)); obtain ⟨b1,b2,b3,b4,b5⟩ := B1.out.box.p; have b6 := B1.out.fr.lt
  clear j1 k1; clear HU HZ HA AR; go_wp2_with fail
  go_loopw [4] (fun B wr => ∃ (l : List T) (P : Bs),Hid (AT w0 l B) /\ Hid (Rest w0 wb L ex ac l) /\ Hid (P ++ yn ex ac L l = yn ex ac L us) /\ Hid (Wr w0 wb wr (S ++ (([73,70,32] ++ (U ++ ([32,84,72,69,78] ++ ([10] ++ Z)))) ++ P)) L) /\ Hid (WK wb w wr)) (fun B _ => go B)
  case atStart => exact ⟨us,[],a7,HR,by show _ = _; rfl,by show Wr _ _ _ _ _; simpa only [List.append_nil] using W1.out,F.out⟩
  case round =>
   obtain ⟨l,P,G,M,I,r,F⟩ := hrel; obtain ⟨a1,O,rfl,Q,c5⟩ := AT.slice G.out
   have n : P.length + (yn ex ac L l).length = (yn ex ac L us).length := by rw [<- List.length_append,I.out]
   rcases Nat.lt_or_ge 1 l.length with d | d
   ·match l,G,M,I,Q,d,n with
    | y :: z :: l,G,M,I,Q,d,n =>
     obtain ⟨hy,R,hl⟩ : EXW w0 wb y (ex y) /\ LW w0 wb L z.subs (ac z) /\ Rest w0 wb L ex ac l := by cases M.out with | more _ _ _ a b c => exact ⟨a,b,c⟩
     have HY := zb hy; have V := zb R; have X := zb hl; obtain ⟨gg,oo,rfl,-,c6,-,Y⟩ := AT.rest2 G.out
     have j : yn ex ac L (y :: z :: l) = zD L ++ ([69,76,83,73,70,32] ++ (ex y ++ ([32,84,72,69,78] ++ ([10] ++ (ac z ++ yn ex ac L l))))) := by simp [yn]
     have C : Hid ((P ++ (zD L ++ ([69,76,83,73,70,32] ++ (ex y ++ ([32,84,72,69,78] ++ ([10] ++ ac z)))))) ++ yn ex ac L l = yn ex ac L us) := by show _ = _; rw [<- I.out,j]; simp only [List.append_assoc]
     rw [j] at n; simp only [la,lc,ln,zr] at n
     have k : ∃ B,Hid (AT w0 l B) /\ ((2 < O /\ B = .slice (some ⟨gg,oo + 10,none⟩) l.length (O - 2)) \/ (O = 2 /\ B = .slice (some ⟨gg,oo,none⟩) 0 0)) := by
      rcases Nat.lt_or_ge 2 O with h2 | h2
      ·exact ⟨_,Y,.inl ⟨h2,rfl⟩⟩
      ·obtain rfl : O = 2 := by omega
       obtain rfl : l = [] := List.eq_nil_of_length_eq_zero (by omega)
       exact ⟨_,AT.nil _ _ (Nat.zero_le _),.inr ⟨rfl,rfl⟩⟩
     obtain ⟨c7,k,a2⟩ := k
     have a8 : (1 : Int) < (l.length : Int) + 1 + 1 := by omega
     have a3 : (y :: z :: l).length = l.length + 1 + 1 := rfl
     rw [a3] at G; clear hy R hl Y M I j a3 d; simp only [List.length_cons] at *
     rcases a2 with ⟨c8,rfl⟩ | ⟨rfl,rfl⟩
     ·go_wp2_with fail
      go_at_call 115; refine (x8 w0 wb _ _ L (r.out.grown grn)).mono ?_; rintro e x2 ⟨rfl,H,D⟩; have s := zb H; have K2 := zb (F.out.trans ((WK.grown r.out grn).trans D)); clear H D; go_wp2_with fail; go_at_call 158; refine (vo w0 wb _ _ L [69,76,83,73,70,32] [32,84,72,69,78] y z l _ (s.out.grown grn) G.out (ex y) (ac z) HY.out V.out (by first | omega | (simp only [la,lc,ln,zr]; omega))).mono ?_; rintro e N ⟨rfl,t,A⟩
      have J : Hid (Wr w0 wb N (S ++ (([73,70,32] ++ (U ++ ([32,84,72,69,78] ++ ([10] ++ Z)))) ++ (P ++ (zD L ++ ([69,76,83,73,70,32] ++ (ex y ++ ([32,84,72,69,78] ++ ([10] ++ ac z)))))))) L) := by show Wr _ _ _ _ _; simpa only [List.append_assoc] using t
      have K := zb (K2.out.trans ((WK.grown s.out grn).trans A)); clear t A; go_wp2_with fail
      exact ⟨⟨l,_,k,X,C,J,K⟩,by first | (simp [go]; omega) | simp [go]⟩
     ·go_wp2_with fail
      go_at_call 115; refine (x8 w0 wb _ _ L (r.out.grown grn)).mono ?_; rintro e x2 ⟨rfl,H,D⟩; have s := zb H; have K2 := zb (F.out.trans ((WK.grown r.out grn).trans D)); clear H D; go_wp2_with fail; go_at_call 158; refine (vo w0 wb _ _ L [69,76,83,73,70,32] [32,84,72,69,78] y z l _ (s.out.grown grn) G.out (ex y) (ac z) HY.out V.out (by first | omega | (simp only [la,lc,ln,zr]; omega))).mono ?_; rintro e N ⟨rfl,t,A⟩
      have J : Hid (Wr w0 wb N (S ++ (([73,70,32] ++ (U ++ ([32,84,72,69,78] ++ ([10] ++ Z)))) ++ (P ++ (zD L ++ ([69,76,83,73,70,32] ++ (ex y ++ ([32,84,72,69,78] ++ ([10] ++ ac z)))))))) L) := by show Wr _ _ _ _ _; simpa only [List.append_assoc] using t
      have K := zb (K2.out.trans ((WK.grown s.out grn).trans A)); clear t A; go_wp2_with fail
      exact ⟨⟨l,_,k,X,C,J,K⟩,by first | (simp [go]; omega) | simp [go]⟩
   ·have a9 : Hid (∀ z ∈ l,LW w0 wb L z.subs (ac z)) := by
     intro z a4; cases M.out with
     | nil => cases a4
     | one x hx => obtain rfl := List.mem_singleton.1 a4; exact hx
     | more _ _ _ _ _ _ => simp at d
    have C : Hid (P ++ xE ac L l = yn ex ac L us) := by show _ = _; rw [<- I.out,jB d]; rfl
    rw [jB d] at n
    change P.length + (xE ac L l).length = _ at n
    have a8 : ¬ (1 : Int) < (l.length : Int) := by omega
    clear M I; go_wp2_with fail
    go_loopw [26] (fun iv ws => ∃ i : Nat,i <= l.length /\ iv = .int .i64 ↑i /\ Hid (Wr w0 wb ws (S ++ (([73,70,32] ++ (U ++ ([32,84,72,69,78] ++ ([10] ++ Z)))) ++ (P ++ xE ac L (l.take i)))) L) /\ Hid (WK wb w ws)) (fun iv _ => l.length - (intOf iv).toNat)
    case atStart => exact ⟨0,Nat.zero_le _,rfl,by show Wr _ _ _ _ _; simpa [xE,zu] using r.out,F⟩
    case round =>
     obtain ⟨i,hi,rfl,r,F⟩ := hrel
     by_cases a5 : i < l.length
     ·obtain ⟨z,E⟩ : ∃ z,l[i]? = some z := ⟨_,List.getElem?_eq_getElem a5⟩
      obtain ⟨gg,oo,su,e1,n5,fu,au⟩ := G.out.node i z E; cases e1; obtain ⟨ua,uc,rfl,_,_⟩ := au.form; obtain ⟨c0,c1,c2,c3,c4⟩ := n5.kept r.out.gb; have HT := zb (gC (ac := ac) (L := L) E); have a6 := rx ac L l (i + 1); have AU := zb au; have b0 := zb (a9.out z (List.mem_of_getElem? E)); rw [HT.out] at a6; simp only [la,lc,ln,zr] at a6; clear E fu au n5; have hb := FB.new r.out z (.slice ua z.subs.length uc) 24 grn; have HB := zb hb; clear hb; go_wp2_with fail; go_at_call 77; refine (kL w0 wb _ _ L [69,76,83,69] _ _ (by simp) (r.out.grown gan)).mono ?_; rintro e x2 ⟨rfl,H,D⟩; have s := zb H; have K2 := zb (F.out.trans ((WK.grown r.out gan).trans D)); obtain ⟨e0,e1,e2,e3,e4⟩ := (HB.out.step ((WK.grown (r.out.grown gan) grn).trans D)).box; clear H D; go_wp2_with fail; go_at_call 88; refine (b0.out _ _ _ (s.out.grown grn) AU.out (by first | omega | (simp only [la,lc,ln,zr]; omega))).mono ?_; rintro e N ⟨rfl,t,A⟩
      have J : Hid (Wr w0 wb N (S ++ (([73,70,32] ++ (U ++ ([32,84,72,69,78] ++ ([10] ++ Z)))) ++ (P ++ xE ac L (l.take (i + 1))))) L) := by show Wr _ _ _ _ _; rw [HT.out]; simpa only [List.append_assoc] using t
      have K := zb (K2.out.trans ((WK.grown s.out grn).trans A)); clear t A; go_wp2_with fail
      exact ⟨⟨i + 1,by omega,by go_num,J,K⟩,by simp [intOf]; omega⟩
     ·have s : Hid (Wr w0 wb wr (S ++ (([73,70,32] ++ (U ++ ([32,84,72,69,78] ++ ([10] ++ Z)))) ++ yn ex ac L us)) L) := by
       have := r.out; rw [List.take_of_length_le (by omega),C.out] at this
       exact this
      go_wp2_with fail; go_at_call 159; refine (fw w0 wb _ _ L (s.out.grown grn) (by first | omega | (simp only [la,lc,ln]; omega))).mono ?_; rintro e N ⟨rfl,t,A⟩; have J := zb t; have K := zb (F.out.trans ((WK.grown s.out grn).trans A)); clear t A; go_wp2_with fail
      go_end0
      refine ⟨rfl,?_,K.out⟩; have J9 := J.out; simp only [List.append_assoc] at J9 ⊢
      exact J9
 ·go_enter Tryz.func157,Tryz.ntmps157
  go_wp2_with fail; go_at_call 158; refine (vo w0 wb _ _ L [73,70,32] [32,84,72,69,78] u v us _ (HW.out.grown gan) HA.out U Z HU.out HZ.out (by first | omega | (simp only [la,lc,ln]; omega))).mono ?_; rintro e w1 ⟨rfl,j1,k1⟩; have W1 := zb j1; have F := zb ((WK.grown HW.out gan).trans k1); have B1 := zb ((FB.newX HW.out 16 x m p (u :: v :: us) (.slice (some ⟨g,o,none⟩) (us.length + 1 + 1) 2) 24 grn).step ((WK.grown (HW.out.grown gan) grn).trans k1)); obtain ⟨b1,b2,b3,b4,b5⟩ := B1.out.box.p; have b6 := B1.out.fr.lt
  clear j1 k1; clear HU HZ HA AR; go_wp2_with fail
  go_loopw [4] (fun B wr => ∃ (l : List T) (P : Bs),Hid (AT w0 l B) /\ Hid (Rest w0 wb L ex ac l) /\ Hid (P ++ yn ex ac L l = yn ex ac L us) /\ Hid (Wr w0 wb wr (S ++ (([73,70,32] ++ (U ++ ([32,84,72,69,78] ++ ([10] ++ Z)))) ++ P)) L) /\ Hid (WK wb w wr)) (fun B _ => go B)
  case atStart => exact ⟨us,[],a7,HR,by show _ = _; rfl,by show Wr _ _ _ _ _; simpa only [List.append_nil] using W1.out,F.out⟩
  case round =>
   obtain ⟨l,P,G,M,I,r,F⟩ := hrel; obtain ⟨a1,O,rfl,Q,c5⟩ := AT.slice G.out
   have n : P.length + (yn ex ac L l).length = (yn ex ac L us).length := by rw [<- List.length_append,I.out]
   rcases Nat.lt_or_ge 1 l.length with d | d
   ·match l,G,M,I,Q,d,n with
    | y :: z :: l,G,M,I,Q,d,n =>
     obtain ⟨hy,R,hl⟩ : EXW w0 wb y (ex y) /\ LW w0 wb L z.subs (ac z) /\ Rest w0 wb L ex ac l := by cases M.out with | more _ _ _ a b c => exact ⟨a,b,c⟩
     have HY := zb hy; have V := zb R; have X := zb hl; obtain ⟨gg,oo,rfl,-,c6,-,Y⟩ := AT.rest2 G.out
     have j : yn ex ac L (y :: z :: l) = zD L ++ ([69,76,83,73,70,32] ++ (ex y ++ ([32,84,72,69,78] ++ ([10] ++ (ac z ++ yn ex ac L l))))) := by simp [yn]
     have C : Hid ((P ++ (zD L ++ ([69,76,83,73,70,32] ++ (ex y ++ ([32,84,72,69,78] ++ ([10] ++ ac z)))))) ++ yn ex ac L l = yn ex ac L us) := by show _ = _; rw [<- I.out,j]; simp only [List.append_assoc]
     rw [j] at n; simp only [la,lc,ln,zr] at n
     have k : ∃ B,Hid (AT w0 l B) /\ ((2 < O /\ B = .slice (some ⟨gg,oo + 10,none⟩) l.length (O - 2)) \/ (O = 2 /\ B = .slice (some ⟨gg,oo,none⟩) 0 0)) := by
      rcases Nat.lt_or_ge 2 O with h2 | h2
      ·exact ⟨_,Y,.inl ⟨h2,rfl⟩⟩
      ·obtain rfl : O = 2 := by omega
       obtain rfl : l = [] := List.eq_nil_of_length_eq_zero (by omega)
       exact ⟨_,AT.nil _ _ (Nat.zero_le _),.inr ⟨rfl,rfl⟩⟩
     obtain ⟨c7,k,a2⟩ := k
     have a8 : (1 : Int) < (l.length : Int) + 1 + 1 := by omega
     have a3 : (y :: z :: l).length = l.length + 1 + 1 := rfl
     rw [a3] at G; clear hy R hl Y M I j a3 d; simp only [List.length_cons] at *
     rcases a2 with ⟨c8,rfl⟩ | ⟨rfl,rfl⟩
     ·go_wp2_with fail
      go_at_call 115; refine (x8 w0 wb _ _ L (r.out.grown grn)).mono ?_; rintro e x2 ⟨rfl,H,D⟩; have s := zb H; have K2 := zb (F.out.trans ((WK.grown r.out grn).trans D)); clear H D; go_wp2_with fail; go_at_call 158; refine (vo w0 wb _ _ L [69,76,83,73,70,32] [32,84,72,69,78] y z l _ (s.out.grown grn) G.out (ex y) (ac z) HY.out V.out (by first | omega | (simp only [la,lc,ln,zr]; omega))).mono ?_; rintro e N ⟨rfl,t,A⟩
      have J : Hid (Wr w0 wb N (S ++ (([73,70,32] ++ (U ++ ([32,84,72,69,78] ++ ([10] ++ Z)))) ++ (P ++ (zD L ++ ([69,76,83,73,70,32] ++ (ex y ++ ([32,84,72,69,78] ++ ([10] ++ ac z)))))))) L) := by show Wr _ _ _ _ _; simpa only [List.append_assoc] using t
      have K := zb (K2.out.trans ((WK.grown s.out grn).trans A)); clear t A; go_wp2_with fail
      exact ⟨⟨l,_,k,X,C,J,K⟩,by first | (simp [go]; omega) | simp [go]⟩
     ·go_wp2_with fail
      go_at_call 115; refine (x8 w0 wb _ _ L (r.out.grown grn)).mono ?_; rintro e x2 ⟨rfl,H,D⟩; have s := zb H; have K2 := zb (F.out.trans ((WK.grown r.out grn).trans D)); clear H D; go_wp2_with fail; go_at_call 158; refine (vo w0 wb _ _ L [69,76,83,73,70,32] [32,84,72,69,78] y z l _ (s.out.grown grn) G.out (ex y) (ac z) HY.out V.out (by first | omega | (simp only [la,lc,ln,zr]; omega))).mono ?_; rintro e N ⟨rfl,t,A⟩
      have J : Hid (Wr w0 wb N (S ++ (([73,70,32] ++ (U ++ ([32,84,72,69,78] ++ ([10] ++ Z)))) ++ (P ++ (zD L ++ ([69,76,83,73,70,32] ++ (ex y ++ ([32,84,72,69,78] ++ ([10] ++ ac z)))))))) L) := by show Wr _ _ _ _ _; simpa only [List.append_assoc] using t
      have K := zb (K2.out.trans ((WK.grown s.out grn).trans A)); clear t A; go_wp2_with fail
      exact ⟨⟨l,_,k,X,C,J,K⟩,by first | (simp [go]; omega) | simp [go]⟩
   ·have a9 : Hid (∀ z ∈ l,LW w0 wb L z.subs (ac z)) := by
     intro z a4; cases M.out with
     | nil => cases a4
     | one x hx => obtain rfl := List.mem_singleton.1 a4; exact hx
     | more _ _ _ _ _ _ => simp at d
    have C : Hid (P ++ xE ac L l = yn ex ac L us) := by show _ = _; rw [<- I.out,jB d]; rfl
    rw [jB d] at n
    change P.length + (xE ac L l).length = _ at n
    have a8 : ¬ (1 : Int) < (l.length : Int) := by omega
    clear M I; go_wp2_with fail
    go_loopw [26] (fun iv ws => ∃ i : Nat,i <= l.length /\ iv = .int .i64 ↑i /\ Hid (Wr w0 wb ws (S ++ (([73,70,32] ++ (U ++ ([32,84,72,69,78] ++ ([10] ++ Z)))) ++ (P ++ xE ac L (l.take i)))) L) /\ Hid (WK wb w ws)) (fun iv _ => l.length - (intOf iv).toNat)
    case atStart => exact ⟨0,Nat.zero_le _,rfl,by show Wr _ _ _ _ _; simpa [xE,zu] using r.out,F⟩
    case round =>
     obtain ⟨i,hi,rfl,r,F⟩ := hrel
     by_cases a5 : i < l.length
     ·obtain ⟨z,E⟩ : ∃ z,l[i]? = some z := ⟨_,List.getElem?_eq_getElem a5⟩
      obtain ⟨gg,oo,su,e1,n5,fu,au⟩ := G.out.node i z E; cases e1; obtain ⟨ua,uc,rfl,_,_⟩ := au.form; obtain ⟨c0,c1,c2,c3,c4⟩ := n5.kept r.out.gb; have HT := zb (gC (ac := ac) (L := L) E); have a6 := rx ac L l (i + 1); have AU := zb au; have b0 := zb (a9.out z (List.mem_of_getElem? E)); rw [HT.out] at a6; simp only [la,lc,ln,zr] at a6; clear E fu au n5; have hb := FB.new r.out z (.slice ua z.subs.length uc) 24 grn; have HB := zb hb; clear hb; go_wp2_with fail; go_at_call 77; refine (kL w0 wb _ _ L [69,76,83,69] _ _ (by simp) (r.out.grown gan)).mono ?_; rintro e x2 ⟨rfl,H,D⟩; have s := zb H; have K2 := zb (F.out.trans ((WK.grown r.out gan).trans D)); obtain ⟨e0,e1,e2,e3,e4⟩ := (HB.out.step ((WK.grown (r.out.grown gan) grn).trans D)).box; clear H D; go_wp2_with fail; go_at_call 88; refine (b0.out _ _ _ (s.out.grown grn) AU.out (by first | omega | (simp only [la,lc,ln,zr]; omega))).mono ?_; rintro e N ⟨rfl,t,A⟩
      have J : Hid (Wr w0 wb N (S ++ (([73,70,32] ++ (U ++ ([32,84,72,69,78] ++ ([10] ++ Z)))) ++ (P ++ xE ac L (l.take (i + 1))))) L) := by show Wr _ _ _ _ _; rw [HT.out]; simpa only [List.append_assoc] using t
      have K := zb (K2.out.trans ((WK.grown s.out grn).trans A)); clear t A; go_wp2_with fail
      exact ⟨⟨i + 1,by omega,by go_num,J,K⟩,by simp [intOf]; omega⟩
     ·have s : Hid (Wr w0 wb wr (S ++ (([73,70,32] ++ (U ++ ([32,84,72,69,78] ++ ([10] ++ Z)))) ++ yn ex ac L us)) L) := by
       have := r.out; rw [List.take_of_length_le (by omega),C.out] at this
       exact this
      go_wp2_with fail; go_at_call 159; refine (fw w0 wb _ _ L (s.out.grown grn) (by first | omega | (simp only [la,lc,ln]; omega))).mono ?_; rintro e N ⟨rfl,t,A⟩; have J := zb t; have K := zb (F.out.trans ((WK.grown s.out grn).trans A)); clear t A; go_wp2_with fail
      go_end0
      refine ⟨rfl,?_,K.out⟩; have J9 := J.out; simp only [List.append_assoc] at J9 ⊢
      exact J9
theorem aE (w0 : World) (wb : Nat) (w : World) (S : Bs) (L : Nat) (x : Bs) (m p : Int) (ts : List T) (sv : Value) (h : Wr w0 wb w S L) (ha : AT w0 (T.mk 16 x m p ts).subs sv) (X : Bs) (hch : ∀ (w : World) (S : Bs) (sv : Value),Wr w0 wb w S L -> AT w0 (T.mk 16 x m p ts).subs sv -> S.length + X.length <= 1000000000 -> Calls Tryz.prog 157 #[ptr wb,zq (.mk 16 x m p ts) sv] w (WP w0 wb w S L X)) (hlen : S.length + X.length <= 1000000000) :
  Calls Tryz.prog 129 #[ptr wb,.agg #[.int .i64 16,.string ⟨List.toArray x⟩,.int .i64 m,.int .i64 p,sv]] w (WP w0 wb w S L X) := by
 have a := zb h; have i := h.lt; have j := zb ha; have k := zb hch; obtain ⟨_,_,_,rfl,_,_,l⟩ := ha.any; clear h ha hch l
 go_enter Tryz.func129,Tryz.ntmps129
 go_wp2_with fail; go_at_call 157; refine (k.out _ _ _ (a.out.grown gan) j.out hlen).mono ?_; rintro e s ⟨rfl,b,d⟩; have n := zb b; have r := zb ((WK.grown a.out gan).trans d); clear b d; go_wp2_with fail
 go_end0
 refine ⟨rfl,?_,r.out⟩; have g := n.out
 try simp only [List.append_assoc,List.nil_append,List.append_nil] at g ⊢
 exact g
section
variable (f L : Nat) (x : Bs) (m p : Int) (u v : T) (us : List T)
theorem bJ : zZ (f + 1) L (.mk 14 x m p [u,v]) = zl f u ++ ([32,58,61,32] ++ zl f v) := by simp [zZ,T.kind,zI,T.subs]
theorem ia : zZ (f + 1) L (.mk 15 x m p [u]) = zl f u := by simp [zZ,T.kind,zI,T.subs]
theorem ib (h : 0 < us.length) : zZ (f + 1) L (.mk 15 x m p (u :: us)) = zl f u ++ ([40] ++ (zE [44,32] (us.map (zl f)) ++ [41])) := by
 have e : zZ (f + 1) L (.mk 15 x m p (u :: us)) = zl f u ++ (if 1 < (u :: us).length then ff f us else []) := by simp [zZ,T.kind,zI,T.subs]
 rw [e,if_pos (by simp; omega)]
 rfl
theorem bt : zZ (f + 1) L (.mk 16 x m p (u :: v :: us)) = [73,70,32] ++ (zl f u ++ ([32,84,72,69,78] ++ ([10] ++ (yr f L v.subs ++ (yn (zl f) (fun u => yr f L u.subs) L us ++ (zD L ++ [69,78,68])))))) := by simp [zZ,T.kind,zI,T.subs,yr]
theorem bp : zZ (f + 1) L (.mk 17 x m p [u,v]) = [87,72,73,76,69,32] ++ (zl f u ++ ([32,68,79] ++ ([10] ++ (yr f L v.subs ++ (zD L ++ [69,78,68]))))) := by simp [zZ,T.kind,zI,T.subs,yr]
theorem ao : zZ (f + 1) L (.mk 18 x m p [u,v]) = [82,69,80,69,65,84,10] ++ (yr f L u.subs ++ (zD L ++ ([85,78,84,73,76,32] ++ zl f v))) := by simp [zZ,T.kind,zI,T.subs,yr]
theorem ah : zZ (f + 1) L (.mk 19 x m p []) = [82,69,84,85,82,78] ++ vk (zl f) [] := by simp [zZ,T.kind,T.subs,vk,zu]
theorem aj : zZ (f + 1) L (.mk 19 x m p [u]) = [82,69,84,85,82,78] ++ vk (zl f) [u] := by simp [zZ,T.kind,zI,T.subs,vk,zu]
theorem zaa (k : Int) (hk : k = 20 \/ k = 21 \/ k = 22 \/ k = 23) : zZ (f + 1) L (.mk k x m p [u]) = kS k ++ ([40] ++ (zE [44,32] ([u].map fun _ => zl f u) ++ [41])) := by
 rcases hk with rfl | rfl | rfl | rfl <;> simp [zZ,T.kind,zI,T.subs,kS,zE]
end
theorem mT (w0 : World) (wb : Nat) (hp : PT w0) : ∀ (f L : Nat) (t : T),f + L <= 1000 -> zS t <= f -> Well .act t -> AW w0 wb L t (zZ f L t) := by
 intro f
 induction f with
 | zero => intro L t _ h _; have := uf t; omega
 | succ f ih =>
  intro L t B C h
  have i : ∀ u,u ∈ t.subs -> zS u <= f := fun u b => by have := yp b; omega
  have a : ∀ u,u ∈ t.subs -> Well .expression u -> EXW w0 wb u (zl f u) := fun u b hw => (qn w0 wb hp f u (i u b)).2 hw
  have j : ∀ u,u ∈ t.subs -> Well (.list .act) u -> LW w0 wb L u.subs (yr f L u.subs) := by
   intro u b hw; obtain ⟨q,d,rfl,g⟩ := yk hw; have n := i _ b
   exact qc w0 wb L d (zZ f (L + 1)) (fun v hv => ih (L + 1) v (by omega) (by have := yp (t := .mk 1 [] 0 q d) (u := v) hv; omega) (g v hv)) (by omega)
  have H := rp h; cases H with
  | assign p u v b hv => rw [bJ]; exact fun w S sv hw ha hl => aD w0 wb w S L [] 0 p u v sv hw ha _ _ (a u (by simp [T.subs]) (ye b)) (a v (by simp [T.subs]) hv) hl
  | call p u us b hs =>
   cases us with
   | nil => rw [ia]; exact fun w S sv hw ha hl => ai w0 wb w S L [] 0 p u sv hw ha _ (a u (by simp [T.subs]) (ye b)) hl
   | cons v d => rw [ib f L [] 0 p u (v :: d) (by simp)]; exact fun w S sv hw ha hl => bE w0 wb w S L [] 0 p u (v :: d) sv hw ha _ (zl f) (a u (by simp [T.subs]) (ye b)) (fun z hz => a z (by simp only [T.subs]; exact List.mem_cons_of_mem _ hz) (hs z hz)) (by simp) hl
  | choice m p u v us hm b hv hs =>
   rw [bt]
   have A : ∀ us : List T,(∀ z ∈ us,z ∈ (T.mk 16 [] m p (u :: v :: us)).subs \/ True) -> Turns us -> (∀ z ∈ us,zS z <= f) -> Rest w0 wb L (zl f) (fun u => yr f L u.subs) us := by
    intro us _ r
    induction r with
    | nil => intro _; exact .nil
    | one z hz =>
     intro n; obtain ⟨q,d,rfl,g⟩ := yk hz; have s := n _ (List.mem_singleton.2 rfl)
     exact .one _ (qc w0 wb L d (zZ f (L + 1)) (fun v hv => ih (L + 1) v (by omega) (by have := yp (t := .mk 1 [] 0 q d) (u := v) hv; omega) (g v hv)) (by omega))
    | more y z l hy hz _ ihl =>
     intro n; obtain ⟨q,d,rfl,g⟩ := yk hz; have s := n (T.mk 1 [] 0 q d) (by simp)
     exact .more _ _ _ ((qn w0 wb hp f y (n y (by simp))).2 hy) (qc w0 wb L d (zZ f (L + 1)) (fun v hv => ih (L + 1) v (by omega) (by have := yp (t := .mk 1 [] 0 q d) (u := v) hv; omega) (g v hv)) (by omega)) (ihl (fun _ _ => .inr trivial) (fun z hz => n z (by simp [hz])))
   exact fun w S sv hw ha hl => aE w0 wb w S L [] m p (u :: v :: us) sv hw ha _ (fun w' S' sv' hw' ha' hl' => nm w0 wb w' S' L [] m p u v us sv' hw' ha' _ _ _ _ (a u (by simp [T.subs]) b) (j v (by simp [T.subs]) hv) (A us (fun _ _ => .inr trivial) hs (fun z hz => i z (by simp [T.subs,hz]))) hl') hl
  | loop p u v b hv => rw [bp]; exact fun w S sv hw ha hl => aO w0 wb w S L [] 0 p u v sv hw ha _ _ (a u (by simp [T.subs]) b) (j v (by simp [T.subs]) hv) hl
  | rept p u v b hv => rw [ao]; exact fun w S sv hw ha hl => za1 w0 wb w S L [] 0 p u v sv hw ha _ _ (j u (by simp [T.subs]) b) (a v (by simp [T.subs]) hv) hl
  | ret0 p => rw [ah]; exact fun w S sv hw ha hl => bH w0 wb w S L [] 0 p [] sv hw ha (zl f) (fun z hz => by cases hz) hl
  | ret1 p u b => rw [aj]; exact fun w S sv hw ha hl => bH w0 wb w S L [] 0 p [u] sv hw ha (zl f) (fun z hz => by obtain rfl := List.mem_singleton.1 hz; exact a z (by simp [T.subs]) b) hl
  | word k p u hk b => rw [zaa f L [] 0 p u k hk]; exact fun w S sv hw ha hl => aA w0 wb w S L k [] 0 p u sv hw ha _ (a u (by simp [T.subs]) b) hk hl
theorem dK (w0 : World) (wb : Nat) (hp : PT w0) (f L : Nat) (us : List T) (hL : f + L < 1000) (hd : ∀ u ∈ us,zS u <= f) (hw : ∀ u ∈ us,Well .act u) : LW w0 wb L us (yr f L us) :=
 qc w0 wb L us (zZ f (L + 1)) (fun v hv => mT w0 wb hp f (L + 1) v (by omega) (hd v hv) (hw v hv)) (by omega)
theorem ul : EN 86 := enters_of Tryz.func86 (by kernel_rfl) rfl
theorem qm : EN 128 := enters_of Tryz.func128 (by kernel_rfl) rfl
theorem EW.typed {k most : Int} {w0 : World} {wb : Nat} {us : List T} (H : ∀ v ∈ us,Well (.declared k most .typeName) v) (w : World) (L : Nat) : EW w0 wb w L 86 #[ptr wb] #[] us zF := fun t sv w1 S hm ha hw _ hl => jU k most w0 wb w1 S L t sv hw ha (H t hm) hl
theorem EW.param {w0 : World} {wb : Nat} {us : List T} (H : ∀ v ∈ us,Well (.declared 8 1 .typeName) v) (w : World) (L : Nat) : EW w0 wb w L 128 #[ptr wb] #[] us zR := fun t sv w1 S hm ha hw _ hl => pi w0 wb w1 S L t sv hw ha (H t hm) hl
theorem FB.newB {w0 : World} {wb : Nat} {w w1 : World} {S : Bs} {L : Nat} (h : Wr w0 wb w S L) (t : T) (sv : Value) (ty : TypeId) (hg : w.grownBy w1 none) (b : Nat) (hb : b = w1.heap.size) : FB wb (w1.alloc (.cells #[.int .i64 t.kind,.string ⟨t.name.toArray⟩,.int .i64 t.num,.int .i64 t.at',sv] ty)) b t sv := by subst hb; exact FB.new h t sv ty hg
theorem AT.four {w : World} {k m p : Int} {x : Bs} {a b c d : T} {sv : Value} (h : AT w (T.mk k x m p [a,b,c,d]).subs sv) : ∃ g o cap sa sb sc sd,sv = .slice (some ⟨g,o,none⟩) 4 cap /\ 4 <= cap /\ cap <= 9223372036854775807 /\ (Node5 w g o a sa /\ AT w a.subs sa) /\ (Node5 w g (o + 5) b sb /\ AT w b.subs sb) /\ (Node5 w g (o + 10) c sc /\ AT w c.subs sc) /\ (Node5 w g (o + 15) d sd /\ AT w d.subs sd) := by
 obtain ⟨B,cap,rfl,f,i⟩ := h.form
 unfold maxLen at i
 obtain ⟨g,o,sa,rfl,j,-,l⟩ := h.node 0 a rfl; obtain ⟨_,_,sb,n,r,-,s⟩ := h.node 1 b rfl; obtain ⟨_,_,sc,t,u,-,v⟩ := h.node 2 c rfl; obtain ⟨_,_,sd,y,z,-,A⟩ := h.node 3 d rfl; cases n; cases t; cases y
 exact ⟨g,o,cap,sa,sb,sc,sd,rfl,f,by omega,⟨by simpa using j,l⟩,⟨by simpa using r,s⟩,⟨by simpa using u,v⟩,⟨by simpa using z,A⟩⟩
theorem lF (w0 : World) (wb : Nat) (w : World) (S : Bs) (x : Bs) (m p : Int) (qp qv qa : Int) (pl : List T) (rs : T) (vl al : List T) (sv : Value) (h : Wr w0 wb w S 0) (ha : AT w0 (T.mk 7 x m p [.mk 1 [] 0 qp pl,rs,.mk 1 [] 0 qv vl,.mk 1 [] 0 qa al]).subs sv) (Z : Bs) (hps : ∀ v ∈ pl,Well (.declared 8 1 .typeName) v) (hvs : ∀ v ∈ vl,Well (.declared 6 0 .typeName) v) (hz : LW w0 wb 0 al Z) (hne : pl.length = 0) (hk : (rs.kind != 0) = false) (hlen : S.length + ([80,82,79,67,69,68,85,82,69,32] ++ (zv (.mk 7 x m p [.mk 1 [] 0 qp pl,rs,.mk 1 [] 0 qv vl,.mk 1 [] 0 qa al]) ++ (([59,10] ++ (zy VARw zF vl ++ ([66,69,71,73,78] ++ ([10] ++ (Z ++ ([69,78,68,32] ++ (x ++ ([59] ++ [10]))))))))))).length <= 1000000000) :
  Calls Tryz.prog 87 #[ptr wb,zq (.mk 7 x m p [.mk 1 [] 0 qp pl,rs,.mk 1 [] 0 qv vl,.mk 1 [] 0 qa al]) sv] w (WP w0 wb w S 0 ([80,82,79,67,69,68,85,82,69,32] ++ (zv (.mk 7 x m p [.mk 1 [] 0 qp pl,rs,.mk 1 [] 0 qv vl,.mk 1 [] 0 qa al]) ++ (([59,10] ++ (zy VARw zF vl ++ ([66,69,71,73,78] ++ ([10] ++ (Z ++ ([69,78,68,32] ++ (x ++ ([59] ++ [10])))))))))))) := by
 have HW := zb h; have f7 := h.lt; have f8 := zb hps; have a8 := zb hvs; have HZ := zb hz; have HA := zb ha; obtain ⟨g,o,c,sp,_,_,_,rfl,_,_,⟨n0,a0⟩,⟨n1,a1⟩,⟨n2,a2⟩,⟨n3,a3⟩⟩ := AT.four ha; obtain rfl : pl = [] := List.eq_nil_of_length_eq_zero hne; obtain ⟨pa,pc,rfl,f9,g0⟩ : ∃ a c,sp = .slice a 0 c /\ 0 <= c /\ c <= 9223372036854775807 := AT.slice (show AT w0 [] sp from a0); obtain ⟨ra,rc,rfl,_,_⟩ := AT.slice a1; have d := zb n0; have f := zb n1; have i := zb n2; have j := zb n3; have A0 : Hid (AT w0 [] _) := a0; have A1 := zb a1; have A2 : Hid (AT w0 vl _) := a2; have A3 : Hid (AT w0 al _) := a3; obtain ⟨a9,_,_,_,_⟩ := n0.kept h.gb; obtain ⟨_,_,_,_,_⟩ := n1.kept h.gb; obtain ⟨_,_,_,_,_⟩ := n2.kept h.gb; obtain ⟨_,_,_,_,_⟩ := n3.kept h.gb; have g1 := zc a9; clear h ha hps hvs hz n0 n1 n2 n3 a0 a1 a2 a3
 change Calls Tryz.prog 87 #[ptr wb,.agg #[.int .i64 7,.string ⟨List.toArray x⟩,.int .i64 m,.int .i64 p,.slice (some ⟨g,o,none⟩) 4 c]] w _
 simp only [la,lc,ln] at hlen; clear hne
 go_enter Tryz.func87,Tryz.ntmps87
 go_wp2_with fail
 go_region
 all_goals
  go_wp2_with fail; go_at_call 82; refine (uO w0 wb _ _ 0 [80,82,79,67,69,68,85,82,69,32] _ _ (by simp) (HW.grown (zf gan _))).mono ?_; rintro e w1 ⟨rfl,j1,k1⟩; have b := zb j1; have K1 := zb ((WK.grown HW (zf gan _)).trans k1); have B1 := zb ((FB.newX HW 7 x m p [.mk 1 [] 0 qp [],rs,.mk 1 [] 0 qv vl,.mk 1 [] 0 qa al] (.slice (some ⟨g,o,none⟩) 4 c) 24 grn).step ((WK.grown (HW.grown gan) gan).trans k1)); cases B1.box.q; have d9 := B1.fr.lt
  obtain ⟨k,_,_,_,_⟩ := d.kept b.gb; have b0 := zc k; obtain ⟨l,_,_,_,_⟩ := f.kept b.gb; have b1 := zc l; obtain ⟨n,_,_,_,_⟩ := i.kept b.gb; have b2 := zc n; obtain ⟨r,_,_,_,_⟩ := j.kept b.gb; have b3 := zc r; have b4 := zb ((FB.newB HW rs (.slice ra rs.subs.length rc) 24 gan (w.heap.size + 1) (by simp)).step ((WK.grown (HW.grown (zf gan _)) grn).trans k1)); clear j1 k1; go_wp2_with fail; go_at_call 81; refine (x7 w0 wb _ _ 0 7 x m p [.mk 1 [] 0 qp [],rs,.mk 1 [] 0 qv vl,.mk 1 [] 0 qa al] _ (b.grown grn) HA (by first | omega | (simp only [la,lc,ln]; omega))).mono ?_; rintro e w2 ⟨rfl,j2,k2⟩; have s := zb j2; have K2 := km K1 b k2; have B2 := bm B1 b k2; cases B2.box.q; have f0 := B2.fr.lt
  obtain ⟨t,_,_,_,_⟩ := d.kept s.gb; have b5 := zc t; obtain ⟨u,_,_,_,_⟩ := f.kept s.gb; have b6 := zc u; obtain ⟨y,_,_,_,_⟩ := i.kept s.gb; have b7 := zc y; obtain ⟨z,_,_,_,_⟩ := j.kept s.gb; have b8 := zc z; have a7 := b4.step ((WK.grown b grn).trans k2); clear j2 k2; obtain ⟨_,_,_,_,_⟩ := a7.box; have f1 := a7.fr.lt; go_wp2_with fail; go_at_call 82; refine (zQ w0 wb _ _ 0 [59,10] _ _ (by simp) (s.grown grn)).mono ?_; rintro e w3 ⟨rfl,j3,k3⟩; have A := zb j3; have K3 := km K2 s k3; have B3 := bm B2 s k3; cases B3.box.q; have f2 := B3.fr.lt
  obtain ⟨B,_,_,_,_⟩ := d.kept A.gb; have b9 := zc B; obtain ⟨C,_,_,_,_⟩ := f.kept A.gb; have c0 := zc C; obtain ⟨D,_,_,_,_⟩ := i.kept A.gb; have c1 := zc D; obtain ⟨E,_,_,_,_⟩ := j.kept A.gb; have c2 := zc E; clear j3 k3; go_wp2_with fail; go_at_call 79; refine (y9 w0 wb _ _ VARw vl _ _ _ _ zF (A.grown grn) A2 (EW.typed a8 _ 1) ul).mono ?_; rintro e w4 ⟨rfl,j4,k4⟩; have F := zb j4; have K4 := km K3 A k4; have B4 := bm B3 A k4; cases B4.box.q; have f3 := B4.fr.lt
  obtain ⟨G,_,_,_,_⟩ := d.kept F.gb; have c3 := zc G; obtain ⟨H,_,_,_,_⟩ := f.kept F.gb; have c4 := zc H; obtain ⟨I,_,_,_,_⟩ := i.kept F.gb; have c5 := zc I; obtain ⟨J,_,_,_,_⟩ := j.kept F.gb; have c6 := zc J; clear j4 k4; go_wp2_with fail; go_at_call 77; refine (kL w0 wb _ _ 0 [66,69,71,73,78] _ _ (by simp) (F.grown grn)).mono ?_; rintro e w5 ⟨rfl,j5,k5⟩; have K := zb j5; have K5 := km K4 F k5; have B5 := bm B4 F k5; cases B5.box.q; have f4 := B5.fr.lt
  obtain ⟨L,_,_,_,_⟩ := d.kept K.gb; have c7 := zc L; obtain ⟨M,_,_,_,_⟩ := f.kept K.gb; have c8 := zc M; obtain ⟨N,_,_,_,_⟩ := i.kept K.gb; have c9 := zc N; obtain ⟨O,_,_,_,_⟩ := j.kept K.gb; have d0 := zc O; clear j5 k5; go_wp2_with fail; go_at_call 88; refine (HZ _ _ _ (K.grown grn) A3 (by first | omega | (simp only [la,lc,ln,zr]; omega))).mono ?_; rintro e w6 ⟨rfl,j6,k6⟩; have Q := zb j6; have K6 := km K5 K k6; have B6 := bm B5 K k6; cases B6.box.q; have f5 := B6.fr.lt
  obtain ⟨R,_,_,_,_⟩ := d.kept Q.gb; have d1 := zc R; obtain ⟨U,_,_,_,_⟩ := f.kept Q.gb; have d2 := zc U; obtain ⟨V,_,_,_,_⟩ := i.kept Q.gb; have d3 := zc V; obtain ⟨X,_,_,_,_⟩ := j.kept Q.gb; have d4 := zc X; clear j6 k6; go_wp2_with fail; go_at_call 77; refine (ky w0 wb _ _ 0 [69,78,68,32] x [59] _ _ (by simp) (Q.grown grn)).mono ?_; rintro e w7 ⟨rfl,j7,k7⟩; have W7 := zb j7; have K7 := km K6 Q k7; have B7 := bm B6 Q k7; cases B7.box.q; have f6 := B7.fr.lt
  obtain ⟨Y,_,_,_,_⟩ := d.kept W7.gb; have d5 := zc Y; obtain ⟨a4,_,_,_,_⟩ := f.kept W7.gb; have d6 := zc a4; obtain ⟨a5,_,_,_,_⟩ := i.kept W7.gb; have d7 := zc a5; obtain ⟨a6,_,_,_,_⟩ := j.kept W7.gb; have d8 := zc a6; clear j7 k7; go_wp2_with fail
  go_end0
  refine ⟨rfl,?_,K7⟩; have J9 := id W7
  try simp only [List.append_assoc,List.nil_append,show zD 0 = [] from rfl] at J9 ⊢
  exact J9
theorem mR (w0 : World) (wb : Nat) (w : World) (S : Bs) (L : Nat) (kd : Int) (x : Bs) (m p : Int) (u : T) (sv : Value) (b1 : Nat) (h : Wr w0 wb w S L) (ha : AT w0 (T.mk kd x m p [u]).subs sv) (E : Bs) (he : EXW w0 wb u E) (dd : w.cell? ⟨b1,0,none⟩ = some (ptr wb)) (f1 : Fr wb w b1) (hlen : S.length + (zv (.mk kd x m p [u]) ++ ([32,61,32] ++ E)).length <= 1000000000) :
    Calls Tryz.prog 80 #[zq (.mk kd x m p [u]) sv,ptr b1] w (WP w0 wb w S L (zv (.mk kd x m p [u]) ++ ([32,61,32] ++ E))) := by
  have f := zb h; have Q := h.lt; obtain ⟨g,o,c,R,su,rfl,hn,hc,z,n,U,A⟩ := ha.one rfl
  obtain rfl : u = R := by simpa [T.subs] using z
  have B := zb n; have V := zb A; have X := zb ha; obtain ⟨r,_,_,_,_⟩ := n.kept h.gb; have Y := zc r; have C := zb f1; have Z := f1.lt; clear h ha z U A n f1; have HE := zb he; clear he
  change Calls Tryz.prog 80 #[.agg #[.int .i64 kd,.string ⟨List.toArray x⟩,.int .i64 m,.int .i64 p,.slice (some ⟨g,o,none⟩) 1 c],ptr b1] w _
  simp only [la,lc,ln] at hlen; have dD := dd; clear dd
  go_enter Tryz.func80,Tryz.ntmps80
  go_wp2_with fail; go_at_call 81; refine (x7 w0 wb _ _ L kd x m p [u] _ (f.grown gan) X (by first | omega | (simp only [la,lc,ln,zr]; omega))).mono ?_; rintro e w1 ⟨rfl,D,j⟩; have i := zb D; have K1 := (WK.grown f gan).trans j; have s := zb ((FB.newX f kd x m p [u] (.slice (some ⟨g,o,none⟩) 1 c) 24 grn).step ((WK.grown (f.grown gan) grn).trans j)); cases s.box.q; have F := s.fr.lt
  obtain ⟨b,_,_,_,_⟩ := B.kept i.gb; have t := zc b; have a := C.step ((WK.grown f gan).trans j); have k := WK.cell ((WK.grown f gan).trans j) C dD; clear D j; go_wp2_with fail; go_at_call 82; refine (zQ w0 wb _ _ L [32,61,32] _ _ (by simp) (i.grown grn)).mono ?_; rintro e w2 ⟨rfl,G,l⟩; have v := zb G; have K2 := km K1 i l; have H := bm s i l; cases H.box.q; have I := H.fr.lt
  obtain ⟨d,_,_,_,_⟩ := B.kept v.gb; have y := zc d; have J := a.step ((WK.grown i grn).trans l); have K := WK.cell ((WK.grown i grn).trans l) a k; clear G l; go_wp2_with fail
  go_region_with
    (go_at_call 83
     refine (HE _ _ L _ (v.grown (ze grn)) V (by first | omega | (simp only [la,lc,ln]; omega))).mono ?_; rintro e w3 ⟨rfl,M,N⟩; have W3 := zb M; have K3 := K2.trans ((WK.grown v (ze grn)).trans N)
     clear M N)
  all_goals
    go_wp2_with fail
    go_end0
    refine ⟨rfl,?_,K3⟩; have O := id W3; simp only [List.append_assoc] at O ⊢
    exact O
theorem lI (w0 : World) (wb : Nat) (w : World) (S : Bs) (L : Nat) (kd : Int) (x : Bs) (m p : Int) (u : T) (sv : Value) (b1 : Nat) (h : Wr w0 wb w S L) (ha : AT w0 (T.mk kd x m p [u]).subs sv) (ht : TY u) (hp : PT w0) (dd : w.cell? ⟨b1,0,none⟩ = some (ptr wb)) (f1 : Fr wb w b1) (hlen : S.length + (zv (.mk kd x m p [u]) ++ ([32,61,32] ++ xF u)).length <= 1000000000) :
    Calls Tryz.prog 84 #[zq (.mk kd x m p [u]) sv,ptr b1] w (WP w0 wb w S L (zv (.mk kd x m p [u]) ++ ([32,61,32] ++ xF u))) := by
  have f := zb h; have O := h.lt; obtain ⟨g,o,c,Q,su,rfl,hn,hc,z,n,R,A⟩ := ha.one rfl
  obtain rfl : u = Q := by simpa [T.subs] using z
  have B := zb n; have U := zb A; have V := zb ha; obtain ⟨r,_,_,_,_⟩ := n.kept h.gb; have X := zc r; have C := zb f1; have Y := f1.lt; clear h ha z R A n f1; have Z := zb ht; have HP := zb hp; clear ht hp
  change Calls Tryz.prog 84 #[.agg #[.int .i64 kd,.string ⟨List.toArray x⟩,.int .i64 m,.int .i64 p,.slice (some ⟨g,o,none⟩) 1 c],ptr b1] w _
  simp only [la,lc,ln] at hlen; have dD := dd; clear dd
  go_enter Tryz.func84,Tryz.ntmps84
  go_wp2_with fail; go_at_call 81; refine (x7 w0 wb _ _ L kd x m p [u] _ (f.grown gan) V (by first | omega | (simp only [la,lc,ln,zr]; omega))).mono ?_; rintro e w1 ⟨rfl,D,j⟩; have i := zb D; have K1 := (WK.grown f gan).trans j; have s := zb ((FB.newX f kd x m p [u] (.slice (some ⟨g,o,none⟩) 1 c) 24 grn).step ((WK.grown (f.grown gan) grn).trans j)); cases s.box.q; have E := s.fr.lt
  obtain ⟨b,_,_,_,_⟩ := B.kept i.gb; have t := zc b; have a := C.step ((WK.grown f gan).trans j); have k := WK.cell ((WK.grown f gan).trans j) C dD; clear D j; go_wp2_with fail; go_at_call 82; refine (zQ w0 wb _ _ L [32,61,32] _ _ (by simp) (i.grown grn)).mono ?_; rintro e w2 ⟨rfl,F,l⟩; have v := zb F; have K2 := km K1 i l; have G := bm s i l; cases G.box.q; have H := G.fr.lt
  obtain ⟨d,_,_,_,_⟩ := B.kept v.gb; have y := zc d; have I := a.step ((WK.grown i grn).trans l); have J := WK.cell ((WK.grown i grn).trans l) a k; clear F l; go_wp2_with fail
  go_region_with
    (go_at_call 85
     refine (qI w0 wb _ _ L u _ (v.grown (ze grn)) U Z HP (by first | omega | (simp only [la,lc,ln]; omega))).mono ?_; rintro e w3 ⟨rfl,K,M⟩; have W3 := zb K; have K3 := K2.trans ((WK.grown v (ze grn)).trans M)
     clear K M)
  all_goals
    go_wp2_with fail
    go_end0
    refine ⟨rfl,?_,K3⟩; have N := id W3; simp only [List.append_assoc] at N ⊢
    exact N
set_option maxHeartbeats 2000000
theorem rK (w : World) : Calls Tryz.prog 76 #[] w fun e w' => e = .returned (.map (some w.heap.size)) /\ IsWds w' w.heap.size /\ w.grownBy w' none := by
 have A := @run_makeMap Tryz.prog; have r := World.ownsMap_made (H := Unit) w Tryz.prog 3 rE; obtain ⟨_,_,s,f⟩ := r.update vZ Tryz.underlying77 (by unfold maxLen; omega) (keyOf_int_mk (P := Tryz.prog) Tryz.underlying3 (q := .i64) (a := 30) (by decide)) (val := .agg #[.string ⟨#[84,82,85,69]⟩]) (d := .lit (.string [84,82,85,69])) (ps := []) rfl; obtain ⟨_,_,t,g⟩ := s.update vZ Tryz.underlying77 (by unfold maxLen; omega) (keyOf_int_mk (P := Tryz.prog) Tryz.underlying3 (q := .i64) (a := 31) (by decide)) (val := .agg #[.string ⟨#[70,65,76,83,69]⟩]) (d := .lit (.string [70,65,76,83,69])) (ps := []) rfl; obtain ⟨_,_,u,h⟩ := t.update vZ Tryz.underlying77 (by unfold maxLen; omega) (keyOf_int_mk (P := Tryz.prog) Tryz.underlying3 (q := .i64) (a := 32) (by decide)) (val := .agg #[.string ⟨#[78,73,76]⟩]) (d := .lit (.string [78,73,76])) (ps := []) rfl; obtain ⟨_,_,v,i⟩ := u.update vZ Tryz.underlying77 (by unfold maxLen; omega) (keyOf_int_mk (P := Tryz.prog) Tryz.underlying3 (q := .i64) (a := 20) (by decide)) (val := .agg #[.string ⟨#[78,69,87]⟩]) (d := .lit (.string [78,69,87])) (ps := []) rfl; obtain ⟨_,_,x,j⟩ := v.update vZ Tryz.underlying77 (by unfold maxLen; omega) (keyOf_int_mk (P := Tryz.prog) Tryz.underlying3 (q := .i64) (a := 21) (by decide)) (val := .agg #[.string ⟨#[79,85,84]⟩]) (d := .lit (.string [79,85,84])) (ps := []) rfl; obtain ⟨_,_,y,l⟩ := x.update vZ Tryz.underlying77 (by unfold maxLen; omega) (keyOf_int_mk (P := Tryz.prog) Tryz.underlying3 (q := .i64) (a := 22) (by decide)) (val := .agg #[.string ⟨#[71,69,84]⟩]) (d := .lit (.string [71,69,84])) (ps := []) rfl; obtain ⟨b,_,z,m⟩ := y.update vZ Tryz.underlying77 (by unfold maxLen; omega) (keyOf_int_mk (P := Tryz.prog) Tryz.underlying3 (q := .i64) (a := 23) (by decide)) (val := .agg #[.string ⟨#[65,83,83,69,82,84]⟩]) (d := .lit (.string [65,83,83,69,82,84])) (ps := []) rfl; have B : Hid (IsWds b w.heap.size) := z
 have C : Hid (w.grownBy b none) := by
  have n : (w.alloc (.map #[] 0)).grownBy b (some w.heap.size) := za (za (za (za (za (za f g) h) i) j) l) m
  exact ⟨n.os,n.tape,n.output,by have := n.size; simp at this; omega,fun k hk _ => (n.block k (by simp; omega) (by simp; omega)).trans (by have := (World.grownBy_alloc w (.map #[] 0) none).block k hk (by simp); exact this)⟩
 clear r s t u v x y z f g h i j l m
 go_enter Tryz.func76,Tryz.ntmps76
 go_wp2
 go_ret
 exact ⟨rfl,B,C⟩
theorem jc (w : World) : Calls Tryz.prog 44 #[] w fun e w' => ∃ wb,e = .returned (ptr wb) /\ Wr w wb w' [] 0 := by
 go_enter Tryz.func44,Tryz.ntmps44
 go_wp2_with fail; go_at_call 73; refine (jd w).mono ?_; rintro e b ⟨rfl,g,h⟩; have i := zb g; have j := zb h; clear g h; go_wp2_with fail; go_at_call 76; refine (rK b).mono ?_; rintro e a ⟨rfl,k,l⟩; have m := zb k; have d := zb l; clear k l; go_wp2_with fail
 go_ret
 have n := World.ownsMap.lt i; have r := World.ownsMap.lt m; have s := j.size; have t := d.size; have f : a.grownBy (a.alloc (.cells #[.pointer none,.slice none 0 0,.int .i64 0,.map (some w.heap.size),.map (some b.heap.size)] WT)) none := zf (zj a none) _; refine ⟨a.heap.size,rfl,za j (za d f),by omega,.pointer none,.slice none 0 0,w.heap.size,b.heap.size,.inl rfl,?_,World.ownsRow_nil _ _ _ _,by simp [Value.ownBlock],?_,?_,by omega,by omega⟩
 ·exact heap_alloc_new a _
 ·exact yc i ((f.block _ (by omega) (by simp)).trans (d.block _ n (by simp)))
 ·exact yc m (f.block _ r (by simp))
theorem rk (w0 : World) (wb : Nat) (w : World) (S : Bs) (L : Nat) (h : Wr w0 wb w S L) : Calls Tryz.prog 46 #[ptr wb] w fun e w' => e = .returned (.int .i64 S.length) /\ w' = w := by
 obtain ⟨_,v,_,_,_,i,b,_⟩ := h.st
 obtain ⟨d,a,rfl⟩ : ∃ d a,v = .slice d S.length a := by
  rcases b.2 with ⟨f,j⟩ | ⟨g,a,k,f,_⟩
  ·exact ⟨none,0,by rw [f,j]⟩
  ·exact ⟨_,_,f⟩
 have l : w.cell? ⟨wb,1,none⟩ = some (.slice d S.length a) := by rw [Lib.cell_of_heap i]; rfl
 clear b i h
 go_enter Tryz.func46,Tryz.ntmps46
 go_wp2
 go_ret
 exact ⟨rfl,rfl⟩
theorem rm : Tryz.prog.cellsOf U8 = 1 := by kernel_rfl
theorem tt (w0 : World) (wb : Nat) (w : World) (S : Bs) (L : Nat) (h : Wr w0 wb w S L) (h0 : S ≠ []) : Calls Tryz.prog 47 #[ptr wb] w fun e w' => e = .returned (.string ⟨S.toArray⟩) /\ w0.grownBy w' none := by
 obtain ⟨p,v,y,z,_,u,i,_⟩ := h.st
 have l : S.length ≠ 0 := by simpa using h0
 obtain ⟨g,a,b,rfl,m,hg,A,n,B,s⟩ : ∃ g a b,v = .slice (some ⟨g,0,none⟩) S.length a /\ w0.heap.size <= g /\ w.heap[g]? = some (.cells b U8 (0,0)) /\ S.length <= a /\ a <= maxLen /\ b.size = a * 1 /\ b.toList.take (S.length * 1) = Lib.byteCells S := by
  rcases i.2 with ⟨_,C⟩ | ⟨g,a,b,D,r⟩
  ·exact absurd C l
  ·exact ⟨g,a,b,D,r⟩
 have E : w.drew.cell? ⟨wb,1,none⟩ = some (.slice (some ⟨g,0,none⟩) S.length a) := by
  have : w.drew.heap[wb]? = some (.cells #[p,.slice (some ⟨g,0,none⟩) S.length a,.int .i64 L,.map (some y),.map (some z)] WT (0,0)) := u; rw [Lib.cell_of_heap this]; rfl
 have J : w.cell? ⟨wb,1,none⟩ = some (.slice (some ⟨g,0,none⟩) S.length a) := E
 have F : (Builtin.unsafeSliceData_ #[73] 107 #[.slice (some ⟨g,0,none⟩) S.length a]).run Tryz.prog w.drew = .ok (.pointer (some ⟨g,0,none⟩)) w.drew :=
  Lib.run_unsafeSliceData_row _ _ _ _ _ _ (by omega)
 have G : (Builtin.unsafeString_ #[107,3] 9 #[.pointer (some ⟨g,0,none⟩),.int .i64 S.length]).run Tryz.prog w.drew = .ok (.string ⟨S.toArray⟩) (w.drew.freeze ⟨g,0,none⟩ S.length) := by
  refine Lib.run_unsafeString_row w.drew 107 3 9 U8 Tryz.underlying107 rm g b.size (by have t : w.drew.heap[g]? = some (.cells b U8 (0,0)) := hg; simp [World.shape?,t]) S h0 (by omega) (by unfold maxLen at n; omega) ?_; intro j x H; have := i.cells (g := g) rfl j (.int .u8 x.toNat) (by simp [Lib.byteCells,H])
  exact this
 have I : Hid (w0.grownBy (w.drew.freeze ⟨g,0,none⟩ S.length) none) := by
  have d := Lib.below_freeze (Below.drew (Below.refl w0.heap.size w)) (p := ⟨g,0,none⟩) m S.length; have f := h.gb
  exact ⟨d.os.trans f.os,d.tape.trans f.tape,d.output.trans f.output,Nat.le_trans f.size d.size,fun k hk _ => (d.block k hk).trans (f.block k hk (by simp))⟩
 clear i u h hg
 go_enter Tryz.func47,Tryz.ntmps47
 go_wp2
 go_region
 all_goals (go_wp2; go_ret; exact ⟨rfl,I⟩)
end Go.Proofs.YtifapidjkelnfaaGreatDoor
