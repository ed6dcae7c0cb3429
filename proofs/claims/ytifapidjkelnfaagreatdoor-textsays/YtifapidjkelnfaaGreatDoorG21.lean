/- The program's writer: ranks,operands. -/
import Derived.Test.YtifapidjkelnfaaGreatDoorG19
import Derived.Test.YtifapidjkelnfaaGreatDoorG02
import Derived.Test.YtifapidjkelnfaaGreatDoorG20
namespace Go.Proofs.YtifapidjkelnfaaGreatDoor
open Go.RowKit Go.Maps Go.WideMaps Go.WideElems
set_option maxHeartbeats 4000000
set_option maxRecDepth 1000000
theorem dH (w : World) (ob : Nat) (x : Bs) (h : IsOps w ob) (hx : 0 <= zo x) : (Instr.lookup 76 (.map (some ob)) (.string ⟨x.toArray⟩) false).run Tryz.prog w = .ok (.int .i64 (zo x)) w := by
 obtain ⟨c,b,a,-⟩ := World.ownsMap.lookup_int h xY Tryz.underlying76 Tryz.underlying129 (du w) (keyOf_string_mk (P := Tryz.prog) Tryz.underlying9 (s := ⟨x.toArray⟩) (by have := tz hx; simp [ByteArray.size]; unfold maxLen; omega))
 unfold ro at a
 have d := qW x (.lit (.int .i64 0)) gW (.map []) ⟨_,rfl⟩; rw [gL,if_pos hx] at d; simp only at d; rw [d] at a
 injection a with h8
 injection h8 with _ h8
 rw [b,h8]
theorem vZ : Keyed Tryz.prog 3 := int_keyed Tryz.underlying3
theorem ou (w : World) : (zeroValue 136).run Tryz.prog w = .ok (.agg #[.string ⟨#[]⟩]) w := by kernel_rfl
def kS (k : Int) : Bs := if k = 30 then [84,82,85,69] else if k = 31 then [70,65,76,83,69] else if k = 32 then [78,73,76] else vG k
theorem tn (w : World) (db : Nat) (k : Int) (h : IsWds w db) (hk : k = 30 \/ k = 31 \/ k = 32 \/ k = 20 \/ k = 21 \/ k = 22 \/ k = 23) : (Instr.lookup 77 (.map (some db)) (.int .i64 k) false).run Tryz.prog w = .ok (.agg #[.string ⟨(kS k).toArray⟩]) w := by
 have a : keyOf Tryz.prog 3 (.int .i64 k) = some (.int .i64 k) := keyOf_int_mk (P := Tryz.prog) Tryz.underlying3 (by rcases hk with rfl | rfl | rfl | rfl | rfl | rfl | rfl <;> decide); obtain ⟨_,_,b,d⟩ := World.ownsMap.lookup h vZ Tryz.underlying77 (ou w) (zd := .lit (.string [])) (zp := []) rfl a
 have e : nW.atKey (.int .i64 k) (.lit (.string [])) = .lit (.string (kS k)) := by
  rcases hk with rfl | rfl | rfl | rfl | rfl | rfl | rfl <;> rfl
 rw [e] at d; rw [b,pW d]
theorem Wr.maps {w0 : World} {wb : Nat} {w : World} {S : Bs} {L : Nat} (h : Wr w0 wb w S L) : ∃ ob db,w.cell? ⟨wb,3,none⟩ = some (.map (some ob)) /\ w.cell? ⟨wb,4,none⟩ = some (.map (some db)) /\ IsOps w ob /\ IsWds w db := by
 obtain ⟨_,_,ob,db,_,a,_,_,b,d,_,_⟩ := h.st
 exact ⟨ob,db,by rw [Lib.cell_of_heap a]; rfl,by rw [Lib.cell_of_heap a]; rfl,b,d⟩
theorem sL (w0 : World) (wb : Nat) (w : World) (S : Bs) (L : Nat) (t : T) (sv : Value) (h : Wr w0 wb w S L) (ha : ∃ a n c,sv = .slice a n c) (hx : t.kind = 36 -> 0 <= zo t.name) :
  Calls Tryz.prog 156 #[ptr wb,zq t sv] w (Sy w (.int .i64 (vd t))) := by
 have r := h.lt; obtain ⟨s,y,z,-,j,-⟩ := h.maps; obtain ⟨a,n,c,rfl⟩ := ha; obtain ⟨b,x,m,p,l⟩ := t
 change Calls Tryz.prog 156 #[ptr wb,.agg #[.int .i64 b,.string ⟨x.toArray⟩,.int .i64 m,.int .i64 p,.slice a n c]] w _
 have k := zb j; clear h j
 by_cases d : b = 36
 ·subst d
  have i : 0 <= zo x := hx rfl; rw [show vd (.mk 36 x m p l) = zo x from rfl]; have u := dH ((w.alloc (.cells #[.int .i64 36,.string ⟨x.toArray⟩,.int .i64 m,.int .i64 p,.slice a n c] 24)).drew) s x (yc k ((ze gan).block _ (World.ownsMap.lt k) (by simp))) i; clear hx
  generalize zo x = lv at *
  go_enter Tryz.func156,Tryz.ntmps156
  go_wp2_with fail
  go_region
  all_goals
   go_wp2_with fail
   go_ret
   exact ⟨rfl,(ze gan)⟩
 ·by_cases f : b = 37
  ·subst f
   go_enter Tryz.func156,Tryz.ntmps156
   go_wp2_with fail
   go_ret
   exact ⟨rfl,zf grn _⟩
  ·by_cases g : b = 35
   ·subst g
    go_enter Tryz.func156,Tryz.ntmps156
    go_wp2_with fail
    go_ret
    exact ⟨rfl,zf grn _⟩
   ·have v : Hid (vd (.mk b x m p l) = 3) := by show _ = _; simp [vd,T.kind,d,f,g]
    rw [v.out]
    go_enter Tryz.func156,Tryz.ntmps156
    go_wp2_with fail
    go_ret
    exact ⟨rfl,zf grn _⟩
def EXW (w0 : World) (wb : Nat) (t : T) (E : Bs) : Prop := ∀ (w : World) (S : Bs) (L : Nat) (sv : Value),Wr w0 wb w S L -> AT w0 t.subs sv -> S.length + E.length <= 1000000000 -> Calls Tryz.prog 83 #[ptr wb,zq t sv] w (WP w0 wb w S L E)
theorem pd {t : T} (h : Well .expression t) : t.kind = 36 -> 0 <= zo t.name := by
 intro a; have := dU h; cases this with
 | op x p u v hx hu hv => exact hx
 | one k p u hk2 hu => rcases hk2 with e | e <;> (subst e; cases a)
 | word k p hk2 => rcases hk2 with e | e | e <;> (subst e; cases a)
 | _ => cases a
theorem xp (w0 : World) (wb : Nat) (w : World) (S : Bs) (L : Nat) (t : T) (sv : Value) (r : Int) (E : Bs) (h : Wr w0 wb w S L) (ha : AT w0 t.subs sv) (ht : Well .expression t) (he : EXW w0 wb t E) (hlen : S.length + (vD t r E).length <= 1000000000 := by first | omega | (simp only [List.length_append,List.length_cons,List.length_nil,zr]; omega)) :
  Calls Tryz.prog 123 #[ptr wb,zq t sv,.int .i64 r] w (WP w0 wb w S L (vD t r E)) := by
 have O := fun w' S' (h' : Wr w0 wb w' S' L) => zb (sL w0 wb w' S' L t sv h' (vV ha) (pd ht))
 have HA := zb ha; have HE := zb he; have b := zb h; have a2 := h.lt
 unfold vD at hlen ⊢
 obtain ⟨a,n,c,rfl,_,_,hl⟩ := ha.any; obtain ⟨N,x,m,p,l⟩ := t; clear h ha he ht hl
 change Calls Tryz.prog 123 #[ptr wb,.agg #[.int .i64 N,.string ⟨x.toArray⟩,.int .i64 m,.int .i64 p,.slice a n c],.int .i64 r] w _
 generalize vd (.mk N x m p l) = R at O hlen ⊢
 by_cases hR : R < r
 ·rw [if_pos hR] at hlen ⊢
  simp only [la,lc,ln] at hlen
  go_enter Tryz.func123,Tryz.ntmps123
  go_wp2_with fail; go_at_call 156; refine ((O _ _ (b.grown gan))).mono ?_; rintro e w1 ⟨rfl,d⟩; have k := b.grown (za gan d); have s := WK.grown b (za gan d); have f := zb k; have Q := zb s; have g := zb ((FB.newX b N x m p l (.slice a n c) 24 grn).step (WK.grown (b.grown gan) (za grn d))); obtain ⟨u,v,y,z,A⟩ := g.box.p; have B := g.fr.lt
  clear k s; go_wp2_with fail; go_at_call 82; refine (zQ w0 wb _ _ L [40] _ _ (by simp) (f.grown grn)).mono ?_; rintro e w2 ⟨rfl,C,i⟩; have D := zb C; have U := km Q f i; have j := bm g f i; obtain ⟨F,G,H,I,J⟩ := j.box.p; have K := j.fr.lt
  clear C i; go_wp2_with fail; go_at_call 83; refine (HE _ _ L _ (D.grown grn) HA (by first | omega | (simp only [la,lc,ln]; omega))).mono ?_; rintro e w3 ⟨rfl,j3,V⟩; have X := zb j3; have K3 := km U D V; have Y := bm j D V; cases Y.box.q; have a0 := Y.fr.lt
  clear j3 V; go_wp2_with fail; go_at_call 82; refine (zQ w0 wb _ _ L [41] _ _ (by simp) (X.grown grn)).mono ?_; rintro e w4 ⟨rfl,j4,Z⟩; have W4 := zb j4; have K4 := km K3 X Z; have B4 := bm Y X Z; cases B4.box.q; have a1 := B4.fr.lt
  clear j4 Z; go_wp2_with fail
  go_end0
  refine ⟨rfl,?_,K4⟩; have M := id W4
  try simp only [List.append_assoc,List.nil_append,List.cons_append] at M ⊢
  exact M
 ·rw [if_neg hR] at hlen ⊢
  go_enter Tryz.func123,Tryz.ntmps123
  go_wp2_with fail; go_at_call 156; refine ((O _ _ (b.grown gan))).mono ?_; rintro e w1 ⟨rfl,d⟩; have k := b.grown (za gan d); have s := WK.grown b (za gan d); have f := zb k; have Q := zb s; have g := zb ((FB.newX b N x m p l (.slice a n c) 24 grn).step (WK.grown (b.grown gan) (za grn d))); obtain ⟨u,v,y,z,A⟩ := g.box.p; have B := g.fr.lt
  clear k s; go_wp2_with fail; go_at_call 83; refine (HE _ _ L _ (f.grown grn) HA (by first | omega | (simp only [la,lc,ln,zr]; omega))).mono ?_; rintro e w2 ⟨rfl,C,i⟩; have D := zb C; have U := km Q f i; have j := bm g f i; obtain ⟨F,G,H,I,J⟩ := j.box.p; have K := j.fr.lt
  clear C i; go_wp2_with fail
  go_end0
  refine ⟨rfl,?_,U⟩; have M := id D
  try simp only [List.append_assoc,List.nil_append,List.append_nil,List.cons_append] at M ⊢
  exact M
def DEW (w0 : World) (wb : Nat) (t : T) (E : Bs) : Prop := ∀ (w : World) (S : Bs) (L : Nat) (sv : Value),Wr w0 wb w S L -> AT w0 t.subs sv -> S.length + E.length <= 1000000000 -> Calls Tryz.prog 126 #[ptr wb,zq t sv] w (WP w0 wb w S L E)
theorem zak (w0 : World) (wb : Nat) (w : World) (S : Bs) (L : Nat) (x : Bs) (m : Int) (p : Int) (sv : Value) (h : Wr w0 wb w S L) (ha : AT w0 (T.mk 24 x m p []).subs sv) (hlen : S.length + (x).length <= 1000000000) :
  Calls Tryz.prog 126 #[ptr wb,.agg #[.int .i64 24,.string ⟨List.toArray x⟩,.int .i64 m,.int .i64 p,sv]] w (WP w0 wb w S L x) := by
 have b := zb h; have k := h.lt; have s := zb hlen; have t := zb ha; obtain ⟨a,c,rfl,_,l⟩ := ha.zero rfl; clear h ha l
 try simp only [la,lc,ln,zr] at hlen
 go_enter Tryz.func126,Tryz.ntmps126
 go_wp2_with fail; go_at_call 82; refine (zQ w0 wb _ _ L x _ _ (by simp) (b.grown gan)).mono ?_; rintro e u ⟨rfl,f,d⟩; have n := zb f; have r := (WK.grown b gan).trans d; have g := zb ((FB.newX b 24 x m p [] (.slice a 0 c) 24 grn).step ((WK.grown (b.grown gan) grn).trans d)); cases g.box.q; have i := g.fr.lt
 clear f d; go_wp2_with fail
 go_end0
 refine ⟨rfl,?_,r⟩; have j := id n
 try simp only [List.append_assoc,List.nil_append,List.append_nil] at j ⊢
 exact j
theorem aL (w0 : World) (wb : Nat) (w : World) (S : Bs) (L : Nat) (x : Bs) (m : Int) (p : Int) (u : T) (sv : Value) (h : Wr w0 wb w S L) (ha : AT w0 (T.mk 25 x m p [u]).subs sv) (U : Bs) (hd : DEW w0 wb u U) (hlen : S.length + (U ++ ([46] ++ x)).length <= 1000000000) :
  Calls Tryz.prog 126 #[ptr wb,.agg #[.int .i64 25,.string ⟨List.toArray x⟩,.int .i64 m,.int .i64 p,sv]] w (WP w0 wb w S L (U ++ ([46] ++ x))) := by
 have d := zb h; have G := h.lt; have Q := zb hlen; have R := zb ha; obtain ⟨g,o,c,H,V,rfl,X,Y,t,i,I,v⟩ := ha.one rfl
 obtain rfl : u = H := by simpa [T.subs] using t
 have y := zb i; have J := zb v; obtain ⟨j,_,_,_,_⟩ := i.kept h.gb; have K := zc j; clear h ha t I v i
 try simp only [la,lc,ln] at hlen
 have M := zb hd; clear hd
 go_enter Tryz.func126,Tryz.ntmps126
 go_wp2_with fail; go_at_call 126; refine (M _ _ L _ (d.grown gan) J (by first | omega | (simp only [la,lc,ln,zr]; omega))).mono ?_; rintro e Z ⟨rfl,z,k⟩; have f := zb z; have N := (WK.grown d gan).trans k; have l := zb ((FB.newX d 25 x m p [u] (.slice (some ⟨g,o,none⟩) 1 c) 24 grn).step ((WK.grown (d.grown gan) grn).trans k)); cases l.box.q; have A := l.fr.lt
 obtain ⟨a,_,_,_,_⟩ := y.kept f.gb; have n := zc a; clear z k; go_wp2_with fail; go_at_call 82; refine (ko w0 wb _ _ L [46] x _ _ (by simp) (f.grown grn) (by first | omega | (simp only [la,lc,ln]; omega))).mono ?_; rintro e w2 ⟨rfl,B,r⟩; have C := zb B; have O := km N f r; have D := bm l f r; cases D.box.q; have E := D.fr.lt
 obtain ⟨b,_,_,_,_⟩ := y.kept C.gb; have s := zc b; clear B r; go_wp2_with fail
 go_end0
 refine ⟨rfl,?_,O⟩; have F := id C
 try simp only [List.append_assoc] at F ⊢
 exact F
theorem zai (w0 : World) (wb : Nat) (w : World) (S : Bs) (L : Nat) (x : Bs) (m : Int) (p : Int) (u : T) (v : T) (sv : Value) (h : Wr w0 wb w S L) (ha : AT w0 (T.mk 26 x m p [u,v]).subs sv) (U V : Bs) (hd : DEW w0 wb u U) (he : EXW w0 wb v V) (hlen : S.length + (U ++ ([91] ++ (V ++ [93]))).length <= 1000000000) :
  Calls Tryz.prog 126 #[ptr wb,.agg #[.int .i64 26,.string ⟨List.toArray x⟩,.int .i64 m,.int .i64 p,sv]] w (WP w0 wb w S L (U ++ ([91] ++ (V ++ [93])))) := by
 have t := zb h; have a5 := h.lt; have HL := zb hlen; have HA := zb ha; obtain ⟨g,o,c,u',su,v',sw,rfl,hn,hc,hl,A,fu,au,B,fv,av⟩ := ha.two rfl
 have C : u = u' /\ v = v' := by simpa [T.subs] using hl
 obtain ⟨rfl,rfl⟩ := C; have y := zb A; have AU := zb au; have z := zb B; have AV := zb av; obtain ⟨D,_,_,_,_⟩ := A.kept h.gb; obtain ⟨_,_,_,_,_⟩ := B.kept h.gb; have a6 := zc D; clear h ha hl fu au A fv av B
 try simp only [la,lc,ln] at hlen
 have HD := zb hd; clear hd; have HE := zb he; clear he
 go_enter Tryz.func126,Tryz.ntmps126
 go_wp2_with fail; go_at_call 126; refine (HD _ _ L _ (t.grown gan) AU (by first | omega | (simp only [la,lc,ln,zr]; omega))).mono ?_; rintro e w1 ⟨rfl,j1,E⟩; have n := zb j1; have K1 := (WK.grown t gan).trans E; have F := zb ((FB.newX t 26 x m p [u,v] (.slice (some ⟨g,o,none⟩) 2 c) 24 grn).step ((WK.grown (t.grown gan) grn).trans E)); cases F.box.q; have a1 := F.fr.lt
 obtain ⟨a,_,_,_,_⟩ := y.kept n.gb; have G := zc a; obtain ⟨b,_,_,_,_⟩ := z.kept n.gb; have H := zc b; clear j1 E; go_wp2_with fail; go_at_call 82; refine (zQ w0 wb _ _ L [91] _ _ (by simp) (n.grown grn)).mono ?_; rintro e w2 ⟨rfl,j2,I⟩; have r := zb j2; have K2 := km K1 n I; have J := bm F n I; cases J.box.q; have a2 := J.fr.lt
 obtain ⟨d,_,_,_,_⟩ := y.kept r.gb; have K := zc d; obtain ⟨f,_,_,_,_⟩ := z.kept r.gb; have M := zc f; clear j2 I; go_wp2_with fail; go_at_call 83; refine (HE _ _ L _ (r.grown grn) AV (by first | omega | (simp only [la,lc,ln]; omega))).mono ?_; rintro e w3 ⟨rfl,j3,N⟩; have s := zb j3; have K3 := km K2 r N; have O := bm J r N; cases O.box.q; have a3 := O.fr.lt
 obtain ⟨i,_,_,_,_⟩ := y.kept s.gb; have Q := zc i; obtain ⟨j,_,_,_,_⟩ := z.kept s.gb; have R := zc j; clear j3 N; go_wp2_with fail; go_at_call 82; refine (zQ w0 wb _ _ L [93] _ _ (by simp) (s.grown grn)).mono ?_; rintro e w4 ⟨rfl,j4,X⟩; have Y := zb j4; have K4 := km K3 s X; have B4 := bm O s X; cases B4.box.q; have a4 := B4.fr.lt
 obtain ⟨k,_,_,_,_⟩ := y.kept Y.gb; have Z := zc k; obtain ⟨l,_,_,_,_⟩ := z.kept Y.gb; have a0 := zc l; clear j4 X; go_wp2_with fail
 go_end0
 refine ⟨rfl,?_,K4⟩; have J9 := id Y
 try simp only [List.append_assoc] at J9 ⊢
 exact J9
theorem zay (w0 : World) (wb : Nat) (w : World) (S : Bs) (L : Nat) (x : Bs) (m : Int) (p : Int) (u : T) (sv : Value) (h : Wr w0 wb w S L) (ha : AT w0 (T.mk 27 x m p [u]).subs sv) (U : Bs) (hd : DEW w0 wb u U) (hlen : S.length + (U ++ [94]).length <= 1000000000) :
  Calls Tryz.prog 126 #[ptr wb,.agg #[.int .i64 27,.string ⟨List.toArray x⟩,.int .i64 m,.int .i64 p,sv]] w (WP w0 wb w S L (U ++ [94])) := by
 have d := zb h; have G := h.lt; have Q := zb hlen; have R := zb ha; obtain ⟨g,o,c,H,V,rfl,X,Y,t,i,I,v⟩ := ha.one rfl
 obtain rfl : u = H := by simpa [T.subs] using t
 have y := zb i; have J := zb v; obtain ⟨j,_,_,_,_⟩ := i.kept h.gb; have K := zc j; clear h ha t I v i
 try simp only [la,lc,ln] at hlen
 have M := zb hd; clear hd
 go_enter Tryz.func126,Tryz.ntmps126
 go_wp2_with fail; go_at_call 126; refine (M _ _ L _ (d.grown gan) J (by first | omega | (simp only [la,lc,ln,zr]; omega))).mono ?_; rintro e Z ⟨rfl,z,k⟩; have f := zb z; have N := (WK.grown d gan).trans k; have l := zb ((FB.newX d 27 x m p [u] (.slice (some ⟨g,o,none⟩) 1 c) 24 grn).step ((WK.grown (d.grown gan) grn).trans k)); cases l.box.q; have A := l.fr.lt
 obtain ⟨a,_,_,_,_⟩ := y.kept f.gb; have n := zc a; clear z k; go_wp2_with fail; go_at_call 82; refine (zQ w0 wb _ _ L [94] _ _ (by simp) (f.grown grn)).mono ?_; rintro e w2 ⟨rfl,B,r⟩; have C := zb B; have O := km N f r; have D := bm l f r; cases D.box.q; have E := D.fr.lt
 obtain ⟨b,_,_,_,_⟩ := y.kept C.gb; have s := zc b; clear B r; go_wp2_with fail
 go_end0
 refine ⟨rfl,?_,O⟩; have F := id C
 try simp only [List.append_assoc] at F ⊢
 exact F
theorem zas (w0 : World) (wb : Nat) (w : World) (S : Bs) (L : Nat) (x : Bs) (m : Int) (p : Int) (u : T) (v : T) (sv : Value) (h : Wr w0 wb w S L) (ha : AT w0 (T.mk 28 x m p [u,v]).subs sv) (U : Bs) (hd : DEW w0 wb u U) (ht : TN v) (hlen : S.length + (U ++ ([123] ++ (zz v ++ [125]))).length <= 1000000000) :
  Calls Tryz.prog 126 #[ptr wb,.agg #[.int .i64 28,.string ⟨List.toArray x⟩,.int .i64 m,.int .i64 p,sv]] w (WP w0 wb w S L (U ++ ([123] ++ (zz v ++ [125])))) := by
 have t := zb h; have a4 := h.lt; have HL := zb hlen; have HA := zb ha; obtain ⟨g,o,c,u',su,v',sw,rfl,hn,hc,hl,A,fu,au,B,fv,av⟩ := ha.two rfl
 have C : u = u' /\ v = v' := by simpa [T.subs] using hl
 obtain ⟨rfl,rfl⟩ := C; have y := zb A; have AU := zb au; have z := zb B; have AV := zb av; obtain ⟨D,_,_,_,_⟩ := A.kept h.gb; obtain ⟨_,_,_,_,_⟩ := B.kept h.gb; have a5 := zc D; clear h ha hl fu au A fv av B
 try simp only [la,lc,ln] at hlen
 have HD := zb hd; clear hd
 go_enter Tryz.func126,Tryz.ntmps126
 go_wp2_with fail; go_at_call 126; refine (HD _ _ L _ (t.grown gan) AU (by first | omega | (simp only [la,lc,ln,zr]; omega))).mono ?_; rintro e w1 ⟨rfl,j1,E⟩; have n := zb j1; have K1 := (WK.grown t gan).trans E; have F := zb ((FB.newX t 28 x m p [u,v] (.slice (some ⟨g,o,none⟩) 2 c) 24 grn).step ((WK.grown (t.grown gan) grn).trans E)); cases F.box.q; have a0 := F.fr.lt
 obtain ⟨a,_,_,_,_⟩ := y.kept n.gb; have G := zc a; obtain ⟨b,_,_,_,_⟩ := z.kept n.gb; have H := zc b; clear j1 E; go_wp2_with fail; go_at_call 82; refine (zQ w0 wb _ _ L [123] _ _ (by simp) (n.grown grn)).mono ?_; rintro e w2 ⟨rfl,j2,I⟩; have r := zb j2; have K2 := km K1 n I; have J := bm F n I; cases J.box.q; have a1 := J.fr.lt
 obtain ⟨d,_,_,_,_⟩ := y.kept r.gb; have K := zc d; obtain ⟨f,_,_,_,_⟩ := z.kept r.gb; have M := zc f; clear j2 I; go_wp2_with fail; go_at_call 124; refine (yI w0 wb _ _ L v _ (r.grown grn) AV ht).mono ?_; rintro e w3 ⟨rfl,j3,N⟩; have s := zb j3; have K3 := km K2 r N; have O := bm J r N; cases O.box.q; have a2 := O.fr.lt
 obtain ⟨i,_,_,_,_⟩ := y.kept s.gb; have Q := zc i; obtain ⟨j,_,_,_,_⟩ := z.kept s.gb; have R := zc j; clear j3 N; go_wp2_with fail; go_at_call 82; refine (zQ w0 wb _ _ L [125] _ _ (by simp) (s.grown grn)).mono ?_; rintro e w4 ⟨rfl,j4,V⟩; have X := zb j4; have K4 := km K3 s V; have B4 := bm O s V; cases B4.box.q; have a3 := B4.fr.lt
 obtain ⟨k,_,_,_,_⟩ := y.kept X.gb; have Y := zc k; obtain ⟨l,_,_,_,_⟩ := z.kept X.gb; have Z := zc l; clear j4 V; go_wp2_with fail
 go_end0
 refine ⟨rfl,?_,K4⟩; have J9 := id X
 try simp only [List.append_assoc] at J9 ⊢
 exact J9
theorem zam (w0 : World) (wb : Nat) (w : World) (S : Bs) (L : Nat) (x : Bs) (m : Int) (p : Int) (sv : Value) (h : Wr w0 wb w S L) (ha : AT w0 (T.mk 24 x m p []).subs sv) (X : Bs) (hd : DEW w0 wb (.mk 24 x m p []) X) (hlen : S.length + (X).length <= 1000000000) :
  Calls Tryz.prog 83 #[ptr wb,.agg #[.int .i64 24,.string ⟨List.toArray x⟩,.int .i64 m,.int .i64 p,sv]] w (WP w0 wb w S L X) := by
 have b := zb h; have k := h.lt; have l := zb hlen; have n := zb ha; obtain ⟨a,c,rfl,_,r⟩ := ha.zero rfl; clear h ha r
 try simp only [la,lc,ln,zr] at hlen
 have s := zb hd; clear hd
 go_enter Tryz.func83,Tryz.ntmps83
 go_wp2_with fail; go_at_call 126; refine (s _ _ L _ (b.grown gan) n l).mono ?_; rintro e v ⟨rfl,f,d⟩; have t := zb f; have u := (WK.grown b gan).trans d; have g := zb ((FB.newX b 24 x m p [] (.slice a 0 c) 24 grn).step ((WK.grown (b.grown gan) grn).trans d)); cases g.box.q; have i := g.fr.lt
 clear f d; go_wp2_with fail
 go_end0
 refine ⟨rfl,?_,u⟩; have j := id t
 try simp only [List.append_assoc,List.nil_append,List.append_nil] at j ⊢
 exact j
theorem aP (w0 : World) (wb : Nat) (w : World) (S : Bs) (L : Nat) (x : Bs) (m : Int) (p : Int) (u : T) (sv : Value) (h : Wr w0 wb w S L) (ha : AT w0 (T.mk 25 x m p [u]).subs sv) (X : Bs) (hd : DEW w0 wb (.mk 25 x m p [u]) X) (hlen : S.length + (X).length <= 1000000000) :
  Calls Tryz.prog 83 #[ptr wb,.agg #[.int .i64 25,.string ⟨List.toArray x⟩,.int .i64 m,.int .i64 p,sv]] w (WP w0 wb w S L X) := by
 have b := zb h; have y := h.lt; have z := zb hlen; have A := zb ha; obtain ⟨g,o,c,B,H,rfl,I,J,k,d,C,l⟩ := ha.one rfl
 obtain rfl : u = B := by simpa [T.subs] using k
 have D := zb d; have K := zb l; obtain ⟨f,_,_,_,_⟩ := d.kept h.gb; have E := zc f; clear h ha k C l d
 try simp only [la,lc,ln,zr] at hlen
 have F := zb hd; clear hd
 go_enter Tryz.func83,Tryz.ntmps83
 go_wp2_with fail; go_at_call 126; refine (F _ _ L _ (b.grown gan) A z).mono ?_; rintro e M ⟨rfl,n,i⟩; have r := zb n; have G := (WK.grown b gan).trans i; have s := zb ((FB.newX b 25 x m p [u] (.slice (some ⟨g,o,none⟩) 1 c) 24 grn).step ((WK.grown (b.grown gan) grn).trans i)); cases s.box.q; have t := s.fr.lt
 obtain ⟨a,_,_,_,_⟩ := D.kept r.gb; have j := zc a; clear n i; go_wp2_with fail
 go_end0
 refine ⟨rfl,?_,G⟩; have v := id r
 try simp only [List.append_assoc,List.nil_append,List.append_nil] at v ⊢
 exact v
theorem zaf (w0 : World) (wb : Nat) (w : World) (S : Bs) (L : Nat) (x : Bs) (m : Int) (p : Int) (u : T) (v : T) (sv : Value) (h : Wr w0 wb w S L) (ha : AT w0 (T.mk 26 x m p [u,v]).subs sv) (X : Bs) (hd : DEW w0 wb (.mk 26 x m p [u,v]) X) (hlen : S.length + (X).length <= 1000000000) :
  Calls Tryz.prog 83 #[ptr wb,.agg #[.int .i64 26,.string ⟨List.toArray x⟩,.int .i64 m,.int .i64 p,sv]] w (WP w0 wb w S L X) := by
 have d := zb h; have E := h.lt; have F := zb hlen; have G := zb ha; obtain ⟨g,o,c,H,U,I,V,rfl,Y,Z,t,f,J,y,i,K,z⟩ := ha.two rfl
 have j : u = H /\ v = I := by simpa [T.subs] using t
 obtain ⟨rfl,rfl⟩ := j; have M := zb f; have AU := zb y; have N := zb i; have AV := zb z; obtain ⟨k,_,_,_,_⟩ := f.kept h.gb; obtain ⟨_,_,_,_,_⟩ := i.kept h.gb; have O := zc k; clear h ha t J y f K z i
 try simp only [la,lc,ln,zr] at hlen
 have Q := zb hd; clear hd
 go_enter Tryz.func83,Tryz.ntmps83
 go_wp2_with fail; go_at_call 126; refine (Q _ _ L _ (d.grown gan) G F).mono ?_; rintro e w1 ⟨rfl,A,l⟩; have n := zb A; have R := (WK.grown d gan).trans l; have B := zb ((FB.newX d 26 x m p [u,v] (.slice (some ⟨g,o,none⟩) 2 c) 24 grn).step ((WK.grown (d.grown gan) grn).trans l)); cases B.box.q; have C := B.fr.lt
 obtain ⟨a,_,_,_,_⟩ := M.kept n.gb; have r := zc a; obtain ⟨b,_,_,_,_⟩ := N.kept n.gb; have s := zc b; clear A l; go_wp2_with fail
 go_end0
 refine ⟨rfl,?_,R⟩; have D := id n
 try simp only [List.append_assoc,List.nil_append,List.append_nil] at D ⊢
 exact D
theorem zag (w0 : World) (wb : Nat) (w : World) (S : Bs) (L : Nat) (x : Bs) (m : Int) (p : Int) (u : T) (sv : Value) (h : Wr w0 wb w S L) (ha : AT w0 (T.mk 27 x m p [u]).subs sv) (X : Bs) (hd : DEW w0 wb (.mk 27 x m p [u]) X) (hlen : S.length + (X).length <= 1000000000) :
  Calls Tryz.prog 83 #[ptr wb,.agg #[.int .i64 27,.string ⟨List.toArray x⟩,.int .i64 m,.int .i64 p,sv]] w (WP w0 wb w S L X) := by
 have b := zb h; have y := h.lt; have z := zb hlen; have A := zb ha; obtain ⟨g,o,c,B,H,rfl,I,J,k,d,C,l⟩ := ha.one rfl
 obtain rfl : u = B := by simpa [T.subs] using k
 have D := zb d; have K := zb l; obtain ⟨f,_,_,_,_⟩ := d.kept h.gb; have E := zc f; clear h ha k C l d
 try simp only [la,lc,ln,zr] at hlen
 have F := zb hd; clear hd
 go_enter Tryz.func83,Tryz.ntmps83
 go_wp2_with fail; go_at_call 126; refine (F _ _ L _ (b.grown gan) A z).mono ?_; rintro e M ⟨rfl,n,i⟩; have r := zb n; have G := (WK.grown b gan).trans i; have s := zb ((FB.newX b 27 x m p [u] (.slice (some ⟨g,o,none⟩) 1 c) 24 grn).step ((WK.grown (b.grown gan) grn).trans i)); cases s.box.q; have t := s.fr.lt
 obtain ⟨a,_,_,_,_⟩ := D.kept r.gb; have j := zc a; clear n i; go_wp2_with fail
 go_end0
 refine ⟨rfl,?_,G⟩; have v := id r
 try simp only [List.append_assoc,List.nil_append,List.append_nil] at v ⊢
 exact v
theorem zap (w0 : World) (wb : Nat) (w : World) (S : Bs) (L : Nat) (x : Bs) (m : Int) (p : Int) (u : T) (v : T) (sv : Value) (h : Wr w0 wb w S L) (ha : AT w0 (T.mk 28 x m p [u,v]).subs sv) (X : Bs) (hd : DEW w0 wb (.mk 28 x m p [u,v]) X) (hlen : S.length + (X).length <= 1000000000) :
  Calls Tryz.prog 83 #[ptr wb,.agg #[.int .i64 28,.string ⟨List.toArray x⟩,.int .i64 m,.int .i64 p,sv]] w (WP w0 wb w S L X) := by
 have d := zb h; have E := h.lt; have F := zb hlen; have G := zb ha; obtain ⟨g,o,c,H,U,I,V,rfl,Y,Z,t,f,J,y,i,K,z⟩ := ha.two rfl
 have j : u = H /\ v = I := by simpa [T.subs] using t
 obtain ⟨rfl,rfl⟩ := j; have M := zb f; have AU := zb y; have N := zb i; have AV := zb z; obtain ⟨k,_,_,_,_⟩ := f.kept h.gb; obtain ⟨_,_,_,_,_⟩ := i.kept h.gb; have O := zc k; clear h ha t J y f K z i
 try simp only [la,lc,ln,zr] at hlen
 have Q := zb hd; clear hd
 go_enter Tryz.func83,Tryz.ntmps83
 go_wp2_with fail; go_at_call 126; refine (Q _ _ L _ (d.grown gan) G F).mono ?_; rintro e w1 ⟨rfl,A,l⟩; have n := zb A; have R := (WK.grown d gan).trans l; have B := zb ((FB.newX d 28 x m p [u,v] (.slice (some ⟨g,o,none⟩) 2 c) 24 grn).step ((WK.grown (d.grown gan) grn).trans l)); cases B.box.q; have C := B.fr.lt
 obtain ⟨a,_,_,_,_⟩ := M.kept n.gb; have r := zc a; obtain ⟨b,_,_,_,_⟩ := N.kept n.gb; have s := zc b; clear A l; go_wp2_with fail
 go_end0
 refine ⟨rfl,?_,R⟩; have D := id n
 try simp only [List.append_assoc,List.nil_append,List.append_nil] at D ⊢
 exact D
theorem zan (w0 : World) (wb : Nat) (w : World) (S : Bs) (L : Nat) (x : Bs) (m : Int) (p : Int) (sv : Value) (h : Wr w0 wb w S L) (ha : AT w0 (T.mk 29 x m p []).subs sv) (h0 : 0 <= m) (h1 : m <= 2147483647) (hp : PT w0) (hlen : S.length + (vC m).length <= 1000000000) :
  Calls Tryz.prog 83 #[ptr wb,.agg #[.int .i64 29,.string ⟨List.toArray x⟩,.int .i64 m,.int .i64 p,sv]] w (WP w0 wb w S L (vC m)) := by
 have b := zb h; have u := h.lt; have C := zb hlen; have D := zb ha; obtain ⟨a,c,rfl,_,v⟩ := ha.zero rfl; clear h ha v
 try simp only [la,lc,ln,zr] at hlen
 have y := zb hp; clear hp
 go_enter Tryz.func83,Tryz.ntmps83
 go_wp2_with fail; go_at_call 121; refine (fX m h0 h1 _ (y.kept (b.grown gan).gb)).mono ?_; rintro e E ⟨rfl,d⟩; have j := b.grown (za gan d); have k := WK.grown b (za gan d); have f := zb j; have z := zb k; have g := zb ((FB.newX b 29 x m p [] (.slice a 0 c) 24 grn).step (WK.grown (b.grown gan) (za grn d))); cases g.box.q; have l := g.fr.lt
 clear j k; go_wp2_with fail; go_at_call 82; refine (zQ w0 wb _ _ L (vC m) _ _ (by simp) (f.grown grn)).mono ?_; rintro e F ⟨rfl,n,i⟩; have A := zb n; have B := km z f i; have r := bm g f i; cases r.box.q; have s := r.fr.lt
 clear n i; go_wp2_with fail
 go_end0
 refine ⟨rfl,?_,B⟩; have t := id A
 try simp only [List.append_assoc,List.nil_append,List.append_nil] at t ⊢
 exact t
theorem aS (w0 : World) (wb : Nat) (w : World) (S : Bs) (L : Nat) (x : Bs) (m : Int) (p : Int) (u : T) (sv : Value) (h : Wr w0 wb w S L) (ha : AT w0 (T.mk 34 x m p [u]).subs sv) (U : Bs) (hu : Well .expression u) (he : EXW w0 wb u U) (hlen : S.length + ([126] ++ vD u 3 U).length <= 1000000000) :
  Calls Tryz.prog 83 #[ptr wb,.agg #[.int .i64 34,.string ⟨List.toArray x⟩,.int .i64 m,.int .i64 p,sv]] w (WP w0 wb w S L ([126] ++ vD u 3 U)) := by
 have d := zb h; have G := h.lt; have Q := zb hlen; have R := zb ha; obtain ⟨g,o,c,H,V,rfl,X,Y,t,i,I,v⟩ := ha.one rfl
 obtain rfl : u = H := by simpa [T.subs] using t
 have y := zb i; have J := zb v; obtain ⟨j,_,_,_,_⟩ := i.kept h.gb; have K := zc j; clear h ha t I v i
 try simp only [la,lc,ln] at hlen
 have M := zb he; clear he
 go_enter Tryz.func83,Tryz.ntmps83
 go_wp2_with fail; go_at_call 82; refine (zQ w0 wb _ _ L [126] _ _ (by simp) (d.grown gan)).mono ?_; rintro e Z ⟨rfl,z,k⟩; have f := zb z; have N := (WK.grown d gan).trans k; have l := zb ((FB.newX d 34 x m p [u] (.slice (some ⟨g,o,none⟩) 1 c) 24 grn).step ((WK.grown (d.grown gan) grn).trans k)); cases l.box.q; have A := l.fr.lt
 obtain ⟨a,_,_,_,_⟩ := y.kept f.gb; have n := zc a; clear z k; go_wp2_with fail; go_at_call 123; refine (xp w0 wb _ _ L u _ 3 U (f.grown grn) J hu M).mono ?_; rintro e w2 ⟨rfl,B,r⟩; have C := zb B; have O := km N f r; have D := bm l f r; cases D.box.q; have E := D.fr.lt
 obtain ⟨b,_,_,_,_⟩ := y.kept C.gb; have s := zc b; clear B r; go_wp2_with fail
 go_end0
 refine ⟨rfl,?_,O⟩; have F := id C
 try simp only [List.append_assoc] at F ⊢
 exact F
theorem aV (w0 : World) (wb : Nat) (w : World) (S : Bs) (L : Nat) (x : Bs) (m : Int) (p : Int) (u : T) (sv : Value) (h : Wr w0 wb w S L) (ha : AT w0 (T.mk 35 x m p [u]).subs sv) (U : Bs) (hu : Well .expression u) (he : EXW w0 wb u U) (hlen : S.length + ([45] ++ vD u 2 U).length <= 1000000000) :
  Calls Tryz.prog 83 #[ptr wb,.agg #[.int .i64 35,.string ⟨List.toArray x⟩,.int .i64 m,.int .i64 p,sv]] w (WP w0 wb w S L ([45] ++ vD u 2 U)) := by
 have d := zb h; have G := h.lt; have Q := zb hlen; have R := zb ha; obtain ⟨g,o,c,H,V,rfl,X,Y,t,i,I,v⟩ := ha.one rfl
 obtain rfl : u = H := by simpa [T.subs] using t
 have y := zb i; have J := zb v; obtain ⟨j,_,_,_,_⟩ := i.kept h.gb; have K := zc j; clear h ha t I v i
 try simp only [la,lc,ln] at hlen
 have M := zb he; clear he
 go_enter Tryz.func83,Tryz.ntmps83
 go_wp2_with fail; go_at_call 82; refine (zQ w0 wb _ _ L [45] _ _ (by simp) (d.grown gan)).mono ?_; rintro e Z ⟨rfl,z,k⟩; have f := zb z; have N := (WK.grown d gan).trans k; have l := zb ((FB.newX d 35 x m p [u] (.slice (some ⟨g,o,none⟩) 1 c) 24 grn).step ((WK.grown (d.grown gan) grn).trans k)); cases l.box.q; have A := l.fr.lt
 obtain ⟨a,_,_,_,_⟩ := y.kept f.gb; have n := zc a; clear z k; go_wp2_with fail; go_at_call 123; refine (xp w0 wb _ _ L u _ 2 U (f.grown grn) J hu M).mono ?_; rintro e w2 ⟨rfl,B,r⟩; have C := zb B; have O := km N f r; have D := bm l f r; cases D.box.q; have E := D.fr.lt
 obtain ⟨b,_,_,_,_⟩ := y.kept C.gb; have s := zc b; clear B r; go_wp2_with fail
 go_end0
 refine ⟨rfl,?_,O⟩; have F := id C
 try simp only [List.append_assoc] at F ⊢
 exact F
theorem aW (w0 : World) (wb : Nat) (w : World) (S : Bs) (L : Nat) (x : Bs) (m : Int) (p : Int) (u : T) (v : T) (sv : Value) (h : Wr w0 wb w S L) (ha : AT w0 (T.mk 37 x m p [u,v]).subs sv) (U : Bs) (hu : Well .expression u) (he : EXW w0 wb u U) (ht : TN v) (hlen : S.length + (vD u 1 U ++ ([32,73,83,32] ++ zz v)).length <= 1000000000) :
  Calls Tryz.prog 83 #[ptr wb,.agg #[.int .i64 37,.string ⟨List.toArray x⟩,.int .i64 m,.int .i64 p,sv]] w (WP w0 wb w S L (vD u 1 U ++ ([32,73,83,32] ++ zz v))) := by
 have n := zb h; have a1 := h.lt; have HL := zb hlen; have HA := zb ha; obtain ⟨g,o,c,u',su,v',sw,rfl,hn,hc,O,r,fu,Q,s,fv,R⟩ := ha.two rfl
 have t : u = u' /\ v = v' := by simpa [T.subs] using O
 obtain ⟨rfl,rfl⟩ := t; have y := zb r; have AU := zb Q; have z := zb s; have AV := zb R; obtain ⟨A,_,_,_,_⟩ := r.kept h.gb; obtain ⟨_,_,_,_,_⟩ := s.kept h.gb; have a2 := zc A; clear h ha O fu Q r fv R s
 try simp only [la,lc,ln] at hlen
 have HE := zb he; clear he
 go_enter Tryz.func83,Tryz.ntmps83
 go_wp2_with fail; go_at_call 123; refine (xp w0 wb _ _ L u _ 1 U (n.grown gan) AU hu HE).mono ?_; rintro e w1 ⟨rfl,V,B⟩; have k := zb V; have K1 := (WK.grown n gan).trans B; have C := zb ((FB.newX n 37 x m p [u,v] (.slice (some ⟨g,o,none⟩) 2 c) 24 grn).step ((WK.grown (n.grown gan) grn).trans B)); cases C.box.q; have X := C.fr.lt
 obtain ⟨a,_,_,_,_⟩ := y.kept k.gb; have D := zc a; obtain ⟨b,_,_,_,_⟩ := z.kept k.gb; have E := zc b; clear V B; go_wp2_with fail; go_at_call 82; refine (zQ w0 wb _ _ L [32,73,83,32] _ _ (by simp) (k.grown grn)).mono ?_; rintro e w2 ⟨rfl,Y,F⟩; have l := zb Y; have K2 := km K1 k F; have G := bm C k F; cases G.box.q; have Z := G.fr.lt
 obtain ⟨d,_,_,_,_⟩ := y.kept l.gb; have H := zc d; obtain ⟨f,_,_,_,_⟩ := z.kept l.gb; have I := zc f; clear Y F; go_wp2_with fail; go_at_call 124; refine (yI w0 wb _ _ L v _ (l.grown grn) AV ht).mono ?_; rintro e w3 ⟨rfl,j3,J⟩; have K := zb j3; have K3 := km K2 l J; have B3 := bm G l J; cases B3.box.q; have a0 := B3.fr.lt
 obtain ⟨i,_,_,_,_⟩ := y.kept K.gb; have M := zc i; obtain ⟨j,_,_,_,_⟩ := z.kept K.gb; have N := zc j; clear j3 J; go_wp2_with fail
 go_end0
 refine ⟨rfl,?_,K3⟩; have J9 := id K
 try simp only [List.append_assoc] at J9 ⊢
 exact J9
theorem uO (w0 : World) (wb : Nat) (W : World) (S : Bs) (L : Nat) (s : Bs) (ty : TypeId) (b : Nat) (hb : b = W.heap.size) (h : Wr w0 wb W S L) (hlen : S.length + s.length <= 1000000000 := by first | omega | (simp only [List.length_append,List.length_cons,List.length_nil,zr]; omega)) :
  Calls Tryz.prog 82 #[ptr wb,.slice (some ⟨b,0,none⟩) 1 1] (W.alloc (.cells #[.string ⟨s.toArray⟩] ty)).drew fun e w' => e = .returned (.tuple #[]) /\ Wr w0 wb w' (S ++ s) L /\ WK wb W w' := by
 subst hb; have a := zf (zj W none) (.cells #[.string ⟨s.toArray⟩] ty); have d := ze a; refine (ub w0 wb _ S L [s] _ 1 (h.grown d) ((SL.new h [s] _ ty rfl (by simp)).step (WK.grown (h.grown a) (ze grn))) (by simpa using hlen) (by simp)).mono ?_; rintro e w' ⟨rfl,q,r⟩
 exact ⟨rfl,by simpa using q,(WK.grown h d).trans r⟩
theorem qV (X : Bs) (W : World) : (Instr.field 136 (.agg #[.string ⟨X.toArray⟩]) 0).run Tryz.prog W = .ok (.string ⟨X.toArray⟩) W := by kernel_rfl
theorem aU (w0 : World) (wb : Nat) (w : World) (S : Bs) (L : Nat) (k : Int) (x : Bs) (m p : Int) (sv : Value) (h : Wr w0 wb w S L) (ha : ∃ a n c,sv = .slice a n c) (hk : k = 30 \/ k = 31 \/ k = 32) (hlen : S.length + (kS k).length <= 1000000000) :
    Calls Tryz.prog 83 #[ptr wb,.agg #[.int .i64 k,.string ⟨List.toArray x⟩,.int .i64 m,.int .i64 p,sv]] w (WP w0 wb w S L (kS k)) := by
  have d := zb h; have i := h.lt; obtain ⟨a,n,c,rfl⟩ := ha; obtain ⟨u,j,-,v,-,b⟩ := h.maps; have l := tn ((w.alloc (.cells #[.int .i64 k,.string ⟨x.toArray⟩,.int .i64 m,.int .i64 p,.slice a n c] 24)).drew) j k (yc b ((ze gan).block _ (World.ownsMap.lt b) (by simp))) (by rcases hk with e | e | e <;> simp [e]); clear h b
  rcases hk with rfl | rfl | rfl
  all_goals
    generalize kS _ = X at *
    have r := qV X
    go_enter Tryz.func83,Tryz.ntmps83
    go_wp2_with fail
    go_region_with
      (go_at_call 82
       refine (uO w0 wb _ _ L X _ _ (by simp) (d.grown gan)).mono ?_; rintro e y ⟨rfl,f,g⟩; have s := zb f; have t := (WK.grown d gan).trans g
       clear f g)
    all_goals
      go_wp2_with fail
      go_end0
      exact ⟨rfl,s,t⟩
theorem qR {x : Bs} (h : 0 <= zo x) : zo x = 0 \/ zo x = 1 \/ zo x = 2 := by
 unfold zo at h ⊢
 by_cases a : inB gd x = true
 ·rw [if_pos a]; exact .inl rfl
 rw [if_neg a] at h ⊢
 by_cases b : inB fe x = true
 ·rw [if_pos b]; exact .inr (.inl rfl)
 rw [if_neg b] at h ⊢
 by_cases d : inB fG x = true
 ·rw [if_pos d]; exact .inr (.inr rfl)
 rw [if_neg d] at h
 omega
theorem dy (w0 : World) (wb : Nat) (w : World) (S : Bs) (L : Nat) (x : Bs) (m : Int) (p : Int) (u : T) (v : T) (sv : Value) (h : Wr w0 wb w S L) (ha : AT w0 (T.mk 36 x m p [u,v]).subs sv) (U V : Bs) (r1 r2 : Int) (hx : 0 <= zo x) (h1 : r1 = max (zo x) 1) (h2 : r2 = zo x + 1) (hu : Well .expression u) (hv : Well .expression v) (he : EXW w0 wb u U) (hf : EXW w0 wb v V) (hlen : S.length + (vD u r1 U ++ ([32] ++ (x ++ ([32] ++ vD v r2 V)))).length <= 1000000000) :
  Calls Tryz.prog 125 #[ptr wb,.agg #[.int .i64 36,.string ⟨List.toArray x⟩,.int .i64 m,.int .i64 p,sv]] w (WP w0 wb w S L (vD u r1 U ++ ([32] ++ (x ++ ([32] ++ vD v r2 V))))) := by
 have n := zb h; have d1 := h.lt; have HL := zb hlen; have HA := zb ha; obtain ⟨ob,db,mc,-,ho,-⟩ := h.maps; have HO := zb ho; clear ho; obtain ⟨g,o,c,u',su,v',sw,rfl,hn,hc,hl,n5,fu,au,n6,fv,av⟩ := ha.two rfl
 have c8 : u = u' /\ v = v' := by simpa [T.subs] using hl
 obtain ⟨rfl,rfl⟩ := c8; have NU := zb n5; have AU := zb au; have NV := zb n6; have AV := zb av; obtain ⟨c9,_,_,_,_⟩ := n5.kept h.gb; obtain ⟨_,_,_,_,_⟩ := n6.kept h.gb; have d2 := zc c9; clear h ha hl fu au n5 fv av n6
 try simp only [la,lc,ln] at hlen
 have HE := zb he; have HF := zb hf; clear he hf; have d3 := dH ((w.alloc (.cells #[.int .i64 36,.string ⟨x.toArray⟩,.int .i64 m,.int .i64 p,.slice (some ⟨g,o,none⟩) 2 c] 24)).drew) ob x (yc HO ((ze gan).block _ (World.ownsMap.lt HO) (by simp))) hx; have d0 := qR hx
 generalize zo x = lv at *
 rcases d0 with rfl | rfl | rfl
 ·obtain rfl : r1 = 1 := by rw [h1]; decide
  obtain rfl : r2 = 1 := by rw [h2]; decide
  clear h1 h2
  go_enter Tryz.func125,Tryz.ntmps125
  go_wp2_with fail
  go_region
  all_goals
   go_wp2_with fail; go_at_call 123; refine (xp w0 wb _ _ L u _ 1 U (n.grown (ze gan)) AU hu HE).mono ?_; rintro e w1 ⟨rfl,j1,r⟩; have k := zb j1; have K1 := zb ((WK.grown n (ze gan)).trans r); have s := zb ((FB.newX n 36 x m p [u,v] (.slice (some ⟨g,o,none⟩) 2 c) 24 grn).step ((WK.grown (n.grown gan) (ze grn)).trans r)); obtain ⟨b0,b1,b2,b3,b4⟩ := s.box.p; have b5 := s.fr.lt
   obtain ⟨a,t,y,z,A⟩ := NU.kept k.gb; have B := zc a; obtain ⟨b,C,D,E,F⟩ := NV.kept k.gb; have G := zc b; clear j1 r; go_wp2_with fail; go_at_call 82; refine (fk w0 wb _ _ L [32] x [32] _ _ (by simp) (k.grown grn) (by first | omega | (simp only [la,lc,ln]; omega))).mono ?_; rintro e w2 ⟨rfl,j2,H⟩; have l := zb j2; have K2 := km K1 k H; have I := bm s k H; obtain ⟨b6,b7,b8,b9,c0⟩ := I.box.p; have c1 := I.fr.lt
   obtain ⟨d,J,K,M,N⟩ := NU.kept l.gb; have O := zc d; obtain ⟨f,Q,R,X,Y⟩ := NV.kept l.gb; have Z := zc f; clear j2 H; go_wp2_with fail; go_at_call 123; refine (xp w0 wb _ _ L v _ 1 V (l.grown grn) AV hv HF).mono ?_; rintro e w3 ⟨rfl,j3,k3⟩; have W3 := zb j3; have K3 := km K2 l k3; have B3 := bm I l k3; obtain ⟨c2,c3,c4,c5,c6⟩ := B3.box.p; have c7 := B3.fr.lt
   obtain ⟨i,a0,a1,a2,a3⟩ := NU.kept W3.gb; have a4 := zc i; obtain ⟨j,a5,a6,a7,a8⟩ := NV.kept W3.gb; have a9 := zc j; clear j3 k3; go_wp2_with fail
   go_end0
   refine ⟨rfl,?_,K3⟩; have J9 := id W3
   try simp only [List.append_assoc] at J9 ⊢
   exact J9
 ·obtain rfl : r1 = 1 := by rw [h1]; decide
  obtain rfl : r2 = 2 := by rw [h2]; decide
  clear h1 h2
  go_enter Tryz.func125,Tryz.ntmps125
  go_wp2_with fail
  go_region
  all_goals
   go_wp2_with fail; go_at_call 123; refine (xp w0 wb _ _ L u _ 1 U (n.grown (ze gan)) AU hu HE).mono ?_; rintro e w1 ⟨rfl,j1,r⟩; have k := zb j1; have K1 := zb ((WK.grown n (ze gan)).trans r); have s := zb ((FB.newX n 36 x m p [u,v] (.slice (some ⟨g,o,none⟩) 2 c) 24 grn).step ((WK.grown (n.grown gan) (ze grn)).trans r)); obtain ⟨b0,b1,b2,b3,b4⟩ := s.box.p; have b5 := s.fr.lt
   obtain ⟨a,t,y,z,A⟩ := NU.kept k.gb; have B := zc a; obtain ⟨b,C,D,E,F⟩ := NV.kept k.gb; have G := zc b; clear j1 r; go_wp2_with fail; go_at_call 82; refine (fk w0 wb _ _ L [32] x [32] _ _ (by simp) (k.grown grn) (by first | omega | (simp only [la,lc,ln]; omega))).mono ?_; rintro e w2 ⟨rfl,j2,H⟩; have l := zb j2; have K2 := km K1 k H; have I := bm s k H; obtain ⟨b6,b7,b8,b9,c0⟩ := I.box.p; have c1 := I.fr.lt
   obtain ⟨d,J,K,M,N⟩ := NU.kept l.gb; have O := zc d; obtain ⟨f,Q,R,X,Y⟩ := NV.kept l.gb; have Z := zc f; clear j2 H; go_wp2_with fail; go_at_call 123; refine (xp w0 wb _ _ L v _ 2 V (l.grown grn) AV hv HF).mono ?_; rintro e w3 ⟨rfl,j3,k3⟩; have W3 := zb j3; have K3 := km K2 l k3; have B3 := bm I l k3; obtain ⟨c2,c3,c4,c5,c6⟩ := B3.box.p; have c7 := B3.fr.lt
   obtain ⟨i,a0,a1,a2,a3⟩ := NU.kept W3.gb; have a4 := zc i; obtain ⟨j,a5,a6,a7,a8⟩ := NV.kept W3.gb; have a9 := zc j; clear j3 k3; go_wp2_with fail
   go_end0
   refine ⟨rfl,?_,K3⟩; have J9 := id W3
   try simp only [List.append_assoc] at J9 ⊢
   exact J9
 ·obtain rfl : r1 = 2 := by rw [h1]; decide
  obtain rfl : r2 = 3 := by rw [h2]; decide
  clear h1 h2
  go_enter Tryz.func125,Tryz.ntmps125
  go_wp2_with fail
  go_region
  all_goals
   go_wp2_with fail; go_at_call 123; refine (xp w0 wb _ _ L u _ 2 U (n.grown (ze gan)) AU hu HE).mono ?_; rintro e w1 ⟨rfl,j1,r⟩; have k := zb j1; have K1 := zb ((WK.grown n (ze gan)).trans r); have s := zb ((FB.newX n 36 x m p [u,v] (.slice (some ⟨g,o,none⟩) 2 c) 24 grn).step ((WK.grown (n.grown gan) (ze grn)).trans r)); obtain ⟨b0,b1,b2,b3,b4⟩ := s.box.p; have b5 := s.fr.lt
   obtain ⟨a,t,y,z,A⟩ := NU.kept k.gb; have B := zc a; obtain ⟨b,C,D,E,F⟩ := NV.kept k.gb; have G := zc b; clear j1 r; go_wp2_with fail; go_at_call 82; refine (fk w0 wb _ _ L [32] x [32] _ _ (by simp) (k.grown grn) (by first | omega | (simp only [la,lc,ln]; omega))).mono ?_; rintro e w2 ⟨rfl,j2,H⟩; have l := zb j2; have K2 := km K1 k H; have I := bm s k H; obtain ⟨b6,b7,b8,b9,c0⟩ := I.box.p; have c1 := I.fr.lt
   obtain ⟨d,J,K,M,N⟩ := NU.kept l.gb; have O := zc d; obtain ⟨f,Q,R,X,Y⟩ := NV.kept l.gb; have Z := zc f; clear j2 H; go_wp2_with fail; go_at_call 123; refine (xp w0 wb _ _ L v _ 3 V (l.grown grn) AV hv HF).mono ?_; rintro e w3 ⟨rfl,j3,k3⟩; have W3 := zb j3; have K3 := km K2 l k3; have B3 := bm I l k3; obtain ⟨c2,c3,c4,c5,c6⟩ := B3.box.p; have c7 := B3.fr.lt
   obtain ⟨i,a0,a1,a2,a3⟩ := NU.kept W3.gb; have a4 := zc i; obtain ⟨j,a5,a6,a7,a8⟩ := NV.kept W3.gb; have a9 := zc j; clear j3 k3; go_wp2_with fail
   go_end0
   refine ⟨rfl,?_,K3⟩; have J9 := id W3
   try simp only [List.append_assoc] at J9 ⊢
   exact J9
theorem zaz (w0 : World) (wb : Nat) (w : World) (S : Bs) (L : Nat) (x : Bs) (m : Int) (p : Int) (u : T) (v : T) (sv : Value) (h : Wr w0 wb w S L) (ha : AT w0 (T.mk 36 x m p [u,v]).subs sv) (X : Bs) (ho : ∀ (w : World) (S : Bs) (L : Nat) (sv : Value),Wr w0 wb w S L -> AT w0 (T.mk 36 x m p [u,v]).subs sv -> S.length + X.length <= 1000000000 -> Calls Tryz.prog 125 #[ptr wb,zq (.mk 36 x m p [u,v]) sv] w (WP w0 wb w S L X)) (hlen : S.length + (X).length <= 1000000000) :
  Calls Tryz.prog 83 #[ptr wb,.agg #[.int .i64 36,.string ⟨List.toArray x⟩,.int .i64 m,.int .i64 p,sv]] w (WP w0 wb w S L X) := by
 have d := zb h; have E := h.lt; have F := zb hlen; have G := zb ha; obtain ⟨g,o,c,H,U,I,V,rfl,Y,Z,t,f,J,y,i,K,z⟩ := ha.two rfl
 have j : u = H /\ v = I := by simpa [T.subs] using t
 obtain ⟨rfl,rfl⟩ := j; have M := zb f; have AU := zb y; have N := zb i; have AV := zb z; obtain ⟨k,_,_,_,_⟩ := f.kept h.gb; obtain ⟨_,_,_,_,_⟩ := i.kept h.gb; have O := zc k; clear h ha t J y f K z i
 try simp only [la,lc,ln,zr] at hlen
 have Q := zb ho; clear ho
 go_enter Tryz.func83,Tryz.ntmps83
 go_wp2_with fail; go_at_call 125; refine (Q _ _ L _ (d.grown gan) G F).mono ?_; rintro e w1 ⟨rfl,A,l⟩; have n := zb A; have R := (WK.grown d gan).trans l; have B := zb ((FB.newX d 36 x m p [u,v] (.slice (some ⟨g,o,none⟩) 2 c) 24 grn).step ((WK.grown (d.grown gan) grn).trans l)); cases B.box.q; have C := B.fr.lt
 obtain ⟨a,_,_,_,_⟩ := M.kept n.gb; have r := zc a; obtain ⟨b,_,_,_,_⟩ := N.kept n.gb; have s := zc b; clear A l; go_wp2_with fail
 go_end0
 refine ⟨rfl,?_,R⟩; have D := id n
 try simp only [List.append_assoc,List.nil_append,List.append_nil] at D ⊢
 exact D
theorem gc : EN 83 := enters_of Tryz.func83 (by kernel_rfl) rfl
theorem EW.expr {w0 : World} {wb : Nat} {us : List T} {tx : T -> Bs} (H : ∀ v ∈ us,EXW w0 wb v (tx v)) (w : World) (L : Nat) : EW w0 wb w L 83 #[ptr wb] #[] us tx := fun t sv w1 S hm ha hw _ hl => H t hm w1 S L sv hw ha hl
theorem vB (w0 : World) (wb : Nat) (w : World) (S : Bs) (L : Nat) (us : List T) (sl : Value) (tx : T -> Bs) (h : Wr w0 wb w S L) (ha : AT w0 us sl) (he : ∀ v ∈ us,EXW w0 wb v (tx v)) (hlen : S.length + ([40] ++ (zE [44,32] (us.map tx) ++ [41])).length <= 1000000000) :
  Calls Tryz.prog 122 #[ptr wb,sl] w (WP w0 wb w S L ([40] ++ (zE [44,32] (us.map tx) ++ [41]))) := by
 have b := zb h; have r := h.lt; have s := zb ha; have t := zb he; obtain ⟨_,_,rfl,_,a⟩ := ha.form
 unfold maxLen at a
 clear h ha he; simp only [la,lc,ln] at hlen
 go_enter Tryz.func122,Tryz.ntmps122
 go_wp2_with fail; go_at_call 82; refine (zQ w0 wb _ _ L [40] _ _ (by simp) (b.grown grn)).mono ?_; rintro e A ⟨rfl,d,f⟩; have g := zb d; have u := (WK.grown b grn).trans f; clear d f; go_wp2_with fail; go_at_call 117; refine (vb w0 wb _ _ L us _ [44,32] _ _ _ tx (g.grown grn) s (EW.expr t _ L) gc).mono ?_; rintro e B ⟨rfl,i,j⟩; have k := zb i; have x := km u g j; clear i j; go_wp2_with fail; go_at_call 82; refine (zQ w0 wb _ _ L [41] _ _ (by simp) (k.grown grn)).mono ?_; rintro e C ⟨rfl,l,m⟩; have y := zb l; have z := km x k m; clear l m; go_wp2_with fail
 go_end0
 refine ⟨rfl,?_,z⟩; have n := id y
 try simp only [List.append_assoc] at n ⊢
 exact n
theorem aM (w0 : World) (wb : Nat) (w : World) (S : Bs) (L : Nat) (x : Bs) (m p : Int) (u : T) (us : List T) (sv : Value) (h : Wr w0 wb w S L) (ha : AT w0 (T.mk 33 x m p (u :: us)).subs sv) (U : Bs) (tx : T -> Bs) (hu : EXW w0 wb u U) (he : ∀ v ∈ us,EXW w0 wb v (tx v)) (hlen : S.length + (U ++ ([40] ++ (zE [44,32] (us.map tx) ++ [41]))).length <= 1000000000) :
  Calls Tryz.prog 83 #[ptr wb,.agg #[.int .i64 33,.string ⟨List.toArray x⟩,.int .i64 m,.int .i64 p,sv]] w (WP w0 wb w S L (U ++ ([40] ++ (zE [44,32] (us.map tx) ++ [41])))) := by
 have f := zb h; have a2 := h.lt; have HU := zb hu; have HE := zb he; obtain ⟨g,o,c,_,rfl,_,_,n5,fu,au,ar⟩ := AT.cons ha; have NU := zb n5; have AU := zb au; obtain ⟨a0,_,_,_,_⟩ := n5.kept h.gb; have a3 := zc a0; have AR := zb ar; clear h ha hu he fu au n5 ar
 try simp only [la,lc,ln] at hlen
 rcases Nat.lt_or_ge 1 c with a1 | a1
 ·have i := zb AR
  go_enter Tryz.func83,Tryz.ntmps83
  go_wp2_with fail; go_at_call 83; refine (HU _ _ L _ (f.grown gan) AU (by first | omega | (simp only [la,lc,ln,zr]; omega))).mono ?_; rintro e w1 ⟨rfl,E,j⟩; have d := zb E; have K1 := (WK.grown f gan).trans j; have k := zb ((FB.newX f 33 x m p (u :: us) (.slice (some ⟨g,o,none⟩) (us.length + 1) c) 24 grn).step ((WK.grown (f.grown gan) grn).trans j)); obtain ⟨F,G,H,I,J⟩ := k.box.p; have K := k.fr.lt
  obtain ⟨a,l,n,r,s⟩ := NU.kept d.gb; have t := zc a; clear E j; go_wp2_with fail; go_at_call 122; refine (vB w0 wb _ _ L us _ tx (d.grown grn) i HE (by first | omega | (simp only [la,lc,ln]; omega))).mono ?_; rintro e w2 ⟨rfl,M,y⟩; have N := zb M; have K2 := km K1 d y; have O := bm k d y; obtain ⟨Q,R,V,X,Y⟩ := O.box.p; have Z := O.fr.lt
  obtain ⟨b,z,A,B,C⟩ := NU.kept N.gb; have D := zc b; clear M y; go_wp2_with fail
  go_end0
  refine ⟨rfl,?_,K2⟩; have J9 := id N
  try simp only [List.append_assoc] at J9 ⊢
  exact J9
 ·obtain rfl : c = 1 := by omega
  obtain rfl : us = [] := List.eq_nil_of_length_eq_zero (by omega); have i : Hid (AT w0 [] (.slice (some ⟨g,o,none⟩) 0 0)) := AT.nil _ _ (Nat.zero_le _)
  go_enter Tryz.func83,Tryz.ntmps83
  go_wp2_with fail; go_at_call 83; refine (HU _ _ L _ (f.grown gan) AU (by first | omega | (simp only [la,lc,ln,zr]; omega))).mono ?_; rintro e w1 ⟨rfl,E,j⟩; have d := zb E; have K1 := (WK.grown f gan).trans j; have k := zb ((FB.newX f 33 x m p [u] (.slice (some ⟨g,o,none⟩) 1 1) 24 grn).step ((WK.grown (f.grown gan) grn).trans j)); obtain ⟨F,G,H,I,J⟩ := k.box.p; have K := k.fr.lt
  obtain ⟨a,l,n,r,s⟩ := NU.kept d.gb; have t := zc a; clear E j; go_wp2_with fail; go_at_call 122; refine (vB w0 wb _ _ L [] _ tx (d.grown grn) i HE (by first | omega | (simp only [la,lc,ln]; omega))).mono ?_; rintro e w2 ⟨rfl,M,y⟩; have N := zb M; have K2 := km K1 d y; have O := bm k d y; obtain ⟨Q,R,V,X,Y⟩ := O.box.p; have Z := O.fr.lt
  obtain ⟨b,z,A,B,C⟩ := NU.kept N.gb; have D := zc b; clear M y; go_wp2_with fail
  go_end0
  refine ⟨rfl,?_,K2⟩; have J9 := id N
  try simp only [List.append_assoc] at J9 ⊢
  exact J9
section
variable (f : Nat) (x : Bs) (m p : Int) (u v : T) (us : List T)
theorem bo : zl (f + 1) (.mk 24 x m p []) = x := by simp [zl,T.kind,T.name]
theorem bW : zl (f + 1) (.mk 25 x m p [u]) = zl f u ++ ([46] ++ x) := by simp [zl,T.kind,T.name,zI,T.subs]
theorem bk : zl (f + 1) (.mk 26 x m p [u,v]) = zl f u ++ ([91] ++ (zl f v ++ [93])) := by simp [zl,T.kind,zI,T.subs]
theorem bi : zl (f + 1) (.mk 27 x m p [u]) = zl f u ++ [94] := by simp [zl,T.kind,zI,T.subs]
theorem bq : zl (f + 1) (.mk 28 x m p [u,v]) = zl f u ++ ([123] ++ (zz v ++ [125])) := by simp [zl,T.kind,zI,T.subs]
theorem bT : zl (f + 1) (.mk 29 x m p []) = vC m := by simp [zl,T.kind,T.num]
theorem bO (k : Int) (hk : k = 30 \/ k = 31 \/ k = 32) : zl (f + 1) (.mk k x m p []) = kS k := by rcases hk with rfl | rfl | rfl <;> simp [zl,T.kind,kS]
theorem bI : zl (f + 1) (.mk 33 x m p (u :: us)) = zl f u ++ ([40] ++ (zE [44,32] (us.map (zl f)) ++ [41])) := by simp [zl,T.kind,zI,T.subs]
theorem cW : zl (f + 1) (.mk 34 x m p [u]) = [126] ++ vD u 3 (zl f u) := by simp [zl,T.kind,zI,T.subs,vD]
theorem am : zl (f + 1) (.mk 35 x m p [u]) = [45] ++ vD u 2 (zl f u) := by simp [zl,T.kind,zI,T.subs,vD]
theorem bv : zl (f + 1) (.mk 37 x m p [u,v]) = vD u 1 (zl f u) ++ ([32,73,83,32] ++ zz v) := by simp [zl,T.kind,zI,T.subs,vD]
theorem bD (h : 0 <= zo x) : zl (f + 1) (.mk 36 x m p [u,v]) = vD u (max (zo x) 1) (zl f u) ++ ([32] ++ (x ++ ([32] ++ vD v (zo x + 1) (zl f v)))) := by
 have e : zl (f + 1) (.mk 36 x m p [u,v]) = (if vd u < (if zo x = 2 then 2 else 1) then 40 :: (zl f u ++ [41]) else zl f u) ++ (32 :: (x ++ (32 :: (if vd v < (if zo x = 1 then 2 else if zo x = 2 then 3 else 1) then 40 :: (zl f v ++ [41]) else zl f v)))) := by simp [zl,T.kind,zI,T.subs,T.name]; rfl
 rw [e]
 rcases qR h with a | a | a <;> rw [a] <;> simp [vD] <;> rfl
end
theorem qn (w0 : World) (wb : Nat) (hp : PT w0) : ∀ (f : Nat) (t : T),zS t <= f -> (Well .designator t -> DEW w0 wb t (zl f t)) /\ (Well .expression t -> EXW w0 wb t (zl f t)) := by
 intro f
 induction f with
 | zero => intro t h; have := uf t; omega
 | succ f ih =>
  intro t n
  have a : ∀ u,u ∈ t.subs -> zS u <= f := fun u hu => by have := yp hu; omega
  have g : Well .designator t -> DEW w0 wb t (zl (f + 1) t) := by
   intro h; have d := rn h; have H := cX h; cases H with
   | ref x p hx => rw [bo]; exact fun w S L sv hw ha hl => zak w0 wb w S L x 0 p sv hw ha hl
   | dot x p u hx hu => rw [bW]; exact fun w S L sv hw ha hl => aL w0 wb w S L x 0 p u sv hw ha _ ((ih u (a u (by simp [T.subs]))).1 hu) hl
   | index p u v hu hv => rw [bk]; exact fun w S L sv hw ha hl => zai w0 wb w S L [] 0 p u v sv hw ha _ _ ((ih u (a u (by simp [T.subs]))).1 hu) ((ih v (a v (by simp [T.subs]))).2 hv) hl
   | deref p u hu => rw [bi]; exact fun w S L sv hw ha hl => zay w0 wb w S L [] 0 p u sv hw ha _ ((ih u (a u (by simp [T.subs]))).1 hu) hl
   | guard p u v hu hv => rw [bq]; exact fun w S L sv hw ha hl => zas w0 wb w S L [] 0 p u v sv hw ha _ ((ih u (a u (by simp [T.subs]))).1 hu) hv hl
   | number m p h0 h1 => simp [T.kind] at d
   | word k p hk2 => rcases hk2 with rfl | rfl | rfl <;> simp [T.kind] at d
   | call p u us hu i => simp [T.kind] at d
   | one k p u hk2 hu => rcases hk2 with rfl | rfl <;> simp [T.kind] at d
   | is p u v hu hv => simp [T.kind] at d
   | op x p u v hx hu hv => simp [T.kind] at d
  refine ⟨g,fun h => ?_⟩; have H := dU h
  have b : ∀ (d : t.kind = 24 \/ t.kind = 25 \/ t.kind = 26 \/ t.kind = 27 \/ t.kind = 28),Well .designator t := by
   intro d; obtain ⟨l,i,j⟩ := Well.iff.1 h; refine .mk l ?_ j; rw [<- i]
   show yJ t = yR t
   unfold yR
   rcases d with e | e | e | e | e <;> simp [e]
  cases H with
  | ref x p hx => exact fun w S L sv hw ha hl => zam w0 wb w S L x 0 p sv hw ha _ (g (b (by simp [T.kind]))) hl
  | dot x p u hx hu => exact fun w S L sv hw ha hl => aP w0 wb w S L x 0 p u sv hw ha _ (g (b (by simp [T.kind]))) hl
  | index p u v hu hv => exact fun w S L sv hw ha hl => zaf w0 wb w S L [] 0 p u v sv hw ha _ (g (b (by simp [T.kind]))) hl
  | deref p u hu => exact fun w S L sv hw ha hl => zag w0 wb w S L [] 0 p u sv hw ha _ (g (b (by simp [T.kind]))) hl
  | guard p u v hu hv => exact fun w S L sv hw ha hl => zap w0 wb w S L [] 0 p u v sv hw ha _ (g (b (by simp [T.kind]))) hl
  | number m p h0 h1 => rw [bT]; exact fun w S L sv hw ha hl => zan w0 wb w S L [] m p sv hw ha h0 h1 hp hl
  | word k p hk2 => rw [bO f [] 0 p k hk2]; exact fun w S L sv hw ha hl => aU w0 wb w S L k [] 0 p sv hw (vV ha) hk2 hl
  | call p u us hu i => rw [bI]; exact fun w S L sv hw ha hl => aM w0 wb w S L [] 0 p u us sv hw ha _ (zl f) ((ih u (a u (by simp [T.subs]))).2 (ye hu)) (fun v hv => (ih v (a v (by simp [T.subs,hv]))).2 (i v hv)) hl
  | one k p u hk2 hu =>
   rcases hk2 with rfl | rfl
   ·rw [cW]; exact fun w S L sv hw ha hl => aS w0 wb w S L [] 0 p u sv hw ha _ hu ((ih u (a u (by simp [T.subs]))).2 hu) hl
   ·rw [am]; exact fun w S L sv hw ha hl => aV w0 wb w S L [] 0 p u sv hw ha _ hu ((ih u (a u (by simp [T.subs]))).2 hu) hl
  | is p u v hu hv => rw [bv]; exact fun w S L sv hw ha hl => aW w0 wb w S L [] 0 p u v sv hw ha _ hu ((ih u (a u (by simp [T.subs]))).2 hu) hv hl
  | op x p u v hx hu hv =>
   rw [bD f x 0 p u v hx]
   exact fun w S L sv hw ha hl => zaz w0 wb w S L x 0 p u v sv hw ha _ (fun w' S' L' sv' hw' ha' hl' => dy w0 wb w' S' L' x 0 p u v sv' hw' ha' _ _ _ _ hx rfl rfl hu hv ((ih u (a u (by simp [T.subs]))).2 hu) ((ih v (a v (by simp [T.subs]))).2 hv) hl') hl
end Go.Proofs.YtifapidjkelnfaaGreatDoor
