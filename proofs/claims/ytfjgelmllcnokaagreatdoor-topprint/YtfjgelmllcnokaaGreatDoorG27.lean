/- The program's writer: ranks,operands. -/
import Derived.Test.YtfjgelmllcnokaaGreatDoorG25
import Derived.Test.YtfjgelmllcnokaaGreatDoorG04
import Derived.Test.YtfjgelmllcnokaaGreatDoorG26
import Derived.Test.YtfjgelmllcnokaaGreatDoorG03
namespace Go.Proofs.YtfjgelmllcnokaaGreatDoor
open Go.RowKit Go.Maps Go.WideMaps Go.WideElems
set_option maxHeartbeats 4000000
set_option maxRecDepth 1000000
theorem nK (w : World) (ob : Nat) (x : List UInt8) (h : IsOps w ob) (hx : 0 <= zv x) : (Instr.lookup 66 (.map (some ob)) (.string ⟨x.toArray⟩) false).run Tryz.prog w = .ok (.int .i64 (zv x)) w := by
 obtain ⟨c,d,b,-⟩ := World.ownsMap.lookup_int h uR Tryz.underlying66 Tryz.underlying122 (nJ w) (keyOf_string_mk (P := Tryz.prog) Tryz.underlying9 (s := ⟨x.toArray⟩) (by have := ix hx; simp [ByteArray.size]; unfold maxLen; omega))
 unfold cW at b
 have e := rL x (.lit (.int .i64 0)) oD (.map []) ⟨_,rfl⟩; rw [pR,if_pos hx] at e; simp only at e; rw [e] at b
 injection b with h8
 injection h8 with _ h8
 rw [d,h8]
theorem gq : Keyed Tryz.prog 3 := int_keyed Tryz.underlying3
theorem zc0 (w : World) : (zeroValue 129).run Tryz.prog w = .ok (.agg #[.string ⟨#[]⟩]) w := by kernel_rfl
def tw (k : Int) : List UInt8 := if k = 30 then [84,82,85,69] else if k = 31 then [70,65,76,83,69] else if k = 32 then [78,73,76] else jn k
theorem ml (w : World) (db : Nat) (k : Int) (h : IsWds w db) (hk : k = 30 \/ k = 31 \/ k = 32 \/ k = 20 \/ k = 21 \/ k = 22 \/ k = 23) : (Instr.lookup 67 (.map (some db)) (.int .i64 k) false).run Tryz.prog w = .ok (.agg #[.string ⟨(tw k).toArray⟩]) w := by
 have b : keyOf Tryz.prog 3 (.int .i64 k) = some (.int .i64 k) := keyOf_int_mk (P := Tryz.prog) Tryz.underlying3 (by rcases hk with rfl | rfl | rfl | rfl | rfl | rfl | rfl <;> decide); obtain ⟨_,_,d,f⟩ := World.ownsMap.lookup h gq Tryz.underlying67 (zc0 w) (zd := .lit (.string [])) (zp := []) rfl b
 have e : zbo.atKey (.int .i64 k) (.lit (.string [])) = .lit (.string (tw k)) := by
  rcases hk with rfl | rfl | rfl | rfl | rfl | rfl | rfl <;> rfl
 rw [e] at f; rw [d,aY f]
theorem Wr.maps {w0 : World} {wb : Nat} {w : World} {S : List UInt8} {L : Nat} (h : Wr w0 wb w S L) : ∃ ob db,w.cell? ⟨wb,3,none⟩ = some (.map (some ob)) /\ w.cell? ⟨wb,4,none⟩ = some (.map (some db)) /\ IsOps w ob /\ IsWds w db := by
 obtain ⟨_,_,ob,db,_,b,_,_,d,e,_,_⟩ := h.st
 exact ⟨ob,db,by rw [Lib.cell_of_heap b]; rfl,by rw [Lib.cell_of_heap b]; rfl,d,e⟩
theorem cf (w0 : World) (wb : Nat) (w : World) (S : List UInt8) (L : Nat) (t : T) (sv : Value) (h : Wr w0 wb w S L) (ha : ∃ a n c,sv = .slice a n c) (hx : t.kind = 36 -> 0 <= zv t.name) :
  Calls Tryz.prog 140 #[ptr wb,yl t sv] w (Sy w (.int .i64 (yH t))) := by
 have o := h.lt; obtain ⟨r,v,y,-,i,-⟩ := h.maps; obtain ⟨a,n,c,rfl⟩ := ha; obtain ⟨b,x,m,p,l⟩ := t
 change Calls Tryz.prog 140 #[ptr wb,.agg #[.int .i64 b,.string ⟨x.toArray⟩,.int .i64 m,.int .i64 p,.slice a n c]] w _
 have j := za i; clear h i
 by_cases d : b = 36
 ·subst d
  have g : 0 <= zv x := hx rfl; rw [show yH (.mk 36 x m p l) = zv x from rfl]; have s := nK ((w.alloc (.cells #[.int .i64 36,.string ⟨x.toArray⟩,.int .i64 m,.int .i64 p,.slice a n c] 28)).drew) r x (yN j.out ((zj gan).block _ (World.ownsMap.lt j.out) (by simp))) g; clear hx
  generalize zv x = lv at *
  go_enter Tryz.func140,Tryz.ntmps140
  go_wp2_with fail
  go_region
  all_goals
   go_wp2_with fail
   go_ret
   exact ⟨rfl,(zj gan)⟩
 ·by_cases e : b = 37
  ·subst e
   go_enter Tryz.func140,Tryz.ntmps140
   go_wp2_with fail
   go_ret
   exact ⟨rfl,zf grn _⟩
  ·by_cases f : b = 35
   ·subst f
    go_enter Tryz.func140,Tryz.ntmps140
    go_wp2_with fail
    go_ret
    exact ⟨rfl,zf grn _⟩
   ·have u : Hid (yH (.mk b x m p l) = 3) := by show _ = _; simp [yH,T.kind,d,e,f]
    rw [u.out]
    go_enter Tryz.func140,Tryz.ntmps140
    go_wp2_with fail
    go_ret
    exact ⟨rfl,zf grn _⟩
def EXW (w0 : World) (wb : Nat) (t : T) (E : List UInt8) : Prop := ∀ (w : World) (S : List UInt8) (L : Nat) (sv : Value),Wr w0 wb w S L -> AT w0 t.subs sv -> S.length + E.length <= 1000000000 -> Calls Tryz.prog 41 #[ptr wb,yl t sv] w (WP w0 wb w S L E)
theorem aK {t : T} (h : Well .expression t) : t.kind = 36 -> 0 <= zv t.name := by
 intro b; have := zct h; cases this with
 | op x p u v hx hu hv => exact hx
 | one k p u hk2 hu => rcases hk2 with e | e <;> (subst e; cases b)
 | word k p hk2 => rcases hk2 with e | e | e <;> (subst e; cases b)
 | _ => cases b
theorem ub (w0 : World) (wb : Nat) (w : World) (S : List UInt8) (L : Nat) (t : T) (sv : Value) (r : Int) (E : List UInt8) (h : Wr w0 wb w S L) (ha : AT w0 t.subs sv) (ht : Well .expression t) (he : EXW w0 wb t E) (hlen : S.length + (kC t r E).length <= 1000000000) :
  Calls Tryz.prog 89 #[ptr wb,yl t sv,.int .i64 r] w (WP w0 wb w S L (kC t r E)) := by
 have U := fun w' S' (h' : Wr w0 wb w' S' L) => za (cf w0 wb w' S' L t sv h' (bh ha) (aK ht))
 have HA := za ha; have HE := za he; have b := za h; have a2 := h.lt
 unfold kC at hlen ⊢
 obtain ⟨a,n,c,rfl,_,_,hl⟩ := ha.any; obtain ⟨O,x,m,p,l⟩ := t; clear h ha he ht hl
 change Calls Tryz.prog 89 #[ptr wb,.agg #[.int .i64 O,.string ⟨x.toArray⟩,.int .i64 m,.int .i64 p,.slice a n c],.int .i64 r] w _
 generalize yH (.mk O x m p l) = R at U hlen ⊢
 by_cases hR : R < r
 ·rw [if_pos hR] at hlen ⊢
  simp only [la,lc,ln] at hlen
  go_enter Tryz.func89,Tryz.ntmps89
  go_wp2_with fail; go_at_call 140; refine ((U _ _ (b.out.grown gan)).out).mono ?_; rintro e w1 ⟨rfl,d⟩; have o := b.out.grown (zb gan d); have s := WK.grown b.out (zb gan d); have f := za o; have V := za s; have g := za ((FB.newX b.out O x m p l (.slice a n c) 28 grn).step (WK.grown (b.out.grown gan) (zb grn d))); obtain ⟨u,v,y,z,A⟩ := g.out.box.p; have B := g.out.fr.lt
  clear o s; go_wp2_with fail; go_at_call 40; refine (ye w0 wb _ _ L [40] _ _ (by simp) (f.out.grown grn) (by first | omega | (simp only [List.length_cons,List.length_nil]; omega))).mono ?_; rintro e w2 ⟨rfl,C,i⟩; have D := za C; have X := km V f i; have j := bm g f i; obtain ⟨F,H,I,J,K⟩ := j.out.box.p; have M := j.out.fr.lt
  clear C i; go_wp2_with fail; go_at_call 41; refine (HE.out _ _ L _ (D.out.grown grn) HA.out (by first | omega | (simp only [la,lc,ln]; omega))).mono ?_; rintro e w3 ⟨rfl,j3,Y⟩; have Z := za j3; have K3 := km X D Y; have B3 := bm j D Y; cases B3.out.box.q; have a0 := B3.out.fr.lt
  clear j3 Y; go_wp2_with fail; go_at_call 40; refine (ye w0 wb _ _ L [41] _ _ (by simp) (Z.out.grown grn) (by first | omega | (simp only [la,lc,ln]; omega))).mono ?_; rintro e w4 ⟨rfl,j4,k4⟩; have W4 := za j4; have K4 := km K3 Z k4; have B4 := bm B3 Z k4; cases B4.out.box.q; have a1 := B4.out.fr.lt
  clear j4 k4; go_wp2_with fail
  go_end0
  refine ⟨rfl,?_,K4.out⟩; have N := W4.out
  try simp only [List.append_assoc,List.nil_append,List.cons_append] at N ⊢
  exact N
 ·rw [if_neg hR] at hlen ⊢
  go_enter Tryz.func89,Tryz.ntmps89
  go_wp2_with fail; go_at_call 140; refine ((U _ _ (b.out.grown gan)).out).mono ?_; rintro e w1 ⟨rfl,d⟩; have o := b.out.grown (zb gan d); have s := WK.grown b.out (zb gan d); have f := za o; have V := za s; have g := za ((FB.newX b.out O x m p l (.slice a n c) 28 grn).step (WK.grown (b.out.grown gan) (zb grn d))); obtain ⟨u,v,y,z,A⟩ := g.out.box.p; have B := g.out.fr.lt
  clear o s; go_wp2_with fail; go_at_call 41; refine (HE.out _ _ L _ (f.out.grown grn) HA.out (by first | omega | (simp only [la,lc,ln,zo]; omega))).mono ?_; rintro e w2 ⟨rfl,C,i⟩; have D := za C; have X := km V f i; have j := bm g f i; obtain ⟨F,H,I,J,K⟩ := j.out.box.p; have M := j.out.fr.lt
  clear C i; go_wp2_with fail
  go_end0
  refine ⟨rfl,?_,X.out⟩; have N := D.out
  try simp only [List.append_assoc,List.nil_append,List.append_nil,List.cons_append] at N ⊢
  exact N
def DEW (w0 : World) (wb : Nat) (t : T) (E : List UInt8) : Prop := ∀ (w : World) (S : List UInt8) (L : Nat) (sv : Value),Wr w0 wb w S L -> AT w0 t.subs sv -> S.length + E.length <= 1000000000 -> Calls Tryz.prog 92 #[ptr wb,yl t sv] w (WP w0 wb w S L E)
theorem zjr (w0 : World) (wb : Nat) (w : World) (S : List UInt8) (L : Nat) (x : List UInt8) (m : Int) (p : Int) (sv : Value) (h : Wr w0 wb w S L) (ha : AT w0 (T.mk 24 x m p []).subs sv) (hlen : S.length + (x).length <= 1000000000) :
  Calls Tryz.prog 92 #[ptr wb,.agg #[.int .i64 24,.string ⟨List.toArray x⟩,.int .i64 m,.int .i64 p,sv]] w (WP w0 wb w S L x) := by
 have b := za h; have l := h.lt; have s := za hlen; have t := za ha; obtain ⟨a,c,rfl,_,n⟩ := ha.zero rfl; clear h ha n
 try simp only [la,lc,ln,zo] at hlen
 go_enter Tryz.func92,Tryz.ntmps92
 go_wp2_with fail; go_at_call 40; refine (ye w0 wb _ _ L x _ _ (by simp) (b.out.grown gan) (by first | omega | (simp only [la,lc,ln,zo]; omega))).mono ?_; rintro e u ⟨rfl,f,d⟩; have o := za f; have r := za ((WK.grown b.out gan).trans d); have g := za ((FB.newX b.out 24 x m p [] (.slice a 0 c) 28 grn).step ((WK.grown (b.out.grown gan) grn).trans d)); cases g.out.box.q; have i := g.out.fr.lt
 clear f d; go_wp2_with fail
 go_end0
 refine ⟨rfl,?_,r.out⟩; have j := o.out
 try simp only [List.append_assoc,List.nil_append,List.append_nil] at j ⊢
 exact j
theorem zkz (w0 : World) (wb : Nat) (w : World) (S : List UInt8) (L : Nat) (x : List UInt8) (m : Int) (p : Int) (u : T) (sv : Value) (h : Wr w0 wb w S L) (ha : AT w0 (T.mk 25 x m p [u]).subs sv) (U : List UInt8) (hd : DEW w0 wb u U) (hlen : S.length + (U ++ ([46] ++ x)).length <= 1000000000) :
  Calls Tryz.prog 92 #[ptr wb,.agg #[.int .i64 25,.string ⟨List.toArray x⟩,.int .i64 m,.int .i64 p,sv]] w (WP w0 wb w S L (U ++ ([46] ++ x))) := by
 have f := za h; have J := h.lt; have Y := za hlen; have Z := za ha; obtain ⟨g,o,c,K,su,rfl,hn,hc,y,j,M,z⟩ := ha.one rfl
 obtain rfl : u = K := by simpa [T.subs] using y
 have A := za j; have N := za z; obtain ⟨l,_,_,_,_⟩ := j.kept h.gb; have O := ze l; clear h ha y M z j
 try simp only [la,lc,ln] at hlen
 have R := za hd; clear hd
 go_enter Tryz.func92,Tryz.ntmps92
 go_wp2_with fail; go_at_call 92; refine (R.out _ _ L _ (f.out.grown gan) N.out (by first | omega | (simp only [la,lc,ln,zo]; omega))).mono ?_; rintro e w1 ⟨rfl,B,n⟩; have i := za B; have V := za ((WK.grown f.out gan).trans n); have r := za ((FB.newX f.out 25 x m p [u] (.slice (some ⟨g,o,none⟩) 1 c) 28 grn).step ((WK.grown (f.out.grown gan) grn).trans n)); cases r.out.box.q; have C := r.out.fr.lt
 obtain ⟨b,_,_,_,_⟩ := A.out.kept i.out.gb; have s := ze b; clear B n; go_wp2_with fail; go_at_call 40; refine (dE w0 wb _ _ L [46] x _ _ (by simp) (i.out.grown grn) (by first | omega | (simp only [la,lc,ln]; omega))).mono ?_; rintro e w2 ⟨rfl,D,t⟩; have E := za D; have X := km V i t; have F := bm r i t; cases F.out.box.q; have H := F.out.fr.lt
 obtain ⟨d,_,_,_,_⟩ := A.out.kept E.out.gb; have v := ze d; clear D t; go_wp2_with fail
 go_end0
 refine ⟨rfl,?_,X.out⟩; have I := E.out
 try simp only [List.append_assoc] at I ⊢
 exact I
theorem zjy (w0 : World) (wb : Nat) (w : World) (S : List UInt8) (L : Nat) (x : List UInt8) (m : Int) (p : Int) (u : T) (v : T) (sv : Value) (h : Wr w0 wb w S L) (ha : AT w0 (T.mk 26 x m p [u,v]).subs sv) (U V : List UInt8) (hd : DEW w0 wb u U) (he : EXW w0 wb v V) (hlen : S.length + (U ++ ([91] ++ (V ++ [93]))).length <= 1000000000) :
  Calls Tryz.prog 92 #[ptr wb,.agg #[.int .i64 26,.string ⟨List.toArray x⟩,.int .i64 m,.int .i64 p,sv]] w (WP w0 wb w S L (U ++ ([91] ++ (V ++ [93])))) := by
 have z := za h; have a7 := h.lt; have HL := za hlen; have HA := za ha; obtain ⟨g,o,c,u',su,v',sw,rfl,hn,hc,hl,C,fu,au,D,fv,av⟩ := ha.two rfl
 have E : u = u' /\ v = v' := by simpa [T.subs] using hl
 obtain ⟨rfl,rfl⟩ := E; have A := za C; have AU := za au; have B := za D; have AV := za av; obtain ⟨F,_,_,_,_⟩ := C.kept h.gb; obtain ⟨_,_,_,_,_⟩ := D.kept h.gb; have a8 := ze F; clear h ha hl fu au C fv av D
 try simp only [la,lc,ln] at hlen
 have HD := za hd; clear hd; have HE := za he; clear he
 go_enter Tryz.func92,Tryz.ntmps92
 go_wp2_with fail; go_at_call 92; refine (HD.out _ _ L _ (z.out.grown gan) AU.out (by first | omega | (simp only [la,lc,ln,zo]; omega))).mono ?_; rintro e w1 ⟨rfl,j1,H⟩; have s := za j1; have K1 := za ((WK.grown z.out gan).trans H); have I := za ((FB.newX z.out 26 x m p [u,v] (.slice (some ⟨g,o,none⟩) 2 c) 28 grn).step ((WK.grown (z.out.grown gan) grn).trans H)); cases I.out.box.q; have a3 := I.out.fr.lt
 obtain ⟨b,_,_,_,_⟩ := A.out.kept s.out.gb; have J := ze b; obtain ⟨d,_,_,_,_⟩ := B.out.kept s.out.gb; have K := ze d; clear j1 H; go_wp2_with fail; go_at_call 40; refine (ye w0 wb _ _ L [91] _ _ (by simp) (s.out.grown grn) (by first | omega | (simp only [la,lc,ln]; omega))).mono ?_; rintro e w2 ⟨rfl,j2,M⟩; have t := za j2; have K2 := km K1 s M; have N := bm I s M; cases N.out.box.q; have a4 := N.out.fr.lt
 obtain ⟨f,_,_,_,_⟩ := A.out.kept t.out.gb; have O := ze f; obtain ⟨i,_,_,_,_⟩ := B.out.kept t.out.gb; have R := ze i; clear j2 M; go_wp2_with fail; go_at_call 41; refine (HE.out _ _ L _ (t.out.grown grn) AV.out (by first | omega | (simp only [la,lc,ln]; omega))).mono ?_; rintro e w3 ⟨rfl,j3,X⟩; have y := za j3; have K3 := km K2 t X; have Y := bm N t X; cases Y.out.box.q; have a5 := Y.out.fr.lt
 obtain ⟨j,_,_,_,_⟩ := A.out.kept y.out.gb; have Z := ze j; obtain ⟨l,_,_,_,_⟩ := B.out.kept y.out.gb; have a0 := ze l; clear j3 X; go_wp2_with fail; go_at_call 40; refine (ye w0 wb _ _ L [93] _ _ (by simp) (y.out.grown grn) (by first | omega | (simp only [la,lc,ln]; omega))).mono ?_; rintro e w4 ⟨rfl,j4,k4⟩; have W4 := za j4; have K4 := km K3 y k4; have B4 := bm Y y k4; cases B4.out.box.q; have a6 := B4.out.fr.lt
 obtain ⟨n,_,_,_,_⟩ := A.out.kept W4.out.gb; have a1 := ze n; obtain ⟨r,_,_,_,_⟩ := B.out.kept W4.out.gb; have a2 := ze r; clear j4 k4; go_wp2_with fail
 go_end0
 refine ⟨rfl,?_,K4.out⟩; have J9 := W4.out
 try simp only [List.append_assoc] at J9 ⊢
 exact J9
theorem zjf (w0 : World) (wb : Nat) (w : World) (S : List UInt8) (L : Nat) (x : List UInt8) (m : Int) (p : Int) (u : T) (sv : Value) (h : Wr w0 wb w S L) (ha : AT w0 (T.mk 27 x m p [u]).subs sv) (U : List UInt8) (hd : DEW w0 wb u U) (hlen : S.length + (U ++ [94]).length <= 1000000000) :
  Calls Tryz.prog 92 #[ptr wb,.agg #[.int .i64 27,.string ⟨List.toArray x⟩,.int .i64 m,.int .i64 p,sv]] w (WP w0 wb w S L (U ++ [94])) := by
 have f := za h; have J := h.lt; have Y := za hlen; have Z := za ha; obtain ⟨g,o,c,K,su,rfl,hn,hc,y,j,M,z⟩ := ha.one rfl
 obtain rfl : u = K := by simpa [T.subs] using y
 have A := za j; have N := za z; obtain ⟨l,_,_,_,_⟩ := j.kept h.gb; have O := ze l; clear h ha y M z j
 try simp only [la,lc,ln] at hlen
 have R := za hd; clear hd
 go_enter Tryz.func92,Tryz.ntmps92
 go_wp2_with fail; go_at_call 92; refine (R.out _ _ L _ (f.out.grown gan) N.out (by first | omega | (simp only [la,lc,ln,zo]; omega))).mono ?_; rintro e w1 ⟨rfl,B,n⟩; have i := za B; have V := za ((WK.grown f.out gan).trans n); have r := za ((FB.newX f.out 27 x m p [u] (.slice (some ⟨g,o,none⟩) 1 c) 28 grn).step ((WK.grown (f.out.grown gan) grn).trans n)); cases r.out.box.q; have C := r.out.fr.lt
 obtain ⟨b,_,_,_,_⟩ := A.out.kept i.out.gb; have s := ze b; clear B n; go_wp2_with fail; go_at_call 40; refine (ye w0 wb _ _ L [94] _ _ (by simp) (i.out.grown grn) (by first | omega | (simp only [la,lc,ln]; omega))).mono ?_; rintro e w2 ⟨rfl,D,t⟩; have E := za D; have X := km V i t; have F := bm r i t; cases F.out.box.q; have H := F.out.fr.lt
 obtain ⟨d,_,_,_,_⟩ := A.out.kept E.out.gb; have v := ze d; clear D t; go_wp2_with fail
 go_end0
 refine ⟨rfl,?_,X.out⟩; have I := E.out
 try simp only [List.append_assoc] at I ⊢
 exact I
theorem zkw (w0 : World) (wb : Nat) (w : World) (S : List UInt8) (L : Nat) (x : List UInt8) (m : Int) (p : Int) (u : T) (v : T) (sv : Value) (h : Wr w0 wb w S L) (ha : AT w0 (T.mk 28 x m p [u,v]).subs sv) (U : List UInt8) (hd : DEW w0 wb u U) (ht : TN v) (hlen : S.length + (U ++ ([123] ++ (zB v ++ [125]))).length <= 1000000000) :
  Calls Tryz.prog 92 #[ptr wb,.agg #[.int .i64 28,.string ⟨List.toArray x⟩,.int .i64 m,.int .i64 p,sv]] w (WP w0 wb w S L (U ++ ([123] ++ (zB v ++ [125])))) := by
 have z := za h; have a6 := h.lt; have HL := za hlen; have HA := za ha; obtain ⟨g,o,c,u',su,v',sw,rfl,hn,hc,hl,C,fu,au,D,fv,av⟩ := ha.two rfl
 have E : u = u' /\ v = v' := by simpa [T.subs] using hl
 obtain ⟨rfl,rfl⟩ := E; have A := za C; have AU := za au; have B := za D; have AV := za av; obtain ⟨F,_,_,_,_⟩ := C.kept h.gb; obtain ⟨_,_,_,_,_⟩ := D.kept h.gb; have a7 := ze F; clear h ha hl fu au C fv av D
 try simp only [la,lc,ln] at hlen
 have HD := za hd; clear hd
 go_enter Tryz.func92,Tryz.ntmps92
 go_wp2_with fail; go_at_call 92; refine (HD.out _ _ L _ (z.out.grown gan) AU.out (by first | omega | (simp only [la,lc,ln,zo]; omega))).mono ?_; rintro e w1 ⟨rfl,j1,H⟩; have s := za j1; have K1 := za ((WK.grown z.out gan).trans H); have I := za ((FB.newX z.out 28 x m p [u,v] (.slice (some ⟨g,o,none⟩) 2 c) 28 grn).step ((WK.grown (z.out.grown gan) grn).trans H)); cases I.out.box.q; have a2 := I.out.fr.lt
 obtain ⟨b,_,_,_,_⟩ := A.out.kept s.out.gb; have J := ze b; obtain ⟨d,_,_,_,_⟩ := B.out.kept s.out.gb; have K := ze d; clear j1 H; go_wp2_with fail; go_at_call 40; refine (ye w0 wb _ _ L [123] _ _ (by simp) (s.out.grown grn) (by first | omega | (simp only [la,lc,ln]; omega))).mono ?_; rintro e w2 ⟨rfl,j2,M⟩; have t := za j2; have K2 := km K1 s M; have N := bm I s M; cases N.out.box.q; have a3 := N.out.fr.lt
 obtain ⟨f,_,_,_,_⟩ := A.out.kept t.out.gb; have O := ze f; obtain ⟨i,_,_,_,_⟩ := B.out.kept t.out.gb; have R := ze i; clear j2 M; go_wp2_with fail; go_at_call 90; refine (xI w0 wb _ _ L v _ (t.out.grown grn) AV.out ht (by first | omega | (simp only [la,lc,ln]; omega))).mono ?_; rintro e w3 ⟨rfl,j3,V⟩; have y := za j3; have K3 := km K2 t V; have X := bm N t V; cases X.out.box.q; have a4 := X.out.fr.lt
 obtain ⟨j,_,_,_,_⟩ := A.out.kept y.out.gb; have Y := ze j; obtain ⟨l,_,_,_,_⟩ := B.out.kept y.out.gb; have Z := ze l; clear j3 V; go_wp2_with fail; go_at_call 40; refine (ye w0 wb _ _ L [125] _ _ (by simp) (y.out.grown grn) (by first | omega | (simp only [la,lc,ln]; omega))).mono ?_; rintro e w4 ⟨rfl,j4,k4⟩; have W4 := za j4; have K4 := km K3 y k4; have B4 := bm X y k4; cases B4.out.box.q; have a5 := B4.out.fr.lt
 obtain ⟨n,_,_,_,_⟩ := A.out.kept W4.out.gb; have a0 := ze n; obtain ⟨r,_,_,_,_⟩ := B.out.kept W4.out.gb; have a1 := ze r; clear j4 k4; go_wp2_with fail
 go_end0
 refine ⟨rfl,?_,K4.out⟩; have J9 := W4.out
 try simp only [List.append_assoc] at J9 ⊢
 exact J9
theorem zjw (w0 : World) (wb : Nat) (w : World) (S : List UInt8) (L : Nat) (x : List UInt8) (m : Int) (p : Int) (sv : Value) (h : Wr w0 wb w S L) (ha : AT w0 (T.mk 24 x m p []).subs sv) (X : List UInt8) (hd : DEW w0 wb (.mk 24 x m p []) X) (hlen : S.length + (X).length <= 1000000000) :
  Calls Tryz.prog 41 #[ptr wb,.agg #[.int .i64 24,.string ⟨List.toArray x⟩,.int .i64 m,.int .i64 p,sv]] w (WP w0 wb w S L X) := by
 have b := za h; have l := h.lt; have n := za hlen; have o := za ha; obtain ⟨a,c,rfl,_,r⟩ := ha.zero rfl; clear h ha r
 try simp only [la,lc,ln,zo] at hlen
 have s := za hd; clear hd
 go_enter Tryz.func41,Tryz.ntmps41
 go_wp2_with fail; go_at_call 92; refine (s.out _ _ L _ (b.out.grown gan) o.out n.out).mono ?_; rintro e v ⟨rfl,f,d⟩; have t := za f; have u := za ((WK.grown b.out gan).trans d); have g := za ((FB.newX b.out 24 x m p [] (.slice a 0 c) 28 grn).step ((WK.grown (b.out.grown gan) grn).trans d)); cases g.out.box.q; have i := g.out.fr.lt
 clear f d; go_wp2_with fail
 go_end0
 refine ⟨rfl,?_,u.out⟩; have j := t.out
 try simp only [List.append_assoc,List.nil_append,List.append_nil] at j ⊢
 exact j
theorem zjp (w0 : World) (wb : Nat) (w : World) (S : List UInt8) (L : Nat) (x : List UInt8) (m : Int) (p : Int) (u : T) (sv : Value) (h : Wr w0 wb w S L) (ha : AT w0 (T.mk 25 x m p [u]).subs sv) (X : List UInt8) (hd : DEW w0 wb (.mk 25 x m p [u]) X) (hlen : S.length + (X).length <= 1000000000) :
  Calls Tryz.prog 41 #[ptr wb,.agg #[.int .i64 25,.string ⟨List.toArray x⟩,.int .i64 m,.int .i64 p,sv]] w (WP w0 wb w S L X) := by
 have d := za h; have A := h.lt; have B := za hlen; have C := za ha; obtain ⟨g,o,c,D,K,rfl,M,N,n,f,E,r⟩ := ha.one rfl
 obtain rfl : u = D := by simpa [T.subs] using n
 have F := za f; have O := za r; obtain ⟨i,_,_,_,_⟩ := f.kept h.gb; have H := ze i; clear h ha n E r f
 try simp only [la,lc,ln,zo] at hlen
 have I := za hd; clear hd
 go_enter Tryz.func41,Tryz.ntmps41
 go_wp2_with fail; go_at_call 92; refine (I.out _ _ L _ (d.out.grown gan) C.out B.out).mono ?_; rintro e R ⟨rfl,s,j⟩; have t := za s; have J := za ((WK.grown d.out gan).trans j); have v := za ((FB.newX d.out 25 x m p [u] (.slice (some ⟨g,o,none⟩) 1 c) 28 grn).step ((WK.grown (d.out.grown gan) grn).trans j)); cases v.out.box.q; have y := v.out.fr.lt
 obtain ⟨b,_,_,_,_⟩ := F.out.kept t.out.gb; have l := ze b; clear s j; go_wp2_with fail
 go_end0
 refine ⟨rfl,?_,J.out⟩; have z := t.out
 try simp only [List.append_assoc,List.nil_append,List.append_nil] at z ⊢
 exact z
theorem zj3 (w0 : World) (wb : Nat) (w : World) (S : List UInt8) (L : Nat) (x : List UInt8) (m : Int) (p : Int) (u : T) (v : T) (sv : Value) (h : Wr w0 wb w S L) (ha : AT w0 (T.mk 26 x m p [u,v]).subs sv) (X : List UInt8) (hd : DEW w0 wb (.mk 26 x m p [u,v]) X) (hlen : S.length + (X).length <= 1000000000) :
  Calls Tryz.prog 41 #[ptr wb,.agg #[.int .i64 26,.string ⟨List.toArray x⟩,.int .i64 m,.int .i64 p,sv]] w (WP w0 wb w S L X) := by
 have f := za h; have H := h.lt; have I := za hlen; have J := za ha; obtain ⟨g,o,c,K,su,M,sw,rfl,hn,hc,z,i,N,A,j,O,B⟩ := ha.two rfl
 have l : u = K /\ v = M := by simpa [T.subs] using z
 obtain ⟨rfl,rfl⟩ := l; have R := za i; have AU := za A; have U := za j; have AV := za B; obtain ⟨n,_,_,_,_⟩ := i.kept h.gb; obtain ⟨_,_,_,_,_⟩ := j.kept h.gb; have V := ze n; clear h ha z N A i O B j
 try simp only [la,lc,ln,zo] at hlen
 have Y := za hd; clear hd
 go_enter Tryz.func41,Tryz.ntmps41
 go_wp2_with fail; go_at_call 92; refine (Y.out _ _ L _ (f.out.grown gan) J.out I.out).mono ?_; rintro e w1 ⟨rfl,C,r⟩; have s := za C; have Z := za ((WK.grown f.out gan).trans r); have D := za ((FB.newX f.out 26 x m p [u,v] (.slice (some ⟨g,o,none⟩) 2 c) 28 grn).step ((WK.grown (f.out.grown gan) grn).trans r)); cases D.out.box.q; have E := D.out.fr.lt
 obtain ⟨b,_,_,_,_⟩ := R.out.kept s.out.gb; have t := ze b; obtain ⟨d,_,_,_,_⟩ := U.out.kept s.out.gb; have y := ze d; clear C r; go_wp2_with fail
 go_end0
 refine ⟨rfl,?_,Z.out⟩; have F := s.out
 try simp only [List.append_assoc,List.nil_append,List.append_nil] at F ⊢
 exact F
theorem zj5 (w0 : World) (wb : Nat) (w : World) (S : List UInt8) (L : Nat) (x : List UInt8) (m : Int) (p : Int) (u : T) (sv : Value) (h : Wr w0 wb w S L) (ha : AT w0 (T.mk 27 x m p [u]).subs sv) (X : List UInt8) (hd : DEW w0 wb (.mk 27 x m p [u]) X) (hlen : S.length + (X).length <= 1000000000) :
  Calls Tryz.prog 41 #[ptr wb,.agg #[.int .i64 27,.string ⟨List.toArray x⟩,.int .i64 m,.int .i64 p,sv]] w (WP w0 wb w S L X) := by
 have d := za h; have A := h.lt; have B := za hlen; have C := za ha; obtain ⟨g,o,c,D,K,rfl,M,N,n,f,E,r⟩ := ha.one rfl
 obtain rfl : u = D := by simpa [T.subs] using n
 have F := za f; have O := za r; obtain ⟨i,_,_,_,_⟩ := f.kept h.gb; have H := ze i; clear h ha n E r f
 try simp only [la,lc,ln,zo] at hlen
 have I := za hd; clear hd
 go_enter Tryz.func41,Tryz.ntmps41
 go_wp2_with fail; go_at_call 92; refine (I.out _ _ L _ (d.out.grown gan) C.out B.out).mono ?_; rintro e R ⟨rfl,s,j⟩; have t := za s; have J := za ((WK.grown d.out gan).trans j); have v := za ((FB.newX d.out 27 x m p [u] (.slice (some ⟨g,o,none⟩) 1 c) 28 grn).step ((WK.grown (d.out.grown gan) grn).trans j)); cases v.out.box.q; have y := v.out.fr.lt
 obtain ⟨b,_,_,_,_⟩ := F.out.kept t.out.gb; have l := ze b; clear s j; go_wp2_with fail
 go_end0
 refine ⟨rfl,?_,J.out⟩; have z := t.out
 try simp only [List.append_assoc,List.nil_append,List.append_nil] at z ⊢
 exact z
theorem zkj (w0 : World) (wb : Nat) (w : World) (S : List UInt8) (L : Nat) (x : List UInt8) (m : Int) (p : Int) (u : T) (v : T) (sv : Value) (h : Wr w0 wb w S L) (ha : AT w0 (T.mk 28 x m p [u,v]).subs sv) (X : List UInt8) (hd : DEW w0 wb (.mk 28 x m p [u,v]) X) (hlen : S.length + (X).length <= 1000000000) :
  Calls Tryz.prog 41 #[ptr wb,.agg #[.int .i64 28,.string ⟨List.toArray x⟩,.int .i64 m,.int .i64 p,sv]] w (WP w0 wb w S L X) := by
 have f := za h; have H := h.lt; have I := za hlen; have J := za ha; obtain ⟨g,o,c,K,su,M,sw,rfl,hn,hc,z,i,N,A,j,O,B⟩ := ha.two rfl
 have l : u = K /\ v = M := by simpa [T.subs] using z
 obtain ⟨rfl,rfl⟩ := l; have R := za i; have AU := za A; have U := za j; have AV := za B; obtain ⟨n,_,_,_,_⟩ := i.kept h.gb; obtain ⟨_,_,_,_,_⟩ := j.kept h.gb; have V := ze n; clear h ha z N A i O B j
 try simp only [la,lc,ln,zo] at hlen
 have Y := za hd; clear hd
 go_enter Tryz.func41,Tryz.ntmps41
 go_wp2_with fail; go_at_call 92; refine (Y.out _ _ L _ (f.out.grown gan) J.out I.out).mono ?_; rintro e w1 ⟨rfl,C,r⟩; have s := za C; have Z := za ((WK.grown f.out gan).trans r); have D := za ((FB.newX f.out 28 x m p [u,v] (.slice (some ⟨g,o,none⟩) 2 c) 28 grn).step ((WK.grown (f.out.grown gan) grn).trans r)); cases D.out.box.q; have E := D.out.fr.lt
 obtain ⟨b,_,_,_,_⟩ := R.out.kept s.out.gb; have t := ze b; obtain ⟨d,_,_,_,_⟩ := U.out.kept s.out.gb; have y := ze d; clear C r; go_wp2_with fail
 go_end0
 refine ⟨rfl,?_,Z.out⟩; have F := s.out
 try simp only [List.append_assoc,List.nil_append,List.append_nil] at F ⊢
 exact F
theorem zkv (w0 : World) (wb : Nat) (w : World) (S : List UInt8) (L : Nat) (x : List UInt8) (m : Int) (p : Int) (sv : Value) (h : Wr w0 wb w S L) (ha : AT w0 (T.mk 29 x m p []).subs sv) (h0 : 0 <= m) (h1 : m <= 2147483647) (hp : PT w0) (hlen : S.length + (vy m).length <= 1000000000) :
  Calls Tryz.prog 41 #[ptr wb,.agg #[.int .i64 29,.string ⟨List.toArray x⟩,.int .i64 m,.int .i64 p,sv]] w (WP w0 wb w S L (vy m)) := by
 have b := za h; have u := h.lt; have C := za hlen; have D := za ha; obtain ⟨a,c,rfl,_,v⟩ := ha.zero rfl; clear h ha v
 try simp only [la,lc,ln,zo] at hlen
 have y := za hp; clear hp
 go_enter Tryz.func41,Tryz.ntmps41
 go_wp2_with fail; go_at_call 87; refine (mG m h0 h1 _ (y.out.kept (b.out.grown gan).gb)).mono ?_; rintro e E ⟨rfl,d⟩; have j := b.out.grown (zb gan d); have l := WK.grown b.out (zb gan d); have f := za j; have z := za l; have g := za ((FB.newX b.out 29 x m p [] (.slice a 0 c) 28 grn).step (WK.grown (b.out.grown gan) (zb grn d))); cases g.out.box.q; have n := g.out.fr.lt
 clear j l; go_wp2_with fail; go_at_call 40; refine (ye w0 wb _ _ L (vy m) _ _ (by simp) (f.out.grown grn) (by first | omega | (simp only [la,lc,ln,zo]; omega))).mono ?_; rintro e F ⟨rfl,o,i⟩; have A := za o; have B := km z f i; have r := bm g f i; cases r.out.box.q; have s := r.out.fr.lt
 clear o i; go_wp2_with fail
 go_end0
 refine ⟨rfl,?_,B.out⟩; have t := A.out
 try simp only [List.append_assoc,List.nil_append,List.append_nil] at t ⊢
 exact t
theorem zjj (w0 : World) (wb : Nat) (w : World) (S : List UInt8) (L : Nat) (x : List UInt8) (m : Int) (p : Int) (u : T) (sv : Value) (h : Wr w0 wb w S L) (ha : AT w0 (T.mk 34 x m p [u]).subs sv) (U : List UInt8) (hu : Well .expression u) (he : EXW w0 wb u U) (hlen : S.length + ([126] ++ kC u 3 U).length <= 1000000000) :
  Calls Tryz.prog 41 #[ptr wb,.agg #[.int .i64 34,.string ⟨List.toArray x⟩,.int .i64 m,.int .i64 p,sv]] w (WP w0 wb w S L ([126] ++ kC u 3 U)) := by
 have f := za h; have J := h.lt; have Y := za hlen; have Z := za ha; obtain ⟨g,o,c,K,su,rfl,hn,hc,y,j,M,z⟩ := ha.one rfl
 obtain rfl : u = K := by simpa [T.subs] using y
 have A := za j; have N := za z; obtain ⟨l,_,_,_,_⟩ := j.kept h.gb; have O := ze l; clear h ha y M z j
 try simp only [la,lc,ln] at hlen
 have R := za he; clear he
 go_enter Tryz.func41,Tryz.ntmps41
 go_wp2_with fail; go_at_call 40; refine (ye w0 wb _ _ L [126] _ _ (by simp) (f.out.grown gan) (by first | omega | (simp only [List.length_cons,List.length_nil]; omega))).mono ?_; rintro e w1 ⟨rfl,B,n⟩; have i := za B; have V := za ((WK.grown f.out gan).trans n); have r := za ((FB.newX f.out 34 x m p [u] (.slice (some ⟨g,o,none⟩) 1 c) 28 grn).step ((WK.grown (f.out.grown gan) grn).trans n)); cases r.out.box.q; have C := r.out.fr.lt
 obtain ⟨b,_,_,_,_⟩ := A.out.kept i.out.gb; have s := ze b; clear B n; go_wp2_with fail; go_at_call 89; refine (ub w0 wb _ _ L u _ 3 U (i.out.grown grn) N.out hu R.out (by first | omega | (simp only [la,lc,ln]; omega))).mono ?_; rintro e w2 ⟨rfl,D,t⟩; have E := za D; have X := km V i t; have F := bm r i t; cases F.out.box.q; have H := F.out.fr.lt
 obtain ⟨d,_,_,_,_⟩ := A.out.kept E.out.gb; have v := ze d; clear D t; go_wp2_with fail
 go_end0
 refine ⟨rfl,?_,X.out⟩; have I := E.out
 try simp only [List.append_assoc] at I ⊢
 exact I
theorem zj8 (w0 : World) (wb : Nat) (w : World) (S : List UInt8) (L : Nat) (x : List UInt8) (m : Int) (p : Int) (u : T) (sv : Value) (h : Wr w0 wb w S L) (ha : AT w0 (T.mk 35 x m p [u]).subs sv) (U : List UInt8) (hu : Well .expression u) (he : EXW w0 wb u U) (hlen : S.length + ([45] ++ kC u 2 U).length <= 1000000000) :
  Calls Tryz.prog 41 #[ptr wb,.agg #[.int .i64 35,.string ⟨List.toArray x⟩,.int .i64 m,.int .i64 p,sv]] w (WP w0 wb w S L ([45] ++ kC u 2 U)) := by
 have f := za h; have J := h.lt; have Y := za hlen; have Z := za ha; obtain ⟨g,o,c,K,su,rfl,hn,hc,y,j,M,z⟩ := ha.one rfl
 obtain rfl : u = K := by simpa [T.subs] using y
 have A := za j; have N := za z; obtain ⟨l,_,_,_,_⟩ := j.kept h.gb; have O := ze l; clear h ha y M z j
 try simp only [la,lc,ln] at hlen
 have R := za he; clear he
 go_enter Tryz.func41,Tryz.ntmps41
 go_wp2_with fail; go_at_call 40; refine (ye w0 wb _ _ L [45] _ _ (by simp) (f.out.grown gan) (by first | omega | (simp only [List.length_cons,List.length_nil]; omega))).mono ?_; rintro e w1 ⟨rfl,B,n⟩; have i := za B; have V := za ((WK.grown f.out gan).trans n); have r := za ((FB.newX f.out 35 x m p [u] (.slice (some ⟨g,o,none⟩) 1 c) 28 grn).step ((WK.grown (f.out.grown gan) grn).trans n)); cases r.out.box.q; have C := r.out.fr.lt
 obtain ⟨b,_,_,_,_⟩ := A.out.kept i.out.gb; have s := ze b; clear B n; go_wp2_with fail; go_at_call 89; refine (ub w0 wb _ _ L u _ 2 U (i.out.grown grn) N.out hu R.out (by first | omega | (simp only [la,lc,ln]; omega))).mono ?_; rintro e w2 ⟨rfl,D,t⟩; have E := za D; have X := km V i t; have F := bm r i t; cases F.out.box.q; have H := F.out.fr.lt
 obtain ⟨d,_,_,_,_⟩ := A.out.kept E.out.gb; have v := ze d; clear D t; go_wp2_with fail
 go_end0
 refine ⟨rfl,?_,X.out⟩; have I := E.out
 try simp only [List.append_assoc] at I ⊢
 exact I
theorem zj6 (w0 : World) (wb : Nat) (w : World) (S : List UInt8) (L : Nat) (x : List UInt8) (m : Int) (p : Int) (u : T) (v : T) (sv : Value) (h : Wr w0 wb w S L) (ha : AT w0 (T.mk 37 x m p [u,v]).subs sv) (U : List UInt8) (hu : Well .expression u) (he : EXW w0 wb u U) (ht : TN v) (hlen : S.length + (kC u 1 U ++ ([32,73,83,32] ++ zB v)).length <= 1000000000) :
  Calls Tryz.prog 41 #[ptr wb,.agg #[.int .i64 37,.string ⟨List.toArray x⟩,.int .i64 m,.int .i64 p,sv]] w (WP w0 wb w S L (kC u 1 U ++ ([32,73,83,32] ++ zB v))) := by
 have s := za h; have a3 := h.lt; have HL := za hlen; have HA := za ha; obtain ⟨g,o,c,u',su,v',sw,rfl,hn,hc,X,t,fu,Y,y,fv,Z⟩ := ha.two rfl
 have z : u = u' /\ v = v' := by simpa [T.subs] using X
 obtain ⟨rfl,rfl⟩ := z; have A := za t; have AU := za Y; have B := za y; have AV := za Z; obtain ⟨C,_,_,_,_⟩ := t.kept h.gb; obtain ⟨_,_,_,_,_⟩ := y.kept h.gb; have a4 := ze C; clear h ha X fu Y t fv Z y
 try simp only [la,lc,ln] at hlen
 have HE := za he; clear he
 go_enter Tryz.func41,Tryz.ntmps41
 go_wp2_with fail; go_at_call 89; refine (ub w0 wb _ _ L u _ 1 U (s.out.grown gan) AU.out hu HE.out (by first | omega | (simp only [la,lc,ln,zo]; omega))).mono ?_; rintro e w1 ⟨rfl,j1,D⟩; have n := za j1; have K1 := za ((WK.grown s.out gan).trans D); have E := za ((FB.newX s.out 37 x m p [u,v] (.slice (some ⟨g,o,none⟩) 2 c) 28 grn).step ((WK.grown (s.out.grown gan) grn).trans D)); cases E.out.box.q; have a0 := E.out.fr.lt
 obtain ⟨b,_,_,_,_⟩ := A.out.kept n.out.gb; have F := ze b; obtain ⟨d,_,_,_,_⟩ := B.out.kept n.out.gb; have H := ze d; clear j1 D; go_wp2_with fail; go_at_call 40; refine (ye w0 wb _ _ L [32,73,83,32] _ _ (by simp) (n.out.grown grn) (by first | omega | (simp only [la,lc,ln]; omega))).mono ?_; rintro e w2 ⟨rfl,j2,I⟩; have r := za j2; have K2 := km K1 n I; have J := bm E n I; cases J.out.box.q; have a1 := J.out.fr.lt
 obtain ⟨f,_,_,_,_⟩ := A.out.kept r.out.gb; have K := ze f; obtain ⟨i,_,_,_,_⟩ := B.out.kept r.out.gb; have M := ze i; clear j2 I; go_wp2_with fail; go_at_call 90; refine (xI w0 wb _ _ L v _ (r.out.grown grn) AV.out ht (by first | omega | (simp only [la,lc,ln]; omega))).mono ?_; rintro e w3 ⟨rfl,j3,N⟩; have O := za j3; have K3 := km K2 r N; have B3 := bm J r N; cases B3.out.box.q; have a2 := B3.out.fr.lt
 obtain ⟨j,_,_,_,_⟩ := A.out.kept O.out.gb; have R := ze j; obtain ⟨l,_,_,_,_⟩ := B.out.kept O.out.gb; have V := ze l; clear j3 N; go_wp2_with fail
 go_end0
 refine ⟨rfl,?_,K3.out⟩; have J9 := O.out
 try simp only [List.append_assoc] at J9 ⊢
 exact J9
theorem ft (w0 : World) (wb : Nat) (W : World) (S : List UInt8) (L : Nat) (s : List UInt8) (ty : TypeId) (b : Nat) (hb : b = W.heap.size) (h : Wr w0 wb W S L) (hlen : S.length + s.length <= 1000000000) :
  Calls Tryz.prog 40 #[ptr wb,.slice (some ⟨b,0,none⟩) 1 1] (W.alloc (.cells #[.string ⟨s.toArray⟩] ty)).drew fun e w' => e = .returned (.tuple #[]) /\ Wr w0 wb w' (S ++ s) L /\ WK wb W w' := by
 subst hb; have d := zf (zl W none) (.cells #[.string ⟨s.toArray⟩] ty); have f := zj d; refine (qh w0 wb _ S L [s] _ 1 (h.grown f) ((SL.new h [s] _ ty rfl (by simp)).step (WK.grown (h.grown d) (zj grn))) (by simpa using hlen) (by simp)).mono ?_; rintro e w' ⟨rfl,q,r⟩
 exact ⟨rfl,by simpa using q,(WK.grown h f).trans r⟩
theorem sQ (X : List UInt8) (W : World) : (Instr.field 129 (.agg #[.string ⟨X.toArray⟩]) 0).run Tryz.prog W = .ok (.string ⟨X.toArray⟩) W := by kernel_rfl
theorem zkr (w0 : World) (wb : Nat) (w : World) (S : List UInt8) (L : Nat) (k : Int) (x : List UInt8) (m p : Int) (sv : Value) (h : Wr w0 wb w S L) (ha : ∃ a n c,sv = .slice a n c) (hk : k = 30 \/ k = 31 \/ k = 32) (hlen : S.length + (tw k).length <= 1000000000) :
    Calls Tryz.prog 41 #[ptr wb,.agg #[.int .i64 k,.string ⟨List.toArray x⟩,.int .i64 m,.int .i64 p,sv]] w (WP w0 wb w S L (tw k)) := by
  have d := za h; have i := h.lt; obtain ⟨a,n,c,rfl⟩ := ha; obtain ⟨t,j,-,u,-,b⟩ := h.maps; have l := ml ((w.alloc (.cells #[.int .i64 k,.string ⟨x.toArray⟩,.int .i64 m,.int .i64 p,.slice a n c] 28)).drew) j k (yN b ((zj gan).block _ (World.ownsMap.lt b) (by simp))) (by rcases hk with e | e | e <;> simp [e]); clear h b
  rcases hk with rfl | rfl | rfl
  all_goals
    generalize tw _ = X at *
    have o := sQ X
    go_enter Tryz.func41,Tryz.ntmps41
    go_wp2_with fail
    go_region_with
      (go_at_call 40
       refine (ft w0 wb _ _ L X _ _ (by simp) (d.out.grown gan) (by omega)).mono ?_; rintro e v ⟨rfl,f,g⟩; have r := za f; have s := za ((WK.grown d.out gan).trans g)
       clear f g)
    all_goals
      go_wp2_with fail
      go_end0
      exact ⟨rfl,r.out,s.out⟩
theorem ld {x : List UInt8} (h : 0 <= zv x) : zv x = 0 \/ zv x = 1 \/ zv x = 2 := by
 unfold zv at h ⊢
 by_cases b : inB zfb x = true
 ·rw [if_pos b]; exact .inl rfl
 rw [if_neg b] at h ⊢
 by_cases d : inB zdx x = true
 ·rw [if_pos d]; exact .inr (.inl rfl)
 rw [if_neg d] at h ⊢
 by_cases e : inB zd2 x = true
 ·rw [if_pos e]; exact .inr (.inr rfl)
 rw [if_neg e] at h
 omega
theorem lu (w0 : World) (wb : Nat) (w : World) (S : List UInt8) (L : Nat) (x : List UInt8) (m : Int) (p : Int) (u : T) (v : T) (sv : Value) (h : Wr w0 wb w S L) (ha : AT w0 (T.mk 36 x m p [u,v]).subs sv) (U V : List UInt8) (r1 r2 : Int) (hx : 0 <= zv x) (h1 : r1 = max (zv x) 1) (h2 : r2 = zv x + 1) (hu : Well .expression u) (hv : Well .expression v) (he : EXW w0 wb u U) (hf : EXW w0 wb v V) (hlen : S.length + (kC u r1 U ++ ([32] ++ (x ++ ([32] ++ kC v r2 V)))).length <= 1000000000) :
  Calls Tryz.prog 91 #[ptr wb,.agg #[.int .i64 36,.string ⟨List.toArray x⟩,.int .i64 m,.int .i64 p,sv]] w (WP w0 wb w S L (kC u r1 U ++ ([32] ++ (x ++ ([32] ++ kC v r2 V))))) := by
 have s := za h; have d5 := h.lt; have HL := za hlen; have HA := za ha; obtain ⟨ob,db,mc,-,ho,-⟩ := h.maps; have HO := za ho; clear ho; obtain ⟨g,o,c,u',su,v',sw,rfl,hn,hc,hl,n5,fu,au,n6,fv,av⟩ := ha.two rfl
 have d2 : u = u' /\ v = v' := by simpa [T.subs] using hl
 obtain ⟨rfl,rfl⟩ := d2; have NU := za n5; have AU := za au; have NV := za n6; have AV := za av; obtain ⟨d3,_,_,_,_⟩ := n5.kept h.gb; obtain ⟨_,_,_,_,_⟩ := n6.kept h.gb; have d6 := ze d3; clear h ha hl fu au n5 fv av n6
 try simp only [la,lc,ln] at hlen
 have HE := za he; have HF := za hf; clear he hf; have d7 := nK ((w.alloc (.cells #[.int .i64 36,.string ⟨x.toArray⟩,.int .i64 m,.int .i64 p,.slice (some ⟨g,o,none⟩) 2 c] 28)).drew) ob x (yN HO.out ((zj gan).block _ (World.ownsMap.lt HO.out) (by simp))) hx; have d4 := ld hx
 generalize zv x = lv at *
 rcases d4 with rfl | rfl | rfl
 ·obtain rfl : r1 = 1 := by rw [h1]; decide
  obtain rfl : r2 = 1 := by rw [h2]; decide
  clear h1 h2
  go_enter Tryz.func91,Tryz.ntmps91
  go_wp2_with fail
  go_region
  all_goals
   go_wp2_with fail; go_at_call 89; refine (ub w0 wb _ _ L u _ 1 U (s.out.grown (zj gan)) AU.out hu HE.out (by first | omega | (simp only [la,lc,ln,zo]; omega))).mono ?_; rintro e w1 ⟨rfl,j1,t⟩; have n := za j1; have K1 := za ((WK.grown s.out (zj gan)).trans t); have y := za ((FB.newX s.out 36 x m p [u,v] (.slice (some ⟨g,o,none⟩) 2 c) 28 grn).step ((WK.grown (s.out.grown gan) (zj grn)).trans t)); obtain ⟨b4,b5,b6,b7,b8⟩ := y.out.box.p; have b9 := y.out.fr.lt
   obtain ⟨b,z,A,B,C⟩ := NU.out.kept n.out.gb; have D := ze b; obtain ⟨d,E,F,H,I⟩ := NV.out.kept n.out.gb; have J := ze d; clear j1 t; go_wp2_with fail; go_at_call 40; refine (ni w0 wb _ _ L [32] x [32] _ _ (by simp) (n.out.grown grn) (by first | omega | (simp only [la,lc,ln]; omega))).mono ?_; rintro e w2 ⟨rfl,j2,K⟩; have r := za j2; have K2 := km K1 n K; have M := bm y n K; obtain ⟨c0,c1,c2,c3,c4⟩ := M.out.box.p; have c5 := M.out.fr.lt
   obtain ⟨f,N,O,R,X⟩ := NU.out.kept r.out.gb; have Y := ze f; obtain ⟨i,Z,a0,a1,a2⟩ := NV.out.kept r.out.gb; have a3 := ze i; clear j2 K; go_wp2_with fail; go_at_call 89; refine (ub w0 wb _ _ L v _ 1 V (r.out.grown grn) AV.out hv HF.out (by first | omega | (simp only [la,lc,ln]; omega))).mono ?_; rintro e w3 ⟨rfl,j3,k3⟩; have W3 := za j3; have K3 := km K2 r k3; have B3 := bm M r k3; obtain ⟨c6,c7,c8,c9,d0⟩ := B3.out.box.p; have d1 := B3.out.fr.lt
   obtain ⟨j,a4,a5,a6,a7⟩ := NU.out.kept W3.out.gb; have a8 := ze j; obtain ⟨l,a9,b0,b1,b2⟩ := NV.out.kept W3.out.gb; have b3 := ze l; clear j3 k3; go_wp2_with fail
   go_end0
   refine ⟨rfl,?_,K3.out⟩; have J9 := W3.out
   try simp only [List.append_assoc] at J9 ⊢
   exact J9
 ·obtain rfl : r1 = 1 := by rw [h1]; decide
  obtain rfl : r2 = 2 := by rw [h2]; decide
  clear h1 h2
  go_enter Tryz.func91,Tryz.ntmps91
  go_wp2_with fail
  go_region
  all_goals
   go_wp2_with fail; go_at_call 89; refine (ub w0 wb _ _ L u _ 1 U (s.out.grown (zj gan)) AU.out hu HE.out (by first | omega | (simp only [la,lc,ln,zo]; omega))).mono ?_; rintro e w1 ⟨rfl,j1,t⟩; have n := za j1; have K1 := za ((WK.grown s.out (zj gan)).trans t); have y := za ((FB.newX s.out 36 x m p [u,v] (.slice (some ⟨g,o,none⟩) 2 c) 28 grn).step ((WK.grown (s.out.grown gan) (zj grn)).trans t)); obtain ⟨b4,b5,b6,b7,b8⟩ := y.out.box.p; have b9 := y.out.fr.lt
   obtain ⟨b,z,A,B,C⟩ := NU.out.kept n.out.gb; have D := ze b; obtain ⟨d,E,F,H,I⟩ := NV.out.kept n.out.gb; have J := ze d; clear j1 t; go_wp2_with fail; go_at_call 40; refine (ni w0 wb _ _ L [32] x [32] _ _ (by simp) (n.out.grown grn) (by first | omega | (simp only [la,lc,ln]; omega))).mono ?_; rintro e w2 ⟨rfl,j2,K⟩; have r := za j2; have K2 := km K1 n K; have M := bm y n K; obtain ⟨c0,c1,c2,c3,c4⟩ := M.out.box.p; have c5 := M.out.fr.lt
   obtain ⟨f,N,O,R,X⟩ := NU.out.kept r.out.gb; have Y := ze f; obtain ⟨i,Z,a0,a1,a2⟩ := NV.out.kept r.out.gb; have a3 := ze i; clear j2 K; go_wp2_with fail; go_at_call 89; refine (ub w0 wb _ _ L v _ 2 V (r.out.grown grn) AV.out hv HF.out (by first | omega | (simp only [la,lc,ln]; omega))).mono ?_; rintro e w3 ⟨rfl,j3,k3⟩; have W3 := za j3; have K3 := km K2 r k3; have B3 := bm M r k3; obtain ⟨c6,c7,c8,c9,d0⟩ := B3.out.box.p; have d1 := B3.out.fr.lt
   obtain ⟨j,a4,a5,a6,a7⟩ := NU.out.kept W3.out.gb; have a8 := ze j; obtain ⟨l,a9,b0,b1,b2⟩ := NV.out.kept W3.out.gb; have b3 := ze l; clear j3 k3; go_wp2_with fail
   go_end0
   refine ⟨rfl,?_,K3.out⟩; have J9 := W3.out
   try simp only [List.append_assoc] at J9 ⊢
   exact J9
 ·obtain rfl : r1 = 2 := by rw [h1]; decide
  obtain rfl : r2 = 3 := by rw [h2]; decide
  clear h1 h2
  go_enter Tryz.func91,Tryz.ntmps91
  go_wp2_with fail
  go_region
  all_goals
   go_wp2_with fail; go_at_call 89; refine (ub w0 wb _ _ L u _ 2 U (s.out.grown (zj gan)) AU.out hu HE.out (by first | omega | (simp only [la,lc,ln,zo]; omega))).mono ?_; rintro e w1 ⟨rfl,j1,t⟩; have n := za j1; have K1 := za ((WK.grown s.out (zj gan)).trans t); have y := za ((FB.newX s.out 36 x m p [u,v] (.slice (some ⟨g,o,none⟩) 2 c) 28 grn).step ((WK.grown (s.out.grown gan) (zj grn)).trans t)); obtain ⟨b4,b5,b6,b7,b8⟩ := y.out.box.p; have b9 := y.out.fr.lt
   obtain ⟨b,z,A,B,C⟩ := NU.out.kept n.out.gb; have D := ze b; obtain ⟨d,E,F,H,I⟩ := NV.out.kept n.out.gb; have J := ze d; clear j1 t; go_wp2_with fail; go_at_call 40; refine (ni w0 wb _ _ L [32] x [32] _ _ (by simp) (n.out.grown grn) (by first | omega | (simp only [la,lc,ln]; omega))).mono ?_; rintro e w2 ⟨rfl,j2,K⟩; have r := za j2; have K2 := km K1 n K; have M := bm y n K; obtain ⟨c0,c1,c2,c3,c4⟩ := M.out.box.p; have c5 := M.out.fr.lt
   obtain ⟨f,N,O,R,X⟩ := NU.out.kept r.out.gb; have Y := ze f; obtain ⟨i,Z,a0,a1,a2⟩ := NV.out.kept r.out.gb; have a3 := ze i; clear j2 K; go_wp2_with fail; go_at_call 89; refine (ub w0 wb _ _ L v _ 3 V (r.out.grown grn) AV.out hv HF.out (by first | omega | (simp only [la,lc,ln]; omega))).mono ?_; rintro e w3 ⟨rfl,j3,k3⟩; have W3 := za j3; have K3 := km K2 r k3; have B3 := bm M r k3; obtain ⟨c6,c7,c8,c9,d0⟩ := B3.out.box.p; have d1 := B3.out.fr.lt
   obtain ⟨j,a4,a5,a6,a7⟩ := NU.out.kept W3.out.gb; have a8 := ze j; obtain ⟨l,a9,b0,b1,b2⟩ := NV.out.kept W3.out.gb; have b3 := ze l; clear j3 k3; go_wp2_with fail
   go_end0
   refine ⟨rfl,?_,K3.out⟩; have J9 := W3.out
   try simp only [List.append_assoc] at J9 ⊢
   exact J9
theorem zky (w0 : World) (wb : Nat) (w : World) (S : List UInt8) (L : Nat) (x : List UInt8) (m : Int) (p : Int) (u : T) (v : T) (sv : Value) (h : Wr w0 wb w S L) (ha : AT w0 (T.mk 36 x m p [u,v]).subs sv) (X : List UInt8) (ho : ∀ (w : World) (S : List UInt8) (L : Nat) (sv : Value),Wr w0 wb w S L -> AT w0 (T.mk 36 x m p [u,v]).subs sv -> S.length + X.length <= 1000000000 -> Calls Tryz.prog 91 #[ptr wb,yl (.mk 36 x m p [u,v]) sv] w (WP w0 wb w S L X)) (hlen : S.length + (X).length <= 1000000000) :
  Calls Tryz.prog 41 #[ptr wb,.agg #[.int .i64 36,.string ⟨List.toArray x⟩,.int .i64 m,.int .i64 p,sv]] w (WP w0 wb w S L X) := by
 have f := za h; have H := h.lt; have I := za hlen; have J := za ha; obtain ⟨g,o,c,K,su,M,sw,rfl,hn,hc,z,i,N,A,j,O,B⟩ := ha.two rfl
 have l : u = K /\ v = M := by simpa [T.subs] using z
 obtain ⟨rfl,rfl⟩ := l; have R := za i; have AU := za A; have U := za j; have AV := za B; obtain ⟨n,_,_,_,_⟩ := i.kept h.gb; obtain ⟨_,_,_,_,_⟩ := j.kept h.gb; have V := ze n; clear h ha z N A i O B j
 try simp only [la,lc,ln,zo] at hlen
 have Y := za ho; clear ho
 go_enter Tryz.func41,Tryz.ntmps41
 go_wp2_with fail; go_at_call 91; refine (Y.out _ _ L _ (f.out.grown gan) J.out I.out).mono ?_; rintro e w1 ⟨rfl,C,r⟩; have s := za C; have Z := za ((WK.grown f.out gan).trans r); have D := za ((FB.newX f.out 36 x m p [u,v] (.slice (some ⟨g,o,none⟩) 2 c) 28 grn).step ((WK.grown (f.out.grown gan) grn).trans r)); cases D.out.box.q; have E := D.out.fr.lt
 obtain ⟨b,_,_,_,_⟩ := R.out.kept s.out.gb; have t := ze b; obtain ⟨d,_,_,_,_⟩ := U.out.kept s.out.gb; have y := ze d; clear C r; go_wp2_with fail
 go_end0
 refine ⟨rfl,?_,Z.out⟩; have F := s.out
 try simp only [List.append_assoc,List.nil_append,List.append_nil] at F ⊢
 exact F
theorem rY : EN 41 := enters_of Tryz.func41 (by kernel_rfl) rfl
theorem EW.expr {w0 : World} {wb : Nat} {us : List T} {tx : T -> List UInt8} (H : ∀ v ∈ us,EXW w0 wb v (tx v)) (w : World) (L : Nat) : EW w0 wb w L 41 #[ptr wb] #[] us tx := fun t sv w1 S hm ha hw _ hl => H t hm w1 S L sv hw ha hl
theorem jO (w0 : World) (wb : Nat) (w : World) (S : List UInt8) (L : Nat) (us : List T) (sl : Value) (tx : T -> List UInt8) (h : Wr w0 wb w S L) (ha : AT w0 us sl) (he : ∀ v ∈ us,EXW w0 wb v (tx v)) (hlen : S.length + ([40] ++ (zM [44,32] (us.map tx) ++ [41])).length <= 1000000000) :
  Calls Tryz.prog 88 #[ptr wb,sl] w (WP w0 wb w S L ([40] ++ (zM [44,32] (us.map tx) ++ [41]))) := by
 have d := za h; have s := h.lt; have t := za ha; have u := za he; obtain ⟨_,_,rfl,_,b⟩ := ha.form
 unfold maxLen at b
 clear h ha he; simp only [la,lc,ln] at hlen
 go_enter Tryz.func88,Tryz.ntmps88
 go_wp2_with fail; go_at_call 40; refine (ye w0 wb _ _ L [40] _ _ (by simp) (d.out.grown grn) (by first | omega | (simp only [List.length_cons,List.length_nil]; omega))).mono ?_; rintro e B ⟨rfl,f,g⟩; have i := za f; have x := za ((WK.grown d.out grn).trans g); clear f g; go_wp2_with fail; go_at_call 83; refine (je w0 wb _ _ L us _ [44,32] _ _ _ tx (i.out.grown grn) t.out (EW.expr u.out _ L) rY (by first | omega | (simp only [la,lc,ln]; omega))).mono ?_; rintro e C ⟨rfl,j,l⟩; have m := za j; have y := km x i l; clear j l; go_wp2_with fail; go_at_call 40; refine (ye w0 wb _ _ L [41] _ _ (by simp) (m.out.grown grn) (by first | omega | (simp only [la,lc,ln]; omega))).mono ?_; rintro e D ⟨rfl,n,o⟩; have z := za n; have A := km y m o; clear n o; go_wp2_with fail
 go_end0
 refine ⟨rfl,?_,A.out⟩; have r := z.out
 try simp only [List.append_assoc] at r ⊢
 exact r
theorem zjz (w0 : World) (wb : Nat) (w : World) (S : List UInt8) (L : Nat) (x : List UInt8) (m p : Int) (u : T) (us : List T) (sv : Value) (h : Wr w0 wb w S L) (ha : AT w0 (T.mk 33 x m p (u :: us)).subs sv) (U : List UInt8) (tx : T -> List UInt8) (hu : EXW w0 wb u U) (he : ∀ v ∈ us,EXW w0 wb v (tx v)) (hlen : S.length + (U ++ ([40] ++ (zM [44,32] (us.map tx) ++ [41]))).length <= 1000000000) :
  Calls Tryz.prog 41 #[ptr wb,.agg #[.int .i64 33,.string ⟨List.toArray x⟩,.int .i64 m,.int .i64 p,sv]] w (WP w0 wb w S L (U ++ ([40] ++ (zM [44,32] (us.map tx) ++ [41])))) := by
 have i := za h; have a6 := h.lt; have HU := za hu; have HE := za he; obtain ⟨g,o,c,_,rfl,_,_,n5,fu,au,ar⟩ := AT.cons ha; have NU := za n5; have AU := za au; obtain ⟨a4,_,_,_,_⟩ := n5.kept h.gb; have a7 := ze a4; have AR := za ar; clear h ha hu he fu au n5 ar
 try simp only [la,lc,ln] at hlen
 rcases Nat.lt_or_ge 1 c with a5 | a5
 ·have j := za AR.out
  go_enter Tryz.func41,Tryz.ntmps41
  go_wp2_with fail; go_at_call 41; refine (HU.out _ _ L _ (i.out.grown gan) AU.out (by first | omega | (simp only [la,lc,ln,zo]; omega))).mono ?_; rintro e w1 ⟨rfl,H,l⟩; have f := za H; have K1 := za ((WK.grown i.out gan).trans l); have n := za ((FB.newX i.out 33 x m p (u :: us) (.slice (some ⟨g,o,none⟩) (us.length + 1) c) 28 grn).step ((WK.grown (i.out.grown gan) grn).trans l)); obtain ⟨I,J,K,M,N⟩ := n.out.box.p; have O := n.out.fr.lt
  obtain ⟨b,r,s,t,y⟩ := NU.out.kept f.out.gb; have z := ze b; clear H l; go_wp2_with fail; go_at_call 88; refine (jO w0 wb _ _ L us _ tx (f.out.grown grn) j.out HE.out (by first | omega | (simp only [la,lc,ln]; omega))).mono ?_; rintro e w2 ⟨rfl,R,A⟩; have V := za R; have K2 := km K1 f A; have X := bm n f A; obtain ⟨Y,Z,a0,a1,a2⟩ := X.out.box.p; have a3 := X.out.fr.lt
  obtain ⟨d,B,C,D,E⟩ := NU.out.kept V.out.gb; have F := ze d; clear R A; go_wp2_with fail
  go_end0
  refine ⟨rfl,?_,K2.out⟩; have J9 := V.out
  try simp only [List.append_assoc] at J9 ⊢
  exact J9
 ·obtain rfl : c = 1 := by omega
  obtain rfl : us = [] := List.eq_nil_of_length_eq_zero (by omega); have j : Hid (AT w0 [] (.slice (some ⟨g,o,none⟩) 0 0)) := AT.nil _ _ (Nat.zero_le _)
  go_enter Tryz.func41,Tryz.ntmps41
  go_wp2_with fail; go_at_call 41; refine (HU.out _ _ L _ (i.out.grown gan) AU.out (by first | omega | (simp only [la,lc,ln,zo]; omega))).mono ?_; rintro e w1 ⟨rfl,H,l⟩; have f := za H; have K1 := za ((WK.grown i.out gan).trans l); have n := za ((FB.newX i.out 33 x m p [u] (.slice (some ⟨g,o,none⟩) 1 1) 28 grn).step ((WK.grown (i.out.grown gan) grn).trans l)); obtain ⟨I,J,K,M,N⟩ := n.out.box.p; have O := n.out.fr.lt
  obtain ⟨b,r,s,t,y⟩ := NU.out.kept f.out.gb; have z := ze b; clear H l; go_wp2_with fail; go_at_call 88; refine (jO w0 wb _ _ L [] _ tx (f.out.grown grn) j.out HE.out (by first | omega | (simp only [la,lc,ln]; omega))).mono ?_; rintro e w2 ⟨rfl,R,A⟩; have V := za R; have K2 := km K1 f A; have X := bm n f A; obtain ⟨Y,Z,a0,a1,a2⟩ := X.out.box.p; have a3 := X.out.fr.lt
  obtain ⟨d,B,C,D,E⟩ := NU.out.kept V.out.gb; have F := ze d; clear R A; go_wp2_with fail
  go_end0
  refine ⟨rfl,?_,K2.out⟩; have J9 := V.out
  try simp only [List.append_assoc] at J9 ⊢
  exact J9
section
variable (f : Nat) (x : List UInt8) (m p : Int) (u v : T) (us : List T)
theorem zjh : zg (f + 1) (.mk 24 x m p []) = x := by simp [zg,T.kind,T.name]
theorem zkg : zg (f + 1) (.mk 25 x m p [u]) = zg f u ++ ([46] ++ x) := by simp [zg,T.kind,T.name,yo,T.subs]
theorem zjx : zg (f + 1) (.mk 26 x m p [u,v]) = zg f u ++ ([91] ++ (zg f v ++ [93])) := by simp [zg,T.kind,yo,T.subs]
theorem zki : zg (f + 1) (.mk 27 x m p [u]) = zg f u ++ [94] := by simp [zg,T.kind,yo,T.subs]
theorem zkt : zg (f + 1) (.mk 28 x m p [u,v]) = zg f u ++ ([123] ++ (zB v ++ [125])) := by simp [zg,T.kind,yo,T.subs]
theorem zjl : zg (f + 1) (.mk 29 x m p []) = vy m := by simp [zg,T.kind,T.num]
theorem zke (k : Int) (hk : k = 30 \/ k = 31 \/ k = 32) : zg (f + 1) (.mk k x m p []) = tw k := by rcases hk with rfl | rfl | rfl <;> simp [zg,T.kind,tw]
theorem zk0 : zg (f + 1) (.mk 33 x m p (u :: us)) = zg f u ++ ([40] ++ (zM [44,32] (us.map (zg f)) ++ [41])) := by simp [zg,T.kind,yo,T.subs]
theorem zkl : zg (f + 1) (.mk 34 x m p [u]) = [126] ++ kC u 3 (zg f u) := by simp [zg,T.kind,yo,T.subs,kC]
theorem zkx : zg (f + 1) (.mk 35 x m p [u]) = [45] ++ kC u 2 (zg f u) := by simp [zg,T.kind,yo,T.subs,kC]
theorem zjk : zg (f + 1) (.mk 37 x m p [u,v]) = kC u 1 (zg f u) ++ ([32,73,83,32] ++ zB v) := by simp [zg,T.kind,yo,T.subs,kC]
theorem zj9 (h : 0 <= zv x) : zg (f + 1) (.mk 36 x m p [u,v]) = kC u (max (zv x) 1) (zg f u) ++ ([32] ++ (x ++ ([32] ++ kC v (zv x + 1) (zg f v)))) := by
 have e : zg (f + 1) (.mk 36 x m p [u,v]) = (if yH u < (if zv x = 2 then 2 else 1) then 40 :: (zg f u ++ [41]) else zg f u) ++ (32 :: (x ++ (32 :: (if yH v < (if zv x = 1 then 2 else if zv x = 2 then 3 else 1) then 40 :: (zg f v ++ [41]) else zg f v)))) := by simp [zg,T.kind,yo,T.subs,T.name]; rfl
 rw [e]
 rcases ld h with b | b | b <;> rw [b] <;> simp [kC] <;> rfl
end
theorem rp (w0 : World) (wb : Nat) (hp : PT w0) : ∀ (f : Nat) (t : T),zA t <= f -> (Well .designator t -> DEW w0 wb t (zg f t)) /\ (Well .expression t -> EXW w0 wb t (zg f t)) := by
 intro f
 induction f with
 | zero => intro t h; have := pH t; omega
 | succ f ih =>
  intro t o
  have b : ∀ u,u ∈ t.subs -> zA u <= f := fun u hu => by have := ui hu; omega
  have i : Well .designator t -> DEW w0 wb t (zg (f + 1) t) := by
   intro h; have g := bK h; have H := zim h; cases H with
   | ref x p hx => rw [zjh]; exact fun w S L sv hw ha hl => zjr w0 wb w S L x 0 p sv hw ha hl
   | dot x p u hx hu => rw [zkg]; exact fun w S L sv hw ha hl => zkz w0 wb w S L x 0 p u sv hw ha _ ((ih u (b u (by simp [T.subs]))).1 hu) hl
   | index p u v hu hv => rw [zjx]; exact fun w S L sv hw ha hl => zjy w0 wb w S L [] 0 p u v sv hw ha _ _ ((ih u (b u (by simp [T.subs]))).1 hu) ((ih v (b v (by simp [T.subs]))).2 hv) hl
   | deref p u hu => rw [zki]; exact fun w S L sv hw ha hl => zjf w0 wb w S L [] 0 p u sv hw ha _ ((ih u (b u (by simp [T.subs]))).1 hu) hl
   | guard p u v hu hv => rw [zkt]; exact fun w S L sv hw ha hl => zkw w0 wb w S L [] 0 p u v sv hw ha _ ((ih u (b u (by simp [T.subs]))).1 hu) hv hl
   | number m p h0 h1 => simp [T.kind] at g
   | word k p hk2 => rcases hk2 with rfl | rfl | rfl <;> simp [T.kind] at g
   | call p u us hu j => simp [T.kind] at g
   | one k p u hk2 hu => rcases hk2 with rfl | rfl <;> simp [T.kind] at g
   | is p u v hu hv => simp [T.kind] at g
   | op x p u v hx hu hv => simp [T.kind] at g
  refine ⟨i,fun h => ?_⟩; have H := zct h
  have d : ∀ (g : t.kind = 24 \/ t.kind = 25 \/ t.kind = 26 \/ t.kind = 27 \/ t.kind = 28),Well .designator t := by
   intro g; obtain ⟨l,j,n⟩ := Well.iff.1 h; refine .mk l ?_ n; rw [<- j]
   show yX t = yQ t
   unfold yQ
   rcases g with e | e | e | e | e <;> simp [e]
  cases H with
  | ref x p hx => exact fun w S L sv hw ha hl => zjw w0 wb w S L x 0 p sv hw ha _ (i (d (by simp [T.kind]))) hl
  | dot x p u hx hu => exact fun w S L sv hw ha hl => zjp w0 wb w S L x 0 p u sv hw ha _ (i (d (by simp [T.kind]))) hl
  | index p u v hu hv => exact fun w S L sv hw ha hl => zj3 w0 wb w S L [] 0 p u v sv hw ha _ (i (d (by simp [T.kind]))) hl
  | deref p u hu => exact fun w S L sv hw ha hl => zj5 w0 wb w S L [] 0 p u sv hw ha _ (i (d (by simp [T.kind]))) hl
  | guard p u v hu hv => exact fun w S L sv hw ha hl => zkj w0 wb w S L [] 0 p u v sv hw ha _ (i (d (by simp [T.kind]))) hl
  | number m p h0 h1 => rw [zjl]; exact fun w S L sv hw ha hl => zkv w0 wb w S L [] m p sv hw ha h0 h1 hp hl
  | word k p hk2 => rw [zke f [] 0 p k hk2]; exact fun w S L sv hw ha hl => zkr w0 wb w S L k [] 0 p sv hw (bh ha) hk2 hl
  | call p u us hu j => rw [zk0]; exact fun w S L sv hw ha hl => zjz w0 wb w S L [] 0 p u us sv hw ha _ (zg f) ((ih u (b u (by simp [T.subs]))).2 (vO hu)) (fun v hv => (ih v (b v (by simp [T.subs,hv]))).2 (j v hv)) hl
  | one k p u hk2 hu =>
   rcases hk2 with rfl | rfl
   ·rw [zkl]; exact fun w S L sv hw ha hl => zjj w0 wb w S L [] 0 p u sv hw ha _ hu ((ih u (b u (by simp [T.subs]))).2 hu) hl
   ·rw [zkx]; exact fun w S L sv hw ha hl => zj8 w0 wb w S L [] 0 p u sv hw ha _ hu ((ih u (b u (by simp [T.subs]))).2 hu) hl
  | is p u v hu hv => rw [zjk]; exact fun w S L sv hw ha hl => zj6 w0 wb w S L [] 0 p u v sv hw ha _ hu ((ih u (b u (by simp [T.subs]))).2 hu) hv hl
  | op x p u v hx hu hv =>
   rw [zj9 f x 0 p u v hx]
   exact fun w S L sv hw ha hl => zky w0 wb w S L x 0 p u v sv hw ha _ (fun w' S' L' sv' hw' ha' hl' => lu w0 wb w' S' L' x 0 p u v sv' hw' ha' _ _ _ _ hx rfl rfl hu hv ((ih u (b u (by simp [T.subs]))).2 hu) ((ih v (b v (by simp [T.subs]))).2 hv) hl') hl
def AW (w0 : World) (wb L : Nat) (t : T) (X : List UInt8) : Prop := ∀ (w : World) (S : List UInt8) (sv : Value),Wr w0 wb w S L -> AT w0 t.subs sv -> S.length + X.length <= 1000000000 -> Calls Tryz.prog 95 #[ptr wb,yl t sv] w (WP w0 wb w S L X)
def LW (w0 : World) (wb L : Nat) (us : List T) (X : List UInt8) : Prop := ∀ (w : World) (S : List UInt8) (sl : Value),Wr w0 wb w S L -> AT w0 us sl -> S.length + X.length <= 1000000000 -> Calls Tryz.prog 46 #[ptr wb,sl] w (WP w0 wb w S L X)
theorem zhh : EN 95 := enters_of Tryz.func95 (by kernel_rfl) rfl
theorem EW.act {w0 : World} {wb L : Nat} {us : List T} {tx : T -> List UInt8} (H : ∀ v ∈ us,AW w0 wb L v (tx v)) (w : World) : EW w0 wb w L 95 #[ptr wb] #[] us tx := fun t sv w1 S hm ha hw _ hl => H t hm w1 S sv hw ha hl
theorem zg5 (w0 : World) (wb L : Nat) (us : List T) (tx : T -> List UInt8) (H : ∀ v ∈ us,AW w0 wb (L + 1) v (tx v)) (hL : L <= 20000) (w : World) (S : List UInt8) (sl : Value) (h : Wr w0 wb w S L) (ha : AT w0 us sl) (hlen : S.length + (yC [59] [] tx L us).length <= 1000000000) :
  Calls Tryz.prog 46 #[ptr wb,sl] w (WP w0 wb w S L (yC [59] [] tx L us)) := by
 have b := za h; have l := za ha; have m := za H; obtain ⟨_,_,rfl,_,_⟩ := ha.form
 generalize d : yC [59] [] tx L us = X at hlen ⊢
 clear h ha H
 go_enter Tryz.func46,Tryz.ntmps46
 go_wp2_with fail; go_at_call 85; refine (pF w0 wb _ _ L us _ [59] [] _ _ _ tx (b.out.grown grn) l.out (EW.act m.out _) zhh (by decide) hL (by rw [d]; omega)).mono ?_; rintro e o ⟨rfl,f,g⟩; have i := za f; have n := za ((WK.grown b.out grn).trans g); clear f g; rw [d] at i; go_wp2_with fail
 go_end0
 refine ⟨rfl,?_,n.out⟩; have j := i.out
 try simp only [List.append_assoc,List.nil_append,List.append_nil] at j ⊢
 exact j
theorem tP (w0 : World) (wb L : Nat) (us : List T) (tx : T -> List UInt8) (H : ∀ v ∈ us,AW w0 wb (L + 1) v (tx v)) (hL : L <= 20000) : LW w0 wb L us (yC [59] [] tx L us) := fun w S sl h ha hlen => zg5 w0 wb L us tx H hL w S sl h ha hlen
theorem ow (w0 : World) (wb : Nat) (w : World) (S : List UInt8) (L : Nat) (h : Wr w0 wb w S L) (hlen : S.length + 2 * L + 3 <= 1000000000) :
  Calls Tryz.prog 143 #[ptr wb] w (WP w0 wb w S L (zR L ++ [69,78,68])) := by
 have b := za h; clear h
 go_enter Tryz.func143,Tryz.ntmps143
 go_wp2_with fail; go_at_call 81; refine (uX w0 wb _ _ L (b.out.grown grn) (by omega)).mono ?_; rintro e r ⟨rfl,d,f⟩; have g := za d; have m := za ((WK.grown b.out grn).trans f); clear d f; go_wp2_with fail; go_at_call 40; refine (ye w0 wb _ _ L [69,78,68] _ _ (by simp) (g.out.grown grn) (by first | omega | (simp only [la,lc,ln,zo]; omega))).mono ?_; rintro e s ⟨rfl,i,j⟩; have n := za i; have o := km m g j; clear i j; go_wp2_with fail
 go_end0
 refine ⟨rfl,?_,o.out⟩; have l := n.out
 try simp only [List.append_assoc] at l ⊢
 exact l
theorem jH (w0 : World) (wb : Nat) (w : World) (S : List UInt8) (L : Nat) (ahead behind : List UInt8) (u v : T) (us : List T) (sl : Value) (h : Wr w0 wb w S L) (ha : AT w0 (u :: v :: us) sl) (U Z : List UInt8) (hu : EXW w0 wb u U) (hz : LW w0 wb L v.subs Z) (hlen : S.length + (ahead ++ (U ++ (behind ++ ([10] ++ Z)))).length <= 1000000000) :
  Calls Tryz.prog 142 #[ptr wb,.string ⟨ahead.toArray⟩,sl,.string ⟨behind.toArray⟩] w (WP w0 wb w S L (ahead ++ (U ++ (behind ++ ([10] ++ Z))))) := by
 have N := za h; have a0 := h.lt; have HU := za hu; have HZ := za hz; obtain ⟨_,c,rfl,O,hc⟩ := ha.form
 unfold maxLen at hc
 obtain ⟨g,o,_,rfl,r,fu,R⟩ := ha.node 0 u rfl; obtain ⟨g',o',sw,e2,s,fv,V⟩ := ha.node 1 v rfl; cases e2; rw [show o + 0 * 5 = o by omega] at r; rw [show o + 1 * 5 = o + 5 by omega] at s; have t := za r; have AU := za R; have x := za s; have AV := za V; obtain ⟨B,_,_,_,_⟩ := r.kept h.gb; obtain ⟨_,_,_,_,_⟩ := s.kept h.gb; have a1 := ze B
 have a2 : us.length + 2 <= c := by simpa using O
 clear h ha hu hz fu R r fv V s O
 change Calls Tryz.prog 142 #[ptr wb,.string ⟨ahead.toArray⟩,.slice (some ⟨g,o,none⟩) (us.length + 1 + 1) c,.string ⟨behind.toArray⟩] w _
 simp only [la,lc,ln] at hlen
 go_enter Tryz.func142,Tryz.ntmps142
 go_wp2_with fail; go_at_call 40; refine (ye w0 wb _ _ L ahead _ _ (by simp) (N.out.grown grn) (by first | omega | (simp only [la,lc,ln,zo]; omega))).mono ?_; rintro e w1 ⟨rfl,X,Y⟩; have y := za X; have K1 := za ((WK.grown N.out grn).trans Y); obtain ⟨b,_,_,_,_⟩ := t.out.kept y.out.gb; have C := ze b; obtain ⟨d,_,_,_,_⟩ := x.out.kept y.out.gb; have D := ze d; clear X Y; go_wp2_with fail; go_at_call 41; refine (HU.out _ _ L _ (y.out.grown grn) AU.out (by first | omega | (simp only [List.length_append]; omega))).mono ?_; rintro e w2 ⟨rfl,j2,k2⟩; have z := za j2; have K2 := km K1 y k2; obtain ⟨f,_,_,_,_⟩ := t.out.kept z.out.gb; have E := ze f; obtain ⟨i,_,_,_,_⟩ := x.out.kept z.out.gb; have F := ze i; clear j2 k2; go_wp2_with fail; go_at_call 40; refine (dE w0 wb _ _ L behind [10] _ _ (by simp) (z.out.grown grn) (by first | omega | (simp only [la,lc,ln]; omega))).mono ?_; rintro e w3 ⟨rfl,j3,k3⟩; have A := za j3; have K3 := km K2 z k3; obtain ⟨j,_,_,_,_⟩ := t.out.kept A.out.gb; have H := ze j; obtain ⟨l,_,_,_,_⟩ := x.out.kept A.out.gb; have I := ze l; clear j3 k3; go_wp2_with fail; go_at_call 46; refine (HZ.out _ _ _ (A.out.grown grn) AV.out (by first | omega | (simp only [la,lc,ln]; omega))).mono ?_; rintro e w4 ⟨rfl,j4,k4⟩; have J := za j4; have K4 := km K3 A k4; obtain ⟨m,_,_,_,_⟩ := t.out.kept J.out.gb; have K := ze m; obtain ⟨n,_,_,_,_⟩ := x.out.kept J.out.gb; have M := ze n; clear j4 k4; go_wp2_with fail
 go_end0
 refine ⟨rfl,?_,K4.out⟩; have J9 := J.out
 try simp only [List.append_assoc] at J9 ⊢
 exact J9
theorem zku (w0 : World) (wb : Nat) (w : World) (S : List UInt8) (L : Nat) (x : List UInt8) (m : Int) (p : Int) (u : T) (v : T) (sv : Value) (h : Wr w0 wb w S L) (ha : AT w0 (T.mk 14 x m p [u,v]).subs sv) (U V : List UInt8) (he : EXW w0 wb u U) (hf : EXW w0 wb v V) (hlen : S.length + (U ++ ([32,58,61,32] ++ V)).length <= 1000000000) :
  Calls Tryz.prog 95 #[ptr wb,.agg #[.int .i64 14,.string ⟨List.toArray x⟩,.int .i64 m,.int .i64 p,sv]] w (WP w0 wb w S L (U ++ ([32,58,61,32] ++ V))) := by
 have s := za h; have a3 := h.lt; have HL := za hlen; have HA := za ha; obtain ⟨g,o,c,u',su,v',sw,rfl,hn,hc,Y,t,fu,Z,y,fv,av⟩ := ha.two rfl
 have z : u = u' /\ v = v' := by simpa [T.subs] using Y
 obtain ⟨rfl,rfl⟩ := z; have A := za t; have AU := za Z; have B := za y; have AV := za av; obtain ⟨C,_,_,_,_⟩ := t.kept h.gb; obtain ⟨_,_,_,_,_⟩ := y.kept h.gb; have a4 := ze C; clear h ha Y fu Z t fv av y
 try simp only [la,lc,ln] at hlen
 have HE := za he; clear he; have HF := za hf; clear hf
 go_enter Tryz.func95,Tryz.ntmps95
 go_wp2_with fail; go_at_call 41; refine (HE.out _ _ L _ (s.out.grown gan) AU.out (by first | omega | (simp only [la,lc,ln,zo]; omega))).mono ?_; rintro e w1 ⟨rfl,j1,D⟩; have n := za j1; have K1 := za ((WK.grown s.out gan).trans D); have E := za ((FB.newX s.out 14 x m p [u,v] (.slice (some ⟨g,o,none⟩) 2 c) 28 grn).step ((WK.grown (s.out.grown gan) grn).trans D)); cases E.out.box.q; have a0 := E.out.fr.lt
 obtain ⟨b,_,_,_,_⟩ := A.out.kept n.out.gb; have F := ze b; obtain ⟨d,_,_,_,_⟩ := B.out.kept n.out.gb; have H := ze d; clear j1 D; go_wp2_with fail; go_at_call 40; refine (ye w0 wb _ _ L [32,58,61,32] _ _ (by simp) (n.out.grown grn) (by first | omega | (simp only [la,lc,ln]; omega))).mono ?_; rintro e w2 ⟨rfl,j2,I⟩; have r := za j2; have K2 := km K1 n I; have J := bm E n I; cases J.out.box.q; have a1 := J.out.fr.lt
 obtain ⟨f,_,_,_,_⟩ := A.out.kept r.out.gb; have K := ze f; obtain ⟨i,_,_,_,_⟩ := B.out.kept r.out.gb; have M := ze i; clear j2 I; go_wp2_with fail; go_at_call 41; refine (HF.out _ _ L _ (r.out.grown grn) AV.out (by first | omega | (simp only [la,lc,ln]; omega))).mono ?_; rintro e w3 ⟨rfl,j3,N⟩; have O := za j3; have K3 := km K2 r N; have B3 := bm J r N; cases B3.out.box.q; have a2 := B3.out.fr.lt
 obtain ⟨j,_,_,_,_⟩ := A.out.kept O.out.gb; have R := ze j; obtain ⟨l,_,_,_,_⟩ := B.out.kept O.out.gb; have X := ze l; clear j3 N; go_wp2_with fail
 go_end0
 refine ⟨rfl,?_,K3.out⟩; have J9 := O.out
 try simp only [List.append_assoc] at J9 ⊢
 exact J9
theorem zip (w0 : World) (wb : Nat) (w : World) (S : List UInt8) (L : Nat) (x : List UInt8) (m p : Int) (u : T) (us : List T) (sv : Value) (h : Wr w0 wb w S L) (ha : AT w0 (T.mk 15 x m p (u :: us)).subs sv) (U : List UInt8) (tx : T -> List UInt8) (hu : EXW w0 wb u U) (he : ∀ v ∈ us,EXW w0 wb v (tx v)) (hus : 0 < us.length) (hlen : S.length + (U ++ ([40] ++ (zM [44,32] (us.map tx) ++ [41]))).length <= 1000000000) :
  Calls Tryz.prog 95 #[ptr wb,.agg #[.int .i64 15,.string ⟨List.toArray x⟩,.int .i64 m,.int .i64 p,sv]] w (WP w0 wb w S L (U ++ ([40] ++ (zM [44,32] (us.map tx) ++ [41])))) := by
 have i := za h; have O := h.lt; have R := za hu; have V := za he; obtain ⟨g,o,c,_,rfl,_,_,l,X,B,C⟩ := AT.cons ha; have D := za l; have Y := za B; obtain ⟨n,_,_,_,_⟩ := l.kept h.gb; have Z := ze n; have AR := za C; clear h ha hu he X B l C
 try simp only [la,lc,ln] at hlen
 rcases Nat.lt_or_ge 1 c with r | r
 ·have f := za AR.out
  have E : (1 : Int) < (us.length : Int) + 1 := by omega
  go_enter Tryz.func95,Tryz.ntmps95
  go_wp2_with fail; go_at_call 41; refine (R.out _ _ L _ (i.out.grown gan) Y.out (by first | omega | (simp only [la,lc,ln,zo]; omega))).mono ?_; rintro e w1 ⟨rfl,F,s⟩; have j := za F; have K1 := za ((WK.grown i.out gan).trans s); have t := za ((FB.newX i.out 15 x m p (u :: us) (.slice (some ⟨g,o,none⟩) (us.length + 1) c) 28 grn).step ((WK.grown (i.out.grown gan) grn).trans s)); cases t.out.box.q; have H := t.out.fr.lt
  obtain ⟨b,_,_,_,_⟩ := D.out.kept j.out.gb; have y := ze b; clear F s; go_wp2_with fail; go_at_call 88; refine (jO w0 wb _ _ L us _ tx (j.out.grown grn) f.out V.out (by first | omega | (simp only [la,lc,ln]; omega))).mono ?_; rintro e w2 ⟨rfl,I,z⟩; have J := za I; have K2 := km K1 j z; have K := bm t j z; cases K.out.box.q; have M := K.out.fr.lt
  obtain ⟨d,_,_,_,_⟩ := D.out.kept J.out.gb; have A := ze d; clear I z; go_wp2_with fail
  go_end0
  refine ⟨rfl,?_,K2.out⟩; have N := J.out
  try simp only [List.append_assoc] at N ⊢
  exact N
 ·obtain rfl : c = 1 := by omega
  obtain rfl : us = [] := List.eq_nil_of_length_eq_zero (by omega); have f : Hid (AT w0 [] (.slice (some ⟨g,o,none⟩) 0 0)) := AT.nil _ _ (Nat.zero_le _)
  exact absurd hus (by simp)
theorem zh6 (w0 : World) (wb : Nat) (w : World) (S : List UInt8) (L : Nat) (x : List UInt8) (m : Int) (p : Int) (u : T) (sv : Value) (h : Wr w0 wb w S L) (ha : AT w0 (T.mk 15 x m p [u]).subs sv) (U : List UInt8) (he : EXW w0 wb u U) (hlen : S.length + (U).length <= 1000000000) :
  Calls Tryz.prog 95 #[ptr wb,.agg #[.int .i64 15,.string ⟨List.toArray x⟩,.int .i64 m,.int .i64 p,sv]] w (WP w0 wb w S L U) := by
 have d := za h; have A := h.lt; have J := za hlen; have K := za ha; obtain ⟨g,o,c,B,M,rfl,N,O,n,f,C,r⟩ := ha.one rfl
 obtain rfl : u = B := by simpa [T.subs] using n
 have D := za f; have E := za r; obtain ⟨i,_,_,_,_⟩ := f.kept h.gb; have F := ze i; clear h ha n C r f
 try simp only [la,lc,ln,zo] at hlen
 have H := za he; clear he
 go_enter Tryz.func95,Tryz.ntmps95
 go_wp2_with fail; go_at_call 41; refine (H.out _ _ L _ (d.out.grown gan) E.out (by first | omega | (simp only [la,lc,ln,zo]; omega))).mono ?_; rintro e R ⟨rfl,s,j⟩; have t := za s; have I := za ((WK.grown d.out gan).trans j); have v := za ((FB.newX d.out 15 x m p [u] (.slice (some ⟨g,o,none⟩) 1 c) 28 grn).step ((WK.grown (d.out.grown gan) grn).trans j)); cases v.out.box.q; have y := v.out.fr.lt
 obtain ⟨b,_,_,_,_⟩ := D.out.kept t.out.gb; have l := ze b; clear s j; go_wp2_with fail
 go_end0
 refine ⟨rfl,?_,I.out⟩; have z := t.out
 try simp only [List.append_assoc,List.nil_append,List.append_nil] at z ⊢
 exact z
theorem zkc (w0 : World) (wb : Nat) (w : World) (S : List UInt8) (L : Nat) (x : List UInt8) (m : Int) (p : Int) (u : T) (v : T) (sv : Value) (h : Wr w0 wb w S L) (ha : AT w0 (T.mk 17 x m p [u,v]).subs sv) (U Z : List UInt8) (he : EXW w0 wb u U) (hz : LW w0 wb L v.subs Z) (hlen : S.length + ([87,72,73,76,69,32] ++ (U ++ ([32,68,79] ++ ([10] ++ (Z ++ (zR L ++ [69,78,68])))))).length <= 1000000000) :
  Calls Tryz.prog 95 #[ptr wb,.agg #[.int .i64 17,.string ⟨List.toArray x⟩,.int .i64 m,.int .i64 p,sv]] w (WP w0 wb w S L ([87,72,73,76,69,32] ++ (U ++ ([32,68,79] ++ ([10] ++ (Z ++ (zR L ++ [69,78,68]))))))) := by
 have l := za h; have a0 := h.lt; have HL := za hlen; have HA := za ha; obtain ⟨g,o,c,u',su,v',sw,rfl,hn,hc,H,n,fu,I,r,fv,J⟩ := ha.two rfl
 have s : u = u' /\ v = v' := by simpa [T.subs] using H
 obtain ⟨rfl,rfl⟩ := s; have K := za n; have AU := za I; have M := za r; have AV := za J; obtain ⟨t,_,_,_,_⟩ := n.kept h.gb; obtain ⟨_,_,_,_,_⟩ := r.kept h.gb; have a1 := ze t; clear h ha H fu I n fv J r
 try simp only [la,lc,ln,zo] at hlen
 have HE := za he; clear he; have HZ := za hz; clear hz
 go_enter Tryz.func95,Tryz.ntmps95
 go_wp2_with fail; go_at_call 142; refine (jH w0 wb _ _ L [87,72,73,76,69,32] [32,68,79] u v [] _ (l.out.grown gan) HA.out U Z HE.out HZ.out (by first | omega | (simp only [la,lc,ln]; omega))).mono ?_; rintro e w1 ⟨rfl,N,y⟩; have j := za N; have K1 := za ((WK.grown l.out gan).trans y); have z := za ((FB.newX l.out 17 x m p [u,v] (.slice (some ⟨g,o,none⟩) 2 c) 28 grn).step ((WK.grown (l.out.grown gan) grn).trans y)); cases z.out.box.q; have O := z.out.fr.lt
 obtain ⟨b,_,_,_,_⟩ := K.out.kept j.out.gb; have A := ze b; obtain ⟨d,_,_,_,_⟩ := M.out.kept j.out.gb; have B := ze d; clear N y; go_wp2_with fail; go_at_call 143; refine (ow w0 wb _ _ L (j.out.grown grn) (by first | omega | (simp only [la,lc,ln]; omega))).mono ?_; rintro e w2 ⟨rfl,R,C⟩; have D := za R; have K2 := km K1 j C; have V := bm z j C; cases V.out.box.q; have X := V.out.fr.lt
 obtain ⟨f,_,_,_,_⟩ := K.out.kept D.out.gb; have E := ze f; obtain ⟨i,_,_,_,_⟩ := M.out.kept D.out.gb; have F := ze i; clear R C; go_wp2_with fail
 go_end0
 refine ⟨rfl,?_,K2.out⟩; have Y := D.out
 try simp only [List.append_assoc] at Y ⊢
 exact Y
theorem zjv (w0 : World) (wb : Nat) (w : World) (S : List UInt8) (L : Nat) (x : List UInt8) (m : Int) (p : Int) (u : T) (v : T) (sv : Value) (h : Wr w0 wb w S L) (ha : AT w0 (T.mk 18 x m p [u,v]).subs sv) (Z V : List UInt8) (hz : LW w0 wb L u.subs Z) (he : EXW w0 wb v V) (hlen : S.length + ([82,69,80,69,65,84,10] ++ (Z ++ (zR L ++ ([85,78,84,73,76,32] ++ V)))).length <= 1000000000) :
  Calls Tryz.prog 95 #[ptr wb,.agg #[.int .i64 18,.string ⟨List.toArray x⟩,.int .i64 m,.int .i64 p,sv]] w (WP w0 wb w S L ([82,69,80,69,65,84,10] ++ (Z ++ (zR L ++ ([85,78,84,73,76,32] ++ V))))) := by
 have E := za h; have b1 := h.lt; have HL := za hlen; have HA := za ha; obtain ⟨g,o,c,u',su,v',sw,rfl,hn,hc,hl,F,fu,au,H,fv,av⟩ := ha.two rfl
 have I : u = u' /\ v = v' := by simpa [T.subs] using hl
 obtain ⟨rfl,rfl⟩ := I; have y := za F; have AU := za au; have z := za H; have AV := za av; obtain ⟨J,_,_,_,_⟩ := F.kept h.gb; obtain ⟨_,_,_,_,_⟩ := H.kept h.gb; have b2 := ze J; clear h ha hl fu au F fv av H
 try simp only [la,lc,ln,zo] at hlen
 have HZ := za hz; clear hz; have HE := za he; clear he
 go_enter Tryz.func95,Tryz.ntmps95
 go_wp2_with fail; go_at_call 40; refine (ye w0 wb _ _ L [82,69,80,69,65,84,10] _ _ (by simp) (E.out.grown gan) (by first | omega | (simp only [List.length_cons,List.length_nil]; omega))).mono ?_; rintro e w1 ⟨rfl,j1,K⟩; have A := za j1; have K1 := za ((WK.grown E.out gan).trans K); have M := za ((FB.newX E.out 18 x m p [u,v] (.slice (some ⟨g,o,none⟩) 2 c) 28 grn).step ((WK.grown (E.out.grown gan) grn).trans K)); cases M.out.box.q; have a6 := M.out.fr.lt
 obtain ⟨b,_,_,_,_⟩ := y.out.kept A.out.gb; have N := ze b; obtain ⟨d,_,_,_,_⟩ := z.out.kept A.out.gb; have O := ze d; clear j1 K; go_wp2_with fail; go_at_call 46; refine (HZ.out _ _ _ (A.out.grown grn) AU.out (by first | omega | (simp only [la,lc,ln]; omega))).mono ?_; rintro e w2 ⟨rfl,j2,R⟩; have B := za j2; have K2 := km K1 A R; have U := bm M A R; cases U.out.box.q; have a7 := U.out.fr.lt
 obtain ⟨f,_,_,_,_⟩ := y.out.kept B.out.gb; have X := ze f; obtain ⟨i,_,_,_,_⟩ := z.out.kept B.out.gb; have Y := ze i; clear j2 R; go_wp2_with fail; go_at_call 81; refine (uX w0 wb _ _ L (B.out.grown grn) (by first | omega | (simp only [la,lc,ln]; omega))).mono ?_; rintro e w3 ⟨rfl,j3,k3⟩; have C := za j3; have K3 := km K2 B k3; have B3 := bm U B k3; cases B3.out.box.q; have a8 := B3.out.fr.lt
 obtain ⟨j,_,_,_,_⟩ := y.out.kept C.out.gb; have a0 := ze j; obtain ⟨l,_,_,_,_⟩ := z.out.kept C.out.gb; have a1 := ze l; clear j3 k3; go_wp2_with fail; go_at_call 40; refine (ye w0 wb _ _ L [85,78,84,73,76,32] _ _ (by simp) (C.out.grown grn) (by first | omega | (simp only [la,lc,ln,zo]; omega))).mono ?_; rintro e w4 ⟨rfl,j4,k4⟩; have D := za j4; have K4 := km K3 C k4; have B4 := bm B3 C k4; cases B4.out.box.q; have a9 := B4.out.fr.lt
 obtain ⟨n,_,_,_,_⟩ := y.out.kept D.out.gb; have a2 := ze n; obtain ⟨r,_,_,_,_⟩ := z.out.kept D.out.gb; have a3 := ze r; clear j4 k4; go_wp2_with fail; go_at_call 41; refine (HE.out _ _ L _ (D.out.grown grn) AV.out (by first | omega | (simp only [la,lc,ln,zo]; omega))).mono ?_; rintro e w5 ⟨rfl,j5,k5⟩; have W5 := za j5; have K5 := km K4 D k5; have B5 := bm B4 D k5; cases B5.out.box.q; have b0 := B5.out.fr.lt
 obtain ⟨s,_,_,_,_⟩ := y.out.kept W5.out.gb; have a4 := ze s; obtain ⟨t,_,_,_,_⟩ := z.out.kept W5.out.gb; have a5 := ze t; clear j5 k5; go_wp2_with fail
 go_end0
 refine ⟨rfl,?_,K5.out⟩; have J9 := W5.out
 try simp only [List.append_assoc] at J9 ⊢
 exact J9
theorem zju (w0 : World) (wb : Nat) (w : World) (S : List UInt8) (L : Nat) (k : Int) (x : List UInt8) (m p : Int) (u : T) (sv : Value) (h : Wr w0 wb w S L) (ha : AT w0 (T.mk k x m p [u]).subs sv) (U : List UInt8) (hu : EXW w0 wb u U) (hk : k = 20 \/ k = 21 \/ k = 22 \/ k = 23) (hlen : S.length + (tw k ++ ([40] ++ (zM [44,32] ([u].map fun _ => U) ++ [41]))).length <= 1000000000) :
    Calls Tryz.prog 95 #[ptr wb,.agg #[.int .i64 k,.string ⟨List.toArray x⟩,.int .i64 m,.int .i64 p,sv]] w (WP w0 wb w S L (tw k ++ ([40] ++ (zM [44,32] ([u].map fun _ => U) ++ [41])))) := by
  have b := za h; have y := h.lt; have z := za ha; have A := za hu; obtain ⟨a,n,c,rfl,_,_,g⟩ := ha.any
  change 1 = n at g
  subst g; obtain ⟨I,B,-,J,-,d⟩ := h.maps; have C := ml ((w.alloc (.cells #[.int .i64 k,.string ⟨x.toArray⟩,.int .i64 m,.int .i64 p,.slice a 1 c] 28)).drew) B k (yN d ((zj gan).block _ (World.ownsMap.lt d) (by simp))) (by rcases hk with e | e | e | e <;> simp [e]); clear h d ha hu
  rcases hk with rfl | rfl | rfl | rfl
  all_goals
    generalize tw _ = X at *
    have D := sQ X; simp only [la,lc,ln] at hlen
    go_enter Tryz.func95,Tryz.ntmps95
    go_wp2_with fail
    go_region_with
      (go_at_call 40
       refine (ft w0 wb _ _ L X _ _ (by simp) (b.out.grown gan) (by omega)).mono ?_; rintro e K ⟨rfl,i,f⟩; have j := za i; have E := za ((WK.grown b.out gan).trans f); have l := za ((FB.newX b.out _ x m p [u] (.slice a 1 c) 28 grn).step f); obtain ⟨_,_,_,_,_⟩ := l.out.box; have o := l.out.fr.lt
       clear i f)
    all_goals
      go_wp2_with fail; go_at_call 88; refine (jO w0 wb _ _ L [u] _ (fun _ => U) (j.out.grown grn) z.out (fun v hv => (List.mem_singleton.1 hv).symm ▸ A.out) (by first | omega | (simp only [la,lc,ln]; omega))).mono ?_; rintro e M ⟨rfl,r,s⟩; have F := za r; have H := km E j s; clear r s; go_wp2_with fail
      go_end0
      refine ⟨rfl,?_,H.out⟩; have t := F.out; simp only [List.append_assoc] at t ⊢
      exact t
def jw (tx : T -> List UInt8) (ts : List T) : List UInt8 := zZ (fun v => [32] ++ tx v) ts
theorem zb4 {tx : T -> List UInt8} {ts : List T} {i : Nat} {u : T} (h : ts[i]? = some u) : jw tx (ts.take (i + 1)) = jw tx (ts.take i) ++ ([32] ++ tx u) := by
 unfold jw
 rw [List.take_add_one,h,xu]
 simp [zZ]
theorem zhn (tx : T -> List UInt8) (ts : List T) (i : Nat) : (jw tx (ts.take i)).length <= (jw tx ts).length := by
 have h : jw tx (ts.take i ++ ts.drop i) = jw tx (ts.take i) ++ jw tx (ts.drop i) := xu _ _ _; rw [List.take_append_drop] at h; rw [h,List.length_append]
 omega
theorem ziu (w0 : World) (wb : Nat) (w : World) (S : List UInt8) (L : Nat) (x : List UInt8) (m p : Int) (ts : List T) (sv : Value) (h : Wr w0 wb w S L) (ha : AT w0 (T.mk 19 x m p ts).subs sv) (tx : T -> List UInt8) (he : ∀ v ∈ ts,EXW w0 wb v (tx v)) (hlen : S.length + ([82,69,84,85,82,78] ++ jw tx ts).length <= 1000000000) :
  Calls Tryz.prog 95 #[ptr wb,.agg #[.int .i64 19,.string ⟨List.toArray x⟩,.int .i64 m,.int .i64 p,sv]] w (WP w0 wb w S L ([82,69,84,85,82,78] ++ jw tx ts)) := by
 have M := za ha; have f := za h; have N := h.lt; have O := za he; obtain ⟨a,n,c,rfl,_,_,z⟩ := ha.any
 change ts.length = n at z
 subst z; clear h ha he; simp only [la,lc,ln] at hlen
 go_enter Tryz.func95,Tryz.ntmps95
 go_wp2_with fail; go_at_call 40; refine (ye w0 wb _ _ L [82,69,84,85,82,78] _ _ (by simp) (f.out.grown gan) (by first | omega | (simp only [List.length_cons,List.length_nil]; omega))).mono ?_; rintro e w1 ⟨rfl,A,o⟩; have R := za A; have g := za ((WK.grown f.out gan).trans o); have B := za ((FB.newX f.out 19 x m p ts (.slice a ts.length c) 28 grn).step ((WK.grown (f.out.grown gan) grn).trans o)); cases B.out.box.q; have C := B.out.fr.lt
 clear A o; go_wp2_with fail
 go_loopw [101] (fun iv wr => ∃ i : Nat,i <= ts.length /\ iv = .int .i64 ↑i /\ Hid (Wr w0 wb wr (S ++ ([82,69,84,85,82,78] ++ jw tx (ts.take i))) L) /\ Hid (WK wb w wr)) (fun iv _ => ts.length - (intOf iv).toNat)
 case atStart => exact ⟨0,Nat.zero_le _,rfl,by show Wr _ _ _ _ _; simpa [jw,zZ] using R.out,g.out⟩
 case round =>
  obtain ⟨i,_,rfl,b,g⟩ := hrel
  by_cases r : i < ts.length
  ·obtain ⟨u,j⟩ : ∃ u,ts[i]? = some u := ⟨_,List.getElem?_eq_getElem r⟩
   obtain ⟨_,_,_,D,E,U,s⟩ := M.out.node i u j; cases D; obtain ⟨V,X,rfl,_,_⟩ := s.form; obtain ⟨_,_,_,_,_⟩ := E.kept b.out.gb; have F := za (zb4 (tx := tx) j); have d := zhn tx ts (i + 1); have Y := za s; have t := za (O.out u (List.mem_of_getElem? j)); rw [F.out] at d; simp only [la,lc,ln] at d; clear j U s E; have H := FB.new b.out u (.slice V u.subs.length X) 28 grn; have Z := za H; clear H; go_wp2_with fail; go_at_call 40; refine (ye w0 wb _ _ L [32] _ _ (by simp) (b.out.grown gan) (by first | omega | (simp only [la,lc,ln]; omega))).mono ?_; rintro e x2 ⟨rfl,I,y⟩; have l := za I; have K2 := za (g.out.trans ((WK.grown b.out gan).trans y)); obtain ⟨_,D,_,_,_⟩ := (Z.out.step ((WK.grown (b.out.grown gan) grn).trans y)).box; clear I y; go_wp2_with fail; go_at_call 41; refine (t.out _ _ L _ (l.out.grown grn) Y.out (by first | omega | (simp only [la,lc,ln]; omega))).mono ?_; rintro e x3 ⟨rfl,J,K⟩
   have J3 : Hid (Wr w0 wb x3 (S ++ ([82,69,84,85,82,78] ++ jw tx (ts.take (i + 1)))) L) := by show Wr _ _ _ _ _; rw [F.out]; simpa only [List.append_assoc] using J
   have K3 := za (K2.out.trans ((WK.grown l.out grn).trans K)); clear J K; go_wp2_with fail
   exact ⟨⟨i + 1,by omega,by go_num,J3,K3⟩,by simp [intOf]; omega⟩
  ·have l : Hid (Wr w0 wb wr (S ++ ([82,69,84,85,82,78] ++ jw tx ts)) L) := by
    have := b.out; rw [List.take_of_length_le (by omega)] at this
    exact this
   go_wp2_with fail
   go_end0
   exact ⟨rfl,l.out,g.out⟩
theorem fx {ex ac : T -> List UInt8} {L : Nat} {l : List T} (h : l.length <= 1) : yg ex ac L l = zZ (fun x => zR L ++ ([69,76,83,69] ++ ([10] ++ ac x))) l := by
 match l,h with
 | [],_ => rfl
 | [x],_ => simp [yg,zZ]
def uj (ac : T -> List UInt8) (L : Nat) (l : List T) : List UInt8 := zZ (fun x => zR L ++ ([69,76,83,69] ++ ([10] ++ ac x))) l
theorem pG {ac : T -> List UInt8} {L : Nat} {ts : List T} {i : Nat} {u : T} (h : ts[i]? = some u) : uj ac L (ts.take (i + 1)) = uj ac L (ts.take i) ++ (zR L ++ ([69,76,83,69] ++ ([10] ++ ac u))) := by
 unfold uj
 rw [List.take_add_one,h,xu]
 simp [zZ]
theorem cY (ac : T -> List UInt8) (L : Nat) (ts : List T) (i : Nat) : (uj ac L (ts.take i)).length <= (uj ac L ts).length := by
 have h : uj ac L (ts.take i ++ ts.drop i) = uj ac L (ts.take i) ++ uj ac L (ts.drop i) := xu _ _ _; rw [List.take_append_drop] at h; rw [h,List.length_append]
 omega
def pf : Value -> Nat
 | .slice _ n _ => n
 | _ => 0
inductive Rest (w0 : World) (wb L : Nat) (ex ac : T -> List UInt8) : List T -> Prop
 | nil : Rest w0 wb L ex ac []
 | one (x : T) (h : LW w0 wb L x.subs (ac x)) : Rest w0 wb L ex ac [x]
 | more (x y : T) (l : List T) (hx : EXW w0 wb x (ex x)) (hy : LW w0 wb L y.subs (ac y)) (h : Rest w0 wb L ex ac l) : Rest w0 wb L ex ac (x :: y :: l)
theorem AT.rest2 {w : World} {x y : T} {l : List T} {a : Option Addr} {n c : Nat} (h : AT w (x :: y :: l) (.slice a n c)) : ∃ g o,a = some ⟨g,o,none⟩ /\ n = l.length + 2 /\ l.length + 2 <= c /\ c <= 9223372036854775807 /\ AT w l (.slice (some ⟨g,o + 10,none⟩) l.length (c - 2)) := by
 obtain ⟨i,j,e,b,d⟩ := h.form; cases e
 unfold maxLen at d
 obtain ⟨g,o,r,rfl,-,-,-⟩ := h.node 0 x rfl; have := h.drop 2 (by simp)
 exact ⟨g,o,rfl,by simp,by simpa using b,by omega,by simpa using this⟩
theorem AT.slice {w : World} {l : List T} {v : Value} (h : AT w l v) : ∃ a c,v = .slice a l.length c /\ l.length <= c /\ c <= 9223372036854775807 := by
 obtain ⟨a,c,e,b,d⟩ := h.form
 unfold maxLen at d
 exact ⟨a,c,e,b,by omega⟩
theorem zbi (w0 : World) (wb : Nat) (w : World) (S : List UInt8) (L : Nat) (x : List UInt8) (m p : Int) (u v : T) (us : List T) (sv : Value) (h : Wr w0 wb w S L) (ha : AT w0 (T.mk 16 x m p (u :: v :: us)).subs sv) (U Z : List UInt8) (ex ac : T -> List UInt8) (hu : EXW w0 wb u U) (hz : LW w0 wb L v.subs Z) (hr : Rest w0 wb L ex ac us) (hlen : S.length + ([73,70,32] ++ (U ++ ([32,84,72,69,78] ++ ([10] ++ (Z ++ (yg ex ac L us ++ (zR L ++ [69,78,68]))))))).length <= 1000000000) :
  Calls Tryz.prog 141 #[ptr wb,yl (.mk 16 x m p (u :: v :: us)) sv] w (WP w0 wb w S L ([73,70,32] ++ (U ++ ([32,84,72,69,78] ++ ([10] ++ (Z ++ (yg ex ac L us ++ (zR L ++ [69,78,68])))))))) := by
 have HW := za h; have d2 := h.lt; have HU := za hu; have HZ := za hz; have HR := za hr; have HA := za ha; obtain ⟨a,c,rfl,hn,_⟩ := AT.slice ha; obtain ⟨g,o,rfl,c5,d3,-,ar⟩ := AT.rest2 (show AT w0 (u :: v :: us) _ from ha); have AR := za ar
 have d4 : g < w.heap.size := by
  obtain ⟨g',o',su,e,n5,-,-⟩ := ha.node 0 u rfl; cases e
  exact ze (n5.kept h.gb).c0
 clear h ha hu hz hr ar hn c5
 change Calls Tryz.prog 141 #[ptr wb,.agg #[.int .i64 16,.string ⟨List.toArray x⟩,.int .i64 m,.int .i64 p,.slice (some ⟨g,o,none⟩) (us.length + 1 + 1) c]] w _
 simp only [la,lc,ln,zo] at hlen
 have b0 : ∃ C,Hid (AT w0 us C) /\ ((2 < c /\ C = .slice (some ⟨g,o + 10,none⟩) us.length (c - 2)) \/ (c = 2 /\ C = .slice (some ⟨g,o,none⟩) 0 0)) := by
  rcases Nat.lt_or_ge 2 c with h2 | h2
  ·exact ⟨_,AR,.inl ⟨h2,rfl⟩⟩
  ·obtain rfl : c = 2 := by omega
   obtain rfl : us = [] := List.eq_nil_of_length_eq_zero (by omega)
   exact ⟨_,AT.nil _ _ (Nat.zero_le _),.inr ⟨rfl,rfl⟩⟩
 obtain ⟨C,b0,c6⟩ := b0
 have c7 : ((us.length : Int) + 1 + 1 - 2).toNat = us.length := by omega
 rcases c6 with ⟨h2,rfl⟩ | ⟨rfl,rfl⟩
 ·go_enter Tryz.func141,Tryz.ntmps141
  go_wp2_with fail; go_at_call 142; refine (jH w0 wb _ _ L [73,70,32] [32,84,72,69,78] u v us _ (HW.out.grown gan) HA.out U Z HU.out HZ.out (by first | omega | (simp only [la,lc,ln]; omega))).mono ?_; rintro e w1 ⟨rfl,j1,k1⟩; have W1 := za j1; have H := za ((WK.grown HW.out gan).trans k1); have B1 := za ((FB.newX HW.out 16 x m p (u :: v :: us) (.slice (some ⟨g,o,none⟩) (us.length + 1 + 1) c) 28 grn).step ((WK.grown (HW.out.grown gan) grn).trans k1)); obtain ⟨b4,b5,b6,b7,b8⟩ := B1.out.box.p; have b9 := B1.out.fr.lt
  clear j1 k1; clear HU HZ HA AR; go_wp2_with fail
  go_loopw [4] (fun C wr => ∃ (l : List T) (P : List UInt8),Hid (AT w0 l C) /\ Hid (Rest w0 wb L ex ac l) /\ Hid (P ++ yg ex ac L l = yg ex ac L us) /\ Hid (Wr w0 wb wr (S ++ (([73,70,32] ++ (U ++ ([32,84,72,69,78] ++ ([10] ++ Z)))) ++ P)) L) /\ Hid (WK wb w wr)) (fun C _ => pf C)
  case atStart => exact ⟨us,[],b0,HR,by show _ = _; rfl,by show Wr _ _ _ _ _; simpa only [List.append_nil] using W1.out,H.out⟩
  case round =>
   obtain ⟨l,P,I,O,K,s,H⟩ := hrel; obtain ⟨a1,V,rfl,X,c8⟩ := AT.slice I.out
   have r : P.length + (yg ex ac L l).length = (yg ex ac L us).length := by rw [<- List.length_append,K.out]
   rcases Nat.lt_or_ge 1 l.length with d | d
   ·match l,I,O,K,X,d,r with
    | y :: z :: l,I,O,K,X,d,r =>
     obtain ⟨hy,Y,hl⟩ : EXW w0 wb y (ex y) /\ LW w0 wb L z.subs (ac z) /\ Rest w0 wb L ex ac l := by cases O.out with | more _ _ _ a b c => exact ⟨a,b,c⟩
     have HY := za hy; have a2 := za Y; have a3 := za hl; obtain ⟨gg,oo,rfl,-,c9,-,a4⟩ := AT.rest2 I.out
     have j : yg ex ac L (y :: z :: l) = zR L ++ ([69,76,83,73,70,32] ++ (ex y ++ ([32,84,72,69,78] ++ ([10] ++ (ac z ++ yg ex ac L l))))) := by simp [yg]
     have D : Hid ((P ++ (zR L ++ ([69,76,83,73,70,32] ++ (ex y ++ ([32,84,72,69,78] ++ ([10] ++ ac z)))))) ++ yg ex ac L l = yg ex ac L us) := by show _ = _; rw [<- K.out,j]; simp only [List.append_assoc]
     rw [j] at r; simp only [la,lc,ln,zo] at r
     have n : ∃ C,Hid (AT w0 l C) /\ ((2 < V /\ C = .slice (some ⟨gg,oo + 10,none⟩) l.length (V - 2)) \/ (V = 2 /\ C = .slice (some ⟨gg,oo,none⟩) 0 0)) := by
      rcases Nat.lt_or_ge 2 V with h2 | h2
      ·exact ⟨_,a4,.inl ⟨h2,rfl⟩⟩
      ·obtain rfl : V = 2 := by omega
       obtain rfl : l = [] := List.eq_nil_of_length_eq_zero (by omega)
       exact ⟨_,AT.nil _ _ (Nat.zero_le _),.inr ⟨rfl,rfl⟩⟩
     obtain ⟨d0,n,a5⟩ := n
     have b1 : (1 : Int) < (l.length : Int) + 1 + 1 := by omega
     have a6 : (y :: z :: l).length = l.length + 1 + 1 := rfl
     rw [a6] at I; clear hy Y hl a4 O K j a6 d; simp only [List.length_cons] at *
     rcases a5 with ⟨d1,rfl⟩ | ⟨rfl,rfl⟩
     ·go_wp2_with fail
      go_at_call 81; refine (uX w0 wb _ _ L (s.out.grown grn) (by first | omega | (simp only [la,lc,ln]; omega))).mono ?_; rintro e x2 ⟨rfl,J,E⟩; have t := za J; have K2 := za (H.out.trans ((WK.grown s.out grn).trans E)); clear J E; go_wp2_with fail; go_at_call 142; refine (jH w0 wb _ _ L [69,76,83,73,70,32] [32,84,72,69,78] y z l _ (t.out.grown grn) I.out (ex y) (ac z) HY.out a2.out (by first | omega | (simp only [la,lc,ln,zo]; omega))).mono ?_; rintro e R ⟨rfl,A,B⟩
      have M : Hid (Wr w0 wb R (S ++ (([73,70,32] ++ (U ++ ([32,84,72,69,78] ++ ([10] ++ Z)))) ++ (P ++ (zR L ++ ([69,76,83,73,70,32] ++ (ex y ++ ([32,84,72,69,78] ++ ([10] ++ ac z)))))))) L) := by show Wr _ _ _ _ _; simpa only [List.append_assoc] using A
      have N := za (K2.out.trans ((WK.grown t.out grn).trans B)); clear A B; go_wp2_with fail
      exact ⟨⟨l,_,n,a3,D,M,N⟩,by first | (simp [pf]; omega) | simp [pf]⟩
     ·go_wp2_with fail
      go_at_call 81; refine (uX w0 wb _ _ L (s.out.grown grn) (by first | omega | (simp only [la,lc,ln]; omega))).mono ?_; rintro e x2 ⟨rfl,J,E⟩; have t := za J; have K2 := za (H.out.trans ((WK.grown s.out grn).trans E)); clear J E; go_wp2_with fail; go_at_call 142; refine (jH w0 wb _ _ L [69,76,83,73,70,32] [32,84,72,69,78] y z l _ (t.out.grown grn) I.out (ex y) (ac z) HY.out a2.out (by first | omega | (simp only [la,lc,ln,zo]; omega))).mono ?_; rintro e R ⟨rfl,A,B⟩
      have M : Hid (Wr w0 wb R (S ++ (([73,70,32] ++ (U ++ ([32,84,72,69,78] ++ ([10] ++ Z)))) ++ (P ++ (zR L ++ ([69,76,83,73,70,32] ++ (ex y ++ ([32,84,72,69,78] ++ ([10] ++ ac z)))))))) L) := by show Wr _ _ _ _ _; simpa only [List.append_assoc] using A
      have N := za (K2.out.trans ((WK.grown t.out grn).trans B)); clear A B; go_wp2_with fail
      exact ⟨⟨l,_,n,a3,D,M,N⟩,by first | (simp [pf]; omega) | simp [pf]⟩
   ·have b2 : Hid (∀ z ∈ l,LW w0 wb L z.subs (ac z)) := by
     intro z a7; cases O.out with
     | nil => cases a7
     | one x hx => obtain rfl := List.mem_singleton.1 a7; exact hx
     | more _ _ _ _ _ _ => simp at d
    have D : Hid (P ++ uj ac L l = yg ex ac L us) := by show _ = _; rw [<- K.out,fx d]; rfl
    rw [fx d] at r
    change P.length + (uj ac L l).length = _ at r
    have b1 : ¬ (1 : Int) < (l.length : Int) := by omega
    clear O K; go_wp2_with fail
    go_loopw [26] (fun iv ws => ∃ i : Nat,i <= l.length /\ iv = .int .i64 ↑i /\ Hid (Wr w0 wb ws (S ++ (([73,70,32] ++ (U ++ ([32,84,72,69,78] ++ ([10] ++ Z)))) ++ (P ++ uj ac L (l.take i)))) L) /\ Hid (WK wb w ws)) (fun iv _ => l.length - (intOf iv).toNat)
    case atStart => exact ⟨0,Nat.zero_le _,rfl,by show Wr _ _ _ _ _; simpa [uj,zZ] using s.out,H⟩
    case round =>
     obtain ⟨i,hi,rfl,s,H⟩ := hrel
     by_cases a8 : i < l.length
     ·obtain ⟨z,F⟩ : ∃ z,l[i]? = some z := ⟨_,List.getElem?_eq_getElem a8⟩
      obtain ⟨gg,oo,su,e1,n5,fu,au⟩ := I.out.node i z F; cases e1; obtain ⟨ua,uc,rfl,_,_⟩ := au.form; obtain ⟨c0,c1,c2,c3,c4⟩ := n5.kept s.out.gb; have HT := za (pG (ac := ac) (L := L) F); have a9 := cY ac L l (i + 1); have AU := za au; have b3 := za (b2.out z (List.mem_of_getElem? F)); rw [HT.out] at a9; simp only [la,lc,ln,zo] at a9; clear F fu au n5; have hb := FB.new s.out z (.slice ua z.subs.length uc) 28 grn; have HB := za hb; clear hb; go_wp2_with fail; go_at_call 35; refine (sG w0 wb _ _ L [69,76,83,69] _ _ (by simp) (s.out.grown gan) (by first | omega | (simp only [la,lc,ln]; omega))).mono ?_; rintro e x2 ⟨rfl,J,E⟩; have t := za J; have K2 := za (H.out.trans ((WK.grown s.out gan).trans E)); obtain ⟨e0,e1,e2,e3,e4⟩ := (HB.out.step ((WK.grown (s.out.grown gan) grn).trans E)).box; clear J E; go_wp2_with fail; go_at_call 46; refine (b3.out _ _ _ (t.out.grown grn) AU.out (by first | omega | (simp only [la,lc,ln,zo]; omega))).mono ?_; rintro e R ⟨rfl,A,B⟩
      have M : Hid (Wr w0 wb R (S ++ (([73,70,32] ++ (U ++ ([32,84,72,69,78] ++ ([10] ++ Z)))) ++ (P ++ uj ac L (l.take (i + 1))))) L) := by show Wr _ _ _ _ _; rw [HT.out]; simpa only [List.append_assoc] using A
      have N := za (K2.out.trans ((WK.grown t.out grn).trans B)); clear A B; go_wp2_with fail
      exact ⟨⟨i + 1,by omega,by go_num,M,N⟩,by simp [intOf]; omega⟩
     ·have t : Hid (Wr w0 wb wr (S ++ (([73,70,32] ++ (U ++ ([32,84,72,69,78] ++ ([10] ++ Z)))) ++ yg ex ac L us)) L) := by
       have := s.out; rw [List.take_of_length_le (by omega),D.out] at this
       exact this
      go_wp2_with fail; go_at_call 143; refine (ow w0 wb _ _ L (t.out.grown grn) (by first | omega | (simp only [la,lc,ln]; omega))).mono ?_; rintro e R ⟨rfl,A,B⟩; have M := za A; have N := za (H.out.trans ((WK.grown t.out grn).trans B)); clear A B; go_wp2_with fail
      go_end0
      refine ⟨rfl,?_,N.out⟩; have J9 := M.out; simp only [List.append_assoc] at J9 ⊢
      exact J9
 ·go_enter Tryz.func141,Tryz.ntmps141
  go_wp2_with fail; go_at_call 142; refine (jH w0 wb _ _ L [73,70,32] [32,84,72,69,78] u v us _ (HW.out.grown gan) HA.out U Z HU.out HZ.out (by first | omega | (simp only [la,lc,ln]; omega))).mono ?_; rintro e w1 ⟨rfl,j1,k1⟩; have W1 := za j1; have H := za ((WK.grown HW.out gan).trans k1); have B1 := za ((FB.newX HW.out 16 x m p (u :: v :: us) (.slice (some ⟨g,o,none⟩) (us.length + 1 + 1) 2) 28 grn).step ((WK.grown (HW.out.grown gan) grn).trans k1)); obtain ⟨b4,b5,b6,b7,b8⟩ := B1.out.box.p; have b9 := B1.out.fr.lt
  clear j1 k1; clear HU HZ HA AR; go_wp2_with fail
  go_loopw [4] (fun C wr => ∃ (l : List T) (P : List UInt8),Hid (AT w0 l C) /\ Hid (Rest w0 wb L ex ac l) /\ Hid (P ++ yg ex ac L l = yg ex ac L us) /\ Hid (Wr w0 wb wr (S ++ (([73,70,32] ++ (U ++ ([32,84,72,69,78] ++ ([10] ++ Z)))) ++ P)) L) /\ Hid (WK wb w wr)) (fun C _ => pf C)
  case atStart => exact ⟨us,[],b0,HR,by show _ = _; rfl,by show Wr _ _ _ _ _; simpa only [List.append_nil] using W1.out,H.out⟩
  case round =>
   obtain ⟨l,P,I,O,K,s,H⟩ := hrel; obtain ⟨a1,V,rfl,X,c8⟩ := AT.slice I.out
   have r : P.length + (yg ex ac L l).length = (yg ex ac L us).length := by rw [<- List.length_append,K.out]
   rcases Nat.lt_or_ge 1 l.length with d | d
   ·match l,I,O,K,X,d,r with
    | y :: z :: l,I,O,K,X,d,r =>
     obtain ⟨hy,Y,hl⟩ : EXW w0 wb y (ex y) /\ LW w0 wb L z.subs (ac z) /\ Rest w0 wb L ex ac l := by cases O.out with | more _ _ _ a b c => exact ⟨a,b,c⟩
     have HY := za hy; have a2 := za Y; have a3 := za hl; obtain ⟨gg,oo,rfl,-,c9,-,a4⟩ := AT.rest2 I.out
     have j : yg ex ac L (y :: z :: l) = zR L ++ ([69,76,83,73,70,32] ++ (ex y ++ ([32,84,72,69,78] ++ ([10] ++ (ac z ++ yg ex ac L l))))) := by simp [yg]
     have D : Hid ((P ++ (zR L ++ ([69,76,83,73,70,32] ++ (ex y ++ ([32,84,72,69,78] ++ ([10] ++ ac z)))))) ++ yg ex ac L l = yg ex ac L us) := by show _ = _; rw [<- K.out,j]; simp only [List.append_assoc]
     rw [j] at r; simp only [la,lc,ln,zo] at r
     have n : ∃ C,Hid (AT w0 l C) /\ ((2 < V /\ C = .slice (some ⟨gg,oo + 10,none⟩) l.length (V - 2)) \/ (V = 2 /\ C = .slice (some ⟨gg,oo,none⟩) 0 0)) := by
      rcases Nat.lt_or_ge 2 V with h2 | h2
      ·exact ⟨_,a4,.inl ⟨h2,rfl⟩⟩
      ·obtain rfl : V = 2 := by omega
       obtain rfl : l = [] := List.eq_nil_of_length_eq_zero (by omega)
       exact ⟨_,AT.nil _ _ (Nat.zero_le _),.inr ⟨rfl,rfl⟩⟩
     obtain ⟨d0,n,a5⟩ := n
     have b1 : (1 : Int) < (l.length : Int) + 1 + 1 := by omega
     have a6 : (y :: z :: l).length = l.length + 1 + 1 := rfl
     rw [a6] at I; clear hy Y hl a4 O K j a6 d; simp only [List.length_cons] at *
     rcases a5 with ⟨d1,rfl⟩ | ⟨rfl,rfl⟩
     ·go_wp2_with fail
      go_at_call 81; refine (uX w0 wb _ _ L (s.out.grown grn) (by first | omega | (simp only [la,lc,ln]; omega))).mono ?_; rintro e x2 ⟨rfl,J,E⟩; have t := za J; have K2 := za (H.out.trans ((WK.grown s.out grn).trans E)); clear J E; go_wp2_with fail; go_at_call 142; refine (jH w0 wb _ _ L [69,76,83,73,70,32] [32,84,72,69,78] y z l _ (t.out.grown grn) I.out (ex y) (ac z) HY.out a2.out (by first | omega | (simp only [la,lc,ln,zo]; omega))).mono ?_; rintro e R ⟨rfl,A,B⟩
      have M : Hid (Wr w0 wb R (S ++ (([73,70,32] ++ (U ++ ([32,84,72,69,78] ++ ([10] ++ Z)))) ++ (P ++ (zR L ++ ([69,76,83,73,70,32] ++ (ex y ++ ([32,84,72,69,78] ++ ([10] ++ ac z)))))))) L) := by show Wr _ _ _ _ _; simpa only [List.append_assoc] using A
      have N := za (K2.out.trans ((WK.grown t.out grn).trans B)); clear A B; go_wp2_with fail
      exact ⟨⟨l,_,n,a3,D,M,N⟩,by first | (simp [pf]; omega) | simp [pf]⟩
     ·go_wp2_with fail
      go_at_call 81; refine (uX w0 wb _ _ L (s.out.grown grn) (by first | omega | (simp only [la,lc,ln]; omega))).mono ?_; rintro e x2 ⟨rfl,J,E⟩; have t := za J; have K2 := za (H.out.trans ((WK.grown s.out grn).trans E)); clear J E; go_wp2_with fail; go_at_call 142; refine (jH w0 wb _ _ L [69,76,83,73,70,32] [32,84,72,69,78] y z l _ (t.out.grown grn) I.out (ex y) (ac z) HY.out a2.out (by first | omega | (simp only [la,lc,ln,zo]; omega))).mono ?_; rintro e R ⟨rfl,A,B⟩
      have M : Hid (Wr w0 wb R (S ++ (([73,70,32] ++ (U ++ ([32,84,72,69,78] ++ ([10] ++ Z)))) ++ (P ++ (zR L ++ ([69,76,83,73,70,32] ++ (ex y ++ ([32,84,72,69,78] ++ ([10] ++ ac z)))))))) L) := by show Wr _ _ _ _ _; simpa only [List.append_assoc] using A
      have N := za (K2.out.trans ((WK.grown t.out grn).trans B)); clear A B; go_wp2_with fail
      exact ⟨⟨l,_,n,a3,D,M,N⟩,by first | (simp [pf]; omega) | simp [pf]⟩
   ·have b2 : Hid (∀ z ∈ l,LW w0 wb L z.subs (ac z)) := by
     intro z a7; cases O.out with
     | nil => cases a7
     | one x hx => obtain rfl := List.mem_singleton.1 a7; exact hx
     | more _ _ _ _ _ _ => simp at d
    have D : Hid (P ++ uj ac L l = yg ex ac L us) := by show _ = _; rw [<- K.out,fx d]; rfl
    rw [fx d] at r
    change P.length + (uj ac L l).length = _ at r
    have b1 : ¬ (1 : Int) < (l.length : Int) := by omega
    clear O K; go_wp2_with fail
    go_loopw [26] (fun iv ws => ∃ i : Nat,i <= l.length /\ iv = .int .i64 ↑i /\ Hid (Wr w0 wb ws (S ++ (([73,70,32] ++ (U ++ ([32,84,72,69,78] ++ ([10] ++ Z)))) ++ (P ++ uj ac L (l.take i)))) L) /\ Hid (WK wb w ws)) (fun iv _ => l.length - (intOf iv).toNat)
    case atStart => exact ⟨0,Nat.zero_le _,rfl,by show Wr _ _ _ _ _; simpa [uj,zZ] using s.out,H⟩
    case round =>
     obtain ⟨i,hi,rfl,s,H⟩ := hrel
     by_cases a8 : i < l.length
     ·obtain ⟨z,F⟩ : ∃ z,l[i]? = some z := ⟨_,List.getElem?_eq_getElem a8⟩
      obtain ⟨gg,oo,su,e1,n5,fu,au⟩ := I.out.node i z F; cases e1; obtain ⟨ua,uc,rfl,_,_⟩ := au.form; obtain ⟨c0,c1,c2,c3,c4⟩ := n5.kept s.out.gb; have HT := za (pG (ac := ac) (L := L) F); have a9 := cY ac L l (i + 1); have AU := za au; have b3 := za (b2.out z (List.mem_of_getElem? F)); rw [HT.out] at a9; simp only [la,lc,ln,zo] at a9; clear F fu au n5; have hb := FB.new s.out z (.slice ua z.subs.length uc) 28 grn; have HB := za hb; clear hb; go_wp2_with fail; go_at_call 35; refine (sG w0 wb _ _ L [69,76,83,69] _ _ (by simp) (s.out.grown gan) (by first | omega | (simp only [la,lc,ln]; omega))).mono ?_; rintro e x2 ⟨rfl,J,E⟩; have t := za J; have K2 := za (H.out.trans ((WK.grown s.out gan).trans E)); obtain ⟨e0,e1,e2,e3,e4⟩ := (HB.out.step ((WK.grown (s.out.grown gan) grn).trans E)).box; clear J E; go_wp2_with fail; go_at_call 46; refine (b3.out _ _ _ (t.out.grown grn) AU.out (by first | omega | (simp only [la,lc,ln,zo]; omega))).mono ?_; rintro e R ⟨rfl,A,B⟩
      have M : Hid (Wr w0 wb R (S ++ (([73,70,32] ++ (U ++ ([32,84,72,69,78] ++ ([10] ++ Z)))) ++ (P ++ uj ac L (l.take (i + 1))))) L) := by show Wr _ _ _ _ _; rw [HT.out]; simpa only [List.append_assoc] using A
      have N := za (K2.out.trans ((WK.grown t.out grn).trans B)); clear A B; go_wp2_with fail
      exact ⟨⟨i + 1,by omega,by go_num,M,N⟩,by simp [intOf]; omega⟩
     ·have t : Hid (Wr w0 wb wr (S ++ (([73,70,32] ++ (U ++ ([32,84,72,69,78] ++ ([10] ++ Z)))) ++ yg ex ac L us)) L) := by
       have := s.out; rw [List.take_of_length_le (by omega),D.out] at this
       exact this
      go_wp2_with fail; go_at_call 143; refine (ow w0 wb _ _ L (t.out.grown grn) (by first | omega | (simp only [la,lc,ln]; omega))).mono ?_; rintro e R ⟨rfl,A,B⟩; have M := za A; have N := za (H.out.trans ((WK.grown t.out grn).trans B)); clear A B; go_wp2_with fail
      go_end0
      refine ⟨rfl,?_,N.out⟩; have J9 := M.out; simp only [List.append_assoc] at J9 ⊢
      exact J9
theorem zka (w0 : World) (wb : Nat) (w : World) (S : List UInt8) (L : Nat) (x : List UInt8) (m p : Int) (ts : List T) (sv : Value) (h : Wr w0 wb w S L) (ha : AT w0 (T.mk 16 x m p ts).subs sv) (X : List UInt8) (hch : ∀ (w : World) (S : List UInt8) (sv : Value),Wr w0 wb w S L -> AT w0 (T.mk 16 x m p ts).subs sv -> S.length + X.length <= 1000000000 -> Calls Tryz.prog 141 #[ptr wb,yl (.mk 16 x m p ts) sv] w (WP w0 wb w S L X)) (hlen : S.length + X.length <= 1000000000) :
  Calls Tryz.prog 95 #[ptr wb,.agg #[.int .i64 16,.string ⟨List.toArray x⟩,.int .i64 m,.int .i64 p,sv]] w (WP w0 wb w S L X) := by
 have b := za h; have j := h.lt; have l := za ha; have n := za hch; obtain ⟨_,_,_,rfl,_,_,o⟩ := ha.any; clear h ha hch o
 go_enter Tryz.func95,Tryz.ntmps95
 go_wp2_with fail; go_at_call 141; refine (n.out _ _ _ (b.out.grown gan) l.out hlen).mono ?_; rintro e t ⟨rfl,d,g⟩; have r := za d; have s := za ((WK.grown b.out gan).trans g); clear d g; go_wp2_with fail
 go_end0
 refine ⟨rfl,?_,s.out⟩; have i := r.out
 try simp only [List.append_assoc,List.nil_append,List.append_nil] at i ⊢
 exact i
section
variable (f L : Nat) (x : List UInt8) (m p : Int) (u v : T) (us : List T)
theorem zkk : yd (f + 1) L (.mk 14 x m p [u,v]) = zg f u ++ ([32,58,61,32] ++ zg f v) := by simp [yd,T.kind,yo,T.subs]
theorem zja : yd (f + 1) L (.mk 15 x m p [u]) = zg f u := by simp [yd,T.kind,yo,T.subs]
theorem zij (h : 0 < us.length) : yd (f + 1) L (.mk 15 x m p (u :: us)) = zg f u ++ ([40] ++ (zM [44,32] (us.map (zg f)) ++ [41])) := by
 have e : yd (f + 1) L (.mk 15 x m p (u :: us)) = zg f u ++ (if 1 < (u :: us).length then qU f us else []) := by simp [yd,T.kind,yo,T.subs]
 rw [e,if_pos (by simp; omega)]
 rfl
theorem zj4 : yd (f + 1) L (.mk 16 x m p (u :: v :: us)) = [73,70,32] ++ (zg f u ++ ([32,84,72,69,78] ++ ([10] ++ (zW f L v.subs ++ (yg (zg f) (fun u => zW f L u.subs) L us ++ (zR L ++ [69,78,68])))))) := by simp [yd,T.kind,yo,T.subs,zW]
theorem zkd : yd (f + 1) L (.mk 17 x m p [u,v]) = [87,72,73,76,69,32] ++ (zg f u ++ ([32,68,79] ++ ([10] ++ (zW f L v.subs ++ (zR L ++ [69,78,68]))))) := by simp [yd,T.kind,yo,T.subs,zW]
theorem zks : yd (f + 1) L (.mk 18 x m p [u,v]) = [82,69,80,69,65,84,10] ++ (zW f L u.subs ++ (zR L ++ ([85,78,84,73,76,32] ++ zg f v))) := by simp [yd,T.kind,yo,T.subs,zW]
theorem zi5 : yd (f + 1) L (.mk 19 x m p []) = [82,69,84,85,82,78] ++ jw (zg f) [] := by simp [yd,T.kind,T.subs,jw,zZ]
theorem zit : yd (f + 1) L (.mk 19 x m p [u]) = [82,69,84,85,82,78] ++ jw (zg f) [u] := by simp [yd,T.kind,yo,T.subs,jw,zZ]
theorem zjm (k : Int) (hk : k = 20 \/ k = 21 \/ k = 22 \/ k = 23) : yd (f + 1) L (.mk k x m p [u]) = tw k ++ ([40] ++ (zM [44,32] ([u].map fun _ => zg f u) ++ [41])) := by
 rcases hk with rfl | rfl | rfl | rfl <;> simp [yd,T.kind,yo,T.subs,tw,zM]
end
theorem zff (w0 : World) (wb : Nat) (hp : PT w0) : ∀ (f L : Nat) (t : T),f + L <= 20000 -> zA t <= f -> Well .act t -> AW w0 wb L t (yd f L t) := by
 intro f
 induction f with
 | zero => intro L t _ h _; have := pH t; omega
 | succ f ih =>
  intro L t A B h
  have i : ∀ u,u ∈ t.subs -> zA u <= f := fun u d => by have := ui d; omega
  have b : ∀ u,u ∈ t.subs -> Well .expression u -> EXW w0 wb u (zg f u) := fun u d hw => (rp w0 wb hp f u (i u d)).2 hw
  have j : ∀ u,u ∈ t.subs -> Well (.list .act) u -> LW w0 wb L u.subs (zW f L u.subs) := by
   intro u d hw; obtain ⟨q,e,rfl,g⟩ := xL hw; have n := i _ d
   exact tP w0 wb L e (yd f (L + 1)) (fun v hv => ih (L + 1) v (by omega) (by have := ui (t := .mk 1 [] 0 q e) (u := v) hv; omega) (g v hv)) (by omega)
  have H := zfs h; cases H with
  | assign p u v d hv => rw [zkk]; exact fun w S sv hw ha hl => zku w0 wb w S L [] 0 p u v sv hw ha _ _ (b u (by simp [T.subs]) (vO d)) (b v (by simp [T.subs]) hv) hl
  | call p u us d hs =>
   cases us with
   | nil => rw [zja]; exact fun w S sv hw ha hl => zh6 w0 wb w S L [] 0 p u sv hw ha _ (b u (by simp [T.subs]) (vO d)) hl
   | cons v e => rw [zij f L [] 0 p u (v :: e) (by simp)]; exact fun w S sv hw ha hl => zip w0 wb w S L [] 0 p u (v :: e) sv hw ha _ (zg f) (b u (by simp [T.subs]) (vO d)) (fun z hz => b z (by simp only [T.subs]; exact List.mem_cons_of_mem _ hz) (hs z hz)) (by simp) hl
  | choice m p u v us hm d hv hs =>
   rw [zj4]
   have s : ∀ us : List T,(∀ z ∈ us,z ∈ (T.mk 16 [] m p (u :: v :: us)).subs \/ True) -> Turns us -> (∀ z ∈ us,zA z <= f) -> Rest w0 wb L (zg f) (fun u => zW f L u.subs) us := by
    intro us _ o
    induction o with
    | nil => intro _; exact .nil
    | one z hz =>
     intro n; obtain ⟨q,e,rfl,g⟩ := xL hz; have r := n _ (List.mem_singleton.2 rfl)
     exact .one _ (tP w0 wb L e (yd f (L + 1)) (fun v hv => ih (L + 1) v (by omega) (by have := ui (t := .mk 1 [] 0 q e) (u := v) hv; omega) (g v hv)) (by omega))
    | more y z l hy hz _ ihl =>
     intro n; obtain ⟨q,e,rfl,g⟩ := xL hz; have r := n (T.mk 1 [] 0 q e) (by simp)
     exact .more _ _ _ ((rp w0 wb hp f y (n y (by simp))).2 hy) (tP w0 wb L e (yd f (L + 1)) (fun v hv => ih (L + 1) v (by omega) (by have := ui (t := .mk 1 [] 0 q e) (u := v) hv; omega) (g v hv)) (by omega)) (ihl (fun _ _ => .inr trivial) (fun z hz => n z (by simp [hz])))
   exact fun w S sv hw ha hl => zka w0 wb w S L [] m p (u :: v :: us) sv hw ha _ (fun w' S' sv' hw' ha' hl' => zbi w0 wb w' S' L [] m p u v us sv' hw' ha' _ _ _ _ (b u (by simp [T.subs]) d) (j v (by simp [T.subs]) hv) (s us (fun _ _ => .inr trivial) hs (fun z hz => i z (by simp [T.subs,hz]))) hl') hl
  | loop p u v d hv => rw [zkd]; exact fun w S sv hw ha hl => zkc w0 wb w S L [] 0 p u v sv hw ha _ _ (b u (by simp [T.subs]) d) (j v (by simp [T.subs]) hv) hl
  | rept p u v d hv => rw [zks]; exact fun w S sv hw ha hl => zjv w0 wb w S L [] 0 p u v sv hw ha _ _ (j u (by simp [T.subs]) d) (b v (by simp [T.subs]) hv) hl
  | ret0 p => rw [zi5]; exact fun w S sv hw ha hl => ziu w0 wb w S L [] 0 p [] sv hw ha (zg f) (fun z hz => by cases hz) hl
  | ret1 p u d => rw [zit]; exact fun w S sv hw ha hl => ziu w0 wb w S L [] 0 p [u] sv hw ha (zg f) (fun z hz => by obtain rfl := List.mem_singleton.1 hz; exact b z (by simp [T.subs]) d) hl
  | word k p u hk d => rw [zjm f L [] 0 p u k hk]; exact fun w S sv hw ha hl => zju w0 wb w S L k [] 0 p u sv hw ha _ (b u (by simp [T.subs]) d) hk hl
theorem ic (w0 : World) (wb : Nat) (hp : PT w0) (f L : Nat) (us : List T) (hL : f + L < 20000) (hd : ∀ u ∈ us,zA u <= f) (hw : ∀ u ∈ us,Well .act u) : LW w0 wb L us (zW f L us) :=
 tP w0 wb L us (yd f (L + 1)) (fun v hv => zff w0 wb hp f (L + 1) v (by omega) (hd v hv) (hw v hv)) (by omega)
theorem fR : EN 44 := enters_of Tryz.func44 (by kernel_rfl) rfl
theorem sy : EN 94 := enters_of Tryz.func94 (by kernel_rfl) rfl
theorem EW.typed {k most : Int} {w0 : World} {wb : Nat} {us : List T} (H : ∀ v ∈ us,Well (.declared k most .typeName) v) (w : World) (L : Nat) : EW w0 wb w L 44 #[ptr wb] #[] us zG := fun t sv w1 S hm ha hw _ hl => dv k most w0 wb w1 S L t sv hw ha (H t hm) hl
theorem EW.param {w0 : World} {wb : Nat} {us : List T} (H : ∀ v ∈ us,Well (.declared 8 1 .typeName) v) (w : World) (L : Nat) : EW w0 wb w L 94 #[ptr wb] #[] us yf := fun t sv w1 S hm ha hw _ hl => aZ w0 wb w1 S L t sv hw ha (H t hm) hl
theorem FB.newB {w0 : World} {wb : Nat} {w w1 : World} {S : List UInt8} {L : Nat} (h : Wr w0 wb w S L) (t : T) (sv : Value) (ty : TypeId) (hg : w.grownBy w1 none) (b : Nat) (hb : b = w1.heap.size) : FB wb (w1.alloc (.cells #[.int .i64 t.kind,.string ⟨t.name.toArray⟩,.int .i64 t.num,.int .i64 t.at',sv] ty)) b t sv := by subst hb; exact FB.new h t sv ty hg
theorem AT.four {w : World} {k m p : Int} {x : List UInt8} {a b c d : T} {sv : Value} (h : AT w (T.mk k x m p [a,b,c,d]).subs sv) : ∃ g o cap sa sb sc sd,sv = .slice (some ⟨g,o,none⟩) 4 cap /\ 4 <= cap /\ cap <= 9223372036854775807 /\ (Node5 w g o a sa /\ AT w a.subs sa) /\ (Node5 w g (o + 5) b sb /\ AT w b.subs sb) /\ (Node5 w g (o + 10) c sc /\ AT w c.subs sc) /\ (Node5 w g (o + 15) d sd /\ AT w d.subs sd) := by
 obtain ⟨A,cap,rfl,e,f⟩ := h.form
 unfold maxLen at f
 obtain ⟨g,o,sa,rfl,i,-,j⟩ := h.node 0 a rfl; obtain ⟨_,_,sb,l,n,-,r⟩ := h.node 1 b rfl; obtain ⟨_,_,sc,s,t,-,u⟩ := h.node 2 c rfl; obtain ⟨_,_,sd,v,y,-,z⟩ := h.node 3 d rfl; cases l; cases s; cases v
 exact ⟨g,o,cap,sa,sb,sc,sd,rfl,e,by omega,⟨by simpa using i,j⟩,⟨by simpa using n,r⟩,⟨by simpa using t,u⟩,⟨by simpa using y,z⟩⟩
theorem zdw (w0 : World) (wb : Nat) (w : World) (S : List UInt8) (x : List UInt8) (m p : Int) (qp qv qa : Int) (pl : List T) (rs : T) (vl al : List T) (sv : Value) (h : Wr w0 wb w S 0) (ha : AT w0 (T.mk 7 x m p [.mk 1 [] 0 qp pl,rs,.mk 1 [] 0 qv vl,.mk 1 [] 0 qa al]).subs sv) (Z : List UInt8) (hps : ∀ v ∈ pl,Well (.declared 8 1 .typeName) v) (hvs : ∀ v ∈ vl,Well (.declared 6 0 .typeName) v) (hz : LW w0 wb 0 al Z) (hne : pl.length = 0) (hk : (rs.kind != 0) = false) (hlen : S.length + ([80,82,79,67,69,68,85,82,69,32] ++ (yK (.mk 7 x m p [.mk 1 [] 0 qp pl,rs,.mk 1 [] 0 qv vl,.mk 1 [] 0 qa al]) ++ (([59,10] ++ (zO VARw zG vl ++ ([66,69,71,73,78] ++ ([10] ++ (Z ++ ([69,78,68,32] ++ (x ++ ([59] ++ [10]))))))))))).length <= 1000000000) :
  Calls Tryz.prog 45 #[ptr wb,yl (.mk 7 x m p [.mk 1 [] 0 qp pl,rs,.mk 1 [] 0 qv vl,.mk 1 [] 0 qa al]) sv] w (WP w0 wb w S 0 ([80,82,79,67,69,68,85,82,69,32] ++ (yK (.mk 7 x m p [.mk 1 [] 0 qp pl,rs,.mk 1 [] 0 qv vl,.mk 1 [] 0 qa al]) ++ (([59,10] ++ (zO VARw zG vl ++ ([66,69,71,73,78] ++ ([10] ++ (Z ++ ([69,78,68,32] ++ (x ++ ([59] ++ [10])))))))))))) := by
 have HW := za h; have g0 := h.lt; have g1 := za hps; have b1 := za hvs; have HZ := za hz; have HA := za ha; obtain ⟨g,o,c,sp,_,_,_,rfl,_,_,⟨n0,a0⟩,⟨n1,a1⟩,⟨n2,a2⟩,⟨n3,a3⟩⟩ := AT.four ha; obtain rfl : pl = [] := List.eq_nil_of_length_eq_zero hne; obtain ⟨pa,pc,rfl,g2,g3⟩ : ∃ a c,sp = .slice a 0 c /\ 0 <= c /\ c <= 9223372036854775807 := AT.slice (show AT w0 [] sp from a0); obtain ⟨ra,rc,rfl,_,_⟩ := AT.slice a1; have d := za n0; have f := za n1; have i := za n2; have j := za n3; have A0 : Hid (AT w0 [] _) := a0; have A1 := za a1; have A2 : Hid (AT w0 vl _) := a2; have A3 : Hid (AT w0 al _) := a3; obtain ⟨b2,_,_,_,_⟩ := n0.kept h.gb; obtain ⟨_,_,_,_,_⟩ := n1.kept h.gb; obtain ⟨_,_,_,_,_⟩ := n2.kept h.gb; obtain ⟨_,_,_,_,_⟩ := n3.kept h.gb; have g4 := ze b2; clear h ha hps hvs hz n0 n1 n2 n3 a0 a1 a2 a3
 change Calls Tryz.prog 45 #[ptr wb,.agg #[.int .i64 7,.string ⟨List.toArray x⟩,.int .i64 m,.int .i64 p,.slice (some ⟨g,o,none⟩) 4 c]] w _
 simp only [la,lc,ln] at hlen; clear hne
 go_enter Tryz.func45,Tryz.ntmps45
 go_wp2_with fail
 go_region
 all_goals
  go_wp2_with fail; go_at_call 40; refine (ft w0 wb _ _ 0 [80,82,79,67,69,68,85,82,69,32] _ _ (by simp) (HW.out.grown (zf gan _)) (by first | omega | (simp only [List.length_cons,List.length_nil]; omega))).mono ?_; rintro e w1 ⟨rfl,j1,k1⟩; have b := za j1; have K1 := za ((WK.grown HW.out (zf gan _)).trans k1); have B1 := za ((FB.newX HW.out 7 x m p [.mk 1 [] 0 qp [],rs,.mk 1 [] 0 qv vl,.mk 1 [] 0 qa al] (.slice (some ⟨g,o,none⟩) 4 c) 28 grn).step ((WK.grown (HW.out.grown gan) gan).trans k1)); cases B1.out.box.q; have f2 := B1.out.fr.lt
  obtain ⟨l,_,_,_,_⟩ := d.out.kept b.out.gb; have b3 := ze l; obtain ⟨n,_,_,_,_⟩ := f.out.kept b.out.gb; have b4 := ze n; obtain ⟨r,_,_,_,_⟩ := i.out.kept b.out.gb; have b5 := ze r; obtain ⟨s,_,_,_,_⟩ := j.out.kept b.out.gb; have b6 := ze s; have b7 := za ((FB.newB HW.out rs (.slice ra rs.subs.length rc) 28 gan (w.heap.size + 1) (by simp)).step ((WK.grown (HW.out.grown (zf gan _)) grn).trans k1)); clear j1 k1; go_wp2_with fail; go_at_call 39; refine (uU w0 wb _ _ 0 7 x m p [.mk 1 [] 0 qp [],rs,.mk 1 [] 0 qv vl,.mk 1 [] 0 qa al] _ (b.out.grown grn) HA.out (by first | omega | (simp only [la,lc,ln]; omega))).mono ?_; rintro e w2 ⟨rfl,j2,k2⟩; have t := za j2; have K2 := km K1 b k2; have B2 := bm B1 b k2; cases B2.out.box.q; have f3 := B2.out.fr.lt
  obtain ⟨u,_,_,_,_⟩ := d.out.kept t.out.gb; have b8 := ze u; obtain ⟨y,_,_,_,_⟩ := f.out.kept t.out.gb; have b9 := ze y; obtain ⟨z,_,_,_,_⟩ := i.out.kept t.out.gb; have c0 := ze z; obtain ⟨A,_,_,_,_⟩ := j.out.kept t.out.gb; have c1 := ze A; have b0 := za (b7.out.step ((WK.grown b.out grn).trans k2)); clear j2 k2; obtain ⟨_,_,_,_,_⟩ := b0.out.box; have f4 := b0.out.fr.lt; go_wp2_with fail; go_at_call 40; refine (ye w0 wb _ _ 0 [59,10] _ _ (by simp) (t.out.grown grn) (by first | omega | (simp only [la,lc,ln]; omega))).mono ?_; rintro e w3 ⟨rfl,j3,k3⟩; have B := za j3; have K3 := km K2 t k3; have B3 := bm B2 t k3; cases B3.out.box.q; have f5 := B3.out.fr.lt
  obtain ⟨C,_,_,_,_⟩ := d.out.kept B.out.gb; have c2 := ze C; obtain ⟨D,_,_,_,_⟩ := f.out.kept B.out.gb; have c3 := ze D; obtain ⟨E,_,_,_,_⟩ := i.out.kept B.out.gb; have c4 := ze E; obtain ⟨F,_,_,_,_⟩ := j.out.kept B.out.gb; have c5 := ze F; clear j3 k3; go_wp2_with fail; go_at_call 37; refine (uV w0 wb _ _ VARw vl _ _ _ _ zG (B.out.grown grn) A2.out (EW.typed b1.out _ 1) fR (by first | omega | (simp only [la,lc,ln]; omega))).mono ?_; rintro e w4 ⟨rfl,j4,k4⟩; have H := za j4; have K4 := km K3 B k4; have B4 := bm B3 B k4; cases B4.out.box.q; have f6 := B4.out.fr.lt
  obtain ⟨I,_,_,_,_⟩ := d.out.kept H.out.gb; have c6 := ze I; obtain ⟨J,_,_,_,_⟩ := f.out.kept H.out.gb; have c7 := ze J; obtain ⟨K,_,_,_,_⟩ := i.out.kept H.out.gb; have c8 := ze K; obtain ⟨L,_,_,_,_⟩ := j.out.kept H.out.gb; have c9 := ze L; clear j4 k4; go_wp2_with fail; go_at_call 35; refine (sG w0 wb _ _ 0 [66,69,71,73,78] _ _ (by simp) (H.out.grown grn) (by first | omega | (simp only [la,lc,ln]; omega))).mono ?_; rintro e w5 ⟨rfl,j5,k5⟩; have M := za j5; have K5 := km K4 H k5; have B5 := bm B4 H k5; cases B5.out.box.q; have f7 := B5.out.fr.lt
  obtain ⟨N,_,_,_,_⟩ := d.out.kept M.out.gb; have d0 := ze N; obtain ⟨O,_,_,_,_⟩ := f.out.kept M.out.gb; have d1 := ze O; obtain ⟨R,_,_,_,_⟩ := i.out.kept M.out.gb; have d2 := ze R; obtain ⟨U,_,_,_,_⟩ := j.out.kept M.out.gb; have d3 := ze U; clear j5 k5; go_wp2_with fail; go_at_call 46; refine (HZ.out _ _ _ (M.out.grown grn) A3.out (by first | omega | (simp only [la,lc,ln,zo]; omega))).mono ?_; rintro e w6 ⟨rfl,j6,k6⟩; have V := za j6; have K6 := km K5 M k6; have B6 := bm B5 M k6; cases B6.out.box.q; have f8 := B6.out.fr.lt
  obtain ⟨X,_,_,_,_⟩ := d.out.kept V.out.gb; have d4 := ze X; obtain ⟨Y,_,_,_,_⟩ := f.out.kept V.out.gb; have d5 := ze Y; obtain ⟨a4,_,_,_,_⟩ := i.out.kept V.out.gb; have d6 := ze a4; obtain ⟨a5,_,_,_,_⟩ := j.out.kept V.out.gb; have d7 := ze a5; clear j6 k6; go_wp2_with fail; go_at_call 35; refine (ol w0 wb _ _ 0 [69,78,68,32] x [59] _ _ (by simp) (V.out.grown grn) (by first | omega | (simp only [la,lc,ln,zo]; omega))).mono ?_; rintro e w7 ⟨rfl,j7,k7⟩; have W7 := za j7; have K7 := km K6 V k7; have B7 := bm B6 V k7; cases B7.out.box.q; have f9 := B7.out.fr.lt
  obtain ⟨a6,_,_,_,_⟩ := d.out.kept W7.out.gb; have d8 := ze a6; obtain ⟨a7,_,_,_,_⟩ := f.out.kept W7.out.gb; have d9 := ze a7; obtain ⟨a8,_,_,_,_⟩ := i.out.kept W7.out.gb; have f0 := ze a8; obtain ⟨a9,_,_,_,_⟩ := j.out.kept W7.out.gb; have f1 := ze a9; clear j7 k7; go_wp2_with fail
  go_end0
  refine ⟨rfl,?_,K7.out⟩; have J9 := W7.out
  try simp only [List.append_assoc,List.nil_append,show zR 0 = [] from rfl] at J9 ⊢
  exact J9
theorem ze5 (w0 : World) (wb : Nat) (w : World) (S : List UInt8) (x : List UInt8) (m p : Int) (qp qv qa : Int) (pl : List T) (rs : T) (vl al : List T) (sv : Value) (h : Wr w0 wb w S 0) (ha : AT w0 (T.mk 7 x m p [.mk 1 [] 0 qp pl,rs,.mk 1 [] 0 qv vl,.mk 1 [] 0 qa al]).subs sv) (Z : List UInt8) (hps : ∀ v ∈ pl,Well (.declared 8 1 .typeName) v) (hvs : ∀ v ∈ vl,Well (.declared 6 0 .typeName) v) (hz : LW w0 wb 0 al Z) (hne : 0 < pl.length) (hk : (rs.kind != 0) = false) (hlen : S.length + ([80,82,79,67,69,68,85,82,69,32] ++ (yK (.mk 7 x m p [.mk 1 [] 0 qp pl,rs,.mk 1 [] 0 qv vl,.mk 1 [] 0 qa al]) ++ ([40] ++ (zM [59,32] (pl.map yf) ++ ([41] ++ ([59,10] ++ (zO VARw zG vl ++ ([66,69,71,73,78] ++ ([10] ++ (Z ++ ([69,78,68,32] ++ (x ++ ([59] ++ [10]))))))))))))).length <= 1000000000) :
  Calls Tryz.prog 45 #[ptr wb,yl (.mk 7 x m p [.mk 1 [] 0 qp pl,rs,.mk 1 [] 0 qv vl,.mk 1 [] 0 qa al]) sv] w (WP w0 wb w S 0 ([80,82,79,67,69,68,85,82,69,32] ++ (yK (.mk 7 x m p [.mk 1 [] 0 qp pl,rs,.mk 1 [] 0 qv vl,.mk 1 [] 0 qa al]) ++ ([40] ++ (zM [59,32] (pl.map yf) ++ ([41] ++ ([59,10] ++ (zO VARw zG vl ++ ([66,69,71,73,78] ++ ([10] ++ (Z ++ ([69,78,68,32] ++ (x ++ ([59] ++ [10])))))))))))))) := by
 have HW := za h; have m5 := h.lt; have d2 := za hps; have d3 := za hvs; have HZ := za hz; have HA := za ha; obtain ⟨g,o,c,sp,_,_,_,rfl,_,_,⟨n0,a0⟩,⟨n1,a1⟩,⟨n2,a2⟩,⟨n3,a3⟩⟩ := AT.four ha; obtain ⟨_,_,rfl,_,_⟩ := AT.slice (show AT w0 pl sp from a0); obtain ⟨ra,rc,rfl,_,_⟩ := AT.slice a1; have d := za n0; have f := za n1; have i := za n2; have j := za n3; have A0 : Hid (AT w0 pl _) := a0; have A1 := za a1; have A2 : Hid (AT w0 vl _) := a2; have A3 : Hid (AT w0 al _) := a3; obtain ⟨d4,_,_,_,_⟩ := n0.kept h.gb; obtain ⟨_,_,_,_,_⟩ := n1.kept h.gb; obtain ⟨_,_,_,_,_⟩ := n2.kept h.gb; obtain ⟨_,_,_,_,_⟩ := n3.kept h.gb; have m6 := ze d4; clear h ha hps hvs hz n0 n1 n2 n3 a0 a1 a2 a3
 change Calls Tryz.prog 45 #[ptr wb,.agg #[.int .i64 7,.string ⟨List.toArray x⟩,.int .i64 m,.int .i64 p,.slice (some ⟨g,o,none⟩) 4 c]] w _
 simp only [la,lc,ln] at hlen
 have m7 : ¬ pl = [] := by intro e; subst e; simp at hne
 go_enter Tryz.func45,Tryz.ntmps45
 go_wp2_with fail
 go_region
 all_goals
  go_wp2_with fail; go_at_call 40; refine (ft w0 wb _ _ 0 [80,82,79,67,69,68,85,82,69,32] _ _ (by simp) (HW.out.grown (zf gan _)) (by first | omega | (simp only [List.length_cons,List.length_nil]; omega))).mono ?_; rintro e w1 ⟨rfl,j1,k1⟩; have t := za j1; have K1 := za ((WK.grown HW.out (zf gan _)).trans k1); have B1 := za ((FB.newX HW.out 7 x m p [.mk 1 [] 0 qp pl,rs,.mk 1 [] 0 qv vl,.mk 1 [] 0 qa al] (.slice (some ⟨g,o,none⟩) 4 c) 28 grn).step ((WK.grown (HW.out.grown gan) gan).trans k1)); cases B1.out.box.q; have l2 := B1.out.fr.lt
  obtain ⟨A,_,_,_,_⟩ := d.out.kept t.out.gb; have d5 := ze A; obtain ⟨B,_,_,_,_⟩ := f.out.kept t.out.gb; have d6 := ze B; obtain ⟨C,_,_,_,_⟩ := i.out.kept t.out.gb; have d7 := ze C; obtain ⟨D,_,_,_,_⟩ := j.out.kept t.out.gb; have d8 := ze D; have d9 := za ((FB.newB HW.out rs (.slice ra rs.subs.length rc) 28 gan (w.heap.size + 1) (by simp)).step ((WK.grown (HW.out.grown (zf gan _)) grn).trans k1)); clear j1 k1; go_wp2_with fail; go_at_call 39; refine (uU w0 wb _ _ 0 7 x m p [.mk 1 [] 0 qp pl,rs,.mk 1 [] 0 qv vl,.mk 1 [] 0 qa al] _ (t.out.grown grn) HA.out (by first | omega | (simp only [la,lc,ln]; omega))).mono ?_; rintro e w2 ⟨rfl,j2,k2⟩; have u := za j2; have K2 := km K1 t k2; have B2 := bm B1 t k2; cases B2.out.box.q; have l3 := B2.out.fr.lt
  obtain ⟨E,_,_,_,_⟩ := d.out.kept u.out.gb; have f0 := ze E; obtain ⟨F,_,_,_,_⟩ := f.out.kept u.out.gb; have f1 := ze F; obtain ⟨H,_,_,_,_⟩ := i.out.kept u.out.gb; have f2 := ze H; obtain ⟨I,_,_,_,_⟩ := j.out.kept u.out.gb; have f3 := ze I; have J := za (d9.out.step ((WK.grown t.out grn).trans k2)); clear j2 k2; obtain ⟨_,_,_,_,_⟩ := J.out.box; have l4 := J.out.fr.lt; go_wp2_with fail; go_at_call 40; refine (ye w0 wb _ _ 0 [40] _ _ (by simp) (u.out.grown grn) (by first | omega | (simp only [la,lc,ln]; omega))).mono ?_; rintro e w3 ⟨rfl,j3,k3⟩; have y := za j3; have K3 := km K2 u k3; have B3 := bm B2 u k3; cases B3.out.box.q; have l5 := B3.out.fr.lt
  obtain ⟨K,_,_,_,_⟩ := d.out.kept y.out.gb; have f4 := ze K; obtain ⟨L,_,_,_,_⟩ := f.out.kept y.out.gb; have f5 := ze L; obtain ⟨M,_,_,_,_⟩ := i.out.kept y.out.gb; have f6 := ze M; obtain ⟨N,_,_,_,_⟩ := j.out.kept y.out.gb; have f7 := ze N; have O := za (J.out.step ((WK.grown u.out grn).trans k3)); clear j3 k3; obtain ⟨_,_,_,_,_⟩ := O.out.box; have l6 := O.out.fr.lt; go_wp2_with fail; go_at_call 83; refine (je w0 wb _ _ 0 pl _ [59,32] _ _ _ yf (y.out.grown grn) A0.out (EW.param d2.out _ 0) sy (by first | omega | (simp only [la,lc,ln]; omega))).mono ?_; rintro e w4 ⟨rfl,j4,k4⟩; have z := za j4; have K4 := km K3 y k4; have B4 := bm B3 y k4; cases B4.out.box.q; have l7 := B4.out.fr.lt
  obtain ⟨R,_,_,_,_⟩ := d.out.kept z.out.gb; have f8 := ze R; obtain ⟨U,_,_,_,_⟩ := f.out.kept z.out.gb; have f9 := ze U; obtain ⟨V,_,_,_,_⟩ := i.out.kept z.out.gb; have g0 := ze V; obtain ⟨X,_,_,_,_⟩ := j.out.kept z.out.gb; have g1 := ze X; have Y := za (O.out.step ((WK.grown y.out grn).trans k4)); clear j4 k4; obtain ⟨_,_,_,_,_⟩ := Y.out.box; have l8 := Y.out.fr.lt; go_wp2_with fail; go_at_call 40; refine (ye w0 wb _ _ 0 [41] _ _ (by simp) (z.out.grown grn) (by first | omega | (simp only [la,lc,ln]; omega))).mono ?_; rintro e w5 ⟨rfl,j5,k5⟩; have W5 := za j5; have K5 := km K4 z k5; have B5 := bm B4 z k5; cases B5.out.box.q; have l9 := B5.out.fr.lt
  obtain ⟨a4,_,_,_,_⟩ := d.out.kept W5.out.gb; have g2 := ze a4; obtain ⟨a5,_,_,_,_⟩ := f.out.kept W5.out.gb; have g3 := ze a5; obtain ⟨a6,_,_,_,_⟩ := i.out.kept W5.out.gb; have g4 := ze a6; obtain ⟨a7,_,_,_,_⟩ := j.out.kept W5.out.gb; have g5 := ze a7; have c5 := za (Y.out.step ((WK.grown z.out grn).trans k5)); clear j5 k5; obtain ⟨_,_,_,_,_⟩ := c5.out.box; have m0 := c5.out.fr.lt; go_wp2_with fail; go_at_call 40; refine (ye w0 wb _ _ 0 [59,10] _ _ (by simp) (W5.out.grown grn) (by first | omega | (simp only [la,lc,ln]; omega))).mono ?_; rintro e w6 ⟨rfl,j6,k6⟩; have W6 := za j6; have K6 := km K5 W5 k6; have B6 := bm B5 W5 k6; cases B6.out.box.q; have m1 := B6.out.fr.lt
  obtain ⟨a8,_,_,_,_⟩ := d.out.kept W6.out.gb; have g6 := ze a8; obtain ⟨a9,_,_,_,_⟩ := f.out.kept W6.out.gb; have g7 := ze a9; obtain ⟨b0,_,_,_,_⟩ := i.out.kept W6.out.gb; have g8 := ze b0; obtain ⟨b1,_,_,_,_⟩ := j.out.kept W6.out.gb; have g9 := ze b1; clear j6 k6; go_wp2_with fail; go_at_call 37; refine (uV w0 wb _ _ VARw vl _ _ _ _ zG (W6.out.grown grn) A2.out (EW.typed d3.out _ 1) fR (by first | omega | (simp only [la,lc,ln]; omega))).mono ?_; rintro e w7 ⟨rfl,j7,k7⟩; have W7 := za j7; have K7 := km K6 W6 k7; have B7 := bm B6 W6 k7; cases B7.out.box.q; have m2 := B7.out.fr.lt
  obtain ⟨b2,_,_,_,_⟩ := d.out.kept W7.out.gb; have h0 := ze b2; obtain ⟨b3,_,_,_,_⟩ := f.out.kept W7.out.gb; have h1 := ze b3; obtain ⟨b4,_,_,_,_⟩ := i.out.kept W7.out.gb; have h2 := ze b4; obtain ⟨b5,_,_,_,_⟩ := j.out.kept W7.out.gb; have h3 := ze b5; clear j7 k7; go_wp2_with fail; go_at_call 35; refine (sG w0 wb _ _ 0 [66,69,71,73,78] _ _ (by simp) (W7.out.grown grn) (by first | omega | (simp only [la,lc,ln]; omega))).mono ?_; rintro e w8 ⟨rfl,j8,k8⟩; have W8 := za j8; have K8 := km K7 W7 k8; have B8 := bm B7 W7 k8; cases B8.out.box.q; have m3 := B8.out.fr.lt
  obtain ⟨b6,_,_,_,_⟩ := d.out.kept W8.out.gb; have h4 := ze b6; obtain ⟨b7,_,_,_,_⟩ := f.out.kept W8.out.gb; have h5 := ze b7; obtain ⟨b8,_,_,_,_⟩ := i.out.kept W8.out.gb; have h6 := ze b8; obtain ⟨b9,_,_,_,_⟩ := j.out.kept W8.out.gb; have h7 := ze b9; clear j8 k8; go_wp2_with fail; go_at_call 46; refine (HZ.out _ _ _ (W8.out.grown grn) A3.out (by first | omega | (simp only [la,lc,ln,zo]; omega))).mono ?_; rintro e w9 ⟨rfl,j9,k9⟩; have W9 := za j9; have K9 := km K8 W8 k9; have B9 := bm B8 W8 k9; cases B9.out.box.q; have m4 := B9.out.fr.lt
  obtain ⟨c0,_,_,_,_⟩ := d.out.kept W9.out.gb; have h8 := ze c0; obtain ⟨c1,_,_,_,_⟩ := f.out.kept W9.out.gb; have h9 := ze c1; obtain ⟨c2,_,_,_,_⟩ := i.out.kept W9.out.gb; have j0 := ze c2; obtain ⟨c3,_,_,_,_⟩ := j.out.kept W9.out.gb; have k0 := ze c3; clear j9 k9; go_wp2_with fail; go_at_call 35; refine (ol w0 wb _ _ 0 [69,78,68,32] x [59] _ _ (by simp) (W9.out.grown grn) (by first | omega | (simp only [la,lc,ln,zo]; omega))).mono ?_; rintro e m8 ⟨rfl,c6,c4⟩; have b := za c6; have l0 := km K9 W9 c4; have c7 := bm B9 W9 c4; cases c7.out.box.q; have l1 := c7.out.fr.lt
  obtain ⟨l,_,_,_,_⟩ := d.out.kept b.out.gb; have c8 := ze l; obtain ⟨n,_,_,_,_⟩ := f.out.kept b.out.gb; have c9 := ze n; obtain ⟨r,_,_,_,_⟩ := i.out.kept b.out.gb; have d0 := ze r; obtain ⟨s,_,_,_,_⟩ := j.out.kept b.out.gb; have d1 := ze s; clear c6 c4; go_wp2_with fail
  go_end0
  refine ⟨rfl,?_,l0.out⟩; have J9 := b.out
  try simp only [List.append_assoc,List.nil_append,show zR 0 = [] from rfl] at J9 ⊢
  exact J9
theorem zap (w0 : World) (wb : Nat) (w : World) (S : List UInt8) (x : List UInt8) (m p : Int) (qp qv qa : Int) (pl : List T) (rs : T) (vl al : List T) (sv : Value) (h : Wr w0 wb w S 0) (ha : AT w0 (T.mk 7 x m p [.mk 1 [] 0 qp pl,rs,.mk 1 [] 0 qv vl,.mk 1 [] 0 qa al]).subs sv) (Z : List UInt8) (hps : ∀ v ∈ pl,Well (.declared 8 1 .typeName) v) (hvs : ∀ v ∈ vl,Well (.declared 6 0 .typeName) v) (hz : LW w0 wb 0 al Z) (hk : (rs.kind != 0) = true) (hr : TN rs) (hlen : S.length + ([80,82,79,67,69,68,85,82,69,32] ++ (yK (.mk 7 x m p [.mk 1 [] 0 qp pl,rs,.mk 1 [] 0 qv vl,.mk 1 [] 0 qa al]) ++ ([40] ++ (zM [59,32] (pl.map yf) ++ ([41] ++ [58,32] ++ (zB rs ++ ([59,10] ++ (zO VARw zG vl ++ ([66,69,71,73,78] ++ ([10] ++ (Z ++ ([69,78,68,32] ++ (x ++ ([59] ++ [10])))))))))))))).length <= 1000000000) :
  Calls Tryz.prog 45 #[ptr wb,yl (.mk 7 x m p [.mk 1 [] 0 qp pl,rs,.mk 1 [] 0 qv vl,.mk 1 [] 0 qa al]) sv] w (WP w0 wb w S 0 ([80,82,79,67,69,68,85,82,69,32] ++ (yK (.mk 7 x m p [.mk 1 [] 0 qp pl,rs,.mk 1 [] 0 qv vl,.mk 1 [] 0 qa al]) ++ ([40] ++ (zM [59,32] (pl.map yf) ++ ([41] ++ [58,32] ++ (zB rs ++ ([59,10] ++ (zO VARw zG vl ++ ([66,69,71,73,78] ++ ([10] ++ (Z ++ ([69,78,68,32] ++ (x ++ ([59] ++ [10]))))))))))))))) := by
 have hh : pl = [] \/ 0 < pl.length := by cases pl; exact .inl rfl; exact .inr (by simp)
 rcases hh with rfl | h2
 all_goals
  have J := za h; have q6 := h.lt; have f4 := za hps; have h3 := za hvs; have HZ := za hz; have HA := za ha; obtain ⟨g,o,c,sp,_,_,_,rfl,_,_,⟨n0,a0⟩,⟨n1,a1⟩,⟨n2,a2⟩,⟨n3,a3⟩⟩ := AT.four ha; (first | (have z0 : AT w0 pl sp := a0; have z1 := AT.slice z0) | (have z0 : AT w0 [] sp := a0; have z1 : ∃ a c,sp = .slice a 0 c /\ 0 <= c /\ c <= 9223372036854775807 := AT.slice z0)); obtain ⟨_,_,rfl,_,_⟩ := z1; clear z0; obtain ⟨ra,rc,rfl,_,_⟩ := AT.slice a1; have f := za n0; have i := za n1; have j := za n2; have l := za n3; (first | (have A0 : Hid (AT w0 pl _) := a0) | (have A0 : Hid (AT w0 [] _) := a0)); have A1 := za a1; have A2 : Hid (AT w0 vl _) := a2; have A3 : Hid (AT w0 al _) := a3; obtain ⟨h4,_,_,_,_⟩ := n0.kept h.gb; obtain ⟨_,_,_,_,_⟩ := n1.kept h.gb; obtain ⟨_,_,_,_,_⟩ := n2.kept h.gb; obtain ⟨_,_,_,_,_⟩ := n3.kept h.gb; have q7 := ze h4; clear h ha hps hvs hz n0 n1 n2 n3 a0 a1 a2 a3
  change Calls Tryz.prog 45 #[ptr wb,.agg #[.int .i64 7,.string ⟨List.toArray x⟩,.int .i64 m,.int .i64 p,.slice (some ⟨g,o,none⟩) 4 c]] w _
  simp only [la,lc,ln] at hlen
  (first | (have q8 : ¬ pl = [] := by intro e; subst e; simp at h2) | skip)
  go_enter Tryz.func45,Tryz.ntmps45
  go_wp2_with fail
  go_region
  all_goals
   go_wp2_with fail; go_at_call 40; refine (ft w0 wb _ _ 0 [80,82,79,67,69,68,85,82,69,32] _ _ (by simp) (J.out.grown (zf gan _)) (by first | omega | (simp only [List.length_cons,List.length_nil]; omega))).mono ?_; rintro e w1 ⟨rfl,j1,k1⟩; have r := za j1; have K1 := za ((WK.grown J.out (zf gan _)).trans k1); (first | (have B1 := za ((FB.newX J.out 7 x m p [.mk 1 [] 0 qp pl,rs,.mk 1 [] 0 qv vl,.mk 1 [] 0 qa al] (.slice (some ⟨g,o,none⟩) 4 c) 28 grn).step ((WK.grown (J.out.grown gan) gan).trans k1))) | (have B1 := za ((FB.newX J.out 7 x m p [.mk 1 [] 0 qp [],rs,.mk 1 [] 0 qv vl,.mk 1 [] 0 qa al] (.slice (some ⟨g,o,none⟩) 4 c) 28 grn).step ((WK.grown (J.out.grown gan) gan).trans k1)))); cases B1.out.box.q; have p0 := B1.out.fr.lt
   obtain ⟨O,_,_,_,_⟩ := f.out.kept r.out.gb; have h5 := ze O; obtain ⟨R,_,_,_,_⟩ := i.out.kept r.out.gb; have h6 := ze R; obtain ⟨U,_,_,_,_⟩ := j.out.kept r.out.gb; have h7 := ze U; obtain ⟨V,_,_,_,_⟩ := l.out.kept r.out.gb; have h8 := ze V; have h9 := za ((FB.newB J.out rs (.slice ra rs.subs.length rc) 28 gan (w.heap.size + 1) (by simp)).step ((WK.grown (J.out.grown (zf gan _)) grn).trans k1)); clear j1 k1; go_wp2_with fail; go_at_call 39; (first | (refine (uU w0 wb _ _ 0 7 x m p [.mk 1 [] 0 qp pl,rs,.mk 1 [] 0 qv vl,.mk 1 [] 0 qa al] _ (r.out.grown grn) HA.out (by first | omega | (simp only [la,lc,ln]; omega))).mono ?_) | (refine (uU w0 wb _ _ 0 7 x m p [.mk 1 [] 0 qp [],rs,.mk 1 [] 0 qv vl,.mk 1 [] 0 qa al] _ (r.out.grown grn) HA.out (by first | omega | (simp only [la,lc,ln]; omega))).mono ?_)); rintro e w2 ⟨rfl,j2,k2⟩; have K := za j2; have K2 := km K1 r k2; have B2 := bm B1 r k2; cases B2.out.box.q; have p1 := B2.out.fr.lt
   obtain ⟨X,_,_,_,_⟩ := f.out.kept K.out.gb; have j0 := ze X; obtain ⟨Y,_,_,_,_⟩ := i.out.kept K.out.gb; have k0 := ze Y; obtain ⟨a4,_,_,_,_⟩ := j.out.kept K.out.gb; have l0 := ze a4; obtain ⟨a5,_,_,_,_⟩ := l.out.kept K.out.gb; have l1 := ze a5; have a6 := za (h9.out.step ((WK.grown r.out grn).trans k2)); clear j2 k2; obtain ⟨_,_,_,_,_⟩ := a6.out.box; have p2 := a6.out.fr.lt; go_wp2_with fail; go_at_call 40; refine (ye w0 wb _ _ 0 [40] _ _ (by simp) (K.out.grown grn) (by first | omega | (simp only [la,lc,ln]; omega))).mono ?_; rintro e w3 ⟨rfl,j3,k3⟩; have s := za j3; have K3 := km K2 K k3; have B3 := bm B2 K k3; cases B3.out.box.q; have p3 := B3.out.fr.lt
   obtain ⟨a7,_,_,_,_⟩ := f.out.kept s.out.gb; have l2 := ze a7; obtain ⟨a8,_,_,_,_⟩ := i.out.kept s.out.gb; have l3 := ze a8; obtain ⟨a9,_,_,_,_⟩ := j.out.kept s.out.gb; have l4 := ze a9; obtain ⟨b0,_,_,_,_⟩ := l.out.kept s.out.gb; have l5 := ze b0; have b1 := za (a6.out.step ((WK.grown K.out grn).trans k3)); clear j3 k3; obtain ⟨_,_,_,_,_⟩ := b1.out.box; have p4 := b1.out.fr.lt; go_wp2_with fail; go_at_call 83; (first | (refine (je w0 wb _ _ 0 pl _ [59,32] _ _ _ yf (s.out.grown grn) A0.out (EW.param f4.out _ 0) sy (by first | omega | (simp only [la,lc,ln]; omega))).mono ?_) | (refine (je w0 wb _ _ 0 [] _ [59,32] _ _ _ yf (s.out.grown grn) A0.out (EW.param f4.out _ 0) sy (by first | omega | (simp only [la,lc,ln]; omega))).mono ?_)); rintro e w4 ⟨rfl,j4,k4⟩; have L := za j4; have K4 := km K3 s k4; have B4 := bm B3 s k4; cases B4.out.box.q; have p6 := B4.out.fr.lt
   obtain ⟨b2,_,_,_,_⟩ := f.out.kept L.out.gb; have l6 := ze b2; obtain ⟨b3,_,_,_,_⟩ := i.out.kept L.out.gb; have l7 := ze b3; obtain ⟨b4,_,_,_,_⟩ := j.out.kept L.out.gb; have l8 := ze b4; obtain ⟨b5,_,_,_,_⟩ := l.out.kept L.out.gb; have l9 := ze b5; have b6 := za (b1.out.step ((WK.grown s.out grn).trans k4)); clear j4 k4; obtain ⟨_,_,_,_,_⟩ := b6.out.box; have p7 := b6.out.fr.lt; go_wp2_with fail; go_at_call 40; refine (ye w0 wb _ _ 0 [41] _ _ (by simp) (L.out.grown grn) (by first | omega | (simp only [la,lc,ln]; omega))).mono ?_; rintro e w5 ⟨rfl,j5,k5⟩; have M := za j5; have K5 := km K4 L k5; have B5 := bm B4 L k5; cases B5.out.box.q; have p8 := B5.out.fr.lt
   obtain ⟨b7,_,_,_,_⟩ := f.out.kept M.out.gb; have m0 := ze b7; obtain ⟨b8,_,_,_,_⟩ := i.out.kept M.out.gb; have m1 := ze b8; obtain ⟨b9,_,_,_,_⟩ := j.out.kept M.out.gb; have m2 := ze b9; obtain ⟨c0,_,_,_,_⟩ := l.out.kept M.out.gb; have m3 := ze c0; have c1 := za (b6.out.step ((WK.grown L.out grn).trans k5)); clear j5 k5; obtain ⟨_,_,_,_,_⟩ := c1.out.box; have p9 := c1.out.fr.lt; go_wp2_with fail; go_at_call 40; refine (ye w0 wb _ _ 0 [58,32] _ _ (by simp) (M.out.grown grn) (by first | omega | (simp only [la,lc,ln]; omega))).mono ?_; rintro e w6 ⟨rfl,j6,k6⟩; have N := za j6; have K6 := km K5 M k6; have B6 := bm B5 M k6; cases B6.out.box.q; have q0 := B6.out.fr.lt
   obtain ⟨c2,_,_,_,_⟩ := f.out.kept N.out.gb; have m4 := ze c2; obtain ⟨c3,_,_,_,_⟩ := i.out.kept N.out.gb; have m5 := ze c3; obtain ⟨c4,_,_,_,_⟩ := j.out.kept N.out.gb; have m6 := ze c4; obtain ⟨c5,_,_,_,_⟩ := l.out.kept N.out.gb; have m7 := ze c5; have c6 := za (c1.out.step ((WK.grown M.out grn).trans k6)); clear j6 k6; obtain ⟨_,_,_,_,_⟩ := c6.out.box; have q1 := c6.out.fr.lt; go_wp2_with fail; go_at_call 90; refine (xI w0 wb _ _ 0 rs _ (N.out.grown grn) A1.out hr (by first | omega | (simp only [la,lc,ln]; omega))).mono ?_; rintro e w7 ⟨rfl,j7,k7⟩; have W7 := za j7; have K7 := km K6 N k7; have B7 := bm B6 N k7; cases B7.out.box.q; have q2 := B7.out.fr.lt
   obtain ⟨c7,_,_,_,_⟩ := f.out.kept W7.out.gb; have m8 := ze c7; obtain ⟨c8,_,_,_,_⟩ := i.out.kept W7.out.gb; have m9 := ze c8; obtain ⟨c9,_,_,_,_⟩ := j.out.kept W7.out.gb; have n4 := ze c9; obtain ⟨d0,_,_,_,_⟩ := l.out.kept W7.out.gb; have n5 := ze d0; have f5 := za (c6.out.step ((WK.grown N.out grn).trans k7)); clear j7 k7; obtain ⟨_,_,_,_,_⟩ := f5.out.box; have q3 := f5.out.fr.lt; go_wp2_with fail; go_at_call 40; refine (ye w0 wb _ _ 0 [59,10] _ _ (by simp) (W7.out.grown grn) (by first | omega | (simp only [la,lc,ln]; omega))).mono ?_; rintro e w8 ⟨rfl,j8,k8⟩; have W8 := za j8; have K8 := km K7 W7 k8; have B8 := bm B7 W7 k8; cases B8.out.box.q; have q4 := B8.out.fr.lt
   obtain ⟨d1,_,_,_,_⟩ := f.out.kept W8.out.gb; have n6 := ze d1; obtain ⟨d2,_,_,_,_⟩ := i.out.kept W8.out.gb; have n7 := ze d2; obtain ⟨d3,_,_,_,_⟩ := j.out.kept W8.out.gb; have n8 := ze d3; obtain ⟨d4,_,_,_,_⟩ := l.out.kept W8.out.gb; have n9 := ze d4; clear j8 k8; go_wp2_with fail; go_at_call 37; refine (uV w0 wb _ _ VARw vl _ _ _ _ zG (W8.out.grown grn) A2.out (EW.typed h3.out _ 1) fR (by first | omega | (simp only [la,lc,ln]; omega))).mono ?_; rintro e w9 ⟨rfl,j9,k9⟩; have W9 := za j9; have K9 := km K8 W8 k9; have B9 := bm B8 W8 k9; cases B9.out.box.q; have q5 := B9.out.fr.lt
   obtain ⟨d5,_,_,_,_⟩ := f.out.kept W9.out.gb; have o0 := ze d5; obtain ⟨d6,_,_,_,_⟩ := i.out.kept W9.out.gb; have o1 := ze d6; obtain ⟨d7,_,_,_,_⟩ := j.out.kept W9.out.gb; have o2 := ze d7; obtain ⟨d8,_,_,_,_⟩ := l.out.kept W9.out.gb; have o3 := ze d8; clear j9 k9; go_wp2_with fail; go_at_call 35; refine (sG w0 wb _ _ 0 [66,69,71,73,78] _ _ (by simp) (W9.out.grown grn) (by first | omega | (simp only [la,lc,ln]; omega))).mono ?_; rintro e q9 ⟨rfl,f6,d9⟩; have b := za f6; have o4 := km K9 W9 d9; have f0 := bm B9 W9 d9; cases f0.out.box.q; have o5 := f0.out.fr.lt
   obtain ⟨t,_,_,_,_⟩ := f.out.kept b.out.gb; have g0 := ze t; obtain ⟨u,_,_,_,_⟩ := i.out.kept b.out.gb; have g1 := ze u; obtain ⟨y,_,_,_,_⟩ := j.out.kept b.out.gb; have g2 := ze y; obtain ⟨z,_,_,_,_⟩ := l.out.kept b.out.gb; have g3 := ze z; clear f6 d9; go_wp2_with fail; go_at_call 46; refine (HZ.out _ _ _ (b.out.grown grn) A3.out (by first | omega | (simp only [la,lc,ln,zo]; omega))).mono ?_; rintro e r0 ⟨rfl,f7,f1⟩; have d := za f7; have o6 := km o4 b f1; have f2 := bm f0 b f1; cases f2.out.box.q; have o7 := f2.out.fr.lt
   obtain ⟨A,_,_,_,_⟩ := f.out.kept d.out.gb; have g4 := ze A; obtain ⟨B,_,_,_,_⟩ := i.out.kept d.out.gb; have g5 := ze B; obtain ⟨C,_,_,_,_⟩ := j.out.kept d.out.gb; have g6 := ze C; obtain ⟨D,_,_,_,_⟩ := l.out.kept d.out.gb; have g7 := ze D; clear f7 f1; go_wp2_with fail; go_at_call 35; refine (ol w0 wb _ _ 0 [69,78,68,32] x [59] _ _ (by simp) (d.out.grown grn) (by first | omega | (simp only [la,lc,ln,zo]; omega))).mono ?_; rintro e r1 ⟨rfl,f8,f3⟩; have n := za f8; have o8 := km o6 d f3; have f9 := bm f2 d f3; cases f9.out.box.q; have o9 := f9.out.fr.lt
   obtain ⟨E,_,_,_,_⟩ := f.out.kept n.out.gb; have g8 := ze E; obtain ⟨F,_,_,_,_⟩ := i.out.kept n.out.gb; have g9 := ze F; obtain ⟨H,_,_,_,_⟩ := j.out.kept n.out.gb; have h0 := ze H; obtain ⟨I,_,_,_,_⟩ := l.out.kept n.out.gb; have h1 := ze I; clear f8 f3; go_wp2_with fail
   go_end0
   refine ⟨rfl,?_,o8.out⟩; have J9 := n.out
   try simp only [List.append_assoc,List.nil_append,show zR 0 = [] from rfl] at J9 ⊢
   exact J9
theorem zfa (w0 : World) (wb : Nat) (w : World) (S : List UInt8) (L : Nat) (kd : Int) (x : List UInt8) (m p : Int) (u : T) (sv : Value) (b1 : Nat) (h : Wr w0 wb w S L) (ha : AT w0 (T.mk kd x m p [u]).subs sv) (E : List UInt8) (he : EXW w0 wb u E) (dd : w.cell? ⟨b1,0,none⟩ = some (ptr wb)) (f1 : Fr wb w b1) (hlen : S.length + (yK (.mk kd x m p [u]) ++ ([32,61,32] ++ E)).length <= 1000000000) :
    Calls Tryz.prog 38 #[yl (.mk kd x m p [u]) sv,ptr b1] w (WP w0 wb w S L (yK (.mk kd x m p [u]) ++ ([32,61,32] ++ E))) := by
  have i := za h; have X := h.lt; obtain ⟨g,o,c,Y,su,rfl,hn,hc,B,s,Z,C⟩ := ha.one rfl
  obtain rfl : u = Y := by simpa [T.subs] using B
  have D := za s; have AU := za C; have HA := za ha; obtain ⟨t,_,_,_,_⟩ := s.kept h.gb; have a0 := ze t; have F := za f1; have a1 := f1.lt; clear h ha B Z C s f1; have HE := za he; clear he
  change Calls Tryz.prog 38 #[.agg #[.int .i64 kd,.string ⟨List.toArray x⟩,.int .i64 m,.int .i64 p,.slice (some ⟨g,o,none⟩) 1 c],ptr b1] w _
  simp only [la,lc,ln] at hlen; have dD := dd; clear dd
  go_enter Tryz.func38,Tryz.ntmps38
  go_wp2_with fail; go_at_call 39; refine (uU w0 wb _ _ L kd x m p [u] _ (i.out.grown gan) HA.out (by first | omega | (simp only [la,lc,ln,zo]; omega))).mono ?_; rintro e w1 ⟨rfl,H,l⟩; have j := za H; have K1 := za ((WK.grown i.out gan).trans l); have v := za ((FB.newX i.out kd x m p [u] (.slice (some ⟨g,o,none⟩) 1 c) 28 grn).step ((WK.grown (i.out.grown gan) grn).trans l)); cases v.out.box.q; have I := v.out.fr.lt
  obtain ⟨d,_,_,_,_⟩ := D.out.kept j.out.gb; have y := ze d; have b := za (F.out.step ((WK.grown i.out gan).trans l)); have n := WK.cell ((WK.grown i.out gan).trans l) F.out dD; clear H l; go_wp2_with fail; go_at_call 40; refine (ye w0 wb _ _ L [32,61,32] _ _ (by simp) (j.out.grown grn) (by first | omega | (simp only [la,lc,ln]; omega))).mono ?_; rintro e w2 ⟨rfl,J,r⟩; have z := za J; have K2 := km K1 j r; have K := bm v j r; cases K.out.box.q; have M := K.out.fr.lt
  obtain ⟨f,_,_,_,_⟩ := D.out.kept z.out.gb; have A := ze f; have N := za (b.out.step ((WK.grown j.out grn).trans r)); have O := WK.cell ((WK.grown j.out grn).trans r) b.out n; clear J r; go_wp2_with fail
  go_region_with
    (go_at_call 41
     refine (HE.out _ _ L _ (z.out.grown (zj grn)) AU.out (by first | omega | (simp only [la,lc,ln]; omega))).mono ?_; rintro e w3 ⟨rfl,R,U⟩; have W3 := za R; have K3 := za (K2.out.trans ((WK.grown z.out (zj grn)).trans U))
     clear R U)
  all_goals
    go_wp2_with fail
    go_end0
    refine ⟨rfl,?_,K3.out⟩; have V := W3.out; simp only [List.append_assoc] at V ⊢
    exact V
theorem zek (w0 : World) (wb : Nat) (w : World) (S : List UInt8) (L : Nat) (kd : Int) (x : List UInt8) (m p : Int) (u : T) (sv : Value) (b1 : Nat) (h : Wr w0 wb w S L) (ha : AT w0 (T.mk kd x m p [u]).subs sv) (ht : TY u) (hp : PT w0) (dd : w.cell? ⟨b1,0,none⟩ = some (ptr wb)) (f1 : Fr wb w b1) (hlen : S.length + (yK (.mk kd x m p [u]) ++ ([32,61,32] ++ xN u)).length <= 1000000000) :
    Calls Tryz.prog 42 #[yl (.mk kd x m p [u]) sv,ptr b1] w (WP w0 wb w S L (yK (.mk kd x m p [u]) ++ ([32,61,32] ++ xN u))) := by
  have i := za h; have V := h.lt; obtain ⟨g,o,c,X,su,rfl,hn,hc,B,s,Y,C⟩ := ha.one rfl
  obtain rfl : u = X := by simpa [T.subs] using B
  have D := za s; have Z := za C; have HA := za ha; obtain ⟨t,_,_,_,_⟩ := s.kept h.gb; have a0 := ze t; have E := za f1; have a1 := f1.lt; clear h ha B Y C s f1; have HT := za ht; have HP := za hp; clear ht hp
  change Calls Tryz.prog 42 #[.agg #[.int .i64 kd,.string ⟨List.toArray x⟩,.int .i64 m,.int .i64 p,.slice (some ⟨g,o,none⟩) 1 c],ptr b1] w _
  simp only [la,lc,ln] at hlen; have dD := dd; clear dd
  go_enter Tryz.func42,Tryz.ntmps42
  go_wp2_with fail; go_at_call 39; refine (uU w0 wb _ _ L kd x m p [u] _ (i.out.grown gan) HA.out (by first | omega | (simp only [la,lc,ln,zo]; omega))).mono ?_; rintro e w1 ⟨rfl,F,l⟩; have j := za F; have K1 := za ((WK.grown i.out gan).trans l); have v := za ((FB.newX i.out kd x m p [u] (.slice (some ⟨g,o,none⟩) 1 c) 28 grn).step ((WK.grown (i.out.grown gan) grn).trans l)); cases v.out.box.q; have H := v.out.fr.lt
  obtain ⟨d,_,_,_,_⟩ := D.out.kept j.out.gb; have y := ze d; have b := za (E.out.step ((WK.grown i.out gan).trans l)); have n := WK.cell ((WK.grown i.out gan).trans l) E.out dD; clear F l; go_wp2_with fail; go_at_call 40; refine (ye w0 wb _ _ L [32,61,32] _ _ (by simp) (j.out.grown grn) (by first | omega | (simp only [la,lc,ln]; omega))).mono ?_; rintro e w2 ⟨rfl,I,r⟩; have z := za I; have K2 := km K1 j r; have J := bm v j r; cases J.out.box.q; have K := J.out.fr.lt
  obtain ⟨f,_,_,_,_⟩ := D.out.kept z.out.gb; have A := ze f; have M := za (b.out.step ((WK.grown j.out grn).trans r)); have N := WK.cell ((WK.grown j.out grn).trans r) b.out n; clear I r; go_wp2_with fail
  go_region_with
    (go_at_call 43
     refine (tU w0 wb _ _ L u _ (z.out.grown (zj grn)) Z.out HT.out HP.out (by first | omega | (simp only [la,lc,ln]; omega))).mono ?_; rintro e w3 ⟨rfl,O,R⟩; have W3 := za O; have K3 := za (K2.out.trans ((WK.grown z.out (zj grn)).trans R))
     clear O R)
  all_goals
    go_wp2_with fail
    go_end0
    refine ⟨rfl,?_,K3.out⟩; have U := W3.out; simp only [List.append_assoc] at U ⊢
    exact U
set_option maxHeartbeats 2000000
theorem aL (w : World) : Calls Tryz.prog 34 #[] w fun e w' => e = .returned (.map (some w.heap.size)) /\ IsWds w' w.heap.size /\ w.grownBy w' none := by
 have z := @run_makeMap Tryz.prog; have o := World.ownsMap_made (H := Unit) w Tryz.prog 3 bc; obtain ⟨_,_,r,f⟩ := o.update gq Tryz.underlying67 (by unfold maxLen; omega) (keyOf_int_mk (P := Tryz.prog) Tryz.underlying3 (q := .i64) (a := 30) (by decide)) (val := .agg #[.string ⟨#[84,82,85,69]⟩]) (d := .lit (.string [84,82,85,69])) (ps := []) rfl; obtain ⟨_,_,s,g⟩ := r.update gq Tryz.underlying67 (by unfold maxLen; omega) (keyOf_int_mk (P := Tryz.prog) Tryz.underlying3 (q := .i64) (a := 31) (by decide)) (val := .agg #[.string ⟨#[70,65,76,83,69]⟩]) (d := .lit (.string [70,65,76,83,69])) (ps := []) rfl; obtain ⟨_,_,t,h⟩ := s.update gq Tryz.underlying67 (by unfold maxLen; omega) (keyOf_int_mk (P := Tryz.prog) Tryz.underlying3 (q := .i64) (a := 32) (by decide)) (val := .agg #[.string ⟨#[78,73,76]⟩]) (d := .lit (.string [78,73,76])) (ps := []) rfl; obtain ⟨_,_,u,i⟩ := t.update gq Tryz.underlying67 (by unfold maxLen; omega) (keyOf_int_mk (P := Tryz.prog) Tryz.underlying3 (q := .i64) (a := 20) (by decide)) (val := .agg #[.string ⟨#[78,69,87]⟩]) (d := .lit (.string [78,69,87])) (ps := []) rfl; obtain ⟨_,_,v,j⟩ := u.update gq Tryz.underlying67 (by unfold maxLen; omega) (keyOf_int_mk (P := Tryz.prog) Tryz.underlying3 (q := .i64) (a := 21) (by decide)) (val := .agg #[.string ⟨#[79,85,84]⟩]) (d := .lit (.string [79,85,84])) (ps := []) rfl; obtain ⟨_,_,x,l⟩ := v.update gq Tryz.underlying67 (by unfold maxLen; omega) (keyOf_int_mk (P := Tryz.prog) Tryz.underlying3 (q := .i64) (a := 22) (by decide)) (val := .agg #[.string ⟨#[71,69,84]⟩]) (d := .lit (.string [71,69,84])) (ps := []) rfl; obtain ⟨b,_,y,m⟩ := x.update gq Tryz.underlying67 (by unfold maxLen; omega) (keyOf_int_mk (P := Tryz.prog) Tryz.underlying3 (q := .i64) (a := 23) (by decide)) (val := .agg #[.string ⟨#[65,83,83,69,82,84]⟩]) (d := .lit (.string [65,83,83,69,82,84])) (ps := []) rfl; have A : Hid (IsWds b w.heap.size) := y
 have B : Hid (w.grownBy b none) := by
  have n : (w.alloc (.map #[] 0)).grownBy b (some w.heap.size) := zb (zb (zb (zb (zb (zb f g) h) i) j) l) m
  exact ⟨n.os,n.tape,n.output,by have := n.size; simp at this; omega,fun k hk _ => (n.block k (by simp; omega) (by simp; omega)).trans (by have := (World.grownBy_alloc w (.map #[] 0) none).block k hk (by simp); exact this)⟩
 clear o r s t u v x y f g h i j l m
 go_enter Tryz.func34,Tryz.ntmps34
 go_wp2
 go_ret
 exact ⟨rfl,A.out,B.out⟩
theorem gS (w : World) : Calls Tryz.prog 18 #[] w fun e w' => ∃ wb,e = .returned (ptr wb) /\ Wr w wb w' [] 0 := by
 go_enter Tryz.func18,Tryz.ntmps18
 go_wp2_with fail; go_at_call 31; refine (gQ w).mono ?_; rintro e d ⟨rfl,h,i⟩; have j := za h; have l := za i; clear h i; go_wp2_with fail; go_at_call 34; refine (aL d).mono ?_; rintro e b ⟨rfl,m,n⟩; have o := za m; have f := za n; clear m n; go_wp2_with fail
 go_ret
 have r := World.ownsMap.lt j.out; have s := World.ownsMap.lt o.out; have t := l.out.size; have u := f.out.size; have g : b.grownBy (b.alloc (.cells #[.pointer none,.slice none 0 0,.int .i64 0,.map (some w.heap.size),.map (some d.heap.size)] WT)) none := zf grn _; refine ⟨b.heap.size,rfl,zb l.out (zb f.out g),by omega,.pointer none,.slice none 0 0,w.heap.size,d.heap.size,.inl rfl,?_,World.ownsRow_nil _ _ _ _,by simp [Value.ownBlock],?_,?_,by omega,by omega⟩
 ·exact heap_alloc_new b _
 ·exact yN j.out ((g.block _ (by omega) (by simp)).trans (f.out.block _ r (by simp)))
 ·exact yN o.out (g.block _ s (by simp))
theorem bN (w0 : World) (wb : Nat) (w : World) (S : List UInt8) (L : Nat) (h : Wr w0 wb w S L) : Calls Tryz.prog 20 #[ptr wb] w fun e w' => e = .returned (.int .i64 S.length) /\ w' = w := by
 obtain ⟨_,v,_,_,_,j,d,_⟩ := h.st
 obtain ⟨f,b,rfl⟩ : ∃ f b,v = .slice f S.length b := by
  rcases d.2 with ⟨i,l⟩ | ⟨g,b,m,i,_⟩
  ·exact ⟨none,0,by rw [i,l]⟩
  ·exact ⟨_,_,i⟩
 have n : w.cell? ⟨wb,1,none⟩ = some (.slice f S.length b) := by rw [Lib.cell_of_heap j]; rfl
 clear d j h
 go_enter Tryz.func20,Tryz.ntmps20
 go_wp2
 go_ret
 exact ⟨rfl,rfl⟩
theorem bA : Tryz.prog.cellsOf U8 = 1 := by kernel_rfl
theorem cD (w0 : World) (wb : Nat) (w : World) (S : List UInt8) (L : Nat) (h : Wr w0 wb w S L) (h0 : S ≠ []) : Calls Tryz.prog 21 #[ptr wb] w fun e w' => e = .returned (.string ⟨S.toArray⟩) /\ w0.grownBy w' none := by
 obtain ⟨p,v,y,z,_,u,l,_⟩ := h.st
 have m : S.length ≠ 0 := by simpa using h0
 obtain ⟨g,b,d,rfl,n,hg,A,o,B,s⟩ : ∃ g b d,v = .slice (some ⟨g,0,none⟩) S.length b /\ w0.heap.size <= g /\ w.heap[g]? = some (.cells d U8 (0,0)) /\ S.length <= b /\ b <= maxLen /\ d.size = b * 1 /\ d.toList.take (S.length * 1) = Lib.byteCells S := by
  rcases l.2 with ⟨_,C⟩ | ⟨g,b,d,D,r⟩
  ·exact absurd C m
  ·exact ⟨g,b,d,D,r⟩
 have E : w.drew.cell? ⟨wb,1,none⟩ = some (.slice (some ⟨g,0,none⟩) S.length b) := by
  have : w.drew.heap[wb]? = some (.cells #[p,.slice (some ⟨g,0,none⟩) S.length b,.int .i64 L,.map (some y),.map (some z)] WT (0,0)) := u; rw [Lib.cell_of_heap this]; rfl
 have K : w.cell? ⟨wb,1,none⟩ = some (.slice (some ⟨g,0,none⟩) S.length b) := E
 have F : (Builtin.unsafeSliceData_ #[63] 96 #[.slice (some ⟨g,0,none⟩) S.length b]).run Tryz.prog w.drew = .ok (.pointer (some ⟨g,0,none⟩)) w.drew :=
  Lib.run_unsafeSliceData_row _ _ _ _ _ _ (by omega)
 have H : (Builtin.unsafeString_ #[96,3] 9 #[.pointer (some ⟨g,0,none⟩),.int .i64 S.length]).run Tryz.prog w.drew = .ok (.string ⟨S.toArray⟩) (w.drew.freeze ⟨g,0,none⟩ S.length) := by
  refine Lib.run_unsafeString_row w.drew 96 3 9 U8 Tryz.underlying96 bA g d.size (by have t : w.drew.heap[g]? = some (.cells d U8 (0,0)) := hg; simp [World.shape?,t]) S h0 (by omega) (by unfold maxLen at o; omega) ?_; intro j x I; have := l.cells (g := g) rfl j (.int .u8 x.toNat) (by simp [Lib.byteCells,I])
  exact this
 have J : Hid (w0.grownBy (w.drew.freeze ⟨g,0,none⟩ S.length) none) := by
  have f := Lib.below_freeze (Below.drew (Below.refl w0.heap.size w)) (p := ⟨g,0,none⟩) n S.length; have i := h.gb
  exact ⟨f.os.trans i.os,f.tape.trans i.tape,f.output.trans i.output,Nat.le_trans i.size f.size,fun k hk _ => (f.block k hk).trans (i.block k hk (by simp))⟩
 clear l u h hg
 go_enter Tryz.func21,Tryz.ntmps21
 go_wp2
 go_region
 all_goals (go_wp2; go_ret; exact ⟨rfl,J.out⟩)
theorem zd8 {α : Type} {l : List α} (h : 0 < l.length) : l.isEmpty = false := by cases l; simp at h; rfl
theorem zcz (w0 : World) (wb : Nat) (hp : PT w0) (f : Nat) (hf : f < 20000) (w : World) (S : List UInt8) (t : T) (sv : Value) (h : Wr w0 wb w S 0) (ha : AT w0 t.subs sv) (ht : Well .procedure t) (hd : zA t <= f + 2) (hlen : S.length + (vc f t).length <= 1000000000) :
    Calls Tryz.prog 45 #[ptr wb, yl t sv] w (WP w0 wb w S 0 (vc f t)) := by
  obtain ⟨x, m, p, ps, rs, vs, bs, rfl, -, -, -, hps, hrs, hvs, hbs⟩ := bg ht; obtain ⟨qp,pl,rfl,hpl⟩ := xL hps; obtain ⟨qv,vl,rfl,hvl⟩ := xL hvs; obtain ⟨qa,al,rfl,hal⟩ := xL hbs
  have hz : LW w0 wb 0 al (zW f 0 al) := ic w0 wb hp f 0 al (by omega) (fun u hu => by
    have h1 := ui (t := .mk 1 [] 0 qa al) (u := u) hu; have h2 := ui (t := .mk 7 x m p [.mk 1 [] 0 qp pl, rs, .mk 1 [] 0 qv vl, .mk 1 [] 0 qa al]) (u := .mk 1 [] 0 qa al) (by simp [T.subs])
    omega) hal
  rcases Nat.eq_zero_or_pos pl.length with hn | hn <;> rcases hrs with ⟨q, rfl⟩ | ⟨hk, hrn⟩
  · have e : vc f (.mk 7 x m p [.mk 1 [] 0 qp pl, .mk 0 [] 0 q [], .mk 1 [] 0 qv vl, .mk 1 [] 0 qa al]) = [80, 82, 79, 67, 69, 68, 85, 82, 69, 32] ++ (yK (.mk 7 x m p [.mk 1 [] 0 qp pl, .mk 0 [] 0 q [], .mk 1 [] 0 qv vl, .mk 1 [] 0 qa al]) ++ (([59, 10] ++ (zO VARw zG vl ++ ([66, 69, 71, 73, 78] ++ ([10] ++ (zW f 0 al ++ ([69, 78, 68, 32] ++ (x ++ ([59] ++ [10])))))))))) := by
      obtain rfl : pl = [] := List.eq_nil_of_length_eq_zero hn
      simp [vc, yo, T.subs, T.kind, T.name]
    rw [e] at hlen ⊢
    exact zdw w0 wb w S x m p qp qv qa pl _ vl al sv h ha _ hpl hvl hz hn rfl hlen
  · have e : vc f (.mk 7 x m p [.mk 1 [] 0 qp pl, rs, .mk 1 [] 0 qv vl, .mk 1 [] 0 qa al]) = [80, 82, 79, 67, 69, 68, 85, 82, 69, 32] ++ (yK (.mk 7 x m p [.mk 1 [] 0 qp pl, rs, .mk 1 [] 0 qv vl, .mk 1 [] 0 qa al]) ++ ([40] ++ (zM [59, 32] (pl.map yf) ++ ([41] ++ ([58, 32] ++ (zB rs ++ ([59, 10] ++ (zO VARw zG vl ++ ([66, 69, 71, 73, 78] ++ ([10] ++ (zW f 0 al ++ ([69, 78, 68, 32] ++ (x ++ ([59] ++ [10])))))))))))))) := by
      simp [vc, yo, T.subs, T.name, hk]
    rw [e] at hlen ⊢
    exact zap w0 wb w S x m p qp qv qa pl rs vl al sv h ha _ hpl hvl hz (by rw [hk]; rfl) hrn hlen
  · have e : vc f (.mk 7 x m p [.mk 1 [] 0 qp pl, .mk 0 [] 0 q [], .mk 1 [] 0 qv vl, .mk 1 [] 0 qa al]) = [80, 82, 79, 67, 69, 68, 85, 82, 69, 32] ++ (yK (.mk 7 x m p [.mk 1 [] 0 qp pl, .mk 0 [] 0 q [], .mk 1 [] 0 qv vl, .mk 1 [] 0 qa al]) ++ ([40] ++ (zM [59, 32] (pl.map yf) ++ ([41] ++ ([59, 10] ++ (zO VARw zG vl ++ ([66, 69, 71, 73, 78] ++ ([10] ++ (zW f 0 al ++ ([69, 78, 68, 32] ++ (x ++ ([59] ++ [10])))))))))))) := by
      have hi := zd8 hn; simp only [vc, yo, T.subs, T.name, T.kind, hi, List.getElem?_cons_zero, List.getElem?_cons_succ, Option.getD_some, Bool.false_and, Bool.false_eq_true, if_false, if_true, List.nil_append]
      simp
    rw [e] at hlen ⊢
    exact ze5 w0 wb w S x m p qp qv qa pl _ vl al sv h ha _ hpl hvl hz hn rfl hlen
  · have e : vc f (.mk 7 x m p [.mk 1 [] 0 qp pl, rs, .mk 1 [] 0 qv vl, .mk 1 [] 0 qa al]) = [80, 82, 79, 67, 69, 68, 85, 82, 69, 32] ++ (yK (.mk 7 x m p [.mk 1 [] 0 qp pl, rs, .mk 1 [] 0 qv vl, .mk 1 [] 0 qa al]) ++ ([40] ++ (zM [59, 32] (pl.map yf) ++ ([41] ++ ([58, 32] ++ (zB rs ++ ([59, 10] ++ (zO VARw zG vl ++ ([66, 69, 71, 73, 78] ++ ([10] ++ (zW f 0 al ++ ([69, 78, 68, 32] ++ (x ++ ([59] ++ [10])))))))))))))) := by
      simp [vc, yo, T.subs, T.name, hk]
    rw [e] at hlen ⊢
    exact zap w0 wb w S x m p qp qv qa pl rs vl al sv h ha _ hpl hvl hz (by rw [hk]; rfl) hrn hlen
set_option maxHeartbeats 8000000
theorem zdn : EN 38 := enters_of Tryz.func38 (by kernel_rfl) rfl
theorem zbh : EN 42 := enters_of Tryz.func42 (by kernel_rfl) rfl
theorem EW.const {w0 : World} {wb : Nat} {w : World} {us : List T} {f b1 : Nat} (hp : PT w0) (H : ∀ v ∈ us,Well (.declared 4 1 .expression) v) (hd : ∀ v ∈ us,zA v <= f) (F1 : Fr wb w b1) (d1 : w.cell? ⟨b1,0,none⟩ = some (ptr wb)) (L : Nat) : EW w0 wb w L 38 #[] #[ptr b1] us (xJ f) := by
 intro t e g S b h i d j; have n := hd t b; obtain ⟨x,m,p,u,rfl,-,-,-,l⟩ := kK (H t b); have o := ui (t := .mk 4 x m p [u]) (u := u) (by simp [T.subs])
 exact zfa w0 wb g S L 4 x m p u e b1 i h (zg f u) ((rp w0 wb hp f u (by omega)).2 l) (d.cell F1 d1) (F1.step d) j
theorem EW.named {w0 : World} {wb : Nat} {w : World} {us : List T} {b1 : Nat} (hp : PT w0) (H : ∀ v ∈ us,Well (.declared 5 1 .typeItself) v) (F1 : Fr wb w b1) (d1 : w.cell? ⟨b1,0,none⟩ = some (ptr wb)) (L : Nat) : EW w0 wb w L 42 #[] #[ptr b1] us xM := by
 intro t d e S f g h b i; obtain ⟨x,m,p,u,rfl,-,-,-,j⟩ := kK (H t f)
 exact zek w0 wb e S L 5 x m p u d b1 h g (zfz j) hp (b.cell F1 d1) (F1.step b) i
theorem AT.six {w : World} {k m p : Int} {x : List UInt8} {a b c d e f : T} {sv : Value} (h : AT w (T.mk k x m p [a,b,c,d,e,f]).subs sv) : ∃ g o cap sa sb sc sd se sf,sv = .slice (some ⟨g,o,none⟩) 6 cap /\ 6 <= cap /\ cap <= 9223372036854775807 /\ (Node5 w g o a sa /\ AT w a.subs sa) /\ (Node5 w g (o + 5) b sb /\ AT w b.subs sb) /\ (Node5 w g (o + 10) c sc /\ AT w c.subs sc) /\ (Node5 w g (o + 15) d sd /\ AT w d.subs sd) /\ (Node5 w g (o + 20) e se /\ AT w e.subs se) /\ (Node5 w g (o + 25) f sf /\ AT w f.subs sf) := by
 obtain ⟨J,cap,rfl,i,j⟩ := h.form
 unfold maxLen at j
 obtain ⟨g,o,sa,rfl,l,-,n⟩ := h.node 0 a rfl; obtain ⟨_,_,sb,r,s,-,t⟩ := h.node 1 b rfl; obtain ⟨_,_,sc,u,v,-,y⟩ := h.node 2 c rfl; obtain ⟨_,_,sd,z,A,-,B⟩ := h.node 3 d rfl; obtain ⟨_,_,se,C,D,-,E⟩ := h.node 4 e rfl; obtain ⟨_,_,sf,F,H,-,I⟩ := h.node 5 f rfl; cases r; cases u; cases z; cases C; cases F
 exact ⟨g,o,cap,sa,sb,sc,sd,se,sf,rfl,i,by omega,⟨by simpa using l,n⟩,⟨by simpa using s,t⟩,⟨by simpa using v,y⟩,⟨by simpa using A,B⟩,⟨by simpa using D,E⟩,⟨by simpa using H,I⟩⟩
theorem FB.newBX {w0 : World} {wb : Nat} {w w1 : World} {S : List UInt8} {L : Nat} (h : Wr w0 wb w S L) (kd : Int) (x : List UInt8) (m p : Int) (ts : List T) (sv : Value) (ty : TypeId) (hg : w.grownBy w1 none) (b : Nat) (hb : b = w1.heap.size) : FB wb (w1.alloc (.cells #[.int .i64 kd,.string ⟨x.toArray⟩,.int .i64 m,.int .i64 p,sv] ty)) b (.mk kd x m p ts) sv := by subst hb; exact FB.new h (.mk kd x m p ts) sv ty hg
def vo (f : Nat) (l : List T) : List UInt8 := zZ (vc f) l
theorem cw {f : Nat} {ts : List T} {i : Nat} {u : T} (h : ts[i]? = some u) : vo f (ts.take (i + 1)) = vo f (ts.take i) ++ vc f u := by
 unfold vo
 rw [List.take_add_one,h,xu]
 simp [zZ]
theorem zcj (f : Nat) (ts : List T) (i : Nat) : (vo f (ts.take i)).length <= (vo f ts).length := by
 have h : vo f (ts.take i ++ ts.drop i) = vo f (ts.take i) ++ vo f (ts.drop i) := xu _ _ _; rw [List.take_append_drop] at h; rw [h,List.length_append]
 omega
theorem zdc (w0 : World) (wb : Nat) (hp : PT w0) (f : Nat) (hf : f < 20000) (w : World) (S : List UInt8) (x : List UInt8) (m p q0 q1 q2 q3 q4 q5 : Int) (il cl tl vl pl al : List T) (sv : Value) (h : Wr w0 wb w S 0) (ha : AT w0 (T.mk 2 x m p [.mk 1 [] 0 q0 il,.mk 1 [] 0 q1 cl,.mk 1 [] 0 q2 tl,.mk 1 [] 0 q3 vl,.mk 1 [] 0 q4 pl,.mk 1 [] 0 q5 al]).subs sv) (Y : List UInt8) (hcl : ∀ v ∈ cl,Well (.declared 4 1 .expression) v) (hcd : ∀ v ∈ cl,zA v <= f) (htl : ∀ v ∈ tl,Well (.declared 5 1 .typeItself) v) (hvl : ∀ v ∈ vl,Well (.declared 6 1 .typeName) v) (hpl : ∀ v ∈ pl,Well .procedure v) (hpd : ∀ v ∈ pl,zA v <= f) (hY : (al = [] /\ Y = [69,78,68,32] ++ (x ++ ([46] ++ [10]))) \/ ∃ Z,¬ al = [] /\ LW w0 wb 0 al Z /\ Y = [66,69,71,73,78] ++ ([10] ++ (Z ++ ([69,78,68,32] ++ (x ++ ([46] ++ [10])))))) (hlen : S.length + (([77,79,68,85,76,69,32] ++ (x ++ ([59] ++ ([10] ++ (xm il ++ (zO [67,79,78,83,84] (xJ f) cl ++ (zO [84,89,80,69] xM tl ++ zO VARw zG vl))))))) ++ (vo f pl ++ Y)).length <= 1000000000) :
  Calls Tryz.prog 19 #[ptr wb,yl (.mk 2 x m p [.mk 1 [] 0 q0 il,.mk 1 [] 0 q1 cl,.mk 1 [] 0 q2 tl,.mk 1 [] 0 q3 vl,.mk 1 [] 0 q4 pl,.mk 1 [] 0 q5 al]) sv] w (WP w0 wb w S 0 (([77,79,68,85,76,69,32] ++ (x ++ ([59] ++ ([10] ++ (xm il ++ (zO [67,79,78,83,84] (xJ f) cl ++ (zO [84,89,80,69] xM tl ++ zO VARw zG vl))))))) ++ (vo f pl ++ Y))) := by
 have HW := za h; have m8 := h.lt; have HP := za hp; have f4 := za hcl; have f5 := za hcd; have f6 := za htl; have f7 := za hvl; have f8 := za hpl; have f9 := za hpd; obtain ⟨g,o,c,s0,s1,s2,s3,s4,s5,rfl,_,_,⟨n0,a0⟩,⟨n1,a1⟩,⟨n2,a2⟩,⟨n3,a3⟩,⟨n4,a4⟩,⟨n5,a5⟩⟩ := AT.six ha; obtain ⟨_,_,rfl,_,_⟩ := AT.slice (show AT w0 pl s4 from a4); obtain ⟨_,_,rfl,_,_⟩ := AT.slice (show AT w0 al s5 from a5); have HZ := za hY; clear hY; have NA := za n0; have NB := za n1; have NC := za n2; have ND := za n3; have NE := za n4; have NF := za n5; have A0 : Hid (AT w0 il _) := a0; have A1 : Hid (AT w0 cl _) := a1; have A2 : Hid (AT w0 tl _) := a2; have A3 : Hid (AT w0 vl _) := a3; have A4 : Hid (AT w0 pl _) := a4; have A5 : Hid (AT w0 al _) := a5; have m9 := ze (n0.kept h.gb).c0; have b6 := za (Fr.new h (zf (zf grn (.cells #[ptr wb] 58)) (.cells #[.int .i64 2,.string ⟨List.toArray x⟩,.int .i64 m,.int .i64 p,.slice (some ⟨g,o,none⟩) 6 c] 28)) (Nat.le_refl _) (by simp; omega))
 have b7 : ((w.alloc (.cells #[ptr wb] 58)).alloc (.cells #[.int .i64 2,.string ⟨List.toArray x⟩,.int .i64 m,.int .i64 p,.slice (some ⟨g,o,none⟩) 6 c] 28)).cell? ⟨w.heap.size,0,none⟩ = some (ptr wb) := by rw [World.cell?_alloc_lt _ _ _ (by simp)]; exact gC w _ _
 have B0 := za (FB.newBX h 2 x m p [.mk 1 [] 0 q0 il,.mk 1 [] 0 q1 cl,.mk 1 [] 0 q2 tl,.mk 1 [] 0 q3 vl,.mk 1 [] 0 q4 pl,.mk 1 [] 0 q5 al] (.slice (some ⟨g,o,none⟩) 6 c) 28 (zf grn (.cells #[ptr wb] 58)) (w.heap.size + 1) (by simp)); have g0 := za b7; clear h ha hcl hcd htl hvl hpl hpd hp n0 n1 n2 n3 n4 n5 a0 a1 a2 a3 a4 a5 b7
 change Calls Tryz.prog 19 #[ptr wb,.agg #[.int .i64 2,.string ⟨List.toArray x⟩,.int .i64 m,.int .i64 p,.slice (some ⟨g,o,none⟩) 6 c]] w _
 simp only [la,lc,ln] at hlen
 generalize HX : (([77,79,68,85,76,69,32] ++ (x ++ ([59] ++ ([10] ++ (xm il ++ (zO [67,79,78,83,84] (xJ f) cl ++ (zO [84,89,80,69] xM tl ++ zO VARw zG vl))))))) ++ (vo f pl ++ Y)) = XX
 have b8 := za HX; clear HX
 go_enter Tryz.func19,Tryz.ntmps19
 go_wp2_with fail; go_at_call 35; refine (ol w0 wb _ _ 0 [77,79,68,85,76,69,32] x [59] _ _ (by simp) (HW.out.grown (zf gan _)) (by first | omega | (simp only [List.length_cons,List.length_nil]; omega))).mono ?_; rintro e w1 ⟨rfl,j1,k1⟩; have z := za j1; have K1 := za ((WK.grown HW.out (zf gan _)).trans k1); have A := za (b6.out.step ((WK.grown (HW.out.grown (zf gan _)) grn).trans k1)); have O := WK.cell ((WK.grown (HW.out.grown (zf gan _)) grn).trans k1) b6.out g0.out; have g7 := A.out.lt; have B := za (B0.out.step ((WK.grown (HW.out.grown (zf gan _)) grn).trans k1)); obtain ⟨_,_,_,_,b9⟩ := B.out.box.p
 have g8 := B.out.fr.lt; have R := (NA.out.kept z.out.gb).c4; have g9 := (NB.out.kept z.out.gb).c4; have h0 := (NC.out.kept z.out.gb).c4; have h1 := (ND.out.kept z.out.gb).c4; have h2 := (NE.out.kept z.out.gb).c4; have h3 := (NF.out.kept z.out.gb).c4; have h4 := ze R; clear j1 k1; go_wp2_with fail; refine wp_region_held_drew (S := (fun w' => w'.cell? ⟨w.heap.size,0,none⟩ = some (ptr wb) /\ w'.cell? ⟨w.heap.size + 1,4,none⟩ = some (.slice (some ⟨g,o,none⟩) 6 c) /\ w'.cell? ⟨g,o + 4,none⟩ = some s0)) (by kernel_rfl) ?_ (fun hHeld => ?_)
 ·exact ⟨yI (zj grn) O,yI (zj grn) b9,yI (zj grn) R⟩
 refine tk 0 (ptr wb) rfl (fun _ ⟨_,_,_⟩ => by go_simp) hHeld ?_; simp only [Act.put,List.setIfInBounds_toArray]; refine tk 1 (.pointer (some ⟨w.heap.size + 1,4,none⟩)) rfl (fun _ _ => by go_simp) hHeld ?_; simp only [Act.put]; refine tk 2 (.slice (some ⟨g,o,none⟩) 6 c) rfl (fun _ ⟨_,_,_⟩ => by go_simp) hHeld ?_; simp only [Act.put]; refine tk 3 (.pointer (some ⟨g,o,none⟩)) rfl (fun _ _ => by go_simp) hHeld ?_; simp only [Act.put]; refine tk 4 (.pointer (some ⟨g,o + 4,none⟩)) rfl (fun _ _ => by go_simp) hHeld ?_; simp only [Act.put]; refine tk 5 s0 rfl (fun _ ⟨_,_,_⟩ => by go_simp) hHeld ?_; simp only [Act.put]; refine rd 6 rfl fun KK hKK => ?_
 go_simp
 go_at_call 36; refine (lF w0 wb _ _ 0 il _ (z.out.grown (zj grn)) A0.out (by first | omega | (simp only [la,lc,ln,zo]; omega))).mono ?_; rintro e w2 ⟨rfl,j2,k2⟩; have t := za j2; have K2 := za (K1.out.trans ((WK.grown z.out (zj grn)).trans k2)); have l := za (A.out.step ((WK.grown z.out (zj grn)).trans k2)); have n := WK.cell ((WK.grown z.out (zj grn)).trans k2) A.out O; have h5 := l.out.lt; have C := za (B.out.step ((WK.grown z.out (zj grn)).trans k2)); obtain ⟨_,_,_,_,U⟩ := C.out.box.p
 have h6 := C.out.fr.lt; have V := (NA.out.kept t.out.gb).c4; have c1 := (NB.out.kept t.out.gb).c4; have h7 := (NC.out.kept t.out.gb).c4; have j0 := (ND.out.kept t.out.gb).c4; have j6 := (NE.out.kept t.out.gb).c4; have j7 := (NF.out.kept t.out.gb).c4; have j8 := ze V; clear j2 k2
 go_simp
 refine hKK.out _ _ ⟨n,U,V⟩ fun hHeld => ?_
 clear hKK KK; refine wpAnyH_done (by kernel_rfl) ?_ _; clear hHeld; go_wp2_with fail; refine wp_region_held_drew (S := (fun w' => w'.cell? ⟨w.heap.size,0,none⟩ = some (ptr wb) /\ w'.cell? ⟨w.heap.size + 1,4,none⟩ = some (.slice (some ⟨g,o,none⟩) 6 c) /\ w'.cell? ⟨g,o + 5 + 4,none⟩ = some s1)) (by kernel_rfl) ?_ (fun hHeld => ?_)
 ·exact ⟨yI (zj grn) n,yI (zj grn) U,yI (zj grn) c1⟩
 refine tk 0 (ptr wb) rfl (fun _ ⟨_,_,_⟩ => by go_simp) hHeld ?_; simp only [Act.put,List.setIfInBounds_toArray]; refine tk 1 (.pointer (some ⟨w.heap.size + 1,4,none⟩)) rfl (fun _ _ => by go_simp) hHeld ?_; simp only [Act.put]; refine tk 2 (.slice (some ⟨g,o,none⟩) 6 c) rfl (fun _ ⟨_,_,_⟩ => by go_simp) hHeld ?_; simp only [Act.put]; refine tk 3 (.pointer (some ⟨g,o + 5,none⟩)) rfl (fun _ _ => by go_simp) hHeld ?_; simp only [Act.put]; refine tk 4 (.pointer (some ⟨g,o + 5 + 4,none⟩)) rfl (fun _ _ => by go_simp) hHeld ?_; simp only [Act.put]; refine tk 5 s1 rfl (fun _ ⟨_,_,_⟩ => by go_simp) hHeld ?_; simp only [Act.put]; refine tk 6 (.func (.func 38) #[] #[ptr w.heap.size]) rfl (fun _ _ => by go_simp) hHeld ?_; simp only [Act.put]; refine rd 7 rfl fun KK hKK => ?_
 go_simp
 go_at_call 37; refine (uV w0 wb _ _ [67,79,78,83,84] cl _ _ _ _ (xJ f) (t.out.grown (zj grn)) A1.out ((EW.const HP.out f4.out f5.out l.out n 1).step (WK.grown t.out (zj grn))) zdn (by first | omega | (simp only [la,lc,ln,zo]; omega))).mono ?_; rintro e w3 ⟨rfl,j3,X⟩; have y := za j3; have K3 := za (K2.out.trans ((WK.grown t.out (zj grn)).trans X)); have r := za (l.out.step ((WK.grown t.out (zj grn)).trans X)); have s := WK.cell ((WK.grown t.out (zj grn)).trans X) l.out n; have j9 := r.out.lt; have D := za (C.out.step ((WK.grown t.out (zj grn)).trans X)); obtain ⟨_,_,_,_,a6⟩ := D.out.box.p
 have k0 := D.out.fr.lt; have c2 := (NA.out.kept y.out.gb).c4; have c3 := (NB.out.kept y.out.gb).c4; have c5 := (NC.out.kept y.out.gb).c4; have k6 := (ND.out.kept y.out.gb).c4; have k7 := (NE.out.kept y.out.gb).c4; have k8 := (NF.out.kept y.out.gb).c4; have k9 := ze c2; clear j3 X
 go_simp
 refine hKK.out _ _ ⟨s,a6,c3⟩ fun hHeld => ?_
 clear hKK KK; refine wpAnyH_done (by kernel_rfl) ?_ _; clear hHeld; go_wp2_with fail; refine wp_region_held_drew (S := (fun w' => w'.cell? ⟨w.heap.size,0,none⟩ = some (ptr wb) /\ w'.cell? ⟨w.heap.size + 1,4,none⟩ = some (.slice (some ⟨g,o,none⟩) 6 c) /\ w'.cell? ⟨g,o + 10 + 4,none⟩ = some s2)) (by kernel_rfl) ?_ (fun hHeld => ?_)
 ·exact ⟨yI (zj grn) s,yI (zj grn) a6,yI (zj grn) c5⟩
 refine tk 0 (ptr wb) rfl (fun _ ⟨_,_,_⟩ => by go_simp) hHeld ?_; simp only [Act.put,List.setIfInBounds_toArray]; refine tk 1 (.pointer (some ⟨w.heap.size + 1,4,none⟩)) rfl (fun _ _ => by go_simp) hHeld ?_; simp only [Act.put]; refine tk 2 (.slice (some ⟨g,o,none⟩) 6 c) rfl (fun _ ⟨_,_,_⟩ => by go_simp) hHeld ?_; simp only [Act.put]; refine tk 3 (.pointer (some ⟨g,o + 10,none⟩)) rfl (fun _ _ => by go_simp) hHeld ?_; simp only [Act.put]; refine tk 4 (.pointer (some ⟨g,o + 10 + 4,none⟩)) rfl (fun _ _ => by go_simp) hHeld ?_; simp only [Act.put]; refine tk 5 s2 rfl (fun _ ⟨_,_,_⟩ => by go_simp) hHeld ?_; simp only [Act.put]; refine tk 6 (.func (.func 42) #[] #[ptr w.heap.size]) rfl (fun _ _ => by go_simp) hHeld ?_; simp only [Act.put]; refine rd 7 rfl fun KK hKK => ?_
 go_simp
 go_at_call 37; refine (uV w0 wb _ _ [84,89,80,69] tl _ _ _ _ xM (y.out.grown (zj grn)) A2.out ((EW.named HP.out f6.out r.out s 1).step (WK.grown y.out (zj grn))) zbh (by first | omega | (simp only [la,lc,ln,zo]; omega))).mono ?_; rintro e w4 ⟨rfl,j4,k4⟩; have E := za j4; have K4 := za (K3.out.trans ((WK.grown y.out (zj grn)).trans k4)); have F := za (r.out.step ((WK.grown y.out (zj grn)).trans k4)); have H := WK.cell ((WK.grown y.out (zj grn)).trans k4) r.out s; have l0 := F.out.lt; have I := za (D.out.step ((WK.grown y.out (zj grn)).trans k4)); obtain ⟨_,_,_,_,a7⟩ := I.out.box.p
 have l1 := I.out.fr.lt; have c6 := (NA.out.kept E.out.gb).c4; have l2 := (NB.out.kept E.out.gb).c4; have c7 := (NC.out.kept E.out.gb).c4; have c8 := (ND.out.kept E.out.gb).c4; have l3 := (NE.out.kept E.out.gb).c4; have l4 := (NF.out.kept E.out.gb).c4; have l5 := ze c6; clear j4 k4
 go_simp
 refine hKK.out _ _ ⟨H,a7,c7⟩ fun hHeld => ?_
 clear hKK KK; refine wpAnyH_done (by kernel_rfl) ?_ _; clear hHeld; go_wp2_with fail; refine wp_region_held_drew (S := (fun w' => w'.cell? ⟨w.heap.size,0,none⟩ = some (ptr wb) /\ w'.cell? ⟨w.heap.size + 1,4,none⟩ = some (.slice (some ⟨g,o,none⟩) 6 c) /\ w'.cell? ⟨g,o + 15 + 4,none⟩ = some s3)) (by kernel_rfl) ?_ (fun hHeld => ?_)
 ·exact ⟨yI (zj grn) H,yI (zj grn) a7,yI (zj grn) c8⟩
 refine tk 0 (ptr wb) rfl (fun _ ⟨_,_,_⟩ => by go_simp) hHeld ?_; simp only [Act.put,List.setIfInBounds_toArray]; refine tk 1 (.pointer (some ⟨w.heap.size + 1,4,none⟩)) rfl (fun _ _ => by go_simp) hHeld ?_; simp only [Act.put]; refine tk 2 (.slice (some ⟨g,o,none⟩) 6 c) rfl (fun _ ⟨_,_,_⟩ => by go_simp) hHeld ?_; simp only [Act.put]; refine tk 3 (.pointer (some ⟨g,o + 15,none⟩)) rfl (fun _ _ => by go_simp) hHeld ?_; simp only [Act.put]; refine tk 4 (.pointer (some ⟨g,o + 15 + 4,none⟩)) rfl (fun _ _ => by go_simp) hHeld ?_; simp only [Act.put]; refine tk 5 s3 rfl (fun _ ⟨_,_,_⟩ => by go_simp) hHeld ?_; simp only [Act.put]; refine tk 6 (ptr wb) rfl (fun _ ⟨_,_,_⟩ => by go_simp) hHeld ?_; simp only [Act.put]; refine tk 7 (.func (.func 44) #[ptr wb] #[]) rfl (fun _ _ => by go_simp) hHeld ?_; simp only [Act.put]; refine rd 8 rfl fun KK hKK => ?_
 go_simp
 go_at_call 37; refine (uV w0 wb _ _ VARw vl _ _ _ _ zG (E.out.grown (zj grn)) A3.out (EW.typed f7.out _ 1) fR (by first | omega | (simp only [la,lc,ln,zo]; omega))).mono ?_; rintro e w5 ⟨rfl,j5,k5⟩; have W5 := za j5; have K5 := za (K4.out.trans ((WK.grown E.out (zj grn)).trans k5)); have J := za (F.out.step ((WK.grown E.out (zj grn)).trans k5)); have a8 := WK.cell ((WK.grown E.out (zj grn)).trans k5) F.out H; have l6 := J.out.lt; have K := za (I.out.step ((WK.grown E.out (zj grn)).trans k5)); obtain ⟨_,_,_,_,c9⟩ := K.out.box.p
 have l7 := K.out.fr.lt; have d0 := (NA.out.kept W5.out.gb).c4; have l8 := (NB.out.kept W5.out.gb).c4; have l9 := (NC.out.kept W5.out.gb).c4; have d1 := (ND.out.kept W5.out.gb).c4; have m0 := (NE.out.kept W5.out.gb).c4; have m1 := (NF.out.kept W5.out.gb).c4; have m2 := ze d0; clear j5 k5
 go_simp
 refine hKK.out _ _ ⟨a8,c9,d1⟩ fun hHeld => ?_
 clear hKK KK; refine wpAnyH_done (by kernel_rfl) ?_ _; clear hHeld
 have JJ : Hid (Wr w0 wb w5 (S ++ ([77,79,68,85,76,69,32] ++ (x ++ ([59] ++ ([10] ++ (xm il ++ (zO [67,79,78,83,84] (xJ f) cl ++ (zO [84,89,80,69] xM tl ++ zO VARw zG vl)))))))) 0) := by
  show Wr _ _ _ _ _
  have J9 := W5.out; simp only [List.append_assoc,show zR 0 = [] from rfl,List.nil_append] at J9 ⊢
  exact J9
 go_wp2_with fail
 go_loopw [50] (fun iv wr => ∃ i : Nat,i <= pl.length /\ iv = .int .i64 ↑i /\ Hid (Wr w0 wb wr (S ++ (([77,79,68,85,76,69,32] ++ (x ++ ([59] ++ ([10] ++ (xm il ++ (zO [67,79,78,83,84] (xJ f) cl ++ (zO [84,89,80,69] xM tl ++ zO VARw zG vl))))))) ++ vo f (pl.take i))) 0) /\ Hid (WK wb w wr) /\ Hid (Fr wb wr w.heap.size) /\ Hid (wr.cell? ⟨w.heap.size,0,none⟩ = some (ptr wb)) /\ Hid (FB wb wr (w.heap.size + 1) (.mk 2 x m p [.mk 1 [] 0 q0 il,.mk 1 [] 0 q1 cl,.mk 1 [] 0 q2 tl,.mk 1 [] 0 q3 vl,.mk 1 [] 0 q4 pl,.mk 1 [] 0 q5 al]) (.slice (some ⟨g,o,none⟩) 6 c))) (fun iv _ => pl.length - (intOf iv).toNat)
 case atStart => exact ⟨0,Nat.zero_le _,rfl,by show Wr _ _ _ _ _; simpa [vo,zZ] using JJ.out.grown grn,K5.out.trans (WK.grown JJ.out grn),J.out.step (WK.grown JJ.out grn),WK.cell (WK.grown JJ.out grn) J.out a8,K.out.step (WK.grown JJ.out grn)⟩
 case round =>
  obtain ⟨i,_,rfl,J1,KL,FL,DL,BL⟩ := hrel; have dl := DL.out; have fl := FL.out.lt; cases BL.out.box.q
  have bl := BL.out.fr.lt; have nf := (NF.out.kept J1.out.gb).c4; have gl := ze nf
  by_cases g1 : i < pl.length
  ·obtain ⟨u,hu⟩ : ∃ u,pl[i]? = some u := ⟨_,List.getElem?_eq_getElem g1⟩
   obtain ⟨_,_,_,e1,n5,fu,au⟩ := A4.out.node i u hu; cases e1; obtain ⟨_,_,rfl,_,_⟩ := au.form; obtain ⟨_,_,_,_,_⟩ := n5.kept J1.out.gb; have HT := za (cw (f := f) hu); have d2 := zcj f pl (i + 1); have AU := za au; have g2 := za (f8.out u (List.mem_of_getElem? hu)); have g3 := za (f9.out u (List.mem_of_getElem? hu)); rw [HT.out] at d2; simp only [List.length_append] at d2; clear hu fu au n5; go_wp2_with fail; go_at_call 45; refine (zcz w0 wb HP.out f hf _ _ u _ (J1.out.grown gan) AU.out g2.out (Nat.le_trans g3.out (by omega)) (by first | omega | (simp only [la,lc,ln]; omega))).mono ?_; rintro e x3 ⟨rfl,j3,X⟩; have kk := (WK.grown J1.out gan).trans X
   have J3 : Hid (Wr w0 wb x3 (S ++ (([77,79,68,85,76,69,32] ++ (x ++ ([59] ++ ([10] ++ (xm il ++ (zO [67,79,78,83,84] (xJ f) cl ++ (zO [84,89,80,69] xM tl ++ zO VARw zG vl))))))) ++ vo f (pl.take (i + 1)))) 0) := by show Wr _ _ _ _ _; rw [HT.out]; simpa only [List.append_assoc] using j3
   have K3 := za (KL.out.trans kk); have F3 := za (FL.out.step kk); have D3 : Hid (x3.cell? ⟨w.heap.size,0,none⟩ = some (ptr wb)) := kk.cell FL.out DL.out; have B3 := za (BL.out.step kk); clear j3 X kk; go_wp2_with fail
   exact ⟨⟨i + 1,by omega,by go_num,J3,K3,F3,D3,B3⟩,by simp [intOf]; omega⟩
  ·have J2 : Hid (Wr w0 wb wr (S ++ (([77,79,68,85,76,69,32] ++ (x ++ ([59] ++ ([10] ++ (xm il ++ (zO [67,79,78,83,84] (xJ f) cl ++ (zO [84,89,80,69] xM tl ++ zO VARw zG vl))))))) ++ vo f pl)) 0) := by
    have := J1.out; rw [List.take_of_length_le (by omega)] at this
    exact this
   rcases HZ.out with ⟨h9,h8⟩ | ⟨Z,g4,hz,h8⟩
   ·subst h9 h8
    clear HZ; simp only [la,lc,ln] at hlen
    go_wp2_with fail; go_at_call 35; refine (ol w0 wb _ _ 0 [69,78,68,32] x [46] _ _ (by simp) (J2.out.grown grn) (by first | omega | (simp only [la,lc,ln]; omega))).mono ?_; rintro e y3 ⟨rfl,L,M⟩; have a9 := za L; have b := (WK.grown J2.out grn).trans M; have b0 := za (KL.out.trans b); have b1 := za (FL.out.step b); have d3 := b.cell FL.out dl; have d4 := b1.out.lt; have N := za (BL.out.step b); cases N.out.box.q
    have d5 := N.out.fr.lt; clear L M b; go_wp2_with fail
    go_end0
    refine ⟨rfl,?_,b0.out⟩; rw [<- b8.out]; have J9 := a9.out; simp only [List.append_assoc,show zR 0 = [] from rfl,List.nil_append] at J9 ⊢
    exact J9
   ·subst h8
    simp only [la,lc,ln] at hlen
    have m3 : 0 < al.length := by cases al; exact absurd rfl g4; simp
    clear HZ
    have HZ := za hz; clear hz
    go_wp2_with fail; go_at_call 35; refine (sG w0 wb _ _ 0 [66,69,71,73,78] _ _ (by simp) (J2.out.grown grn) (by first | omega | (simp only [la,lc,ln]; omega))).mono ?_; rintro e y1 ⟨rfl,d6,d7⟩; have d8 := za d6; have d := (WK.grown J2.out grn).trans d7; have g5 := za (KL.out.trans d); have b2 := za (FL.out.step d); have d9 := d.cell FL.out dl; have m4 := b2.out.lt; have b3 := za (BL.out.step d); cases b3.out.box.q
    have m5 := b3.out.fr.lt; clear d6 d7 d; go_wp2_with fail; go_at_call 46; refine (HZ.out _ _ _ (d8.out.grown grn) A5.out (by first | omega | (simp only [la,lc,ln,zo]; omega))).mono ?_; rintro e y2 ⟨rfl,f0,f1⟩; have f2 := za f0; have j := (WK.grown d8.out grn).trans f1; have g6 := za (g5.out.trans j); have b4 := za (b2.out.step j); have f3 := j.cell b2.out d9; have m6 := b4.out.lt; have b5 := za (b3.out.step j); cases b5.out.box.q
    have m7 := b5.out.fr.lt; clear f0 f1 j; go_wp2_with fail; go_at_call 35; refine (ol w0 wb _ _ 0 [69,78,68,32] x [46] _ _ (by simp) (f2.out.grown grn) (by first | omega | (simp only [la,lc,ln,zo]; omega))).mono ?_; rintro e y3 ⟨rfl,L,M⟩; have a9 := za L; have b := (WK.grown f2.out grn).trans M; have b0 := za (g6.out.trans b); have b1 := za (b4.out.step b); have d3 := b.cell b4.out f3; have d4 := b1.out.lt; have N := za (b5.out.step b); cases N.out.box.q
    have d5 := N.out.fr.lt; clear L M b; go_wp2_with fail
    go_end0
    refine ⟨rfl,?_,b0.out⟩; rw [<- b8.out]; have J9 := a9.out; simp only [List.append_assoc,show zR 0 = [] from rfl,List.nil_append] at J9 ⊢
    exact J9
end Go.Proofs.YtfjgelmllcnokaaGreatDoor
