/- The program's writer: declared names,types. -/
import Derived.Test.YtfjgelmllcnokaaGreatDoorG23
import Derived.Test.YtfjgelmllcnokaaGreatDoorG04
import Derived.Test.YtfjgelmllcnokaaGreatDoorG13
import Derived.Test.YtfjgelmllcnokaaGreatDoorG24
namespace Go.Proofs.YtfjgelmllcnokaaGreatDoor
open Go.RowKit Go.Maps Go.WideMaps Go.WideElems
set_option maxHeartbeats 4000000
set_option maxRecDepth 1000000
def PT (w : World) : Prop := Lib.TabIs Tryz.prog w "internal/strconv.uint64pow10" .u64 Lib.pow10Tab
theorem zga : Tryz.prog.globalNamed "internal/strconv.uint64pow10" = some 3 := by kernel_rfl
theorem PT.kept {w w' : World} (h : PT w) (hg : w.grownBy w' none) : PT w' := by
 have d := Lib.TabIs.cell h zga 0 (by decide); have b : 3 < w.heap.size := World.block_lt_of_cell? w ⟨_,0,none⟩ d; have e : Below w.heap.size w w' := ⟨hg.os,hg.tape,hg.output,hg.size,fun i hi => hg.block i hi (by simp)⟩
 exact var?_below e zga b h
theorem zf6 (n : Nat) : Lib.decDigits n = tD n := by
 induction n using Nat.strongRecOn with
 | ind n ih =>
  by_cases h : n < 10
  ·rw [jz h,Lib.decDigits,dif_pos h]
  ·rw [fM h,Lib.decDigits,dif_neg h,ih (n / 10) (by omega)]
theorem mG (m : Int) (h0 : 0 <= m) (h1 : m <= 2147483647) (w : World) (hp : PT w) : Calls Tryz.prog 87 #[.int .i64 m] w (Sy w (.string ⟨(vy m).toArray⟩)) := by
 refine (Tryz.strconv_Itoa m (by omega) (by omega) w hp).mono ?_; rintro e f ⟨rfl,k,os,rfl⟩; obtain ⟨n,rfl⟩ := Int.eq_ofNat_of_zero_le h0; refine ⟨?_,?_⟩
 ·rw [zdg n (by omega),Lib.itoa,if_neg (by omega),<- zf6]
  rfl
 ·have b := zy (zl w none) k
  exact ⟨b.os,b.tape,b.output,by simp [Sort.grow],fun i hi hn => by
   have d := b.block i hi hn; rw [<- d]; simp only [Sort.grow]; have : i < (w.drewN k).heap.size := Nat.lt_of_lt_of_le hi b.size
   rw [Array.getElem?_append_left this]⟩
theorem zdy (w0 : World) (wb : Nat) (w : World) (S : List UInt8) (L : Nat) (kd : Int) (x : List UInt8) (m : Int) (p : Int) (u : T) (sv : Value) (h : Wr w0 wb w S L) (ha : AT w0 (T.mk kd x m p [u]).subs sv) (hu : TN u) (hlen : S.length + (yK (.mk kd x m p [u]) ++ ([58,32] ++ zB u)).length <= 1000000000) :
  Calls Tryz.prog 44 #[ptr wb,yl (.mk kd x m p [u]) sv] w (WP w0 wb w S L (yK (.mk kd x m p [u]) ++ ([58,32] ++ zB u))) := by
 have i := za h; have V := za ha; have X := h.lt; obtain ⟨g,o,c,Y,su,rfl,hn,hc,E,n,Z,F⟩ := ha.one rfl
 obtain rfl : u = Y := by simpa [T.subs] using E
 have r := za n; have AU := za F; obtain ⟨s,_,_,_,_⟩ := n.kept h.gb; have a0 := ze s; clear h ha E Z F n
 change Calls Tryz.prog 44 #[ptr wb,.agg #[.int .i64 kd,.string ⟨List.toArray x⟩,.int .i64 m,.int .i64 p,.slice (some ⟨g,o,none⟩) 1 c]] w _
 simp only [la,lc,ln] at hlen
 go_enter Tryz.func44,Tryz.ntmps44
 go_wp2_with fail; go_at_call 39; refine (uU w0 wb _ _ L kd x m p [u] _ (i.out.grown gan) V.out (by first | omega | (simp only [la,lc,ln,zo]; omega))).mono ?_; rintro e w1 ⟨rfl,H,t⟩; have j := za H; have K1 := za ((WK.grown i.out gan).trans t); have v := za ((FB.newX i.out kd x m p [u] (.slice (some ⟨g,o,none⟩) 1 c) 28 grn).step ((WK.grown (i.out.grown gan) grn).trans t)); cases v.out.box.q; have I := v.out.fr.lt
 obtain ⟨b,_,_,_,_⟩ := r.out.kept j.out.gb; have y := ze b; clear H t; go_wp2_with fail; go_at_call 40; refine (ye w0 wb _ _ L [58,32] _ _ (by simp) (j.out.grown grn) (by first | omega | (simp only [la,lc,ln]; omega))).mono ?_; rintro e w2 ⟨rfl,J,z⟩; have l := za J; have K2 := km K1 j z; have A := bm v j z; cases A.out.box.q; have K := A.out.fr.lt
 obtain ⟨d,_,_,_,_⟩ := r.out.kept l.out.gb; have B := ze d; clear J z; go_wp2_with fail; go_at_call 90; refine (xI w0 wb _ _ L u _ (l.out.grown grn) AU.out hu (by first | omega | (simp only [la,lc,ln]; omega))).mono ?_; rintro e w3 ⟨rfl,M,C⟩; have N := za M; have K3 := km K2 l C; have O := bm A l C; cases O.out.box.q; have R := O.out.fr.lt
 obtain ⟨f,_,_,_,_⟩ := r.out.kept N.out.gb; have D := ze f; clear M C; go_wp2_with fail
 go_end0
 refine ⟨rfl,?_,K3.out⟩; have U := N.out
 try simp only [List.append_assoc] at U ⊢
 exact U
theorem ab (w0 : World) (wb : Nat) (w : World) (S : List UInt8) (L : Nat) (kd : Int) (x : List UInt8) (p : Int) (u : T) (sv : Value) (h : Wr w0 wb w S L) (ha : AT w0 (T.mk kd x 1 p [u]).subs sv) (hu : TN u) (hlen : S.length + ([86,65,82,32] ++ (x ++ ([58,32] ++ zB u))).length <= 1000000000) :
  Calls Tryz.prog 94 #[ptr wb,yl (.mk kd x 1 p [u]) sv] w (WP w0 wb w S L ([86,65,82,32] ++ (x ++ ([58,32] ++ zB u)))) := by
 have i := za h; have U := h.lt; obtain ⟨g,o,c,V,su,rfl,hn,hc,D,m,X,E⟩ := ha.one rfl
 obtain rfl : u = V := by simpa [T.subs] using D
 have n := za m; have Y := za E; obtain ⟨r,_,_,_,_⟩ := m.kept h.gb; have Z := ze r; clear h ha D X E m
 change Calls Tryz.prog 94 #[ptr wb,.agg #[.int .i64 kd,.string ⟨List.toArray x⟩,.int .i64 1,.int .i64 p,.slice (some ⟨g,o,none⟩) 1 c]] w _
 simp only [la,lc,ln] at hlen
 go_enter Tryz.func94,Tryz.ntmps94
 go_wp2_with fail; go_at_call 40; refine (ye w0 wb _ _ L [86,65,82,32] _ _ (by simp) (i.out.grown gan) (by first | omega | (simp only [List.length_cons,List.length_nil]; omega))).mono ?_; rintro e w1 ⟨rfl,F,s⟩; have j := za F; have K1 := za ((WK.grown i.out gan).trans s); have t := za ((FB.newX i.out kd x 1 p [u] (.slice (some ⟨g,o,none⟩) 1 c) 28 grn).step ((WK.grown (i.out.grown gan) grn).trans s)); cases t.out.box.q; have H := t.out.fr.lt
 obtain ⟨b,_,_,_,_⟩ := n.out.kept j.out.gb; have v := ze b; clear F s; go_wp2_with fail; go_at_call 40; refine (dE w0 wb _ _ L x [58,32] _ _ (by simp) (j.out.grown grn) (by first | omega | (simp only [la,lc,ln]; omega))).mono ?_; rintro e w2 ⟨rfl,I,y⟩; have l := za I; have K2 := km K1 j y; have z := bm t j y; cases z.out.box.q; have J := z.out.fr.lt
 obtain ⟨d,_,_,_,_⟩ := n.out.kept l.out.gb; have A := ze d; clear I y; go_wp2_with fail; go_at_call 90; refine (xI w0 wb _ _ L u _ (l.out.grown grn) Y.out hu (by first | omega | (simp only [la,lc,ln]; omega))).mono ?_; rintro e w3 ⟨rfl,K,B⟩; have M := za K; have K3 := km K2 l B; have N := bm z l B; cases N.out.box.q; have O := N.out.fr.lt
 obtain ⟨f,_,_,_,_⟩ := n.out.kept M.out.gb; have C := ze f; clear K B; go_wp2_with fail
 go_end0
 refine ⟨rfl,?_,K3.out⟩; have R := M.out
 try simp only [List.append_assoc] at R ⊢
 exact R
theorem az (w0 : World) (wb : Nat) (w : World) (S : List UInt8) (L : Nat) (kd : Int) (x : List UInt8) (m : Int) (p : Int) (u : T) (sv : Value) (h : Wr w0 wb w S L) (ha : AT w0 (T.mk kd x m p [u]).subs sv) (hu : TN u) (hm : ¬ m = 1) (hlen : S.length + ((x ++ ([58,32] ++ zB u))).length <= 1000000000) :
  Calls Tryz.prog 94 #[ptr wb,yl (.mk kd x m p [u]) sv] w (WP w0 wb w S L ((x ++ ([58,32] ++ zB u)))) := by
 have f := za h; have J := h.lt; obtain ⟨g,o,c,K,V,rfl,X,Y,y,j,M,z⟩ := ha.one rfl
 obtain rfl : u = K := by simpa [T.subs] using y
 have A := za j; have N := za z; obtain ⟨l,_,_,_,_⟩ := j.kept h.gb; have O := ze l; clear h ha y M z j
 change Calls Tryz.prog 94 #[ptr wb,.agg #[.int .i64 kd,.string ⟨List.toArray x⟩,.int .i64 m,.int .i64 p,.slice (some ⟨g,o,none⟩) 1 c]] w _
 simp only [la,lc,ln] at hlen
 go_enter Tryz.func94,Tryz.ntmps94
 go_wp2_with fail; go_at_call 40; refine (dE w0 wb _ _ L x [58,32] _ _ (by simp) (f.out.grown gan) (by first | omega | (simp only [List.length_cons,List.length_nil]; omega))).mono ?_; rintro e Z ⟨rfl,B,n⟩; have i := za B; have R := za ((WK.grown f.out gan).trans n); have r := za ((FB.newX f.out kd x m p [u] (.slice (some ⟨g,o,none⟩) 1 c) 28 grn).step ((WK.grown (f.out.grown gan) grn).trans n)); cases r.out.box.q; have C := r.out.fr.lt
 obtain ⟨b,_,_,_,_⟩ := A.out.kept i.out.gb; have s := ze b; clear B n; go_wp2_with fail; go_at_call 90; refine (xI w0 wb _ _ L u _ (i.out.grown grn) N.out hu (by first | omega | (simp only [la,lc,ln]; omega))).mono ?_; rintro e w2 ⟨rfl,D,t⟩; have E := za D; have U := km R i t; have F := bm r i t; cases F.out.box.q; have H := F.out.fr.lt
 obtain ⟨d,_,_,_,_⟩ := A.out.kept E.out.gb; have v := ze d; clear D t; go_wp2_with fail
 go_end0
 refine ⟨rfl,?_,U.out⟩; have I := E.out
 try simp only [List.append_assoc] at I ⊢
 exact I
theorem zel (w0 : World) (wb : Nat) (w : World) (S : List UInt8) (L : Nat) (m : Int) (p : Int) (u : T) (sv : Value) (h : Wr w0 wb w S L) (ha : AT w0 (T.mk 9 [] m p [u]).subs sv) (hu : TN u) (h0 : 0 <= m) (h1 : m <= 2147483647) (hp : PT w0) (hlen : S.length + ([65,82,82,65,89,32] ++ (vy m ++ ([32,79,70,32] ++ zB u))).length <= 1000000000) :
  Calls Tryz.prog 43 #[ptr wb,yl (.mk 9 [] m p [u]) sv] w (WP w0 wb w S L ([65,82,82,65,89,32] ++ (vy m ++ ([32,79,70,32] ++ zB u)))) := by
 have i := za h; have V := h.lt; obtain ⟨g,o,c,X,su,rfl,hn,hc,D,n,Y,E⟩ := ha.one rfl
 obtain rfl : u = X := by simpa [T.subs] using D
 have r := za n; have Z := za E; obtain ⟨s,_,_,_,_⟩ := n.kept h.gb; have a0 := ze s; clear h ha D Y E n
 change Calls Tryz.prog 43 #[ptr wb,.agg #[.int .i64 9,.string ⟨List.toArray []⟩,.int .i64 m,.int .i64 p,.slice (some ⟨g,o,none⟩) 1 c]] w _
 simp only [la,lc,ln] at hlen; have HP := za hp; clear hp
 go_enter Tryz.func43,Tryz.ntmps43
 go_wp2_with fail; go_at_call 87; refine (mG m h0 h1 _ (HP.out.kept (i.out.grown gan).gb)).mono ?_; rintro e w1 ⟨rfl,t⟩; have F := i.out.grown (zb gan t); have H := WK.grown i.out (zb gan t); have j := za F; have K1 := za H; have v := za ((FB.newX i.out 9 [] m p [u] (.slice (some ⟨g,o,none⟩) 1 c) 28 grn).step (WK.grown (i.out.grown gan) (zb grn t))); cases v.out.box.q; have I := v.out.fr.lt
 obtain ⟨b,_,_,_,_⟩ := r.out.kept j.out.gb; have x := ze b; clear F H; go_wp2_with fail; go_at_call 40; refine (ni w0 wb _ _ L [65,82,82,65,89,32] (vy m) [32,79,70,32] _ _ (by simp) (j.out.grown grn) (by first | omega | (simp only [List.length_cons,List.length_nil]; omega))).mono ?_; rintro e w2 ⟨rfl,J,y⟩; have l := za J; have K2 := km K1 j y; have z := bm v j y; cases z.out.box.q; have K := z.out.fr.lt
 obtain ⟨d,_,_,_,_⟩ := r.out.kept l.out.gb; have A := ze d; clear J y; go_wp2_with fail; go_at_call 90; refine (xI w0 wb _ _ L u _ (l.out.grown grn) Z.out hu (by first | omega | (simp only [la,lc,ln]; omega))).mono ?_; rintro e w3 ⟨rfl,M,B⟩; have N := za M; have K3 := km K2 l B; have O := bm z l B; cases O.out.box.q; have R := O.out.fr.lt
 obtain ⟨f,_,_,_,_⟩ := r.out.kept N.out.gb; have C := ze f; clear M B; go_wp2_with fail
 go_end0
 refine ⟨rfl,?_,K3.out⟩; have U := N.out
 try simp only [List.append_assoc] at U ⊢
 exact U
theorem aI (w0 : World) (wb : Nat) (w : World) (S : List UInt8) (L : Nat) (p : Int) (u : T) (sv : Value) (h : Wr w0 wb w S L) (ha : AT w0 (T.mk 12 [] 0 p [u]).subs sv) (hu : TN u) (hlen : S.length + ([80,79,73,78,84,69,82,32,84,79,32] ++ zB u).length <= 1000000000) :
  Calls Tryz.prog 43 #[ptr wb,yl (.mk 12 [] 0 p [u]) sv] w (WP w0 wb w S L ([80,79,73,78,84,69,82,32,84,79,32] ++ zB u)) := by
 have f := za h; have H := h.lt; obtain ⟨g,o,c,I,R,rfl,U,V,v,j,J,x⟩ := ha.one rfl
 obtain rfl : u = I := by simpa [T.subs] using v
 have y := za j; have K := za x; obtain ⟨l,_,_,_,_⟩ := j.kept h.gb; have M := ze l; clear h ha v J x j
 change Calls Tryz.prog 43 #[ptr wb,.agg #[.int .i64 12,.string ⟨List.toArray []⟩,.int .i64 0,.int .i64 p,.slice (some ⟨g,o,none⟩) 1 c]] w _
 simp only [la,lc,ln] at hlen
 go_enter Tryz.func43,Tryz.ntmps43
 go_wp2_with fail; go_at_call 40; refine (ye w0 wb _ _ L [80,79,73,78,84,69,82,32,84,79,32] _ _ (by simp) (f.out.grown gan) (by first | omega | (simp only [List.length_cons,List.length_nil]; omega))).mono ?_; rintro e X ⟨rfl,z,m⟩; have i := za z; have N := za ((WK.grown f.out gan).trans m); have n := za ((FB.newX f.out 12 [] 0 p [u] (.slice (some ⟨g,o,none⟩) 1 c) 28 grn).step ((WK.grown (f.out.grown gan) grn).trans m)); cases n.out.box.q; have A := n.out.fr.lt
 obtain ⟨b,_,_,_,_⟩ := y.out.kept i.out.gb; have r := ze b; clear z m; go_wp2_with fail; go_at_call 90; refine (xI w0 wb _ _ L u _ (i.out.grown grn) K.out hu (by first | omega | (simp only [la,lc,ln]; omega))).mono ?_; rintro e Y ⟨rfl,B,s⟩; have C := za B; have O := km N i s; have D := bm n i s; cases D.out.box.q; have E := D.out.fr.lt
 obtain ⟨d,_,_,_,_⟩ := y.out.kept C.out.gb; have t := ze d; clear B s; go_wp2_with fail
 go_end0
 refine ⟨rfl,?_,O.out⟩; have F := C.out
 try simp only [List.append_assoc] at F ⊢
 exact F
def yj (us : List T) : List UInt8 := zZ (fun x => zG x ++ [59,32]) us
theorem dW {us : List T} {i : Nat} {u : T} (h : us[i]? = some u) : yj (us.take (i + 1)) = yj (us.take i) ++ (zG u ++ [59,32]) := by
 unfold yj
 rw [List.take_add_one,h,xu]
 simp [zZ]
theorem pT (us : List T) (i : Nat) : (yj (us.take i)).length <= (yj us).length := by
 have h : yj (us.take i ++ us.drop i) = yj (us.take i) ++ yj (us.drop i) := xu _ _ _; rw [List.take_append_drop] at h; rw [h,List.length_append]
 omega
theorem dv (k most : Int) (w0 : World) (wb : Nat) (w : World) (S : List UInt8) (L : Nat) (t : T) (sv : Value) (h : Wr w0 wb w S L) (ha : AT w0 t.subs sv) (ht : Well (.declared k most .typeName) t) (hlen : S.length + (zG t).length <= 1000000000) :
  Calls Tryz.prog 44 #[ptr wb,yl t sv] w (WP w0 wb w S L (zG t)) := by
 obtain ⟨x,m,p,u,rfl,-,-,-,b⟩ := kK ht
 exact zdy w0 wb w S L k x m p u sv h ha (fY b) hlen
theorem aZ (w0 : World) (wb : Nat) (w : World) (S : List UInt8) (L : Nat) (t : T) (sv : Value) (h : Wr w0 wb w S L) (ha : AT w0 t.subs sv) (ht : Well (.declared 8 1 .typeName) t) (hlen : S.length + (yf t).length <= 1000000000) :
  Calls Tryz.prog 94 #[ptr wb,yl t sv] w (WP w0 wb w S L (yf t)) := by
 obtain ⟨x,m,p,u,rfl,-,-,-,d⟩ := kK ht
 by_cases b : m = 1
 ·subst b
  exact ab w0 wb w S L 8 x p u sv h ha (fY d) hlen
 ·have e : yf (.mk 8 x m p [u]) = x ++ ([58,32] ++ zB u) := by simp [yf,T.num,T.name,yo,T.subs,b]
  rw [e] at hlen ⊢
  exact az w0 wb w S L 8 x m p u sv h ha (fY d) b hlen
theorem zb3 (w0 : World) (wb : Nat) (w : World) (S : List UInt8) (L : Nat) (p : Int) (u : T) (us : List T) (sv : Value) (h : Wr w0 wb w S L) (ha : AT w0 (T.mk 10 [] 0 p (u :: us)).subs sv) (hk : u.kind = 0) (hs : ∀ v ∈ us,Well (.declared 11 1 .typeName) v) (hlen : S.length + ([82,69,67,79,82,68,32] ++ ((yj us ++ [69,78,68]))).length <= 1000000000) :
  Calls Tryz.prog 93 #[ptr wb,yl (.mk 10 [] 0 p (u :: us)) sv] w (WP w0 wb w S L ([82,69,67,79,82,68,32] ++ ((yj us ++ [69,78,68])))) := by
 have d := za h; have a2 := h.lt; have HS := za hs; obtain ⟨g,o,c,_,rfl,_,_,n5,fu,au,ar⟩ := AT.cons ha; obtain ⟨_,_,rfl,_,_⟩ := au.form; have NU := za n5; have AU := za au; obtain ⟨a0,_,_,_,_⟩ := n5.kept h.gb; have a3 := ze a0; have AR := za ar; clear h ha hs fu au n5 ar
 change Calls Tryz.prog 93 #[ptr wb,.agg #[.int .i64 10,.string ⟨List.toArray []⟩,.int .i64 0,.int .i64 p,.slice (some ⟨g,o,none⟩) (us.length + 1) c]] w _
 simp only [la,lc,ln] at hlen
 have a4 : (u.kind != 0) = false := by rw [hk]; rfl
 have HK := za hk; clear hk
 rcases Nat.lt_or_ge 1 c with a1 | a1
 ·skip
  have B := za AR.out
  go_enter Tryz.func93,Tryz.ntmps93
  go_wp2_with fail; go_at_call 40; refine (ye w0 wb _ _ L [82,69,67,79,82,68,32] _ _ (by simp) (d.out.grown gan) (by first | omega | (simp only [List.length_cons,List.length_nil]; omega))).mono ?_; rintro e w1 ⟨rfl,C,n⟩; have D := za C; have f := za ((WK.grown d.out gan).trans n); have E := za ((FB.newX d.out 10 [] 0 p (u :: us) (.slice (some ⟨g,o,none⟩) (us.length + 1) c) 28 grn).step ((WK.grown (d.out.grown gan) grn).trans n)); obtain ⟨F,H,I,J,K⟩ := E.out.box.p; have M := E.out.fr.lt
  obtain ⟨b,r,s,t,x⟩ := NU.out.kept D.out.gb; have y := ze b; clear C n
  have N : Hid (Wr w0 wb w1 (S ++ ([82,69,67,79,82,68,32])) L) := by
   show Wr _ _ _ _ _
   have O := D.out
   try simp only [List.append_assoc] at O ⊢
   exact O
  go_wp2_with fail
  go_loopw [30] (fun iv wr => ∃ i : Nat,i <= us.length /\ iv = .int .i64 ↑i /\ Hid (Wr w0 wb wr (S ++ (([82,69,67,79,82,68,32]) ++ yj (List.take i us))) L) /\ Hid (WK wb w wr)) (fun iv _ => us.length - (intOf iv).toNat)
  case atStart => exact ⟨0,Nat.zero_le _,rfl,by show Wr _ _ _ _ _; simpa [yj,zZ] using N.out.grown gan,f.out.trans (WK.grown N.out gan)⟩
  case round =>
   obtain ⟨i,hi,rfl,A,f⟩ := hrel
   by_cases z : i < us.length
   ·obtain ⟨v,Z⟩ : ∃ v,us[i]? = some v := ⟨_,List.getElem?_eq_getElem z⟩
    obtain ⟨_,_,sv,e1,m5,fv,av⟩ := B.out.node i v Z; cases e1; obtain ⟨_,_,rfl,_,_⟩ := av.form; obtain ⟨_,_,_,_,_⟩ := m5.kept A.out.gb; have HT := za (dW Z); have AV := za av; have R := HS.out v (List.mem_of_getElem? Z); have HV := za R; have U := pT us (i + 1); rw [HT.out] at U; simp only [la,lc,ln] at U; clear Z fv av m5 R; go_wp2_with fail; go_at_call 44; refine (dv 11 1 w0 wb _ _ L v _ (A.out.grown gan) AV.out HV.out (by first | omega | (simp only [la,lc,ln]; omega))).mono ?_; rintro e x2 ⟨rfl,j2,k2⟩; have j := za j2; have K2 := za (f.out.trans ((WK.grown A.out gan).trans k2)); clear j2 k2; go_wp2_with fail; go_at_call 40; refine (ye w0 wb _ _ L [59,32] _ _ (by simp) (j.out.grown grn) (by first | omega | (simp only [la,lc,ln]; omega))).mono ?_; rintro e V ⟨rfl,l,m⟩
    have X : Hid (Wr w0 wb V (S ++ (([82,69,67,79,82,68,32]) ++ yj (us.take (i + 1)))) L) := by show Wr _ _ _ _ _; rw [HT.out]; simpa only [List.append_assoc] using l
    have Y := za (K2.out.trans ((WK.grown j.out grn).trans m)); clear l m; go_wp2_with fail
    exact ⟨⟨i + 1,by omega,by go_num,X,Y⟩,by simp [intOf]; omega⟩
   ·have j : Hid (Wr w0 wb wr (S ++ (([82,69,67,79,82,68,32]) ++ yj us)) L) := by
     have := A.out; rw [List.take_of_length_le (by omega)] at this
     exact this
    go_wp2_with fail; go_at_call 40; refine (ye w0 wb _ _ L [69,78,68] _ _ (by simp) (j.out.grown grn) (by first | omega | (simp only [la,lc,ln]; omega))).mono ?_; rintro e V ⟨rfl,l,m⟩
    have X : Hid (Wr w0 wb V (S ++ ([82,69,67,79,82,68,32] ++ ((yj us ++ [69,78,68])))) L) := by show Wr _ _ _ _ _; simpa only [List.append_assoc] using l
    have Y := za (f.out.trans ((WK.grown j.out grn).trans m)); clear l m; go_wp2_with fail
    go_end0
    exact ⟨rfl,X.out,Y.out⟩
 ·obtain rfl : c = 1 := by omega
  obtain rfl : us = [] := List.eq_nil_of_length_eq_zero (by omega); have B : Hid (AT w0 [] (.slice (some ⟨g,o,none⟩) 0 0)) := AT.nil _ _ (Nat.zero_le _)
  go_enter Tryz.func93,Tryz.ntmps93
  go_wp2_with fail; go_at_call 40; refine (ye w0 wb _ _ L [82,69,67,79,82,68,32] _ _ (by simp) (d.out.grown gan) (by first | omega | (simp only [List.length_cons,List.length_nil]; omega))).mono ?_; rintro e w1 ⟨rfl,C,n⟩; have D := za C; have f := za ((WK.grown d.out gan).trans n); have E := za ((FB.newX d.out 10 [] 0 p (u :: []) (.slice (some ⟨g,o,none⟩) 1 1) 28 grn).step ((WK.grown (d.out.grown gan) grn).trans n)); obtain ⟨F,H,I,J,K⟩ := E.out.box.p; have M := E.out.fr.lt
  obtain ⟨b,r,s,t,x⟩ := NU.out.kept D.out.gb; have y := ze b; clear C n
  have N : Hid (Wr w0 wb w1 (S ++ ([82,69,67,79,82,68,32])) L) := by
   show Wr _ _ _ _ _
   have O := D.out
   try simp only [List.append_assoc] at O ⊢
   exact O
  go_wp2_with fail
  go_loopw [30] (fun iv wr => ∃ i : Nat,i <= ([] : List T).length /\ iv = .int .i64 ↑i /\ Hid (Wr w0 wb wr (S ++ (([82,69,67,79,82,68,32]) ++ yj (List.take i []))) L) /\ Hid (WK wb w wr)) (fun iv _ => ([] : List T).length - (intOf iv).toNat)
  case atStart => exact ⟨0,Nat.zero_le _,rfl,by show Wr _ _ _ _ _; simpa [yj,zZ] using N.out.grown gan,f.out.trans (WK.grown N.out gan)⟩
  case round =>
   obtain ⟨i,hi,rfl,A,f⟩ := hrel
   by_cases z : i < ([] : List T).length
   ·exact absurd z (by simp)
   ·have j : Hid (Wr w0 wb wr (S ++ (([82,69,67,79,82,68,32]) ++ yj ([] : List T))) L) := by
     have := A.out; rw [List.take_of_length_le (by omega)] at this
     exact this
    go_wp2_with fail; go_at_call 40; refine (ye w0 wb _ _ L [69,78,68] _ _ (by simp) (j.out.grown grn) (by first | omega | (simp only [la,lc,ln]; omega))).mono ?_; rintro e V ⟨rfl,l,m⟩
    have X : Hid (Wr w0 wb V (S ++ ([82,69,67,79,82,68,32] ++ ((yj ([] : List T) ++ [69,78,68])))) L) := by show Wr _ _ _ _ _; simpa only [List.append_assoc] using l
    have Y := za (f.out.trans ((WK.grown j.out grn).trans m)); clear l m; go_wp2_with fail
    go_end0
    exact ⟨rfl,X.out,Y.out⟩
theorem zbf (w0 : World) (wb : Nat) (w : World) (S : List UInt8) (L : Nat) (p : Int) (u : T) (us : List T) (sv : Value) (h : Wr w0 wb w S L) (ha : AT w0 (T.mk 10 [] 0 p (u :: us)).subs sv) (hk : u.kind = 13) (hu : TN u) (hs : ∀ v ∈ us,Well (.declared 11 1 .typeName) v) (hlen : S.length + ([82,69,67,79,82,68,32] ++ ([40] ++ (zB u ++ ([41,32] ++ (yj us ++ [69,78,68]))))).length <= 1000000000) :
  Calls Tryz.prog 93 #[ptr wb,yl (.mk 10 [] 0 p (u :: us)) sv] w (WP w0 wb w S L ([82,69,67,79,82,68,32] ++ ([40] ++ (zB u ++ ([41,32] ++ (yj us ++ [69,78,68])))))) := by
 have z := za h; have f5 := h.lt; have HS := za hs; obtain ⟨g,o,c,_,rfl,_,_,n5,fu,au,ar⟩ := AT.cons ha; obtain ⟨ua,uc,rfl,_,_⟩ := au.form; have A := za n5; have AU := za au; obtain ⟨d8,_,_,_,_⟩ := n5.kept h.gb; have f6 := ze d8; have AR := za ar; clear h ha hs fu au n5 ar
 change Calls Tryz.prog 93 #[ptr wb,.agg #[.int .i64 10,.string ⟨List.toArray []⟩,.int .i64 0,.int .i64 p,.slice (some ⟨g,o,none⟩) (us.length + 1) c]] w _
 simp only [la,lc,ln] at hlen
 have f7 : (u.kind != 0) = true := by rw [hk]; rfl
 have HK := za hk; clear hk
 rcases Nat.lt_or_ge 1 c with d9 | d9
 ·skip
  have b1 := za AR.out
  go_enter Tryz.func93,Tryz.ntmps93
  go_wp2_with fail; go_at_call 40; refine (ye w0 wb _ _ L [82,69,67,79,82,68,32] _ _ (by simp) (z.out.grown gan) (by first | omega | (simp only [List.length_cons,List.length_nil]; omega))).mono ?_; rintro e w1 ⟨rfl,j1,E⟩; have n := za j1; have B := za ((WK.grown z.out gan).trans E); have F := za ((FB.newX z.out 10 [] 0 p (u :: us) (.slice (some ⟨g,o,none⟩) (us.length + 1) c) 28 grn).step ((WK.grown (z.out.grown gan) grn).trans E)); obtain ⟨b2,b3,b4,b5,b6⟩ := F.out.box.p; have b7 := F.out.fr.lt
  obtain ⟨d,H,I,J,K⟩ := A.out.kept n.out.gb; have M := ze d; clear j1 E; have s := FB.new n.out u (.slice ua u.subs.length uc) 28 grn; have N := za s; clear s; go_wp2_with fail; go_at_call 40; refine (ye w0 wb _ _ L [40] _ _ (by simp) (n.out.grown gan) (by first | omega | (simp only [la,lc,ln]; omega))).mono ?_; rintro e w2 ⟨rfl,C,r⟩; have t := za C; have K2 := za (B.out.trans ((WK.grown n.out gan).trans r)); have O := za (F.out.step ((WK.grown n.out gan).trans r)); obtain ⟨b8,b9,c0,c1,c2⟩ := O.out.box.p; have c3 := O.out.fr.lt
  obtain ⟨f,R,U,V,X⟩ := A.out.kept t.out.gb; have Y := ze f; have Z := za (N.out.step ((WK.grown (n.out.grown gan) grn).trans r)); obtain ⟨f0,f1,f2,f3,f4⟩ := Z.out.box; clear C r; go_wp2_with fail; go_at_call 90; refine (xI w0 wb _ _ L u _ (t.out.grown grn) AU.out hu (by first | omega | (simp only [la,lc,ln]; omega))).mono ?_; rintro e w3 ⟨rfl,m,b⟩; have x := za m; have y := km K2 t b; have B3 := bm O t b; obtain ⟨c4,c5,c6,c7,c8⟩ := B3.out.box.p; have c9 := B3.out.fr.lt
  obtain ⟨j,a0,a1,a2,a3⟩ := A.out.kept x.out.gb; have a4 := ze j; clear m b; go_wp2_with fail; go_at_call 40; refine (ye w0 wb _ _ L [41,32] _ _ (by simp) (x.out.grown grn) (by first | omega | (simp only [la,lc,ln]; omega))).mono ?_; rintro e w4 ⟨rfl,j4,k4⟩; have W4 := za j4; have K4 := km y x k4; have B4 := bm B3 x k4; obtain ⟨d0,d1,d2,d3,d4⟩ := B4.out.box.p; have d5 := B4.out.fr.lt
  obtain ⟨l,a5,a6,a7,a8⟩ := A.out.kept W4.out.gb; have a9 := ze l; clear j4 k4
  have JJ : Hid (Wr w0 wb w4 (S ++ ([82,69,67,79,82,68,32] ++ ([40] ++ (zB u ++ [41,32])))) L) := by
   show Wr _ _ _ _ _
   have J9 := W4.out
   try simp only [List.append_assoc] at J9 ⊢
   exact J9
  go_wp2_with fail
  go_loopw [30] (fun iv wr => ∃ i : Nat,i <= us.length /\ iv = .int .i64 ↑i /\ Hid (Wr w0 wb wr (S ++ (([82,69,67,79,82,68,32] ++ ([40] ++ (zB u ++ [41,32]))) ++ yj (List.take i us))) L) /\ Hid (WK wb w wr)) (fun iv _ => us.length - (intOf iv).toNat)
  case atStart => exact ⟨0,Nat.zero_le _,rfl,by show Wr _ _ _ _ _; simpa [yj,zZ] using JJ.out.grown grn,K4.out.trans (WK.grown JJ.out grn)⟩
  case round =>
   obtain ⟨i,hi,rfl,J1,B⟩ := hrel
   by_cases b0 : i < us.length
   ·obtain ⟨v,hv⟩ : ∃ v,us[i]? = some v := ⟨_,List.getElem?_eq_getElem b0⟩
    obtain ⟨_,_,sv,e1,m5,fv,av⟩ := b1.out.node i v hv; cases e1; obtain ⟨_,_,rfl,_,_⟩ := av.form; obtain ⟨_,_,_,_,_⟩ := m5.kept J1.out.gb; have HT := za (dW hv); have AV := za av; have d6 := HS.out v (List.mem_of_getElem? hv); have HV := za d6; have d7 := pT us (i + 1); rw [HT.out] at d7; simp only [la,lc,ln] at d7; clear hv fv av m5 d6; go_wp2_with fail; go_at_call 44; refine (dv 11 1 w0 wb _ _ L v _ (J1.out.grown gan) AV.out HV.out (by first | omega | (simp only [la,lc,ln]; omega))).mono ?_; rintro e x2 ⟨rfl,C,r⟩; have D := za C; have K2 := za (B.out.trans ((WK.grown J1.out gan).trans r)); clear C r; go_wp2_with fail; go_at_call 40; refine (ye w0 wb _ _ L [59,32] _ _ (by simp) (D.out.grown grn) (by first | omega | (simp only [la,lc,ln]; omega))).mono ?_; rintro e x3 ⟨rfl,m,b⟩
    have J3 : Hid (Wr w0 wb x3 (S ++ (([82,69,67,79,82,68,32] ++ ([40] ++ (zB u ++ [41,32]))) ++ yj (us.take (i + 1)))) L) := by show Wr _ _ _ _ _; rw [HT.out]; simpa only [List.append_assoc] using m
    have y := za (K2.out.trans ((WK.grown D.out grn).trans b)); clear m b; go_wp2_with fail
    exact ⟨⟨i + 1,by omega,by go_num,J3,y⟩,by simp [intOf]; omega⟩
   ·have D : Hid (Wr w0 wb wr (S ++ (([82,69,67,79,82,68,32] ++ ([40] ++ (zB u ++ [41,32]))) ++ yj us)) L) := by
     have := J1.out; rw [List.take_of_length_le (by omega)] at this
     exact this
    go_wp2_with fail; go_at_call 40; refine (ye w0 wb _ _ L [69,78,68] _ _ (by simp) (D.out.grown grn) (by first | omega | (simp only [la,lc,ln]; omega))).mono ?_; rintro e x3 ⟨rfl,m,b⟩
    have J3 : Hid (Wr w0 wb x3 (S ++ ([82,69,67,79,82,68,32] ++ ([40] ++ (zB u ++ ([41,32] ++ (yj us ++ [69,78,68])))))) L) := by show Wr _ _ _ _ _; simpa only [List.append_assoc] using m
    have y := za (B.out.trans ((WK.grown D.out grn).trans b)); clear m b; go_wp2_with fail
    go_end0
    exact ⟨rfl,J3.out,y.out⟩
 ·obtain rfl : c = 1 := by omega
  obtain rfl : us = [] := List.eq_nil_of_length_eq_zero (by omega); have b1 : Hid (AT w0 [] (.slice (some ⟨g,o,none⟩) 0 0)) := AT.nil _ _ (Nat.zero_le _)
  go_enter Tryz.func93,Tryz.ntmps93
  go_wp2_with fail; go_at_call 40; refine (ye w0 wb _ _ L [82,69,67,79,82,68,32] _ _ (by simp) (z.out.grown gan) (by first | omega | (simp only [List.length_cons,List.length_nil]; omega))).mono ?_; rintro e w1 ⟨rfl,j1,E⟩; have n := za j1; have B := za ((WK.grown z.out gan).trans E); have F := za ((FB.newX z.out 10 [] 0 p (u :: []) (.slice (some ⟨g,o,none⟩) 1 1) 28 grn).step ((WK.grown (z.out.grown gan) grn).trans E)); obtain ⟨b2,b3,b4,b5,b6⟩ := F.out.box.p; have b7 := F.out.fr.lt
  obtain ⟨d,H,I,J,K⟩ := A.out.kept n.out.gb; have M := ze d; clear j1 E; have s := FB.new n.out u (.slice ua u.subs.length uc) 28 grn; have N := za s; clear s; go_wp2_with fail; go_at_call 40; refine (ye w0 wb _ _ L [40] _ _ (by simp) (n.out.grown gan) (by first | omega | (simp only [la,lc,ln]; omega))).mono ?_; rintro e w2 ⟨rfl,C,r⟩; have t := za C; have K2 := za (B.out.trans ((WK.grown n.out gan).trans r)); have O := za (F.out.step ((WK.grown n.out gan).trans r)); obtain ⟨b8,b9,c0,c1,c2⟩ := O.out.box.p; have c3 := O.out.fr.lt
  obtain ⟨f,R,U,V,X⟩ := A.out.kept t.out.gb; have Y := ze f; have Z := za (N.out.step ((WK.grown (n.out.grown gan) grn).trans r)); obtain ⟨f0,f1,f2,f3,f4⟩ := Z.out.box; clear C r; go_wp2_with fail; go_at_call 90; refine (xI w0 wb _ _ L u _ (t.out.grown grn) AU.out hu (by first | omega | (simp only [la,lc,ln]; omega))).mono ?_; rintro e w3 ⟨rfl,m,b⟩; have x := za m; have y := km K2 t b; have B3 := bm O t b; obtain ⟨c4,c5,c6,c7,c8⟩ := B3.out.box.p; have c9 := B3.out.fr.lt
  obtain ⟨j,a0,a1,a2,a3⟩ := A.out.kept x.out.gb; have a4 := ze j; clear m b; go_wp2_with fail; go_at_call 40; refine (ye w0 wb _ _ L [41,32] _ _ (by simp) (x.out.grown grn) (by first | omega | (simp only [la,lc,ln]; omega))).mono ?_; rintro e w4 ⟨rfl,j4,k4⟩; have W4 := za j4; have K4 := km y x k4; have B4 := bm B3 x k4; obtain ⟨d0,d1,d2,d3,d4⟩ := B4.out.box.p; have d5 := B4.out.fr.lt
  obtain ⟨l,a5,a6,a7,a8⟩ := A.out.kept W4.out.gb; have a9 := ze l; clear j4 k4
  have JJ : Hid (Wr w0 wb w4 (S ++ ([82,69,67,79,82,68,32] ++ ([40] ++ (zB u ++ [41,32])))) L) := by
   show Wr _ _ _ _ _
   have J9 := W4.out
   try simp only [List.append_assoc] at J9 ⊢
   exact J9
  go_wp2_with fail
  go_loopw [30] (fun iv wr => ∃ i : Nat,i <= ([] : List T).length /\ iv = .int .i64 ↑i /\ Hid (Wr w0 wb wr (S ++ (([82,69,67,79,82,68,32] ++ ([40] ++ (zB u ++ [41,32]))) ++ yj (List.take i []))) L) /\ Hid (WK wb w wr)) (fun iv _ => ([] : List T).length - (intOf iv).toNat)
  case atStart => exact ⟨0,Nat.zero_le _,rfl,by show Wr _ _ _ _ _; simpa [yj,zZ] using JJ.out.grown grn,K4.out.trans (WK.grown JJ.out grn)⟩
  case round =>
   obtain ⟨i,hi,rfl,J1,B⟩ := hrel
   by_cases b0 : i < ([] : List T).length
   ·exact absurd b0 (by simp)
   ·have D : Hid (Wr w0 wb wr (S ++ (([82,69,67,79,82,68,32] ++ ([40] ++ (zB u ++ [41,32]))) ++ yj ([] : List T))) L) := by
     have := J1.out; rw [List.take_of_length_le (by omega)] at this
     exact this
    go_wp2_with fail; go_at_call 40; refine (ye w0 wb _ _ L [69,78,68] _ _ (by simp) (D.out.grown grn) (by first | omega | (simp only [la,lc,ln]; omega))).mono ?_; rintro e x3 ⟨rfl,m,b⟩
    have J3 : Hid (Wr w0 wb x3 (S ++ ([82,69,67,79,82,68,32] ++ ([40] ++ (zB u ++ ([41,32] ++ (yj ([] : List T) ++ [69,78,68])))))) L) := by show Wr _ _ _ _ _; simpa only [List.append_assoc] using m
    have y := za (B.out.trans ((WK.grown D.out grn).trans b)); clear m b; go_wp2_with fail
    go_end0
    exact ⟨rfl,J3.out,y.out⟩
theorem ci (w0 : World) (wb : Nat) (w : World) (S : List UInt8) (L : Nat) (p : Int) (u : T) (us : List T) (sv : Value) (h : Wr w0 wb w S L) (ha : AT w0 (T.mk 10 [] 0 p (u :: us)).subs sv) (hu : (∃ q,u = .mk 0 [] 0 q []) \/ (u.kind = 13 /\ TN u)) (hs : ∀ v ∈ us,Well (.declared 11 1 .typeName) v) (hlen : S.length + ([82,69,67,79,82,68,32] ++ ((if u.kind = 0 then [] else 40 :: (zB u ++ [41,32])) ++ (yj us ++ [69,78,68]))).length <= 1000000000) :
  Calls Tryz.prog 93 #[ptr wb,yl (.mk 10 [] 0 p (u :: us)) sv] w (WP w0 wb w S L ([82,69,67,79,82,68,32] ++ ((if u.kind = 0 then [] else 40 :: (zB u ++ [41,32])) ++ (yj us ++ [69,78,68])))) := by
 rcases hu with ⟨q,rfl⟩ | ⟨b,hu⟩
 ·rw [if_pos (show (T.mk 0 [] 0 q []).kind = 0 from rfl)] at hlen ⊢
  exact zb3 w0 wb w S L p _ us sv h ha rfl hs hlen
 ·rw [if_neg (show ¬ u.kind = 0 by rw [b]; decide)] at hlen ⊢
  have := zbf w0 wb w S L p u us sv h ha b hu hs (by simpa using hlen)
  simpa using this
theorem zaw (w0 : World) (wb : Nat) (w : World) (S : List UInt8) (L : Nat) (p : Int) (u : T) (us : List T) (sv : Value) (h : Wr w0 wb w S L) (ha : AT w0 (T.mk 10 [] 0 p (u :: us)).subs sv) (hu : (∃ q,u = .mk 0 [] 0 q []) \/ (u.kind = 13 /\ TN u)) (hs : ∀ v ∈ us,Well (.declared 11 1 .typeName) v) (hlen : S.length + ([82,69,67,79,82,68,32] ++ ((if u.kind = 0 then [] else 40 :: (zB u ++ [41,32])) ++ (yj us ++ [69,78,68]))).length <= 1000000000) :
  Calls Tryz.prog 43 #[ptr wb,yl (.mk 10 [] 0 p (u :: us)) sv] w (WP w0 wb w S L ([82,69,67,79,82,68,32] ++ ((if u.kind = 0 then [] else 40 :: (zB u ++ [41,32])) ++ (yj us ++ [69,78,68])))) := by
 have b := za h; have o := za ha; have r := za hs; have s := za hu; have d := za hlen; obtain ⟨a,n,c,rfl,_,_,f⟩ := ha.any
 change us.length + 1 = n at f
 subst f; clear h ha hs hu hlen
 change Calls Tryz.prog 43 #[ptr wb,.agg #[.int .i64 10,.string ⟨List.toArray []⟩,.int .i64 0,.int .i64 p,.slice a (us.length + 1) c]] w _
 generalize g : ([82,69,67,79,82,68,32] ++ ((if u.kind = 0 then [] else 40 :: (zB u ++ [41,32])) ++ (yj us ++ [69,78,68]))) = X at d ⊢
 go_enter Tryz.func43,Tryz.ntmps43
 go_wp2_with fail; go_at_call 93; refine (ci w0 wb _ _ L p u us _ (b.out.grown gan) o.out s.out r.out (by rw [g]; exact d.out)).mono ?_; rintro e x ⟨rfl,i,j⟩; have l := za i; have t := za ((WK.grown b.out gan).trans j); clear i j; rw [g] at l; go_wp2_with fail
 go_end0
 refine ⟨rfl,?_,t.out⟩; have m := l.out
 try simp only [List.append_assoc,List.nil_append,List.append_nil] at m ⊢
 exact m
theorem tU (w0 : World) (wb : Nat) (w : World) (S : List UInt8) (L : Nat) (t : T) (sv : Value) (h : Wr w0 wb w S L) (ha : AT w0 t.subs sv) (ht : TY t) (hp : PT w0) (hlen : S.length + (xN t).length <= 1000000000) :
  Calls Tryz.prog 43 #[ptr wb,yl t sv] w (WP w0 wb w S L (xN t)) := by
 cases ht with
 | array m p u h0 h1 hu => exact zel w0 wb w S L m p u sv h ha hu h0 h1 hp hlen
 | pointer p u hu => exact aI w0 wb w S L p u sv h ha hu hlen
 | record p u us hu hs => exact zaw w0 wb w S L p u us sv h ha hu hs hlen
theorem oB (w0 : World) (wb : Nat) (w : World) (S : List UInt8) (L : Nat) (t : T) (sv : Value) (b1 : Nat) (h : Wr w0 wb w S L) (ha : AT w0 t.subs sv) (d1 : w.cell? ⟨b1,0,none⟩ = some (ptr wb)) (hlen : S.length + t.name.length <= 1000000000) :
  Calls Tryz.prog 84 #[yl t sv,ptr b1] w (WP w0 wb w S L t.name) := by
 obtain ⟨i,j,rfl,_,_⟩ := ha.form; have b := za h; have n := ze d1; obtain ⟨o,x,m,p,l⟩ := t
 change S.length + x.length <= 1000000000 at hlen
 clear h ha
 change Calls Tryz.prog 84 #[.agg #[.int .i64 o,.string ⟨x.toArray⟩,.int .i64 m,.int .i64 p,.slice i l.length j],ptr b1] w _
 go_enter Tryz.func84,Tryz.ntmps84
 go_wp2_with fail; go_at_call 40; refine (ye w0 wb _ _ L x _ _ (by simp) (b.out.grown gan) (by first | omega | (simp only [la,lc,ln,zo]; omega))).mono ?_; rintro e u ⟨rfl,d,f⟩; have r := za d; have s := za ((WK.grown b.out gan).trans f); clear d f; go_wp2_with fail
 go_end0
 refine ⟨rfl,?_,s.out⟩; have g := r.out
 try simp only [List.append_assoc,List.nil_append,List.append_nil] at g ⊢
 exact g
theorem iL : EN 84 := enters_of Tryz.func84 (by kernel_rfl) rfl
theorem lF (w0 : World) (wb : Nat) (w : World) (S : List UInt8) (L : Nat) (ts : List T) (sl : Value) (h : Wr w0 wb w S L) (ha : AT w0 ts sl) (hlen : S.length + (xm ts).length <= 1000000000) :
  Calls Tryz.prog 36 #[ptr wb,sl] w (WP w0 wb w S L (xm ts)) := by
 have E := za ha; have i := za h; have F := h.lt; obtain ⟨_,_,rfl,_,l⟩ := ha.form
 unfold maxLen at l
 by_cases r : ts.length = 0
 ·obtain rfl : ts = [] := List.eq_nil_of_length_eq_zero r
  have m : Hid (xm [] = []) := rfl
  clear h ha
  go_enter Tryz.func36,Tryz.ntmps36
  go_wp2_with fail
  go_end0
  exact ⟨rfl,by rw [m.out,List.append_nil]; exact i.out.grown gan,WK.grown i.out gan⟩
 ·have m : Hid (xm ts = [73,77,80,79,82,84,32] ++ (zM [44,32] (ts.map T.name) ++ [59,10])) := by
   show _ = _
   unfold xm
   rw [if_neg (by simpa [List.isEmpty_iff] using fun e => r (by rw [e]; rfl))]
  rw [m.out] at hlen ⊢; simp only [la,lc,ln] at hlen
  have H : ((ts.length : Int) == 0) = false := by rw [beq_eq_false_iff_ne]; omega
  have s := za (Fr.new h (zf grn (.cells #[ptr wb] 58)) (Nat.le_refl _) (by simp)); have I := gC w (ptr wb) 58; clear h ha
  go_enter Tryz.func36,Tryz.ntmps36
  go_wp2_with fail; go_at_call 40; refine (ye w0 wb _ _ L [73,77,80,79,82,84,32] _ _ (by simp) (i.out.grown gan) (by first | omega | (simp only [List.length_cons,List.length_nil]; omega))).mono ?_; rintro e O ⟨rfl,u,n⟩; have j := za u; have J := za ((WK.grown i.out gan).trans n); have f := (WK.grown (i.out.grown gan) grn).trans n; have b := za (s.out.step f); have d := f.cell s.out I; have v := b.out.lt; clear f; clear u n; go_wp2_with fail; go_at_call 83; refine (je w0 wb _ _ L ts _ [44,32] 84 #[] #[ptr w.heap.size] T.name (j.out.grown grn) E.out (fun t sv x1 S1 _ hat hwr hwk hll => oB w0 wb x1 S1 L t sv w.heap.size hwr hat (hwk.cell (b.out.step (WK.grown j.out grn)) ((WK.grown j.out grn).cell b.out d)) hll) iL (by first | omega | (simp only [la,lc,ln]; omega))).mono ?_; rintro e R ⟨rfl,x,o⟩; have y := za x; have K := km J j o; have g := (WK.grown j.out grn).trans o; have z := g.cell b.out d; have A := (b.out.step g).lt; clear g; clear x o; go_wp2_with fail; go_at_call 40; refine (ye w0 wb _ _ L [59,10] _ _ (by simp) (y.out.grown grn) (by first | omega | (simp only [la,lc,ln]; omega))).mono ?_; rintro e U ⟨rfl,B,C⟩; have M := za B; have N := km K y C; clear B C; go_wp2_with fail
  go_end0
  refine ⟨rfl,?_,N.out⟩; have D := M.out
  try simp only [List.append_assoc] at D ⊢
  exact D
end Go.Proofs.YtfjgelmllcnokaaGreatDoor
