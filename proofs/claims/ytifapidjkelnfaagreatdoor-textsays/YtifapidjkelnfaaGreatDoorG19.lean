/- The program's writer: declared names,types. -/
import Derived.Test.YtifapidjkelnfaaGreatDoorG17
import Derived.Test.YtifapidjkelnfaaGreatDoorG02
import Derived.Test.YtifapidjkelnfaaGreatDoorG18
namespace Go.Proofs.YtifapidjkelnfaaGreatDoor
open Go.RowKit Go.Maps Go.WideMaps Go.WideElems
set_option maxHeartbeats 4000000
set_option maxRecDepth 1000000
def PT (w : World) : Prop := Lib.TabIs Tryz.prog w "internal/strconv.uint64pow10" .u64 Lib.pow10Tab
theorem cK : Tryz.prog.globalNamed "internal/strconv.uint64pow10" = some 4 := by kernel_rfl
theorem PT.kept {w w' : World} (h : PT w) (hg : w.grownBy w' none) : PT w' := by
 have b := Lib.TabIs.cell h cK 0 (by decide); have a : 4 < w.heap.size := World.block_lt_of_cell? w ⟨_,0,none⟩ b; have d : Below w.heap.size w w' := ⟨hg.os,hg.tape,hg.output,hg.size,fun i hi => hg.block i hi (by simp)⟩
 exact var?_below d cK a h
theorem cG (n : Nat) : Lib.decDigits n = kU n := by
 induction n using Nat.strongRecOn with
 | ind n ih =>
  by_cases h : n < 10
  ·rw [vN h,Lib.decDigits,dif_pos h]
  ·rw [jG h,Lib.decDigits,dif_neg h,ih (n / 10) (by omega)]
theorem fX (m : Int) (h0 : 0 <= m) (h1 : m <= 2147483647) (w : World) (hp : PT w) : Calls Tryz.prog 121 #[.int .i64 m] w (Sy w (.string ⟨(vC m).toArray⟩)) := by
 refine (Tryz.strconv_Itoa m (by omega) (by omega) w hp).mono ?_; rintro e d ⟨rfl,k,os,rfl⟩; obtain ⟨n,rfl⟩ := Int.eq_ofNat_of_zero_le h0; refine ⟨?_,?_⟩
 ·rw [dF n (by omega),Lib.itoa,if_neg (by omega),<- cG]
  rfl
 ·have a := yl (zj w none) k
  exact ⟨a.os,a.tape,a.output,by simp [Sort.grow],fun i hi hn => by
   have b := a.block i hi hn; rw [<- b]; simp only [Sort.grow]; have : i < (w.drewN k).heap.size := Nat.lt_of_lt_of_le hi a.size
   rw [Array.getElem?_append_left this]⟩
theorem mD (w0 : World) (wb : Nat) (w : World) (S : Bs) (L : Nat) (kd : Int) (x : Bs) (m : Int) (p : Int) (u : T) (sv : Value) (h : Wr w0 wb w S L) (ha : AT w0 (T.mk kd x m p [u]).subs sv) (hu : TN u) (hlen : S.length + (zv (.mk kd x m p [u]) ++ ([58,32] ++ zz u)).length <= 1000000000) :
  Calls Tryz.prog 86 #[ptr wb,zq (.mk kd x m p [u]) sv] w (WP w0 wb w S L (zv (.mk kd x m p [u]) ++ ([58,32] ++ zz u))) := by
 have f := zb h; have O := zb ha; have Q := h.lt; obtain ⟨g,o,c,R,su,rfl,hn,hc,C,k,U,D⟩ := ha.one rfl
 obtain rfl : u = R := by simpa [T.subs] using C
 have l := zb k; have V := zb D; obtain ⟨n,_,_,_,_⟩ := k.kept h.gb; have X := zc n; clear h ha C U D k
 change Calls Tryz.prog 86 #[ptr wb,.agg #[.int .i64 kd,.string ⟨List.toArray x⟩,.int .i64 m,.int .i64 p,.slice (some ⟨g,o,none⟩) 1 c]] w _
 simp only [la,lc,ln] at hlen
 go_enter Tryz.func86,Tryz.ntmps86
 go_wp2_with fail; go_at_call 81; refine (x7 w0 wb _ _ L kd x m p [u] _ (f.grown gan) O (by first | omega | (simp only [la,lc,ln,zr]; omega))).mono ?_; rintro e w1 ⟨rfl,E,r⟩; have i := zb E; have Y := (WK.grown f gan).trans r; have s := zb ((FB.newX f kd x m p [u] (.slice (some ⟨g,o,none⟩) 1 c) 24 grn).step ((WK.grown (f.grown gan) grn).trans r)); cases s.box.q; have F := s.fr.lt
 obtain ⟨a,_,_,_,_⟩ := l.kept i.gb; have t := zc a; clear E r; go_wp2_with fail; go_at_call 82; refine (zQ w0 wb _ _ L [58,32] _ _ (by simp) (i.grown grn)).mono ?_; rintro e w2 ⟨rfl,G,v⟩; have j := zb G; have Z := km Y i v; have y := bm s i v; cases y.box.q; have H := y.fr.lt
 obtain ⟨b,_,_,_,_⟩ := l.kept j.gb; have z := zc b; clear G v; go_wp2_with fail; go_at_call 124; refine (yI w0 wb _ _ L u _ (j.grown grn) V hu).mono ?_; rintro e w3 ⟨rfl,I,A⟩; have J := zb I; have K3 := km Z j A; have K := bm y j A; cases K.box.q; have M := K.fr.lt
 obtain ⟨d,_,_,_,_⟩ := l.kept J.gb; have B := zc d; clear I A; go_wp2_with fail
 go_end0
 refine ⟨rfl,?_,K3⟩; have N := id J
 try simp only [List.append_assoc] at N ⊢
 exact N
theorem og (w0 : World) (wb : Nat) (w : World) (S : Bs) (L : Nat) (kd : Int) (x : Bs) (p : Int) (u : T) (sv : Value) (h : Wr w0 wb w S L) (ha : AT w0 (T.mk kd x 1 p [u]).subs sv) (hu : TN u) (hlen : S.length + ([86,65,82,32] ++ (x ++ ([58,32] ++ zz u))).length <= 1000000000) :
  Calls Tryz.prog 128 #[ptr wb,zq (.mk kd x 1 p [u]) sv] w (WP w0 wb w S L ([86,65,82,32] ++ (x ++ ([58,32] ++ zz u)))) := by
 have f := zb h; have N := h.lt; obtain ⟨g,o,c,O,Z,rfl,hn,hc,B,k,Q,C⟩ := ha.one rfl
 obtain rfl : u = O := by simpa [T.subs] using B
 have l := zb k; have R := zb C; obtain ⟨m,_,_,_,_⟩ := k.kept h.gb; have U := zc m; clear h ha B Q C k
 change Calls Tryz.prog 128 #[ptr wb,.agg #[.int .i64 kd,.string ⟨List.toArray x⟩,.int .i64 1,.int .i64 p,.slice (some ⟨g,o,none⟩) 1 c]] w _
 simp only [la,lc,ln] at hlen
 go_enter Tryz.func128,Tryz.ntmps128
 go_wp2_with fail; go_at_call 82; refine (zQ w0 wb _ _ L [86,65,82,32] _ _ (by simp) (f.grown gan)).mono ?_; rintro e w1 ⟨rfl,D,n⟩; have i := zb D; have V := (WK.grown f gan).trans n; have r := zb ((FB.newX f kd x 1 p [u] (.slice (some ⟨g,o,none⟩) 1 c) 24 grn).step ((WK.grown (f.grown gan) grn).trans n)); cases r.box.q; have E := r.fr.lt
 obtain ⟨a,_,_,_,_⟩ := l.kept i.gb; have s := zc a; clear D n; go_wp2_with fail; go_at_call 82; refine (ko w0 wb _ _ L x [58,32] _ _ (by simp) (i.grown grn) (by first | omega | (simp only [la,lc,ln]; omega))).mono ?_; rintro e w2 ⟨rfl,F,t⟩; have j := zb F; have X := km V i t; have v := bm r i t; cases v.box.q; have G := v.fr.lt
 obtain ⟨b,_,_,_,_⟩ := l.kept j.gb; have y := zc b; clear F t; go_wp2_with fail; go_at_call 124; refine (yI w0 wb _ _ L u _ (j.grown grn) R hu).mono ?_; rintro e w3 ⟨rfl,H,z⟩; have I := zb H; have Y := km X j z; have J := bm v j z; cases J.box.q; have K := J.fr.lt
 obtain ⟨d,_,_,_,_⟩ := l.kept I.gb; have A := zc d; clear H z; go_wp2_with fail
 go_end0
 refine ⟨rfl,?_,Y⟩; have M := id I
 try simp only [List.append_assoc] at M ⊢
 exact M
theorem po (w0 : World) (wb : Nat) (w : World) (S : Bs) (L : Nat) (kd : Int) (x : Bs) (m : Int) (p : Int) (u : T) (sv : Value) (h : Wr w0 wb w S L) (ha : AT w0 (T.mk kd x m p [u]).subs sv) (hu : TN u) (hm : ¬ m = 1) (hlen : S.length + ((x ++ ([58,32] ++ zz u))).length <= 1000000000) :
  Calls Tryz.prog 128 #[ptr wb,zq (.mk kd x m p [u]) sv] w (WP w0 wb w S L ((x ++ ([58,32] ++ zz u)))) := by
 have d := zb h; have G := h.lt; obtain ⟨g,o,c,H,O,rfl,Q,R,t,i,I,v⟩ := ha.one rfl
 obtain rfl : u = H := by simpa [T.subs] using t
 have y := zb i; have J := zb v; obtain ⟨j,_,_,_,_⟩ := i.kept h.gb; have K := zc j; clear h ha t I v i
 change Calls Tryz.prog 128 #[ptr wb,.agg #[.int .i64 kd,.string ⟨List.toArray x⟩,.int .i64 m,.int .i64 p,.slice (some ⟨g,o,none⟩) 1 c]] w _
 simp only [la,lc,ln] at hlen
 go_enter Tryz.func128,Tryz.ntmps128
 go_wp2_with fail; go_at_call 82; refine (ko w0 wb _ _ L x [58,32] _ _ (by simp) (d.grown gan) (by first | omega | (simp only [List.length_cons,List.length_nil]; omega))).mono ?_; rintro e U ⟨rfl,z,k⟩; have f := zb z; have M := (WK.grown d gan).trans k; have l := zb ((FB.newX d kd x m p [u] (.slice (some ⟨g,o,none⟩) 1 c) 24 grn).step ((WK.grown (d.grown gan) grn).trans k)); cases l.box.q; have A := l.fr.lt
 obtain ⟨a,_,_,_,_⟩ := y.kept f.gb; have n := zc a; clear z k; go_wp2_with fail; go_at_call 124; refine (yI w0 wb _ _ L u _ (f.grown grn) J hu).mono ?_; rintro e V ⟨rfl,B,r⟩; have C := zb B; have N := km M f r; have D := bm l f r; cases D.box.q; have E := D.fr.lt
 obtain ⟨b,_,_,_,_⟩ := y.kept C.gb; have s := zc b; clear B r; go_wp2_with fail
 go_end0
 refine ⟨rfl,?_,N⟩; have F := id C
 try simp only [List.append_assoc] at F ⊢
 exact F
theorem mL (w0 : World) (wb : Nat) (w : World) (S : Bs) (L : Nat) (m : Int) (p : Int) (u : T) (sv : Value) (h : Wr w0 wb w S L) (ha : AT w0 (T.mk 9 [] m p [u]).subs sv) (hu : TN u) (h0 : 0 <= m) (h1 : m <= 2147483647) (hp : PT w0) (hlen : S.length + ([65,82,82,65,89,32] ++ (vC m ++ ([32,79,70,32] ++ zz u))).length <= 1000000000) :
  Calls Tryz.prog 85 #[ptr wb,zq (.mk 9 [] m p [u]) sv] w (WP w0 wb w S L ([65,82,82,65,89,32] ++ (vC m ++ ([32,79,70,32] ++ zz u)))) := by
 have f := zb h; have O := h.lt; obtain ⟨g,o,c,Q,su,rfl,hn,hc,B,k,R,C⟩ := ha.one rfl
 obtain rfl : u = Q := by simpa [T.subs] using B
 have l := zb k; have U := zb C; obtain ⟨n,_,_,_,_⟩ := k.kept h.gb; have V := zc n; clear h ha B R C k
 change Calls Tryz.prog 85 #[ptr wb,.agg #[.int .i64 9,.string ⟨List.toArray []⟩,.int .i64 m,.int .i64 p,.slice (some ⟨g,o,none⟩) 1 c]] w _
 simp only [la,lc,ln] at hlen; have X := zb hp; clear hp
 go_enter Tryz.func85,Tryz.ntmps85
 go_wp2_with fail; go_at_call 121; refine (fX m h0 h1 _ (X.kept (f.grown gan).gb)).mono ?_; rintro e w1 ⟨rfl,r⟩; have D := f.grown (za gan r); have E := WK.grown f (za gan r); have i := zb D; have Y := zb E; have s := zb ((FB.newX f 9 [] m p [u] (.slice (some ⟨g,o,none⟩) 1 c) 24 grn).step (WK.grown (f.grown gan) (za grn r))); cases s.box.q; have F := s.fr.lt
 obtain ⟨a,_,_,_,_⟩ := l.kept i.gb; have t := zc a; clear D E; go_wp2_with fail; go_at_call 82; refine (fk w0 wb _ _ L [65,82,82,65,89,32] (vC m) [32,79,70,32] _ _ (by simp) (i.grown grn) (by first | omega | (simp only [List.length_cons,List.length_nil]; omega))).mono ?_; rintro e w2 ⟨rfl,G,v⟩; have j := zb G; have Z := km Y i v; have x := bm s i v; cases x.box.q; have H := x.fr.lt
 obtain ⟨b,_,_,_,_⟩ := l.kept j.gb; have y := zc b; clear G v; go_wp2_with fail; go_at_call 124; refine (yI w0 wb _ _ L u _ (j.grown grn) U hu).mono ?_; rintro e w3 ⟨rfl,I,z⟩; have J := zb I; have K3 := km Z j z; have K := bm x j z; cases K.box.q; have M := K.fr.lt
 obtain ⟨d,_,_,_,_⟩ := l.kept J.gb; have A := zc d; clear I z; go_wp2_with fail
 go_end0
 refine ⟨rfl,?_,K3⟩; have N := id J
 try simp only [List.append_assoc] at N ⊢
 exact N
theorem pz (w0 : World) (wb : Nat) (w : World) (S : Bs) (L : Nat) (p : Int) (u : T) (sv : Value) (h : Wr w0 wb w S L) (ha : AT w0 (T.mk 12 [] 0 p [u]).subs sv) (hu : TN u) (hlen : S.length + ([80,79,73,78,84,69,82,32,84,79,32] ++ zz u).length <= 1000000000) :
  Calls Tryz.prog 85 #[ptr wb,zq (.mk 12 [] 0 p [u]) sv] w (WP w0 wb w S L ([80,79,73,78,84,69,82,32,84,79,32] ++ zz u)) := by
 have d := zb h; have E := h.lt; obtain ⟨g,o,c,F,M,rfl,N,O,s,i,G,t⟩ := ha.one rfl
 obtain rfl : u = F := by simpa [T.subs] using s
 have v := zb i; have H := zb t; obtain ⟨j,_,_,_,_⟩ := i.kept h.gb; have I := zc j; clear h ha s G t i
 change Calls Tryz.prog 85 #[ptr wb,.agg #[.int .i64 12,.string ⟨List.toArray []⟩,.int .i64 0,.int .i64 p,.slice (some ⟨g,o,none⟩) 1 c]] w _
 simp only [la,lc,ln] at hlen
 go_enter Tryz.func85,Tryz.ntmps85
 go_wp2_with fail; go_at_call 82; refine (zQ w0 wb _ _ L [80,79,73,78,84,69,82,32,84,79,32] _ _ (by simp) (d.grown gan)).mono ?_; rintro e Q ⟨rfl,x,k⟩; have f := zb x; have J := (WK.grown d gan).trans k; have l := zb ((FB.newX d 12 [] 0 p [u] (.slice (some ⟨g,o,none⟩) 1 c) 24 grn).step ((WK.grown (d.grown gan) grn).trans k)); cases l.box.q; have y := l.fr.lt
 obtain ⟨a,_,_,_,_⟩ := v.kept f.gb; have m := zc a; clear x k; go_wp2_with fail; go_at_call 124; refine (yI w0 wb _ _ L u _ (f.grown grn) H hu).mono ?_; rintro e R ⟨rfl,z,n⟩; have A := zb z; have K := km J f n; have B := bm l f n; cases B.box.q; have C := B.fr.lt
 obtain ⟨b,_,_,_,_⟩ := v.kept A.gb; have r := zc b; clear z n; go_wp2_with fail
 go_end0
 refine ⟨rfl,?_,K⟩; have D := id A
 try simp only [List.append_assoc] at D ⊢
 exact D
def zV (us : List T) : Bs := zu (fun x => zF x ++ [59,32]) us
theorem kO {us : List T} {i : Nat} {u : T} (h : us[i]? = some u) : zV (us.take (i + 1)) = zV (us.take i) ++ (zF u ++ [59,32]) := by
 unfold zV
 rw [List.take_add_one,h,yf]
 simp [zu]
theorem gI (us : List T) (i : Nat) : (zV (us.take i)).length <= (zV us).length := by
 have h : zV (us.take i ++ us.drop i) = zV (us.take i) ++ zV (us.drop i) := yf _ _ _; rw [List.take_append_drop] at h; rw [h,List.length_append]
 omega
theorem jU (k most : Int) (w0 : World) (wb : Nat) (w : World) (S : Bs) (L : Nat) (t : T) (sv : Value) (h : Wr w0 wb w S L) (ha : AT w0 t.subs sv) (ht : Well (.declared k most .typeName) t) (hlen : S.length + (zF t).length <= 1000000000) :
  Calls Tryz.prog 86 #[ptr wb,zq t sv] w (WP w0 wb w S L (zF t)) := by
 obtain ⟨x,m,p,u,rfl,-,-,-,a⟩ := yO ht
 exact mD w0 wb w S L k x m p u sv h ha (vR a) hlen
theorem pi (w0 : World) (wb : Nat) (w : World) (S : Bs) (L : Nat) (t : T) (sv : Value) (h : Wr w0 wb w S L) (ha : AT w0 t.subs sv) (ht : Well (.declared 8 1 .typeName) t) (hlen : S.length + (zR t).length <= 1000000000) :
  Calls Tryz.prog 128 #[ptr wb,zq t sv] w (WP w0 wb w S L (zR t)) := by
 obtain ⟨x,m,p,u,rfl,-,-,-,b⟩ := yO ht
 by_cases a : m = 1
 ·subst a
  exact og w0 wb w S L 8 x p u sv h ha (vR b) hlen
 ·have e : zR (.mk 8 x m p [u]) = x ++ ([58,32] ++ zz u) := by simp [zR,T.num,T.name,zI,T.subs,a]
  rw [e] at hlen ⊢
  exact po w0 wb w S L 8 x m p u sv h ha (vR b) a hlen
theorem nc (w0 : World) (wb : Nat) (w : World) (S : Bs) (L : Nat) (p : Int) (u : T) (us : List T) (sv : Value) (h : Wr w0 wb w S L) (ha : AT w0 (T.mk 10 [] 0 p (u :: us)).subs sv) (hk : u.kind = 0) (hs : ∀ v ∈ us,Well (.declared 11 1 .typeName) v) (hlen : S.length + ([82,69,67,79,82,68,32] ++ ((zV us ++ [69,78,68]))).length <= 1000000000) :
  Calls Tryz.prog 127 #[ptr wb,zq (.mk 10 [] 0 p (u :: us)) sv] w (WP w0 wb w S L ([82,69,67,79,82,68,32] ++ ((zV us ++ [69,78,68])))) := by
 have b := zb h; have a0 := h.lt; have HS := zb hs; obtain ⟨g,o,c,_,rfl,_,_,V,fu,X,ar⟩ := AT.cons ha; obtain ⟨_,_,rfl,_,_⟩ := X.form; have NU := zb V; have AU := zb X; obtain ⟨Y,_,_,_,_⟩ := V.kept h.gb; have a1 := zc Y; have AR := zb ar; clear h ha hs fu X V ar
 change Calls Tryz.prog 127 #[ptr wb,.agg #[.int .i64 10,.string ⟨List.toArray []⟩,.int .i64 0,.int .i64 p,.slice (some ⟨g,o,none⟩) (us.length + 1) c]] w _
 simp only [la,lc,ln] at hlen
 have a2 : (u.kind != 0) = false := by rw [hk]; rfl
 have HK := zb hk; clear hk
 rcases Nat.lt_or_ge 1 c with Z | Z
 ·skip
  have z := zb AR
  go_enter Tryz.func127,Tryz.ntmps127
  go_wp2_with fail; go_at_call 82; refine (zQ w0 wb _ _ L [82,69,67,79,82,68,32] _ _ (by simp) (b.grown gan)).mono ?_; rintro e w1 ⟨rfl,A,l⟩; have B := zb A; have d := (WK.grown b gan).trans l; have C := zb ((FB.newX b 10 [] 0 p (u :: us) (.slice (some ⟨g,o,none⟩) (us.length + 1) c) 24 grn).step ((WK.grown (b.grown gan) grn).trans l)); obtain ⟨D,E,F,G,H⟩ := C.box.p; have I := C.fr.lt
  obtain ⟨a,m,n,r,s⟩ := NU.kept B.gb; have t := zc a; clear A l
  have J : Hid (Wr w0 wb w1 (S ++ ([82,69,67,79,82,68,32])) L) := by
   show Wr _ _ _ _ _
   have K := id B
   try simp only [List.append_assoc] at K ⊢
   exact K
  go_wp2_with fail
  go_loopw [30] (fun iv wr => ∃ i : Nat,i <= us.length /\ iv = .int .i64 ↑i /\ Hid (Wr w0 wb wr (S ++ (([82,69,67,79,82,68,32]) ++ zV (List.take i us))) L) /\ Hid (WK wb w wr)) (fun iv _ => us.length - (intOf iv).toNat)
  case atStart => exact ⟨0,Nat.zero_le _,rfl,by show Wr _ _ _ _ _; simpa [zV,zu] using J.grown gan,d.trans (WK.grown J gan)⟩
  case round =>
   obtain ⟨i,hi,rfl,y,d⟩ := hrel
   by_cases x : i < us.length
   ·obtain ⟨v,U⟩ : ∃ v,us[i]? = some v := ⟨_,List.getElem?_eq_getElem x⟩
    obtain ⟨_,_,sv,e1,m5,fv,av⟩ := z.node i v U; cases e1; obtain ⟨_,_,rfl,_,_⟩ := av.form; obtain ⟨_,_,_,_,_⟩ := m5.kept y.gb; have HT := zb (kO U); have AV := zb av; have M := id HS v (List.mem_of_getElem? U); have HV := zb M; have N := gI us (i + 1); rw [HT.out] at N; simp only [la,lc,ln] at N; clear U fv av m5 M; go_wp2_with fail; go_at_call 86; refine (jU 11 1 w0 wb _ _ L v _ (y.grown gan) AV HV (by first | omega | (simp only [la,lc,ln]; omega))).mono ?_; rintro e x2 ⟨rfl,j2,k2⟩; have f := zb j2; have K2 := d.trans ((WK.grown y gan).trans k2); clear j2 k2; go_wp2_with fail; go_at_call 82; refine (zQ w0 wb _ _ L [59,32] _ _ (by simp) (f.grown grn)).mono ?_; rintro e O ⟨rfl,j,k⟩
    have Q : Hid (Wr w0 wb O (S ++ (([82,69,67,79,82,68,32]) ++ zV (us.take (i + 1)))) L) := by show Wr _ _ _ _ _; rw [HT.out]; simpa only [List.append_assoc] using j
    have R := K2.trans ((WK.grown f grn).trans k); clear j k; go_wp2_with fail
    exact ⟨⟨i + 1,by omega,by go_num,Q,R⟩,by simp [intOf]; omega⟩
   ·have f : Hid (Wr w0 wb wr (S ++ (([82,69,67,79,82,68,32]) ++ zV us)) L) := by
     have := id y; rw [List.take_of_length_le (by omega)] at this
     exact this
    go_wp2_with fail; go_at_call 82; refine (zQ w0 wb _ _ L [69,78,68] _ _ (by simp) (f.grown grn)).mono ?_; rintro e O ⟨rfl,j,k⟩
    have Q : Hid (Wr w0 wb O (S ++ ([82,69,67,79,82,68,32] ++ ((zV us ++ [69,78,68])))) L) := by show Wr _ _ _ _ _; simpa only [List.append_assoc] using j
    have R := d.trans ((WK.grown f grn).trans k); clear j k; go_wp2_with fail
    go_end0
    exact ⟨rfl,Q,R⟩
 ·obtain rfl : c = 1 := by omega
  obtain rfl : us = [] := List.eq_nil_of_length_eq_zero (by omega); have z : Hid (AT w0 [] (.slice (some ⟨g,o,none⟩) 0 0)) := AT.nil _ _ (Nat.zero_le _)
  go_enter Tryz.func127,Tryz.ntmps127
  go_wp2_with fail; go_at_call 82; refine (zQ w0 wb _ _ L [82,69,67,79,82,68,32] _ _ (by simp) (b.grown gan)).mono ?_; rintro e w1 ⟨rfl,A,l⟩; have B := zb A; have d := (WK.grown b gan).trans l; have C := zb ((FB.newX b 10 [] 0 p (u :: []) (.slice (some ⟨g,o,none⟩) 1 1) 24 grn).step ((WK.grown (b.grown gan) grn).trans l)); obtain ⟨D,E,F,G,H⟩ := C.box.p; have I := C.fr.lt
  obtain ⟨a,m,n,r,s⟩ := NU.kept B.gb; have t := zc a; clear A l
  have J : Hid (Wr w0 wb w1 (S ++ ([82,69,67,79,82,68,32])) L) := by
   show Wr _ _ _ _ _
   have K := id B
   try simp only [List.append_assoc] at K ⊢
   exact K
  go_wp2_with fail
  go_loopw [30] (fun iv wr => ∃ i : Nat,i <= ([] : List T).length /\ iv = .int .i64 ↑i /\ Hid (Wr w0 wb wr (S ++ (([82,69,67,79,82,68,32]) ++ zV (List.take i []))) L) /\ Hid (WK wb w wr)) (fun iv _ => ([] : List T).length - (intOf iv).toNat)
  case atStart => exact ⟨0,Nat.zero_le _,rfl,by show Wr _ _ _ _ _; simpa [zV,zu] using J.grown gan,d.trans (WK.grown J gan)⟩
  case round =>
   obtain ⟨i,hi,rfl,y,d⟩ := hrel
   by_cases x : i < ([] : List T).length
   ·exact absurd x (by simp)
   ·have f : Hid (Wr w0 wb wr (S ++ (([82,69,67,79,82,68,32]) ++ zV ([] : List T))) L) := by
     have := id y; rw [List.take_of_length_le (by omega)] at this
     exact this
    go_wp2_with fail; go_at_call 82; refine (zQ w0 wb _ _ L [69,78,68] _ _ (by simp) (f.grown grn)).mono ?_; rintro e O ⟨rfl,j,k⟩
    have Q : Hid (Wr w0 wb O (S ++ ([82,69,67,79,82,68,32] ++ ((zV ([] : List T) ++ [69,78,68])))) L) := by show Wr _ _ _ _ _; simpa only [List.append_assoc] using j
    have R := d.trans ((WK.grown f grn).trans k); clear j k; go_wp2_with fail
    go_end0
    exact ⟨rfl,Q,R⟩
theorem oA (w0 : World) (wb : Nat) (w : World) (S : Bs) (L : Nat) (p : Int) (u : T) (us : List T) (sv : Value) (h : Wr w0 wb w S L) (ha : AT w0 (T.mk 10 [] 0 p (u :: us)).subs sv) (hk : u.kind = 13) (hu : TN u) (hs : ∀ v ∈ us,Well (.declared 11 1 .typeName) v) (hlen : S.length + ([82,69,67,79,82,68,32] ++ ([40] ++ (zz u ++ ([41,32] ++ (zV us ++ [69,78,68]))))).length <= 1000000000) :
  Calls Tryz.prog 127 #[ptr wb,zq (.mk 10 [] 0 p (u :: us)) sv] w (WP w0 wb w S L ([82,69,67,79,82,68,32] ++ ([40] ++ (zz u ++ ([41,32] ++ (zV us ++ [69,78,68])))))) := by
 have x := zb h; have f2 := h.lt; have HS := zb hs; obtain ⟨g,o,c,_,rfl,_,_,n5,fu,au,ar⟩ := AT.cons ha; obtain ⟨ua,uc,rfl,_,_⟩ := au.form; have y := zb n5; have AU := zb au; obtain ⟨d5,_,_,_,_⟩ := n5.kept h.gb; have f3 := zc d5; have AR := zb ar; clear h ha hs fu au n5 ar
 change Calls Tryz.prog 127 #[ptr wb,.agg #[.int .i64 10,.string ⟨List.toArray []⟩,.int .i64 0,.int .i64 p,.slice (some ⟨g,o,none⟩) (us.length + 1) c]] w _
 simp only [la,lc,ln] at hlen
 have f4 : (u.kind != 0) = true := by rw [hk]; rfl
 have HK := zb hk; clear hk
 rcases Nat.lt_or_ge 1 c with d6 | d6
 ·skip
  have a8 := zb AR
  go_enter Tryz.func127,Tryz.ntmps127
  go_wp2_with fail; go_at_call 82; refine (zQ w0 wb _ _ L [82,69,67,79,82,68,32] _ _ (by simp) (x.grown gan)).mono ?_; rintro e w1 ⟨rfl,j1,C⟩; have l := zb j1; have z := (WK.grown x gan).trans C; have D := zb ((FB.newX x 10 [] 0 p (u :: us) (.slice (some ⟨g,o,none⟩) (us.length + 1) c) 24 grn).step ((WK.grown (x.grown gan) grn).trans C)); obtain ⟨a9,b0,b1,b2,b3⟩ := D.box.p; have b4 := D.fr.lt
  obtain ⟨b,E,F,G,H⟩ := y.kept l.gb; have I := zc b; clear j1 C; have n := FB.new l u (.slice ua u.subs.length uc) 24 grn; have J := zb n; clear n; go_wp2_with fail; go_at_call 82; refine (zQ w0 wb _ _ L [40] _ _ (by simp) (l.grown gan)).mono ?_; rintro e w2 ⟨rfl,A,m⟩; have r := zb A; have K2 := z.trans ((WK.grown l gan).trans m); have K := D.step ((WK.grown l gan).trans m); obtain ⟨b5,b6,b7,b8,b9⟩ := K.box.p; have c0 := K.fr.lt
  obtain ⟨d,M,N,O,Q⟩ := y.kept r.gb; have R := zc d; have U := J.step ((WK.grown (l.grown gan) grn).trans m); obtain ⟨d7,d8,d9,f0,f1⟩ := U.box; clear A m; go_wp2_with fail; go_at_call 124; refine (yI w0 wb _ _ L u _ (r.grown grn) AU hu).mono ?_; rintro e w3 ⟨rfl,k,a⟩; have s := zb k; have t := km K2 r a; have V := bm K r a; obtain ⟨c1,c2,c3,c4,c5⟩ := V.box.p; have c6 := V.fr.lt
  obtain ⟨f,X,Y,Z,a0⟩ := y.kept s.gb; have a1 := zc f; clear k a; go_wp2_with fail; go_at_call 82; refine (zQ w0 wb _ _ L [41,32] _ _ (by simp) (s.grown grn)).mono ?_; rintro e w4 ⟨rfl,j4,k4⟩; have W4 := zb j4; have K4 := km t s k4; have B4 := bm V s k4; obtain ⟨c7,c8,c9,d0,d1⟩ := B4.box.p; have d2 := B4.fr.lt
  obtain ⟨j,a2,a3,a4,a5⟩ := y.kept W4.gb; have a6 := zc j; clear j4 k4
  have JJ : Hid (Wr w0 wb w4 (S ++ ([82,69,67,79,82,68,32] ++ ([40] ++ (zz u ++ [41,32])))) L) := by
   show Wr _ _ _ _ _
   have J9 := id W4
   try simp only [List.append_assoc] at J9 ⊢
   exact J9
  go_wp2_with fail
  go_loopw [30] (fun iv wr => ∃ i : Nat,i <= us.length /\ iv = .int .i64 ↑i /\ Hid (Wr w0 wb wr (S ++ (([82,69,67,79,82,68,32] ++ ([40] ++ (zz u ++ [41,32]))) ++ zV (List.take i us))) L) /\ Hid (WK wb w wr)) (fun iv _ => us.length - (intOf iv).toNat)
  case atStart => exact ⟨0,Nat.zero_le _,rfl,by show Wr _ _ _ _ _; simpa [zV,zu] using JJ.grown grn,K4.trans (WK.grown JJ grn)⟩
  case round =>
   obtain ⟨i,hi,rfl,J1,z⟩ := hrel
   by_cases a7 : i < us.length
   ·obtain ⟨v,hv⟩ : ∃ v,us[i]? = some v := ⟨_,List.getElem?_eq_getElem a7⟩
    obtain ⟨_,_,sv,e1,m5,fv,av⟩ := a8.node i v hv; cases e1; obtain ⟨_,_,rfl,_,_⟩ := av.form; obtain ⟨_,_,_,_,_⟩ := m5.kept J1.gb; have HT := zb (kO hv); have AV := zb av; have d3 := id HS v (List.mem_of_getElem? hv); have HV := zb d3; have d4 := gI us (i + 1); rw [HT.out] at d4; simp only [la,lc,ln] at d4; clear hv fv av m5 d3; go_wp2_with fail; go_at_call 86; refine (jU 11 1 w0 wb _ _ L v _ (J1.grown gan) AV HV (by first | omega | (simp only [la,lc,ln]; omega))).mono ?_; rintro e x2 ⟨rfl,A,m⟩; have B := zb A; have K2 := z.trans ((WK.grown J1 gan).trans m); clear A m; go_wp2_with fail; go_at_call 82; refine (zQ w0 wb _ _ L [59,32] _ _ (by simp) (B.grown grn)).mono ?_; rintro e x3 ⟨rfl,k,a⟩
    have J3 : Hid (Wr w0 wb x3 (S ++ (([82,69,67,79,82,68,32] ++ ([40] ++ (zz u ++ [41,32]))) ++ zV (us.take (i + 1)))) L) := by show Wr _ _ _ _ _; rw [HT.out]; simpa only [List.append_assoc] using k
    have t := K2.trans ((WK.grown B grn).trans a); clear k a; go_wp2_with fail
    exact ⟨⟨i + 1,by omega,by go_num,J3,t⟩,by simp [intOf]; omega⟩
   ·have B : Hid (Wr w0 wb wr (S ++ (([82,69,67,79,82,68,32] ++ ([40] ++ (zz u ++ [41,32]))) ++ zV us)) L) := by
     have := id J1; rw [List.take_of_length_le (by omega)] at this
     exact this
    go_wp2_with fail; go_at_call 82; refine (zQ w0 wb _ _ L [69,78,68] _ _ (by simp) (B.grown grn)).mono ?_; rintro e x3 ⟨rfl,k,a⟩
    have J3 : Hid (Wr w0 wb x3 (S ++ ([82,69,67,79,82,68,32] ++ ([40] ++ (zz u ++ ([41,32] ++ (zV us ++ [69,78,68])))))) L) := by show Wr _ _ _ _ _; simpa only [List.append_assoc] using k
    have t := z.trans ((WK.grown B grn).trans a); clear k a; go_wp2_with fail
    go_end0
    exact ⟨rfl,J3,t⟩
 ·obtain rfl : c = 1 := by omega
  obtain rfl : us = [] := List.eq_nil_of_length_eq_zero (by omega); have a8 : Hid (AT w0 [] (.slice (some ⟨g,o,none⟩) 0 0)) := AT.nil _ _ (Nat.zero_le _)
  go_enter Tryz.func127,Tryz.ntmps127
  go_wp2_with fail; go_at_call 82; refine (zQ w0 wb _ _ L [82,69,67,79,82,68,32] _ _ (by simp) (x.grown gan)).mono ?_; rintro e w1 ⟨rfl,j1,C⟩; have l := zb j1; have z := (WK.grown x gan).trans C; have D := zb ((FB.newX x 10 [] 0 p (u :: []) (.slice (some ⟨g,o,none⟩) 1 1) 24 grn).step ((WK.grown (x.grown gan) grn).trans C)); obtain ⟨a9,b0,b1,b2,b3⟩ := D.box.p; have b4 := D.fr.lt
  obtain ⟨b,E,F,G,H⟩ := y.kept l.gb; have I := zc b; clear j1 C; have n := FB.new l u (.slice ua u.subs.length uc) 24 grn; have J := zb n; clear n; go_wp2_with fail; go_at_call 82; refine (zQ w0 wb _ _ L [40] _ _ (by simp) (l.grown gan)).mono ?_; rintro e w2 ⟨rfl,A,m⟩; have r := zb A; have K2 := z.trans ((WK.grown l gan).trans m); have K := D.step ((WK.grown l gan).trans m); obtain ⟨b5,b6,b7,b8,b9⟩ := K.box.p; have c0 := K.fr.lt
  obtain ⟨d,M,N,O,Q⟩ := y.kept r.gb; have R := zc d; have U := J.step ((WK.grown (l.grown gan) grn).trans m); obtain ⟨d7,d8,d9,f0,f1⟩ := U.box; clear A m; go_wp2_with fail; go_at_call 124; refine (yI w0 wb _ _ L u _ (r.grown grn) AU hu).mono ?_; rintro e w3 ⟨rfl,k,a⟩; have s := zb k; have t := km K2 r a; have V := bm K r a; obtain ⟨c1,c2,c3,c4,c5⟩ := V.box.p; have c6 := V.fr.lt
  obtain ⟨f,X,Y,Z,a0⟩ := y.kept s.gb; have a1 := zc f; clear k a; go_wp2_with fail; go_at_call 82; refine (zQ w0 wb _ _ L [41,32] _ _ (by simp) (s.grown grn)).mono ?_; rintro e w4 ⟨rfl,j4,k4⟩; have W4 := zb j4; have K4 := km t s k4; have B4 := bm V s k4; obtain ⟨c7,c8,c9,d0,d1⟩ := B4.box.p; have d2 := B4.fr.lt
  obtain ⟨j,a2,a3,a4,a5⟩ := y.kept W4.gb; have a6 := zc j; clear j4 k4
  have JJ : Hid (Wr w0 wb w4 (S ++ ([82,69,67,79,82,68,32] ++ ([40] ++ (zz u ++ [41,32])))) L) := by
   show Wr _ _ _ _ _
   have J9 := id W4
   try simp only [List.append_assoc] at J9 ⊢
   exact J9
  go_wp2_with fail
  go_loopw [30] (fun iv wr => ∃ i : Nat,i <= ([] : List T).length /\ iv = .int .i64 ↑i /\ Hid (Wr w0 wb wr (S ++ (([82,69,67,79,82,68,32] ++ ([40] ++ (zz u ++ [41,32]))) ++ zV (List.take i []))) L) /\ Hid (WK wb w wr)) (fun iv _ => ([] : List T).length - (intOf iv).toNat)
  case atStart => exact ⟨0,Nat.zero_le _,rfl,by show Wr _ _ _ _ _; simpa [zV,zu] using JJ.grown grn,K4.trans (WK.grown JJ grn)⟩
  case round =>
   obtain ⟨i,hi,rfl,J1,z⟩ := hrel
   by_cases a7 : i < ([] : List T).length
   ·exact absurd a7 (by simp)
   ·have B : Hid (Wr w0 wb wr (S ++ (([82,69,67,79,82,68,32] ++ ([40] ++ (zz u ++ [41,32]))) ++ zV ([] : List T))) L) := by
     have := id J1; rw [List.take_of_length_le (by omega)] at this
     exact this
    go_wp2_with fail; go_at_call 82; refine (zQ w0 wb _ _ L [69,78,68] _ _ (by simp) (B.grown grn)).mono ?_; rintro e x3 ⟨rfl,k,a⟩
    have J3 : Hid (Wr w0 wb x3 (S ++ ([82,69,67,79,82,68,32] ++ ([40] ++ (zz u ++ ([41,32] ++ (zV ([] : List T) ++ [69,78,68])))))) L) := by show Wr _ _ _ _ _; simpa only [List.append_assoc] using k
    have t := z.trans ((WK.grown B grn).trans a); clear k a; go_wp2_with fail
    go_end0
    exact ⟨rfl,J3,t⟩
theorem sQ (w0 : World) (wb : Nat) (w : World) (S : Bs) (L : Nat) (p : Int) (u : T) (us : List T) (sv : Value) (h : Wr w0 wb w S L) (ha : AT w0 (T.mk 10 [] 0 p (u :: us)).subs sv) (hu : (∃ q,u = .mk 0 [] 0 q []) \/ (u.kind = 13 /\ TN u)) (hs : ∀ v ∈ us,Well (.declared 11 1 .typeName) v) (hlen : S.length + ([82,69,67,79,82,68,32] ++ ((if u.kind = 0 then [] else 40 :: (zz u ++ [41,32])) ++ (zV us ++ [69,78,68]))).length <= 1000000000) :
  Calls Tryz.prog 127 #[ptr wb,zq (.mk 10 [] 0 p (u :: us)) sv] w (WP w0 wb w S L ([82,69,67,79,82,68,32] ++ ((if u.kind = 0 then [] else 40 :: (zz u ++ [41,32])) ++ (zV us ++ [69,78,68])))) := by
 rcases hu with ⟨q,rfl⟩ | ⟨a,hu⟩
 ·rw [if_pos (show (T.mk 0 [] 0 q []).kind = 0 from rfl)] at hlen ⊢
  exact nc w0 wb w S L p _ us sv h ha rfl hs hlen
 ·rw [if_neg (show ¬ u.kind = 0 by rw [a]; decide)] at hlen ⊢
  have := oA w0 wb w S L p u us sv h ha a hu hs (by simpa using hlen)
  simpa using this
theorem oR (w0 : World) (wb : Nat) (w : World) (S : Bs) (L : Nat) (p : Int) (u : T) (us : List T) (sv : Value) (h : Wr w0 wb w S L) (ha : AT w0 (T.mk 10 [] 0 p (u :: us)).subs sv) (hu : (∃ q,u = .mk 0 [] 0 q []) \/ (u.kind = 13 /\ TN u)) (hs : ∀ v ∈ us,Well (.declared 11 1 .typeName) v) (hlen : S.length + ([82,69,67,79,82,68,32] ++ ((if u.kind = 0 then [] else 40 :: (zz u ++ [41,32])) ++ (zV us ++ [69,78,68]))).length <= 1000000000) :
  Calls Tryz.prog 85 #[ptr wb,zq (.mk 10 [] 0 p (u :: us)) sv] w (WP w0 wb w S L ([82,69,67,79,82,68,32] ++ ((if u.kind = 0 then [] else 40 :: (zz u ++ [41,32])) ++ (zV us ++ [69,78,68])))) := by
 have b := zb h; have m := zb ha; have r := zb hs; have s := zb hu; have d := zb hlen; obtain ⟨a,n,c,rfl,_,_,f⟩ := ha.any
 change us.length + 1 = n at f
 subst f; clear h ha hs hu hlen
 change Calls Tryz.prog 85 #[ptr wb,.agg #[.int .i64 10,.string ⟨List.toArray []⟩,.int .i64 0,.int .i64 p,.slice a (us.length + 1) c]] w _
 generalize g : ([82,69,67,79,82,68,32] ++ ((if u.kind = 0 then [] else 40 :: (zz u ++ [41,32])) ++ (zV us ++ [69,78,68]))) = X at d ⊢
 go_enter Tryz.func85,Tryz.ntmps85
 go_wp2_with fail; go_at_call 127; refine (sQ w0 wb _ _ L p u us _ (b.grown gan) m s r (by rw [g]; exact d)).mono ?_; rintro e x ⟨rfl,i,j⟩; have k := zb i; have t := (WK.grown b gan).trans j; clear i j; rw [g] at k; go_wp2_with fail
 go_end0
 refine ⟨rfl,?_,t⟩; have l := id k
 try simp only [List.append_assoc,List.nil_append,List.append_nil] at l ⊢
 exact l
theorem qI (w0 : World) (wb : Nat) (w : World) (S : Bs) (L : Nat) (t : T) (sv : Value) (h : Wr w0 wb w S L) (ha : AT w0 t.subs sv) (ht : TY t) (hp : PT w0) (hlen : S.length + (xF t).length <= 1000000000) :
  Calls Tryz.prog 85 #[ptr wb,zq t sv] w (WP w0 wb w S L (xF t)) := by
 cases ht with
 | array m p u h0 h1 hu => exact mL w0 wb w S L m p u sv h ha hu h0 h1 hp hlen
 | pointer p u hu => exact pz w0 wb w S L p u sv h ha hu hlen
 | record p u us hu hs => exact oR w0 wb w S L p u us sv h ha hu hs hlen
theorem gX (w0 : World) (wb : Nat) (w : World) (S : Bs) (L : Nat) (t : T) (sv : Value) (b1 : Nat) (h : Wr w0 wb w S L) (ha : AT w0 t.subs sv) (d1 : w.cell? ⟨b1,0,none⟩ = some (ptr wb)) (hlen : S.length + t.name.length <= 1000000000) :
  Calls Tryz.prog 118 #[zq t sv,ptr b1] w (WP w0 wb w S L t.name) := by
 obtain ⟨g,i,rfl,_,_⟩ := ha.form; have a := zb h; have j := zc d1; obtain ⟨k,x,m,p,l⟩ := t
 change S.length + x.length <= 1000000000 at hlen
 clear h ha
 change Calls Tryz.prog 118 #[.agg #[.int .i64 k,.string ⟨x.toArray⟩,.int .i64 m,.int .i64 p,.slice g l.length i],ptr b1] w _
 go_enter Tryz.func118,Tryz.ntmps118
 go_wp2_with fail; go_at_call 82; refine (zQ w0 wb _ _ L x _ _ (by simp) (a.grown gan)).mono ?_; rintro e s ⟨rfl,b,d⟩; have n := zb b; have r := (WK.grown a gan).trans d; clear b d; go_wp2_with fail
 go_end0
 refine ⟨rfl,?_,r⟩; have f := id n
 try simp only [List.append_assoc,List.nil_append,List.append_nil] at f ⊢
 exact f
theorem sJ : EN 118 := enters_of Tryz.func118 (by kernel_rfl) rfl
theorem kw (w0 : World) (wb : Nat) (w : World) (S : Bs) (L : Nat) (ts : List T) (sl : Value) (h : Wr w0 wb w S L) (ha : AT w0 ts sl) (hlen : S.length + (yj ts).length <= 1000000000) :
  Calls Tryz.prog 78 #[ptr wb,sl] w (WP w0 wb w S L (yj ts)) := by
 have D := zb ha; have g := zb h; have E := h.lt; obtain ⟨_,_,rfl,_,j⟩ := ha.form
 unfold maxLen at j
 by_cases n : ts.length = 0
 ·obtain rfl : ts = [] := List.eq_nil_of_length_eq_zero n
  have k : Hid (yj [] = []) := rfl
  clear h ha
  go_enter Tryz.func78,Tryz.ntmps78
  go_wp2_with fail
  go_end0
  exact ⟨rfl,by rw [k.out,List.append_nil]; exact g.grown gan,WK.grown g gan⟩
 ·have k : Hid (yj ts = [73,77,80,79,82,84,32] ++ (zE [44,32] (ts.map T.name) ++ [59,10])) := by
   show _ = _
   unfold yj
   rw [if_neg (by simpa [List.isEmpty_iff] using fun e => n (by rw [e]; rfl))]
  rw [k.out] at hlen ⊢; simp only [la,lc,ln] at hlen
  have F : ((ts.length : Int) == 0) = false := bn (by omega)
  have r := zb (Fr.new h (zf grn (.cells #[ptr wb] 69)) (Nat.le_refl _) (by simp)); have G := uj w (ptr wb) 69; clear h ha
  go_enter Tryz.func78,Tryz.ntmps78
  go_wp2_with fail; go_at_call 82; refine (zQ w0 wb _ _ L [73,77,80,79,82,84,32] _ _ (by simp) (g.grown gan)).mono ?_; rintro e M ⟨rfl,s,l⟩; have i := zb s; have H := (WK.grown g gan).trans l; have d := (WK.grown (g.grown gan) grn).trans l; have a := r.step d; have b := d.cell r G; have u := a.lt; clear d; clear s l; go_wp2_with fail; go_at_call 117; refine (vb w0 wb _ _ L ts _ [44,32] 118 #[] #[ptr w.heap.size] T.name (i.grown grn) D (fun t sv x1 S1 _ hat hwr hwk hll => gX w0 wb x1 S1 L t sv w.heap.size hwr hat (hwk.cell (a.step (WK.grown i grn)) ((WK.grown i grn).cell a b)) hll) sJ).mono ?_; rintro e N ⟨rfl,v,m⟩; have x := zb v; have I := km H i m; have f := (WK.grown i grn).trans m; have y := f.cell a b; have z := (a.step f).lt; clear f; clear v m; go_wp2_with fail; go_at_call 82; refine (zQ w0 wb _ _ L [59,10] _ _ (by simp) (x.grown grn)).mono ?_; rintro e O ⟨rfl,A,B⟩; have J := zb A; have K := km I x B; clear A B; go_wp2_with fail
  go_end0
  refine ⟨rfl,?_,K⟩; have C := id J
  try simp only [List.append_assoc] at C ⊢
  exact C
end Go.Proofs.YtifapidjkelnfaaGreatDoor
