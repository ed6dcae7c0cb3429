/- The program's writer: every procedure; modules. -/
import Derived.Test.YtifapidjkelnfaaGreatDoorG31
import Derived.Test.YtifapidjkelnfaaGreatDoorG32
import Derived.Test.YtifapidjkelnfaaGreatDoorG33
import Derived.Test.YtifapidjkelnfaaGreatDoorG25
import Derived.Test.YtifapidjkelnfaaGreatDoorG02
namespace Go.Proofs.YtifapidjkelnfaaGreatDoor
open Go.RowKit Go.Maps Go.WideMaps Go.WideElems
theorem lw {α : Type} {l : List α} (h : 0 < l.length) : l.isEmpty = false := by cases l; simp at h; rfl
theorem dP (w0 : World) (wb : Nat) (hp : PT w0) (f : Nat) (hf : f < 1000) (w : World) (S : Bs) (t : T) (sv : Value) (h : Wr w0 wb w S 0) (ha : AT w0 t.subs sv) (ht : Well .procedure t) (hd : zS t <= f + 2) (hlen : S.length + (xh f t).length <= 1000000000) :
  Calls Tryz.prog 87 #[ptr wb,zq t sv] w (WP w0 wb w S 0 (xh f t)) := by
 obtain ⟨x,m,p,F,k,G,H,rfl,-,-,-,z,A,B,C⟩ := kZ ht; obtain ⟨i,b,rfl,l⟩ := yk z; obtain ⟨j,d,rfl,n⟩ := yk B; obtain ⟨g,a,rfl,D⟩ := yk C
 have v : LW w0 wb 0 a (yr f 0 a) := dK w0 wb hp f 0 a (by omega) (fun u hu => by
  have I := yp (t := .mk 1 [] 0 g a) (u := u) hu; have J := yp (t := .mk 7 x m p [.mk 1 [] 0 i b,k,.mk 1 [] 0 j d,.mk 1 [] 0 g a]) (u := .mk 1 [] 0 g a) (by simp [T.subs])
  omega) D
 rcases Nat.eq_zero_or_pos b.length with r | r <;> rcases A with ⟨q,rfl⟩ | ⟨y,s⟩
 ·have e : xh f (.mk 7 x m p [.mk 1 [] 0 i b,.mk 0 [] 0 q [],.mk 1 [] 0 j d,.mk 1 [] 0 g a]) = [80,82,79,67,69,68,85,82,69,32] ++ (zv (.mk 7 x m p [.mk 1 [] 0 i b,.mk 0 [] 0 q [],.mk 1 [] 0 j d,.mk 1 [] 0 g a]) ++ (([59,10] ++ (zy VARw zF d ++ ([66,69,71,73,78] ++ ([10] ++ (yr f 0 a ++ ([69,78,68,32] ++ (x ++ ([59] ++ [10])))))))))) := by
   obtain rfl : b = [] := List.eq_nil_of_length_eq_zero r
   simp [xh,zI,T.subs,T.kind,T.name]
  rw [e] at hlen ⊢
  exact lF w0 wb w S x m p i j g b _ d a sv h ha _ l n v r rfl hlen
 ·have e : xh f (.mk 7 x m p [.mk 1 [] 0 i b,k,.mk 1 [] 0 j d,.mk 1 [] 0 g a]) = [80,82,79,67,69,68,85,82,69,32] ++ (zv (.mk 7 x m p [.mk 1 [] 0 i b,k,.mk 1 [] 0 j d,.mk 1 [] 0 g a]) ++ ([40] ++ (zE [59,32] (b.map zR) ++ ([41] ++ ([58,32] ++ (zz k ++ ([59,10] ++ (zy VARw zF d ++ ([66,69,71,73,78] ++ ([10] ++ (yr f 0 a ++ ([69,78,68,32] ++ (x ++ ([59] ++ [10])))))))))))))) := by
   simp [xh,zI,T.subs,T.name,y]
  rw [e] at hlen ⊢
  exact lJ w0 wb w S x m p i j g b k d a sv h ha _ l n v r (by rw [y]; rfl) s hlen
 ·have e : xh f (.mk 7 x m p [.mk 1 [] 0 i b,.mk 0 [] 0 q [],.mk 1 [] 0 j d,.mk 1 [] 0 g a]) = [80,82,79,67,69,68,85,82,69,32] ++ (zv (.mk 7 x m p [.mk 1 [] 0 i b,.mk 0 [] 0 q [],.mk 1 [] 0 j d,.mk 1 [] 0 g a]) ++ ([40] ++ (zE [59,32] (b.map zR) ++ ([41] ++ ([59,10] ++ (zy VARw zF d ++ ([66,69,71,73,78] ++ ([10] ++ (yr f 0 a ++ ([69,78,68,32] ++ (x ++ ([59] ++ [10])))))))))))) := by
   have E := lw r; simp only [xh,zI,T.subs,T.name,T.kind,E,List.getElem?_cons_zero,List.getElem?_cons_succ,Option.getD_some,Bool.false_and,Bool.false_eq_true,if_false,if_true,List.nil_append]
   simp
  rw [e] at hlen ⊢
  exact mC w0 wb w S x m p i j g b _ d a sv h ha _ l n v r rfl hlen
 ·have e : xh f (.mk 7 x m p [.mk 1 [] 0 i b,k,.mk 1 [] 0 j d,.mk 1 [] 0 g a]) = [80,82,79,67,69,68,85,82,69,32] ++ (zv (.mk 7 x m p [.mk 1 [] 0 i b,k,.mk 1 [] 0 j d,.mk 1 [] 0 g a]) ++ ([40] ++ (zE [59,32] (b.map zR) ++ ([41] ++ ([58,32] ++ (zz k ++ ([59,10] ++ (zy VARw zF d ++ ([66,69,71,73,78] ++ ([10] ++ (yr f 0 a ++ ([69,78,68,32] ++ (x ++ ([59] ++ [10])))))))))))))) := by
   simp [xh,zI,T.subs,T.name,y]
  rw [e] at hlen ⊢
  exact mW w0 wb w S x m p i j g b k d a sv h ha _ l n v r (by rw [y]; rfl) s hlen
set_option maxHeartbeats 8000000
set_option maxRecDepth 1000000
theorem tc : EN 80 := enters_of Tryz.func80 (by kernel_rfl) rfl
theorem fP : EN 84 := enters_of Tryz.func84 (by kernel_rfl) rfl
theorem EW.const {w0 : World} {wb : Nat} {w : World} {us : List T} {f b1 : Nat} (hp : PT w0) (H : ∀ v ∈ us,Well (.declared 4 1 .expression) v) (hd : ∀ v ∈ us,zS v <= f) (F1 : Fr wb w b1) (d1 : w.cell? ⟨b1,0,none⟩ = some (ptr wb)) (L : Nat) : EW w0 wb w L 80 #[] #[ptr b1] us (yt f) := by
 intro t d g S a h i b j; have l := hd t a; obtain ⟨x,m,p,u,rfl,-,-,-,k⟩ := yO (H t a); have n := yp (t := .mk 4 x m p [u]) (u := u) (by simp [T.subs])
 exact mR w0 wb g S L 4 x m p u d b1 i h (zl f u) ((qn w0 wb hp f u (by omega)).2 k) (b.cell F1 d1) (F1.step b) j
theorem EW.named {w0 : World} {wb : Nat} {w : World} {us : List T} {b1 : Nat} (hp : PT w0) (H : ∀ v ∈ us,Well (.declared 5 1 .typeItself) v) (F1 : Fr wb w b1) (d1 : w.cell? ⟨b1,0,none⟩ = some (ptr wb)) (L : Nat) : EW w0 wb w L 84 #[] #[ptr b1] us yu := by
 intro t b d S f g h a i; obtain ⟨x,m,p,u,rfl,-,-,-,j⟩ := yO (H t f)
 exact lI w0 wb d S L 5 x m p u b b1 h g (gN j) hp (a.cell F1 d1) (F1.step a) i
theorem AT.six {w : World} {k m p : Int} {x : Bs} {a b c d e f : T} {sv : Value} (h : AT w (T.mk k x m p [a,b,c,d,e,f]).subs sv) : ∃ g o cap sa sb sc sd se sf,sv = .slice (some ⟨g,o,none⟩) 6 cap /\ 6 <= cap /\ cap <= 9223372036854775807 /\ (Node5 w g o a sa /\ AT w a.subs sa) /\ (Node5 w g (o + 5) b sb /\ AT w b.subs sb) /\ (Node5 w g (o + 10) c sc /\ AT w c.subs sc) /\ (Node5 w g (o + 15) d sd /\ AT w d.subs sd) /\ (Node5 w g (o + 20) e se /\ AT w e.subs se) /\ (Node5 w g (o + 25) f sf /\ AT w f.subs sf) := by
 obtain ⟨I,cap,rfl,i,j⟩ := h.form
 unfold maxLen at j
 obtain ⟨g,o,sa,rfl,l,-,n⟩ := h.node 0 a rfl; obtain ⟨_,_,sb,r,s,-,t⟩ := h.node 1 b rfl; obtain ⟨_,_,sc,u,v,-,y⟩ := h.node 2 c rfl; obtain ⟨_,_,sd,z,A,-,B⟩ := h.node 3 d rfl; obtain ⟨_,_,se,C,D,-,E⟩ := h.node 4 e rfl; obtain ⟨_,_,sf,F,G,-,H⟩ := h.node 5 f rfl; cases r; cases u; cases z; cases C; cases F
 exact ⟨g,o,cap,sa,sb,sc,sd,se,sf,rfl,i,by omega,⟨by simpa using l,n⟩,⟨by simpa using s,t⟩,⟨by simpa using v,y⟩,⟨by simpa using A,B⟩,⟨by simpa using D,E⟩,⟨by simpa using G,H⟩⟩
theorem FB.newBX {w0 : World} {wb : Nat} {w w1 : World} {S : Bs} {L : Nat} (h : Wr w0 wb w S L) (kd : Int) (x : Bs) (m p : Int) (ts : List T) (sv : Value) (ty : TypeId) (hg : w.grownBy w1 none) (b : Nat) (hb : b = w1.heap.size) : FB wb (w1.alloc (.cells #[.int .i64 kd,.string ⟨x.toArray⟩,.int .i64 m,.int .i64 p,sv] ty)) b (.mk kd x m p ts) sv := by subst hb; exact FB.new h (.mk kd x m p ts) sv ty hg
def yA (f : Nat) (l : List T) : Bs := zu (xh f) l
theorem qH {f : Nat} {ts : List T} {i : Nat} {u : T} (h : ts[i]? = some u) : yA f (ts.take (i + 1)) = yA f (ts.take i) ++ xh f u := by
 unfold yA
 rw [List.take_add_one,h,yf]
 simp [zu]
theorem dY (f : Nat) (ts : List T) (i : Nat) : (yA f (ts.take i)).length <= (yA f ts).length := by
 have h : yA f (ts.take i ++ ts.drop i) = yA f (ts.take i) ++ yA f (ts.drop i) := yf _ _ _; rw [List.take_append_drop] at h; rw [h,List.length_append]
 omega
theorem fS (w0 : World) (wb : Nat) (hp : PT w0) (f : Nat) (hf : f < 1000) (w : World) (S : Bs) (x : Bs) (m p q0 q1 q2 q3 q4 q5 : Int) (il cl tl vl pl _al : List T) (sv : Value) (h : Wr w0 wb w S 0) (ha : AT w0 (T.mk 2 x m p [.mk 1 [] 0 q0 il,.mk 1 [] 0 q1 cl,.mk 1 [] 0 q2 tl,.mk 1 [] 0 q3 vl,.mk 1 [] 0 q4 pl,.mk 1 [] 0 q5 []]).subs sv) (_Z : Bs) (hcl : ∀ v ∈ cl,Well (.declared 4 1 .expression) v) (hcd : ∀ v ∈ cl,zS v <= f) (htl : ∀ v ∈ tl,Well (.declared 5 1 .typeItself) v) (hvl : ∀ v ∈ vl,Well (.declared 6 1 .typeName) v) (hpl : ∀ v ∈ pl,Well .procedure v) (hpd : ∀ v ∈ pl,zS v <= f)  (hlen : S.length + (([77,79,68,85,76,69,32] ++ (x ++ ([59] ++ ([10] ++ (yj il ++ (zy [67,79,78,83,84] (yt f) cl ++ (zy [84,89,80,69] yu tl ++ zy VARw zF vl))))))) ++ (yA f pl ++ (([69,78,68,32] ++ (x ++ ([46] ++ [10])))))).length <= 1000000000) :
  Calls Tryz.prog 45 #[ptr wb,zq (.mk 2 x m p [.mk 1 [] 0 q0 il,.mk 1 [] 0 q1 cl,.mk 1 [] 0 q2 tl,.mk 1 [] 0 q3 vl,.mk 1 [] 0 q4 pl,.mk 1 [] 0 q5 []]) sv] w (WP w0 wb w S 0 (([77,79,68,85,76,69,32] ++ (x ++ ([59] ++ ([10] ++ (yj il ++ (zy [67,79,78,83,84] (yt f) cl ++ (zy [84,89,80,69] yu tl ++ zy VARw zF vl))))))) ++ (yA f pl ++ (([69,78,68,32] ++ (x ++ ([46] ++ [10]))))))) := by
 have U := zb h; have k6 := h.lt; have HP := zb hp; have c5 := zb hcl; have c6 := zb hcd; have c7 := zb htl; have c8 := zb hvl; have c9 := zb hpl; have d0 := zb hpd; obtain ⟨g,o,c,s0,s1,s2,s3,s4,s5,rfl,_,_,⟨n0,a0⟩,⟨n1,a1⟩,⟨n2,a2⟩,⟨n3,a3⟩,⟨n4,a4⟩,⟨V,a5⟩⟩ := AT.six ha; obtain ⟨_,_,rfl,_,_⟩ := AT.slice (show AT w0 pl s4 from a4); obtain ⟨ea,ec,rfl,k7,k8⟩ : ∃ a c,s5 = .slice a 0 c /\ 0 <= c /\ c <= 9223372036854775807 := AT.slice (show AT w0 [] s5 from a5); have X := zb n0; have Y := zb n1; have Z := zb n2; have ND := zb n3; have NE := zb n4; have R := zb V; have A0 : Hid (AT w0 il _) := a0; have A1 : Hid (AT w0 cl _) := a1; have A2 : Hid (AT w0 tl _) := a2; have A3 : Hid (AT w0 vl _) := a3; have A4 : Hid (AT w0 pl _) := a4; have A5 : Hid (AT w0 [] _) := a5; have k9 := zc (n0.kept h.gb).c0; have a6 := zb (Fr.new h (zf (zf grn (.cells #[ptr wb] 69)) (.cells #[.int .i64 2,.string ⟨List.toArray x⟩,.int .i64 m,.int .i64 p,.slice (some ⟨g,o,none⟩) 6 c] 24)) (Nat.le_refl _) (by simp; omega))
 have a7 : ((w.alloc (.cells #[ptr wb] 69)).alloc (.cells #[.int .i64 2,.string ⟨List.toArray x⟩,.int .i64 m,.int .i64 p,.slice (some ⟨g,o,none⟩) 6 c] 24)).cell? ⟨w.heap.size,0,none⟩ = some (ptr wb) := by rw [World.cell?_alloc_lt _ _ _ (by simp)]; exact uj w _ _
 have B0 := zb (FB.newBX h 2 x m p [.mk 1 [] 0 q0 il,.mk 1 [] 0 q1 cl,.mk 1 [] 0 q2 tl,.mk 1 [] 0 q3 vl,.mk 1 [] 0 q4 pl,.mk 1 [] 0 q5 []] (.slice (some ⟨g,o,none⟩) 6 c) 24 (zf grn (.cells #[ptr wb] 69)) (w.heap.size + 1) (by simp)); have d1 := zb a7; clear h ha hcl hcd htl hvl hpl hpd hp n0 n1 n2 n3 n4 V a0 a1 a2 a3 a4 a5 a7
 change Calls Tryz.prog 45 #[ptr wb,.agg #[.int .i64 2,.string ⟨List.toArray x⟩,.int .i64 m,.int .i64 p,.slice (some ⟨g,o,none⟩) 6 c]] w _
 simp only [la,lc,ln] at hlen
 generalize HX : (([77,79,68,85,76,69,32] ++ (x ++ ([59] ++ ([10] ++ (yj il ++ (zy [67,79,78,83,84] (yt f) cl ++ (zy [84,89,80,69] yu tl ++ zy VARw zF vl))))))) ++ (yA f pl ++ (([69,78,68,32] ++ (x ++ ([46] ++ [10])))))) = XX
 have d2 := zb HX; clear HX
 go_enter Tryz.func45,Tryz.ntmps45
 go_wp2_with fail; go_at_call 77; refine (ky w0 wb _ _ 0 [77,79,68,85,76,69,32] x [59] _ _ (by simp) (U.out.grown (zf gan _))).mono ?_; rintro e w1 ⟨rfl,j1,k1⟩; have s := zb j1; have K1 := zb ((WK.grown U.out (zf gan _)).trans k1); have t := zb (a6.out.step ((WK.grown (U.out.grown (zf gan _)) grn).trans k1)); have H := WK.cell ((WK.grown (U.out.grown (zf gan _)) grn).trans k1) a6.out d1.out; have d9 := t.out.lt; have y := zb (B0.out.step ((WK.grown (U.out.grown (zf gan _)) grn).trans k1)); obtain ⟨_,_,_,_,a8⟩ := y.out.box.p
 have f0 := y.out.fr.lt; have I := (X.out.kept s.out.gb).c4; have f1 := (Y.out.kept s.out.gb).c4; have f2 := (Z.out.kept s.out.gb).c4; have f3 := (ND.out.kept s.out.gb).c4; have f4 := (NE.out.kept s.out.gb).c4; have f5 := (R.out.kept s.out.gb).c4; have f6 := zc I; clear j1 k1; go_wp2_with fail; refine wp_region_held_drew (S := (fun w' => w'.cell? ⟨w.heap.size,0,none⟩ = some (ptr wb) /\ w'.cell? ⟨w.heap.size + 1,4,none⟩ = some (.slice (some ⟨g,o,none⟩) 6 c) /\ w'.cell? ⟨g,o + 4,none⟩ = some s0)) (by kernel_rfl) ?_ (fun hHeld => ?_)
 ·exact ⟨zg (ze grn) H,zg (ze grn) a8,zg (ze grn) I⟩
 refine tq 0 ?_; refine tq 1 ?_; refine tq 2 ?_; refine tq 3 ?_; refine tq 4 ?_; refine tq 5 ?_; refine rd 6 rfl fun KK hKK => ?_
 go_simp
 go_at_call 78; refine (kw w0 wb _ _ 0 il _ (s.out.grown (ze grn)) A0.out (by first | omega | (simp only [la,lc,ln,zr]; omega))).mono ?_; rintro e w2 ⟨rfl,j2,k2⟩; have n := zb j2; have K2 := zb (K1.out.trans ((WK.grown s.out (ze grn)).trans k2)); have d := zb (t.out.step ((WK.grown s.out (ze grn)).trans k2)); have j := WK.cell ((WK.grown s.out (ze grn)).trans k2) t.out H; have f7 := d.out.lt; have z := zb (y.out.step ((WK.grown s.out (ze grn)).trans k2)); obtain ⟨_,_,_,_,J⟩ := z.out.box.p
 have f8 := z.out.fr.lt; have K := (X.out.kept n.out.gb).c4; have a9 := (Y.out.kept n.out.gb).c4; have f9 := (Z.out.kept n.out.gb).c4; have g0 := (ND.out.kept n.out.gb).c4; have g1 := (NE.out.kept n.out.gb).c4; have g2 := (R.out.kept n.out.gb).c4; have g3 := zc K; clear j2 k2
 go_simp
 refine hKK.out _ _ ⟨j,J,K⟩ fun hHeld => ?_
 clear hKK KK; refine wpAnyH_done (by kernel_rfl) ?_ _; clear hHeld; go_wp2_with fail; refine wp_region_held_drew (S := (fun w' => w'.cell? ⟨w.heap.size,0,none⟩ = some (ptr wb) /\ w'.cell? ⟨w.heap.size + 1,4,none⟩ = some (.slice (some ⟨g,o,none⟩) 6 c) /\ w'.cell? ⟨g,o + 5 + 4,none⟩ = some s1)) (by kernel_rfl) ?_ (fun hHeld => ?_)
 ·exact ⟨zg (ze grn) j,zg (ze grn) J,zg (ze grn) a9⟩
 refine tq 0 ?_; refine tq 1 ?_; refine tq 2 ?_; refine tq 3 ?_; refine tq 4 ?_; refine tq 5 ?_; refine tq 6 ?_; refine rd 7 rfl fun KK hKK => ?_
 go_simp
 go_at_call 79; refine (y9 w0 wb _ _ [67,79,78,83,84] cl _ _ _ _ (yt f) (n.out.grown (ze grn)) A1.out ((EW.const HP.out c5.out c6.out d.out j 1).step (WK.grown n.out (ze grn))) tc).mono ?_; rintro e w3 ⟨rfl,j3,L⟩; have r := zb j3; have K3 := zb (K2.out.trans ((WK.grown n.out (ze grn)).trans L)); have k := zb (d.out.step ((WK.grown n.out (ze grn)).trans L)); have l := WK.cell ((WK.grown n.out (ze grn)).trans L) d.out j; have g4 := k.out.lt; have A := zb (z.out.step ((WK.grown n.out (ze grn)).trans L)); obtain ⟨_,_,_,_,M⟩ := A.out.box.p
 have g5 := A.out.fr.lt; have b0 := (X.out.kept r.out.gb).c4; have b1 := (Y.out.kept r.out.gb).c4; have b2 := (Z.out.kept r.out.gb).c4; have g6 := (ND.out.kept r.out.gb).c4; have g7 := (NE.out.kept r.out.gb).c4; have g8 := (R.out.kept r.out.gb).c4; have g9 := zc b0; clear j3 L
 go_simp
 refine hKK.out _ _ ⟨l,M,b1⟩ fun hHeld => ?_
 clear hKK KK; refine wpAnyH_done (by kernel_rfl) ?_ _; clear hHeld; go_wp2_with fail; refine wp_region_held_drew (S := (fun w' => w'.cell? ⟨w.heap.size,0,none⟩ = some (ptr wb) /\ w'.cell? ⟨w.heap.size + 1,4,none⟩ = some (.slice (some ⟨g,o,none⟩) 6 c) /\ w'.cell? ⟨g,o + 10 + 4,none⟩ = some s2)) (by kernel_rfl) ?_ (fun hHeld => ?_)
 ·exact ⟨zg (ze grn) l,zg (ze grn) M,zg (ze grn) b2⟩
 refine tq 0 ?_; refine tq 1 ?_; refine tq 2 ?_; refine tq 3 ?_; refine tq 4 ?_; refine tq 5 ?_; refine tq 6 ?_; refine rd 7 rfl fun KK hKK => ?_
 go_simp
 go_at_call 79; refine (y9 w0 wb _ _ [84,89,80,69] tl _ _ _ _ yu (r.out.grown (ze grn)) A2.out ((EW.named HP.out c7.out k.out l 1).step (WK.grown r.out (ze grn))) fP).mono ?_; rintro e w4 ⟨rfl,j4,k4⟩; have B := zb j4; have K4 := zb (K3.out.trans ((WK.grown r.out (ze grn)).trans k4)); have C := zb (k.out.step ((WK.grown r.out (ze grn)).trans k4)); have D := WK.cell ((WK.grown r.out (ze grn)).trans k4) k.out l; have h0 := C.out.lt; have E := zb (A.out.step ((WK.grown r.out (ze grn)).trans k4)); obtain ⟨_,_,_,_,N⟩ := E.out.box.p
 have h1 := E.out.fr.lt; have b3 := (X.out.kept B.out.gb).c4; have h2 := (Y.out.kept B.out.gb).c4; have b4 := (Z.out.kept B.out.gb).c4; have b5 := (ND.out.kept B.out.gb).c4; have h3 := (NE.out.kept B.out.gb).c4; have h4 := (R.out.kept B.out.gb).c4; have h5 := zc b3; clear j4 k4
 go_simp
 refine hKK.out _ _ ⟨D,N,b4⟩ fun hHeld => ?_
 clear hKK KK; refine wpAnyH_done (by kernel_rfl) ?_ _; clear hHeld; go_wp2_with fail; refine wp_region_held_drew (S := (fun w' => w'.cell? ⟨w.heap.size,0,none⟩ = some (ptr wb) /\ w'.cell? ⟨w.heap.size + 1,4,none⟩ = some (.slice (some ⟨g,o,none⟩) 6 c) /\ w'.cell? ⟨g,o + 15 + 4,none⟩ = some s3)) (by kernel_rfl) ?_ (fun hHeld => ?_)
 ·exact ⟨zg (ze grn) D,zg (ze grn) N,zg (ze grn) b5⟩
 refine tq 0 ?_; refine tq 1 ?_; refine tq 2 ?_; refine tq 3 ?_; refine tq 4 ?_; refine tq 5 ?_; refine tq 6 ?_; refine tq 7 ?_; refine rd 8 rfl fun KK hKK => ?_
 go_simp
 go_at_call 79; refine (y9 w0 wb _ _ VARw vl _ _ _ _ zF (B.out.grown (ze grn)) A3.out (EW.typed c8.out _ 1) ul).mono ?_; rintro e w5 ⟨rfl,j5,k5⟩; have Q := zb j5; have K5 := zb (K4.out.trans ((WK.grown B.out (ze grn)).trans k5)); have F := zb (C.out.step ((WK.grown B.out (ze grn)).trans k5)); have O := WK.cell ((WK.grown B.out (ze grn)).trans k5) C.out D; have h6 := F.out.lt; have G := zb (E.out.step ((WK.grown B.out (ze grn)).trans k5)); obtain ⟨_,_,_,_,b6⟩ := G.out.box.p
 have h7 := G.out.fr.lt; have b7 := (X.out.kept Q.out.gb).c4; have h8 := (Y.out.kept Q.out.gb).c4; have h9 := (Z.out.kept Q.out.gb).c4; have b8 := (ND.out.kept Q.out.gb).c4; have j0 := (NE.out.kept Q.out.gb).c4; have j6 := (R.out.kept Q.out.gb).c4; have j7 := zc b7; clear j5 k5
 go_simp
 refine hKK.out _ _ ⟨O,b6,b8⟩ fun hHeld => ?_
 clear hKK KK; refine wpAnyH_done (by kernel_rfl) ?_ _; clear hHeld
 have JJ : Hid (Wr w0 wb w5 (S ++ ([77,79,68,85,76,69,32] ++ (x ++ ([59] ++ ([10] ++ (yj il ++ (zy [67,79,78,83,84] (yt f) cl ++ (zy [84,89,80,69] yu tl ++ zy VARw zF vl)))))))) 0) := by
  show Wr _ _ _ _ _
  have J9 := Q.out; simp only [List.append_assoc,show zD 0 = [] from rfl,List.nil_append] at J9 ⊢
  exact J9
 go_wp2_with fail
 go_loopw [50] (fun iv wr => ∃ i : Nat,i <= pl.length /\ iv = .int .i64 ↑i /\ Hid (Wr w0 wb wr (S ++ (([77,79,68,85,76,69,32] ++ (x ++ ([59] ++ ([10] ++ (yj il ++ (zy [67,79,78,83,84] (yt f) cl ++ (zy [84,89,80,69] yu tl ++ zy VARw zF vl))))))) ++ yA f (pl.take i))) 0) /\ Hid (WK wb w wr) /\ Hid (Fr wb wr w.heap.size) /\ Hid (wr.cell? ⟨w.heap.size,0,none⟩ = some (ptr wb)) /\ Hid (FB wb wr (w.heap.size + 1) (.mk 2 x m p [.mk 1 [] 0 q0 il,.mk 1 [] 0 q1 cl,.mk 1 [] 0 q2 tl,.mk 1 [] 0 q3 vl,.mk 1 [] 0 q4 pl,.mk 1 [] 0 q5 []]) (.slice (some ⟨g,o,none⟩) 6 c))) (fun iv _ => pl.length - (intOf iv).toNat)
 case atStart => exact ⟨0,Nat.zero_le _,rfl,by show Wr _ _ _ _ _; simpa [yA,zu] using JJ.out.grown grn,K5.out.trans (WK.grown JJ.out grn),F.out.step (WK.grown JJ.out grn),WK.cell (WK.grown JJ.out grn) F.out O,G.out.step (WK.grown JJ.out grn)⟩
 case round =>
  obtain ⟨i,_,rfl,J1,KL,FL,DL,BL⟩ := hrel; have dl := DL.out; have fl := FL.out.lt; cases BL.out.box.q
  have bl := BL.out.fr.lt; have nf := (R.out.kept J1.out.gb).c4; have gl := zc nf
  by_cases d3 : i < pl.length
  ·obtain ⟨u,hu⟩ : ∃ u,pl[i]? = some u := ⟨_,List.getElem?_eq_getElem d3⟩
   obtain ⟨_,_,_,e1,V,fu,au⟩ := A4.out.node i u hu; cases e1; obtain ⟨_,_,rfl,_,_⟩ := au.form; obtain ⟨_,_,_,_,_⟩ := V.kept J1.out.gb; have HT := zb (qH (f := f) hu); have b9 := dY f pl (i + 1); have AU := zb au; have d4 := zb (c9.out u (List.mem_of_getElem? hu)); have d5 := zb (d0.out u (List.mem_of_getElem? hu)); rw [HT.out] at b9; simp only [List.length_append] at b9; clear hu fu au V; go_wp2_with fail; go_at_call 87; refine (dP w0 wb HP.out f hf _ _ u _ (J1.out.grown gan) AU.out d4.out (Nat.le_trans d5.out (by omega)) (by first | omega | (simp only [la,lc,ln]; omega))).mono ?_; rintro e x3 ⟨rfl,j3,L⟩; have kk := (WK.grown J1.out gan).trans L
   have J3 : Hid (Wr w0 wb x3 (S ++ (([77,79,68,85,76,69,32] ++ (x ++ ([59] ++ ([10] ++ (yj il ++ (zy [67,79,78,83,84] (yt f) cl ++ (zy [84,89,80,69] yu tl ++ zy VARw zF vl))))))) ++ yA f (pl.take (i + 1)))) 0) := by show Wr _ _ _ _ _; rw [HT.out]; simpa only [List.append_assoc] using j3
   have K3 := zb (KL.out.trans kk); have F3 := zb (FL.out.step kk); have D3 : Hid (x3.cell? ⟨w.heap.size,0,none⟩ = some (ptr wb)) := kk.cell FL.out DL.out; have B3 := zb (BL.out.step kk); clear j3 L kk; go_wp2_with fail
   exact ⟨⟨i + 1,by omega,by go_num,J3,K3,F3,D3,B3⟩,by simp [intOf]; omega⟩
  ·have J2 : Hid (Wr w0 wb wr (S ++ (([77,79,68,85,76,69,32] ++ (x ++ ([59] ++ ([10] ++ (yj il ++ (zy [67,79,78,83,84] (yt f) cl ++ (zy [84,89,80,69] yu tl ++ zy VARw zF vl))))))) ++ yA f pl)) 0) := by
    have := J1.out; rw [List.take_of_length_le (by omega)] at this
    exact this
   go_wp2_with fail; go_at_call 77; refine (ky w0 wb _ _ 0 [69,78,68,32] x [46] _ _ (by simp) (J2.out.grown grn)).mono ?_; rintro e y3 ⟨rfl,c1,c2⟩; have d6 := zb c1; have b := (WK.grown J2.out grn).trans c2; have d7 := zb (KL.out.trans b); have d8 := zb (FL.out.step b); have j8 := b.cell FL.out dl; have j9 := d8.out.lt; have c3 := zb (BL.out.step b); cases c3.out.box.q
   have k0 := c3.out.fr.lt; clear c1 c2 b; go_wp2_with fail
   go_end0
   refine ⟨rfl,?_,d7.out⟩; rw [<- d2.out]; have J9 := d6.out; simp only [List.append_assoc,show zD 0 = [] from rfl,List.nil_append] at J9 ⊢
   exact J9
theorem fR (w0 : World) (wb : Nat) (hp : PT w0) (f : Nat) (hf : f < 1000) (w : World) (S : Bs) (x : Bs) (m p q0 q1 q2 q3 q4 q5 : Int) (il cl tl vl pl al : List T) (sv : Value) (h : Wr w0 wb w S 0) (ha : AT w0 (T.mk 2 x m p [.mk 1 [] 0 q0 il,.mk 1 [] 0 q1 cl,.mk 1 [] 0 q2 tl,.mk 1 [] 0 q3 vl,.mk 1 [] 0 q4 pl,.mk 1 [] 0 q5 al]).subs sv) (Z : Bs) (hcl : ∀ v ∈ cl,Well (.declared 4 1 .expression) v) (hcd : ∀ v ∈ cl,zS v <= f) (htl : ∀ v ∈ tl,Well (.declared 5 1 .typeItself) v) (hvl : ∀ v ∈ vl,Well (.declared 6 1 .typeName) v) (hpl : ∀ v ∈ pl,Well .procedure v) (hpd : ∀ v ∈ pl,zS v <= f) (hz : LW w0 wb 0 al Z) (hne : ¬ al = []) (hlen : S.length + (([77,79,68,85,76,69,32] ++ (x ++ ([59] ++ ([10] ++ (yj il ++ (zy [67,79,78,83,84] (yt f) cl ++ (zy [84,89,80,69] yu tl ++ zy VARw zF vl))))))) ++ (yA f pl ++ ([66,69,71,73,78] ++ ([10] ++ (Z ++ ([69,78,68,32] ++ (x ++ ([46] ++ [10])))))))).length <= 1000000000) :
  Calls Tryz.prog 45 #[ptr wb,zq (.mk 2 x m p [.mk 1 [] 0 q0 il,.mk 1 [] 0 q1 cl,.mk 1 [] 0 q2 tl,.mk 1 [] 0 q3 vl,.mk 1 [] 0 q4 pl,.mk 1 [] 0 q5 al]) sv] w (WP w0 wb w S 0 (([77,79,68,85,76,69,32] ++ (x ++ ([59] ++ ([10] ++ (yj il ++ (zy [67,79,78,83,84] (yt f) cl ++ (zy [84,89,80,69] yu tl ++ zy VARw zF vl))))))) ++ (yA f pl ++ ([66,69,71,73,78] ++ ([10] ++ (Z ++ ([69,78,68,32] ++ (x ++ ([46] ++ [10]))))))))) := by
 have HW := zb h; have m1 := h.lt; have HP := zb hp; have d3 := zb hcl; have d4 := zb hcd; have d5 := zb htl; have d6 := zb hvl; have d7 := zb hpl; have d8 := zb hpd; obtain ⟨g,o,c,s0,s1,s2,s3,s4,s5,rfl,_,_,⟨n0,a0⟩,⟨n1,a1⟩,⟨n2,a2⟩,⟨n3,a3⟩,⟨n4,a4⟩,⟨n5,a5⟩⟩ := AT.six ha; obtain ⟨_,_,rfl,_,_⟩ := AT.slice (show AT w0 pl s4 from a4); obtain ⟨_,_,rfl,_,_⟩ := AT.slice (show AT w0 al s5 from a5); have HZ := zb hz; clear hz
 have f9 : 0 < al.length := by cases al; exact absurd rfl hne; simp
 have NA := zb n0; have NB := zb n1; have NC := zb n2; have ND := zb n3; have NE := zb n4; have NF := zb n5; have A0 : Hid (AT w0 il _) := a0; have A1 : Hid (AT w0 cl _) := a1; have A2 : Hid (AT w0 tl _) := a2; have A3 : Hid (AT w0 vl _) := a3; have A4 : Hid (AT w0 pl _) := a4; have A5 : Hid (AT w0 al _) := a5; have m2 := zc (n0.kept h.gb).c0; have a6 := zb (Fr.new h (zf (zf grn (.cells #[ptr wb] 69)) (.cells #[.int .i64 2,.string ⟨List.toArray x⟩,.int .i64 m,.int .i64 p,.slice (some ⟨g,o,none⟩) 6 c] 24)) (Nat.le_refl _) (by simp; omega))
 have a7 : ((w.alloc (.cells #[ptr wb] 69)).alloc (.cells #[.int .i64 2,.string ⟨List.toArray x⟩,.int .i64 m,.int .i64 p,.slice (some ⟨g,o,none⟩) 6 c] 24)).cell? ⟨w.heap.size,0,none⟩ = some (ptr wb) := by rw [World.cell?_alloc_lt _ _ _ (by simp)]; exact uj w _ _
 have B0 := zb (FB.newBX h 2 x m p [.mk 1 [] 0 q0 il,.mk 1 [] 0 q1 cl,.mk 1 [] 0 q2 tl,.mk 1 [] 0 q3 vl,.mk 1 [] 0 q4 pl,.mk 1 [] 0 q5 al] (.slice (some ⟨g,o,none⟩) 6 c) 24 (zf grn (.cells #[ptr wb] 69)) (w.heap.size + 1) (by simp)); have d9 := zb a7; clear h ha hcl hcd htl hvl hpl hpd hp n0 n1 n2 n3 n4 n5 a0 a1 a2 a3 a4 a5 a7
 change Calls Tryz.prog 45 #[ptr wb,.agg #[.int .i64 2,.string ⟨List.toArray x⟩,.int .i64 m,.int .i64 p,.slice (some ⟨g,o,none⟩) 6 c]] w _
 simp only [la,lc,ln] at hlen
 generalize HX : (([77,79,68,85,76,69,32] ++ (x ++ ([59] ++ ([10] ++ (yj il ++ (zy [67,79,78,83,84] (yt f) cl ++ (zy [84,89,80,69] yu tl ++ zy VARw zF vl))))))) ++ (yA f pl ++ ([66,69,71,73,78] ++ ([10] ++ (Z ++ ([69,78,68,32] ++ (x ++ ([46] ++ [10])))))))) = XX
 have f0 := zb HX; clear HX
 go_enter Tryz.func45,Tryz.ntmps45
 go_wp2_with fail; go_at_call 77; refine (ky w0 wb _ _ 0 [77,79,68,85,76,69,32] x [59] _ _ (by simp) (HW.out.grown (zf gan _))).mono ?_; rintro e w1 ⟨rfl,j1,k1⟩; have t := zb j1; have K1 := zb ((WK.grown HW.out (zf gan _)).trans k1); have y := zb (a6.out.step ((WK.grown (HW.out.grown (zf gan _)) grn).trans k1)); have I := WK.cell ((WK.grown (HW.out.grown (zf gan _)) grn).trans k1) a6.out d9.out; have g0 := y.out.lt; have z := zb (B0.out.step ((WK.grown (HW.out.grown (zf gan _)) grn).trans k1)); obtain ⟨_,_,_,_,a8⟩ := z.out.box.p
 have g1 := z.out.fr.lt; have J := (NA.out.kept t.out.gb).c4; have g2 := (NB.out.kept t.out.gb).c4; have g3 := (NC.out.kept t.out.gb).c4; have g4 := (ND.out.kept t.out.gb).c4; have g5 := (NE.out.kept t.out.gb).c4; have g6 := (NF.out.kept t.out.gb).c4; have g7 := zc J; clear j1 k1; go_wp2_with fail; refine wp_region_held_drew (S := (fun w' => w'.cell? ⟨w.heap.size,0,none⟩ = some (ptr wb) /\ w'.cell? ⟨w.heap.size + 1,4,none⟩ = some (.slice (some ⟨g,o,none⟩) 6 c) /\ w'.cell? ⟨g,o + 4,none⟩ = some s0)) (by kernel_rfl) ?_ (fun hHeld => ?_)
 ·exact ⟨zg (ze grn) I,zg (ze grn) a8,zg (ze grn) J⟩
 refine tq 0 ?_; refine tq 1 ?_; refine tq 2 ?_; refine tq 3 ?_; refine tq 4 ?_; refine tq 5 ?_; refine rd 6 rfl fun KK hKK => ?_
 go_simp
 go_at_call 78; refine (kw w0 wb _ _ 0 il _ (t.out.grown (ze grn)) A0.out (by first | omega | (simp only [la,lc,ln,zr]; omega))).mono ?_; rintro e w2 ⟨rfl,j2,k2⟩; have r := zb j2; have K2 := zb (K1.out.trans ((WK.grown t.out (ze grn)).trans k2)); have j := zb (y.out.step ((WK.grown t.out (ze grn)).trans k2)); have k := WK.cell ((WK.grown t.out (ze grn)).trans k2) y.out I; have g8 := j.out.lt; have A := zb (z.out.step ((WK.grown t.out (ze grn)).trans k2)); obtain ⟨_,_,_,_,K⟩ := A.out.box.p
 have g9 := A.out.fr.lt; have L := (NA.out.kept r.out.gb).c4; have a9 := (NB.out.kept r.out.gb).c4; have h0 := (NC.out.kept r.out.gb).c4; have h1 := (ND.out.kept r.out.gb).c4; have h2 := (NE.out.kept r.out.gb).c4; have h3 := (NF.out.kept r.out.gb).c4; have h4 := zc L; clear j2 k2
 go_simp
 refine hKK.out _ _ ⟨k,K,L⟩ fun hHeld => ?_
 clear hKK KK; refine wpAnyH_done (by kernel_rfl) ?_ _; clear hHeld; go_wp2_with fail; refine wp_region_held_drew (S := (fun w' => w'.cell? ⟨w.heap.size,0,none⟩ = some (ptr wb) /\ w'.cell? ⟨w.heap.size + 1,4,none⟩ = some (.slice (some ⟨g,o,none⟩) 6 c) /\ w'.cell? ⟨g,o + 5 + 4,none⟩ = some s1)) (by kernel_rfl) ?_ (fun hHeld => ?_)
 ·exact ⟨zg (ze grn) k,zg (ze grn) K,zg (ze grn) a9⟩
 refine tq 0 ?_; refine tq 1 ?_; refine tq 2 ?_; refine tq 3 ?_; refine tq 4 ?_; refine tq 5 ?_; refine tq 6 ?_; refine rd 7 rfl fun KK hKK => ?_
 go_simp
 go_at_call 79; refine (y9 w0 wb _ _ [67,79,78,83,84] cl _ _ _ _ (yt f) (r.out.grown (ze grn)) A1.out ((EW.const HP.out d3.out d4.out j.out k 1).step (WK.grown r.out (ze grn))) tc).mono ?_; rintro e w3 ⟨rfl,j3,M⟩; have s := zb j3; have K3 := zb (K2.out.trans ((WK.grown r.out (ze grn)).trans M)); have l := zb (j.out.step ((WK.grown r.out (ze grn)).trans M)); have n := WK.cell ((WK.grown r.out (ze grn)).trans M) j.out k; have h5 := l.out.lt; have B := zb (A.out.step ((WK.grown r.out (ze grn)).trans M)); obtain ⟨_,_,_,_,N⟩ := B.out.box.p
 have h6 := B.out.fr.lt; have b0 := (NA.out.kept s.out.gb).c4; have b1 := (NB.out.kept s.out.gb).c4; have b2 := (NC.out.kept s.out.gb).c4; have h7 := (ND.out.kept s.out.gb).c4; have h8 := (NE.out.kept s.out.gb).c4; have h9 := (NF.out.kept s.out.gb).c4; have j0 := zc b0; clear j3 M
 go_simp
 refine hKK.out _ _ ⟨n,N,b1⟩ fun hHeld => ?_
 clear hKK KK; refine wpAnyH_done (by kernel_rfl) ?_ _; clear hHeld; go_wp2_with fail; refine wp_region_held_drew (S := (fun w' => w'.cell? ⟨w.heap.size,0,none⟩ = some (ptr wb) /\ w'.cell? ⟨w.heap.size + 1,4,none⟩ = some (.slice (some ⟨g,o,none⟩) 6 c) /\ w'.cell? ⟨g,o + 10 + 4,none⟩ = some s2)) (by kernel_rfl) ?_ (fun hHeld => ?_)
 ·exact ⟨zg (ze grn) n,zg (ze grn) N,zg (ze grn) b2⟩
 refine tq 0 ?_; refine tq 1 ?_; refine tq 2 ?_; refine tq 3 ?_; refine tq 4 ?_; refine tq 5 ?_; refine tq 6 ?_; refine rd 7 rfl fun KK hKK => ?_
 go_simp
 go_at_call 79; refine (y9 w0 wb _ _ [84,89,80,69] tl _ _ _ _ yu (s.out.grown (ze grn)) A2.out ((EW.named HP.out d5.out l.out n 1).step (WK.grown s.out (ze grn))) fP).mono ?_; rintro e w4 ⟨rfl,j4,k4⟩; have C := zb j4; have K4 := zb (K3.out.trans ((WK.grown s.out (ze grn)).trans k4)); have D := zb (l.out.step ((WK.grown s.out (ze grn)).trans k4)); have E := WK.cell ((WK.grown s.out (ze grn)).trans k4) l.out n; have j6 := D.out.lt; have F := zb (B.out.step ((WK.grown s.out (ze grn)).trans k4)); obtain ⟨_,_,_,_,O⟩ := F.out.box.p
 have j7 := F.out.fr.lt; have b3 := (NA.out.kept C.out.gb).c4; have j8 := (NB.out.kept C.out.gb).c4; have b4 := (NC.out.kept C.out.gb).c4; have b5 := (ND.out.kept C.out.gb).c4; have j9 := (NE.out.kept C.out.gb).c4; have k0 := (NF.out.kept C.out.gb).c4; have k6 := zc b3; clear j4 k4
 go_simp
 refine hKK.out _ _ ⟨E,O,b4⟩ fun hHeld => ?_
 clear hKK KK; refine wpAnyH_done (by kernel_rfl) ?_ _; clear hHeld; go_wp2_with fail; refine wp_region_held_drew (S := (fun w' => w'.cell? ⟨w.heap.size,0,none⟩ = some (ptr wb) /\ w'.cell? ⟨w.heap.size + 1,4,none⟩ = some (.slice (some ⟨g,o,none⟩) 6 c) /\ w'.cell? ⟨g,o + 15 + 4,none⟩ = some s3)) (by kernel_rfl) ?_ (fun hHeld => ?_)
 ·exact ⟨zg (ze grn) E,zg (ze grn) O,zg (ze grn) b5⟩
 refine tq 0 ?_; refine tq 1 ?_; refine tq 2 ?_; refine tq 3 ?_; refine tq 4 ?_; refine tq 5 ?_; refine tq 6 ?_; refine tq 7 ?_; refine rd 8 rfl fun KK hKK => ?_
 go_simp
 go_at_call 79; refine (y9 w0 wb _ _ VARw vl _ _ _ _ zF (C.out.grown (ze grn)) A3.out (EW.typed d6.out _ 1) ul).mono ?_; rintro e w5 ⟨rfl,j5,k5⟩; have R := zb j5; have K5 := zb (K4.out.trans ((WK.grown C.out (ze grn)).trans k5)); have G := zb (D.out.step ((WK.grown C.out (ze grn)).trans k5)); have Q := WK.cell ((WK.grown C.out (ze grn)).trans k5) D.out E; have k7 := G.out.lt; have H := zb (F.out.step ((WK.grown C.out (ze grn)).trans k5)); obtain ⟨_,_,_,_,b6⟩ := H.out.box.p
 have k8 := H.out.fr.lt; have b7 := (NA.out.kept R.out.gb).c4; have k9 := (NB.out.kept R.out.gb).c4; have l0 := (NC.out.kept R.out.gb).c4; have b8 := (ND.out.kept R.out.gb).c4; have l1 := (NE.out.kept R.out.gb).c4; have l2 := (NF.out.kept R.out.gb).c4; have l3 := zc b7; clear j5 k5
 go_simp
 refine hKK.out _ _ ⟨Q,b6,b8⟩ fun hHeld => ?_
 clear hKK KK; refine wpAnyH_done (by kernel_rfl) ?_ _; clear hHeld
 have JJ : Hid (Wr w0 wb w5 (S ++ ([77,79,68,85,76,69,32] ++ (x ++ ([59] ++ ([10] ++ (yj il ++ (zy [67,79,78,83,84] (yt f) cl ++ (zy [84,89,80,69] yu tl ++ zy VARw zF vl)))))))) 0) := by
  show Wr _ _ _ _ _
  have J9 := R.out; simp only [List.append_assoc,show zD 0 = [] from rfl,List.nil_append] at J9 ⊢
  exact J9
 go_wp2_with fail
 go_loopw [50] (fun iv wr => ∃ i : Nat,i <= pl.length /\ iv = .int .i64 ↑i /\ Hid (Wr w0 wb wr (S ++ (([77,79,68,85,76,69,32] ++ (x ++ ([59] ++ ([10] ++ (yj il ++ (zy [67,79,78,83,84] (yt f) cl ++ (zy [84,89,80,69] yu tl ++ zy VARw zF vl))))))) ++ yA f (pl.take i))) 0) /\ Hid (WK wb w wr) /\ Hid (Fr wb wr w.heap.size) /\ Hid (wr.cell? ⟨w.heap.size,0,none⟩ = some (ptr wb)) /\ Hid (FB wb wr (w.heap.size + 1) (.mk 2 x m p [.mk 1 [] 0 q0 il,.mk 1 [] 0 q1 cl,.mk 1 [] 0 q2 tl,.mk 1 [] 0 q3 vl,.mk 1 [] 0 q4 pl,.mk 1 [] 0 q5 al]) (.slice (some ⟨g,o,none⟩) 6 c))) (fun iv _ => pl.length - (intOf iv).toNat)
 case atStart => exact ⟨0,Nat.zero_le _,rfl,by show Wr _ _ _ _ _; simpa [yA,zu] using JJ.out.grown grn,K5.out.trans (WK.grown JJ.out grn),G.out.step (WK.grown JJ.out grn),WK.cell (WK.grown JJ.out grn) G.out Q,H.out.step (WK.grown JJ.out grn)⟩
 case round =>
  obtain ⟨i,_,rfl,J1,KL,FL,DL,BL⟩ := hrel; have dl := DL.out; have fl := FL.out.lt; cases BL.out.box.q
  have bl := BL.out.fr.lt; have nf := (NF.out.kept J1.out.gb).c4; have gl := zc nf
  by_cases f1 : i < pl.length
  ·obtain ⟨u,hu⟩ : ∃ u,pl[i]? = some u := ⟨_,List.getElem?_eq_getElem f1⟩
   obtain ⟨_,_,_,e1,n5,fu,au⟩ := A4.out.node i u hu; cases e1; obtain ⟨_,_,rfl,_,_⟩ := au.form; obtain ⟨_,_,_,_,_⟩ := n5.kept J1.out.gb; have HT := zb (qH (f := f) hu); have b9 := dY f pl (i + 1); have AU := zb au; have f2 := zb (d7.out u (List.mem_of_getElem? hu)); have f3 := zb (d8.out u (List.mem_of_getElem? hu)); rw [HT.out] at b9; simp only [List.length_append] at b9; clear hu fu au n5; go_wp2_with fail; go_at_call 87; refine (dP w0 wb HP.out f hf _ _ u _ (J1.out.grown gan) AU.out f2.out (Nat.le_trans f3.out (by omega)) (by first | omega | (simp only [la,lc,ln]; omega))).mono ?_; rintro e x3 ⟨rfl,j3,M⟩; have kk := (WK.grown J1.out gan).trans M
   have J3 : Hid (Wr w0 wb x3 (S ++ (([77,79,68,85,76,69,32] ++ (x ++ ([59] ++ ([10] ++ (yj il ++ (zy [67,79,78,83,84] (yt f) cl ++ (zy [84,89,80,69] yu tl ++ zy VARw zF vl))))))) ++ yA f (pl.take (i + 1)))) 0) := by show Wr _ _ _ _ _; rw [HT.out]; simpa only [List.append_assoc] using j3
   have K3 := zb (KL.out.trans kk); have F3 := zb (FL.out.step kk); have D3 : Hid (x3.cell? ⟨w.heap.size,0,none⟩ = some (ptr wb)) := kk.cell FL.out DL.out; have B3 := zb (BL.out.step kk); clear j3 M kk; go_wp2_with fail
   exact ⟨⟨i + 1,by omega,by go_num,J3,K3,F3,D3,B3⟩,by simp [intOf]; omega⟩
  ·have J2 : Hid (Wr w0 wb wr (S ++ (([77,79,68,85,76,69,32] ++ (x ++ ([59] ++ ([10] ++ (yj il ++ (zy [67,79,78,83,84] (yt f) cl ++ (zy [84,89,80,69] yu tl ++ zy VARw zF vl))))))) ++ yA f pl)) 0) := by
    have := J1.out; rw [List.take_of_length_le (by omega)] at this
    exact this
   go_wp2_with fail; go_at_call 77; refine (kL w0 wb _ _ 0 [66,69,71,73,78] _ _ (by simp) (J2.out.grown grn)).mono ?_; rintro e y1 ⟨rfl,c1,c2⟩; have c3 := zb c1; have a := (WK.grown J2.out grn).trans c2; have f4 := zb (KL.out.trans a); have U := zb (FL.out.step a); have c5 := a.cell FL.out dl; have l4 := U.out.lt; have V := zb (BL.out.step a); cases V.out.box.q
   have l5 := V.out.fr.lt; clear c1 c2 a; go_wp2_with fail; go_at_call 88; refine (HZ.out _ _ _ (c3.out.grown grn) A5.out (by first | omega | (simp only [la,lc,ln,zr]; omega))).mono ?_; rintro e y2 ⟨rfl,c6,c7⟩; have c8 := zb c6; have b := (WK.grown c3.out grn).trans c7; have f5 := zb (f4.out.trans b); have X := zb (U.out.step b); have c9 := b.cell U.out c5; have l6 := X.out.lt; have Y := zb (V.out.step b); cases Y.out.box.q
   have l7 := Y.out.fr.lt; clear c6 c7 b; go_wp2_with fail; go_at_call 77; refine (ky w0 wb _ _ 0 [69,78,68,32] x [46] _ _ (by simp) (c8.out.grown grn)).mono ?_; rintro e y3 ⟨rfl,d0,d1⟩; have f6 := zb d0; have d := (WK.grown c8.out grn).trans d1; have f7 := zb (f5.out.trans d); have f8 := zb (X.out.step d); have l8 := d.cell X.out c9; have l9 := f8.out.lt; have d2 := zb (Y.out.step d); cases d2.out.box.q
   have m0 := d2.out.fr.lt; clear d0 d1 d; go_wp2_with fail
   go_end0
   refine ⟨rfl,?_,f7.out⟩; rw [<- f0.out]; have J9 := f6.out; simp only [List.append_assoc,show zD 0 = [] from rfl,List.nil_append] at J9 ⊢
   exact J9
end Go.Proofs.YtifapidjkelnfaaGreatDoor
