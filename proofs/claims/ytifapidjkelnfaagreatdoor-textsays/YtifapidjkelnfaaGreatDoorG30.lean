/- The document's texts: every procedure,every module. -/
import Derived.Test.YtifapidjkelnfaaGreatDoorG27
import Derived.Test.YtifapidjkelnfaaGreatDoorG02
import Derived.Test.YtifapidjkelnfaaGreatDoorG29
namespace Go.Proofs.YtifapidjkelnfaaGreatDoor
open Go.RowKit
set_option maxHeartbeats 1000000
theorem qU (word : Bs) (hw : word.length <= 5) (tx : T -> Bs) (c : Nat) (l : List T) (h : ∀ t ∈ l,(tx t).length + 4 <= c * zn t) : (zy word tx l).length <= c * zx l + 10 := by
 unfold zy
 split
 ·simp
 ·have := jS [59] [59] tx 0 c l (by simp) (fun t ht => by have := h t ht; simp; omega)
  simp only [la,lc,ln] at this ⊢
  omega
theorem qL {us : List T} (h : ∀ t ∈ us,Well (.declared 8 1 .typeName) t) : (zE [59,32] (us.map zR)).length <= 50 * zx us :=
 vq [59,32] zR 50 us (fun t ht => by
  obtain ⟨x,m,p,u,rfl,hx,-,-,hu⟩ := yO (h t ht); have h1 := yi hx; have h2 := xe (vR hu); have h3 := xc u; rw [xH]
  unfold zR
  rw [show zI (T.mk 8 x m p [u]) 0 = u from rfl,show (T.mk 8 x m p [u]).name = x from rfl]
  split <;> simp only [la,lc,ln] <;> omega)
theorem jx {most : Int} {l : List T} (h : ∀ t ∈ l,Well (.declared 6 most .typeName) t) : (zy VARw zF l).length <= 50 * zx l + 10 :=
 qU VARw (by decide) zF 50 l (fun t ht => by have := gK (h t ht); have := xc t; omega)
theorem gs (f : Nat) (x : Bs) (m p q qv : Int) (us vl : List T) (rs bs : T) : xh f (.mk 7 x m p [.mk 1 [] 0 q us,rs,.mk 1 [] 0 qv vl,bs]) = [80,82,79,67,69,68,85,82,69,32] ++ (zv (.mk 7 x m p [.mk 1 [] 0 q us,rs,.mk 1 [] 0 qv vl,bs]) ++ ((if us.isEmpty && rs.kind == 0 then [] else [40] ++ (zE [59,32] (us.map zR) ++ [41])) ++ ((if rs.kind = 0 then [] else [58,32] ++ zz rs) ++ ([59,10] ++ (zy VARw zF vl ++ ([66,69,71,73,78,10] ++ (yr f 0 bs.subs ++ ([69,78,68,32] ++ (x ++ [59,10]))))))))) := rfl
theorem bY (k : Int) (x : Bs) (m p : Int) (a b c d : T) : zn (.mk k x m p [a,b,c,d]) = 1 + zn a + zn b + zn c + zn d := by
 rw [zn,zx,zx,zx,zx,zx]; omega
theorem jE (p : Int) (us : List T) : zn (.mk 1 [] 0 p us) = 1 + zx us := by rw [zn]
theorem qT (f : Nat) (hf : f <= 80) {t : T} (h : Well .procedure t) : (xh f t).length <= 800 * zn t := by
 obtain ⟨x,m,p,_,a,_,r,rfl,n,_,_,d,s,g,i⟩ := kZ h; obtain ⟨q,b,rfl,j⟩ := yk d; obtain ⟨u,v,rfl,k⟩ := yk g; have z := jm (f := f) (L := 0) (by omega) i; have A := jx k; have B := qL j; have C := xW (t := .mk 7 x m p [.mk 1 [] 0 q b,a,.mk 1 [] 0 u v,r]) n; have D := yi n
 have w : (if a.kind = 0 then [] else [58,32] ++ zz a).length <= 27 := by
  rcases s with ⟨E,rfl⟩ | ⟨F,l⟩
  ·simp [T.kind]
  ·have := xe l
   rw [if_neg (by omega)]; simp only [la,lc,ln]
   omega
 have y : (if b.isEmpty && a.kind == 0 then [] else [40] ++ (zE [59,32] (b.map zR) ++ [41])).length <= 50 * zx b + 2 := by
  split
  ·simp
  ·simp only [la,lc,ln]
   omega
 have G := xc a; rw [gs,bY,jE,jE]; simp only [la,lc,ln] at w y ⊢
 omega
theorem jO {t u : T} {f : Nat} (hd : zS t <= f) (h : u ∈ t.subs) : zS u <= f := by have := yp h; omega
theorem rX (f : Nat) (hf : f <= 80) {t : T} (h : Well .procedure t) (hd : zS t <= f) (hc : zn t <= 3000) (w : World) (sv : Value) (ha : AT w t.subs sv) : Calls Tryz.prog 41 #[zq t sv] w (Sy w (.string ⟨(xh f t).toArray⟩)) := by
 obtain ⟨x,m,p,_,E,_,d,rfl,F,_,_,v,G,A,B⟩ := kZ h; obtain ⟨q,b,rfl,g⟩ := yk v; obtain ⟨H,C,rfl,i⟩ := yk A; have I : zS d <= f := jO hd (by simp [T.subs]); rw [bY,jE,jE] at hc; have M := jx i; have N := qL g; have l := yi F
 have r : ∀ w' sl,w.grownBy w' none -> AT w' (T.mk 1 [] 0 H C).subs sl -> Calls Tryz.prog 40 #[.string ⟨List.toArray [86,65,82]⟩,sl] w' (Sy w' (.string ⟨(zy VARw zF C).toArray⟩)) := fun w' sl _ hal => gJ 0 C i (by omega) w' sl hal
 have s := gS f hf d (by omega) B (by omega) w
 have D : ∀ t ∈ b,∃ y n q z,t = .mk 8 y n q [z] /\ y.length <= 12 /\ NTx w z (zz z) := fun t ht => by
  obtain ⟨y,n,J,z,e,K,-,-,L⟩ := yO (g t ht)
  exact ⟨y,n,J,z,e,yi K,vY (vR L) w⟩
 rw [gs]
 rcases G with ⟨O,rfl⟩ | ⟨a,j⟩
 ·cases b with
  | nil =>
   rw [if_pos (by rfl),if_pos (by rfl),List.nil_append,List.nil_append]
   exact cZ x m p q [] _ _ d sv w ha l _ _ (by omega) r s rfl rfl
  | cons u b =>
   rw [if_neg (by simp),if_pos (by rfl),List.nil_append]; simp only [List.append_assoc]
   exact bV x m p q (u :: b) _ _ d sv w ha l _ _ (by omega) r s (by simp) rfl D (by omega)
 ·have k : (E.kind != 0) = true := by rw [a]; rfl
  cases b with
  | nil =>
   rw [if_neg (by rw [a]; simp),if_neg (by omega)]; simp only [List.append_assoc]
   exact cr x m p q [] _ _ d sv w ha l _ _ (by omega) r s (by simp) k _ (vY j w) D (by omega)
  | cons u b =>
   rw [if_neg (by simp),if_neg (by omega)]; simp only [List.append_assoc]
   exact cV x m p q (u :: b) _ _ d sv w ha l _ _ (by omega) r s (by simp) k _ (vY j w) D (by omega)
theorem kA (f : Nat) (x : Bs) (p q1 q2 q3 q4 q5 : Int) (us cl tl vl pl : List T) (bs : T) : yw f (.mk 2 x 0 p [.mk 1 [] 0 q1 us,.mk 1 [] 0 q2 cl,.mk 1 [] 0 q3 tl,.mk 1 [] 0 q4 vl,.mk 1 [] 0 q5 pl,bs]) =
  [77,79,68,85,76,69,32] ++ (x ++ ([59,10] ++ ((if us.isEmpty then [] else [73,77,80,79,82,84,32] ++ (zE [44,32] (us.map T.name) ++ [59,10])) ++ (zy [67,79,78,83,84] (yt f) cl ++ (zy [84,89,80,69] yu tl ++ (zy VARw zF vl ++
   (zu (xh f) pl ++ ((if bs.subs.isEmpty then [] else [66,69,71,73,78,10] ++ yr f 0 bs.subs) ++ ([69,78,68,32] ++ (x ++ [46,10])))))))))) := rfl
theorem bx (k : Int) (x : Bs) (m p : Int) (a b c d e g : T) : zn (.mk k x m p [a,b,c,d,e,g]) = 1 + zn a + zn b + zn c + zn d + zn e + zn g := by
 rw [zn,zx,zx,zx,zx,zx,zx,zx]; omega
theorem gD (f : Nat) {l : List T} (h : ∀ t ∈ l,Well (.declared 4 1 .expression) t) : (zy [67,79,78,83,84] (yt f) l).length <= 60 * zx l + 10 :=
 qU _ (by decide) (yt f) 60 l (fun t ht => by
  obtain ⟨x,m,p,u,rfl,hx,-,-,hu⟩ := yO (h t ht); have h1 := xW (t := .mk 4 x m p [u]) hx; have h4 := yU f u hu; rw [xH]
  unfold yt
  rw [show zI (T.mk 4 x m p [u]) 0 = u from rfl]; simp only [la,lc,ln]
  omega)
theorem gF {l : List T} (h : ∀ t ∈ l,Well (.declared 5 1 .typeItself) t) : (zy [84,89,80,69] yu l).length <= 150 * zx l + 10 :=
 qU _ (by decide) yu 150 l (fun t ht => by
  obtain ⟨x,m,p,u,rfl,hx,-,-,hu⟩ := yO (h t ht); have h1 := xW (t := .mk 5 x m p [u]) hx; have h4 := ji (gN hu); rw [xH]
  unfold yu
  rw [show zI (T.mk 5 x m p [u]) 0 = u from rfl]; simp only [la,lc,ln]
  omega)
theorem fW {l : List T} (h : ∀ t ∈ l,Well .imported t) : (zE [44,32] (l.map T.name)).length <= 14 * zx l :=
 vq [44,32] T.name 14 l (fun t ht => by
  obtain ⟨x,p,rfl,hx⟩ := sI (h t ht); have h1 := yi hx; have h2 := xc (.mk 3 x 0 p []); simp only [T.name,List.length_cons,List.length_nil]
  omega)
theorem tV (f : Nat) (hf : f <= 80) {t : T} (h : Well .module t) : (yw f t).length <= 800 * zn t + 200 := by
 obtain ⟨_,_,_,_,_,_,_,a,rfl,v,b,d,g,i,j,k⟩ := gY h; obtain ⟨_,l,rfl,m⟩ := yk b; obtain ⟨_,_,rfl,n⟩ := yk d; obtain ⟨_,_,rfl,r⟩ := yk g; obtain ⟨_,_,rfl,s⟩ := yk i; obtain ⟨_,w,rfl,u⟩ := yk j; have z := jm (f := f) (L := 0) (by omega) k; have A := jx s; have B := gD f n; have C := gF r; have D := yi v; have E := xV (xh f) 800 w (fun t ht => qT f hf (u t ht)); have F := fW m
 have x : (if l.isEmpty then [] else [73,77,80,79,82,84,32] ++ (zE [44,32] (l.map T.name) ++ [59,10])).length <= 14 * zx l + 9 := by
  split
  ·simp
  ·simp only [la,lc,ln]
   omega
 have y : (if a.subs.isEmpty then [] else [66,69,71,73,78,10] ++ yr f 0 a.subs).length <= 700 * zn a := by
  split
  ·simp
  ·simp only [la,lc,ln]
   omega
 rw [kA,bx,jE,jE,jE,jE,jE]; simp only [la,lc,ln] at x y ⊢
 omega
theorem tg (f : Nat) (hf : f <= 80) {t : T} (h : Well .module t) (hd : zS t <= f) (hc : zn t <= 3000) (w : World) (sv : Value) (ha : AT w t.subs sv) : Calls Tryz.prog 15 #[zq t sv] w (Sy w (.string ⟨(yw f t).toArray⟩)) := by
 obtain ⟨x,p,_,_,_,_,_,m,rfl,Q,n,r,s,y,z,A⟩ := gY h; obtain ⟨H,B,rfl,d⟩ := yk n; obtain ⟨I,g,rfl,i⟩ := yk r; obtain ⟨R,C,rfl,j⟩ := yk s; obtain ⟨U,D,rfl,k⟩ := yk y; obtain ⟨E,b,rfl,a⟩ := yk z
 have F : ∀ v ∈ g,zS v <= f := fun v hv => jO (jO hd (u := .mk 1 [] 0 I g) (by simp [T.subs])) hv
 have G : ∀ v ∈ b,zS v <= f := fun v hv => jO (jO hd (u := .mk 1 [] 0 E b) (by simp [T.subs])) hv
 have V : zS m <= f := jO hd (by simp [T.subs]); rw [bx,jE,jE,jE,jE,jE] at hc; have Y := jx k; have Z := gD f i; have l4 := gF j; have J := yi Q; have l6 := xV (xh f) 800 b (fun t ht => qT f hf (a t ht)); have l7 := fW d; have K := gS f hf m (by omega) A (by omega) w
 have L : ∀ w' sl,w.grownBy w' none -> AT w' (T.mk 1 [] 0 I g).subs sl -> Calls Tryz.prog 40 #[.string ⟨List.toArray [67,79,78,83,84]⟩,sl] w' (Sy w' (.string ⟨(zy [67,79,78,83,84] (yt f) g).toArray⟩)) := fun w' sl _ hal => rU f g i F (by omega) w' sl hal
 have M : ∀ w' sl,w.grownBy w' none -> AT w' (T.mk 1 [] 0 R C).subs sl -> Calls Tryz.prog 40 #[.string ⟨List.toArray [84,89,80,69]⟩,sl] w' (Sy w' (.string ⟨(zy [84,89,80,69] yu C).toArray⟩)) := fun w' sl _ hal => pf C j (by omega) w' sl hal
 have N : ∀ w' sl,w.grownBy w' none -> AT w' (T.mk 1 [] 0 U D).subs sl -> Calls Tryz.prog 40 #[.string ⟨List.toArray [86,65,82]⟩,sl] w' (Sy w' (.string ⟨(zy VARw zF D).toArray⟩)) := fun w' sl _ hal => gJ 1 D k (by omega) w' sl hal
 have O : ∀ t ∈ b,(xh f t).length <= 4000000 /\ ∀ w' st,w.grownBy w' none -> AT w' t.subs st -> Calls Tryz.prog 41 #[zq t st] w' (Sy w' (.string ⟨(xh f t).toArray⟩)) := fun t ht => by
  have h1 := qT f hf (a t ht); have h2 := xT ht
  exact ⟨by omega,fun w' st _ hat => rX f hf (a t ht) (G t ht) (by omega) w' st hat⟩
 rw [kA]; cases B with
 | nil =>
  rw [if_pos (by rfl),List.nil_append]; have l := oF x p H E [] b _ _ _ m sv w ha J _ _ _ _ (by omega) (by omega) (by omega) L M N K (xh f) O (by omega) _ rfl (by simp); simp only [List.append_assoc] at l ⊢
  exact l
 | cons u B =>
  rw [if_neg (by simp)]; have l := oL x p H E (u :: B) b _ _ _ m sv w ha J _ _ _ _ (by omega) (by omega) (by omega) L M N K (xh f) O (by omega) _ rfl (by simp) (fun t ht => by obtain ⟨_,_,rfl,X⟩ := sI (d t ht); exact yi X) (by omega); simp only [List.append_assoc] at l ⊢
  exact l
end Go.Proofs.YtifapidjkelnfaaGreatDoor
