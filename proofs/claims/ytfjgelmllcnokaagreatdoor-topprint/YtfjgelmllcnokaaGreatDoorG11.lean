/- A tree that can be read is well formed,and its numbers and names fit. -/
import Derived.Test.YtfjgelmllcnokaaGreatDoorG06
import Derived.Test.YtfjgelmllcnokaaGreatDoorG03
import Derived.Test.YtfjgelmllcnokaaGreatDoorG07
import Derived.Test.YtfjgelmllcnokaaGreatDoorG10
namespace Go.Proofs.YtfjgelmllcnokaaGreatDoor
inductive FA : T -> Prop
 | mk {k : Int} {x : List UInt8} {n p : Int} {l : List T} (hx : x.length <= 12) (hk : 0 <= k /\ k <= 99) (hn : 0 <= n /\ n <= 2147483647) (hl : ∀ u ∈ l,FA u) : FA (.mk k x n p l)
theorem FA.fits {t : T} (h : FA t) : Fits t := by
 cases h with
 | mk hx hk hn hl => exact ⟨Nat.le_trans hx (by decide),by simp only [T.kind]; omega,by simp only [T.kind]; omega,by simp only [T.num]; omega,by simp only [T.num]; omega⟩
theorem FA.sub {t u : T} (h : FA t) (hu : u ∈ t.subs) : FA u := by
 cases h with
 | mk hx hk hn hl => exact hl u hu
def WF (r : Rule) (t : T) : Prop := Well r t /\ FA t
theorem uW {r : Rule} {k : Int} {x : List UInt8} {n p : Int} {l : List T} (m : List (T × Rule)) (h : zw r (.mk k x n p l) = some m) (ha : ∀ q ∈ m,WF q.2 q.1) (hx : x.length <= 12) (hk : 0 <= k /\ k <= 99) (hn : 0 <= n /\ n <= 2147483647) : WF r (.mk k x n p l) := by
 refine ⟨.mk m h (fun q b => (ha q b).1),.mk hx hk hn (fun u hu => ?_)⟩; have e : m.map (·.1) = l := mK h; rw [<- e] at hu; obtain ⟨q,b,rfl⟩ := List.mem_map.1 hu
 exact (ha q b).2
theorem uS : ∀ q ∈ ([] : List (T × Rule)),WF q.2 q.1 := fun q hq => by cases hq
theorem xT {t : T} {r : Rule} {m : List (T × Rule)} (h : WF r t) (hm : ∀ q ∈ m,WF q.2 q.1) : ∀ q ∈ (t,r) :: m,WF q.2 q.1 := fun q hq => by
 rcases List.mem_cons.1 hq with rfl | hq
 ·exact h
 ·exact hm q hq
theorem fD {l : List T} {r : Rule} (h : ∀ t ∈ l,WF r t) : ∀ q ∈ vf l r,WF q.2 q.1 := fun q hq => by
 obtain ⟨t,ht,rfl⟩ := List.mem_map.1 hq
 exact h t ht
theorem nO {t : T} (h : WF .designator t) : WF .expression t := ⟨vO h.1,h.2⟩
theorem zko {x : List UInt8} (h : 0 <= zv x) : x.length <= 12 := by have := ix h; omega
theorem zf4 {x : List UInt8} {p : Int} (hx : zF x = true) : WF .ref (.mk 24 x 0 p []) :=
 uW [] (by simp [zw,zq,zD,T.kind,T.name,T.num,T.subs,hx]) uS (xj hx) (by omega) (by omega)
theorem dN {y : T} (h : TyN y) : WF .typeName y := by
 cases h with
 | own hx => exact uW [] (by simp [zw,jd,zq,zD,T.kind,T.name,T.num,T.subs,vf,hx]) uS (xj hx) (by omega) (by omega)
 | @of x y p q hx hy => exact uW [(.mk 24 y 0 q [],.ref)] (by simp [zw,jd,zq,zD,T.kind,T.name,T.num,T.subs,vf,hx]) (xT (zf4 hy) uS) (xj hx) (by omega) (by omega)
theorem zfw {y : T} (h : BT y) : WF .typeNameOrNone y := by
 cases h with
 | none => exact uW [] (by simp [zw,zq,zD,T.kind,T.name,T.num,T.subs]) uS (by simp) (by omega) (by omega)
 | some hy =>
  have b := dN hy; refine ⟨?_,b.2⟩
  have d : y.kind ≠ 0 := by cases hy <;> simp [T.kind]
  obtain ⟨l,e,f⟩ := Well.iff.1 b.1
  exact .mk l (by show (if y.kind = 0 then _ else jd y) = _; rw [if_neg d]; exact e) f
theorem fq {r : Rule} {k : Int} {x : List UInt8} {p : Int} {a b : T} (r1 r2 : Rule) (h : zw r (.mk k x 0 p [a,b]) = some [(a,r1),(b,r2)]) (ha : WF r1 a) (hb : WF r2 b) (hx : x.length <= 12) (hk : 0 <= k /\ k <= 99) : WF r (.mk k x 0 p [a,b]) :=
 uW _ h (xT ha (xT hb uS)) hx hk (by omega)
theorem kQ {r : Rule} {k : Int} {x : List UInt8} {n p : Int} {a : T} (r1 : Rule) (h : zw r (.mk k x n p [a]) = some [(a,r1)]) (ha : WF r1 a) (hx : x.length <= 12) (hk : 0 <= k /\ k <= 99) (hn : 0 <= n /\ n <= 2147483647) : WF r (.mk k x n p [a]) :=
 uW _ h (xT ha uS) hx hk hn
theorem za9 {x : List UInt8} {p : Int} {a b : T} (hx : 0 <= zv x) (ha : WF .expression a) (hb : WF .expression b) : WF .expression (.mk 36 x 0 p [a,b]) :=
 fq .expression .expression (by simp [zw,yQ,zq,T.kind,T.name,T.num,T.subs,yn,hx]) ha hb (zko hx) (by omega)
theorem zft {g : G} {n : Nat} {t : T} (h : Rn g n t) : WF .expression t /\ ∀ k,g = .des k -> WF .designator t := by
 induction h with
 | @name n x p hx =>
  have b : WF .designator (.mk 24 x 0 p []) := uW [] (by simp [zw,yX,zq,zD,T.kind,T.name,T.num,T.subs,hx]) uS (xj hx) (by omega) (by omega)
  exact ⟨nO b,fun _ _ => b⟩
 | @field n k x p d h hx ih =>
  have b : WF .designator (.mk 25 x 0 p [d]) := kQ .designator (by simp [zw,yX,zq,zD,T.kind,T.name,T.num,T.subs,yn,hx]) (ih.2 _ rfl) (xj hx) (by omega) (by omega)
  exact ⟨nO b,fun _ _ => b⟩
 | @index n k p d e h he ih1 ih2 =>
  have b : WF .designator (.mk 26 [] 0 p [d,e]) := fq .designator .expression (by simp [zw,yX,zq,zD,T.kind,T.name,T.num,T.subs,yn]) (ih1.2 _ rfl) ih2.1 (by simp) (by omega)
  exact ⟨nO b,fun _ _ => b⟩
 | @point n k p d h ih =>
  have b : WF .designator (.mk 27 [] 0 p [d]) := kQ .designator (by simp [zw,yX,zq,zD,T.kind,T.name,T.num,T.subs,yn]) (ih.2 _ rfl) (by simp) (by omega) (by omega)
  exact ⟨nO b,fun _ _ => b⟩
 | @guard n k p d y h hy ih =>
  have b : WF .designator (.mk 28 [] 0 p [d,y]) := fq .designator .typeName (by simp [zw,yX,zq,zD,T.kind,T.name,T.num,T.subs,yn]) (ih.2 _ rfl) (dN hy) (by simp) (by omega)
  exact ⟨nO b,fun _ _ => b⟩
 | num h0 h1 => exact ⟨uW [] (by simp [zw,yQ,zq,zD,T.kind,T.name,T.num,T.subs,h0,h1,kR]) uS (by simp) (by omega) ⟨h0,h1⟩,fun _ e => by cases e⟩
 | word h => exact ⟨by rcases h with rfl | rfl | rfl <;> exact uW [] (by simp [zw,yQ,zq,zD,T.kind,T.name,T.num,T.subs]) uS (by simp) (by omega) (by omega),fun _ e => by cases e⟩
 | desig h hk ih => exact ⟨ih.1,fun _ e => by cases e⟩
 | @call n k p d l h hk hl ih1 ih2 => exact ⟨uW ((d,.designator) :: vf l .expression) (by simp [zw,yQ,zq,zD,T.kind,T.name,T.num,T.subs,uC]) (xT (ih1.2 _ rfl) (fD (fun e he => (ih2 e he).1))) (by simp) (by omega) (by omega),fun _ e => by cases e⟩
 | not h ih => exact ⟨kQ .expression (by simp [zw,yQ,zq,zD,T.kind,T.name,T.num,T.subs,yn]) ih.1 (by simp) (by omega) (by omega),fun _ e => by cases e⟩
 | fpFac h hr ih => exact ⟨ih.1,fun _ e => by cases e⟩
 | fpPar h hr ih => exact ⟨ih.1,fun _ e => by cases e⟩
 | proFac h hr ih => exact ⟨ih.1,fun _ e => by cases e⟩
 | proPar h hr ih => exact ⟨ih.1,fun _ e => by cases e⟩
 | mul hx ha hb ih1 ih2 => exact ⟨za9 (by omega) ih1.1 ih2.1,fun _ e => by cases e⟩
 | sumPro h hk hr ih => exact ⟨ih.1,fun _ e => by cases e⟩
 | sumNeg h hk ih => exact ⟨kQ .expression (by simp [zw,yQ,zq,zD,T.kind,T.name,T.num,T.subs,yn]) ih.1 (by simp) (by omega) (by omega),fun _ e => by cases e⟩
 | sumPar h hr ih => exact ⟨ih.1,fun _ e => by cases e⟩
 | add hx ha hb hj ih1 ih2 => exact ⟨za9 (by omega) ih1.1 ih2.1,fun _ e => by cases e⟩
 | plain h hk hr ih => exact ⟨ih.1,fun _ e => by cases e⟩
 | rel hx ha hk hb hj ih1 ih2 => exact ⟨za9 (by omega) ih1.1 ih2.1,fun _ e => by cases e⟩
 | is ha hk hy ih => exact ⟨fq .expression .typeName (by simp [zw,yQ,zq,zD,T.kind,T.name,T.num,T.subs,yn]) ih.1 (dN hy) (by simp) (by omega),fun _ e => by cases e⟩
theorem kA {n : Nat} {t : T} (h : Rn .exp n t) : WF .expression t := (zft h).1
theorem iA {n k : Nat} {t : T} (h : Rn (.des k) n t) : WF .designator t := (zft h).2 k rfl
def uP (b : Bool) : Rule := if b = true then .list .act else .act
theorem nw : ∀ (ps : List (T × T)) (tail : List T),(∀ q ∈ ps,WF .expression q.1) -> (∀ q ∈ ps,WF (.list .act) q.2) -> (∀ q ∈ xY tail,WF q.2 q.1) -> ∀ q ∈ xY (xc ps ++ tail),WF q.2 q.1
 | [],tail,_,_,h => h
 | (c,a) :: ps,tail,h1,h2,h => by
  have ih := nw ps tail (fun q hq => h1 q (by simp [hq])) (fun q hq => h2 q (by simp [hq])) h
  exact xT (h1 (c,a) (by simp)) (xT (h2 (c,a) (by simp)) ih)
theorem dk : ∀ ps : List (T × T),(xc ps).length = 2 * ps.length
 | [] => rfl
 | q :: ps => by simp [xc,dk ps]; omega
theorem zi8 {b : Bool} {n : Nat} {t : T} (h : RA b n t) : WF (uP b) t := by
 induction h with
 | list h ih => exact uW _ (by simp only [uP,if_true,zw,zq]; rw [if_pos (by simp [zD,T.kind,T.num,T.name])]; rfl) (fD (fun a ha => ih a ha)) (by simp) (by omega) (by omega)
 | assign hd hk he => exact fq .designator .expression (by simp [uP,zw,gL,zq,zD,T.kind,T.name,T.num,T.subs,yn]) (iA hd) (kA he) (by simp) (by omega)
 | @call n k p d l hd hk hl => exact uW ((d,.designator) :: vf l .expression) (by simp [uP,zw,gL,zq,zD,T.kind,T.name,T.num,T.subs,uC]) (xT (iA hd) (fD (fun e he => kA (hl e he)))) (by simp) (by omega) (by omega)
 | @choice n p c a ps hc ha hpc hpa ih1 ih2 =>
  have e := dk ps; refine uW (xY (c :: a :: xc ps)) ?_ ?_ (by simp) (by omega) (by omega)
  ·simp only [uP,zw,gL,zq,T.kind,T.name,T.num,T.subs]
   simp [e]
   omega
  ·have := nw ((c,a) :: ps) [] (fun q f => by rcases List.mem_cons.1 f with rfl | f; exact kA hc; exact kA (hpc q f)) (fun q f => by rcases List.mem_cons.1 f with rfl | f; exact ih1; exact ih2 q f) uS
   simpa [xc] using this
 | @choice1 n p c a b ps hc ha hpc hpa hb ih1 ih2 ih3 =>
  have e := dk ps; refine uW (xY (c :: a :: (xc ps ++ [b]))) ?_ ?_ (by simp) (by omega) (by omega)
  ·simp only [uP,zw,gL,zq,T.kind,T.name,T.num,T.subs]
   simp [e]
   omega
  ·exact nw ((c,a) :: ps) [b] (fun q f => by rcases List.mem_cons.1 f with rfl | f; exact kA hc; exact kA (hpc q f)) (fun q f => by rcases List.mem_cons.1 f with rfl | f; exact ih1; exact ih2 q f) (xT ih3 uS)
 | «while» hc ha ih => exact fq .expression (.list .act) (by simp [uP,zw,gL,zq,zD,T.kind,T.name,T.num,T.subs,yn]) (kA hc) ih (by simp) (by omega)
 | «repeat» hc ha ih => exact fq (.list .act) .expression (by simp [uP,zw,gL,zq,zD,T.kind,T.name,T.num,T.subs,yn]) ih (kA hc) (by simp) (by omega)
 | ret => exact uW [] (by simp [uP,zw,gL,zq,zD,T.kind,T.name,T.num,T.subs,vf]) uS (by simp) (by omega) (by omega)
 | ret1 he => exact kQ .expression (by simp [uP,zw,gL,zq,zD,T.kind,T.name,T.num,T.subs,vf]) (kA he) (by simp) (by omega) (by omega)
 | builtD hkd hd hk => rcases hkd with rfl | rfl <;> exact kQ .designator (by simp [uP,zw,gL,zq,zD,T.kind,T.name,T.num,T.subs,yn]) (iA hd) (by simp) (by omega) (by omega)
 | builtE hkd he => rcases hkd with rfl | rfl <;> exact kQ .expression (by simp [uP,zw,gL,zq,zD,T.kind,T.name,T.num,T.subs,yn]) (kA he) (by simp) (by omega) (by omega)
theorem bF {n : Nat} {t : T} (h : RA true n t) : WF (.list .act) t := zi8 h
theorem qA {r : Rule} {q : Int} {l : List T} (h : ∀ t ∈ l,WF r t) : WF (.list r) (.mk 1 [] 0 q l) :=
 uW (vf l r) (by simp [zw,zq,zD,T.kind,T.name,T.num,T.subs]) (fD h) (by simp) (by omega) (by omega)
theorem fy {k most : Int} {r : Rule} {x : List UInt8} {m p : Int} {y : T} (hk : 0 <= k /\ k <= 99) (hx : zF x = true) (h0 : 0 <= m) (hm : m <= most) (h1 : m <= 1) (hy : WF r y) : WF (.declared k most r) (.mk k x m p [y]) :=
 kQ r (by simp [zw,zq,zD,T.kind,T.name,T.num,T.subs,yn,hx,h0,hm]) hy (xj hx) hk (by omega)
theorem zfl {k : Int} (hk : 0 <= k /\ k <= 99) {t : T} (h : VD k t) : WF (.declared k 1 .typeName) t := by
 cases h with
 | mk hx hm hy => exact fy hk hx (by omega) (by omega) (by omega) (dN hy)
theorem zgu {t : T} (h : TYk t) : WF .typeItself t := by
 cases h with
 | array h0 h1 hy => exact kQ .typeName (by simp [zw,zq,zD,T.kind,T.name,T.num,T.subs,yn,h0,h1,kR]) (dN hy) (by simp) (by omega) ⟨h0,h1⟩
 | pointer hy => exact kQ .typeName (by simp [zw,zq,zD,T.kind,T.name,T.num,T.subs,yn]) (dN hy) (by simp) (by omega) (by omega)
 | @record p b l hb hl => exact uW ((b,.typeNameOrNone) :: vf l (.declared 11 1 .typeName)) (by simp [zw,zq,zD,T.kind,T.name,T.num,T.subs,uC]) (xT (zfw hb) (fD (fun e he => zfl (by omega) (hl e he)))) (by simp) (by omega) (by omega)
theorem zh4 {t : T} (h : PR t) : WF .procedure t := by
 cases h with
 | mk hx hm hps hr hvs hb =>
  refine uW _ (by simp only [zw,zq]; rw [if_pos (by rcases hm with rfl | rfl <;> simp [zD,T.kind,T.num,T.name,T.subs,hx])]; rfl) (xT (qA ?_) (xT (zfw hr) (xT (qA ?_) (xT (bF hb) uS)))) (xj hx) (by omega) (by omega)
  ·intro e b
   cases hps e b with
   | mk hx hm hy => exact fy (by omega) hx (by omega) (by omega) (by omega) (dN hy)
  ·intro e b
   cases hvs e b with
   | mk hx hy => exact fy (by omega) hx (by omega) (by omega) (by omega) (dN hy)
theorem zfr {t : T} (h : RM t) : WF .module t := by
 cases h with
 | mk hx his hcs hts hvs hps hb =>
  refine uW _ (by simp only [zw,zq]; rw [if_pos (by simp [zD,T.kind,T.num,T.name,T.subs,hx])]; rfl) (xT (qA ?_) (xT (qA ?_) (xT (qA ?_) (xT (qA ?_) (xT (qA ?_) (xT (bF hb) uS)))))) (xj hx) (by omega) (by omega)
  ·intro e b
   cases his e b with
   | mk hx => exact uW [] (by simp [zw,zq,zD,T.kind,T.name,T.num,T.subs,hx]) uS (xj hx) (by omega) (by omega)
  ·intro e b
   cases hcs e b with
   | mk hx hm hy => exact fy (by omega) hx (by omega) (by omega) (by omega) (kA hy)
  ·intro e b
   cases hts e b with
   | mk hx hm hy => exact fy (by omega) hx (by omega) (by omega) (by omega) (zgu hy)
  ·exact fun e b => zfl (by omega) (hvs e b)
  ·exact fun e b => zh4 (hps e b)
theorem mj {w : World} {S : Nat -> Prop} {ts : List T} {v : Value} (h : LR w S ts v) (hf : ∀ t ∈ ts,FA t) : AT w ts v := by
 induction h with
 | mk S ts v svs hl own inS sub ih =>
  rcases own.2 with ⟨rfl,m⟩ | ⟨g,d,n,rfl,f⟩
  ·have : ts = [] := List.eq_nil_of_length_eq_zero m
   subst this
   exact .nil none 0 (Nat.zero_le _)
  ·have l : ∀ (i : Nat) (t : T),ts[i]? = some t -> t ∈ ts := fun i t h => List.mem_of_getElem? h
   refine .mk ts g 0 d svs hl f.2.2.1 f.2.2.2.1 (fun i t sv e1 e2 => ⟨?_,(hf t (l i t e1)).fits⟩) (fun i t sv e1 e2 => ih i t sv e1 e2 (fun u hu => (hf t (l i t e1)).sub hu))
   have o : i < ts.length := by
    rcases Nat.lt_or_ge i ts.length with e | e
    ·exact e
    ·rw [List.getElem?_eq_none e] at e1; cases e1
   have b : ∀ j,j < 5 -> w.cell? ⟨g,i * 5 + j,none⟩ = (vT t sv)[j]? := fun j hj => (own.cellAt (i * 5 + j) (by omega)).trans (gt ts svs i t sv j hl e1 e2 hj)
   rw [Nat.zero_add]
   exact ⟨b 0 (by omega),b 1 (by omega),b 2 (by omega),b 3 (by omega),b 4 (by omega)⟩
end Go.Proofs.YtfjgelmllcnokaaGreatDoor
