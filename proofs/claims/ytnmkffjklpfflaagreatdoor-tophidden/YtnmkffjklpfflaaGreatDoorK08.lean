/- Every expression,and every designator,is told. -/
import Derived.Test.YtnmkffjklpfflaaGreatDoorG16
import Derived.Test.YtnmkffjklpfflaaGreatDoorK06
import Derived.Test.YtnmkffjklpfflaaGreatDoorK19
namespace Go.Proofs.YtnmkffjklpfflaaGreatDoor
open Go.RowKit
section
variable {ρ : Lay} {w w' w1 : World} {S : KS} {b : Nat} {c : KSc}
theorem mr (hT : KAll S) {r : KR} {n u : T} {t : Nat} (hz : sub n 0 = u) (hu : ∀ t,r.de u = .ok t -> t < S.tys.length) (e : S.dotC c r n = .ok t) : t < S.tys.length := by
 unfold KS.dotC at e
 obtain ⟨a,f,e⟩ := bind_ok e; rw [hz] at f
 have g : (if (S.ty a).form = 5 then S.of a else a) < S.tys.length := by
  split
  ·rename_i h5; exact (hT.p (hu a f) h5).2.1
  ·exact hu a f
 revert e g
 generalize (if (S.ty a).form = 5 then S.of a else a) = q
 intro e g
 try dsimp only at e
 split at e
 ·rename_i h4
  split at e
  ·cases e
  ·rename_i d o hf
   have := (tl hT.toKTys g h4 hf).2.2
   split at e
   ·cases e; exact this
   ·split at e
    ·cases e; exact this
    ·cases e
 ·cases e
theorem rY (hT : KAll S) {r : KR} {n u : T} {t : Nat} (hz : sub n 0 = u) (hu : ∀ t,r.de u = .ok t -> t < S.tys.length) (e : S.indexC r n = .ok t) : t < S.tys.length := by
 unfold KS.indexC at e
 obtain ⟨a,d,e⟩ := bind_ok e; obtain ⟨i,-,e⟩ := bind_ok e; rw [hz] at d
 try dsimp only at e
 split at e
 ·rename_i h3
  obtain ⟨_,-,e⟩ := bind_ok e; cases e
  exact (hT.a (hu a d) h3).2
 ·cases e
theorem tI (h : CK ρ w S b c) {r : KR} {n : T} {t : Nat} (e : S.guardedC c r n = .ok t) : t < S.tys.length := by
 unfold KS.guardedC at e
 obtain ⟨f,-,e⟩ := bind_ok e; obtain ⟨_,d,e⟩ := bind_ok e
 try dsimp only at e
 split at e
 ·split at e
  ·cases e; exact yM h d
  ·cases e
 ·cases e
theorem qd (h : CK ρ w S b c) (hF : KFull S) {r : KR} {n : T} {t : Nat} (hne : S.meaningC c n ≠ .ok none) (e : S.desigC c r n = .ok t) : t < S.tys.length := by
 unfold KS.desigC at e
 obtain ⟨m,d,e⟩ := bind_ok e; cases m with
 | none => exact absurd d hne
 | some a =>
  try dsimp only at e
  split at e
  ·rename_i hk
   have f := vx h (xj d); obtain ⟨i,g⟩ := hF a f hk; rw [g] at e; cases e
   exact h.ok.ty a f i g
  ·cases e
theorem vO {r : KR} {n : T} (hne : S.meaningC c n = .ok none) : S.desigC c r n = if n.kind = 25 then S.dotC c r n else if n.kind = 26 then S.indexC r n else if n.kind = 27 then (S.pointerC r n).bind (fun t => .ok (S.of t)) else S.guardedC c r n := by
 unfold KS.desigC
 rw [hne]
 rfl
theorem dU {x : List UInt8} {m p : Int} {l : List T} : S.meaningC c (.mk 24 x m p l) ≠ .ok none := by
 unfold KS.meaningC
 cases S.meaning c (.mk 24 x m p l) with
 | some t => intro h; cases h
 | none => simp only [T.kind,if_true]; intro h; cases h
theorem rQ (h : CK ρ w S b c) (hT : KAll S) (hF : KFull S) {r : KR} {n : T} (hn : Well .designator n) (hd : ∀ u ∈ n.subs,Well .designator u -> CDe ρ S b c r u) (he : ∀ u ∈ n.subs,Well .expression u -> CEx ρ S b c r u) :
  (∀ t,S.desigC c r n = .ok t -> t < S.tys.length) /\ ∀ (w : World) (sv : Value),CK ρ w S b c -> Fits n -> AT w n.subs sv -> Calls Tryz.prog 161 #[.pointer (some ⟨b,0,none⟩),zn n sv] w (Cy w ((S.desigC c r n).map fun t => .pointer (some ⟨ρ.ty t,0,none⟩))) := by
 have hk := rE hn
 by_cases d : S.meaningC c n = .ok none
 ·cases oR hn with
  | ref x p hx => exact absurd d dU
  | dot x p u hx hu =>
   have f := hd u (by simp [T.subs]) hu; refine ⟨fun t e => ?_,fun w sv h' hf g => sH h' _ sv hf g (fun _ => by simp [T.subs]) rfl d (fun w1 G => oQ (h'.up G) _ sv hf (g.kept G) hT rfl f)⟩; rw [vO d] at e; simp only [T.kind,if_true] at e
   exact mr hT rfl f.lt e
  | index p u v hu hv =>
   have f := hd u (by simp [T.subs]) hu; have i := he v (by simp [T.subs]) hv; refine ⟨fun t e => ?_,fun w sv h' hf g => dC h' _ sv hf g (fun _ => by simp [T.subs]) rfl d (fun w1 G => rh (h'.up G) _ sv hf (g.kept G) hT rfl f i)⟩; rw [vO d] at e
   simp [T.kind] at e
   exact rY hT rfl f.lt e
  | deref p u hu =>
   have f := he u (by simp [T.subs]) (ul hu); refine ⟨fun t e => ?_,fun w sv h' hf g => dW h' _ sv hf g (fun _ => by simp [T.subs]) hT rfl rfl f d⟩; rw [vO d] at e
   simp [T.kind] at e
   obtain ⟨a,g,e⟩ := bind_ok e; cases e
   exact (hT.p (f.lt a (xv g).1) (xv g).2).2.1
  | guard p u v hu hv =>
   have f := he u (by simp [T.subs]) (ul hu); refine ⟨fun t e => ?_,fun w sv h' hf g => dE h' _ sv hf g (fun _ => by simp [T.subs]) rfl d (fun w1 G => kh (h'.up G) _ sv hf (g.kept G) hT rfl f)⟩; rw [vO d] at e
   simp [T.kind] at e
   exact tI h e
  | number m p h0 h1 => simp [T.kind] at hk
  | word k p hk' => simp only [T.kind] at hk; omega
  | call p u us hu j => simp [T.kind] at hk
  | one k p u hk' hu => simp only [T.kind] at hk; omega
  | is p u v hu hv => simp [T.kind] at hk
  | op x p u v hx hu hv => simp [T.kind] at hk
 ·have j : n.kind = 25 -> 0 < n.subs.length := by
   intro l
   cases oR hn <;> simp_all [T.kind,T.subs]
  exact ⟨fun t e => qd h hF d e,fun w sv h' hf g => dy h' n sv hf g j hF d⟩
theorem kg {n : T} (hn : Well .expression n) (hd : zF n = true) : Well .designator n := by
 simp only [zF,Bool.and_eq_true] at hd; have g := of_decide_eq_true hd.1; have h := of_decide_eq_true hd.2; obtain ⟨l,d,f⟩ := Well.iff.1 hn; refine .mk l ?_ f
 have e : xb n = yN n := by
  unfold xb
  rw [if_neg (by omega),if_neg (by omega),if_neg (by omega),if_neg (by omega),if_neg (by omega),if_neg (by omega)]
 exact e.symm.trans d
theorem qF {n : T} (hn : Well .expression n) : n.kind = 25 -> 0 < n.subs.length := by
 intro d; have := oR (kg hn (by simp [zF,d]))
 cases this <;> simp_all [T.kind,T.subs]
theorem nO (h : CK ρ w S b c) (hT : KAll S) (hF : KFull S) (hP : KPrs S) {r : KR} {n : T} (hn : Well .expression n) (hd : ∀ u ∈ n.subs,Well .designator u -> CDe ρ S b c r u) (he : ∀ u ∈ n.subs,Well .expression u -> CEx ρ S b c r u) :
  (∀ t,S.exprC c r n = .ok t -> t < S.tys.length) /\ ∀ (w : World) (sv : Value),CK ρ w S b c -> Fits n -> AT w n.subs sv -> Calls Tryz.prog 157 #[.pointer (some ⟨b,0,none⟩),zn n sv] w (Cy w ((S.exprC c r n).map fun t => .pointer (some ⟨ρ.ty t,0,none⟩))) := by
 have A := h.ok.three
 by_cases d : zF n = true
 ·obtain ⟨o,s⟩ := rQ h hT hF (kg hn d) hd he
  have e : S.exprC c r n = S.desigC c r n := by
   simp only [zF,Bool.and_eq_true] at d; have B := of_decide_eq_true d.1; have C := of_decide_eq_true d.2
   unfold KS.exprC
   rw [if_neg (by omega),if_neg (by omega),if_neg (by omega),if_neg (by omega),if_neg (by omega),if_neg (by omega),if_neg (by omega),if_neg (by omega)]
  exact ⟨fun t ht => o t (e ▸ ht),fun w sv h' hf f => pE h' n sv hf f d (fun w1 G => s w1 sv (h'.up G) hf (f.kept G))⟩
 ·have j : ∀ v ∈ n.subs,Well .expression v -> CAr ρ S b c r v := fun v hv hw => ⟨he v hv hw,fun hd' => hd v hv (kg hw hd'),qF hw⟩
  cases mu hn with
  | ref x p hx => simp [zF,T.kind] at d
  | dot x p u hx hu => simp [zF,T.kind] at d
  | index p u v hu hv => simp [zF,T.kind] at d
  | deref p u hu => simp [zF,T.kind] at d
  | guard p u v hu hv => simp [zF,T.kind] at d
  | number m p h0 o =>
   refine ⟨fun t e => ?_,fun w sv h' hf f => gG h' _ sv hf f (.inl rfl)⟩
   simp [KS.exprC,T.kind] at e
   omega
  | word k p hk =>
   refine ⟨fun t e => ?_,fun w sv h' hf f => gG h' _ sv hf f (.inr hk)⟩
   rcases hk with rfl | rfl | rfl <;> simp [KS.exprC,T.kind] at e <;> omega
  | call p u us hu hs =>
   have g := hd u (by simp [T.subs]) hu
   have i := fun w sv (h' : CK ρ w S b c) hf f => fE (r := r) h' (.mk 33 [] 0 p (u :: us)) sv hf f hT hF hP rfl g (qF (ul hu)) (fun v hv => j v (by simp [T.subs,hv]) (hs v hv))
   refine ⟨fun t e => ?_,fun w sv h' hf f => sG h' _ sv hf f rfl (fun w1 G => i w1 sv (h'.up G) hf (f.kept G))⟩; simp only [KS.exprC,T.kind] at e
   simp at e
   obtain ⟨a,f,e⟩ := bind_ok e; cases a with
   | none => cases e
   | some t' =>
    cases e
    unfold KS.callC at f
    obtain ⟨q,z,f⟩ := bind_ok f
    try dsimp only at f
    split at f
    ·obtain ⟨_,-,f⟩ := bind_ok f
     exact hP.res q (gh h z) _ (Except.ok.inj f)
    ·cases f
  | one k p u hk hu =>
   have g := he u (by simp [T.subs]) hu
   rcases hk with rfl | rfl
   ·refine ⟨fun t e => ?_,fun w sv h' hf f => pQ h' _ sv hf f rfl rfl g⟩
    simp [KS.exprC,T.kind] at e
    obtain ⟨a,-,e⟩ := bind_ok e; cases e
    omega
   ·refine ⟨fun t e => ?_,fun w sv h' hf f => rV h' _ sv hf f rfl rfl g⟩
    simp [KS.exprC,T.kind] at e
    obtain ⟨a,-,e⟩ := bind_ok e; cases e
    omega
  | is p u v hu hv =>
   have g := he u (by simp [T.subs]) hu; refine ⟨fun t e => ?_,fun w sv h' hf f => oY h' _ sv hf f rfl (fun w1 G => kh (h'.up G) _ sv hf (f.kept G) hT rfl g)⟩
   simp [KS.exprC,T.kind] at e
   obtain ⟨a,-,e⟩ := bind_ok e; cases e
   omega
  | op x p u v hx hu hv =>
   have g := he u (by simp [T.subs]) hu; have l := he v (by simp [T.subs]) hv; refine ⟨fun t e => ?_,fun w sv h' hf f => nl h' _ sv hf f rfl (fun w1 G => ff (h'.up G) _ sv hf (f.kept G) hT rfl g l)⟩
   simp [KS.exprC,T.kind] at e
   unfold KS.operatorC at e
   obtain ⟨_,-,e⟩ := bind_ok e; obtain ⟨_,-,e⟩ := bind_ok e; obtain ⟨_,-,e⟩ := bind_ok e; cases e
   unfold yL
   split <;> omega
theorem gC (h : CK ρ w S b c) (hT : KAll S) (hF : KFull S) (hP : KPrs S) : ∀ (f : Nat) (n : T),yr n <= f -> (Well .expression n -> CEx ρ S b c (S.level c f) n) /\ (Well .designator n -> CDe ρ S b c (S.level c f) n)
 | 0,n,hd => by
  have h9 : 0 < yr n := by cases n; rw [yr]; omega
  omega
 | f + 1,n,hd => by
  have ih := fun u (hu : u ∈ n.subs) => gC h hT hF hP f u (by have := jp hu; omega)
  refine ⟨fun hn => ?_,fun hn => ?_⟩
  ·obtain ⟨h1,h2⟩ := nO h hT hF hP hn (fun u hu => (ih u hu).2) (fun u hu => (ih u hu).1)
   exact ⟨h1,h2⟩
  ·obtain ⟨h1,h2⟩ := rQ h hT hF hn (fun u hu => (ih u hu).2) (fun u hu => (ih u hu).1)
   exact ⟨h1,h2⟩
end
section
variable {ρ : Lay} {w w' w1 : World} {S : KS} {b : Nat} {c : KSc}
theorem pd {us : List T} (h : Turns us) : ∀ y ∈ us,Well .expression y \/ Well (.list .act) y := by
 induction h with
 | nil => intro y d; cases d
 | one v hv => intro y d; simp at d; subst d; exact .inr hv
 | more u v us hu hv hs ih =>
  intro y d
  simp at d
  rcases d with rfl | rfl | d
  ·exact .inl hu
  ·exact .inr hv
  ·exact ih y d
theorem mn {y : T} (h : Well .expression y) : 24 <= y.kind := by
 cases mu h <;> simp only [T.kind] <;> omega
theorem nX {y : T} (h : Well (.list .act) y) : y.kind = 1 := by
 obtain ⟨_,_,rfl,_⟩ := rS h
 rfl
structure CAll (ρ : Lay) (S : KS) (b : Nat) (c : KSc) (F : Nat) : Prop where
 ty : KAll S
 full : KFull S
 prs : KPrs S
 three : 3 <= S.tys.length
 ex : ∀ n,yr n <= F -> Well .expression n -> CEx ρ S b c (S.level c F) n
 de : ∀ n,yr n <= F -> Well .designator n -> CDe ρ S b c (S.level c F) n
theorem CAll.of (h : CK ρ w S b c) (hT : KAll S) (hF : KFull S) (hP : KPrs S) (F : Nat) : CAll ρ S b c F :=
 ⟨hT,hF,hP,h.ok.three,fun n hn hw => (gC h hT hF hP F n hn).1 hw,fun n hn hw => (gC h hT hF hP F n hn).2 hw⟩
theorem CAll.ar {F : Nat} (H : CAll ρ S b c F) {n : T} (hn : yr n <= F) (hw : Well .expression n) : CAr ρ S b c (S.level c F) n := ⟨H.ex n hn hw,fun hd => H.de n hn (kg hw hd),qF hw⟩
theorem oJ {F : Nat} (H : CAll ρ S b c F) {res : Option Nat} (hres : ∀ q,res = some q -> q < S.tys.length) {acts : List T -> CR Unit} {n : T} (hn : Well .act n) (hd : yr n <= F)
  (hl : ∀ y ∈ n.subs,Well (.list .act) y -> ∀ (w : World) (sv : Value),CK ρ w S b c -> w.cell? ⟨b,3,none⟩ = some (ρ.tyP res) -> AT w y.subs sv -> Calls Tryz.prog 59 #[.pointer (some ⟨b,0,none⟩),sv] w (Cy w ((acts y.subs).map fun _ => .tuple #[])))
  (w : World) (sv : Value) (h : CK ρ w S b c) (hc : w.cell? ⟨b,3,none⟩ = some (ρ.tyP res)) (hf : Fits n) (ha : AT w n.subs sv) :
  Calls Tryz.prog 77 #[.pointer (some ⟨b,0,none⟩),zn n sv] w (Cy w ((S.actC c (S.level c F) res acts n).map fun _ => .tuple #[])) := by
 have d : ∀ u ∈ n.subs,yr u <= F := fun u hu => by have := jp hu; omega
 have e : (∀ y ∈ n.subs,Well .expression y \/ Well (.list .act) y) -> ∀ w1,w.grownBy w1 none -> Calls Tryz.prog 112 #[.pointer (some ⟨b,0,none⟩),sv] w1 (Cy w1 ((yD (fun y => if y.kind = 1 then acts y.subs else yP (S.level c F) y 1) n.subs).map fun _ => .tuple #[])) := by
  intro hy w1 G; refine kO (h.up G) (ha.kept G) (fun y hy' => ⟨fun hk w2 sv2 G2 ha2 => ?_,fun hk w2 sv2 G2 hf2 ha2 => ?_⟩)
  ·rw [if_pos hk]
   rcases hy y hy' with f | f
   ·have := mn f; omega
   ·exact hl y hy' f w2 sv2 ((h.up G).up G2) (zi (za G G2) hc) ha2
  ·rw [if_neg hk]
   rcases hy y hy' with f | f
   ·exact ue ((h.up G).up G2) y sv2 hf2 ha2 (by have := H.three; omega) (H.ex y (d y hy') f)
   ·exact absurd (nX f) hk
 cases la hn with
 | assign p u v hu hv =>
  exact tW h _ sv hf ha rfl (fun w1 G => qu (h.up G) _ sv hf (ha.kept G) H.ty rfl (H.ar (d u (by simp [T.subs])) (ul hu)) (H.ex v (d v (by simp [T.subs])) hv))
 | call p u us hu hs =>
  exact nT h _ sv hf ha rfl (fun w1 G => fE (h.up G) _ sv hf (ha.kept G) H.ty H.full H.prs rfl (H.de u (d u (by simp [T.subs])) hu) (qF (ul hu)) (fun v hv => H.ar (d v (by simp [T.subs,hv])) (hs v hv)))
 | choice m p u v us hm hu hv hs =>
  refine pZ h _ sv hf ha rfl (e ?_); intro y hy
  simp [T.subs] at hy
  rcases hy with rfl | rfl | hy
  ·exact .inl hu
  ·exact .inr hv
  ·exact pd hs y hy
 | loop p u v hu hv =>
  refine oW h _ sv hf ha rfl (e ?_); intro y hy
  simp [T.subs] at hy
  rcases hy with rfl | rfl
  ·exact .inl hu
  ·exact .inr hv
 | rept p u v hu hv =>
  refine oq h _ sv hf ha rfl (e ?_); intro y hy
  simp [T.subs] at hy
  rcases hy with rfl | rfl
  ·exact .inr hu
  ·exact .inl hv
 | ret0 p => exact sx h _ sv hf ha rfl (fun w1 G => je (h.up G) _ sv hf (ha.kept G) H.ty (zi G hc) hres (by simp [T.subs]) (fun u hu => by simp [T.subs] at hu))
 | ret1 p u hu => exact sx h _ sv hf ha rfl (fun w1 G => je (h.up G) _ sv hf (ha.kept G) H.ty (zi G hc) hres (by simp [T.subs]) (fun v hv => by simp [T.subs] at hv; subst hv; exact H.ex v (d v (by simp [T.subs])) hu))
 | word k p u hk hu =>
  have g := H.ar (d u (by simp [T.subs])) hu
  rcases hk with rfl | rfl | rfl | rfl
  ·exact ox h _ sv hf ha rfl rfl g
  ·exact nE h _ sv hf ha rfl rfl g.ex
  ·exact oo h _ sv hf ha rfl rfl g
  ·exact tT h _ sv hf ha rfl rfl g.ex
theorem gj {F : Nat} (H : CAll ρ S b c F) {res : Option Nat} (hres : ∀ q,res = some q -> q < S.tys.length) : ∀ (f : Nat) (l : List T),(∀ n ∈ l,Well .act n /\ yr n <= f /\ yr n <= F) -> ∀ (w : World) (sv : Value),CK ρ w S b c -> w.cell? ⟨b,3,none⟩ = some (ρ.tyP res) -> AT w l sv ->
  Calls Tryz.prog 59 #[.pointer (some ⟨b,0,none⟩),sv] w (Cy w ((S.actsF c (S.level c F) res f l).map fun _ => .tuple #[]))
 | 0,l,hl,w,sv,h,hc,ha => by
  cases l with
  | nil => exact df (f := fun _ => .ok ()) h ha (fun n hn => by cases hn)
  | cons n r =>
   have h9 : 0 < yr n := by cases n; rw [yr]; omega
   have := (hl n (by simp)).2.1
   omega
 | f + 1,l,hl,w,sv,h,hc,ha => by
  refine df (f := S.actC c (S.level c F) res (S.actsF c (S.level c F) res f)) h ha (fun n hn w1 sv1 G hf ha1 => ?_); obtain ⟨h1,_,h3⟩ := hl n hn; refine oJ H hres h1 h3 (fun y hy hw w2 sv2 h' hc' ha' => ?_) w1 sv1 (h.up G) (zi G hc) hf ha1; obtain ⟨p,us,rfl,hus⟩ := rS hw; refine gj H hres f us (fun u hu => ?_) w2 sv2 h' hc' ha'; have d1 := jp hy; have d2 := jp (t := .mk 1 [] 0 p us) (u := u) hu
  exact ⟨hus u hu,by omega,by omega⟩
end
end Go.Proofs.YtnmkffjklpfflaaGreatDoor
