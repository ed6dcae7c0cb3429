/- Every expression,and every designator,is told. -/
import Derived.Test.YtnmkffjklpfflaaGreatDoorG17
import Derived.Test.YtnmkffjklpfflaaGreatDoorG09
namespace Go.Proofs.YtnmkffjklpfflaaGreatDoor
open Go.RowKit
section
variable {ρ : Lay} {w w' w1 : World} {S : KS} {b : Nat} {c : KSc}
theorem bK (hT : KAll S) {r : KR} {n u : T} {t : Nat} (hz : sub n 0 = u) (hu : ∀ t,r.de u = .ok t -> t < S.tys.length) (e : S.dotC c r n = .ok t) : t < S.tys.length := by
 unfold KS.dotC at e
 obtain ⟨a,f,e⟩ := bind_ok e; rw [hz] at f
 have g : (if (S.ty a).form = 5 then S.of a else a) < S.tys.length := by
  split
  ·rename_i h5; exact (hT.p (hu a f) h5).2.1
  ·exact hu a f
 revert e g
 generalize (if (S.ty a).form = 5 then S.of a else a) = q
 intro e g
 try dsimp only at e
 split at e
 ·rename_i h4
  split at e
  ·cases e
  ·rename_i d o hf
   have := (rK hT.toKTys g h4 hf).2.2
   split at e
   ·cases e; exact this
   ·split at e
    ·cases e; exact this
    ·cases e
 ·cases e
theorem lu (hT : KAll S) {r : KR} {n u : T} {t : Nat} (hz : sub n 0 = u) (hu : ∀ t,r.de u = .ok t -> t < S.tys.length) (e : S.indexC r n = .ok t) : t < S.tys.length := by
 unfold KS.indexC at e
 obtain ⟨a,d,e⟩ := bind_ok e; obtain ⟨i,-,e⟩ := bind_ok e; rw [hz] at d
 try dsimp only at e
 split at e
 ·rename_i h3
  obtain ⟨_,-,e⟩ := bind_ok e; cases e
  exact (hT.a (hu a d) h3).2
 ·cases e
theorem pK (h : CK ρ w S b c) {r : KR} {n : T} {t : Nat} (e : S.guardedC c r n = .ok t) : t < S.tys.length := by
 unfold KS.guardedC at e
 obtain ⟨f,-,e⟩ := bind_ok e; obtain ⟨_,d,e⟩ := bind_ok e
 try dsimp only at e
 split at e
 ·split at e
  ·cases e; exact yF h d
  ·cases e
 ·cases e
theorem hU (h : CK ρ w S b c) (hF : KFull S) {r : KR} {n : T} {t : Nat} (hne : S.meaningC c n ≠ .ok none) (e : S.desigC c r n = .ok t) : t < S.tys.length := by
 unfold KS.desigC at e
 obtain ⟨m,d,e⟩ := bind_ok e; cases m with
 | none => exact absurd d hne
 | some a =>
  try dsimp only at e
  split at e
  ·rename_i hk
   have f := ub h (xF d); obtain ⟨i,g⟩ := hF a f hk; rw [g] at e; cases e
   exact h.ok.ty a f i g
  ·cases e
theorem um {r : KR} {n : T} (hne : S.meaningC c n = .ok none) : S.desigC c r n = if n.kind = 25 then S.dotC c r n else if n.kind = 26 then S.indexC r n else if n.kind = 27 then (S.pointerC r n).bind (fun t => .ok (S.of t)) else S.guardedC c r n := by
 unfold KS.desigC
 rw [hne]
 rfl
theorem tK {x : List UInt8} {m p : Int} {l : List T} : S.meaningC c (.mk 24 x m p l) ≠ .ok none := by
 unfold KS.meaningC
 cases S.meaning c (.mk 24 x m p l) with
 | some t => intro h; cases h
 | none => simp only [T.kind,if_true]; intro h; cases h
theorem nW (h : CK ρ w S b c) (hT : KAll S) (hF : KFull S) {r : KR} {n : T} (hn : Well .designator n) (hd : ∀ u ∈ n.subs,Well .designator u -> CDe ρ S b c r u) (he : ∀ u ∈ n.subs,Well .expression u -> CEx ρ S b c r u) :
  (∀ t,S.desigC c r n = .ok t -> t < S.tys.length) /\ ∀ (w : World) (sv : Value),CK ρ w S b c -> Fits n -> AT w n.subs sv -> Calls Tryz.prog 161 #[pq b,zo n sv] w (Cy w ((S.desigC c r n).map fun t => pq (ρ.ty t))) := by
 have hk := me hn
 by_cases d : S.meaningC c n = .ok none
 ·cases cA hn with
  | ref x p hx => exact absurd d tK
  | dot x p u hx hu =>
   have f := hd u (by simp [T.subs]) hu; refine ⟨fun t e => ?_,fun w sv h' hf g => ng h' _ sv hf g (fun _ => by simp [T.subs]) rfl d (fun w1 G => iX (h'.up G) _ sv hf (g.kept G) hT rfl f)⟩; rw [um d] at e; simp only [T.kind,if_true] at e
   exact bK hT rfl f.lt e
  | index p u v hu hv =>
   have f := hd u (by simp [T.subs]) hu; have i := he v (by simp [T.subs]) hv; refine ⟨fun t e => ?_,fun w sv h' hf g => sH h' _ sv hf g (fun _ => by simp [T.subs]) rfl d (fun w1 G => oB (h'.up G) _ sv hf (g.kept G) hT rfl f i)⟩; rw [um d] at e
   simp [T.kind] at e
   exact lu hT rfl f.lt e
  | deref p u hu =>
   have f := he u (by simp [T.subs]) (uh hu); refine ⟨fun t e => ?_,fun w sv h' hf g => sO h' _ sv hf g (fun _ => by simp [T.subs]) hT rfl rfl f d⟩; rw [um d] at e
   simp [T.kind] at e
   obtain ⟨a,g,e⟩ := bind_ok e; cases e
   exact (hT.p (f.lt a (xQ g).1) (xQ g).2).2.1
  | guard p u v hu hv =>
   have f := he u (by simp [T.subs]) (uh hu); refine ⟨fun t e => ?_,fun w sv h' hf g => sA h' _ sv hf g (fun _ => by simp [T.subs]) rfl d (fun w1 G => qe (h'.up G) _ sv hf (g.kept G) hT rfl f)⟩; rw [um d] at e
   simp [T.kind] at e
   exact pK h e
  | number m p h0 h1 => simp [T.kind] at hk
  | word k p hk' => simp only [T.kind] at hk; omega
  | call p u us hu j => simp [T.kind] at hk
  | one k p u hk' hu => simp only [T.kind] at hk; omega
  | is p u v hu hv => simp [T.kind] at hk
  | op x p u v hx hu hv => simp [T.kind] at hk
 ·have j : n.kind = 25 -> 0 < n.subs.length := by
   intro l
   cases cA hn <;> simp_all [T.kind,T.subs]
  exact ⟨fun t e => hU h hF d e,fun w sv h' hf g => sP h' n sv hf g j hF d⟩
theorem kw {n : T} (hn : Well .expression n) (hd : zI n = true) : Well .designator n := by
 simp only [zI,Bool.and_eq_true] at hd; have g := of_decide_eq_true hd.1; have h := of_decide_eq_true hd.2; obtain ⟨l,d,f⟩ := Well.iff.1 hn; refine .mk l ?_ f
 have e : zV n = zZ n := by
  unfold zV
  rw [if_neg (by omega),if_neg (by omega),if_neg (by omega),if_neg (by omega),if_neg (by omega),if_neg (by omega)]
 exact e.symm.trans d
theorem gw {n : T} (hn : Well .expression n) : n.kind = 25 -> 0 < n.subs.length := by
 intro d; have := cA (kw hn (by simp [zI,d]))
 cases this <;> simp_all [T.kind,T.subs]
theorem bX (h : CK ρ w S b c) (hT : KAll S) (hF : KFull S) (hP : KPrs S) {r : KR} {n : T} (hn : Well .expression n) (hd : ∀ u ∈ n.subs,Well .designator u -> CDe ρ S b c r u) (he : ∀ u ∈ n.subs,Well .expression u -> CEx ρ S b c r u) :
  (∀ t,S.exprC c r n = .ok t -> t < S.tys.length) /\ ∀ (w : World) (sv : Value),CK ρ w S b c -> Fits n -> AT w n.subs sv -> Calls Tryz.prog 157 #[pq b,zo n sv] w (Cy w ((S.exprC c r n).map fun t => pq (ρ.ty t))) := by
 have A := h.ok.three
 by_cases d : zI n = true
 ·obtain ⟨o,s⟩ := nW h hT hF (kw hn d) hd he
  have e : S.exprC c r n = S.desigC c r n := by
   simp only [zI,Bool.and_eq_true] at d; have B := of_decide_eq_true d.1; have C := of_decide_eq_true d.2
   unfold KS.exprC
   rw [if_neg (by omega),if_neg (by omega),if_neg (by omega),if_neg (by omega),if_neg (by omega),if_neg (by omega),if_neg (by omega),if_neg (by omega)]
  exact ⟨fun t ht => o t (e ▸ ht),fun w sv h' hf f => mJ h' n sv hf f d (fun w1 G => s w1 sv (h'.up G) hf (f.kept G))⟩
 ·have j : ∀ v ∈ n.subs,Well .expression v -> CAr ρ S b c r v := fun v hv hw => ⟨he v hv hw,fun hd' => hd v hv (kw hw hd'),gw hw⟩
  cases aq hn with
  | ref x p hx => simp [zI,T.kind] at d
  | dot x p u hx hu => simp [zI,T.kind] at d
  | index p u v hu hv => simp [zI,T.kind] at d
  | deref p u hu => simp [zI,T.kind] at d
  | guard p u v hu hv => simp [zI,T.kind] at d
  | number m p h0 o =>
   refine ⟨fun t e => ?_,fun w sv h' hf f => gJ h' _ sv hf f (.inl rfl)⟩
   simp [KS.exprC,T.kind] at e
   omega
  | word k p hk =>
   refine ⟨fun t e => ?_,fun w sv h' hf f => gJ h' _ sv hf f (.inr hk)⟩
   rcases hk with rfl | rfl | rfl <;> simp [KS.exprC,T.kind] at e <;> omega
  | call p u us hu hs =>
   have g := hd u (by simp [T.subs]) hu
   have i := fun w sv (h' : CK ρ w S b c) hf f => tf (r := r) h' (.mk 33 [] 0 p (u :: us)) sv hf f hT hF hP rfl g (gw (uh hu)) (fun v hv => j v (by simp [T.subs,hv]) (hs v hv))
   refine ⟨fun t e => ?_,fun w sv h' hf f => oA h' _ sv hf f rfl (fun w1 G => i w1 sv (h'.up G) hf (f.kept G))⟩; simp only [KS.exprC,T.kind] at e
   simp at e
   obtain ⟨a,f,e⟩ := bind_ok e; cases a with
   | none => cases e
   | some t' =>
    cases e
    unfold KS.callC at f
    obtain ⟨q,z,f⟩ := bind_ok f
    try dsimp only at f
    split at f
    ·obtain ⟨_,-,f⟩ := bind_ok f
     exact hP.res q (da h z) _ (Except.ok.inj f)
    ·cases f
  | one k p u hk hu =>
   have g := he u (by simp [T.subs]) hu
   rcases hk with rfl | rfl
   ·refine ⟨fun t e => ?_,fun w sv h' hf f => mC h' _ sv hf f rfl rfl g⟩
    simp [KS.exprC,T.kind] at e
    obtain ⟨a,-,e⟩ := bind_ok e; cases e
    omega
   ·refine ⟨fun t e => ?_,fun w sv h' hf f => mI h' _ sv hf f rfl rfl g⟩
    simp [KS.exprC,T.kind] at e
    obtain ⟨a,-,e⟩ := bind_ok e; cases e
    omega
  | is p u v hu hv =>
   have g := he u (by simp [T.subs]) hu; refine ⟨fun t e => ?_,fun w sv h' hf f => iG h' _ sv hf f rfl (fun w1 G => qe (h'.up G) _ sv hf (f.kept G) hT rfl g)⟩
   simp [KS.exprC,T.kind] at e
   obtain ⟨a,-,e⟩ := bind_ok e; cases e
   omega
  | op x p u v hx hu hv =>
   have g := he u (by simp [T.subs]) hu; have l := he v (by simp [T.subs]) hv; refine ⟨fun t e => ?_,fun w sv h' hf f => ct h' _ sv hf f rfl (fun w1 G => dD (h'.up G) _ sv hf (f.kept G) hT rfl g l)⟩
   simp [KS.exprC,T.kind] at e
   unfold KS.operatorC at e
   obtain ⟨_,-,e⟩ := bind_ok e; obtain ⟨_,-,e⟩ := bind_ok e; obtain ⟨_,-,e⟩ := bind_ok e; cases e
   unfold xd
   split <;> omega
theorem fy (h : CK ρ w S b c) (hT : KAll S) (hF : KFull S) (hP : KPrs S) : ∀ (f : Nat) (n : T),yf n <= f -> (Well .expression n -> CEx ρ S b c (S.level c f) n) /\ (Well .designator n -> CDe ρ S b c (S.level c f) n)
 | 0,n,hd => by
  have h9 : 0 < yf n := by cases n; rw [yf]; omega
  omega
 | f + 1,n,hd => by
  have ih := fun u (hu : u ∈ n.subs) => fy h hT hF hP f u (by have := xP hu; omega)
  refine ⟨fun hn => ?_,fun hn => ?_⟩
  ·obtain ⟨h1,h2⟩ := bX h hT hF hP hn (fun u hu => (ih u hu).2) (fun u hu => (ih u hu).1)
   exact ⟨h1,h2⟩
  ·obtain ⟨h1,h2⟩ := nW h hT hF hn (fun u hu => (ih u hu).2) (fun u hu => (ih u hu).1)
   exact ⟨h1,h2⟩
end
set_option maxHeartbeats 4000000
set_option maxRecDepth 100000
section
variable {ρ : Lay} {w w' w1 : World} {S : KS} {b : Nat} {c : KSc}
def KS.assignC (S : KS) (c : KSc) (r : KR) (n : T) : CR Unit := (S.variableC c r.de (sub n 0)).bind fun t => (r.ex (sub n 1)).bind fun u => if S.takes t u = true then .ok () else thr (sub n 1) 7
theorem hO (h : CK ρ w S b c) (n : T) (sv : Value) (hf : Fits n) (ha : AT w n.subs sv) (hT : KAll S) {r : KR} {u v : T} (hl : n.subs = [u,v]) (hu : CAr ρ S b c r u) (hv : CEx ρ S b c r v) :
  Calls Tryz.prog 110 #[pq b,zo n sv] w (Cy w ((S.assignC c r n).map fun _ => .tuple #[])) := by
 have HU := zc (fun w1 (G : w.grownBy w1 none) su (fu : Fits u) (Z : AT w u.subs su) => vA (h.up G) u su fu (Z.kept G) hu.dot hu.de); have HV := zc (fun w1 (G : w.grownBy w1 none) su (fu : Fits v) (Z : AT w v.subs su) => hv.run w1 su (h.up G) fu (Z.kept G)); have HM := zc h.km; have L := zc hT
 have b4 := fun t e => vI hu.de (t := t) e
 have b5 := hv.lt; obtain ⟨f,x,m,p,l⟩ := n; obtain rfl : l = [u,v] := hl; obtain ⟨g,o,s,su,_,rfl,_,_,n5,fu,Z,n6,fv,av⟩ := ha.pair; obtain ⟨ua,uc,rfl,-,-⟩ := Z.form; obtain ⟨va,vc,rfl,-,-⟩ := av.form; have HA := zc Z; have HF := zc fu; have a0 := zc av; have a1 := zc fv
 replace n5 := zc n5
 replace n6 := zc n6
 clear fu Z fv av
 change Calls Tryz.prog 110 #[pq b,.agg #[.int .i64 f,.string ⟨x.toArray⟩,.int .i64 m,.int .i64 p,.slice (some ⟨g,o,none⟩) 2 s]] w _
 obtain ⟨w0,A⟩ : ∃ z,z = w.alloc (.cells #[.int .i64 f,.string ⟨x.toArray⟩,.int .i64 m,.int .i64 p,.slice (some ⟨g,o,none⟩) 2 s] 100) := ⟨_,rfl⟩
 have G0 : Hid (w.grownBy w0 none) := by rw [A]; exact zh grn _
 have B0 : Hid (Box w0 w.heap.size (.mk f x m p [u,v]) (.slice (some ⟨g,o,none⟩) 2 s)) := by rw [A]; exact Box.new w (.mk f x m p [u,v]) (.slice (some ⟨g,o,none⟩) 2 s) _
 clear h ha hf hu hv hT
 have hz : sub (.mk f x m p [u,v]) 0 = u := rfl
 have a2 : sub (.mk f x m p [u,v]) 1 = v := rfl
 generalize hR : S.assignC c r (.mk f x m p [u,v]) = R
 go_enter Tryz.func110,Tryz.ntmps110
 go_wp2_with fail; rw [<- A]
 have J : w0.heap.size = w.heap.size + 1 := by rw [A]; simp
 clear A
 have HS : Hid (∀ w',w0.grownBy w' none -> w'.cell? ⟨w.heap.size,4,none⟩ = some (.slice (some ⟨g,o,none⟩) 2 s) /\ w'.cell? ⟨g,o,none⟩ = some (.int .i64 u.kind) /\ w'.cell? ⟨g,o + 1,none⟩ = some (.string ⟨u.name.toArray⟩) /\ w'.cell? ⟨g,o + 2,none⟩ = some (.int .i64 u.num) /\ w'.cell? ⟨g,o + 3,none⟩ = some (.int .i64 u.at') /\ w'.cell? ⟨g,o + 4,none⟩ = some ((.slice ua u.subs.length uc)) /\ w'.cell? ⟨g,o + 5,none⟩ = some (.int .i64 v.kind) /\ w'.cell? ⟨g,o + 6,none⟩ = some (.string ⟨v.name.toArray⟩) /\ w'.cell? ⟨g,o + 7,none⟩ = some (.int .i64 v.num) /\ w'.cell? ⟨g,o + 8,none⟩ = some (.int .i64 v.at') /\ w'.cell? ⟨g,o + 9,none⟩ = some ((.slice va v.subs.length vc))) := fun w' hg => by
  have I := za G0.out hg
  exact ⟨ze hg B0.out.c4,ze I n5.out.c0,ze I n5.out.c1,ze I n5.out.c2,ze I n5.out.c3,ze I n5.out.c4,ze I n6.out.c0,ze I n6.out.c1,ze I n6.out.c2,ze I n6.out.c3,ze I n6.out.c4⟩
 go_cut [4,5] from 15 (fun s1 s2 wx => ∃ (P Q : Nat),s1 = pq P /\ s2 = pq Q /\ Box wx P u (.slice ua u.subs.length uc) /\ Box wx Q v (.slice va v.subs.length vc) /\ w0.grownBy wx none)
 case first =>
  go_region_held (fun w' => w'.cell? ⟨w.heap.size,4,none⟩ = some (.slice (some ⟨g,o,none⟩) 2 s) /\ w'.cell? ⟨g,o,none⟩ = some (.int .i64 u.kind) /\ w'.cell? ⟨g,o + 1,none⟩ = some (.string ⟨u.name.toArray⟩) /\ w'.cell? ⟨g,o + 2,none⟩ = some (.int .i64 u.num) /\ w'.cell? ⟨g,o + 3,none⟩ = some (.int .i64 u.at') /\ w'.cell? ⟨g,o + 4,none⟩ = some ((.slice ua u.subs.length uc)) /\ w'.cell? ⟨g,o + 5,none⟩ = some (.int .i64 v.kind) /\ w'.cell? ⟨g,o + 6,none⟩ = some (.string ⟨v.name.toArray⟩) /\ w'.cell? ⟨g,o + 7,none⟩ = some (.int .i64 v.num) /\ w'.cell? ⟨g,o + 8,none⟩ = some (.int .i64 v.at') /\ w'.cell? ⟨g,o + 9,none⟩ = some ((.slice va v.subs.length vc))) (exact HS.out _ (by first | with_reducible exact zf grn | with_reducible exact zf gan | with_reducible exact zf (zh gan _))) (fail)
  all_goals
   go_wp2_with fail; go_meet
  case rel => exact ⟨_,_,rfl,rfl,((Box.at J.symm _ _ _).alloc _).drew,(Box.at (by simp [J]) _ _ _).drew,(zf (zh gan _))⟩
  case rel => exact ⟨_,_,rfl,rfl,(Box.at (by simp [J]) _ _ _).drew,((Box.at J.symm _ _ _).alloc _).drew,(zf (zh gan _))⟩
 case rest =>
  obtain ⟨P,Q,rfl,rfl,bP,bQ,gx⟩ := hcut; obtain ⟨w1,b6⟩ : ∃ z,z = wc := ⟨_,rfl⟩; subst b6; have M := zc (za G0.out gx); have B1 : Hid (Box w1 w.heap.size (.mk f x m p [u,v]) (.slice (some ⟨g,o,none⟩) 2 s)) := Box.kept B0.out gx
  replace bP := zc bP
  replace bQ := zc bQ
  clear gx; cases K : S.variableC c r.de u with
  | error z =>
   obtain rfl : R = .error z := hR.symm.trans (by simp [KS.assignC,hz,K,Except.bind]); obtain ⟨B,C,D,E,F⟩ := bP.out; go_wp2_with fail; go_at_call 114; refine (HU.out _ M.out _ HF.out HA.out).mono ?_; rw [K]; rintro e w2 h2; have L := h2; obtain ⟨q,rfl⟩ := h2.thrown
   exact ⟨rfl,L.err M.out⟩
  | ok t =>
   have ht := b4 t K; cases hy : r.ex v with
   | error z =>
    obtain rfl : R = .error z := hR.symm.trans (by simp [KS.assignC,hz,a2,K,hy,Except.bind]); obtain ⟨B,C,D,E,F⟩ := bP.out; go_wp2_with fail; go_at_call 114; refine (HU.out _ M.out _ HF.out HA.out).mono ?_; rw [K]; rintro e w2 ⟨d,rfl⟩; have N := zc (za M.out d); have B2 : Hid (Box w2 w.heap.size (.mk f x m p [u,v]) (.slice (some ⟨g,o,none⟩) 2 s)) := Box.kept B1.out (za grn d); have i := zc (Box.kept bQ.out (za grn d)); obtain ⟨O,U,V,X,Y⟩ := i.out; go_wp2_with fail; go_at_call 157; refine (HV.out _ N.out _ a1.out a0.out).mono ?_; rw [hy]; rintro e w3 h3; have L := h3; obtain ⟨q,rfl⟩ := h3.thrown
    exact ⟨rfl,L.err N.out⟩
   | ok a =>
    have ha := b5 a hy; cases he : S.takes t a
    ·obtain rfl : R = .error (7,v.at') := hR.symm.trans (by simp [KS.assignC,hz,a2,K,hy,he,Except.bind,thr])
     obtain ⟨B,C,D,E,F⟩ := bP.out; go_wp2_with fail; go_at_call 114; refine (HU.out _ M.out _ HF.out HA.out).mono ?_; rw [K]; rintro e w2 ⟨d,rfl⟩; have N := zc (za M.out d); have B2 : Hid (Box w2 w.heap.size (.mk f x m p [u,v]) (.slice (some ⟨g,o,none⟩) 2 s)) := Box.kept B1.out (za grn d); have i := zc (Box.kept bQ.out (za grn d)); obtain ⟨O,U,V,X,Y⟩ := i.out; go_wp2_with fail; go_at_call 157; refine (HV.out _ N.out _ a1.out a0.out).mono ?_; rw [hy]; rintro e w3 ⟨j,rfl⟩; have G3 := zc (za N.out j); have B3 : Hid (Box w3 w.heap.size (.mk f x m p [u,v]) (.slice (some ⟨g,o,none⟩) 2 s)) := Box.kept B2.out (za grn j); have H := zc (Box.kept i.out (za grn j)); obtain ⟨a4,a5,a6,a7,a8⟩ := H.out; go_wp2_with fail; go_at_call 156; refine (yI (HM.out.up G3.out) L.out ht ha).mono ?_; rw [he]; rintro e w4 ⟨rfl,k⟩; have G4 := zc (za G3.out k); have B4 : Hid (Box w4 w.heap.size (.mk f x m p [u,v]) (.slice (some ⟨g,o,none⟩) 2 s)) := Box.kept B3.out (za grn k); have a3 := zc (Box.kept H.out (za grn k)); obtain ⟨a9,b0,b1,b2,b3⟩ := a3.out; go_wp2_with fail; go_at_call 53; refine (zu _ v _ 7).mono ?_; rintro e w5 h5; have L := h5; obtain ⟨q,rfl⟩ := h5.thrown
     exact ⟨rfl,L.err G4.out⟩
    ·obtain rfl : R = .ok () := hR.symm.trans (by simp [KS.assignC,hz,a2,K,hy,he,Except.bind])
     obtain ⟨B,C,D,E,F⟩ := bP.out; go_wp2_with fail; go_at_call 114; refine (HU.out _ M.out _ HF.out HA.out).mono ?_; rw [K]; rintro e w2 ⟨d,rfl⟩; have N := zc (za M.out d); have B2 : Hid (Box w2 w.heap.size (.mk f x m p [u,v]) (.slice (some ⟨g,o,none⟩) 2 s)) := Box.kept B1.out (za grn d); have i := zc (Box.kept bQ.out (za grn d)); obtain ⟨O,U,V,X,Y⟩ := i.out; go_wp2_with fail; go_at_call 157; refine (HV.out _ N.out _ a1.out a0.out).mono ?_; rw [hy]; rintro e w3 ⟨j,rfl⟩; have G3 := zc (za N.out j); have B3 : Hid (Box w3 w.heap.size (.mk f x m p [u,v]) (.slice (some ⟨g,o,none⟩) 2 s)) := Box.kept B2.out (za grn j); have H := zc (Box.kept i.out (za grn j)); obtain ⟨a4,a5,a6,a7,a8⟩ := H.out; go_wp2_with fail; go_at_call 156; refine (yI (HM.out.up G3.out) L.out ht ha).mono ?_; rw [he]; rintro e w4 ⟨rfl,k⟩; have G4 := zc (za G3.out k); have B4 : Hid (Box w4 w.heap.size (.mk f x m p [u,v]) (.slice (some ⟨g,o,none⟩) 2 s)) := Box.kept B3.out (za grn k); have a3 := zc (Box.kept H.out (za grn k)); obtain ⟨a9,b0,b1,b2,b3⟩ := a3.out; go_wp2; refine bodyPost_end (results_none rfl _ _ _) rfl ?_
     exact Cy.ok G4.out
theorem jw (h : CK ρ w S b c) (n : T) (sv : Value) (hf : Fits n) (ha : AT w n.subs sv) (hT : KAll S) {r : KR} {res : Option Nat} (hc : w.cell? ⟨b,3,none⟩ = some (ρ.tyP res)) (hres : ∀ q,res = some q -> q < S.tys.length) (hl1 : n.subs.length <= 1) (hu : ∀ u ∈ n.subs,CEx ρ S b c r u) :
  Calls Tryz.prog 113 #[pq b,zo n sv] w (Cy w ((S.returnC r res n).map fun _ => .tuple #[])) := by
 have HM := zc h.km; have s := zc hT; have HK := zc h; have c3 := zc hc; have zb : b < w.heap.size := zw hc
 rcases le1 hl1 with hl | ⟨u,hl⟩
 ·obtain ⟨d,x,m,p,l⟩ := n
  obtain rfl : l = [] := hl; obtain ⟨a,j,rfl,a1,-⟩ := ha.zero rfl
  change Calls Tryz.prog 113 #[pq b,.agg #[.int .i64 d,.string ⟨x.toArray⟩,.int .i64 m,.int .i64 p,.slice a 0 j]] w _
  obtain ⟨M,f⟩ : ∃ z,z = w.alloc (.cells #[.int .i64 d,.string ⟨x.toArray⟩,.int .i64 m,.int .i64 p,.slice a 0 j] 100) := ⟨_,rfl⟩
  have v : Hid (w.grownBy M none) := by rw [f]; exact zh grn _
  have B0 : Hid (Box M w.heap.size (.mk d x m p []) (.slice a 0 j)) := by rw [f]; exact Box.new w (.mk d x m p []) (.slice a 0 j) _
  clear h ha hf hu hT hl1; cases res with
  | none =>
   rw [uM] at hc; rw [show S.returnC r none (.mk d x m p []) = .ok () by simp [KS.returnC,T.subs]]
   go_enter Tryz.func113,Tryz.ntmps113
   go_wp2; refine bodyPost_ret (results_none rfl _ _ _) rfl ?_
   exact Cy.ok gan
  | some q =>
   rw [yo] at hc; rw [show S.returnC r (some q) (.mk d x m p []) = .error (7,p) by simp [KS.returnC,T.subs,thr,T.at']]
   go_enter Tryz.func113,Tryz.ntmps113
   go_wp2_with fail; go_at_call 53; rw [<- f]; refine (zu _ (.mk d x m p []) (.slice a 0 j) 7).mono ?_; rintro e w1 N; have s := N; obtain ⟨q,rfl⟩ := N.thrown
   exact ⟨rfl,s.err v.out⟩
 ·obtain ⟨d,x,m,p,l⟩ := n
  obtain rfl : l = [u] := hl; have hu := hu u (by simp [T.subs]); have a0 := hu.lt; have HU := zc (fun w1 (G : w.grownBy w1 none) su (fu : Fits u) (O : AT w u.subs su) => hu.run w1 su (HK.out.up G) fu (O.kept G)); obtain ⟨g,o,j,su,rfl,a2,a3,C,fu,O,-⟩ := ha.cons; obtain ⟨ua,uc,rfl,-,-⟩ := O.form; have HA := zc O; have HF := zc fu; have d0 := C.c0; have d1 := C.c1; have d2 := C.c2; have d3 := C.c3; have d4 := C.c4; have zg : g < w.heap.size := zw d0
  replace C := zc C
  clear fu O
  change Calls Tryz.prog 113 #[pq b,.agg #[.int .i64 d,.string ⟨x.toArray⟩,.int .i64 m,.int .i64 p,.slice (some ⟨g,o,none⟩) 1 j]] w _
  obtain ⟨M,f⟩ : ∃ z,z = w.alloc (.cells #[.int .i64 d,.string ⟨x.toArray⟩,.int .i64 m,.int .i64 p,.slice (some ⟨g,o,none⟩) 1 j] 100) := ⟨_,rfl⟩
  have v : Hid (w.grownBy M none) := by rw [f]; exact zh grn _
  have B0 : Hid (Box M w.heap.size (.mk d x m p [u]) (.slice (some ⟨g,o,none⟩) 1 j)) := by rw [f]; exact Box.new w (.mk d x m p [u]) (.slice (some ⟨g,o,none⟩) 1 j) _
  clear h ha hf hu hT hl1 hc
  have hz : sub (.mk d x m p [u]) 0 = u := rfl
  cases B : r.ex u with
  | error z =>
   rw [show S.returnC r res (.mk d x m p [u]) = .error z by simp [KS.returnC,T.subs,hz,B,Except.bind]]
   go_enter Tryz.func113,Tryz.ntmps113
   go_wp2_with fail; go_at_call 157; rw [<- f]; refine (HU.out _ v.out _ HF.out HA.out).mono ?_; rw [B]; rintro e w1 N; have s := N; obtain ⟨q,rfl⟩ := N.thrown
   exact ⟨rfl,s.err v.out⟩
  | ok t =>
   have ht := a0 t B; cases res with
   | none =>
    rw [uM] at c3; rw [show S.returnC r none (.mk d x m p [u]) = .error (7,p) by simp [KS.returnC,T.subs,hz,B,Except.bind,thr,T.at']]
    go_enter Tryz.func113,Tryz.ntmps113
    go_wp2_with fail; go_at_call 157; rw [<- f]; refine (HU.out _ v.out _ HF.out HA.out).mono ?_; rw [B]; rintro e w1 ⟨i,rfl⟩; have A := zc (za v.out i); have K : Hid (Box w1 w.heap.size (.mk d x m p [u]) (.slice (some ⟨g,o,none⟩) 1 j)) := Box.kept B0.out (za grn i); have D := ze A.out c3.out; obtain ⟨E,F,H,I,J⟩ := K.out.plain; go_wp2_with fail; go_at_call 53; refine (zu _ (.mk d x m p [u]) (.slice (some ⟨g,o,none⟩) 1 j) 7).mono ?_; rintro e w2 h2; have s := h2; obtain ⟨q,rfl⟩ := h2.thrown
    exact ⟨rfl,s.err A.out⟩
   | some q =>
    have Q := hres q rfl; rw [yo] at c3; cases he : S.takes q t
    ·rw [show S.returnC r (some q) (.mk d x m p [u]) = .error (7,u.at') by simp [KS.returnC,T.subs,hz,B,he,Except.bind,thr]]
     go_enter Tryz.func113,Tryz.ntmps113
     go_wp2_with fail; go_at_call 157; rw [<- f]; refine (HU.out _ v.out _ HF.out HA.out).mono ?_; rw [B]; rintro e w1 ⟨i,rfl⟩; have A := zc (za v.out i); have K : Hid (Box w1 w.heap.size (.mk d x m p [u]) (.slice (some ⟨g,o,none⟩) 1 j)) := Box.kept B0.out (za grn i); have D := ze A.out c3.out; obtain ⟨E,F,H,I,J⟩ := K.out.plain; go_wp2_with fail; go_at_call 156; refine (yI (HM.out.up A.out) s.out Q ht).mono ?_; rw [he]; rintro e w2 ⟨rfl,k⟩; have L := zc (za A.out k); have B2 : Hid (Box w2 w.heap.size (.mk d x m p [u]) (.slice (some ⟨g,o,none⟩) 1 j)) := Box.kept K.out (za grn k); have R := ze L.out c3.out; obtain ⟨U,V,X,Y,Z⟩ := B2.out.plain; obtain ⟨_,_,_,_,_⟩ := C.out.kept L.out; go_wp2_with fail; go_at_call 53; refine (zu _ u _ 7).mono ?_; rintro e w3 h3; have s := h3; obtain ⟨q,rfl⟩ := h3.thrown
     exact ⟨rfl,s.err L.out⟩
    ·rw [show S.returnC r (some q) (.mk d x m p [u]) = .ok () by simp [KS.returnC,T.subs,hz,B,he,Except.bind]]
     go_enter Tryz.func113,Tryz.ntmps113
     go_wp2_with fail; go_at_call 157; rw [<- f]; refine (HU.out _ v.out _ HF.out HA.out).mono ?_; rw [B]; rintro e w1 ⟨i,rfl⟩; have A := zc (za v.out i); have K : Hid (Box w1 w.heap.size (.mk d x m p [u]) (.slice (some ⟨g,o,none⟩) 1 j)) := Box.kept B0.out (za grn i); have D := ze A.out c3.out; obtain ⟨E,F,H,I,J⟩ := K.out.plain; go_wp2_with fail; go_at_call 156; refine (yI (HM.out.up A.out) s.out Q ht).mono ?_; rw [he]; rintro e w2 ⟨rfl,k⟩; have L := zc (za A.out k); have B2 : Hid (Box w2 w.heap.size (.mk d x m p [u]) (.slice (some ⟨g,o,none⟩) 1 j)) := Box.kept K.out (za grn k); have R := ze L.out c3.out; obtain ⟨U,V,X,Y,Z⟩ := B2.out.plain; go_wp2; refine bodyPost_end (results_none rfl _ _ _) rfl ?_
     exact Cy.ok L.out
end
section
variable {ρ : Lay} {w w' w1 : World} {S : KS} {b : Nat} {c : KSc}
theorem rm (_h : CK ρ w S b c) (n : T) (sv : Value) (hf : Fits n) (ha : AT w n.subs sv) {r : KR} {res : Option Nat} {acts : List T -> CR Unit} (hk : n.kind = 14) (hd : ∀ w1,w.grownBy w1 none -> Calls Tryz.prog 110 #[pq b,zo n sv] w1 (Cy w1 ((S.assignC c r n).map fun _ => .tuple #[]))) :
  Calls Tryz.prog 77 #[pq b,zo n sv] w (Cy w ((S.actC c r res acts n).map fun _ => .tuple #[])) := by
 have i := zc hd; obtain ⟨f,x,m,p,l⟩ := n
 change Calls Tryz.prog 77 #[pq b,.agg #[.int .i64 f,.string ⟨x.toArray⟩,.int .i64 m,.int .i64 p,sv]] w _
 obtain ⟨j,d⟩ : ∃ z,z = w.alloc (.cells #[.int .i64 f,.string ⟨x.toArray⟩,.int .i64 m,.int .i64 p,sv] 100) := ⟨_,rfl⟩
 have h : Hid (w.grownBy j none) := by rw [d]; exact zh grn _
 have q : Hid (Box j w.heap.size (.mk f x m p l) sv) := by rw [d]; exact Box.new w (.mk f x m p l) sv _
 obtain rfl : f = 14 := hk; clear _h ha hf hd; rw [show S.actC c r res acts (.mk 14 x m p l) = S.assignC c r (.mk 14 x m p l) by simp [KS.actC,KS.assignC,T.kind]]; cases k : S.assignC c r (.mk 14 x m p l) with
 | error z =>
  go_enter Tryz.func77,Tryz.ntmps77
  go_wp2_with fail; go_at_call 110; rw [<- d]; refine (i.out _ h.out).mono ?_; rw [k]; rintro e w1 o; have s := o; obtain ⟨_,rfl⟩ := o.thrown
  exact ⟨rfl,s.err h.out⟩
 | ok _ =>
  go_enter Tryz.func77,Tryz.ntmps77
  go_wp2_with fail; go_at_call 110; rw [<- d]; refine (i.out _ h.out).mono ?_; rw [k]; rintro e w1 ⟨g,rfl⟩; have t := zc (za h.out g); have u : Hid (Box w1 w.heap.size (.mk 14 x m p l) sv) := Box.kept q.out (za grn g); go_wp2; refine bodyPost_end (results_none rfl _ _ _) rfl ?_
  exact Cy.ok t.out
theorem pC (_h : CK ρ w S b c) (n : T) (sv : Value) (hf : Fits n) (ha : AT w n.subs sv) {r : KR} {res : Option Nat} {acts : List T -> CR Unit} (hk : n.kind = 19) (hd : ∀ w1,w.grownBy w1 none -> Calls Tryz.prog 113 #[pq b,zo n sv] w1 (Cy w1 ((S.returnC r res n).map fun _ => .tuple #[]))) :
  Calls Tryz.prog 77 #[pq b,zo n sv] w (Cy w ((S.actC c r res acts n).map fun _ => .tuple #[])) := by
 have i := zc hd; obtain ⟨f,x,m,p,l⟩ := n
 change Calls Tryz.prog 77 #[pq b,.agg #[.int .i64 f,.string ⟨x.toArray⟩,.int .i64 m,.int .i64 p,sv]] w _
 obtain ⟨j,d⟩ : ∃ z,z = w.alloc (.cells #[.int .i64 f,.string ⟨x.toArray⟩,.int .i64 m,.int .i64 p,sv] 100) := ⟨_,rfl⟩
 have h : Hid (w.grownBy j none) := by rw [d]; exact zh grn _
 have q : Hid (Box j w.heap.size (.mk f x m p l) sv) := by rw [d]; exact Box.new w (.mk f x m p l) sv _
 obtain rfl : f = 19 := hk; clear _h ha hf hd; rw [show S.actC c r res acts (.mk 19 x m p l) = S.returnC r res (.mk 19 x m p l) by simp [KS.actC,T.kind]]; cases k : S.returnC r res (.mk 19 x m p l) with
 | error z =>
  go_enter Tryz.func77,Tryz.ntmps77
  go_wp2_with fail; go_at_call 113; rw [<- d]; refine (i.out _ h.out).mono ?_; rw [k]; rintro e w1 o; have s := o; obtain ⟨_,rfl⟩ := o.thrown
  exact ⟨rfl,s.err h.out⟩
 | ok _ =>
  go_enter Tryz.func77,Tryz.ntmps77
  go_wp2_with fail; go_at_call 113; rw [<- d]; refine (i.out _ h.out).mono ?_; rw [k]; rintro e w1 ⟨g,rfl⟩; have t := zc (za h.out g); have u : Hid (Box w1 w.heap.size (.mk 19 x m p l) sv) := Box.kept q.out (za grn g); go_wp2; refine bodyPost_end (results_none rfl _ _ _) rfl ?_
  exact Cy.ok t.out
theorem bq (_h : CK ρ w S b c) (n : T) (sv : Value) (hf : Fits n) (ha : AT w n.subs sv) {r : KR} {res : Option Nat} {acts : List T -> CR Unit} (hk : n.kind = 15) (hd : ∀ w1,w.grownBy w1 none -> Calls Tryz.prog 111 #[pq b,zo n sv] w1 (Cy w1 ((S.callC c r n).map fun t => ρ.tyP t))) :
  Calls Tryz.prog 77 #[pq b,zo n sv] w (Cy w ((S.actC c r res acts n).map fun _ => .tuple #[])) := by
 have v := zc hd; obtain ⟨i,x,m,p,l⟩ := n
 change Calls Tryz.prog 77 #[pq b,.agg #[.int .i64 i,.string ⟨x.toArray⟩,.int .i64 m,.int .i64 p,sv]] w _
 obtain ⟨D,d⟩ : ∃ z,z = w.alloc (.cells #[.int .i64 i,.string ⟨x.toArray⟩,.int .i64 m,.int .i64 p,sv] 100) := ⟨_,rfl⟩
 have g : Hid (w.grownBy D none) := by rw [d]; exact zh grn _
 have E : Hid (Box D w.heap.size (.mk i x m p l) sv) := by rw [d]; exact Box.new w (.mk i x m p l) sv _
 obtain rfl : i = 15 := hk; clear _h ha hf hd; cases h : S.callC c r (.mk 15 x m p l) with
 | error z =>
  rw [show S.actC c r res acts (.mk 15 x m p l) = .error z by simp [KS.actC,T.kind,h,Except.bind]]
  go_enter Tryz.func77,Tryz.ntmps77
  go_wp2_with fail; go_at_call 111; rw [<- d]; refine (v.out _ g.out).mono ?_; rw [h]; rintro e w1 F; have A := F; obtain ⟨q,rfl⟩ := F.thrown
  exact ⟨rfl,A.err g.out⟩
 | ok t =>
  cases t with
  | none =>
   rw [show S.actC c r res acts (.mk 15 x m p l) = .ok () by simp [KS.actC,T.kind,h,Except.bind]]
   go_enter Tryz.func77,Tryz.ntmps77
   go_wp2_with fail; go_at_call 111; rw [<- d]; refine (v.out _ g.out).mono ?_; rw [h]; rintro e w1 ⟨f,rfl⟩; simp only [uM]; have B := zc (za g.out f); have C : Hid (Box w1 w.heap.size (.mk 15 x m p l) sv) := Box.kept E.out (za grn f); obtain ⟨j,k,o,s,u⟩ := C.out.plain; go_wp2; refine bodyPost_end (results_none rfl _ _ _) rfl ?_
   exact Cy.ok B.out
  | some t =>
   rw [show S.actC c r res acts (.mk 15 x m p l) = .error (7,p) by simp [KS.actC,T.kind,h,Except.bind,thr,T.at']]
   go_enter Tryz.func77,Tryz.ntmps77
   go_wp2_with fail; go_at_call 111; rw [<- d]; refine (v.out _ g.out).mono ?_; rw [h]; rintro e w1 ⟨f,rfl⟩; simp only [yo]; have B := zc (za g.out f); have C : Hid (Box w1 w.heap.size (.mk 15 x m p l) sv) := Box.kept E.out (za grn f); obtain ⟨j,k,o,s,u⟩ := C.out.plain; go_wp2_with fail; go_at_call 53; refine (zu _ (.mk 15 x m p l) sv 7).mono ?_; rintro e H G; have A := G; obtain ⟨q,rfl⟩ := G.thrown
   exact ⟨rfl,A.err B.out⟩
theorem cn (_h : CK ρ w S b c) (n : T) (sv : Value) (hf : Fits n) (ha : AT w n.subs sv) {r : KR} {res : Option Nat} {acts : List T -> CR Unit} (hk : n.kind = 16) (hd : ∀ w1,w.grownBy w1 none -> Calls Tryz.prog 112 #[pq b,sv] w1 (Cy w1 ((yQ (fun y => if y.kind = 1 then acts y.subs else xe r y 1) n.subs).map fun _ => .tuple #[]))) :
  Calls Tryz.prog 77 #[pq b,zo n sv] w (Cy w ((S.actC c r res acts n).map fun _ => .tuple #[])) := by
 have o := zc hd; obtain ⟨f,g,k,-,-⟩ := ha.form; subst k; obtain ⟨h,x,m,p,l⟩ := n
 change Calls Tryz.prog 77 #[pq b,.agg #[.int .i64 h,.string ⟨x.toArray⟩,.int .i64 m,.int .i64 p,.slice f l.length g]] w _
 obtain ⟨q,d⟩ : ∃ z,z = w.alloc (.cells #[.int .i64 h,.string ⟨x.toArray⟩,.int .i64 m,.int .i64 p,.slice f l.length g] 100) := ⟨_,rfl⟩
 have j : Hid (w.grownBy q none) := by rw [d]; exact zh grn _
 have u : Hid (Box q w.heap.size (.mk h x m p l) (.slice f l.length g)) := by rw [d]; exact Box.new w (.mk h x m p l) (.slice f l.length g) _
 obtain rfl : h = 16 := hk; clear _h ha hf hd; rw [show S.actC c r res acts (.mk 16 x m p l) = yQ (fun y => if y.kind = 1 then acts y.subs else xe r y 1) l by simp [KS.actC,T.kind,T.subs]]; cases s : yQ (fun y => if y.kind = 1 then acts y.subs else xe r y 1) l with
 | error z =>
  go_enter Tryz.func77,Tryz.ntmps77
  go_wp2_with fail; go_at_call 112; rw [<- d]; refine (o.out _ j.out).mono ?_; rw [show (T.mk 16 x m p l).subs = l from rfl,s]; rintro e w1 t; have v := t; obtain ⟨_,rfl⟩ := t.thrown
  exact ⟨rfl,v.err j.out⟩
 | ok _ =>
  go_enter Tryz.func77,Tryz.ntmps77
  go_wp2_with fail; go_at_call 112; rw [<- d]; refine (o.out _ j.out).mono ?_; rw [show (T.mk 16 x m p l).subs = l from rfl,s]; rintro e w1 ⟨i,rfl⟩; have A := zc (za j.out i); have B : Hid (Box w1 w.heap.size (.mk 16 x m p l) (.slice f l.length g)) := Box.kept u.out (za grn i); go_wp2; refine bodyPost_end (results_none rfl _ _ _) rfl ?_
  exact Cy.ok A.out
theorem lF (_h : CK ρ w S b c) (n : T) (sv : Value) (hf : Fits n) (ha : AT w n.subs sv) {r : KR} {res : Option Nat} {acts : List T -> CR Unit} (hk : n.kind = 17) (hd : ∀ w1,w.grownBy w1 none -> Calls Tryz.prog 112 #[pq b,sv] w1 (Cy w1 ((yQ (fun y => if y.kind = 1 then acts y.subs else xe r y 1) n.subs).map fun _ => .tuple #[]))) :
  Calls Tryz.prog 77 #[pq b,zo n sv] w (Cy w ((S.actC c r res acts n).map fun _ => .tuple #[])) := by
 have o := zc hd; obtain ⟨f,g,k,-,-⟩ := ha.form; subst k; obtain ⟨h,x,m,p,l⟩ := n
 change Calls Tryz.prog 77 #[pq b,.agg #[.int .i64 h,.string ⟨x.toArray⟩,.int .i64 m,.int .i64 p,.slice f l.length g]] w _
 obtain ⟨q,d⟩ : ∃ z,z = w.alloc (.cells #[.int .i64 h,.string ⟨x.toArray⟩,.int .i64 m,.int .i64 p,.slice f l.length g] 100) := ⟨_,rfl⟩
 have j : Hid (w.grownBy q none) := by rw [d]; exact zh grn _
 have u : Hid (Box q w.heap.size (.mk h x m p l) (.slice f l.length g)) := by rw [d]; exact Box.new w (.mk h x m p l) (.slice f l.length g) _
 obtain rfl : h = 17 := hk; clear _h ha hf hd; rw [show S.actC c r res acts (.mk 17 x m p l) = yQ (fun y => if y.kind = 1 then acts y.subs else xe r y 1) l by simp [KS.actC,T.kind,T.subs]]; cases s : yQ (fun y => if y.kind = 1 then acts y.subs else xe r y 1) l with
 | error z =>
  go_enter Tryz.func77,Tryz.ntmps77
  go_wp2_with fail; go_at_call 112; rw [<- d]; refine (o.out _ j.out).mono ?_; rw [show (T.mk 17 x m p l).subs = l from rfl,s]; rintro e w1 t; have v := t; obtain ⟨_,rfl⟩ := t.thrown
  exact ⟨rfl,v.err j.out⟩
 | ok _ =>
  go_enter Tryz.func77,Tryz.ntmps77
  go_wp2_with fail; go_at_call 112; rw [<- d]; refine (o.out _ j.out).mono ?_; rw [show (T.mk 17 x m p l).subs = l from rfl,s]; rintro e w1 ⟨i,rfl⟩; have A := zc (za j.out i); have B : Hid (Box w1 w.heap.size (.mk 17 x m p l) (.slice f l.length g)) := Box.kept u.out (za grn i); go_wp2; refine bodyPost_end (results_none rfl _ _ _) rfl ?_
  exact Cy.ok A.out
theorem lC (_h : CK ρ w S b c) (n : T) (sv : Value) (hf : Fits n) (ha : AT w n.subs sv) {r : KR} {res : Option Nat} {acts : List T -> CR Unit} (hk : n.kind = 18) (hd : ∀ w1,w.grownBy w1 none -> Calls Tryz.prog 112 #[pq b,sv] w1 (Cy w1 ((yQ (fun y => if y.kind = 1 then acts y.subs else xe r y 1) n.subs).map fun _ => .tuple #[]))) :
  Calls Tryz.prog 77 #[pq b,zo n sv] w (Cy w ((S.actC c r res acts n).map fun _ => .tuple #[])) := by
 have o := zc hd; obtain ⟨f,g,k,-,-⟩ := ha.form; subst k; obtain ⟨h,x,m,p,l⟩ := n
 change Calls Tryz.prog 77 #[pq b,.agg #[.int .i64 h,.string ⟨x.toArray⟩,.int .i64 m,.int .i64 p,.slice f l.length g]] w _
 obtain ⟨q,d⟩ : ∃ z,z = w.alloc (.cells #[.int .i64 h,.string ⟨x.toArray⟩,.int .i64 m,.int .i64 p,.slice f l.length g] 100) := ⟨_,rfl⟩
 have j : Hid (w.grownBy q none) := by rw [d]; exact zh grn _
 have u : Hid (Box q w.heap.size (.mk h x m p l) (.slice f l.length g)) := by rw [d]; exact Box.new w (.mk h x m p l) (.slice f l.length g) _
 obtain rfl : h = 18 := hk; clear _h ha hf hd; rw [show S.actC c r res acts (.mk 18 x m p l) = yQ (fun y => if y.kind = 1 then acts y.subs else xe r y 1) l by simp [KS.actC,T.kind,T.subs]]; cases s : yQ (fun y => if y.kind = 1 then acts y.subs else xe r y 1) l with
 | error z =>
  go_enter Tryz.func77,Tryz.ntmps77
  go_wp2_with fail; go_at_call 112; rw [<- d]; refine (o.out _ j.out).mono ?_; rw [show (T.mk 18 x m p l).subs = l from rfl,s]; rintro e w1 t; have v := t; obtain ⟨_,rfl⟩ := t.thrown
  exact ⟨rfl,v.err j.out⟩
 | ok _ =>
  go_enter Tryz.func77,Tryz.ntmps77
  go_wp2_with fail; go_at_call 112; rw [<- d]; refine (o.out _ j.out).mono ?_; rw [show (T.mk 18 x m p l).subs = l from rfl,s]; rintro e w1 ⟨i,rfl⟩; have A := zc (za j.out i); have B : Hid (Box w1 w.heap.size (.mk 18 x m p l) (.slice f l.length g)) := Box.kept u.out (za grn i); go_wp2; refine bodyPost_end (results_none rfl _ _ _) rfl ?_
  exact Cy.ok A.out
theorem i9 (h : CK ρ w S b c) (n : T) (sv : Value) (hf : Fits n) (ha : AT w n.subs sv) {r : KR} {res : Option Nat} {acts : List T -> CR Unit} {u : T} (hk : n.kind = 21) (hl : n.subs = [u]) (hu : CEx ρ S b c r u) :
  Calls Tryz.prog 77 #[pq b,zo n sv] w (Cy w ((S.actC c r res acts n).map fun _ => .tuple #[])) := by
 have h3 := h.ok.three; have L := zc (fun w1 (G : w.grownBy w1 none) E (B : Fits u) (q : AT w u.subs E) => uB (h.up G) u E B (q.kept G) (t := 0) (by omega) hu); have s0 : Hid _ := h.s0; have s : Hid _ := h.km.wc0; have V : Hid _ := h.km.wc1; obtain ⟨v,x,m,p,l⟩ := n; obtain rfl : l = [u] := hl; obtain ⟨g,o,i,E,rfl,X,Y,C,B,q,-⟩ := ha.cons; obtain ⟨M,N,rfl,-,-⟩ := q.form; have O := zc q; have Q := zc B
 replace C := zc C
 clear B q
 change Calls Tryz.prog 77 #[pq b,.agg #[.int .i64 v,.string ⟨x.toArray⟩,.int .i64 m,.int .i64 p,.slice (some ⟨g,o,none⟩) 1 i]] w _
 obtain ⟨D,d⟩ : ∃ z,z = w.alloc (.cells #[.int .i64 v,.string ⟨x.toArray⟩,.int .i64 m,.int .i64 p,.slice (some ⟨g,o,none⟩) 1 i] 100) := ⟨_,rfl⟩
 have f : Hid (w.grownBy D none) := by rw [d]; exact zh grn _
 have F : Hid (Box D w.heap.size (.mk v x m p [u]) (.slice (some ⟨g,o,none⟩) 1 i)) := by rw [d]; exact Box.new w (.mk v x m p [u]) (.slice (some ⟨g,o,none⟩) 1 i) _
 obtain rfl : v = 21 := hk; clear h ha hf hu
 have Z : sub (.mk 21 x m p [u]) 0 = u := rfl
 rw [show S.actC c r res acts (.mk 21 x m p [u]) = xe r u 0 by simp [KS.actC,T.kind,Z]]; cases R : xe r u 0 with
 | error z =>
  go_enter Tryz.func77,Tryz.ntmps77
  go_wp2_with fail; rw [<- d]; clear d; refine wp_region_held_drew (S := fun w9 => D.grownBy w9 none) (by kernel_rfl) ?_ (fun hHeld => ?_)
  ·exact zf grn
  refine kQ 0 72 (pq b) hHeld ?_; refine kQ 1 73 (.pointer (some ⟨w.heap.size,4,none⟩)) hHeld ?_; refine dk 2 (some 74) (.slice (some ⟨g,o,none⟩) 1 i) rfl rfl (fun w9 hS => by obtain ⟨H,j,I,J,K⟩ := (Box.kept F.out hS).plain; go_simp) hHeld ?_; refine kQ 3 75 (.pointer (some ⟨g,o,none⟩)) hHeld ?_; refine dk 4 (some 76) (zo u (.slice M u.subs.length N)) rfl rfl (fun w9 hS => by obtain ⟨H,j,I,J,K⟩ := Node5.kept C.out (za f.out hS); go_simp) hHeld ?_; refine kQ 5 77 (pq b) hHeld ?_; refine kQ 6 78 (pq b) hHeld ?_; refine kQ 7 79 (pq b) hHeld ?_; refine kQ 8 80 (pq b) hHeld ?_; refine dk 9 (some 81) (pq ρ.wd) rfl rfl (fun w9 hS => by have j := ze (za f.out hS) s0.out; go_simp) hHeld ?_; refine kQ 10 82 (pq ρ.wd) hHeld ?_; refine kQ 11 83 (pq ρ.wd) hHeld ?_; refine dk 12 (some 84) (pq (ρ.ty 0)) rfl rfl (fun w9 hS => by have j := ze (za f.out hS) s.out; go_simp) hHeld ?_; simp only [qA,qB,qC,qD]; refine rd 13 rfl fun KK hKK => ?_
  go_simp
  go_at_call 116; refine (L.out _ (zf f.out) _ Q.out O.out).mono ?_; rw [R]; rintro e w1 U; have HT := U; obtain ⟨_,rfl⟩ := U.thrown
  exact ⟨rfl,HT.err (zf f.out)⟩
 | ok _ =>
  go_enter Tryz.func77,Tryz.ntmps77
  go_wp2_with fail; rw [<- d]; clear d; refine wp_region_held_drew (S := fun w9 => D.grownBy w9 none) (by kernel_rfl) ?_ (fun hHeld => ?_)
  ·exact zf grn
  refine kQ 0 72 (pq b) hHeld ?_; refine kQ 1 73 (.pointer (some ⟨w.heap.size,4,none⟩)) hHeld ?_; refine dk 2 (some 74) (.slice (some ⟨g,o,none⟩) 1 i) rfl rfl (fun w9 hS => by obtain ⟨H,j,I,J,K⟩ := (Box.kept F.out hS).plain; go_simp) hHeld ?_; refine kQ 3 75 (.pointer (some ⟨g,o,none⟩)) hHeld ?_; refine dk 4 (some 76) (zo u (.slice M u.subs.length N)) rfl rfl (fun w9 hS => by obtain ⟨H,j,I,J,K⟩ := Node5.kept C.out (za f.out hS); go_simp) hHeld ?_; refine kQ 5 77 (pq b) hHeld ?_; refine kQ 6 78 (pq b) hHeld ?_; refine kQ 7 79 (pq b) hHeld ?_; refine kQ 8 80 (pq b) hHeld ?_; refine dk 9 (some 81) (pq ρ.wd) rfl rfl (fun w9 hS => by have j := ze (za f.out hS) s0.out; go_simp) hHeld ?_; refine kQ 10 82 (pq ρ.wd) hHeld ?_; refine kQ 11 83 (pq ρ.wd) hHeld ?_; refine dk 12 (some 84) (pq (ρ.ty 0)) rfl rfl (fun w9 hS => by have j := ze (za f.out hS) s.out; go_simp) hHeld ?_; simp only [qA,qB,qC,qD]; refine rd 13 rfl fun KK hKK => ?_
  go_simp
  go_at_call 116; refine (L.out _ (zf f.out) _ Q.out O.out).mono ?_; rw [R]; rintro e w1 ⟨k,rfl⟩; have G1 := zc (za (zf f.out) k); have A := zc (za (zf grn) k); clear k
  go_simp
  refine hKK.out _ _ A.out fun hHeld => ?_
  clear hKK KK; refine wpAnyH_done (by kernel_rfl) ?_ _; clear hHeld; have B1 : Hid (Box w1 w.heap.size (.mk 21 x m p [u]) (.slice (some ⟨g,o,none⟩) 1 i)) := Box.kept F.out A.out; go_wp2; refine bodyPost_end (results_none rfl _ _ _) rfl ?_
  exact Cy.ok G1.out
theorem pV (h : CK ρ w S b c) (n : T) (sv : Value) (hf : Fits n) (ha : AT w n.subs sv) {r : KR} {res : Option Nat} {acts : List T -> CR Unit} {u : T} (hk : n.kind = 23) (hl : n.subs = [u]) (hu : CEx ρ S b c r u) :
  Calls Tryz.prog 77 #[pq b,zo n sv] w (Cy w ((S.actC c r res acts n).map fun _ => .tuple #[])) := by
 have h3 := h.ok.three; have L := zc (fun w1 (G : w.grownBy w1 none) E (B : Fits u) (q : AT w u.subs E) => uB (h.up G) u E B (q.kept G) (t := 1) (by omega) hu); have s0 : Hid _ := h.s0; have V : Hid _ := h.km.wc0; have s : Hid _ := h.km.wc1; obtain ⟨v,x,m,p,l⟩ := n; obtain rfl : l = [u] := hl; obtain ⟨g,o,i,E,rfl,X,Y,C,B,q,-⟩ := ha.cons; obtain ⟨M,N,rfl,-,-⟩ := q.form; have O := zc q; have Q := zc B
 replace C := zc C
 clear B q
 change Calls Tryz.prog 77 #[pq b,.agg #[.int .i64 v,.string ⟨x.toArray⟩,.int .i64 m,.int .i64 p,.slice (some ⟨g,o,none⟩) 1 i]] w _
 obtain ⟨D,d⟩ : ∃ z,z = w.alloc (.cells #[.int .i64 v,.string ⟨x.toArray⟩,.int .i64 m,.int .i64 p,.slice (some ⟨g,o,none⟩) 1 i] 100) := ⟨_,rfl⟩
 have f : Hid (w.grownBy D none) := by rw [d]; exact zh grn _
 have F : Hid (Box D w.heap.size (.mk v x m p [u]) (.slice (some ⟨g,o,none⟩) 1 i)) := by rw [d]; exact Box.new w (.mk v x m p [u]) (.slice (some ⟨g,o,none⟩) 1 i) _
 obtain rfl : v = 23 := hk; clear h ha hf hu
 have Z : sub (.mk 23 x m p [u]) 0 = u := rfl
 rw [show S.actC c r res acts (.mk 23 x m p [u]) = xe r u 1 by simp [KS.actC,T.kind,Z]]; cases R : xe r u 1 with
 | error z =>
  go_enter Tryz.func77,Tryz.ntmps77
  go_wp2_with fail; rw [<- d]; clear d; refine wp_region_held_drew (S := fun w9 => D.grownBy w9 none) (by kernel_rfl) ?_ (fun hHeld => ?_)
  ·exact zf grn
  refine kQ 0 88 (pq b) hHeld ?_; refine kQ 1 89 (.pointer (some ⟨w.heap.size,4,none⟩)) hHeld ?_; refine dk 2 (some 90) (.slice (some ⟨g,o,none⟩) 1 i) rfl rfl (fun w9 hS => by obtain ⟨H,j,I,J,K⟩ := (Box.kept F.out hS).plain; go_simp) hHeld ?_; refine kQ 3 91 (.pointer (some ⟨g,o,none⟩)) hHeld ?_; refine dk 4 (some 92) (zo u (.slice M u.subs.length N)) rfl rfl (fun w9 hS => by obtain ⟨H,j,I,J,K⟩ := Node5.kept C.out (za f.out hS); go_simp) hHeld ?_; refine kQ 5 93 (pq b) hHeld ?_; refine kQ 6 94 (pq b) hHeld ?_; refine kQ 7 95 (pq b) hHeld ?_; refine kQ 8 96 (pq b) hHeld ?_; refine dk 9 (some 97) (pq ρ.wd) rfl rfl (fun w9 hS => by have j := ze (za f.out hS) s0.out; go_simp) hHeld ?_; refine kQ 10 98 (pq ρ.wd) hHeld ?_; refine kQ 11 99 (.pointer (some ⟨ρ.wd,1,none⟩)) hHeld ?_; refine dk 12 (some 100) (pq (ρ.ty 1)) rfl rfl (fun w9 hS => by have j := ze (za f.out hS) s.out; go_simp) hHeld ?_; simp only [qA,qB,qC,qD]; refine rd 13 rfl fun KK hKK => ?_
  go_simp
  go_at_call 116; refine (L.out _ (zf f.out) _ Q.out O.out).mono ?_; rw [R]; rintro e w1 U; have HT := U; obtain ⟨_,rfl⟩ := U.thrown
  exact ⟨rfl,HT.err (zf f.out)⟩
 | ok _ =>
  go_enter Tryz.func77,Tryz.ntmps77
  go_wp2_with fail; rw [<- d]; clear d; refine wp_region_held_drew (S := fun w9 => D.grownBy w9 none) (by kernel_rfl) ?_ (fun hHeld => ?_)
  ·exact zf grn
  refine kQ 0 88 (pq b) hHeld ?_; refine kQ 1 89 (.pointer (some ⟨w.heap.size,4,none⟩)) hHeld ?_; refine dk 2 (some 90) (.slice (some ⟨g,o,none⟩) 1 i) rfl rfl (fun w9 hS => by obtain ⟨H,j,I,J,K⟩ := (Box.kept F.out hS).plain; go_simp) hHeld ?_; refine kQ 3 91 (.pointer (some ⟨g,o,none⟩)) hHeld ?_; refine dk 4 (some 92) (zo u (.slice M u.subs.length N)) rfl rfl (fun w9 hS => by obtain ⟨H,j,I,J,K⟩ := Node5.kept C.out (za f.out hS); go_simp) hHeld ?_; refine kQ 5 93 (pq b) hHeld ?_; refine kQ 6 94 (pq b) hHeld ?_; refine kQ 7 95 (pq b) hHeld ?_; refine kQ 8 96 (pq b) hHeld ?_; refine dk 9 (some 97) (pq ρ.wd) rfl rfl (fun w9 hS => by have j := ze (za f.out hS) s0.out; go_simp) hHeld ?_; refine kQ 10 98 (pq ρ.wd) hHeld ?_; refine kQ 11 99 (.pointer (some ⟨ρ.wd,1,none⟩)) hHeld ?_; refine dk 12 (some 100) (pq (ρ.ty 1)) rfl rfl (fun w9 hS => by have j := ze (za f.out hS) s.out; go_simp) hHeld ?_; simp only [qA,qB,qC,qD]; refine rd 13 rfl fun KK hKK => ?_
  go_simp
  go_at_call 116; refine (L.out _ (zf f.out) _ Q.out O.out).mono ?_; rw [R]; rintro e w1 ⟨k,rfl⟩; have G1 := zc (za (zf f.out) k); have A := zc (za (zf grn) k); clear k
  go_simp
  refine hKK.out _ _ A.out fun hHeld => ?_
  clear hKK KK; refine wpAnyH_done (by kernel_rfl) ?_ _; clear hHeld; have B1 : Hid (Box w1 w.heap.size (.mk 23 x m p [u]) (.slice (some ⟨g,o,none⟩) 1 i)) := Box.kept F.out A.out; go_wp2; refine bodyPost_end (results_none rfl _ _ _) rfl ?_
  exact Cy.ok G1.out
theorem cw (h : CK ρ w S b c) (n : T) (sv : Value) (hf : Fits n) (ha : AT w n.subs sv) {r : KR} {res : Option Nat} {acts : List T -> CR Unit} {u : T} (hk : n.kind = 22) (hl : n.subs = [u]) (hu : CAr ρ S b c r u) :
  Calls Tryz.prog 77 #[pq b,zo n sv] w (Cy w ((S.actC c r res acts n).map fun _ => .tuple #[])) := by
 have h3 := h.ok.three; have V := zc (fun w1 (G : w.grownBy w1 none) X (U : Fits u) (M : AT w u.subs X) => vA (h.up G) u X U (M.kept G) hu.dot hu.de)
 have Y := fun t e => vI hu.de (t := t) e
 have HM := zc h.km; have s0 : Hid _ := h.s0; have E : Hid _ := h.km.wc0; have a0 : Hid _ := h.km.wc1; obtain ⟨N,x,m,p,l⟩ := n; obtain rfl : l = [u] := hl; obtain ⟨g,o,k,X,rfl,a1,a2,D,U,M,-⟩ := ha.cons; obtain ⟨J,K,rfl,-,-⟩ := M.form; have O := zc M; have Z := zc U
 replace D := zc D
 clear U M
 change Calls Tryz.prog 77 #[pq b,.agg #[.int .i64 N,.string ⟨x.toArray⟩,.int .i64 m,.int .i64 p,.slice (some ⟨g,o,none⟩) 1 k]] w _
 obtain ⟨Q,f⟩ : ∃ z,z = w.alloc (.cells #[.int .i64 N,.string ⟨x.toArray⟩,.int .i64 m,.int .i64 p,.slice (some ⟨g,o,none⟩) 1 k] 100) := ⟨_,rfl⟩
 have d : Hid (w.grownBy Q none) := by rw [f]; exact zh grn _
 have F : Hid (Box Q w.heap.size (.mk N x m p [u]) (.slice (some ⟨g,o,none⟩) 1 k)) := by rw [f]; exact Box.new w (.mk N x m p [u]) (.slice (some ⟨g,o,none⟩) 1 k) _
 obtain rfl : N = 22 := hk; clear h ha hf hu
 have hz : sub (.mk 22 x m p [u]) 0 = u := rfl
 cases L : S.variableC c r.de u with
 | error z =>
  rw [show S.actC c r res acts (.mk 22 x m p [u]) = .error z by simp [KS.actC,T.kind,hz,L,Except.bind]]
  go_enter Tryz.func77,Tryz.ntmps77
  go_wp2_with fail; rw [<- f]; clear f; refine wp_region_held_drew (S := fun w9 => Q.grownBy w9 none) (by kernel_rfl) ?_ (fun hHeld => ?_)
  ·exact zf grn
  refine kQ 0 51 (.pointer (some ⟨w.heap.size,4,none⟩)) hHeld ?_; refine dk 1 (some 52) (.slice (some ⟨g,o,none⟩) 1 k) rfl rfl (fun w9 hS => by obtain ⟨s,i,v,A,B⟩ := (Box.kept F.out hS).plain; go_simp) hHeld ?_; refine kQ 2 53 (.pointer (some ⟨g,o,none⟩)) hHeld ?_; refine dk 3 (some 54) (zo u (.slice J u.subs.length K)) rfl rfl (fun w9 hS => by obtain ⟨s,i,v,A,B⟩ := Node5.kept D.out (za d.out hS); go_simp) hHeld ?_; refine kQ 4 55 (pq b) hHeld ?_; refine kQ 5 56 (.pointer (some ⟨w.heap.size,4,none⟩)) hHeld ?_; refine dk 6 (some 57) (.slice (some ⟨g,o,none⟩) 1 k) rfl rfl (fun w9 hS => by obtain ⟨s,i,v,A,B⟩ := (Box.kept F.out hS).plain; go_simp) hHeld ?_; refine kQ 7 58 (.pointer (some ⟨g,o,none⟩)) hHeld ?_; refine dk 8 (some 59) (zo u (.slice J u.subs.length K)) rfl rfl (fun w9 hS => by obtain ⟨s,i,v,A,B⟩ := Node5.kept D.out (za d.out hS); go_simp) hHeld ?_; refine kQ 10 61 (pq b) hHeld ?_; refine kQ 11 62 (pq b) hHeld ?_; refine kQ 12 63 (pq b) hHeld ?_; refine kQ 13 64 (pq b) hHeld ?_; refine dk 14 (some 65) (pq ρ.wd) rfl rfl (fun w9 hS => by have i := ze (za d.out hS) s0.out; go_simp) hHeld ?_; refine kQ 15 66 (pq ρ.wd) hHeld ?_
  refine kQ 16 67 (pq ρ.wd) hHeld ?_; refine dk 17 (some 68) (pq (ρ.ty 0)) rfl rfl (fun w9 hS => by have i := ze (za d.out hS) E.out; go_simp) hHeld ?_; simp only [qA,qB,qC,qD]; refine rd 9 rfl fun KK hKK => ?_
  go_simp
  go_at_call 114; refine (V.out _ (zf d.out) _ Z.out O.out).mono ?_; rw [L]; rintro e w1 h1; have HT := h1; obtain ⟨q,rfl⟩ := h1.thrown
  exact ⟨rfl,HT.err (zf d.out)⟩
 | ok t =>
  have ht := Y t L; rw [show S.actC c r res acts (.mk 22 x m p [u]) = yX u t 0 by simp [KS.actC,T.kind,hz,L,Except.bind]]; cases hn : yX u t 0 with
  | error z =>
   go_enter Tryz.func77,Tryz.ntmps77
   go_wp2_with fail; rw [<- f]; clear f; refine wp_region_held_drew (S := fun w9 => Q.grownBy w9 none) (by kernel_rfl) ?_ (fun hHeld => ?_)
   ·exact zf grn
   refine kQ 0 51 (.pointer (some ⟨w.heap.size,4,none⟩)) hHeld ?_; refine dk 1 (some 52) (.slice (some ⟨g,o,none⟩) 1 k) rfl rfl (fun w9 hS => by obtain ⟨s,i,v,A,B⟩ := (Box.kept F.out hS).plain; go_simp) hHeld ?_; refine kQ 2 53 (.pointer (some ⟨g,o,none⟩)) hHeld ?_; refine dk 3 (some 54) (zo u (.slice J u.subs.length K)) rfl rfl (fun w9 hS => by obtain ⟨s,i,v,A,B⟩ := Node5.kept D.out (za d.out hS); go_simp) hHeld ?_; refine kQ 4 55 (pq b) hHeld ?_; refine kQ 5 56 (.pointer (some ⟨w.heap.size,4,none⟩)) hHeld ?_; refine dk 6 (some 57) (.slice (some ⟨g,o,none⟩) 1 k) rfl rfl (fun w9 hS => by obtain ⟨s,i,v,A,B⟩ := (Box.kept F.out hS).plain; go_simp) hHeld ?_; refine kQ 7 58 (.pointer (some ⟨g,o,none⟩)) hHeld ?_; refine dk 8 (some 59) (zo u (.slice J u.subs.length K)) rfl rfl (fun w9 hS => by obtain ⟨s,i,v,A,B⟩ := Node5.kept D.out (za d.out hS); go_simp) hHeld ?_; refine kQ 10 61 (pq b) hHeld ?_; refine kQ 11 62 (pq b) hHeld ?_; refine kQ 12 63 (pq b) hHeld ?_; refine kQ 13 64 (pq b) hHeld ?_; refine dk 14 (some 65) (pq ρ.wd) rfl rfl (fun w9 hS => by have i := ze (za d.out hS) s0.out; go_simp) hHeld ?_; refine kQ 15 66 (pq ρ.wd) hHeld ?_
   refine kQ 16 67 (pq ρ.wd) hHeld ?_; refine dk 17 (some 68) (pq (ρ.ty 0)) rfl rfl (fun w9 hS => by have i := ze (za d.out hS) E.out; go_simp) hHeld ?_; simp only [qA,qB,qC,qD]; refine rd 9 rfl fun KK hKK => ?_
   go_simp
   go_at_call 114; refine (V.out _ (zf d.out) _ Z.out O.out).mono ?_; rw [L]; rintro e w1 ⟨j,rfl⟩; have H := zc (za (zf d.out) j); have C := zc (za (zf grn) j); clear j
   go_simp
   refine hKK.out _ _ C.out fun hHeld => ?_
   clear hKK KK; refine rd 18 rfl fun KK hKK => ?_
   go_simp
   go_at_call 115; refine (zP (HM.out.up H.out) u _ (O.out.kept H.out) ht (show 0 < S.tys.length by omega)).mono ?_; rw [hn]; rintro e w2 h2; have HT := h2; obtain ⟨q,rfl⟩ := h2.thrown
   exact ⟨rfl,HT.err H.out⟩
  | ok _ =>
   go_enter Tryz.func77,Tryz.ntmps77
   go_wp2_with fail; rw [<- f]; clear f; refine wp_region_held_drew (S := fun w9 => Q.grownBy w9 none) (by kernel_rfl) ?_ (fun hHeld => ?_)
   ·exact zf grn
   refine kQ 0 51 (.pointer (some ⟨w.heap.size,4,none⟩)) hHeld ?_; refine dk 1 (some 52) (.slice (some ⟨g,o,none⟩) 1 k) rfl rfl (fun w9 hS => by obtain ⟨s,i,v,A,B⟩ := (Box.kept F.out hS).plain; go_simp) hHeld ?_; refine kQ 2 53 (.pointer (some ⟨g,o,none⟩)) hHeld ?_; refine dk 3 (some 54) (zo u (.slice J u.subs.length K)) rfl rfl (fun w9 hS => by obtain ⟨s,i,v,A,B⟩ := Node5.kept D.out (za d.out hS); go_simp) hHeld ?_; refine kQ 4 55 (pq b) hHeld ?_; refine kQ 5 56 (.pointer (some ⟨w.heap.size,4,none⟩)) hHeld ?_; refine dk 6 (some 57) (.slice (some ⟨g,o,none⟩) 1 k) rfl rfl (fun w9 hS => by obtain ⟨s,i,v,A,B⟩ := (Box.kept F.out hS).plain; go_simp) hHeld ?_; refine kQ 7 58 (.pointer (some ⟨g,o,none⟩)) hHeld ?_; refine dk 8 (some 59) (zo u (.slice J u.subs.length K)) rfl rfl (fun w9 hS => by obtain ⟨s,i,v,A,B⟩ := Node5.kept D.out (za d.out hS); go_simp) hHeld ?_; refine kQ 10 61 (pq b) hHeld ?_; refine kQ 11 62 (pq b) hHeld ?_; refine kQ 12 63 (pq b) hHeld ?_; refine kQ 13 64 (pq b) hHeld ?_; refine dk 14 (some 65) (pq ρ.wd) rfl rfl (fun w9 hS => by have i := ze (za d.out hS) s0.out; go_simp) hHeld ?_; refine kQ 15 66 (pq ρ.wd) hHeld ?_
   refine kQ 16 67 (pq ρ.wd) hHeld ?_; refine dk 17 (some 68) (pq (ρ.ty 0)) rfl rfl (fun w9 hS => by have i := ze (za d.out hS) E.out; go_simp) hHeld ?_; simp only [qA,qB,qC,qD]; refine rd 9 rfl fun KK hKK => ?_
   go_simp
   go_at_call 114; refine (V.out _ (zf d.out) _ Z.out O.out).mono ?_; rw [L]; rintro e w1 ⟨j,rfl⟩; have H := zc (za (zf d.out) j); have C := zc (za (zf grn) j); clear j
   go_simp
   refine hKK.out _ _ C.out fun hHeld => ?_
   clear hKK KK; refine rd 18 rfl fun KK hKK => ?_
   go_simp
   go_at_call 115; refine (zP (HM.out.up H.out) u _ (O.out.kept H.out) ht (show 0 < S.tys.length by omega)).mono ?_; rw [hn]; rintro e w2 ⟨I,rfl⟩; have G2 := zc (za H.out I); have R := zc (za C.out I); clear I
   go_simp
   refine hKK.out _ _ R.out fun hHeld => ?_
   clear hKK KK; refine wpAnyH_done (by kernel_rfl) ?_ _; clear hHeld; have B2 : Hid (Box w2 w.heap.size (.mk 22 x m p [u]) (.slice (some ⟨g,o,none⟩) 1 k)) := Box.kept F.out R.out; go_wp2; refine bodyPost_end (results_none rfl _ _ _) rfl ?_
   exact Cy.ok G2.out
theorem lJ (h : CK ρ w S b c) (n : T) (sv : Value) (hf : Fits n) (ha : AT w n.subs sv) {r : KR} {res : Option Nat} {acts : List T -> CR Unit} {u : T} (hk : n.kind = 20) (hl : n.subs = [u]) (hu : CAr ρ S b c r u) :
  Calls Tryz.prog 77 #[pq b,zo n sv] w (Cy w ((S.actC c r res acts n).map fun _ => .tuple #[])) := by
 have F := zc (fun w1 (G : w.grownBy w1 none) H (D : Fits u) (A : AT w u.subs H) => vA (h.up G) u H D (A.kept G) hu.dot hu.de)
 have I := fun t e => vI hu.de (t := t) e
 have X := zc h.km; obtain ⟨B,x,m,p,l⟩ := n; obtain rfl : l = [u] := hl; obtain ⟨g,o,k,H,rfl,Y,Z,i,D,A,-⟩ := ha.cons; obtain ⟨ua,uc,rfl,-,-⟩ := A.form; have J := zc A; have K := zc D; have d0 := i.c0; have d1 := i.c1; have d2 := i.c2; have d3 := i.c3; have d4 := i.c4; have zg : g < w.heap.size := zw d0
 replace i := zc i
 clear D A
 change Calls Tryz.prog 77 #[pq b,.agg #[.int .i64 B,.string ⟨x.toArray⟩,.int .i64 m,.int .i64 p,.slice (some ⟨g,o,none⟩) 1 k]] w _
 obtain ⟨O,d⟩ : ∃ z,z = w.alloc (.cells #[.int .i64 B,.string ⟨x.toArray⟩,.int .i64 m,.int .i64 p,.slice (some ⟨g,o,none⟩) 1 k] 100) := ⟨_,rfl⟩
 have s : Hid (w.grownBy O none) := by rw [d]; exact zh grn _
 have Q : Hid (Box O w.heap.size (.mk B x m p [u]) (.slice (some ⟨g,o,none⟩) 1 k)) := by rw [d]; exact Box.new w (.mk B x m p [u]) (.slice (some ⟨g,o,none⟩) 1 k) _
 obtain rfl : B = 20 := hk; clear h ha hf hu
 have L : sub (.mk 20 x m p [u]) 0 = u := rfl
 cases j : S.variableC c r.de u with
 | error z =>
  rw [show S.actC c r res acts (.mk 20 x m p [u]) = .error z by simp [KS.actC,T.kind,L,j,Except.bind]]
  go_enter Tryz.func77,Tryz.ntmps77
  go_wp2_with fail; go_at_call 114; rw [<- d]; refine (F.out _ s.out _ K.out J.out).mono ?_; rw [j]; rintro e w1 R; have M := R; obtain ⟨q,rfl⟩ := R.thrown
  exact ⟨rfl,M.err s.out⟩
 | ok t =>
  have N : Hid (w.cell? ⟨ρ.ty t,0,none⟩ = some (.int .i64 (S.ty t).form)) := X.out.y0 (I t j)
  by_cases E : (S.ty t).form = 5
  ·rw [E] at N
   rw [show S.actC c r res acts (.mk 20 x m p [u]) = .ok () by simp [KS.actC,T.kind,L,j,E,Except.bind]]
   go_enter Tryz.func77,Tryz.ntmps77
   go_wp2_with fail; go_at_call 114; rw [<- d]; refine (F.out _ s.out _ K.out J.out).mono ?_; rw [j]; rintro e w1 ⟨f,rfl⟩; have v := zc (za s.out f); have U : Hid (Box w1 w.heap.size (.mk 20 x m p [u]) (.slice (some ⟨g,o,none⟩) 1 k)) := Box.kept Q.out (za grn f); have C := ze v.out N.out; go_wp2; refine bodyPost_end (results_none rfl _ _ _) rfl ?_
   exact Cy.ok v.out
  ·have hd : ((S.ty t).form != 5) = true := by simpa using E
   rw [show S.actC c r res acts (.mk 20 x m p [u]) = .error (7,u.at') by simp [KS.actC,T.kind,L,j,E,Except.bind,thr]]
   go_enter Tryz.func77,Tryz.ntmps77
   go_wp2_with fail; go_at_call 114; rw [<- d]; refine (F.out _ s.out _ K.out J.out).mono ?_; rw [j]; rintro e w1 ⟨f,rfl⟩; have v := zc (za s.out f); have U : Hid (Box w1 w.heap.size (.mk 20 x m p [u]) (.slice (some ⟨g,o,none⟩) 1 k)) := Box.kept Q.out (za grn f); have C := ze v.out N.out; obtain ⟨_,_,_,_,_⟩ := U.out.plain; obtain ⟨_,_,_,_,_⟩ := i.out.kept v.out; go_wp2_with fail; go_at_call 53; refine (zu _ u _ 7).mono ?_; rintro e w2 V; have M := V; obtain ⟨q,rfl⟩ := V.thrown
   exact ⟨rfl,M.err v.out⟩
end
section
variable {ρ : Lay} {w w' w1 : World} {S : KS} {b : Nat} {c : KSc}
theorem dG {α : Type} {f : α -> CR Unit} {l : List α} {j : Nat} {v : α} (hv : l[j]? = some v) : yQ f (l.drop j) = (f v).bind fun _ => yQ f (l.drop (j + 1)) := by
 obtain ⟨d,rfl⟩ := List.getElem?_eq_some_iff.1 hv; rw [List.drop_eq_getElem_cons d]
 rfl
theorem dM (h : CK ρ w S b c) {f : T -> CR Unit} {l : List T} {sv : Value} (ha : AT w l sv) (hfn : ∀ n ∈ l,∀ (w1 : World) (sv : Value),w.grownBy w1 none -> Fits n -> AT w1 n.subs sv -> Calls Tryz.prog 77 #[pq b,zo n sv] w1 (Cy w1 ((f n).map fun _ => .tuple #[]))) :
  Calls Tryz.prog 59 #[pq b,sv] w (Cy w ((yQ f l).map fun _ => .tuple #[])) := by
 have HK := zc h; have O := zc ha; have x := zc hfn; obtain ⟨_,_,rfl,_,A⟩ := ha.form
 unfold maxLen at A
 clear h ha hfn; obtain ⟨H,k⟩ : ∃ z,z = yQ f l := ⟨_,rfl⟩; rw [<- k]
 go_enter Tryz.func59,Tryz.ntmps59
 go_wp2_with fail
 go_loopw [8] (fun iv wr => ∃ j : Nat,j <= l.length /\ iv = .int .i64 ↑j /\ Hid (yQ f l = yQ f (l.drop j)) /\ Hid (w.grownBy wr none)) (fun iv _ => l.length - (intOf iv).toNat)
 case atStart => exact ⟨0,Nat.zero_le _,rfl,by simp [Hid],zj _ _⟩
 case round =>
  obtain ⟨j,_,rfl,B,q⟩ := hrel
  by_cases C : j < l.length
  ·obtain ⟨v,r⟩ : ∃ v,l[j]? = some v := ⟨_,List.getElem?_eq_getElem C⟩
   obtain ⟨g,_,_,Q,i,I,D⟩ := O.out.node j v r; subst Q; obtain ⟨s,t,rfl,-,-⟩ := D.form; have J := zc (dG (f := f) r); have K := zc (x.out v (List.mem_of_getElem? r)); have L := zc I; have M := zc D
   replace i := i.kept q.out
   have R := i.c0; have d1 := i.c1; have d2 := i.c2; have d3 := i.c3; have d4 := i.c4; have U : g < wr.heap.size := zw R; clear i I D r; cases u : f v with
   | error z =>
    obtain rfl : H = .error z := k.trans (by rw [B.out,J.out,u]; rfl); go_wp2_with fail; obtain ⟨o,d⟩ : ∃ z,z = wr.alloc (.cells #[.int .i64 v.kind,.string ⟨v.name.toArray⟩,.int .i64 v.num,.int .i64 v.at',.slice s v.subs.length t] 100) := ⟨_,rfl⟩; rw [<- d]
    have m : Hid (w.grownBy o none) := by rw [d]; exact zh q.out _
    have E : Hid (Box o wr.heap.size v (.slice s v.subs.length t)) := by rw [d]; exact Box.new wr v _ _
    clear d; obtain ⟨V,X,Y,Z,x4⟩ := E.out; go_wp2_with fail; go_at_call 77; refine (K.out _ _ m.out L.out (M.out.kept m.out)).mono ?_; rw [u]; rintro e w3 N; have HT := N; obtain ⟨_,rfl⟩ := N.thrown
    exact ⟨rfl,HT.err m.out⟩
   | ok _ =>
    go_wp2_with fail; obtain ⟨o,d⟩ : ∃ z,z = wr.alloc (.cells #[.int .i64 v.kind,.string ⟨v.name.toArray⟩,.int .i64 v.num,.int .i64 v.at',.slice s v.subs.length t] 100) := ⟨_,rfl⟩; rw [<- d]
    have m : Hid (w.grownBy o none) := by rw [d]; exact zh q.out _
    have E : Hid (Box o wr.heap.size v (.slice s v.subs.length t)) := by rw [d]; exact Box.new wr v _ _
    clear d; obtain ⟨V,X,Y,Z,x4⟩ := E.out; go_wp2_with fail; go_at_call 77; refine (K.out _ _ m.out L.out (M.out.kept m.out)).mono ?_; rw [u]; rintro e w3 ⟨F,rfl⟩; have G3 := zc (za m.out F)
    have G : Hid (yQ f l = yQ f (l.drop (j + 1))) := by show _ = _; rw [B.out,J.out,u]; rfl
    go_wp2_with fail
    go_roundw
    case rel => exact ⟨j + 1,by omega,by go_num,G,G3.out⟩
    case measure => first | omega | (simp only [intOf]; omega) | (simp; omega)
  ·obtain rfl : H = .ok () := k.trans (by rw [B.out,List.drop_eq_nil_of_le (by omega)]; rfl)
   go_wp2; refine bodyPost_end (results_none rfl _ _ _) rfl ?_
   exact Cy.ok q.out
theorem qr (h : CK ρ w S b c) {f : T -> CR Unit} {l : List T} {sv : Value} (ha : AT w l sv) (hfn : ∀ n ∈ l,(n.kind = 1 -> ∀ (w1 : World) (sv : Value),w.grownBy w1 none -> AT w1 n.subs sv -> Calls Tryz.prog 59 #[pq b,sv] w1 (Cy w1 ((f n).map fun _ => .tuple #[]))) /\ (¬ n.kind = 1 -> ∀ (w1 : World) (sv : Value),w.grownBy w1 none -> Fits n -> AT w1 n.subs sv -> Calls Tryz.prog 116 #[pq b,zo n sv,pq (ρ.ty 1)] w1 (Cy w1 ((f n).map fun _ => .tuple #[])))) :
  Calls Tryz.prog 112 #[pq b,sv] w (Cy w ((yQ f l).map fun _ => .tuple #[])) := by
 have HK := zc h; have HL := zc ha; have L := zc hfn; have s0 : Hid _ := h.s0; have D : Hid _ := h.km.wc1; obtain ⟨_,_,rfl,_,M⟩ := ha.form
 unfold maxLen at M
 clear h ha hfn; obtain ⟨N,t⟩ : ∃ z,z = yQ f l := ⟨_,rfl⟩; rw [<- t]
 go_enter Tryz.func112,Tryz.ntmps112
 go_wp2_with fail
 go_loopw [8] (fun iv wr => ∃ j : Nat,j <= l.length /\ iv = .int .i64 ↑j /\ Hid (yQ f l = yQ f (l.drop j)) /\ Hid (w.grownBy wr none)) (fun iv _ => l.length - (intOf iv).toNat)
 case atStart => exact ⟨0,Nat.zero_le _,rfl,by simp [Hid],zj _ _⟩
 case round =>
  obtain ⟨j,_,rfl,E,C⟩ := hrel
  by_cases O : j < l.length
  ·obtain ⟨v,I⟩ : ∃ v,l[j]? = some v := ⟨_,List.getElem?_eq_getElem O⟩
   obtain ⟨g,_,_,e1,x,Z,Q⟩ := HL.out.node j v I; subst e1; obtain ⟨r,s,rfl,-,-⟩ := Q.form; have J := zc (dG (f := f) I); have HV := zc (L.out v (List.mem_of_getElem? I)); have FV := zc Z; have K := zc Q
   replace x := x.kept C.out
   have R := x.c0; have d1 := x.c1; have d2 := x.c2; have d3 := x.c3; have d4 := x.c4; have a0 : g < wr.heap.size := zw R; clear x Z Q I
   by_cases A : v.kind = 1
   ·have hd := A
    have m := zc (HV.out.1 A); cases u : f v with
    | error z =>
     obtain rfl : N = .error z := t.trans (by rw [E.out,J.out,u]; rfl); rw [A] at R; go_wp2_with fail; obtain ⟨k,d⟩ : ∃ z,z = wr.alloc (.cells #[.int .i64 1,.string ⟨v.name.toArray⟩,.int .i64 v.num,.int .i64 v.at',.slice r v.subs.length s] 100) := ⟨_,rfl⟩; rw [<- d]
     have i : Hid (w.grownBy k none) := by rw [d]; exact zh C.out _
     have F : Hid (Box k wr.heap.size v (.slice r v.subs.length s)) := by rw [d]; rw [<- A]; exact Box.new wr v _ _
     clear d; go_wp2_with fail; go_at_call 59; refine (m.out _ _ i.out (K.out.kept i.out)).mono ?_; rw [u]; rintro e U G; have V := G; obtain ⟨q,rfl⟩ := G.thrown
     exact ⟨rfl,V.err i.out⟩
    | ok _ =>
     rw [A] at R; go_wp2_with fail; obtain ⟨k,d⟩ : ∃ z,z = wr.alloc (.cells #[.int .i64 1,.string ⟨v.name.toArray⟩,.int .i64 v.num,.int .i64 v.at',.slice r v.subs.length s] 100) := ⟨_,rfl⟩; rw [<- d]
     have i : Hid (w.grownBy k none) := by rw [d]; exact zh C.out _
     have F : Hid (Box k wr.heap.size v (.slice r v.subs.length s)) := by rw [d]; rw [<- A]; exact Box.new wr v _ _
     clear d; go_wp2_with fail; go_at_call 59; refine (m.out _ _ i.out (K.out.kept i.out)).mono ?_; rw [u]; rintro e U ⟨o,rfl⟩; have X := zc (za i.out o)
     have B : Hid (yQ f l = yQ f (l.drop (j + 1))) := by show _ = _; rw [E.out,J.out,u]; rfl
     go_wp2_with fail
     go_roundw
     case rel => exact ⟨j + 1,by omega,by go_num,B,X.out⟩
     case measure => first | omega | (simp only [intOf]; omega) | (simp; omega)
   ·have hd : decide (v.kind = 1) = false := by simpa using A
    have m := zc (HV.out.2 A); cases u : f v with
    | error z =>
     obtain rfl : N = .error z := t.trans (by rw [E.out,J.out,u]; rfl); go_wp2_with fail; obtain ⟨k,d⟩ : ∃ z,z = wr.alloc (.cells #[.int .i64 v.kind,.string ⟨v.name.toArray⟩,.int .i64 v.num,.int .i64 v.at',.slice r v.subs.length s] 100) := ⟨_,rfl⟩; rw [<- d]
     have i : Hid (w.grownBy k none) := by rw [d]; exact zh C.out _
     have F : Hid (Box k wr.heap.size v (.slice r v.subs.length s)) := by rw [d]; exact Box.new wr v _ _
     clear d
     skip
     refine wp_region_held_drew (S := fun w9 => k.grownBy w9 none) (by kernel_rfl) ?_ (fun hHeld => ?_)
     ·exact zf grn
     refine kQ 0 19 (pq b) hHeld ?_; refine dk 1 (some 20) (zo v (.slice r v.subs.length s)) rfl rfl (fun w9 hS => by obtain ⟨q0,H,q2,q3,q4⟩ := Box.kept F.out hS; go_simp) hHeld ?_; refine kQ 2 21 (pq b) hHeld ?_; refine kQ 3 22 (pq b) hHeld ?_; refine kQ 4 23 (pq b) hHeld ?_; refine kQ 5 24 (pq b) hHeld ?_; refine dk 6 (some 25) (pq ρ.wd) rfl rfl (fun w9 hS => by have H := ze (za i.out hS) s0.out; go_simp) hHeld ?_; refine kQ 7 26 (pq ρ.wd) hHeld ?_; refine kQ 8 27 (.pointer (some ⟨ρ.wd,1,none⟩)) hHeld ?_; refine dk 9 (some 28) (pq (ρ.ty 1)) rfl rfl (fun w9 hS => by have H := ze (za i.out hS) D.out; go_simp) hHeld ?_; simp only [qA,qB,qC,qD]; refine rd 10 rfl fun KK hKK => ?_
     go_simp
     go_at_call 116; refine (m.out _ _ (zf i.out) FV.out (K.out.kept (zf i.out))).mono ?_; rw [u]; rintro e U G; have V := G; obtain ⟨q,rfl⟩ := G.thrown
     exact ⟨rfl,V.err (zf i.out)⟩
    | ok _ =>
     go_wp2_with fail; obtain ⟨k,d⟩ : ∃ z,z = wr.alloc (.cells #[.int .i64 v.kind,.string ⟨v.name.toArray⟩,.int .i64 v.num,.int .i64 v.at',.slice r v.subs.length s] 100) := ⟨_,rfl⟩; rw [<- d]
     have i : Hid (w.grownBy k none) := by rw [d]; exact zh C.out _
     have F : Hid (Box k wr.heap.size v (.slice r v.subs.length s)) := by rw [d]; exact Box.new wr v _ _
     clear d
     skip
     refine wp_region_held_drew (S := fun w9 => k.grownBy w9 none) (by kernel_rfl) ?_ (fun hHeld => ?_)
     ·exact zf grn
     refine kQ 0 19 (pq b) hHeld ?_; refine dk 1 (some 20) (zo v (.slice r v.subs.length s)) rfl rfl (fun w9 hS => by obtain ⟨q0,H,q2,q3,q4⟩ := Box.kept F.out hS; go_simp) hHeld ?_; refine kQ 2 21 (pq b) hHeld ?_; refine kQ 3 22 (pq b) hHeld ?_; refine kQ 4 23 (pq b) hHeld ?_; refine kQ 5 24 (pq b) hHeld ?_; refine dk 6 (some 25) (pq ρ.wd) rfl rfl (fun w9 hS => by have H := ze (za i.out hS) s0.out; go_simp) hHeld ?_; refine kQ 7 26 (pq ρ.wd) hHeld ?_; refine kQ 8 27 (.pointer (some ⟨ρ.wd,1,none⟩)) hHeld ?_; refine dk 9 (some 28) (pq (ρ.ty 1)) rfl rfl (fun w9 hS => by have H := ze (za i.out hS) D.out; go_simp) hHeld ?_; simp only [qA,qB,qC,qD]; refine rd 10 rfl fun KK hKK => ?_
     go_simp
     go_at_call 116; refine (m.out _ _ (zf i.out) FV.out (K.out.kept (zf i.out))).mono ?_; rw [u]; rintro e U ⟨o,rfl⟩; have X := zc (za (zf i.out) o); have Y := zc (za (zf grn) o); clear o
     go_simp
     refine hKK.out _ _ Y.out fun hHeld => ?_
     clear hKK KK; refine wpAnyH_done (by kernel_rfl) ?_ _; clear hHeld
     have B : Hid (yQ f l = yQ f (l.drop (j + 1))) := by show _ = _; rw [E.out,J.out,u]; rfl
     go_wp2_with fail
     go_roundw
     case rel => exact ⟨j + 1,by omega,by go_num,B,X.out⟩
     case measure => first | omega | (simp only [intOf]; omega) | (simp; omega)
  ·obtain rfl : N = .ok () := t.trans (by rw [E.out,List.drop_eq_nil_of_le (by omega)]; rfl)
   go_wp2; refine bodyPost_end (results_none rfl _ _ _) rfl ?_
   exact Cy.ok C.out
end
end Go.Proofs.YtnmkffjklpfflaaGreatDoor
