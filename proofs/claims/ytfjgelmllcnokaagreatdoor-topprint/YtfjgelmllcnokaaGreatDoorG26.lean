/- The program's judge of shapes: parts by several rules; rules made. -/
import Derived.Test.YtfjgelmllcnokaaGreatDoorG03
import Derived.Test.YtfjgelmllcnokaaGreatDoorG04
import Derived.Deep.RegionHeld
namespace Go.Proofs.YtfjgelmllcnokaaGreatDoor
open Go.RowKit Go.Maps Go.WideMaps Go.WideElems
set_option maxHeartbeats 2000000
set_option maxRecDepth 1000000
def RL (w : World) (jb : Nat) (v : Value) (rs : List Rule) (sl : Value) : Prop :=
 (rs = [] /\ sl = .slice none 0 0) \/ ∃ rb,sl = .slice (some ⟨rb,0,none⟩) rs.length rs.length /\ rb < w.heap.size /\ free jb v rb /\ ∀ (i : Nat) (r : Rule),rs[i]? = some r -> ∃ rv,w.cell? ⟨rb,i,none⟩ = some rv /\ RV w jb (free jb v) r rv
theorem RL.step {w w' : World} {jb : Nat} {v v' : Value} {rs : List Rule} {sl : Value} (h : RL w jb v rs sl) (hk : JK jb v w w' v') : RL w' jb v' rs sl := by
 rcases h with h | ⟨d,rfl,b,e,f⟩
 ·exact .inl h
 ·exact .inr ⟨d,rfl,Nat.lt_of_lt_of_le b hk.kb.size,hk.fr d b e,fun i r hi => by
   obtain ⟨g,c,q⟩ := f i r hi
   exact ⟨g,hk.kb.cell c e,q.step hk⟩⟩
theorem aX {ts : List T} {rs : List Rule} {i : Nat} {u : T} {r : Rule} (hu : ts[i]? = some u) (hr : rs[i]? = some r) : yn (ts.take (i + 1)) (rs.take (i + 1)) = yn (ts.take i) (rs.take i) ++ [(u,r)] := by
 induction i generalizing ts rs with
 | zero =>
  cases ts with
  | nil => simp at hu
  | cons t ts => cases rs with
   | nil => simp at hr
   | cons q rs => simp at hu hr; subst hu hr; simp [yn]
 | succ i ih =>
  cases ts with
  | nil => simp at hu
  | cons t ts => cases rs with
   | nil => simp at hr
   | cons q rs =>
    have := ih (ts := ts) (rs := rs) (by simpa using hu) (by simpa using hr); simp only [List.take_succ_cons,yn,this,List.cons_append]
theorem mU : ∀ (ts : List T) (rs : List Rule),(yn ts rs).length <= ts.length
 | [],_ => by simp [yn]
 | _ :: _,[] => by simp [yn]
 | _ :: ts,_ :: rs => by simp only [yn,List.length_cons]; have := mU ts rs; omega
theorem yE (w0 : World) (jb lb ob : Nat) (w : World) (l : List (T × Rule)) (v : Value) (t : T) (sv : Value) (rs : List Rule) (sl : Value) (h : JS w0 jb lb ob w l v) (hlen : l.length + t.subs.length <= 20000) (hrs : rs.length <= 100) (ha : AT w0 t.subs sv) (hr : RL w jb v rs sl) :
  Calls Tryz.prog 72 #[ptr jb,yl t sv,sl] w fun e w' => (t.subs.length ≠ rs.length /\ e = .returned (.bool false) /\ w.grownBy w' none) \/ (t.subs.length = rs.length /\ ∃ v',e = .returned (.bool true) /\ JS w0 jb lb ob w' (l ++ yn t.subs rs) v' /\ JK jb v w w' v') := by
 have F := za h; have HA := za ha; have HR := za hr; obtain ⟨j,x,m,p,b⟩ := t; obtain ⟨a,n,c,rfl,_,_,V⟩ := ha.any
 change b.length = n at V
 subst V
 obtain ⟨H,I⟩ : ∃ H,sl = .slice H rs.length rs.length := by
  rcases hr with ⟨rfl,rfl⟩ | ⟨rb,rfl,_⟩
  ·exact ⟨_,rfl⟩
  ·exact ⟨_,rfl⟩
 subst I; have J : l.length + b.length <= 20000 := hlen; clear h ha hr hlen
 change Calls Tryz.prog 72 #[ptr jb,.agg #[.int .i64 j,.string ⟨x.toArray⟩,.int .i64 m,.int .i64 p,.slice a b.length c],.slice H rs.length rs.length] w _
 by_cases f : b.length = rs.length
 ·have K : ((b.length : Int) != (rs.length : Int)) = false := by simp; omega
  have B := za f
  have a1 : b.length <= 100 := by omega
  clear f
  go_enter Tryz.func72,Tryz.ntmps72
  go_wp2_with fail
  go_loopw [17] (fun iv wr => ∃ (i : Nat) (d : Value),i <= rs.length /\ iv = .int .i64 ↑i /\ Hid (JS w0 jb lb ob wr (l ++ yn (b.take i) (rs.take i)) d) /\ Hid (JK jb v (w.alloc (.cells #[.int .i64 j,.string ⟨x.toArray⟩,.int .i64 m,.int .i64 p,.slice a b.length c] 28)) wr d) /\ Hid (Box wr w.heap.size (.mk j x m p b) (.slice a b.length c))) (fun iv _ => rs.length - (intOf iv).toNat)
  case atStart => exact ⟨0,v,Nat.zero_le _,rfl,by show JS _ _ _ _ _ _ _; simpa [yn] using F.out.grown gan,JK.refl _ _ _,Box.new w (.mk j x m p b) (.slice a b.length c) 28⟩
  case round =>
   obtain ⟨i,d,_,rfl,L,C,X1⟩ := hrel; obtain ⟨b0,b1,b2,b3,b4⟩ := X1.out
   by_cases y : i < rs.length
   ·obtain ⟨u,M⟩ : ∃ u,b[i]? = some u := ⟨_,List.getElem?_eq_getElem (by have := B.out; omega)⟩
    obtain ⟨r,hr⟩ : ∃ r,rs[i]? = some r := ⟨_,List.getElem?_eq_getElem y⟩; obtain ⟨g,o,su,e1,X,Y,Z⟩ := HA.out.node i u M; cases e1; have RS := (HR.out.step (JK.grown gan)).step C.out
    rcases RS with ⟨rfl,_⟩ | ⟨rb,e2,a2,a3,z⟩
    ·simp at y
    cases e2; obtain ⟨_,_,N⟩ := z i r hr; obtain ⟨_,_,_,_,_⟩ := X.kept L.out.gb
    have HE : Hid (l ++ yn (b.take i) (rs.take i) ++ [(u,r)] = l ++ yn (b.take (i + 1)) (rs.take (i + 1))) := by
     show _ = _
     rw [aX M hr,List.append_assoc]
    have HU := za Y; have AU := za Z; have R1 := za N
    have O : (l ++ yn (b.take i) (rs.take i)).length <= 20000 := by
     have := mU (b.take i) (rs.take i)
     simp at this ⊢
     omega
    obtain ⟨_,_,_,rfl⟩ := N.form
    have a0 : i < b.length := by have := B.out; omega
    clear M hr Y Z X z N; go_wp2_with fail; go_at_call 32; refine (kH w0 jb lb ob _ _ d u r su _ (L.out.grown grn) O HU.out AU.out (R1.out.grown grn)).mono ?_; rintro e D ⟨E,rfl,j2,k2⟩; have R : Hid (JS w0 jb lb ob D (l ++ yn (b.take (i + 1)) (rs.take (i + 1))) E) := HE.out ▸ j2; have s : Hid (JK jb d wr D E) := (JK.grown grn).trans k2; have K2 : Hid (JK jb v (w.alloc (.cells #[.int .i64 j,.string ⟨x.toArray⟩,.int .i64 m,.int .i64 p,.slice (some ⟨g,o,none⟩) b.length c] 28)) D E) := C.out.trans s.out
    have X2 : Hid (Box D w.heap.size (.mk j x m p b) (.slice (some ⟨g,o,none⟩) b.length c)) := by
     have A : free jb d w.heap.size := ⟨by have := F.out.lt; omega,fun e => by
      rcases C.out.at' with U | U
      ·have := (F.out.room (U ▸ e)).2; omega
      ·exact absurd (U _ e) (by simp)⟩
     exact ⟨s.out.kb.cell b0 A,s.out.kb.cell b1 A,s.out.kb.cell b2 A,s.out.kb.cell b3 A,s.out.kb.cell b4 A⟩
    clear j2 k2; go_wp2_with fail
    exact ⟨⟨i + 1,E,by omega,by go_num,R,K2,X2⟩,by simp [intOf]; omega⟩
   ·have R : Hid (JS w0 jb lb ob wr (l ++ yn b rs) d) := by
     have := L.out; rw [List.take_of_length_le (by have := B.out; omega),List.take_of_length_le (by omega)] at this
     exact this
    go_wp2_with fail
    go_ret
    exact .inr ⟨B.out,d,rfl,R.out,(JK.grown gan).trans C.out⟩
 ·have K : ((b.length : Int) != (rs.length : Int)) = true := by simp; omega
  go_enter Tryz.func72,Tryz.ntmps72
  go_wp2_with fail
  go_ret
  exact .inl ⟨f,rfl,zf grn _⟩
theorem ug (jb : Nat) (w : World) (v : Value) (r : Rule) (rv : Value) (hj : jb < w.heap.size) (hv : ∀ b,v.ownBlock = some b -> b < w.heap.size) (hr : RV w jb (free jb v) r rv) :
  Calls Tryz.prog 73 #[ptr jb,rv] w fun e w' => ∃ g fa ca,e = .returned (.func (.func g) fa ca) /\ RV w' jb (free jb v) (.list r) (.func (.func g) fa ca) /\ w.grownBy w' none := by
 have h := za hr; obtain ⟨d,fa,ca,rfl⟩ := hr.form; have i : Hid (free jb v w.heap.size) := ⟨by omega,fun e => by have := hv _ e; omega⟩; have j : Hid (free jb v (w.heap.size + 1)) := ⟨by omega,fun e => by have := hv _ e; omega⟩; clear hr hv
 go_enter Tryz.func73,Tryz.ntmps73
 go_wp2_with fail
 go_ret
 have f : w.grownBy ((w.alloc (.cells #[ptr jb] 123)).alloc (.cells #[.func (.func d) fa ca] 89)) none := zf gan _; refine ⟨_,_,_,rfl,.list r (.func (.func d) fa ca) _ _ i.out j.out ?_ ?_ (h.out.grown f),f⟩
 ·rw [World.cell?_alloc_past _ _ _ (by simp),World.cell?_alloc_at _ _ _ _ rfl]; rfl
 ·rw [World.cell?_alloc_at _ _ _ _ (by simp)]; rfl
theorem uG (jb : Nat) (w : World) (v : Value) (k m : Int) (r : Rule) (rv : Value) (hj : jb < w.heap.size) (hv : ∀ b,v.ownBlock = some b -> b < w.heap.size) (hr : RV w jb (free jb v) r rv) :
  Calls Tryz.prog 75 #[ptr jb,.int .i64 k,.int .i64 m,rv] w fun e w' => ∃ g fa ca,e = .returned (.func (.func g) fa ca) /\ RV w' jb (free jb v) (.declared k m r) (.func (.func g) fa ca) /\ w.grownBy w' none := by
 have h := za hr; obtain ⟨d,fa,ca,rfl⟩ := hr.form; have i : Hid (free jb v w.heap.size) := ⟨by omega,fun e => by have := hv _ e; omega⟩; have j : Hid (free jb v (w.heap.size + 1)) := ⟨by omega,fun e => by have := hv _ e; omega⟩; have l : Hid (free jb v (w.heap.size + 1 + 1)) := ⟨by omega,fun e => by have := hv _ e; omega⟩; have n : Hid (free jb v (w.heap.size + 1 + 1 + 1)) := ⟨by omega,fun e => by have := hv _ e; omega⟩; clear hr hv
 go_enter Tryz.func75,Tryz.ntmps75
 go_wp2_with fail
 go_ret
 have f : w.grownBy ((((w.alloc (.cells #[ptr jb] 123)).alloc (.cells #[.int .i64 k] 3)).alloc (.cells #[.int .i64 m] 3)).alloc (.cells #[.func (.func d) fa ca] 89)) none := zf (zf (zf gan _) _) _; refine ⟨_,_,_,rfl,.declared k m r (.func (.func d) fa ca) (w.heap.size + 1) w.heap.size (w.heap.size + 1 + 1) (w.heap.size + 1 + 1 + 1) j.out i.out l.out n.out ?_ ?_ ?_ ?_ (h.out.grown f),f⟩
 ·rw [World.cell?_alloc_past _ _ _ (by simp),World.cell?_alloc_past _ _ _ (by simp),World.cell?_alloc_at _ _ _ _ (by simp)]; rfl
 ·rw [World.cell?_alloc_past _ _ _ (by simp; omega),World.cell?_alloc_past _ _ _ (by simp; omega),World.cell?_alloc_past _ _ _ (by simp),World.cell?_alloc_at _ _ _ _ rfl]; rfl
 ·rw [World.cell?_alloc_past _ _ _ (by simp),World.cell?_alloc_at _ _ _ _ (by simp)]; rfl
 ·rw [World.cell?_alloc_at _ _ _ _ (by simp)]; rfl
def JR (w0 : World) (jb lb ob : Nat) (l : List (T × Rule)) (v : Value) (w : World) (r : Rule) (t : T) : Ending -> World -> Prop := fun e w' =>
 (zw r t = none /\ e = .returned (.bool false) /\ w0.grownBy w' none) \/ (∃ q v',zw r t = some q /\ e = .returned (.bool true) /\ JS w0 jb lb ob w' (l ++ q) v' /\ JK jb v w w' v')
abbrev JC (g : Nat) (r : Rule) (k : Int) : Prop := ∀ (w0 : World) (jb lb ob : Nat) (w : World) (l : List (T × Rule)) (v : Value) (x : List UInt8) (m p : Int) (ts : List T) (sv : Value),JS w0 jb lb ob w l v -> l.length + ts.length <= 20000 -> Fits (.mk k x m p ts) -> AT w0 (T.mk k x m p ts).subs sv -> Calls Tryz.prog g #[ptr jb,.agg #[.int .i64 k,.string ⟨x.toArray⟩,.int .i64 m,.int .i64 p,sv]] w (JR w0 jb lb ob l v w r (.mk k x m p ts))
theorem zm {c : Bool} {L : List (T × Rule)} (h : c = false) : zq c L = none := by rw [h]; rfl
theorem zN {c : Bool} {L : List (T × Rule)} (h : c = true) : zq c L = some L := by rw [h]; rfl
theorem yL {t : T} {k most many : Int} (h : t.kind = k) : zD t k true most many = ((zF t.name && zU t most) && decide (0 <= many -> (t.subs.length : Int) = many)) := by
 unfold zD zU
 rw [Bool.eq_iff_iff]
 simp [h]
 constructor
 ·rintro ⟨⟨a,b,c⟩,d⟩; exact ⟨⟨d,a,b⟩,c⟩
 ·rintro ⟨⟨d,a,b⟩,c⟩; exact ⟨⟨a,b,c⟩,d⟩
theorem zi {t : T} {k most many : Int} (h : t.kind = k) : zD t k false most many = ((t.name.isEmpty && zU t most) && decide (0 <= many -> (t.subs.length : Int) = many)) := by
 unfold zD zU
 rw [Bool.eq_iff_iff]
 simp [h]
 constructor
 ·rintro ⟨⟨a,b,c⟩,d⟩; exact ⟨⟨d,a,b⟩,c⟩
 ·rintro ⟨⟨d,a,b⟩,c⟩; exact ⟨⟨a,b,c⟩,d⟩
theorem xO {t : T} {n : Nat} (h : t.subs.length ≠ n) : decide (0 <= (n : Int) -> (t.subs.length : Int) = n) = false := by rw [decide_eq_false_iff_not]; intro h2; have := h2 (by omega); omega
theorem xl {t : T} {n : Nat} (h : t.subs.length = n) : decide (0 <= (n : Int) -> (t.subs.length : Int) = n) = true := by rw [decide_eq_true_iff]; intro _; omega
theorem ky (ts : List T) : yn ts [] = [] := by cases ts <;> rfl
theorem RL.new1 {jb : Nat} {v : Value} {r : Rule} {rv : Value} (w : World) (ty : TypeId) (hr : RV (w.alloc (.cells #[rv] ty)) jb (free jb v) r rv) (hj : jb < w.heap.size) (hv : ∀ b,v.ownBlock = some b -> b < w.heap.size) :
  RL (w.alloc (.cells #[rv] ty)) jb v [r] (.slice (some ⟨w.heap.size,0,none⟩) 1 1) :=
 .inr ⟨w.heap.size,rfl,by simp,⟨by omega,fun e => by have := hv _ e; omega⟩,fun i q hi => by
  match i,hi with
  | 0,hi => cases hi; exact ⟨rv,by rw [World.cell?_alloc_at _ _ _ _ rfl]; rfl,hr⟩⟩
theorem RL.new2 {jb : Nat} {v : Value} {r q : Rule} {rv qv : Value} (w : World) (ty : TypeId) (hr : RV (w.alloc (.cells #[rv,qv] ty)) jb (free jb v) r rv) (hq : RV (w.alloc (.cells #[rv,qv] ty)) jb (free jb v) q qv) (hj : jb < w.heap.size) (hv : ∀ b,v.ownBlock = some b -> b < w.heap.size) :
  RL (w.alloc (.cells #[rv,qv] ty)) jb v [r,q] (.slice (some ⟨w.heap.size,0,none⟩) 2 2) :=
 .inr ⟨w.heap.size,rfl,by simp,⟨by omega,fun e => by have := hv _ e; omega⟩,fun i z hi => by
  match i,hi with
  | 0,hi => cases hi; exact ⟨rv,by rw [World.cell?_alloc_at _ _ _ _ rfl]; rfl,hr⟩
  | 1,hi => cases hi; exact ⟨qv,by rw [World.cell?_alloc_at _ _ _ _ rfl]; rfl,hq⟩⟩
theorem zi1 : JC 74 .imported 3 := by
 intro N r B O w l v x m p d sv h i C s
 have j := za h; have R := za C; have U := za s; have V := h.lt
 have HV : Hid (∀ b,v.ownBlock = some b -> b < w.heap.size) := fun b hb => (h.room hb).2
 obtain ⟨a,n,c,rfl,_,_,D⟩ := s.any
 change d.length = n at D
 subst D
 have u : Hid (zw .imported (.mk 3 x m p d) = zq (zD (.mk 3 x m p d) 3 true 0 0) (yn d [])) := by rw [ky]; rfl
 clear h C s
 go_enter Tryz.func74,Tryz.ntmps74
 go_wp2_with fail; go_at_call 71; refine (vw r B (.mk 3 x m p d) _ 0 _ (j.out.grown gan).c0 (j.out.grown gan).lex R.out ⟨_,_,_,rfl⟩).mono ?_; rintro e X ⟨rfl,g⟩; have f := za (zb gan g); have Y := za ((Box.new w (.mk 3 x m p d) (.slice a d.length c) 28).kept g); obtain ⟨E,F,H,I,J⟩ := Y.out.p
 cases y : (zF (T.mk 3 x m p d).name && zU (.mk 3 x m p d) 0)
 ·clear g; go_wp2_with fail
  go_ret
  exact .inl ⟨u.out.trans (zm (by rw [yL (t := (.mk 3 x m p d)) (k := 3) rfl,y]; rfl)),rfl,zb j.out.gb f.out⟩
 ·clear g; have Z := f.out.size
  have a0 : r < X.heap.size := by omega
  go_wp2_with fail; go_at_call 72; refine (yE N r B O _ l v (.mk 3 x m p d) _ [] _ (j.out.grown f.out) i (by decide) U.out (.inl ⟨rfl,rfl⟩)).mono ?_; rintro e w2 (⟨z,rfl,A⟩ | ⟨o,K,rfl,L,M⟩)
  ·go_wp2_with fail
   go_ret
   exact .inl ⟨u.out.trans (zm (by rw [yL (t := (.mk 3 x m p d)) (k := 3) rfl,y]; exact (Bool.true_and _).trans (xO (n := 0) z))),rfl,zb j.out.gb (zb f.out A)⟩
  have J2 := za L; have K2 : Hid (JK r v w w2 K) := (JK.grown f.out).trans M; clear L M; go_wp2_with fail
  go_ret
  exact .inr ⟨_,K,u.out.trans (zN (by rw [yL (t := (.mk 3 x m p d)) (k := 3) rfl,y]; exact (Bool.true_and _).trans (xl (n := 0) o))),rfl,J2.out,K2.out⟩
theorem zhd : JC 135 .ref 24 := by
 intro N r B O w l v x m p d sv h i C s
 have j := za h; have R := za C; have U := za s; have V := h.lt
 have HV : Hid (∀ b,v.ownBlock = some b -> b < w.heap.size) := fun b hb => (h.room hb).2
 obtain ⟨a,n,c,rfl,_,_,D⟩ := s.any
 change d.length = n at D
 subst D
 have u : Hid (zw .ref (.mk 24 x m p d) = zq (zD (.mk 24 x m p d) 24 true 0 0) (yn d [])) := by rw [ky]; rfl
 clear h C s
 go_enter Tryz.func135,Tryz.ntmps135
 go_wp2_with fail; go_at_call 71; refine (vw r B (.mk 24 x m p d) _ 0 _ (j.out.grown gan).c0 (j.out.grown gan).lex R.out ⟨_,_,_,rfl⟩).mono ?_; rintro e X ⟨rfl,g⟩; have f := za (zb gan g); have Y := za ((Box.new w (.mk 24 x m p d) (.slice a d.length c) 28).kept g); obtain ⟨E,F,H,I,J⟩ := Y.out.p
 cases y : (zF (T.mk 24 x m p d).name && zU (.mk 24 x m p d) 0)
 ·clear g; go_wp2_with fail
  go_ret
  exact .inl ⟨u.out.trans (zm (by rw [yL (t := (.mk 24 x m p d)) (k := 24) rfl,y]; rfl)),rfl,zb j.out.gb f.out⟩
 ·clear g; have Z := f.out.size
  have a0 : r < X.heap.size := by omega
  go_wp2_with fail; go_at_call 72; refine (yE N r B O _ l v (.mk 24 x m p d) _ [] _ (j.out.grown f.out) i (by decide) U.out (.inl ⟨rfl,rfl⟩)).mono ?_; rintro e w2 (⟨z,rfl,A⟩ | ⟨o,K,rfl,L,M⟩)
  ·go_wp2_with fail
   go_ret
   exact .inl ⟨u.out.trans (zm (by rw [yL (t := (.mk 24 x m p d)) (k := 24) rfl,y]; exact (Bool.true_and _).trans (xO (n := 0) z))),rfl,zb j.out.gb (zb f.out A)⟩
  have J2 := za L; have K2 : Hid (JK r v w w2 K) := (JK.grown f.out).trans M; clear L M; go_wp2_with fail
  go_ret
  exact .inr ⟨_,K,u.out.trans (zN (by rw [yL (t := (.mk 24 x m p d)) (k := 24) rfl,y]; exact (Bool.true_and _).trans (xl (n := 0) o))),rfl,J2.out,K2.out⟩
theorem zjd : JC 78 .typeName 13 := by
 intro R y D U w l v x m p d sv h z E A
 have i := za h; have F := za E; have V := za A; have X := h.lt
 have HV : Hid (∀ b,v.ownBlock = some b -> b < w.heap.size) := fun b hb => (h.room hb).2
 obtain ⟨a,n,c,rfl,_,_,J⟩ := A.any
 change d.length = n at J
 subst J
 have H : Hid (zw .typeName (.mk 13 x m p d) = zq (zD (.mk 13 x m p d) 13 true 0 (-1) && decide (d.length <= 1)) (vf d .ref)) := rfl
 cases B : (zF (T.mk 13 x m p d).name && zU (.mk 13 x m p d) 0)
 ·have I : Hid (zw .typeName (.mk 13 x m p d) = none) := H.out.trans (zm (by rw [yL (t := (.mk 13 x m p d)) (k := 13) rfl,B]; rfl))
  clear h E A
  go_enter Tryz.func78,Tryz.ntmps78
  go_wp2_with fail; go_at_call 71; refine (vw y D (.mk 13 x m p d) _ 0 _ (i.out.grown gan).c0 (i.out.grown gan).lex F.out ⟨_,_,_,rfl⟩).mono ?_; rintro e K ⟨rfl,f⟩; rw [B]; have g := za (zb gan f); have C := za ((Box.new w (.mk 13 x m p d) (.slice a d.length c) 28).kept f); obtain ⟨j,o,r,s,u⟩ := C.out.p
  clear f; go_wp2_with fail
  go_ret
  exact .inl ⟨I.out,rfl,zb i.out.gb g.out⟩
 ·skip
  by_cases L : d.length <= 1
  ·have Y : Hid (zw .typeName (.mk 13 x m p d) = some (vf d .ref)) := H.out.trans (zN (by rw [yL (t := (.mk 13 x m p d)) (k := 13) rfl,B]; simp [L]))
   clear h E A
   go_enter Tryz.func78,Tryz.ntmps78
   go_wp2_with fail; go_at_call 71; refine (vw y D (.mk 13 x m p d) _ 0 _ (i.out.grown gan).c0 (i.out.grown gan).lex F.out ⟨_,_,_,rfl⟩).mono ?_; rintro e K ⟨rfl,f⟩; rw [B]; have g := za (zb gan f); have C := za ((Box.new w (.mk 13 x m p d) (.slice a d.length c) 28).kept f); obtain ⟨j,o,r,s,u⟩ := C.out.p
   clear f; go_wp2_with fail; go_at_call 130; refine (qX R y D U _ l v d _ .ref _ (i.out.grown g.out) z V.out (.meth .ref _ rfl)).mono ?_; rintro e Z ⟨M,rfl,N,O⟩; have J2 := za N; have K2 : Hid (JK y v w Z M) := (JK.grown g.out).trans O; clear N O; go_wp2_with fail
   go_ret
   exact .inr ⟨_,M,Y.out,rfl,J2.out,K2.out⟩
  ·have I : Hid (zw .typeName (.mk 13 x m p d) = none) := H.out.trans (zm (by simp [L]))
   have a0 : decide ((d.length : Int) <= 1) = false := by simp; omega
   clear h E A
   go_enter Tryz.func78,Tryz.ntmps78
   go_wp2_with fail; go_at_call 71; refine (vw y D (.mk 13 x m p d) _ 0 _ (i.out.grown gan).c0 (i.out.grown gan).lex F.out ⟨_,_,_,rfl⟩).mono ?_; rintro e K ⟨rfl,f⟩; rw [B]; have g := za (zb gan f); have C := za ((Box.new w (.mk 13 x m p d) (.slice a d.length c) 28).kept f); obtain ⟨j,o,r,s,u⟩ := C.out.p
   clear f; go_wp2_with fail
   go_ret
   exact .inl ⟨I.out,rfl,zb i.out.gb g.out⟩
theorem zhl : JC 133 .designator 25 := by
 intro O r C R w l v x m p d sv h i D s
 have j := za h; have U := za D; have V := za s; have X := h.lt
 have Y : Hid (∀ b,v.ownBlock = some b -> b < w.heap.size) := fun b hb => (h.room hb).2
 obtain ⟨a,n,c,rfl,_,_,E⟩ := s.any
 change d.length = n at E
 subst E
 have u : Hid (zw .designator (.mk 25 x m p d) = zq (zD (.mk 25 x m p d) 25 true 0 1) (yn d [.designator])) := rfl
 clear h D s
 go_enter Tryz.func133,Tryz.ntmps133
 go_wp2_with fail; go_at_call 71; refine (vw r C (.mk 25 x m p d) _ 0 _ (j.out.grown gan).c0 (j.out.grown gan).lex U.out ⟨_,_,_,rfl⟩).mono ?_; rintro e Z ⟨rfl,g⟩; have f := za (zb gan g); have B1 := za ((Box.new w (.mk 25 x m p d) (.slice a d.length c) 28).kept g); obtain ⟨F,H,I,J,K⟩ := B1.out.p
 cases y : (zF (T.mk 25 x m p d).name && zU (.mk 25 x m p d) 0)
 ·clear g; go_wp2_with fail
  go_ret
  exact .inl ⟨u.out.trans (zm (by rw [yL (t := (.mk 25 x m p d)) (k := 25) rfl,y]; rfl)),rfl,zb j.out.gb f.out⟩
 ·clear g; have a0 := f.out.size
  have z : r < Z.heap.size := by omega
  go_wp2_with fail; go_at_call 72; refine (yE O r C R _ l v (.mk 25 x m p d) _ [.designator] _ (j.out.grown (zf f.out _)) i (by decide) V.out (RL.new1 _ _ (.meth .designator _ rfl) (by simpa using z) (fun b hb => by have := Y.out b hb; omega))).mono ?_; rintro e w2 (⟨A,rfl,B⟩ | ⟨o,L,rfl,M,N⟩)
  ·go_wp2_with fail
   go_ret
   exact .inl ⟨u.out.trans (zm (by rw [yL (t := (.mk 25 x m p d)) (k := 25) rfl,y]; exact (Bool.true_and _).trans (xO (n := 1) A))),rfl,zb j.out.gb (zb (zf f.out _) B)⟩
  have J2 := za M; have K2 : Hid (JK r v w w2 L) := (JK.grown (zf f.out _)).trans N; clear M N; go_wp2_with fail
  go_ret
  exact .inr ⟨_,L,u.out.trans (zN (by rw [yL (t := (.mk 25 x m p d)) (k := 25) rfl,y]; exact (Bool.true_and _).trans (xl (n := 1) o))),rfl,J2.out,K2.out⟩
theorem zg0 : JC 133 .designator 26 := by
 intro N o O R w l v x m p d sv h i C r
 have s := za h; have HF := za C; have U := za r; have V := h.lt
 have X : Hid (∀ b,v.ownBlock = some b -> b < w.heap.size) := fun b hb => (h.room hb).2
 obtain ⟨a,n,c,rfl,_,_,D⟩ := r.any
 change d.length = n at D
 subst D
 have u : Hid (zw .designator (.mk 26 x m p d) = zq (zD (.mk 26 x m p d) 26 false 0 2) (yn d [.designator,.expression])) := rfl
 clear h C r
 go_enter Tryz.func133,Tryz.ntmps133
 go_wp2_with fail; go_at_call 129; refine (zL (.mk 26 x m p d) _ 0 _ ⟨_,_,_,rfl⟩).mono ?_; rintro e Y ⟨rfl,g⟩; have f := za (zb gan g); have Z := za ((Box.new w (.mk 26 x m p d) (.slice a d.length c) 28).kept g); obtain ⟨E,F,H,I,J⟩ := Z.out.p
 cases y : ((T.mk 26 x m p d).name.isEmpty && zU (.mk 26 x m p d) 0)
 ·clear g; go_wp2_with fail
  go_ret
  exact .inl ⟨u.out.trans (zm (by rw [zi (t := (.mk 26 x m p d)) (k := 26) rfl,y]; rfl)),rfl,zb s.out.gb f.out⟩
 ·clear g; have a0 := f.out.size
  have z : o < Y.heap.size := by omega
  go_wp2_with fail; go_at_call 72; refine (yE N o O R _ l v (.mk 26 x m p d) _ [.designator,.expression] _ (s.out.grown (zf f.out _)) i (by decide) U.out (RL.new2 _ _ (.meth .designator _ rfl) (.meth .expression _ rfl) (by simpa using z) (fun b hb => by have := X.out b hb; omega))).mono ?_; rintro e w2 (⟨A,rfl,B⟩ | ⟨j,K,rfl,L,M⟩)
  ·go_wp2_with fail
   go_ret
   exact .inl ⟨u.out.trans (zm (by rw [zi (t := (.mk 26 x m p d)) (k := 26) rfl,y]; exact (Bool.true_and _).trans (xO (n := 2) A))),rfl,zb s.out.gb (zb (zf f.out _) B)⟩
  have J2 := za L; have K2 : Hid (JK o v w w2 K) := (JK.grown (zf f.out _)).trans M; clear L M; go_wp2_with fail
  go_ret
  exact .inr ⟨_,K,u.out.trans (zN (by rw [zi (t := (.mk 26 x m p d)) (k := 26) rfl,y]; exact (Bool.true_and _).trans (xl (n := 2) j))),rfl,J2.out,K2.out⟩
theorem zf7 : JC 133 .designator 27 := by
 intro N o O R w l v x m p d sv h i C r
 have s := za h; have HF := za C; have U := za r; have V := h.lt
 have X : Hid (∀ b,v.ownBlock = some b -> b < w.heap.size) := fun b hb => (h.room hb).2
 obtain ⟨a,n,c,rfl,_,_,D⟩ := r.any
 change d.length = n at D
 subst D
 have u : Hid (zw .designator (.mk 27 x m p d) = zq (zD (.mk 27 x m p d) 27 false 0 1) (yn d [.designator])) := rfl
 clear h C r
 go_enter Tryz.func133,Tryz.ntmps133
 go_wp2_with fail; go_at_call 129; refine (zL (.mk 27 x m p d) _ 0 _ ⟨_,_,_,rfl⟩).mono ?_; rintro e Y ⟨rfl,g⟩; have f := za (zb gan g); have Z := za ((Box.new w (.mk 27 x m p d) (.slice a d.length c) 28).kept g); obtain ⟨E,F,H,I,J⟩ := Z.out.p
 cases y : ((T.mk 27 x m p d).name.isEmpty && zU (.mk 27 x m p d) 0)
 ·clear g; go_wp2_with fail
  go_ret
  exact .inl ⟨u.out.trans (zm (by rw [zi (t := (.mk 27 x m p d)) (k := 27) rfl,y]; rfl)),rfl,zb s.out.gb f.out⟩
 ·clear g; have a0 := f.out.size
  have z : o < Y.heap.size := by omega
  go_wp2_with fail; go_at_call 72; refine (yE N o O R _ l v (.mk 27 x m p d) _ [.designator] _ (s.out.grown (zf f.out _)) i (by decide) U.out (RL.new1 _ _ (.meth .designator _ rfl) (by simpa using z) (fun b hb => by have := X.out b hb; omega))).mono ?_; rintro e w2 (⟨A,rfl,B⟩ | ⟨j,K,rfl,L,M⟩)
  ·go_wp2_with fail
   go_ret
   exact .inl ⟨u.out.trans (zm (by rw [zi (t := (.mk 27 x m p d)) (k := 27) rfl,y]; exact (Bool.true_and _).trans (xO (n := 1) A))),rfl,zb s.out.gb (zb (zf f.out _) B)⟩
  have J2 := za L; have K2 : Hid (JK o v w w2 K) := (JK.grown (zf f.out _)).trans M; clear L M; go_wp2_with fail
  go_ret
  exact .inr ⟨_,K,u.out.trans (zN (by rw [zi (t := (.mk 27 x m p d)) (k := 27) rfl,y]; exact (Bool.true_and _).trans (xl (n := 1) j))),rfl,J2.out,K2.out⟩
theorem zgl : JC 133 .designator 28 := by
 intro N o O R w l v x m p d sv h i C r
 have s := za h; have HF := za C; have U := za r; have V := h.lt
 have X : Hid (∀ b,v.ownBlock = some b -> b < w.heap.size) := fun b hb => (h.room hb).2
 obtain ⟨a,n,c,rfl,_,_,D⟩ := r.any
 change d.length = n at D
 subst D
 have u : Hid (zw .designator (.mk 28 x m p d) = zq (zD (.mk 28 x m p d) 28 false 0 2) (yn d [.designator,.typeName])) := rfl
 clear h C r
 go_enter Tryz.func133,Tryz.ntmps133
 go_wp2_with fail; go_at_call 129; refine (zL (.mk 28 x m p d) _ 0 _ ⟨_,_,_,rfl⟩).mono ?_; rintro e Y ⟨rfl,g⟩; have f := za (zb gan g); have Z := za ((Box.new w (.mk 28 x m p d) (.slice a d.length c) 28).kept g); obtain ⟨E,F,H,I,J⟩ := Z.out.p
 cases y : ((T.mk 28 x m p d).name.isEmpty && zU (.mk 28 x m p d) 0)
 ·clear g; go_wp2_with fail
  go_ret
  exact .inl ⟨u.out.trans (zm (by rw [zi (t := (.mk 28 x m p d)) (k := 28) rfl,y]; rfl)),rfl,zb s.out.gb f.out⟩
 ·clear g; have a0 := f.out.size
  have z : o < Y.heap.size := by omega
  go_wp2_with fail; go_at_call 72; refine (yE N o O R _ l v (.mk 28 x m p d) _ [.designator,.typeName] _ (s.out.grown (zf f.out _)) i (by decide) U.out (RL.new2 _ _ (.meth .designator _ rfl) (.meth .typeName _ rfl) (by simpa using z) (fun b hb => by have := X.out b hb; omega))).mono ?_; rintro e w2 (⟨A,rfl,B⟩ | ⟨j,K,rfl,L,M⟩)
  ·go_wp2_with fail
   go_ret
   exact .inl ⟨u.out.trans (zm (by rw [zi (t := (.mk 28 x m p d)) (k := 28) rfl,y]; exact (Bool.true_and _).trans (xO (n := 2) A))),rfl,zb s.out.gb (zb (zf f.out _) B)⟩
  have J2 := za L; have K2 : Hid (JK o v w w2 K) := (JK.grown (zf f.out _)).trans M; clear L M; go_wp2_with fail
  go_ret
  exact .inr ⟨_,K,u.out.trans (zN (by rw [zi (t := (.mk 28 x m p d)) (k := 28) rfl,y]; exact (Bool.true_and _).trans (xl (n := 2) j))),rfl,J2.out,K2.out⟩
theorem Box.all5 {w : World} {b : Nat} {k : Int} {x : List UInt8} {m p : Int} {ts : List T} {sv : Value} (h : Box w b (.mk k x m p ts) sv) : w.cell? ⟨b,0,none⟩ = some (.int .i64 k) /\ w.cell? ⟨b,1,none⟩ = some (.string ⟨x.toArray⟩) /\ w.cell? ⟨b,2,none⟩ = some (.int .i64 m) /\ w.cell? ⟨b,3,none⟩ = some (.int .i64 p) /\ w.cell? ⟨b,4,none⟩ = some sv :=
 ⟨h.c0,h.c1,h.c2,h.c3,h.c4⟩
theorem Box.past {w w' : World} {b jb : Nat} {v : Value} {t : T} {sv : Value} {x : Bool} {A B : Prop} {C : Value -> Prop} (h : Box w b t sv) (hs : free jb v b) (h9 : (x = false /\ A /\ w.grownBy w' none) \/ (x = true /\ B /\ ∃ v',C v' /\ JK jb v w w' v')) : Box w' b t sv := by
 rcases h9 with ⟨_,_,e⟩ | ⟨_,_,v',_,d⟩
 ·exact h.kept e
 ·exact ⟨d.kb.cell h.c0 hs,d.kb.cell h.c1 hs,d.kb.cell h.c2 hs,d.kb.cell h.c3 hs,d.kb.cell h.c4 hs⟩
theorem gD (w0 : World) (jb lb ob : Nat) (w : World) (l : List (T × Rule)) (v : Value) (t : T) (sv : Value) (rs : List Rule) (sl : Value) (h : JS w0 jb lb ob w l v) (hlen : l.length + t.subs.length <= 20000) (hrs : rs.length <= 100) (ha : AT w0 t.subs sv) (hr : RL w jb v rs sl) :
  Calls Tryz.prog 72 #[ptr jb,yl t sv,sl] w fun e w' => ∃ b : Bool,e = .returned (.bool b) /\ ((b = false /\ t.subs.length ≠ rs.length /\ w.grownBy w' none) \/ (b = true /\ t.subs.length = rs.length /\ ∃ v',JS w0 jb lb ob w' (l ++ yn t.subs rs) v' /\ JK jb v w w' v')) :=
 (yE w0 jb lb ob w l v t sv rs sl h hlen hrs ha hr).mono (fun e w' hh => by
  rcases hh with ⟨h1,h2,h3⟩ | ⟨h1,v',h2,h3,h4⟩
  ·exact ⟨false,h2,.inl ⟨rfl,h1,h3⟩⟩
  ·exact ⟨true,h2,.inr ⟨rfl,h1,v',h3,h4⟩⟩)
theorem aN (w0 : World) (jb lb ob : Nat) (w : World) (l : List (T × Rule)) (v : Value) (t : T) (sv : Value) (r q : Rule) (rv qv : Value) (h : JS w0 jb lb ob w l v) (hlen : l.length + t.subs.length <= 20000) (ha : AT w0 t.subs sv) (hr : RV w jb (free jb v) r rv) (hq : RV w jb (free jb v) q qv) :
  Calls Tryz.prog 132 #[ptr jb,yl t sv,rv,qv] w fun e w' => ∃ b : Bool,e = .returned (.bool b) /\ ((b = false /\ t.subs = [] /\ w.grownBy w' none) \/ (b = true /\ 0 < t.subs.length /\ ∃ v',JS w0 jb lb ob w' (l ++ uC t r q) v' /\ JK jb v w w' v')) :=
 (da w0 jb lb ob w l v t sv r q rv qv h hlen ha hr hq).mono (fun e w' hh => by
  rcases hh with ⟨h1,h2,h3⟩ | ⟨h1,v',h2,h3,h4⟩
  ·exact ⟨false,h2,.inl ⟨rfl,h1,h3⟩⟩
  ·exact ⟨true,h2,.inr ⟨rfl,h1,v',h3,h4⟩⟩)
theorem zgq : JC 80 .act 17 := by
  intro w0 u lb ob w l v x m p d sv h o I y
  have z := za h; have HF := za I; have HA := za y; have a0 := h.lt
  have A : Hid (∀ b,v.ownBlock = some b -> b < w.heap.size) := fun b hb => (h.room hb).2
  obtain ⟨a,n,c,rfl,_,_,J⟩ := y.any
  change d.length = n at J
  subst J
  have B : Hid (zw .act (.mk 17 x m p d) = zq (zD (.mk 17 x m p d) 17 false 0 2) (yn d [.expression,.list .act])) := rfl
  clear h I y
  go_enter Tryz.func80,Tryz.ntmps80
  go_wp2_with fail; go_at_call 129; refine (zL (.mk 17 x m p d) _ 0 _ ⟨_,_,_,rfl⟩).mono ?_; rintro e w1 ⟨rfl,f⟩; have i := za (zb gan f); have C := za ((Box.new w (.mk 17 x m p d) (.slice a d.length c) 28).kept f); obtain ⟨K,L,M,N,O⟩ := C.out.p
  cases D : ((T.mk 17 x m p d).name.isEmpty && zU (.mk 17 x m p d) 0)
  · clear f; go_wp2_with fail
    go_ret
    exact .inl ⟨B.out.trans (zm (by rw [zi (t := (.mk 17 x m p d)) (k := 17) rfl,D]; rfl)),rfl,zb z.out.gb i.out⟩
  · clear f; have R := i.out.size; go_wp2_with fail
    go_region_held (fun w' => w'.cell? ⟨w.heap.size,0,none⟩ = some (.int .i64 17) /\ w'.cell? ⟨w.heap.size,1,none⟩ = some (.string ⟨x.toArray⟩) /\ w'.cell? ⟨w.heap.size,2,none⟩ = some (.int .i64 m) /\ w'.cell? ⟨w.heap.size,3,none⟩ = some (.int .i64 p) /\ w'.cell? ⟨w.heap.size,4,none⟩ = some (.slice a d.length c)) (first | exact B9.out.all5 | exact (E.out.kept (by first | with_reducible exact zl w2 none | with_reducible exact zf grn _)).all5 | exact (C.out.kept (zj grn)).all5) (first
      | (go_at_call 73
         refine (ug u _ v .act _ (by first | omega | (simp; omega)) (fun b hb => by have := A.out b hb; first | omega | (simp; omega)) (.meth .act _ rfl)).mono ?_; rintro e w2 ⟨g2,a1,a2,rfl,U,j⟩; have g := za (zb (zj i.out) j); have R2 := za U; have E := za (C.out.kept (zb (zj grn) j)); obtain ⟨r,_,_,_,_⟩ := E.out; have V := g.out.size; have X := ze r
         clear j U)
      | (go_at_call 72
         refine (gD w0 u lb ob _ l v (.mk 17 x m p d) _ [.expression,.list .act] _ (z.out.grown (zf g.out _)) o (by decide) HA.out (RL.new2 _ _ (.meth .expression _ rfl) (R2.out.grown gan) (by first | omega | (simp; omega)) (fun b hb => by have := A.out b hb; first | omega | (simp; omega)))).mono ?_; rintro e w9 ⟨b9,rfl,F⟩
         have B9 := za (Box.past (E.out.kept gan) ⟨by omega,fun e => by have := A.out _ e; omega⟩ F)))
    all_goals
      have Y := za F; clear F
      rcases Y.out with ⟨rfl,H,hg⟩ | ⟨rfl,s,Z,j9,k9⟩
      · go_wp2_with fail
        go_ret
        exact .inl ⟨B.out.trans (zm (by rw [zi (t := (.mk 17 x m p d)) (k := 17) rfl,D]; exact (Bool.true_and _).trans (xO (n := 2) H))),rfl,zb z.out.gb (zb (zf g.out _) hg)⟩
      · have J9 := za j9
        have K9 : Hid (JK u v w w9 Z) := (JK.grown (zf g.out _)).trans k9; clear j9 k9 Y; go_wp2_with fail
        go_ret
        exact .inr ⟨_,Z,B.out.trans (zN (by rw [zi (t := (.mk 17 x m p d)) (k := 17) rfl,D]; exact (Bool.true_and _).trans (xl (n := 2) s))),rfl,J9.out,K9.out⟩
theorem zhe : JC 80 .act 18 := by
  intro w0 u lb ob w l v x m p d sv h o I y
  have z := za h; have HF := za I; have HA := za y; have a0 := h.lt
  have A : Hid (∀ b,v.ownBlock = some b -> b < w.heap.size) := fun b hb => (h.room hb).2
  obtain ⟨a,n,c,rfl,_,_,J⟩ := y.any
  change d.length = n at J
  subst J
  have B : Hid (zw .act (.mk 18 x m p d) = zq (zD (.mk 18 x m p d) 18 false 0 2) (yn d [.list .act,.expression])) := rfl
  clear h I y
  go_enter Tryz.func80,Tryz.ntmps80
  go_wp2_with fail; go_at_call 129; refine (zL (.mk 18 x m p d) _ 0 _ ⟨_,_,_,rfl⟩).mono ?_; rintro e w1 ⟨rfl,f⟩; have i := za (zb gan f); have C := za ((Box.new w (.mk 18 x m p d) (.slice a d.length c) 28).kept f); obtain ⟨K,L,M,N,O⟩ := C.out.p
  cases D : ((T.mk 18 x m p d).name.isEmpty && zU (.mk 18 x m p d) 0)
  · clear f; go_wp2_with fail
    go_ret
    exact .inl ⟨B.out.trans (zm (by rw [zi (t := (.mk 18 x m p d)) (k := 18) rfl,D]; rfl)),rfl,zb z.out.gb i.out⟩
  · clear f; have R := i.out.size; go_wp2_with fail
    go_region_held (fun w' => w'.cell? ⟨w.heap.size,0,none⟩ = some (.int .i64 18) /\ w'.cell? ⟨w.heap.size,1,none⟩ = some (.string ⟨x.toArray⟩) /\ w'.cell? ⟨w.heap.size,2,none⟩ = some (.int .i64 m) /\ w'.cell? ⟨w.heap.size,3,none⟩ = some (.int .i64 p) /\ w'.cell? ⟨w.heap.size,4,none⟩ = some (.slice a d.length c)) (first | exact B9.out.all5 | exact (E.out.kept (by first | with_reducible exact zl w2 none | with_reducible exact zf grn _)).all5 | exact (C.out.kept (zj grn)).all5) (first
      | (go_at_call 73
         refine (ug u _ v .act _ (by first | omega | (simp; omega)) (fun b hb => by have := A.out b hb; first | omega | (simp; omega)) (.meth .act _ rfl)).mono ?_; rintro e w2 ⟨g2,a1,a2,rfl,U,j⟩; have g := za (zb (zj i.out) j); have R2 := za U; have E := za (C.out.kept (zb (zj grn) j)); obtain ⟨r,_,_,_,_⟩ := E.out; have V := g.out.size; have X := ze r
         clear j U)
      | (go_at_call 72
         refine (gD w0 u lb ob _ l v (.mk 18 x m p d) _ [.list .act,.expression] _ (z.out.grown (zf g.out _)) o (by decide) HA.out (RL.new2 _ _ (R2.out.grown gan) (.meth .expression _ rfl) (by first | omega | (simp; omega)) (fun b hb => by have := A.out b hb; first | omega | (simp; omega)))).mono ?_; rintro e w9 ⟨b9,rfl,F⟩
         have B9 := za (Box.past (E.out.kept gan) ⟨by omega,fun e => by have := A.out _ e; omega⟩ F)))
    all_goals
      have Y := za F; clear F
      rcases Y.out with ⟨rfl,H,hg⟩ | ⟨rfl,s,Z,j9,k9⟩
      · go_wp2_with fail
        go_ret
        exact .inl ⟨B.out.trans (zm (by rw [zi (t := (.mk 18 x m p d)) (k := 18) rfl,D]; exact (Bool.true_and _).trans (xO (n := 2) H))),rfl,zb z.out.gb (zb (zf g.out _) hg)⟩
      · have J9 := za j9
        have K9 : Hid (JK u v w w9 Z) := (JK.grown (zf g.out _)).trans k9; clear j9 k9 Y; go_wp2_with fail
        go_ret
        exact .inr ⟨_,Z,B.out.trans (zN (by rw [zi (t := (.mk 18 x m p d)) (k := 18) rfl,D]; exact (Bool.true_and _).trans (xl (n := 2) s))),rfl,J9.out,K9.out⟩
theorem zig : JC 77 .typeItself 10 := by
  intro w0 J lb ob w l v x m p d sv h o L F
  have M := za h; have HF := za L; have HA := za F; have a0 := h.lt
  have U : Hid (∀ b,v.ownBlock = some b -> b < w.heap.size) := fun b hb => (h.room hb).2
  obtain ⟨a,n,c,rfl,_,_,V⟩ := F.any
  change d.length = n at V
  subst V
  have N : Hid (zw .typeItself (.mk 10 x m p d) = zq (zD (.mk 10 x m p d) 10 false 0 (-1) && decide (0 < d.length)) (uC (.mk 10 x m p d) .typeNameOrNone (.declared 11 1 .typeName))) := rfl
  cases H : ((T.mk 10 x m p d).name.isEmpty && zU (.mk 10 x m p d) 0)
  · have HN : Hid (zw .typeItself (.mk 10 x m p d) = none) := N.out.trans (zm (by rw [zi (t := (.mk 10 x m p d)) (k := 10) rfl,H]; rfl))
    clear h L F
    go_enter Tryz.func77,Tryz.ntmps77
    go_wp2_with fail; have I : Hid (Box (w.alloc (.cells #[.int .i64 10,.string ⟨x.toArray⟩,.int .i64 m,.int .i64 p,.slice a d.length c] 28)) w.heap.size (.mk 10 x m p d) (.slice a d.length c)) := Box.new w (.mk 10 x m p d) (.slice a d.length c) 28; refine wp_region_any (by kernel_rfl) ?_
    change wpAny _ _ _ _ _ _ _ (World.drew _)
    refine wpAny_ready (rs := [0]) (by kernel_rfl) (by simp) ?_; refine AllReady.cons rfl (fun K hK => ?_) AllReady.nil
    go_simp
    refine hK _ _ ?_; clear hK K; refine wpAny_ready (rs := [1]) (by kernel_rfl) (by simp) ?_; refine AllReady.cons rfl (fun K hK => ?_) AllReady.nil
    go_simp
    go_at_call 129; refine (zL (.mk 10 x m p d) _ 0 _ ⟨_,_,_,rfl⟩).mono ?_; rintro e w1 ⟨rfl,f⟩; rw [H]; have g := za (zb (zj gan) f); have r := za (I.out.kept (zb (zj (zl (w.alloc _) none)) f)); obtain ⟨s,u,y,z,A⟩ := r.out.p
    have B := g.out.size; clear f; refine hK _ _ ?_; clear hK K; refine wpAny_ready (rs := [2]) (by kernel_rfl) (by simp) ?_; refine AllReady.cons rfl (fun K hK => ?_) AllReady.nil
    go_simp
    refine hK _ _ ?_; clear hK K; refine nt 3 rfl ?_; simp only [Act.put,List.setIfInBounds_toArray]; refine nt 4 rfl ?_; simp only [Act.put]; refine nt 5 rfl ?_; simp only [Act.put]; refine nt 6 rfl ?_; simp only [Act.put]; refine nt 7 rfl ?_; simp only [Act.put]; refine nt 8 rfl ?_; simp only [Act.put]; refine nt 9 rfl ?_; simp only [Act.put]; refine nt 10 rfl ?_; simp only [Act.put]; refine nt 11 rfl ?_; simp only [Act.put]; refine wpAny_ready (rs := [12]) (by kernel_rfl) (by simp) ?_; refine AllReady.cons rfl (fun K hK => ?_) AllReady.nil
    go_simp
    refine hK _ _ ?_; clear hK K; refine wpAny_ready (rs := [13]) (by kernel_rfl) (by simp) ?_; refine AllReady.cons rfl (fun K hK => ?_) AllReady.nil
    go_simp
    refine hK _ _ ?_; clear hK K; refine wpAny_done (by kernel_rfl) ?_ _; go_wp2_with fail
    go_ret
    exact .inl ⟨HN.out,rfl,zb M.out.gb g.out⟩
  · clear h L F
    go_enter Tryz.func77,Tryz.ntmps77
    go_wp2_with fail; have I : Hid (Box (w.alloc (.cells #[.int .i64 10,.string ⟨x.toArray⟩,.int .i64 m,.int .i64 p,.slice a d.length c] 28)) w.heap.size (.mk 10 x m p d) (.slice a d.length c)) := Box.new w (.mk 10 x m p d) (.slice a d.length c) 28
    go_region_held (fun w' => w'.cell? ⟨w.heap.size,0,none⟩ = some (.int .i64 10) /\ w'.cell? ⟨w.heap.size,1,none⟩ = some (.string ⟨x.toArray⟩) /\ w'.cell? ⟨w.heap.size,2,none⟩ = some (.int .i64 m) /\ w'.cell? ⟨w.heap.size,3,none⟩ = some (.int .i64 p) /\ w'.cell? ⟨w.heap.size,4,none⟩ = some (.slice a d.length c)) (first | exact B9.out.all5 | exact (O.out.kept grn).all5 | exact (r.out.kept grn).all5 | exact (I.out.kept (zj (zl (w.alloc _) none))).all5) (first
      | (go_at_call 129
         refine (zL (.mk 10 x m p d) _ 0 _ ⟨_,_,_,rfl⟩).mono ?_; rintro e w1 ⟨rfl,f⟩; rw [H]; have g := za (zb (zj gan) f); have r := za (I.out.kept (zb (zj (zl (w.alloc _) none)) f)); obtain ⟨s,u,y,z,A⟩ := r.out.p
         have B := g.out.size
         clear f)
      | (go_at_call 75
         refine (uG J _ v 11 1 .typeName _ (by first | omega | (simp; omega)) (fun b hb => by have := U.out b hb; first | omega | (simp; omega)) (.meth .typeName _ rfl)).mono ?_; rintro e w2 ⟨g2,a1,a2,rfl,X,j⟩; have i := za (zb g.out j); have R2 := za X; have O := za (r.out.kept (zb grn j)); obtain ⟨C,_,_,_,_⟩ := O.out; have Y := i.out.size; have Z := ze C
         clear j X)
      | (go_at_call 132
         refine (aN w0 J lb ob _ l v (.mk 10 x m p d) _ .typeNameOrNone (.declared 11 1 .typeName) _ _ (M.out.grown i.out) o HA.out (.meth .typeNameOrNone _ rfl) (R2.out.grown grn)).mono ?_; rintro e w9 ⟨b9,rfl,R⟩
         have B9 := za (Box.past (O.out.kept grn) ⟨by omega,fun e => by have := U.out _ e; omega⟩ R)))
    all_goals
      have H9 := za R; clear R
      rcases H9.out with ⟨rfl,D,hg⟩ | ⟨rfl,E,v9,j9,k9⟩
      · go_wp2_with fail
        go_ret
        exact .inl ⟨N.out.trans (zm (by change d = [] at D; subst D; simp)),rfl,zb M.out.gb (zb i.out hg)⟩
      · have J9 := za j9
        have K9 : Hid (JK J v w w9 v9) := (JK.grown i.out).trans k9; clear j9 k9 H9; go_wp2_with fail
        go_ret
        exact .inr ⟨_,v9,N.out.trans (zN (by rw [zi (t := (.mk 10 x m p d)) (k := 10) rfl,H]; simpa [T.subs] using E)),rfl,J9.out,K9.out⟩
theorem zef (x : List UInt8) : has (cW oD) (.string x) = decide (0 <= zv x) := by
 unfold cW
 rw [tc x oD (.map []) ⟨_,rfl⟩,pR]
 by_cases h : 0 <= zv x
 ·simp [h]
 ·simp [h]; rfl
theorem zck (w : World) (ob : Nat) (x : List UInt8) (h : IsOps w ob) (hx : x.length <= maxLen) : ∃ c : Int,(Instr.lookup 66 (.map (some ob)) (.string ⟨x.toArray⟩) true).run Tryz.prog w = .ok (.tuple #[.int .i64 c,.bool (decide (0 <= zv x))]) w := by
 obtain ⟨_,_,b,d⟩ := World.ownsMap.look_ok h uR Tryz.underlying66 (nJ w) (plainElem_int (H := Unit) Tryz.underlying122 (a := 0) (by decide)) (keyOf_string_mk (P := Tryz.prog) Tryz.underlying9 (s := ⟨x.toArray⟩) (pN hx)); obtain ⟨c,rfl,_,_⟩ := plainElem_int_inv Tryz.underlying122 d; refine ⟨c,?_⟩; rw [<- zef x]
 exact b
theorem zgv : JC 76 .expression 36 := by
 intro V A X I w l v x m p d sv h j o r
 have y := za h; have HF := za o; have Y := za r; have Z := h.lt
 have HV : Hid (∀ b,v.ownBlock = some b -> b < w.heap.size) := fun b hb => (h.room hb).2
 obtain ⟨a,n,c,rfl,J,_,K⟩ := r.any
 change d.length = n at K
 subst K
 have z : Hid (zw .expression (.mk 36 x m p d) = zq (decide (0 <= zv x) && m == 0 && d.length == 2) (yn d [.expression,.expression])) := rfl
 have c1 := h.c1; obtain ⟨_,i⟩ := zck ((w.alloc (.cells #[.int .i64 36,.string ⟨x.toArray⟩,.int .i64 m,.int .i64 p,.slice a d.length c] 28)).drew) I x (h.grown (zj gan)).ops o.name; cases s : decide (0 <= zv x)
 ·have B : Hid (zw .expression (.mk 36 x m p d) = none) := z.out.trans (zm (by rw [s]; rfl))
  rw [s] at i; clear h o r
  go_enter Tryz.func76,Tryz.ntmps76
  go_wp2_with fail
  go_region
  all_goals
   go_wp2_with fail
   go_ret
   exact .inl ⟨B.out,rfl,zb y.out.gb (zj gan)⟩
 ·cases t : zU (.mk 36 x m p d) 0
  ·have B : Hid (zw .expression (.mk 36 x m p d) = none) := z.out.trans (zm (by
    have C : ¬ m = 0 := by intro e; subst e; simp [zU,T.num] at t
    simp [C]))
   rw [s] at i; clear h o r
   go_enter Tryz.func76,Tryz.ntmps76
   go_wp2_with fail
   go_region
   all_goals
    go_wp2_with fail; go_at_call 127; refine (qm (.mk 36 x m p d) _ 0 _ ⟨_,_,_,rfl⟩).mono ?_; rintro e L ⟨rfl,g⟩; rw [t]; have f := za (zb (zj gan) g); go_wp2_with fail
    go_ret
    exact .inl ⟨B.out,rfl,zb y.out.gb f.out⟩
  ·have M : m = 0 := by unfold zU at t; have C := of_decide_eq_true t; simp only [T.num] at C; omega
   have N : Hid (∀ n : Nat,d.length = n -> (decide (0 <= zv x) && m == 0 && d.length == 2) = decide (n = 2)) := fun n J => by subst M J; have D := of_decide_eq_true s; rw [Bool.eq_iff_iff]; simp [D]
   clear M; rw [s] at i; clear h o r
   go_enter Tryz.func76,Tryz.ntmps76
   go_wp2_with fail
   go_region
   all_goals
    go_wp2_with fail; go_at_call 127; refine (qm (.mk 36 x m p d) _ 0 _ ⟨_,_,_,rfl⟩).mono ?_; rintro e L ⟨rfl,g⟩; rw [t]; have f := za (zb (zj gan) g); have B1 := za ((Box.new w (.mk 36 x m p d) (.slice a d.length c) 28).kept (zb (zj grn) g)); cases B1.out.q
    have a0 := f.out.size
    have E : A < L.heap.size := by omega
    clear g; go_wp2_with fail; go_at_call 72; refine (yE V A X I _ l v (.mk 36 x m p d) _ [.expression,.expression] _ (y.out.grown (zf f.out _)) j (by decide) Y.out (RL.new2 _ _ (.meth .expression _ rfl) (.meth .expression _ rfl) (by simpa using E) (fun b hb => by have := HV.out b hb; omega))).mono ?_; rintro e w2 (⟨F,rfl,H⟩ | ⟨u,O,rfl,R,U⟩)
    ·go_wp2_with fail
     go_ret
     exact .inl ⟨z.out.trans (zm ((N.out _ rfl).trans (by simpa [T.subs] using F))),rfl,zb y.out.gb (zb (zf f.out _) H)⟩
    have J2 := za R; have K2 : Hid (JK A v w w2 O) := (JK.grown (zf f.out _)).trans U; clear R U; go_wp2_with fail
    go_ret
    exact .inr ⟨_,O,z.out.trans (zN ((N.out _ rfl).trans (by simpa [T.subs] using u))),rfl,J2.out,K2.out⟩
theorem zf9 : JC 76 .expression 29 := by
 intro M o N O w l v x m p d sv h i B r
 have s := za h; have HF := za B; have R := za r; have U := h.lt
 have HV : Hid (∀ b,v.ownBlock = some b -> b < w.heap.size) := fun b hb => (h.room hb).2
 obtain ⟨a,n,c,rfl,_,_,C⟩ := r.any
 change d.length = n at C
 subst C
 have u : Hid (zw .expression (.mk 29 x m p d) = zq (zD (.mk 29 x m p d) 29 false kR 0) (yn d [])) := by rw [ky]; rfl
 clear h B r
 go_enter Tryz.func76,Tryz.ntmps76
 go_wp2_with fail; go_at_call 129; refine (zL (.mk 29 x m p d) _ kR _ ⟨_,_,_,rfl⟩).mono ?_; rintro e V ⟨rfl,g⟩; have f := za (zb gan g); have X := za ((Box.new w (.mk 29 x m p d) (.slice a d.length c) 28).kept g); obtain ⟨D,E,F,H,I⟩ := X.out.p
 cases y : ((T.mk 29 x m p d).name.isEmpty && zU (.mk 29 x m p d) kR)
 ·clear g; go_wp2_with fail
  go_ret
  exact .inl ⟨u.out.trans (zm (by rw [zi (t := (.mk 29 x m p d)) (k := 29) rfl,y]; rfl)),rfl,zb s.out.gb f.out⟩
 ·clear g; have Y := f.out.size
  have Z : o < V.heap.size := by omega
  go_wp2_with fail; go_at_call 72; refine (yE M o N O _ l v (.mk 29 x m p d) _ [] _ (s.out.grown f.out) i (by decide) R.out (.inl ⟨rfl,rfl⟩)).mono ?_; rintro e w2 (⟨z,rfl,A⟩ | ⟨j,J,rfl,K,L⟩)
  ·go_wp2_with fail
   go_ret
   exact .inl ⟨u.out.trans (zm (by rw [zi (t := (.mk 29 x m p d)) (k := 29) rfl,y]; exact (Bool.true_and _).trans (xO (n := 0) z))),rfl,zb s.out.gb (zb f.out A)⟩
  have J2 := za K; have K2 : Hid (JK o v w w2 J) := (JK.grown f.out).trans L; clear K L; go_wp2_with fail
  go_ret
  exact .inr ⟨_,J,u.out.trans (zN (by rw [zi (t := (.mk 29 x m p d)) (k := 29) rfl,y]; exact (Bool.true_and _).trans (xl (n := 0) j))),rfl,J2.out,K2.out⟩
theorem zgf : JC 76 .expression 30 := by
 intro M o N O w l v x m p d sv h i B r
 have s := za h; have HF := za B; have R := za r; have U := h.lt
 have HV : Hid (∀ b,v.ownBlock = some b -> b < w.heap.size) := fun b hb => (h.room hb).2
 obtain ⟨a,n,c,rfl,_,_,C⟩ := r.any
 change d.length = n at C
 subst C
 have u : Hid (zw .expression (.mk 30 x m p d) = zq (zD (.mk 30 x m p d) 30 false 0 0) (yn d [])) := by rw [ky]; rfl
 clear h B r
 go_enter Tryz.func76,Tryz.ntmps76
 go_wp2_with fail; go_at_call 129; refine (zL (.mk 30 x m p d) _ 0 _ ⟨_,_,_,rfl⟩).mono ?_; rintro e V ⟨rfl,g⟩; have f := za (zb gan g); have X := za ((Box.new w (.mk 30 x m p d) (.slice a d.length c) 28).kept g); obtain ⟨D,E,F,H,I⟩ := X.out.p
 cases y : ((T.mk 30 x m p d).name.isEmpty && zU (.mk 30 x m p d) 0)
 ·clear g; go_wp2_with fail
  go_ret
  exact .inl ⟨u.out.trans (zm (by rw [zi (t := (.mk 30 x m p d)) (k := 30) rfl,y]; rfl)),rfl,zb s.out.gb f.out⟩
 ·clear g; have Y := f.out.size
  have Z : o < V.heap.size := by omega
  go_wp2_with fail; go_at_call 72; refine (yE M o N O _ l v (.mk 30 x m p d) _ [] _ (s.out.grown f.out) i (by decide) R.out (.inl ⟨rfl,rfl⟩)).mono ?_; rintro e w2 (⟨z,rfl,A⟩ | ⟨j,J,rfl,K,L⟩)
  ·go_wp2_with fail
   go_ret
   exact .inl ⟨u.out.trans (zm (by rw [zi (t := (.mk 30 x m p d)) (k := 30) rfl,y]; exact (Bool.true_and _).trans (xO (n := 0) z))),rfl,zb s.out.gb (zb f.out A)⟩
  have J2 := za K; have K2 : Hid (JK o v w w2 J) := (JK.grown f.out).trans L; clear K L; go_wp2_with fail
  go_ret
  exact .inr ⟨_,J,u.out.trans (zN (by rw [zi (t := (.mk 30 x m p d)) (k := 30) rfl,y]; exact (Bool.true_and _).trans (xl (n := 0) j))),rfl,J2.out,K2.out⟩
theorem zha : JC 76 .expression 31 := by
 intro M o N O w l v x m p d sv h i B r
 have s := za h; have HF := za B; have R := za r; have U := h.lt
 have HV : Hid (∀ b,v.ownBlock = some b -> b < w.heap.size) := fun b hb => (h.room hb).2
 obtain ⟨a,n,c,rfl,_,_,C⟩ := r.any
 change d.length = n at C
 subst C
 have u : Hid (zw .expression (.mk 31 x m p d) = zq (zD (.mk 31 x m p d) 31 false 0 0) (yn d [])) := by rw [ky]; rfl
 clear h B r
 go_enter Tryz.func76,Tryz.ntmps76
 go_wp2_with fail; go_at_call 129; refine (zL (.mk 31 x m p d) _ 0 _ ⟨_,_,_,rfl⟩).mono ?_; rintro e V ⟨rfl,g⟩; have f := za (zb gan g); have X := za ((Box.new w (.mk 31 x m p d) (.slice a d.length c) 28).kept g); obtain ⟨D,E,F,H,I⟩ := X.out.p
 cases y : ((T.mk 31 x m p d).name.isEmpty && zU (.mk 31 x m p d) 0)
 ·clear g; go_wp2_with fail
  go_ret
  exact .inl ⟨u.out.trans (zm (by rw [zi (t := (.mk 31 x m p d)) (k := 31) rfl,y]; rfl)),rfl,zb s.out.gb f.out⟩
 ·clear g; have Y := f.out.size
  have Z : o < V.heap.size := by omega
  go_wp2_with fail; go_at_call 72; refine (yE M o N O _ l v (.mk 31 x m p d) _ [] _ (s.out.grown f.out) i (by decide) R.out (.inl ⟨rfl,rfl⟩)).mono ?_; rintro e w2 (⟨z,rfl,A⟩ | ⟨j,J,rfl,K,L⟩)
  ·go_wp2_with fail
   go_ret
   exact .inl ⟨u.out.trans (zm (by rw [zi (t := (.mk 31 x m p d)) (k := 31) rfl,y]; exact (Bool.true_and _).trans (xO (n := 0) z))),rfl,zb s.out.gb (zb f.out A)⟩
  have J2 := za K; have K2 : Hid (JK o v w w2 J) := (JK.grown f.out).trans L; clear K L; go_wp2_with fail
  go_ret
  exact .inr ⟨_,J,u.out.trans (zN (by rw [zi (t := (.mk 31 x m p d)) (k := 31) rfl,y]; exact (Bool.true_and _).trans (xl (n := 0) j))),rfl,J2.out,K2.out⟩
theorem zhv : JC 76 .expression 32 := by
 intro M o N O w l v x m p d sv h i B r
 have s := za h; have HF := za B; have R := za r; have U := h.lt
 have HV : Hid (∀ b,v.ownBlock = some b -> b < w.heap.size) := fun b hb => (h.room hb).2
 obtain ⟨a,n,c,rfl,_,_,C⟩ := r.any
 change d.length = n at C
 subst C
 have u : Hid (zw .expression (.mk 32 x m p d) = zq (zD (.mk 32 x m p d) 32 false 0 0) (yn d [])) := by rw [ky]; rfl
 clear h B r
 go_enter Tryz.func76,Tryz.ntmps76
 go_wp2_with fail; go_at_call 129; refine (zL (.mk 32 x m p d) _ 0 _ ⟨_,_,_,rfl⟩).mono ?_; rintro e V ⟨rfl,g⟩; have f := za (zb gan g); have X := za ((Box.new w (.mk 32 x m p d) (.slice a d.length c) 28).kept g); obtain ⟨D,E,F,H,I⟩ := X.out.p
 cases y : ((T.mk 32 x m p d).name.isEmpty && zU (.mk 32 x m p d) 0)
 ·clear g; go_wp2_with fail
  go_ret
  exact .inl ⟨u.out.trans (zm (by rw [zi (t := (.mk 32 x m p d)) (k := 32) rfl,y]; rfl)),rfl,zb s.out.gb f.out⟩
 ·clear g; have Y := f.out.size
  have Z : o < V.heap.size := by omega
  go_wp2_with fail; go_at_call 72; refine (yE M o N O _ l v (.mk 32 x m p d) _ [] _ (s.out.grown f.out) i (by decide) R.out (.inl ⟨rfl,rfl⟩)).mono ?_; rintro e w2 (⟨z,rfl,A⟩ | ⟨j,J,rfl,K,L⟩)
  ·go_wp2_with fail
   go_ret
   exact .inl ⟨u.out.trans (zm (by rw [zi (t := (.mk 32 x m p d)) (k := 32) rfl,y]; exact (Bool.true_and _).trans (xO (n := 0) z))),rfl,zb s.out.gb (zb f.out A)⟩
  have J2 := za K; have K2 : Hid (JK o v w w2 J) := (JK.grown f.out).trans L; clear K L; go_wp2_with fail
  go_ret
  exact .inr ⟨_,J,u.out.trans (zN (by rw [zi (t := (.mk 32 x m p d)) (k := 32) rfl,y]; exact (Bool.true_and _).trans (xl (n := 0) j))),rfl,J2.out,K2.out⟩
theorem zhg : JC 76 .expression 33 := by
 intro M r N O w l v x m p d sv h i A s
 have u := za h; have HF := za A; have R := za s; have U := h.lt
 have HV : Hid (∀ b,v.ownBlock = some b -> b < w.heap.size) := fun b hb => (h.room hb).2
 obtain ⟨a,n,c,rfl,_,_,B⟩ := s.any
 change d.length = n at B
 subst B
 have y : Hid (zw .expression (.mk 33 x m p d) = zq (zD (.mk 33 x m p d) 33 false 0 (-1) && decide (0 < d.length)) (uC (.mk 33 x m p d) .designator .expression)) := rfl
 clear h A s
 go_enter Tryz.func76,Tryz.ntmps76
 go_wp2_with fail; go_at_call 129; refine (zL (.mk 33 x m p d) _ 0 _ ⟨_,_,_,rfl⟩).mono ?_; rintro e V ⟨rfl,g⟩; have f := za (zb gan g); have X := za ((Box.new w (.mk 33 x m p d) (.slice a d.length c) 28).kept g); obtain ⟨C,D,E,F,H⟩ := X.out.p
 cases I : ((T.mk 33 x m p d).name.isEmpty && zU (.mk 33 x m p d) 0)
 ·clear g; go_wp2_with fail
  go_ret
  exact .inl ⟨y.out.trans (zm (by rw [zi (t := (.mk 33 x m p d)) (k := 33) rfl,I]; rfl)),rfl,zb u.out.gb f.out⟩
 ·clear g; have Y := f.out.size
  have Z : r < V.heap.size := by omega
  go_wp2_with fail; go_at_call 132; refine (da M r N O _ l v (.mk 33 x m p d) _ .designator .expression _ _ (u.out.grown f.out) i R.out (.meth .designator _ rfl) (.meth .expression _ rfl)).mono ?_; rintro e w2 (⟨j,rfl,z⟩ | ⟨o,J,rfl,K,L⟩)
  ·go_wp2_with fail
   go_ret
   exact .inl ⟨y.out.trans (zm (by change d = [] at j; subst j; simp)),rfl,zb u.out.gb (zb f.out z)⟩
  have J2 := za K; have K2 : Hid (JK r v w w2 J) := (JK.grown f.out).trans L; clear K L; go_wp2_with fail
  go_ret
  exact .inr ⟨_,J,y.out.trans (zN (by rw [zi (t := (.mk 33 x m p d)) (k := 33) rfl,I]; simpa [T.subs] using o)),rfl,J2.out,K2.out⟩
theorem zhu : JC 76 .expression 34 := by
 intro N o O R w l v x m p d sv h i C r
 have s := za h; have HF := za C; have U := za r; have V := h.lt
 have X : Hid (∀ b,v.ownBlock = some b -> b < w.heap.size) := fun b hb => (h.room hb).2
 obtain ⟨a,n,c,rfl,_,_,D⟩ := r.any
 change d.length = n at D
 subst D
 have u : Hid (zw .expression (.mk 34 x m p d) = zq (zD (.mk 34 x m p d) 34 false 0 1) (yn d [.expression])) := rfl
 clear h C r
 go_enter Tryz.func76,Tryz.ntmps76
 go_wp2_with fail; go_at_call 129; refine (zL (.mk 34 x m p d) _ 0 _ ⟨_,_,_,rfl⟩).mono ?_; rintro e Y ⟨rfl,g⟩; have f := za (zb gan g); have Z := za ((Box.new w (.mk 34 x m p d) (.slice a d.length c) 28).kept g); obtain ⟨E,F,H,I,J⟩ := Z.out.p
 cases y : ((T.mk 34 x m p d).name.isEmpty && zU (.mk 34 x m p d) 0)
 ·clear g; go_wp2_with fail
  go_ret
  exact .inl ⟨u.out.trans (zm (by rw [zi (t := (.mk 34 x m p d)) (k := 34) rfl,y]; rfl)),rfl,zb s.out.gb f.out⟩
 ·clear g; have a0 := f.out.size
  have z : o < Y.heap.size := by omega
  go_wp2_with fail; go_at_call 72; refine (yE N o O R _ l v (.mk 34 x m p d) _ [.expression] _ (s.out.grown (zf f.out _)) i (by decide) U.out (RL.new1 _ _ (.meth .expression _ rfl) (by simpa using z) (fun b hb => by have := X.out b hb; omega))).mono ?_; rintro e w2 (⟨A,rfl,B⟩ | ⟨j,K,rfl,L,M⟩)
  ·go_wp2_with fail
   go_ret
   exact .inl ⟨u.out.trans (zm (by rw [zi (t := (.mk 34 x m p d)) (k := 34) rfl,y]; exact (Bool.true_and _).trans (xO (n := 1) A))),rfl,zb s.out.gb (zb (zf f.out _) B)⟩
  have J2 := za L; have K2 : Hid (JK o v w w2 K) := (JK.grown (zf f.out _)).trans M; clear L M; go_wp2_with fail
  go_ret
  exact .inr ⟨_,K,u.out.trans (zN (by rw [zi (t := (.mk 34 x m p d)) (k := 34) rfl,y]; exact (Bool.true_and _).trans (xl (n := 1) j))),rfl,J2.out,K2.out⟩
theorem zgg : JC 76 .expression 35 := by
 intro N o O R w l v x m p d sv h i C r
 have s := za h; have HF := za C; have U := za r; have V := h.lt
 have X : Hid (∀ b,v.ownBlock = some b -> b < w.heap.size) := fun b hb => (h.room hb).2
 obtain ⟨a,n,c,rfl,_,_,D⟩ := r.any
 change d.length = n at D
 subst D
 have u : Hid (zw .expression (.mk 35 x m p d) = zq (zD (.mk 35 x m p d) 35 false 0 1) (yn d [.expression])) := rfl
 clear h C r
 go_enter Tryz.func76,Tryz.ntmps76
 go_wp2_with fail; go_at_call 129; refine (zL (.mk 35 x m p d) _ 0 _ ⟨_,_,_,rfl⟩).mono ?_; rintro e Y ⟨rfl,g⟩; have f := za (zb gan g); have Z := za ((Box.new w (.mk 35 x m p d) (.slice a d.length c) 28).kept g); obtain ⟨E,F,H,I,J⟩ := Z.out.p
 cases y : ((T.mk 35 x m p d).name.isEmpty && zU (.mk 35 x m p d) 0)
 ·clear g; go_wp2_with fail
  go_ret
  exact .inl ⟨u.out.trans (zm (by rw [zi (t := (.mk 35 x m p d)) (k := 35) rfl,y]; rfl)),rfl,zb s.out.gb f.out⟩
 ·clear g; have a0 := f.out.size
  have z : o < Y.heap.size := by omega
  go_wp2_with fail; go_at_call 72; refine (yE N o O R _ l v (.mk 35 x m p d) _ [.expression] _ (s.out.grown (zf f.out _)) i (by decide) U.out (RL.new1 _ _ (.meth .expression _ rfl) (by simpa using z) (fun b hb => by have := X.out b hb; omega))).mono ?_; rintro e w2 (⟨A,rfl,B⟩ | ⟨j,K,rfl,L,M⟩)
  ·go_wp2_with fail
   go_ret
   exact .inl ⟨u.out.trans (zm (by rw [zi (t := (.mk 35 x m p d)) (k := 35) rfl,y]; exact (Bool.true_and _).trans (xO (n := 1) A))),rfl,zb s.out.gb (zb (zf f.out _) B)⟩
  have J2 := za L; have K2 : Hid (JK o v w w2 K) := (JK.grown (zf f.out _)).trans M; clear L M; go_wp2_with fail
  go_ret
  exact .inr ⟨_,K,u.out.trans (zN (by rw [zi (t := (.mk 35 x m p d)) (k := 35) rfl,y]; exact (Bool.true_and _).trans (xl (n := 1) j))),rfl,J2.out,K2.out⟩
theorem zge : JC 76 .expression 37 := by
 intro N o O R w l v x m p d sv h i C r
 have s := za h; have HF := za C; have U := za r; have V := h.lt
 have X : Hid (∀ b,v.ownBlock = some b -> b < w.heap.size) := fun b hb => (h.room hb).2
 obtain ⟨a,n,c,rfl,_,_,D⟩ := r.any
 change d.length = n at D
 subst D
 have u : Hid (zw .expression (.mk 37 x m p d) = zq (zD (.mk 37 x m p d) 37 false 0 2) (yn d [.expression,.typeName])) := rfl
 clear h C r
 go_enter Tryz.func76,Tryz.ntmps76
 go_wp2_with fail; go_at_call 129; refine (zL (.mk 37 x m p d) _ 0 _ ⟨_,_,_,rfl⟩).mono ?_; rintro e Y ⟨rfl,g⟩; have f := za (zb gan g); have Z := za ((Box.new w (.mk 37 x m p d) (.slice a d.length c) 28).kept g); obtain ⟨E,F,H,I,J⟩ := Z.out.p
 cases y : ((T.mk 37 x m p d).name.isEmpty && zU (.mk 37 x m p d) 0)
 ·clear g; go_wp2_with fail
  go_ret
  exact .inl ⟨u.out.trans (zm (by rw [zi (t := (.mk 37 x m p d)) (k := 37) rfl,y]; rfl)),rfl,zb s.out.gb f.out⟩
 ·clear g; have a0 := f.out.size
  have z : o < Y.heap.size := by omega
  go_wp2_with fail; go_at_call 72; refine (yE N o O R _ l v (.mk 37 x m p d) _ [.expression,.typeName] _ (s.out.grown (zf f.out _)) i (by decide) U.out (RL.new2 _ _ (.meth .expression _ rfl) (.meth .typeName _ rfl) (by simpa using z) (fun b hb => by have := X.out b hb; omega))).mono ?_; rintro e w2 (⟨A,rfl,B⟩ | ⟨j,K,rfl,L,M⟩)
  ·go_wp2_with fail
   go_ret
   exact .inl ⟨u.out.trans (zm (by rw [zi (t := (.mk 37 x m p d)) (k := 37) rfl,y]; exact (Bool.true_and _).trans (xO (n := 2) A))),rfl,zb s.out.gb (zb (zf f.out _) B)⟩
  have J2 := za L; have K2 : Hid (JK o v w w2 K) := (JK.grown (zf f.out _)).trans M; clear L M; go_wp2_with fail
  go_ret
  exact .inr ⟨_,K,u.out.trans (zN (by rw [zi (t := (.mk 37 x m p d)) (k := 37) rfl,y]; exact (Bool.true_and _).trans (xl (n := 2) j))),rfl,J2.out,K2.out⟩
theorem zjs : JC 77 .typeItself 9 := by
 intro N o O R w l v x m p d sv h i C r
 have s := za h; have HF := za C; have U := za r; have V := h.lt
 have X : Hid (∀ b,v.ownBlock = some b -> b < w.heap.size) := fun b hb => (h.room hb).2
 obtain ⟨a,n,c,rfl,_,_,D⟩ := r.any
 change d.length = n at D
 subst D
 have u : Hid (zw .typeItself (.mk 9 x m p d) = zq (zD (.mk 9 x m p d) 9 false kR 1) (yn d [.typeName])) := rfl
 clear h C r
 go_enter Tryz.func77,Tryz.ntmps77
 go_wp2_with fail; go_at_call 129; refine (zL (.mk 9 x m p d) _ kR _ ⟨_,_,_,rfl⟩).mono ?_; rintro e Y ⟨rfl,g⟩; have f := za (zb gan g); have Z := za ((Box.new w (.mk 9 x m p d) (.slice a d.length c) 28).kept g); obtain ⟨E,F,H,I,J⟩ := Z.out.p
 cases y : ((T.mk 9 x m p d).name.isEmpty && zU (.mk 9 x m p d) kR)
 ·clear g; go_wp2_with fail
  go_ret
  exact .inl ⟨u.out.trans (zm (by rw [zi (t := (.mk 9 x m p d)) (k := 9) rfl,y]; rfl)),rfl,zb s.out.gb f.out⟩
 ·clear g; have a0 := f.out.size
  have z : o < Y.heap.size := by omega
  go_wp2_with fail; go_at_call 72; refine (yE N o O R _ l v (.mk 9 x m p d) _ [.typeName] _ (s.out.grown (zf f.out _)) i (by decide) U.out (RL.new1 _ _ (.meth .typeName _ rfl) (by simpa using z) (fun b hb => by have := X.out b hb; omega))).mono ?_; rintro e w2 (⟨A,rfl,B⟩ | ⟨j,K,rfl,L,M⟩)
  ·go_wp2_with fail
   go_ret
   exact .inl ⟨u.out.trans (zm (by rw [zi (t := (.mk 9 x m p d)) (k := 9) rfl,y]; exact (Bool.true_and _).trans (xO (n := 1) A))),rfl,zb s.out.gb (zb (zf f.out _) B)⟩
  have J2 := za L; have K2 : Hid (JK o v w w2 K) := (JK.grown (zf f.out _)).trans M; clear L M; go_wp2_with fail
  go_ret
  exact .inr ⟨_,K,u.out.trans (zN (by rw [zi (t := (.mk 9 x m p d)) (k := 9) rfl,y]; exact (Bool.true_and _).trans (xl (n := 1) j))),rfl,J2.out,K2.out⟩
theorem zif : JC 77 .typeItself 12 := by
 intro N o O R w l v x m p d sv h i C r
 have s := za h; have HF := za C; have U := za r; have V := h.lt
 have X : Hid (∀ b,v.ownBlock = some b -> b < w.heap.size) := fun b hb => (h.room hb).2
 obtain ⟨a,n,c,rfl,_,_,D⟩ := r.any
 change d.length = n at D
 subst D
 have u : Hid (zw .typeItself (.mk 12 x m p d) = zq (zD (.mk 12 x m p d) 12 false 0 1) (yn d [.typeName])) := rfl
 clear h C r
 go_enter Tryz.func77,Tryz.ntmps77
 go_wp2_with fail; go_at_call 129; refine (zL (.mk 12 x m p d) _ 0 _ ⟨_,_,_,rfl⟩).mono ?_; rintro e Y ⟨rfl,g⟩; have f := za (zb gan g); have Z := za ((Box.new w (.mk 12 x m p d) (.slice a d.length c) 28).kept g); obtain ⟨E,F,H,I,J⟩ := Z.out.p
 cases y : ((T.mk 12 x m p d).name.isEmpty && zU (.mk 12 x m p d) 0)
 ·clear g; go_wp2_with fail
  go_ret
  exact .inl ⟨u.out.trans (zm (by rw [zi (t := (.mk 12 x m p d)) (k := 12) rfl,y]; rfl)),rfl,zb s.out.gb f.out⟩
 ·clear g; have a0 := f.out.size
  have z : o < Y.heap.size := by omega
  go_wp2_with fail; go_at_call 72; refine (yE N o O R _ l v (.mk 12 x m p d) _ [.typeName] _ (s.out.grown (zf f.out _)) i (by decide) U.out (RL.new1 _ _ (.meth .typeName _ rfl) (by simpa using z) (fun b hb => by have := X.out b hb; omega))).mono ?_; rintro e w2 (⟨A,rfl,B⟩ | ⟨j,K,rfl,L,M⟩)
  ·go_wp2_with fail
   go_ret
   exact .inl ⟨u.out.trans (zm (by rw [zi (t := (.mk 12 x m p d)) (k := 12) rfl,y]; exact (Bool.true_and _).trans (xO (n := 1) A))),rfl,zb s.out.gb (zb (zf f.out _) B)⟩
  have J2 := za L; have K2 : Hid (JK o v w w2 K) := (JK.grown (zf f.out _)).trans M; clear L M; go_wp2_with fail
  go_ret
  exact .inr ⟨_,K,u.out.trans (zN (by rw [zi (t := (.mk 12 x m p d)) (k := 12) rfl,y]; exact (Bool.true_and _).trans (xl (n := 1) j))),rfl,J2.out,K2.out⟩
theorem zk3 : JC 134 .typeNameOrNone 0 := by
 intro M o N O w l v x m p d sv h i B r
 have s := za h; have HF := za B; have R := za r; have U := h.lt
 have HV : Hid (∀ b,v.ownBlock = some b -> b < w.heap.size) := fun b hb => (h.room hb).2
 obtain ⟨a,n,c,rfl,_,_,C⟩ := r.any
 change d.length = n at C
 subst C
 have u : Hid (zw .typeNameOrNone (.mk 0 x m p d) = zq (zD (.mk 0 x m p d) 0 false 0 0) (yn d [])) := by rw [ky]; rfl
 clear h B r
 go_enter Tryz.func134,Tryz.ntmps134
 go_wp2_with fail; go_at_call 129; refine (zL (.mk 0 x m p d) _ 0 _ ⟨_,_,_,rfl⟩).mono ?_; rintro e V ⟨rfl,g⟩; have f := za (zb gan g); have X := za ((Box.new w (.mk 0 x m p d) (.slice a d.length c) 28).kept g); obtain ⟨D,E,F,H,I⟩ := X.out.p
 cases y : ((T.mk 0 x m p d).name.isEmpty && zU (.mk 0 x m p d) 0)
 ·clear g; go_wp2_with fail
  go_ret
  exact .inl ⟨u.out.trans (zm (by rw [zi (t := (.mk 0 x m p d)) (k := 0) rfl,y]; rfl)),rfl,zb s.out.gb f.out⟩
 ·clear g; have Y := f.out.size
  have Z : o < V.heap.size := by omega
  go_wp2_with fail; go_at_call 72; refine (yE M o N O _ l v (.mk 0 x m p d) _ [] _ (s.out.grown f.out) i (by decide) R.out (.inl ⟨rfl,rfl⟩)).mono ?_; rintro e w2 (⟨z,rfl,A⟩ | ⟨j,J,rfl,K,L⟩)
  ·go_wp2_with fail
   go_ret
   exact .inl ⟨u.out.trans (zm (by rw [zi (t := (.mk 0 x m p d)) (k := 0) rfl,y]; exact (Bool.true_and _).trans (xO (n := 0) z))),rfl,zb s.out.gb (zb f.out A)⟩
  have J2 := za K; have K2 : Hid (JK o v w w2 J) := (JK.grown f.out).trans L; clear K L; go_wp2_with fail
  go_ret
  exact .inr ⟨_,J,u.out.trans (zN (by rw [zi (t := (.mk 0 x m p d)) (k := 0) rfl,y]; exact (Bool.true_and _).trans (xl (n := 0) j))),rfl,J2.out,K2.out⟩
theorem JR.up {w0 : World} {jb lb ob : Nat} {l : List (T × Rule)} {v : Value} {w w1 : World} {r q : Rule} {t : T} {e : Ending} {w' : World} (h : JR w0 jb lb ob l v w1 r t e w') (hg : w.grownBy w1 none) (hs : zw q t = zw r t) : JR w0 jb lb ob l v w q t e w' := by
 rcases h with ⟨b,d,f⟩ | ⟨m,g,b,d,f,i⟩
 ·exact .inl ⟨hs.trans b,d,f⟩
 ·exact .inr ⟨m,g,hs.trans b,d,f,(JK.grown hg).trans i⟩
theorem JR.ret {w0 : World} {jb lb ob : Nat} {l : List (T × Rule)} {v : Value} {w : World} {r : Rule} {t : T} {e : Ending} {w' : World} (h : JR w0 jb lb ob l v w r t e w') : ∃ b : Bool,e = .returned (.bool b) /\ JR w0 jb lb ob l v w r t (.returned (.bool b)) w' := by
 rcases id h with ⟨_,rfl,_⟩ | ⟨_,_,_,rfl,_⟩
 ·exact ⟨_,rfl,h⟩
 ·exact ⟨_,rfl,h⟩
def RuleSays (f : Nat) (r : Rule) : Prop := ∀ (w0 : World) (jb lb ob : Nat) (w : World) (l : List (T × Rule)) (v : Value) (t : T) (sv : Value),JS w0 jb lb ob w l v -> l.length + t.subs.length <= 20000 -> Fits t -> AT w0 t.subs sv -> Calls Tryz.prog f #[ptr jb,yl t sv] w (JR w0 jb lb ob l v w r t)
theorem zis (w0 : World) (jb lb ob : Nat) (w : World) (l : List (T × Rule)) (v : Value) (kd : Int) (x : List UInt8) (m p : Int) (ts : List T) (sv : Value) (h : JS w0 jb lb ob w l v) (_hlen : l.length + ts.length <= 20000) (hf : Fits (.mk kd x m p ts)) (ha : AT w0 (T.mk kd x m p ts).subs sv) (h3 : ¬ kd = 3) :
  Calls Tryz.prog 74 #[ptr jb,.agg #[.int .i64 kd,.string ⟨x.toArray⟩,.int .i64 m,.int .i64 p,sv]] w (JR w0 jb lb ob l v w .imported (.mk kd x m p ts)) := by
 have e := za h; have i := za hf; have j := za ha; have f := h.lt
 have o : Hid (∀ b,v.ownBlock = some b -> b < w.heap.size) := fun b hb => (h.room hb).2
 obtain ⟨_,n,_,rfl,_,_,d⟩ := ha.any
 change ts.length = n at d
 subst d
 have g : Hid (zw .imported (.mk kd x m p ts) = none) := by show _ = _; rw [show zw .imported (.mk kd x m p ts) = zq _ _ from rfl]; exact zm (by simp [zD,T.kind,h3])
 clear h hf ha
 go_enter Tryz.func74,Tryz.ntmps74
 go_wp2_with fail
 go_ret
 exact .inl ⟨g.out,rfl,zb e.out.gb gan⟩
theorem po : RuleSays 74 .imported := by
 intro e f g i w l v t j h b n o; obtain ⟨r,x,m,p,d⟩ := t
 change l.length + d.length <= 20000 at b
 by_cases s : r = 3
 ·subst s; exact zi1 e f g i w l v x m p d j h b n o
 exact zis e f g i w l v r x m p d j h b n o s
theorem zh3 (w0 : World) (jb lb ob : Nat) (w : World) (l : List (T × Rule)) (v : Value) (kd : Int) (x : List UInt8) (m p : Int) (ts : List T) (sv : Value) (h : JS w0 jb lb ob w l v) (_hlen : l.length + ts.length <= 20000) (hf : Fits (.mk kd x m p ts)) (ha : AT w0 (T.mk kd x m p ts).subs sv) (h24 : ¬ kd = 24) :
  Calls Tryz.prog 135 #[ptr jb,.agg #[.int .i64 kd,.string ⟨x.toArray⟩,.int .i64 m,.int .i64 p,sv]] w (JR w0 jb lb ob l v w .ref (.mk kd x m p ts)) := by
 have e := za h; have i := za hf; have j := za ha; have f := h.lt
 have o : Hid (∀ b,v.ownBlock = some b -> b < w.heap.size) := fun b hb => (h.room hb).2
 obtain ⟨_,n,_,rfl,_,_,d⟩ := ha.any
 change ts.length = n at d
 subst d
 have g : Hid (zw .ref (.mk kd x m p ts) = none) := by show _ = _; rw [show zw .ref (.mk kd x m p ts) = zq _ _ from rfl]; exact zm (by simp [zD,T.kind,h24])
 clear h hf ha
 go_enter Tryz.func135,Tryz.ntmps135
 go_wp2_with fail
 go_ret
 exact .inl ⟨g.out,rfl,zb e.out.gb gan⟩
theorem lL : RuleSays 135 .ref := by
 intro f g i j w l v t n h b o r; obtain ⟨s,x,m,p,e⟩ := t
 change l.length + e.length <= 20000 at b
 by_cases d : s = 24
 ·subst d; exact zhd f g i j w l v x m p e n h b o r
 exact zh3 f g i j w l v s x m p e n h b o r d
theorem zkf (w0 : World) (jb lb ob : Nat) (w : World) (l : List (T × Rule)) (v : Value) (kd : Int) (x : List UInt8) (m p : Int) (ts : List T) (sv : Value) (h : JS w0 jb lb ob w l v) (_hlen : l.length + ts.length <= 20000) (hf : Fits (.mk kd x m p ts)) (ha : AT w0 (T.mk kd x m p ts).subs sv) (h13 : ¬ kd = 13) :
  Calls Tryz.prog 78 #[ptr jb,.agg #[.int .i64 kd,.string ⟨x.toArray⟩,.int .i64 m,.int .i64 p,sv]] w (JR w0 jb lb ob l v w .typeName (.mk kd x m p ts)) := by
 have e := za h; have i := za hf; have j := za ha; have f := h.lt
 have o : Hid (∀ b,v.ownBlock = some b -> b < w.heap.size) := fun b hb => (h.room hb).2
 obtain ⟨_,n,_,rfl,_,_,d⟩ := ha.any
 change ts.length = n at d
 subst d
 have g : Hid (zw .typeName (.mk kd x m p ts) = none) := by show _ = _; rw [show zw .typeName (.mk kd x m p ts) = zq (zD (.mk kd x m p ts) 13 true 0 (-1) && decide (ts.length <= 1)) (vf ts .ref) from rfl]; exact zm (by simp [zD,T.kind,h13])
 clear h hf ha
 go_enter Tryz.func78,Tryz.ntmps78
 go_wp2_with fail
 go_ret
 exact .inl ⟨g.out,rfl,zb e.out.gb gan⟩
theorem gP : RuleSays 78 .typeName := by
 intro f g i j w l v t n h b o r; obtain ⟨s,x,m,p,e⟩ := t
 change l.length + e.length <= 20000 at b
 by_cases d : s = 13
 ·subst d; exact zjd f g i j w l v x m p e n h b o r
 exact zkf f g i j w l v s x m p e n h b o r d
theorem zj7 (w0 : World) (jb lb ob : Nat) (w : World) (l : List (T × Rule)) (v : Value) (kd : Int) (x : List UInt8) (m p : Int) (ts : List T) (sv : Value) (h : JS w0 jb lb ob w l v) (hlen : l.length + ts.length <= 20000) (hf : Fits (.mk kd x m p ts)) (ha : AT w0 (T.mk kd x m p ts).subs sv) (h0 : ¬ kd = 0) :
  Calls Tryz.prog 134 #[ptr jb,.agg #[.int .i64 kd,.string ⟨x.toArray⟩,.int .i64 m,.int .i64 p,sv]] w (JR w0 jb lb ob l v w .typeNameOrNone (.mk kd x m p ts)) := by
 have g := za h; have i := za hf; have j := za ha; have o := h.lt
 have u : Hid (∀ b,v.ownBlock = some b -> b < w.heap.size) := fun b hb => (h.room hb).2
 obtain ⟨_,n,_,rfl,_,_,f⟩ := ha.any
 change ts.length = n at f
 subst f
 have r : Hid (zw .typeNameOrNone (.mk kd x m p ts) = zw .typeName (.mk kd x m p ts)) := by show _ = _; simp [zw,T.kind,h0]
 clear h hf ha
 go_enter Tryz.func134,Tryz.ntmps134
 go_wp2_with fail; go_at_call 78; refine (gP w0 jb lb ob _ l v (.mk kd x m p ts) _ (g.out.grown gan) hlen i.out j.out).mono ?_; intro e s d; obtain ⟨b,rfl,d⟩ := d.ret; have t : Hid (JR w0 jb lb ob l v w .typeNameOrNone (.mk kd x m p ts) (.returned (.bool b)) s) := d.up gan r.out; clear d; go_wp2_with fail
 go_ret
 exact t.out
theorem gM : RuleSays 134 .typeNameOrNone := by
 intro e f g i w l v t j h b n o; obtain ⟨r,x,m,p,d⟩ := t
 change l.length + d.length <= 20000 at b
 by_cases s : r = 0
 ·subst s; exact zk3 e f g i w l v x m p d j h b n o
 exact zj7 e f g i w l v r x m p d j h b n o s
theorem zj2 (w0 : World) (jb lb ob : Nat) (w : World) (l : List (T × Rule)) (v : Value) (kd : Int) (x : List UInt8) (m p : Int) (ts : List T) (sv : Value) (h : JS w0 jb lb ob w l v) (_hlen : l.length + ts.length <= 20000) (hf : Fits (.mk kd x m p ts)) (ha : AT w0 (T.mk kd x m p ts).subs sv) (h9 : ¬ kd = 9) (h10 : ¬ kd = 10) (h12 : ¬ kd = 12) :
  Calls Tryz.prog 77 #[ptr jb,.agg #[.int .i64 kd,.string ⟨x.toArray⟩,.int .i64 m,.int .i64 p,sv]] w (JR w0 jb lb ob l v w .typeItself (.mk kd x m p ts)) := by
 have e := za h; have i := za hf; have j := za ha; have f := h.lt
 have o : Hid (∀ b,v.ownBlock = some b -> b < w.heap.size) := fun b hb => (h.room hb).2
 obtain ⟨_,n,_,rfl,_,_,d⟩ := ha.any
 change ts.length = n at d
 subst d
 have g : Hid (zw .typeItself (.mk kd x m p ts) = none) := by show _ = _; simp [zw,T.kind,h9,h10,h12]
 clear h hf ha
 go_enter Tryz.func77,Tryz.ntmps77
 go_wp2_with fail
 go_ret
 exact .inl ⟨g.out,rfl,zb e.out.gb gan⟩
theorem tg : RuleSays 77 .typeItself := by
 intro g i j n w l v t o h b r s; obtain ⟨u,x,m,p,d⟩ := t
 change l.length + d.length <= 20000 at b
 by_cases y : u = 9
 ·subst y; exact zjs g i j n w l v x m p d o h b r s
 by_cases e : u = 10
 ·subst e; exact zig g i j n w l v x m p d o h b r s
 by_cases f : u = 12
 ·subst f; exact zif g i j n w l v x m p d o h b r s
 exact zj2 g i j n w l v u x m p d o h b r s y e f
theorem zgx : JC 133 .designator 24 := by
 intro j o r s w l v x m p d F h f t i
 have y := za h; have z := za t; have A := za i; have B := h.lt
 have H : Hid (∀ b,v.ownBlock = some b -> b < w.heap.size) := fun b hb => (h.room hb).2
 obtain ⟨_,n,_,rfl,_,_,u⟩ := i.any
 change d.length = n at u
 subst u
 have C : Hid (zw .designator (.mk 24 x m p d) = zw .ref (.mk 24 x m p d)) := by show _ = _; rfl
 clear h t i
 go_enter Tryz.func133,Tryz.ntmps133
 go_wp2_with fail; go_at_call 135; refine (lL j o r s _ l v (.mk 24 x m p d) _ (y.out.grown gan) f z.out A.out).mono ?_; intro e D g; obtain ⟨b,rfl,g⟩ := g.ret; have E : Hid (JR j o r s l v w .designator (.mk 24 x m p d) (.returned (.bool b)) D) := g.up gan C.out; clear g; go_wp2_with fail
 go_ret
 exact E.out
theorem zjc (w0 : World) (jb lb ob : Nat) (w : World) (l : List (T × Rule)) (v : Value) (kd : Int) (x : List UInt8) (m p : Int) (ts : List T) (sv : Value) (h : JS w0 jb lb ob w l v) (_hlen : l.length + ts.length <= 20000) (hf : Fits (.mk kd x m p ts)) (ha : AT w0 (T.mk kd x m p ts).subs sv) (h24 : ¬ kd = 24) (h25 : ¬ kd = 25) (h26 : ¬ kd = 26) (h27 : ¬ kd = 27) (h28 : ¬ kd = 28) :
  Calls Tryz.prog 133 #[ptr jb,.agg #[.int .i64 kd,.string ⟨x.toArray⟩,.int .i64 m,.int .i64 p,sv]] w (JR w0 jb lb ob l v w .designator (.mk kd x m p ts)) := by
 have e := za h; have i := za hf; have j := za ha; have f := h.lt
 have o : Hid (∀ b,v.ownBlock = some b -> b < w.heap.size) := fun b hb => (h.room hb).2
 obtain ⟨_,n,_,rfl,_,_,d⟩ := ha.any
 change ts.length = n at d
 subst d
 have g : Hid (zw .designator (.mk kd x m p ts) = none) := by show _ = _; simp [zw,yX,T.kind,h24,h25,h26,h27,h28]
 clear h hf ha
 go_enter Tryz.func133,Tryz.ntmps133
 go_wp2_with fail
 go_ret
 exact .inl ⟨g.out,rfl,zb e.out.gb gan⟩
theorem qL : RuleSays 133 .designator := by
 intro e f g i w l v t j h b n o; obtain ⟨r,x,m,p,d⟩ := t
 change l.length + d.length <= 20000 at b
 by_cases s : r = 24
 ·subst s; exact zgx e f g i w l v x m p d j h b n o
 by_cases u : r = 25
 ·subst u; exact zhl e f g i w l v x m p d j h b n o
 by_cases y : r = 26
 ·subst y; exact zg0 e f g i w l v x m p d j h b n o
 by_cases z : r = 27
 ·subst z; exact zf7 e f g i w l v x m p d j h b n o
 by_cases A : r = 28
 ·subst A; exact zgl e f g i w l v x m p d j h b n o
 exact zjc e f g i w l v r x m p d j h b n o s u y z A
theorem zil (w0 : World) (jb lb ob : Nat) (w : World) (l : List (T × Rule)) (v : Value) (kd : Int) (x : List UInt8) (m p : Int) (ts : List T) (sv : Value) (h : JS w0 jb lb ob w l v) (hlen : l.length + ts.length <= 20000) (hf : Fits (.mk kd x m p ts)) (ha : AT w0 (T.mk kd x m p ts).subs sv) (h29 : ¬ kd = 29) (h30 : ¬ kd = 30) (h31 : ¬ kd = 31) (h32 : ¬ kd = 32) (h33 : ¬ kd = 33) (h34 : ¬ kd = 34) (h35 : ¬ kd = 35) (h36 : ¬ kd = 36) (h37 : ¬ kd = 37) :
  Calls Tryz.prog 76 #[ptr jb,.agg #[.int .i64 kd,.string ⟨x.toArray⟩,.int .i64 m,.int .i64 p,sv]] w (JR w0 jb lb ob l v w .expression (.mk kd x m p ts)) := by
 have g := za h; have i := za hf; have j := za ha; have o := h.lt
 have u : Hid (∀ b,v.ownBlock = some b -> b < w.heap.size) := fun b hb => (h.room hb).2
 obtain ⟨_,n,_,rfl,_,_,f⟩ := ha.any
 change ts.length = n at f
 subst f
 have r : Hid (zw .expression (.mk kd x m p ts) = zw .designator (.mk kd x m p ts)) := by show _ = _; simp [zw,yQ,T.kind,h29,h30,h31,h32,h33,h34,h35,h36,h37]
 clear h hf ha
 go_enter Tryz.func76,Tryz.ntmps76
 go_wp2_with fail; go_at_call 133; refine (qL w0 jb lb ob _ l v (.mk kd x m p ts) _ (g.out.grown gan) hlen i.out j.out).mono ?_; intro e s d; obtain ⟨b,rfl,d⟩ := d.ret; have t : Hid (JR w0 jb lb ob l v w .expression (.mk kd x m p ts) (.returned (.bool b)) s) := d.up gan r.out; clear d; go_wp2_with fail
 go_ret
 exact t.out
theorem th : RuleSays 76 .expression := by
 intro e f g i w l v t j h b n o; obtain ⟨r,x,m,p,d⟩ := t
 change l.length + d.length <= 20000 at b
 by_cases s : r = 29
 ·subst s; exact zf9 e f g i w l v x m p d j h b n o
 by_cases u : r = 30
 ·subst u; exact zgf e f g i w l v x m p d j h b n o
 by_cases y : r = 31
 ·subst y; exact zha e f g i w l v x m p d j h b n o
 by_cases z : r = 32
 ·subst z; exact zhv e f g i w l v x m p d j h b n o
 by_cases A : r = 33
 ·subst A; exact zhg e f g i w l v x m p d j h b n o
 by_cases B : r = 34
 ·subst B; exact zhu e f g i w l v x m p d j h b n o
 by_cases C : r = 35
 ·subst C; exact zgg e f g i w l v x m p d j h b n o
 by_cases D : r = 36
 ·subst D; exact zgv e f g i w l v x m p d j h b n o
 by_cases E : r = 37
 ·subst E; exact zge e f g i w l v x m p d j h b n o
 exact zil e f g i w l v r x m p d j h b n o s u y z A B C D E
set_option maxHeartbeats 8000000
theorem RL.new4 {jb : Nat} {v : Value} {r0 r1 r2 r3 : Rule} {x0 x1 x2 x3 : Value} (w : World) (ty : TypeId) (h0 : RV (w.alloc (.cells #[x0,x1,x2,x3] ty)) jb (free jb v) r0 x0) (h1 : RV (w.alloc (.cells #[x0,x1,x2,x3] ty)) jb (free jb v) r1 x1) (h2 : RV (w.alloc (.cells #[x0,x1,x2,x3] ty)) jb (free jb v) r2 x2) (h3 : RV (w.alloc (.cells #[x0,x1,x2,x3] ty)) jb (free jb v) r3 x3) (hj : jb < w.heap.size) (hv : ∀ b,v.ownBlock = some b -> b < w.heap.size) :
  RL (w.alloc (.cells #[x0,x1,x2,x3] ty)) jb v [r0,r1,r2,r3] (.slice (some ⟨w.heap.size,0,none⟩) 4 4) :=
 .inr ⟨w.heap.size,rfl,by simp,⟨by omega,fun e => by have := hv _ e; omega⟩,fun i z hi => by
  match i,hi with
  | 0,hi => cases hi; exact ⟨x0,by rw [World.cell?_alloc_at _ _ _ _ rfl]; rfl,h0⟩
  | 1,hi => cases hi; exact ⟨x1,by rw [World.cell?_alloc_at _ _ _ _ rfl]; rfl,h1⟩
  | 2,hi => cases hi; exact ⟨x2,by rw [World.cell?_alloc_at _ _ _ _ rfl]; rfl,h2⟩
  | 3,hi => cases hi; exact ⟨x3,by rw [World.cell?_alloc_at _ _ _ _ rfl]; rfl,h3⟩⟩
theorem ll : JC 79 .procedure 7 := by
 intro w0 d lb ob w l v x m p j sv h E hf ha
 have B := za h; have HF := za hf; have HA := za ha; have c4 := h.lt
 have C : Hid (∀ b,v.ownBlock = some b -> b < w.heap.size) := fun b hb => (h.room hb).2
 obtain ⟨a,n,c,rfl,_,_,hl⟩ := ha.any
 change j.length = n at hl
 subst hl
 have HS : Hid (zw .procedure (.mk 7 x m p j) = zq (zD (.mk 7 x m p j) 7 true 1 4) (yn j [(.list (.declared 8 1 .typeName)),.typeNameOrNone,(.list (.declared 6 0 .typeName)),(.list .act)])) := rfl
 cases F : (zF (T.mk 7 x m p j).name && zU (.mk 7 x m p j) 1)
 ·have HN : Hid (zw .procedure (.mk 7 x m p j) = none) := HS.out.trans (zm (by rw [yL (t := (.mk 7 x m p j)) (k := 7) rfl,F]; rfl))
  clear h hf ha
  go_enter Tryz.func79,Tryz.ntmps79
  go_wp2_with fail; have B0 : Hid (Box (w.alloc (.cells #[.int .i64 7,.string ⟨x.toArray⟩,.int .i64 m,.int .i64 p,.slice a j.length c] 28)) w.heap.size (.mk 7 x m p j) (.slice a j.length c)) := Box.new w (.mk 7 x m p j) (.slice a j.length c) 28; refine wp_region_any (by kernel_rfl) ?_
  change wpAny _ _ _ _ _ _ _ (World.drew _)
  refine wpAny_ready (rs := [0]) (by kernel_rfl) (by simp) ?_; refine AllReady.cons rfl (fun K hK => ?_) AllReady.nil
  go_simp
  refine hK _ _ ?_; clear hK K; refine wpAny_ready (rs := [1]) (by kernel_rfl) (by simp) ?_; refine AllReady.cons rfl (fun K hK => ?_) AllReady.nil
  go_simp
  refine hK _ _ ?_; clear hK K; refine wpAny_ready (rs := [2]) (by kernel_rfl) (by simp) ?_; refine AllReady.cons rfl (fun K hK => ?_) AllReady.nil
  go_simp
  refine hK _ _ ?_; clear hK K; refine wpAny_ready (rs := [3]) (by kernel_rfl) (by simp) ?_; refine AllReady.cons rfl (fun K hK => ?_) AllReady.nil
  go_simp
  refine hK _ _ ?_; clear hK K; refine wpAny_take (i := 4) (v := ptr d) rfl (by kernel_rfl) (by kernel_rfl) (by kernel_rfl) (fun _ _ _ h => h) (Or.inl ⟨by kernel_rfl,fun w => by go_simp⟩) ?_; simp only [Act.put,List.setIfInBounds_toArray]; refine wpAny_ready (rs := [5]) (by kernel_rfl) (by simp) ?_; refine AllReady.cons rfl (fun K hK => ?_) AllReady.nil
  go_simp
  refine hK _ _ ?_; clear hK K; refine wpAny_ready (rs := [6]) (by kernel_rfl) (by simp) ?_; refine AllReady.cons rfl (fun K hK => ?_) AllReady.nil
  go_simp
  go_at_call 71; refine (vw d lb (.mk 7 x m p j) _ 1 _ (B.out.grown (zj gan)).c0 (B.out.grown (zj gan)).lex HF.out ⟨_,_,_,rfl⟩).mono ?_; rintro e w1 ⟨rfl,u⟩; rw [F]; have y := za (zb (zj gan) u); have H := za (B0.out.kept (zb (zj (zl (w.alloc _) none)) u)); obtain ⟨z,I,J,L,M⟩ := H.out; have N := y.out.size; have O := ze z; clear u; refine hK _ _ ?_; clear hK K; refine wpAny_ready (rs := [7]) (by kernel_rfl) (by simp) ?_; refine AllReady.cons rfl (fun K hK => ?_) AllReady.nil
  go_simp
  refine hK _ _ ?_; clear hK K; refine wpAny_ready (rs := [8]) (by kernel_rfl) (by simp) ?_; refine AllReady.cons rfl (fun K hK => ?_) AllReady.nil
  go_simp
  refine hK _ _ ?_; clear hK K; refine nt 9 rfl ?_; simp only [Act.put,List.setIfInBounds_toArray]; refine nt 10 rfl ?_; simp only [Act.put]; refine nt 11 rfl ?_; simp only [Act.put]; refine nt 12 rfl ?_; simp only [Act.put]; refine nt 13 rfl ?_; simp only [Act.put]; refine nt 14 rfl ?_; simp only [Act.put]; refine nt 15 rfl ?_; simp only [Act.put]; refine nt 16 rfl ?_; simp only [Act.put]; refine nt 17 rfl ?_; simp only [Act.put]; refine nt 18 rfl ?_; simp only [Act.put]; refine nt 19 rfl ?_; simp only [Act.put]; refine nt 20 rfl ?_; simp only [Act.put]; refine nt 21 rfl ?_; simp only [Act.put]; refine nt 22 rfl ?_; simp only [Act.put]; refine nt 23 rfl ?_; simp only [Act.put]; refine nt 24 rfl ?_; simp only [Act.put]; refine nt 25 rfl ?_; simp only [Act.put]; refine nt 26 rfl ?_
  simp only [Act.put]; refine nt 27 rfl ?_; simp only [Act.put]; refine nt 28 rfl ?_; simp only [Act.put]; refine nt 29 rfl ?_; simp only [Act.put]; refine nt 30 rfl ?_; simp only [Act.put]; refine wpAny_ready (rs := [31]) (by kernel_rfl) (by simp) ?_; refine AllReady.cons rfl (fun K hK => ?_) AllReady.nil
  go_simp
  refine hK _ _ ?_; clear hK K; refine wpAny_ready (rs := [32]) (by kernel_rfl) (by simp) ?_; refine AllReady.cons rfl (fun K hK => ?_) AllReady.nil
  go_simp
  refine hK _ _ ?_; clear hK K; refine wpAny_done (by kernel_rfl) ?_ _; go_wp2_with fail
  go_ret
  exact .inl ⟨HN.out,rfl,zb B.out.gb y.out⟩
 ·have HM : ∀ (r : Rule) (g : Nat) (w : World),rf r = some g -> RV w d (free d v) r (.func (.func g) #[ptr d] #[]) := fun r g w hr => .meth r g hr
  have R := fun w => HM .act _ w rfl
  have o := fun w => HM .typeName _ w rfl
  have f := fun w => HM .typeNameOrNone _ w rfl
  clear HM; clear h hf ha
  go_enter Tryz.func79,Tryz.ntmps79
  go_wp2_with fail; have B0 : Hid (Box (w.alloc (.cells #[.int .i64 7,.string ⟨x.toArray⟩,.int .i64 m,.int .i64 p,.slice a j.length c] 28)) w.heap.size (.mk 7 x m p j) (.slice a j.length c)) := Box.new w (.mk 7 x m p j) (.slice a j.length c) 28; refine wp_region_held_drew (S := (fun w' => w'.cell? ⟨w.heap.size,0,none⟩ = some (.int .i64 7) /\ w'.cell? ⟨w.heap.size,1,none⟩ = some (.string ⟨x.toArray⟩) /\ w'.cell? ⟨w.heap.size,2,none⟩ = some (.int .i64 m) /\ w'.cell? ⟨w.heap.size,3,none⟩ = some (.int .i64 p) /\ w'.cell? ⟨w.heap.size,4,none⟩ = some (.slice a j.length c))) (by kernel_rfl) ?_ (fun hHeld => ?_)
  ·exact (B0.out.kept (zj (zl (w.alloc _) none))).all5
  refine rd 0 rfl fun K hK => ?_
  go_simp
  refine hK.out _ _ hHeld fun hHeld => ?_
  clear hK K; refine rd 1 rfl fun K hK => ?_
  go_simp
  refine hK.out _ _ hHeld fun hHeld => ?_
  clear hK K; refine rd 2 rfl fun K hK => ?_
  go_simp
  refine hK.out _ _ hHeld fun hHeld => ?_
  clear hK K; refine rd 3 rfl fun K hK => ?_
  go_simp
  refine hK.out _ _ hHeld fun hHeld => ?_
  clear hK K; refine tk 4 (ptr d) rfl (fun _ _ => by go_simp) hHeld ?_; simp only [Act.put,List.setIfInBounds_toArray]; refine tk 5 (.agg #[.int .i64 7,.string ⟨x.toArray⟩,.int .i64 m,.int .i64 p,.slice a j.length c]) rfl (fun _ ⟨_,_,_,_,_⟩ => by go_simp) hHeld ?_; simp only [Act.put]; refine rd 6 rfl fun K hK => ?_
  go_simp
  go_at_call 71; refine (vw d lb (.mk 7 x m p j) _ 1 _ (B.out.grown (zj gan)).c0 (B.out.grown (zj gan)).lex HF.out ⟨_,_,_,rfl⟩).mono ?_; rintro e w1 ⟨rfl,u⟩; rw [F]; have y := za (zb (zj gan) u); have H := za (B0.out.kept (zb (zj (zl (w.alloc _) none)) u)); obtain ⟨z,I,J,L,M⟩ := H.out; have N := y.out.size; have O := ze z; clear u; refine hK.out _ _ H.out.all5 fun hHeld => ?_
  clear hK K; refine rd 7 rfl fun K hK => ?_
  go_simp
  refine hK.out _ _ hHeld fun hHeld => ?_
  clear hK K; refine rd 8 rfl fun K hK => ?_
  go_simp
  refine hK.out _ _ hHeld fun hHeld => ?_
  clear hK K; refine tk 9 (ptr d) rfl (fun _ _ => by go_simp) hHeld ?_; simp only [Act.put,List.setIfInBounds_toArray]; refine tk 10 (.agg #[.int .i64 7,.string ⟨x.toArray⟩,.int .i64 m,.int .i64 p,.slice a j.length c]) rfl (fun _ ⟨_,_,_,_,_⟩ => by go_simp) hHeld ?_; simp only [Act.put]; refine tk 11 (ptr d) rfl (fun _ _ => by go_simp) hHeld ?_; simp only [Act.put]; refine tk 12 (ptr d) rfl (fun _ _ => by go_simp) hHeld ?_; simp only [Act.put]; refine tk 13 (ptr d) rfl (fun _ _ => by go_simp) hHeld ?_; simp only [Act.put]; refine tk 14 (.func (.func 78) #[ptr d] #[]) rfl (fun _ _ => by go_simp) hHeld ?_; simp only [Act.put]; refine tk 17 (ptr d) rfl (fun _ _ => by go_simp) hHeld ?_; simp only [Act.put]; refine tk 18 (.func (.func 134) #[ptr d] #[]) rfl (fun _ _ => by go_simp) hHeld ?_; simp only [Act.put]; refine tk 19 (ptr d) rfl (fun _ _ => by go_simp) hHeld ?_; simp only [Act.put]; refine tk 20 (ptr d) rfl (fun _ _ => by go_simp) hHeld ?_; simp only [Act.put]; refine tk 21 (ptr d) rfl (fun _ _ => by go_simp) hHeld ?_; simp only [Act.put]; refine tk 22 (.func (.func 78) #[ptr d] #[]) rfl (fun _ _ => by go_simp) hHeld ?_; simp only [Act.put]; refine tk 25 (ptr d) rfl (fun _ _ => by go_simp) hHeld ?_; simp only [Act.put]; refine tk 26 (ptr d) rfl (fun _ _ => by go_simp) hHeld ?_; simp only [Act.put]; refine tk 27 (.func (.func 80) #[ptr d] #[]) rfl (fun _ _ => by go_simp) hHeld ?_
  simp only [Act.put]; refine rd 15 rfl fun K hK => ?_
  go_simp
  go_at_call 75
  with_reducible refine (uG d _ v 8 1 .typeName _ (by first | omega | (simp; omega)) (fun b hb => by have := C.out b hb; first | omega | (simp; omega)) (o _)).mono ?_
  rintro e w2 ⟨g2,c5,c6,rfl,r2,U⟩; have s := zb (show World.grownBy w1 _ none from grn) U; have V := za (zb y.out s); have R2 := za r2; have B2 := za (H.out.kept s); obtain ⟨X,_,_,_,_⟩ := B2.out; have b2 := V.out.size; have b3 := ze X; clear U r2 s; refine hK.out _ _ B2.out.all5 fun hHeld => ?_
  clear hK K; refine rd 16 rfl fun K hK => ?_
  go_simp
  go_at_call 73
  with_reducible refine (ug d _ v (.declared 8 1 .typeName) _ (by first | omega | (simp; omega)) (fun b hb => by have := C.out b hb; first | omega | (simp; omega)) (R2.out.grown grn)).mono ?_
  rintro e w3 ⟨g3,c7,c8,rfl,r3,Y⟩; have s := zb (show World.grownBy w2 _ none from grn) Y; have Z := za (zb V.out s); have D := za r3; have B3 := za (B2.out.kept s); obtain ⟨a0,_,_,_,_⟩ := B3.out; have b4 := Z.out.size; have b5 := ze a0; clear Y r3 s; refine hK.out _ _ B3.out.all5 fun hHeld => ?_
  clear hK K; refine rd 23 rfl fun K hK => ?_
  go_simp
  go_at_call 75
  with_reducible refine (uG d _ v 6 0 .typeName _ (by first | omega | (simp; omega)) (fun b hb => by have := C.out b hb; first | omega | (simp; omega)) (o _)).mono ?_
  rintro e w4 ⟨g4,c9,d0,rfl,r4,a1⟩; have s := zb (show World.grownBy w3 _ none from grn) a1; have a2 := za (zb Z.out s); have R4 := za r4; have D := za (D.out.grown s); have B4 := za (B3.out.kept s); obtain ⟨a3,_,_,_,_⟩ := B4.out; have b6 := a2.out.size; have b7 := ze a3; clear a1 r4 s; refine hK.out _ _ B4.out.all5 fun hHeld => ?_
  clear hK K; refine rd 24 rfl fun K hK => ?_
  go_simp
  go_at_call 73
  with_reducible refine (ug d _ v (.declared 6 0 .typeName) _ (by first | omega | (simp; omega)) (fun b hb => by have := C.out b hb; first | omega | (simp; omega)) (R4.out.grown grn)).mono ?_
  rintro e w5 ⟨g5,d1,d2,rfl,r5,a4⟩; have s := zb (show World.grownBy w4 _ none from grn) a4; have a5 := za (zb a2.out s); have R5 := za r5; have D := za (D.out.grown s); have B5 := za (B4.out.kept s); obtain ⟨a6,_,_,_,_⟩ := B5.out; have b8 := a5.out.size; have c1 := ze a6; clear a4 r5 s; refine hK.out _ _ B5.out.all5 fun hHeld => ?_
  clear hK K; refine rd 28 rfl fun K hK => ?_
  go_simp
  go_at_call 73
  with_reducible refine (ug d _ v .act _ (by first | omega | (simp; omega)) (fun b hb => by have := C.out b hb; first | omega | (simp; omega)) (R _)).mono ?_
  rintro e w6 ⟨g6,d3,d4,rfl,r6,a7⟩; have s := zb (show World.grownBy w5 _ none from grn) a7; have A := za (zb a5.out s); have R6 := za r6; have D := za (D.out.grown s); have R5 := za (R5.out.grown s); have B6 := za (B5.out.kept s); obtain ⟨a8,_,_,_,_⟩ := B6.out; have c2 := A.out.size; have c3 := ze a8; clear a7 r6 s; refine hK.out _ _ B6.out.all5 fun hHeld => ?_
  clear hK K; refine rd 29 rfl fun K hK => ?_
  go_simp
  refine hK.out _ _ ((B6.out.kept gan).all5) fun hHeld => ?_
  clear hK K; refine rd 30 rfl fun K hK => ?_
  go_simp
  go_at_call 72; refine (gD w0 d lb ob _ l v (.mk 7 x m p j) _ [(.list (.declared 8 1 .typeName)),.typeNameOrNone,(.list (.declared 6 0 .typeName)),(.list .act)] _ (B.out.grown (zf A.out _)) E (by decide) HA.out (RL.new4 _ _ (D.out.grown gan) (f _) (R5.out.grown gan) (R6.out.grown gan) (by first | omega | (simp; omega)) (fun b hb => by have := C.out b hb; first | omega | (simp; omega)))).mono ?_; rintro e b0 ⟨b9,rfl,h9⟩; have B9 := za (Box.past (B6.out.kept gan) ⟨by omega,fun e => by have := C.out _ e; omega⟩ h9); refine hK.out _ _ B9.out.all5 fun hHeld => ?_
  clear hK K; refine rd 31 rfl fun K hK => ?_
  go_simp
  refine hK.out _ _ hHeld fun hHeld => ?_
  clear hK K; refine rd 32 rfl fun K hK => ?_
  go_simp
  refine hK.out _ _ hHeld fun hHeld => ?_
  clear hK K; refine wpAnyH_done (by kernel_rfl) ?_ _
  all_goals
   have H9 := za h9; clear h9
   rcases H9.out with ⟨rfl,b1,hg⟩ | ⟨rfl,a9,v9,j9,k9⟩
   ·go_wp2_with fail
    go_ret
    exact .inl ⟨HS.out.trans (zm (by rw [yL (t := (.mk 7 x m p j)) (k := 7) rfl,F]; exact (Bool.true_and _).trans (xO (n := 4) b1))),rfl,zb B.out.gb (zb (zf A.out _) hg)⟩
   ·have J9 := za j9
    have K9 : Hid (JK d v w b0 v9) := (JK.grown (zf A.out _)).trans k9; clear j9 k9 H9; go_wp2_with fail
    go_ret
    exact .inr ⟨_,v9,HS.out.trans (zN (by rw [yL (t := (.mk 7 x m p j)) (k := 7) rfl,F]; exact (Bool.true_and _).trans (xl (n := 4) a9))),rfl,J9.out,K9.out⟩
theorem mq (w0 : World) (jb lb ob : Nat) (w : World) (l : List (T × Rule)) (v : Value) (kd : Int) (x : List UInt8) (m p : Int) (ts : List T) (sv : Value) (h : JS w0 jb lb ob w l v) (_hlen : l.length + ts.length <= 20000) (hf : Fits (.mk kd x m p ts)) (ha : AT w0 (T.mk kd x m p ts).subs sv) (h7 : ¬ kd = 7) :
  Calls Tryz.prog 79 #[ptr jb,.agg #[.int .i64 kd,.string ⟨x.toArray⟩,.int .i64 m,.int .i64 p,sv]] w (JR w0 jb lb ob l v w .procedure (.mk kd x m p ts)) := by
 have e := za h; have j := za hf; have o := za ha; have f := h.lt
 have r : Hid (∀ b,v.ownBlock = some b -> b < w.heap.size) := fun b hb => (h.room hb).2
 obtain ⟨_,n,_,rfl,_,_,d⟩ := ha.any
 change ts.length = n at d
 subst d
 have g : Hid (zw .procedure (.mk kd x m p ts) = none) := by show _ = _; rw [show zw .procedure (.mk kd x m p ts) = zq _ _ from rfl]; exact zm (by simp [zD,T.kind,h7])
 have i : (kd == 7) = false := by simpa using h7
 clear h hf ha
 go_enter Tryz.func79,Tryz.ntmps79
 go_wp2_with fail
 go_quiet (fail)
 go_wp2_with fail
 go_ret
 exact .inl ⟨g.out,rfl,zb e.out.gb (zy gan _)⟩
theorem sS : RuleSays 79 .procedure := by
 intro e f g i w l v t j h b n o; obtain ⟨r,x,m,p,d⟩ := t
 change l.length + d.length <= 20000 at b
 by_cases s : r = 7
 ·subst s; exact ll e f g i w l v x m p d j h b n o
 exact mq e f g i w l v r x m p d j h b n o s
theorem RL.new6 {jb : Nat} {v : Value} {r0 r1 r2 r3 r4 r5 : Rule} {x0 x1 x2 x3 x4 x5 : Value} (w : World) (ty : TypeId) (h0 : RV (w.alloc (.cells #[x0,x1,x2,x3,x4,x5] ty)) jb (free jb v) r0 x0) (h1 : RV (w.alloc (.cells #[x0,x1,x2,x3,x4,x5] ty)) jb (free jb v) r1 x1) (h2 : RV (w.alloc (.cells #[x0,x1,x2,x3,x4,x5] ty)) jb (free jb v) r2 x2) (h3 : RV (w.alloc (.cells #[x0,x1,x2,x3,x4,x5] ty)) jb (free jb v) r3 x3) (h4 : RV (w.alloc (.cells #[x0,x1,x2,x3,x4,x5] ty)) jb (free jb v) r4 x4) (h5 : RV (w.alloc (.cells #[x0,x1,x2,x3,x4,x5] ty)) jb (free jb v) r5 x5) (hj : jb < w.heap.size) (hv : ∀ b,v.ownBlock = some b -> b < w.heap.size) :
  RL (w.alloc (.cells #[x0,x1,x2,x3,x4,x5] ty)) jb v [r0,r1,r2,r3,r4,r5] (.slice (some ⟨w.heap.size,0,none⟩) 6 6) :=
 .inr ⟨w.heap.size,rfl,by simp,⟨by omega,fun e => by have := hv _ e; omega⟩,fun i z hi => by
  match i,hi with
  | 0,hi => cases hi; exact ⟨x0,by rw [World.cell?_alloc_at _ _ _ _ rfl]; rfl,h0⟩
  | 1,hi => cases hi; exact ⟨x1,by rw [World.cell?_alloc_at _ _ _ _ rfl]; rfl,h1⟩
  | 2,hi => cases hi; exact ⟨x2,by rw [World.cell?_alloc_at _ _ _ _ rfl]; rfl,h2⟩
  | 3,hi => cases hi; exact ⟨x3,by rw [World.cell?_alloc_at _ _ _ _ rfl]; rfl,h3⟩
  | 4,hi => cases hi; exact ⟨x4,by rw [World.cell?_alloc_at _ _ _ _ rfl]; rfl,h4⟩
  | 5,hi => cases hi; exact ⟨x5,by rw [World.cell?_alloc_at _ _ _ _ rfl]; rfl,h5⟩⟩
theorem zar : JC 33 .module 2 := by
 intro w0 f lb ob w l v x m p j sv h R hf ha
 have M := za h; have HF := za hf; have HA := za ha; have h4 := h.lt
 have E : Hid (∀ b,v.ownBlock = some b -> b < w.heap.size) := fun b hb => (h.room hb).2
 obtain ⟨a,n,c,rfl,_,_,hl⟩ := ha.any
 change j.length = n at hl
 subst hl
 have HS : Hid (zw .module (.mk 2 x m p j) = zq (zD (.mk 2 x m p j) 2 true 0 6) (yn j [(.list .imported),(.list (.declared 4 1 .expression)),(.list (.declared 5 1 .typeItself)),(.list (.declared 6 1 .typeName)),(.list .procedure),(.list .act)])) := rfl
 cases U : (zF (T.mk 2 x m p j).name && zU (.mk 2 x m p j) 0)
 ·have HN : Hid (zw .module (.mk 2 x m p j) = none) := HS.out.trans (zm (by rw [yL (t := (.mk 2 x m p j)) (k := 2) rfl,U]; rfl))
  clear h hf ha
  go_enter Tryz.func33,Tryz.ntmps33
  go_wp2_with fail; have B0 : Hid (Box (w.alloc (.cells #[.int .i64 2,.string ⟨x.toArray⟩,.int .i64 m,.int .i64 p,.slice a j.length c] 28)) w.heap.size (.mk 2 x m p j) (.slice a j.length c)) := Box.new w (.mk 2 x m p j) (.slice a j.length c) 28; refine wp_region_any (by kernel_rfl) ?_
  change wpAny _ _ _ _ _ _ _ (World.drew _)
  refine wpAny_ready (rs := [0]) (by kernel_rfl) (by simp) ?_; refine AllReady.cons rfl (fun K hK => ?_) AllReady.nil
  go_simp
  refine hK _ _ ?_; clear hK K; refine wpAny_ready (rs := [1]) (by kernel_rfl) (by simp) ?_; refine AllReady.cons rfl (fun K hK => ?_) AllReady.nil
  go_simp
  refine hK _ _ ?_; clear hK K; refine wpAny_ready (rs := [2]) (by kernel_rfl) (by simp) ?_; refine AllReady.cons rfl (fun K hK => ?_) AllReady.nil
  go_simp
  refine hK _ _ ?_; clear hK K; refine wpAny_ready (rs := [3]) (by kernel_rfl) (by simp) ?_; refine AllReady.cons rfl (fun K hK => ?_) AllReady.nil
  go_simp
  refine hK _ _ ?_; clear hK K; refine wpAny_take (i := 4) (v := ptr f) rfl (by kernel_rfl) (by kernel_rfl) (by kernel_rfl) (fun _ _ _ h => h) (Or.inl ⟨by kernel_rfl,fun w => by go_simp⟩) ?_; simp only [Act.put,List.setIfInBounds_toArray]; refine wpAny_ready (rs := [5]) (by kernel_rfl) (by simp) ?_; refine AllReady.cons rfl (fun K hK => ?_) AllReady.nil
  go_simp
  refine hK _ _ ?_; clear hK K; refine wpAny_ready (rs := [6]) (by kernel_rfl) (by simp) ?_; refine AllReady.cons rfl (fun K hK => ?_) AllReady.nil
  go_simp
  go_at_call 71; refine (vw f lb (.mk 2 x m p j) _ 0 _ (M.out.grown (zj gan)).c0 (M.out.grown (zj gan)).lex HF.out ⟨_,_,_,rfl⟩).mono ?_; rintro e w1 ⟨rfl,z⟩; rw [U]; have F := za (zb (zj gan) z); have V := za (B0.out.kept (zb (zj (zl (w.alloc _) none)) z)); obtain ⟨H,X,Y,Z,a0⟩ := V.out; have a1 := F.out.size; have a2 := ze H; clear z; refine hK _ _ ?_; clear hK K; refine wpAny_ready (rs := [7]) (by kernel_rfl) (by simp) ?_; refine AllReady.cons rfl (fun K hK => ?_) AllReady.nil
  go_simp
  refine hK _ _ ?_; clear hK K; refine wpAny_ready (rs := [8]) (by kernel_rfl) (by simp) ?_; refine AllReady.cons rfl (fun K hK => ?_) AllReady.nil
  go_simp
  refine hK _ _ ?_; clear hK K; refine nt 9 rfl ?_; simp only [Act.put,List.setIfInBounds_toArray]; refine nt 10 rfl ?_; simp only [Act.put]; refine nt 11 rfl ?_; simp only [Act.put]; refine nt 12 rfl ?_; simp only [Act.put]; refine nt 13 rfl ?_; simp only [Act.put]; refine nt 14 rfl ?_; simp only [Act.put]; refine nt 15 rfl ?_; simp only [Act.put]; refine nt 16 rfl ?_; simp only [Act.put]; refine nt 17 rfl ?_; simp only [Act.put]; refine nt 18 rfl ?_; simp only [Act.put]; refine nt 19 rfl ?_; simp only [Act.put]; refine nt 20 rfl ?_; simp only [Act.put]; refine nt 21 rfl ?_; simp only [Act.put]; refine nt 22 rfl ?_; simp only [Act.put]; refine nt 23 rfl ?_; simp only [Act.put]; refine nt 24 rfl ?_; simp only [Act.put]; refine nt 25 rfl ?_; simp only [Act.put]; refine nt 26 rfl ?_
  simp only [Act.put]; refine nt 27 rfl ?_; simp only [Act.put]; refine nt 28 rfl ?_; simp only [Act.put]; refine nt 29 rfl ?_; simp only [Act.put]; refine nt 30 rfl ?_; simp only [Act.put]; refine nt 31 rfl ?_; simp only [Act.put]; refine nt 32 rfl ?_; simp only [Act.put]; refine nt 33 rfl ?_; simp only [Act.put]; refine nt 34 rfl ?_; simp only [Act.put]; refine nt 35 rfl ?_; simp only [Act.put]; refine nt 36 rfl ?_; simp only [Act.put]; refine nt 37 rfl ?_; simp only [Act.put]; refine nt 38 rfl ?_; simp only [Act.put]; refine nt 39 rfl ?_; simp only [Act.put]; refine nt 40 rfl ?_; simp only [Act.put]; refine nt 41 rfl ?_; simp only [Act.put]; refine nt 42 rfl ?_; simp only [Act.put]; refine wpAny_ready (rs := [43]) (by kernel_rfl) (by simp) ?_; refine AllReady.cons rfl (fun K hK => ?_) AllReady.nil
  go_simp
  refine hK _ _ ?_; clear hK K; refine wpAny_ready (rs := [44]) (by kernel_rfl) (by simp) ?_; refine AllReady.cons rfl (fun K hK => ?_) AllReady.nil
  go_simp
  refine hK _ _ ?_; clear hK K; refine wpAny_done (by kernel_rfl) ?_ _; go_wp2_with fail
  go_ret
  exact .inl ⟨HN.out,rfl,zb M.out.gb F.out⟩
 ·have N : ∀ (r : Rule) (g : Nat) (w : World),rf r = some g -> RV w f (free f v) r (.func (.func g) #[ptr f] #[]) := fun r g w hr => .meth r g hr
  have a3 := fun w => N .act _ w rfl
  have o := fun w => N .expression _ w rfl
  have A := fun w => N .imported _ w rfl
  have u := fun w => N .procedure _ w rfl
  have s := fun w => N .typeItself _ w rfl
  have B := fun w => N .typeName _ w rfl
  clear N; clear h hf ha
  go_enter Tryz.func33,Tryz.ntmps33
  go_wp2_with fail; have B0 : Hid (Box (w.alloc (.cells #[.int .i64 2,.string ⟨x.toArray⟩,.int .i64 m,.int .i64 p,.slice a j.length c] 28)) w.heap.size (.mk 2 x m p j) (.slice a j.length c)) := Box.new w (.mk 2 x m p j) (.slice a j.length c) 28; refine wp_region_held_drew (S := (fun w' => w'.cell? ⟨w.heap.size,0,none⟩ = some (.int .i64 2) /\ w'.cell? ⟨w.heap.size,1,none⟩ = some (.string ⟨x.toArray⟩) /\ w'.cell? ⟨w.heap.size,2,none⟩ = some (.int .i64 m) /\ w'.cell? ⟨w.heap.size,3,none⟩ = some (.int .i64 p) /\ w'.cell? ⟨w.heap.size,4,none⟩ = some (.slice a j.length c))) (by kernel_rfl) ?_ (fun hHeld => ?_)
  ·exact (B0.out.kept (zj (zl (w.alloc _) none))).all5
  refine rd 0 rfl fun K hK => ?_
  go_simp
  refine hK.out _ _ hHeld fun hHeld => ?_
  clear hK K; refine rd 1 rfl fun K hK => ?_
  go_simp
  refine hK.out _ _ hHeld fun hHeld => ?_
  clear hK K; refine rd 2 rfl fun K hK => ?_
  go_simp
  refine hK.out _ _ hHeld fun hHeld => ?_
  clear hK K; refine rd 3 rfl fun K hK => ?_
  go_simp
  refine hK.out _ _ hHeld fun hHeld => ?_
  clear hK K; refine tk 4 (ptr f) rfl (fun _ _ => by go_simp) hHeld ?_; simp only [Act.put,List.setIfInBounds_toArray]; refine tk 5 (.agg #[.int .i64 2,.string ⟨x.toArray⟩,.int .i64 m,.int .i64 p,.slice a j.length c]) rfl (fun _ ⟨_,_,_,_,_⟩ => by go_simp) hHeld ?_; simp only [Act.put]; refine rd 6 rfl fun K hK => ?_
  go_simp
  go_at_call 71; refine (vw f lb (.mk 2 x m p j) _ 0 _ (M.out.grown (zj gan)).c0 (M.out.grown (zj gan)).lex HF.out ⟨_,_,_,rfl⟩).mono ?_; rintro e w1 ⟨rfl,z⟩; rw [U]; have F := za (zb (zj gan) z); have V := za (B0.out.kept (zb (zj (zl (w.alloc _) none)) z)); obtain ⟨H,X,Y,Z,a0⟩ := V.out; have a1 := F.out.size; have a2 := ze H; clear z; refine hK.out _ _ V.out.all5 fun hHeld => ?_
  clear hK K; refine rd 7 rfl fun K hK => ?_
  go_simp
  refine hK.out _ _ hHeld fun hHeld => ?_
  clear hK K; refine rd 8 rfl fun K hK => ?_
  go_simp
  refine hK.out _ _ hHeld fun hHeld => ?_
  clear hK K; refine tk 9 (ptr f) rfl (fun _ _ => by go_simp) hHeld ?_; simp only [Act.put,List.setIfInBounds_toArray]; refine tk 10 (.agg #[.int .i64 2,.string ⟨x.toArray⟩,.int .i64 m,.int .i64 p,.slice a j.length c]) rfl (fun _ ⟨_,_,_,_,_⟩ => by go_simp) hHeld ?_; simp only [Act.put]; refine tk 11 (ptr f) rfl (fun _ _ => by go_simp) hHeld ?_; simp only [Act.put]; refine tk 12 (ptr f) rfl (fun _ _ => by go_simp) hHeld ?_; simp only [Act.put]; refine tk 13 (.func (.func 74) #[ptr f] #[]) rfl (fun _ _ => by go_simp) hHeld ?_; simp only [Act.put]; refine tk 15 (ptr f) rfl (fun _ _ => by go_simp) hHeld ?_; simp only [Act.put]; refine tk 16 (ptr f) rfl (fun _ _ => by go_simp) hHeld ?_; simp only [Act.put]; refine tk 17 (ptr f) rfl (fun _ _ => by go_simp) hHeld ?_; simp only [Act.put]; refine tk 18 (.func (.func 76) #[ptr f] #[]) rfl (fun _ _ => by go_simp) hHeld ?_; simp only [Act.put]; refine tk 21 (ptr f) rfl (fun _ _ => by go_simp) hHeld ?_; simp only [Act.put]; refine tk 22 (ptr f) rfl (fun _ _ => by go_simp) hHeld ?_; simp only [Act.put]; refine tk 23 (ptr f) rfl (fun _ _ => by go_simp) hHeld ?_; simp only [Act.put]; refine tk 24 (.func (.func 77) #[ptr f] #[]) rfl (fun _ _ => by go_simp) hHeld ?_; simp only [Act.put]; refine tk 27 (ptr f) rfl (fun _ _ => by go_simp) hHeld ?_; simp only [Act.put]; refine tk 28 (ptr f) rfl (fun _ _ => by go_simp) hHeld ?_
  simp only [Act.put]; refine tk 29 (ptr f) rfl (fun _ _ => by go_simp) hHeld ?_; simp only [Act.put]; refine tk 30 (.func (.func 78) #[ptr f] #[]) rfl (fun _ _ => by go_simp) hHeld ?_; simp only [Act.put]; refine tk 33 (ptr f) rfl (fun _ _ => by go_simp) hHeld ?_; simp only [Act.put]; refine tk 34 (ptr f) rfl (fun _ _ => by go_simp) hHeld ?_; simp only [Act.put]; refine tk 35 (.func (.func 79) #[ptr f] #[]) rfl (fun _ _ => by go_simp) hHeld ?_; simp only [Act.put]; refine tk 37 (ptr f) rfl (fun _ _ => by go_simp) hHeld ?_; simp only [Act.put]; refine tk 38 (ptr f) rfl (fun _ _ => by go_simp) hHeld ?_; simp only [Act.put]; refine tk 39 (.func (.func 80) #[ptr f] #[]) rfl (fun _ _ => by go_simp) hHeld ?_; simp only [Act.put]; refine rd 14 rfl fun K hK => ?_
  go_simp
  go_at_call 73
  with_reducible refine (ug f _ v .imported _ (by first | omega | (simp; omega)) (fun b hb => by have := E.out b hb; first | omega | (simp; omega)) (A _)).mono ?_
  rintro e w2 ⟨g2,h5,h6,rfl,r2,a4⟩; have d := zb (show World.grownBy w1 _ none from grn) a4; have a5 := za (zb F.out d); have y := za r2; have B2 := za (V.out.kept d); obtain ⟨a6,_,_,_,_⟩ := B2.out; have d7 := a5.out.size; have d8 := ze a6; clear a4 r2 d; refine hK.out _ _ B2.out.all5 fun hHeld => ?_
  clear hK K; refine rd 19 rfl fun K hK => ?_
  go_simp
  go_at_call 75
  with_reducible refine (uG f _ v 4 1 .expression _ (by first | omega | (simp; omega)) (fun b hb => by have := E.out b hb; first | omega | (simp; omega)) (o _)).mono ?_
  rintro e w3 ⟨g3,h7,h8,rfl,r3,a7⟩; have d := zb (show World.grownBy w2 _ none from grn) a7; have a8 := za (zb a5.out d); have R3 := za r3; have y := za (y.out.grown d); have B3 := za (B2.out.kept d); obtain ⟨a9,_,_,_,_⟩ := B3.out; have d9 := a8.out.size; have f0 := ze a9; clear a7 r3 d; refine hK.out _ _ B3.out.all5 fun hHeld => ?_
  clear hK K; refine rd 20 rfl fun K hK => ?_
  go_simp
  go_at_call 73
  with_reducible refine (ug f _ v (.declared 4 1 .expression) _ (by first | omega | (simp; omega)) (fun b hb => by have := E.out b hb; first | omega | (simp; omega)) (R3.out.grown grn)).mono ?_
  rintro e w4 ⟨g4,j0,j1,rfl,r4,b0⟩; have d := zb (show World.grownBy w3 _ none from grn) b0; have b1 := za (zb a8.out d); have D := za r4; have y := za (y.out.grown d); have B4 := za (B3.out.kept d); obtain ⟨b2,_,_,_,_⟩ := B4.out; have f1 := b1.out.size; have f2 := ze b2; clear b0 r4 d; refine hK.out _ _ B4.out.all5 fun hHeld => ?_
  clear hK K; refine rd 25 rfl fun K hK => ?_
  go_simp
  go_at_call 75
  with_reducible refine (uG f _ v 5 1 .typeItself _ (by first | omega | (simp; omega)) (fun b hb => by have := E.out b hb; first | omega | (simp; omega)) (s _)).mono ?_
  rintro e w5 ⟨g5,j2,j3,rfl,r5,b3⟩; have d := zb (show World.grownBy w4 _ none from grn) b3; have b4 := za (zb b1.out d); have R5 := za r5; have y := za (y.out.grown d); have D := za (D.out.grown d); have B5 := za (B4.out.kept d); obtain ⟨b5,_,_,_,_⟩ := B5.out; have f3 := b4.out.size; have f4 := ze b5; clear b3 r5 d; refine hK.out _ _ B5.out.all5 fun hHeld => ?_
  clear hK K; refine rd 26 rfl fun K hK => ?_
  go_simp
  go_at_call 73
  with_reducible refine (ug f _ v (.declared 5 1 .typeItself) _ (by first | omega | (simp; omega)) (fun b hb => by have := E.out b hb; first | omega | (simp; omega)) (R5.out.grown grn)).mono ?_
  rintro e w6 ⟨g6,j4,j5,rfl,r6,b6⟩; have d := zb (show World.grownBy w5 _ none from grn) b6; have b7 := za (zb b4.out d); have I := za r6; have y := za (y.out.grown d); have D := za (D.out.grown d); have B6 := za (B5.out.kept d); obtain ⟨b8,_,_,_,_⟩ := B6.out; have f5 := b7.out.size; have f6 := ze b8; clear b6 r6 d; refine hK.out _ _ B6.out.all5 fun hHeld => ?_
  clear hK K; refine rd 31 rfl fun K hK => ?_
  go_simp
  go_at_call 75
  with_reducible refine (uG f _ v 6 1 .typeName _ (by first | omega | (simp; omega)) (fun b hb => by have := E.out b hb; first | omega | (simp; omega)) (B _)).mono ?_
  rintro e w7 ⟨g7,j6,j7,rfl,r7,c1⟩; have d := zb (show World.grownBy w6 _ none from grn) c1; have c2 := za (zb b7.out d); have R7 := za r7; have y := za (y.out.grown d); have D := za (D.out.grown d); have I := za (I.out.grown d); have B7 := za (B6.out.kept d); obtain ⟨c3,_,_,_,_⟩ := B7.out; have f7 := c2.out.size; have f8 := ze c3; clear c1 r7 d; refine hK.out _ _ B7.out.all5 fun hHeld => ?_
  clear hK K; refine rd 32 rfl fun K hK => ?_
  go_simp
  go_at_call 73
  with_reducible refine (ug f _ v (.declared 6 1 .typeName) _ (by first | omega | (simp; omega)) (fun b hb => by have := E.out b hb; first | omega | (simp; omega)) (R7.out.grown grn)).mono ?_
  rintro e w8 ⟨g8,j8,k0,rfl,r8,c4⟩; have d := zb (show World.grownBy w7 _ none from grn) c4; have c5 := za (zb c2.out d); have R8 := za r8; have y := za (y.out.grown d); have D := za (D.out.grown d); have I := za (I.out.grown d); have B8 := za (B7.out.kept d); obtain ⟨c6,_,_,_,_⟩ := B8.out; have f9 := c5.out.size; have g0 := ze c6; clear c4 r8 d; refine hK.out _ _ B8.out.all5 fun hHeld => ?_
  clear hK K; refine rd 36 rfl fun K hK => ?_
  go_simp
  go_at_call 73
  with_reducible refine (ug f _ v .procedure _ (by first | omega | (simp; omega)) (fun b hb => by have := E.out b hb; first | omega | (simp; omega)) (u _)).mono ?_
  rintro e w9 ⟨g9,k1,k2,rfl,r9,c7⟩; have d := zb (show World.grownBy w8 _ none from grn) c7; have c8 := za (zb c5.out d); have R9 := za r9; have y := za (y.out.grown d); have D := za (D.out.grown d); have I := za (I.out.grown d); have R8 := za (R8.out.grown d); have B9 := za (B8.out.kept d); obtain ⟨c9,_,_,_,_⟩ := B9.out; have g1 := c8.out.size; have h1 := ze c9; clear c7 r9 d; refine hK.out _ _ B9.out.all5 fun hHeld => ?_
  clear hK K; refine rd 40 rfl fun K hK => ?_
  go_simp
  go_at_call 73
  with_reducible refine (ug f _ v .act _ (by first | omega | (simp; omega)) (fun b hb => by have := E.out b hb; first | omega | (simp; omega)) (a3 _)).mono ?_
  rintro e k3 ⟨k4,h2,h3,rfl,d0,L⟩; have d := zb (show World.grownBy w9 _ none from grn) L; have C := za (zb c8.out d); have d2 := za d0; have y := za (y.out.grown d); have D := za (D.out.grown d); have I := za (I.out.grown d); have R8 := za (R8.out.grown d); have R9 := za (R9.out.grown d); have J := za (B9.out.kept d); obtain ⟨O,_,_,_,_⟩ := J.out; have d3 := C.out.size; have d4 := ze O; clear L d0 d; refine hK.out _ _ J.out.all5 fun hHeld => ?_
  clear hK K; refine rd 41 rfl fun K hK => ?_
  go_simp
  refine hK.out _ _ ((J.out.kept gan).all5) fun hHeld => ?_
  clear hK K; refine rd 42 rfl fun K hK => ?_
  go_simp
  go_at_call 72; refine (gD w0 f lb ob _ l v (.mk 2 x m p j) _ [(.list .imported),(.list (.declared 4 1 .expression)),(.list (.declared 5 1 .typeItself)),(.list (.declared 6 1 .typeName)),(.list .procedure),(.list .act)] _ (M.out.grown (zf C.out _)) R (by decide) HA.out (RL.new6 _ _ (y.out.grown gan) (D.out.grown gan) (I.out.grown gan) (R8.out.grown gan) (R9.out.grown gan) (d2.out.grown gan) (by first | omega | (simp; omega)) (fun b hb => by have := E.out b hb; first | omega | (simp; omega)))).mono ?_; rintro e d5 ⟨b9,rfl,h9⟩; have B9 := za (Box.past (J.out.kept gan) ⟨by omega,fun e => by have := E.out _ e; omega⟩ h9); refine hK.out _ _ B9.out.all5 fun hHeld => ?_
  clear hK K; refine rd 43 rfl fun K hK => ?_
  go_simp
  refine hK.out _ _ hHeld fun hHeld => ?_
  clear hK K; refine rd 44 rfl fun K hK => ?_
  go_simp
  refine hK.out _ _ hHeld fun hHeld => ?_
  clear hK K; refine wpAnyH_done (by kernel_rfl) ?_ _
  all_goals
   have H9 := za h9; clear h9
   rcases H9.out with ⟨rfl,d6,hg⟩ | ⟨rfl,d1,v9,j9,k9⟩
   ·go_wp2_with fail
    go_ret
    exact .inl ⟨HS.out.trans (zm (by rw [yL (t := (.mk 2 x m p j)) (k := 2) rfl,U]; exact (Bool.true_and _).trans (xO (n := 6) d6))),rfl,zb M.out.gb (zb (zf C.out _) hg)⟩
   ·have J9 := za j9
    have K9 : Hid (JK f v w d5 v9) := (JK.grown (zf C.out _)).trans k9; clear j9 k9 H9; go_wp2_with fail
    go_ret
    exact .inr ⟨_,v9,HS.out.trans (zN (by rw [yL (t := (.mk 2 x m p j)) (k := 2) rfl,U]; exact (Bool.true_and _).trans (xl (n := 6) d1))),rfl,J9.out,K9.out⟩
theorem zba (w0 : World) (jb lb ob : Nat) (w : World) (l : List (T × Rule)) (v : Value) (kd : Int) (x : List UInt8) (m p : Int) (ts : List T) (sv : Value) (h : JS w0 jb lb ob w l v) (_hlen : l.length + ts.length <= 20000) (hf : Fits (.mk kd x m p ts)) (ha : AT w0 (T.mk kd x m p ts).subs sv) (h2 : ¬ kd = 2) :
  Calls Tryz.prog 33 #[ptr jb,.agg #[.int .i64 kd,.string ⟨x.toArray⟩,.int .i64 m,.int .i64 p,sv]] w (JR w0 jb lb ob l v w .module (.mk kd x m p ts)) := by
 have e := za h; have j := za hf; have o := za ha; have f := h.lt
 have r : Hid (∀ b,v.ownBlock = some b -> b < w.heap.size) := fun b hb => (h.room hb).2
 obtain ⟨_,n,_,rfl,_,_,d⟩ := ha.any
 change ts.length = n at d
 subst d
 have g : Hid (zw .module (.mk kd x m p ts) = none) := by show _ = _; rw [show zw .module (.mk kd x m p ts) = zq _ _ from rfl]; exact zm (by simp [zD,T.kind,h2])
 have i : (kd == 2) = false := by simpa using h2
 clear h hf ha
 go_enter Tryz.func33,Tryz.ntmps33
 go_wp2_with fail
 go_quiet (fail)
 go_wp2_with fail
 go_ret
 exact .inl ⟨g.out,rfl,zb e.out.gb (zy gan _)⟩
theorem me : RuleSays 33 .module := by
 intro e f g i w l v t j h b n o; obtain ⟨r,x,m,p,d⟩ := t
 change l.length + d.length <= 20000 at b
 by_cases s : r = 2
 ·subst s; exact zar e f g i w l v x m p d j h b n o
 exact zba e f g i w l v r x m p d j h b n o s
set_option maxHeartbeats 2000000
theorem zgp : JC 80 .act 14 := by
 intro N o O R w l v x m p d sv h i C r
 have s := za h; have HF := za C; have U := za r; have V := h.lt
 have X : Hid (∀ b,v.ownBlock = some b -> b < w.heap.size) := fun b hb => (h.room hb).2
 obtain ⟨a,n,c,rfl,_,_,D⟩ := r.any
 change d.length = n at D
 subst D
 have u : Hid (zw .act (.mk 14 x m p d) = zq (zD (.mk 14 x m p d) 14 false 0 2) (yn d [.designator,.expression])) := rfl
 clear h C r
 go_enter Tryz.func80,Tryz.ntmps80
 go_wp2_with fail; go_at_call 129; refine (zL (.mk 14 x m p d) _ 0 _ ⟨_,_,_,rfl⟩).mono ?_; rintro e Y ⟨rfl,g⟩; have f := za (zb gan g); have Z := za ((Box.new w (.mk 14 x m p d) (.slice a d.length c) 28).kept g); obtain ⟨E,F,H,I,J⟩ := Z.out.p
 cases y : ((T.mk 14 x m p d).name.isEmpty && zU (.mk 14 x m p d) 0)
 ·clear g; go_wp2_with fail
  go_ret
  exact .inl ⟨u.out.trans (zm (by rw [zi (t := (.mk 14 x m p d)) (k := 14) rfl,y]; rfl)),rfl,zb s.out.gb f.out⟩
 ·clear g; have a0 := f.out.size
  have z : o < Y.heap.size := by omega
  go_wp2_with fail; go_at_call 72; refine (yE N o O R _ l v (.mk 14 x m p d) _ [.designator,.expression] _ (s.out.grown (zf f.out _)) i (by decide) U.out (RL.new2 _ _ (.meth .designator _ rfl) (.meth .expression _ rfl) (by simpa using z) (fun b hb => by have := X.out b hb; omega))).mono ?_; rintro e w2 (⟨A,rfl,B⟩ | ⟨j,K,rfl,L,M⟩)
  ·go_wp2_with fail
   go_ret
   exact .inl ⟨u.out.trans (zm (by rw [zi (t := (.mk 14 x m p d)) (k := 14) rfl,y]; exact (Bool.true_and _).trans (xO (n := 2) A))),rfl,zb s.out.gb (zb (zf f.out _) B)⟩
  have J2 := za L; have K2 : Hid (JK o v w w2 K) := (JK.grown (zf f.out _)).trans M; clear L M; go_wp2_with fail
  go_ret
  exact .inr ⟨_,K,u.out.trans (zN (by rw [zi (t := (.mk 14 x m p d)) (k := 14) rfl,y]; exact (Bool.true_and _).trans (xl (n := 2) j))),rfl,J2.out,K2.out⟩
theorem zg6 : JC 80 .act 15 := by
 intro M r N O w l v x m p d sv h i A s
 have u := za h; have HF := za A; have R := za s; have U := h.lt
 have HV : Hid (∀ b,v.ownBlock = some b -> b < w.heap.size) := fun b hb => (h.room hb).2
 obtain ⟨a,n,c,rfl,_,_,B⟩ := s.any
 change d.length = n at B
 subst B
 have y : Hid (zw .act (.mk 15 x m p d) = zq (zD (.mk 15 x m p d) 15 false 0 (-1) && decide (0 < d.length)) (uC (.mk 15 x m p d) .designator .expression)) := rfl
 clear h A s
 go_enter Tryz.func80,Tryz.ntmps80
 go_wp2_with fail; go_at_call 129; refine (zL (.mk 15 x m p d) _ 0 _ ⟨_,_,_,rfl⟩).mono ?_; rintro e V ⟨rfl,g⟩; have f := za (zb gan g); have X := za ((Box.new w (.mk 15 x m p d) (.slice a d.length c) 28).kept g); obtain ⟨C,D,E,F,H⟩ := X.out.p
 cases I : ((T.mk 15 x m p d).name.isEmpty && zU (.mk 15 x m p d) 0)
 ·clear g; go_wp2_with fail
  go_ret
  exact .inl ⟨y.out.trans (zm (by rw [zi (t := (.mk 15 x m p d)) (k := 15) rfl,I]; rfl)),rfl,zb u.out.gb f.out⟩
 ·clear g; have Y := f.out.size
  have Z : r < V.heap.size := by omega
  go_wp2_with fail; go_at_call 132; refine (da M r N O _ l v (.mk 15 x m p d) _ .designator .expression _ _ (u.out.grown f.out) i R.out (.meth .designator _ rfl) (.meth .expression _ rfl)).mono ?_; rintro e w2 (⟨j,rfl,z⟩ | ⟨o,J,rfl,K,L⟩)
  ·go_wp2_with fail
   go_ret
   exact .inl ⟨y.out.trans (zm (by change d = [] at j; subst j; simp)),rfl,zb u.out.gb (zb f.out z)⟩
  have J2 := za K; have K2 : Hid (JK r v w w2 J) := (JK.grown f.out).trans L; clear K L; go_wp2_with fail
  go_ret
  exact .inr ⟨_,J,y.out.trans (zN (by rw [zi (t := (.mk 15 x m p d)) (k := 15) rfl,I]; simpa [T.subs] using o)),rfl,J2.out,K2.out⟩
theorem zf3 : JC 80 .act 19 := by
 intro N F O R w l v x m p d sv h u B y
 have C := za h; have HF := za B; have U := za y; have V := h.lt
 have HV : Hid (∀ b,v.ownBlock = some b -> b < w.heap.size) := fun b hb => (h.room hb).2
 obtain ⟨a,n,c,rfl,_,_,H⟩ := y.any
 change d.length = n at H
 subst H
 have D : Hid (zw .act (.mk 19 x m p d) = zq (zD (.mk 19 x m p d) 19 false 0 (-1) && decide (d.length <= 1)) (vf d .expression)) := rfl
 cases z : ((T.mk 19 x m p d).name.isEmpty && zU (.mk 19 x m p d) 0)
 ·have E : Hid (zw .act (.mk 19 x m p d) = none) := D.out.trans (zm (by rw [zi (t := (.mk 19 x m p d)) (k := 19) rfl,z]; rfl))
  clear h B y
  go_enter Tryz.func80,Tryz.ntmps80
  go_wp2_with fail; go_at_call 129; refine (zL (.mk 19 x m p d) _ 0 _ ⟨_,_,_,rfl⟩).mono ?_; rintro e I ⟨rfl,f⟩; rw [z]; have g := za (zb gan f); have A := za ((Box.new w (.mk 19 x m p d) (.slice a d.length c) 28).kept f); obtain ⟨i,j,o,r,s⟩ := A.out.p
  clear f; go_wp2_with fail
  go_ret
  exact .inl ⟨E.out,rfl,zb C.out.gb g.out⟩
 ·skip
  by_cases J : d.length <= 1
  ·have X : Hid (zw .act (.mk 19 x m p d) = some (vf d .expression)) := D.out.trans (zN (by rw [zi (t := (.mk 19 x m p d)) (k := 19) rfl,z]; simp [J]))
   clear h B y
   go_enter Tryz.func80,Tryz.ntmps80
   go_wp2_with fail; go_at_call 129; refine (zL (.mk 19 x m p d) _ 0 _ ⟨_,_,_,rfl⟩).mono ?_; rintro e I ⟨rfl,f⟩; rw [z]; have g := za (zb gan f); have A := za ((Box.new w (.mk 19 x m p d) (.slice a d.length c) 28).kept f); obtain ⟨i,j,o,r,s⟩ := A.out.p
   clear f; go_wp2_with fail; go_at_call 130; refine (qX N F O R _ l v d _ .expression _ (C.out.grown g.out) u U.out (.meth .expression _ rfl)).mono ?_; rintro e Y ⟨K,rfl,L,M⟩; have Z := za L; have K2 : Hid (JK F v w Y K) := (JK.grown g.out).trans M; clear L M; go_wp2_with fail
   go_ret
   exact .inr ⟨_,K,X.out,rfl,Z.out,K2.out⟩
  ·have E : Hid (zw .act (.mk 19 x m p d) = none) := D.out.trans (zm (by simp [J]))
   have a0 : decide ((d.length : Int) <= 1) = false := by simp; omega
   clear h B y
   go_enter Tryz.func80,Tryz.ntmps80
   go_wp2_with fail; go_at_call 129; refine (zL (.mk 19 x m p d) _ 0 _ ⟨_,_,_,rfl⟩).mono ?_; rintro e I ⟨rfl,f⟩; rw [z]; have g := za (zb gan f); have A := za ((Box.new w (.mk 19 x m p d) (.slice a d.length c) 28).kept f); obtain ⟨i,j,o,r,s⟩ := A.out.p
   clear f; go_wp2_with fail
   go_ret
   exact .inl ⟨E.out,rfl,zb C.out.gb g.out⟩
theorem zhc : JC 80 .act 20 := by
 intro N o O R w l v x m p d sv h i C r
 have s := za h; have HF := za C; have U := za r; have V := h.lt
 have X : Hid (∀ b,v.ownBlock = some b -> b < w.heap.size) := fun b hb => (h.room hb).2
 obtain ⟨a,n,c,rfl,_,_,D⟩ := r.any
 change d.length = n at D
 subst D
 have u : Hid (zw .act (.mk 20 x m p d) = zq (zD (.mk 20 x m p d) 20 false 0 1) (yn d [.designator])) := rfl
 clear h C r
 go_enter Tryz.func80,Tryz.ntmps80
 go_wp2_with fail; go_at_call 129; refine (zL (.mk 20 x m p d) _ 0 _ ⟨_,_,_,rfl⟩).mono ?_; rintro e Y ⟨rfl,g⟩; have f := za (zb gan g); have Z := za ((Box.new w (.mk 20 x m p d) (.slice a d.length c) 28).kept g); obtain ⟨E,F,H,I,J⟩ := Z.out.p
 cases y : ((T.mk 20 x m p d).name.isEmpty && zU (.mk 20 x m p d) 0)
 ·clear g; go_wp2_with fail
  go_ret
  exact .inl ⟨u.out.trans (zm (by rw [zi (t := (.mk 20 x m p d)) (k := 20) rfl,y]; rfl)),rfl,zb s.out.gb f.out⟩
 ·clear g; have a0 := f.out.size
  have z : o < Y.heap.size := by omega
  go_wp2_with fail; go_at_call 72; refine (yE N o O R _ l v (.mk 20 x m p d) _ [.designator] _ (s.out.grown (zf f.out _)) i (by decide) U.out (RL.new1 _ _ (.meth .designator _ rfl) (by simpa using z) (fun b hb => by have := X.out b hb; omega))).mono ?_; rintro e w2 (⟨A,rfl,B⟩ | ⟨j,K,rfl,L,M⟩)
  ·go_wp2_with fail
   go_ret
   exact .inl ⟨u.out.trans (zm (by rw [zi (t := (.mk 20 x m p d)) (k := 20) rfl,y]; exact (Bool.true_and _).trans (xO (n := 1) A))),rfl,zb s.out.gb (zb (zf f.out _) B)⟩
  have J2 := za L; have K2 : Hid (JK o v w w2 K) := (JK.grown (zf f.out _)).trans M; clear L M; go_wp2_with fail
  go_ret
  exact .inr ⟨_,K,u.out.trans (zN (by rw [zi (t := (.mk 20 x m p d)) (k := 20) rfl,y]; exact (Bool.true_and _).trans (xl (n := 1) j))),rfl,J2.out,K2.out⟩
theorem zgz : JC 80 .act 22 := by
 intro N o O R w l v x m p d sv h i C r
 have s := za h; have HF := za C; have U := za r; have V := h.lt
 have X : Hid (∀ b,v.ownBlock = some b -> b < w.heap.size) := fun b hb => (h.room hb).2
 obtain ⟨a,n,c,rfl,_,_,D⟩ := r.any
 change d.length = n at D
 subst D
 have u : Hid (zw .act (.mk 22 x m p d) = zq (zD (.mk 22 x m p d) 22 false 0 1) (yn d [.designator])) := rfl
 clear h C r
 go_enter Tryz.func80,Tryz.ntmps80
 go_wp2_with fail; go_at_call 129; refine (zL (.mk 22 x m p d) _ 0 _ ⟨_,_,_,rfl⟩).mono ?_; rintro e Y ⟨rfl,g⟩; have f := za (zb gan g); have Z := za ((Box.new w (.mk 22 x m p d) (.slice a d.length c) 28).kept g); obtain ⟨E,F,H,I,J⟩ := Z.out.p
 cases y : ((T.mk 22 x m p d).name.isEmpty && zU (.mk 22 x m p d) 0)
 ·clear g; go_wp2_with fail
  go_ret
  exact .inl ⟨u.out.trans (zm (by rw [zi (t := (.mk 22 x m p d)) (k := 22) rfl,y]; rfl)),rfl,zb s.out.gb f.out⟩
 ·clear g; have a0 := f.out.size
  have z : o < Y.heap.size := by omega
  go_wp2_with fail; go_at_call 72; refine (yE N o O R _ l v (.mk 22 x m p d) _ [.designator] _ (s.out.grown (zf f.out _)) i (by decide) U.out (RL.new1 _ _ (.meth .designator _ rfl) (by simpa using z) (fun b hb => by have := X.out b hb; omega))).mono ?_; rintro e w2 (⟨A,rfl,B⟩ | ⟨j,K,rfl,L,M⟩)
  ·go_wp2_with fail
   go_ret
   exact .inl ⟨u.out.trans (zm (by rw [zi (t := (.mk 22 x m p d)) (k := 22) rfl,y]; exact (Bool.true_and _).trans (xO (n := 1) A))),rfl,zb s.out.gb (zb (zf f.out _) B)⟩
  have J2 := za L; have K2 : Hid (JK o v w w2 K) := (JK.grown (zf f.out _)).trans M; clear L M; go_wp2_with fail
  go_ret
  exact .inr ⟨_,K,u.out.trans (zN (by rw [zi (t := (.mk 22 x m p d)) (k := 22) rfl,y]; exact (Bool.true_and _).trans (xl (n := 1) j))),rfl,J2.out,K2.out⟩
theorem zgk : JC 80 .act 21 := by
 intro N o O R w l v x m p d sv h i C r
 have s := za h; have HF := za C; have U := za r; have V := h.lt
 have X : Hid (∀ b,v.ownBlock = some b -> b < w.heap.size) := fun b hb => (h.room hb).2
 obtain ⟨a,n,c,rfl,_,_,D⟩ := r.any
 change d.length = n at D
 subst D
 have u : Hid (zw .act (.mk 21 x m p d) = zq (zD (.mk 21 x m p d) 21 false 0 1) (yn d [.expression])) := rfl
 clear h C r
 go_enter Tryz.func80,Tryz.ntmps80
 go_wp2_with fail; go_at_call 129; refine (zL (.mk 21 x m p d) _ 0 _ ⟨_,_,_,rfl⟩).mono ?_; rintro e Y ⟨rfl,g⟩; have f := za (zb gan g); have Z := za ((Box.new w (.mk 21 x m p d) (.slice a d.length c) 28).kept g); obtain ⟨E,F,H,I,J⟩ := Z.out.p
 cases y : ((T.mk 21 x m p d).name.isEmpty && zU (.mk 21 x m p d) 0)
 ·clear g; go_wp2_with fail
  go_ret
  exact .inl ⟨u.out.trans (zm (by rw [zi (t := (.mk 21 x m p d)) (k := 21) rfl,y]; rfl)),rfl,zb s.out.gb f.out⟩
 ·clear g; have a0 := f.out.size
  have z : o < Y.heap.size := by omega
  go_wp2_with fail; go_at_call 72; refine (yE N o O R _ l v (.mk 21 x m p d) _ [.expression] _ (s.out.grown (zf f.out _)) i (by decide) U.out (RL.new1 _ _ (.meth .expression _ rfl) (by simpa using z) (fun b hb => by have := X.out b hb; omega))).mono ?_; rintro e w2 (⟨A,rfl,B⟩ | ⟨j,K,rfl,L,M⟩)
  ·go_wp2_with fail
   go_ret
   exact .inl ⟨u.out.trans (zm (by rw [zi (t := (.mk 21 x m p d)) (k := 21) rfl,y]; exact (Bool.true_and _).trans (xO (n := 1) A))),rfl,zb s.out.gb (zb (zf f.out _) B)⟩
  have J2 := za L; have K2 : Hid (JK o v w w2 K) := (JK.grown (zf f.out _)).trans M; clear L M; go_wp2_with fail
  go_ret
  exact .inr ⟨_,K,u.out.trans (zN (by rw [zi (t := (.mk 21 x m p d)) (k := 21) rfl,y]; exact (Bool.true_and _).trans (xl (n := 1) j))),rfl,J2.out,K2.out⟩
theorem zg2 : JC 80 .act 23 := by
 intro N o O R w l v x m p d sv h i C r
 have s := za h; have HF := za C; have U := za r; have V := h.lt
 have X : Hid (∀ b,v.ownBlock = some b -> b < w.heap.size) := fun b hb => (h.room hb).2
 obtain ⟨a,n,c,rfl,_,_,D⟩ := r.any
 change d.length = n at D
 subst D
 have u : Hid (zw .act (.mk 23 x m p d) = zq (zD (.mk 23 x m p d) 23 false 0 1) (yn d [.expression])) := rfl
 clear h C r
 go_enter Tryz.func80,Tryz.ntmps80
 go_wp2_with fail; go_at_call 129; refine (zL (.mk 23 x m p d) _ 0 _ ⟨_,_,_,rfl⟩).mono ?_; rintro e Y ⟨rfl,g⟩; have f := za (zb gan g); have Z := za ((Box.new w (.mk 23 x m p d) (.slice a d.length c) 28).kept g); obtain ⟨E,F,H,I,J⟩ := Z.out.p
 cases y : ((T.mk 23 x m p d).name.isEmpty && zU (.mk 23 x m p d) 0)
 ·clear g; go_wp2_with fail
  go_ret
  exact .inl ⟨u.out.trans (zm (by rw [zi (t := (.mk 23 x m p d)) (k := 23) rfl,y]; rfl)),rfl,zb s.out.gb f.out⟩
 ·clear g; have a0 := f.out.size
  have z : o < Y.heap.size := by omega
  go_wp2_with fail; go_at_call 72; refine (yE N o O R _ l v (.mk 23 x m p d) _ [.expression] _ (s.out.grown (zf f.out _)) i (by decide) U.out (RL.new1 _ _ (.meth .expression _ rfl) (by simpa using z) (fun b hb => by have := X.out b hb; omega))).mono ?_; rintro e w2 (⟨A,rfl,B⟩ | ⟨j,K,rfl,L,M⟩)
  ·go_wp2_with fail
   go_ret
   exact .inl ⟨u.out.trans (zm (by rw [zi (t := (.mk 23 x m p d)) (k := 23) rfl,y]; exact (Bool.true_and _).trans (xO (n := 1) A))),rfl,zb s.out.gb (zb (zf f.out _) B)⟩
  have J2 := za L; have K2 : Hid (JK o v w w2 K) := (JK.grown (zf f.out _)).trans M; clear L M; go_wp2_with fail
  go_ret
  exact .inr ⟨_,K,u.out.trans (zN (by rw [zi (t := (.mk 23 x m p d)) (k := 23) rfl,y]; exact (Bool.true_and _).trans (xl (n := 1) j))),rfl,J2.out,K2.out⟩
theorem zc2 (w0 : World) (jb lb ob : Nat) (w : World) (l : List (T × Rule)) (v : Value) (kd : Int) (x : List UInt8) (m p : Int) (ts : List T) (sv : Value) (h : JS w0 jb lb ob w l v) (_hlen : l.length + ts.length <= 20000) (hf : Fits (.mk kd x m p ts)) (ha : AT w0 (T.mk kd x m p ts).subs sv) (h14 : ¬ kd = 14) (h15 : ¬ kd = 15) (h16 : ¬ kd = 16) (h17 : ¬ kd = 17) (h18 : ¬ kd = 18) (h19 : ¬ kd = 19) (h20 : ¬ kd = 20) (h21 : ¬ kd = 21) (h22 : ¬ kd = 22) (h23 : ¬ kd = 23) :
  Calls Tryz.prog 80 #[ptr jb,.agg #[.int .i64 kd,.string ⟨x.toArray⟩,.int .i64 m,.int .i64 p,sv]] w (JR w0 jb lb ob l v w .act (.mk kd x m p ts)) := by
 have t := za h; have C := za hf; have D := za ha; have A := h.lt
 have E : Hid (∀ b,v.ownBlock = some b -> b < w.heap.size) := fun b hb => (h.room hb).2
 obtain ⟨a,n,c,rfl,_,_,u⟩ := ha.any
 change ts.length = n at u
 subst u
 have y : Hid (zw .act (.mk kd x m p ts) = none) := by show _ = _; simp [zw,gL,T.kind,h14,h15,h16,h17,h18,h19,h20,h21,h22,h23]
 cases z : ((T.mk kd x m p ts).name.isEmpty && zU (.mk kd x m p ts) 0)
 ·skip
  clear h hf ha
  go_enter Tryz.func80,Tryz.ntmps80
  go_wp2_with fail; go_at_call 129; refine (zL (.mk kd x m p ts) _ 0 _ ⟨_,_,_,rfl⟩).mono ?_; rintro e B ⟨rfl,d⟩; rw [z]; have f := za (zb gan d); have s := za ((Box.new w (.mk kd x m p ts) (.slice a ts.length c) 28).kept d); obtain ⟨g,i,j,o,r⟩ := s.out.p
  clear d; go_wp2_with fail
  go_ret
  exact .inl ⟨y.out,rfl,zb t.out.gb f.out⟩
 ·skip
  clear h hf ha
  go_enter Tryz.func80,Tryz.ntmps80
  go_wp2_with fail; go_at_call 129; refine (zL (.mk kd x m p ts) _ 0 _ ⟨_,_,_,rfl⟩).mono ?_; rintro e B ⟨rfl,d⟩; rw [z]; have f := za (zb gan d); have s := za ((Box.new w (.mk kd x m p ts) (.slice a ts.length c) 28).kept d); obtain ⟨g,i,j,o,r⟩ := s.out.p
  clear d; go_wp2_with fail
  go_ret
  exact .inl ⟨y.out,rfl,zb t.out.gb f.out⟩
end Go.Proofs.YtfjgelmllcnokaaGreatDoor
