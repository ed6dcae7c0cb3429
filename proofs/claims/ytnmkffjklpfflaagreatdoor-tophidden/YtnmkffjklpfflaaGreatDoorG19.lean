/- Numbers,and the ends of what is named. -/
import Derived.Test.YtnmkffjklpfflaaGreatDoorG18
import Derived.Deep.RegionLaw
namespace Go.Proofs.YtnmkffjklpfflaaGreatDoor
open Go.RowKit
set_option maxHeartbeats 1000000
set_option maxRecDepth 1000000
theorem oc (s : ByteArray) (w : World) (hs : s.size <= maxLen) (hd : ∀ h : 0 < s.size,zA ((s[0]'h).toNat : Int) = false /\ (s[0]'h).toNat < 128) :
  Calls Tryz.prog 133 #[.string s] w fun e w' => e = .returned (.tuple #[.int .i64 0,.bool false]) /\ w.grownBy w' none := by
 unfold maxLen at hs
 have c := ze hd; clear hd
 go_enter Tryz.func133,Tryz.ntmps133
 go_wp2
 go_loopw [2] (fun v wr => wr = w.iter s 0 /\ v = .int .i64 0) (fun _ _ => 0)
 case atStart => exact ⟨rfl,rfl⟩
 case round =>
  obtain ⟨rfl,rfl⟩ := hrel
  by_cases b : 0 < s.size
  ·obtain ⟨d,_⟩ := xK c b
   have f : ∀ ty,(Instr.next (.pointer (some ⟨w.heap.size,0,none⟩)) true ty).run Tryz.prog (w.iter s 0) = _ := fun ty => run_next_ascii w s 0 ty b (by omega)
   clear c
   go_wp2_with (go_at_call 132; refine (yo _ _).mono ?_; rintro e w' ⟨rfl,rfl⟩; simp only [d])
   go_ret2
   exact ⟨rfl,yC w s _⟩
  ·have f : ∀ ty,(Instr.next (.pointer (some ⟨w.heap.size,0,none⟩)) true ty).run Tryz.prog (w.iter s 0) = _ := fun ty => run_next_end w s 0 ty b
   have g : (s.toList == []) = true := by
    rw [xO]
    have : s.data.toList.length = 0 := by rw [<- zB]; omega
    cases h : s.data.toList with
    | nil => rfl
    | cons a l => rw [h] at this; simp at this
   clear c; go_wp2
   go_ret2
   exact ⟨rfl,yC w s _⟩
theorem nB (s : ByteArray) (h : 0 < s.size) : s.data.toList.headD 0 = s[0] := (jl s h).1
theorem kU (c : PC) (w : World) (i d : Nat) (h : PS c w i d) :
    Calls Tryz.prog 202 #[.pointer (some ⟨c.pb,0,none⟩)] w (Steps c w i d (fun _ n v => v = .int .i64 n) (gZ c.L i)) := by
  have k := ze h; have z := h.good.short i
  by_cases b : wd c.L i ≠ [] /\ zA (((wd c.L i).headD 0).toNat : Int) = true
  · obtain ⟨n,l⟩ := h.good.val i b.1 b.2
    have o := ze (h.good.dig i b.2)
    have r : Hid (gZ c.L i = .ok (n,i + 1)) := by
      show gZ c.L i = _
      unfold gZ oF
      rw [if_pos b,l]
    have A := ze b.1; have B := ze l; have s : (wd c.L i).isEmpty = false := xV b.1; clear h b l
    go_enter Tryz.func202,Tryz.ntmps202
    go_wp2_with (first
      | (go_at_call 68; refine (yA c _ i d k.out).mono ?_; rintro e C ⟨rfl,m,rfl⟩)
      | (go_at_call 133; refine (kB ⟨(wd c.L i).toArray⟩ _ (by unfold maxLen; simp [ByteArray.size]; omega) (by simpa using s) (fun j hj => o.out _ (by simp [ByteArray.getElem_eq_getElem_data]))).mono ?_; rintro e D ⟨u,g⟩; rw [show (ByteArray.mk (wd c.L i).toArray).data.toList = wd c.L i from by simp,B.out] at u; subst u; simp only [kj])
      | (go_at_call 139; refine (xg c _ i d ((k.out.drewN _).kept g) A.out).mono ?_; rintro e E ⟨rfl,f,F⟩))
    go_ret
    exact Steps.ok r.out rfl (za (zv (za (zo (zc _ _) _) g) _) f) F (by omega)
  · have r : Hid (gZ c.L i = .error (yi c.L i)) := by
      show gZ c.L i = _
      unfold gZ oF
      rw [if_neg b]
    have o : Hid (∀ h : 0 < (ByteArray.mk (wd c.L i).toArray).size,zA (((ByteArray.mk (wd c.L i).toArray)[0]'h).toNat : Int) = false /\ ((ByteArray.mk (wd c.L i).toArray)[0]'h).toNat < 128) := by
      intro t; have e := nB _ t; have G := h.good.low i; simp only [] at e; rw [<- e]; refine ⟨?_,by simpa using G⟩; cases H : zA (((wd c.L i).headD 0).toNat : Int)
      · simp only
      · refine absurd ⟨?_,H⟩ b
        intro I; rw [I] at t
        simp [ByteArray.size] at t
    clear h b
    go_enter Tryz.func202,Tryz.ntmps202
    go_wp2_with (first
      | (go_at_call 68; refine (yA c _ i d k.out).mono ?_; rintro e C ⟨rfl,m,rfl⟩)
      | (go_at_call 133; refine (oc ⟨(wd c.L i).toArray⟩ _ (by unfold maxLen; simp [ByteArray.size]; omega) o.out).mono ?_; rintro e D ⟨rfl,g⟩)
      | (go_at_call 69; refine (vb c _ i d ((k.out.drewN _).kept g)).mono ?_; rintro e E ⟨x,f⟩; have J := ze x; obtain ⟨q,rfl,-⟩ := x))
    exact ⟨rfl,Steps.err r.out J.out (zv (za (zo (zc _ _) _) g) _) (zv f _)⟩
theorem kZ (c : PC) (w : World) (i d : Nat) (x : List UInt8) (sb : ByteArray) (hsb : sb.data.toList = x) (hx : x ≠ []) (h : PS c w i d) :
  Calls Tryz.prog 97 #[.pointer (some ⟨c.pb,0,none⟩),.string sb] w (Steps c w i d (fun _ _ _ => True) (qw c.L x i)) := by
 have n := ze h; clear h
 go_enter Tryz.func97,Tryz.ntmps97
 go_wp2_with fail; go_at_call 88; refine (zx c _ i d jB _ rfl (by decide) n.out).mono ?_; rintro e v (⟨z,f,k,b⟩ | ⟨A,o,B,f,rfl,-,b,r,s⟩)
 ·obtain ⟨q,rfl,-⟩ := id k; exact ⟨rfl,Steps.err (P.bind_err f) k (zc _ _) b⟩
 have l : qw c.L x i = _ := P.bind_ok f; go_wp2_with fail; go_at_call 88; refine (zx c _ o d x _ hsb hx r).mono ?_; rintro e C (⟨D,g,m,j⟩ | ⟨E,F,G,g,rfl,-,j,t,u⟩)
 ·obtain ⟨q,rfl,-⟩ := id m; exact ⟨rfl,Steps.err (l.trans g) m b j⟩
 go_wp2; refine bodyPost_end (results_none rfl _ _ _) rfl ?_
 exact Steps.ok (l.trans g) trivial (za b j) t (by omega)
set_option maxHeartbeats 400000
set_option maxRecDepth 100000
def Un (S : Nat -> Prop) (lo hi : Nat) : Nat -> Prop := fun k => S k \/ (lo <= k /\ k < hi)
section
variable {w w' : World} {S : Nat -> Prop} {lo hi lo' hi' b : Nat} {ts : List T} {v : Value}
theorem LR.callU (h : LR w (Un S lo hi) ts v) (hg : w.grownBy w' (some b)) (hb : ¬ S b) (hb2 : b < lo \/ hi <= b) : LR w' (Un S lo hi) ts v :=
 h.kept hg (fun k hk hs => by
  cases hk
  rcases hs with hs | hs
  ·exact hb hs
  ·omega)
theorem LR.wideU (h : LR w (Un S lo hi) ts v) (h1 : lo' <= lo) (h2 : hi <= hi') : LR w (Un S lo' hi') ts v := h.mono (fun k hk => hk.elim .inl (fun h => .inr ⟨by omega,by omega⟩))
theorem LR.inU (h : LR w (In lo hi) ts v) : LR w (Un S lo hi) ts v := h.mono (fun _ hk => .inr hk)
theorem LR.un (h : LR w S ts v) : LR w (Un S lo hi) ts v := h.mono (fun _ hk => .inl hk)
theorem LR.grownU (h : LR w S ts v) (hg : w.grownBy w' none) : LR w' S ts v := h.kept hg (fun _ hk => by cases hk)
theorem LR.buildS (w : World) {cs : Array Value} {svs : List Value} {g n : Nat} (hg : g = w.heap.size) (hn : n = ts.length) (hc : cs.toList = xa ts svs) (hl : svs.length = ts.length) (hlen : ts.length <= 5000) (hS : ∀ k,S k -> k < g)
  (hs : ∀ (i : Nat) (t : T) (sv : Value),ts[i]? = some t -> svs[i]? = some sv -> LR w S t.subs sv) : LR (w.alloc (.cells cs 100)) (fun k => S k \/ k = g) ts (.slice (some ⟨g,0,none⟩) n n) := by
 subst hg hn
 have c : cs.size = ts.length * 5 := by rw [<- Array.length_toList,hc,yk _ _ hl]
 refine .mk _ _ _ svs hl ⟨yk _ _ hl,.inr ⟨w.heap.size,ts.length,cs,rfl,Nat.zero_le _,heap_alloc_new w _,Nat.le_refl _,by unfold maxLen; omega,c,?_⟩⟩ (fun b hb => ?_) (fun i t sv h1 h2 => ?_)
 ·rw [hc,<- yk _ _ hl,List.take_length]
 ·cases hb
  exact .inr rfl
 ·refine ((hs i t sv h1 h2).grownU (World.grownBy_alloc w _ none)).mono (fun k hk => ⟨.inl hk,fun e => ?_⟩)
  have d := hS k hk
  simp [Value.ownBlock] at e
  omega
theorem LR.build1S (w : World) {t : T} {sv : Value} {g : Nat} {cs : Array Value} (h : LR w S t.subs sv) (hS : ∀ k,S k -> k < g) (hg : g = w.heap.size) (hc : cs.toList = headC t sv) :
  LR (w.alloc (.cells cs 100)) (fun k => S k \/ k = g) [t] (.slice (some ⟨g,0,none⟩) 1 1) :=
 LR.buildS w (svs := [sv]) hg rfl hc rfl (by simp) hS (fun i t' sv' h1 h2 => by
  match i,h1,h2 with
  | 0,h1,h2 => cases h1; cases h2; exact h)
theorem LR.build2S (w : World) {t t2 : T} {sv sv2 : Value} {g : Nat} {cs : Array Value} (h : LR w S t.subs sv) (h2 : LR w S t2.subs sv2) (hS : ∀ k,S k -> k < g) (hg : g = w.heap.size) (hc : cs.toList = headC t sv ++ headC t2 sv2) :
  LR (w.alloc (.cells cs 100)) (fun k => S k \/ k = g) [t,t2] (.slice (some ⟨g,0,none⟩) 2 2) :=
 LR.buildS w (svs := [sv,sv2]) hg rfl hc rfl (by simp) hS (fun i t' sv' h3 h4 => by
  match i,h3,h4 with
  | 0,h3,h4 => cases h3; cases h4; exact h
  | 1,h3,h4 => cases h3; cases h4; exact h2)
end
theorem uV (w : World) (sign : List UInt8) (left right : T) (S : Nat -> Prop) (svl svr : Value) (hl : LR w S left.subs svl) (hr : LR w S right.subs svr) (hS : ∀ k,S k -> k < w.heap.size) :
  Calls Tryz.prog 201 #[.string ⟨sign.toArray⟩,.agg #[.int .i64 left.kind,.string ⟨left.name.toArray⟩,.int .i64 left.num,.int .i64 left.at',svl],.agg #[.int .i64 right.kind,.string ⟨right.name.toArray⟩,.int .i64 right.num,.int .i64 right.at',svr]] w
   fun e w' => ∃ sv,e = .returned (.agg #[.int .i64 36,.string ⟨sign.toArray⟩,.int .i64 0,.int .i64 left.at',sv]) /\ LR w' (Un S w.heap.size w'.heap.size) [left,right] sv /\ w.grownBy w' none := by
 obtain ⟨g,h,i,j,l⟩ := left; obtain ⟨m,n,o,q,r⟩ := right; simp only [T.kind,T.name,T.num,T.at',T.subs] at hl hr ⊢; obtain ⟨_,_,rfl⟩ := hl.form; obtain ⟨_,_,rfl⟩ := hr.form; have d := ze hl; have f := ze hr; clear hl hr
 go_enter Tryz.func201,Tryz.ntmps201
 go_wp2; refine zj Tryz.results201 rfl (NB.alloc (NB.new' (by simp)) _) rfl ⟨_,rfl,?_,?_⟩
 ·refine LR.mono (LR.build2S _ (t := T.mk g h i j l) (t2 := T.mk m n o q r) (S := S) (((d.out.grownU (World.grownBy_alloc _ _ none)).grownU (World.grownBy_alloc _ _ none)).grownU (World.grownBy_alloc _ _ none))
   (((f.out.grownU (World.grownBy_alloc _ _ none)).grownU (World.grownBy_alloc _ _ none)).grownU (World.grownBy_alloc _ _ none)) (fun k c => Nat.lt_of_lt_of_le (hS k c) (by omega)) (by simp) rfl) ?_
  intro k c
  rcases c with c | rfl
  ·exact .inl c
  ·exact .inr ⟨by omega,by simp⟩
 ·exact zf (zf (zf (zf (zc _ _) _) _) _) _
theorem da (x : List UInt8) (w : World) : Calls Tryz.prog 212 #[.string ⟨x.toArray⟩] w fun e w' => e = .returned (.bool (tQ x)) /\ w' = w := by
 unfold tQ
 go_enter Tryz.func212,Tryz.ntmps212
 go_wp2
 all_goals go_ret
 all_goals
  refine ⟨?_,rfl⟩
  simp_all [ot,qL,kOR]
theorem qr (x : List UInt8) (w : World) : Calls Tryz.prog 221 #[.string ⟨x.toArray⟩] w fun e w' => e = .returned (.bool (vQ x)) /\ w' = w := by
 unfold vQ
 go_enter Tryz.func221,Tryz.ntmps221
 go_wp2
 all_goals go_ret
 all_goals
  refine ⟨?_,rfl⟩
  simp_all [gt,lq,ls,mv]
theorem gW (x : List UInt8) (w : World) : Calls Tryz.prog 200 #[.string ⟨x.toArray⟩] w fun e w' => e = .returned (.bool (vZ x)) /\ w' = w := by
 unfold vZ
 go_enter Tryz.func200,Tryz.ntmps200
 go_wp2
 all_goals go_ret
 all_goals
  refine ⟨?_,rfl⟩
  simp_all [fe,oG,lf,lg,lw,ll]
theorem qt (c : PC) (w : World) (i d : Nat) (h : PS c w i d) : Calls Tryz.prog 223 #[.pointer (some ⟨c.pb,0,none⟩)] w fun e w' => e = .returned (.bool (yH (wd c.L i))) /\ w.grownBy w' none := by
 have f := ze h; clear h
 unfold yH
 go_enter Tryz.func223,Tryz.ntmps223
 go_wp2_with fail; go_at_call 68; refine (yA c _ i d f.out).mono ?_; rintro e g ⟨rfl,n,rfl⟩; go_wp2
 all_goals go_ret
 all_goals
  refine ⟨?_,zo (zc _ _) _⟩
  simp_all [jv,pf,fM,mg]
theorem vG (c : PC) (w : World) (i d : Nat) (h : PS c w i d) : Calls Tryz.prog 206 #[.pointer (some ⟨c.pb,0,none⟩)] w fun e w' => e = .returned (.bool (xA (wd c.L i))) /\ w.grownBy w' none := by
 have f := ze h; clear h
 unfold xA
 go_enter Tryz.func206,Tryz.ntmps206
 go_wp2_with fail; go_at_call 68; refine (yA c _ i d f.out).mono ?_; rintro e g ⟨rfl,n,rfl⟩; go_wp2
 all_goals go_ret
 all_goals
  refine ⟨?_,zo (zc _ _) _⟩
  simp_all [yy,jB,kA,tY,dx]
set_option maxHeartbeats 1000000
structure CI (c : PC) (w : World) (i d : Nat) (S0 : Nat -> Prop) (r : Except (Int × Int) (T × Nat)) (q : Nat -> T -> P T) (wr : World) (k : Int) (s : List UInt8) (n a : Int) (l : List T) (sv : Value) (j f : Nat) : Prop where
 nb : NB wr w.heap.size (.int .i64 k) (.string ⟨s.toArray⟩) (.int .i64 n) (.int .i64 a) sv
 rb : RB wr (w.heap.size + 1)
 lr : LR wr (Un S0 (w.heap.size + 2) wr.heap.size) l sv
 ps : PS c wr j d
 gb : w.grownBy wr (some c.pb)
 same : r = q f (.mk k s n a l) j
 le : i <= j
theorem oB {L : List Tok} {joins : List UInt8 -> Bool} {p : P T} {f j : Nat} {t : T} (h : joins (wd L j) = false) : xq L joins p f t j = .ok (t,j) := by
 cases f <;> (rw [xq]; exact if_neg (by rw [h]; decide))
theorem pl {L : List Tok} {joins : List UInt8 -> Bool} {p : P T} {f j : Nat} {t : T} (h : joins (wd L j) = true) : xq L joins p (f + 1) t j = (p.bind fun r => xq L joins p f (opT (wd L j) t r)) (j + 1) := by
 rw [xq]
 exact if_pos h
theorem sT {L : List Tok} {joins : List UInt8 -> Bool} {p : P T} {j : Nat} {t : T} (h : joins (wd L j) = true) : xq L joins p 0 t j = .error (3,pos L (j + 1)) := by
 rw [xq]
 exact if_pos h
theorem jC (c : PC) (w : World) (i d : Nat) (joins : List UInt8 -> Bool) (jg : Nat) (g : Nat) (p : P T) (S0 : Nat -> Prop) (left : T) (svl : Value) (h : PS c w i d) (hl : LR w S0 left.subs svl) (hS : ∀ k,S0 k -> k < w.heap.size /\ k ≠ c.pb)
    (hp : Part c d (fun _ => True) g #[.pointer (some ⟨c.pb,0,none⟩)] p) (hj : ∀ (x : List UInt8) (w : World),Calls Tryz.prog jg #[.string ⟨x.toArray⟩] w fun e w' => e = .returned (.bool (joins x)) /\ w' = w)
    (hje : ∀ (args : Array Value) (w : World),(callFunc jg args).run Tryz.prog w = .ok (.enter jg args) w) (hjn : joins [] = false) :
    Calls Tryz.prog 210 #[.pointer (some ⟨c.pb,0,none⟩),.agg #[.int .i64 left.kind,.string ⟨left.name.toArray⟩,.int .i64 left.num,.int .i64 left.at',svl],.func (.func jg) #[] #[],.func (.func g) #[.pointer (some ⟨c.pb,0,none⟩)] #[]] w
      (Steps c w i d (fun w' t v => ∃ sv,v = .agg #[.int .i64 t.kind,.string ⟨t.name.toArray⟩,.int .i64 t.num,.int .i64 t.at',sv] /\ LR w' (Un S0 w.heap.size w'.heap.size) t.subs sv) (xq c.L joins p 20 left i)) := by
  obtain ⟨k0,n0,m0,q0,l0⟩ := left; simp only [T.kind,T.name,T.num,T.at',T.subs] at hl ⊢; obtain ⟨b3,b4,rfl⟩ := hl.form; have HP := ze h; have HL := ze h.low; have hb := h.lt; have c0 := h.good.few; have c1 := hp.ent; have b5 := ze hp; have HJ := ze hj; have HS := ze hS; have Z := ze hl
  have a0 : ¬ S0 c.pb := fun e => (hS _ e).2 rfl
  have z : ¬ S0 w.heap.size := fun e => by have := (hS _ e).1; omega
  have A : ¬ S0 (w.heap.size + 1) := fun e => by have := (hS _ e).1; omega
  clear h hp hj hS hl
  go_enter Tryz.func210,Tryz.ntmps210
  go_wp2_with fail
  go_loopw [9] (fun v wr => ∃ (k : Int) (s : List UInt8) (n a : Int) (l : List T) (sv : Value) (j f : Nat),f <= 20 /\ v = .int .i64 (21 - (f : Int)) /\ Hid (CI c w i d S0 (xq c.L joins p 20 (.mk k0 n0 m0 q0 l0) i) (xq c.L joins p) wr k s n a l sv j f)) (fun v _ => 22 - (intOf v).toNat)
  case atStart =>
    refine ⟨k0,n0,m0,q0,l0,.slice b3 l0.length b4,i,20,by omega,rfl,CI.mk ((NB.alloc (NB.new' (by simp)) _)) ((RB.new' (by simp))) ?_ (PS.alloc (PS.alloc HP.out _) _) (zf (zf (zc w (some c.pb)) _) _) rfl (Nat.le_refl _)⟩
    exact ((Z.out.un).grownU (World.grownBy_alloc _ _ none)).grownU (World.grownBy_alloc _ _ none)
  case round =>
    obtain ⟨k,s,n,a,l,sv,j,f,_,rfl,HC⟩ := hrel; clear Z; have E := HC.out; obtain ⟨ad,cp,rfl⟩ := E.lr.form; have K := ze E.nb; have F := ze E.rb; have M := ze E.lr; have N := ze E.ps; have HG := ze E.gb; have O := ze E.same; have b6 := E.le; have c2 := E.rb.lt; clear E HC; go_wp2_with fail; go_at_call 68; refine (yA c _ j d N.out).mono ?_; rintro e w1 ⟨rfl,m,rfl⟩; go_wp2_with fail; refine (HJ.out (wd c.L j) _).mono ?_; rintro e w2 ⟨rfl,rfl⟩; cases B : joins (wd c.L j)
    · obtain ⟨x0,x1,x2,x3,x4,xz⟩ := K.out.drewN m
      obtain ⟨_,_,_,_,_,y0,y1,y2,y3,y4,yz⟩ := F.out.drewN m; go_wp2; refine zj Tryz.results210 rfl (RB.five ?_) rfl ?_
      · exact F.out.drewN m
      refine Steps.ok (a := T.mk k s n a l) (O.out.trans (oB B)) ⟨_,rfl,?_⟩ ?_ ?_ b6
      · refine LR.wideU (lo := w.heap.size + 2) (hi := wr.heap.size) ?_ (by omega) (by simp)
        have h5 := (M.out.grownU (zo (zc wr none) m))
        exact ((((h5.callU (zR (zc _ _) _ _) A (by omega)).callU (zR (zc _ _) _ _) A (by omega)).callU (zR (zc _ _) _ _) A (by omega)).callU (zR (zc _ _) _ _) A (by omega)).callU (zR (zc _ _) _ _) A (by omega)
      · exact zy (zo HG.out _) (by omega)
      · exact PS.p5 (PS.drewN N.out _) HL.out (by omega)
    · have b7 : wd c.L j ≠ [] := by
        intro e; rw [e,hjn] at B; cases B
      go_wp2_with fail; go_at_call 139; refine (xg c _ j d (N.out.drewN m) b7).mono ?_; rintro e w3 ⟨rfl,o,p3⟩; have s3 := o.size; have G3 : w.grownBy w3 (some c.pb) := za (zo HG.out m) o; have Q := (K.out.drewN m).kept o (by simp; omega); have R := (F.out.drewN m).kept o (by simp; omega); have a1 := (M.out.grownU (zo (zc wr none) m)).callU o a0 (by omega)
      simp at s3
      have b8 := R.lt; have a2 := ze Q; have a3 := ze R; have a4 := ze a1; have a5 := ze p3; have U := ze G3; obtain ⟨x0,x1,x2,x3,x4,xz⟩ := id Q; clear Q R a1 p3 G3 K F M HG o; cases f with
      | zero =>
        have hx : decide ((20 : Int) < 21 - ((0 : Nat) : Int)) = true := by decide
        go_wp2_with fail; go_at_call 98; refine (vz c _ (j + 1) d 3 a5.out).mono ?_; rintro e G ⟨C,b⟩; have HT := C; obtain ⟨q,rfl,-⟩ := C
        exact ⟨rfl,Steps.err (O.out.trans (sT B)) HT U.out (zv b _)⟩
      | succ f =>
        have hx : decide ((20 : Int) < 21 - ((f + 1 : Nat) : Int)) = false := by simp; omega
        have HR : Hid (xq c.L joins p 20 (T.mk k0 n0 m0 q0 l0) i = (p.bind fun r => xq c.L joins p f (opT (wd c.L j) (T.mk k s n a l) r)) (j + 1)) := O.out.trans (pl B); go_wp2_with fail
        go_region_with (first
          | (refine (b5.out.call _ (j + 1) (a5.out.drewN _) trivial).mono ?_
             rintro e G (⟨x4,u,C,b⟩ | ⟨⟨k4,n4,m4,q4,Y⟩,j4,v4,u,rfl,⟨c3,rfl,H⟩,b,p4,V⟩)
             focus
               have HT := C; obtain ⟨q,rfl,-⟩ := C
               exact ⟨rfl,Steps.err (HR.out.trans (P.bind_err u)) HT (zo U.out _) b⟩
             simp only [T.kind,T.name,T.num,T.at',T.subs] at H ⊢; obtain ⟨a6,a7,rfl⟩ := H.form; have X := NB.kept (a2.out.drewN _) b (by simp; omega); have a8 := RB.kept (a3.out.drewN _) b (by simp; omega); have s4 := b.size
             simp at s4
             have H1 : LR G (Un S0 (w.heap.size + 2) G.heap.size) l (.slice ad l.length cp) := ((a4.out.grownU (zo (zc w3 none) _)).callU b a0 (by omega)).wideU (Nat.le_refl _) (by omega); have H2 : LR G (Un S0 (w.heap.size + 2) G.heap.size) Y (.slice a6 Y.length a7) := LR.inU (H.wide (by simp; omega) (Nat.le_refl _))
             have H3 : ∀ k,Un S0 (w.heap.size + 2) G.heap.size k -> k < G.heap.size := fun k I => I.elim (fun h => by have := (HS.out k h).1; omega) (fun h => h.2)
             have G4 : w.grownBy G (some c.pb) := za (zo U.out _) b; obtain ⟨_,_,_,_,_,_⟩ := id X; have J := ze (And.intro H1 (And.intro H2 (And.intro H3 (And.intro G4 (And.intro X (And.intro a8 (And.intro p4 (And.intro u V))))))))
             clear H1 H2 H3 G4 X a8 p4 u V H b)
          | (go_at_call 201
             refine (uV _ (wd c.L j) (T.mk k s n a l) (T.mk k4 n4 m4 q4 Y) (Un S0 (w.heap.size + 2) G.heap.size) (.slice ad l.length cp) (.slice a6 Y.length a7) J.out.1 J.out.2.1 J.out.2.2.1).mono ?_; simp only [T.at']; rintro e w5 ⟨c4,rfl,a9,D⟩; obtain ⟨b0,b1,rfl⟩ := a9.form; have b2 := J.out.2.2.2.2.1.kept D (by simp)
             obtain ⟨y0,y1,y2,y3,y4,yz⟩ := id b2))
        all_goals
          go_wp2; have b9 := J.out.2.2.2.2.2.1.kept D (by simp); have p5 := J.out.2.2.2.2.2.2.1.kept D; have G5 : w.grownBy w5 (some c.pb) := za J.out.2.2.2.1 (zv D _); have u := J.out.2.2.2.2.2.2.2.1; have V := J.out.2.2.2.2.2.2.2.2; have s5 := D.size; refine ⟨⟨36,wd c.L j,0,a,[T.mk k s n a l,T.mk k4 n4 m4 q4 Y],.slice b0 2 b1,j4,f,by omega,by simp; omega,CI.mk ((NB.s4 (NB.s3 (NB.s2 (NB.s1 (NB.s0 b2 _) _) _) _) _)) ((RB.p5 b9)) ?_ ((PS.p5 p5 HL.out (by omega))) ((zy G5 (by omega))) (HR.out.trans (P.bind_ok u)) (by omega)⟩,?_⟩
          · have h5 : LR w5 (Un S0 (w.heap.size + 2) w5.heap.size) [T.mk k s n a l,T.mk k4 n4 m4 q4 Y] (.slice b0 2 b1) := a9.mono (fun k I => by
              rcases I with (I | I) | I
              · exact .inl I
              · exact .inr ⟨I.1,by omega⟩
              · exact .inr ⟨by omega,I.2⟩)
            refine LR.wideU (lo := w.heap.size + 2) (hi := w5.heap.size) ?_ (by omega) (by simp)
            exact ((((h5.callU (zR (zc _ _) _ _) z (by omega)).callU (zR (zc _ _) _ _) z (by omega)).callU (zR (zc _ _) _ _) z (by omega)).callU (zR (zc _ _) _ _) z (by omega)).callU (zR (zc _ _) _ _) z (by omega)
          · simp [intOf]
            omega
set_option maxHeartbeats 400000
abbrev ExprOK (c : PC) (d : Nat) (E : P T) : Prop := Part c d (fun _ => True) 145 #[.pointer (some ⟨c.pb,0,none⟩)] E
def NegOK (c : PC) (d : Nat) (F : P T) : Prop := ∀ (w : World) (i : Nat),PS c w i d -> Calls Tryz.prog 172 #[.pointer (some ⟨c.pb,0,none⟩),.func (.func 220) #[.pointer (some ⟨c.pb,0,none⟩)] #[]] w (Steps c w i d (fun w' t v => TR w' w.heap.size w'.heap.size t v) (F i))
theorem uE (c : PC) (w : World) (i d : Nat) (k : Int) (h : PS c w i d) (hne : wd c.L i ≠ []) :
  Calls Tryz.prog 226 #[.pointer (some ⟨c.pb,0,none⟩),.int .i64 k] w (Steps c w i d (fun w' t v => TR w' w.heap.size w'.heap.size t v) ((P.ret (T.mk k [] 0 (pos c.L i) [])) (i + 1))) := by
 have s := ze h; have u := ze h.low; have E := h.lt; clear h
 go_enter Tryz.func226,Tryz.ntmps226
 go_wp2_with fail; go_at_call 87; refine (zI c _ i d k (PS.alloc s.out _)).mono ?_; rintro e m ⟨rfl,b⟩; have x : PS c m i d := PS.kept (PS.alloc s.out _) b; have z : w.grownBy m (some c.pb) := za (zf (zc w (some c.pb)) _) (zv b (some c.pb)); have A := b.size
 try simp at A
 have g : RB m w.heap.size := RB.kept (RB.new' (by simp)) b (by simp); have n := g.lt; obtain ⟨_,_,_,_,_,_,_,_,_,_,_⟩ := id g; go_wp2_with fail; go_at_call 139; refine (xg c _ i d (PS.alloc x _) hne).mono ?_; rintro e o ⟨rfl,f,B⟩; have C : w.grownBy o (some c.pb) := za (zf z _) f; have D := f.size
 try simp at D
 have j : RB o w.heap.size := RB.keep (RB.alloc g _) f (by omega); have l : NB o m.heap.size (.int .i64 k) (.string ⟨#[]⟩) (.int .i64 0) (.int .i64 (pos c.L i)) (.slice none 0 0) := NB.keep (NB.new' (by simp)) f (by omega); have q := j.lt; have r := l.lt; obtain ⟨_,_,_,_,_,_,_,_,_,_,_⟩ := id j; obtain ⟨_,_,_,_,_,_⟩ := id l; go_wp2; refine zj Tryz.results226 rfl (RB.five ?_) rfl ?_
 ·exact j
 refine Steps.ok (a := (T.mk k [] 0 (pos c.L i) [])) rfl ⟨_,rfl,?_⟩ ?_ ?_ (by omega)
 ·exact LR.nil _ _
 ·exact zy C (by omega)
 ·exact PS.p5 B u.out (by omega)
theorem qf (c : PC) (w : World) (i d : Nat) (E : P T) (h : PS c w i d) (hE : ExprOK c d E) :
  Calls Tryz.prog 228 #[.pointer (some ⟨c.pb,0,none⟩)] w (Steps c w i d (fun w' t v => TR w' w.heap.size w'.heap.size t v) (((zD c.L xy).bind fun _ => E.bind fun e => (zD c.L jk).bind fun _ => P.ret e) i)) := by
 have HP := ze h; have HL := ze h.low; have hb := h.lt; clear h
 go_enter Tryz.func228,Tryz.ntmps228
 go_wp2_with fail; go_at_call 88; refine (zx c _ i d xy _ rfl (by decide) (PS.alloc HP.out _)).mono ?_; rintro e U (⟨x1,l,B,g⟩ | ⟨a1,j1,v1,l,rfl,-,g,p1,a0⟩)
 ·obtain ⟨q,rfl,-⟩ := id B; exact ⟨rfl,Steps.err (P.bind_err l) B (zf (zc w (some c.pb)) _) g⟩
 have C : ((zD c.L xy).bind fun _ => E.bind fun e => (zD c.L jk).bind fun _ => P.ret e) i = _ := P.bind_ok l; have V : w.grownBy U (some c.pb) := za (zf (zc w (some c.pb)) _) g; have s1 := g.size
 try simp at s1
 have m : RB U w.heap.size := RB.keep (RB.new' (by simp)) g (by omega); have J := m.lt; obtain ⟨_,_,_,_,_,_,_,_,_,_,_⟩ := id m; go_wp2_with fail; go_at_call 145; refine (hE.call _ j1 p1 trivial).mono ?_; rintro e n (⟨x2,o,D,j⟩ | ⟨⟨X,Y,Z,q2,r⟩,j2,v2,o,rfl,⟨a2,rfl,k⟩,j,p2,a4⟩)
 ·obtain ⟨q,rfl,-⟩ := id D; exact ⟨rfl,Steps.err (C.trans (P.bind_err o)) D V j⟩
 have F : ((zD c.L xy).bind fun _ => E.bind fun e => (zD c.L jk).bind fun _ => P.ret e) i = _ := C.trans (P.bind_ok o); simp only [T.kind,T.name,T.num,T.at',T.subs] at k ⊢; obtain ⟨s,u,rfl⟩ := k.form; obtain ⟨b2,K,k⟩ : ∃ b,b = _ /\ LR n (In b n.heap.size) r (.slice s r.length u) := ⟨_,rfl,k⟩
 try simp at K
 have G2 : w.grownBy n (some c.pb) := za V j; have s2 := j.size
 try simp at s2
 have x : RB n w.heap.size := RB.keep m j (by omega); have M := x.lt; obtain ⟨_,_,_,_,_,_,_,_,_,_,_⟩ := id x; go_wp2_with fail; go_at_call 88; refine (zx c _ j2 d jk _ rfl (by decide) (PS.alloc p2 _)).mono ?_; rintro e I (⟨x3,z,G,f⟩ | ⟨a3,j3,v3,z,rfl,-,f,p3,a5⟩)
 ·obtain ⟨q,rfl,-⟩ := id G; exact ⟨rfl,Steps.err (F.trans (P.bind_err z)) G (zf G2 _) f⟩
 have N : ((zD c.L xy).bind fun _ => E.bind fun e => (zD c.L jk).bind fun _ => P.ret e) i = _ := F.trans (P.bind_ok z); have G3 : w.grownBy I (some c.pb) := za (zf G2 _) f; have s3 := f.size
 try simp at s3
 have A : RB I w.heap.size := RB.keep (RB.alloc x _) f (by omega); have H : NB I n.heap.size (.int .i64 X) (.string ⟨Y.toArray⟩) (.int .i64 Z) (.int .i64 q2) (.slice s r.length u) := NB.keep (NB.new' (by simp)) f (by omega); have O : LR I (In b2 n.heap.size) r (.slice s r.length u) := LR.call (LR.alloc k _) f (by omega); have Q := A.lt; have R := H.lt; obtain ⟨_,_,_,_,_,_,_,_,_,_,_⟩ := id A; obtain ⟨_,_,_,_,_,_⟩ := id H; go_wp2; refine zj Tryz.results228 rfl (RB.five ?_) rfl ?_
 ·exact A
 refine Steps.ok (a := (T.mk X Y Z q2 r)) N ⟨_,rfl,?_⟩ ?_ ?_ (by omega)
 ·refine LR.wide (lo := b2) (hi := n.heap.size) (ts := r) ?_ (by omega) (by first | omega | (simp <;> omega))
  exact LR.p5 O (by omega)
 ·exact zy G3 (by omega)
 ·exact PS.p5 p3 HL.out (by omega)
theorem fD (c : PC) (w : World) (i d : Nat) (F : P T) (h : PS c w i d) (hF : NegOK c d F) :
  Calls Tryz.prog 227 #[.pointer (some ⟨c.pb,0,none⟩)] w (Steps c w i d (fun w' t v => TR w' w.heap.size w'.heap.size t v) (((zD c.L xU).bind fun _ => F.bind fun t => P.ret (T.mk 34 [] 0 (pos c.L i) [t])) i)) := by
 have Y := ze h; have Z := ze h.low; have hb := h.lt; clear h
 go_enter Tryz.func227,Tryz.ntmps227
 go_wp2_with fail; go_at_call 87; refine (zI c _ i d 34 (PS.alloc Y.out _)).mono ?_; rintro e z ⟨rfl,k⟩; have p1 : PS c z i d := PS.kept (PS.alloc Y.out _) k; have G1 : w.grownBy z (some c.pb) := za (zf (zc w (some c.pb)) _) (zv k (some c.pb)); have s1 := k.size
 try simp at s1
 have l : RB z w.heap.size := RB.kept (RB.new' (by simp)) k (by simp); have H := l.lt; obtain ⟨_,_,_,_,_,_,_,_,_,_,_⟩ := id l; go_wp2_with fail; go_at_call 88; refine (zx c _ i d xU _ rfl (by decide) (PS.alloc p1 _)).mono ?_; rintro e I (⟨x2,m,A,f⟩ | ⟨a2,j2,v2,m,rfl,-,f,p2,a0⟩)
 ·obtain ⟨q,rfl,-⟩ := id A; exact ⟨rfl,Steps.err (P.bind_err m) A (zf G1 _) f⟩
 have B : ((zD c.L xU).bind fun _ => F.bind fun t => P.ret (T.mk 34 [] 0 (pos c.L i) [t])) i = _ := P.bind_ok m; have G2 : w.grownBy I (some c.pb) := za (zf G1 _) f; have s2 := f.size
 try simp at s2
 have n : RB I w.heap.size := RB.keep (RB.alloc l _) f (by omega); have o : NB I z.heap.size (.int .i64 34) (.string ⟨#[]⟩) (.int .i64 0) (.int .i64 (pos c.L i)) (.slice none 0 0) := NB.keep (NB.new' (by simp)) f (by omega); have J := n.lt; have K := o.lt; obtain ⟨_,_,_,_,_,_,_,_,_,_,_⟩ := id n; obtain ⟨_,_,_,_,_,_⟩ := id o; go_wp2_with fail; go_at_call 172; refine (hF _ j2 p2).mono ?_; rintro e r (⟨x3,s,C,g⟩ | ⟨⟨M,N,O,Q,u⟩,j3,v3,s,rfl,⟨a1,rfl,j⟩,g,p3,a3⟩)
 ·obtain ⟨q,rfl,-⟩ := id C; exact ⟨rfl,Steps.err (B.trans (P.bind_err s)) C G2 g⟩
 have R : ((zD c.L xU).bind fun _ => F.bind fun t => P.ret (T.mk 34 [] 0 (pos c.L i) [t])) i = _ := B.trans (P.bind_ok s); simp only [T.kind,T.name,T.num,T.at',T.subs] at j ⊢; obtain ⟨D,E,rfl⟩ := j.form; obtain ⟨b3,U,j⟩ : ∃ b,b = _ /\ LR r (In b r.heap.size) u (.slice D u.length E) := ⟨_,rfl,j⟩
 try simp at U
 have G3 : w.grownBy r (some c.pb) := za G2 g; have s3 := g.size
 try simp at s3
 have x : RB r w.heap.size := RB.keep n g (by omega); have G : NB r z.heap.size (.int .i64 34) (.string ⟨#[]⟩) (.int .i64 0) (.int .i64 (pos c.L i)) (.slice none 0 0) := NB.keep o g (by omega); have V := x.lt; have X := G.lt; obtain ⟨_,_,_,_,_,_,_,_,_,_,_⟩ := id x; obtain ⟨_,_,_,_,_,_⟩ := id G; go_wp2; refine zj Tryz.results227 rfl (NB.alloc (RB.five ?_) _) rfl ?_
 ·exact RB.put x _ _ _
 refine Steps.ok (a := (T.mk 34 [] 0 (pos c.L i) [(T.mk M N O Q u)])) R ⟨_,rfl,?_⟩ ?_ ?_ (by omega)
 ·refine LR.wide (lo := b3) (hi := r.heap.size + 1) (ts := [(T.mk M N O Q u)]) ?_ (by omega) (by first | omega | (simp <;> omega))
  exact (LR.build1 _ (t := (T.mk M N O Q u)) (sv := .slice D u.length E) (LR.wide (lo := b3) (hi := r.heap.size) (ts := u) (LR.p5 (LR.put j (by omega) _ _) (by omega)) (by omega) (by first | omega | (simp <;> omega))) (by simp) rfl (by omega))
 ·exact zf (zy (zq G3 (by omega) _ _) (by omega)) _
 ·exact PS.alloc (PS.p5 (PS.put p3 Z.out (by omega) _ _) Z.out (by omega)) _
theorem dO (c : PC) (w : World) (i d : Nat) (E F : P T) (h : PS c w i d) (hX : Part c d (fun _ => True) 220 #[.pointer (some ⟨c.pb,0,none⟩)] (zJ c.L E F)) :
  Calls Tryz.prog 211 #[.pointer (some ⟨c.pb,0,none⟩)] w (Steps c w i d (fun w' t v => TR w' w.heap.size w'.heap.size t v) (xE c.L E F i)) := by
 have V := ze h; have X := ze h.low; have hb := h.lt; clear h
 go_enter Tryz.func211,Tryz.ntmps211
 go_wp2_with fail; go_at_call 220; refine (hX.call _ i (PS.alloc V.out _) trivial).mono ?_; rintro e n (⟨x1,u,D,j⟩ | ⟨⟨Y,Z,m1,q1,s⟩,j1,v1,u,rfl,⟨a0,rfl,g⟩,j,p1,a1⟩)
 ·obtain ⟨q,rfl,-⟩ := id D; exact ⟨rfl,Steps.err (P.bind_err u) D (zf (zc w (some c.pb)) _) j⟩
 have G : xE c.L E F i = _ := P.bind_ok u; simp only [T.kind,T.name,T.num,T.at',T.subs] at g ⊢; obtain ⟨o,r,rfl⟩ := g.form; obtain ⟨B,K,g⟩ : ∃ b,b = _ /\ LR n (In b n.heap.size) s (.slice o s.length r) := ⟨_,rfl,g⟩
 try simp at K
 have U : w.grownBy n (some c.pb) := za (zf (zc w (some c.pb)) _) j; have s1 := j.size
 try simp at s1
 have x : RB n w.heap.size := RB.keep (RB.new' (by simp)) j (by omega); have M := x.lt; obtain ⟨_,_,_,_,_,_,_,_,_,_,_⟩ := id x; go_wp2_with fail; go_at_call 210; refine (jC c _ j1 d vQ 221 220 (zJ c.L E F) (In B n.heap.size) (T.mk Y Z m1 q1 s) (.slice o s.length r) p1 (show LR _ (In B n.heap.size) s (.slice o s.length r) from g) (fun k m => ⟨by have I : k < n.heap.size := m.2; first | omega | (simp <;> omega),by have I : B <= k := m.1; omega⟩) hX qr (enters_of Tryz.func221 (by kernel_rfl) rfl) rfl).mono ?_; rintro e C (⟨x2,z,H,f⟩ | ⟨⟨k2,n2,m2,q2,J⟩,j2,v2,z,rfl,⟨a2,rfl,l⟩,f,p2,a3⟩)
 ·obtain ⟨q,rfl,-⟩ := id H; exact ⟨rfl,Steps.err (G.trans z) H U f⟩
 have N : xE c.L E F i = _ := G.trans z; simp only [T.kind,T.name,T.num,T.at',T.subs] at l ⊢; obtain ⟨O,Q,rfl⟩ := l.form
 have l : LR C (In B C.heap.size) J (.slice O J.length Q) := l.mono (fun k m => by
  have h9 := f.size
  try simp at h9
  rcases m with m | m
  ·have I : k < n.heap.size := m.2
   exact ⟨m.1,by omega⟩
  ·have I := m.1
   try simp at I
   exact ⟨by omega,m.2⟩)
 have G2 : w.grownBy C (some c.pb) := za U f; have s2 := f.size
 try simp at s2
 have A : RB C w.heap.size := RB.keep x f (by omega); have a4 : LR C (In B n.heap.size) s (.slice o s.length r) := LR.call g f (by omega); have R := A.lt; obtain ⟨_,_,_,_,_,_,_,_,_,_,_⟩ := id A; go_wp2; refine zj Tryz.results211 rfl (RB.five ?_) rfl ?_
 ·exact A
 refine Steps.ok (a := (T.mk k2 n2 m2 q2 J)) N ⟨_,rfl,?_⟩ ?_ ?_ (by omega)
 ·refine LR.wide (lo := B) (hi := C.heap.size) (ts := J) ?_ (by omega) (by first | omega | (simp <;> omega))
  exact LR.p5 l (by omega)
 ·exact zy G2 (by omega)
 ·exact PS.p5 p2 X.out (by omega)
theorem nk (c : PC) (w : World) (i d : Nat) (E F : P T) (h : PS c w i d) (hX : Part c d (fun _ => True) 211 #[.pointer (some ⟨c.pb,0,none⟩)] (xE c.L E F)) :
  Calls Tryz.prog 199 #[.pointer (some ⟨c.pb,0,none⟩)] w (Steps c w i d (fun w' t v => TR w' w.heap.size w'.heap.size t v) (fs c.L E F i)) := by
 have HP := ze h; have HL := ze h.low; have hb := h.lt; clear h
 go_enter Tryz.func199,Tryz.ntmps199
 go_wp2_with fail; go_at_call 87; refine (zI c _ i d 35 (PS.alloc HP.out _)).mono ?_; rintro e V ⟨rfl,K⟩; have p1 : PS c V i d := PS.kept (PS.alloc HP.out _) K; have G1 : w.grownBy V (some c.pb) := za (zf (zc w (some c.pb)) _) (zv K (some c.pb)); have s1 := K.size
 try simp at s1
 have X : RB V w.heap.size := RB.kept (RB.new' (by simp)) K (by simp); have a8 := X.lt; obtain ⟨_,_,_,_,_,_,_,_,_,_,_⟩ := id X; go_wp2_with fail; go_at_call 137; refine (yb c _ i d qL _ rfl (by decide) (PS.alloc p1 _)).mono ?_; rintro e w2 ⟨b2,j2,a9,rfl,M,p2,b9⟩; have N : fs c.L E F i = _ := P.bind_ok a9; have G2 : w.grownBy w2 (some c.pb) := za (zf G1 _) M; have s2 := M.size
 try simp at s2
 have O : RB w2 w.heap.size := RB.keep (RB.alloc X _) M (by omega); have Q : NB w2 V.heap.size (.int .i64 35) (.string ⟨#[]⟩) (.int .i64 0) (.int .i64 (pos c.L i)) (.slice none 0 0) := NB.keep (NB.new' (by simp)) M (by omega); have b0 := O.lt; have b1 := Q.lt; obtain ⟨_,_,_,_,_,_,_,_,_,_,_⟩ := id O; obtain ⟨_,_,_,_,_,_⟩ := id Q; cases b2
 ·go_wp2_with fail
  go_at_call 211; refine (hX.call _ j2 p2 trivial).mono ?_; rintro e j (⟨x3,z,G,l⟩ | ⟨⟨Y,Z,m3,q3,n⟩,j3,v3,z,rfl,⟨b4,rfl,g⟩,l,p3,b5⟩)
  ·obtain ⟨q,rfl,-⟩ := id G; exact ⟨rfl,Steps.err (N.trans (P.bind_err z)) G G2 l⟩
  have H : fs c.L E F i = _ := N.trans (P.bind_ok z); simp only [T.kind,T.name,T.num,T.at',T.subs] at g ⊢; obtain ⟨r,s,rfl⟩ := g.form; obtain ⟨u,a0,g⟩ : ∃ b,b = _ /\ LR j (In b j.heap.size) n (.slice r n.length s) := ⟨_,rfl,g⟩
  try simp at a0
  have G3 : w.grownBy j (some c.pb) := za G2 l; have s3 := l.size
  try simp at s3
  have A : RB j w.heap.size := RB.keep O l (by omega); have B : NB j V.heap.size (.int .i64 35) (.string ⟨#[]⟩) (.int .i64 0) (.int .i64 (pos c.L i)) (.slice none 0 0) := NB.keep Q l (by omega); have a1 := A.lt; have a2 := B.lt; obtain ⟨_,_,_,_,_,_,_,_,_,_,_⟩ := id A; obtain ⟨_,_,_,_,_,_⟩ := id B; go_wp2_with fail; go_at_call 210; refine (jC c _ j3 d tQ 212 211 (xE c.L E F) (In u j.heap.size) (T.mk Y Z m3 q3 n) (.slice r n.length s) p3 (show LR _ (In u j.heap.size) n (.slice r n.length s) from g) (fun k o => ⟨by have R : k < j.heap.size := o.2; first | omega | (simp <;> omega),by have R : u <= k := o.1; omega⟩) hX da (enters_of Tryz.func212 (by kernel_rfl) rfl) rfl).mono ?_; rintro e x (⟨x4,C,I,f⟩ | ⟨⟨k4,n4,m4,q4,U⟩,j4,v4,C,rfl,⟨b6,rfl,m⟩,f,p4,b7⟩)
  ·obtain ⟨q,rfl,-⟩ := id I; exact ⟨rfl,Steps.err (H.trans C) I G3 f⟩
  have a3 : fs c.L E F i = _ := H.trans C; simp only [T.kind,T.name,T.num,T.at',T.subs] at m ⊢; obtain ⟨a4,a5,rfl⟩ := m.form
  have m : LR x (In u x.heap.size) U (.slice a4 U.length a5) := m.mono (fun k o => by
   have h9 := f.size
   try simp at h9
   rcases o with o | o
   ·have R : k < j.heap.size := o.2
    exact ⟨o.1,by omega⟩
   ·have R := o.1
    try simp at R
    exact ⟨by omega,o.2⟩)
  have G4 : w.grownBy x (some c.pb) := za G3 f; have s4 := f.size
  try simp at s4
  have D : RB x w.heap.size := RB.keep A f (by omega); have J : NB x V.heap.size (.int .i64 35) (.string ⟨#[]⟩) (.int .i64 0) (.int .i64 (pos c.L i)) (.slice none 0 0) := NB.keep B f (by omega); have b8 : LR x (In u j.heap.size) n (.slice r n.length s) := LR.call g f (by omega); have a6 := D.lt; have a7 := J.lt; obtain ⟨_,_,_,_,_,_,_,_,_,_,_⟩ := id D; obtain ⟨_,_,_,_,_,_⟩ := id J; go_wp2; refine zj Tryz.results199 rfl (RB.five ?_) rfl ?_
  ·exact D
  refine Steps.ok (a := (T.mk k4 n4 m4 q4 U)) a3 ⟨_,rfl,?_⟩ ?_ ?_ (by omega)
  ·refine LR.wide (lo := u) (hi := x.heap.size) (ts := U) ?_ (by omega) (by first | omega | (simp <;> omega))
   exact LR.p5 m (by omega)
  ·exact zy G4 (by omega)
  ·exact PS.p5 p4 HL.out (by omega)
 ·go_wp2_with fail
  go_at_call 211; refine (hX.call _ j2 p2 trivial).mono ?_; rintro e j (⟨x3,z,G,l⟩ | ⟨⟨Y,Z,m3,q3,n⟩,j3,v3,z,rfl,⟨b4,rfl,g⟩,l,p3,b5⟩)
  ·obtain ⟨q,rfl,-⟩ := id G; exact ⟨rfl,Steps.err (N.trans (P.bind_err z)) G G2 l⟩
  have H : fs c.L E F i = _ := N.trans (P.bind_ok z); simp only [T.kind,T.name,T.num,T.at',T.subs] at g ⊢; obtain ⟨r,s,rfl⟩ := g.form; obtain ⟨u,a0,g⟩ : ∃ b,b = _ /\ LR j (In b j.heap.size) n (.slice r n.length s) := ⟨_,rfl,g⟩
  try simp at a0
  have G3 : w.grownBy j (some c.pb) := za G2 l; have s3 := l.size
  try simp at s3
  have A : RB j w.heap.size := RB.keep O l (by omega); have B : NB j V.heap.size (.int .i64 35) (.string ⟨#[]⟩) (.int .i64 0) (.int .i64 (pos c.L i)) (.slice none 0 0) := NB.keep Q l (by omega); have a1 := A.lt; have a2 := B.lt; obtain ⟨_,_,_,_,_,_,_,_,_,_,_⟩ := id A; obtain ⟨_,_,_,_,_,_⟩ := id B; go_wp2_with fail; go_at_call 210; refine (jC c _ j3 d tQ 212 211 (xE c.L E F) (In u (j.heap.size + 1)) (T.mk 35 [] 0 (pos c.L i) [(T.mk Y Z m3 q3 n)]) (.slice (some ⟨j.heap.size,0,none⟩) 1 1) (PS.alloc (PS.put p3 HL.out (by omega) _ _) _) (show LR _ (In u (j.heap.size + 1)) ([(T.mk Y Z m3 q3 n)]) (.slice (some ⟨j.heap.size,0,none⟩) 1 1) from (LR.build1 _ (t := (T.mk Y Z m3 q3 n)) (sv := .slice r n.length s) (LR.wide (lo := u) (hi := j.heap.size) (ts := n) (LR.put g (by omega) _ _) (by omega) (by first | omega | (simp <;> omega))) (by simp) rfl (by omega))) (fun k o => ⟨by have R : k < j.heap.size + 1 := o.2; first | omega | (simp <;> omega),by have R : u <= k := o.1; omega⟩) hX da (enters_of Tryz.func212 (by kernel_rfl) rfl) rfl).mono ?_; rintro e x (⟨x4,C,I,f⟩ | ⟨⟨k4,n4,m4,q4,U⟩,j4,v4,C,rfl,⟨b6,rfl,m⟩,f,p4,b7⟩)
  ·obtain ⟨q,rfl,-⟩ := id I; exact ⟨rfl,Steps.err (H.trans C) I (zf (zq G3 (by omega) _ _) _) f⟩
  have a3 : fs c.L E F i = _ := H.trans C; simp only [T.kind,T.name,T.num,T.at',T.subs] at m ⊢; obtain ⟨a4,a5,rfl⟩ := m.form
  have m : LR x (In u x.heap.size) U (.slice a4 U.length a5) := m.mono (fun k o => by
   have h9 := f.size
   try simp at h9
   rcases o with o | o
   ·have R : k < j.heap.size + 1 := o.2
    exact ⟨o.1,by omega⟩
   ·have R := o.1
    try simp at R
    exact ⟨by omega,o.2⟩)
  have G4 : w.grownBy x (some c.pb) := za (zf (zq G3 (by omega) _ _) _) f; have s4 := f.size
  try simp at s4
  have D : RB x w.heap.size := RB.keep (RB.alloc (RB.put A _ _ _) _) f (by omega); have J : NB x V.heap.size (.int .i64 35) (.string ⟨#[]⟩) (.int .i64 0) (.int .i64 (pos c.L i)) (.slice (some ⟨j.heap.size,0,none⟩) 1 1) := NB.keep (NB.alloc (NB.s4 B _) _) f (by omega); have b8 : LR x (In u j.heap.size) n (.slice r n.length s) := LR.call (LR.alloc (LR.put g (by omega) _ _) _) f (by omega); have c0 : LR x (In u (j.heap.size + 1)) ([(T.mk Y Z m3 q3 n)]) (.slice (some ⟨j.heap.size,0,none⟩) 1 1) := LR.call (LR.build1 _ (t := (T.mk Y Z m3 q3 n)) (sv := .slice r n.length s) (LR.wide (lo := u) (hi := j.heap.size) (ts := n) (LR.put g (by omega) _ _) (by omega) (by first | omega | (simp <;> omega))) (by simp) rfl (by omega)) f (by omega); have a6 := D.lt; have a7 := J.lt; obtain ⟨_,_,_,_,_,_,_,_,_,_,_⟩ := id D; obtain ⟨_,_,_,_,_,_⟩ := id J; go_wp2; refine zj Tryz.results199 rfl (RB.five ?_) rfl ?_
  ·exact D
  refine Steps.ok (a := (T.mk k4 n4 m4 q4 U)) a3 ⟨_,rfl,?_⟩ ?_ ?_ (by omega)
  ·refine LR.wide (lo := u) (hi := x.heap.size) (ts := U) ?_ (by omega) (by first | omega | (simp <;> omega))
   exact LR.p5 m (by omega)
  ·exact zy G4 (by omega)
  ·exact PS.p5 p4 HL.out (by omega)
set_option maxHeartbeats 1000000
theorem gi {L : List Tok} {x : List UInt8} {i j : Nat} (h : yu L x i = .ok (false,j)) : wd L i ≠ x /\ j = i := by
 unfold yu at h
 split at h
 ·cases h
 ·rename_i hw
  cases h
  exact ⟨hw,rfl⟩
theorem db {L : List Tok} {x : List UInt8} {i j : Nat} (h : yu L x i = .ok (true,j)) : wd L i = x /\ j = i + 1 := by
 unfold yu at h
 split at h
 ·rename_i hw
  cases h
  exact ⟨hw,rfl⟩
 ·cases h
theorem yR (c : PC) (w : World) (i d : Nat) (h : PS c w i d) :
  Calls Tryz.prog 68 #[.pointer (some ⟨c.pb,0,none⟩)] w fun e w' => e = .returned (.string ⟨(wd c.L i).toArray⟩) /\ w.grownBy w' none :=
 (yA c w i d h).mono (by rintro e w' ⟨rfl,n,rfl⟩; exact ⟨rfl,zo (zc _ _) _⟩)
theorem ti {x : List UInt8} (h : vZ x = true) : x ≠ [] := by
 rintro rfl
 revert h
 decide
theorem fg (c : PC) (w : World) (i d : Nat) (E F : P T) (h : PS c w i d) (hX : Part c d (fun _ => True) 199 #[.pointer (some ⟨c.pb,0,none⟩)] (fs c.L E F)) :
    Calls Tryz.prog 173 #[.pointer (some ⟨c.pb,0,none⟩)] w (Steps c w i d (fun w' t v => TR w' w.heap.size w'.heap.size t v) (xh c.L E F i)) := by
  have HP := ze h; have HL := ze h.low; have hb := h.lt; clear h
  go_enter Tryz.func173,Tryz.ntmps173
  go_wp2_with fail; go_at_call 199; refine (hX.call _ i (PS.alloc HP.out _) trivial).mono ?_; rintro e m (⟨x1,a2,c0,H⟩ | ⟨⟨x,z,A,o,f⟩,O,v1,a2,rfl,⟨g0,rfl,I⟩,H,p1,g1⟩)
  · obtain ⟨q,rfl,-⟩ := id c0; exact ⟨rfl,Steps.err (P.bind_err a2) c0 (zf (zc w (some c.pb)) _) H⟩
  have c1 : xh c.L E F i = _ := P.bind_ok a2; simp only [T.kind,T.name,T.num,T.at',T.subs] at I ⊢; obtain ⟨g,j,rfl⟩ := I.form; obtain ⟨r,d2,I⟩ : ∃ b,b = _ /\ LR m (In b m.heap.size) f (.slice g f.length j) := ⟨_,rfl,I⟩
  try simp at d2
  have G1 : w.grownBy m (some c.pb) := za (zf (zc w (some c.pb)) _) H; have s1 := H.size
  try simp at s1
  have a3 : RB m w.heap.size := RB.keep (RB.new' (by simp)) H (by omega); have d3 := a3.lt; obtain ⟨_,_,_,_,_,_,_,_,_,_,_⟩ := id a3; go_wp2_with fail; go_at_call 137; refine (yb c _ O d kIS _ rfl (by decide) (PS.alloc p1 _)).mono ?_; rintro e w2 ⟨b2,j2,c2,rfl,J,p2,g2⟩; have G2 : w.grownBy w2 (some c.pb) := za (zf G1 _) J; have s2 := J.size
  try simp at s2
  have Q : RB w2 w.heap.size := RB.keep (RB.alloc a3 _) J (by omega); have R : NB w2 m.heap.size (.int .i64 x) (.string ⟨z.toArray⟩) (.int .i64 A) (.int .i64 o) (.slice g f.length j) := NB.keep (NB.new' (by simp)) J (by omega); have c3 : LR w2 (In r m.heap.size) f (.slice g f.length j) := LR.call (LR.alloc I _) J (by omega); have d4 := Q.lt; have d5 := R.lt; obtain ⟨_,_,_,_,_,_,_,_,_,_,_⟩ := id Q; obtain ⟨_,_,_,_,_,_⟩ := id R; cases b2
  · obtain ⟨a4,a5⟩ := gi c2
    rw [a5] at p2; have Z : xh c.L E F i = _ := c1.trans (if_neg a4); go_wp2_with fail; go_at_call 68; refine (yR c _ O d p2).mono ?_; rintro e B ⟨rfl,l⟩; have p3 : PS c B O d := PS.kept p2 l; have G3 : w.grownBy B (some c.pb) := za G2 (zv l (some c.pb)); have s3 := l.size
    try simp at s3
    have n : RB B w.heap.size := RB.kept Q l (by simp); have C : NB B m.heap.size (.int .i64 x) (.string ⟨z.toArray⟩) (.int .i64 A) (.int .i64 o) (.slice g f.length j) := NB.kept R l (by simp); have U : LR B (In r m.heap.size) f (.slice g f.length j) := LR.grown c3 l; have a6 := n.lt; have a7 := C.lt; obtain ⟨_,_,_,_,_,_,_,_,_,_,_⟩ := id n; obtain ⟨_,_,_,_,_,_⟩ := id C; go_wp2_with fail; go_at_call 200; refine (gW (wd c.L O) _).mono ?_; rintro e w_ ⟨rfl,rfl⟩; cases a8 : vZ (wd c.L O)
    · have c4 : xh c.L E F i = _ := Z.trans (if_neg (by rw [a8]; decide))
      go_wp2; refine zj Tryz.results173 rfl (RB.five ?_) rfl ?_
      · exact n
      refine Steps.ok (a := (T.mk x z A o f)) c4 ⟨_,rfl,?_⟩ ?_ ?_ (by omega)
      · refine LR.wide (lo := r) (hi := m.heap.size) (ts := f) ?_ (by omega) (by first | omega | (simp <;> omega))
        exact LR.p5 U (by omega)
      · exact zy G3 (by omega)
      · exact PS.p5 p3 HL.out (by omega)
    · have a0 : xh c.L E F i = _ := Z.trans (if_pos a8)
      go_wp2_with fail; go_at_call 139; refine (xg c _ O d p3 (ti a8)).mono ?_; rintro e w4 ⟨rfl,K,p4⟩; have G4 : w.grownBy w4 (some c.pb) := za G3 K; have s4 := K.size
      try simp at s4
      have a9 : RB w4 w.heap.size := RB.keep n K (by omega); have b0 : NB w4 m.heap.size (.int .i64 x) (.string ⟨z.toArray⟩) (.int .i64 A) (.int .i64 o) (.slice g f.length j) := NB.keep C K (by omega); have d6 : LR w4 (In r m.heap.size) f (.slice g f.length j) := LR.call U K (by omega); have d7 := a9.lt; have d8 := b0.lt; obtain ⟨_,_,_,_,_,_,_,_,_,_,_⟩ := id a9; obtain ⟨_,_,_,_,_,_⟩ := id b0; go_wp2_with fail
      go_region_with (first
        | (go_at_call 199
           refine (hX.call _ (O + 1) (PS.drew p4) trivial).mono ?_; rintro e G (⟨x5,b4,c5,s⟩ | ⟨⟨k5,n5,m5,q5,M⟩,j5,v5,b4,rfl,⟨g3,rfl,D⟩,s,p5,g4⟩)
           focus
             have HT := c5; obtain ⟨q,rfl,-⟩ := c5
             exact ⟨rfl,Steps.err (a0.trans (P.bind_err b4)) HT (zh G4) s⟩
           have d9 : xh c.L E F i = _ := a0.trans (P.bind_ok b4); simp only [T.kind,T.name,T.num,T.at',T.subs] at D ⊢; obtain ⟨V,X,rfl⟩ := D.form; obtain ⟨b5,f0,D⟩ : ∃ b,b = _ /\ LR G (In b G.heap.size) M (.slice V M.length X) := ⟨_,rfl,D⟩
           try simp at f0
           have G5 : w.grownBy G (some c.pb) := za (zh G4) s; have s5 := s.size
           try simp at s5
           have b6 : RB G w.heap.size := RB.keep (RB.drew a9) s (by omega); have b7 : NB G m.heap.size (.int .i64 x) (.string ⟨z.toArray⟩) (.int .i64 A) (.int .i64 o) (.slice g f.length j) := NB.keep (NB.drew b0) s (by omega); have c6 : LR G (In r m.heap.size) f (.slice g f.length j) := LR.call (LR.drew d6) s (by omega); have f1 := b6.lt; have f2 := b7.lt; obtain ⟨_,_,_,_,_,_,_,_,_,_,_⟩ := id b6
           obtain ⟨_,_,_,_,_,_⟩ := id b7)
        | (go_at_call 201
           refine (uV _ (wd c.L O) (T.mk x z A o f) (T.mk k5 n5 m5 q5 M) (In r G.heap.size) (.slice g f.length j) (.slice V M.length X) (show LR _ (In r G.heap.size) f (.slice g f.length j) from LR.wide (lo := r) (hi := m.heap.size) c6 (by omega) (by omega)) (show LR _ (In r G.heap.size) M (.slice V M.length X) from LR.wide (lo := b5) (hi := G.heap.size) D (by omega) (by omega)) (fun k hk => hk.2)).mono ?_; simp only [T.at']; rintro e Y ⟨g5,rfl,c7,u⟩; obtain ⟨f3,f4,rfl⟩ := c7.form; have p6 : PS c Y j5 d := PS.kept p5 u; have G6 : w.grownBy Y (some c.pb) := za G5 (zv u (some c.pb)); have s6 := u.size
           try simp at s6
           have b8 : RB Y w.heap.size := RB.kept b6 u (by simp); have c8 : NB Y m.heap.size (.int .i64 x) (.string ⟨z.toArray⟩) (.int .i64 A) (.int .i64 o) (.slice g f.length j) := NB.kept b7 u (by simp); have g6 : LR Y (In r m.heap.size) f (.slice g f.length j) := LR.grown c6 u; have g7 : LR Y (In b5 G.heap.size) M (.slice V M.length X) := LR.grown D u; have f5 := b8.lt; have f6 := c8.lt; obtain ⟨_,_,_,_,_,_,_,_,_,_,_⟩ := id b8; obtain ⟨_,_,_,_,_,_⟩ := id c8
           have f7 : LR Y (In r Y.heap.size) [(T.mk x z A o f),(T.mk k5 n5 m5 q5 M)] (.slice f3 2 f4) := c7.mono (fun k hk => by
             rcases hk with hk | hk
             · have h1 : k < G.heap.size := hk.2
               exact ⟨hk.1,by omega⟩
             · exact ⟨by omega,hk.2⟩)))
      all_goals
        go_wp2; refine zj Tryz.results173 rfl (RB.five ?_) rfl ?_
        · exact b8
        refine Steps.ok (a := (T.mk 36 (wd c.L O) 0 o [(T.mk x z A o f),(T.mk k5 n5 m5 q5 M)])) d9 ⟨_,rfl,?_⟩ ?_ ?_ (by omega)
        · refine LR.wide (lo := r) (hi := Y.heap.size) (ts := [(T.mk x z A o f),(T.mk k5 n5 m5 q5 M)]) ?_ (by omega) (by first | omega | (simp <;> omega))
          exact LR.p5 f7 (by omega)
        · exact zy G6 (by omega)
        · exact PS.p5 p6 HL.out (by omega)
  · obtain ⟨a4,a5⟩ := db c2
    rw [a5] at p2; have a1 : xh c.L E F i = _ := c1.trans (if_pos a4); go_wp2_with fail
    go_region_with (first
      | (go_at_call 177
         refine (yF c _ (O + 1) d (PS.drew p2)).mono ?_; rintro e B (⟨x3,b9,c9,l⟩ | ⟨⟨k3,n3,m3,q3,l3⟩,j3,v3,b9,rfl,⟨g8,rfl,N⟩,l,p3,g9⟩)
         focus
           have HT := c9; obtain ⟨q,rfl,-⟩ := c9
           exact ⟨rfl,Steps.err (a1.trans (P.bind_err b9)) HT (zh G2) l⟩
         have f8 : xh c.L E F i = _ := a1.trans (P.bind_ok b9); simp only [T.kind,T.name,T.num,T.at',T.subs] at N ⊢; obtain ⟨d0,d1,rfl⟩ := N.form; obtain ⟨b3,f9,N⟩ : ∃ b,b = _ /\ LR B (In b B.heap.size) l3 (.slice d0 l3.length d1) := ⟨_,rfl,N⟩
         try simp at f9
         have G3 : w.grownBy B (some c.pb) := za (zh G2) l; have s3 := l.size
         try simp at s3
         have n : RB B w.heap.size := RB.keep (RB.drew Q) l (by omega); have C : NB B m.heap.size (.int .i64 x) (.string ⟨z.toArray⟩) (.int .i64 A) (.int .i64 o) (.slice g f.length j) := NB.keep (NB.drew R) l (by omega); have U : LR B (In r m.heap.size) f (.slice g f.length j) := LR.call (LR.drew c3) l (by omega); have a6 := n.lt; have a7 := C.lt; obtain ⟨_,_,_,_,_,_,_,_,_,_,_⟩ := id n
         obtain ⟨_,_,_,_,_,_⟩ := id C))
    all_goals
      go_wp2; refine zj Tryz.results173 rfl (NB.alloc (RB.five ?_) _) rfl ?_
      · exact n
      refine Steps.ok (a := (T.mk 37 [] 0 o [(T.mk x z A o f),(T.mk k3 n3 m3 q3 l3)])) f8 ⟨_,rfl,?_⟩ ?_ ?_ (by omega)
      · refine LR.wide (lo := r) (hi := B.heap.size + 1) (ts := [(T.mk x z A o f),(T.mk k3 n3 m3 q3 l3)]) ?_ (by omega) (by first | omega | (simp <;> omega))
        exact (LR.build2 _ (t := (T.mk x z A o f)) (t2 := (T.mk k3 n3 m3 q3 l3)) (sv := .slice g f.length j) (sv2 := .slice d0 l3.length d1) (LR.wide (lo := r) (hi := m.heap.size) (ts := f) (LR.p5 U (by omega)) (by omega) (by first | omega | (simp <;> omega))) (LR.wide (lo := b3) (hi := B.heap.size) (ts := l3) (LR.p5 N (by omega)) (by omega) (by first | omega | (simp <;> omega))) (by simp) rfl (by omega))
      · exact zf (zy G3 (by omega)) _
      · exact PS.alloc (PS.p5 p3 HL.out (by omega)) _
section
variable {w w' : World} {S S2 S' : Nat -> Prop} {ts us : List T} {v v' : Value} {svs uvs : List Value} {row : Option Nat}
theorem LR.appendS (h : ∀ b,v.ownBlock = some b -> S b) (hl : svs.length = ts.length)
  (hs : ∀ (i : Nat) (t : T) (sv : Value),ts[i]? = some t -> svs[i]? = some sv -> LR w (fun k => S k /\ v.ownBlock ≠ some k) t.subs sv)
  (hu : uvs.length = us.length) (hus : ∀ (i : Nat) (t : T) (sv : Value),us[i]? = some t -> uvs[i]? = some sv -> LR w S2 t.subs sv)
  (hd : ∀ k,S2 k -> v.ownBlock ≠ some k) (h1 : ∀ k,S k -> S' k) (h2 : ∀ k,S2 k -> S' k) (h3 : S' w.heap.size)
  (own : w'.ownsRow 0 100 5 v' (ts.length + us.length) (xa ts svs ++ xa us uvs)) (hg : w.grownBy w' row) (hrow : row = v.ownBlock)
  (hat : v'.ownBlock = v.ownBlock \/ v'.ownBlock = some w.heap.size) : LR w' S' (ts ++ us) v' := by
 subst hrow
 have d : ∀ (l : List T) (sv : Value),LR w (fun k => S' k /\ v.ownBlock ≠ some k) l sv -> LR w' (fun k => S' k /\ v'.ownBlock ≠ some k) l sv := by
  intro l sv f; refine (f.bounded.kept hg (fun b hb hs' => hs'.1.2 hb)).mono (fun k hk => ⟨hk.1.1,fun e => ?_⟩)
  rcases hat with hat | hat
  ·exact hk.1.2 (hat ▸ e)
  ·have g := hk.2
   rw [hat] at e; cases e
   omega
 refine .mk _ _ _ (svs ++ uvs) (by simp [hl,hu]) (by rw [ur _ _ _ _ hl,List.length_append]; exact own) (fun b hb => ?_) (fun i t sv h1' h2' => d _ _ ?_)
 ·rcases hat with hat | hat
  ·exact h1 b (h b (hat ▸ hb))
  ·rw [hat] at hb
   cases hb
   exact h3
 ·rcases Nat.lt_or_ge i ts.length with c | c
  ·rw [List.getElem?_append_left c] at h1'
   rw [List.getElem?_append_left (by omega)] at h2'
   exact (hs i t sv h1' h2').mono (fun k hk => ⟨h1 k hk.1,hk.2⟩)
  ·rw [List.getElem?_append_right c] at h1'
   rw [List.getElem?_append_right (by omega),hl] at h2'
   exact (hus _ t sv h1' h2').mono (fun k hk => ⟨h2 k hk,hd k hk⟩)
end
theorem xL {ops : Array Oper} {o : Oper} {a : Act} {w : World} {K : Act -> World -> Prop} {Q : Exit -> Act -> World -> Prop} {E : Prop} (hgd : o.guard = none) (s x : Operand)
  (ho : o.op = .call { callee := .builtin .append,args := #[s,x],argTypes := #[80,80] })
  {S S2 : Nat -> Prop} (S' : Nat -> Prop) {g m c : Nat} {ts us : List T} {v : Value} (hs : a.eval s = v) (hx : a.eval x = .slice (some ⟨g,0,none⟩) m c) (hl : LR w S ts v) (hu : LR w S2 us (.slice (some ⟨g,0,none⟩) m c))
  (hd : ∀ k,S2 k -> v.ownBlock ≠ some k) (h1 : ∀ k,S k -> S' k) (h2 : ∀ k,S2 k -> S' k) (h3 : S' w.heap.size) (hlen : ts.length + us.length <= 20000)
  (k : ∀ v' w',LR w' S' (ts ++ us) v' -> w.grownBy w' v.ownBlock -> K (a.put o.dst v') w') :
  if Region.wanted o (yielded ops a.tmps) = true then Oper.wp Tryz.prog o a w K Q else E := by
 have D : Region.wanted o (yielded ops a.tmps) = true := by simp [Region.wanted,hgd]
 rw [if_pos D]; obtain ⟨F,j,l,n,q⟩ := info_parts Tryz.infoNode; obtain ⟨svs,r,own,z,f⟩ := hl.own; obtain ⟨uvs,e,b,_,d⟩ := hu.own
 have G : m = us.length := by
  rcases b.2 with ⟨A,_⟩ | ⟨_,_,_,A,_⟩
  ·cases A
  ·cases A; rfl
 subst G; obtain ⟨v',w',H,h,C,_,B⟩ := run_append_own_at (P := Tryz.prog) w 0 80 o.type 100 F _ 5 64 Tryz.underlying80 j l n q rfl (by decide) v ts.length (xa ts svs) own ⟨g,0,none⟩ us.length c (xa us uvs)
  (yk _ _ e) (b.cells rfl) (fun u hu' => hU us uvs e (fun i t sv ht hsv => (d i t sv ht hsv).form) u hu') (by unfold maxLen; omega) (by omega) (Nat.zero_le _)
 unfold Oper.wp execOp
 simp only [ho,resolve,invoke,builtin,Sem.run_bind,Sem.run_pure,Result.andThen_ok,List.map_toArray,List.map_cons,List.map_nil,hs,hx,H]
 exact k v' w' (LR.appendS z r f e (fun i t sv ht hsv => (d i t sv ht hsv).mono (fun k hk => hk.1)) hd h1 h2 h3 h C rfl B) C
theorem te {ops : Array Oper} {o : Oper} {a : Act} {w : World} {K : Act -> World -> Prop} {Q : Exit -> Act -> World -> Prop} {E : Prop} (hgd : o.guard = none) (s x : Operand)
  (ho : o.op = .call { callee := .builtin .append,args := #[s,x],argTypes := #[80,80] })
  {g n c : Nat} (hs : a.eval s = .slice (some ⟨g,0,none⟩) n c) (hx : a.eval x = .slice none 0 0) (hn : n <= c)
  (k : K (a.put o.dst (.slice (some ⟨g,0,none⟩) n c)) w) :
  if Region.wanted o (yielded ops a.tmps) = true then Oper.wp Tryz.prog o a w K Q else E := by
 have d : Region.wanted o (yielded ops a.tmps) = true := by simp [Region.wanted,hgd]
 rw [if_pos d]; obtain ⟨_,b,_,_,_⟩ := info_parts Tryz.infoNode
 have e : (Builtin.append_ #[80,80] o.type #[.slice (some ⟨g,0,none⟩) n c,.slice none 0 0]).run Tryz.prog w = .ok (.slice (some ⟨g,0,none⟩) n c) w := by
  simp [Builtin.append_,run_underlying Tryz.underlying80,sizeOf,typeInfo,b,Builtin.lenOf,Builtin.firstCells,loadCells,hn]
  rfl
 unfold Oper.wp execOp
 simp only [ho,resolve,invoke,builtin,Sem.run_bind,Sem.run_pure,Result.andThen_ok,List.map_toArray,List.map_cons,List.map_nil,hs,hx,e]
 exact k
set_option maxHeartbeats 2000000
theorem dN {L : List Tok} {E A : P T} {f j : Nat} {acc : List T} (h : xA (wd L j) = true) (hf : 0 < f) : yl L E A f acc j = ((yu L yy).bind fun b => if b = true then yl L E A (f - 1) acc else P.ret acc) j := by
 obtain ⟨c,rfl⟩ : ∃ c,f = c + 1 := ⟨f - 1,by omega⟩; rw [yl]
 dsimp only
 rw [if_pos h]
 rfl
theorem vM {α β γ : Type} (p : P α) (k : α -> P β) (m : β -> P γ) : (p.bind k).bind m = p.bind fun a => (k a).bind m := by
 funext i
 unfold P.bind
 cases p i <;> rfl
theorem dD {L : List Tok} {E A : P T} {f j : Nat} {acc : List T} (h : xA (wd L j) = false) (hf : 0 < f) : yl L E A f acc j = ((xp L E A).bind fun t => (yu L yy).bind fun b => if b = true then yl L E A (f - 1) (acc ++ [t]) else P.ret (acc ++ [t])) j := by
 obtain ⟨c,rfl⟩ : ∃ c,f = c + 1 := ⟨f - 1,by omega⟩; rw [yl]
 dsimp only
 rw [if_neg (by rw [h]; decide),vM]
 rfl
theorem dj (c : PC) (w : World) (i d : Nat) (E A : P T) (h : PS c w i d)
    (hA : ∀ (w : World) (i : Nat),PS c w i d -> xA (wd c.L i) = false -> Calls Tryz.prog 207 #[.pointer (some ⟨c.pb,0,none⟩)] w (Steps c w i d (fun w' t v => TR w' w.heap.size w'.heap.size t v) (xp c.L E A i))) :
    Calls Tryz.prog 181 #[.pointer (some ⟨c.pb,0,none⟩)] w (Steps c w i d (fun w' t v => TR w' w.heap.size w'.heap.size t v) (tL c.L E A i)) := by
  have HP := ze h; have HL := ze h.low; have hb := h.lt; have d1 := h.good.few; have HA := ze hA; clear h hA
  go_enter Tryz.func181,Tryz.ntmps181
  go_wp2_with fail; go_at_call 87; refine (zI c _ i d 1 (PS.alloc HP.out _)).mono ?_; rintro e x ⟨rfl,B⟩; have p1 : PS c x i d := PS.kept (PS.alloc HP.out _) B; have G1 : w.grownBy x (some c.pb) := za (zf (zc w (some c.pb)) _) (zv B (some c.pb)); have s1 := B.size
  simp at s1
  have r1 : RB x w.heap.size := RB.kept (RB.new' (by simp)) B (by simp); have S0 := ze (SI.mk (c := c) (w := w) (i := i) (d := d) (r := yl c.L E A (c.L.length + 1) [] i) (q := yl c.L E A) (f := c.L.length + 1) (j := i) (acc := []) (lo := x.heap.size + 1) (wr := x.alloc (.cells #[.int .i64 1,.string ⟨#[]⟩,.int .i64 0,.int .i64 (pos c.L i),.slice none 0 0] 100)) (v := .slice none 0 0) (LR.nil _ _) (PS.alloc p1 _) (zf G1 _) rfl (by omega) (by simp) (Nat.le_refl _) (by omega) (by simp)); have N0 := ze (NB.new' (w := x) (v0 := .int .i64 1) (v1 := .string ⟨#[]⟩) (v2 := .int .i64 0) (v3 := .int .i64 (pos c.L i)) (v4 := .slice none 0 0) (t := 100) rfl); have R0 := ze (r1.alloc (.cells #[.int .i64 1,.string ⟨#[]⟩,.int .i64 0,.int .i64 (pos c.L i),.slice none 0 0] 100)); clear p1 G1 B r1; go_wp2_with fail
  go_loopw [] (fun wr => ∃ (acc : List T) (v : Value) (j f lo : Nat),NB wr x.heap.size (.int .i64 1) (.string ⟨#[]⟩) (.int .i64 0) (.int .i64 (pos c.L i)) v /\ RB wr w.heap.size /\ x.heap.size + 1 <= lo /\ Hid (SI c w i d (yl c.L E A (c.L.length + 1) [] i) (yl c.L E A) v wr acc j f lo)) (fun wr => c.L.length - atOf wr c.pb)
  case atStart => exact ⟨[],_,i,_,_,N0.out,R0.out,Nat.le_refl _,S0⟩
  case round =>
    obtain ⟨acc,v,j,f,lo,a8,a9,O,HS⟩ := hrel; clear S0 N0 R0; have z := HS.out; have b0 := z.ps; have b1 := z.low; have d2 := z.low2; have d3 := z.len; have d5 := z.fuel; have d6 := z.le; have d7 := z.ps.il; obtain ⟨ad,cp,rfl⟩ := z.lr.form; have c0 := ze z.lr; have HG := ze z.gb; have b2 := ze z.same; have H := ze b0; have c1 := ze a8; have c2 := ze a9; clear z HS b0 a8 a9; go_wp2_with fail; go_at_call 206; refine (vG c _ j d H.out).mono ?_; rintro e w2 ⟨rfl,u⟩; have s2 := u.size; have p2 : PS c w2 j d := H.out.kept u; have G2 : w.grownBy w2 (some c.pb) := za HG.out (zv u _); have I := c1.out.kept u (by simp); have U := c2.out.kept u (by simp); have b3 := c0.out.grown u; have c3 := I.lt; have c4 := U.lt; cases V : xA (wd c.L j)
    · have J : Hid (yl c.L E A (c.L.length + 1) [] i = _) := b2.out.trans (dD V (by omega))
      obtain ⟨x0,x1,x2,x3,x4,xz⟩ := id I; go_wp2_with fail
      go_region_law (first
        | (go_simp
           go_at_call 207; refine (HA.out _ j (PS.drew p2) V).mono ?_; rintro e Q (⟨x4,X,b4,m⟩ | ⟨⟨Y,Z,m4,q4,R⟩,j4,v4,X,rfl,⟨d8,rfl,C⟩,m,p4,d9⟩)
           focus
             have HT := b4; obtain ⟨q,rfl,-⟩ := b4
             exact ⟨rfl,Steps.err (P.bind_err (J.out.trans (P.bind_err X))) HT (zh G2) m⟩
           simp only [T.kind,T.name,T.num,T.at',T.subs] at C ⊢; obtain ⟨b5,b7,rfl⟩ := C.form; have s4 := m.size
           try simp at s4
           have a0 : NB Q x.heap.size (.int .i64 1) (.string ⟨#[]⟩) (.int .i64 0) (.int .i64 (pos c.L i)) (.slice ad acc.length cp) := NB.kept (NB.drew I) m (by simp; omega); have b8 : RB Q w.heap.size := RB.kept (RB.drew U) m (by simp; omega); have G4 : w.grownBy Q (some c.pb) := za (zh G2) m; have a1 : LR Q (In lo wr.heap.size) acc (.slice ad acc.length cp) := LR.call (LR.drew b3) m (by omega); have C := LR.wide C (lo' := w2.heap.size) (by simp) (Nat.le_refl _); have c5 := a0.lt; have c6 := b8.lt
           obtain ⟨z0,z1,z2,z3,z4,zz⟩ := id a0)
        | (refine xL (v := .slice ad acc.length cp) rfl _ _ rfl (In lo (Q.heap.size + 2)) rfl rfl (LR.alloc a1 _) (LR.build1 Q (cs := #[.int .i64 Y,.string ⟨Z.toArray⟩,.int .i64 m4,.int .i64 q4,.slice b5 R.length b7]) (t := T.mk Y Z m4 q4 R) (sv := .slice b5 R.length b7) C rfl rfl (by omega))
             (fun k hk e => by have h1 := a1.rows k e; have h2 : w2.heap.size <= k := hk.1; omega) (fun k hk => ⟨hk.1,by have h : k < wr.heap.size := hk.2; omega⟩) (fun k hk => ⟨by have h : w2.heap.size <= k := hk.1; omega,by have h : k < Q.heap.size + 1 := hk.2; omega⟩) ⟨by simp; omega,by simp⟩ (by simp; omega) ?_
           intro v5 K M D; obtain ⟨a2,a3,e5⟩ := M.form; rw [List.length_append,List.length_singleton] at e5; subst e5; have s := a1.rows; have s5 := D.size
           try simp at s5
           have a4 : NB K x.heap.size (.int .i64 1) (.string ⟨#[]⟩) (.int .i64 0) (.int .i64 (pos c.L i)) (.slice ad acc.length cp) := NB.kept (a0.alloc _) D (fun e => by have := s _ e.symm; omega); have b9 : RB K w.heap.size := RB.kept (b8.alloc _) D (fun e => by have := s _ e.symm; omega); have p5 : PS c K j4 d := PS.own (p4.alloc _) HL.out D (fun b hb => by have := s b hb; omega); have G5 : w.grownBy K (some c.pb) := yX (zf G4 _) D (fun b hb => by have := s b hb; omega); have f0 : Q.heap.size + 2 <= K.heap.size \/ True := .inr trivial; have c7 := a4.lt; have c8 := b9.lt
           obtain ⟨z0,z1,z2,z3,z4,zz⟩ := id a4))
      all_goals
        have c9 : yl c.L E A (c.L.length + 1) [] i = _ := J.out.trans (P.bind_ok X); have M : LR K (In lo K.heap.size) (acc ++ [T.mk Y Z m4 q4 R]) (.slice a2 (acc.length + 1) a3) := M.bounded.mono (fun k hk => ⟨hk.1.1,hk.2⟩); have d4 := p4.il; go_wp2_with fail; go_at_call 137; refine (yb c _ j4 d yy _ rfl (by decide) (PS.put p5 HL.out (by omega) _ _)).mono ?_; rintro e N ⟨b6,j6,n,rfl,g,p6,d0⟩; have F : yl c.L E A (c.L.length + 1) [] i = _ := c9.trans (P.bind_ok n); have s6 := g.size
        try simp at s6
        have G6 : w.grownBy N (some c.pb) := za (zq G5 (by omega) _ _) g; have o : NB N x.heap.size (.int .i64 1) (.string ⟨#[]⟩) (.int .i64 0) (.int .i64 (pos c.L i)) (.slice a2 (acc.length + 1) a3) := NB.kept (NB.s4 a4 _) g (by simp; omega); have l : RB N w.heap.size := RB.kept (RB.put b9 _ _ _) g (by simp; omega); have G : LR N (In lo K.heap.size) (acc ++ [T.mk Y Z m4 q4 R]) (.slice a2 (acc.length + 1) a3) := LR.call (LR.put M (by omega) _ _) g (by omega); have a5 := o.lt; have a6 := l.lt; obtain ⟨x0,x1,x2,x3,x4,xz⟩ := id o; obtain ⟨_,_,_,_,_,y0,y1,y2,y3,y4,yz⟩ := id l; cases b6
        · have a7 := jT n
          go_wp2; refine zj Tryz.results181 rfl (RB.five ?_) rfl ?_
          · exact l
          refine Steps.ok (a := T.mk 1 [] 0 (pos c.L i) (acc ++ [T.mk Y Z m4 q4 R])) (P.bind_ok (p := yl c.L E A (c.L.length + 1) []) F) ⟨_,rfl,?_⟩ ?_ ?_ (by omega)
          · refine LR.wide (lo := lo) (hi := K.heap.size) (ts := acc ++ [T.mk Y Z m4 q4 R]) ?_ (by omega) (by first | omega | (simp <;> omega))
            exact LR.p5 G (by omega)
          · exact zy G6 (by omega)
          · exact PS.p5 p6 HL.out (by omega)
        · have a7 := qZ n
          go_wp2; refine ⟨⟨acc ++ [T.mk Y Z m4 q4 R],_,j6,f - 1,lo,o,l,O,SI.mk (G.wide (Nat.le_refl _) (by omega)) p6 G6 F (by omega) (by (try simp only [List.length_append,List.length_singleton]); omega) (by omega) b1 (by omega)⟩,?_⟩; rw [p6.atOf,H.out.atOf]
          omega
    · have J : yl c.L E A (c.L.length + 1) [] i = _ := b2.out.trans (dN V (by omega))
      go_wp2_with fail; go_at_call 137; refine (yb c _ j d yy _ rfl (by decide) p2).mono ?_; rintro e N ⟨b6,j6,n,rfl,g,p6,d0⟩; have F : yl c.L E A (c.L.length + 1) [] i = _ := J.trans (P.bind_ok n); have s6 := g.size
      try simp at s6
      have G6 : w.grownBy N (some c.pb) := za G2 g; have o : NB N x.heap.size (.int .i64 1) (.string ⟨#[]⟩) (.int .i64 0) (.int .i64 (pos c.L i)) (.slice ad acc.length cp) := NB.kept I g (by simp; omega); have l : RB N w.heap.size := RB.kept U g (by simp; omega); have G : LR N (In lo wr.heap.size) acc (.slice ad acc.length cp) := LR.call b3 g (by omega); have a5 := o.lt; have a6 := l.lt; obtain ⟨x0,x1,x2,x3,x4,xz⟩ := id o; obtain ⟨_,_,_,_,_,y0,y1,y2,y3,y4,yz⟩ := id l; cases b6
      · have a7 := jT n
        go_wp2; refine zj Tryz.results181 rfl (RB.five ?_) rfl ?_
        · exact l
        refine Steps.ok (a := T.mk 1 [] 0 (pos c.L i) acc) (P.bind_ok (p := yl c.L E A (c.L.length + 1) []) F) ⟨_,rfl,?_⟩ ?_ ?_ (by omega)
        · refine LR.wide (lo := lo) (hi := wr.heap.size) (ts := acc) ?_ (by omega) (by first | omega | (simp <;> omega))
          exact LR.p5 G (by omega)
        · exact zy G6 (by omega)
        · exact PS.p5 p6 HL.out (by omega)
      · have a7 := qZ n
        go_wp2; refine ⟨⟨acc,_,j6,f - 1,lo,o,l,O,SI.mk (G.wide (Nat.le_refl _) (by omega)) p6 G6 F (by omega) (by (try simp only [List.length_append,List.length_singleton]); omega) (by omega) b1 (by omega)⟩,?_⟩; rw [p6.atOf,H.out.atOf]
        omega
end Go.Proofs.YtnmkffjklpfflaaGreatDoor
