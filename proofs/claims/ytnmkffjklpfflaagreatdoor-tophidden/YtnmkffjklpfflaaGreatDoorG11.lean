/- What names mean: modules ahead of a point,what they show,type names. -/
import Derived.Test.YtnmkffjklpfflaaGreatDoorG09
import Derived.Test.YtnmkffjklpfflaaGreatDoorG10
import Derived.Deep.QuietTactic
import Derived.BigQuiet
import Derived.Deep.RegionWith
import Derived.LaidEqlPtr
import Derived.Deep.RegionHeld
namespace Go.Proofs.YtnmkffjklpfflaaGreatDoor
open Go.RowKit
set_option maxHeartbeats 400000
set_option maxRecDepth 100000
section
variable {ρ : Lay} {w w' : World} {S : KS} {b : Nat} {c : KSc}
theorem gn : ρ.mdP none = .pointer none := rfl
theorem qR (t : Nat) : ρ.mdP (some t) = .pointer (some ⟨ρ.md t,0,none⟩) := rfl
theorem uh : ρ.tyP none = .pointer none := rfl
theorem yd (t : Nat) : ρ.tyP (some t) = .pointer (some ⟨ρ.ty t,0,none⟩) := rfl
theorem nu (t : Nat) : ρ.prP (some t) = .pointer (some ⟨ρ.pr t,0,none⟩) := rfl
theorem ks (h : CK ρ w S b c) {x : Nm} {t : Nat} (e : S.find c x = some t) : t < S.ths.length := by
 unfold KS.find at e
 cases d : S.innerOf c.inner x with
 | none => rw [d] at e; exact h.ok.nm c.home h.hc x t e
 | some u =>
  rw [d] at e; cases e; obtain ⟨_,inner⟩ := c; cases inner with
  | none => cases d
  | some p => exact h.ok.inn p (h.hi p rfl) x _ d
theorem vT (h : CK ρ w S b c) (x : Nm) (hx : x.length <= maxLen) :
  Calls Tryz.prog 186 #[.pointer (some ⟨b,0,none⟩),.string ⟨x.toArray⟩] w fun e w' => e = .returned (ρ.mdP (S.imported c x)) /\ w' = w := by
 have f := ze (kx h x hx); cases d : S.find c x with
 | none =>
  rw [d,zO] at f; rw [show S.imported c x = none by simp [KS.imported,d]]
  go_enter Tryz.func186,Tryz.ntmps186
  go_wp2_with (go_at_call 188; refine f.out.mono ?_; rintro e g ⟨rfl,rfl⟩)
  go_ret
  exact ⟨rfl,rfl⟩
 | some t =>
  rw [d,ya] at f; rw [show S.imported c x = (S.th t).mod by simp [KS.imported,d]]; have i := (h.km.th t (ks h d)).bk.c 10 _ rfl; clear h
  go_enter Tryz.func186,Tryz.ntmps186
  go_wp2_with (go_at_call 188; refine f.out.mono ?_; rintro e g ⟨rfl,rfl⟩)
  go_ret
  exact ⟨rfl,rfl⟩
theorem gE (h : KM ρ w S) (ho : KOk S) {m : Nat} (hm : m < S.mds.length) (x : Nm) (hx : x.length <= maxLen) :
  Calls Tryz.prog 187 #[.pointer (some ⟨ρ.md m,0,none⟩),.string ⟨x.toArray⟩] w fun e w' => e = .returned (ρ.thP (S.shown m x)) /\ w' = w := by
 obtain ⟨k,l,n,g,-⟩ := (h.md m hm).bk; have o : w.cell? ⟨ρ.md m,8,none⟩ = some (.map (some (ρ.nm m))) := g.c 8 _ rfl; have i := xn (h.md m hm).mp x hx; clear g; cases d : lk (S.md m).names x with
 | none =>
  rw [d,zO] at i; rw [show S.shown m x = none by simp [KS.shown,d]]
  go_enter Tryz.func187,Tryz.ntmps187
  go_wp2
  go_ret
  exact ⟨rfl,rfl⟩
 | some t =>
  rw [d,ya] at i; have j : w.cell? ⟨ρ.th t,2,none⟩ = some (.bool (S.th t).exp) := (h.th t (ho.nm m hm x t d)).bk.c 2 _ rfl; clear h; cases f : (S.th t).exp
  ·rw [f] at j
   rw [show S.shown m x = none by simp [KS.shown,d,f]]
   go_enter Tryz.func187,Tryz.ntmps187
   go_wp2
   go_ret
   exact ⟨rfl,rfl⟩
  ·rw [f] at j
   rw [show S.shown m x = some t by simp [KS.shown,d,f]]
   go_enter Tryz.func187,Tryz.ntmps187
   go_wp2
   go_ret
   exact ⟨rfl,rfl⟩
theorem jK (h : CK ρ w S b c) (n : T) (sv : Value) (ha : AT w n.subs sv) (hs : n.kind = 25 -> 0 < n.subs.length) :
  Calls Tryz.prog 185 #[.pointer (some ⟨b,0,none⟩),zn n sv] w (Sy w (ρ.mdP (S.ahead c n))) := by
 have z := ze h; obtain ⟨f,x,m,p,l⟩ := n
 change Calls Tryz.prog 185 #[.pointer (some ⟨b,0,none⟩),.agg #[.int .i64 f,.string ⟨x.toArray⟩,.int .i64 m,.int .i64 p,sv]] w _
 by_cases j : f = 25
 ·subst j
  cases l with
  | nil => simp [T.kind,T.subs] at hs
  | cons u r =>
   obtain ⟨g,o,G,H,rfl,A,B,k,s,C,-⟩ := ha.cons; obtain ⟨i,d,t,up,v⟩ := u; have D : w.cell? ⟨g,o,none⟩ = some (.int .i64 i) := k.c0; have I : w.cell? ⟨g,o + 1,none⟩ = some (.string ⟨d.toArray⟩) := k.c1; have E : d.length <= maxLen := s.name; have J : g < w.heap.size := zw D; clear ha k C hs h s
   by_cases q : i = 24
   ·subst q
    rw [show S.ahead c (.mk 25 x m p (.mk 24 d t up v :: r)) = S.imported c d from rfl]
    go_enter Tryz.func185,Tryz.ntmps185
    go_wp2_with (go_at_call 186; refine (vT (z.out.up (zf (zc w none) _)) d E).mono ?_; rintro e K ⟨rfl,rfl⟩)
    go_ret
    exact ⟨rfl,zf (zc w none) _⟩
   ·rw [show S.ahead c (.mk 25 x m p (.mk i d t up v :: r)) = none by simp [KS.ahead,sub,T.kind,T.subs,q]]
    have F : decide (i = 24) = false := by simpa using q
    go_enter Tryz.func185,Tryz.ntmps185
    go_wp2
    go_ret
    exact ⟨rfl,zf (zc w none) _⟩
 ·rw [show S.ahead c (.mk f x m p l) = none by simp [KS.ahead,T.kind,j]]
  have F : decide (f = 25) = false := by simpa using j
  go_enter Tryz.func185,Tryz.ntmps185
  go_wp2
  go_ret
  exact ⟨rfl,zf (zc w none) _⟩
end
def Cy (w : World) (r : CR Value) : Ending -> World -> Prop := fun e w' => w.grownBy w' none /\ match r with
 | .ok v => e = .returned v
 | .error x => Threw w x.2 x.1 e w'
section
variable {ρ : Lay} {w w' w1 : World} {S : KS} {b : Nat} {c : KSc}
theorem Cy.ok {v : Value} (hg : w.grownBy w' none) : Cy w (.ok v) (.returned v) w' := ⟨hg,rfl⟩
theorem Cy.err {x : Int × Int} {e : Ending} (hg : w.grownBy w1 none) (h : Cy w1 (.error x) e w') : Cy w (.error x) e w' := ⟨za hg h.1,Threw.up h.2 hg⟩
theorem Cy.thrown {x : Int × Int} {e : Ending} (h : Cy w (.error x) e w') : ∃ q,e = .panicked [{ v := .iface 103 (.pointer (some ⟨q,0,none⟩)),recovered := false }] := by
 obtain ⟨_,q,h,_⟩ := h
 exact ⟨q,h⟩
theorem pK (w : World) (o : Obj) {k n : Int} : Threw w k n (.panicked [{ v := .iface 103 (.pointer (some ⟨w.heap.size + 1,0,none⟩)),recovered := false }]) ((w.alloc o).alloc (.cells #[.int .i64 0,.int .i64 k,.iface 56 (.int .i64 n)] 113)) := by
 have h := jM (w := w) (wr := w.alloc o) (k := k) (n := n) (World.grownBy_alloc w o none).size; rwa [show (w.alloc o).heap.size = w.heap.size + 1 by simp] at h
theorem zu (w : World) (n : T) (sv : Value) (k : Int) : Calls Tryz.prog 53 #[zn n sv,.int .i64 k] w (Cy w (.error (k,n.at'))) := by
 obtain ⟨d,x,m,p,_⟩ := n
 change Calls Tryz.prog 53 #[.agg #[.int .i64 d,.string ⟨x.toArray⟩,.int .i64 m,.int .i64 p,sv],.int .i64 k] w (Cy w (.error (k,p)))
 go_enter Tryz.func53,Tryz.ntmps53
 go_wp2
 exact ⟨rfl,zf (zf (zc w none) _) _,pK w _⟩
theorem dQ (h : CK ρ w S b c) (n : T) (sv : Value) (hf : Fits n) (ha : AT w n.subs sv) (hs : n.kind = 25 -> 0 < n.subs.length) :
    Calls Tryz.prog 184 #[.pointer (some ⟨b,0,none⟩),zn n sv] w (Sy w (ρ.thP (S.meaning c n))) := by
  have g := ze h; have o := ze ha; have r := ze hs; have u := hf.name
  have v : ∀ m,S.ahead c n = some m -> m < S.mds.length := by
    intro m d
    unfold KS.ahead at d
    split at d
    · split at d
      · unfold KS.imported at d
        split at d
        · rename_i t ht
          exact h.ok.mod t (ks h ht) m d
        · cases d
      · cases d
    · cases d
  obtain ⟨f,x,m,p,l⟩ := n
  change Calls Tryz.prog 184 #[.pointer (some ⟨b,0,none⟩),.agg #[.int .i64 f,.string ⟨x.toArray⟩,.int .i64 m,.int .i64 p,sv]] w _
  clear h ha hs hf
  by_cases k : f = 24
  · subst k
    rw [show S.meaning c (.mk 24 x m p l) = S.find c x from rfl]; clear o r v
    go_enter Tryz.func184,Tryz.ntmps184
    go_wp2_with (go_at_call 188; refine (kx (g.out.up (zf (zc w none) _)) x u).mono ?_; rintro e w1 ⟨rfl,rfl⟩)
    go_ret
    exact ⟨rfl,zf (zc w none) _⟩
  · have A : decide (f = 24) = false := by simpa using k
    cases i : S.ahead c (.mk f x m p l) with
    | none =>
      rw [show S.meaning c (.mk f x m p l) = none by simp [KS.meaning,T.kind,k,i,KS.shownIn]]
      go_enter Tryz.func184,Tryz.ntmps184
      go_wp2_with (go_at_call 185; refine (jK (g.out.up (zf (zc w none) _)) (.mk f x m p l) sv (o.out.kept (zf (zc w none) _)) r.out).mono ?_; rw [i,gn]; rintro e w1 ⟨rfl,j⟩)
      go_ret
      exact ⟨rfl,za (zf (zc w none) _) j⟩
    | some q =>
      rw [show S.meaning c (.mk f x m p l) = S.shown q x by simp [KS.meaning,T.kind,T.name,k,i,KS.shownIn]]; have s := v q i
      go_enter Tryz.func184,Tryz.ntmps184
      go_wp2_with (first
        | (go_at_call 185; refine (jK (g.out.up (zf (zc w none) _)) (.mk f x m p l) sv (o.out.kept (zf (zc w none) _)) r.out).mono ?_; rw [i,qR]; rintro e w1 ⟨rfl,j⟩; have z := Box.kept (Box.new w (.mk f x m p l) sv 100) j; have B := z.c1)
        | (go_at_call 187; refine (gE (g.out.up (za (zf (zc w none) _) j)).km g.out.ok s x u).mono ?_; rintro e C ⟨rfl,rfl⟩))
      go_ret
      exact ⟨rfl,za (zf (zc w none) _) j⟩
end
set_option maxHeartbeats 1000000
section
variable {ρ : Lay} {w w' w1 : World} {S : KS} {b : Nat} {c : KSc}
theorem uZ (h : CK ρ w S b c) {x : Nm} {m : Nat} (e : S.imported c x = some m) : m < S.mds.length := by
 unfold KS.imported at e
 split at e
 ·rename_i t ht
  exact h.ok.mod t (ks h ht) m e
 ·cases e
theorem sC (h : CK ρ w S b c) {m : Nat} (hm : m < S.mds.length) {x : Nm} {t : Nat} (e : S.shown m x = some t) : t < S.ths.length := by
 unfold KS.shown at e
 split at e
 ·rename_i u hu
  split at e
  ·cases e
   exact h.ok.nm m hm x _ hu
  ·cases e
 ·cases e
theorem uC (h : CK ρ w S b c) {n : T} {t : Nat} (e : S.typeThing c n = some t) : t < S.ths.length := by
 unfold KS.typeThing at e
 split at e
 ·cases d : S.imported c (sub n 0).name with
  | none => rw [d] at e; cases e
  | some m => rw [d] at e; exact sC h (uZ h d) e
 ·split at e
  ·rename_i u hu
   cases e; have f := h.ok.two; simp only [yc,lk] at hu
   split at hu
   ·cases hu; omega
   ·split at hu
    ·cases hu; omega
    ·cases hu
  ·exact ks h e
theorem KM.w3 (h : KM ρ w S) : w.cell? ⟨ρ.wd,3,none⟩ = some (.map (some ρ.ba)) := h.wd.c 3 _ rfl
theorem gu (h : CK ρ w S b c) (n : T) (sv : Value) (hf : Fits n) (ha : AT w n.subs sv) :
    Calls Tryz.prog 154 #[.pointer (some ⟨b,0,none⟩),zn n sv] w (Sy w (ρ.thP (S.typeThing c n))) := by
  have f := ze h; have s := hf.name; obtain ⟨j,x,m,p,l⟩ := n; have G : Hid (w.grownBy (w.alloc (.cells #[.int .i64 j,.string ⟨x.toArray⟩,.int .i64 m,.int .i64 p,sv] 100)) none) := zf (zc w none) _
  change Calls Tryz.prog 154 #[.pointer (some ⟨b,0,none⟩),.agg #[.int .i64 j,.string ⟨x.toArray⟩,.int .i64 m,.int .i64 p,sv]] w _
  cases l with
  | nil =>
    obtain ⟨a,E,rfl,F,-⟩ := ha.zero rfl
    have z := fun n => xn (f.out.up (zo G.out n)).km.ba x s
    have s0 := h.s0; have w3 := h.km.w3; have H := zw s0; have I := zw w3; simp only at H I; clear h ha hf; cases d : lk yc x with
    | some t =>
      simp only [d,ya] at z; rw [show S.typeThing c (.mk j x m p []) = some t by simp [KS.typeThing,T.subs,T.name,d]]
      go_enter Tryz.func154,Tryz.ntmps154
      go_wp2
      go_quiet (fail)
      go_wp2
      go_ret
      exact ⟨rfl,zo (zf (zc w none) _) _⟩
    | none =>
      simp only [d,zO] at z; rw [show S.typeThing c (.mk j x m p []) = S.find c x by simp [KS.typeThing,T.subs,T.name,d]]
      go_enter Tryz.func154,Tryz.ntmps154
      go_wp2
      go_quiet (fail)
      go_wp2_with (go_at_call 188; refine (kx (f.out.up (zo G.out _)) x s).mono ?_; rintro e w1 ⟨rfl,rfl⟩)
      go_ret
      exact ⟨rfl,zo (zf (zc w none) _) _⟩
  | cons u r =>
    obtain ⟨g,o,E,N,rfl,J,K,A,k,L,-⟩ := ha.cons; obtain ⟨B,i,C,up,D⟩ := u; have M : w.cell? ⟨g,o + 1,none⟩ = some (.string ⟨i.toArray⟩) := A.c1; have k : i.length <= maxLen := k.name; have O : g < w.heap.size := zw M; clear ha A L h hf; cases d : S.imported c i with
    | none =>
      rw [show S.typeThing c (.mk j x m p (.mk B i C up D :: r)) = none by simp [KS.typeThing,T.subs,T.name,sub,d,KS.shownIn]]
      go_enter Tryz.func154,Tryz.ntmps154
      go_wp2_with (go_at_call 186; refine (vT (f.out.up G.out) i k).mono ?_; rw [d,gn]; rintro e w1 ⟨rfl,rfl⟩)
      go_ret
      exact ⟨rfl,G.out⟩
    | some q =>
      rw [show S.typeThing c (.mk j x m p (.mk B i C up D :: r)) = S.shown q x by simp [KS.typeThing,T.subs,T.name,sub,d,KS.shownIn]]; have v := uZ f.out d
      go_enter Tryz.func154,Tryz.ntmps154
      go_wp2_with (first
        | (go_at_call 186; refine (vT (f.out.up G.out) i k).mono ?_; rw [d,qR]; rintro e w1 ⟨rfl,rfl⟩)
        | (go_at_call 187; refine (gE (f.out.up G.out).km f.out.ok v x s).mono ?_; rintro e Q ⟨rfl,rfl⟩))
      go_ret
      exact ⟨rfl,G.out⟩
end
section
variable {ρ : Lay} {w w' w1 : World} {S : KS} {b : Nat} {c : KSc}
theorem ut (h : CK ρ w S b c) {n : T} {t : Nat} (e : S.namedType c n = .ok t) : t < S.tys.length := by
 unfold KS.namedType at e
 split at e
 ·cases e
 ·rename_i u hu
  split at e
  ·rename_i hk
   obtain ⟨i,d⟩ := h.ok.kty u (uC h hu) hk; rw [d] at e; cases e
   exact h.ok.ty u (uC h hu) i d
  ·cases e
theorem KM.y (h : KM ρ w S) {t : Nat} (ht : t < S.tys.length) : ∃ fv,Bk w (ρ.ty t) (tyV ρ (S.ty t) fv) := by
 obtain ⟨fv,d,_⟩ := (h.ty t ht).bk
 exact ⟨fv,d⟩
theorem KM.y0 (h : KM ρ w S) {t : Nat} (ht : t < S.tys.length) : w.cell? ⟨ρ.ty t,0,none⟩ = some (.int .i64 (S.ty t).form) := by obtain ⟨_,h⟩ := h.y ht; exact h.c 0 _ rfl
theorem KM.y2 (h : KM ρ w S) {t : Nat} (ht : t < S.tys.length) : w.cell? ⟨ρ.ty t,2,none⟩ = some (ρ.mdP (S.ty t).home) := by obtain ⟨_,h⟩ := h.y ht; exact h.c 2 _ rfl
theorem KM.y3 (h : KM ρ w S) {t : Nat} (ht : t < S.tys.length) : w.cell? ⟨ρ.ty t,3,none⟩ = some (.int .i64 (S.ty t).words) := by obtain ⟨_,h⟩ := h.y ht; exact h.c 3 _ rfl
theorem KM.y5 (h : KM ρ w S) {t : Nat} (ht : t < S.tys.length) : w.cell? ⟨ρ.ty t,5,none⟩ = some (ρ.tyP (S.ty t).of) := by obtain ⟨_,h⟩ := h.y ht; exact h.c 5 _ rfl
theorem KM.y7 (h : KM ρ w S) {t : Nat} (ht : t < S.tys.length) : w.cell? ⟨ρ.ty t,7,none⟩ = some (.bool (S.ty t).complete) := by obtain ⟨_,h⟩ := h.y ht; exact h.c 7 _ rfl
theorem jb (h : CK ρ w S b c) (n : T) (sv : Value) (hf : Fits n) (ha : AT w n.subs sv) :
  Calls Tryz.prog 106 #[.pointer (some ⟨b,0,none⟩),zn n sv] w (Cy w ((S.namedType c n).map fun t => .pointer (some ⟨ρ.ty t,0,none⟩))) := by
 have J := ze (fun w1 (G : w.grownBy w1 none) => gu (h.up G) n sv hf (ha.kept G)); have O := ze h.km
 have f : ∀ t,S.typeThing c n = some t -> t < S.ths.length := fun t ht => uC h ht
 have k : ∀ t,S.typeThing c n = some t -> (S.th t).kind = 2 -> ∃ i,(S.th t).ty = some i := fun t ht r => h.ok.kty t (f t ht) r
 obtain ⟨g,x,m,p,l⟩ := n
 change Calls Tryz.prog 106 #[.pointer (some ⟨b,0,none⟩),.agg #[.int .i64 g,.string ⟨x.toArray⟩,.int .i64 m,.int .i64 p,sv]] w _
 obtain ⟨v,j⟩ : ∃ z,z = w.alloc (.cells #[.int .i64 g,.string ⟨x.toArray⟩,.int .i64 m,.int .i64 p,sv] 100) := ⟨_,rfl⟩
 have u : Hid (w.grownBy v none) := by rw [j]; exact zf (zc w none) _
 have K : Hid (Box v w.heap.size (.mk g x m p l) sv) := by rw [j]; exact Box.new w (.mk g x m p l) sv _
 clear h ha hf; cases o : S.typeThing c (.mk g x m p l) with
 | none =>
  clear f k; rw [show S.namedType c (.mk g x m p l) = .error (5,p) by simp [KS.namedType,o,thr,T.at']]
  go_enter Tryz.func106,Tryz.ntmps106
  go_wp2_with fail
  go_region_with (first | (go_at_call 154; rw [<- j]; refine (J.out _ (zh u.out)).mono ?_; rw [o,zO]; rintro e w1 ⟨rfl,d⟩))
  all_goals
   have s := ze (za (zh u.out) d); have I : Hid (Box w1 w.heap.size (.mk g x m p l) sv) := Box.kept K.out (za (zh (zc v none)) d); obtain ⟨A,B,C,D,E⟩ := I.out; go_wp2_with fail; go_at_call 53; refine (zu _ (.mk g x m p l) sv 5).mono ?_; rintro e U F; have L := F; obtain ⟨q,rfl⟩ := F.thrown
   exact ⟨rfl,L.err s.out⟩
 | some t =>
  have M : Hid (w.cell? ⟨ρ.th t,0,none⟩ = some (.int .i64 (S.th t).kind)) := (O.out.th t (f t o)).bk.c 0 _ rfl; have Q : Hid (w.cell? ⟨ρ.th t,4,none⟩ = some (ρ.tyP (S.th t).ty)) := (O.out.th t (f t o)).bk.c 4 _ rfl
  by_cases r : (S.th t).kind = 2
  ·obtain ⟨i,N⟩ := k t o r
   rw [r] at M; rw [N,yd] at Q; rw [show S.namedType c (.mk g x m p l) = .ok i by simp [KS.namedType,o,r,N]]; clear f k r N
   go_enter Tryz.func106,Tryz.ntmps106
   go_wp2_with fail
   go_region_with (first | (go_at_call 154; rw [<- j]; refine (J.out _ (zh u.out)).mono ?_; rw [o,ya]; rintro e w1 ⟨rfl,d⟩))
   all_goals
    have s := ze (za (zh u.out) d); have I : Hid (Box w1 w.heap.size (.mk g x m p l) sv) := Box.kept K.out (za (zh (zc v none)) d); have H := zi s.out M.out; have R := zi s.out Q.out; go_wp2
    go_ret
    exact Cy.ok s.out
  ·rw [show S.namedType c (.mk g x m p l) = .error (8,p) by simp [KS.namedType,o,r,thr,T.at']]
   have V : decide ((S.th t).kind = 2) = false := by simpa using r
   clear f k
   go_enter Tryz.func106,Tryz.ntmps106
   go_wp2_with fail
   go_region_with (first | (go_at_call 154; rw [<- j]; refine (J.out _ (zh u.out)).mono ?_; rw [o,ya]; rintro e w1 ⟨rfl,d⟩))
   all_goals
    have s := ze (za (zh u.out) d); have I : Hid (Box w1 w.heap.size (.mk g x m p l) sv) := Box.kept K.out (za (zh (zc v none)) d); have H := zi s.out M.out; obtain ⟨A,B,C,D,E⟩ := I.out; go_wp2_with fail; go_at_call 53; refine (zu _ (.mk g x m p l) sv 8).mono ?_; rintro e U F; have L := F; obtain ⟨q,rfl⟩ := F.thrown
    exact ⟨rfl,L.err s.out⟩
theorem ym (h : CK ρ w S b c) (n : T) (sv : Value) (hf : Fits n) (ha : AT w n.subs sv) :
  Calls Tryz.prog 74 #[.pointer (some ⟨b,0,none⟩),zn n sv] w (Cy w ((S.typeName c n).map fun t => .pointer (some ⟨ρ.ty t,0,none⟩))) := by
 have v := ze (fun w1 (G : w.grownBy w1 none) => jb (h.up G) n sv hf (ha.kept G)); have H := ze h.km
 have A : ∀ t,S.namedType c n = .ok t -> t < S.tys.length := fun t ht => ut h ht
 obtain ⟨d,x,m,p,l⟩ := n
 change Calls Tryz.prog 74 #[.pointer (some ⟨b,0,none⟩),.agg #[.int .i64 d,.string ⟨x.toArray⟩,.int .i64 m,.int .i64 p,sv]] w _
 obtain ⟨r,f⟩ : ∃ z,z = w.alloc (.cells #[.int .i64 d,.string ⟨x.toArray⟩,.int .i64 m,.int .i64 p,sv] 100) := ⟨_,rfl⟩
 have j : Hid (w.grownBy r none) := by rw [f]; exact zf (zc w none) _
 have C : Hid (Box r w.heap.size (.mk d x m p l) sv) := by rw [f]; exact Box.new w (.mk d x m p l) sv _
 clear h ha hf; cases i : S.namedType c (.mk d x m p l) with
 | error z =>
  rw [show S.typeName c (.mk d x m p l) = .error z by simp [KS.typeName,i,Except.bind]]
  go_enter Tryz.func74,Tryz.ntmps74
  go_wp2_with fail; go_at_call 106; rw [<- f]; refine (v.out _ j.out).mono ?_; rw [i]; rintro e w1 D; have B := D; obtain ⟨q,rfl⟩ := D.thrown
  exact ⟨rfl,B.err j.out⟩
 | ok t =>
  have s : Hid (w.cell? ⟨ρ.ty t,7,none⟩ = some (.bool (S.ty t).complete)) := H.out.y7 (A t i); cases u : (S.ty t).complete
  ·rw [u] at s
   rw [show S.typeName c (.mk d x m p l) = .error (5,p) by simp [KS.typeName,i,u,Except.bind,thr,T.at']]
   go_enter Tryz.func74,Tryz.ntmps74
   go_wp2_with fail; go_at_call 106; rw [<- f]; refine (v.out _ j.out).mono ?_; rw [i]; rintro e w1 ⟨g,rfl⟩; have k := ze (za j.out g); have E : Hid (Box w1 w.heap.size (.mk d x m p l) sv) := Box.kept C.out (za (zc r none) g); have o := zi k.out s.out; obtain ⟨_,_,_,_,_⟩ := E.out; go_wp2_with fail; go_at_call 53; refine (zu _ (.mk d x m p l) sv 5).mono ?_; rintro e I F; have B := F; obtain ⟨q,rfl⟩ := F.thrown
   exact ⟨rfl,B.err k.out⟩
  ·rw [u] at s
   rw [show S.typeName c (.mk d x m p l) = .ok t by simp [KS.typeName,i,u,Except.bind]]
   go_enter Tryz.func74,Tryz.ntmps74
   go_wp2_with fail; go_at_call 106; rw [<- f]; refine (v.out _ j.out).mono ?_; rw [i]; rintro e w1 ⟨g,rfl⟩; have k := ze (za j.out g); have E : Hid (Box w1 w.heap.size (.mk d x m p l) sv) := Box.kept C.out (za (zc r none) g); have o := zi k.out s.out; go_wp2
   go_ret
   exact Cy.ok k.out
end
section
variable {ρ : Lay} {w w' w1 : World} {S : KS} {b : Nat} {c : KSc}
structure KTys (S : KS) : Prop where
 rc : ∀ i,i < S.tys.length -> (S.ty i).form = 4 -> ∀ j,(S.ty i).of = some j -> j < i /\ (S.ty j).form = 4
 fd : ∀ i,i < S.tys.length -> ∀ d ∈ (S.ty i).fields,d.ty < S.tys.length
 hm : ∀ i,i < S.tys.length -> (S.ty i).form = 4 -> ∃ m,(S.ty i).home = some m /\ m < S.mds.length
 pt : ∀ i,i < S.tys.length -> (S.ty i).form = 5 -> (S.ty i).complete = true -> ∃ j,(S.ty i).of = some j /\ j < S.tys.length /\ (S.ty j).form = 4
 ar : ∀ i,i < S.tys.length -> (S.ty i).form = 3 -> (S.ty i).complete = true -> ∃ j,(S.ty i).of = some j /\ j < S.tys.length
theorem mX (h : KM ρ w S) {i j : Nat} (hi : i < S.tys.length) (hj : j < S.tys.length) (e : ρ.ty i = ρ.ty j) : i = j := by
 have d := (h.ty i hi).col; have f := (h.ty j hj).col; rw [e,f] at d; cases d
 rfl
theorem qP {o : Option TypeInfo} {n : Nat} (h : o.map (·.size) = some (n + 1)) : ∃ j,o = some j /\ j.size ≠ 0 := by
 cases o with
 | none => cases h
 | some j => exact ⟨j,rfl,by simp only [Option.map_some,Option.some.injEq] at h; omega⟩
theorem nD : (Tryz.prog.info? 54).map (·.size) = some 8 := by kernel_rfl
theorem sP : (Tryz.prog.info? 85).map (·.size) = some 9 := by kernel_rfl
theorem xN {t : TypeId} {a b : Option Addr} {x : Bool} (h : (binOp .eql t (.pointer a) (.pointer b)).run Tryz.prog w = .ok (.bool x) w) : (binOp .neq t (.pointer a) (.pointer b)).run Tryz.prog w = .ok (.bool (!x)) w := by
 simp only [binOp] at h ⊢
 simp at h ⊢
 cases d : (Op.equal t (.pointer a) (.pointer b)).run Tryz.prog w <;> rw [d] at h <;> simp_all
theorem jx (h : KM ρ w S) {i j : Nat} (hi : i < S.tys.length) (hj : j < S.tys.length) (x : Bool) (hx : decide (i = j) = x) :
  (binOp .eql 47 (.pointer (some ⟨ρ.ty i,0,none⟩)) (.pointer (some ⟨ρ.ty j,0,none⟩))).run Tryz.prog w = .ok (.bool x) w := by
 obtain ⟨_,f,g⟩ := qP nD
 by_cases e : i = j
 ·subst e
  rw [<- hx,run_eql_ptr_same w _ Tryz.underlying47 f]
  simp
 ·obtain ⟨_,k⟩ := h.y hi
  obtain ⟨_,l⟩ := h.y hj; obtain ⟨_,_,m⟩ := k.ob; obtain ⟨_,_,n⟩ := l.ob; rw [<- hx,run_eql_ptr_other w Tryz.underlying47 f g (by intro d; injection d with d; exact e (mX h hi hj d)) m n]
  simp [e]
theorem mE (h : KM ρ w S) {i j : Nat} (hi : i < S.mds.length) (hj : j < S.mds.length) (e : ρ.md i = ρ.md j) : i = j := by
 have d := (h.md i hi).col; have f := (h.md j hj).col; rw [e,f] at d; cases d
 rfl
theorem rL (h : KM ρ w S) {i j : Nat} (hi : i < S.mds.length) (hj : j < S.mds.length) (x : Bool) (hx : decide (i = j) = x) :
  (binOp .eql 51 (.pointer (some ⟨ρ.md i,0,none⟩)) (.pointer (some ⟨ρ.md j,0,none⟩))).run Tryz.prog w = .ok (.bool x) w := by
 obtain ⟨_,f,g⟩ := qP sP
 by_cases e : i = j
 ·subst e
  rw [<- hx,run_eql_ptr_same w _ Tryz.underlying51 f]
  simp
 ·obtain ⟨_,_,_,k,_⟩ := (h.md i hi).bk
  obtain ⟨_,_,_,l,_⟩ := (h.md j hj).bk; obtain ⟨_,_,m⟩ := k.ob; obtain ⟨_,_,n⟩ := l.ob; rw [<- hx,run_eql_ptr_other w Tryz.underlying51 f g (by intro d; injection d with d; exact e (mE h hi hj d)) m n]
  simp [e]
theorem qc (hT : KTys S) (o : Nat) : ∀ (f g i : Nat),i < f -> i < g -> i < S.tys.length -> (S.ty i).form = 4 -> S.extF f i o = S.extF g i o
 | f + 1,g + 1,i,hf,hg,hi,h4 => by
  unfold KS.extF
  split
  ·rfl
  ·cases hq : (S.ty i).of with
   | none => rfl
   | some q =>
    obtain ⟨_,h2⟩ := hT.rc i hi h4 q hq
    exact qc hT o f g q (by omega) (by omega) (by omega) h2
theorem oK (hT : KTys S) {i o : Nat} (hi : i < S.tys.length) (h4 : (S.ty i).form = 4) : S.ext i o = if i = o then true else match (S.ty i).of with
  | none => false
  | some q => S.ext q o := by
 unfold KS.ext
 rw [KS.extF]
 split
 ·rfl
 ·cases d : (S.ty i).of with
  | none => rfl
  | some q =>
   obtain ⟨e,f⟩ := hT.rc i hi h4 q d
   exact qc hT o i (q + 1) q e (by omega) (by omega) f
def nR (ρ : Lay) : Value -> Nat
 | .pointer (some a) => match ρ.col a.block with
  | some (.ty i) => i + 1
  | _ => 0
 | _ => 0
theorem qH (h : KM ρ w S) {i : Nat} (hi : i < S.tys.length) : nR ρ (.pointer (some ⟨ρ.ty i,0,none⟩)) = i + 1 := by simp [nR,(h.ty i hi).col]
def ld (S : KS) (o : Nat) : Option Nat -> Bool
 | none => false
 | some i => S.ext i o
theorem vj (h : KM ρ w S) (hT : KTys S) {r o : Nat} (hr : r < S.tys.length) (ho : o < S.tys.length) (h4 : (S.ty r).form = 4) :
  Calls Tryz.prog 189 #[.pointer (some ⟨ρ.ty r,0,none⟩),.pointer (some ⟨ρ.ty o,0,none⟩)] w fun e w' => e = .returned (.bool (S.ext r o)) /\ w' = w := by
 have k := ze h; have l := ze hT; clear h hT
 go_enter Tryz.func189,Tryz.ntmps189
 go_wp2_with fail
 go_loop [5] (fun v => ∃ q : Option Nat,v = ρ.tyP q /\ Hid (∀ i,q = some i -> i < S.tys.length /\ (S.ty i).form = 4) /\ Hid (S.ext r o = ld S o q)) (fun v => nR ρ v)
 case atStart => exact ⟨some r,rfl,fun i d => by cases d; exact ⟨hr,h4⟩,rfl⟩
 case round =>
  obtain ⟨q,rfl,x,m⟩ := hrel; cases q with
  | none =>
   rw [uh]; go_wp2
   go_ret
   exact ⟨by rw [m.out]; rfl,rfl⟩
  | some i =>
   obtain ⟨d,g⟩ := x.out i rfl; have y5 := k.out.y5 d; have t := ze (oK l.out (o := o) d g); have z := ze (qH k.out d); rw [yd]
   by_cases f : i = o
   ·subst f
    have n := jx k.out d d true (by simp); go_wp2
    go_ret
    exact ⟨by rw [m.out]; show Ending.returned (.bool true) = .returned (.bool (S.ext i i)); rw [t.out]; simp,rfl⟩
   ·have n := jx k.out d ho false (by simpa using f)
    have A := ze f; clear f; go_wp2
    go_round
    case rel =>
     refine ⟨(S.ty i).of,rfl,fun j s => ?_,?_⟩
     ·obtain ⟨B,u⟩ := l.out.rc i d g j s
      exact ⟨by omega,u⟩
     ·show S.ext r o = ld S o (S.ty i).of
      rw [m.out]
      show S.ext i o = _
      rw [t.out,if_neg A.out]
      cases (S.ty i).of <;> rfl
    case measure =>
     rw [z.out]; cases s : (S.ty i).of with
     | none => exact Nat.succ_pos _
     | some j =>
      obtain ⟨B,u⟩ := l.out.rc i d g j s; rw [yd,qH k.out (by omega)]
      omega
end
section
variable {ρ : Lay} {w w' w1 : World} {S : KS} {b : Nat} {c : KSc}
def KS.typeOf (S : KS) (m : Nat) (x : Nm) : Option Nat := match lk (S.md m).names x with
 | some t => if (S.th t).kind = 2 then (S.th t).ty else none
 | none => none
theorem KM.wc0 (h : KM ρ w S) : w.cell? ⟨ρ.wd,0,none⟩ = some (.pointer (some ⟨ρ.ty 0,0,none⟩)) := h.wd.c 0 _ rfl
theorem KM.wc1 (h : KM ρ w S) : w.cell? ⟨ρ.wd,1,none⟩ = some (.pointer (some ⟨ρ.ty 1,0,none⟩)) := h.wd.c 1 _ rfl
theorem KM.wc2 (h : KM ρ w S) : w.cell? ⟨ρ.wd,2,none⟩ = some (.pointer (some ⟨ρ.ty 2,0,none⟩)) := h.wd.c 2 _ rfl
theorem zN (h : KM ρ w S) {t : Nat} (ht : t < S.tys.length) : Calls Tryz.prog 155 #[.pointer (some ⟨ρ.ty t,0,none⟩)] w fun e w' => e = .returned (.bool (S.oneWord t)) /\ w' = w := by
 have y0 := h.y0 ht; clear h
 by_cases d : (S.ty t).form = 3
 ·rw [show S.oneWord t = false by simp [KS.oneWord,d]]
  rw [d] at y0
  go_enter Tryz.func155,Tryz.ntmps155
  go_wp2
  go_ret
  exact ⟨rfl,rfl⟩
 ·have f : decide ((S.ty t).form = 3) = false := by simpa using d
  go_enter Tryz.func155,Tryz.ntmps155
  go_wp2
  go_ret
  exact ⟨rfl,rfl⟩
theorem xC (h : CK ρ w S b c) (x : Nm) : Calls Tryz.prog 150 #[.pointer (some ⟨b,0,none⟩),.string ⟨x.toArray⟩] w fun e w' => e = .returned (.pointer (some ⟨ρ.ty (yj x),0,none⟩)) /\ w' = w := by
 have s0 := h.s0; have g := h.km.wc0; have w1 := h.km.wc1; clear h
 by_cases d : x = oI
 ·rw [show yj x = 1 by simp [yj,d]]
  subst d
  go_enter Tryz.func150,Tryz.ntmps150
  go_wp2
  go_ret
  exact ⟨rfl,rfl⟩
 ·have i : (x == [38]) = false := by simpa [oI] using d
  by_cases f : x = mP
  ·rw [show yj x = 1 by simp [yj,f]]
   subst f
   go_enter Tryz.func150,Tryz.ntmps150
   go_wp2
   go_ret
   exact ⟨rfl,rfl⟩
  ·have j : (x == [79,82]) = false := by simpa [mP] using f
   rw [show yj x = 0 by simp [yj,d,f]]
   go_enter Tryz.func150,Tryz.ntmps150
   go_wp2
   go_ret
   exact ⟨rfl,rfl⟩
theorem xk (h : CK ρ w S b c) (x : Nm) : Calls Tryz.prog 151 #[.pointer (some ⟨b,0,none⟩),.string ⟨x.toArray⟩] w fun e w' => e = .returned (.pointer (some ⟨ρ.ty (yL x),0,none⟩)) /\ w' = w := by
 have s0 := h.s0; have l := h.km.wc0; have w1 := h.km.wc1; clear h
 by_cases d : x = [43] \/ x = [45] \/ x = [42] \/ x = [68,73,86] \/ x = [77,79,68]
 ·rw [show yL x = 0 by simp only [yL,if_pos d]]
  rcases d with rfl | rfl | rfl | rfl | rfl
  all_goals
   go_enter Tryz.func151,Tryz.ntmps151
   go_wp2
   go_ret
   exact ⟨rfl,rfl⟩
 ·rw [show yL x = 1 by simp only [yL,if_neg d]]
  simp only [not_or] at d; obtain ⟨f,g,i,j,k⟩ := d
  have m : (x == [43]) = false := by simpa using f
  have n : (x == [45]) = false := by simpa using g
  have o : (x == [42]) = false := by simpa using i
  have q : (x == [68,73,86]) = false := by simpa using j
  have r : (x == [77,79,68]) = false := by simpa using k
  go_enter Tryz.func151,Tryz.ntmps151
  go_wp2
  go_ret
  exact ⟨rfl,rfl⟩
theorem se (n : T) (sv : Value) : Calls Tryz.prog 72 #[zn n sv] w (Sy w (.int .i64 (if n.kind = 9 then 3 else if n.kind = 10 then 4 else 5))) := by
 obtain ⟨d,x,m,p,_⟩ := n
 change Calls Tryz.prog 72 #[.agg #[.int .i64 d,.string ⟨x.toArray⟩,.int .i64 m,.int .i64 p,sv]] w (Sy w (.int .i64 (if d = 9 then 3 else if d = 10 then 4 else 5)))
 by_cases e : d = 9
 ·subst e
  go_enter Tryz.func72,Tryz.ntmps72
  go_wp2
  go_ret
  exact ⟨rfl,zf (zc w none) _⟩
 ·have g : decide (d = 9) = false := by simpa using e
  rw [if_neg e]
  by_cases f : d = 10
  ·subst f
   go_enter Tryz.func72,Tryz.ntmps72
   go_wp2
   go_ret
   exact ⟨rfl,zf (zc w none) _⟩
  ·have h : decide (d = 10) = false := by simpa using f
   rw [if_neg f]
   go_enter Tryz.func72,Tryz.ntmps72
   go_wp2
   go_ret
   exact ⟨rfl,zf (zc w none) _⟩
theorem gk (h : KM ρ w S) (ho : KOk S) {m : Nat} (hm : m < S.mds.length) (x : Nm) (hx : x.length <= maxLen) : Calls Tryz.prog 28 #[.pointer (some ⟨ρ.md m,0,none⟩),.string ⟨x.toArray⟩] w fun e w' => e = .returned (ρ.tyP (S.typeOf m x)) /\ w' = w := by
 obtain ⟨k,l,n,g,-⟩ := (h.md m hm).bk; have o : w.cell? ⟨ρ.md m,8,none⟩ = some (.map (some (ρ.nm m))) := g.c 8 _ rfl; have i := xn (h.md m hm).mp x hx; clear g; cases d : lk (S.md m).names x with
 | none =>
  rw [d,zO] at i; rw [show S.typeOf m x = none by simp [KS.typeOf,d]]
  go_enter Tryz.func28,Tryz.ntmps28
  go_wp2
  go_ret
  exact ⟨rfl,rfl⟩
 | some t =>
  rw [d,ya] at i; have j : w.cell? ⟨ρ.th t,0,none⟩ = some (.int .i64 (S.th t).kind) := (h.th t (ho.nm m hm x t d)).bk.c 0 _ rfl; have q : w.cell? ⟨ρ.th t,4,none⟩ = some (ρ.tyP (S.th t).ty) := (h.th t (ho.nm m hm x t d)).bk.c 4 _ rfl; clear h
  by_cases f : (S.th t).kind = 2
  ·rw [f] at j
   rw [show S.typeOf m x = (S.th t).ty by simp [KS.typeOf,d,f]]
   go_enter Tryz.func28,Tryz.ntmps28
   go_wp2
   go_ret
   exact ⟨rfl,rfl⟩
  ·have r : decide ((S.th t).kind = 2) = false := by simpa using f
   rw [show S.typeOf m x = none by simp [KS.typeOf,d,f]]
   go_enter Tryz.func28,Tryz.ntmps28
   go_wp2
   go_ret
   exact ⟨rfl,rfl⟩
theorem zL (h : KM ρ w S) (n : T) (sv : Value) (ha : AT w n.subs sv) {t u : Nat} (ht : t < S.tys.length) (hu : u < S.tys.length) :
  Calls Tryz.prog 115 #[zn n sv,.pointer (some ⟨ρ.ty t,0,none⟩),.pointer (some ⟨ρ.ty u,0,none⟩)] w (Cy w ((yE n t u).map fun _ => .tuple #[])) := by
 have k := ze h; obtain ⟨g,x,m,p,l⟩ := n
 change Calls Tryz.prog 115 #[.agg #[.int .i64 g,.string ⟨x.toArray⟩,.int .i64 m,.int .i64 p,sv],.pointer (some ⟨ρ.ty t,0,none⟩),.pointer (some ⟨ρ.ty u,0,none⟩)] w _
 obtain ⟨o,d⟩ : ∃ z,z = w.alloc (.cells #[.int .i64 g,.string ⟨x.toArray⟩,.int .i64 m,.int .i64 p,sv] 100) := ⟨_,rfl⟩
 have i : Hid (w.grownBy o none) := by rw [d]; exact zf (zc w none) _
 have s : Hid (Box o w.heap.size (.mk g x m p l) sv) := by rw [d]; exact Box.new w (.mk g x m p l) sv _
 clear h ha
 by_cases f : t = u
 ·subst f
  have j := xN (jx (k.out.up i.out) ht hu true (by simp)); rw [d] at j; rw [show yE (.mk g x m p l) t t = .ok () by simp [yE]]
  go_enter Tryz.func115,Tryz.ntmps115
  go_wp2; refine bodyPost_end (results_none rfl _ _ _) rfl ?_
  exact Cy.ok (zf (zc w none) _)
 ·have j := xN (jx (k.out.up i.out) ht hu false (by simpa using f))
  rw [d] at j; rw [show yE (.mk g x m p l) t u = .error (7,p) by simp [yE,f,thr,T.at']]; clear f
  go_enter Tryz.func115,Tryz.ntmps115
  go_wp2_with fail; go_at_call 53; rw [<- d]; refine (zu _ (.mk g x m p l) sv 7).mono ?_; rintro e w1 q; have r := q; obtain ⟨_,rfl⟩ := q.thrown
  exact ⟨rfl,r.err i.out⟩
theorem qa (h : KM ρ w S) (n : T) (sv : Value) (ha : AT w n.subs sv) {t : Nat} (ht : t < S.tys.length) :
  Calls Tryz.prog 105 #[.pointer (some ⟨b,0,none⟩),zn n sv,.pointer (some ⟨ρ.ty t,0,none⟩)] w (Cy w ((S.record n t).map fun t => .pointer (some ⟨ρ.ty t,0,none⟩))) := by
 have y0 := h.y0 ht; have k := zw y0; simp only at k; obtain ⟨f,x,m,p,l⟩ := n
 change Calls Tryz.prog 105 #[.pointer (some ⟨b,0,none⟩),.agg #[.int .i64 f,.string ⟨x.toArray⟩,.int .i64 m,.int .i64 p,sv],.pointer (some ⟨ρ.ty t,0,none⟩)] w _
 obtain ⟨i,g⟩ : ∃ z,z = w.alloc (.cells #[.int .i64 f,.string ⟨x.toArray⟩,.int .i64 m,.int .i64 p,sv] 100) := ⟨_,rfl⟩
 have o : Hid (w.grownBy i none) := by rw [g]; exact zf (zc w none) _
 have r : Hid (Box i w.heap.size (.mk f x m p l) sv) := by rw [g]; exact Box.new w (.mk f x m p l) sv _
 clear h ha
 by_cases d : (S.ty t).form = 4
 ·rw [d] at y0
  rw [show S.record (.mk f x m p l) t = .ok t by simp [KS.record,d]]
  go_enter Tryz.func105,Tryz.ntmps105
  go_wp2
  go_ret
  exact Cy.ok (zf (zc w none) _)
 ·have s : decide ((S.ty t).form = 4) = false := by simpa using d
  rw [show S.record (.mk f x m p l) t = .error (7,p) by simp [KS.record,d,thr,T.at']]
  go_enter Tryz.func105,Tryz.ntmps105
  go_wp2_with fail; go_at_call 53; rw [<- g]; refine (zu _ (.mk f x m p l) sv 7).mono ?_; rintro e w1 j; have q := j; obtain ⟨_,rfl⟩ := j.thrown
  exact ⟨rfl,q.err o.out⟩
end
section
variable {ρ : Lay} {w w' w1 : World} {S : KS} {b : Nat} {c : KSc}
structure KAll (S : KS) : Prop extends KTys S where
 cp : ∀ i,i < S.tys.length -> (S.ty i).form ≠ 2 -> (S.ty i).complete = true
theorem KAll.p (h : KAll S) {i : Nat} (hi : i < S.tys.length) (h5 : (S.ty i).form = 5) : (S.ty i).of = some (S.of i) /\ S.of i < S.tys.length /\ (S.ty (S.of i)).form = 4 := by
 obtain ⟨j,d,e,f⟩ := h.pt i hi h5 (h.cp i hi (by omega))
 have : S.of i = j := by simp [KS.of,d]
 rw [this]
 exact ⟨d,e,f⟩
theorem KAll.a (h : KAll S) {i : Nat} (hi : i < S.tys.length) (h5 : (S.ty i).form = 3) : (S.ty i).of = some (S.of i) /\ S.of i < S.tys.length := by
 obtain ⟨j,d,e⟩ := h.ar i hi h5 (h.cp i hi (by omega))
 have : S.of i = j := by simp [KS.of,d]
 rw [this]
 exact ⟨d,e⟩
theorem yq (h : KM ρ w S) (hT : KAll S) {t o : Nat} (ht : t < S.tys.length) (ho : o < S.tys.length) : Calls Tryz.prog 156 #[.pointer (some ⟨ρ.ty t,0,none⟩),.pointer (some ⟨ρ.ty o,0,none⟩)] w (Sy w (.bool (S.takes t o))) := by
 have d := ze h; have i := ze hT; have y0 := h.y0 ht; have j := h.y0 ho
 by_cases e : t = o
 ·subst e
  have k := jx d.out ht ht true (by simp); clear h; rw [show S.takes t t = true by simp [KS.takes]]
  go_enter Tryz.func156,Tryz.ntmps156
  go_wp2
  go_ret
  exact ⟨rfl,zc w none⟩
 ·have k := jx d.out ht ho false (by simpa using e)
  by_cases h5 : (S.ty t).form = 5
  ·obtain ⟨f,l,_⟩ := hT.p ht h5
   have y5 := h.y5 ht; rw [f,yd] at y5; rw [h5] at y0
   by_cases g5 : (S.ty o).form = 5
   ·obtain ⟨g,m,n⟩ := hT.p ho g5
    have q := h.y5 ho; rw [g,yd] at q; rw [g5] at j; rw [show S.takes t o = S.ext (S.of o) (S.of t) by simp [KS.takes,e,h5,g5]]; clear h hT e f g
    go_enter Tryz.func156,Tryz.ntmps156
    go_wp2
    go_quiet (first | (go_at_call 189; exact Calls.quiet_of_same (vj (d.out.up (zo (zc w none) _)) i.out.toKTys m l n)) | fail)
    go_wp2
    go_ret
    exact ⟨rfl,zo (zc w none) _⟩
   ·have r : decide ((S.ty o).form = 5) = false := by simpa using g5
    rw [show S.takes t o = decide ((S.ty o).form = 2) by simp [KS.takes,e,h5,g5]]; clear h hT e f
    go_enter Tryz.func156,Tryz.ntmps156
    go_wp2
    go_ret
    exact ⟨rfl,zc w none⟩
  ·have s : decide ((S.ty t).form = 5) = false := by simpa using h5
   rw [show S.takes t o = false by simp [KS.takes,e,h5]]; clear h hT e
   go_enter Tryz.func156,Tryz.ntmps156
   go_wp2
   go_ret
   exact ⟨rfl,zc w none⟩
end
section
variable {ρ : Lay} {w w' w1 : World} {S : KS} {b : Nat} {c : KSc}
theorem uw (h : CK ρ w S b c) (hT : KAll S) {x y : Nat} (hx : x < S.tys.length) (hy : y < S.tys.length) :
  Calls Tryz.prog 208 #[.pointer (some ⟨b,0,none⟩),.pointer (some ⟨ρ.ty x,0,none⟩),.pointer (some ⟨ρ.ty y,0,none⟩)] w (Sy w (.bool (S.mayEq x y))) := by
 have f := ze h.km; have o := ze hT; have s0 := h.s0; have t := h.km.wc2; have z := h.ok.three; have u := jx h.km hx (show 2 < S.tys.length by omega) (decide (x = 2)) rfl; have v := jx h.km hy (show 2 < S.tys.length by omega) (decide (y = 2)) rfl; clear h hT; cases j : S.oneWord x
 ·rw [show S.mayEq x y = false by simp [KS.mayEq,j]]
  go_enter Tryz.func208,Tryz.ntmps208
  go_wp2_with fail; go_at_call 155; refine (zN (f.out.up (zc w none)) hx).mono ?_; rw [j]; rintro e w1 ⟨rfl,d⟩; rw [d]; clear d; go_wp2
  go_ret
  exact ⟨rfl,(zc w none)⟩
 cases l : S.oneWord y
 ·rw [show S.mayEq x y = false by simp [KS.mayEq,l]]
  go_enter Tryz.func208,Tryz.ntmps208
  go_wp2_with fail; go_at_call 155; refine (zN (f.out.up (zc w none)) hx).mono ?_; rw [j]; rintro e w1 ⟨rfl,d⟩; rw [d]; clear d; go_wp2_with fail; go_at_call 155; refine (zN (f.out.up (zc w none)) hy).mono ?_; rw [l]; rintro e w1 ⟨rfl,d⟩; rw [d]; clear d; go_wp2
  go_ret
  exact ⟨rfl,(zc w none)⟩
 by_cases i : x = 2 /\ y = 2
 ·rw [show S.mayEq x y = false by simp [KS.mayEq,i]]
  obtain ⟨rfl,rfl⟩ := i
  go_enter Tryz.func208,Tryz.ntmps208
  go_wp2_with fail; go_at_call 155; refine (zN (f.out.up (zc w none)) hx).mono ?_; rw [j]; rintro e w1 ⟨rfl,d⟩; rw [d]; clear d; go_wp2_with fail; go_at_call 155; refine (zN (f.out.up (zc w none)) hy).mono ?_; rw [l]; rintro e w1 ⟨rfl,d⟩; rw [d]; clear d; go_wp2
  go_ret
  exact ⟨rfl,(zc w none)⟩
 have q : (decide (x = 2) && decide (y = 2)) = false := by
  rw [Bool.and_eq_false_iff]
  rcases Classical.em (x = 2) with m | m
  ·exact .inr (by simpa using fun hy2 => i ⟨m,hy2⟩)
  ·exact .inl (by simpa using m)
 rw [show S.mayEq x y = (S.takes x y || S.takes y x) by simp [KS.mayEq,j,l,i]]
 generalize decide (x = 2) = d1 at u q
 generalize decide (y = 2) = d2 at v q
 clear i; cases r : S.takes x y
 ·cases d1
  ·clear q
   go_enter Tryz.func208,Tryz.ntmps208
   go_wp2_with fail; go_at_call 155; refine (zN (f.out.up (zc w none)) hx).mono ?_; rw [j]; rintro e w1 ⟨rfl,d⟩; rw [d]; clear d; go_wp2_with fail; go_at_call 155; refine (zN (f.out.up (zc w none)) hy).mono ?_; rw [l]; rintro e w1 ⟨rfl,d⟩; rw [d]; clear d; go_wp2_with fail; go_at_call 156; refine (yq (f.out.up (zc w none)) o.out hx hy).mono ?_; rw [r]; rintro e w1 ⟨rfl,g⟩; have k := ze (za (zc w none) g); go_wp2_with fail; go_at_call 156; refine (yq (f.out.up k.out) o.out hy hx).mono ?_; rintro e t ⟨rfl,n⟩; have s := ze (za k.out n); go_wp2
   go_ret
   exact ⟨rfl,s.out⟩
  ·obtain rfl : d2 = false := by simpa using q
   go_enter Tryz.func208,Tryz.ntmps208
   go_wp2_with fail; go_at_call 155; refine (zN (f.out.up (zc w none)) hx).mono ?_; rw [j]; rintro e w1 ⟨rfl,d⟩; rw [d]; clear d; go_wp2_with fail; go_at_call 155; refine (zN (f.out.up (zc w none)) hy).mono ?_; rw [l]; rintro e w1 ⟨rfl,d⟩; rw [d]; clear d; go_wp2_with fail; go_at_call 156; refine (yq (f.out.up (zc w none)) o.out hx hy).mono ?_; rw [r]; rintro e w1 ⟨rfl,g⟩; have k := ze (za (zc w none) g); go_wp2_with fail; go_at_call 156; refine (yq (f.out.up k.out) o.out hy hx).mono ?_; rintro e t ⟨rfl,n⟩; have s := ze (za k.out n); go_wp2
   go_ret
   exact ⟨rfl,s.out⟩
 ·cases d1
  ·clear q
   go_enter Tryz.func208,Tryz.ntmps208
   go_wp2_with fail; go_at_call 155; refine (zN (f.out.up (zc w none)) hx).mono ?_; rw [j]; rintro e w1 ⟨rfl,d⟩; rw [d]; clear d; go_wp2_with fail; go_at_call 155; refine (zN (f.out.up (zc w none)) hy).mono ?_; rw [l]; rintro e w1 ⟨rfl,d⟩; rw [d]; clear d; go_wp2_with fail; go_at_call 156; refine (yq (f.out.up (zc w none)) o.out hx hy).mono ?_; rw [r]; rintro e w1 ⟨rfl,g⟩; have k := ze (za (zc w none) g); go_wp2
   go_ret
   exact ⟨rfl,k.out⟩
  ·obtain rfl : d2 = false := by simpa using q
   go_enter Tryz.func208,Tryz.ntmps208
   go_wp2_with fail; go_at_call 155; refine (zN (f.out.up (zc w none)) hx).mono ?_; rw [j]; rintro e w1 ⟨rfl,d⟩; rw [d]; clear d; go_wp2_with fail; go_at_call 155; refine (zN (f.out.up (zc w none)) hy).mono ?_; rw [l]; rintro e w1 ⟨rfl,d⟩; rw [d]; clear d; go_wp2_with fail; go_at_call 156; refine (yq (f.out.up (zc w none)) o.out hx hy).mono ?_; rw [r]; rintro e w1 ⟨rfl,g⟩; have k := ze (za (zc w none) g); go_wp2
   go_ret
   exact ⟨rfl,k.out⟩
theorem tH {n : T} {t : Nat} (e : S.typeName c n = .ok t) : S.namedType c n = .ok t /\ (S.ty t).complete = true := by
 unfold KS.typeName at e
 cases d : S.namedType c n with
 | error z => rw [d] at e; cases e
 | ok u =>
  rw [d] at e; simp only [Except.bind] at e
  split at e
  ·rename_i hu
   cases e
   exact ⟨rfl,hu⟩
  ·cases e
theorem yM (h : CK ρ w S b c) {n : T} {t : Nat} (e : S.typeName c n = .ok t) : t < S.tys.length := ut h (tH e).1
theorem vW (h : CK ρ w S b c) (n : T) (sv : Value) (hf : Fits n) (ha : AT w n.subs sv) :
  Calls Tryz.prog 108 #[.pointer (some ⟨b,0,none⟩),zn n sv] w (Cy w ((S.oneWordType c n).map fun t => .pointer (some ⟨ρ.ty t,0,none⟩))) := by
 have v := ze (fun w1 (G : w.grownBy w1 none) => ym (h.up G) n sv hf (ha.kept G)); have C := ze h.km
 have A : ∀ t,S.typeName c n = .ok t -> t < S.tys.length := fun t r => yM h r
 obtain ⟨d,x,m,p,l⟩ := n
 change Calls Tryz.prog 108 #[.pointer (some ⟨b,0,none⟩),.agg #[.int .i64 d,.string ⟨x.toArray⟩,.int .i64 m,.int .i64 p,sv]] w _
 obtain ⟨s,f⟩ : ∃ z,z = w.alloc (.cells #[.int .i64 d,.string ⟨x.toArray⟩,.int .i64 m,.int .i64 p,sv] 100) := ⟨_,rfl⟩
 have k : Hid (w.grownBy s none) := by rw [f]; exact zf (zc w none) _
 have D : Hid (Box s w.heap.size (.mk d x m p l) sv) := by rw [f]; exact Box.new w (.mk d x m p l) sv _
 clear h ha hf; cases j : S.typeName c (.mk d x m p l) with
 | error z =>
  rw [show S.oneWordType c (.mk d x m p l) = .error z by simp [KS.oneWordType,j,Except.bind]]
  go_enter Tryz.func108,Tryz.ntmps108
  go_wp2_with fail; go_at_call 74; rw [<- f]; refine (v.out _ k.out).mono ?_; rw [j]; rintro e w1 E; have B := E; obtain ⟨q,rfl⟩ := E.thrown
  exact ⟨rfl,B.err k.out⟩
 | ok t =>
  have r := A t j; cases u : S.oneWord t
  ·rw [show S.oneWordType c (.mk d x m p l) = .error (7,p) by simp [KS.oneWordType,j,u,Except.bind,thr,T.at']]
   go_enter Tryz.func108,Tryz.ntmps108
   go_wp2_with fail; go_at_call 74; rw [<- f]; refine (v.out _ k.out).mono ?_; rw [j]; rintro e w1 ⟨g,rfl⟩; have o := ze (za k.out g); have F : Hid (Box w1 w.heap.size (.mk d x m p l) sv) := Box.kept D.out (za (zc s none) g); obtain ⟨_,_,_,_,_⟩ := F.out; go_wp2_with fail; go_at_call 155; refine (zN (C.out.up o.out) r).mono ?_; rw [u]; rintro e H ⟨rfl,i⟩; rw [i]; clear i; go_wp2_with fail; go_at_call 53; refine (zu _ (.mk d x m p l) sv 7).mono ?_; rintro e H I; have B := I; obtain ⟨q,rfl⟩ := I.thrown
   exact ⟨rfl,B.err o.out⟩
  ·rw [show S.oneWordType c (.mk d x m p l) = .ok t by simp [KS.oneWordType,j,u,Except.bind]]
   go_enter Tryz.func108,Tryz.ntmps108
   go_wp2_with fail; go_at_call 74; rw [<- f]; refine (v.out _ k.out).mono ?_; rw [j]; rintro e w1 ⟨g,rfl⟩; have o := ze (za k.out g); have F : Hid (Box w1 w.heap.size (.mk d x m p l) sv) := Box.kept D.out (za (zc s none) g); go_wp2_with fail; go_at_call 155; refine (zN (C.out.up o.out) r).mono ?_; rw [u]; rintro e H ⟨rfl,i⟩; rw [i]; clear i; go_wp2
   go_ret
   exact Cy.ok o.out
end
set_option maxHeartbeats 2000000
section
variable {ρ : Lay} {w w' w1 : World} {S : KS} {b : Nat} {c : KSc}
theorem kf {α : Type} (f : α -> List Value) (n : Nat) (hn : ∀ a,(f a).length = n) : ∀ (l : List α) (j : Nat) (a : α) (k : Nat),l[j]? = some a -> k < n -> (l.flatMap f)[j * n + k]? = (f a)[k]?
 | [],j,a,k,h,_ => by simp at h
 | u :: r,0,a,k,h,hk => by
  cases h; rw [List.flatMap_cons,Nat.zero_mul,Nat.zero_add,List.getElem?_append_left (by rw [hn]; exact hk)]
 | u :: r,j + 1,a,k,h,hk => by
  have ih := kf f n hn r j a k (by simpa using h) hk; rw [List.flatMap_cons,List.getElem?_append_right (by rw [hn,Nat.add_mul]; omega),hn,<- ih]
  congr 1
  rw [Nat.add_mul]
  omega
theorem mZ (g k : Nat) : Addr.add ⟨g,0,none⟩ k = ⟨g,k,none⟩ := by
 unfold Addr.add
 split
 ·rename_i h; rw [h]
 ·simp
theorem RowAt.read {e : TypeId} {k n : Nat} {v : Value} {cs : List Value} {lb : Lb} (h : RowAt ρ w e k v n cs lb) : ∃ a cp,v = .slice a n cp /\ n <= cp /\ cp <= maxLen /\ ∀ j u,cs[j]? = some u -> ∃ g,a = some ⟨g,0,none⟩ /\ w.cell? ⟨g,j,none⟩ = some u := by
 obtain ⟨f,_⟩ := h; have l := @World.ownsRow.cells _ _ _ _ _ _ _ f; obtain ⟨i,m⟩ := f
 rcases m with ⟨rfl,rfl⟩ | ⟨g,d,o,rfl,-,s,q,r,-,t⟩
 ·refine ⟨none,0,rfl,Nat.le_refl _,Nat.zero_le _,fun j u hj => ?_⟩
  simp at i
  subst i
  simp at hj
 ·refine ⟨_,d,rfl,q,r,fun j u hj => ⟨g,rfl,?_⟩⟩
  have := l (g := g) rfl j u hj; rwa [mZ] at this
theorem qy (d : KFd) : (fdV ρ d).length = 4 := rfl
theorem KM.flds (h : KM ρ w S) {i : Nat} (hi : i < S.tys.length) : ∃ a cp,w.cell? ⟨ρ.ty i,6,none⟩ = some (.slice a (S.ty i).fields.length cp) /\ (S.ty i).fields.length <= cp /\ cp <= maxLen /\
  ∀ (j : Nat) (d : KFd),(S.ty i).fields[j]? = some d -> ∃ g,a = some ⟨g,0,none⟩ /\ w.cell? ⟨g,j * 4,none⟩ = some (.string ⟨d.name.toArray⟩) /\ w.cell? ⟨g,j * 4 + 1,none⟩ = some (.bool d.exp) /\
   w.cell? ⟨g,j * 4 + 2,none⟩ = some (.pointer (some ⟨ρ.ty d.ty,0,none⟩)) /\ w.cell? ⟨g,j * 4 + 3,none⟩ = some (.int .i64 d.first) := by
 obtain ⟨_,l,m⟩ := (h.ty i hi).bk; obtain ⟨a,cp,rfl,n,o,f⟩ := m.read; refine ⟨a,cp,l.c 6 _ rfl,n,o,fun j d hj => ?_⟩
 have e := fun k hk => kf (fdV ρ) 4 qy (S.ty i).fields j d k hj hk
 obtain ⟨g,rfl,q⟩ := f (j * 4) _ ((e 0 (by omega)).trans rfl); obtain ⟨_,r,s⟩ := f (j * 4 + 1) _ ((e 1 (by omega)).trans rfl); obtain ⟨_,t,u⟩ := f (j * 4 + 2) _ ((e 2 (by omega)).trans rfl); obtain ⟨_,v,x⟩ := f (j * 4 + 3) _ ((e 3 (by omega)).trans rfl); cases r; cases t; cases v
 exact ⟨g,rfl,q,s,u,x⟩
theorem jy (hT : KTys S) (x : Nm) : ∀ (f g i : Nat),i < f -> i < g -> i < S.tys.length -> (S.ty i).form = 4 -> S.fieldF f i x = S.fieldF g i x
 | f + 1,g + 1,i,hf,hg,hi,h4 => by
  unfold KS.fieldF
  cases kr (S.ty i).fields x with
  | some d => rfl
  | none =>
   cases hq : (S.ty i).of with
   | none => rfl
   | some q =>
    obtain ⟨_,h2⟩ := hT.rc i hi h4 q hq
    exact jy hT x f g q (by omega) (by omega) (by omega) h2
theorem ri (hT : KTys S) {i : Nat} {x : Nm} (hi : i < S.tys.length) (h4 : (S.ty i).form = 4) : S.field i x = match kr (S.ty i).fields x with
  | some d => some (d,i)
  | none => match (S.ty i).of with
   | none => none
   | some q => S.field q x := by
 unfold KS.field
 rw [KS.fieldF]; cases kr (S.ty i).fields x with
 | some d => rfl
 | none =>
  cases e : (S.ty i).of with
  | none => rfl
  | some q =>
   obtain ⟨f,g⟩ := hT.rc i hi h4 q e
   exact jy hT x i (q + 1) q f (by omega) (by omega) g
def pW (S : KS) (x : Nm) : Option Nat -> Option (KFd × Nat)
 | none => none
 | some i => S.field i x
def Lay.fdP (ρ : Lay) : Option (KFd × Nat) -> Value
 | none => .tuple #[.agg #[.string ⟨#[]⟩,.bool false,.pointer none,.int .i64 0],.pointer none]
 | some (d,o) => .tuple #[.agg #[.string ⟨d.name.toArray⟩,.bool d.exp,.pointer (some ⟨ρ.ty d.ty,0,none⟩),.int .i64 d.first],.pointer (some ⟨ρ.ty o,0,none⟩)]
theorem tf : ∀ (l : List KFd) (x : Nm) (j : Nat) (d : KFd),l[j]? = some d -> d.name = x -> (∀ (k : Nat) (u : KFd),k < j -> l[k]? = some u -> u.name ≠ x) -> kr l x = some d
 | [],x,j,d,h,_,_ => by simp at h
 | u :: r,x,0,d,h,hx,_ => by cases h; simp [kr,hx]
 | u :: r,x,j + 1,d,h,hx,hk => by
  rw [kr,if_neg (hk 0 u (by omega) rfl)]
  exact tf r x j d (by simpa using h) hx (fun k v hkj hv => hk (k + 1) v (by omega) (by simpa using hv))
theorem fF : ∀ (l : List KFd) (x : Nm),(∀ (k : Nat) (u : KFd),l[k]? = some u -> u.name ≠ x) -> kr l x = none
 | [],x,_ => rfl
 | u :: r,x,hk => by
  rw [kr,if_neg (hk 0 u rfl)]
  exact fF r x (fun k v hv => hk (k + 1) v (by simpa using hv))
theorem np {fn : Func} {R : Ending -> World -> Prop} {a : Act} {bb p q : Nat} {v0 v1 v2 v3 v : Value} (h : fn.results = #[.cell p 58,.tmp q]) (hp : a.tmps[p]?.getD undef = .pointer (some ⟨bb,0,none⟩)) (hq : a.tmps[q]?.getD undef = v) (hB : Bk w bb [v0,v1,v2,v3]) (hd : a.defers = [])
  (hR : R (.returned (.tuple #[.agg #[v0,v1,v2,v3],v])) w) : bodyPost Tryz.prog fn R .ret a w := by
 have d := hB.c 0 _ rfl; have e := hB.c 1 _ rfl; have f := hB.c 2 _ rfl; have g := hB.c 3 _ rfl; refine bodyPost_ret (v := .tuple #[.agg #[v0,v1,v2,v3],v]) ?_ hd hR
 simp [results,h,hp,hq,go_sem,d,e,f,g]
theorem yS (h : KM ρ w S) (hT : KTys S) {r : Nat} (hr : r < S.tys.length) (h4 : (S.ty r).form = 4) (x : Nm) :
  Calls Tryz.prog 19 #[.pointer (some ⟨ρ.ty r,0,none⟩),.string ⟨x.toArray⟩] w (Sy w (ρ.fdP (S.field r x))) := by
 have B := ze h; have C := ze hT; clear h hT; obtain ⟨D,m⟩ : ∃ z,z = w.alloc (.cells #[.string ⟨#[]⟩,.bool false,.pointer none,.int .i64 0] 58) := ⟨_,rfl⟩
 have O : Hid (w.grownBy D none) := by rw [m]; exact zf (zc w none) _
 have Q : Hid (Bk D w.heap.size [.string ⟨#[]⟩,.bool false,.pointer none,.int .i64 0]) := by rw [m]; exact Bk.new w _ _ rfl
 go_enter Tryz.func19,Tryz.ntmps19
 go_wp2_with fail; rw [<- m]
 go_loopw [6] (fun v wr => ∃ q : Option Nat,v = ρ.tyP q /\ Hid (∀ i,q = some i -> i < S.tys.length /\ (S.ty i).form = 4) /\ Hid (S.field r x = pW S x q) /\ Hid (D.grownBy wr none)) (fun v _ => nR ρ v)
 case atStart => exact ⟨some r,rfl,fun i l => by cases l; exact ⟨hr,h4⟩,rfl,zc _ _⟩
 case round =>
  obtain ⟨q,rfl,Z,E,o⟩ := hrel; cases q with
  | none =>
   rw [uh]; have e := Q.out.kept o.out (by simp); have z := e.z; have c0 := e.c 0 _ rfl; have c1 := e.c 1 _ rfl; have c2 := e.c 2 _ rfl; have c3 := e.c 3 _ rfl; go_wp2; refine np Tryz.results19 rfl rfl ((((e.set 0 _).set 1 _).set 2 _).set 3 _) rfl ?_
   exact ⟨by rw [E.out]; rfl,zq (zq (zq (zq (za O.out o.out) (Nat.le_refl _) _ _) (Nat.le_refl _) _ _) (Nat.le_refl _) _ _) (Nat.le_refl _) _ _⟩
  | some i =>
   obtain ⟨l,n⟩ := Z.out i rfl; have F := ze (za O.out o.out); have y5 := ze (B.out.y5 l); obtain ⟨_,_,_,_,G,s⟩ := (B.out.up F.out).flds l; have H := ze s; have R := ze (ri C.out (x := x) l n); have HN := ze (qH B.out l)
   unfold maxLen at G
   clear s; obtain ⟨wo,ho⟩ : ∃ z,z = wr := ⟨_,rfl⟩; subst ho; rw [yd]; go_wp2_with fail
   go_loopw [21] (fun iv wr => ∃ j : Nat,j <= (S.ty i).fields.length /\ iv = .int .i64 ↑j /\ Hid (∀ (k : Nat) (u : KFd),k < j -> (S.ty i).fields[k]? = some u -> u.name ≠ x) /\ Hid (wo.grownBy wr none)) (fun iv _ => (S.ty i).fields.length - (intOf iv).toNat)
   case atStart => exact ⟨0,Nat.zero_le _,rfl,fun k u t => by omega,zc _ _⟩
   case round =>
    obtain ⟨j,_,rfl,I,f⟩ := hrel
    by_cases J : j < (S.ty i).fields.length
    ·obtain ⟨d,K⟩ : ∃ d,(S.ty i).fields[j]? = some d := ⟨_,List.getElem?_eq_getElem J⟩
     obtain ⟨g,rfl,L,U,V,X⟩ := H.out j d K
     replace L := zi f.out L
     replace U := zi f.out U
     replace V := zi f.out V
     replace X := zi f.out X
     have zg : g < wr.heap.size := zw L
     by_cases A : d.name = x
     ·have HF : Hid (S.field r x = some (d,i)) := by rw [E.out]; show S.field i x = _; rw [R.out,tf _ x j d K A I.out]
      have hb : (d.name == x) = true := by simpa using A
      have e := Q.out.kept (za o.out f.out) (by simp); have z := e.z; have c0 := e.c 0 _ rfl; have c1 := e.c 1 _ rfl; have c2 := e.c 2 _ rfl; have c3 := e.c 3 _ rfl; have zl := e.lt; clear A; go_wp2; refine np Tryz.results19 rfl rfl (Bk.kept ((((e.set 0 _).set 1 _).set 2 _).set 3 _) (World.grownBy_alloc _ _ none) (by simp)) rfl ?_
      exact ⟨by rw [HF.out]; rfl,zf (zq (zq (zq (zq (za F.out f.out) (Nat.le_refl _) _ _) (Nat.le_refl _) _ _) (Nat.le_refl _) _ _) (Nat.le_refl _) _ _) _⟩
     ·have hb : (d.name == x) = false := by simpa using A
      go_wp2
      go_roundw
      case rel => 
       refine ⟨j + 1,by omega,by simp,fun k u t hu => ?_,zf f.out _⟩
       rcases Nat.lt_or_ge k j with M | M
       ·exact I.out k u M hu
       ·obtain rfl : k = j := by omega
        rw [K] at hu; cases hu
        exact A
      case measure => first | omega | (simp only [intOf]; omega) | (simp; omega)
    ·have a0 := zi (za F.out f.out) y5.out
     have HL : Hid (kr (S.ty i).fields x = none) := fF _ x (fun k u hu => by
      have M : k < (S.ty i).fields.length := by
       rcases Nat.lt_or_ge k (S.ty i).fields.length with N | N
       ·exact N
       ·rw [List.getElem?_eq_none N] at hu; cases hu
      exact I.out k u (by omega) hu)
     go_wp2; refine ⟨⟨(S.ty i).of,rfl,fun k t => ?_,?_,za o.out f.out⟩,?_⟩
     ·obtain ⟨h1,Y⟩ := C.out.rc i l n k t
      exact ⟨by omega,Y⟩
     ·show S.field r x = pW S x (S.ty i).of
      rw [E.out]
      show S.field i x = _
      rw [R.out,HL.out]
      cases (S.ty i).of <;> rfl
     ·rw [HN.out]
      cases t : (S.ty i).of with
      | none => exact Nat.succ_pos _
      | some k =>
       obtain ⟨h1,Y⟩ := C.out.rc i l n k t; rw [yd,qH B.out (by omega)]
       omega
end
section
variable {P : Program} {ops : Array Oper} {Q : Exit -> Act -> World -> Prop} {S : World -> Prop} {md : Region.Mode} {oi : Oper} {fuel : Nat} {listed : Array Bool} {a : Act} {w : World}
theorem dk (i : Nat) (d : Option Nat) (v : Value) (hi : ops[i]? = some oi) (hd : oi.dst = d) (hy : ∀ w,S w -> (execOp a.eval oi).run P w = .ok (.value v) w) (hS : S w) (h : wpAnyH P md ops Q S fuel (listed.setIfInBounds i true) (a.put d v) w)
  (hs : Region.noSelect ops = true := by kernel_rfl) (hf : Region.free md ops listed i = true := by kernel_rfl) (hr : (Region.ready md ops listed).contains i = true := by kernel_rfl)
  (hQ : ∀ c a w,Q (.panic c) (a.put oi.dst v) w -> Q (.panic c) a w := by exact fun _ _ _ h => h) (hw : Region.wanted oi (yielded ops a.tmps) = true := by kernel_rfl) : wpAnyH P md ops Q S (fuel + 1) listed a w := by
 subst hd
 exact wpAnyH_take hi hs hf hr hQ (Or.inl ⟨hw,hy⟩) hS h
theorem dn (i : Nat) (d : Option Nat) (hi : ops[i]? = some oi) (hd : oi.dst = d) (hS : S w) (h : wpAnyH P md ops Q S fuel (listed.setIfInBounds i true) (a.put d undef) w)
  (hs : Region.noSelect ops = true := by kernel_rfl) (hf : Region.free md ops listed i = true := by kernel_rfl) (hr : (Region.ready md ops listed).contains i = true := by kernel_rfl)
  (hQ : ∀ c a w,Q (.panic c) (a.put oi.dst undef) w -> Q (.panic c) a w := by exact fun _ _ _ h => h) (hw : Region.wanted oi (yielded ops a.tmps) = false := by kernel_rfl) : wpAnyH P md ops Q S (fuel + 1) listed a w := by
 subst hd
 exact wpAnyH_take hi hs hf hr hQ (Or.inr ⟨hw,rfl⟩) hS h
end
theorem qA (a : Act) (t : Nat) (v : Value) : a.put (some t) v = { a with tmps := a.tmps.setIfInBounds t v } := rfl
theorem qB {α : Type} (l : List α) (i : Nat) (x : α) : l.toArray.setIfInBounds i x = (l.set i x).toArray := by simp
theorem qC {α : Type} (x y : α) (l : List α) : (x :: l).set 0 y = y :: l := rfl
theorem qD {α : Type} (x y : α) (l : List α) (n : Nat) : (x :: l).set (n + 1) y = x :: l.set n y := rfl
section
variable {P : Program} {ops : Array Oper} {Q : Exit -> Act -> World -> Prop} {S : World -> Prop} {md : Region.Mode} {oi : Oper} {fuel : Nat} {listed : Array Bool} {a : Act} {w : World}
theorem kQ (i d : Nat) (v : Value) (hS : S w) (h : wpAnyH P md ops Q S fuel (listed.setIfInBounds i true) (a.put (some d) v) w) (hi : ops[i]? = some oi := by rfl) (hd : oi.dst = some d := by rfl) (hy : ∀ w,S w -> (execOp a.eval oi).run P w = .ok (.value v) w := by intro w9 _; go_simp)
  (hs : Region.noSelect ops = true := by kernel_rfl) (hf : Region.free md ops listed i = true := by kernel_rfl) (hr : (Region.ready md ops listed).contains i = true := by kernel_rfl)
  (hQ : ∀ c a w,Q (.panic c) (a.put oi.dst v) w -> Q (.panic c) a w := by exact fun _ _ _ h => h) (hw : Region.wanted oi (yielded ops a.tmps) = true := by kernel_rfl) : wpAnyH P md ops Q S (fuel + 1) listed a w :=
 dk i (some d) v hi hd hy hS h hs hf hr hQ hw
end
theorem Box.plain {w : World} {b : Nat} {k : Int} {x : List UInt8} {m p : Int} {l : List T} {sv : Value} (h : Box w b (.mk k x m p l) sv) : w.cell? ⟨b,0,none⟩ = some (.int .i64 k) /\ w.cell? ⟨b,1,none⟩ = some (.string ⟨x.toArray⟩) /\ w.cell? ⟨b,2,none⟩ = some (.int .i64 m) /\ w.cell? ⟨b,3,none⟩ = some (.int .i64 p) /\ w.cell? ⟨b,4,none⟩ = some sv := ⟨h.c0,h.c1,h.c2,h.c3,h.c4⟩
section
variable {P : Program} {ops : Array Oper} {Q : Exit -> Act -> World -> Prop} {S : World -> Prop} {md : Region.Mode} {z : List Nat}
def xD (P : Program) (md : Region.Mode) (ops : Array Oper) (Q : Exit -> Act -> World -> Prop) (S : World -> Prop) (z : List Nat) : Nat -> Array Bool -> Act -> World -> Prop
 | 0,listed,a,w => Region.ready md ops listed = [] /\ Q .normal a w
 | fuel + 1,listed,a,w =>
  (Region.ready md ops listed = [] -> Q .normal a w) /\
  ∀ i ∈ Region.ready md ops listed,wpOp P ops Q i (fun a' w' => (z.contains i = false -> S w') /\ xD P md ops Q S z fuel (listed.setIfInBounds i true) a' w') a w
theorem gK : ∀ (fuel : Nat) (listed : Array Bool) (a : Act) (w : World),xD P md ops Q S z fuel listed a w -> wpAny P md ops Q fuel listed a w
 | 0,_,_,_,h => h
 | fuel + 1,_,_,_,h => ⟨h.1,fun i hi => wpOp_mono (fun a' w' h' => gK fuel _ a' w' h'.2) (h.2 i hi)⟩
theorem dq {i : Nat} {oi : Oper} {v : Value} (hi : ops[i]? = some oi) (hzi : z.contains i = false) (hzw : ∀ j oj,z.contains j = true -> ops[j]? = some oj -> ∃ e ∈ oj.after,Region.binds md e = true /\ e.on = i)
  (hsel : ∀ (j : Nat) (o : Oper) cs b,ops[j]? = some o -> o.op ≠ .select cs b) (hQ : ∀ c a w,Q (.panic c) (a.put oi.dst v) w -> Q (.panic c) a w) :
  ∀ (fuel : Nat) (listed : Array Bool) (a : Act) (w : World),
   (∀ j oj,ops[j]? = some oj -> j ≠ i -> listed.getD j true = false -> (∀ e ∈ oj.after,Region.binds md e = true -> e.on ≠ i) -> oi.apart ops oj = true) ->
   i ∈ Region.ready md ops listed -> YieldsIf P ops S oi v a -> S w ->
   xD P md ops Q S z fuel (listed.setIfInBounds i true) (a.put oi.dst v) w -> xD P md ops Q S z (fuel + 1) listed a w := by
 intro fuel
 induction fuel with
 | zero =>
  intro listed a w _ n x s H; refine ⟨fun h => (by rw [h] at n; cases n),fun j hj => ?_⟩
  by_cases d : j = i
  ·subst d; exact x.wpOp hi s ⟨fun _ => s,H⟩
  ·have := ready_mono hj d
   rw [H.1] at this; cases this
 | succ fuel ih =>
  intro listed a w hfree n x s H; refine ⟨fun h => (by rw [h] at n; cases n),fun j hj => ?_⟩
  by_cases d : j = i
  ·subst d; exact x.wpOp hi s ⟨fun _ => s,H⟩
  ·have q := H.2 j (ready_mono hj d)
   obtain ⟨l,oj,f,t⟩ := mem_ready.1 hj
   have m : ∀ e ∈ oj.after,Region.binds md e = true -> e.on ≠ i := fun e A B r => by
    have q := t e A B; have E := (mem_ready.1 n).1; rw [r] at q
    rcases Nat.lt_or_ge i listed.size with C | C
    ·simp [C] at E q; rw [E] at q; cases q
    ·simp [Array.getElem?_eq_none C] at q
   have D : z.contains j = false := by
    cases F : z.contains j with
    | false => rfl
    | true =>
     obtain ⟨e,A,B,r⟩ := hzw j oj F f
     exact absurd r (m e A B)
   have G := wpOp_putIf f (hfree j oj f d l m) (fun cs b => hsel i oi cs b hi) (fun cs b => hsel j oj cs b f) hQ x q; have g : ∀ k ok,ops[k]? = some ok -> k ≠ i -> (listed.setIfInBounds j true).getD k true = false ->
     (∀ e ∈ ok.after,Region.binds md e = true -> e.on ≠ i) -> oi.apart ops ok = true := fun k ok hk hki hun hno => by
    refine hfree k ok hk hki ?_ hno
    by_cases u : j = k
    ·subst u; exact l
    ·rw [getD_set_ne true u] at hun; exact hun
   refine wpOp_mono (fun a' w' h3 => ⟨h3.2.1,ih (listed.setIfInBounds j true) a' w' g (ready_mono n (Ne.symm d)) h3.1 (h3.2.1 D) ?_⟩) G; rw [Array.setIfInBounds_comm _ _ d]
   exact h3.2.2
def ou (md : Region.Mode) (ops : Array Oper) (z : List Nat) (i : Nat) : Bool := !z.contains i && z.all fun j => match ops[j]? with
 | some o => o.after.any fun e => Region.binds md e && e.on == i
 | none => true
theorem hJ {i : Nat} (h : ou md ops z i = true) : z.contains i = false /\ ∀ j oj,z.contains j = true -> ops[j]? = some oj -> ∃ e ∈ oj.after,Region.binds md e = true /\ e.on = i := by
  simp only [ou,Bool.and_eq_true,Bool.not_eq_true'] at h; refine ⟨h.1,fun j oj hj ho => ?_⟩; have c := List.all_eq_true.1 h.2 j (by simpa using hj); rw [ho] at c; simp only at c
  first
    | (obtain ⟨e,d,b⟩ := Array.any_eq_true'.1 c
       simp only [Bool.and_eq_true,beq_iff_eq] at b
       exact ⟨e,d,b.1,b.2⟩)
    | (obtain ⟨e,d,b⟩ := List.any_eq_true.1 c
       simp only [Bool.and_eq_true,beq_iff_eq] at b
       exact ⟨e,d,b.1,b.2⟩)
variable {oi : Oper} {fuel : Nat} {listed : Array Bool} {a : Act} {w : World}
theorem zk (i : Nat) (d : Option Nat) (v : Value) (hi : ops[i]? = some oi) (hd : oi.dst = d) (hy : ∀ w,S w -> (execOp a.eval oi).run P w = .ok (.value v) w) (hS : S w) (h : xD P md ops Q S z fuel (listed.setIfInBounds i true) (a.put d v) w)
  (hs : Region.noSelect ops = true := by kernel_rfl) (hf : Region.free md ops listed i = true := by kernel_rfl) (hr : (Region.ready md ops listed).contains i = true := by kernel_rfl) (hz : ou md ops z i = true := by kernel_rfl)
  (hQ : ∀ c a w,Q (.panic c) (a.put oi.dst v) w -> Q (.panic c) a w := by exact fun _ _ _ h => h) (hw : Region.wanted oi (yielded ops a.tmps) = true := by kernel_rfl) : xD P md ops Q S z (fuel + 1) listed a w := by
 subst hd
 exact dq hi (hJ hz).1 (hJ hz).2 (Region.noSelect_spec hs) hQ fuel listed a w (Region.free_spec hi hf) (by simpa using hr) (Or.inl ⟨hw,hy⟩) hS h
theorem jZ {rs : List Nat} (hr : Region.ready md ops listed = rs) (hne : rs ≠ [])
  (h : ∀ i ∈ rs,wpOp P ops Q i (fun a' w' => (z.contains i = false -> S w') /\ xD P md ops Q S z fuel (listed.setIfInBounds i true) a' w') a w) : xD P md ops Q S z (fuel + 1) listed a w :=
 ⟨fun h0 => absurd (hr ▸ h0) hne,hr ▸ h⟩
theorem zr (i : Nat) {o : Oper} (hr : Region.ready md ops listed = [i]) (ho : ops[i]? = some o)
  (h : ∀ K' : Act -> World -> Prop,Shut (∀ a w,S w -> (S w -> xD P md ops Q S z fuel (listed.setIfInBounds i true) a w) -> K' a w) -> if Region.wanted o (yielded ops a.tmps) = true then Oper.wp P o a w K' Q else K' (a.put o.dst undef) w) : xD P md ops Q S z (fuel + 1) listed a w :=
 jZ hr (by simp) (fun j hj => by
  obtain rfl : j = i := by simpa using hj
  exact wpOp_step ho (fun K' hK => h K' (fun a w hS hW => hK a w ⟨fun _ => hS,hW hS⟩)))
theorem zl (i : Nat) {o : Oper} (hr : Region.ready md ops listed = [i]) (ho : ops[i]? = some o) (hz : z.contains i = true)
  (h : ∀ K' : Act -> World -> Prop,Shut (∀ a w,xD P md ops Q S z fuel (listed.setIfInBounds i true) a w -> K' a w) -> if Region.wanted o (yielded ops a.tmps) = true then Oper.wp P o a w K' Q else K' (a.put o.dst undef) w) : xD P md ops Q S z (fuel + 1) listed a w :=
 jZ hr (by simp) (fun j hj => by
  obtain rfl : j = i := by simpa using hj
  exact wpOp_step ho (fun K' hK => h K' (fun a w hW => hK a w ⟨fun h9 => (by rw [hz] at h9; cases h9),hW⟩)))
theorem zd (hr : Region.ready md ops listed = []) (h : Q .normal a w) : ∀ fuel,xD P md ops Q S z fuel listed a w
 | 0 => ⟨hr,h⟩
 | _ + 1 => ⟨fun _ => h,by rw [hr]; simp⟩
theorem yn (z : List Nat) {id : Nat} (hm : P.follows .mixedOrders = true) (hS : S w.drew) (h : S w.drew -> xD P .any ops Q S z ops.size (Array.replicate ops.size false) a w.drew) : (Code.region id ops true).wp P Q a w :=
 wp_region_any hm (gK _ _ _ _ (h hS))
end
end Go.Proofs.YtnmkffjklpfflaaGreatDoor
