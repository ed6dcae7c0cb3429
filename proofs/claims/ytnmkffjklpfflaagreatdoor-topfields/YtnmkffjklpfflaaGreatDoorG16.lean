/- What names mean: modules ahead of a point,what they show,type names. -/
import Derived.Test.YtnmkffjklpfflaaGreatDoorG15
import Derived.Test.YtnmkffjklpfflaaGreatDoorG06
import Derived.Deep.QuietTactic
import Derived.BigQuiet
import Derived.Deep.RegionWith
import Derived.LaidEqlPtr
import Derived.Deep.RegionHeld
namespace Go.Proofs.YtnmkffjklpfflaaGreatDoor
open Go.RowKit
set_option maxHeartbeats 400000
set_option maxRecDepth 100000
section
variable {ρ : Lay} {w w' : World} {S : KS} {b : Nat} {c : KSc}
theorem fe : ρ.mdP none = .pointer none := rfl
theorem fK (t : Nat) : ρ.mdP (some t) = pq (ρ.md t) := rfl
theorem uM : ρ.tyP none = .pointer none := rfl
theorem yo (t : Nat) : ρ.tyP (some t) = pq (ρ.ty t) := rfl
theorem iU (t : Nat) : ρ.prP (some t) = pq (ρ.pr t) := rfl
theorem kP (h : CK ρ w S b c) {x : Nm} {t : Nat} (e : S.find c x = some t) : t < S.ths.length := by
 unfold KS.find at e
 cases d : S.innerOf c.inner x with
 | none => rw [d] at e; exact h.ok.nm c.home h.hc x t e
 | some u =>
  rw [d] at e; cases e; obtain ⟨_,inner⟩ := c; cases inner with
  | none => cases d
  | some p => exact h.ok.inn p (h.hi p rfl) x _ d
theorem uu (h : CK ρ w S b c) (x : Nm) (hx : x.length <= maxLen) :
  Calls Tryz.prog 186 #[pq b,.string ⟨x.toArray⟩] w fun e w' => e = .returned (ρ.mdP (S.imported c x)) /\ w' = w := by
 have f := zc (ql h x hx); cases d : S.find c x with
 | none =>
  rw [d,zW] at f; rw [show S.imported c x = none by simp [KS.imported,d]]
  go_enter Tryz.func186,Tryz.ntmps186
  go_wp2_with (go_at_call 188; refine f.out.mono ?_; rintro e g ⟨rfl,rfl⟩)
  go_ret
  exact ⟨rfl,rfl⟩
 | some t =>
  rw [d,yj] at f; rw [show S.imported c x = (S.th t).mod by simp [KS.imported,d]]; have i := (h.km.th t (kP h d)).bk.c 10 _ rfl; clear h
  go_enter Tryz.func186,Tryz.ntmps186
  go_wp2_with (go_at_call 188; refine f.out.mono ?_; rintro e g ⟨rfl,rfl⟩)
  go_ret
  exact ⟨rfl,rfl⟩
theorem dg (h : KM ρ w S) (ho : KOk S) {m : Nat} (hm : m < S.mds.length) (x : Nm) (hx : x.length <= maxLen) :
  Calls Tryz.prog 187 #[pq (ρ.md m),.string ⟨x.toArray⟩] w fun e w' => e = .returned (ρ.thP (S.shown m x)) /\ w' = w := by
 obtain ⟨k,l,n,g,-⟩ := (h.md m hm).bk; have o : w.cell? ⟨ρ.md m,8,none⟩ = some (.map (some (ρ.nm m))) := g.c 8 _ rfl; have i := xM (h.md m hm).mp x hx; clear g; cases d : lk (S.md m).names x with
 | none =>
  rw [d,zW] at i; rw [show S.shown m x = none by simp [KS.shown,d]]
  go_enter Tryz.func187,Tryz.ntmps187
  go_wp2
  go_ret
  exact ⟨rfl,rfl⟩
 | some t =>
  rw [d,yj] at i; have j : w.cell? ⟨ρ.th t,2,none⟩ = some (.bool (S.th t).exp) := (h.th t (ho.nm m hm x t d)).bk.c 2 _ rfl; clear h; cases f : (S.th t).exp
  ·rw [f] at j
   rw [show S.shown m x = none by simp [KS.shown,d,f]]
   go_enter Tryz.func187,Tryz.ntmps187
   go_wp2
   go_ret
   exact ⟨rfl,rfl⟩
  ·rw [f] at j
   rw [show S.shown m x = some t by simp [KS.shown,d,f]]
   go_enter Tryz.func187,Tryz.ntmps187
   go_wp2
   go_ret
   exact ⟨rfl,rfl⟩
theorem ko (h : CK ρ w S b c) (n : T) (sv : Value) (ha : AT w n.subs sv) (hs : n.kind = 25 -> 0 < n.subs.length) :
  Calls Tryz.prog 185 #[pq b,zo n sv] w (Sy w (ρ.mdP (S.ahead c n))) := by
 have z := zc h; obtain ⟨f,x,m,p,l⟩ := n
 change Calls Tryz.prog 185 #[pq b,.agg #[.int .i64 f,.string ⟨x.toArray⟩,.int .i64 m,.int .i64 p,sv]] w _
 by_cases j : f = 25
 ·subst j
  cases l with
  | nil => simp [T.kind,T.subs] at hs
  | cons u r =>
   obtain ⟨g,o,G,H,rfl,A,B,k,s,C,-⟩ := ha.cons; obtain ⟨i,d,t,up,v⟩ := u; have D : w.cell? ⟨g,o,none⟩ = some (.int .i64 i) := k.c0; have I : w.cell? ⟨g,o + 1,none⟩ = some (.string ⟨d.toArray⟩) := k.c1; have E : d.length <= maxLen := s.name; have J : g < w.heap.size := zw D; clear ha k C hs h s
   by_cases q : i = 24
   ·subst q
    rw [show S.ahead c (.mk 25 x m p (.mk 24 d t up v :: r)) = S.imported c d from rfl]
    go_enter Tryz.func185,Tryz.ntmps185
    go_wp2_with (go_at_call 186; refine (uu (z.out.up gan) d E).mono ?_; rintro e K ⟨rfl,rfl⟩)
    go_ret
    exact ⟨rfl,zh grn _⟩
   ·rw [show S.ahead c (.mk 25 x m p (.mk i d t up v :: r)) = none by simp [KS.ahead,sub,T.kind,T.subs,q]]
    have F : decide (i = 24) = false := by simpa using q
    go_enter Tryz.func185,Tryz.ntmps185
    go_wp2
    go_ret
    exact ⟨rfl,zh grn _⟩
 ·rw [show S.ahead c (.mk f x m p l) = none by simp [KS.ahead,T.kind,j]]
  have F : decide (f = 25) = false := by simpa using j
  go_enter Tryz.func185,Tryz.ntmps185
  go_wp2
  go_ret
  exact ⟨rfl,zh grn _⟩
end
def Cy (w : World) (r : CR Value) : Ending -> World -> Prop := fun e w' => w.grownBy w' none /\ match r with
 | .ok v => e = .returned v
 | .error x => Threw w x.2 x.1 e w'
section
variable {ρ : Lay} {w w' w1 : World} {S : KS} {b : Nat} {c : KSc}
theorem Cy.ok {v : Value} (hg : w.grownBy w' none) : Cy w (.ok v) (.returned v) w' := ⟨hg,rfl⟩
theorem Cy.err {x : Int × Int} {e : Ending} (hg : w.grownBy w1 none) (h : Cy w1 (.error x) e w') : Cy w (.error x) e w' := ⟨za hg h.1,Threw.up h.2 hg⟩
theorem Cy.thrown {x : Int × Int} {e : Ending} (h : Cy w (.error x) e w') : ∃ q,e = .panicked [{ v := .iface 103 (pq q),recovered := false }] := by
 obtain ⟨_,q,h,_⟩ := h
 exact ⟨q,h⟩
theorem lg (w : World) (o : Obj) {k n : Int} : Threw w k n (.panicked [{ v := .iface 103 (pq (w.heap.size + 1)),recovered := false }]) ((w.alloc o).alloc (.cells #[.int .i64 0,.int .i64 k,.iface 56 (.int .i64 n)] 113)) := by
 have h := ke (w := w) (wr := w.alloc o) (k := k) (n := n) (World.grownBy_alloc w o none).size; rwa [show (w.alloc o).heap.size = w.heap.size + 1 by simp] at h
theorem zu (w : World) (n : T) (sv : Value) (k : Int) : Calls Tryz.prog 53 #[zo n sv,.int .i64 k] w (Cy w (.error (k,n.at'))) := by
 obtain ⟨d,x,m,p,_⟩ := n
 change Calls Tryz.prog 53 #[.agg #[.int .i64 d,.string ⟨x.toArray⟩,.int .i64 m,.int .i64 p,sv],.int .i64 k] w (Cy w (.error (k,p)))
 go_enter Tryz.func53,Tryz.ntmps53
 go_wp2
 exact ⟨rfl,zh gan _,lg w _⟩
theorem rh (h : CK ρ w S b c) (n : T) (sv : Value) (hf : Fits n) (ha : AT w n.subs sv) (hs : n.kind = 25 -> 0 < n.subs.length) :
    Calls Tryz.prog 184 #[pq b,zo n sv] w (Sy w (ρ.thP (S.meaning c n))) := by
  have g := zc h; have o := zc ha; have r := zc hs; have u := hf.name
  have v : ∀ m,S.ahead c n = some m -> m < S.mds.length := by
    intro m d
    unfold KS.ahead at d
    split at d
    · split at d
      · unfold KS.imported at d
        split at d
        · rename_i t ht
          exact h.ok.mod t (kP h ht) m d
        · cases d
      · cases d
    · cases d
  obtain ⟨f,x,m,p,l⟩ := n
  change Calls Tryz.prog 184 #[pq b,.agg #[.int .i64 f,.string ⟨x.toArray⟩,.int .i64 m,.int .i64 p,sv]] w _
  clear h ha hs hf
  by_cases k : f = 24
  · subst k
    rw [show S.meaning c (.mk 24 x m p l) = S.find c x from rfl]; clear o r v
    go_enter Tryz.func184,Tryz.ntmps184
    go_wp2_with (go_at_call 188; refine (ql (g.out.up gan) x u).mono ?_; rintro e w1 ⟨rfl,rfl⟩)
    go_ret
    exact ⟨rfl,zh grn _⟩
  · have A : decide (f = 24) = false := by simpa using k
    cases i : S.ahead c (.mk f x m p l) with
    | none =>
      rw [show S.meaning c (.mk f x m p l) = none by simp [KS.meaning,T.kind,k,i,KS.shownIn]]
      go_enter Tryz.func184,Tryz.ntmps184
      go_wp2_with (go_at_call 185; refine (ko (g.out.up gan) (.mk f x m p l) sv (o.out.kept gan) r.out).mono ?_; rw [i,fe]; rintro e w1 ⟨rfl,j⟩)
      go_ret
      exact ⟨rfl,za gan j⟩
    | some q =>
      rw [show S.meaning c (.mk f x m p l) = S.shown q x by simp [KS.meaning,T.kind,T.name,k,i,KS.shownIn]]; have s := v q i
      go_enter Tryz.func184,Tryz.ntmps184
      go_wp2_with (first
        | (go_at_call 185; refine (ko (g.out.up gan) (.mk f x m p l) sv (o.out.kept gan) r.out).mono ?_; rw [i,fK]; rintro e w1 ⟨rfl,j⟩; have z := Box.kept (Box.new w (.mk f x m p l) sv 100) j; have B := z.c1)
        | (go_at_call 187; refine (dg (g.out.up (za gan j)).km g.out.ok s x u).mono ?_; rintro e C ⟨rfl,rfl⟩))
      go_ret
      exact ⟨rfl,za gan j⟩
end
set_option maxHeartbeats 1000000
section
variable {ρ : Lay} {w w' w1 : World} {S : KS} {b : Nat} {c : KSc}
theorem jy (h : CK ρ w S b c) {x : Nm} {m : Nat} (e : S.imported c x = some m) : m < S.mds.length := by
 unfold KS.imported at e
 split at e
 ·rename_i t ht
  exact h.ok.mod t (kP h ht) m e
 ·cases e
theorem pl (h : CK ρ w S b c) {m : Nat} (hm : m < S.mds.length) {x : Nm} {t : Nat} (e : S.shown m x = some t) : t < S.ths.length := by
 unfold KS.shown at e
 split at e
 ·rename_i u hu
  split at e
  ·cases e
   exact h.ok.nm m hm x _ hu
  ·cases e
 ·cases e
theorem jh (h : CK ρ w S b c) {n : T} {t : Nat} (e : S.typeThing c n = some t) : t < S.ths.length := by
 unfold KS.typeThing at e
 split at e
 ·cases d : S.imported c (sub n 0).name with
  | none => rw [d] at e; cases e
  | some m => rw [d] at e; exact pl h (jy h d) e
 ·split at e
  ·rename_i u hu
   cases e; have f := h.ok.two; simp only [ym,lk] at hu
   split at hu
   ·cases hu; omega
   ·split at hu
    ·cases hu; omega
    ·cases hu
  ·exact kP h e
theorem KM.w3 (h : KM ρ w S) : w.cell? ⟨ρ.wd,3,none⟩ = some (.map (some ρ.ba)) := h.wd.c 3 _ rfl
theorem fm (h : CK ρ w S b c) (n : T) (sv : Value) (hf : Fits n) (ha : AT w n.subs sv) :
    Calls Tryz.prog 154 #[pq b,zo n sv] w (Sy w (ρ.thP (S.typeThing c n))) := by
  have f := zc h; have s := hf.name; obtain ⟨j,x,m,p,l⟩ := n; have G : Hid (w.grownBy (w.alloc (.cells #[.int .i64 j,.string ⟨x.toArray⟩,.int .i64 m,.int .i64 p,sv] 100)) none) := zh (zj w none) _
  change Calls Tryz.prog 154 #[pq b,.agg #[.int .i64 j,.string ⟨x.toArray⟩,.int .i64 m,.int .i64 p,sv]] w _
  cases l with
  | nil =>
    obtain ⟨a,E,rfl,F,-⟩ := ha.zero rfl
    have z := fun n => xM (f.out.up (zq G.out n)).km.ba x s
    have s0 := h.s0; have w3 := h.km.w3; have H := zw s0; have I := zw w3; simp only at H I; clear h ha hf; cases d : lk ym x with
    | some t =>
      simp only [d,yj] at z; rw [show S.typeThing c (.mk j x m p []) = some t by simp [KS.typeThing,T.subs,T.name,d]]
      go_enter Tryz.func154,Tryz.ntmps154
      go_wp2
      go_quiet (fail)
      go_wp2
      go_ret
      exact ⟨rfl,zq gan _⟩
    | none =>
      simp only [d,zW] at z; rw [show S.typeThing c (.mk j x m p []) = S.find c x by simp [KS.typeThing,T.subs,T.name,d]]
      go_enter Tryz.func154,Tryz.ntmps154
      go_wp2
      go_quiet (fail)
      go_wp2_with (go_at_call 188; refine (ql (f.out.up (zq G.out _)) x s).mono ?_; rintro e w1 ⟨rfl,rfl⟩)
      go_ret
      exact ⟨rfl,zq gan _⟩
  | cons u r =>
    obtain ⟨g,o,E,N,rfl,J,K,A,k,L,-⟩ := ha.cons; obtain ⟨B,i,C,up,D⟩ := u; have M : w.cell? ⟨g,o + 1,none⟩ = some (.string ⟨i.toArray⟩) := A.c1; have k : i.length <= maxLen := k.name; have O : g < w.heap.size := zw M; clear ha A L h hf; cases d : S.imported c i with
    | none =>
      rw [show S.typeThing c (.mk j x m p (.mk B i C up D :: r)) = none by simp [KS.typeThing,T.subs,T.name,sub,d,KS.shownIn]]
      go_enter Tryz.func154,Tryz.ntmps154
      go_wp2_with (go_at_call 186; refine (uu (f.out.up G.out) i k).mono ?_; rw [d,fe]; rintro e w1 ⟨rfl,rfl⟩)
      go_ret
      exact ⟨rfl,G.out⟩
    | some q =>
      rw [show S.typeThing c (.mk j x m p (.mk B i C up D :: r)) = S.shown q x by simp [KS.typeThing,T.subs,T.name,sub,d,KS.shownIn]]; have v := jy f.out d
      go_enter Tryz.func154,Tryz.ntmps154
      go_wp2_with (first
        | (go_at_call 186; refine (uu (f.out.up G.out) i k).mono ?_; rw [d,fK]; rintro e w1 ⟨rfl,rfl⟩)
        | (go_at_call 187; refine (dg (f.out.up G.out).km f.out.ok v x s).mono ?_; rintro e Q ⟨rfl,rfl⟩))
      go_ret
      exact ⟨rfl,G.out⟩
end
section
variable {ρ : Lay} {w w' w1 : World} {S : KS} {b : Nat} {c : KSc}
theorem uR (h : CK ρ w S b c) {n : T} {t : Nat} (e : S.namedType c n = .ok t) : t < S.tys.length := by
 unfold KS.namedType at e
 split at e
 ·cases e
 ·rename_i u hu
  split at e
  ·rename_i hk
   obtain ⟨i,d⟩ := h.ok.kty u (jh h hu) hk; rw [d] at e; cases e
   exact h.ok.ty u (jh h hu) i d
  ·cases e
theorem KM.y (h : KM ρ w S) {t : Nat} (ht : t < S.tys.length) : ∃ fv,Bk w (ρ.ty t) (tyV ρ (S.ty t) fv) := by
 obtain ⟨fv,d,_⟩ := (h.ty t ht).bk
 exact ⟨fv,d⟩
theorem KM.y0 (h : KM ρ w S) {t : Nat} (ht : t < S.tys.length) : w.cell? ⟨ρ.ty t,0,none⟩ = some (.int .i64 (S.ty t).form) := by obtain ⟨_,h⟩ := h.y ht; exact h.c 0 _ rfl
theorem KM.y2 (h : KM ρ w S) {t : Nat} (ht : t < S.tys.length) : w.cell? ⟨ρ.ty t,2,none⟩ = some (ρ.mdP (S.ty t).home) := by obtain ⟨_,h⟩ := h.y ht; exact h.c 2 _ rfl
theorem KM.y3 (h : KM ρ w S) {t : Nat} (ht : t < S.tys.length) : w.cell? ⟨ρ.ty t,3,none⟩ = some (.int .i64 (S.ty t).words) := by obtain ⟨_,h⟩ := h.y ht; exact h.c 3 _ rfl
theorem KM.y5 (h : KM ρ w S) {t : Nat} (ht : t < S.tys.length) : w.cell? ⟨ρ.ty t,5,none⟩ = some (ρ.tyP (S.ty t).of) := by obtain ⟨_,h⟩ := h.y ht; exact h.c 5 _ rfl
theorem KM.y7 (h : KM ρ w S) {t : Nat} (ht : t < S.tys.length) : w.cell? ⟨ρ.ty t,7,none⟩ = some (.bool (S.ty t).complete) := by obtain ⟨_,h⟩ := h.y ht; exact h.c 7 _ rfl
theorem jJ (h : CK ρ w S b c) (n : T) (sv : Value) (hf : Fits n) (ha : AT w n.subs sv) :
  Calls Tryz.prog 106 #[pq b,zo n sv] w (Cy w ((S.namedType c n).map fun t => pq (ρ.ty t))) := by
 have I := zc (fun w1 (G : w.grownBy w1 none) => fm (h.up G) n sv hf (ha.kept G)); have N := zc h.km
 have f : ∀ t,S.typeThing c n = some t -> t < S.ths.length := fun t ht => jh h ht
 have k : ∀ t,S.typeThing c n = some t -> (S.th t).kind = 2 -> ∃ i,(S.th t).ty = some i := fun t ht r => h.ok.kty t (f t ht) r
 obtain ⟨g,x,m,p,l⟩ := n
 change Calls Tryz.prog 106 #[pq b,.agg #[.int .i64 g,.string ⟨x.toArray⟩,.int .i64 m,.int .i64 p,sv]] w _
 obtain ⟨O,j⟩ : ∃ z,z = w.alloc (.cells #[.int .i64 g,.string ⟨x.toArray⟩,.int .i64 m,.int .i64 p,sv] 100) := ⟨_,rfl⟩
 have u : Hid (w.grownBy O none) := by rw [j]; exact zh grn _
 have J : Hid (Box O w.heap.size (.mk g x m p l) sv) := by rw [j]; exact Box.new w (.mk g x m p l) sv _
 clear h ha hf; cases o : S.typeThing c (.mk g x m p l) with
 | none =>
  clear f k; rw [show S.namedType c (.mk g x m p l) = .error (5,p) by simp [KS.namedType,o,thr,T.at']]
  go_enter Tryz.func106,Tryz.ntmps106
  go_wp2_with fail
  go_region_with (first | (go_at_call 154; rw [<- j]; refine (I.out _ (zf u.out)).mono ?_; rw [o,zW]; rintro e w1 ⟨rfl,d⟩))
  all_goals
   have s := zc (za (zf u.out) d); have H : Hid (Box w1 w.heap.size (.mk g x m p l) sv) := Box.kept J.out (za (zf grn) d); obtain ⟨v,A,B,C,D⟩ := H.out; go_wp2_with fail; go_at_call 53; refine (zu _ (.mk g x m p l) sv 5).mono ?_; rintro e U E; have K := E; obtain ⟨q,rfl⟩ := E.thrown
   exact ⟨rfl,K.err s.out⟩
 | some t =>
  have L : Hid (w.cell? ⟨ρ.th t,0,none⟩ = some (.int .i64 (S.th t).kind)) := (N.out.th t (f t o)).bk.c 0 _ rfl; have Q : Hid (w.cell? ⟨ρ.th t,4,none⟩ = some (ρ.tyP (S.th t).ty)) := (N.out.th t (f t o)).bk.c 4 _ rfl
  by_cases r : (S.th t).kind = 2
  ·obtain ⟨i,M⟩ := k t o r
   rw [r] at L; rw [M,yo] at Q; rw [show S.namedType c (.mk g x m p l) = .ok i by simp [KS.namedType,o,r,M]]; clear f k r M
   go_enter Tryz.func106,Tryz.ntmps106
   go_wp2_with fail
   go_region_with (first | (go_at_call 154; rw [<- j]; refine (I.out _ (zf u.out)).mono ?_; rw [o,yj]; rintro e w1 ⟨rfl,d⟩))
   all_goals
    have s := zc (za (zf u.out) d); have H : Hid (Box w1 w.heap.size (.mk g x m p l) sv) := Box.kept J.out (za (zf grn) d); have F := ze s.out L.out; have R := ze s.out Q.out; go_wp2
    go_ret
    exact Cy.ok s.out
  ·rw [show S.namedType c (.mk g x m p l) = .error (8,p) by simp [KS.namedType,o,r,thr,T.at']]
   have V : decide ((S.th t).kind = 2) = false := by simpa using r
   clear f k
   go_enter Tryz.func106,Tryz.ntmps106
   go_wp2_with fail
   go_region_with (first | (go_at_call 154; rw [<- j]; refine (I.out _ (zf u.out)).mono ?_; rw [o,yj]; rintro e w1 ⟨rfl,d⟩))
   all_goals
    have s := zc (za (zf u.out) d); have H : Hid (Box w1 w.heap.size (.mk g x m p l) sv) := Box.kept J.out (za (zf grn) d); have F := ze s.out L.out; obtain ⟨v,A,B,C,D⟩ := H.out; go_wp2_with fail; go_at_call 53; refine (zu _ (.mk g x m p l) sv 8).mono ?_; rintro e U E; have K := E; obtain ⟨q,rfl⟩ := E.thrown
    exact ⟨rfl,K.err s.out⟩
theorem yG (h : CK ρ w S b c) (n : T) (sv : Value) (hf : Fits n) (ha : AT w n.subs sv) :
  Calls Tryz.prog 74 #[pq b,zo n sv] w (Cy w ((S.typeName c n).map fun t => pq (ρ.ty t))) := by
 have u := zc (fun w1 (G : w.grownBy w1 none) => jJ (h.up G) n sv hf (ha.kept G)); have H := zc h.km
 have v : ∀ t,S.namedType c n = .ok t -> t < S.tys.length := fun t ht => uR h ht
 obtain ⟨d,x,m,p,l⟩ := n
 change Calls Tryz.prog 74 #[pq b,.agg #[.int .i64 d,.string ⟨x.toArray⟩,.int .i64 m,.int .i64 p,sv]] w _
 obtain ⟨B,f⟩ : ∃ z,z = w.alloc (.cells #[.int .i64 d,.string ⟨x.toArray⟩,.int .i64 m,.int .i64 p,sv] 100) := ⟨_,rfl⟩
 have j : Hid (w.grownBy B none) := by rw [f]; exact zh grn _
 have C : Hid (Box B w.heap.size (.mk d x m p l) sv) := by rw [f]; exact Box.new w (.mk d x m p l) sv _
 clear h ha hf; cases i : S.namedType c (.mk d x m p l) with
 | error z =>
  rw [show S.typeName c (.mk d x m p l) = .error z by simp [KS.typeName,i,Except.bind]]
  go_enter Tryz.func74,Tryz.ntmps74
  go_wp2_with fail; go_at_call 106; rw [<- f]; refine (u.out _ j.out).mono ?_; rw [i]; rintro e w1 D; have A := D; obtain ⟨q,rfl⟩ := D.thrown
  exact ⟨rfl,A.err j.out⟩
 | ok t =>
  have r : Hid (w.cell? ⟨ρ.ty t,7,none⟩ = some (.bool (S.ty t).complete)) := H.out.y7 (v t i); cases s : (S.ty t).complete
  ·rw [s] at r
   rw [show S.typeName c (.mk d x m p l) = .error (5,p) by simp [KS.typeName,i,s,Except.bind,thr,T.at']]
   go_enter Tryz.func74,Tryz.ntmps74
   go_wp2_with fail; go_at_call 106; rw [<- f]; refine (u.out _ j.out).mono ?_; rw [i]; rintro e w1 ⟨g,rfl⟩; have k := zc (za j.out g); have E : Hid (Box w1 w.heap.size (.mk d x m p l) sv) := Box.kept C.out (za grn g); have o := ze k.out r.out; obtain ⟨_,_,_,_,_⟩ := E.out; go_wp2_with fail; go_at_call 53; refine (zu _ (.mk d x m p l) sv 5).mono ?_; rintro e I F; have A := F; obtain ⟨q,rfl⟩ := F.thrown
   exact ⟨rfl,A.err k.out⟩
  ·rw [s] at r
   rw [show S.typeName c (.mk d x m p l) = .ok t by simp [KS.typeName,i,s,Except.bind]]
   go_enter Tryz.func74,Tryz.ntmps74
   go_wp2_with fail; go_at_call 106; rw [<- f]; refine (u.out _ j.out).mono ?_; rw [i]; rintro e w1 ⟨g,rfl⟩; have k := zc (za j.out g); have E : Hid (Box w1 w.heap.size (.mk d x m p l) sv) := Box.kept C.out (za grn g); have o := ze k.out r.out; go_wp2
   go_ret
   exact Cy.ok k.out
end
section
variable {ρ : Lay} {w w' w1 : World} {S : KS} {b : Nat} {c : KSc}
structure KTys (S : KS) : Prop where
 rc : ∀ i,i < S.tys.length -> (S.ty i).form = 4 -> ∀ j,(S.ty i).of = some j -> j < i /\ (S.ty j).form = 4
 fd : ∀ i,i < S.tys.length -> ∀ d ∈ (S.ty i).fields,d.ty < S.tys.length
 hm : ∀ i,i < S.tys.length -> (S.ty i).form = 4 -> ∃ m,(S.ty i).home = some m /\ m < S.mds.length
 pt : ∀ i,i < S.tys.length -> (S.ty i).form = 5 -> (S.ty i).complete = true -> ∃ j,(S.ty i).of = some j /\ j < S.tys.length /\ (S.ty j).form = 4
 ar : ∀ i,i < S.tys.length -> (S.ty i).form = 3 -> (S.ty i).complete = true -> ∃ j,(S.ty i).of = some j /\ j < S.tys.length
theorem aT (h : KM ρ w S) {i j : Nat} (hi : i < S.tys.length) (hj : j < S.tys.length) (e : ρ.ty i = ρ.ty j) : i = j := by
 have d := (h.ty i hi).col; have f := (h.ty j hj).col; rw [e,f] at d; cases d
 rfl
theorem gQ {o : Option TypeInfo} {n : Nat} (h : o.map (·.size) = some (n + 1)) : ∃ j,o = some j /\ j.size ≠ 0 := by
 cases o with
 | none => cases h
 | some j => exact ⟨j,rfl,by simp only [Option.map_some,Option.some.injEq] at h; omega⟩
theorem cE : (Tryz.prog.info? 54).map (·.size) = some 8 := by kernel_rfl
theorem oT : (Tryz.prog.info? 85).map (·.size) = some 9 := by kernel_rfl
theorem vp {t : TypeId} {a b : Option Addr} {x : Bool} (h : (binOp .eql t (.pointer a) (.pointer b)).run Tryz.prog w = .ok (.bool x) w) : (binOp .neq t (.pointer a) (.pointer b)).run Tryz.prog w = .ok (.bool (!x)) w := by
 simp only [binOp] at h ⊢
 simp at h ⊢
 cases d : (Op.equal t (.pointer a) (.pointer b)).run Tryz.prog w <;> rw [d] at h <;> simp_all
theorem jX (h : KM ρ w S) {i j : Nat} (hi : i < S.tys.length) (hj : j < S.tys.length) (x : Bool) (hx : decide (i = j) = x) :
  (binOp .eql 47 (pq (ρ.ty i)) (pq (ρ.ty j))).run Tryz.prog w = .ok (.bool x) w := by
 obtain ⟨_,f,g⟩ := gQ cE
 by_cases e : i = j
 ·subst e
  rw [<- hx,run_eql_ptr_same w _ Tryz.underlying47 f]
  simp
 ·obtain ⟨_,k⟩ := h.y hi
  obtain ⟨_,l⟩ := h.y hj; obtain ⟨_,_,m⟩ := k.ob; obtain ⟨_,_,n⟩ := l.ob; rw [<- hx,run_eql_ptr_other w Tryz.underlying47 f g (by intro d; injection d with d; exact e (aT h hi hj d)) m n]
  simp [e]
theorem ay (h : KM ρ w S) {i j : Nat} (hi : i < S.mds.length) (hj : j < S.mds.length) (e : ρ.md i = ρ.md j) : i = j := by
 have d := (h.md i hi).col; have f := (h.md j hj).col; rw [e,f] at d; cases d
 rfl
theorem mc (h : KM ρ w S) {i j : Nat} (hi : i < S.mds.length) (hj : j < S.mds.length) (x : Bool) (hx : decide (i = j) = x) :
  (binOp .eql 51 (pq (ρ.md i)) (pq (ρ.md j))).run Tryz.prog w = .ok (.bool x) w := by
 obtain ⟨_,f,g⟩ := gQ oT
 by_cases e : i = j
 ·subst e
  rw [<- hx,run_eql_ptr_same w _ Tryz.underlying51 f]
  simp
 ·obtain ⟨_,_,_,k,_⟩ := (h.md i hi).bk
  obtain ⟨_,_,_,l,_⟩ := (h.md j hj).bk; obtain ⟨_,_,m⟩ := k.ob; obtain ⟨_,_,n⟩ := l.ob; rw [<- hx,run_eql_ptr_other w Tryz.underlying51 f g (by intro d; injection d with d; exact e (ay h hi hj d)) m n]
  simp [e]
theorem qP (hT : KTys S) (o : Nat) : ∀ (f g i : Nat),i < f -> i < g -> i < S.tys.length -> (S.ty i).form = 4 -> S.extF f i o = S.extF g i o
 | f + 1,g + 1,i,hf,hg,hi,h4 => by
  unfold KS.extF
  split
  ·rfl
  ·cases hq : (S.ty i).of with
   | none => rfl
   | some q =>
    obtain ⟨_,h2⟩ := hT.rc i hi h4 q hq
    exact qP hT o f g q (by omega) (by omega) (by omega) h2
theorem lB (hT : KTys S) {i o : Nat} (hi : i < S.tys.length) (h4 : (S.ty i).form = 4) : S.ext i o = if i = o then true else match (S.ty i).of with
  | none => false
  | some q => S.ext q o := by
 unfold KS.ext
 rw [KS.extF]
 split
 ·rfl
 ·cases d : (S.ty i).of with
  | none => rfl
  | some q =>
   obtain ⟨e,f⟩ := hT.rc i hi h4 q d
   exact qP hT o i (q + 1) q e (by omega) (by omega) f
def bO (ρ : Lay) : Value -> Nat
 | .pointer (some a) => match ρ.col a.block with
  | some (.ty i) => i + 1
  | _ => 0
 | _ => 0
theorem gm (h : KM ρ w S) {i : Nat} (hi : i < S.tys.length) : bO ρ (pq (ρ.ty i)) = i + 1 := by simp [bO,(h.ty i hi).col]
def zay (S : KS) (o : Nat) : Option Nat -> Bool
 | none => false
 | some i => S.ext i o
theorem vL (h : KM ρ w S) (hT : KTys S) {r o : Nat} (hr : r < S.tys.length) (ho : o < S.tys.length) (h4 : (S.ty r).form = 4) :
  Calls Tryz.prog 189 #[pq (ρ.ty r),pq (ρ.ty o)] w fun e w' => e = .returned (.bool (S.ext r o)) /\ w' = w := by
 have k := zc h; have l := zc hT; clear h hT
 go_enter Tryz.func189,Tryz.ntmps189
 go_wp2_with fail
 go_loop [5] (fun v => ∃ q : Option Nat,v = ρ.tyP q /\ Hid (∀ i,q = some i -> i < S.tys.length /\ (S.ty i).form = 4) /\ Hid (S.ext r o = zay S o q)) (fun v => bO ρ v)
 case atStart => exact ⟨some r,rfl,fun i d => by cases d; exact ⟨hr,h4⟩,rfl⟩
 case round =>
  obtain ⟨q,rfl,x,m⟩ := hrel; cases q with
  | none =>
   rw [uM]; go_wp2
   go_ret
   exact ⟨by rw [m.out]; rfl,rfl⟩
  | some i =>
   obtain ⟨d,g⟩ := x.out i rfl; have y5 := k.out.y5 d; have t := zc (lB l.out (o := o) d g); have z := zc (gm k.out d); rw [yo]
   by_cases f : i = o
   ·subst f
    have n := jX k.out d d true (by simp); go_wp2
    go_ret
    exact ⟨by rw [m.out]; show Ending.returned (.bool true) = .returned (.bool (S.ext i i)); rw [t.out]; simp,rfl⟩
   ·have n := jX k.out d ho false (by simpa using f)
    have A := zc f; clear f; go_wp2
    go_round
    case rel =>
     refine ⟨(S.ty i).of,rfl,fun j s => ?_,?_⟩
     ·obtain ⟨B,u⟩ := l.out.rc i d g j s
      exact ⟨by omega,u⟩
     ·show S.ext r o = zay S o (S.ty i).of
      rw [m.out]
      show S.ext i o = _
      rw [t.out,if_neg A.out]
      cases (S.ty i).of <;> rfl
    case measure =>
     rw [z.out]; cases s : (S.ty i).of with
     | none => exact Nat.succ_pos _
     | some j =>
      obtain ⟨B,u⟩ := l.out.rc i d g j s; rw [yo,gm k.out (by omega)]
      omega
end
section
variable {ρ : Lay} {w w' w1 : World} {S : KS} {b : Nat} {c : KSc}
def KS.typeOf (S : KS) (m : Nat) (x : Nm) : Option Nat := match lk (S.md m).names x with
 | some t => if (S.th t).kind = 2 then (S.th t).ty else none
 | none => none
theorem KM.wc0 (h : KM ρ w S) : w.cell? ⟨ρ.wd,0,none⟩ = some (pq (ρ.ty 0)) := h.wd.c 0 _ rfl
theorem KM.wc1 (h : KM ρ w S) : w.cell? ⟨ρ.wd,1,none⟩ = some (pq (ρ.ty 1)) := h.wd.c 1 _ rfl
theorem KM.wc2 (h : KM ρ w S) : w.cell? ⟨ρ.wd,2,none⟩ = some (pq (ρ.ty 2)) := h.wd.c 2 _ rfl
theorem zS (h : KM ρ w S) {t : Nat} (ht : t < S.tys.length) : Calls Tryz.prog 155 #[pq (ρ.ty t)] w fun e w' => e = .returned (.bool (S.oneWord t)) /\ w' = w := by
 have y0 := h.y0 ht; clear h
 by_cases d : (S.ty t).form = 3
 ·rw [show S.oneWord t = false by simp [KS.oneWord,d]]
  rw [d] at y0
  go_enter Tryz.func155,Tryz.ntmps155
  go_wp2
  go_ret
  exact ⟨rfl,rfl⟩
 ·have f : decide ((S.ty t).form = 3) = false := by simpa using d
  go_enter Tryz.func155,Tryz.ntmps155
  go_wp2
  go_ret
  exact ⟨rfl,rfl⟩
theorem xY (h : CK ρ w S b c) (x : Nm) : Calls Tryz.prog 150 #[pq b,.string ⟨x.toArray⟩] w fun e w' => e = .returned (pq (ρ.ty (yD x))) /\ w' = w := by
 have s0 := h.s0; have g := h.km.wc0; have w1 := h.km.wc1; clear h
 by_cases d : x = lK
 ·rw [show yD x = 1 by simp [yD,d]]
  subst d
  go_enter Tryz.func150,Tryz.ntmps150
  go_wp2
  go_ret
  exact ⟨rfl,rfl⟩
 ·have i : (x == [38]) = false := by simpa [lK] using d
  by_cases f : x = aP
  ·rw [show yD x = 1 by simp [yD,f]]
   subst f
   go_enter Tryz.func150,Tryz.ntmps150
   go_wp2
   go_ret
   exact ⟨rfl,rfl⟩
  ·have j : (x == [79,82]) = false := by simpa [aP] using f
   rw [show yD x = 0 by simp [yD,d,f]]
   go_enter Tryz.func150,Tryz.ntmps150
   go_wp2
   go_ret
   exact ⟨rfl,rfl⟩
theorem xI (h : CK ρ w S b c) (x : Nm) : Calls Tryz.prog 151 #[pq b,.string ⟨x.toArray⟩] w fun e w' => e = .returned (pq (ρ.ty (xd x))) /\ w' = w := by
 have s0 := h.s0; have l := h.km.wc0; have w1 := h.km.wc1; clear h
 by_cases d : x = [43] \/ x = [45] \/ x = [42] \/ x = [68,73,86] \/ x = [77,79,68]
 ·rw [show xd x = 0 by simp only [xd,if_pos d]]
  rcases d with rfl | rfl | rfl | rfl | rfl
  all_goals
   go_enter Tryz.func151,Tryz.ntmps151
   go_wp2
   go_ret
   exact ⟨rfl,rfl⟩
 ·rw [show xd x = 1 by simp only [xd,if_neg d]]
  simp only [not_or] at d; obtain ⟨f,g,i,j,k⟩ := d
  have m : (x == [43]) = false := by simpa using f
  have n : (x == [45]) = false := by simpa using g
  have o : (x == [42]) = false := by simpa using i
  have q : (x == [68,73,86]) = false := by simpa using j
  have r : (x == [77,79,68]) = false := by simpa using k
  go_enter Tryz.func151,Tryz.ntmps151
  go_wp2
  go_ret
  exact ⟨rfl,rfl⟩
theorem pi (n : T) (sv : Value) : Calls Tryz.prog 72 #[zo n sv] w (Sy w (.int .i64 (if n.kind = 9 then 3 else if n.kind = 10 then 4 else 5))) := by
 obtain ⟨d,x,m,p,_⟩ := n
 change Calls Tryz.prog 72 #[.agg #[.int .i64 d,.string ⟨x.toArray⟩,.int .i64 m,.int .i64 p,sv]] w (Sy w (.int .i64 (if d = 9 then 3 else if d = 10 then 4 else 5)))
 by_cases e : d = 9
 ·subst e
  go_enter Tryz.func72,Tryz.ntmps72
  go_wp2
  go_ret
  exact ⟨rfl,zh grn _⟩
 ·have g : decide (d = 9) = false := by simpa using e
  rw [if_neg e]
  by_cases f : d = 10
  ·subst f
   go_enter Tryz.func72,Tryz.ntmps72
   go_wp2
   go_ret
   exact ⟨rfl,zh grn _⟩
  ·have h : decide (d = 10) = false := by simpa using f
   rw [if_neg f]
   go_enter Tryz.func72,Tryz.ntmps72
   go_wp2
   go_ret
   exact ⟨rfl,zh grn _⟩
theorem jH (h : KM ρ w S) (ho : KOk S) {m : Nat} (hm : m < S.mds.length) (x : Nm) (hx : x.length <= maxLen) : Calls Tryz.prog 28 #[pq (ρ.md m),.string ⟨x.toArray⟩] w fun e w' => e = .returned (ρ.tyP (S.typeOf m x)) /\ w' = w := by
 obtain ⟨k,l,n,g,-⟩ := (h.md m hm).bk; have o : w.cell? ⟨ρ.md m,8,none⟩ = some (.map (some (ρ.nm m))) := g.c 8 _ rfl; have i := xM (h.md m hm).mp x hx; clear g; cases d : lk (S.md m).names x with
 | none =>
  rw [d,zW] at i; rw [show S.typeOf m x = none by simp [KS.typeOf,d]]
  go_enter Tryz.func28,Tryz.ntmps28
  go_wp2
  go_ret
  exact ⟨rfl,rfl⟩
 | some t =>
  rw [d,yj] at i; have j : w.cell? ⟨ρ.th t,0,none⟩ = some (.int .i64 (S.th t).kind) := (h.th t (ho.nm m hm x t d)).bk.c 0 _ rfl; have q : w.cell? ⟨ρ.th t,4,none⟩ = some (ρ.tyP (S.th t).ty) := (h.th t (ho.nm m hm x t d)).bk.c 4 _ rfl; clear h
  by_cases f : (S.th t).kind = 2
  ·rw [f] at j
   rw [show S.typeOf m x = (S.th t).ty by simp [KS.typeOf,d,f]]
   go_enter Tryz.func28,Tryz.ntmps28
   go_wp2
   go_ret
   exact ⟨rfl,rfl⟩
  ·have r : decide ((S.th t).kind = 2) = false := by simpa using f
   rw [show S.typeOf m x = none by simp [KS.typeOf,d,f]]
   go_enter Tryz.func28,Tryz.ntmps28
   go_wp2
   go_ret
   exact ⟨rfl,rfl⟩
theorem zP (h : KM ρ w S) (n : T) (sv : Value) (ha : AT w n.subs sv) {t u : Nat} (ht : t < S.tys.length) (hu : u < S.tys.length) :
  Calls Tryz.prog 115 #[zo n sv,pq (ρ.ty t),pq (ρ.ty u)] w (Cy w ((yX n t u).map fun _ => .tuple #[])) := by
 have k := zc h; obtain ⟨g,x,m,p,l⟩ := n
 change Calls Tryz.prog 115 #[.agg #[.int .i64 g,.string ⟨x.toArray⟩,.int .i64 m,.int .i64 p,sv],pq (ρ.ty t),pq (ρ.ty u)] w _
 obtain ⟨o,d⟩ : ∃ z,z = w.alloc (.cells #[.int .i64 g,.string ⟨x.toArray⟩,.int .i64 m,.int .i64 p,sv] 100) := ⟨_,rfl⟩
 have i : Hid (w.grownBy o none) := by rw [d]; exact zh grn _
 have s : Hid (Box o w.heap.size (.mk g x m p l) sv) := by rw [d]; exact Box.new w (.mk g x m p l) sv _
 clear h ha
 by_cases f : t = u
 ·subst f
  have j := vp (jX (k.out.up i.out) ht hu true (by simp)); rw [d] at j; rw [show yX (.mk g x m p l) t t = .ok () by simp [yX]]
  go_enter Tryz.func115,Tryz.ntmps115
  go_wp2; refine bodyPost_end (results_none rfl _ _ _) rfl ?_
  exact Cy.ok gan
 ·have j := vp (jX (k.out.up i.out) ht hu false (by simpa using f))
  rw [d] at j; rw [show yX (.mk g x m p l) t u = .error (7,p) by simp [yX,f,thr,T.at']]; clear f
  go_enter Tryz.func115,Tryz.ntmps115
  go_wp2_with fail; go_at_call 53; rw [<- d]; refine (zu _ (.mk g x m p l) sv 7).mono ?_; rintro e w1 q; have r := q; obtain ⟨_,rfl⟩ := q.thrown
  exact ⟨rfl,r.err i.out⟩
theorem qT (h : KM ρ w S) (n : T) (sv : Value) (ha : AT w n.subs sv) {t : Nat} (ht : t < S.tys.length) :
  Calls Tryz.prog 105 #[pq b,zo n sv,pq (ρ.ty t)] w (Cy w ((S.record n t).map fun t => pq (ρ.ty t))) := by
 have y0 := h.y0 ht; have k := zw y0; simp only at k; obtain ⟨f,x,m,p,l⟩ := n
 change Calls Tryz.prog 105 #[pq b,.agg #[.int .i64 f,.string ⟨x.toArray⟩,.int .i64 m,.int .i64 p,sv],pq (ρ.ty t)] w _
 obtain ⟨i,g⟩ : ∃ z,z = w.alloc (.cells #[.int .i64 f,.string ⟨x.toArray⟩,.int .i64 m,.int .i64 p,sv] 100) := ⟨_,rfl⟩
 have o : Hid (w.grownBy i none) := by rw [g]; exact zh grn _
 have r : Hid (Box i w.heap.size (.mk f x m p l) sv) := by rw [g]; exact Box.new w (.mk f x m p l) sv _
 clear h ha
 by_cases d : (S.ty t).form = 4
 ·rw [d] at y0
  rw [show S.record (.mk f x m p l) t = .ok t by simp [KS.record,d]]
  go_enter Tryz.func105,Tryz.ntmps105
  go_wp2
  go_ret
  exact Cy.ok gan
 ·have s : decide ((S.ty t).form = 4) = false := by simpa using d
  rw [show S.record (.mk f x m p l) t = .error (7,p) by simp [KS.record,d,thr,T.at']]
  go_enter Tryz.func105,Tryz.ntmps105
  go_wp2_with fail; go_at_call 53; rw [<- g]; refine (zu _ (.mk f x m p l) sv 7).mono ?_; rintro e w1 j; have q := j; obtain ⟨_,rfl⟩ := j.thrown
  exact ⟨rfl,q.err o.out⟩
end
section
variable {ρ : Lay} {w w' w1 : World} {S : KS} {b : Nat} {c : KSc}
structure KAll (S : KS) : Prop extends KTys S where
 cp : ∀ i,i < S.tys.length -> (S.ty i).form ≠ 2 -> (S.ty i).complete = true
theorem KAll.p (h : KAll S) {i : Nat} (hi : i < S.tys.length) (h5 : (S.ty i).form = 5) : (S.ty i).of = some (S.of i) /\ S.of i < S.tys.length /\ (S.ty (S.of i)).form = 4 := by
 obtain ⟨j,d,e,f⟩ := h.pt i hi h5 (h.cp i hi (by omega))
 have : S.of i = j := by simp [KS.of,d]
 rw [this]
 exact ⟨d,e,f⟩
theorem KAll.a (h : KAll S) {i : Nat} (hi : i < S.tys.length) (h5 : (S.ty i).form = 3) : (S.ty i).of = some (S.of i) /\ S.of i < S.tys.length := by
 obtain ⟨j,d,e⟩ := h.ar i hi h5 (h.cp i hi (by omega))
 have : S.of i = j := by simp [KS.of,d]
 rw [this]
 exact ⟨d,e⟩
theorem yI (h : KM ρ w S) (hT : KAll S) {t o : Nat} (ht : t < S.tys.length) (ho : o < S.tys.length) : Calls Tryz.prog 156 #[pq (ρ.ty t),pq (ρ.ty o)] w (Sy w (.bool (S.takes t o))) := by
 have d := zc h; have i := zc hT; have y0 := h.y0 ht; have j := h.y0 ho
 by_cases e : t = o
 ·subst e
  have k := jX d.out ht ht true (by simp); clear h; rw [show S.takes t t = true by simp [KS.takes]]
  go_enter Tryz.func156,Tryz.ntmps156
  go_wp2
  go_ret
  exact ⟨rfl,zj w none⟩
 ·have k := jX d.out ht ho false (by simpa using e)
  by_cases h5 : (S.ty t).form = 5
  ·obtain ⟨f,l,_⟩ := hT.p ht h5
   have y5 := h.y5 ht; rw [f,yo] at y5; rw [h5] at y0
   by_cases g5 : (S.ty o).form = 5
   ·obtain ⟨g,m,n⟩ := hT.p ho g5
    have q := h.y5 ho; rw [g,yo] at q; rw [g5] at j; rw [show S.takes t o = S.ext (S.of o) (S.of t) by simp [KS.takes,e,h5,g5]]; clear h hT e f g
    go_enter Tryz.func156,Tryz.ntmps156
    go_wp2
    go_quiet (first | (go_at_call 189; exact Calls.quiet_of_same (vL (d.out.up (zq grn _)) i.out.toKTys m l n)) | fail)
    go_wp2
    go_ret
    exact ⟨rfl,zq grn _⟩
   ·have r : decide ((S.ty o).form = 5) = false := by simpa using g5
    rw [show S.takes t o = decide ((S.ty o).form = 2) by simp [KS.takes,e,h5,g5]]; clear h hT e f
    go_enter Tryz.func156,Tryz.ntmps156
    go_wp2
    go_ret
    exact ⟨rfl,zj w none⟩
  ·have s : decide ((S.ty t).form = 5) = false := by simpa using h5
   rw [show S.takes t o = false by simp [KS.takes,e,h5]]; clear h hT e
   go_enter Tryz.func156,Tryz.ntmps156
   go_wp2
   go_ret
   exact ⟨rfl,zj w none⟩
end
section
variable {ρ : Lay} {w w' w1 : World} {S : KS} {b : Nat} {c : KSc}
theorem uW (h : CK ρ w S b c) (hT : KAll S) {x y : Nat} (hx : x < S.tys.length) (hy : y < S.tys.length) :
  Calls Tryz.prog 208 #[pq b,pq (ρ.ty x),pq (ρ.ty y)] w (Sy w (.bool (S.mayEq x y))) := by
 have f := zc h.km; have o := zc hT; have s0 := h.s0; have t := h.km.wc2; have z := h.ok.three; have u := jX h.km hx (show 2 < S.tys.length by omega) (decide (x = 2)) rfl; have v := jX h.km hy (show 2 < S.tys.length by omega) (decide (y = 2)) rfl; clear h hT; cases j : S.oneWord x
 ·rw [show S.mayEq x y = false by simp [KS.mayEq,j]]
  go_enter Tryz.func208,Tryz.ntmps208
  go_wp2_with fail; go_at_call 155; refine (zS (f.out.up grn) hx).mono ?_; rw [j]; rintro e w1 ⟨rfl,d⟩; rw [d]; clear d; go_wp2
  go_ret
  exact ⟨rfl,grn⟩
 cases l : S.oneWord y
 ·rw [show S.mayEq x y = false by simp [KS.mayEq,l]]
  go_enter Tryz.func208,Tryz.ntmps208
  go_wp2_with fail; go_at_call 155; refine (zS (f.out.up grn) hx).mono ?_; rw [j]; rintro e w1 ⟨rfl,d⟩; rw [d]; clear d; go_wp2_with fail; go_at_call 155; refine (zS (f.out.up grn) hy).mono ?_; rw [l]; rintro e w1 ⟨rfl,d⟩; rw [d]; clear d; go_wp2
  go_ret
  exact ⟨rfl,grn⟩
 by_cases i : x = 2 /\ y = 2
 ·rw [show S.mayEq x y = false by simp [KS.mayEq,i]]
  obtain ⟨rfl,rfl⟩ := i
  go_enter Tryz.func208,Tryz.ntmps208
  go_wp2_with fail; go_at_call 155; refine (zS (f.out.up grn) hx).mono ?_; rw [j]; rintro e w1 ⟨rfl,d⟩; rw [d]; clear d; go_wp2_with fail; go_at_call 155; refine (zS (f.out.up grn) hy).mono ?_; rw [l]; rintro e w1 ⟨rfl,d⟩; rw [d]; clear d; go_wp2
  go_ret
  exact ⟨rfl,grn⟩
 have q : (decide (x = 2) && decide (y = 2)) = false := by
  rw [Bool.and_eq_false_iff]
  rcases Classical.em (x = 2) with m | m
  ·exact .inr (by simpa using fun hy2 => i ⟨m,hy2⟩)
  ·exact .inl (by simpa using m)
 rw [show S.mayEq x y = (S.takes x y || S.takes y x) by simp [KS.mayEq,j,l,i]]
 generalize decide (x = 2) = d1 at u q
 generalize decide (y = 2) = d2 at v q
 clear i; cases r : S.takes x y
 ·cases d1
  ·clear q
   go_enter Tryz.func208,Tryz.ntmps208
   go_wp2_with fail; go_at_call 155; refine (zS (f.out.up grn) hx).mono ?_; rw [j]; rintro e w1 ⟨rfl,d⟩; rw [d]; clear d; go_wp2_with fail; go_at_call 155; refine (zS (f.out.up grn) hy).mono ?_; rw [l]; rintro e w1 ⟨rfl,d⟩; rw [d]; clear d; go_wp2_with fail; go_at_call 156; refine (yI (f.out.up grn) o.out hx hy).mono ?_; rw [r]; rintro e w1 ⟨rfl,g⟩; have k := zc (za grn g); go_wp2_with fail; go_at_call 156; refine (yI (f.out.up k.out) o.out hy hx).mono ?_; rintro e t ⟨rfl,n⟩; have s := zc (za k.out n); go_wp2
   go_ret
   exact ⟨rfl,s.out⟩
  ·obtain rfl : d2 = false := by simpa using q
   go_enter Tryz.func208,Tryz.ntmps208
   go_wp2_with fail; go_at_call 155; refine (zS (f.out.up grn) hx).mono ?_; rw [j]; rintro e w1 ⟨rfl,d⟩; rw [d]; clear d; go_wp2_with fail; go_at_call 155; refine (zS (f.out.up grn) hy).mono ?_; rw [l]; rintro e w1 ⟨rfl,d⟩; rw [d]; clear d; go_wp2_with fail; go_at_call 156; refine (yI (f.out.up grn) o.out hx hy).mono ?_; rw [r]; rintro e w1 ⟨rfl,g⟩; have k := zc (za grn g); go_wp2_with fail; go_at_call 156; refine (yI (f.out.up k.out) o.out hy hx).mono ?_; rintro e t ⟨rfl,n⟩; have s := zc (za k.out n); go_wp2
   go_ret
   exact ⟨rfl,s.out⟩
 ·cases d1
  ·clear q
   go_enter Tryz.func208,Tryz.ntmps208
   go_wp2_with fail; go_at_call 155; refine (zS (f.out.up grn) hx).mono ?_; rw [j]; rintro e w1 ⟨rfl,d⟩; rw [d]; clear d; go_wp2_with fail; go_at_call 155; refine (zS (f.out.up grn) hy).mono ?_; rw [l]; rintro e w1 ⟨rfl,d⟩; rw [d]; clear d; go_wp2_with fail; go_at_call 156; refine (yI (f.out.up grn) o.out hx hy).mono ?_; rw [r]; rintro e w1 ⟨rfl,g⟩; have k := zc (za grn g); go_wp2
   go_ret
   exact ⟨rfl,k.out⟩
  ·obtain rfl : d2 = false := by simpa using q
   go_enter Tryz.func208,Tryz.ntmps208
   go_wp2_with fail; go_at_call 155; refine (zS (f.out.up grn) hx).mono ?_; rw [j]; rintro e w1 ⟨rfl,d⟩; rw [d]; clear d; go_wp2_with fail; go_at_call 155; refine (zS (f.out.up grn) hy).mono ?_; rw [l]; rintro e w1 ⟨rfl,d⟩; rw [d]; clear d; go_wp2_with fail; go_at_call 156; refine (yI (f.out.up grn) o.out hx hy).mono ?_; rw [r]; rintro e w1 ⟨rfl,g⟩; have k := zc (za grn g); go_wp2
   go_ret
   exact ⟨rfl,k.out⟩
theorem pJ {n : T} {t : Nat} (e : S.typeName c n = .ok t) : S.namedType c n = .ok t /\ (S.ty t).complete = true := by
 unfold KS.typeName at e
 cases d : S.namedType c n with
 | error z => rw [d] at e; cases e
 | ok u =>
  rw [d] at e; simp only [Except.bind] at e
  split at e
  ·rename_i hu
   cases e
   exact ⟨rfl,hu⟩
  ·cases e
theorem yF (h : CK ρ w S b c) {n : T} {t : Nat} (e : S.typeName c n = .ok t) : t < S.tys.length := uR h (pJ e).1
theorem uJ (h : CK ρ w S b c) (n : T) (sv : Value) (hf : Fits n) (ha : AT w n.subs sv) :
  Calls Tryz.prog 108 #[pq b,zo n sv] w (Cy w ((S.oneWordType c n).map fun t => pq (ρ.ty t))) := by
 have u := zc (fun w1 (G : w.grownBy w1 none) => yG (h.up G) n sv hf (ha.kept G)); have B := zc h.km
 have v : ∀ t,S.typeName c n = .ok t -> t < S.tys.length := fun t r => yF h r
 obtain ⟨d,x,m,p,l⟩ := n
 change Calls Tryz.prog 108 #[pq b,.agg #[.int .i64 d,.string ⟨x.toArray⟩,.int .i64 m,.int .i64 p,sv]] w _
 obtain ⟨C,f⟩ : ∃ z,z = w.alloc (.cells #[.int .i64 d,.string ⟨x.toArray⟩,.int .i64 m,.int .i64 p,sv] 100) := ⟨_,rfl⟩
 have k : Hid (w.grownBy C none) := by rw [f]; exact zh grn _
 have D : Hid (Box C w.heap.size (.mk d x m p l) sv) := by rw [f]; exact Box.new w (.mk d x m p l) sv _
 clear h ha hf; cases j : S.typeName c (.mk d x m p l) with
 | error z =>
  rw [show S.oneWordType c (.mk d x m p l) = .error z by simp [KS.oneWordType,j,Except.bind]]
  go_enter Tryz.func108,Tryz.ntmps108
  go_wp2_with fail; go_at_call 74; rw [<- f]; refine (u.out _ k.out).mono ?_; rw [j]; rintro e w1 E; have A := E; obtain ⟨q,rfl⟩ := E.thrown
  exact ⟨rfl,A.err k.out⟩
 | ok t =>
  have r := v t j; cases s : S.oneWord t
  ·rw [show S.oneWordType c (.mk d x m p l) = .error (7,p) by simp [KS.oneWordType,j,s,Except.bind,thr,T.at']]
   go_enter Tryz.func108,Tryz.ntmps108
   go_wp2_with fail; go_at_call 74; rw [<- f]; refine (u.out _ k.out).mono ?_; rw [j]; rintro e w1 ⟨g,rfl⟩; have o := zc (za k.out g); have F : Hid (Box w1 w.heap.size (.mk d x m p l) sv) := Box.kept D.out (za grn g); obtain ⟨_,_,_,_,_⟩ := F.out; go_wp2_with fail; go_at_call 155; refine (zS (B.out.up o.out) r).mono ?_; rw [s]; rintro e H ⟨rfl,i⟩; rw [i]; clear i; go_wp2_with fail; go_at_call 53; refine (zu _ (.mk d x m p l) sv 7).mono ?_; rintro e H I; have A := I; obtain ⟨q,rfl⟩ := I.thrown
   exact ⟨rfl,A.err o.out⟩
  ·rw [show S.oneWordType c (.mk d x m p l) = .ok t by simp [KS.oneWordType,j,s,Except.bind]]
   go_enter Tryz.func108,Tryz.ntmps108
   go_wp2_with fail; go_at_call 74; rw [<- f]; refine (u.out _ k.out).mono ?_; rw [j]; rintro e w1 ⟨g,rfl⟩; have o := zc (za k.out g); have F : Hid (Box w1 w.heap.size (.mk d x m p l) sv) := Box.kept D.out (za grn g); go_wp2_with fail; go_at_call 155; refine (zS (B.out.up o.out) r).mono ?_; rw [s]; rintro e H ⟨rfl,i⟩; rw [i]; clear i; go_wp2
   go_ret
   exact Cy.ok o.out
end
set_option maxHeartbeats 2000000
section
variable {ρ : Lay} {w w' w1 : World} {S : KS} {b : Nat} {c : KSc}
theorem rF {α : Type} (f : α -> List Value) (n : Nat) (hn : ∀ a,(f a).length = n) : ∀ (l : List α) (j : Nat) (a : α) (k : Nat),l[j]? = some a -> k < n -> (l.flatMap f)[j * n + k]? = (f a)[k]?
 | [],j,a,k,h,_ => by simp at h
 | u :: r,0,a,k,h,hk => by
  cases h; rw [List.flatMap_cons,Nat.zero_mul,Nat.zero_add,List.getElem?_append_left (by rw [hn]; exact hk)]
 | u :: r,j + 1,a,k,h,hk => by
  have ih := rF f n hn r j a k (by simpa using h) hk; rw [List.flatMap_cons,List.getElem?_append_right (by rw [hn,Nat.add_mul]; omega),hn,<- ih]
  congr 1
  rw [Nat.add_mul]
  omega
theorem zau (g k : Nat) : Addr.add ⟨g,0,none⟩ k = ⟨g,k,none⟩ := by
 unfold Addr.add
 split
 ·rename_i h; rw [h]
 ·simp
theorem RowAt.read {e : TypeId} {k n : Nat} {v : Value} {cs : List Value} {lb : Lb} (h : RowAt ρ w e k v n cs lb) : ∃ a cp,v = .slice a n cp /\ n <= cp /\ cp <= maxLen /\ ∀ j u,cs[j]? = some u -> ∃ g,a = some ⟨g,0,none⟩ /\ w.cell? ⟨g,j,none⟩ = some u := by
 obtain ⟨f,_⟩ := h; have l := @World.ownsRow.cells _ _ _ _ _ _ _ f; obtain ⟨i,m⟩ := f
 rcases m with ⟨rfl,rfl⟩ | ⟨g,d,o,rfl,-,s,q,r,-,t⟩
 ·refine ⟨none,0,rfl,Nat.le_refl _,Nat.zero_le _,fun j u hj => ?_⟩
  simp at i
  subst i
  simp at hj
 ·refine ⟨_,d,rfl,q,r,fun j u hj => ⟨g,rfl,?_⟩⟩
  have := l (g := g) rfl j u hj; rwa [zau] at this
theorem bo (d : KFd) : (fdV ρ d).length = 4 := rfl
theorem KM.flds (h : KM ρ w S) {i : Nat} (hi : i < S.tys.length) : ∃ a cp,w.cell? ⟨ρ.ty i,6,none⟩ = some (.slice a (S.ty i).fields.length cp) /\ (S.ty i).fields.length <= cp /\ cp <= maxLen /\
  ∀ (j : Nat) (d : KFd),(S.ty i).fields[j]? = some d -> ∃ g,a = some ⟨g,0,none⟩ /\ w.cell? ⟨g,j * 4,none⟩ = some (.string ⟨d.name.toArray⟩) /\ w.cell? ⟨g,j * 4 + 1,none⟩ = some (.bool d.exp) /\
   w.cell? ⟨g,j * 4 + 2,none⟩ = some (pq (ρ.ty d.ty)) /\ w.cell? ⟨g,j * 4 + 3,none⟩ = some (.int .i64 d.first) := by
 obtain ⟨_,l,m⟩ := (h.ty i hi).bk; obtain ⟨a,cp,rfl,n,o,f⟩ := m.read; refine ⟨a,cp,l.c 6 _ rfl,n,o,fun j d hj => ?_⟩
 have e := fun k hk => rF (fdV ρ) 4 bo (S.ty i).fields j d k hj hk
 obtain ⟨g,rfl,q⟩ := f (j * 4) _ ((e 0 (by omega)).trans rfl); obtain ⟨_,r,s⟩ := f (j * 4 + 1) _ ((e 1 (by omega)).trans rfl); obtain ⟨_,t,u⟩ := f (j * 4 + 2) _ ((e 2 (by omega)).trans rfl); obtain ⟨_,v,x⟩ := f (j * 4 + 3) _ ((e 3 (by omega)).trans rfl); cases r; cases t; cases v
 exact ⟨g,rfl,q,s,u,x⟩
theorem ka (hT : KTys S) (x : Nm) : ∀ (f g i : Nat),i < f -> i < g -> i < S.tys.length -> (S.ty i).form = 4 -> S.fieldF f i x = S.fieldF g i x
 | f + 1,g + 1,i,hf,hg,hi,h4 => by
  unfold KS.fieldF
  cases kC (S.ty i).fields x with
  | some d => rfl
  | none =>
   cases hq : (S.ty i).of with
   | none => rfl
   | some q =>
    obtain ⟨_,h2⟩ := hT.rc i hi h4 q hq
    exact ka hT x f g q (by omega) (by omega) (by omega) h2
theorem oN (hT : KTys S) {i : Nat} {x : Nm} (hi : i < S.tys.length) (h4 : (S.ty i).form = 4) : S.field i x = match kC (S.ty i).fields x with
  | some d => some (d,i)
  | none => match (S.ty i).of with
   | none => none
   | some q => S.field q x := by
 unfold KS.field
 rw [KS.fieldF]; cases kC (S.ty i).fields x with
 | some d => rfl
 | none =>
  cases e : (S.ty i).of with
  | none => rfl
  | some q =>
   obtain ⟨f,g⟩ := hT.rc i hi h4 q e
   exact ka hT x i (q + 1) q f (by omega) (by omega) g
def iu (S : KS) (x : Nm) : Option Nat -> Option (KFd × Nat)
 | none => none
 | some i => S.field i x
def Lay.fdP (ρ : Lay) : Option (KFd × Nat) -> Value
 | none => .tuple #[.agg #[.string ⟨#[]⟩,.bool false,.pointer none,.int .i64 0],.pointer none]
 | some (d,o) => .tuple #[.agg #[.string ⟨d.name.toArray⟩,.bool d.exp,pq (ρ.ty d.ty),.int .i64 d.first],pq (ρ.ty o)]
theorem rY : ∀ (l : List KFd) (x : Nm) (j : Nat) (d : KFd),l[j]? = some d -> d.name = x -> (∀ (k : Nat) (u : KFd),k < j -> l[k]? = some u -> u.name ≠ x) -> kC l x = some d
 | [],x,j,d,h,_,_ => by simp at h
 | u :: r,x,0,d,h,hx,_ => by cases h; simp [kC,hx]
 | u :: r,x,j + 1,d,h,hx,hk => by
  rw [kC,if_neg (hk 0 u (by omega) rfl)]
  exact rY r x j d (by simpa using h) hx (fun k v hkj hv => hk (k + 1) v (by omega) (by simpa using hv))
theorem dO : ∀ (l : List KFd) (x : Nm),(∀ (k : Nat) (u : KFd),l[k]? = some u -> u.name ≠ x) -> kC l x = none
 | [],x,_ => rfl
 | u :: r,x,hk => by
  rw [kC,if_neg (hk 0 u rfl)]
  exact dO r x (fun k v hv => hk (k + 1) v (by simpa using hv))
theorem iM {fn : Func} {R : Ending -> World -> Prop} {a : Act} {bb p q : Nat} {v0 v1 v2 v3 v : Value} (h : fn.results = #[.cell p 58,.tmp q]) (hp : a.tmps[p]?.getD undef = pq bb) (hq : a.tmps[q]?.getD undef = v) (hB : Bk w bb [v0,v1,v2,v3]) (hd : a.defers = [])
  (hR : R (.returned (.tuple #[.agg #[v0,v1,v2,v3],v])) w) : bodyPost Tryz.prog fn R .ret a w := by
 have d := hB.c 0 _ rfl; have e := hB.c 1 _ rfl; have f := hB.c 2 _ rfl; have g := hB.c 3 _ rfl; refine bodyPost_ret (v := .tuple #[.agg #[v0,v1,v2,v3],v]) ?_ hd hR
 simp [results,h,hp,hq,go_sem,d,e,f,g]
theorem yU (h : KM ρ w S) (hT : KTys S) {r : Nat} (hr : r < S.tys.length) (h4 : (S.ty r).form = 4) (x : Nm) :
  Calls Tryz.prog 19 #[pq (ρ.ty r),.string ⟨x.toArray⟩] w (Sy w (ρ.fdP (S.field r x))) := by
 have B := zc h; have C := zc hT; clear h hT; obtain ⟨D,m⟩ : ∃ z,z = w.alloc (.cells #[.string ⟨#[]⟩,.bool false,.pointer none,.int .i64 0] 58) := ⟨_,rfl⟩
 have O : Hid (w.grownBy D none) := by rw [m]; exact zh grn _
 have Q : Hid (Bk D w.heap.size [.string ⟨#[]⟩,.bool false,.pointer none,.int .i64 0]) := by rw [m]; exact Bk.new w _ _ rfl
 go_enter Tryz.func19,Tryz.ntmps19
 go_wp2_with fail; rw [<- m]
 go_loopw [6] (fun v wr => ∃ q : Option Nat,v = ρ.tyP q /\ Hid (∀ i,q = some i -> i < S.tys.length /\ (S.ty i).form = 4) /\ Hid (S.field r x = iu S x q) /\ Hid (D.grownBy wr none)) (fun v _ => bO ρ v)
 case atStart => exact ⟨some r,rfl,fun i l => by cases l; exact ⟨hr,h4⟩,rfl,zj _ _⟩
 case round =>
  obtain ⟨q,rfl,Z,E,o⟩ := hrel; cases q with
  | none =>
   rw [uM]; have e := Q.out.kept o.out (by simp); have z := e.z; have c0 := e.c 0 _ rfl; have c1 := e.c 1 _ rfl; have c2 := e.c 2 _ rfl; have c3 := e.c 3 _ rfl; go_wp2; refine iM Tryz.results19 rfl rfl ((((e.set 0 _).set 1 _).set 2 _).set 3 _) rfl ?_
   exact ⟨by rw [E.out]; rfl,zs (zs (zs (zs (za O.out o.out) (Nat.le_refl _) _ _) (Nat.le_refl _) _ _) (Nat.le_refl _) _ _) (Nat.le_refl _) _ _⟩
  | some i =>
   obtain ⟨l,n⟩ := Z.out i rfl; have F := zc (za O.out o.out); have y5 := zc (B.out.y5 l); obtain ⟨_,_,_,_,G,s⟩ := (B.out.up F.out).flds l; have H := zc s; have R := zc (oN C.out (x := x) l n); have HN := zc (gm B.out l)
   unfold maxLen at G
   clear s; obtain ⟨wo,ho⟩ : ∃ z,z = wr := ⟨_,rfl⟩; subst ho; rw [yo]; go_wp2_with fail
   go_loopw [21] (fun iv wr => ∃ j : Nat,j <= (S.ty i).fields.length /\ iv = .int .i64 ↑j /\ Hid (∀ (k : Nat) (u : KFd),k < j -> (S.ty i).fields[k]? = some u -> u.name ≠ x) /\ Hid (wo.grownBy wr none)) (fun iv _ => (S.ty i).fields.length - (intOf iv).toNat)
   case atStart => exact ⟨0,Nat.zero_le _,rfl,fun k u t => by omega,zj _ _⟩
   case round =>
    obtain ⟨j,_,rfl,I,f⟩ := hrel
    by_cases J : j < (S.ty i).fields.length
    ·obtain ⟨d,K⟩ : ∃ d,(S.ty i).fields[j]? = some d := ⟨_,List.getElem?_eq_getElem J⟩
     obtain ⟨g,rfl,L,U,V,X⟩ := H.out j d K
     replace L := ze f.out L
     replace U := ze f.out U
     replace V := ze f.out V
     replace X := ze f.out X
     have zg : g < wr.heap.size := zw L
     by_cases A : d.name = x
     ·have HF : Hid (S.field r x = some (d,i)) := by rw [E.out]; show S.field i x = _; rw [R.out,rY _ x j d K A I.out]
      have hb : (d.name == x) = true := by simpa using A
      have e := Q.out.kept (za o.out f.out) (by simp); have z := e.z; have c0 := e.c 0 _ rfl; have c1 := e.c 1 _ rfl; have c2 := e.c 2 _ rfl; have c3 := e.c 3 _ rfl; have zl := e.lt; clear A; go_wp2; refine iM Tryz.results19 rfl rfl (Bk.kept ((((e.set 0 _).set 1 _).set 2 _).set 3 _) (World.grownBy_alloc _ _ none) (by simp)) rfl ?_
      exact ⟨by rw [HF.out]; rfl,zh (zs (zs (zs (zs (za F.out f.out) (Nat.le_refl _) _ _) (Nat.le_refl _) _ _) (Nat.le_refl _) _ _) (Nat.le_refl _) _ _) _⟩
     ·have hb : (d.name == x) = false := by simpa using A
      go_wp2
      go_roundw
      case rel => 
       refine ⟨j + 1,by omega,by simp,fun k u t hu => ?_,zh f.out _⟩
       rcases Nat.lt_or_ge k j with M | M
       ·exact I.out k u M hu
       ·obtain rfl : k = j := by omega
        rw [K] at hu; cases hu
        exact A
      case measure => first | omega | (simp only [intOf]; omega) | (simp; omega)
    ·have a0 := ze (za F.out f.out) y5.out
     have HL : Hid (kC (S.ty i).fields x = none) := dO _ x (fun k u hu => by
      have M : k < (S.ty i).fields.length := by
       rcases Nat.lt_or_ge k (S.ty i).fields.length with N | N
       ·exact N
       ·rw [List.getElem?_eq_none N] at hu; cases hu
      exact I.out k u (by omega) hu)
     go_wp2; refine ⟨⟨(S.ty i).of,rfl,fun k t => ?_,?_,za o.out f.out⟩,?_⟩
     ·obtain ⟨h1,Y⟩ := C.out.rc i l n k t
      exact ⟨by omega,Y⟩
     ·show S.field r x = iu S x (S.ty i).of
      rw [E.out]
      show S.field i x = _
      rw [R.out,HL.out]
      cases (S.ty i).of <;> rfl
     ·rw [HN.out]
      cases t : (S.ty i).of with
      | none => exact Nat.succ_pos _
      | some k =>
       obtain ⟨h1,Y⟩ := C.out.rc i l n k t; rw [yo,gm B.out (by omega)]
       omega
end
section
variable {P : Program} {ops : Array Oper} {Q : Exit -> Act -> World -> Prop} {S : World -> Prop} {md : Region.Mode} {oi : Oper} {fuel : Nat} {listed : Array Bool} {a : Act} {w : World}
theorem dk (i : Nat) (d : Option Nat) (v : Value) (hi : ops[i]? = some oi) (hd : oi.dst = d) (hy : ∀ w,S w -> (execOp a.eval oi).run P w = .ok (.value v) w) (hS : S w) (h : wpAnyH P md ops Q S fuel (listed.setIfInBounds i true) (a.put d v) w)
  (hs : Region.noSelect ops = true := by kernel_rfl) (hf : Region.free md ops listed i = true := by kernel_rfl) (hr : (Region.ready md ops listed).contains i = true := by kernel_rfl)
  (hQ : ∀ c a w,Q (.panic c) (a.put oi.dst v) w -> Q (.panic c) a w := by exact fun _ _ _ h => h) (hw : Region.wanted oi (yielded ops a.tmps) = true := by kernel_rfl) : wpAnyH P md ops Q S (fuel + 1) listed a w := by
 subst hd
 exact wpAnyH_take hi hs hf hr hQ (Or.inl ⟨hw,hy⟩) hS h
theorem dn (i : Nat) (d : Option Nat) (hi : ops[i]? = some oi) (hd : oi.dst = d) (hS : S w) (h : wpAnyH P md ops Q S fuel (listed.setIfInBounds i true) (a.put d undef) w)
  (hs : Region.noSelect ops = true := by kernel_rfl) (hf : Region.free md ops listed i = true := by kernel_rfl) (hr : (Region.ready md ops listed).contains i = true := by kernel_rfl)
  (hQ : ∀ c a w,Q (.panic c) (a.put oi.dst undef) w -> Q (.panic c) a w := by exact fun _ _ _ h => h) (hw : Region.wanted oi (yielded ops a.tmps) = false := by kernel_rfl) : wpAnyH P md ops Q S (fuel + 1) listed a w := by
 subst hd
 exact wpAnyH_take hi hs hf hr hQ (Or.inr ⟨hw,rfl⟩) hS h
end
theorem qA (a : Act) (t : Nat) (v : Value) : a.put (some t) v = { a with tmps := a.tmps.setIfInBounds t v } := rfl
theorem qB {α : Type} (l : List α) (i : Nat) (x : α) : l.toArray.setIfInBounds i x = (l.set i x).toArray := by simp
theorem qC {α : Type} (x y : α) (l : List α) : (x :: l).set 0 y = y :: l := rfl
theorem qD {α : Type} (x y : α) (l : List α) (n : Nat) : (x :: l).set (n + 1) y = x :: l.set n y := rfl
section
variable {P : Program} {ops : Array Oper} {Q : Exit -> Act -> World -> Prop} {S : World -> Prop} {md : Region.Mode} {oi : Oper} {fuel : Nat} {listed : Array Bool} {a : Act} {w : World}
theorem kQ (i d : Nat) (v : Value) (hS : S w) (h : wpAnyH P md ops Q S fuel (listed.setIfInBounds i true) (a.put (some d) v) w) (hi : ops[i]? = some oi := by rfl) (hd : oi.dst = some d := by rfl) (hy : ∀ w,S w -> (execOp a.eval oi).run P w = .ok (.value v) w := by intro w9 _; go_simp)
  (hs : Region.noSelect ops = true := by kernel_rfl) (hf : Region.free md ops listed i = true := by kernel_rfl) (hr : (Region.ready md ops listed).contains i = true := by kernel_rfl)
  (hQ : ∀ c a w,Q (.panic c) (a.put oi.dst v) w -> Q (.panic c) a w := by exact fun _ _ _ h => h) (hw : Region.wanted oi (yielded ops a.tmps) = true := by kernel_rfl) : wpAnyH P md ops Q S (fuel + 1) listed a w :=
 dk i (some d) v hi hd hy hS h hs hf hr hQ hw
end
theorem Box.plain {w : World} {b : Nat} {k : Int} {x : List UInt8} {m p : Int} {l : List T} {sv : Value} (h : Box w b (.mk k x m p l) sv) : w.cell? ⟨b,0,none⟩ = some (.int .i64 k) /\ w.cell? ⟨b,1,none⟩ = some (.string ⟨x.toArray⟩) /\ w.cell? ⟨b,2,none⟩ = some (.int .i64 m) /\ w.cell? ⟨b,3,none⟩ = some (.int .i64 p) /\ w.cell? ⟨b,4,none⟩ = some sv := ⟨h.c0,h.c1,h.c2,h.c3,h.c4⟩
end Go.Proofs.YtnmkffjklpfflaaGreatDoor
