/- Regions that draw their order: a condition on the world that holds till operations come up that wait for all the others. -/
import Derived.Test.YtnmkffjklpfflaaGreatDoorG16
namespace Go.Proofs.YtnmkffjklpfflaaGreatDoor
open Go.RowKit
section
variable {P : Program} {ops : Array Oper} {Q : Exit -> Act -> World -> Prop} {S : World -> Prop} {md : Region.Mode} {z : List Nat}
def xW (P : Program) (md : Region.Mode) (ops : Array Oper) (Q : Exit -> Act -> World -> Prop) (S : World -> Prop) (z : List Nat) : Nat -> Array Bool -> Act -> World -> Prop
 | 0,listed,a,w => Region.ready md ops listed = [] /\ Q .normal a w
 | fuel + 1,listed,a,w =>
  (Region.ready md ops listed = [] -> Q .normal a w) /\
  ∀ i ∈ Region.ready md ops listed,wpOp P ops Q i (fun a' w' => (z.contains i = false -> S w') /\ xW P md ops Q S z fuel (listed.setIfInBounds i true) a' w') a w
theorem gZ : ∀ (fuel : Nat) (listed : Array Bool) (a : Act) (w : World),xW P md ops Q S z fuel listed a w -> wpAny P md ops Q fuel listed a w
 | 0,_,_,_,h => h
 | fuel + 1,_,_,_,h => ⟨h.1,fun i hi => wpOp_mono (fun a' w' h' => gZ fuel _ a' w' h'.2) (h.2 i hi)⟩
theorem sL {i : Nat} {oi : Oper} {v : Value} (hi : ops[i]? = some oi) (hzi : z.contains i = false) (hzw : ∀ j oj,z.contains j = true -> ops[j]? = some oj -> ∃ e ∈ oj.after,Region.binds md e = true /\ e.on = i)
  (hsel : ∀ (j : Nat) (o : Oper) cs b,ops[j]? = some o -> o.op ≠ .select cs b) (hQ : ∀ c a w,Q (.panic c) (a.put oi.dst v) w -> Q (.panic c) a w) :
  ∀ (fuel : Nat) (listed : Array Bool) (a : Act) (w : World),
   (∀ j oj,ops[j]? = some oj -> j ≠ i -> listed.getD j true = false -> (∀ e ∈ oj.after,Region.binds md e = true -> e.on ≠ i) -> oi.apart ops oj = true) ->
   i ∈ Region.ready md ops listed -> YieldsIf P ops S oi v a -> S w ->
   xW P md ops Q S z fuel (listed.setIfInBounds i true) (a.put oi.dst v) w -> xW P md ops Q S z (fuel + 1) listed a w := by
 intro fuel
 induction fuel with
 | zero =>
  intro listed a w _ n x s H; refine ⟨fun h => (by rw [h] at n; cases n),fun j hj => ?_⟩
  by_cases d : j = i
  ·subst d; exact x.wpOp hi s ⟨fun _ => s,H⟩
  ·have := ready_mono hj d
   rw [H.1] at this; cases this
 | succ fuel ih =>
  intro listed a w hfree n x s H; refine ⟨fun h => (by rw [h] at n; cases n),fun j hj => ?_⟩
  by_cases d : j = i
  ·subst d; exact x.wpOp hi s ⟨fun _ => s,H⟩
  ·have q := H.2 j (ready_mono hj d)
   obtain ⟨l,oj,f,t⟩ := mem_ready.1 hj
   have m : ∀ e ∈ oj.after,Region.binds md e = true -> e.on ≠ i := fun e A B r => by
    have q := t e A B; have E := (mem_ready.1 n).1; rw [r] at q
    rcases Nat.lt_or_ge i listed.size with C | C
    ·simp [C] at E q; rw [E] at q; cases q
    ·simp [Array.getElem?_eq_none C] at q
   have D : z.contains j = false := by
    cases F : z.contains j with
    | false => rfl
    | true =>
     obtain ⟨e,A,B,r⟩ := hzw j oj F f
     exact absurd r (m e A B)
   have G := wpOp_putIf f (hfree j oj f d l m) (fun cs b => hsel i oi cs b hi) (fun cs b => hsel j oj cs b f) hQ x q; have g : ∀ k ok,ops[k]? = some ok -> k ≠ i -> (listed.setIfInBounds j true).getD k true = false ->
     (∀ e ∈ ok.after,Region.binds md e = true -> e.on ≠ i) -> oi.apart ops ok = true := fun k ok hk hki hun hno => by
    refine hfree k ok hk hki ?_ hno
    by_cases u : j = k
    ·subst u; exact l
    ·rw [getD_set_ne true u] at hun; exact hun
   refine wpOp_mono (fun a' w' h3 => ⟨h3.2.1,ih (listed.setIfInBounds j true) a' w' g (ready_mono n (Ne.symm d)) h3.1 (h3.2.1 D) ?_⟩) G; rw [Array.setIfInBounds_comm _ _ d]
   exact h3.2.2
def i2 (md : Region.Mode) (ops : Array Oper) (z : List Nat) (i : Nat) : Bool := !z.contains i && z.all fun j => match ops[j]? with
 | some o => o.after.any fun e => Region.binds md e && e.on == i
 | none => true
theorem gC {i : Nat} (h : i2 md ops z i = true) : z.contains i = false /\ ∀ j oj,z.contains j = true -> ops[j]? = some oj -> ∃ e ∈ oj.after,Region.binds md e = true /\ e.on = i := by
  simp only [i2,Bool.and_eq_true,Bool.not_eq_true'] at h; refine ⟨h.1,fun j oj hj ho => ?_⟩; have c := List.all_eq_true.1 h.2 j (by simpa using hj); rw [ho] at c; simp only at c
  first
    | (obtain ⟨e,d,b⟩ := Array.any_eq_true'.1 c
       simp only [Bool.and_eq_true,beq_iff_eq] at b
       exact ⟨e,d,b.1,b.2⟩)
    | (obtain ⟨e,d,b⟩ := List.any_eq_true.1 c
       simp only [Bool.and_eq_true,beq_iff_eq] at b
       exact ⟨e,d,b.1,b.2⟩)
variable {oi : Oper} {fuel : Nat} {listed : Array Bool} {a : Act} {w : World}
theorem zk (i : Nat) (d : Option Nat) (v : Value) (hi : ops[i]? = some oi) (hd : oi.dst = d) (hy : ∀ w,S w -> (execOp a.eval oi).run P w = .ok (.value v) w) (hS : S w) (h : xW P md ops Q S z fuel (listed.setIfInBounds i true) (a.put d v) w)
  (hs : Region.noSelect ops = true := by kernel_rfl) (hf : Region.free md ops listed i = true := by kernel_rfl) (hr : (Region.ready md ops listed).contains i = true := by kernel_rfl) (hz : i2 md ops z i = true := by kernel_rfl)
  (hQ : ∀ c a w,Q (.panic c) (a.put oi.dst v) w -> Q (.panic c) a w := by exact fun _ _ _ h => h) (hw : Region.wanted oi (yielded ops a.tmps) = true := by kernel_rfl) : xW P md ops Q S z (fuel + 1) listed a w := by
 subst hd
 exact sL hi (gC hz).1 (gC hz).2 (Region.noSelect_spec hs) hQ fuel listed a w (Region.free_spec hi hf) (by simpa using hr) (Or.inl ⟨hw,hy⟩) hS h
theorem kR {rs : List Nat} (hr : Region.ready md ops listed = rs) (hne : rs ≠ [])
  (h : ∀ i ∈ rs,wpOp P ops Q i (fun a' w' => (z.contains i = false -> S w') /\ xW P md ops Q S z fuel (listed.setIfInBounds i true) a' w') a w) : xW P md ops Q S z (fuel + 1) listed a w :=
 ⟨fun h0 => absurd (hr ▸ h0) hne,hr ▸ h⟩
theorem zr (i : Nat) {o : Oper} (hr : Region.ready md ops listed = [i]) (ho : ops[i]? = some o)
  (h : ∀ K' : Act -> World -> Prop,Shut (∀ a w,S w -> (S w -> xW P md ops Q S z fuel (listed.setIfInBounds i true) a w) -> K' a w) -> if Region.wanted o (yielded ops a.tmps) = true then Oper.wp P o a w K' Q else K' (a.put o.dst undef) w) : xW P md ops Q S z (fuel + 1) listed a w :=
 kR hr (by simp) (fun j hj => by
  obtain rfl : j = i := by simpa using hj
  exact wpOp_step ho (fun K' hK => h K' (fun a w hS hW => hK a w ⟨fun _ => hS,hW hS⟩)))
theorem zl (i : Nat) {o : Oper} (hr : Region.ready md ops listed = [i]) (ho : ops[i]? = some o) (hz : z.contains i = true)
  (h : ∀ K' : Act -> World -> Prop,Shut (∀ a w,xW P md ops Q S z fuel (listed.setIfInBounds i true) a w -> K' a w) -> if Region.wanted o (yielded ops a.tmps) = true then Oper.wp P o a w K' Q else K' (a.put o.dst undef) w) : xW P md ops Q S z (fuel + 1) listed a w :=
 kR hr (by simp) (fun j hj => by
  obtain rfl : j = i := by simpa using hj
  exact wpOp_step ho (fun K' hK => h K' (fun a w hW => hK a w ⟨fun h9 => (by rw [hz] at h9; cases h9),hW⟩)))
theorem zd (hr : Region.ready md ops listed = []) (h : Q .normal a w) : ∀ fuel,xW P md ops Q S z fuel listed a w
 | 0 => ⟨hr,h⟩
 | _ + 1 => ⟨fun _ => h,by rw [hr]; simp⟩
theorem yk (z : List Nat) {id : Nat} (hm : P.follows .mixedOrders = true) (hS : S w.drew) (h : S w.drew -> xW P .any ops Q S z ops.size (Array.replicate ops.size false) a w.drew) : (Code.region id ops true).wp P Q a w :=
 wp_region_any hm (gZ _ _ _ _ (h hS))
end
end Go.Proofs.YtnmkffjklpfflaaGreatDoor
