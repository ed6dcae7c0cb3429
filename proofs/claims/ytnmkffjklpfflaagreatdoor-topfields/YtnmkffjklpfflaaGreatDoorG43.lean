/- A module is put behind the others. -/
import Derived.Test.YtnmkffjklpfflaaGreatDoorG40
import Derived.Test.YtnmkffjklpfflaaGreatDoorG42
namespace Go.Proofs.YtnmkffjklpfflaaGreatDoor
open Go.RowKit
set_option maxHeartbeats 4000000
set_option maxRecDepth 100000
section
variable {ρ : Lay} {w w' w1 : World} {S : KS} {b : Nat} {c : KSc}
theorem jD {fn : Func} {t t' : Array Value} {R : Ending -> World -> Prop} (h : results fn t = results fn t') : ∀ (ds : List Deferred) (u : FrameMode) (w : World),Leaves Tryz.prog fn t R ds u w -> Leaves Tryz.prog fn t' R ds u w
 | [],u,w,h9 => by
  cases u with
  | run => exact h9
  | returning =>
   simp only [Leaves] at h9 ⊢; rw [<- h]
   exact h9
  | panicking c => exact h9
 | d :: ds,u,w,h9 => by
  simp only [Leaves] at h9 ⊢; obtain ⟨h1,fv,cap,f,args,h2,h3,h4⟩ := h9; refine ⟨h1,fv,cap,f,args,h2,h3,h4.mono ?_⟩; intro e u' w' h5; cases e with
  | returned v => exact jD h ds _ _ h5
  | panicked c => exact jD h ds _ _ h5
  | outgrown => exact h5
theorem jE {R : Ending -> World -> Prop} {c : List PanicEntry} {a : Act} {v : Value} {d : Nat} (h4 : d ≠ 4) (h5 : d ≠ 5) (h : bodyPostD Tryz.prog Tryz.f26 R (.panic c) (a.put (some d) v) w) : bodyPostD Tryz.prog Tryz.f26 R (.panic c) a w := by
 unfold bodyPostD at h ⊢
 simp only [Act.put] at h; refine jD ?_ _ _ _ h
 simp [results,Tryz.results26,Array.getElem?_setIfInBounds,h4,h5]
theorem gY {W : World} {b : Nat} {v ev : Value} {tmps : Array Value} (he : W.cell? ⟨b,0,none⟩ = some ev) (t4 : tmps[4]?.getD undef = v) (t5 : tmps[5]?.getD undef = pq b) :
  (results Tryz.f26 tmps).run Tryz.prog W = .ok (.tuple #[v,ev]) W := by
 simp [results,Tryz.results26,t4,t5,go_sem,he]
end
end Go.Proofs.YtnmkffjklpfflaaGreatDoor
