/- The document's shapes: operators,heads. -/
import Derived.Test.YtnmkffjklpfflaaGreatDoorG08
import Derived.Deep.RegionWith
namespace Go.Proofs.YtnmkffjklpfflaaGreatDoor
open Go.RowKit
def Sy (w : World) (v : Value) : Ending -> World -> Prop := fun e w' => e = .returned v /\ w.grownBy w' none
structure Box (w : World) (b : Nat) (t : T) (sv : Value) : Prop where
 c0 : w.cell? ⟨b,0,none⟩ = some (.int .i64 t.kind)
 c1 : w.cell? ⟨b,1,none⟩ = some (.string ⟨t.name.toArray⟩)
 c2 : w.cell? ⟨b,2,none⟩ = some (.int .i64 t.num)
 c3 : w.cell? ⟨b,3,none⟩ = some (.int .i64 t.at')
 c4 : w.cell? ⟨b,4,none⟩ = some sv
theorem Box.new (w : World) (t : T) (sv : Value) (ty : TypeId) : Box (w.alloc (.cells #[.int .i64 t.kind,.string ⟨t.name.toArray⟩,.int .i64 t.num,.int .i64 t.at',sv] ty)) w.heap.size t sv :=
 ⟨by rw [World.cell?_alloc_at _ _ _ _ rfl]; rfl,by rw [World.cell?_alloc_at _ _ _ _ rfl]; rfl,by rw [World.cell?_alloc_at _ _ _ _ rfl]; rfl,by rw [World.cell?_alloc_at _ _ _ _ rfl]; rfl,by rw [World.cell?_alloc_at _ _ _ _ rfl]; rfl⟩
theorem Box.p {w : World} {b : Nat} {k : Int} {x : List UInt8} {m p : Int} {l : List T} {sv : Value} (h : Box w b (.mk k x m p l) sv) : w.cell? ⟨b,0,none⟩ = some (.int .i64 k) /\ w.cell? ⟨b,1,none⟩ = some (.string ⟨x.toArray⟩) /\ w.cell? ⟨b,2,none⟩ = some (.int .i64 m) /\ w.cell? ⟨b,3,none⟩ = some (.int .i64 p) /\ w.cell? ⟨b,4,none⟩ = some sv := ⟨h.c0,h.c1,h.c2,h.c3,h.c4⟩
theorem Box.kept {w w' : World} {b : Nat} {t : T} {sv : Value} (h : Box w b t sv) (hg : w.grownBy w' none) : Box w' b t sv :=
 ⟨zi hg h.c0,zi hg h.c1,zi hg h.c2,zi hg h.c3,zi hg h.c4⟩
theorem AT.zero {w : World} {t : T} {sv : Value} (h : AT w t.subs sv) (e : t.subs.length = 0) : ∃ a c,sv = .slice a 0 c /\ c <= 9223372036854775807 /\ t.subs = [] := by
 obtain ⟨a,c,b,_,d⟩ := h.form
 unfold maxLen at d
 rw [e] at b
 exact ⟨a,c,b,by omega,List.eq_nil_of_length_eq_zero e⟩
theorem AT.two {w : World} {t : T} {sv : Value} (h : AT w t.subs sv) (e : t.subs.length = 2) : ∃ g o c u su v sw,sv = .slice (some ⟨g,o,none⟩) 2 c /\ 2 <= c /\ c <= 9223372036854775807 /\ t.subs = [u,v] /\ Node5 w g o u su /\ Fits u /\ AT w u.subs su /\ Node5 w g (o + 5) v sw /\ Fits v /\ AT w v.subs sw := by
 obtain ⟨_,c,rfl,d,f⟩ := h.form
 unfold maxLen at f
 obtain ⟨u,v,b⟩ : ∃ u v,t.subs = [u,v] := by
  match hs : t.subs,e with
  | [u,v],_ => exact ⟨u,v,rfl⟩
 obtain ⟨g,o,su,rfl,i,j,k⟩ := h.node 0 u (by rw [b]; rfl); obtain ⟨r,s,sw,l,m,n,q⟩ := h.node 1 v (by rw [b]; rfl); cases l; rw [e] at d ⊢
 exact ⟨g,o,c,u,su,v,sw,rfl,d,by omega,b,by simpa using i,j,k,by simpa using m,n,q⟩
theorem AT.cons {w : World} {k m p : Int} {x : List UInt8} {u : T} {r : List T} {sv : Value} (h : AT w (T.mk k x m p (u :: r)).subs sv) : ∃ g o c su,sv = .slice (some ⟨g,o,none⟩) (r.length + 1) c /\ r.length + 1 <= c /\ c <= 9223372036854775807 /\ Node5 w g o u su /\ Fits u /\ AT w u.subs su /\ AT w r (.slice (some ⟨g,o + 5,none⟩) r.length (c - 1)) := by
 obtain ⟨_,c,rfl,b,d⟩ := h.form
 unfold maxLen at d
 obtain ⟨g,o,su,rfl,e,f,i⟩ := h.node 0 u rfl; refine ⟨g,o,c,su,rfl,b,by omega,by simpa using e,f,i,?_⟩; have := h.drop 1 (by simp [T.subs])
 simpa [T.subs] using this
end Go.Proofs.YtnmkffjklpfflaaGreatDoor
