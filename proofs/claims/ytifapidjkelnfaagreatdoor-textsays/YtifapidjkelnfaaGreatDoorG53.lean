/- The law TextSays: whatever the text,it returns true. -/
import Derived.Test.YtifapidjkelnfaaGreatDoorG15
import Derived.Test.YtifapidjkelnfaaGreatDoorG46
import Derived.Test.YtifapidjkelnfaaGreatDoorG52
namespace Go.Proofs.YtifapidjkelnfaaGreatDoor
open Go.RowKit
set_option maxRecDepth 100000 in
set_option maxHeartbeats 2000000 in
theorem tw (s : ByteArray) (w : World) (hs : s.size <= maxLen) (hk : KW w) (htab : Lib.TabIs Tryz.prog w "strings.asciiSpace" .u8 Lib.asciiSpaceTab) (hp : PT w) (he : HasErr w) :
  Calls Tryz.prog 3 #[.string s] w fun e w' => e = .returned (.bool true) /\ Below w.heap.size w w' := by
 obtain ⟨I,J,hk⟩ := hk
 have K : ∀ w',w.grownBy w' none -> Hid (KW w') /\ Hid (Lib.TabIs Tryz.prog w' "strings.asciiSpace" .u8 Lib.asciiSpaceTab) /\ Hid (PT w') /\ Hid (HasErr w') := fun w' hg => ⟨KW.kept ⟨I,J,hk⟩ hg,va htab (xQ hg),hp.kept hg,he.grown hg (fun k h => by cases h)⟩
 have U := zb hk; clear hk htab hp he
 go_enter Tryz.func3,Tryz.ntmps3
 go_wp2_with fail; go_at_call 4; refine (pX s _ I J hs U).mono ?_; rintro _ j ⟨b,k,x,m,p,l,v,y,A,E,t,a,rfl,L⟩; have V := zb L; clear L; cases B : E == 0
 ·have X : E ≠ 0 := by simpa using B
  go_wp2
  go_ret
  exact ⟨rfl,(b.alloc b.size _).alloc (by have := b.size; simp; omega) _⟩
 ·obtain rfl : E = 0 := by simpa using B
  obtain ⟨Y,S,Z⟩ := id V rfl; clear B; cases Y with
  | mk _ fits fl =>
   obtain ⟨r,g⟩ : ∃ z,z = (j.alloc (.cells #[.int .i64 k,.string ⟨x.toArray⟩,.int .i64 m,.int .i64 p,.slice v y A] 24)).alloc (.cells #[.int .i64 0,.int .i64 t,.int .i64 a] 27) := ⟨_,rfl⟩
   have M : j.grownBy r none := by rw [g]; exact za (World.grownBy_alloc _ _ none) (World.grownBy_alloc _ _ none)
   have n : NB r j.heap.size (.int .i64 k) (.string ⟨x.toArray⟩) (.int .i64 m) (.int .i64 p) (.slice v y A) := by rw [g]; exact (NB.new j _).alloc _
   have c0 : r.cell? ⟨j.heap.size + 1,0,none⟩ = some (.int .i64 0) := by rw [g,World.cell?_alloc_at _ _ _ _ (by simp)]; rfl
   have i := b.grown M b.size (fun _ e => by cases e); have u := AT.of (Z.kept M (fun _ e => by cases e)) fl; obtain ⟨C,D,N,F⟩ := K r (uA i none); have n1 := n; have nl := n.lt; obtain ⟨_,_,_,_,_,_⟩ := n1; have O := zb u; have HN := zb n; clear u; go_wp2_with fail; rw [<- g]; go_at_call 5; refine (pY (.mk k x m p l) (.slice v y A) r fits O C D N F).mono ?_; rintro _ Q ⟨rfl,f⟩; have G := uA f none; have R := HN.kept G (by simp); have a0 := R.lt; obtain ⟨_,_,_,_,_,_⟩ := R; have f := i.grown G i.size (fun _ e => by cases e); obtain ⟨C,D,N,F⟩ := K Q (uA f none); go_wp2_with fail; go_at_call 6; refine (oe (.mk k x m p l) (.slice v y A) Q fits (O.kept G) C D F).mono ?_; rintro _ w4 ⟨rfl,H⟩; go_wp2
   go_ret
   exact ⟨rfl,f.grown (uA H none) f.size (fun _ e => by cases e)⟩
end Go.Proofs.YtifapidjkelnfaaGreatDoor
