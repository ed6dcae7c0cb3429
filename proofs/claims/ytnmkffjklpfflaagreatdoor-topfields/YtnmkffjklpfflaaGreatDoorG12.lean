/- Two trees in memory of one tree are equal. -/
import Derived.Test.YtnmkffjklpfflaaGreatDoorG06
import Derived.Test.YtnmkffjklpfflaaGreatDoorG04
import Derived.Test.YtnmkffjklpfflaaGreatDoorG10
import Derived.Test.YtnmkffjklpfflaaGreatDoorG11
import Derived.Deep.AppendLies
import Derived.Deep.RegionLaw
namespace Go.Proofs.YtnmkffjklpfflaaGreatDoor
open Go.RowKit
theorem td : ∀ (ts : List T) (svs : List Value) (i : Nat) (t : T) (sv : Value) (j : Nat),svs.length = ts.length -> ts[i]? = some t -> svs[i]? = some sv -> j < 5 -> (xy ts svs)[i * 5 + j]? = (headC t sv)[j]?
 | [],_,i,t,sv,j,_,h,_,_ => by simp at h
 | t0 :: ts,[],i,t,sv,j,h,_,_,_ => by simp at h
 | t0 :: ts,s0 :: svs,0,t,sv,j,h,ht,hs,hj => by
  cases ht; cases hs; rw [xy,Nat.zero_mul,Nat.zero_add,List.getElem?_append_left (by simpa [headC] using hj)]
 | t0 :: ts,s0 :: svs,i + 1,t,sv,j,h,ht,hs,hj => by
  rw [xy,List.getElem?_append_right (by simp [headC]; omega)]; have := td ts svs i t sv j (by simpa using h) (by simpa using ht) (by simpa using hs) hj; rw [<- this]
  congr 1
  simp [headC]
  omega
end Go.Proofs.YtnmkffjklpfflaaGreatDoor
