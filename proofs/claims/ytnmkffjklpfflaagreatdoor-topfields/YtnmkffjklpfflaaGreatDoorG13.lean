/- A tree that can be read is well formed,and its numbers and names fit. -/
import Derived.Test.YtnmkffjklpfflaaGreatDoorG07
import Derived.Test.YtnmkffjklpfflaaGreatDoorG06
import Derived.Test.YtnmkffjklpfflaaGreatDoorG09
import Derived.Test.YtnmkffjklpfflaaGreatDoorG12
namespace Go.Proofs.YtnmkffjklpfflaaGreatDoor
inductive FA : T -> Prop
 | mk {k : Int} {x : List UInt8} {n p : Int} {l : List T} (hx : x.length <= 12) (hk : 0 <= k /\ k <= 99) (hn : 0 <= n /\ n <= 2147483647) (hl : ∀ u ∈ l,FA u) : FA (.mk k x n p l)
theorem FA.sub {t u : T} (h : FA t) (hu : u ∈ t.subs) : FA u := by
 cases h with
 | mk hx hk hn hl => exact hl u hu
def WF (r : Rule) (t : T) : Prop := Well r t /\ FA t
theorem dQ {r : Rule} {k : Int} {x : List UInt8} {n p : Int} {l : List T} (m : List (T × Rule)) (h : yi r (.mk k x n p l) = some m) (ha : ∀ q ∈ m,WF q.2 q.1) (hx : x.length <= 12) (hk : 0 <= k /\ k <= 99) (hn : 0 <= n /\ n <= 2147483647) : WF r (.mk k x n p l) := by
 refine ⟨.mk m h (fun q b => (ha q b).1),.mk hx hk hn (fun u hu => ?_)⟩; have e : m.map (·.1) = l := fG h; rw [<- e] at hu; obtain ⟨q,b,rfl⟩ := List.mem_map.1 hu
 exact (ha q b).2
theorem fs : ∀ q ∈ ([] : List (T × Rule)),WF q.2 q.1 := fun q hq => by cases hq
theorem nX {t : T} {r : Rule} {m : List (T × Rule)} (h : WF r t) (hm : ∀ q ∈ m,WF q.2 q.1) : ∀ q ∈ (t,r) :: m,WF q.2 q.1 := fun q hq => by
 rcases List.mem_cons.1 hq with rfl | hq
 ·exact h
 ·exact hm q hq
theorem za5 {t : T} (h : WF .designator t) : WF .expression t := ⟨uh h.1,h.2⟩
theorem zbk {x : List UInt8} (h : 0 <= vv x) : x.length <= 12 := by have := aY h; omega
theorem zan {x : List UInt8} {p : Int} (hx : yh x = true) : WF .ref (.mk 24 x 0 p []) :=
 dQ [] (by simp [yi,zA,zJ,T.kind,T.name,T.num,T.subs,hx]) fs (vi hx) (by omega) (by omega)
theorem mi {y : T} (h : TyN y) : WF .typeName y := by
 cases h with
 | own hx => exact dQ [] (by simp [yi,vq,zA,zJ,T.kind,T.name,T.num,T.subs,vD,hx]) fs (vi hx) (by omega) (by omega)
 | @of x y p q hx hy => exact dQ [(.mk 24 y 0 q [],.ref)] (by simp [yi,vq,zA,zJ,T.kind,T.name,T.num,T.subs,vD,hx]) (nX (zan hy) fs) (vi hx) (by omega) (by omega)
theorem za1 {y : T} (h : BT y) : WF .typeNameOrNone y := by
 cases h with
 | none => exact dQ [] (by simp [yi,zA,zJ,T.kind,T.name,T.num,T.subs]) fs (by simp) (by omega) (by omega)
 | some hy =>
  have b := mi hy; refine ⟨?_,b.2⟩
  have c : y.kind ≠ 0 := by cases hy <;> simp [T.kind]
  obtain ⟨l,d,e⟩ := Well.iff.1 b.1
  exact .mk l (by show (if y.kind = 0 then _ else vq y) = _; rw [if_neg c]; exact d) e
theorem aN {r : Rule} {k : Int} {x : List UInt8} {n p : Int} {a : T} (r1 : Rule) (h : yi r (.mk k x n p [a]) = some [(a,r1)]) (ha : WF r1 a) (hx : x.length <= 12) (hk : 0 <= k /\ k <= 99) (hn : 0 <= n /\ n <= 2147483647) : WF r (.mk k x n p [a]) :=
 dQ _ h (nX ha fs) hx hk hn
theorem tD : ∀ ps : List (T × T),(kB ps).length = 2 * ps.length
 | [] => rfl
 | q :: ps => by simp [kB,tD ps]; omega
theorem nR {k most : Int} {r : Rule} {x : List UInt8} {m p : Int} {y : T} (hk : 0 <= k /\ k <= 99) (hx : yh x = true) (h0 : 0 <= m) (hm : m <= most) (h1 : m <= 1) (hy : WF r y) : WF (.declared k most r) (.mk k x m p [y]) :=
 aN r (by simp [yi,zA,zJ,T.kind,T.name,T.num,T.subs,yY,hx,h0,hm]) hy (vi hx) hk (by omega)
end Go.Proofs.YtnmkffjklpfflaaGreatDoor
