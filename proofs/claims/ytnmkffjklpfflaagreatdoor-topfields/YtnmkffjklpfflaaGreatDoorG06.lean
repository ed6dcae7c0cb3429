/- What shape a text's tree has,told by rules,each of one node and those right below it; and its text,as functions: the document's words C1 to C4. -/
import Derived.Test.YtnmkffjklpfflaaGreatDoorG05
import Derived.Deep.RegionWith
namespace Go.Proofs.YtnmkffjklpfflaaGreatDoor
open Go.RowKit
/-! ### Operators -/
def zbi : List (List UInt8) := [[61],[35],[60],[60,61],[62],[62,61]]
def zbj : List (List UInt8) := [[43],[45],[79,82]]
def zbh : List (List UInt8) := [[42],[68,73,86],[77,79,68],[38]]
def inB (xs : List (List UInt8)) (x : List UInt8) : Bool := xs.contains x
def vv (x : List UInt8) : Int := if inB zbi x = true then 0 else if inB zbj x = true then 1 else if inB zbh x = true then 2 else -1
/-! ### Shapes -/
def zJ (t : T) (k : Int) (named : Bool) (most many : Int) : Bool :=
 decide (t.kind = k /\ 0 <= t.num /\ t.num <= most /\ (0 <= many -> (t.subs.length : Int) = many)) && (if named then yh t.name else t.name.isEmpty)
def nf : Int := 2147483647
inductive Rule where
 | module | imported | procedure | typeItself | typeName | typeNameOrNone | ref | act | expression | designator
 | list (r : Rule)
 | declared (kind most : Int) (r : Rule)
def yY : List T -> List Rule -> List (T × Rule)
 | t :: l,r :: m => (t,r) :: yY l m
 | _,_ => []
def vD (l : List T) (r : Rule) : List (T × Rule) := l.map fun t => (t,r)
def zA (c : Bool) (l : List (T × Rule)) : Option (List (T × Rule)) := if c = true then some l else none
def uL : List T -> List (T × Rule)
 | [] => []
 | [x] => [(x,.list .act)]
 | x :: y :: l => (x,.expression) :: (y,.list .act) :: uL l
def zZ (t : T) : Option (List (T × Rule)) :=
 if t.kind = 24 then zA (zJ t 24 true 0 0) [] else
 if t.kind = 25 then zA (zJ t 25 true 0 1) (yY t.subs [.designator]) else
 if t.kind = 26 then zA (zJ t 26 false 0 2) (yY t.subs [.designator,.expression]) else
 if t.kind = 27 then zA (zJ t 27 false 0 1) (yY t.subs [.designator]) else
 if t.kind = 28 then zA (zJ t 28 false 0 2) (yY t.subs [.designator,.typeName]) else none
def ut (t : T) (r q : Rule) : List (T × Rule) := match t.subs with
 | [] => []
 | x :: l => (x,r) :: vD l q
def zV (t : T) : Option (List (T × Rule)) :=
 if t.kind = 29 then zA (zJ t 29 false nf 0) [] else
 if t.kind = 30 \/ t.kind = 31 \/ t.kind = 32 then zA (zJ t t.kind false 0 0) [] else
 if t.kind = 33 then zA (zJ t 33 false 0 (-1) && decide (0 < t.subs.length)) (ut t .designator .expression) else
 if t.kind = 34 \/ t.kind = 35 then zA (zJ t t.kind false 0 1) (yY t.subs [.expression]) else
 if t.kind = 37 then zA (zJ t 37 false 0 2) (yY t.subs [.expression,.typeName]) else
 if t.kind = 36 then zA (decide (0 <= vv t.name) && t.num == 0 && t.subs.length == 2) (yY t.subs [.expression,.expression]) else zZ t
def jq (t : T) : Option (List (T × Rule)) :=
 if t.kind = 16 then zA (t.name.isEmpty && decide (2 <= t.subs.length) && decide (((t.subs.length : Int) % 2) = t.num)) (uL t.subs) else
 if t.kind = 14 then zA (zJ t 14 false 0 2) (yY t.subs [.designator,.expression]) else
 if t.kind = 15 then zA (zJ t 15 false 0 (-1) && decide (0 < t.subs.length)) (ut t .designator .expression) else
 if t.kind = 17 then zA (zJ t 17 false 0 2) (yY t.subs [.expression,.list .act]) else
 if t.kind = 18 then zA (zJ t 18 false 0 2) (yY t.subs [.list .act,.expression]) else
 if t.kind = 19 then zA (zJ t 19 false 0 (-1) && decide (t.subs.length <= 1)) (vD t.subs .expression) else
 if t.kind = 20 \/ t.kind = 22 then zA (zJ t t.kind false 0 1) (yY t.subs [.designator]) else
 if t.kind = 21 \/ t.kind = 23 then zA (zJ t t.kind false 0 1) (yY t.subs [.expression]) else none
def vq (t : T) : Option (List (T × Rule)) := zA (zJ t 13 true 0 (-1) && decide (t.subs.length <= 1)) (vD t.subs .ref)
def yi : Rule -> T -> Option (List (T × Rule))
 | .module,t => zA (zJ t 2 true 0 6) (yY t.subs [.list .imported,.list (.declared 4 1 .expression),.list (.declared 5 1 .typeItself),.list (.declared 6 1 .typeName),.list .procedure,.list .act])
 | .imported,t => zA (zJ t 3 true 0 0) []
 | .procedure,t => zA (zJ t 7 true 1 4) (yY t.subs [.list (.declared 8 1 .typeName),.typeNameOrNone,.list (.declared 6 0 .typeName),.list .act])
 | .typeItself,t =>
  if t.kind = 9 then zA (zJ t 9 false nf 1) (yY t.subs [.typeName]) else
  if t.kind = 12 then zA (zJ t 12 false 0 1) (yY t.subs [.typeName]) else
  if t.kind = 10 then zA (zJ t 10 false 0 (-1) && decide (0 < t.subs.length)) (ut t .typeNameOrNone (.declared 11 1 .typeName)) else none
 | .typeName,t => vq t
 | .typeNameOrNone,t => if t.kind = 0 then zA (zJ t 0 false 0 0) [] else vq t
 | .ref,t => zA (zJ t 24 true 0 0) []
 | .act,t => jq t
 | .expression,t => zV t
 | .designator,t => zZ t
 | .list r,t => zA (zJ t 1 false 0 (-1)) (vD t.subs r)
 | .declared kind most r,t => zA (zJ t kind true most 1) (yY t.subs [r])
inductive Well : Rule -> T -> Prop
 | mk {r : Rule} {t : T} (l : List (T × Rule)) (h : yi r t = some l) (all : ∀ p ∈ l,Well p.2 p.1) : Well r t
theorem Well.iff {r : Rule} {t : T} : Well r t ↔ ∃ l,yi r t = some l /\ ∀ p ∈ l,Well p.2 p.1 :=
 ⟨fun h => by cases h with | mk l h all => exact ⟨l,h,all⟩,fun ⟨l,h,all⟩ => .mk l h all⟩
/-! ### How many nodes,how deep -/
mutual
def aB : T -> Nat
 | .mk _ _ _ _ l => 1 + cd l
def cd : List T -> Nat
 | [] => 0
 | t :: l => aB t + cd l
end
mutual
def yf : T -> Nat
 | .mk _ _ _ _ l => 1 + uX l
def uX : List T -> Nat
 | [] => 0
 | t :: l => max (yf t) (uX l)
end
theorem xP {t u : T} (h : u ∈ t.subs) : yf u < yf t := by
 obtain ⟨k,x,n,a,l⟩ := t
 have H : ∀ l : List T,u ∈ l -> yf u <= uX l := by
  intro l
  induction l with
  | nil => intro h; cases h
  | cons t l ih =>
   intro h; rw [uX]
   rcases List.mem_cons.1 h with rfl | h
   ·exact Nat.le_max_left _ _
   ·exact Nat.le_trans (ih h) (Nat.le_max_right _ _)
 have := H l h; rw [show yf (T.mk k x n a l) = 1 + uX l by rw [yf]]
 omega
/-! ### Texts -/
def Sy (w : World) (v : Value) : Ending -> World -> Prop := fun e w' => e = .returned v /\ w.grownBy w' none
structure Box (w : World) (b : Nat) (t : T) (sv : Value) : Prop where
 c0 : w.cell? ⟨b,0,none⟩ = some (.int .i64 t.kind)
 c1 : w.cell? ⟨b,1,none⟩ = some (.string ⟨t.name.toArray⟩)
 c2 : w.cell? ⟨b,2,none⟩ = some (.int .i64 t.num)
 c3 : w.cell? ⟨b,3,none⟩ = some (.int .i64 t.at')
 c4 : w.cell? ⟨b,4,none⟩ = some sv
theorem Box.new (w : World) (t : T) (sv : Value) (ty : TypeId) : Box (w.alloc (.cells #[.int .i64 t.kind,.string ⟨t.name.toArray⟩,.int .i64 t.num,.int .i64 t.at',sv] ty)) w.heap.size t sv :=
 ⟨by rw [World.cell?_alloc_at _ _ _ _ rfl]; rfl,by rw [World.cell?_alloc_at _ _ _ _ rfl]; rfl,by rw [World.cell?_alloc_at _ _ _ _ rfl]; rfl,by rw [World.cell?_alloc_at _ _ _ _ rfl]; rfl,by rw [World.cell?_alloc_at _ _ _ _ rfl]; rfl⟩
theorem Box.kept {w w' : World} {b : Nat} {t : T} {sv : Value} (h : Box w b t sv) (hg : w.grownBy w' none) : Box w' b t sv :=
 ⟨ze hg h.c0,ze hg h.c1,ze hg h.c2,ze hg h.c3,ze hg h.c4⟩
theorem AT.zero {w : World} {t : T} {sv : Value} (h : AT w t.subs sv) (e : t.subs.length = 0) : ∃ a c,sv = .slice a 0 c /\ c <= 9223372036854775807 /\ t.subs = [] := by
 obtain ⟨a,c,b,_,d⟩ := h.form
 unfold maxLen at d
 rw [e] at b
 exact ⟨a,c,b,by omega,List.eq_nil_of_length_eq_zero e⟩
theorem AT.two {w : World} {t : T} {sv : Value} (h : AT w t.subs sv) (e : t.subs.length = 2) : ∃ g o c u su v sw,sv = .slice (some ⟨g,o,none⟩) 2 c /\ 2 <= c /\ c <= 9223372036854775807 /\ t.subs = [u,v] /\ Node5 w g o u su /\ Fits u /\ AT w u.subs su /\ Node5 w g (o + 5) v sw /\ Fits v /\ AT w v.subs sw := by
 obtain ⟨_,c,rfl,d,f⟩ := h.form
 unfold maxLen at f
 obtain ⟨u,v,b⟩ : ∃ u v,t.subs = [u,v] := by
  match hs : t.subs,e with
  | [u,v],_ => exact ⟨u,v,rfl⟩
 obtain ⟨g,o,su,rfl,i,j,k⟩ := h.node 0 u (by rw [b]; rfl); obtain ⟨r,s,sw,l,m,n,q⟩ := h.node 1 v (by rw [b]; rfl); cases l; rw [e] at d ⊢
 exact ⟨g,o,c,u,su,v,sw,rfl,d,by omega,b,by simpa using i,j,k,by simpa using m,n,q⟩
theorem AT.cons {w : World} {k m p : Int} {x : List UInt8} {u : T} {r : List T} {sv : Value} (h : AT w (T.mk k x m p (u :: r)).subs sv) : ∃ g o c su,sv = .slice (some ⟨g,o,none⟩) (r.length + 1) c /\ r.length + 1 <= c /\ c <= 9223372036854775807 /\ Node5 w g o u su /\ Fits u /\ AT w u.subs su /\ AT w r (.slice (some ⟨g,o + 5,none⟩) r.length (c - 1)) := by
 obtain ⟨_,c,rfl,b,d⟩ := h.form
 unfold maxLen at d
 obtain ⟨g,o,su,rfl,e,f,i⟩ := h.node 0 u rfl; refine ⟨g,o,c,su,rfl,b,by omega,by simpa using e,f,i,?_⟩; have := h.drop 1 (by simp [T.subs])
 simpa [T.subs] using this
theorem aV (a b : List UInt8) : (⟨a.toArray⟩ : ByteArray) ++ (⟨b.toArray⟩ : ByteArray) = ⟨(a ++ b).toArray⟩ := by
 apply ByteArray.ext
 simp
theorem nG {a : ByteArray} {l : List UInt8} (h : a = ⟨l.toArray⟩) : Ending.returned (.string a) = .returned (.string ⟨l.toArray⟩) := by rw [h]
def sR (n : Nat) : List UInt8 := if n < 10 then [UInt8.ofNat (48 + n)] else sR (n / 10) ++ [UInt8.ofNat (48 + n % 10)]
theorem jd {n : Nat} (h : n < 10) : sR n = [UInt8.ofNat (48 + n)] := by rw [sR,if_pos h]
theorem rn {n : Nat} (h : ¬ n < 10) : sR n = sR (n / 10) ++ [UInt8.ofNat (48 + n % 10)] := by rw [sR,if_neg h]
theorem lz (n : Nat) : ∀ f,n < 10 ^ (f + 1) -> (sR n).length <= f + 1 := by
 intro f
 induction f generalizing n with
 | zero => intro h; rw [jd (by simpa using h)]; simp
 | succ f ih =>
  intro h
  by_cases b : n < 10
  ·rw [jd b]; simp
  ·rw [rn b]
   have := ih (n / 10) (by rw [Nat.pow_succ] at h; omega)
   simp
   omega
set_option maxHeartbeats 1000000
set_option maxRecDepth 1000000
theorem aC (w : World) (n : Nat) (cap : Nat) :
  (convert 65 9 (.slice (some ⟨w.heap.size,0,none⟩) 1 cap)).run Tryz.prog (w.alloc (.cells #[.int .u8 (48 + (n : Int) % 10)] 5)) = .ok (.string ⟨#[UInt8.ofNat (48 + n % 10)]⟩) (w.alloc (.cells #[.int .u8 (48 + (n : Int) % 10)] 5)) := by
 refine run_convert_bytes_back (P := Tryz.prog) _ 65 9 5 ⟨w.heap.size,0,none⟩ cap [UInt8.ofNat (48 + n % 10)] Tryz.underlying65 Tryz.underlying5 Tryz.underlying9 (fun j hj => ?_)
 have b : j = 0 := by simp at hj; omega
 subst b
 have : (UInt8.ofNat (48 + n % 10)).toNat = 48 + n % 10 := by rw [UInt8.toNat_ofNat']; omega
 rw [Addr.add_lit,World.cell?_alloc_at (hn := rfl)]; simp only [List.getElem_cons_zero,this]
 simp
theorem bf (n : Nat) (hn : n <= 2147483647) (w : World) : Calls Tryz.prog 14 #[.int .i64 n] w (Sy w (.string ⟨(sR n).toArray⟩)) := by
 induction n using Nat.strongRecOn generalizing w with
 | ind n ih =>
  have h := aC w n 1
  by_cases c : n < 10
  ·have i : ((n : Int) / 10 != 0) = false := by simp; omega
   go_enter Tryz.func14,Tryz.ntmps14
   go_wp2_with fail
   go_ret
   refine ⟨nG ?_,zh grn _⟩; rw [jd c]
   simp [Nat.mod_eq_of_lt c,UInt8.ofNat_add]
  ·have i : ((n : Int) / 10 != 0) = true := by simp; omega
   have g := ih (n / 10) (by omega) (by omega); have d := lz (n / 10) 9 (by omega); have b := rn c
   generalize sR (n / 10) = D at g d b
   go_enter Tryz.func14,Tryz.ntmps14
   go_wp2_with fail; refine (g _).mono ?_; rintro e k ⟨rfl,f⟩; have j := zc (za gan f); go_wp2_with fail
   go_ret
   refine ⟨nG ?_,j.out⟩; rw [b]; refine (aV D _).trans ?_
   simp [UInt8.ofNat_add]
theorem sU : ∀ (ts : List T) (rs : List Rule),ts.length = rs.length -> (yY ts rs).map (·.1) = ts
 | [],[],_ => rfl
 | [],_ :: _,h => by simp at h
 | _ :: _,[],h => by simp at h
 | t :: ts,r :: rs,h => by simp only [yY,List.map_cons,sU ts rs (by simpa using h)]
theorem kO (ts : List T) (r : Rule) : (vD ts r).map (·.1) = ts := by unfold vD; rw [List.map_map]; exact List.map_id _
theorem pQ : ∀ ts : List T,(uL ts).map (·.1) = ts
 | [] => rfl
 | [_] => rfl
 | _ :: _ :: ts => by simp only [uL,List.map_cons,pQ ts]
theorem qx {t : T} {r q : Rule} : (ut t r q).map (·.1) = t.subs := by
 unfold ut
 cases h : t.subs with
 | nil => rfl
 | cons u ts => simp only [List.map_cons,kO]
theorem yZ {c : Bool} {l m : List (T × Rule)} (h : zA c l = some m) : c = true /\ m = l := by
 unfold zA at h
 split at h
 ·rename_i hc; cases h; exact ⟨hc,rfl⟩
 ·cases h
theorem tE {t : T} {k most : Int} {named : Bool} {n : Nat} (h : zJ t k named most n = true) : t.subs.length = n := by
 unfold zJ at h
 simp at h
 omega
theorem yB {t : T} {k most : Int} {named : Bool} {n : Nat} {rs : List Rule} {m : List (T × Rule)} (hn : n = rs.length) (h : zA (zJ t k named most n) (yY t.subs rs) = some m) : m.map (·.1) = t.subs := by
 obtain ⟨b,rfl⟩ := yZ h
 exact sU _ _ ((tE b).trans hn)
theorem uA {t : T} {k most : Int} {named : Bool} {m : List (T × Rule)} (h : zA (zJ t k named most 0) [] = some m) : m.map (·.1) = t.subs := by
 obtain ⟨b,rfl⟩ := yZ h; have := tE (n := 0) b; rw [List.eq_nil_of_length_eq_zero this]
 rfl
theorem tB {t : T} {m : List (T × Rule)} (h : zZ t = some m) : m.map (·.1) = t.subs := by
 unfold zZ at h
 repeat' split at h
 ·exact uA h
 ·exact yB (n := 1) rfl h
 ·exact yB (n := 2) rfl h
 ·exact yB (n := 1) rfl h
 ·exact yB (n := 2) rfl h
 ·cases h
theorem cF {t : T} {m : List (T × Rule)} (h : zV t = some m) : m.map (·.1) = t.subs := by
 unfold zV at h
 repeat' split at h
 ·exact uA h
 ·exact uA h
 ·obtain ⟨_,rfl⟩ := yZ h; exact qx
 ·exact yB (n := 1) rfl h
 ·exact yB (n := 2) rfl h
 ·obtain ⟨b,rfl⟩ := yZ h
  simp at b
  exact sU _ _ b.2
 ·exact tB h
theorem cU {t : T} {m : List (T × Rule)} (h : jq t = some m) : m.map (·.1) = t.subs := by
 unfold jq at h
 repeat' split at h
 ·obtain ⟨_,rfl⟩ := yZ h; exact pQ _
 ·exact yB (n := 2) rfl h
 ·obtain ⟨_,rfl⟩ := yZ h; exact qx
 ·exact yB (n := 2) rfl h
 ·exact yB (n := 2) rfl h
 ·obtain ⟨_,rfl⟩ := yZ h; exact kO _ _
 ·exact yB (n := 1) rfl h
 ·exact yB (n := 1) rfl h
 ·cases h
theorem kA {t : T} {m : List (T × Rule)} (h : vq t = some m) : m.map (·.1) = t.subs := by
 obtain ⟨_,rfl⟩ := yZ h; exact kO _ _
theorem fG {r : Rule} {t : T} {m : List (T × Rule)} (h : yi r t = some m) : m.map (·.1) = t.subs := by
 cases r with
 | module => exact yB (n := 6) rfl h
 | imported => exact uA h
 | procedure => exact yB (n := 4) rfl h
 | typeItself =>
  simp only [yi] at h
  repeat' split at h
  ·exact yB (n := 1) rfl h
  ·exact yB (n := 1) rfl h
  ·obtain ⟨_,rfl⟩ := yZ h; exact qx
  ·cases h
 | typeName => exact kA h
 | typeNameOrNone =>
  simp only [yi] at h
  split at h
  ·exact uA h
  ·exact kA h
 | ref => exact uA h
 | act => exact cU h
 | expression => exact cF h
 | designator => exact tB h
 | list r => obtain ⟨_,rfl⟩ := yZ h; exact kO _ _
 | declared k m' r => exact yB (n := 1) rfl h
end Go.Proofs.YtnmkffjklpfflaaGreatDoor
