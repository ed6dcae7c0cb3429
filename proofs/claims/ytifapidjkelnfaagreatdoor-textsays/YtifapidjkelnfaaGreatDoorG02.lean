/- The document's shapes: operators,heads. -/
import Derived.Test.YtifapidjkelnfaaGreatDoorG01
import Derived.Deep.RegionWith
import Derived.Lib.Builder
import Derived.Lib.AppendStr
import Derived.Lib.UnsafeStr
import Derived.Laws.Externs
import Derived.Orders
import Derived.Deep.AppendLies
import Derived.Deep.RegionLaw
namespace Go.Proofs.YtifapidjkelnfaaGreatDoor
open Go.RowKit Go.Maps Go.WideMaps Go.WideElems
set_option maxHeartbeats 1000000
set_option maxRecDepth 1000000
def Sy (w : World) (v : Value) : Ending -> World -> Prop := fun e w' => e = .returned v /\ w.grownBy w' none
theorem sr (s : ByteArray) (xs : List Bs) (g o cap : Nat) (w : World) (hx : xs.length <= cap) (hcap : cap <= maxLen)
  (hc : ∀ (k : Nat) (h : k < xs.length),w.cell? ⟨g,o + k,none⟩ = some (.string ⟨(xs[k]).toArray⟩)) :
  Calls Tryz.prog 92 #[.string s,.slice (some ⟨g,o,none⟩) xs.length cap] w fun e w' => e = .returned (.bool (inB xs s.data.toList)) /\ w' = w := by
 have HC := zb hc; clear hc
 unfold maxLen at hcap
 go_enter Tryz.func92,Tryz.ntmps92
 go_wp2
 go_loop [5] (fun i => ∃ k : Nat,k <= xs.length /\ i = .int .i64 k /\ Hid (s.data.toList ∉ xs.take k)) (fun i => xs.length - (intOf i).toNat)
 case atStart => exact ⟨0,by omega,rfl,by show _ ∉ _; simp⟩
 case round =>
  obtain ⟨k,_,rfl,HB⟩ := hrel
  by_cases hlt : k < xs.length
  ·have hc := HC.out k hlt
   cases he : (xs[k]'hlt == s.toList)
   ·have HN : Hid (s.data.toList ∉ xs.take (k + 1)) := jh hlt HB.out (fun h => by rw [h,ug] at he; simp at he)
    go_wp2
    exact ⟨⟨k + 1,by omega,by go_num,HN⟩,by simp [intOf]; omega⟩
   ·have HN : Hid (inB xs s.data.toList = true) := by
     have e : xs[k]'hlt = s.data.toList := by rw [<- ug]; simpa using he
     show xs.contains _ = true
     rw [List.contains_iff_mem,<- e]
     exact List.getElem_mem hlt
    go_wp2
    go_ret
    exact ⟨by rw [HN.out]; rfl,rfl⟩
  ·have hc : Hid (inB xs s.data.toList = false) := by
    have e : xs.take k = xs := List.take_of_length_le (by omega); have := HB.out; rw [e] at this
    show xs.contains _ = false
    rw [Bool.eq_false_iff,ne_eq,List.contains_iff_mem]
    exact this
   go_wp2
   go_ret
   exact ⟨by rw [hc.out]; rfl,rfl⟩
theorem uK (s : ByteArray) (xs : List Bs) (cs : Array Value) (t : TypeId) (n b : Nat) (w : World) (hb : b = w.heap.size) (hn : n = xs.length) (hx : xs.length <= 100) (hcs : cs = (xs.map fun l => Value.string ⟨l.toArray⟩).toArray) :
  Calls Tryz.prog 92 #[.string s,.slice (some ⟨b,0,none⟩) n n] (w.alloc (.cells cs t)) fun e w' => e = .returned (.bool (inB xs s.data.toList)) /\ w' = w.alloc (.cells cs t) := by
 subst hb hn hcs; refine sr s xs _ 0 _ _ (Nat.le_refl _) (by unfold maxLen; omega) (fun k h => ?_); rw [World.cell?_alloc_at _ _ _ _ rfl]
 simp [h]
theorem qS (s : ByteArray) (t : TypeId) (b : Nat) (w : World) (hb : b = w.heap.size) :
  Calls Tryz.prog 92 #[.string s,.slice (some ⟨b,0,none⟩) 6 6] (w.alloc (.cells #[.string ⟨#[61]⟩,.string ⟨#[35]⟩,.string ⟨#[60]⟩,.string ⟨#[60,61]⟩,.string ⟨#[62]⟩,.string ⟨#[62,61]⟩] t)) fun e w' => e = .returned (.bool (inB gd s.data.toList)) /\ w' = w.alloc (.cells #[.string ⟨#[61]⟩,.string ⟨#[35]⟩,.string ⟨#[60]⟩,.string ⟨#[60,61]⟩,.string ⟨#[62]⟩,.string ⟨#[62,61]⟩] t) :=
 uK s gd _ t 6 b w hb rfl (by decide) rfl
theorem qF (s : ByteArray) (t : TypeId) (b : Nat) (w : World) (hb : b = w.heap.size) :
  Calls Tryz.prog 92 #[.string s,.slice (some ⟨b,0,none⟩) 3 3] (w.alloc (.cells #[.string ⟨#[43]⟩,.string ⟨#[45]⟩,.string ⟨#[79,82]⟩] t)) fun e w' => e = .returned (.bool (inB fe s.data.toList)) /\ w' = w.alloc (.cells #[.string ⟨#[43]⟩,.string ⟨#[45]⟩,.string ⟨#[79,82]⟩] t) :=
 uK s fe _ t 3 b w hb rfl (by decide) rfl
theorem qg (s : ByteArray) (t : TypeId) (b : Nat) (w : World) (hb : b = w.heap.size) :
  Calls Tryz.prog 92 #[.string s,.slice (some ⟨b,0,none⟩) 4 4] (w.alloc (.cells #[.string ⟨#[42]⟩,.string ⟨#[68,73,86]⟩,.string ⟨#[77,79,68]⟩,.string ⟨#[38]⟩] t)) fun e w' => e = .returned (.bool (inB fG s.data.toList)) /\ w' = w.alloc (.cells #[.string ⟨#[42]⟩,.string ⟨#[68,73,86]⟩,.string ⟨#[77,79,68]⟩,.string ⟨#[38]⟩] t) :=
 uK s fG _ t 4 b w hb rfl (by decide) rfl
theorem xI (s : ByteArray) (w : World) :
    Calls Tryz.prog 54 #[.string s] w (Sy w (.int .i64 (zo s.data.toList))) := by
  have H : Hid (zo s.data.toList = zo s.data.toList) := rfl
  cases h0 : inB gd s.data.toList
  · cases h1 : inB fe s.data.toList
    · cases h2 : inB fG s.data.toList
      · have HV : Hid (zo s.data.toList = -1) := by show zo _ = _; unfold zo; rw [h0,h1,h2]; rfl
        go_enter Tryz.func54,Tryz.ntmps54
        go_wp2_with (first
          | (go_at_call 92; with_reducible refine (qS s _ _ _ (by simp)).mono ?_; rintro e w' ⟨rfl,rfl⟩; simp only [h0])
          | (go_at_call 92; with_reducible refine (qF s _ _ _ (by simp)).mono ?_; rintro e w' ⟨rfl,rfl⟩; simp only [h1])
          | (go_at_call 92; with_reducible refine (qg s _ _ _ (by simp)).mono ?_; rintro e w' ⟨rfl,rfl⟩; simp only [h2]))
        go_ret
        exact ⟨by rw [HV.out]; rfl,(zf (zf (zf (zj w none) _) _) _)⟩
      · have HV : Hid (zo s.data.toList = 2) := by show zo _ = _; unfold zo; rw [h0,h1,h2]; rfl
        go_enter Tryz.func54,Tryz.ntmps54
        go_wp2_with (first
          | (go_at_call 92; with_reducible refine (qS s _ _ _ (by simp)).mono ?_; rintro e w' ⟨rfl,rfl⟩; simp only [h0])
          | (go_at_call 92; with_reducible refine (qF s _ _ _ (by simp)).mono ?_; rintro e w' ⟨rfl,rfl⟩; simp only [h1])
          | (go_at_call 92; with_reducible refine (qg s _ _ _ (by simp)).mono ?_; rintro e w' ⟨rfl,rfl⟩; simp only [h2]))
        go_ret
        exact ⟨by rw [HV.out]; rfl,(zf (zf (zf (zj w none) _) _) _)⟩
    · have HV : Hid (zo s.data.toList = 1) := by show zo _ = _; unfold zo; rw [h0,h1]; rfl
      go_enter Tryz.func54,Tryz.ntmps54
      go_wp2_with (first
        | (go_at_call 92; with_reducible refine (qS s _ _ _ (by simp)).mono ?_; rintro e w' ⟨rfl,rfl⟩; simp only [h0])
        | (go_at_call 92; with_reducible refine (qF s _ _ _ (by simp)).mono ?_; rintro e w' ⟨rfl,rfl⟩; simp only [h1])
        | (go_at_call 92; with_reducible refine (qg s _ _ _ (by simp)).mono ?_; rintro e w' ⟨rfl,rfl⟩; simp only [h2]))
      go_ret
      exact ⟨by rw [HV.out]; rfl,(zf (zf (zj w none) _) _)⟩
  · have HV : Hid (zo s.data.toList = 0) := by show zo _ = _; unfold zo; rw [h0]; rfl
    go_enter Tryz.func54,Tryz.ntmps54
    go_wp2_with (first
      | (go_at_call 92; with_reducible refine (qS s _ _ _ (by simp)).mono ?_; rintro e w' ⟨rfl,rfl⟩; simp only [h0])
      | (go_at_call 92; with_reducible refine (qF s _ _ _ (by simp)).mono ?_; rintro e w' ⟨rfl,rfl⟩; simp only [h1])
      | (go_at_call 92; with_reducible refine (qg s _ _ _ (by simp)).mono ?_; rintro e w' ⟨rfl,rfl⟩; simp only [h2]))
    go_ret
    exact ⟨by rw [HV.out]; rfl,(zf (zj w none) _)⟩
theorem Kept33.kept {w w' : World} {a : Addr} {cap : Nat} (h : Kept33 w a cap) (hg : w.grownBy w' none) : Kept33 w' a cap :=
 ⟨Nat.lt_of_lt_of_le h.lt hg.size,zg hg h.head,h.room,fun k hk => zg hg (h.cell k hk)⟩
def KW (w : World) : Prop := ∃ a cap,Kept33 w a cap
theorem KW.kept {w w' : World} (h : KW w) (hg : w.grownBy w' none) : KW w' := by
 obtain ⟨a,cap,h⟩ := h
 exact ⟨a,cap,h.kept hg⟩
theorem jZ (s : ByteArray) (w : World) (hs : s.size <= maxLen) (hk : KW w) :
  Calls Tryz.prog 57 #[.string s] w fun e w' => e = .returned (.bool (yB s.data.toList)) /\ w' = w := by
 obtain ⟨a,cap,hk⟩ := hk
 exact vT s a cap w hs hk
theorem mX {t : T} {k most many : Int} {named : Bool} (h : ¬ (t.kind = k /\ 0 <= t.num /\ t.num <= most /\ (0 <= many -> (t.subs.length : Int) = many))) : zk t k named most many = false := by unfold zk; rw [decide_eq_false h]; rfl
theorem ng {t : T} {k most many : Int} {named : Bool} (h : t.kind = k /\ 0 <= t.num /\ t.num <= most /\ (0 <= many -> (t.subs.length : Int) = many)) : zk t k named most many = if named then yB t.name else t.name.isEmpty := by unfold zk; rw [decide_eq_true h]; rfl
theorem jI {a b : Bool} (h : a = b) : Ending.returned (.bool a) = .returned (.bool b) := by rw [h]
theorem jY {x : Bs} (h : x.length <= maxLen) : ByteArray.size ⟨x.toArray⟩ <= maxLen := by simpa [ByteArray.size] using h
theorem zA (t : T) (sv : Value) (k most many : Int) (named : Bool) (w : World) (hk : KW w) (hf : Fits t) (ha : AT w t.subs sv) :
  Calls Tryz.prog 37 #[zq t sv,.int .i64 k,.bool named,.int .i64 most,.int .i64 many] w (Sy w (.bool (zk t k named most many))) := by
 obtain ⟨kd,x,m,p,l⟩ := t; obtain ⟨a,c,rfl,h1,h2⟩ := ha.form; have HK := zb hk; have HX := zb (jY hf.name); clear hk hf ha
 unfold maxLen at h2
 change Calls Tryz.prog 37 #[.agg #[.int .i64 kd,.string ⟨x.toArray⟩,.int .i64 m,.int .i64 p,.slice a l.length c],.int .i64 k,.bool named,.int .i64 most,.int .i64 many] w _
 change l.length <= c at h1
 by_cases hc : kd = k /\ 0 <= m /\ m <= most /\ (0 <= many -> (l.length : Int) = many)
 ·have E2 := ng (t := .mk kd x m p l) (named := named) hc
  obtain ⟨rfl,_,_,h5⟩ := hc; rw [E2]; clear E2
  by_cases h6 : 0 <= many
  ·have h7 := h5 h6
   subst h7; clear h5 h6; cases named
   all_goals
    go_enter Tryz.func37,Tryz.ntmps37
    go_wp2_with (go_at_call 57; refine (jZ _ _ HX.out (HK.out.kept (zf (zj _ _) _))).mono ?_; rintro e w' ⟨rfl,rfl⟩)
    go_ret
    exact ⟨rfl,zf (zj _ _) _⟩
  ·clear h5
   cases named
   all_goals
    go_enter Tryz.func37,Tryz.ntmps37
    go_wp2_with (go_at_call 57; refine (jZ _ _ HX.out (HK.out.kept (zf (zj _ _) _))).mono ?_; rintro e w' ⟨rfl,rfl⟩)
    go_ret
    exact ⟨rfl,zf (zj _ _) _⟩
 ·rw [mX (t := .mk kd x m p l) (named := named) hc]
  have HC := zb hc; clear hc
  go_enter Tryz.func37,Tryz.ntmps37
  go_wp2_with (go_at_call 57; refine (jZ _ _ HX.out (HK.out.kept (zf (zj _ _) _))).mono ?_; rintro e w' ⟨rfl,rfl⟩)
  all_goals go_ret
  all_goals first
   | exact ⟨rfl,zf (zj _ _) _⟩
   | (exfalso; have h9 := HC.out; simp_all <;> omega)
open Classical in
noncomputable def zh (r : Rule) (t : T) : Bool := decide (Well r t)
theorem xf {r : Rule} {t : T} : zh r t = true ↔ Well r t := by unfold zh; simp
theorem sK {r : Rule} {t : T} {l : List (T × Rule)} (h : zw r t = some l) : zh r t = l.all fun p => zh p.2 p.1 := by
 rw [Bool.eq_iff_iff,xf,Well.of_some h,List.all_eq_true]
 exact ⟨fun H p hp => xf.2 (H p hp),fun H p hp => xf.1 (H p hp)⟩
theorem ur {r : Rule} {t : T} (h : zw r t = none) : zh r t = false := by
 rw [Bool.eq_false_iff,ne_eq,xf]
 exact Well.of_none h
theorem zs {r : Rule} {t : T} {c : Bool} {l : List (T × Rule)} (h : zw r t = zt c l) : zh r t = (c && l.all fun p => zh p.2 p.1) := by
 cases c
 ·rw [ur (h.trans rfl)]; rfl
 ·rw [sK (h.trans rfl)]; rfl
structure Box (w : World) (b : Nat) (t : T) (sv : Value) : Prop where
 c0 : w.cell? ⟨b,0,none⟩ = some (.int .i64 t.kind)
 c1 : w.cell? ⟨b,1,none⟩ = some (.string ⟨t.name.toArray⟩)
 c2 : w.cell? ⟨b,2,none⟩ = some (.int .i64 t.num)
 c3 : w.cell? ⟨b,3,none⟩ = some (.int .i64 t.at')
 c4 : w.cell? ⟨b,4,none⟩ = some sv
theorem Box.new (w : World) (t : T) (sv : Value) (ty : TypeId) : Box (w.alloc (.cells #[.int .i64 t.kind,.string ⟨t.name.toArray⟩,.int .i64 t.num,.int .i64 t.at',sv] ty)) w.heap.size t sv :=
 ⟨by rw [World.cell?_alloc_at _ _ _ _ rfl]; rfl,by rw [World.cell?_alloc_at _ _ _ _ rfl]; rfl,by rw [World.cell?_alloc_at _ _ _ _ rfl]; rfl,by rw [World.cell?_alloc_at _ _ _ _ rfl]; rfl,by rw [World.cell?_alloc_at _ _ _ _ rfl]; rfl⟩
theorem Box.p {w : World} {b : Nat} {k : Int} {x : Bs} {m p : Int} {l : List T} {sv : Value} (h : Box w b (.mk k x m p l) sv) : w.cell? ⟨b,0,none⟩ = some (.int .i64 k) /\ w.cell? ⟨b,1,none⟩ = some (.string ⟨x.toArray⟩) /\ w.cell? ⟨b,2,none⟩ = some (.int .i64 m) /\ w.cell? ⟨b,3,none⟩ = some (.int .i64 p) /\ w.cell? ⟨b,4,none⟩ = some sv := ⟨h.c0,h.c1,h.c2,h.c3,h.c4⟩
theorem Box.kept {w w' : World} {b : Nat} {t : T} {sv : Value} (h : Box w b t sv) (hg : w.grownBy w' none) : Box w' b t sv :=
 ⟨zg hg h.c0,zg hg h.c1,zg hg h.c2,zg hg h.c3,zg hg h.c4⟩
theorem AT.any {w : World} {t : T} {sv : Value} (h : AT w t.subs sv) : ∃ a n c,sv = .slice a n c /\ n <= c /\ c <= 9223372036854775807 /\ t.subs.length = n := by
 obtain ⟨a,c,b,d,f⟩ := h.form
 unfold maxLen at f
 exact ⟨a,_,c,b,d,by omega,rfl⟩
theorem AT.zero {w : World} {t : T} {sv : Value} (h : AT w t.subs sv) (e : t.subs.length = 0) : ∃ a c,sv = .slice a 0 c /\ c <= 9223372036854775807 /\ t.subs = [] := by
 obtain ⟨a,c,b,_,d⟩ := h.form
 unfold maxLen at d
 rw [e] at b
 exact ⟨a,c,b,by omega,List.eq_nil_of_length_eq_zero e⟩
theorem AT.one {w : World} {t : T} {sv : Value} (h : AT w t.subs sv) (e : t.subs.length = 1) : ∃ g o c u su,sv = .slice (some ⟨g,o,none⟩) 1 c /\ 1 <= c /\ c <= 9223372036854775807 /\ t.subs = [u] /\ Node5 w g o u su /\ Fits u /\ AT w u.subs su := by
 obtain ⟨_,c,rfl,a,d⟩ := h.form
 unfold maxLen at d
 obtain ⟨u,b⟩ := List.length_eq_one_iff.1 e; obtain ⟨g,o,su,rfl,f,i,j⟩ := h.node 0 u (by rw [b]; rfl); rw [e] at a ⊢
 exact ⟨g,o,c,u,su,rfl,a,by omega,b,by simpa using f,i,j⟩
theorem AT.two {w : World} {t : T} {sv : Value} (h : AT w t.subs sv) (e : t.subs.length = 2) : ∃ g o c u su v sw,sv = .slice (some ⟨g,o,none⟩) 2 c /\ 2 <= c /\ c <= 9223372036854775807 /\ t.subs = [u,v] /\ Node5 w g o u su /\ Fits u /\ AT w u.subs su /\ Node5 w g (o + 5) v sw /\ Fits v /\ AT w v.subs sw := by
 obtain ⟨_,c,rfl,b,d⟩ := h.form
 unfold maxLen at d
 obtain ⟨u,v,a⟩ : ∃ u v,t.subs = [u,v] := by
  match hs : t.subs,e with
  | [u,v],_ => exact ⟨u,v,rfl⟩
 obtain ⟨g,o,su,rfl,f,i,j⟩ := h.node 0 u (by rw [a]; rfl); obtain ⟨r,s,sw,k,l,m,n⟩ := h.node 1 v (by rw [a]; rfl); cases k; rw [e] at b ⊢
 exact ⟨g,o,c,u,su,v,sw,rfl,b,by omega,a,by simpa using f,i,j,by simpa using l,m,n⟩
theorem AT.cons {w : World} {k m p : Int} {x : Bs} {u : T} {r : List T} {sv : Value} (h : AT w (T.mk k x m p (u :: r)).subs sv) : ∃ g o c su,sv = .slice (some ⟨g,o,none⟩) (r.length + 1) c /\ r.length + 1 <= c /\ c <= 9223372036854775807 /\ Node5 w g o u su /\ Fits u /\ AT w u.subs su /\ AT w r (.slice (some ⟨g,o + 5,none⟩) r.length (c - 1)) := by
 obtain ⟨a,c,rfl,b,d⟩ := h.form
 unfold maxLen at d
 obtain ⟨g,o,su,rfl,f,i,j⟩ := h.node 0 u rfl; refine ⟨g,o,c,su,rfl,b,by omega,by simpa using f,i,j,?_⟩; have := h.drop 1 (by simp [T.subs])
 simpa [T.subs] using this
structure ShOK (u : T) : Prop where
 desig : ∀ (sv : Value) (w : World),KW w -> Fits u -> AT w u.subs sv -> Calls Tryz.prog 99 #[zq u sv] w (Sy w (.bool (zh .designator u)))
 expr : ∀ (sv : Value) (w : World),KW w -> Fits u -> AT w u.subs sv -> Calls Tryz.prog 63 #[zq u sv] w (Sy w (.bool (zh .expression u)))
theorem z8 {t : T} {k most : Int} {named : Bool} {n : Nat} (h : zk t k named most n = true) : t.subs.length = n := by
 unfold zk at h
 simp at h
 omega
theorem oW (t : T) : zh .ref t = zk t 24 true 0 0 := by
 rw [zs (show zw .ref t = zt (zk t 24 true 0 0) [] from rfl)]; simp
theorem jf (t : T) : zh .typeName t = (zk t 13 true 0 (-1) && decide (t.subs.length <= 1) && t.subs.all fun u => zk u 24 true 0 0) := by
 rw [zs (show zw .typeName t = zt (zk t 13 true 0 (-1) && decide (t.subs.length <= 1)) (yE t.subs .ref) from rfl)]
 unfold yE
 rw [List.all_map]
 congr 2
 funext u
 exact oW u
theorem yF (t : T) (sv : Value) (w : World) (hk : KW w) (hf : Fits t) (ha : AT w t.subs sv) :
  Calls Tryz.prog 65 #[zq t sv] w (Sy w (.bool (zh .typeName t))) := by
 have f := jf t; have D := zb hk; have A := zb hf; have B := zb ha; obtain ⟨d,x,m,p,l⟩ := t; cases h : zk (.mk d x m p l) 13 true 0 (-1)
 ·rw [show zh .typeName (.mk d x m p l) = false by rw [f,h]; rfl]
  clear f; obtain ⟨a,n,c,rfl,I,F,G⟩ := ha.any; clear hk hf ha
  change Calls Tryz.prog 65 #[.agg #[.int .i64 d,.string ⟨x.toArray⟩,.int .i64 m,.int .i64 p,.slice a n c]] w _
  go_enter Tryz.func65,Tryz.ntmps65
  go_wp2_with fail; go_at_call 37; refine (zA (.mk d x m p l) _ 13 0 (-1) true _ (D.kept (zf (zj w none) _)) A (B.kept (zf (zj w none) _))).mono ?_; rintro e H ⟨rfl,b⟩; rw [h]; have z := za (zf (zj w none) _) b; have C := zb ((Box.new w (.mk d x m p l) (.slice a n c) 24).kept b); obtain ⟨i,j,k,s,y⟩ := id C; go_wp2_with fail
  go_ret
  exact ⟨rfl,z⟩
 ·match l,ha,f,h,A,B with
  | [],ha,f,h,A,B =>
   rw [show zh .typeName (.mk d x m p []) = true by rw [f,h]; rfl]; clear f; obtain ⟨a,c,rfl,F,_⟩ := ha.zero rfl; clear hk hf ha
   change Calls Tryz.prog 65 #[.agg #[.int .i64 d,.string ⟨x.toArray⟩,.int .i64 m,.int .i64 p,.slice a 0 c]] w _
   go_enter Tryz.func65,Tryz.ntmps65
   go_wp2_with fail; go_at_call 37; refine (zA (.mk d x m p []) _ 13 0 (-1) true _ (D.kept (zf (zj w none) _)) A (B.kept (zf (zj w none) _))).mono ?_; rintro e H ⟨rfl,b⟩; rw [h]; have z := za (zf (zj w none) _) b; have C := zb ((Box.new w (.mk d x m p []) (.slice a 0 c) 24).kept b); obtain ⟨i,j,k,s,y⟩ := id C; go_wp2_with fail
   go_ret
   exact ⟨rfl,z⟩
  | [u],ha,f,h,A,B =>
   obtain ⟨g,o,c,_,rfl,I,F,J,K,L,O⟩ := AT.cons ha; rw [show zh .typeName (.mk d x m p [u]) = zk u 24 true 0 0 by rw [f,h]; simp [T.subs]]; have M := zb J; have Q := zb K; have R := zb L; clear f hk hf ha K L O J
   change Calls Tryz.prog 65 #[.agg #[.int .i64 d,.string ⟨x.toArray⟩,.int .i64 m,.int .i64 p,.slice (some ⟨g,o,none⟩) 1 c]] w _
   go_enter Tryz.func65,Tryz.ntmps65
   go_wp2_with fail; go_at_call 37; refine (zA (.mk d x m p [u]) _ 13 0 (-1) true _ (D.kept (zf (zj w none) _)) A (B.kept (zf (zj w none) _))).mono ?_; rintro e H ⟨rfl,b⟩; rw [h]; have z := za (zf (zj w none) _) b; have C := zb ((Box.new w (.mk d x m p [u]) (.slice (some ⟨g,o,none⟩) 1 c) 24).kept b); obtain ⟨i,j,k,s,y⟩ := id C; obtain ⟨_,_,_,_,_⟩ := M.kept z; go_wp2_with fail; go_at_call 37; refine (zA u _ 24 0 0 true _ (D.kept z) Q (R.kept z)).mono ?_; rintro e V ⟨rfl,E⟩; have N := za z E; have U := C.kept E; obtain ⟨_,_,_,_,_⟩ := id U; obtain ⟨_,_,_,_,_⟩ := M.kept N; go_wp2_with fail
   go_ret
   exact ⟨rfl,N⟩
  | u :: v :: r,ha,f,h,A,B =>
   obtain ⟨a,n,c,rfl,I,F,G⟩ := ha.any; rw [show zh .typeName (.mk d x m p (u :: v :: r)) = false by rw [f,h]; simp [T.subs]]
   have X : 2 <= n := by rw [<- G]; simp [T.subs]
   clear f hk hf ha G
   change Calls Tryz.prog 65 #[.agg #[.int .i64 d,.string ⟨x.toArray⟩,.int .i64 m,.int .i64 p,.slice a n c]] w _
   go_enter Tryz.func65,Tryz.ntmps65
   go_wp2_with fail; go_at_call 37; refine (zA (.mk d x m p (u :: v :: r)) _ 13 0 (-1) true _ (D.kept (zf (zj w none) _)) A (B.kept (zf (zj w none) _))).mono ?_; rintro e H ⟨rfl,b⟩; rw [h]; have z := za (zf (zj w none) _) b; have C := zb ((Box.new w (.mk d x m p (u :: v :: r)) (.slice a n c) 24).kept b); obtain ⟨i,j,k,s,y⟩ := id C; go_wp2_with fail
   go_ret
   exact ⟨rfl,z⟩
set_option maxHeartbeats 2000000
def zM (t : T) (most : Int) : Bool := decide (0 <= t.num /\ t.num <= most)
theorem uv (t : T) (sv : Value) (most : Int) (w : World) (ha : ∃ a n c,sv = .slice a n c) :
  Calls Tryz.prog 143 #[zq t sv,.int .i64 most] w (Sy w (.bool (zM t most))) := by
 obtain ⟨a,n,c,rfl⟩ := ha; obtain ⟨kd,x,m,p,l⟩ := t
 change Calls Tryz.prog 143 #[.agg #[.int .i64 kd,.string ⟨x.toArray⟩,.int .i64 m,.int .i64 p,.slice a n c],.int .i64 most] w _
 by_cases h1 : 0 <= m
 ·by_cases h2 : m <= most
  ·rw [show zM (.mk kd x m p l) most = true by unfold zM; exact decide_eq_true ⟨h1,h2⟩]
   go_enter Tryz.func143,Tryz.ntmps143
   go_wp2
   go_ret
   exact ⟨rfl,zf (zj w none) _⟩
  ·rw [show zM (.mk kd x m p l) most = false by unfold zM; exact decide_eq_false (fun h => h2 h.2)]
   have h2b : decide (m <= most) = false := by simpa using h2
   go_enter Tryz.func143,Tryz.ntmps143
   go_wp2
   go_ret
   exact ⟨jI (by simp),zf (zj w none) _⟩
 ·rw [show zM (.mk kd x m p l) most = false by unfold zM; exact decide_eq_false (fun h => h1 h.1)]
  have h1b : decide (0 <= m) = false := by simpa using h1
  go_enter Tryz.func143,Tryz.ntmps143
  go_wp2
  go_ret
  exact ⟨rfl,zf (zj w none) _⟩
theorem vV {w : World} {l : List T} {v : Value} (h : AT w l v) : ∃ a n c,v = .slice a n c := by
 obtain ⟨a,c,e,_⟩ := h.form
 exact ⟨a,_,c,e⟩
theorem zG (t : T) (sv : Value) (most : Int) (w : World) (ha : ∃ a n c,sv = .slice a n c) :
  Calls Tryz.prog 145 #[zq t sv,.int .i64 most] w (Sy w (.bool (t.name.isEmpty && zM t most))) := by
 have HW := fun w => zb (uv t sv most w ha)
 obtain ⟨a,n,c,rfl⟩ := ha; obtain ⟨kd,x,m,p,l⟩ := t
 change Calls Tryz.prog 145 #[.agg #[.int .i64 kd,.string ⟨x.toArray⟩,.int .i64 m,.int .i64 p,.slice a n c],.int .i64 most] w (Sy w (.bool (x.isEmpty && zM (.mk kd x m p l) most)))
 cases h : x.isEmpty
 ·go_enter Tryz.func145,Tryz.ntmps145
  go_wp2_with fail
  go_ret
  exact ⟨rfl,zf (zj w none) _⟩
 ·go_enter Tryz.func145,Tryz.ntmps145
  go_wp2_with fail; go_at_call 143; refine ((HW _).out).mono ?_; rintro e w1 ⟨rfl,hg1⟩; go_wp2_with fail
  go_ret
  exact ⟨rfl,za (zf (zj w none) _) hg1⟩
theorem uA {w w' : World} (h : Below w.heap.size w w') (row : Option Nat) : w.grownBy w' row := ⟨h.os,h.tape,h.output,h.size,fun i hi _ => h.block i hi⟩
theorem xk (jb lb : Nat) (t : T) (sv : Value) (most : Int) (w : World) (c0 : w.cell? ⟨jb,0,none⟩ = some (.map (some lb))) (hx : IsLex w lb) (hf : Fits t) (ha : ∃ a n c,sv = .slice a n c) :
    Calls Tryz.prog 105 #[ptr jb,zq t sv,.int .i64 most] w (Sy w (.bool (yB t.name && zM t most))) := by
  have HW := fun w => zb (uv t sv most w ha)
  have HS := zb (jY hf.name); have HX := zb hx; have hlt := zc c0; obtain ⟨a,n,c,rfl⟩ := ha; obtain ⟨kd,x,m,p,l⟩ := t; clear hx hf
  change Calls Tryz.prog 105 #[ptr jb,.agg #[.int .i64 kd,.string ⟨x.toArray⟩,.int .i64 m,.int .i64 p,.slice a n c],.int .i64 most] w (Sy w (.bool (yB x && zM (.mk kd x m p l) most)))
  cases h : yB x
  · skip
    have HN : Hid (∀ w',w.grownBy w' none -> Calls Tryz.prog 142 #[.agg #[.map (some lb)],.string ⟨x.toArray⟩] w' (Sy w' (.bool false))) := fun w' hg => (kG lb ⟨x.toArray⟩ w' HS.out (yc HX.out (hg.block lb (World.ownsMap.lt HX.out) (by simp)))).mono (fun e w'' hh => ⟨hh.1.trans (jI h),uA hh.2 none⟩)
    go_enter Tryz.func105,Tryz.ntmps105
    go_wp2_with fail
    first | go_region_with (first
      | (go_at_call 142
         refine (HN.out _ (ze (zf (zj w none) _))).mono ?_
         rintro e w1 ⟨rfl,hg1⟩)) | fail
    all_goals
      go_wp2_with fail
      go_ret
      exact ⟨rfl,za (ze (zf (zj w none) _)) hg1⟩
  · skip
    have HN : Hid (∀ w',w.grownBy w' none -> Calls Tryz.prog 142 #[.agg #[.map (some lb)],.string ⟨x.toArray⟩] w' (Sy w' (.bool true))) := fun w' hg => (kG lb ⟨x.toArray⟩ w' HS.out (yc HX.out (hg.block lb (World.ownsMap.lt HX.out) (by simp)))).mono (fun e w'' hh => ⟨hh.1.trans (jI h),uA hh.2 none⟩)
    go_enter Tryz.func105,Tryz.ntmps105
    go_wp2_with fail
    first | go_region_with (first
      | (go_at_call 142
         refine (HN.out _ (ze (zf (zj w none) _))).mono ?_; rintro e w1 ⟨rfl,hg1⟩; have B1 : Box w1 w.heap.size (.mk kd x m p l) (.slice a n c) := (Box.new w (.mk kd x m p l) (.slice a n c) 24).kept (za (ze (zj _ none)) hg1); obtain ⟨_,_,_,b3,_⟩ := B1.p
         change _ = some (Value.int .i64 p) at b3)
      | (go_at_call 143
         refine ((HW _).out).mono ?_
         rintro e w2 ⟨rfl,hg2⟩)) | fail
    all_goals
      go_wp2_with fail
      go_ret
      exact ⟨rfl,za (za (ze (zf (zj w none) _)) hg1) hg2⟩
abbrev free (jb : Nat) (v : Value) : Nat -> Prop := fun k => k ≠ jb /\ v.ownBlock ≠ some k
section
variable {w0 : World} {jb lb ob : Nat} {w w' : World} {l : List (T × Rule)} {v v' : Value} {r : Rule} {rv : Value}
theorem JK.fr (h : JK jb v w w' v') : ∀ k,k < w.heap.size -> free jb v k -> free jb v' k := fun k hk hs => ⟨hs.1,fun e => by
 rcases h.at' with h' | h'
 ·exact hs.2 (h' ▸ e)
 ·have := h' k e; omega⟩
theorem RV.step (h : RV w jb (free jb v) r rv) (hk : JK jb v w w' v') : RV w' jb (free jb v') r rv := h.kept hk.kb hk.fr
theorem RV.grown (h : RV w jb (free jb v) r rv) (hg : w.grownBy w' none) : RV w' jb (free jb v) r rv := h.step (JK.grown hg)
end
theorem uE (w0 : World) (jb lb ob : Nat) (w : World) (l : List (T × Rule)) (v : Value) (ts : List T) (sl : Value) (r : Rule) (rv : Value) (h : JS w0 jb lb ob w l v) (hlen : l.length + ts.length <= 20000) (ha : AT w0 ts sl) (hr : RV w jb (free jb v) r rv) :
  Calls Tryz.prog 146 #[ptr jb,sl,rv] w fun e w' => ∃ v',e = .returned (.bool true) /\ JS w0 jb lb ob w' (l ++ yE ts r) v' /\ JK jb v w w' v' := by
 obtain ⟨_,_,rfl,_,b⟩ := ha.form
 unfold maxLen at b
 have A := zb ha; have B := zb hr; have C := zb h; clear h ha hr
 go_enter Tryz.func146,Tryz.ntmps146
 go_wp2_with fail
 go_loopw [11] (fun iv wr => ∃ (i : Nat) (a : Value),i <= ts.length /\ iv = .int .i64 ↑i /\ Hid (JS w0 jb lb ob wr (l ++ yE (ts.take i) r) a) /\ Hid (JK jb v w wr a)) (fun iv _ => ts.length - (intOf iv).toNat)
 case atStart => exact ⟨0,v,Nat.zero_le _,rfl,by show JS _ _ _ _ _ _ _; simpa [yE] using C.out,JK.refl _ _ _⟩
 case round =>
  obtain ⟨i,a,_,rfl,d,f⟩ := hrel
  by_cases g : i < ts.length
  ·obtain ⟨u,j⟩ : ∃ u,ts[i]? = some u := ⟨_,List.getElem?_eq_getElem g⟩
   obtain ⟨_,_,_,D,s,t,k⟩ := A.out.node i u j; cases D; obtain ⟨_,_,rfl,_,_⟩ := k.form; obtain ⟨_,_,_,_,_⟩ := s.kept d.out.gb
   have E : Hid (l ++ yE (ts.take i) r ++ [(u,r)] = l ++ yE (ts.take (i + 1)) r) := by
    show _ = _
    rw [List.take_add_one,j]
    simp [yE]
   have F := zb t; have G := zb k; have H := zb (B.out.step f.out); clear j t k s; go_wp2_with fail; go_at_call 74; refine (vW w0 jb lb ob _ _ a u r _ rv (d.out.grown (zf (zj wr none) _)) (by simp [yE]; omega) F.out G.out (H.out.grown (zf (zj wr none) _))).mono ?_; rintro e x ⟨m,rfl,y,z⟩; have n : Hid (JS w0 jb lb ob x (l ++ yE (ts.take (i + 1)) r) m) := E.out ▸ y; have I : Hid (JK jb v w x m) := f.out.trans ((JK.grown (zf (zj wr none) _)).trans z); clear y z; go_wp2_with fail
   exact ⟨⟨i + 1,m,by omega,by go_num,n,I⟩,by simp [intOf]; omega⟩
  ·have n : Hid (JS w0 jb lb ob wr (l ++ yE ts r) a) := by
    have := d.out; rw [List.take_of_length_le (by omega)] at this
    exact this
   go_wp2_with fail
   go_ret
   exact ⟨a,rfl,n.out,f.out⟩
theorem jW (w0 : World) (jb lb ob : Nat) (w : World) (l : List (T × Rule)) (v : Value) (t : T) (sv : Value) (r q : Rule) (rv qv : Value) (h : JS w0 jb lb ob w l v) (hlen : l.length + t.subs.length <= 20000) (ha : AT w0 t.subs sv) (hr : RV w jb (free jb v) r rv) (hq : RV w jb (free jb v) q qv) :
  Calls Tryz.prog 148 #[ptr jb,zq t sv,rv,qv] w fun e w' => (t.subs = [] /\ e = .returned (.bool false) /\ w.grownBy w' none) \/ (0 < t.subs.length /\ ∃ v',e = .returned (.bool true) /\ JS w0 jb lb ob w' (l ++ yQ t r q) v' /\ JK jb v w w' v') := by
 have L := zb hr; have M := zb hq; have k := zb h; obtain ⟨j,x,m,p,d⟩ := t
 match d,ha,hlen with
 | [],ha,hlen =>
  obtain ⟨a,c,rfl,hc,_⟩ := ha.zero rfl; clear ha hr hq h
  change Calls Tryz.prog 148 #[ptr jb,.agg #[.int .i64 j,.string ⟨x.toArray⟩,.int .i64 m,.int .i64 p,.slice a 0 c],rv,qv] w _
  go_enter Tryz.func148,Tryz.ntmps148
  go_wp2_with fail
  go_ret
  exact .inl ⟨rfl,rfl,zf (zj w none) _⟩
 | u :: d,ha,hlen =>
  obtain ⟨g,o,c,N,rfl,_,hc,O,Q,R,E⟩ := AT.cons ha; have Y := zb O; have U := zb Q; have V := zb R
  have X : Hid (∀ c',(c = c' + 1 /\ 1 < c) -> AT w0 d (.slice (some ⟨g,o + 5,none⟩) d.length c')) := fun c' hc' => by obtain ⟨rfl,_⟩ := hc'; exact E
  have Z : ((d.length : Int) + 1 == 0) = false := bn (by omega)
  clear ha hr hq h Q R O
  have a0 : l.length + 1 + d.length <= 20000 := by simp [T.subs] at hlen; omega
  clear hlen
  change Calls Tryz.prog 148 #[ptr jb,.agg #[.int .i64 j,.string ⟨x.toArray⟩,.int .i64 m,.int .i64 p,.slice (some ⟨g,o,none⟩) (d.length + 1) c],rv,qv] w _
  obtain ⟨d0,_,_,_,_⟩ := Y.out.kept k.out.gb; have a1 := zc d0
  rcases Nat.lt_or_ge 1 c with F | F
  ·have G := zb E
   clear E X
   go_enter Tryz.func148,Tryz.ntmps148
   go_wp2_with fail; go_at_call 74; refine (vW w0 jb lb ob _ l v u r N rv (k.out.grown (zf (zj w none) _)) (by omega) U.out V.out (L.out.grown (zf (zj w none) _))).mono ?_; rintro e s ⟨y,rfl,z,b⟩; have H := zb z; have A : Hid (JK jb v w s y) := (JK.grown (zf (zj w none) _)).trans b
   have I : Box s w.heap.size (.mk j x m p (u :: d)) (.slice (some ⟨g,o,none⟩) (d.length + 1) c) := by
    have f := Box.new w (.mk j x m p (u :: d)) (.slice (some ⟨g,o,none⟩) (d.length + 1) c) 24; have i : free jb v w.heap.size := ⟨by have := k.out.lt; omega,fun e => by have := (k.out.room e).2; omega⟩
    exact ⟨b.kb.cell f.c0 i,b.kb.cell f.c1 i,b.kb.cell f.c2 i,b.kb.cell f.c3 i,b.kb.cell f.c4 i⟩
   obtain ⟨b0,b1,b2,b3,b4⟩ := I; clear z b; go_wp2_with fail; go_at_call 146; refine (uE w0 jb lb ob _ _ y d _ q qv H.out (by simp; omega) G.out (M.out.step A.out)).mono ?_; rintro e B ⟨n,rfl,C,D⟩
   have J : Hid (JS w0 jb lb ob B (l ++ yQ (.mk j x m p (u :: d)) r q) n) := by
    have := C; rw [List.append_assoc] at this
    exact this
   have K : Hid (JK jb v w B n) := A.out.trans D; clear C D; go_wp2_with fail
   go_ret
   exact .inr ⟨by simp [T.subs],n,rfl,J.out,K.out⟩
  ·obtain rfl : c = 1 := by omega
   obtain rfl : d = [] := List.eq_nil_of_length_eq_zero (by omega); have G : Hid (AT w0 [] (.slice (some ⟨g,o,none⟩) 0 0)) := AT.nil _ _ (Nat.zero_le _); clear E X
   go_enter Tryz.func148,Tryz.ntmps148
   go_wp2_with fail; go_at_call 74; refine (vW w0 jb lb ob _ l v u r N rv (k.out.grown (zf (zj w none) _)) (by omega) U.out V.out (L.out.grown (zf (zj w none) _))).mono ?_; rintro e s ⟨y,rfl,z,b⟩; have H := zb z; have A : Hid (JK jb v w s y) := (JK.grown (zf (zj w none) _)).trans b
   have I : Box s w.heap.size (.mk j x m p (u :: [])) (.slice (some ⟨g,o,none⟩) 1 1) := by
    have f := Box.new w (.mk j x m p (u :: [])) (.slice (some ⟨g,o,none⟩) 1 1) 24; have i : free jb v w.heap.size := ⟨by have := k.out.lt; omega,fun e => by have := (k.out.room e).2; omega⟩
    exact ⟨b.kb.cell f.c0 i,b.kb.cell f.c1 i,b.kb.cell f.c2 i,b.kb.cell f.c3 i,b.kb.cell f.c4 i⟩
   obtain ⟨b0,b1,b2,b3,b4⟩ := I; clear z b; go_wp2_with fail; go_at_call 146; refine (uE w0 jb lb ob _ _ y [] _ q qv H.out (by simp; omega) G.out (M.out.step A.out)).mono ?_; rintro e B ⟨n,rfl,C,D⟩
   have J : Hid (JS w0 jb lb ob B (l ++ yQ (.mk j x m p (u :: [])) r q) n) := by
    have := C; rw [List.append_assoc] at this
    exact this
   have K : Hid (JK jb v w B n) := A.out.trans D; clear C D; go_wp2_with fail
   go_ret
   exact .inr ⟨by simp [T.subs],n,rfl,J.out,K.out⟩
def rE (v : Value) : Option (DataW Unit × List MemPlace) := match v with
 | .agg a => match a.toList with
  | [.string s] => some (.lit (.string s.data.toList),[])
  | _ => none
 | _ => none
theorem pW {v : Value} {s : Bs} {ps : List MemPlace} (h : rE v = some (.lit (.string s),ps)) : v = .agg #[.string ⟨s.toArray⟩] := by
 unfold rE at h
 split at h
 ·split at h
  ·rename_i a _ s' e
   simp at h
   obtain ⟨rfl,-⟩ := h
   have : a = #[Value.string s'] := by rw [<- Array.toList_inj,e]
   subst this
   simp
  ·cases h
 ·cases h
def aY : List (Int × Bs) := [(30,[84,82,85,69]),(31,[70,65,76,83,69]),(32,[78,73,76]),(20,[78,69,87]),(21,[79,85,84]),(22,[71,69,84]),(23,[65,83,83,69,82,84])]
def nW : DataW Unit := aY.foldl (fun m p => m.put (.int .i64 p.1) (.lit (.string p.2))) (.map [])
def IsWds (w : World) (b : Nat) : Prop := w.ownsMap Tryz.prog 3 rE b 7 nW
abbrev WT : TypeId := 79
abbrev U8 : TypeId := 5
def jq (w : World) (wb : Nat) : Option Nat := (w.cell? ⟨wb,1,none⟩).bind Value.ownBlock
structure Wr (w0 : World) (wb : Nat) (w : World) (S : Bs) (L : Nat) : Prop where
 gb : w0.grownBy w none
 lo : w0.heap.size <= wb
 st : ∃ p v ob db,(p = .pointer none \/ p = ptr wb) /\ w.heap[wb]? = some (.cells #[p,v,.int .i64 L,.map (some ob),.map (some db)] WT (0,0)) /\ w.ownsRow w0.heap.size U8 1 v S.length (Lib.byteCells S) /\ v.ownBlock ≠ some wb /\ IsOps w ob /\ IsWds w db /\ ob ≠ wb /\ db ≠ wb
structure Fr (wb : Nat) (w : World) (b : Nat) : Prop where
 lt : b < w.heap.size
 ne : b ≠ wb
 row : jq w wb ≠ some b
structure WK (wb : Nat) (w w' : World) : Prop where
 kb : KB (fun k => k ≠ wb /\ jq w wb ≠ some k) w w'
 at' : jq w' wb = jq w wb \/ ∀ b,jq w' wb = some b -> w.heap.size <= b
def WP (w0 : World) (wb : Nat) (w : World) (S : Bs) (L : Nat) (X : Bs) : Ending -> World -> Prop := fun e w' => e = .returned (.tuple #[]) /\ Wr w0 wb w' (S ++ X) L /\ WK wb w w'
section
variable {w0 : World} {wb : Nat} {w w' w1 w2 : World} {S X Y : Bs} {L b : Nat}
theorem Wr.lt (h : Wr w0 wb w S L) : wb < w.heap.size := by
 obtain ⟨_,_,_,_,_,a,_⟩ := h.st
 exact (Array.getElem?_eq_some_iff.1 a).1
theorem nh {p v a c d : Value} {fr : Nat × Nat} (hb : w.heap[wb]? = some (.cells #[p,v,a,c,d] WT fr)) : jq w wb = v.ownBlock := by
 unfold jq
 rw [Lib.cell_of_heap hb]
 rfl
theorem Wr.row (h : Wr w0 wb w S L) {k : Nat} (hk : jq w wb = some k) : w0.heap.size <= k /\ k < w.heap.size := by
 obtain ⟨_,_,_,_,_,d,a,_⟩ := h.st; rw [nh d] at hk
 exact a.lt k hk
theorem WK.refl (wb : Nat) (w : World) : WK wb w w := ⟨KB.refl _ _,.inl rfl⟩
theorem WK.trans (h1 : WK wb w w1) (h2 : WK wb w1 w2) : WK wb w w2 := by
 refine ⟨h1.kb.trans h2.kb (fun k hk hs => ⟨hs.1,fun e => ?_⟩),?_⟩
 ·rcases h1.at' with h | h
  ·exact hs.2 (h ▸ e)
  ·have := h k e
   omega
 ·rcases h2.at' with h | h
  ·rcases h1.at' with a | a
   ·exact .inl (h.trans a)
   ·exact .inr (fun b hb => a b (h ▸ hb))
  ·exact .inr (fun b hb => Nat.le_trans h1.kb.size (h b hb))
theorem gp (hlt : wb < w.heap.size) (hg : w.grownBy w' none) : jq w' wb = jq w wb := by
 unfold jq
 have a := hg.block wb hlt (by simp)
 unfold World.cell?
 rw [a]
theorem WK.grown (h : Wr w0 wb w S L) (hg : w.grownBy w' none) : WK wb w w' := ⟨KB.of hg (fun _ _ => by simp),.inl (gp h.lt hg)⟩
theorem Wr.grown (h : Wr w0 wb w S L) (hg : w.grownBy w' none) : Wr w0 wb w' S L := by
 refine ⟨za h.gb hg,h.lo,?_⟩; obtain ⟨p,v,j,k,l,m,a,d,f,i,n,r⟩ := h.st
 exact ⟨p,v,j,k,l,(hg.block wb h.lt (by simp)).trans m,uS a (fun g hgb => hg.block g (a.lt g hgb).2 (by simp)),d,yc f (hg.block _ (World.ownsMap.lt f) (by simp)),yc i (hg.block _ (World.ownsMap.lt i) (by simp)),n,r⟩
theorem Fr.step (h : Fr wb w b) (hk : WK wb w w') : Fr wb w' b := ⟨Nat.lt_of_lt_of_le h.lt hk.kb.size,h.ne,fun e => by
 rcases hk.at' with h' | h'
 ·exact h.row (h' ▸ e)
 ·have := h' b e
  have := h.lt
  omega⟩
theorem Fr.new (h : Wr w0 wb w S L) (hg : w.grownBy w' none) (hb : w.heap.size <= b) (hlt : b < w'.heap.size) : Fr wb w' b := ⟨hlt,by have := h.lt; omega,fun e => by
 rw [gp h.lt hg] at e; have := (h.row e).2
 omega⟩
theorem WK.cell (h : WK wb w w') {o : Nat} {v : Value} (hf : Fr wb w b) (hc : w.cell? ⟨b,o,none⟩ = some v) : w'.cell? ⟨b,o,none⟩ = some v := h.kb.cell hc ⟨hf.ne,hf.row⟩
structure FB (wb : Nat) (w : World) (b : Nat) (t : T) (sv : Value) : Prop where
 fr : Fr wb w b
 box : Box w b t sv
theorem FB.step {t : T} {sv : Value} (h : FB wb w b t sv) (hk : WK wb w w') : FB wb w' b t sv :=
 ⟨h.fr.step hk,hk.cell h.fr h.box.c0,hk.cell h.fr h.box.c1,hk.cell h.fr h.box.c2,hk.cell h.fr h.box.c3,hk.cell h.fr h.box.c4⟩
theorem FB.new (h : Wr w0 wb w S L) (t : T) (sv : Value) (ty : TypeId) (hg : w.grownBy w1 none) : FB wb (w1.alloc (.cells #[.int .i64 t.kind,.string ⟨t.name.toArray⟩,.int .i64 t.num,.int .i64 t.at',sv] ty)) w1.heap.size t sv :=
 ⟨Fr.new h (zf hg _) hg.size (by simp),Box.new w1 t sv ty⟩
theorem FB.newX (h : Wr w0 wb w S L) (kd : Int) (x : Bs) (m p : Int) (ts : List T) (sv : Value) (ty : TypeId) (hg : w.grownBy w1 none) : FB wb (w1.alloc (.cells #[.int .i64 kd,.string ⟨x.toArray⟩,.int .i64 m,.int .i64 p,sv] ty)) w1.heap.size (.mk kd x m p ts) sv := FB.new h (.mk kd x m p ts) sv ty hg
theorem FB.grown {t : T} {sv : Value} (h : FB wb w b t sv) (hW : Wr w0 wb w S L) (hg : w.grownBy w' none) : FB wb w' b t sv := h.step (WK.grown hW hg)
end
theorem gr {w : World} {row : Option Nat} : w.grownBy w row := zj w row
theorem ga {w : World} {o : Obj} {row : Option Nat} : w.grownBy (w.alloc o) row := zf (zj w row) o
theorem grn {w : World} : w.grownBy w none := zj w none
theorem gan {w : World} {o : Obj} : w.grownBy (w.alloc o) none := zf (zj w none) o
theorem ge {a w w' : World} {row : Option Nat} (h : a.grownBy w row) (e : a.grownBy w row -> a.grownBy w' row := by intro h; repeat (first | with_reducible exact h | with_reducible refine y7 ?_ (by omega) _ _ | with_reducible refine zf ?_ _ | with_reducible refine yl ?_ _ | with_reducible refine ze ?_)) : a.grownBy w' row := e h
theorem la {α : Type} (l m : List α) : (l ++ m).length = l.length + m.length := List.length_append
theorem lc {α : Type} (a : α) (l : List α) : (a :: l).length = l.length + 1 := List.length_cons
theorem ln {α : Type} : ([] : List α).length = 0 := List.length_nil
structure C5 (w : World) (g o : Nat) (k : Int) (x : Bs) (m p : Int) (sv : Value) : Prop where
 c0 : w.cell? ⟨g,o,none⟩ = some (.int .i64 k)
 c1 : w.cell? ⟨g,o + 1,none⟩ = some (.string ⟨x.toArray⟩)
 c2 : w.cell? ⟨g,o + 2,none⟩ = some (.int .i64 m)
 c3 : w.cell? ⟨g,o + 3,none⟩ = some (.int .i64 p)
 c4 : w.cell? ⟨g,o + 4,none⟩ = some sv
structure D5 (w : World) (g : Nat) (k : Int) (x : Bs) (m p : Int) (sv : Value) : Prop where
 c0 : w.cell? ⟨g,0,none⟩ = some (.int .i64 k)
 c1 : w.cell? ⟨g,1,none⟩ = some (.string ⟨x.toArray⟩)
 c2 : w.cell? ⟨g,2,none⟩ = some (.int .i64 m)
 c3 : w.cell? ⟨g,3,none⟩ = some (.int .i64 p)
 c4 : w.cell? ⟨g,4,none⟩ = some sv
theorem Node5.q {w : World} {g o : Nat} {k : Int} {x : Bs} {m p : Int} {l : List T} {sv : Value} (h : Node5 w g o (.mk k x m p l) sv) : C5 w g o k x m p sv := ⟨h.c0,h.c1,h.c2,h.c3,h.c4⟩
theorem Box.q {w : World} {b : Nat} {k : Int} {x : Bs} {m p : Int} {l : List T} {sv : Value} (h : Box w b (.mk k x m p l) sv) : D5 w b k x m p sv := ⟨h.c0,h.c1,h.c2,h.c3,h.c4⟩
section
variable {wb : Nat} {w0 w w1 w2 : World} {S : Bs} {L b : Nat} {t : T} {sv : Value}
theorem km (K : Hid (WK wb w w1)) (W : Hid (Wr w0 wb w1 S L)) (k : WK wb w1 w2) : Hid (WK wb w w2) := K.trans ((WK.grown W (zj _ none)).trans k)
theorem bm (B : Hid (FB wb w1 b t sv)) (W : Hid (Wr w0 wb w1 S L)) (k : WK wb w1 w2) : Hid (FB wb w2 b t sv) := B.step ((WK.grown W (zj _ none)).trans k)
end
section
variable {P : Program} {ops : Array Oper} {Q : Exit -> Act -> World -> Prop} {md : Region.Mode} {oi : Oper} {fuel : Nat} {listed : Array Bool} {a : Act} {w : World}
theorem nt (i : Nat) (hi : ops[i]? = some oi) (h : wpAny P md ops Q fuel (listed.setIfInBounds i true) (a.put oi.dst undef) w) (hs : Region.noSelect ops = true := by kernel_rfl) (hf : Region.free md ops listed i = true := by kernel_rfl) (hr : (Region.ready md ops listed).contains i = true := by kernel_rfl)
  (hQ : ∀ c a w,Q (.panic c) (a.put oi.dst undef) w -> Q (.panic c) a w := by exact fun _ _ _ h => h) (hw : Region.wanted oi (yielded ops a.tmps) = false := by kernel_rfl) : wpAny P md ops Q (fuel + 1) listed a w := wpAny_take (v := undef) hi hs hf hr hQ (Or.inr ⟨hw,rfl⟩) h
end
def uy (t : T) (sv : Value) : List Value := [.int .i64 t.kind,.string ⟨t.name.toArray⟩,.int .i64 t.num,.int .i64 t.at',sv]
def xg : List T -> List Value -> List Value
 | t :: ts,sv :: svs => uy t sv ++ xg ts svs
 | _,_ => []
theorem yH : ∀ (ts : List T) (svs : List Value),svs.length = ts.length -> (xg ts svs).length = ts.length * 5
 | [],[],_ => rfl
 | t :: ts,sv :: svs,h => by
  have ih := yH ts svs (by simpa using h); simp only [xg,List.length_append,ih,uy,List.length_cons,List.length_nil]
  omega
theorem vj : ∀ (ts : List T) (svs : List Value) (us : List T) (uvs : List Value),svs.length = ts.length -> xg (ts ++ us) (svs ++ uvs) = xg ts svs ++ xg us uvs
 | [],[],_,_,_ => rfl
 | t :: ts,sv :: svs,us,uvs,h => by
  have ih := vj ts svs us uvs (by simpa using h); simp only [xg,List.cons_append,ih,List.append_assoc]
inductive LR (w : World) : (Nat -> Prop) -> List T -> Value -> Prop
 | mk (S : Nat -> Prop) (ts : List T) (v : Value) (svs : List Value) (hl : svs.length = ts.length) (own : w.ownsRow 0 24 5 v ts.length (xg ts svs))
   (inS : ∀ b,v.ownBlock = some b -> S b)
   (sub : ∀ (i : Nat) (t : T) (sv : Value),ts[i]? = some t -> svs[i]? = some sv -> LR w (fun k => S k /\ v.ownBlock ≠ some k) t.subs sv) : LR w S ts v
def In (lo hi : Nat) : Nat -> Prop := fun k => lo <= k /\ k < hi
theorem LR.nil (w : World) (S : Nat -> Prop) : LR w S [] (.slice none 0 0) :=
 .mk S [] _ [] rfl (World.ownsRow_nil _ _ _ _) (by intro b hb; cases hb) (by intro i t sv h; simp at h)
theorem LR.kept {w w' : World} {S : Nat -> Prop} {ts : List T} {v : Value} {row : Option Nat} (h : LR w S ts v) (hg : w.grownBy w' row) (hr : ∀ b,row = some b -> ¬ S b) : LR w' S ts v := by
 induction h with
 | mk S ts v svs hl own inS sub ih =>
  refine .mk S ts v svs hl (own.kept hg ?_) inS (fun i t sv h1 h2 => ih i t sv h1 h2 (fun b hb hs => hr b hb hs.1)); cases a : v.ownBlock with
  | none => exact .inl rfl
  | some b => exact .inr (fun e => hr b e.symm (inS b a))
theorem LR.mono {w : World} {S S' : Nat -> Prop} {ts : List T} {v : Value} (h : LR w S ts v) (hs : ∀ k,S k -> S' k) : LR w S' ts v := by
 induction h generalizing S' with
 | mk S ts v svs hl own inS sub ih =>
  exact .mk S' ts v svs hl own (fun b hb => hs b (inS b hb)) (fun i t sv h1 h2 => ih i t sv h1 h2 (fun k hk => ⟨hs k hk.1,hk.2⟩))
theorem LR.bounded {w : World} {S : Nat -> Prop} {ts : List T} {v : Value} (h : LR w S ts v) : LR w (fun k => S k /\ k < w.heap.size) ts v := by
 induction h with
 | mk S ts v svs hl own inS sub ih =>
  exact .mk _ ts v svs hl own (fun b hb => ⟨inS b hb,(own.lt b hb).2⟩) (fun i t sv h1 h2 => (ih i t sv h1 h2).mono (fun k hk => ⟨⟨hk.1.1,hk.2⟩,hk.1.2⟩))
theorem LR.own {w : World} {S : Nat -> Prop} {ts : List T} {v : Value} (h : LR w S ts v) : ∃ svs,svs.length = ts.length /\ w.ownsRow 0 24 5 v ts.length (xg ts svs) /\ (∀ b,v.ownBlock = some b -> S b) /\
  ∀ (i : Nat) (t : T) (sv : Value),ts[i]? = some t -> svs[i]? = some sv -> LR w (fun k => S k /\ v.ownBlock ≠ some k) t.subs sv := by
 cases h with
 | mk _ _ _ svs hl own inS sub => exact ⟨svs,hl,own,inS,sub⟩
theorem LR.form {w : World} {S : Nat -> Prop} {ts : List T} {v : Value} (h : LR w S ts v) : ∃ a c,v = .slice a ts.length c := by
 obtain ⟨_,_,own,_⟩ := h.own
 rcases own.2 with ⟨rfl,d⟩ | ⟨g,f,i,rfl,_⟩
 ·exact ⟨none,0,by rw [d]⟩
 ·exact ⟨_,_,rfl⟩
def TR (w : World) (lo hi : Nat) (t : T) (v : Value) : Prop := ∃ sv,v = .agg #[.int .i64 t.kind,.string ⟨t.name.toArray⟩,.int .i64 t.num,.int .i64 t.at',sv] /\ LR w (In lo hi) t.subs sv
section
variable {w w' : World} {lo hi lo' hi' b n : Nat} {t : T} {ts : List T} {v : Value}
theorem LR.call (h : LR w (In lo hi) ts v) (hg : w.grownBy w' (some b)) (hb : b < lo \/ hi <= b) : LR w' (In lo hi) ts v :=
 h.kept hg (fun k hk hs => by cases hk; have h1 : lo <= b := hs.1; have h2 : b < hi := hs.2; omega)
theorem LR.put (h : LR w (In lo hi) ts v) (hb : b < lo \/ hi <= b) (o : Nat) (u : Value) : LR (w.setCell ⟨b,o,none⟩ u) (In lo hi) ts v := h.call (z6 gr o u) hb
theorem LR.alloc (h : LR w (In lo hi) ts v) (o : Obj) : LR (w.alloc o) (In lo hi) ts v := h.kept (World.grownBy_alloc w o none) (fun _ hk => by cases hk)
theorem LR.drewN (h : LR w (In lo hi) ts v) (n : Nat) : LR (w.drewN n) (In lo hi) ts v := h.kept (yl grn n) (fun _ hk => by cases hk)
theorem LR.grown (h : LR w (In lo hi) ts v) (hg : w.grownBy w' none) : LR w' (In lo hi) ts v := h.kept hg (fun _ hk => by cases hk)
theorem LR.wide (h : LR w (In lo hi) ts v) (h1 : lo' <= lo) (h2 : hi <= hi') : LR w (In lo' hi') ts v := h.mono (fun k hk => by have h3 : lo <= k := hk.1; have h4 : k < hi := hk.2; exact ⟨by omega,by omega⟩)
theorem TR.call (h : TR w lo hi t v) (hg : w.grownBy w' (some b)) (hb : b < lo \/ hi <= b) : TR w' lo hi t v := by
 obtain ⟨a,rfl,h⟩ := h
 exact ⟨a,rfl,h.call hg hb⟩
theorem TR.grown (h : TR w lo hi t v) (hg : w.grownBy w' none) : TR w' lo hi t v := by
 obtain ⟨a,rfl,h⟩ := h
 exact ⟨a,rfl,h.grown hg⟩
theorem TR.alloc (h : TR w lo hi t v) (o : Obj) : TR (w.alloc o) lo hi t v := h.grown (World.grownBy_alloc w o none)
theorem TR.drewN (h : TR w lo hi t v) (n : Nat) : TR (w.drewN n) lo hi t v := h.grown (yl grn n)
theorem TR.wide (h : TR w lo hi t v) (h1 : lo' <= lo) (h2 : hi <= hi') : TR w lo' hi' t v := by
 obtain ⟨a,rfl,h⟩ := h
 exact ⟨a,rfl,h.wide h1 h2⟩
theorem LR.build (w : World) {cs : Array Value} {svs : List Value} {g n : Nat} (hg : g = w.heap.size) (hn : n = ts.length) (hc : cs.toList = xg ts svs) (hl : svs.length = ts.length) (hlen : ts.length <= 5000) (hlo : lo <= g)
  (hs : ∀ (i : Nat) (t : T) (sv : Value),ts[i]? = some t -> svs[i]? = some sv -> LR w (In lo g) t.subs sv) : LR (w.alloc (.cells cs 24)) (In lo (g + 1)) ts (.slice (some ⟨g,0,none⟩) n n) := by
 subst hg hn
 have a : cs.size = ts.length * 5 := by rw [<- Array.length_toList,hc,yH _ _ hl]
 refine .mk _ _ _ svs hl ⟨yH _ _ hl,.inr ⟨w.heap.size,ts.length,cs,rfl,Nat.zero_le _,heap_alloc_new w _,Nat.le_refl _,by unfold maxLen; omega,a,?_⟩⟩ (fun b hb => ?_) (fun i t sv h1 h2 => ?_)
 ·rw [hc,<- yH _ _ hl,List.take_length]
 ·cases hb
  exact ⟨hlo,Nat.lt_succ_self _⟩
 ·refine ((hs i t sv h1 h2).alloc _).mono (fun k hk => ⟨⟨hk.1,Nat.lt_succ_of_lt hk.2⟩,fun e => ?_⟩)
  have d : k < w.heap.size := hk.2
  simp [Value.ownBlock] at e
  omega
theorem LR.build1 (w : World) {t : T} {sv : Value} {g : Nat} {cs : Array Value} (h : LR w (In lo g) t.subs sv) (hg : g = w.heap.size) (hc : cs.toList = uy t sv) (hlo : lo <= g) :
  LR (w.alloc (.cells cs 24)) (In lo (g + 1)) [t] (.slice (some ⟨g,0,none⟩) 1 1) :=
 LR.build w (svs := [sv]) hg rfl hc rfl (by simp) hlo (fun i t' sv' h1 h2 => by
  match i,h1,h2 with
  | 0,h1,h2 => cases h1; cases h2; exact h)
theorem LR.append {us : List T} {v' : Value} {svs uvs : List Value} {row : Option Nat} {l2 : Nat}
  (h : ∀ b,v.ownBlock = some b -> In lo hi b) (hl : svs.length = ts.length)
  (hs : ∀ (i : Nat) (t : T) (sv : Value),ts[i]? = some t -> svs[i]? = some sv -> LR w (fun k => In lo hi k /\ v.ownBlock ≠ some k) t.subs sv)
  (hu : uvs.length = us.length) (hus : ∀ (i : Nat) (t : T) (sv : Value),us[i]? = some t -> uvs[i]? = some sv -> LR w (In l2 hi') t.subs sv)
  (h2 : lo <= l2) (h3 : hi <= l2) (h5 : l2 <= w.heap.size) (h4 : hi' <= w.heap.size) (hw : w.heap.size <= n) (hw2 : ∀ b,v'.ownBlock = some b -> b < n)
  (own : w'.ownsRow 0 24 5 v' (ts.length + us.length) (xg ts svs ++ xg us uvs)) (hg : w.grownBy w' row) (hrow : row = v.ownBlock)
  (hat : v'.ownBlock = v.ownBlock \/ v'.ownBlock = some w.heap.size) : LR w' (In lo n) (ts ++ us) v' := by
 subst hrow
 have d : ∀ (l : List T) (sv : Value),LR w (fun k => In lo w.heap.size k /\ v.ownBlock ≠ some k) l sv -> LR w' (fun k => In lo n k /\ v'.ownBlock ≠ some k) l sv := by
  intro l sv f; refine (f.kept hg (fun b hb hs' => hs'.2 hb)).mono (fun k hk => ⟨⟨hk.1.1,Nat.lt_of_lt_of_le hk.1.2 hw⟩,fun e => ?_⟩)
  rcases hat with hat | hat
  ·exact hk.2 (hat ▸ e)
  ·have a : k < w.heap.size := hk.1.2
   rw [hat] at e; cases e
   omega
 refine .mk _ _ _ (svs ++ uvs) (by simp [hl,hu]) (by rw [vj _ _ _ _ hl,List.length_append]; exact own) (fun b hb => ?_) (fun i t sv h1 h2' => d _ _ ?_)
 ·rcases hat with hat | hat
  ·have a := h b (hat ▸ hb)
   exact ⟨a.1,hw2 b hb⟩
  ·have a := hw2 b hb
   rw [hat] at hb; cases hb
   exact ⟨by omega,a⟩
 ·rcases Nat.lt_or_ge i ts.length with hi' | hi'
  ·rw [List.getElem?_append_left hi'] at h1
   rw [List.getElem?_append_left (by omega)] at h2'
   exact (hs i t sv h1 h2').mono (fun k hk => ⟨⟨hk.1.1,by have g : k < hi := hk.1.2; omega⟩,hk.2⟩)
  ·rw [List.getElem?_append_right hi'] at h1
   rw [List.getElem?_append_right (by omega),hl] at h2'; refine (hus _ t sv h1 h2').mono (fun k hk => ⟨⟨Nat.le_trans h2 hk.1,Nat.lt_of_lt_of_le hk.2 h4⟩,fun e => ?_⟩); have a := (h k e).2; have g : l2 <= k := hk.1
   omega
end
def put5 (w : World) (b : Nat) (v0 v1 v2 v3 v4 : Value) : World := ((((w.setCell ⟨b,0,none⟩ v0).setCell ⟨b,1,none⟩ v1).setCell ⟨b,2,none⟩ v2).setCell ⟨b,3,none⟩ v3).setCell ⟨b,4,none⟩ v4
theorem rC {a w : World} {row : Option Nat} {b : Nat} (h : a.grownBy w row) (hb : a.heap.size <= b) (v0 v1 v2 v3 v4 : Value) : a.grownBy (put5 w b v0 v1 v2 v3 v4) row :=
 y7 (y7 (y7 (y7 (y7 h hb _ _) hb _ _) hb _ _) hb _ _) hb _ _
structure NB (w : World) (b : Nat) (v0 v1 v2 v3 v4 : Value) : Prop where
 c0 : w.cell? ⟨b,0,none⟩ = some v0
 c1 : w.cell? ⟨b,1,none⟩ = some v1
 c2 : w.cell? ⟨b,2,none⟩ = some v2
 c3 : w.cell? ⟨b,3,none⟩ = some v3
 c4 : w.cell? ⟨b,4,none⟩ = some v4
 z : ∀ o,w.frozen? ⟨b,o,none⟩ = false
section
variable {w w' : World} {b b' : Nat} {v0 v1 v2 v3 v4 u0 u1 u2 u3 u4 : Value}
theorem NB.lt (h : NB w b v0 v1 v2 v3 v4) : b < w.heap.size := zc h.c0
theorem NB.kept {row : Option Nat} (h : NB w b v0 v1 v2 v3 v4) (hg : w.grownBy w' row) (hr : some b ≠ row) : NB w' b v0 v1 v2 v3 v4 :=
 ⟨zO hg h.c0 hr,zO hg h.c1 hr,zO hg h.c2 hr,zO hg h.c3 hr,zO hg h.c4 hr,fun o => yx hg h.lt (h.z o) hr⟩
theorem NB.new (w : World) (t : TypeId) : NB (w.alloc (.cells #[v0,v1,v2,v3,v4] t)) w.heap.size v0 v1 v2 v3 v4 :=
 ⟨by rw [World.cell?_alloc_at _ _ _ _ rfl]; rfl,by rw [World.cell?_alloc_at _ _ _ _ rfl]; rfl,by rw [World.cell?_alloc_at _ _ _ _ rfl]; rfl,by rw [World.cell?_alloc_at _ _ _ _ rfl]; rfl,by rw [World.cell?_alloc_at _ _ _ _ rfl]; rfl,fun o => World.frozen?_alloc_at _ _ _ _ rfl⟩
theorem NB.new' {b : Nat} {t : TypeId} (hb : b = w.heap.size) : NB (w.alloc (.cells #[v0,v1,v2,v3,v4] t)) b v0 v1 v2 v3 v4 := by
 subst hb
 exact NB.new w t
theorem NB.alloc (h : NB w b v0 v1 v2 v3 v4) (o : Obj) : NB (w.alloc o) b v0 v1 v2 v3 v4 := h.kept (World.grownBy_alloc w o none) (by simp)
theorem NB.drewN (h : NB w b v0 v1 v2 v3 v4) (n : Nat) : NB (w.drewN n) b v0 v1 v2 v3 v4 := h.kept (yl grn n) (by simp)
theorem NB.far (h : NB w b v0 v1 v2 v3 v4) (hb : b' ≠ b) (o : Nat) (v : Value) : NB (w.setCell ⟨b',o,none⟩ v) b v0 v1 v2 v3 v4 := h.kept (z6 (zj w (some b')) o v) (by simp; omega)
theorem NB.put (h : NB w b v0 v1 v2 v3 v4) (o : Nat) (v : Value) : NB (w.setCell ⟨b,o,none⟩ v) b (if o = 0 then v else v0) (if o = 1 then v else v1) (if o = 2 then v else v2) (if o = 3 then v else v3) (if o = 4 then v else v4) := by
 have a : ∀ k u,w.cell? ⟨b,k,none⟩ = some u -> (w.setCell ⟨b,o,none⟩ v).cell? ⟨b,k,none⟩ = some (if o = k then v else u) := by
  intro k u d
  by_cases e : o = k
  ·subst e
   rw [if_pos rfl]
   exact World.cell?_setCell_same _ _ _ d
  ·rw [if_neg e,World.cell?_setCell_other _ _ _ _ (by simp)]
   exact d
 exact ⟨a 0 _ h.c0,a 1 _ h.c1,a 2 _ h.c2,a 3 _ h.c3,a 4 _ h.c4,fun o => by rw [World.frozen?_setCell]; exact h.z o⟩
theorem NB.s0 (h : NB w b v0 v1 v2 v3 v4) (u : Value) : NB (w.setCell ⟨b,0,none⟩ u) b u v1 v2 v3 v4 := h.put 0 u
theorem NB.s1 (h : NB w b v0 v1 v2 v3 v4) (u : Value) : NB (w.setCell ⟨b,1,none⟩ u) b v0 u v2 v3 v4 := h.put 1 u
theorem NB.s2 (h : NB w b v0 v1 v2 v3 v4) (u : Value) : NB (w.setCell ⟨b,2,none⟩ u) b v0 v1 u v3 v4 := h.put 2 u
theorem NB.s4 (h : NB w b v0 v1 v2 v3 v4) (u : Value) : NB (w.setCell ⟨b,4,none⟩ u) b v0 v1 v2 v3 u := h.put 4 u
theorem NB.put5 (h : NB w b v0 v1 v2 v3 v4) : NB (put5 w b u0 u1 u2 u3 u4) b u0 u1 u2 u3 u4 := ((((h.put 0 u0).put 1 u1).put 2 u2).put 3 u3).put 4 u4
def RB (w : World) (b : Nat) : Prop := ∃ v0 v1 v2 v3 v4,NB w b v0 v1 v2 v3 v4
theorem NB.rb (h : NB w b v0 v1 v2 v3 v4) : RB w b := ⟨_,_,_,_,_,h⟩
theorem RB.new (w : World) (t : TypeId) : RB (w.alloc (.cells #[v0,v1,v2,v3,v4] t)) w.heap.size := (NB.new w t).rb
theorem RB.new' {b : Nat} {t : TypeId} (hb : b = w.heap.size) : RB (w.alloc (.cells #[v0,v1,v2,v3,v4] t)) b := (NB.new' hb).rb
theorem RB.kept {row : Option Nat} (h : RB w b) (hg : w.grownBy w' row) (hr : some b ≠ row) : RB w' b := by
 obtain ⟨_,_,_,_,_,h⟩ := h
 exact (h.kept hg hr).rb
theorem RB.lt (h : RB w b) : b < w.heap.size := by
 obtain ⟨_,_,_,_,_,h⟩ := h
 exact h.lt
theorem RB.alloc (h : RB w b) (o : Obj) : RB (w.alloc o) b := h.kept (World.grownBy_alloc w o none) (by simp)
theorem RB.drewN (h : RB w b) (n : Nat) : RB (w.drewN n) b := h.kept (yl grn n) (by simp)
theorem RB.put (h : RB w b) (b' o : Nat) (v : Value) : RB (w.setCell ⟨b',o,none⟩ v) b := by
 obtain ⟨_,_,_,_,_,h⟩ := h
 by_cases e : b' = b
 ·subst e
  exact (h.put o v).rb
 ·exact (h.far e o v).rb
theorem RB.five (h : RB w b) : NB (((((w.setCell ⟨b,0,none⟩ u0).setCell ⟨b,1,none⟩ u1).setCell ⟨b,2,none⟩ u2).setCell ⟨b,3,none⟩ u3).setCell ⟨b,4,none⟩ u4) b u0 u1 u2 u3 u4 := by
 obtain ⟨_,_,_,_,_,h⟩ := h
 exact h.put5
theorem NB.drew (h : NB w b v0 v1 v2 v3 v4) : NB w.drew b v0 v1 v2 v3 v4 := h.drewN 1
theorem RB.drew (h : RB w b) : RB w.drew b := h.drewN 1
theorem LR.drew {lo hi : Nat} {ts : List T} {v : Value} (h : LR w (In lo hi) ts v) : LR w.drew (In lo hi) ts v := h.drewN 1
theorem fD {fn : Func} {p : Tmp} (h : fn.results = #[.cell p 24]) {tmps : Array Value} (hp : tmps[p]?.getD undef = .pointer (some ⟨b,0,none⟩)) (hn : NB w b v0 v1 v2 v3 v4) :
  (results fn tmps).run Tryz.prog w = .ok (.agg #[v0,v1,v2,v3,v4]) w := by
 simp [results,h,hp,go_sem,hn.c0,hn.c1,hn.c2,hn.c3,hn.c4]
theorem zP {fn : Func} {p : Tmp} {R : Ending -> World -> Prop} {a : Act} (h : fn.results = #[.cell p 24]) (hp : a.tmps[p]?.getD undef = .pointer (some ⟨b,0,none⟩)) (hn : NB w b v0 v1 v2 v3 v4) (hd : a.defers = [])
  (hR : R (.returned (.agg #[v0,v1,v2,v3,v4])) w) : bodyPost Tryz.prog fn R .ret a w := bodyPost_ret (fD h hp hn) hd hR
end
theorem Tryz.infoNode : (Tryz.prog.info? 24).map (fun i => (i.zero,i.size,i.bytes)) = some (some (.agg #[.int .i64 0,.string ⟨#[]⟩,.int .i64 0,.int .i64 0,.slice none 0 0]),5,64) := by kernel_rfl
theorem LR.rows {w : World} {lo hi : Nat} {ts : List T} {v : Value} (h : LR w (In lo hi) ts v) : ∀ b,v.ownBlock = some b -> lo <= b /\ b < hi := by
 obtain ⟨_,_,_,h,_⟩ := h.own
 exact h
theorem ju : ∀ (ts : List T) (svs : List Value),svs.length = ts.length -> (∀ (i : Nat) (t : T) (sv : Value),ts[i]? = some t -> svs[i]? = some sv -> ∃ a c,sv = .slice a t.subs.length c) -> ∀ u ∈ xg ts svs,u.oneCell' = true
 | [],[],_,_,u,hu => by cases hu
 | t :: ts,sv :: svs,hl,hs,u,hu => by
  rcases List.mem_append.1 hu with h | h
  ·obtain ⟨a,c,rfl⟩ := hs 0 t sv rfl rfl
   simp only [uy,List.mem_cons,List.not_mem_nil,or_false] at h
   rcases h with rfl | rfl | rfl | rfl | rfl <;> rfl
  ·exact ju ts svs (by simpa using hl) (fun i t' sv' h1 h2 => hs (i + 1) t' sv' (by simpa using h1) (by simpa using h2)) u h
theorem vf {ops : Array Oper} {rest : List Oper} {o : Oper} {a : Act} {w : World} {Q : Exit -> Act -> World -> Prop} (hgd : o.guard = none) (s x : Operand)
  (ho : o.op = .call { callee := .builtin .append,args := #[s,x],argTypes := #[22,22] })
  {lo hi l2 hi2 g m c : Nat} {ts us : List T} {v : Value} (hs : a.eval s = v) (hx : a.eval x = .slice (some ⟨g,0,none⟩) m c) (hl : LR w (In lo hi) ts v) (hu : LR w (In l2 hi2) us (.slice (some ⟨g,0,none⟩) m c))
  (h1 : lo <= l2) (h2 : hi <= l2) (h3 : l2 <= w.heap.size) (h4 : hi2 <= w.heap.size) (hlen : ts.length + us.length <= 20000)
  (k : ∀ v' w',LR w' (In lo w'.heap.size) (ts ++ us) v' -> w.grownBy w' v.ownBlock -> wpList Tryz.prog ops Q rest (a.put o.dst v') w') : wpList Tryz.prog ops Q (o :: rest) a w := by
 obtain ⟨H,r,y,z,A⟩ := info_parts Tryz.infoNode; obtain ⟨svs,B,own,C,l⟩ := hl.own; obtain ⟨uvs,j,d,_,f⟩ := hu.own
 have I : m = us.length := by
  rcases d.2 with ⟨D,_⟩ | ⟨_,_,_,D,_⟩
  ·cases D
  ·cases D; rfl
 subst I; refine wpList_append_own_at w hgd s x 22 ho 0 24 H _ 5 64 Tryz.underlying22 r y z A rfl (by decide) v ts.length (xg ts svs) hs own ⟨g,0,none⟩ us.length c (xg us uvs) hx
  (yH _ _ j) (d.cells rfl) ?_ (by unfold maxLen; omega) (by omega) (Nat.zero_le _) ?_
 ·intro u E
  exact ju us uvs j (fun i t sv ht hsv => (f i t sv ht hsv).form) u E
 ·intro v' w' h F _ G
  refine k v' w' (LR.append C B l j (fun i t sv ht hsv => (f i t sv ht hsv).mono (fun k hk => hk.1)) h1 h2 h3 h4 F.size (fun b hb => (h.lt b hb).2) h F rfl G) F
section
variable {w w' : World} {S S2 S' : Nat -> Prop} {ts us : List T} {v v' : Value} {svs uvs : List Value} {row : Option Nat}
theorem LR.appendS (h : ∀ b,v.ownBlock = some b -> S b) (hl : svs.length = ts.length)
  (hs : ∀ (i : Nat) (t : T) (sv : Value),ts[i]? = some t -> svs[i]? = some sv -> LR w (fun k => S k /\ v.ownBlock ≠ some k) t.subs sv)
  (hu : uvs.length = us.length) (hus : ∀ (i : Nat) (t : T) (sv : Value),us[i]? = some t -> uvs[i]? = some sv -> LR w S2 t.subs sv)
  (hd : ∀ k,S2 k -> v.ownBlock ≠ some k) (h1 : ∀ k,S k -> S' k) (h2 : ∀ k,S2 k -> S' k) (h3 : S' w.heap.size)
  (own : w'.ownsRow 0 24 5 v' (ts.length + us.length) (xg ts svs ++ xg us uvs)) (hg : w.grownBy w' row) (hrow : row = v.ownBlock)
  (hat : v'.ownBlock = v.ownBlock \/ v'.ownBlock = some w.heap.size) : LR w' S' (ts ++ us) v' := by
 subst hrow
 have a : ∀ (l : List T) (sv : Value),LR w (fun k => S' k /\ v.ownBlock ≠ some k) l sv -> LR w' (fun k => S' k /\ v'.ownBlock ≠ some k) l sv := by
  intro l sv d; refine (d.bounded.kept hg (fun b hb hs' => hs'.1.2 hb)).mono (fun k hk => ⟨hk.1.1,fun e => ?_⟩)
  rcases hat with hat | hat
  ·exact hk.1.2 (hat ▸ e)
  ·have f := hk.2
   rw [hat] at e; cases e
   omega
 refine .mk _ _ _ (svs ++ uvs) (by simp [hl,hu]) (by rw [vj _ _ _ _ hl,List.length_append]; exact own) (fun b hb => ?_) (fun i t sv h1' h2' => a _ _ ?_)
 ·rcases hat with hat | hat
  ·exact h1 b (h b (hat ▸ hb))
  ·rw [hat] at hb
   cases hb
   exact h3
 ·rcases Nat.lt_or_ge i ts.length with hi' | hi'
  ·rw [List.getElem?_append_left hi'] at h1'
   rw [List.getElem?_append_left (by omega)] at h2'
   exact (hs i t sv h1' h2').mono (fun k hk => ⟨h1 k hk.1,hk.2⟩)
  ·rw [List.getElem?_append_right hi'] at h1'
   rw [List.getElem?_append_right (by omega),hl] at h2'
   exact (hus _ t sv h1' h2').mono (fun k hk => ⟨h2 k hk,hd k hk⟩)
end
theorem jP {ops : Array Oper} {o : Oper} {a : Act} {w : World} {K : Act -> World -> Prop} {Q : Exit -> Act -> World -> Prop} {E : Prop} (hgd : o.guard = none) (s x : Operand)
  (ho : o.op = .call { callee := .builtin .append,args := #[s,x],argTypes := #[22,22] })
  {S S2 : Nat -> Prop} (S' : Nat -> Prop) {g m c : Nat} {ts us : List T} {v : Value} (hs : a.eval s = v) (hx : a.eval x = .slice (some ⟨g,0,none⟩) m c) (hl : LR w S ts v) (hu : LR w S2 us (.slice (some ⟨g,0,none⟩) m c))
  (hd : ∀ k,S2 k -> v.ownBlock ≠ some k) (h1 : ∀ k,S k -> S' k) (h2 : ∀ k,S2 k -> S' k) (h3 : S' w.heap.size) (hlen : ts.length + us.length <= 20000)
  (k : ∀ v' w',LR w' S' (ts ++ us) v' -> w.grownBy w' v.ownBlock -> K (a.put o.dst v') w') :
  if Region.wanted o (yielded ops a.tmps) = true then Oper.wp Tryz.prog o a w K Q else E := by
 have H : Region.wanted o (yielded ops a.tmps) = true := by simp [Region.wanted,hgd]
 rw [if_pos H]; obtain ⟨I,r,y,z,A⟩ := info_parts Tryz.infoNode; obtain ⟨svs,B,own,C,j⟩ := hl.own; obtain ⟨uvs,h,d,_,f⟩ := hu.own
 have J : m = us.length := by
  rcases d.2 with ⟨D,_⟩ | ⟨_,_,_,D,_⟩
  ·cases D
  ·cases D; rfl
 subst J; obtain ⟨v',w',L,l,G,_,F⟩ := run_append_own_at (P := Tryz.prog) w 0 22 o.type 24 I _ 5 64 Tryz.underlying22 r y z A rfl (by decide) v ts.length (xg ts svs) own ⟨g,0,none⟩ us.length c (xg us uvs)
  (yH _ _ h) (d.cells rfl) (fun u hu' => ju us uvs h (fun i t sv ht hsv => (f i t sv ht hsv).form) u hu') (by unfold maxLen; omega) (by omega) (Nat.zero_le _)
 unfold Oper.wp execOp
 simp only [ho,resolve,invoke,builtin,Sem.run_bind,Sem.run_pure,Result.andThen_ok,List.map_toArray,List.map_cons,List.map_nil,hs,hx,L]
 exact k v' w' (LR.appendS C B j h (fun i t sv ht hsv => (f i t sv ht hsv).mono (fun k hk => hk.1)) hd h1 h2 h3 l G rfl F) G
theorem fO {ops : Array Oper} {o : Oper} {a : Act} {w : World} {K : Act -> World -> Prop} {Q : Exit -> Act -> World -> Prop} {E : Prop} (hgd : o.guard = none) (s x : Operand)
  (ho : o.op = .call { callee := .builtin .append,args := #[s,x],argTypes := #[22,22] })
  {g n c : Nat} (hs : a.eval s = .slice (some ⟨g,0,none⟩) n c) (hx : a.eval x = .slice none 0 0) (hn : n <= c)
  (k : K (a.put o.dst (.slice (some ⟨g,0,none⟩) n c)) w) :
  if Region.wanted o (yielded ops a.tmps) = true then Oper.wp Tryz.prog o a w K Q else E := by
 have f : Region.wanted o (yielded ops a.tmps) = true := by simp [Region.wanted,hgd]
 rw [if_pos f]; obtain ⟨_,d,_,_,_⟩ := info_parts Tryz.infoNode
 have h : (Builtin.append_ #[22,22] o.type #[.slice (some ⟨g,0,none⟩) n c,.slice none 0 0]).run Tryz.prog w = .ok (.slice (some ⟨g,0,none⟩) n c) w := by
  simp [Builtin.append_,run_underlying Tryz.underlying22,sizeOf,typeInfo,d,Builtin.lenOf,Builtin.firstCells,loadCells,hn]
  rfl
 unfold Oper.wp execOp
 simp only [ho,resolve,invoke,builtin,Sem.run_bind,Sem.run_pure,Result.andThen_ok,List.map_toArray,List.map_cons,List.map_nil,hs,hx,h]
 exact k
theorem te {ops : Array Oper} {o : Oper} {a : Act} {w : World} {K : Act -> World -> Prop} {Q : Exit -> Act -> World -> Prop} {E : Prop} (hgd : o.guard = none) (s x : Operand)
  (ho : o.op = .call { callee := .builtin .append,args := #[s,x],argTypes := #[22,22] })
  {S S2 : Nat -> Prop} (S' : Nat -> Prop) {ts us : List T} {v u : Value} (hs : a.eval s = v) (hx : a.eval x = u) (hl : LR w S ts v) (hu : LR w S2 us u)
  (hd : ∀ k,S2 k -> v.ownBlock ≠ some k) (h1 : ∀ k,S k -> S' k) (h2 : ∀ k,S2 k -> S' k) (h3 : S' w.heap.size) (hlen : ts.length + us.length <= 20000)
  (k : ∀ v' w',LR w' S' (ts ++ us) v' -> w.grownBy w' v.ownBlock -> K (a.put o.dst v') w') :
  if Region.wanted o (yielded ops a.tmps) = true then Oper.wp Tryz.prog o a w K Q else E := by
 obtain ⟨_,_,d,_,_⟩ := hu.own
 rcases d.2 with ⟨rfl,r⟩ | ⟨g,f,h,rfl,_⟩
 ·have i : us = [] := List.eq_nil_of_length_eq_zero r
  subst i; have m := k v w (by rw [List.append_nil]; exact hl.mono h1) (zj _ _)
  have y : Region.wanted o (yielded ops a.tmps) = true := by simp [Region.wanted,hgd]
  obtain ⟨_,_,own,_,_⟩ := hl.own
  rcases own.2 with ⟨rfl,z⟩ | ⟨g,f,h,rfl,_,_,j,_⟩
  ·rw [if_pos y]
   obtain ⟨_,l,_,_,_⟩ := info_parts Tryz.infoNode
   have A : (Builtin.append_ #[22,22] o.type #[.slice none 0 0,.slice none 0 0]).run Tryz.prog w = .ok (.slice none 0 0) w := by
    simp [Builtin.append_,run_underlying Tryz.underlying22,sizeOf,typeInfo,l,Builtin.lenOf,Builtin.firstCells]
   unfold Oper.wp execOp
   simp only [ho,resolve,invoke,builtin,Sem.run_bind,Sem.run_pure,Result.andThen_ok,List.map_toArray,List.map_cons,List.map_nil,hs,hx,A]
   exact m
  ·exact fO hgd s x ho hs hx j m
 ·exact jP hgd s x ho S' hs hx hl hu hd h1 h2 h3 hlen k
set_option maxHeartbeats 1000000
theorem zC (a b : Bs) : (⟨a.toArray⟩ : ByteArray) ++ (⟨b.toArray⟩ : ByteArray) = ⟨(a ++ b).toArray⟩ := by
 apply ByteArray.ext
 simp
theorem zU {a : ByteArray} {l : Bs} (h : a = ⟨l.toArray⟩) : Ending.returned (.string a) = .returned (.string ⟨l.toArray⟩) := by rw [h]
theorem xl (t : T) (sv : Value) (w : World) (hx : t.name.length <= 12) (ha : ∃ a n c,sv = .slice a n c) :
  Calls Tryz.prog 67 #[zq t sv] w (Sy w (.string ⟨(zv t).toArray⟩)) := by
 obtain ⟨a,n,c,rfl⟩ := ha; obtain ⟨d,x,m,p,_⟩ := t
 change x.length <= 12 at hx
 change Calls Tryz.prog 67 #[.agg #[.int .i64 d,.string ⟨x.toArray⟩,.int .i64 m,.int .i64 p,.slice a n c]] w _
 by_cases b : m = 1
 ·subst b
  go_enter Tryz.func67,Tryz.ntmps67
  go_wp2_with fail
  go_ret
  exact ⟨zU ((zC x [42]).trans (by simp [zv,T.num,T.name])),zf grn _⟩
 ·go_enter Tryz.func67,Tryz.ntmps67
  go_wp2_with fail
  go_ret
  exact ⟨by simp [zv,T.num,T.name,b],zf grn _⟩
theorem jK (t : T) (sv : Value) (w : World) (hx : t.name.length <= 12) (hs : ∀ u,u ∈ t.subs -> u.name.length <= 12) (ha : AT w t.subs sv) :
  Calls Tryz.prog 70 #[zq t sv] w (Sy w (.string ⟨(zz t).toArray⟩)) := by
 obtain ⟨f,x,m,p,l⟩ := t
 change x.length <= 12 at hx
 change ∀ u,u ∈ l -> u.name.length <= 12 at hs
 by_cases b : l.length = 1
 ·obtain ⟨g,o,c,u,_,rfl,h,i,d,j,k,r⟩ := ha.one b
  change l = [u] at d
  subst d; have A := hs u (by simp); obtain ⟨s,_,_,_,_⟩ := j; have v := zc s; clear hs b k r ha
  change Calls Tryz.prog 70 #[.agg #[.int .i64 f,.string ⟨x.toArray⟩,.int .i64 m,.int .i64 p,.slice (some ⟨g,o,none⟩) 1 c]] w _
  go_enter Tryz.func70,Tryz.ntmps70
  go_wp2_with fail
  go_quiet (fail)
  go_wp2_with fail
  go_ret
  refine ⟨zU ?_,(yl gan _)⟩; rw [show (⟨#[46]⟩ : ByteArray) = ⟨[46].toArray⟩ from rfl,zC,zC]
  simp [zz,T.subs,T.name]
 ·obtain ⟨a,n,c,rfl,h,i,d⟩ := ha.any
  change l.length = n at d
  subst d
  have y : ((l.length : Int) == 1) = false := bn (by omega)
  have z : Hid (zz (.mk f x m p l) = x) := by
   show _ = _
   unfold zz
   match l,b with
   | [],_ => rfl
   | [u],b => simp at b
   | _ :: _ :: _,_ => rfl
  clear ha hs b
  change Calls Tryz.prog 70 #[.agg #[.int .i64 f,.string ⟨x.toArray⟩,.int .i64 m,.int .i64 p,.slice a l.length c]] w _
  go_enter Tryz.func70,Tryz.ntmps70
  go_wp2_with fail
  go_ret
  exact ⟨by rw [z.out]; rfl,zf grn _⟩
theorem nL (t : T) (sv : Value) (w : World) (ha : ∃ a n c,sv = .slice a n c) :
  Calls Tryz.prog 139 #[zq t sv] w (Sy w (.int .i64 (vd t))) := by
 obtain ⟨a,n,c,rfl⟩ := ha; obtain ⟨b,x,m,p,l⟩ := t
 change Calls Tryz.prog 139 #[.agg #[.int .i64 b,.string ⟨x.toArray⟩,.int .i64 m,.int .i64 p,.slice a n c]] w _
 by_cases d : b = 36
 ·subst d
  rw [show vd (.mk 36 x m p l) = zo x from rfl]
  go_enter Tryz.func139,Tryz.ntmps139
  go_wp2_with fail; go_at_call 54; refine (xI ⟨x.toArray⟩ _).mono ?_; rintro e k ⟨rfl,h⟩; have i := za gan h; go_wp2_with fail
  go_ret
  exact ⟨rfl,i⟩
 ·by_cases f : b = 37
  ·subst f
   go_enter Tryz.func139,Tryz.ntmps139
   go_wp2_with fail
   go_ret
   exact ⟨rfl,zf grn _⟩
  ·by_cases g : b = 35
   ·subst g
    go_enter Tryz.func139,Tryz.ntmps139
    go_wp2_with fail
    go_ret
    exact ⟨rfl,zf grn _⟩
   ·have j : Hid (vd (.mk b x m p l) = 3) := by show _ = _; simp [vd,T.kind,d,f,g]
    rw [j.out]
    go_enter Tryz.func139,Tryz.ntmps139
    go_wp2_with fail
    go_ret
    exact ⟨rfl,zf grn _⟩
def kU (n : Nat) : Bs := if n < 10 then [UInt8.ofNat (48 + n)] else kU (n / 10) ++ [UInt8.ofNat (48 + n % 10)]
theorem vN {n : Nat} (h : n < 10) : kU n = [UInt8.ofNat (48 + n)] := by rw [kU,if_pos h]
theorem jG {n : Nat} (h : ¬ n < 10) : kU n = kU (n / 10) ++ [UInt8.ofNat (48 + n % 10)] := by rw [kU,if_neg h]
theorem mf (n : Nat) : ∀ f,n < 10 ^ (f + 1) -> (kU n).length <= f + 1 := by
 intro f
 induction f generalizing n with
 | zero => intro h; rw [vN (by simpa using h)]; simp
 | succ f ih =>
  intro h
  by_cases a : n < 10
  ·rw [vN a]; simp
  ·rw [jG a]
   have := ih (n / 10) (by rw [Nat.pow_succ] at h; omega)
   simp
   omega
theorem cE (w : World) (n : Nat) (cap : Nat) :
  (convert 73 9 (.slice (some ⟨w.heap.size,0,none⟩) 1 cap)).run Tryz.prog (w.alloc (.cells #[.int .u8 (48 + (n : Int) % 10)] 5)) = .ok (.string ⟨#[UInt8.ofNat (48 + n % 10)]⟩) (w.alloc (.cells #[.int .u8 (48 + (n : Int) % 10)] 5)) := by
 refine run_convert_bytes_back (P := Tryz.prog) _ 73 9 5 ⟨w.heap.size,0,none⟩ cap [UInt8.ofNat (48 + n % 10)] Tryz.underlying73 Tryz.underlying5 Tryz.underlying9 (fun j hj => ?_)
 have a : j = 0 := by simp at hj; omega
 subst a
 have : (UInt8.ofNat (48 + n % 10)).toNat = 48 + n % 10 := by rw [UInt8.toNat_ofNat']; omega
 rw [Addr.add_lit,World.cell?_alloc_at (hn := rfl)]; simp only [List.getElem_cons_zero,this]
 simp
theorem lm (n : Nat) (hn : n <= 2147483647) (w : World) : Calls Tryz.prog 101 #[.int .i64 n] w (Sy w (.string ⟨(kU n).toArray⟩)) := by
 induction n using Nat.strongRecOn generalizing w with
 | ind n ih =>
  have h := cE w n 1
  by_cases b : n < 10
  ·have i : ((n : Int) / 10 != 0) = false := by simp; omega
   go_enter Tryz.func101,Tryz.ntmps101
   go_wp2_with fail
   go_ret
   refine ⟨zU ?_,zf grn _⟩; rw [vN b]
   simp [Nat.mod_eq_of_lt b,UInt8.ofNat_add]
  ·have i : ((n : Int) / 10 != 0) = true := by simp; omega
   have g := ih (n / 10) (by omega) (by omega); have d := mf (n / 10) 9 (by omega); have a := jG b
   generalize kU (n / 10) = D at g d a
   go_enter Tryz.func101,Tryz.ntmps101
   go_wp2_with fail; refine (g _).mono ?_; rintro e k ⟨rfl,f⟩; have j := za gan f; go_wp2_with fail
   go_ret
   refine ⟨zU ?_,j⟩; rw [a]; refine (zC D _).trans ?_
   simp [UInt8.ofNat_add]
theorem ml : ∀ (f n : Nat),n < 10 ^ f -> 0 < f -> kI f n = kU n := by
 intro f
 induction f with
 | zero => intro n _ h; omega
 | succ f ih =>
  intro n h _
  by_cases a : n < 10
  ·rw [vN a]; simp [kI,a]
  ·rw [jG a]
   have d : n / 10 < 10 ^ f := by rw [Nat.pow_succ] at h; omega
   have b : 0 < f := by
    rcases Nat.eq_zero_or_pos f with b | b
    ·subst b; simp at h; omega
    ·exact b
   simp [kI,a,ih _ d b]
theorem dF (n : Nat) (hn : n <= 2147483647) : vC n = kU n := ml 11 n (by omega) (by omega)
theorem ru (m : Int) (h0 : 0 <= m) (h1 : m <= 2147483647) (w : World) : Calls Tryz.prog 101 #[.int .i64 m] w (Sy w (.string ⟨(vC m).toArray⟩)) := by
 obtain ⟨n,rfl⟩ := Int.eq_ofNat_of_zero_le h0
 have a : n <= 2147483647 := by omega
 rw [dF n a]
 exact lm n a w
def vD (t : T) (r : Int) (E : Bs) : Bs := if vd t < r then 40 :: (E ++ [41]) else E
theorem tT (t : T) (sv : Value) (r : Int) (E : Bs) (w : World) (ha : ∃ a n c,sv = .slice a n c) (hl : E.length <= 1000000)
  (he : ∀ w',w.grownBy w' none -> Calls Tryz.prog 68 #[zq t sv] w' (Sy w' (.string ⟨E.toArray⟩))) :
  Calls Tryz.prog 103 #[zq t sv,.int .i64 r] w (Sy w (.string ⟨(vD t r E).toArray⟩)) := by
 have u := fun w => nL t sv w ha
 unfold vD
 obtain ⟨a,n,c,rfl⟩ := ha; obtain ⟨f,x,m,p,l⟩ := t
 change ∀ w',_ -> Calls Tryz.prog 68 #[.agg #[.int .i64 f,.string ⟨x.toArray⟩,.int .i64 m,.int .i64 p,.slice a n c]] w' _ at he
 change ∀ w,Calls Tryz.prog 139 #[.agg #[.int .i64 f,.string ⟨x.toArray⟩,.int .i64 m,.int .i64 p,.slice a n c]] w _ at u
 change Calls Tryz.prog 103 #[.agg #[.int .i64 f,.string ⟨x.toArray⟩,.int .i64 m,.int .i64 p,.slice a n c],.int .i64 r] w _
 generalize vd (.mk f x m p l) = R at u ⊢
 by_cases z : R < r
 ·rw [if_pos z]
  go_enter Tryz.func103,Tryz.ntmps103
  go_wp2_with fail; go_at_call 139; refine (u _).mono ?_; rintro e A ⟨rfl,b⟩; have g := za gan b; have v := zb ((Box.new w (.mk f x m p l) (.slice a n c) 24).kept b); obtain ⟨h,i,j,k,s⟩ := id v; go_wp2_with fail; go_at_call 68; refine (he _ g).mono ?_; rintro e B ⟨rfl,d⟩; have y := za g d; go_wp2_with fail
  go_ret
  refine ⟨zU ?_,y⟩; rw [show (⟨#[40]⟩ : ByteArray) = ⟨[40].toArray⟩ from rfl,show (⟨#[41]⟩ : ByteArray) = ⟨[41].toArray⟩ from rfl,zC,zC]
  simp
 ·rw [if_neg z]
  go_enter Tryz.func103,Tryz.ntmps103
  go_wp2_with fail; go_at_call 139; refine (u _).mono ?_; rintro e A ⟨rfl,b⟩; have g := za gan b; have v := zb ((Box.new w (.mk f x m p l) (.slice a n c) 24).kept b); obtain ⟨h,i,j,k,s⟩ := id v; go_wp2_with fail; go_at_call 68; refine (he _ g).mono ?_; rintro e B ⟨rfl,d⟩; have y := za g d; go_wp2_with fail
  go_ret
  exact ⟨rfl,y⟩
def ETx (w : World) (t : T) (E : Bs) : Prop := E.length <= 1000000 /\ ∀ w' sv,w.grownBy w' none -> AT w' t.subs sv -> Calls Tryz.prog 68 #[zq t sv] w' (Sy w' (.string ⟨E.toArray⟩))
theorem zab (x : Bs) (m p : Int) (sv : Value) (w : World) (ha : ∃ a n c,sv = .slice a n c) :
  Calls Tryz.prog 68 #[.agg #[.int .i64 24,.string ⟨x.toArray⟩,.int .i64 m,.int .i64 p,sv]] w (Sy w (.string ⟨x.toArray⟩)) := by
 obtain ⟨a,n,c,rfl⟩ := ha
 go_enter Tryz.func68,Tryz.ntmps68
 go_wp2_with fail
 go_ret
 exact ⟨rfl,zf grn _⟩
theorem aG (x : Bs) (m p : Int) (sv : Value) (w : World) (ha : ∃ a n c,sv = .slice a n c) (h0 : 0 <= m) (h1 : m <= 2147483647) :
  Calls Tryz.prog 68 #[.agg #[.int .i64 29,.string ⟨x.toArray⟩,.int .i64 m,.int .i64 p,sv]] w (Sy w (.string ⟨(vC m).toArray⟩)) := by
 obtain ⟨a,n,c,rfl⟩ := ha
 go_enter Tryz.func68,Tryz.ntmps68
 go_wp2_with fail; go_at_call 101; refine (ru m h0 h1 _).mono ?_; rintro e f ⟨rfl,b⟩; have d := za gan b; go_wp2_with fail
 go_ret
 exact ⟨rfl,d⟩
theorem zax (x : Bs) (m p : Int) (sv : Value) (w : World) (ha : ∃ a n c,sv = .slice a n c) :
  Calls Tryz.prog 68 #[.agg #[.int .i64 30,.string ⟨x.toArray⟩,.int .i64 m,.int .i64 p,sv]] w (Sy w (.string ⟨[84,82,85,69].toArray⟩)) := by
 obtain ⟨a,n,c,rfl⟩ := ha
 go_enter Tryz.func68,Tryz.ntmps68
 go_wp2_with fail
 go_ret
 exact ⟨rfl,zf grn _⟩
theorem zaq (x : Bs) (m p : Int) (sv : Value) (w : World) (ha : ∃ a n c,sv = .slice a n c) :
  Calls Tryz.prog 68 #[.agg #[.int .i64 31,.string ⟨x.toArray⟩,.int .i64 m,.int .i64 p,sv]] w (Sy w (.string ⟨[70,65,76,83,69].toArray⟩)) := by
 obtain ⟨a,n,c,rfl⟩ := ha
 go_enter Tryz.func68,Tryz.ntmps68
 go_wp2_with fail
 go_ret
 exact ⟨rfl,zf grn _⟩
theorem zad (x : Bs) (m p : Int) (sv : Value) (w : World) (ha : ∃ a n c,sv = .slice a n c) :
  Calls Tryz.prog 68 #[.agg #[.int .i64 32,.string ⟨x.toArray⟩,.int .i64 m,.int .i64 p,sv]] w (Sy w (.string ⟨[78,73,76].toArray⟩)) := by
 obtain ⟨a,n,c,rfl⟩ := ha
 go_enter Tryz.func68,Tryz.ntmps68
 go_wp2_with fail
 go_ret
 exact ⟨rfl,zf grn _⟩
theorem bz : (Tryz.prog.info? 75).map (·.size) = some 2 := by kernel_rfl
theorem be : liesAt Tryz.prog Tryz.prog.depth WT (5 / Tryz.prog.cellsOf WT) 0 75 1 = true := by kernel_rfl
theorem mi : (Tryz.prog.info? U8).map (fun i => (i.zero,i.size,i.bytes)) = some (some (.int .u8 0),1,1) := by kernel_rfl
theorem WT_ne : WT ≠ U8 := by decide
section
variable {w0 : World} {wb ob db : Nat} {w w' : World} {S S' : Bs} {L L' : Nat} {p v : Value}
theorem Wr.put (gb : w0.grownBy w none) (lo : w0.heap.size <= wb) (ho : IsOps w ob) (hd : IsWds w db) (on : ob ≠ wb) (dn : db ≠ wb) (own : w.ownsRow w0.heap.size U8 1 v S'.length (Lib.byteCells S')) (vne : v.ownBlock ≠ some wb) (hp : p = .pointer none \/ p = ptr wb)
  (hb : w'.heap[wb]? = some (.cells #[p,v,.int .i64 L',.map (some ob),.map (some db)] WT (0,0))) (hk : KB (fun k => k ≠ wb) w w') : Wr w0 wb w' S' L' :=
 ⟨⟨hk.os.trans gb.os,hk.tape.trans gb.tape,hk.output.trans gb.output,Nat.le_trans gb.size hk.size,fun k hk' _ => (hk.block k (Nat.lt_of_lt_of_le hk' gb.size) (by omega)).trans (gb.block k hk' (by simp))⟩,lo,
  p,v,ob,db,hp,hb,uS own (fun g hg => hk.block g (own.lt g hg).2 (fun e => vne (e ▸ hg))),vne,yc ho (hk.block _ (World.ownsMap.lt ho) on),yc hd (hk.block _ (World.ownsMap.lt hd) dn),on,dn⟩
theorem tY (w : World) (wb o : Nat) (v : Value) : KB (fun k => k ≠ wb) w (w.setCell ⟨wb,o,none⟩ v) := ⟨rfl,rfl,rfl,by simp [World.setCell],fun k _ hk => Below.heap_setCell _ _ _ _ (by simpa using hk)⟩
theorem WK.set (_h : Wr w0 wb w S L) (o : Nat) (x : Value) (ho : o ≠ 1) : WK wb w (w.setCell ⟨wb,o,none⟩ x) := by
 refine ⟨⟨rfl,rfl,rfl,by simp [World.setCell],fun k _ hk => Below.heap_setCell _ _ _ _ (by simpa using hk.1)⟩,.inl ?_⟩
 unfold jq
 rw [World.cell?_setCell_other _ _ _ _ (by simp <;> omega)]
theorem Wr.level (h : Wr w0 wb w S L) (L' : Nat) : Wr w0 wb (w.setCell ⟨wb,2,none⟩ (.int .i64 L')) S L' := by
 obtain ⟨_,_,_,_,d,f,a,b,g,i,j,k⟩ := h.st
 exact Wr.put h.gb h.lo g i j k a b d (by simp [World.setCell,Array.getElem?_modify,f]) (tY w wb 2 _)
theorem Wr.lcell (h : Wr w0 wb w S L) : w.cell? ⟨wb,2,none⟩ = some (.int .i64 L) /\ w.frozen? ⟨wb,2,none⟩ = false := by
 obtain ⟨_,_,_,_,_,a,_⟩ := h.st
 exact ⟨by rw [Lib.cell_of_heap a]; rfl,Lib.frozen_of_heap a 2⟩
end
theorem uZ (w0 : World) (wb : Nat) (w : World) (S : Bs) (L : Nat) (h : Wr w0 wb w S L) :
  Calls Tryz.prog 153 #[ptr wb] w fun e w' => e = .returned (.tuple #[]) /\ Wr w0 wb w' S L /\ WK wb w w' /\ w'.cell? ⟨wb,0,none⟩ = some (ptr wb) := by
 have r := zb h; obtain ⟨p,_,_,_,s,a,b,d,j,k,l,m⟩ := h.st; obtain ⟨_,g,i⟩ := Option.map_eq_some_iff.1 bz
 have n : w.cell? ⟨wb,0,none⟩ = some p := by rw [Lib.cell_of_heap a]; rfl
 have y : w.frozen? ⟨wb,0,none⟩ = false := Lib.frozen_of_heap a 0
 have f : w.shape? wb = some (WT,5) := by simp [World.shape?,a]
 have t : Hid (Wr w0 wb (w.setCell ⟨wb,0,none⟩ (ptr wb)) S L) := Wr.put h.gb h.lo j k l m b d (.inr rfl) (by simp [World.setCell,Array.getElem?_modify,a]) (tY w wb 0 _); have u := zb (WK.set h 0 (ptr wb) (by omega)); have x : Hid ((w.setCell ⟨wb,0,none⟩ (ptr wb)).cell? ⟨wb,0,none⟩ = some (ptr wb)) := World.cell?_setCell_same _ _ _ n; clear b d j k l m h a
 rcases s with rfl | rfl
 ·go_enter Tryz.func153,Tryz.ntmps153
  go_wp2; rw [Lib.run_to_unsafe w ⟨wb,0,none⟩ Tryz.underlying72 Tryz.underlying143 g (by rw [i]; decide) f (Nat.zero_lt_succ 4)]; simp only [Result.andThen]; rw [Oper.upon_value]; go_wp2; rw [run_callFunc_extern Tryz.func171 (by kernel_rfl) (by kernel_rfl) (by kernel_rfl) (e := Extern.AbiNoEscape.same) (by kernel_rfl)]; rw [Lib.run_noEscape]; simp only [Result.andThen]; rw [Oper.upon_value]; go_wp2; rw [Lib.run_from_unsafe w ⟨wb,0,none⟩ Tryz.underlying143 Tryz.underlying72 g f be]; simp only [Result.andThen]; rw [Oper.upon_value]; go_wp2
  go_end0
  exact ⟨rfl,t,u,x⟩
 ·go_enter Tryz.func153,Tryz.ntmps153
  go_wp2; rw [Lib.run_neq_ptr_same w _ Tryz.underlying72 g]; go_wp2
  go_end0
  exact ⟨rfl,r,WK.refl _ _,n⟩
theorem Wr.push {w0 : World} {wb ob db : Nat} {w w2 : World} {S X : Bs} {L : Nat} {p v v' : Value} (h : Wr w0 wb w S L) (hp : p = .pointer none \/ p = ptr wb) (hb : w.heap[wb]? = some (.cells #[p,v,.int .i64 L,.map (some ob),.map (some db)] WT (0,0)))
  (own : w.ownsRow w0.heap.size U8 1 v S.length (Lib.byteCells S)) (vne : v.ownBlock ≠ some wb) (ho : IsOps w ob) (hd : IsWds w db) (on : ob ≠ wb) (dn : db ≠ wb)
  (own' : w2.ownsRow w0.heap.size U8 1 v' (S ++ X).length (Lib.byteCells (S ++ X))) (hg : w.grownBy w2 v.ownBlock) (hat : v'.ownBlock = v.ownBlock \/ ∀ b,v'.ownBlock = some b -> w.heap.size <= b) :
  Wr w0 wb (w2.setCell ⟨wb,1,none⟩ v') (S ++ X) L /\ WK wb w (w2.setCell ⟨wb,1,none⟩ v') := by
 have m := h.lt; have g : w2.heap[wb]? = some (.cells #[p,v,.int .i64 L,.map (some ob),.map (some db)] WT (0,0)) := (hg.block wb m (fun e => vne e.symm)).trans hb; have j : v'.ownBlock ≠ some wb := Lib.ownBlock_ne own' g WT_ne; have a : KB (fun k => v.ownBlock ≠ some k) w w2 := KB.of hg (fun k hk e => hk e.symm); have d := tY w2 wb 1 v'; have f := nh hb
 have n : KB (fun k => k ≠ wb /\ jq w wb ≠ some k) w (w2.setCell ⟨wb,1,none⟩ v') := by
  rw [f]
  exact ⟨d.os.trans a.os,d.tape.trans a.tape,d.output.trans a.output,Nat.le_trans a.size d.size,fun k hk hs => (d.block k (Nat.lt_of_lt_of_le hk a.size) hs.1).trans (a.block k hk hs.2)⟩
 have r : v.ownBlock ≠ some ob := kY ho own; have s : v.ownBlock ≠ some db := kY hd own; have l : w0.grownBy w2 none := ⟨hg.os.trans h.gb.os,hg.tape.trans h.gb.tape,hg.output.trans h.gb.output,Nat.le_trans h.gb.size hg.size,fun k hk _ => (hg.block k (Nat.lt_of_lt_of_le hk h.gb.size) (fun e => by have := (own.lt k e.symm).1; omega)).trans (h.gb.block k hk (by simp))⟩; have t := Wr.put (w' := w2.setCell ⟨wb,1,none⟩ v') (L' := L) l h.lo (yc ho (hg.block _ (World.ownsMap.lt ho) (fun e => r e.symm))) (yc hd (hg.block _ (World.ownsMap.lt hd) (fun e => s e.symm))) on dn own' j hp (by simp [World.setCell,Array.getElem?_modify,g]) d
 have i : jq (w2.setCell ⟨wb,1,none⟩ v') wb = v'.ownBlock := by
  obtain ⟨_,_,_⟩ := t
  unfold jq
  rw [World.cell?_setCell_same _ _ _ (show w2.cell? ⟨wb,1,none⟩ = some v by rw [Lib.cell_of_heap g]; rfl)]
  rfl
 exact ⟨t,n,by rw [f,i]; exact hat⟩
def WPv (w0 : World) (wb : Nat) (w : World) (S : Bs) (L : Nat) (X : Bs) (v : Value) : Ending -> World -> Prop := fun e w' => e = .returned v /\ Wr w0 wb w' (S ++ X) L /\ WK wb w w'
theorem uh (a b : Bs) : Lib.byteCells (a ++ b) = Lib.byteCells a ++ Lib.byteCells b := by simp [Lib.byteCells]
theorem gi (w : World) (base : Nat) (t u ty e : TypeId) (i : TypeInfo) (ht : Tryz.prog.underlying t = some (.slice e)) (hu : Tryz.prog.underlying u = some .string) (hi : Tryz.prog.info? e = some i) (hz : i.zero = some (.int .u8 0)) (hsize : i.size = 1) (hby : i.bytes = 1)
  (v : Value) (n : Nat) (xs : List Value) (hown : w.ownsRow base e 1 v n xs) (s : ByteArray) (h63 : n + s.size <= maxLen) (hbytes : n + s.size <= 140737488355328) {v' : Value} {w' : World}
  (hr : (Builtin.append_ #[t,u] ty #[v,.string s]).run Tryz.prog w = .ok v' w') : v'.ownBlock = v.ownBlock \/ v'.ownBlock = some w.heap.size := by
 have k : n + s.size <= 9223372036854775807 := by simp only [maxLen] at h63; omega
 have l : xs.length = n := by simpa using hown.1
 rcases hown.2 with ⟨rfl,rfl⟩ | ⟨g,a,h,rfl,z,A,B,C,hcs,m⟩
 ·by_cases r : s.size = 0
  ·have x := Lib.run_firstCells_string (P := Tryz.prog) w 1 s
   rw [r] at x
   have b : (Builtin.append_ #[t,u] ty #[.slice none 0 0,.string s]).run Tryz.prog w = .ok (.slice none 0 0) w := by simp [Builtin.append_,run_underlying ht,run_underlying hu,sizeOf,typeInfo,hi,hsize,Builtin.lenOf,r,x]
   rw [b] at hr
   injection hr with e1 _
   subst e1
   exact .inl rfl
  ·have b := run_append_nil_string (P := Tryz.prog) w t u ty e i (.int .u8 0) ht hu hi hz s (by omega) (by omega) (by rw [hby]; omega)
   rw [b] at hr
   injection hr with e1 _
   subst e1
   exact .inr rfl
 ·by_cases d : n + s.size <= a
  ·have y : h.size = a := by simpa using hcs
   have b := Lib.run_append_room_string (P := Tryz.prog) w t u ty e i ht hu hi hsize g n a h A s d (by omega); rw [b] at hr
   injection hr with e1 _
   subst e1
   exact .inl rfl
  ·have f : ∀ j u,xs[j]? = some u -> w.cell? ((⟨g,0,none⟩ : Addr).add j) = some u := hown.cells (g := g) rfl
   have b := Lib.run_append_grow_string (P := Tryz.prog) w t u ty e i (.int .u8 0) ht hu hi hz ⟨g,0,none⟩ n a xs (by rw [hsize]; simpa using l) f s (by omega) (by omega) (by rw [hby]; exact growslice_fits (by omega) (by omega)); rw [b] at hr
   injection hr with e1 _
   subst e1
   exact .inr rfl
theorem lE {w : World} {ops : Array Oper} {rest : List Oper} {o : Oper} {a : Act} {Q : Exit -> Act -> World -> Prop} (hgd : o.guard = none) (sl x : Operand)
  (ho : o.op = .call { callee := .builtin .append,args := #[sl,x],argTypes := #[73,9] }) {w0 : World} {wb : Nat} {S : Bs} {L : Nat} (h : Wr w0 wb w S L) (hc : w.cell? ⟨wb,1,none⟩ = some (a.eval sl)) (s : Bs) (hx : a.eval x = .string ⟨s.toArray⟩) (hlen : S.length + s.length <= 1000000000)
  (k : ∀ q n c w' z,Wr w0 wb (w'.setCell ⟨wb,1,none⟩ (.slice q n c)) (S ++ s) L -> WK wb w (w'.setCell ⟨wb,1,none⟩ (.slice q n c)) -> w'.frozen? ⟨wb,1,none⟩ = false -> w'.cell? ⟨wb,1,none⟩ = some z -> wpList Tryz.prog ops Q rest (a.put o.dst (.slice q n c)) w') : wpList Tryz.prog ops Q (o :: rest) a w := by
 obtain ⟨y,A,f,i,j⟩ := info_parts mi; obtain ⟨p,v,ob,db,F,hb,own,l,t,G,H,I⟩ := h.st
 have J : a.eval sl = v := by
  rw [Lib.cell_of_heap hb] at hc
  simpa using hc.symm
 have d : ByteArray.size ⟨s.toArray⟩ = s.length := by simp [ByteArray.size]
 refine wpList_plain hgd fun K hK => ?_
 obtain ⟨B,w',C,D,E,U⟩ := Lib.run_append_own_string (P := Tryz.prog) w w0.heap.size 73 9 o.type U8 y Tryz.underlying73 Tryz.underlying9 A f i j v S.length _ own ⟨s.toArray⟩ (by rw [d]; unfold maxLen; omega) (by rw [d]; omega) h.gb.size; have u := gi w w0.heap.size 73 9 o.type U8 y Tryz.underlying73 Tryz.underlying9 A f i j v S.length _ own ⟨s.toArray⟩ (by rw [d]; unfold maxLen; omega) (by rw [d]; omega) C
 have m : w'.ownsRow w0.heap.size U8 1 B (S ++ s).length (Lib.byteCells (S ++ s)) := by
  rw [List.length_append,uh,<- d]
  exact D
 obtain ⟨M,N⟩ := Wr.push h F hb own l t G H I m E (by rcases u with e | e; exact .inl e; exact .inr (fun b hb' => by rw [e] at hb'; cases hb'; exact Nat.le_refl _)); have r : w'.heap[wb]? = some (.cells #[p,v,.int .i64 L,.map (some ob),.map (some db)] WT (0,0)) := (E.block wb h.lt (fun e => l e.symm)).trans hb
 unfold Oper.wp execOp
 simp only [ho,resolve,invoke,builtin,Sem.run_bind,Sem.run_pure,Result.andThen_ok,List.map_toArray,List.map_cons,List.map_nil,J,hx,C]
 obtain ⟨q,n,c,rfl⟩ : ∃ q n c,B = .slice q n c := by
  rcases D.2 with ⟨e,_⟩ | ⟨g,O,R,e,_⟩
  ·exact ⟨_,_,_,e⟩
  ·exact ⟨_,_,_,e⟩
 exact hK _ _ (k q n c w' v M N (Lib.frozen_of_heap r 1) (by rw [Lib.cell_of_heap r]; rfl))
theorem z7 {c : Bool} {l m : List (T × Rule)} (h : zt c l = some m) : c = true /\ l = m := by
 unfold zt at h
 split at h
 ·cases h; exact ⟨‹_›,rfl⟩
 ·cases h
theorem zT {k k' : Int} {x : Bs} {m p : Int} {ts : List T} {most many : Int} {named : Bool} (h : zk (.mk k x m p ts) k' named most many = true) : k = k' /\ 0 <= m /\ m <= most /\ (0 <= many -> (ts.length : Int) = many) /\ (named = true -> yB x = true) /\ (named = false -> x = []) := by
 unfold zk at h
 rw [Bool.and_eq_true,decide_eq_true_eq] at h; obtain ⟨⟨b,d,f,g⟩,a⟩ := h; refine ⟨b,d,f,g,fun e => ?_,fun e => ?_⟩
 ·subst e; simpa [T.name] using a
 ·subst e
  have : x.isEmpty = true := by simpa [T.name] using a
  exact List.isEmpty_iff.1 this
theorem pP {ts : List T} (h : (ts.length : Int) = 0) : ts = [] := List.eq_nil_of_length_eq_zero (by omega)
theorem dq {ts : List T} (h : (ts.length : Int) = 1) : ∃ u,ts = [u] := List.length_eq_one_iff.1 (by omega)
theorem sT {ts : List T} (h : (ts.length : Int) = 2) : ∃ u v,ts = [u,v] := by
 match ts,h with
 | [u,v],_ => exact ⟨u,v,rfl⟩
 | [],h => simp at h
 | [_],h => simp at h
 | _ :: _ :: _ :: l,h => simp at h; omega
theorem le1 {ts : List T} (h : ts.length <= 1) : ts = [] \/ ∃ u,ts = [u] := by
 match ts,h with
 | [],_ => exact .inl rfl
 | [u],_ => exact .inr ⟨u,rfl⟩
 | _ :: _ :: l,h => simp at h
theorem dA {u : T} {r : Rule} {l : List (T × Rule)} (e : zJ [u] [r] = l) (h : ∀ p ∈ l,Well p.2 p.1) : Well r u := by subst e; exact h (u,r) (by simp [zJ])
theorem tE {u v : T} {r q : Rule} {l : List (T × Rule)} (e : zJ [u,v] [r,q] = l) (h : ∀ p ∈ l,Well p.2 p.1) : Well r u /\ Well q v := by subst e; exact ⟨h (u,r) (by simp [zJ]),h (v,q) (by simp [zJ])⟩
theorem cS {us : List T} {r : Rule} {l : List (T × Rule)} (e : yE us r = l) (h : ∀ p ∈ l,Well p.2 p.1) : ∀ u ∈ us,Well r u := by
 subst e; intro u a
 exact h (u,r) (List.mem_map.2 ⟨u,a,rfl⟩)
theorem ci {u : T} {us : List T} {k m p : Int} {x : Bs} {r q : Rule} {l : List (T × Rule)} (e : yQ (.mk k x m p (u :: us)) r q = l) (h : ∀ p ∈ l,Well p.2 p.1) : Well r u /\ ∀ v ∈ us,Well q v := by
 subst e; refine ⟨h (u,r) (by simp [yQ,T.subs]),fun v hv => h (v,q) (List.mem_cons_of_mem _ (List.mem_map.2 ⟨v,hv,rfl⟩))⟩
theorem qE {ts : List T} (h : 0 < ts.length) : ∃ u us,ts = u :: us := by
 match ts,h with
 | u :: us,_ => exact ⟨u,us,rfl⟩
inductive TN : T -> Prop
 | plain (x : Bs) (p : Int) (h : yB x = true) : TN (.mk 13 x 0 p [])
 | dot (x : Bs) (p : Int) (y : Bs) (q : Int) (h : yB x = true) (hy : yB y = true) : TN (.mk 13 x 0 p [.mk 24 y 0 q []])
theorem iz {t : T} (h : Well .ref t) : ∃ y q,t = .mk 24 y 0 q [] /\ yB y = true := by
 obtain ⟨_,a,_⟩ := Well.iff.1 h; obtain ⟨_,x,m,p,_⟩ := t; obtain ⟨b,_⟩ := z7 a; obtain ⟨rfl,_,_,c,d,_⟩ := zT b
 obtain rfl : m = 0 := by omega
 obtain rfl := pP (c (by omega))
 exact ⟨x,p,rfl,d rfl⟩
theorem mp {t : T} {l : List (T × Rule)} (hs : uk t = some l) (all : ∀ p ∈ l,Well p.2 p.1) : TN t := by
 obtain ⟨_,x,m,p,b⟩ := t; obtain ⟨a,f⟩ := z7 hs; rw [Bool.and_eq_true,decide_eq_true_eq] at a; obtain ⟨rfl,_,_,_,d,_⟩ := zT a.1
 obtain rfl : m = 0 := by omega
 have g := cS f all
 rcases le1 a.2 with e | ⟨u,e⟩
 ·change b = [] at e; subst e; exact .plain x p (d rfl)
 ·change b = [u] at e
  subst e; obtain ⟨y,q,rfl,h⟩ := iz (g u (by simp [T.subs]))
  exact .dot x p y q (d rfl) h
theorem vR {t : T} (h : Well .typeName t) : TN t := by
 obtain ⟨_,b,a⟩ := Well.iff.1 h
 exact mp b a
theorem nM {t : T} (h : Well .typeNameOrNone t) : (∃ p,t = .mk 0 [] 0 p []) \/ (t.kind = 13 /\ TN t) := by
 obtain ⟨l,hs,a⟩ := Well.iff.1 h; obtain ⟨k,x,m,p,g⟩ := t
 by_cases f : k = 0
 ·subst f
  obtain ⟨i,_⟩ := z7 (show zt _ _ = _ from hs); obtain ⟨_,_,_,c,_,d⟩ := zT i
  obtain rfl : m = 0 := by omega
  obtain rfl := pP (c (by omega)); obtain rfl := d rfl
  exact .inl ⟨p,rfl⟩
 ·have b : uk (.mk k x m p g) = some l := by rw [<- hs]; simp [zw,T.kind,f]
  have := mp b a; refine .inr ⟨?_,this⟩
  cases this <;> rfl
inductive EX : T -> Prop
 | ref (x : Bs) (p : Int) (h : yB x = true) : EX (.mk 24 x 0 p [])
 | dot (x : Bs) (p : Int) (u : T) (h : yB x = true) (hu : Well .designator u) : EX (.mk 25 x 0 p [u])
 | index (p : Int) (u v : T) (hu : Well .designator u) (hv : Well .expression v) : EX (.mk 26 [] 0 p [u,v])
 | deref (p : Int) (u : T) (hu : Well .designator u) : EX (.mk 27 [] 0 p [u])
 | guard (p : Int) (u v : T) (hu : Well .designator u) (hv : TN v) : EX (.mk 28 [] 0 p [u,v])
 | number (m p : Int) (h0 : 0 <= m) (h1 : m <= 2147483647) : EX (.mk 29 [] m p [])
 | word (k p : Int) (hk : k = 30 \/ k = 31 \/ k = 32) : EX (.mk k [] 0 p [])
 | call (p : Int) (u : T) (us : List T) (hu : Well .designator u) (hs : ∀ v ∈ us,Well .expression v) : EX (.mk 33 [] 0 p (u :: us))
 | one (k p : Int) (u : T) (hk : k = 34 \/ k = 35) (hu : Well .expression u) : EX (.mk k [] 0 p [u])
 | is (p : Int) (u v : T) (hu : Well .expression u) (hv : TN v) : EX (.mk 37 [] 0 p [u,v])
 | op (x : Bs) (p : Int) (u v : T) (hx : 0 <= zo x) (hu : Well .expression u) (hv : Well .expression v) : EX (.mk 36 x 0 p [u,v])
theorem oj {k : Int} {x : Bs} {m p : Int} {ts : List T} {l : List (T × Rule)} (hs : yJ (.mk k x m p ts) = some l) (all : ∀ p ∈ l,Well p.2 p.1) : EX (.mk k x m p ts) := by
 unfold yJ at hs
 by_cases h : (T.mk k x m p ts).kind = 24
 ·rw [if_pos h] at hs
  obtain ⟨f,-⟩ := z7 hs; obtain ⟨rfl,a,b,c,d,_⟩ := zT f
  obtain rfl : m = 0 := by omega
  obtain rfl := pP (c (by omega))
  exact .ref x p (d rfl)
 rw [if_neg h] at hs
 by_cases i : (T.mk k x m p ts).kind = 25
 ·rw [if_pos i] at hs
  obtain ⟨f,g⟩ := z7 hs; obtain ⟨rfl,a,b,c,d,_⟩ := zT f
  obtain rfl : m = 0 := by omega
  obtain ⟨u,rfl⟩ := dq (c (by omega))
  exact .dot x p u (d rfl) (dA g all)
 rw [if_neg i] at hs
 by_cases j : (T.mk k x m p ts).kind = 26
 ·rw [if_pos j] at hs
  obtain ⟨f,g⟩ := z7 hs; obtain ⟨rfl,a,b,c,_,d⟩ := zT f
  obtain rfl : m = 0 := by omega
  obtain ⟨u,v,rfl⟩ := sT (c (by omega)); obtain rfl := d rfl; obtain ⟨s,t⟩ := tE g all
  exact .index p u v s t
 rw [if_neg j] at hs
 by_cases n : (T.mk k x m p ts).kind = 27
 ·rw [if_pos n] at hs
  obtain ⟨f,g⟩ := z7 hs; obtain ⟨rfl,a,b,c,_,d⟩ := zT f
  obtain rfl : m = 0 := by omega
  obtain ⟨u,rfl⟩ := dq (c (by omega)); obtain rfl := d rfl
  exact .deref p u (dA g all)
 rw [if_neg n] at hs
 by_cases r : (T.mk k x m p ts).kind = 28
 ·rw [if_pos r] at hs
  obtain ⟨f,g⟩ := z7 hs; obtain ⟨rfl,a,b,c,_,d⟩ := zT f
  obtain rfl : m = 0 := by omega
  obtain ⟨u,v,rfl⟩ := sT (c (by omega)); obtain rfl := d rfl; obtain ⟨s,t⟩ := tE g all
  exact .guard p u v s (vR t)
 ·rw [if_neg r] at hs
  cases hs
theorem cX {t : T} (h : Well .designator t) : EX t := by
 obtain ⟨_,b,a⟩ := Well.iff.1 h; obtain ⟨_,_,_,_,_⟩ := t
 exact oj b a
theorem rn {t : T} (h : Well .designator t) : t.kind = 24 \/ t.kind = 25 \/ t.kind = 26 \/ t.kind = 27 \/ t.kind = 28 := by
 obtain ⟨l,a,_⟩ := Well.iff.1 h
 change yJ t = some l at a
 unfold yJ at a
 by_cases b : t.kind = 24
 ·exact .inl b
 by_cases d : t.kind = 25
 ·exact .inr (.inl d)
 by_cases f : t.kind = 26
 ·exact .inr (.inr (.inl f))
 by_cases g : t.kind = 27
 ·exact .inr (.inr (.inr (.inl g)))
 by_cases i : t.kind = 28
 ·exact .inr (.inr (.inr (.inr i)))
 ·simp [b,d,f,g,i] at a
theorem ye {t : T} (h : Well .designator t) : Well .expression t := by
 have b := rn h; obtain ⟨l,d,a⟩ := Well.iff.1 h; refine .mk l ?_ a; rw [<- d]
 show yR t = yJ t
 unfold yR
 rcases b with e | e | e | e | e <;> simp [e]
theorem dU {t : T} (h : Well .expression t) : EX t := by
 obtain ⟨l,f,i⟩ := Well.iff.1 h; obtain ⟨k,x,m,p,ts⟩ := t
 change yR (.mk k x m p ts) = some l at f
 unfold yR at f
 by_cases w : (T.mk k x m p ts).kind = 29
 ·rw [if_pos w] at f
  obtain ⟨g,-⟩ := z7 f; obtain ⟨rfl,a,b,c,_,d⟩ := zT g; obtain rfl := pP (c (by omega)); obtain rfl := d rfl
  exact .number m p a b
 rw [if_neg w] at f
 by_cases j : (T.mk k x m p ts).kind = 30 \/ (T.mk k x m p ts).kind = 31 \/ (T.mk k x m p ts).kind = 32
 ·rw [if_pos j] at f
  have y : k = 30 \/ k = 31 \/ k = 32 := j; obtain ⟨g,-⟩ := z7 f; obtain ⟨-,a,b,c,_,d⟩ := zT g
  obtain rfl : m = 0 := by omega
  obtain rfl := pP (c (by omega)); obtain rfl := d rfl
  exact .word k p y
 rw [if_neg j] at f
 by_cases z : (T.mk k x m p ts).kind = 33
 ·rw [if_pos z] at f
  obtain ⟨g,n⟩ := z7 f; rw [Bool.and_eq_true,decide_eq_true_eq] at g; obtain ⟨rfl,a,b,_,_,d⟩ := zT g.1
  obtain rfl : m = 0 := by omega
  obtain ⟨u,D,rfl⟩ := qE (ts := ts) g.2; obtain rfl := d rfl; obtain ⟨A,B⟩ := ci n i
  exact .call p u D A B
 rw [if_neg z] at f
 by_cases r : (T.mk k x m p ts).kind = 34 \/ (T.mk k x m p ts).kind = 35
 ·rw [if_pos r] at f
  have y : k = 34 \/ k = 35 := r; obtain ⟨g,n⟩ := z7 f; obtain ⟨-,a,b,c,_,d⟩ := zT g
  obtain rfl : m = 0 := by omega
  obtain ⟨u,rfl⟩ := dq (c (by omega)); obtain rfl := d rfl
  exact .one k p u y (dA n i)
 rw [if_neg r] at f
 by_cases C : (T.mk k x m p ts).kind = 37
 ·rw [if_pos C] at f
  obtain ⟨g,n⟩ := z7 f; obtain ⟨rfl,a,b,c,_,d⟩ := zT g
  obtain rfl : m = 0 := by omega
  obtain ⟨u,v,rfl⟩ := sT (c (by omega)); obtain rfl := d rfl; obtain ⟨A,B⟩ := tE n i
  exact .is p u v A (vR B)
 rw [if_neg C] at f
 by_cases s : (T.mk k x m p ts).kind = 36
 ·rw [if_pos s] at f
  have y : k = 36 := s; subst y; obtain ⟨g,n⟩ := z7 f; simp only [Bool.and_eq_true,beq_iff_eq,T.num,T.name,T.subs] at g; obtain ⟨⟨E,rfl⟩,_⟩ := g; obtain ⟨u,v,rfl⟩ := sT (ts := ts) (by omega); obtain ⟨A,B⟩ := tE n i
  exact .op x p u v (of_decide_eq_true E) A B
 ·rw [if_neg s] at f
  exact oj f i
theorem tz {x : Bs} (h : 0 <= zo x) : x.length <= 3 := by
 unfold zo at h
 have a : ∀ xs : List Bs,(∀ y ∈ xs,y.length <= 3) -> inB xs x = true -> x.length <= 3 := fun xs hx hb => hx x (by unfold inB at hb; simpa using hb)
 split at h
 ·rename_i h1; exact a _ (by decide) h1
 split at h
 ·rename_i h1; exact a _ (by decide) h1
 split at h
 ·rename_i h1; exact a _ (by decide) h1
 ·omega
theorem yi {x : Bs} (h : yB x = true) : x.length <= 12 := by
 rcases Nat.lt_or_ge 12 x.length with a | a
 ·have := jl ⟨x.toArray⟩ (by simpa [ByteArray.size] using a)
  simp at this
  rw [h] at this; cases this
 ·exact a
theorem xe {t : T} (h : TN t) : (zz t).length <= 25 := by
 cases h with
 | plain x p h => have := yi h; simp [zz,T.subs,T.name]; omega
 | dot x p y q h hy => have := yi h; have := yi hy; simp [zz,T.subs,T.name]; omega
theorem pD : ∀ (f n : Nat),(kI f n).length <= f := by
  intro f
  induction f with
  | zero => intro n; simp [kI]
  | succ f ih => intro n; unfold kI; split; · simp
                 · have := ih (n / 10); simp; omega
theorem jQ (n : Int) : (vC n).length <= 11 := pD 11 _
theorem xc (t : T) : 1 <= zn t := by obtain ⟨_,_,_,_,_⟩ := t; rw [zn]; omega
theorem rW (k : Int) (x : Bs) (m p : Int) (u : T) : zn (.mk k x m p [u]) = 1 + zn u := by rw [zn,zx,zx]; omega
theorem sm (k : Int) (x : Bs) (m p : Int) (u v : T) : zn (.mk k x m p [u,v]) = 1 + zn u + zn v := by rw [zn,zx,zx,zx]; omega
theorem rJ (k : Int) (x : Bs) (m p : Int) (u : T) (us : List T) : zn (.mk k x m p (u :: us)) = 1 + zn u + zx us := by rw [zn,zx]; omega
theorem mN (k : Int) (x : Bs) (m p : Int) : zn (.mk k x m p []) = 1 := by rw [zn,zx]
theorem yU : ∀ (f : Nat) (t : T),Well .expression t -> (zl f t).length + 4 <= 40 * zn t := by
 intro f
 induction f with
 | zero => intro t _; have := xc t; simp [zl]; omega
 | succ f ih =>
  intro t h; have H := dU h; clear h
  have b : ∀ (u : T) (r : Int),Well .expression u -> (if vd u < r then 40 :: (zl f u ++ [41]) else zl f u).length + 2 <= 40 * zn u := by
   intro u r a; have := ih u a
   split
   ·simp; omega
   ·omega
  cases H with
  | ref x p h => have := yi h; rw [mN]; simp [zl,T.kind,T.name]; omega
  | dot x p u h a => have := yi h; have := ih u (ye a); rw [rW]; simp [zl,T.kind,T.name,zI,T.subs]; omega
  | index p u v a hv => have := ih u (ye a); have := ih v hv; rw [sm]; simp [zl,T.kind,zI,T.subs]; omega
  | deref p u a => have := ih u (ye a); rw [rW]; simp [zl,T.kind,zI,T.subs]; omega
  | guard p u v a hv => have := ih u (ye a); have := xe hv; have := xc v; rw [sm]; simp [zl,T.kind,zI,T.subs]; omega
  | number m p h0 d => have := jQ m; rw [mN]; simp [zl,T.kind,T.num]; omega
  | word k p hk => rw [mN]; rcases hk with rfl | rfl | rfl <;> simp [zl,T.kind]
  | call p u us a hs =>
   have := ih u (ye a); have g := vq [44,32] (zl f) 40 us (fun v hv => by have := ih v (hs v hv); simp; omega); rw [rJ]
   have e : zl (f + 1) (.mk 33 [] 0 p (u :: us)) = zl f u ++ (40 :: (zE [44,32] (us.map (zl f)) ++ [41])) := by simp [zl,T.kind,zI,T.subs]
   rw [e]
   simp
   omega
  | one k p u hk a =>
   have i := b u 3 a; have g := b u 2 a; rw [rW]
   rcases hk with rfl | rfl
   ·have e : zl (f + 1) (.mk 34 [] 0 p [u]) = 126 :: (if vd u < 3 then 40 :: (zl f u ++ [41]) else zl f u) := by simp [zl,T.kind,zI,T.subs]
    rw [e,List.length_cons]; omega
   ·have e : zl (f + 1) (.mk 35 [] 0 p [u]) = 45 :: (if vd u < 2 then 40 :: (zl f u ++ [41]) else zl f u) := by simp [zl,T.kind,zI,T.subs]
    rw [e,List.length_cons]; omega
  | is p u v a hv =>
   have d := b u 1 a; have := xe hv; have := xc v; rw [sm]
   have e : zl (f + 1) (.mk 37 [] 0 p [u,v]) = (if vd u < 1 then 40 :: (zl f u ++ [41]) else zl f u) ++ ([32,73,83,32] ++ zz v) := by simp [zl,T.kind,zI,T.subs]
   rw [e]; simp only [la,lc,ln]
   omega
  | op x p u v hx a hv =>
   have d := b u (if zo x = 2 then 2 else 1) a; have g := b v (if zo x = 1 then 2 else if zo x = 2 then 3 else 1) hv; have i := tz hx; rw [sm]
   have e : zl (f + 1) (.mk 36 x 0 p [u,v]) = (if vd u < (if zo x = 2 then 2 else 1) then 40 :: (zl f u ++ [41]) else zl f u) ++ (32 :: (x ++ (32 :: (if vd v < (if zo x = 1 then 2 else if zo x = 2 then 3 else 1) then 40 :: (zl f v ++ [41]) else zl f v)))) := by simp [zl,T.kind,zI,T.subs,T.name]; rfl
   rw [e]; simp only [List.length_append,List.length_cons]
   omega
theorem yk {r : Rule} {t : T} (h : Well (.list r) t) : ∃ p us,t = .mk 1 [] 0 p us /\ ∀ u ∈ us,Well r u := by
 obtain ⟨_,b,a⟩ := Well.iff.1 h; obtain ⟨_,_,m,p,f⟩ := t; obtain ⟨g,i⟩ := z7 (show zt _ _ = _ from b); obtain ⟨rfl,_,_,_,_,d⟩ := zT g
 obtain rfl : m = 0 := by omega
 obtain rfl := d rfl
 exact ⟨p,f,rfl,cS i a⟩
inductive Turns : List T -> Prop
 | nil : Turns []
 | one (x : T) (h : Well (.list .act) x) : Turns [x]
 | more (x y : T) (l : List T) (hx : Well .expression x) (hy : Well (.list .act) y) (h : Turns l) : Turns (x :: y :: l)
theorem dM : ∀ (us : List T),(∀ p ∈ yW us,Well p.2 p.1) -> Turns us
 | [],_ => .nil
 | [x],h => .one x (h (x,.list .act) (by simp [yW]))
 | x :: y :: l,h => .more x y l (h (x,.expression) (by simp [yW])) (h (y,.list .act) (by simp [yW])) (dM l (fun p hp => h p (by simp [yW,hp])))
inductive AC : T -> Prop
 | assign (p : Int) (u v : T) (hu : Well .designator u) (hv : Well .expression v) : AC (.mk 14 [] 0 p [u,v])
 | call (p : Int) (u : T) (us : List T) (hu : Well .designator u) (hs : ∀ v ∈ us,Well .expression v) : AC (.mk 15 [] 0 p (u :: us))
 | choice (m p : Int) (u v : T) (us : List T) (hm : m = (us.length : Int) % 2) (hu : Well .expression u) (hv : Well (.list .act) v) (hs : Turns us) : AC (.mk 16 [] m p (u :: v :: us))
 | loop (p : Int) (u v : T) (hu : Well .expression u) (hv : Well (.list .act) v) : AC (.mk 17 [] 0 p [u,v])
 | rept (p : Int) (u v : T) (hu : Well (.list .act) u) (hv : Well .expression v) : AC (.mk 18 [] 0 p [u,v])
 | ret0 (p : Int) : AC (.mk 19 [] 0 p [])
 | ret1 (p : Int) (u : T) (hu : Well .expression u) : AC (.mk 19 [] 0 p [u])
 | word (k p : Int) (u : T) (hk : k = 20 \/ k = 21 \/ k = 22 \/ k = 23) (hu : Well .expression u) : AC (.mk k [] 0 p [u])
theorem rp {t : T} (h : Well .act t) : AC t := by
 obtain ⟨l,f,i⟩ := Well.iff.1 h; obtain ⟨k,x,m,p,ts⟩ := t
 change sX (.mk k x m p ts) = some l at f
 unfold sX at f
 by_cases n : (T.mk k x m p ts).kind = 16
 ·rw [if_pos n] at f
  have z : k = 16 := n; subst z; obtain ⟨g,j⟩ := z7 f; simp only [Bool.and_eq_true,T.num,T.name,T.subs,List.isEmpty_iff] at g; obtain ⟨⟨rfl,K⟩,G⟩ := g
  match ts,K,G,j with
  | u :: v :: F,K,G,j =>
   have H := dM (u :: v :: F) (by intro q I; exact i q (j ▸ I)); cases H with
   | more _ _ _ hx hy H => exact .choice m p u v F (by have J := of_decide_eq_true G; simp only [List.length_cons] at J; omega) hx hy H
 rw [if_neg n] at f
 by_cases A : (T.mk k x m p ts).kind = 14
 ·rw [if_pos A] at f
  obtain ⟨g,j⟩ := z7 f; obtain ⟨rfl,a,b,c,_,d⟩ := zT g
  obtain rfl : m = 0 := by omega
  obtain ⟨u,v,rfl⟩ := sT (c (by omega)); obtain rfl := d rfl; obtain ⟨r,s⟩ := tE j i
  exact .assign p u v r s
 rw [if_neg A] at f
 by_cases B : (T.mk k x m p ts).kind = 15
 ·rw [if_pos B] at f
  obtain ⟨g,j⟩ := z7 f; rw [Bool.and_eq_true,decide_eq_true_eq] at g; obtain ⟨rfl,a,b,_,_,d⟩ := zT g.1
  obtain rfl : m = 0 := by omega
  obtain ⟨u,F,rfl⟩ := qE (ts := ts) g.2; obtain rfl := d rfl; obtain ⟨r,s⟩ := ci j i
  exact .call p u F r s
 rw [if_neg B] at f
 by_cases C : (T.mk k x m p ts).kind = 17
 ·rw [if_pos C] at f
  obtain ⟨g,j⟩ := z7 f; obtain ⟨rfl,a,b,c,_,d⟩ := zT g
  obtain rfl : m = 0 := by omega
  obtain ⟨u,v,rfl⟩ := sT (c (by omega)); obtain rfl := d rfl; obtain ⟨r,s⟩ := tE j i
  exact .loop p u v r s
 rw [if_neg C] at f
 by_cases D : (T.mk k x m p ts).kind = 18
 ·rw [if_pos D] at f
  obtain ⟨g,j⟩ := z7 f; obtain ⟨rfl,a,b,c,_,d⟩ := zT g
  obtain rfl : m = 0 := by omega
  obtain ⟨u,v,rfl⟩ := sT (c (by omega)); obtain rfl := d rfl; obtain ⟨r,s⟩ := tE j i
  exact .rept p u v r s
 rw [if_neg D] at f
 by_cases E : (T.mk k x m p ts).kind = 19
 ·rw [if_pos E] at f
  obtain ⟨g,j⟩ := z7 f; rw [Bool.and_eq_true,decide_eq_true_eq] at g; obtain ⟨rfl,a,b,_,_,d⟩ := zT g.1
  obtain rfl : m = 0 := by omega
  obtain rfl := d rfl; have I := cS j i
  rcases le1 g.2 with e | ⟨u,e⟩
  ·change ts = [] at e; subst e; exact .ret0 p
  ·change ts = [u] at e; subst e; exact .ret1 p u (I u (by simp [T.subs]))
 rw [if_neg E] at f
 by_cases w : (T.mk k x m p ts).kind = 20 \/ (T.mk k x m p ts).kind = 22
 ·rw [if_pos w] at f
  have z : k = 20 \/ k = 22 := w; obtain ⟨g,j⟩ := z7 f; obtain ⟨-,a,b,c,_,d⟩ := zT g
  obtain rfl : m = 0 := by omega
  obtain ⟨u,rfl⟩ := dq (c (by omega)); obtain rfl := d rfl
  exact .word k p u (by rcases z with h | h <;> simp [h]) (ye (dA j i))
 rw [if_neg w] at f
 by_cases y : (T.mk k x m p ts).kind = 21 \/ (T.mk k x m p ts).kind = 23
 ·rw [if_pos y] at f
  have z : k = 21 \/ k = 23 := y; obtain ⟨g,j⟩ := z7 f; obtain ⟨-,a,b,c,_,d⟩ := zT g
  obtain rfl : m = 0 := by omega
  obtain ⟨u,rfl⟩ := dq (c (by omega)); obtain rfl := d rfl
  exact .word k p u (by rcases z with h | h <;> simp [h]) (dA j i)
 ·rw [if_neg y] at f
  cases f
theorem yO {k most : Int} {r : Rule} {t : T} (h : Well (.declared k most r) t) : ∃ x m p u,t = .mk k x m p [u] /\ yB x = true /\ 0 <= m /\ m <= most /\ Well r u := by
 obtain ⟨_,g,f⟩ := Well.iff.1 h; obtain ⟨l,x,m,p,n⟩ := t; obtain ⟨i,j⟩ := z7 (show zt _ _ = _ from g); obtain ⟨rfl,a,b,c,d,_⟩ := zT i; obtain ⟨u,rfl⟩ := dq (c (by omega))
 exact ⟨x,m,p,u,rfl,d rfl,a,b,dA j f⟩
inductive TY : T -> Prop
 | array (m p : Int) (u : T) (h0 : 0 <= m) (h1 : m <= 2147483647) (hu : TN u) : TY (.mk 9 [] m p [u])
 | pointer (p : Int) (u : T) (hu : TN u) : TY (.mk 12 [] 0 p [u])
 | record (p : Int) (u : T) (us : List T) (hu : (∃ q,u = .mk 0 [] 0 q []) \/ (u.kind = 13 /\ TN u)) (hs : ∀ v ∈ us,Well (.declared 11 1 .typeName) v) : TY (.mk 10 [] 0 p (u :: us))
theorem gN {t : T} (h : Well .typeItself t) : TY t := by
 obtain ⟨_,f,g⟩ := Well.iff.1 h; obtain ⟨k,x,m,p,ts⟩ := t; simp only [zw] at f
 by_cases j : (T.mk k x m p ts).kind = 9
 ·rw [if_pos j] at f
  obtain ⟨i,l⟩ := z7 f; obtain ⟨rfl,a,b,c,_,d⟩ := zT i; obtain ⟨u,rfl⟩ := dq (c (by omega)); obtain rfl := d rfl
  exact .array m p u a b (vR (dA l g))
 rw [if_neg j] at f
 by_cases n : (T.mk k x m p ts).kind = 12
 ·rw [if_pos n] at f
  obtain ⟨i,l⟩ := z7 f; obtain ⟨rfl,a,b,c,_,d⟩ := zT i
  obtain rfl : m = 0 := by omega
  obtain ⟨u,rfl⟩ := dq (c (by omega)); obtain rfl := d rfl
  exact .pointer p u (vR (dA l g))
 rw [if_neg n] at f
 by_cases r : (T.mk k x m p ts).kind = 10
 ·rw [if_pos r] at f
  obtain ⟨i,l⟩ := z7 f; rw [Bool.and_eq_true,decide_eq_true_eq] at i; obtain ⟨rfl,a,b,_,_,d⟩ := zT i.1
  obtain rfl : m = 0 := by omega
  obtain ⟨u,s,rfl⟩ := qE (ts := ts) i.2; obtain rfl := d rfl; obtain ⟨v,w⟩ := ci l g
  exact .record p u s (nM v) w
 ·rw [if_neg r] at f
  cases f
theorem sI {t : T} (h : Well .imported t) : ∃ x p,t = .mk 3 x 0 p [] /\ yB x = true := by
 obtain ⟨_,a,_⟩ := Well.iff.1 h; obtain ⟨_,x,m,p,_⟩ := t; obtain ⟨b,_⟩ := z7 (show zt _ _ = _ from a); obtain ⟨rfl,_,_,c,d,_⟩ := zT b
 obtain rfl : m = 0 := by omega
 obtain rfl := pP (c (by omega))
 exact ⟨x,p,rfl,d rfl⟩
theorem zae {ts : List T} (h : (ts.length : Int) = 4) : ∃ a b c d,ts = [a,b,c,d] := by
 match ts,h with
 | [a,b,c,d],_ => exact ⟨a,b,c,d,rfl⟩
 | [],h => simp at h
 | [_],h => simp at h
 | [_,_],h => simp at h
 | [_,_,_],h => simp at h
 | _ :: _ :: _ :: _ :: _ :: l,h => simp at h; omega
theorem aJ {ts : List T} (h : (ts.length : Int) = 6) : ∃ a b c d e f,ts = [a,b,c,d,e,f] := by
 match ts,h with
 | [a,b,c,d,e,f],_ => exact ⟨a,b,c,d,e,f,rfl⟩
 | [],h => simp at h
 | [_],h => simp at h
 | [_,_],h => simp at h
 | [_,_,_],h => simp at h
 | [_,_,_,_],h => simp at h
 | [_,_,_,_,_],h => simp at h
 | _ :: _ :: _ :: _ :: _ :: _ :: _ :: l,h => simp at h; omega
theorem kZ {t : T} (h : Well .procedure t) : ∃ x m p ps rs vs bs,t = .mk 7 x m p [ps,rs,vs,bs] /\ yB x = true /\ 0 <= m /\ m <= 1 /\ Well (.list (.declared 8 1 .typeName)) ps /\ ((∃ q,rs = .mk 0 [] 0 q []) \/ (rs.kind = 13 /\ TN rs)) /\ Well (.list (.declared 6 0 .typeName)) vs /\ Well (.list .act) bs := by
 obtain ⟨_,g,f⟩ := Well.iff.1 h; obtain ⟨_,x,m,p,_⟩ := t; obtain ⟨i,j⟩ := z7 (show zt _ _ = _ from g); obtain ⟨rfl,a,b,c,d,_⟩ := zT i; obtain ⟨ps,rs,vs,bs,rfl⟩ := zae (c (by omega)); subst j
 exact ⟨x,m,p,ps,rs,vs,bs,rfl,d rfl,a,b,f (ps,_) (by simp [zJ,T.subs]),nM (f (rs,.typeNameOrNone) (by simp [zJ,T.subs])),f (vs,_) (by simp [zJ,T.subs]),f (bs,.list .act) (by simp [zJ,T.subs])⟩
theorem gY {t : T} (h : Well .module t) : ∃ x p is cs ts vs ps bs,t = .mk 2 x 0 p [is,cs,ts,vs,ps,bs] /\ yB x = true /\ Well (.list .imported) is /\ Well (.list (.declared 4 1 .expression)) cs /\ Well (.list (.declared 5 1 .typeItself)) ts /\ Well (.list (.declared 6 1 .typeName)) vs /\ Well (.list .procedure) ps /\ Well (.list .act) bs := by
 obtain ⟨_,b,a⟩ := Well.iff.1 h; obtain ⟨_,x,m,p,_⟩ := t; obtain ⟨f,g⟩ := z7 (show zt _ _ = _ from b); obtain ⟨rfl,_,_,c,d,_⟩ := zT f
 obtain rfl : m = 0 := by omega
 obtain ⟨is,cs,ts,vs,ps,bs,rfl⟩ := aJ (c (by omega)); subst g
 exact ⟨x,p,is,cs,ts,vs,ps,bs,rfl,d rfl,a (is,.list .imported) (by simp [zJ,T.subs]),a (cs,.list (.declared 4 1 .expression)) (by simp [zJ,T.subs]),a (ts,.list (.declared 5 1 .typeItself)) (by simp [zJ,T.subs]),a (vs,.list (.declared 6 1 .typeName)) (by simp [zJ,T.subs]),a (ps,.list .procedure) (by simp [zJ,T.subs]),a (bs,.list .act) (by simp [zJ,T.subs])⟩
/-! ### Lengths -/
theorem xW {t : T} (h : yB t.name = true) : (zv t).length <= 13 := by
 have := yi h
 unfold zv
 split <;> simp <;> omega
theorem jS (sep last : Bs) (tx : T -> Bs) (L c : Nat) (l : List T) (h1 : last.length <= sep.length) (h : ∀ t ∈ l,(tx t).length + (2 * L + 2 + sep.length + 1) <= c * zn t) : (yz sep last tx L l).length <= c * zx l + sep.length + 1 := by
 unfold yz
 split
 ·simp
 ·have := vq (sep ++ [10]) (fun t => zD (L + 1) ++ tx t) c l (fun t ht => by have := h t ht; simp [zr]; omega)
  simp only [la,lc,ln]
  omega
theorem fB : ∀ (f L : Nat) (t : T),f + L <= 100 -> Well .act t -> (zZ f L t).length + 210 <= 700 * zn t := by
 intro f
 induction f with
 | zero => intro L t _ _; have := xc t; simp [zZ]; omega
 | succ f ih =>
  intro L t r h; have H := rp h; clear h; have j := zr L
  have a : ∀ u,Well (.list .act) u -> (yz [59] [] (zZ f (L + 1)) L u.subs).length + 300 <= 700 * zn u := by
   intro u b; obtain ⟨p,d,rfl,n⟩ := yk b; have := jS [59] [] (zZ f (L + 1)) L 700 d (by simp) (fun t ht => by have := ih (L + 1) t (by omega) (n t ht); simp; omega); rw [zn]; simp only [List.length_cons,List.length_nil] at this; simp only [T.subs]
   omega
  have g : ∀ d,Turns d -> (yn (zl f) (fun u => yz [59] [] (zZ f (L + 1)) L u.subs) L d).length <= 700 * zx d := by
   intro d i
   induction i with
   | nil => simp [yn]
   | one x hx => have := a x hx; simp only [yn,zx,la,lc,ln]; omega
   | more x y l hx hy _ ihl =>
    have := a y hy; have := yU f x hx; simp only [yn,zx,la,lc,ln]
    omega
  cases H with
  | assign p u v b hv =>
   have := yU f u (ye b); have := yU f v hv; rw [sm]; simp [zZ,T.kind,zI,T.subs]; omega
  | call p u d b hs =>
   have := yU f u (ye b); have s := vq [44,32] (zl f) 40 d (fun v hv => by have := yU f v (hs v hv); simp; omega); rw [rJ]
   have e : zZ (f + 1) L (.mk 15 [] 0 p (u :: d)) = zl f u ++ (if 1 < (u :: d).length then ff f d else []) := by simp [zZ,T.kind,zI,T.subs]
   rw [e]
   unfold ff
   split <;> simp <;> omega
  | choice m p u v d hm b hv hs =>
   have := yU f u b; have := a v hv; have := g d hs
   have e : zZ (f + 1) L (.mk 16 [] m p (u :: v :: d)) = [73,70,32] ++ (zl f u ++ ([32,84,72,69,78,10] ++ (yz [59] [] (zZ f (L + 1)) L v.subs ++ (yn (zl f) (fun u => yz [59] [] (zZ f (L + 1)) L u.subs) L d ++ (zD L ++ [69,78,68]))))) := by simp [zZ,T.kind,zI,T.subs]
   rw [e,rJ,zx]; simp only [la,lc,ln]
   omega
  | loop p u v b hv =>
   have := yU f u b; have := a v hv
   have e : zZ (f + 1) L (.mk 17 [] 0 p [u,v]) = [87,72,73,76,69,32] ++ (zl f u ++ ([32,68,79,10] ++ (yz [59] [] (zZ f (L + 1)) L v.subs ++ (zD L ++ [69,78,68])))) := by simp [zZ,T.kind,zI,T.subs]
   rw [e,sm]; simp only [la,lc,ln]
   omega
  | rept p u v b hv =>
   have := yU f v hv; have := a u b
   have e : zZ (f + 1) L (.mk 18 [] 0 p [u,v]) = [82,69,80,69,65,84,10] ++ (yz [59] [] (zZ f (L + 1)) L u.subs ++ (zD L ++ ([85,78,84,73,76,32] ++ zl f v))) := by simp [zZ,T.kind,zI,T.subs]
   rw [e,sm]; simp only [la,lc,ln]
   omega
  | ret0 p => rw [mN]; simp [zZ,T.kind,T.subs]
  | ret1 p u b => have := yU f u b; rw [rW]; simp [zZ,T.kind,zI,T.subs]; omega
  | word k p u hk b =>
   have := yU f u b; rw [rW]
   have e : zZ (f + 1) L (.mk k [] 0 p [u]) = vG k ++ (40 :: (zl f u ++ [41])) := by rcases hk with rfl | rfl | rfl | rfl <;> simp [zZ,T.kind,zI,T.subs]
   have n : (vG k).length <= 6 := by unfold vG; (repeat' split) <;> simp
   rw [e]; simp only [la,lc,ln]
   omega
set_option maxHeartbeats 2000000
def RL (w : World) (jb : Nat) (v : Value) (rs : List Rule) (sl : Value) : Prop :=
 (rs = [] /\ sl = .slice none 0 0) \/ ∃ rb,sl = .slice (some ⟨rb,0,none⟩) rs.length rs.length /\ rb < w.heap.size /\ free jb v rb /\ ∀ (i : Nat) (r : Rule),rs[i]? = some r -> ∃ rv,w.cell? ⟨rb,i,none⟩ = some rv /\ RV w jb (free jb v) r rv
theorem RL.step {w w' : World} {jb : Nat} {v v' : Value} {rs : List Rule} {sl : Value} (h : RL w jb v rs sl) (hk : JK jb v w w' v') : RL w' jb v' rs sl := by
 rcases h with h | ⟨b,rfl,a,d,f⟩
 ·exact .inl h
 ·exact .inr ⟨b,rfl,Nat.lt_of_lt_of_le a hk.kb.size,hk.fr b a d,fun i r hi => by
   obtain ⟨g,c,q⟩ := f i r hi
   exact ⟨g,hk.kb.cell c d,q.step hk⟩⟩
theorem rP {ts : List T} {rs : List Rule} {i : Nat} {u : T} {r : Rule} (hu : ts[i]? = some u) (hr : rs[i]? = some r) : zJ (ts.take (i + 1)) (rs.take (i + 1)) = zJ (ts.take i) (rs.take i) ++ [(u,r)] := by
 induction i generalizing ts rs with
 | zero =>
  cases ts with
  | nil => simp at hu
  | cons t ts => cases rs with
   | nil => simp at hr
   | cons q rs => simp at hu hr; subst hu hr; simp [zJ]
 | succ i ih =>
  cases ts with
  | nil => simp at hu
  | cons t ts => cases rs with
   | nil => simp at hr
   | cons q rs =>
    have := ih (ts := ts) (rs := rs) (by simpa using hu) (by simpa using hr); simp only [List.take_succ_cons,zJ,this,List.cons_append]
theorem dh : ∀ (ts : List T) (rs : List Rule),(zJ ts rs).length <= ts.length
 | [],_ => by simp [zJ]
 | _ :: _,[] => by simp [zJ]
 | _ :: ts,_ :: rs => by simp only [zJ,List.length_cons]; have := dh ts rs; omega
theorem ya (w0 : World) (jb lb ob : Nat) (w : World) (l : List (T × Rule)) (v : Value) (t : T) (sv : Value) (rs : List Rule) (sl : Value) (h : JS w0 jb lb ob w l v) (hlen : l.length + t.subs.length <= 20000) (hrs : rs.length <= 100) (ha : AT w0 t.subs sv) (hr : RL w jb v rs sl) :
  Calls Tryz.prog 106 #[ptr jb,zq t sv,sl] w fun e w' => (t.subs.length ≠ rs.length /\ e = .returned (.bool false) /\ w.grownBy w' none) \/ (t.subs.length = rs.length /\ ∃ v',e = .returned (.bool true) /\ JS w0 jb lb ob w' (l ++ zJ t.subs rs) v' /\ JK jb v w w' v') := by
 have E := zb h; have HA := zb ha; have HR := zb hr; obtain ⟨j,x,m,p,b⟩ := t; obtain ⟨a,n,c,rfl,_,_,Q⟩ := ha.any
 change b.length = n at Q
 subst Q
 obtain ⟨F,G⟩ : ∃ F,sl = .slice F rs.length rs.length := by
  rcases hr with ⟨rfl,rfl⟩ | ⟨rb,rfl,_⟩
  ·exact ⟨_,rfl⟩
  ·exact ⟨_,rfl⟩
 subst G; have H : l.length + b.length <= 20000 := hlen; clear h ha hr hlen
 change Calls Tryz.prog 106 #[ptr jb,.agg #[.int .i64 j,.string ⟨x.toArray⟩,.int .i64 m,.int .i64 p,.slice a b.length c],.slice F rs.length rs.length] w _
 by_cases f : b.length = rs.length
 ·have I : ((b.length : Int) != (rs.length : Int)) = false := by simp; omega
  have A := zb f
  have a0 : b.length <= 100 := by omega
  clear f
  go_enter Tryz.func106,Tryz.ntmps106
  go_wp2_with fail
  go_loopw [17] (fun iv wr => ∃ (i : Nat) (d : Value),i <= rs.length /\ iv = .int .i64 ↑i /\ Hid (JS w0 jb lb ob wr (l ++ zJ (b.take i) (rs.take i)) d) /\ Hid (JK jb v (w.alloc (.cells #[.int .i64 j,.string ⟨x.toArray⟩,.int .i64 m,.int .i64 p,.slice a b.length c] 24)) wr d) /\ Hid (Box wr w.heap.size (.mk j x m p b) (.slice a b.length c))) (fun iv _ => rs.length - (intOf iv).toNat)
  case atStart => exact ⟨0,v,Nat.zero_le _,rfl,by show JS _ _ _ _ _ _ _; simpa [zJ] using E.out.grown gan,JK.refl _ _ _,Box.new w (.mk j x m p b) (.slice a b.length c) 24⟩
  case round =>
   obtain ⟨i,d,_,rfl,J,B,X1⟩ := hrel; obtain ⟨b0,b1,b2,b3,b4⟩ := X1.out
   by_cases s : i < rs.length
   ·obtain ⟨u,K⟩ : ∃ u,b[i]? = some u := ⟨_,List.getElem?_eq_getElem (by have := A.out; omega)⟩
    obtain ⟨r,hr⟩ : ∃ r,rs[i]? = some r := ⟨_,List.getElem?_eq_getElem s⟩; obtain ⟨g,o,su,e1,R,U,V⟩ := HA.out.node i u K; cases e1; have RS := (HR.out.step (JK.grown gan)).step B.out
    rcases RS with ⟨rfl,_⟩ | ⟨rb,e2,a1,a2,y⟩
    ·simp at s
    cases e2; obtain ⟨_,_,L⟩ := y i r hr; obtain ⟨_,_,_,_,_⟩ := R.kept J.out.gb
    have HE : Hid (l ++ zJ (b.take i) (rs.take i) ++ [(u,r)] = l ++ zJ (b.take (i + 1)) (rs.take (i + 1))) := by
     show _ = _
     rw [rP K hr,List.append_assoc]
    have HU := zb U; have AU := zb V; have R1 := zb L
    have M : (l ++ zJ (b.take i) (rs.take i)).length <= 20000 := by
     have := dh (b.take i) (rs.take i)
     simp at this ⊢
     omega
    obtain ⟨_,_,_,rfl⟩ := L.form
    have X : i < b.length := by have := A.out; omega
    clear K hr U V R y L; go_wp2_with fail; go_at_call 74; refine (vW w0 jb lb ob _ _ d u r su _ (J.out.grown grn) M HU.out AU.out (R1.out.grown grn)).mono ?_; rintro e C ⟨D,rfl,Y,Z⟩; have N : Hid (JS w0 jb lb ob C (l ++ zJ (b.take (i + 1)) (rs.take (i + 1))) D) := HE.out ▸ Y; have k : Hid (JK jb d wr C D) := (JK.grown grn).trans Z; have K2 : Hid (JK jb v (w.alloc (.cells #[.int .i64 j,.string ⟨x.toArray⟩,.int .i64 m,.int .i64 p,.slice (some ⟨g,o,none⟩) b.length c] 24)) C D) := B.out.trans k.out
    have X2 : Hid (Box C w.heap.size (.mk j x m p b) (.slice (some ⟨g,o,none⟩) b.length c)) := by
     have z : free jb d w.heap.size := ⟨by have := E.out.lt; omega,fun e => by
      rcases B.out.at' with O | O
      ·have := (E.out.room (O ▸ e)).2; omega
      ·exact absurd (O _ e) (by simp)⟩
     exact ⟨k.out.kb.cell b0 z,k.out.kb.cell b1 z,k.out.kb.cell b2 z,k.out.kb.cell b3 z,k.out.kb.cell b4 z⟩
    clear Y Z; go_wp2_with fail
    exact ⟨⟨i + 1,D,by omega,by go_num,N,K2,X2⟩,by simp [intOf]; omega⟩
   ·have N : Hid (JS w0 jb lb ob wr (l ++ zJ b rs) d) := by
     have := J.out; rw [List.take_of_length_le (by have := A.out; omega),List.take_of_length_le (by omega)] at this
     exact this
    go_wp2_with fail
    go_ret
    exact .inr ⟨A.out,d,rfl,N.out,(JK.grown gan).trans B.out⟩
 ·have I : ((b.length : Int) != (rs.length : Int)) = true := by simp; omega
  go_enter Tryz.func106,Tryz.ntmps106
  go_wp2_with fail
  go_ret
  exact .inl ⟨f,rfl,zf grn _⟩
theorem xz (jb : Nat) (w : World) (v : Value) (r : Rule) (rv : Value) (hj : jb < w.heap.size) (hv : ∀ b,v.ownBlock = some b -> b < w.heap.size) (hr : RV w jb (free jb v) r rv) :
  Calls Tryz.prog 107 #[ptr jb,rv] w fun e w' => ∃ g fa ca,e = .returned (.func (.func g) fa ca) /\ RV w' jb (free jb v) (.list r) (.func (.func g) fa ca) /\ w.grownBy w' none := by
 have f := zb hr; obtain ⟨a,fa,ca,rfl⟩ := hr.form; have h : Hid (free jb v w.heap.size) := ⟨by omega,fun e => by have := hv _ e; omega⟩; have i : Hid (free jb v (w.heap.size + 1)) := ⟨by omega,fun e => by have := hv _ e; omega⟩; clear hr hv
 go_enter Tryz.func107,Tryz.ntmps107
 go_wp2_with fail
 go_ret
 have d : w.grownBy ((w.alloc (.cells #[ptr jb] 130)).alloc (.cells #[.func (.func a) fa ca] 100)) none := zf gan _; refine ⟨_,_,_,rfl,.list r (.func (.func a) fa ca) _ _ h.out i.out ?_ ?_ (f.out.grown d),d⟩
 ·rw [World.cell?_alloc_past _ _ _ (by simp),World.cell?_alloc_at _ _ _ _ rfl]; rfl
 ·rw [World.cell?_alloc_at _ _ _ _ (by simp)]; rfl
theorem xM (jb : Nat) (w : World) (v : Value) (k m : Int) (r : Rule) (rv : Value) (hj : jb < w.heap.size) (hv : ∀ b,v.ownBlock = some b -> b < w.heap.size) (hr : RV w jb (free jb v) r rv) :
  Calls Tryz.prog 109 #[ptr jb,.int .i64 k,.int .i64 m,rv] w fun e w' => ∃ g fa ca,e = .returned (.func (.func g) fa ca) /\ RV w' jb (free jb v) (.declared k m r) (.func (.func g) fa ca) /\ w.grownBy w' none := by
 have f := zb hr; obtain ⟨a,fa,ca,rfl⟩ := hr.form; have h : Hid (free jb v w.heap.size) := ⟨by omega,fun e => by have := hv _ e; omega⟩; have i : Hid (free jb v (w.heap.size + 1)) := ⟨by omega,fun e => by have := hv _ e; omega⟩; have j : Hid (free jb v (w.heap.size + 1 + 1)) := ⟨by omega,fun e => by have := hv _ e; omega⟩; have l : Hid (free jb v (w.heap.size + 1 + 1 + 1)) := ⟨by omega,fun e => by have := hv _ e; omega⟩; clear hr hv
 go_enter Tryz.func109,Tryz.ntmps109
 go_wp2_with fail
 go_ret
 have d : w.grownBy ((((w.alloc (.cells #[ptr jb] 130)).alloc (.cells #[.int .i64 k] 3)).alloc (.cells #[.int .i64 m] 3)).alloc (.cells #[.func (.func a) fa ca] 100)) none := zf (zf (zf gan _) _) _; refine ⟨_,_,_,rfl,.declared k m r (.func (.func a) fa ca) (w.heap.size + 1) w.heap.size (w.heap.size + 1 + 1) (w.heap.size + 1 + 1 + 1) i.out h.out j.out l.out ?_ ?_ ?_ ?_ (f.out.grown d),d⟩
 ·rw [World.cell?_alloc_past _ _ _ (by simp),World.cell?_alloc_past _ _ _ (by simp),World.cell?_alloc_at _ _ _ _ (by simp)]; rfl
 ·rw [World.cell?_alloc_past _ _ _ (by simp; omega),World.cell?_alloc_past _ _ _ (by simp; omega),World.cell?_alloc_past _ _ _ (by simp),World.cell?_alloc_at _ _ _ _ rfl]; rfl
 ·rw [World.cell?_alloc_past _ _ _ (by simp),World.cell?_alloc_at _ _ _ _ (by simp)]; rfl
 ·rw [World.cell?_alloc_at _ _ _ _ (by simp)]; rfl
def JR (w0 : World) (jb lb ob : Nat) (l : List (T × Rule)) (v : Value) (w : World) (r : Rule) (t : T) : Ending -> World -> Prop := fun e w' =>
 (zw r t = none /\ e = .returned (.bool false) /\ w0.grownBy w' none) \/ (∃ q v',zw r t = some q /\ e = .returned (.bool true) /\ JS w0 jb lb ob w' (l ++ q) v' /\ JK jb v w w' v')
abbrev JC (g : Nat) (r : Rule) (k : Int) : Prop := ∀ (w0 : World) (jb lb ob : Nat) (w : World) (l : List (T × Rule)) (v : Value) (x : Bs) (m p : Int) (ts : List T) (sv : Value),JS w0 jb lb ob w l v -> l.length + ts.length <= 20000 -> Fits (.mk k x m p ts) -> AT w0 (T.mk k x m p ts).subs sv -> Calls Tryz.prog g #[ptr jb,.agg #[.int .i64 k,.string ⟨x.toArray⟩,.int .i64 m,.int .i64 p,sv]] w (JR w0 jb lb ob l v w r (.mk k x m p ts))
theorem zm {c : Bool} {L : List (T × Rule)} (h : c = false) : zt c L = none := by rw [h]; rfl
theorem zH {c : Bool} {L : List (T × Rule)} (h : c = true) : zt c L = some L := by rw [h]; rfl
theorem yd {t : T} {k most many : Int} (h : t.kind = k) : zk t k true most many = ((yB t.name && zM t most) && decide (0 <= many -> (t.subs.length : Int) = many)) := by
 unfold zk zM
 rw [Bool.eq_iff_iff]
 simp [h]
 constructor
 ·rintro ⟨⟨a,b,c⟩,d⟩; exact ⟨⟨d,a,b⟩,c⟩
 ·rintro ⟨⟨d,a,b⟩,c⟩; exact ⟨⟨a,b,c⟩,d⟩
theorem zi {t : T} {k most many : Int} (h : t.kind = k) : zk t k false most many = ((t.name.isEmpty && zM t most) && decide (0 <= many -> (t.subs.length : Int) = many)) := by
 unfold zk zM
 rw [Bool.eq_iff_iff]
 simp [h]
 constructor
 ·rintro ⟨⟨a,b,c⟩,d⟩; exact ⟨⟨d,a,b⟩,c⟩
 ·rintro ⟨⟨d,a,b⟩,c⟩; exact ⟨⟨a,b,c⟩,d⟩
theorem yT {t : T} {n : Nat} (h : t.subs.length ≠ n) : decide (0 <= (n : Int) -> (t.subs.length : Int) = n) = false := by rw [decide_eq_false_iff_not]; intro h2; have := h2 (by omega); omega
theorem yy {t : T} {n : Nat} (h : t.subs.length = n) : decide (0 <= (n : Int) -> (t.subs.length : Int) = n) = true := by rw [decide_eq_true_iff]; intro _; omega
theorem vO (ts : List T) : zJ ts [] = [] := by cases ts <;> rfl
theorem RL.new1 {jb : Nat} {v : Value} {r : Rule} {rv : Value} (w : World) (ty : TypeId) (hr : RV (w.alloc (.cells #[rv] ty)) jb (free jb v) r rv) (hj : jb < w.heap.size) (hv : ∀ b,v.ownBlock = some b -> b < w.heap.size) :
  RL (w.alloc (.cells #[rv] ty)) jb v [r] (.slice (some ⟨w.heap.size,0,none⟩) 1 1) :=
 .inr ⟨w.heap.size,rfl,by simp,⟨by omega,fun e => by have := hv _ e; omega⟩,fun i q hi => by
  match i,hi with
  | 0,hi => cases hi; exact ⟨rv,by rw [World.cell?_alloc_at _ _ _ _ rfl]; rfl,hr⟩⟩
theorem RL.new2 {jb : Nat} {v : Value} {r q : Rule} {rv qv : Value} (w : World) (ty : TypeId) (hr : RV (w.alloc (.cells #[rv,qv] ty)) jb (free jb v) r rv) (hq : RV (w.alloc (.cells #[rv,qv] ty)) jb (free jb v) q qv) (hj : jb < w.heap.size) (hv : ∀ b,v.ownBlock = some b -> b < w.heap.size) :
  RL (w.alloc (.cells #[rv,qv] ty)) jb v [r,q] (.slice (some ⟨w.heap.size,0,none⟩) 2 2) :=
 .inr ⟨w.heap.size,rfl,by simp,⟨by omega,fun e => by have := hv _ e; omega⟩,fun i z hi => by
  match i,hi with
  | 0,hi => cases hi; exact ⟨rv,by rw [World.cell?_alloc_at _ _ _ _ rfl]; rfl,hr⟩
  | 1,hi => cases hi; exact ⟨qv,by rw [World.cell?_alloc_at _ _ _ _ rfl]; rfl,hq⟩⟩
theorem bS : JC 108 .imported 3 := by
 intro N s C O w l v x m p d sv h i D u
 have j := zb h; have Q := zb D; have R := zb u; have U := h.lt
 have HV : Hid (∀ b,v.ownBlock = some b -> b < w.heap.size) := fun b hb => (h.room hb).2
 obtain ⟨a,n,c,rfl,_,_,E⟩ := u.any
 change d.length = n at E
 subst E
 have y : Hid (zw .imported (.mk 3 x m p d) = zt (zk (.mk 3 x m p d) 3 true 0 0) (zJ d [])) := by rw [vO]; rfl
 clear h D u
 go_enter Tryz.func108,Tryz.ntmps108
 go_wp2_with fail; go_at_call 105; refine (xk s C (.mk 3 x m p d) _ 0 _ (j.grown gan).c0 (j.grown gan).lex Q ⟨_,_,_,rfl⟩).mono ?_; rintro e V ⟨rfl,g⟩; have f := za gan g; have X := zb ((Box.new w (.mk 3 x m p d) (.slice a d.length c) 24).kept g); obtain ⟨F,G,H,I,J⟩ := X.p
 cases z : (yB (T.mk 3 x m p d).name && zM (.mk 3 x m p d) 0)
 ·clear g; go_wp2_with fail
  go_ret
  exact .inl ⟨y.trans (zm (by rw [yd (t := (.mk 3 x m p d)) (k := 3) rfl,z]; rfl)),rfl,za j.gb f⟩
 ·clear g; have Y := f.size
  have Z : s < V.heap.size := by omega
  go_wp2_with fail; go_at_call 106; refine (ya N s C O _ l v (.mk 3 x m p d) _ [] _ (j.grown f) i (by decide) R (.inl ⟨rfl,rfl⟩)).mono ?_; rintro e w2 (⟨A,rfl,B⟩ | ⟨r,K,rfl,L,M⟩)
  ·go_wp2_with fail
   go_ret
   exact .inl ⟨y.trans (zm (by rw [yd (t := (.mk 3 x m p d)) (k := 3) rfl,z]; exact (Bool.true_and _).trans (yT (n := 0) A))),rfl,za j.gb (za f B)⟩
  have J2 := zb L; have K2 : Hid (JK s v w w2 K) := (JK.grown f).trans M; clear L M; go_wp2_with fail
  go_ret
  exact .inr ⟨_,K,y.trans (zH (by rw [yd (t := (.mk 3 x m p d)) (k := 3) rfl,z]; exact (Bool.true_and _).trans (yy (n := 0) r))),rfl,J2,K2⟩
theorem cC : JC 151 .ref 24 := by
 intro N s C O w l v x m p d sv h i D u
 have j := zb h; have Q := zb D; have R := zb u; have U := h.lt
 have HV : Hid (∀ b,v.ownBlock = some b -> b < w.heap.size) := fun b hb => (h.room hb).2
 obtain ⟨a,n,c,rfl,_,_,E⟩ := u.any
 change d.length = n at E
 subst E
 have y : Hid (zw .ref (.mk 24 x m p d) = zt (zk (.mk 24 x m p d) 24 true 0 0) (zJ d [])) := by rw [vO]; rfl
 clear h D u
 go_enter Tryz.func151,Tryz.ntmps151
 go_wp2_with fail; go_at_call 105; refine (xk s C (.mk 24 x m p d) _ 0 _ (j.grown gan).c0 (j.grown gan).lex Q ⟨_,_,_,rfl⟩).mono ?_; rintro e V ⟨rfl,g⟩; have f := za gan g; have X := zb ((Box.new w (.mk 24 x m p d) (.slice a d.length c) 24).kept g); obtain ⟨F,G,H,I,J⟩ := X.p
 cases z : (yB (T.mk 24 x m p d).name && zM (.mk 24 x m p d) 0)
 ·clear g; go_wp2_with fail
  go_ret
  exact .inl ⟨y.trans (zm (by rw [yd (t := (.mk 24 x m p d)) (k := 24) rfl,z]; rfl)),rfl,za j.gb f⟩
 ·clear g; have Y := f.size
  have Z : s < V.heap.size := by omega
  go_wp2_with fail; go_at_call 106; refine (ya N s C O _ l v (.mk 24 x m p d) _ [] _ (j.grown f) i (by decide) R (.inl ⟨rfl,rfl⟩)).mono ?_; rintro e w2 (⟨A,rfl,B⟩ | ⟨r,K,rfl,L,M⟩)
  ·go_wp2_with fail
   go_ret
   exact .inl ⟨y.trans (zm (by rw [yd (t := (.mk 24 x m p d)) (k := 24) rfl,z]; exact (Bool.true_and _).trans (yT (n := 0) A))),rfl,za j.gb (za f B)⟩
  have J2 := zb L; have K2 : Hid (JK s v w w2 K) := (JK.grown f).trans M; clear L M; go_wp2_with fail
  go_ret
  exact .inr ⟨_,K,y.trans (zH (by rw [yd (t := (.mk 24 x m p d)) (k := 24) rfl,z]; exact (Bool.true_and _).trans (yy (n := 0) r))),rfl,J2,K2⟩
theorem br : JC 112 .typeName 13 := by
 intro Q z E R w l v x m p d sv h A F B
 have i := zb h; have G := zb F; have U := zb B; have V := h.lt
 have HV : Hid (∀ b,v.ownBlock = some b -> b < w.heap.size) := fun b hb => (h.room hb).2
 obtain ⟨a,n,c,rfl,_,_,J⟩ := B.any
 change d.length = n at J
 subst J
 have H : Hid (zw .typeName (.mk 13 x m p d) = zt (zk (.mk 13 x m p d) 13 true 0 (-1) && decide (d.length <= 1)) (yE d .ref)) := rfl
 cases C : (yB (T.mk 13 x m p d).name && zM (.mk 13 x m p d) 0)
 ·have I : Hid (zw .typeName (.mk 13 x m p d) = none) := H.trans (zm (by rw [yd (t := (.mk 13 x m p d)) (k := 13) rfl,C]; rfl))
  clear h F B
  go_enter Tryz.func112,Tryz.ntmps112
  go_wp2_with fail; go_at_call 105; refine (xk z E (.mk 13 x m p d) _ 0 _ (i.grown gan).c0 (i.grown gan).lex G ⟨_,_,_,rfl⟩).mono ?_; rintro e K ⟨rfl,f⟩; rw [C]; have g := za gan f; have D := zb ((Box.new w (.mk 13 x m p d) (.slice a d.length c) 24).kept f); obtain ⟨j,r,s,u,y⟩ := D.p
  clear f; go_wp2_with fail
  go_ret
  exact .inl ⟨I,rfl,za i.gb g⟩
 ·skip
  by_cases L : d.length <= 1
  ·have X : Hid (zw .typeName (.mk 13 x m p d) = some (yE d .ref)) := H.trans (zH (by rw [yd (t := (.mk 13 x m p d)) (k := 13) rfl,C]; simp [L]))
   clear h F B
   go_enter Tryz.func112,Tryz.ntmps112
   go_wp2_with fail; go_at_call 105; refine (xk z E (.mk 13 x m p d) _ 0 _ (i.grown gan).c0 (i.grown gan).lex G ⟨_,_,_,rfl⟩).mono ?_; rintro e K ⟨rfl,f⟩; rw [C]; have g := za gan f; have D := zb ((Box.new w (.mk 13 x m p d) (.slice a d.length c) 24).kept f); obtain ⟨j,r,s,u,y⟩ := D.p
   clear f; go_wp2_with fail; go_at_call 146; refine (uE Q z E R _ l v d _ .ref _ (i.grown g) A U (.meth .ref _ rfl)).mono ?_; rintro e Y ⟨M,rfl,N,O⟩; have Z := zb N; have K2 : Hid (JK z v w Y M) := (JK.grown g).trans O; clear N O; go_wp2_with fail
   go_ret
   exact .inr ⟨_,M,X,rfl,Z,K2⟩
  ·have I : Hid (zw .typeName (.mk 13 x m p d) = none) := H.trans (zm (by simp [L]))
   have a0 : decide ((d.length : Int) <= 1) = false := by simp; omega
   clear h F B
   go_enter Tryz.func112,Tryz.ntmps112
   go_wp2_with fail; go_at_call 105; refine (xk z E (.mk 13 x m p d) _ 0 _ (i.grown gan).c0 (i.grown gan).lex G ⟨_,_,_,rfl⟩).mono ?_; rintro e K ⟨rfl,f⟩; rw [C]; have g := za gan f; have D := zb ((Box.new w (.mk 13 x m p d) (.slice a d.length c) 24).kept f); obtain ⟨j,r,s,u,y⟩ := D.p
   clear f; go_wp2_with fail
   go_ret
   exact .inl ⟨I,rfl,za i.gb g⟩
theorem cM : JC 149 .designator 25 := by
 intro O s D Q w l v x m p d sv h i E u
 have j := zb h; have R := zb E; have U := zb u; have V := h.lt
 have X : Hid (∀ b,v.ownBlock = some b -> b < w.heap.size) := fun b hb => (h.room hb).2
 obtain ⟨a,n,c,rfl,_,_,F⟩ := u.any
 change d.length = n at F
 subst F
 have y : Hid (zw .designator (.mk 25 x m p d) = zt (zk (.mk 25 x m p d) 25 true 0 1) (zJ d [.designator])) := rfl
 clear h E u
 go_enter Tryz.func149,Tryz.ntmps149
 go_wp2_with fail; go_at_call 105; refine (xk s D (.mk 25 x m p d) _ 0 _ (j.grown gan).c0 (j.grown gan).lex R ⟨_,_,_,rfl⟩).mono ?_; rintro e Y ⟨rfl,g⟩; have f := za gan g; have Z := zb ((Box.new w (.mk 25 x m p d) (.slice a d.length c) 24).kept g); obtain ⟨G,H,I,J,K⟩ := Z.p
 cases z : (yB (T.mk 25 x m p d).name && zM (.mk 25 x m p d) 0)
 ·clear g; go_wp2_with fail
  go_ret
  exact .inl ⟨y.trans (zm (by rw [yd (t := (.mk 25 x m p d)) (k := 25) rfl,z]; rfl)),rfl,za j.gb f⟩
 ·clear g; have a0 := f.size
  have A : s < Y.heap.size := by omega
  go_wp2_with fail; go_at_call 106; refine (ya O s D Q _ l v (.mk 25 x m p d) _ [.designator] _ (j.grown (zf f _)) i (by decide) U (RL.new1 _ _ (.meth .designator _ rfl) (by simpa using A) (fun b hb => by have := id X b hb; omega))).mono ?_; rintro e w2 (⟨B,rfl,C⟩ | ⟨r,L,rfl,M,N⟩)
  ·go_wp2_with fail
   go_ret
   exact .inl ⟨y.trans (zm (by rw [yd (t := (.mk 25 x m p d)) (k := 25) rfl,z]; exact (Bool.true_and _).trans (yT (n := 1) B))),rfl,za j.gb (za (zf f _) C)⟩
  have J2 := zb M; have K2 : Hid (JK s v w w2 L) := (JK.grown (zf f _)).trans N; clear M N; go_wp2_with fail
  go_ret
  exact .inr ⟨_,L,y.trans (zH (by rw [yd (t := (.mk 25 x m p d)) (k := 25) rfl,z]; exact (Bool.true_and _).trans (yy (n := 1) r))),rfl,J2,K2⟩
theorem cI : JC 149 .designator 26 := by
 intro N r O Q w l v x m p d sv h i D s
 have u := zb h; have HF := zb D; have R := zb s; have U := h.lt
 have V : Hid (∀ b,v.ownBlock = some b -> b < w.heap.size) := fun b hb => (h.room hb).2
 obtain ⟨a,n,c,rfl,_,_,E⟩ := s.any
 change d.length = n at E
 subst E
 have y : Hid (zw .designator (.mk 26 x m p d) = zt (zk (.mk 26 x m p d) 26 false 0 2) (zJ d [.designator,.expression])) := rfl
 clear h D s
 go_enter Tryz.func149,Tryz.ntmps149
 go_wp2_with fail; go_at_call 145; refine (zG (.mk 26 x m p d) _ 0 _ ⟨_,_,_,rfl⟩).mono ?_; rintro e X ⟨rfl,g⟩; have f := za gan g; have Y := zb ((Box.new w (.mk 26 x m p d) (.slice a d.length c) 24).kept g); obtain ⟨F,G,H,I,J⟩ := Y.p
 cases z : ((T.mk 26 x m p d).name.isEmpty && zM (.mk 26 x m p d) 0)
 ·clear g; go_wp2_with fail
  go_ret
  exact .inl ⟨y.trans (zm (by rw [zi (t := (.mk 26 x m p d)) (k := 26) rfl,z]; rfl)),rfl,za u.gb f⟩
 ·clear g; have Z := f.size
  have A : r < X.heap.size := by omega
  go_wp2_with fail; go_at_call 106; refine (ya N r O Q _ l v (.mk 26 x m p d) _ [.designator,.expression] _ (u.grown (zf f _)) i (by decide) R (RL.new2 _ _ (.meth .designator _ rfl) (.meth .expression _ rfl) (by simpa using A) (fun b hb => by have := id V b hb; omega))).mono ?_; rintro e w2 (⟨B,rfl,C⟩ | ⟨j,K,rfl,L,M⟩)
  ·go_wp2_with fail
   go_ret
   exact .inl ⟨y.trans (zm (by rw [zi (t := (.mk 26 x m p d)) (k := 26) rfl,z]; exact (Bool.true_and _).trans (yT (n := 2) B))),rfl,za u.gb (za (zf f _) C)⟩
  have J2 := zb L; have K2 : Hid (JK r v w w2 K) := (JK.grown (zf f _)).trans M; clear L M; go_wp2_with fail
  go_ret
  exact .inr ⟨_,K,y.trans (zH (by rw [zi (t := (.mk 26 x m p d)) (k := 26) rfl,z]; exact (Bool.true_and _).trans (yy (n := 2) j))),rfl,J2,K2⟩
theorem iM : JC 149 .designator 27 := by
 intro N r O Q w l v x m p d sv h i D s
 have u := zb h; have HF := zb D; have R := zb s; have U := h.lt
 have V : Hid (∀ b,v.ownBlock = some b -> b < w.heap.size) := fun b hb => (h.room hb).2
 obtain ⟨a,n,c,rfl,_,_,E⟩ := s.any
 change d.length = n at E
 subst E
 have y : Hid (zw .designator (.mk 27 x m p d) = zt (zk (.mk 27 x m p d) 27 false 0 1) (zJ d [.designator])) := rfl
 clear h D s
 go_enter Tryz.func149,Tryz.ntmps149
 go_wp2_with fail; go_at_call 145; refine (zG (.mk 27 x m p d) _ 0 _ ⟨_,_,_,rfl⟩).mono ?_; rintro e X ⟨rfl,g⟩; have f := za gan g; have Y := zb ((Box.new w (.mk 27 x m p d) (.slice a d.length c) 24).kept g); obtain ⟨F,G,H,I,J⟩ := Y.p
 cases z : ((T.mk 27 x m p d).name.isEmpty && zM (.mk 27 x m p d) 0)
 ·clear g; go_wp2_with fail
  go_ret
  exact .inl ⟨y.trans (zm (by rw [zi (t := (.mk 27 x m p d)) (k := 27) rfl,z]; rfl)),rfl,za u.gb f⟩
 ·clear g; have Z := f.size
  have A : r < X.heap.size := by omega
  go_wp2_with fail; go_at_call 106; refine (ya N r O Q _ l v (.mk 27 x m p d) _ [.designator] _ (u.grown (zf f _)) i (by decide) R (RL.new1 _ _ (.meth .designator _ rfl) (by simpa using A) (fun b hb => by have := id V b hb; omega))).mono ?_; rintro e w2 (⟨B,rfl,C⟩ | ⟨j,K,rfl,L,M⟩)
  ·go_wp2_with fail
   go_ret
   exact .inl ⟨y.trans (zm (by rw [zi (t := (.mk 27 x m p d)) (k := 27) rfl,z]; exact (Bool.true_and _).trans (yT (n := 1) B))),rfl,za u.gb (za (zf f _) C)⟩
  have J2 := zb L; have K2 : Hid (JK r v w w2 K) := (JK.grown (zf f _)).trans M; clear L M; go_wp2_with fail
  go_ret
  exact .inr ⟨_,K,y.trans (zH (by rw [zi (t := (.mk 27 x m p d)) (k := 27) rfl,z]; exact (Bool.true_and _).trans (yy (n := 1) j))),rfl,J2,K2⟩
theorem iK : JC 149 .designator 28 := by
 intro N r O Q w l v x m p d sv h i D s
 have u := zb h; have HF := zb D; have R := zb s; have U := h.lt
 have V : Hid (∀ b,v.ownBlock = some b -> b < w.heap.size) := fun b hb => (h.room hb).2
 obtain ⟨a,n,c,rfl,_,_,E⟩ := s.any
 change d.length = n at E
 subst E
 have y : Hid (zw .designator (.mk 28 x m p d) = zt (zk (.mk 28 x m p d) 28 false 0 2) (zJ d [.designator,.typeName])) := rfl
 clear h D s
 go_enter Tryz.func149,Tryz.ntmps149
 go_wp2_with fail; go_at_call 145; refine (zG (.mk 28 x m p d) _ 0 _ ⟨_,_,_,rfl⟩).mono ?_; rintro e X ⟨rfl,g⟩; have f := za gan g; have Y := zb ((Box.new w (.mk 28 x m p d) (.slice a d.length c) 24).kept g); obtain ⟨F,G,H,I,J⟩ := Y.p
 cases z : ((T.mk 28 x m p d).name.isEmpty && zM (.mk 28 x m p d) 0)
 ·clear g; go_wp2_with fail
  go_ret
  exact .inl ⟨y.trans (zm (by rw [zi (t := (.mk 28 x m p d)) (k := 28) rfl,z]; rfl)),rfl,za u.gb f⟩
 ·clear g; have Z := f.size
  have A : r < X.heap.size := by omega
  go_wp2_with fail; go_at_call 106; refine (ya N r O Q _ l v (.mk 28 x m p d) _ [.designator,.typeName] _ (u.grown (zf f _)) i (by decide) R (RL.new2 _ _ (.meth .designator _ rfl) (.meth .typeName _ rfl) (by simpa using A) (fun b hb => by have := id V b hb; omega))).mono ?_; rintro e w2 (⟨B,rfl,C⟩ | ⟨j,K,rfl,L,M⟩)
  ·go_wp2_with fail
   go_ret
   exact .inl ⟨y.trans (zm (by rw [zi (t := (.mk 28 x m p d)) (k := 28) rfl,z]; exact (Bool.true_and _).trans (yT (n := 2) B))),rfl,za u.gb (za (zf f _) C)⟩
  have J2 := zb L; have K2 : Hid (JK r v w w2 K) := (JK.grown (zf f _)).trans M; clear L M; go_wp2_with fail
  go_ret
  exact .inr ⟨_,K,y.trans (zH (by rw [zi (t := (.mk 28 x m p d)) (k := 28) rfl,z]; exact (Bool.true_and _).trans (yy (n := 2) j))),rfl,J2,K2⟩
set_option maxHeartbeats 1000000
theorem fY {l : List T} {i : Nat} {u : T} (hu : l[i]? = some u) : zx (l.take (i + 1)) = zx (l.take i) + zn u := by
 rw [List.take_add_one,hu,vX]
 simp [zx]
theorem uV (l m : List T) : yS (l ++ m) = max (yS l) (yS m) := by
 induction l with
 | nil => rw [List.nil_append,yS]; omega
 | cons t l ih => rw [List.cons_append,yS,yS,ih]; omega
theorem dX {l : List T} {i : Nat} {u : T} (hu : l[i]? = some u) : yS (l.take (i + 1)) = max (yS (l.take i)) (zS u) := by
 rw [List.take_add_one,hu,uV]
 simp [yS]
theorem uf (t : T) : zS t = 1 + yS t.subs := by obtain ⟨_,_,_,_,_⟩ := t; rw [zS]; rfl
theorem pF (l : List T) (i : Nat) : zx (l.take i) <= zx l := by
 have h : zx (l.take i ++ l.drop i) = zx (l.take i) + zx (l.drop i) := vX _ _; rw [List.take_append_drop] at h
 omega
theorem pn (l : List T) (i : Nat) : yS (l.take i) <= yS l := by
 have h : yS (l.take i ++ l.drop i) = max (yS (l.take i)) (yS (l.drop i)) := uV _ _; rw [List.take_append_drop] at h
 omega
theorem sE (t : T) (IH : ∀ u,u ∈ t.subs -> ∀ (sv : Value) (w : World) (most : Nat),most <= 3000 -> AT w u.subs sv -> Calls Tryz.prog 35 #[zq u sv,.int .i64 most] w (Sy w (.int .i64 ↑(min (zn u) (most + 1)))))
  (sv : Value) (w : World) (most : Nat) (hm : most <= 3000) (ha : AT w t.subs sv) : Calls Tryz.prog 35 #[zq t sv,.int .i64 most] w (Sy w (.int .i64 ↑(min (zn t) (most + 1)))) := by
 obtain ⟨d,x,m,p,l⟩ := t; have J := zb ha; have K := zb IH; obtain ⟨a,n,c,rfl,_,_,B⟩ := ha.any
 change l.length = n at B
 subst B; clear ha IH
 change Calls Tryz.prog 35 #[.agg #[.int .i64 d,.string ⟨x.toArray⟩,.int .i64 m,.int .i64 p,.slice a l.length c],.int .i64 most] w _
 go_enter Tryz.func35,Tryz.ntmps35
 go_wp2_with fail
 go_loopw [5,6] (fun kv iv wr => ∃ (k i : Nat),i <= l.length /\ k <= 3001 /\ iv = .int .i64 ↑i /\ kv = .int .i64 ↑k /\ Hid (k = min (1 + zx (l.take i)) (most + 1)) /\ Hid (w.grownBy wr none) /\ Hid (Box wr w.heap.size (.mk d x m p l) (.slice a l.length c))) (fun _ iv _ => l.length - (intOf iv).toNat)
 case atStart => exact ⟨1,0,Nat.zero_le _,by omega,rfl,rfl,by show _ = _; simp [zx],zf grn _,Box.new w (.mk d x m p l) (.slice a l.length c) 24⟩
 case round =>
  obtain ⟨k,i,_,_,rfl,rfl,s,h,C⟩ := hrel; obtain ⟨_,_,_,_,_⟩ := C.out
  by_cases v : i < l.length
  ·by_cases L : k <= most
   ·obtain ⟨u,j⟩ : ∃ u,l[i]? = some u := ⟨_,List.getElem?_eq_getElem v⟩
    obtain ⟨g,o,D,M,N,-,E⟩ := (J.out.kept h.out).node i u j; cases M
    have F : Hid (k + min (zn u) (most - k + 1) = min (1 + zx (l.take (i + 1))) (most + 1)) := by
     show _ = _
     have y := s.out; rw [fY j]
     omega
    have G := zb (fun w' => K.out u (List.mem_of_getElem? j) D w' (most - k) (by omega)); have O := zb E
    have b : ((most - k : Nat) : Int) = (most : Int) - (k : Int) := by omega
    obtain ⟨_,_,_,_,_⟩ := N; clear j E
    have Q : Hid (Calls Tryz.prog 35 #[zq u D,.int .i64 ((most : Int) - (k : Int))] wr (Sy wr (.int .i64 ↑(min (zn u) (most - k + 1))))) := by
     have H := G.out wr O.out; rw [b] at H
     exact H
    have R : min (zn u) (most - k + 1) <= 3001 := by omega
    clear G b
    generalize min (zn u) (most - k + 1) = r at *
    go_wp2_with fail; go_at_call 35; refine Q.out.mono ?_; rintro e Y ⟨rfl,f⟩; have U := zb (za h.out f); have V := zb (C.out.kept f); clear f
    have z : k + r <= 3001 := by have := F.out; omega
    go_wp2_with fail
    exact ⟨⟨k + r,i + 1,by omega,z,by go_num,by go_num,F,U,V⟩,by simp [intOf]; omega⟩
   ·have A : Hid (k = min (zn (T.mk d x m p l)) (most + 1)) := by
     show _ = _
     have y := s.out; have Z := pF l i; have X : zn (T.mk d x m p l) = 1 + zx l := um _
     omega
    have I : decide ((k : Int) <= (most : Int)) = false := by simp; omega
    go_wp2_with fail
    go_ret
    exact ⟨by rw [A.out]; rfl,h.out⟩
  ·have A : Hid (k = min (zn (T.mk d x m p l)) (most + 1)) := by
    show _ = _
    have y := s.out; rw [List.take_of_length_le (by omega)] at y; have X : zn (T.mk d x m p l) = 1 + zx l := um _
    omega
   go_wp2_with fail
   go_ret
   exact ⟨by rw [A.out]; rfl,h.out⟩
theorem gB (t : T) : ∀ (sv : Value) (w : World) (most : Nat),most <= 3000 -> AT w t.subs sv -> Calls Tryz.prog 35 #[zq t sv,.int .i64 most] w (Sy w (.int .i64 ↑(min (zn t) (most + 1)))) :=
 fun sv w most hm ha => sE t (fun u _hu => gB u) sv w most hm ha
 termination_by SizeOf.sizeOf t
 decreasing_by
  obtain ⟨_,_,_,_,l⟩ := t; have h9 := List.sizeOf_lt_of_mem (show u ∈ l from _hu); simp only [T.mk.sizeOf_spec]
  omega
theorem oc (t : T) (IH : ∀ u,u ∈ t.subs -> ∀ (sv : Value) (w : World) (most : Nat),most <= 60 -> AT w u.subs sv -> Calls Tryz.prog 36 #[zq u sv,.int .i64 most] w (Sy w (.int .i64 ↑(min (zS u) (most + 1)))))
  (sv : Value) (w : World) (most : Nat) (hm : most <= 60) (ha : AT w t.subs sv) : Calls Tryz.prog 36 #[zq t sv,.int .i64 most] w (Sy w (.int .i64 ↑(min (zS t) (most + 1)))) := by
 obtain ⟨h,x,m,p,l⟩ := t; have O := zb ha; have Q := zb IH; obtain ⟨a,n,c,rfl,_,_,H⟩ := ha.any
 change l.length = n at H
 subst H; clear ha IH
 change Calls Tryz.prog 36 #[.agg #[.int .i64 h,.string ⟨x.toArray⟩,.int .i64 m,.int .i64 p,.slice a l.length c],.int .i64 most] w _
 go_enter Tryz.func36,Tryz.ntmps36
 go_wp2_with fail
 go_loopw [5,6] (fun kv iv wr => ∃ (k i : Nat),i <= l.length /\ k <= 60 /\ iv = .int .i64 ↑i /\ kv = .int .i64 ↑k /\ Hid (k = min (yS (l.take i)) most) /\ Hid (w.grownBy wr none) /\ Hid (Box wr w.heap.size (.mk h x m p l) (.slice a l.length c))) (fun _ iv _ => l.length - (intOf iv).toNat)
 case atStart => exact ⟨0,0,Nat.zero_le _,by omega,rfl,rfl,by show _ = _; simp [yS],zf grn _,Box.new w (.mk h x m p l) (.slice a l.length c) 24⟩
 case round =>
  obtain ⟨k,i,_,R,rfl,rfl,y,j,z⟩ := hrel; obtain ⟨_,_,_,_,_⟩ := z.out; have A : zS (T.mk h x m p l) = 1 + yS l := uf _
  by_cases B : i < l.length
  ·by_cases U : k < most
   ·obtain ⟨u,s⟩ : ∃ u,l[i]? = some u := ⟨_,List.getElem?_eq_getElem B⟩
    obtain ⟨g,o,I,V,X,-,J⟩ := (O.out.kept j.out).node i u s; cases V
    have v : Hid (max k (min (zS u) (most - 1 + 1)) = min (yS (l.take (i + 1))) most) := by
     show _ = _
     have C := y.out; rw [dX s]
     omega
    have K := zb (fun w' => Q.out u (List.mem_of_getElem? s) I w' (most - 1) (by omega)); have Y := zb J
    have d : ((most - 1 : Nat) : Int) = (most : Int) - 1 := by omega
    obtain ⟨_,_,_,_,_⟩ := X; clear s J A
    have L : Hid (Calls Tryz.prog 36 #[zq u I,.int .i64 ((most : Int) - 1)] wr (Sy wr (.int .i64 ↑(min (zS u) (most - 1 + 1))))) := by
     have M := K.out wr Y.out; rw [d] at M
     exact M
    have D : min (zS u) (most - 1 + 1) <= 60 := by omega
    clear K d
    generalize min (zS u) (most - 1 + 1) = r at *
    by_cases Z : k < r
    ·have f : Hid (r = min (yS (l.take (i + 1))) most) := by show _ = _; have := v.out; omega
     clear v; go_wp2_with fail; go_at_call 36; refine L.out.mono ?_; rintro e w1 ⟨rfl,b⟩; have E := zb (za j.out b); have F := zb (z.out.kept b); clear b; go_wp2_with fail
     exact ⟨⟨r,i + 1,by omega,D,by go_num,rfl,f,E,F⟩,by simp [intOf]; omega⟩
    ·have f : Hid (k = min (yS (l.take (i + 1))) most) := by show _ = _; have := v.out; omega
     clear v; go_wp2_with fail; go_at_call 36; refine L.out.mono ?_; rintro e w1 ⟨rfl,b⟩; have E := zb (za j.out b); have F := zb (z.out.kept b); clear b; go_wp2_with fail
     exact ⟨⟨k,i + 1,by omega,R,by go_num,rfl,f,E,F⟩,by simp [intOf]; omega⟩
   ·have G : Hid (k + 1 = min (zS (T.mk h x m p l)) (most + 1)) := by
     show _ = _
     have C := y.out; have h2 := pn l i
     omega
    have N : decide ((k : Int) < (most : Int)) = false := by simp; omega
    clear A; go_wp2_with fail
    go_ret
    exact ⟨by rw [<- G.out]; go_num,j.out⟩
  ·have G : Hid (k + 1 = min (zS (T.mk h x m p l)) (most + 1)) := by
    show _ = _
    have C := y.out; rw [List.take_of_length_le (by omega)] at C
    omega
   clear A; go_wp2_with fail
   go_ret
   exact ⟨by rw [<- G.out]; go_num,j.out⟩
theorem tf (t : T) : ∀ (sv : Value) (w : World) (most : Nat),most <= 60 -> AT w t.subs sv -> Calls Tryz.prog 36 #[zq t sv,.int .i64 most] w (Sy w (.int .i64 ↑(min (zS t) (most + 1)))) :=
 fun sv w most hm ha => oc t (fun u _hu => tf u) sv w most hm ha
 termination_by SizeOf.sizeOf t
 decreasing_by
  obtain ⟨_,_,_,_,l⟩ := t; have h9 := List.sizeOf_lt_of_mem (show u ∈ l from _hu); simp only [T.mk.sizeOf_spec]
  omega
def vS (t : T) : Bool := decide (3000 < zn t \/ 60 < zS t)
theorem dS (t : T) (sv : Value) (w : World) (ha : AT w t.subs sv) : Calls Tryz.prog 13 #[zq t sv] w (Sy w (.bool (vS t))) := by
 obtain ⟨b,x,m,p,l⟩ := t; have i := zb ha; obtain ⟨a,n,c,rfl,_,_,k⟩ := ha.any
 change l.length = n at k
 subst k; clear ha
 change Calls Tryz.prog 13 #[.agg #[.int .i64 b,.string ⟨x.toArray⟩,.int .i64 m,.int .i64 p,.slice a l.length c]] w _
 have s := fun w' h => zb (gB (.mk b x m p l) (.slice a l.length c) w' 3000 (by omega) h)
 have v := fun w' h => zb (tf (.mk b x m p l) (.slice a l.length c) w' 60 (by omega) h)
 have D : min (zn (T.mk b x m p l)) (3000 + 1) <= 3001 := by omega
 have E : min (zS (T.mk b x m p l)) (60 + 1) <= 61 := by omega
 have y : Hid (vS (.mk b x m p l) = decide (3000 < min (zn (T.mk b x m p l)) (3000 + 1) \/ 60 < min (zS (T.mk b x m p l)) (60 + 1))) := by
  show _ = _
  unfold vS
  congr 1
  rw [eq_iff_iff]
  omega
 generalize min (zn (T.mk b x m p l)) (3000 + 1) = r at *
 generalize min (zS (T.mk b x m p l)) (60 + 1) = d at *
 rw [y.out]
 by_cases u : 3000 < r
 ·rw [decide_eq_true (Or.inl u)]
  go_enter Tryz.func13,Tryz.ntmps13
  go_wp2_with fail; go_at_call 35; refine (s _ (i.out.kept gan)).out.mono ?_; rintro e z ⟨rfl,f⟩; have g := zb (za gan f); go_wp2_with fail
  go_ret
  exact ⟨rfl,g.out⟩
 ·rw [show decide (3000 < r \/ 60 < d) = decide (60 < d) by simp [u]]
  have A : decide ((3000 : Int) < (r : Int)) = false := by simp; omega
  go_enter Tryz.func13,Tryz.ntmps13
  go_wp2_with fail; go_at_call 35; refine (s _ (i.out.kept gan)).out.mono ?_; rintro e z ⟨rfl,f⟩; have g := zb (za gan f); have B := zb ((Box.new w (.mk b x m p l) (.slice a l.length c) 24).kept f); obtain ⟨_,_,_,_,_⟩ := B.out; go_wp2_with fail; go_at_call 36; refine (v _ (i.out.kept g.out)).out.mono ?_; rintro e F ⟨rfl,j⟩; have C := zb (za g.out j); go_wp2_with fail
  go_ret
  refine ⟨jI ?_,C.out⟩; rw [Bool.eq_iff_iff]
  simp
  omega
theorem aN (x : Bs) (m p : Int) (u : T) (E : Bs) (sv : Value) (w : World) (hx : x.length <= 12) (ha : AT w (T.mk 25 x m p [u]).subs sv) (he : ETx w u E) :
    Calls Tryz.prog 68 #[.agg #[.int .i64 25,.string ⟨x.toArray⟩,.int .i64 m,.int .i64 p,sv]] w (Sy w (.string ⟨(E ++ (46 :: x)).toArray⟩)) := by
  obtain ⟨g,o,c,i,v,rfl,y,z,d,j,k,f⟩ := ha.one rfl
  have l : u = i := by simpa [T.subs] using d
  subst l; obtain ⟨n,_,_,_,_⟩ := j; have r := zc n; obtain ⟨_,b⟩ := he; have s := zb f; have b := zb b; clear ha d k f
  go_enter Tryz.func68,Tryz.ntmps68
  have A : ¬ (9223372036854775807 < E.length + 1) := by omega
  have B : ¬ (9223372036854775807 < E.length + 1 + x.length) := by omega
  have C : (E.length + 1 + x.length <= 9223372036854775807) := by omega
  have D : (E.length + 1 <= 9223372036854775807) := by omega
  go_wp2_with fail
  go_region_with
    (go_at_call 68
     refine (b _ _ (yl gan _) (s.kept (yl gan _))).mono ?_; rintro e F ⟨rfl,a⟩; have h := za (yl gan _) a; have t := zb ((Box.new w (.mk 25 x m p [u]) (.slice (some ⟨g,o,none⟩) 1 c) 24).kept (za (yl grn _) a))
     obtain ⟨_,_,_,_,_⟩ := t)
  all_goals
    go_wp2_with fail
    go_ret
    refine ⟨zU ?_,?_⟩
    · rw [show (⟨#[46]⟩ : ByteArray) = ⟨[46].toArray⟩ from rfl,zC,zC]
      simp [T.name]
    · first | exact h | exact yl h _
set_option maxHeartbeats 4000000
theorem lH (x : Bs) (m p : Int) (l : List T) (sv : Value) (w : World) (hk : KW w) (hf : Fits (.mk 24 x m p l)) (ha : AT w (T.mk 24 x m p l).subs sv) :
  Calls Tryz.prog 99 #[.agg #[.int .i64 24,.string ⟨x.toArray⟩,.int .i64 m,.int .i64 p,sv]] w (Sy w (.bool (zh .designator (.mk 24 x m p l)))) := by
 have f := zb (zs (r := .designator) (t := (.mk 24 x m p l)) (c := zk (.mk 24 x m p l) 24 true 0 0) (l := []) rfl); have k := zb hk; have s := zb hf; have g := zb ha; obtain ⟨a,n,c,rfl,-⟩ := ha.any; clear hk hf ha
 go_enter Tryz.func99,Tryz.ntmps99
 go_wp2_with fail; go_at_call 37; refine (zA (.mk 24 x m p l) _ 24 0 0 true _ (k.kept gan) s (g.kept gan)).mono ?_; rintro e v ⟨rfl,b⟩; have h := za gan b; have i := zb ((Box.new w (.mk 24 x m p l) (.slice a n c) 24).kept b); cases d : zk (.mk 24 x m p l) 24 true 0 0
 ·obtain ⟨_,_,_,_,_⟩ := id i
  go_wp2_with fail
  go_ret
  exact ⟨by rw [f.out,d]; rfl,h⟩
 ·obtain ⟨_,_,u,_,j⟩ := g.zero (z8 (n := 0) d)
  cases u
  change l = [] at j
  subst j; obtain ⟨_,_,_,_,_⟩ := id i; go_wp2_with fail
  go_ret
  exact ⟨by rw [f.out,d]; rfl,h⟩
theorem lq (x : Bs) (m p : Int) (l : List T) (sv : Value) (w : World) (hk : KW w) (hf : Fits (.mk 25 x m p l)) (ha : AT w (T.mk 25 x m p l).subs sv) (IH : ∀ u,u ∈ l -> ShOK u) :
  Calls Tryz.prog 99 #[.agg #[.int .i64 25,.string ⟨x.toArray⟩,.int .i64 m,.int .i64 p,sv]] w (Sy w (.bool (zh .designator (.mk 25 x m p l)))) := by
 have i := zb (zs (r := .designator) (t := (.mk 25 x m p l)) (c := zk (.mk 25 x m p l) 25 true 0 1) (l := zJ l [.designator]) rfl); have j := zb hk; have C := zb hf; have k := zb ha; have D := zb IH; obtain ⟨a,n,c,rfl,-⟩ := ha.any; clear hk hf ha IH
 go_enter Tryz.func99,Tryz.ntmps99
 go_wp2_with fail; go_at_call 37; refine (zA (.mk 25 x m p l) _ 25 0 1 true _ (j.kept gan) C (k.kept gan)).mono ?_; rintro e K ⟨rfl,b⟩; have d := za gan b; have g := zb ((Box.new w (.mk 25 x m p l) (.slice a n c) 24).kept b); cases h : zk (.mk 25 x m p l) 25 true 0 1
 ·obtain ⟨_,_,_,_,_⟩ := id g
  go_wp2_with fail
  go_ret
  exact ⟨by rw [i.out,h]; rfl,d⟩
 ·obtain ⟨_,_,c,u,_,E,_,_,s,v,y,z⟩ := k.one (z8 (n := 1) h)
  cases E
  change l = [u] at s
  subst s; have A := zb v; have F := zb y; have G := zb z; have H := zb (D u (by simp)); clear y z v; obtain ⟨_,_,_,_,_⟩ := id g; obtain ⟨_,_,_,_,_⟩ := A.kept d; go_wp2_with fail; go_at_call 99; refine (H.desig _ _ (j.kept d) F (G.kept d)).mono ?_; rintro e L ⟨rfl,f⟩; have B := za d f; have I := g.kept f; cases J : zh .designator u
  all_goals
   obtain ⟨_,_,_,_,_⟩ := id I; obtain ⟨_,_,_,_,_⟩ := A.kept B; go_wp2_with fail
   go_ret
   exact ⟨by rw [i.out,h]; simp [zJ,J],B⟩
theorem lL (x : Bs) (m p : Int) (l : List T) (sv : Value) (w : World) (hk : KW w) (hf : Fits (.mk 27 x m p l)) (ha : AT w (T.mk 27 x m p l).subs sv) (IH : ∀ u,u ∈ l -> ShOK u) :
  Calls Tryz.prog 99 #[.agg #[.int .i64 27,.string ⟨x.toArray⟩,.int .i64 m,.int .i64 p,sv]] w (Sy w (.bool (zh .designator (.mk 27 x m p l)))) := by
 have i := zb (zs (r := .designator) (t := (.mk 27 x m p l)) (c := zk (.mk 27 x m p l) 27 false 0 1) (l := zJ l [.designator]) rfl); have j := zb hk; have C := zb hf; have k := zb ha; have D := zb IH; obtain ⟨a,n,c,rfl,-⟩ := ha.any; clear hk hf ha IH
 go_enter Tryz.func99,Tryz.ntmps99
 go_wp2_with fail; go_at_call 37; refine (zA (.mk 27 x m p l) _ 27 0 1 false _ (j.kept gan) C (k.kept gan)).mono ?_; rintro e K ⟨rfl,b⟩; have d := za gan b; have g := zb ((Box.new w (.mk 27 x m p l) (.slice a n c) 24).kept b); cases h : zk (.mk 27 x m p l) 27 false 0 1
 ·obtain ⟨_,_,_,_,_⟩ := id g
  go_wp2_with fail
  go_ret
  exact ⟨by rw [i.out,h]; rfl,d⟩
 ·obtain ⟨_,_,c,u,_,E,_,_,s,v,y,z⟩ := k.one (z8 (n := 1) h)
  cases E
  change l = [u] at s
  subst s; have A := zb v; have F := zb y; have G := zb z; have H := zb (D u (by simp)); clear y z v; obtain ⟨_,_,_,_,_⟩ := id g; obtain ⟨_,_,_,_,_⟩ := A.kept d; go_wp2_with fail; go_at_call 99; refine (H.desig _ _ (j.kept d) F (G.kept d)).mono ?_; rintro e L ⟨rfl,f⟩; have B := za d f; have I := g.kept f; cases J : zh .designator u
  all_goals
   obtain ⟨_,_,_,_,_⟩ := id I; obtain ⟨_,_,_,_,_⟩ := A.kept B; go_wp2_with fail
   go_ret
   exact ⟨by rw [i.out,h]; simp [zJ,J],B⟩
theorem lf (x : Bs) (m p : Int) (l : List T) (sv : Value) (w : World) (hk : KW w) (hf : Fits (.mk 26 x m p l)) (ha : AT w (T.mk 26 x m p l).subs sv) (IH : ∀ u,u ∈ l -> ShOK u) :
  Calls Tryz.prog 99 #[.agg #[.int .i64 26,.string ⟨x.toArray⟩,.int .i64 m,.int .i64 p,sv]] w (Sy w (.bool (zh .designator (.mk 26 x m p l)))) := by
 have s := zb (zs (r := .designator) (t := (.mk 26 x m p l)) (c := zk (.mk 26 x m p l) 26 false 0 2) (l := zJ l [.designator,.expression]) rfl); have y := zb hk; have M := zb hf; have C := zb ha; have D := zb IH; obtain ⟨a,n,c,rfl,-⟩ := ha.any; clear hk hf ha IH
 go_enter Tryz.func99,Tryz.ntmps99
 go_wp2_with fail; go_at_call 37; refine (zA (.mk 26 x m p l) _ 26 0 2 false _ (y.kept gan) M (C.kept gan)).mono ?_; rintro e w1 ⟨rfl,f⟩; have d := za gan f; have z := zb ((Box.new w (.mk 26 x m p l) (.slice a n c) 24).kept f); cases i : zk (.mk 26 x m p l) 26 false 0 2
 ·obtain ⟨_,_,_,_,_⟩ := id z
  go_wp2_with fail
  go_ret
  exact ⟨by rw [s.out,i]; rfl,d⟩
 ·obtain ⟨_,_,c,u,_,v,_,N,_,_,E,F,G,H,I,J,K⟩ := C.two (z8 (n := 2) i)
  cases N
  change l = [u,v] at E
  subst E; have j := zb F; have O := zb G; have Q := zb H; have k := zb I; have R := zb J; have U := zb K; have V := zb (D u (by simp)); have X := zb (D v (by simp)); clear G H F J K I; obtain ⟨_,_,_,_,_⟩ := id z; obtain ⟨_,_,_,_,_⟩ := j.kept d; obtain ⟨_,_,_,_,_⟩ := k.kept d; go_wp2_with fail; go_at_call 99; refine (V.desig _ _ (y.kept d) O (Q.kept d)).mono ?_; rintro e w2 ⟨rfl,g⟩; have b := za d g; have A := z.kept g; cases L : zh .designator u
  ·obtain ⟨_,_,_,_,_⟩ := id A
   obtain ⟨_,_,_,_,_⟩ := j.kept b; obtain ⟨_,_,_,_,_⟩ := k.kept b; go_wp2_with fail
   go_ret
   exact ⟨by rw [s.out,i]; simp [zJ,L],b⟩
  ·obtain ⟨_,_,_,_,_⟩ := id A
   obtain ⟨_,_,_,_,_⟩ := j.kept b; obtain ⟨_,_,_,_,_⟩ := k.kept b; go_wp2_with fail; go_at_call 63; refine (X.expr _ _ (y.kept b) R (U.kept b)).mono ?_; rintro e w3 ⟨rfl,h⟩; have B := za b h; have Y := A.kept h; cases Z : zh .expression v
   all_goals
    obtain ⟨_,_,_,_,_⟩ := id Y; obtain ⟨_,_,_,_,_⟩ := j.kept B; obtain ⟨_,_,_,_,_⟩ := k.kept B; go_wp2_with fail
    go_ret
    exact ⟨by rw [s.out,i]; simp [zJ,L,Z],B⟩
theorem my (x : Bs) (m p : Int) (l : List T) (sv : Value) (w : World) (hk : KW w) (hf : Fits (.mk 28 x m p l)) (ha : AT w (T.mk 28 x m p l).subs sv) (IH : ∀ u,u ∈ l -> ShOK u) :
  Calls Tryz.prog 99 #[.agg #[.int .i64 28,.string ⟨x.toArray⟩,.int .i64 m,.int .i64 p,sv]] w (Sy w (.bool (zh .designator (.mk 28 x m p l)))) := by
 have s := zb (zs (r := .designator) (t := (.mk 28 x m p l)) (c := zk (.mk 28 x m p l) 28 false 0 2) (l := zJ l [.designator,.typeName]) rfl); have y := zb hk; have M := zb hf; have C := zb ha; have D := zb IH; obtain ⟨a,n,c,rfl,-⟩ := ha.any; clear hk hf ha IH
 go_enter Tryz.func99,Tryz.ntmps99
 go_wp2_with fail; go_at_call 37; refine (zA (.mk 28 x m p l) _ 28 0 2 false _ (y.kept gan) M (C.kept gan)).mono ?_; rintro e Z ⟨rfl,f⟩; have d := za gan f; have z := zb ((Box.new w (.mk 28 x m p l) (.slice a n c) 24).kept f); cases i : zk (.mk 28 x m p l) 28 false 0 2
 ·obtain ⟨_,_,_,_,_⟩ := id z
  go_wp2_with fail
  go_ret
  exact ⟨by rw [s.out,i]; rfl,d⟩
 ·obtain ⟨_,_,c,u,_,v,_,N,_,_,E,F,G,H,I,J,K⟩ := C.two (z8 (n := 2) i)
  cases N
  change l = [u,v] at E
  subst E; have j := zb F; have O := zb G; have Q := zb H; have k := zb I; have R := zb J; have U := zb K; have V := zb (D u (by simp)); have IV := zb (D v (by simp)); clear G H F J K I; obtain ⟨_,_,_,_,_⟩ := id z; obtain ⟨_,_,_,_,_⟩ := j.kept d; obtain ⟨_,_,_,_,_⟩ := k.kept d; go_wp2_with fail; go_at_call 99; refine (V.desig _ _ (y.kept d) O (Q.kept d)).mono ?_; rintro e w2 ⟨rfl,g⟩; have b := za d g; have A := z.kept g; cases L : zh .designator u
  ·obtain ⟨_,_,_,_,_⟩ := id A
   obtain ⟨_,_,_,_,_⟩ := j.kept b; obtain ⟨_,_,_,_,_⟩ := k.kept b; go_wp2_with fail
   go_ret
   exact ⟨by rw [s.out,i]; simp [zJ,L],b⟩
  ·obtain ⟨_,_,_,_,_⟩ := id A
   obtain ⟨_,_,_,_,_⟩ := j.kept b; obtain ⟨_,_,_,_,_⟩ := k.kept b; go_wp2_with fail; go_at_call 65; refine (yF _ _ _ (y.kept b) R (U.kept b)).mono ?_; rintro e w3 ⟨rfl,h⟩; have B := za b h; have X := A.kept h; cases Y : zh .typeName v
   all_goals
    obtain ⟨_,_,_,_,_⟩ := id X; obtain ⟨_,_,_,_,_⟩ := j.kept B; obtain ⟨_,_,_,_,_⟩ := k.kept B; go_wp2_with fail
    go_ret
    exact ⟨by rw [s.out,i]; simp [zJ,L,Y],B⟩
set_option maxHeartbeats 1000000
theorem yL (l : List T) (sv : Value) (w : World) (hk : KW w) (IH : ∀ u,u ∈ l -> ShOK u) (ha : AT w l sv) :
  Calls Tryz.prog 100 #[sv] w (Sy w (.bool (l.all (zh .expression)))) := by
 obtain ⟨_,_,rfl,_,A⟩ := ha.form; have n := zb hk; have B := zb ha; have C := zb IH; clear hk ha IH
 unfold maxLen at A
 go_enter Tryz.func100,Tryz.ntmps100
 go_wp2_with fail
 go_loopw [3] (fun iv wr => ∃ j : Nat,j <= l.length /\ iv = .int .i64 j /\ Hid ((l.take j).all (zh .expression) = true) /\ Hid (w.grownBy wr none)) (fun iv _ => l.length - (intOf iv).toNat)
 case atStart => exact ⟨0,Nat.zero_le _,rfl,by show _ = _; simp,zj w none⟩
 case round =>
  obtain ⟨j,_,rfl,HB,d⟩ := hrel
  by_cases h : j < l.length
  ·obtain ⟨u,f⟩ : ∃ u,l[j]? = some u := ⟨_,List.getElem?_eq_getElem h⟩
   have a : u ∈ l := List.mem_of_getElem? f; obtain ⟨_,_,r,D,E,s,t⟩ := (B.kept d).node j u f; subst D
   have v : Hid ((l.take (j + 1)).all (zh .expression) = zh .expression u) := by
    show _ = _
    have F : l.take (j + 1) = l.take j ++ [u] := by rw [List.take_add_one,f]; rfl
    rw [F,List.all_append,HB.out]; simp
   have x := zb (C u a); have y := zb s; have z := zb t; obtain ⟨_,_,_,_,_⟩ := E; clear f a s t; cases g : zh .expression u
   ·have i : Hid (l.all (zh .expression) = false) := by
     show _ = _
     rw [<- List.take_append_drop (j + 1) l,List.all_append,v.out,g]; rfl
    rw [i.out]; go_wp2_with fail; go_at_call 63; refine (x.expr r _ (n.kept d) y z).mono ?_; rintro e G ⟨rfl,b⟩; rw [g]; have k := za d b; go_wp2_with fail
    go_ret
    exact ⟨rfl,k⟩
   ·go_wp2_with fail
    go_at_call 63; refine (x.expr r _ (n.kept d) y z).mono ?_; rintro e G ⟨rfl,b⟩; rw [g]; have k := za d b; have m : Hid ((l.take (j + 1)).all (zh .expression) = true) := v.trans g; go_wp2_with fail
    exact ⟨⟨j + 1,by omega,by go_num,m,k⟩,by simp [intOf]; omega⟩
  ·have i : Hid (l.all (zh .expression) = true) := by
    have := id HB; rw [List.take_of_length_le (by omega)] at this
    exact this
   go_wp2_with fail
   go_ret
   exact ⟨by rw [i.out]; rfl,d⟩
def xP (t : T) : Bool := decide (t.kind = 17) && decide ((zI t 0).kind = 31)
def xj (t : T) : Option Int := if t.kind = 29 then some t.num else if t.kind = 35 /\ (zI t 0).kind = 29 then some (-(zI t 0).num) else none
def vn (b : Bool) (p : Int) : T := .mk (if b then 30 else 31) [] 0 p []
def jw (v p : Int) : T := if v < 0 then .mk 35 [] 0 p [.mk 29 [] (-v) p []] else .mk 29 [] v p []
def arZ (n : Int) : Int := (n + 2147483648) % 4294967296 - 2147483648
def opZ (x : Bs) (a b : Int) : Option Int :=
 if x = [43] then some (arZ (a + b)) else if x = [45] then some (arZ (a - b)) else if x = [42] then some (arZ (a * b)) else
 if b <= 0 then none else if x = [77,79,68] then some (a % b) else some (a / b)
def yD (x : Bs) (a b : Int) : Bool :=
 if x = [61] then decide (a = b) else if x = [35] then decide (a ≠ b) else if x = [60] then decide (a < b) else if x = [60,61] then decide (a <= b) else if x = [62] then decide (a > b) else decide (a ≥ b)
def xo (t : T) (a b : Int) : T :=
 if zo t.name = 0 then vn (yD t.name a b) t.at' else
 match opZ t.name a b with
 | some z => if z = -2147483648 then t else jw z t.at'
 | none => t
def opT (t : T) : T :=
 if t.name = [38] \/ t.name = [79,82] then
  (if (zI t 0).kind = 30 then (if t.name = [38] then zI t 1 else zI t 0) else if (zI t 0).kind = 31 then (if t.name = [38] then zI t 0 else zI t 1) else t)
 else
  match xj (zI t 0),xj (zI t 1) with
  | some a,some b => xo t a b
  | _,_ => t
def yo (t : T) : T :=
 if t.kind = 34 then (if (zI t 0).kind = 30 then vn false t.at' else if (zI t 0).kind = 31 then vn true t.at' else t) else
 if t.kind = 36 then opT t else t
mutual
def yh : T -> T
 | .mk k x n p l => yo (.mk k x n p (ym l))
def ym : List T -> List T
 | [] => []
 | t :: l => if xP (yh t) then ym l else yh t :: ym l
end
inductive GT : T -> Prop
 | mk (k : Int) (x : Bs) (n p : Int) (l : List T) (hl : ∀ u ∈ l,GT u) (h1 : k = 34 \/ k = 35 -> l.length = 1) (h2 : k = 36 -> l.length = 2 /\ 0 <= zo x) (h3 : k = 17 -> l.length = 2) (h4 : k = 29 -> 0 <= n /\ n <= 2147483647) (h5 : k ≠ 1 -> ∀ u ∈ l,u.kind ≠ 17) : GT (.mk k x n p l)
theorem GT.sub {t u : T} (h : GT t) (hu : u ∈ t.subs) : GT u := by cases h with | mk k x n p l hl => exact hl u hu
theorem qC {t : T} {i : Nat} (h : i < t.subs.length) : zI t i ∈ t.subs := by
 unfold zI
 rw [List.getElem?_eq_getElem h]
 exact List.getElem_mem h
theorem ve (k : Int) (x : Bs) (n p : Int) (h1 : k ≠ 34 /\ k ≠ 35 /\ k ≠ 36 /\ k ≠ 17) (h4 : k = 29 -> 0 <= n /\ n <= 2147483647) : GT (.mk k x n p []) :=
 .mk k x n p [] (fun _ h => by cases h) (fun h => by omega) (fun h => by omega) (fun h => by omega) h4 (fun _ _ h => by cases h)
theorem fI (b : Bool) (p : Int) : GT (vn b p) := by
 unfold vn
 exact ve _ _ _ _ (by cases b <;> simp) (fun h => by cases b <;> simp at h)
theorem iG {v p : Int} (h0 : -2147483647 <= v) (h1 : v <= 2147483647) : GT (jw v p) := by
 unfold jw
 split
 ·have a : GT (.mk 29 [] (-v) p []) := ve _ _ _ _ (by omega) (fun _ => by omega)
  exact .mk 35 [] 0 p _ (fun u hu => by rw [List.mem_singleton] at hu; subst hu; exact a) (fun _ => rfl) (fun h => by omega) (fun h => by omega) (fun h => by omega) (fun _ u hu => by rw [List.mem_singleton] at hu; subst hu; simp [T.kind])
 ·exact ve _ _ _ _ (by omega) (fun _ => by omega)
theorem jk (b : Bool) (p : Int) : (vn b p).kind ≠ 17 := by cases b <;> simp [vn,T.kind]
theorem pQ (v p : Int) : (jw v p).kind ≠ 17 := by unfold jw; split <;> simp [T.kind]
theorem vu {t : T} (h : GT t) {v : Int} (hv : xj t = some v) : -2147483647 <= v /\ v <= 2147483647 := by
 cases h with
 | mk k x n p l hl h1 h2 h3 h4 h5 =>
  unfold xj at hv
  split at hv
  ·rename_i hk
   have := h4 hk; cases hv
   exact ⟨by show -2147483647 <= n; omega,by show n <= 2147483647; omega⟩
  ·split at hv
   ·rename_i hk
    have a := h1 (Or.inr hk.1); have b := hl _ (show zI (T.mk k x n p l) 0 ∈ l from qC (t := T.mk k x n p l) (by show 0 < l.length; omega)); cases hv
    generalize zI (T.mk k x n p l) 0 = u at *
    cases b with
    | mk k' x' n' p' l' _ _ _ _ h4' _ =>
     have := h4' hk.2; simp only [T.num]
     omega
   ·cases hv
theorem fi (n : Int) : -2147483648 <= arZ n /\ arZ n <= 2147483647 := by unfold arZ; omega
theorem qe {x : Bs} {a b z : Int} (ha : -2147483647 <= a /\ a <= 2147483647) (hb : -2147483647 <= b /\ b <= 2147483647) (h : opZ x a b = some z) : -2147483648 <= z /\ z <= 2147483647 := by
 unfold opZ at h
 split at h
 ·cases h; exact fi _
 split at h
 ·cases h; exact fi _
 split at h
 ·cases h; exact fi _
 split at h
 ·cases h
 rename_i hb0
 split at h
 ·cases h
  have d := Int.emod_nonneg a (show b ≠ 0 by omega); have f := Int.emod_lt_of_pos a (show 0 < b by omega)
  omega
 ·cases h
  have d := Int.mul_ediv_add_emod a b; have f := Int.emod_nonneg a (show b ≠ 0 by omega); have i := Int.emod_lt_of_pos a (show 0 < b by omega)
  constructor
  ·by_cases g : a / b < -2147483648
   ·have : b * (a / b) <= b * (-2147483649) := Int.mul_le_mul_of_nonneg_left (by omega) (by omega)
    omega
   ·omega
  ·by_cases g : 2147483647 < a / b
   ·have : b * 2147483648 <= b * (a / b) := Int.mul_le_mul_of_nonneg_left (by omega) (by omega)
    omega
   ·omega
theorem ll {t : T} (h : GT t) (hk : t.kind ≠ 17) {a b : Int} (ha : -2147483647 <= a /\ a <= 2147483647) (hb : -2147483647 <= b /\ b <= 2147483647) : GT (xo t a b) /\ (xo t a b).kind ≠ 17 := by
 unfold xo
 split
 ·exact ⟨fI _ _,jk _ _⟩
 ·split
  ·rename_i z hz
   have := qe ha hb hz
   split
   ·exact ⟨h,hk⟩
   ·exact ⟨iG (by omega) (by omega),pQ _ _⟩
  ·exact ⟨h,hk⟩
theorem jM {t : T} (h : GT t) : GT (yo t) /\ (t.kind ≠ 17 -> (yo t).kind ≠ 17) := by
 unfold yo
 split
 ·split
  ·exact ⟨fI _ _,fun _ => jk _ _⟩
  ·split
   ·exact ⟨fI _ _,fun _ => jk _ _⟩
   ·exact ⟨h,id⟩
 ·split
  ·rename_i hk
   have g := h; cases h with
   | mk k x n p l hl h1 h2 h3 h4 h5 =>
    have m := (h2 hk).1; have r : zI (T.mk k x n p l) 0 ∈ l := qC (t := T.mk k x n p l) (by show 0 < l.length; omega); have s : zI (T.mk k x n p l) 1 ∈ l := qC (t := T.mk k x n p l) (by show 1 < l.length; omega); have u : k = 36 := hk
    have d : k ≠ 1 := by omega
    have i := hl _ r; have j := hl _ s; have v := h5 d _ r; have w := h5 d _ s
    unfold opT
    split
    ·split
     ·split
      ·exact ⟨j,fun _ => w⟩
      ·exact ⟨i,fun _ => v⟩
     ·split
      ·split
       ·exact ⟨i,fun _ => v⟩
       ·exact ⟨j,fun _ => w⟩
      ·exact ⟨g,id⟩
    ·split
     ·rename_i a b ea eb
      have f : (T.mk k x n p l).kind ≠ 17 := by rw [hk]; decide
      have := ll g f (vu i ea) (vu j eb)
      exact ⟨this.1,fun _ => this.2⟩
     ·exact ⟨g,id⟩
  ·exact ⟨h,id⟩
theorem jv {t : T} (h : t.kind ≠ 17) : xP t = false := by simp [xP,h]
theorem rS {l : List T} (h : ∀ u ∈ l,(yh u).kind ≠ 17) : ym l = l.map yh := by
 induction l with
 | nil => rw [ym]; rfl
 | cons t l ih =>
  rw [ym,jv (h t (by simp)),ih (fun u hu => h u (by simp [hu]))]
  rfl
theorem gy {l : List T} {u : T} (h : u ∈ ym l) : ∃ v ∈ l,u = yh v := by
 induction l with
 | nil => rw [ym] at h; cases h
 | cons t l ih =>
  rw [ym] at h
  split at h
  ·obtain ⟨v,a,e⟩ := ih h
   exact ⟨v,by simp [a],e⟩
  ·rcases List.mem_cons.1 h with rfl | h
   ·exact ⟨t,by simp,rfl⟩
   ·obtain ⟨v,a,e⟩ := ih h
    exact ⟨v,by simp [a],e⟩
theorem fg {t : T} (h : GT t) : GT (.mk t.kind t.name t.num t.at' (ym t.subs)) /\ GT (yh t) /\ (t.kind ≠ 17 -> (yh t).kind ≠ 17) := by
 induction h with
 | mk k x n p l hl h1 h2 h3 h4 h5 ih =>
  have d : k ≠ 1 -> ym l = l.map yh := fun a => rS (fun u hu => (ih u hu).2.2 (h5 a u hu))
  have f : GT (.mk k x n p (ym l)) := by
   refine .mk k x n p _ (fun u hu => ?_) (fun a => ?_) (fun a => ?_) (fun a => ?_) h4 (fun a u hu => ?_)
   ·obtain ⟨v,b,rfl⟩ := gy hu
    exact (ih v b).2.1
   ·rw [d (by omega),List.length_map]; exact h1 a
   ·rw [d (by omega),List.length_map]; exact h2 a
   ·rw [d (by omega),List.length_map]; exact h3 a
   ·obtain ⟨v,b,rfl⟩ := gy hu
    exact (ih v b).2.2 (h5 a v b)
  refine ⟨f,?_,?_⟩
  ·rw [yh]; exact (jM f).1
  ·intro a; rw [yh]; exact (jM f).2 a
theorem gR {k : Int} {x : Bs} {n p : Int} {l : List T} : yh (.mk k x n p l) = yo (.mk k x n p (ym l)) := by rw [yh]
/-! ### Trees that have the shape of a text's -/
theorem gz {t : T} (h : TN t) : GT t /\ t.kind ≠ 17 := by
 cases h with
 | plain x p hx => exact ⟨ve _ _ _ _ (by omega) (fun h => by omega),by simp [T.kind]⟩
 | dot x p y q hx hy =>
  refine ⟨.mk 13 x 0 p _ (fun u hu => ?_) (fun h => by omega) (fun h => by omega) (fun h => by omega) (fun h => by omega) (fun _ u hu => ?_),by simp [T.kind]⟩
  ·rw [List.mem_singleton] at hu; subst hu; exact ve _ _ _ _ (by omega) (fun h => by omega)
  ·rw [List.mem_singleton] at hu; subst hu; simp [T.kind]
theorem zX (k : Int) (x : Bs) (n p : Int) (l : List T) (hk : k ≠ 34 /\ k ≠ 35 /\ k ≠ 36 /\ k ≠ 17 /\ k ≠ 29) (h : ∀ u ∈ l,GT u) (h5 : k ≠ 1 -> ∀ u ∈ l,u.kind ≠ 17) : GT (.mk k x n p l) :=
 .mk k x n p l h (fun h9 => by omega) (fun h9 => by omega) (fun h9 => by omega) (fun h9 => by omega) h5
theorem ic : ∀ (f : Nat) (t : T),zS t <= f -> Well .expression t -> GT t /\ t.kind ≠ 17 := by
 intro f
 induction f with
 | zero => intro t h; obtain ⟨k,x,_,p,_⟩ := t; rw [zS] at h; omega
 | succ f ih =>
  intro t i h
  have g : ∀ u,u ∈ t.subs -> Well .expression u -> GT u /\ u.kind ≠ 17 := fun u hu hw => ih u (by have := yp hu; omega) hw
  have H := dU h; clear h; cases H with
  | ref x p hx => exact ⟨ve _ _ _ _ (by omega) (fun h => by omega),by simp [T.kind]⟩
  | dot x p u hx hu =>
   have := g u (by simp [T.subs]) (ye hu)
   exact ⟨zX _ _ _ _ _ (by omega) (fun v hv => by rw [List.mem_singleton] at hv; subst hv; exact this.1) (fun _ v hv => by rw [List.mem_singleton] at hv; subst hv; exact this.2),by simp [T.kind]⟩
  | index p u v hu hv =>
   have a := g u (by simp [T.subs]) (ye hu); have b := g v (by simp [T.subs]) hv
   refine ⟨zX _ _ _ _ _ (by omega) (fun z d => ?_) (fun _ z d => ?_),by simp [T.kind]⟩ <;> rcases List.mem_cons.1 d with rfl | d
   ·exact a.1
   ·rw [List.mem_singleton] at d; subst d; exact b.1
   ·exact a.2
   ·rw [List.mem_singleton] at d; subst d; exact b.2
  | deref p u hu =>
   have := g u (by simp [T.subs]) (ye hu)
   exact ⟨zX _ _ _ _ _ (by omega) (fun v hv => by rw [List.mem_singleton] at hv; subst hv; exact this.1) (fun _ v hv => by rw [List.mem_singleton] at hv; subst hv; exact this.2),by simp [T.kind]⟩
  | guard p u v hu hv =>
   have a := g u (by simp [T.subs]) (ye hu); have b := gz hv
   refine ⟨zX _ _ _ _ _ (by omega) (fun z d => ?_) (fun _ z d => ?_),by simp [T.kind]⟩ <;> rcases List.mem_cons.1 d with rfl | d
   ·exact a.1
   ·rw [List.mem_singleton] at d; subst d; exact b.1
   ·exact a.2
   ·rw [List.mem_singleton] at d; subst d; exact b.2
  | number m p h0 h1 => exact ⟨ve _ _ _ _ (by omega) (fun _ => ⟨h0,h1⟩),by simp [T.kind]⟩
  | word k p hk2 => exact ⟨ve _ _ _ _ (by omega) (fun h => by omega),by simp only [T.kind]; omega⟩
  | call p u us hu hs =>
   have a := g u (by simp [T.subs]) (ye hu)
   have b : ∀ z ∈ us,GT z /\ z.kind ≠ 17 := fun z d => g z (by simp [T.subs,d]) (hs z d)
   refine ⟨zX _ _ _ _ _ (by omega) (fun z d => ?_) (fun _ z d => ?_),by simp [T.kind]⟩ <;> rcases List.mem_cons.1 d with rfl | d
   ·exact a.1
   ·exact (b z d).1
   ·exact a.2
   ·exact (b z d).2
  | one k p u hk2 hu =>
   have a := g u (by simp [T.subs]) hu
   exact ⟨.mk k [] 0 p _ (fun v hv => by rw [List.mem_singleton] at hv; subst hv; exact a.1) (fun _ => rfl) (fun h => by omega) (fun h => by omega) (fun h => by omega) (fun _ v hv => by rw [List.mem_singleton] at hv; subst hv; exact a.2),by simp only [T.kind]; omega⟩
  | is p u v hu hv =>
   have a := g u (by simp [T.subs]) hu; have b := gz hv
   refine ⟨zX _ _ _ _ _ (by omega) (fun z d => ?_) (fun _ z d => ?_),by simp [T.kind]⟩ <;> rcases List.mem_cons.1 d with rfl | d
   ·exact a.1
   ·rw [List.mem_singleton] at d; subst d; exact b.1
   ·exact a.2
   ·rw [List.mem_singleton] at d; subst d; exact b.2
  | op x p u v hx hu hv =>
   have a := g u (by simp [T.subs]) hu; have b := g v (by simp [T.subs]) hv
   refine ⟨.mk 36 x 0 p _ (fun z d => ?_) (fun h => by omega) (fun _ => ⟨rfl,hx⟩) (fun h => by omega) (fun h => by omega) (fun _ z d => ?_),by simp [T.kind]⟩ <;> rcases List.mem_cons.1 d with rfl | d
   ·exact a.1
   ·rw [List.mem_singleton] at d; subst d; exact b.1
   ·exact a.2
   ·rw [List.mem_singleton] at d; subst d; exact b.2
theorem rA (p : Int) (l : List T) (h : ∀ u ∈ l,GT u) : GT (.mk 1 [] 0 p l) := zX _ _ _ _ _ (by omega) h (fun h9 => absurd rfl h9)
theorem y6 {P : T -> Prop} {l : List T} {a b : T} (ha : P a) (hb : P b) (h : ∀ z ∈ l,P z) : ∀ z ∈ a :: b :: l,P z := fun z hz => by
 rcases List.mem_cons.1 hz with rfl | hz
 ·exact ha
 ·rcases List.mem_cons.1 hz with rfl | hz
  ·exact hb
  ·exact h z hz
theorem oD {us : List T} (h : Turns us) : (∀ x ∈ us,Well .expression x -> GT x /\ x.kind ≠ 17) -> (∀ x ∈ us,Well (.list .act) x -> GT x /\ x.kind ≠ 17) -> ∀ x ∈ us,GT x /\ x.kind ≠ 17 := by
 induction h with
 | nil => intro _ _ x a; cases a
 | one x a => intro _ b y d; rw [List.mem_singleton] at d; subst d; exact b y (by simp) a
 | more x y l a d _ ih =>
  intro f b
  exact y6 (P := fun z => GT z /\ z.kind ≠ 17) (f x (by simp) a) (b y (by simp) d) (ih (fun z hz => f z (by simp [hz])) (fun z hz => b z (by simp [hz])))
theorem mq : ∀ (f : Nat) (t : T),zS t <= f -> Well .act t -> GT t := by
 intro f
 induction f with
 | zero => intro t h; obtain ⟨k,x,_,p,_⟩ := t; rw [zS] at h; omega
 | succ f ih =>
  intro t n h
  have i : ∀ u,u ∈ t.subs -> Well .expression u -> GT u /\ u.kind ≠ 17 := fun u hu hw => ic f u (by have := yp hu; omega) hw
  have d : ∀ u,u ∈ t.subs -> Well (.list .act) u -> GT u /\ u.kind ≠ 17 := fun u hu hw => by
   have s := yp hu; obtain ⟨p,j,rfl,l⟩ := yk hw
   exact ⟨rA p j (fun v hv => ih v (by have := yp (t := T.mk 1 [] 0 p j) (u := v) hv; omega) (l v hv)),by simp [T.kind]⟩
  have H := rp h; clear h; cases H with
  | assign p u v hu hv =>
   have a := i u (by simp [T.subs]) (ye hu); have b := i v (by simp [T.subs]) hv
   exact zX _ _ _ _ _ (by omega) (y6 a.1 b.1 (fun _ h => by cases h)) (fun _ => y6 (P := fun z => z.kind ≠ 17) a.2 b.2 (fun _ h => by cases h))
  | call p u j hu hs =>
   have a := i u (by simp [T.subs]) (ye hu)
   have b : ∀ z ∈ j,GT z /\ z.kind ≠ 17 := fun z g => i z (by simp [T.subs,g]) (hs z g)
   refine zX _ _ _ _ _ (by omega) (fun z g => ?_) (fun _ z g => ?_) <;> rcases List.mem_cons.1 g with rfl | g
   ·exact a.1
   ·exact (b z g).1
   ·exact a.2
   ·exact (b z g).2
  | choice m p u v j hm hu hv hs =>
   have a := i u (by simp [T.subs]) hu; have b := d v (by simp [T.subs]) hv; have r := oD hs (fun x hx hw => i x (by simp [T.subs,hx]) hw) (fun x hx hw => d x (by simp [T.subs,hx]) hw)
   exact zX _ _ _ _ _ (by omega) (y6 a.1 b.1 (fun z g => (r z g).1)) (fun _ => y6 (P := fun z => z.kind ≠ 17) a.2 b.2 (fun z g => (r z g).2))
  | loop p u v hu hv =>
   have a := i u (by simp [T.subs]) hu; have b := d v (by simp [T.subs]) hv
   exact .mk 17 [] 0 p _ (y6 a.1 b.1 (fun _ h => by cases h)) (fun h => by omega) (fun h => by omega) (fun _ => rfl) (fun h => by omega) (fun _ => y6 (P := fun z => z.kind ≠ 17) a.2 b.2 (fun _ h => by cases h))
  | rept p u v hu hv =>
   have a := d u (by simp [T.subs]) hu; have b := i v (by simp [T.subs]) hv
   exact zX _ _ _ _ _ (by omega) (y6 a.1 b.1 (fun _ h => by cases h)) (fun _ => y6 (P := fun z => z.kind ≠ 17) a.2 b.2 (fun _ h => by cases h))
  | ret0 p => exact ve _ _ _ _ (by omega) (fun h => by omega)
  | ret1 p u hu =>
   have a := i u (by simp [T.subs]) hu
   exact zX _ _ _ _ _ (by omega) (fun v hv => by rw [List.mem_singleton] at hv; subst hv; exact a.1) (fun _ v hv => by rw [List.mem_singleton] at hv; subst hv; exact a.2)
  | word k p u hk hu =>
   have a := i u (by simp [T.subs]) hu
   exact zX _ _ _ _ _ (by omega) (fun v hv => by rw [List.mem_singleton] at hv; subst hv; exact a.1) (fun _ v hv => by rw [List.mem_singleton] at hv; subst hv; exact a.2)
theorem uP {k most : Int} {r : Rule} {t : T} (hk : k ≠ 34 /\ k ≠ 35 /\ k ≠ 36 /\ k ≠ 17 /\ k ≠ 29) (h : Well (.declared k most r) t) (hr : ∀ u,Well r u -> GT u /\ u.kind ≠ 17) : GT t := by
 obtain ⟨x,m,p,u,rfl,-,-,-,b⟩ := yO h; have a := hr u b
 exact zX _ _ _ _ _ hk (fun v hv => by rw [List.mem_singleton] at hv; subst hv; exact a.1) (fun _ v hv => by rw [List.mem_singleton] at hv; subst hv; exact a.2)
theorem qf (u : T) (h : Well .typeName u) : GT u /\ u.kind ≠ 17 := gz (vR h)
theorem rr {u : T} (h : (∃ q,u = .mk 0 [] 0 q []) \/ (u.kind = 13 /\ TN u)) : GT u /\ u.kind ≠ 17 := by
 rcases h with ⟨q,rfl⟩ | ⟨_,h⟩
 ·exact ⟨ve _ _ _ _ (by omega) (fun h => by omega),by simp [T.kind]⟩
 ·exact gz h
theorem bU (t : T) (h : Well .typeItself t) : GT t /\ t.kind ≠ 17 := by
 have H := gN h; clear h; cases H with
 | array m p u h0 h1 hu =>
  have a := gz hu
  exact ⟨zX _ _ _ _ _ (by omega) (fun v hv => by rw [List.mem_singleton] at hv; subst hv; exact a.1) (fun _ v hv => by rw [List.mem_singleton] at hv; subst hv; exact a.2),by simp [T.kind]⟩
 | pointer p u hu =>
  have a := gz hu
  exact ⟨zX _ _ _ _ _ (by omega) (fun v hv => by rw [List.mem_singleton] at hv; subst hv; exact a.1) (fun _ v hv => by rw [List.mem_singleton] at hv; subst hv; exact a.2),by simp [T.kind]⟩
 | record p u us hu hs =>
  have a := rr hu
  have d : ∀ z ∈ us,z.kind ≠ 17 := fun z b => by obtain ⟨x,m,q,y,rfl,-⟩ := yO (hs z b); simp [T.kind]
  refine ⟨zX _ _ _ _ _ (by omega) (fun z b => ?_) (fun _ z b => ?_),by simp [T.kind]⟩ <;> rcases List.mem_cons.1 b with rfl | b
  ·exact a.1
  ·exact uP (by omega) (hs z b) qf
  ·exact a.2
  ·exact d z b
theorem uw {r : Rule} {t : T} (h : Well (.list r) t) (hr : ∀ u,Well r u -> GT u) : GT t /\ t.kind ≠ 17 := by
 obtain ⟨p,a,rfl,b⟩ := yk h
 exact ⟨rA p a (fun v hv => hr v (b v hv)),by simp [T.kind]⟩
theorem mG (t : T) (h : Well .procedure t) : GT t := by
 obtain ⟨x,m,p,k,l,n,r,rfl,-,-,-,f,j,g,i⟩ := kZ h; have a := uw f (fun u hu => uP (by omega) hu qf); have b := rr j; have c := uw g (fun u hu => uP (by omega) hu qf); have d := uw i (fun u hu => mq _ u (Nat.le_refl _) hu)
 exact zX _ _ _ _ _ (by omega) (y6 a.1 b.1 (y6 c.1 d.1 (fun _ h => by cases h))) (fun _ => y6 (P := fun z => z.kind ≠ 17) a.2 b.2 (y6 (P := fun z => z.kind ≠ 17) c.2 d.2 (fun _ h => by cases h)))
theorem gE {t : T} (h : Well .module t) : GT t := by
 obtain ⟨x,p,is,n,r,s,w,A,rfl,-,f,i,j,k,l,m⟩ := gY h; have a := uw f (fun u hu => by obtain ⟨y,q,rfl,-⟩ := sI hu; exact ve _ _ _ _ (by omega) (fun h => by omega)); have b := uw i (fun u hu => uP (by omega) hu (fun v hv => ic _ v (Nat.le_refl _) hv)); have c := uw j (fun u hu => uP (by omega) hu bU); have d := uw k (fun u hu => uP (by omega) hu qf); have e := uw l mG; have g := uw m (fun u hu => mq _ u (Nat.le_refl _) hu)
 exact zX _ _ _ _ _ (by omega) (y6 a.1 b.1 (y6 c.1 d.1 (y6 e.1 g.1 (fun _ h => by cases h)))) (fun _ => y6 (P := fun z => z.kind ≠ 17) a.2 b.2 (y6 (P := fun z => z.kind ≠ 17) c.2 d.2 (y6 (P := fun z => z.kind ≠ 17) e.2 g.2 (fun _ h => by cases h))))
set_option maxHeartbeats 400000
set_option maxRecDepth 100000
theorem jg (b : Bool) (p : Int) (w : World) : Calls Tryz.prog 135 #[.bool b,.int .i64 p] w (Sy w (zq (vn b p) (.slice none 0 0))) := by
 cases b
 ·go_enter Tryz.func135,Tryz.ntmps135
  go_wp2; refine bodyPost_ret (v := .agg #[.int .i64 31,.string ⟨#[]⟩,.int .i64 0,.int .i64 p,.slice none 0 0]) (by simp [results,Tryz.results135,go_sem]) rfl ⟨rfl,gan⟩
 ·go_enter Tryz.func135,Tryz.ntmps135
  go_wp2; refine bodyPost_ret (v := .agg #[.int .i64 30,.string ⟨#[]⟩,.int .i64 0,.int .i64 p,.slice none 0 0]) (by simp [results,Tryz.results135,go_sem]) rfl ⟨rfl,gan⟩
theorem kh (k : Int) (x : Bs) (m p : Int) (sa : Option Addr) (sn sc : Nat) (w : World) : Calls Tryz.prog 134 #[.agg #[.int .i64 k,.string ⟨x.toArray⟩,.int .i64 m,.int .i64 p,.slice sa sn sc]] w (Sy w (.tuple #[.bool (decide (k = 30)),.bool (decide (k = 30 \/ k = 31))])) := by
 by_cases a : k = 30
 ·have g : (k == 30) = true := by rw [a]; rfl
  have d : decide (k = 30) = true := by simp [a]
  have f : decide (k = 30 \/ k = 31) = true := by simp [a]
  rw [d,f]; clear d f a
  go_enter Tryz.func134,Tryz.ntmps134
  go_wp2_with fail
  go_region
  go_wp2_with fail
  go_ret2
  exact ⟨rfl,(ze gan)⟩
 ·by_cases b : k = 31
  ·have g : (k == 30) = false := bn a
   have h : (k == 31) = true := by rw [b]; rfl
   have d : decide (k = 30) = false := by simp [a]
   have f : decide (k = 30 \/ k = 31) = true := by simp [b]
   rw [d,f]; clear d f a b
   go_enter Tryz.func134,Tryz.ntmps134
   go_wp2_with fail
   go_region
   go_wp2_with fail
   go_ret2
   exact ⟨rfl,(ze gan)⟩
  ·have g : (k == 30) = false := bn a
   have h : (k == 31) = false := bn b
   have d : decide (k = 30) = false := by simp [a]
   have f : decide (k = 30 \/ k = 31) = false := by simp [a,b]
   rw [d,f]; clear d f a b
   go_enter Tryz.func134,Tryz.ntmps134
   go_wp2_with fail
   go_region
   go_wp2_with fail
   go_ret2
   exact ⟨rfl,(ze gan)⟩
theorem jH (k : Int) (x : Bs) (m p : Int) (sa : Option Addr) (sn sc : Nat) (w : World) : Calls Tryz.prog 173 #[.agg #[.int .i64 k,.string ⟨x.toArray⟩,.int .i64 m,.int .i64 p,.slice sa sn sc]] w (Sy w (.tuple #[.int .i32 (wrap32 m),.bool (k == 29)])) := by
 go_enter Tryz.func173,Tryz.ntmps173
 go_wp2_with fail
 go_region
 go_wp2_with fail
 go_ret2
 exact ⟨rfl,(ze gan)⟩
theorem fx {m : Int} (h0 : -2147483648 <= m) (h1 : m <= 2147483647) : wrap32 m = m := by unfold wrap32; omega
theorem uH (v p : Int) (h0 : 0 <= v) (h1 : v <= 2147483647) (w : World) : Calls Tryz.prog 175 #[.int .i32 v,.int .i64 p] w (Sy w (zq (.mk 29 [] v p []) (.slice none 0 0))) := by
 have a : ¬ v < 0 := by omega
 go_enter Tryz.func175,Tryz.ntmps175
 go_wp2; refine bodyPost_ret (v := .agg #[.int .i64 29,.string ⟨#[]⟩,.int .i64 v,.int .i64 p,.slice none 0 0]) (by simp [results,Tryz.results175,go_sem]) rfl ⟨rfl,gan⟩
end Go.Proofs.YtifapidjkelnfaaGreatDoor
