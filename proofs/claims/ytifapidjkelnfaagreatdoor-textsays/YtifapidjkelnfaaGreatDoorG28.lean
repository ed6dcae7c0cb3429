/- The document's texts: acts of one word. -/
import Derived.Test.YtifapidjkelnfaaGreatDoorG23
import Derived.Test.YtifapidjkelnfaaGreatDoorG02
import Derived.Maps.Own
namespace Go.Proofs.YtifapidjkelnfaaGreatDoor
open Go.RowKit Go.Maps Go.WideMaps Go.WideElems
set_option maxHeartbeats 4000000
set_option maxRecDepth 1000000
def mz (v : Value) : Option (DataW Unit × List MemPlace) := match v with
 | .string s => some (.lit (.string s.data.toList),[])
 | _ => none
theorem nq {v : Value} {s : Bs} {ps : List MemPlace} (h : mz v = some (.lit (.string s),ps)) : v = .string ⟨s.toArray⟩ := by
 unfold mz at h
 split at h
 ·simp at h
  obtain ⟨rfl,-⟩ := h
  simp
 ·cases h
theorem mA (w : World) : (zeroValue 9).run Tryz.prog w = .ok (.string ⟨#[]⟩) w := by kernel_rfl
def O20 (w' : World) (mb n : Nat) (D : DataW Unit) : Prop := w'.ownsMap Tryz.prog 3 mz mb n D
abbrev zz0 : Lit × DataW Unit := (.int .i64 20,.lit (.string [78,69,87]))
abbrev zz1 : Lit × DataW Unit := (.int .i64 21,.lit (.string [79,85,84]))
abbrev zz2 : Lit × DataW Unit := (.int .i64 22,.lit (.string [71,69,84]))
abbrev zz3 : Lit × DataW Unit := (.int .i64 23,.lit (.string [65,83,83,69,82,84]))
def L2 (n : Nat) : Array Bool := #[true,n.testBit 0,n.testBit 1,n.testBit 2,n.testBit 3,n.testBit 4,n.testBit 5,true,true,n.testBit 6,n.testBit 7,n.testBit 8,true,true,true,true,n.testBit 9,false,false,false]
theorem iL (w' : World) (mb : Nat) (k : Int) (hk : k = 20 \/ k = 21 \/ k = 22 \/ k = 23) (h : O20 w' mb 4 (.map [zz0,zz1,zz2,zz3])) : (Instr.lookup 126 (.map (some mb)) (.int .i64 k) false).run Tryz.prog w' = .ok (.string ⟨(vG k).toArray⟩) w' := by
 have a : keyOf Tryz.prog 3 (.int .i64 k) = some (.int .i64 k) := keyOf_int_mk (P := Tryz.prog) Tryz.underlying3 (by rcases hk with rfl | rfl | rfl | rfl <;> decide); obtain ⟨_,_,b,d⟩ := World.ownsMap.lookup h vZ Tryz.underlying126 (mA w') (zd := .lit (.string [])) (zp := []) rfl a
 have e : (.map [zz0,zz1,zz2,zz3] : DataW Unit).atKey (.int .i64 k) (.lit (.string [])) = .lit (.string (vG k)) := by
  rcases hk with rfl | rfl | rfl | rfl <;> rfl
 rw [e] at d; rw [b,nq d]
theorem O20.kept {w' wm : World} {mb n : Nat} {D : DataW Unit} (h : O20 w' mb n D) (hg : w'.grownBy wm none) : O20 wm mb n D := World.ownsMap.kept h hg (by simp)
theorem O20.upd {w' : World} {mb n : Nat} {D : DataW Unit} (h : O20 w' mb n D) (k : Int) (s : Bs) (hk : k = 20 \/ k = 21 \/ k = 22 \/ k = 23) (hn : n < 9 := by omega) : ∃ wm,(Instr.mapUpdate 126 (.map (some mb)) (.int .i64 k) (.string ⟨s.toArray⟩)).run Tryz.prog w' = .ok () wm /\ O20 wm mb (n + 1) (D.put (.int .i64 k) (.lit (.string s))) /\ w'.grownBy wm (some mb) :=
 World.ownsMap.update (ps := []) h vZ Tryz.underlying126 (Nat.lt_of_lt_of_le hn (by decide)) (keyOf_int_mk (P := Tryz.prog) Tryz.underlying3 (by rcases hk with rfl | rfl | rfl | rfl <;> decide)) (by simp [mz])
def S20 (b g o c : Nat) (k : Int) (u : T) (su : Value) (w' : World) : Prop := w'.cell? ⟨b,0,none⟩ = some (.int .i64 k) /\ w'.cell? ⟨b,4,none⟩ = some (.slice (some ⟨g,o,none⟩) 1 c) /\ Node5 w' g o u su
def H20 (w : World) (g o c : Nat) (k : Int) (u : T) (su : Value) (n : Nat) (D : List (Lit × DataW Unit)) (F : Nat -> World -> Prop) : Prop := ∀ (mb : Nat) (w' : World),S20 w.heap.size g o c k u su w' -> w.grownBy w' none -> w.heap.size < mb -> O20 w' mb n (.map D) -> F mb w'
theorem S20.kept {b g o c : Nat} {k : Int} {u : T} {su : Value} {w' wm : World} (h : S20 b g o c k u su w') (hg : w'.grownBy wm none) : S20 b g o c k u su wm := ⟨zg hg h.1,zg hg h.2.1,h.2.2.kept hg⟩
theorem S20.ins {b g o c mb : Nat} {k : Int} {u : T} {su : Value} {w' wm : World} (h : S20 b g o c k u su w') (gm : w'.grownBy wm (some mb)) (h1 : b ≠ mb) (h2 : g ≠ mb) : S20 b g o c k u su wm :=
 ⟨zO gm h.1 (by simp; omega),zO gm h.2.1 (by simp; omega),zO gm h.2.2.c0 (by simp; omega),zO gm h.2.2.c1 (by simp; omega),zO gm h.2.2.c2 (by simp; omega),zO gm h.2.2.c3 (by simp; omega),zO gm h.2.2.c4 (by simp; omega)⟩
theorem zL {w w' wm : World} {mb : Nat} (h : w.grownBy w' none) (gm : w'.grownBy wm (some mb)) (hlt : w.heap.size <= mb) : w.grownBy wm none := ⟨gm.os.trans h.os,gm.tape.trans h.tape,gm.output.trans h.output,Nat.le_trans h.size gm.size,fun i hi _ => (gm.block i (Nat.lt_of_lt_of_le hi h.size) (by simp; omega)).trans (h.block i hi (by simp))⟩
theorem zB {md : Region.Mode} {ops : Array Oper} {Q : Exit -> Act -> World -> Prop} {S : World -> Prop} {f : Nat} {l l' : Array Bool} {a : Act} {w : World} (e : l = l') (h : wpAnyH Tryz.prog md ops Q S f l' a w) : wpAnyH Tryz.prog md ops Q S f l a w := e ▸ h
theorem za2 (k : Int) (x : Bs) (m p : Int) (u : T) (P : Bs) (sv : Value) (w : World) (ha : AT w (T.mk k x m p [u]).subs sv) (lP : P.length <= 1000) (U : Bs) (hu : ETx w u U) (hk : k = 20 \/ k = 21 \/ k = 22 \/ k = 23) :
  Calls Tryz.prog 71 #[.agg #[.int .i64 k,.string ⟨x.toArray⟩,.int .i64 m,.int .i64 p,sv],.string ⟨P.toArray⟩] w (Sy w (.string ⟨(P ++ (vG k ++ ([40] ++ (U ++ [41])))).toArray⟩)) := by
 obtain ⟨g,o,c,R,t,rfl,hn,hc,H,D,X,I⟩ := ha.one rfl
 obtain rfl : u = R := by simpa [T.subs] using H
 have Y := zb D; have v := zb I; have Z := zc D.c0; clear ha H X I D; have J : Hid (Box (w.alloc (.cells #[.int .i64 k,.string ⟨x.toArray⟩,.int .i64 m,.int .i64 p,.slice (some ⟨g,o,none⟩) 1 c] 24)) w.heap.size (.mk k x m p [u]) (.slice (some ⟨g,o,none⟩) 1 c)) := Box.new w (.mk k x m p [u]) (.slice (some ⟨g,o,none⟩) 1 c) 24
 obtain ⟨_,B⟩ := hu; have y := zb B; clear B; have HK := zb hk
 have K : (k == 14) = false := bn (by omega)
 have L : (k == 15) = false := bn (by omega)
 have M : (k == 16) = false := bn (by omega)
 have N : (k == 17) = false := bn (by omega)
 have O : (k == 18) = false := bn (by omega)
 have Q : (k == 19) = false := bn (by omega)
 have lK : (vG k).length <= 6 := by unfold vG; (repeat' split) <;> simp
 clear hk
 have C := fun j d => zb (iL j d k HK)
 generalize vG k = V at *
 go_enter Tryz.func71,Tryz.ntmps71
 go_wp2_with fail; refine wp_region_held_drew (S := S20 w.heap.size g o c k u t) (by kernel_rfl) ?_ (fun hHeld => ?_)
 ·exact ⟨zg (ze grn) J.c0,zg (ze grn) J.c4,Y.kept (ze gan)⟩
 refine tQ 0 ?_; refine tQ 7 ?_; refine tQ 8 ?_; refine tQ 12 ?_; refine tQ 13 ?_; refine tQ 14 ?_; refine tQ 15 ?_
 refine (fun (H_F11 : ∀ (d : Nat) (j : World),S20 w.heap.size g o c k u t j -> w.grownBy j none -> w.heap.size < d -> wpAnyH Tryz.prog ?mdF11 ?opsF11 ?QF11 ?SF11 ?fF11 ?lF11 ((?aF11 : Nat -> Act) d) j) => ?mF11) ?pF11
 case' mF11 => skip
 refine (fun (H_F10 : ∀ (d : Nat) (j : World),S20 w.heap.size g o c k u t j -> w.grownBy j none -> w.heap.size < d -> wpAnyH Tryz.prog ?mdF10 ?opsF10 ?QF10 ?SF10 ?fF10 ?lF10 ((?aF10 : Nat -> Act) d) j) => ?mF10) ?pF10
 case' mF10 => skip
 refine (fun (H_F01 : H20 w g o c k u t 4 [zz0,zz1,zz2,zz3] fun d j => wpAnyH Tryz.prog ?mdF01 ?opsF01 ?QF01 ?SF01 ?fF01 ?lF01 ((?aF01 : Nat -> Act) d) j) => ?mF01) ?pF01
 case' mF01 => skip
 refine (fun (H_F00 : H20 w g o c k u t 4 [zz0,zz1,zz2,zz3] fun d j => wpAnyH Tryz.prog ?mdF00 ?opsF00 ?QF00 ?SF00 ?fF00 ?lF00 ((?aF00 : Nat -> Act) d) j) => ?mF00) ?pF00
 case' mF00 => skip
 refine (fun (H_D012_1 : H20 w g o c k u t 3 [zz0,zz1,zz2] fun d j => wpAnyH Tryz.prog ?mdD012_1 ?opsD012_1 ?QD012_1 ?SD012_1 ?fD012_1 ?lD012_1 ((?aD012_1 : Nat -> Act) d) j) => ?mD012_1) ?pD012_1
 case' mD012_1 => skip
 refine (fun (H_D012_0 : H20 w g o c k u t 3 [zz0,zz1,zz2] fun d j => wpAnyH Tryz.prog ?mdD012_0 ?opsD012_0 ?QD012_0 ?SD012_0 ?fD012_0 ?lD012_0 ((?aD012_0 : Nat -> Act) d) j) => ?mD012_0) ?pD012_0
 case' mD012_0 => skip
 refine (fun (H_D013_1 : H20 w g o c k u t 3 [zz0,zz1,zz3] fun d j => wpAnyH Tryz.prog ?mdD013_1 ?opsD013_1 ?QD013_1 ?SD013_1 ?fD013_1 ?lD013_1 ((?aD013_1 : Nat -> Act) d) j) => ?mD013_1) ?pD013_1
 case' mD013_1 => skip
 refine (fun (H_D013_0 : H20 w g o c k u t 3 [zz0,zz1,zz3] fun d j => wpAnyH Tryz.prog ?mdD013_0 ?opsD013_0 ?QD013_0 ?SD013_0 ?fD013_0 ?lD013_0 ((?aD013_0 : Nat -> Act) d) j) => ?mD013_0) ?pD013_0
 case' mD013_0 => skip
 refine (fun (H_D023_1 : H20 w g o c k u t 3 [zz0,zz2,zz3] fun d j => wpAnyH Tryz.prog ?mdD023_1 ?opsD023_1 ?QD023_1 ?SD023_1 ?fD023_1 ?lD023_1 ((?aD023_1 : Nat -> Act) d) j) => ?mD023_1) ?pD023_1
 case' mD023_1 => skip
 refine (fun (H_D023_0 : H20 w g o c k u t 3 [zz0,zz2,zz3] fun d j => wpAnyH Tryz.prog ?mdD023_0 ?opsD023_0 ?QD023_0 ?SD023_0 ?fD023_0 ?lD023_0 ((?aD023_0 : Nat -> Act) d) j) => ?mD023_0) ?pD023_0
 case' mD023_0 => skip
 refine (fun (H_D123_1 : H20 w g o c k u t 3 [zz1,zz2,zz3] fun d j => wpAnyH Tryz.prog ?mdD123_1 ?opsD123_1 ?QD123_1 ?SD123_1 ?fD123_1 ?lD123_1 ((?aD123_1 : Nat -> Act) d) j) => ?mD123_1) ?pD123_1
 case' mD123_1 => skip
 refine (fun (H_D123_0 : H20 w g o c k u t 3 [zz1,zz2,zz3] fun d j => wpAnyH Tryz.prog ?mdD123_0 ?opsD123_0 ?QD123_0 ?SD123_0 ?fD123_0 ?lD123_0 ((?aD123_0 : Nat -> Act) d) j) => ?mD123_0) ?pD123_0
 case' mD123_0 => skip
 refine (fun (H_D01_1 : H20 w g o c k u t 2 [zz0,zz1] fun d j => wpAnyH Tryz.prog ?mdD01_1 ?opsD01_1 ?QD01_1 ?SD01_1 ?fD01_1 ?lD01_1 ((?aD01_1 : Nat -> Act) d) j) => ?mD01_1) ?pD01_1
 case' mD01_1 => skip
 refine (fun (H_D01_0 : H20 w g o c k u t 2 [zz0,zz1] fun d j => wpAnyH Tryz.prog ?mdD01_0 ?opsD01_0 ?QD01_0 ?SD01_0 ?fD01_0 ?lD01_0 ((?aD01_0 : Nat -> Act) d) j) => ?mD01_0) ?pD01_0
 case' mD01_0 => skip
 refine (fun (H_D02_1 : H20 w g o c k u t 2 [zz0,zz2] fun d j => wpAnyH Tryz.prog ?mdD02_1 ?opsD02_1 ?QD02_1 ?SD02_1 ?fD02_1 ?lD02_1 ((?aD02_1 : Nat -> Act) d) j) => ?mD02_1) ?pD02_1
 case' mD02_1 => skip
 refine (fun (H_D02_0 : H20 w g o c k u t 2 [zz0,zz2] fun d j => wpAnyH Tryz.prog ?mdD02_0 ?opsD02_0 ?QD02_0 ?SD02_0 ?fD02_0 ?lD02_0 ((?aD02_0 : Nat -> Act) d) j) => ?mD02_0) ?pD02_0
 case' mD02_0 => skip
 refine (fun (H_D03_1 : H20 w g o c k u t 2 [zz0,zz3] fun d j => wpAnyH Tryz.prog ?mdD03_1 ?opsD03_1 ?QD03_1 ?SD03_1 ?fD03_1 ?lD03_1 ((?aD03_1 : Nat -> Act) d) j) => ?mD03_1) ?pD03_1
 case' mD03_1 => skip
 refine (fun (H_D03_0 : H20 w g o c k u t 2 [zz0,zz3] fun d j => wpAnyH Tryz.prog ?mdD03_0 ?opsD03_0 ?QD03_0 ?SD03_0 ?fD03_0 ?lD03_0 ((?aD03_0 : Nat -> Act) d) j) => ?mD03_0) ?pD03_0
 case' mD03_0 => skip
 refine (fun (H_D12_1 : H20 w g o c k u t 2 [zz1,zz2] fun d j => wpAnyH Tryz.prog ?mdD12_1 ?opsD12_1 ?QD12_1 ?SD12_1 ?fD12_1 ?lD12_1 ((?aD12_1 : Nat -> Act) d) j) => ?mD12_1) ?pD12_1
 case' mD12_1 => skip
 refine (fun (H_D12_0 : H20 w g o c k u t 2 [zz1,zz2] fun d j => wpAnyH Tryz.prog ?mdD12_0 ?opsD12_0 ?QD12_0 ?SD12_0 ?fD12_0 ?lD12_0 ((?aD12_0 : Nat -> Act) d) j) => ?mD12_0) ?pD12_0
 case' mD12_0 => skip
 refine (fun (H_D13_1 : H20 w g o c k u t 2 [zz1,zz3] fun d j => wpAnyH Tryz.prog ?mdD13_1 ?opsD13_1 ?QD13_1 ?SD13_1 ?fD13_1 ?lD13_1 ((?aD13_1 : Nat -> Act) d) j) => ?mD13_1) ?pD13_1
 case' mD13_1 => skip
 refine (fun (H_D13_0 : H20 w g o c k u t 2 [zz1,zz3] fun d j => wpAnyH Tryz.prog ?mdD13_0 ?opsD13_0 ?QD13_0 ?SD13_0 ?fD13_0 ?lD13_0 ((?aD13_0 : Nat -> Act) d) j) => ?mD13_0) ?pD13_0
 case' mD13_0 => skip
 refine (fun (H_D23_1 : H20 w g o c k u t 2 [zz2,zz3] fun d j => wpAnyH Tryz.prog ?mdD23_1 ?opsD23_1 ?QD23_1 ?SD23_1 ?fD23_1 ?lD23_1 ((?aD23_1 : Nat -> Act) d) j) => ?mD23_1) ?pD23_1
 case' mD23_1 => skip
 refine (fun (H_D23_0 : H20 w g o c k u t 2 [zz2,zz3] fun d j => wpAnyH Tryz.prog ?mdD23_0 ?opsD23_0 ?QD23_0 ?SD23_0 ?fD23_0 ?lD23_0 ((?aD23_0 : Nat -> Act) d) j) => ?mD23_0) ?pD23_0
 case' mD23_0 => skip
 refine (fun (H_D0_1 : H20 w g o c k u t 1 [zz0] fun d j => wpAnyH Tryz.prog ?mdD0_1 ?opsD0_1 ?QD0_1 ?SD0_1 ?fD0_1 ?lD0_1 ((?aD0_1 : Nat -> Act) d) j) => ?mD0_1) ?pD0_1
 case' mD0_1 => skip
 refine (fun (H_D0_0 : H20 w g o c k u t 1 [zz0] fun d j => wpAnyH Tryz.prog ?mdD0_0 ?opsD0_0 ?QD0_0 ?SD0_0 ?fD0_0 ?lD0_0 ((?aD0_0 : Nat -> Act) d) j) => ?mD0_0) ?pD0_0
 case' mD0_0 => skip
 refine (fun (H_D1_1 : H20 w g o c k u t 1 [zz1] fun d j => wpAnyH Tryz.prog ?mdD1_1 ?opsD1_1 ?QD1_1 ?SD1_1 ?fD1_1 ?lD1_1 ((?aD1_1 : Nat -> Act) d) j) => ?mD1_1) ?pD1_1
 case' mD1_1 => skip
 refine (fun (H_D1_0 : H20 w g o c k u t 1 [zz1] fun d j => wpAnyH Tryz.prog ?mdD1_0 ?opsD1_0 ?QD1_0 ?SD1_0 ?fD1_0 ?lD1_0 ((?aD1_0 : Nat -> Act) d) j) => ?mD1_0) ?pD1_0
 case' mD1_0 => skip
 refine (fun (H_D2_1 : H20 w g o c k u t 1 [zz2] fun d j => wpAnyH Tryz.prog ?mdD2_1 ?opsD2_1 ?QD2_1 ?SD2_1 ?fD2_1 ?lD2_1 ((?aD2_1 : Nat -> Act) d) j) => ?mD2_1) ?pD2_1
 case' mD2_1 => skip
 refine (fun (H_D2_0 : H20 w g o c k u t 1 [zz2] fun d j => wpAnyH Tryz.prog ?mdD2_0 ?opsD2_0 ?QD2_0 ?SD2_0 ?fD2_0 ?lD2_0 ((?aD2_0 : Nat -> Act) d) j) => ?mD2_0) ?pD2_0
 case' mD2_0 => skip
 refine (fun (H_D3_1 : H20 w g o c k u t 1 [zz3] fun d j => wpAnyH Tryz.prog ?mdD3_1 ?opsD3_1 ?QD3_1 ?SD3_1 ?fD3_1 ?lD3_1 ((?aD3_1 : Nat -> Act) d) j) => ?mD3_1) ?pD3_1
 case' mD3_1 => skip
 refine (fun (H_D3_0 : H20 w g o c k u t 1 [zz3] fun d j => wpAnyH Tryz.prog ?mdD3_0 ?opsD3_0 ?QD3_0 ?SD3_0 ?fD3_0 ?lD3_0 ((?aD3_0 : Nat -> Act) d) j) => ?mD3_0) ?pD3_0
 case' mD3_0 => skip
 refine (fun (H_D_1 : H20 w g o c k u t 0 [] fun d j => wpAnyH Tryz.prog ?mdD_1 ?opsD_1 ?QD_1 ?SD_1 ?fD_1 ?lD_1 ((?aD_1 : Nat -> Act) d) j) => ?mD_1) ?pD_1
 case' mD_1 => skip
 refine (fun (H_D_0 : H20 w g o c k u t 0 [] fun d j => wpAnyH Tryz.prog ?mdD_0 ?opsD_0 ?QD_0 ?SD_0 ?fD_0 ?lD_0 ((?aD_0 : Nat -> Act) d) j) => ?mD_0) ?pD_0
 case' mD_0 => skip
 refine (fun (H_U1 : ∀ (j : World),S20 w.heap.size g o c k u t j -> w.grownBy j none -> wpAnyH Tryz.prog ?mdU1 ?opsU1 ?QU1 ?SU1 ?fU1 ?lU1 ?aU1 j) => ?mU1) ?pU1
 case' mU1 => skip
 refine (fun (H_U0 : ∀ (j : World),S20 w.heap.size g o c k u t j -> w.grownBy j none -> wpAnyH Tryz.prog ?mdU0 ?opsU0 ?QU0 ?SU0 ?fU0 ?lU0 ?aU0 j) => ?mU0) ?pU0
 case' mU0 => skip
 refine zB (l' := (L2 0)) (by kernel_rfl) ?_
 exact H_U0 _ hHeld (ze gan)
 case pU0 =>
  intro j n h; refine wpAnyH_ready (rs := [1,16]) (by kernel_rfl) (by simp) ?_; refine (AllReadyH.cons rfl (fun KK hKK => ?_) (AllReadyH.cons rfl (fun KK hKK => ?_) AllReadyH.nil))
  ·have A := @run_makeMap Tryz.prog
   go_simp
   refine hKK _ _ (n.kept gan) fun hHeld => ?_
   clear hKK KK A; have E : w.grownBy (j.alloc (.map #[] 0)) none := zf h _; have F : O20 (j.alloc (.map #[] 0)) j.heap.size 0 (.map []) := World.ownsMap_made _ _ _ _; have G : w.heap.size < j.heap.size := zc n.1
   generalize j.alloc (.map #[] 0) = wA at *
   generalize j.heap.size = d at *
   refine zB (l' := (L2 1)) (by kernel_rfl) ?_
   exact H_D_0 d _ hHeld E G F
  ·go_simp
   refine (y _ _ h (v.kept h)).mono ?_; rintro e z ⟨rfl,i⟩
   go_simp
   refine hKK _ _ (n.kept i) fun hHeld => ?_
   clear hKK KK; refine zB (l' := (L2 512)) (by kernel_rfl) ?_
   exact H_U1 _ hHeld (za h i)
 case pU1 =>
  intro j n h; refine wpAnyH_ready (rs := [1]) (by kernel_rfl) (by simp) ?_; refine (AllReadyH.cons rfl (fun KK hKK => ?_) AllReadyH.nil)
  ·have A := @run_makeMap Tryz.prog
   go_simp
   refine hKK _ _ (n.kept gan) fun hHeld => ?_
   clear hKK KK A; have E : w.grownBy (j.alloc (.map #[] 0)) none := zf h _; have F : O20 (j.alloc (.map #[] 0)) j.heap.size 0 (.map []) := World.ownsMap_made _ _ _ _; have G : w.heap.size < j.heap.size := zc n.1
   generalize j.alloc (.map #[] 0) = wA at *
   generalize j.heap.size = d at *
   refine zB (l' := (L2 513)) (by kernel_rfl) ?_
   exact H_D_1 d _ hHeld E G F
 case pD_0 =>
  intro d j n h a r; refine wpAnyH_ready (rs := [2,3,4,5,16]) (by kernel_rfl) (by simp) ?_; refine (AllReadyH.cons rfl (fun KK hKK => ?_) (AllReadyH.cons rfl (fun KK hKK => ?_) (AllReadyH.cons rfl (fun KK hKK => ?_) (AllReadyH.cons rfl (fun KK hKK => ?_) (AllReadyH.cons rfl (fun KK hKK => ?_) AllReadyH.nil)))))
  ·obtain ⟨s,b,l,f⟩ := O20.upd r 20 [78,69,87] (by decide)
   go_simp
   refine hKK _ _ (n.ins f (by omega) (by omega)) fun hHeld => ?_
   clear hKK KK; refine zB (l' := (L2 3)) (by kernel_rfl) ?_
   exact H_D0_0 d _ hHeld (zL h f (by omega)) a l
  ·obtain ⟨s,b,l,f⟩ := O20.upd r 22 [71,69,84] (by decide)
   go_simp
   refine hKK _ _ (n.ins f (by omega) (by omega)) fun hHeld => ?_
   clear hKK KK; refine zB (l' := (L2 5)) (by kernel_rfl) ?_
   exact H_D2_0 d _ hHeld (zL h f (by omega)) a l
  ·obtain ⟨s,b,l,f⟩ := O20.upd r 21 [79,85,84] (by decide)
   go_simp
   refine hKK _ _ (n.ins f (by omega) (by omega)) fun hHeld => ?_
   clear hKK KK; refine zB (l' := (L2 9)) (by kernel_rfl) ?_
   exact H_D1_0 d _ hHeld (zL h f (by omega)) a l
  ·obtain ⟨s,b,l,f⟩ := O20.upd r 23 [65,83,83,69,82,84] (by decide)
   go_simp
   refine hKK _ _ (n.ins f (by omega) (by omega)) fun hHeld => ?_
   clear hKK KK; refine zB (l' := (L2 17)) (by kernel_rfl) ?_
   exact H_D3_0 d _ hHeld (zL h f (by omega)) a l
  ·go_simp
   refine (y _ _ h (v.kept h)).mono ?_; rintro e z ⟨rfl,i⟩
   go_simp
   refine hKK _ _ (n.kept i) fun hHeld => ?_
   clear hKK KK; refine zB (l' := (L2 513)) (by kernel_rfl) ?_
   exact H_D_1 d _ hHeld (za h i) a (O20.kept r i)
 case pD_1 =>
  intro d j n h a r; refine wpAnyH_ready (rs := [2,3,4,5]) (by kernel_rfl) (by simp) ?_; refine (AllReadyH.cons rfl (fun KK hKK => ?_) (AllReadyH.cons rfl (fun KK hKK => ?_) (AllReadyH.cons rfl (fun KK hKK => ?_) (AllReadyH.cons rfl (fun KK hKK => ?_) AllReadyH.nil))))
  ·obtain ⟨s,b,l,f⟩ := O20.upd r 20 [78,69,87] (by decide)
   go_simp
   refine hKK _ _ (n.ins f (by omega) (by omega)) fun hHeld => ?_
   clear hKK KK; refine zB (l' := (L2 515)) (by kernel_rfl) ?_
   exact H_D0_1 d _ hHeld (zL h f (by omega)) a l
  ·obtain ⟨s,b,l,f⟩ := O20.upd r 22 [71,69,84] (by decide)
   go_simp
   refine hKK _ _ (n.ins f (by omega) (by omega)) fun hHeld => ?_
   clear hKK KK; refine zB (l' := (L2 517)) (by kernel_rfl) ?_
   exact H_D2_1 d _ hHeld (zL h f (by omega)) a l
  ·obtain ⟨s,b,l,f⟩ := O20.upd r 21 [79,85,84] (by decide)
   go_simp
   refine hKK _ _ (n.ins f (by omega) (by omega)) fun hHeld => ?_
   clear hKK KK; refine zB (l' := (L2 521)) (by kernel_rfl) ?_
   exact H_D1_1 d _ hHeld (zL h f (by omega)) a l
  ·obtain ⟨s,b,l,f⟩ := O20.upd r 23 [65,83,83,69,82,84] (by decide)
   go_simp
   refine hKK _ _ (n.ins f (by omega) (by omega)) fun hHeld => ?_
   clear hKK KK; refine zB (l' := (L2 529)) (by kernel_rfl) ?_
   exact H_D3_1 d _ hHeld (zL h f (by omega)) a l
 case pD3_0 =>
  intro d j n h a r; refine wpAnyH_ready (rs := [2,3,4,16]) (by kernel_rfl) (by simp) ?_; refine (AllReadyH.cons rfl (fun KK hKK => ?_) (AllReadyH.cons rfl (fun KK hKK => ?_) (AllReadyH.cons rfl (fun KK hKK => ?_) (AllReadyH.cons rfl (fun KK hKK => ?_) AllReadyH.nil))))
  ·obtain ⟨s,b,l,f⟩ := O20.upd r 20 [78,69,87] (by decide)
   go_simp
   refine hKK _ _ (n.ins f (by omega) (by omega)) fun hHeld => ?_
   clear hKK KK; refine zB (l' := (L2 19)) (by kernel_rfl) ?_
   exact H_D03_0 d _ hHeld (zL h f (by omega)) a l
  ·obtain ⟨s,b,l,f⟩ := O20.upd r 22 [71,69,84] (by decide)
   go_simp
   refine hKK _ _ (n.ins f (by omega) (by omega)) fun hHeld => ?_
   clear hKK KK; refine zB (l' := (L2 21)) (by kernel_rfl) ?_
   exact H_D23_0 d _ hHeld (zL h f (by omega)) a l
  ·obtain ⟨s,b,l,f⟩ := O20.upd r 21 [79,85,84] (by decide)
   go_simp
   refine hKK _ _ (n.ins f (by omega) (by omega)) fun hHeld => ?_
   clear hKK KK; refine zB (l' := (L2 25)) (by kernel_rfl) ?_
   exact H_D13_0 d _ hHeld (zL h f (by omega)) a l
  ·go_simp
   refine (y _ _ h (v.kept h)).mono ?_; rintro e z ⟨rfl,i⟩
   go_simp
   refine hKK _ _ (n.kept i) fun hHeld => ?_
   clear hKK KK; refine zB (l' := (L2 529)) (by kernel_rfl) ?_
   exact H_D3_1 d _ hHeld (za h i) a (O20.kept r i)
 case pD3_1 =>
  intro d j n h a r; refine wpAnyH_ready (rs := [2,3,4]) (by kernel_rfl) (by simp) ?_; refine (AllReadyH.cons rfl (fun KK hKK => ?_) (AllReadyH.cons rfl (fun KK hKK => ?_) (AllReadyH.cons rfl (fun KK hKK => ?_) AllReadyH.nil)))
  ·obtain ⟨s,b,l,f⟩ := O20.upd r 20 [78,69,87] (by decide)
   go_simp
   refine hKK _ _ (n.ins f (by omega) (by omega)) fun hHeld => ?_
   clear hKK KK; refine zB (l' := (L2 531)) (by kernel_rfl) ?_
   exact H_D03_1 d _ hHeld (zL h f (by omega)) a l
  ·obtain ⟨s,b,l,f⟩ := O20.upd r 22 [71,69,84] (by decide)
   go_simp
   refine hKK _ _ (n.ins f (by omega) (by omega)) fun hHeld => ?_
   clear hKK KK; refine zB (l' := (L2 533)) (by kernel_rfl) ?_
   exact H_D23_1 d _ hHeld (zL h f (by omega)) a l
  ·obtain ⟨s,b,l,f⟩ := O20.upd r 21 [79,85,84] (by decide)
   go_simp
   refine hKK _ _ (n.ins f (by omega) (by omega)) fun hHeld => ?_
   clear hKK KK; refine zB (l' := (L2 537)) (by kernel_rfl) ?_
   exact H_D13_1 d _ hHeld (zL h f (by omega)) a l
 case pD2_0 =>
  intro d j n h a r; refine wpAnyH_ready (rs := [2,4,5,16]) (by kernel_rfl) (by simp) ?_; refine (AllReadyH.cons rfl (fun KK hKK => ?_) (AllReadyH.cons rfl (fun KK hKK => ?_) (AllReadyH.cons rfl (fun KK hKK => ?_) (AllReadyH.cons rfl (fun KK hKK => ?_) AllReadyH.nil))))
  ·obtain ⟨s,b,l,f⟩ := O20.upd r 20 [78,69,87] (by decide)
   go_simp
   refine hKK _ _ (n.ins f (by omega) (by omega)) fun hHeld => ?_
   clear hKK KK; refine zB (l' := (L2 7)) (by kernel_rfl) ?_
   exact H_D02_0 d _ hHeld (zL h f (by omega)) a l
  ·obtain ⟨s,b,l,f⟩ := O20.upd r 21 [79,85,84] (by decide)
   go_simp
   refine hKK _ _ (n.ins f (by omega) (by omega)) fun hHeld => ?_
   clear hKK KK; refine zB (l' := (L2 13)) (by kernel_rfl) ?_
   exact H_D12_0 d _ hHeld (zL h f (by omega)) a l
  ·obtain ⟨s,b,l,f⟩ := O20.upd r 23 [65,83,83,69,82,84] (by decide)
   go_simp
   refine hKK _ _ (n.ins f (by omega) (by omega)) fun hHeld => ?_
   clear hKK KK; refine zB (l' := (L2 21)) (by kernel_rfl) ?_
   exact H_D23_0 d _ hHeld (zL h f (by omega)) a l
  ·go_simp
   refine (y _ _ h (v.kept h)).mono ?_; rintro e z ⟨rfl,i⟩
   go_simp
   refine hKK _ _ (n.kept i) fun hHeld => ?_
   clear hKK KK; refine zB (l' := (L2 517)) (by kernel_rfl) ?_
   exact H_D2_1 d _ hHeld (za h i) a (O20.kept r i)
 case pD2_1 =>
  intro d j n h a r; refine wpAnyH_ready (rs := [2,4,5]) (by kernel_rfl) (by simp) ?_; refine (AllReadyH.cons rfl (fun KK hKK => ?_) (AllReadyH.cons rfl (fun KK hKK => ?_) (AllReadyH.cons rfl (fun KK hKK => ?_) AllReadyH.nil)))
  ·obtain ⟨s,b,l,f⟩ := O20.upd r 20 [78,69,87] (by decide)
   go_simp
   refine hKK _ _ (n.ins f (by omega) (by omega)) fun hHeld => ?_
   clear hKK KK; refine zB (l' := (L2 519)) (by kernel_rfl) ?_
   exact H_D02_1 d _ hHeld (zL h f (by omega)) a l
  ·obtain ⟨s,b,l,f⟩ := O20.upd r 21 [79,85,84] (by decide)
   go_simp
   refine hKK _ _ (n.ins f (by omega) (by omega)) fun hHeld => ?_
   clear hKK KK; refine zB (l' := (L2 525)) (by kernel_rfl) ?_
   exact H_D12_1 d _ hHeld (zL h f (by omega)) a l
  ·obtain ⟨s,b,l,f⟩ := O20.upd r 23 [65,83,83,69,82,84] (by decide)
   go_simp
   refine hKK _ _ (n.ins f (by omega) (by omega)) fun hHeld => ?_
   clear hKK KK; refine zB (l' := (L2 533)) (by kernel_rfl) ?_
   exact H_D23_1 d _ hHeld (zL h f (by omega)) a l
 case pD1_0 =>
  intro d j n h a r; refine wpAnyH_ready (rs := [2,3,5,16]) (by kernel_rfl) (by simp) ?_; refine (AllReadyH.cons rfl (fun KK hKK => ?_) (AllReadyH.cons rfl (fun KK hKK => ?_) (AllReadyH.cons rfl (fun KK hKK => ?_) (AllReadyH.cons rfl (fun KK hKK => ?_) AllReadyH.nil))))
  ·obtain ⟨s,b,l,f⟩ := O20.upd r 20 [78,69,87] (by decide)
   go_simp
   refine hKK _ _ (n.ins f (by omega) (by omega)) fun hHeld => ?_
   clear hKK KK; refine zB (l' := (L2 11)) (by kernel_rfl) ?_
   exact H_D01_0 d _ hHeld (zL h f (by omega)) a l
  ·obtain ⟨s,b,l,f⟩ := O20.upd r 22 [71,69,84] (by decide)
   go_simp
   refine hKK _ _ (n.ins f (by omega) (by omega)) fun hHeld => ?_
   clear hKK KK; refine zB (l' := (L2 13)) (by kernel_rfl) ?_
   exact H_D12_0 d _ hHeld (zL h f (by omega)) a l
  ·obtain ⟨s,b,l,f⟩ := O20.upd r 23 [65,83,83,69,82,84] (by decide)
   go_simp
   refine hKK _ _ (n.ins f (by omega) (by omega)) fun hHeld => ?_
   clear hKK KK; refine zB (l' := (L2 25)) (by kernel_rfl) ?_
   exact H_D13_0 d _ hHeld (zL h f (by omega)) a l
  ·go_simp
   refine (y _ _ h (v.kept h)).mono ?_; rintro e z ⟨rfl,i⟩
   go_simp
   refine hKK _ _ (n.kept i) fun hHeld => ?_
   clear hKK KK; refine zB (l' := (L2 521)) (by kernel_rfl) ?_
   exact H_D1_1 d _ hHeld (za h i) a (O20.kept r i)
 case pD1_1 =>
  intro d j n h a r; refine wpAnyH_ready (rs := [2,3,5]) (by kernel_rfl) (by simp) ?_; refine (AllReadyH.cons rfl (fun KK hKK => ?_) (AllReadyH.cons rfl (fun KK hKK => ?_) (AllReadyH.cons rfl (fun KK hKK => ?_) AllReadyH.nil)))
  ·obtain ⟨s,b,l,f⟩ := O20.upd r 20 [78,69,87] (by decide)
   go_simp
   refine hKK _ _ (n.ins f (by omega) (by omega)) fun hHeld => ?_
   clear hKK KK; refine zB (l' := (L2 523)) (by kernel_rfl) ?_
   exact H_D01_1 d _ hHeld (zL h f (by omega)) a l
  ·obtain ⟨s,b,l,f⟩ := O20.upd r 22 [71,69,84] (by decide)
   go_simp
   refine hKK _ _ (n.ins f (by omega) (by omega)) fun hHeld => ?_
   clear hKK KK; refine zB (l' := (L2 525)) (by kernel_rfl) ?_
   exact H_D12_1 d _ hHeld (zL h f (by omega)) a l
  ·obtain ⟨s,b,l,f⟩ := O20.upd r 23 [65,83,83,69,82,84] (by decide)
   go_simp
   refine hKK _ _ (n.ins f (by omega) (by omega)) fun hHeld => ?_
   clear hKK KK; refine zB (l' := (L2 537)) (by kernel_rfl) ?_
   exact H_D13_1 d _ hHeld (zL h f (by omega)) a l
 case pD0_0 =>
  intro d j n h a r; refine wpAnyH_ready (rs := [3,4,5,16]) (by kernel_rfl) (by simp) ?_; refine (AllReadyH.cons rfl (fun KK hKK => ?_) (AllReadyH.cons rfl (fun KK hKK => ?_) (AllReadyH.cons rfl (fun KK hKK => ?_) (AllReadyH.cons rfl (fun KK hKK => ?_) AllReadyH.nil))))
  ·obtain ⟨s,b,l,f⟩ := O20.upd r 22 [71,69,84] (by decide)
   go_simp
   refine hKK _ _ (n.ins f (by omega) (by omega)) fun hHeld => ?_
   clear hKK KK; refine zB (l' := (L2 7)) (by kernel_rfl) ?_
   exact H_D02_0 d _ hHeld (zL h f (by omega)) a l
  ·obtain ⟨s,b,l,f⟩ := O20.upd r 21 [79,85,84] (by decide)
   go_simp
   refine hKK _ _ (n.ins f (by omega) (by omega)) fun hHeld => ?_
   clear hKK KK; refine zB (l' := (L2 11)) (by kernel_rfl) ?_
   exact H_D01_0 d _ hHeld (zL h f (by omega)) a l
  ·obtain ⟨s,b,l,f⟩ := O20.upd r 23 [65,83,83,69,82,84] (by decide)
   go_simp
   refine hKK _ _ (n.ins f (by omega) (by omega)) fun hHeld => ?_
   clear hKK KK; refine zB (l' := (L2 19)) (by kernel_rfl) ?_
   exact H_D03_0 d _ hHeld (zL h f (by omega)) a l
  ·go_simp
   refine (y _ _ h (v.kept h)).mono ?_; rintro e z ⟨rfl,i⟩
   go_simp
   refine hKK _ _ (n.kept i) fun hHeld => ?_
   clear hKK KK; refine zB (l' := (L2 515)) (by kernel_rfl) ?_
   exact H_D0_1 d _ hHeld (za h i) a (O20.kept r i)
 case pD0_1 =>
  intro d j n h a r; refine wpAnyH_ready (rs := [3,4,5]) (by kernel_rfl) (by simp) ?_; refine (AllReadyH.cons rfl (fun KK hKK => ?_) (AllReadyH.cons rfl (fun KK hKK => ?_) (AllReadyH.cons rfl (fun KK hKK => ?_) AllReadyH.nil)))
  ·obtain ⟨s,b,l,f⟩ := O20.upd r 22 [71,69,84] (by decide)
   go_simp
   refine hKK _ _ (n.ins f (by omega) (by omega)) fun hHeld => ?_
   clear hKK KK; refine zB (l' := (L2 519)) (by kernel_rfl) ?_
   exact H_D02_1 d _ hHeld (zL h f (by omega)) a l
  ·obtain ⟨s,b,l,f⟩ := O20.upd r 21 [79,85,84] (by decide)
   go_simp
   refine hKK _ _ (n.ins f (by omega) (by omega)) fun hHeld => ?_
   clear hKK KK; refine zB (l' := (L2 523)) (by kernel_rfl) ?_
   exact H_D01_1 d _ hHeld (zL h f (by omega)) a l
  ·obtain ⟨s,b,l,f⟩ := O20.upd r 23 [65,83,83,69,82,84] (by decide)
   go_simp
   refine hKK _ _ (n.ins f (by omega) (by omega)) fun hHeld => ?_
   clear hKK KK; refine zB (l' := (L2 531)) (by kernel_rfl) ?_
   exact H_D03_1 d _ hHeld (zL h f (by omega)) a l
 case pD23_0 =>
  intro d j n h a r; refine wpAnyH_ready (rs := [2,4,16]) (by kernel_rfl) (by simp) ?_; refine (AllReadyH.cons rfl (fun KK hKK => ?_) (AllReadyH.cons rfl (fun KK hKK => ?_) (AllReadyH.cons rfl (fun KK hKK => ?_) AllReadyH.nil)))
  ·obtain ⟨s,b,l,f⟩ := O20.upd r 20 [78,69,87] (by decide)
   go_simp
   refine hKK _ _ (n.ins f (by omega) (by omega)) fun hHeld => ?_
   clear hKK KK; refine zB (l' := (L2 23)) (by kernel_rfl) ?_
   exact H_D023_0 d _ hHeld (zL h f (by omega)) a l
  ·obtain ⟨s,b,l,f⟩ := O20.upd r 21 [79,85,84] (by decide)
   go_simp
   refine hKK _ _ (n.ins f (by omega) (by omega)) fun hHeld => ?_
   clear hKK KK; refine zB (l' := (L2 29)) (by kernel_rfl) ?_
   exact H_D123_0 d _ hHeld (zL h f (by omega)) a l
  ·go_simp
   refine (y _ _ h (v.kept h)).mono ?_; rintro e z ⟨rfl,i⟩
   go_simp
   refine hKK _ _ (n.kept i) fun hHeld => ?_
   clear hKK KK; refine zB (l' := (L2 533)) (by kernel_rfl) ?_
   exact H_D23_1 d _ hHeld (za h i) a (O20.kept r i)
 case pD23_1 =>
  intro d j n h a r; refine wpAnyH_ready (rs := [2,4]) (by kernel_rfl) (by simp) ?_; refine (AllReadyH.cons rfl (fun KK hKK => ?_) (AllReadyH.cons rfl (fun KK hKK => ?_) AllReadyH.nil))
  ·obtain ⟨s,b,l,f⟩ := O20.upd r 20 [78,69,87] (by decide)
   go_simp
   refine hKK _ _ (n.ins f (by omega) (by omega)) fun hHeld => ?_
   clear hKK KK; refine zB (l' := (L2 535)) (by kernel_rfl) ?_
   exact H_D023_1 d _ hHeld (zL h f (by omega)) a l
  ·obtain ⟨s,b,l,f⟩ := O20.upd r 21 [79,85,84] (by decide)
   go_simp
   refine hKK _ _ (n.ins f (by omega) (by omega)) fun hHeld => ?_
   clear hKK KK; refine zB (l' := (L2 541)) (by kernel_rfl) ?_
   exact H_D123_1 d _ hHeld (zL h f (by omega)) a l
 case pD13_0 =>
  intro d j n h a r; refine wpAnyH_ready (rs := [2,3,16]) (by kernel_rfl) (by simp) ?_; refine (AllReadyH.cons rfl (fun KK hKK => ?_) (AllReadyH.cons rfl (fun KK hKK => ?_) (AllReadyH.cons rfl (fun KK hKK => ?_) AllReadyH.nil)))
  ·obtain ⟨s,b,l,f⟩ := O20.upd r 20 [78,69,87] (by decide)
   go_simp
   refine hKK _ _ (n.ins f (by omega) (by omega)) fun hHeld => ?_
   clear hKK KK; refine zB (l' := (L2 27)) (by kernel_rfl) ?_
   exact H_D013_0 d _ hHeld (zL h f (by omega)) a l
  ·obtain ⟨s,b,l,f⟩ := O20.upd r 22 [71,69,84] (by decide)
   go_simp
   refine hKK _ _ (n.ins f (by omega) (by omega)) fun hHeld => ?_
   clear hKK KK; refine zB (l' := (L2 29)) (by kernel_rfl) ?_
   exact H_D123_0 d _ hHeld (zL h f (by omega)) a l
  ·go_simp
   refine (y _ _ h (v.kept h)).mono ?_; rintro e z ⟨rfl,i⟩
   go_simp
   refine hKK _ _ (n.kept i) fun hHeld => ?_
   clear hKK KK; refine zB (l' := (L2 537)) (by kernel_rfl) ?_
   exact H_D13_1 d _ hHeld (za h i) a (O20.kept r i)
 case pD13_1 =>
  intro d j n h a r; refine wpAnyH_ready (rs := [2,3]) (by kernel_rfl) (by simp) ?_; refine (AllReadyH.cons rfl (fun KK hKK => ?_) (AllReadyH.cons rfl (fun KK hKK => ?_) AllReadyH.nil))
  ·obtain ⟨s,b,l,f⟩ := O20.upd r 20 [78,69,87] (by decide)
   go_simp
   refine hKK _ _ (n.ins f (by omega) (by omega)) fun hHeld => ?_
   clear hKK KK; refine zB (l' := (L2 539)) (by kernel_rfl) ?_
   exact H_D013_1 d _ hHeld (zL h f (by omega)) a l
  ·obtain ⟨s,b,l,f⟩ := O20.upd r 22 [71,69,84] (by decide)
   go_simp
   refine hKK _ _ (n.ins f (by omega) (by omega)) fun hHeld => ?_
   clear hKK KK; refine zB (l' := (L2 541)) (by kernel_rfl) ?_
   exact H_D123_1 d _ hHeld (zL h f (by omega)) a l
 case pD12_0 =>
  intro d j n h a r; refine wpAnyH_ready (rs := [2,5,16]) (by kernel_rfl) (by simp) ?_; refine (AllReadyH.cons rfl (fun KK hKK => ?_) (AllReadyH.cons rfl (fun KK hKK => ?_) (AllReadyH.cons rfl (fun KK hKK => ?_) AllReadyH.nil)))
  ·obtain ⟨s,b,l,f⟩ := O20.upd r 20 [78,69,87] (by decide)
   go_simp
   refine hKK _ _ (n.ins f (by omega) (by omega)) fun hHeld => ?_
   clear hKK KK; refine zB (l' := (L2 15)) (by kernel_rfl) ?_
   exact H_D012_0 d _ hHeld (zL h f (by omega)) a l
  ·obtain ⟨s,b,l,f⟩ := O20.upd r 23 [65,83,83,69,82,84] (by decide)
   go_simp
   refine hKK _ _ (n.ins f (by omega) (by omega)) fun hHeld => ?_
   clear hKK KK; refine zB (l' := (L2 29)) (by kernel_rfl) ?_
   exact H_D123_0 d _ hHeld (zL h f (by omega)) a l
  ·go_simp
   refine (y _ _ h (v.kept h)).mono ?_; rintro e z ⟨rfl,i⟩
   go_simp
   refine hKK _ _ (n.kept i) fun hHeld => ?_
   clear hKK KK; refine zB (l' := (L2 525)) (by kernel_rfl) ?_
   exact H_D12_1 d _ hHeld (za h i) a (O20.kept r i)
 case pD12_1 =>
  intro d j n h a r; refine wpAnyH_ready (rs := [2,5]) (by kernel_rfl) (by simp) ?_; refine (AllReadyH.cons rfl (fun KK hKK => ?_) (AllReadyH.cons rfl (fun KK hKK => ?_) AllReadyH.nil))
  ·obtain ⟨s,b,l,f⟩ := O20.upd r 20 [78,69,87] (by decide)
   go_simp
   refine hKK _ _ (n.ins f (by omega) (by omega)) fun hHeld => ?_
   clear hKK KK; refine zB (l' := (L2 527)) (by kernel_rfl) ?_
   exact H_D012_1 d _ hHeld (zL h f (by omega)) a l
  ·obtain ⟨s,b,l,f⟩ := O20.upd r 23 [65,83,83,69,82,84] (by decide)
   go_simp
   refine hKK _ _ (n.ins f (by omega) (by omega)) fun hHeld => ?_
   clear hKK KK; refine zB (l' := (L2 541)) (by kernel_rfl) ?_
   exact H_D123_1 d _ hHeld (zL h f (by omega)) a l
 case pD03_0 =>
  intro d j n h a r; refine wpAnyH_ready (rs := [3,4,16]) (by kernel_rfl) (by simp) ?_; refine (AllReadyH.cons rfl (fun KK hKK => ?_) (AllReadyH.cons rfl (fun KK hKK => ?_) (AllReadyH.cons rfl (fun KK hKK => ?_) AllReadyH.nil)))
  ·obtain ⟨s,b,l,f⟩ := O20.upd r 22 [71,69,84] (by decide)
   go_simp
   refine hKK _ _ (n.ins f (by omega) (by omega)) fun hHeld => ?_
   clear hKK KK; refine zB (l' := (L2 23)) (by kernel_rfl) ?_
   exact H_D023_0 d _ hHeld (zL h f (by omega)) a l
  ·obtain ⟨s,b,l,f⟩ := O20.upd r 21 [79,85,84] (by decide)
   go_simp
   refine hKK _ _ (n.ins f (by omega) (by omega)) fun hHeld => ?_
   clear hKK KK; refine zB (l' := (L2 27)) (by kernel_rfl) ?_
   exact H_D013_0 d _ hHeld (zL h f (by omega)) a l
  ·go_simp
   refine (y _ _ h (v.kept h)).mono ?_; rintro e z ⟨rfl,i⟩
   go_simp
   refine hKK _ _ (n.kept i) fun hHeld => ?_
   clear hKK KK; refine zB (l' := (L2 531)) (by kernel_rfl) ?_
   exact H_D03_1 d _ hHeld (za h i) a (O20.kept r i)
 case pD03_1 =>
  intro d j n h a r; refine wpAnyH_ready (rs := [3,4]) (by kernel_rfl) (by simp) ?_; refine (AllReadyH.cons rfl (fun KK hKK => ?_) (AllReadyH.cons rfl (fun KK hKK => ?_) AllReadyH.nil))
  ·obtain ⟨s,b,l,f⟩ := O20.upd r 22 [71,69,84] (by decide)
   go_simp
   refine hKK _ _ (n.ins f (by omega) (by omega)) fun hHeld => ?_
   clear hKK KK; refine zB (l' := (L2 535)) (by kernel_rfl) ?_
   exact H_D023_1 d _ hHeld (zL h f (by omega)) a l
  ·obtain ⟨s,b,l,f⟩ := O20.upd r 21 [79,85,84] (by decide)
   go_simp
   refine hKK _ _ (n.ins f (by omega) (by omega)) fun hHeld => ?_
   clear hKK KK; refine zB (l' := (L2 539)) (by kernel_rfl) ?_
   exact H_D013_1 d _ hHeld (zL h f (by omega)) a l
 case pD02_0 =>
  intro d j n h a r; refine wpAnyH_ready (rs := [4,5,16]) (by kernel_rfl) (by simp) ?_; refine (AllReadyH.cons rfl (fun KK hKK => ?_) (AllReadyH.cons rfl (fun KK hKK => ?_) (AllReadyH.cons rfl (fun KK hKK => ?_) AllReadyH.nil)))
  ·obtain ⟨s,b,l,f⟩ := O20.upd r 21 [79,85,84] (by decide)
   go_simp
   refine hKK _ _ (n.ins f (by omega) (by omega)) fun hHeld => ?_
   clear hKK KK; refine zB (l' := (L2 15)) (by kernel_rfl) ?_
   exact H_D012_0 d _ hHeld (zL h f (by omega)) a l
  ·obtain ⟨s,b,l,f⟩ := O20.upd r 23 [65,83,83,69,82,84] (by decide)
   go_simp
   refine hKK _ _ (n.ins f (by omega) (by omega)) fun hHeld => ?_
   clear hKK KK; refine zB (l' := (L2 23)) (by kernel_rfl) ?_
   exact H_D023_0 d _ hHeld (zL h f (by omega)) a l
  ·go_simp
   refine (y _ _ h (v.kept h)).mono ?_; rintro e z ⟨rfl,i⟩
   go_simp
   refine hKK _ _ (n.kept i) fun hHeld => ?_
   clear hKK KK; refine zB (l' := (L2 519)) (by kernel_rfl) ?_
   exact H_D02_1 d _ hHeld (za h i) a (O20.kept r i)
 case pD02_1 =>
  intro d j n h a r; refine wpAnyH_ready (rs := [4,5]) (by kernel_rfl) (by simp) ?_; refine (AllReadyH.cons rfl (fun KK hKK => ?_) (AllReadyH.cons rfl (fun KK hKK => ?_) AllReadyH.nil))
  ·obtain ⟨s,b,l,f⟩ := O20.upd r 21 [79,85,84] (by decide)
   go_simp
   refine hKK _ _ (n.ins f (by omega) (by omega)) fun hHeld => ?_
   clear hKK KK; refine zB (l' := (L2 527)) (by kernel_rfl) ?_
   exact H_D012_1 d _ hHeld (zL h f (by omega)) a l
  ·obtain ⟨s,b,l,f⟩ := O20.upd r 23 [65,83,83,69,82,84] (by decide)
   go_simp
   refine hKK _ _ (n.ins f (by omega) (by omega)) fun hHeld => ?_
   clear hKK KK; refine zB (l' := (L2 535)) (by kernel_rfl) ?_
   exact H_D023_1 d _ hHeld (zL h f (by omega)) a l
 case pD01_0 =>
  intro d j n h a r; refine wpAnyH_ready (rs := [3,5,16]) (by kernel_rfl) (by simp) ?_; refine (AllReadyH.cons rfl (fun KK hKK => ?_) (AllReadyH.cons rfl (fun KK hKK => ?_) (AllReadyH.cons rfl (fun KK hKK => ?_) AllReadyH.nil)))
  ·obtain ⟨s,b,l,f⟩ := O20.upd r 22 [71,69,84] (by decide)
   go_simp
   refine hKK _ _ (n.ins f (by omega) (by omega)) fun hHeld => ?_
   clear hKK KK; refine zB (l' := (L2 15)) (by kernel_rfl) ?_
   exact H_D012_0 d _ hHeld (zL h f (by omega)) a l
  ·obtain ⟨s,b,l,f⟩ := O20.upd r 23 [65,83,83,69,82,84] (by decide)
   go_simp
   refine hKK _ _ (n.ins f (by omega) (by omega)) fun hHeld => ?_
   clear hKK KK; refine zB (l' := (L2 27)) (by kernel_rfl) ?_
   exact H_D013_0 d _ hHeld (zL h f (by omega)) a l
  ·go_simp
   refine (y _ _ h (v.kept h)).mono ?_; rintro e z ⟨rfl,i⟩
   go_simp
   refine hKK _ _ (n.kept i) fun hHeld => ?_
   clear hKK KK; refine zB (l' := (L2 523)) (by kernel_rfl) ?_
   exact H_D01_1 d _ hHeld (za h i) a (O20.kept r i)
 case pD01_1 =>
  intro d j n h a r; refine wpAnyH_ready (rs := [3,5]) (by kernel_rfl) (by simp) ?_; refine (AllReadyH.cons rfl (fun KK hKK => ?_) (AllReadyH.cons rfl (fun KK hKK => ?_) AllReadyH.nil))
  ·obtain ⟨s,b,l,f⟩ := O20.upd r 22 [71,69,84] (by decide)
   go_simp
   refine hKK _ _ (n.ins f (by omega) (by omega)) fun hHeld => ?_
   clear hKK KK; refine zB (l' := (L2 527)) (by kernel_rfl) ?_
   exact H_D012_1 d _ hHeld (zL h f (by omega)) a l
  ·obtain ⟨s,b,l,f⟩ := O20.upd r 23 [65,83,83,69,82,84] (by decide)
   go_simp
   refine hKK _ _ (n.ins f (by omega) (by omega)) fun hHeld => ?_
   clear hKK KK; refine zB (l' := (L2 539)) (by kernel_rfl) ?_
   exact H_D013_1 d _ hHeld (zL h f (by omega)) a l
 case pD123_0 =>
  intro d j n h a r; refine wpAnyH_ready (rs := [2,16]) (by kernel_rfl) (by simp) ?_; refine (AllReadyH.cons rfl (fun KK hKK => ?_) (AllReadyH.cons rfl (fun KK hKK => ?_) AllReadyH.nil))
  ·obtain ⟨s,b,l,f⟩ := O20.upd r 20 [78,69,87] (by decide)
   go_simp
   refine hKK _ _ (n.ins f (by omega) (by omega)) fun hHeld => ?_
   clear hKK KK; refine tQ 6 ?_
   refine zB (l' := (L2 63)) (by kernel_rfl) ?_
   exact H_F00 d _ hHeld (zL h f (by omega)) a l
  ·go_simp
   refine (y _ _ h (v.kept h)).mono ?_; rintro e z ⟨rfl,i⟩
   go_simp
   refine hKK _ _ (n.kept i) fun hHeld => ?_
   clear hKK KK; refine zB (l' := (L2 541)) (by kernel_rfl) ?_
   exact H_D123_1 d _ hHeld (za h i) a (O20.kept r i)
 case pD123_1 =>
  intro d j n h a r; refine wpAnyH_ready (rs := [2]) (by kernel_rfl) (by simp) ?_; refine (AllReadyH.cons rfl (fun KK hKK => ?_) AllReadyH.nil)
  ·obtain ⟨s,b,l,f⟩ := O20.upd r 20 [78,69,87] (by decide)
   go_simp
   refine hKK _ _ (n.ins f (by omega) (by omega)) fun hHeld => ?_
   clear hKK KK; refine tQ 6 ?_
   refine zB (l' := (L2 575)) (by kernel_rfl) ?_
   exact H_F01 d _ hHeld (zL h f (by omega)) a l
 case pD023_0 =>
  intro d j n h a r; refine wpAnyH_ready (rs := [4,16]) (by kernel_rfl) (by simp) ?_; refine (AllReadyH.cons rfl (fun KK hKK => ?_) (AllReadyH.cons rfl (fun KK hKK => ?_) AllReadyH.nil))
  ·obtain ⟨s,b,l,f⟩ := O20.upd r 21 [79,85,84] (by decide)
   go_simp
   refine hKK _ _ (n.ins f (by omega) (by omega)) fun hHeld => ?_
   clear hKK KK; refine tQ 6 ?_
   refine zB (l' := (L2 63)) (by kernel_rfl) ?_
   exact H_F00 d _ hHeld (zL h f (by omega)) a l
  ·go_simp
   refine (y _ _ h (v.kept h)).mono ?_; rintro e z ⟨rfl,i⟩
   go_simp
   refine hKK _ _ (n.kept i) fun hHeld => ?_
   clear hKK KK; refine zB (l' := (L2 535)) (by kernel_rfl) ?_
   exact H_D023_1 d _ hHeld (za h i) a (O20.kept r i)
 case pD023_1 =>
  intro d j n h a r; refine wpAnyH_ready (rs := [4]) (by kernel_rfl) (by simp) ?_; refine (AllReadyH.cons rfl (fun KK hKK => ?_) AllReadyH.nil)
  ·obtain ⟨s,b,l,f⟩ := O20.upd r 21 [79,85,84] (by decide)
   go_simp
   refine hKK _ _ (n.ins f (by omega) (by omega)) fun hHeld => ?_
   clear hKK KK; refine tQ 6 ?_
   refine zB (l' := (L2 575)) (by kernel_rfl) ?_
   exact H_F01 d _ hHeld (zL h f (by omega)) a l
 case pD013_0 =>
  intro d j n h a r; refine wpAnyH_ready (rs := [3,16]) (by kernel_rfl) (by simp) ?_; refine (AllReadyH.cons rfl (fun KK hKK => ?_) (AllReadyH.cons rfl (fun KK hKK => ?_) AllReadyH.nil))
  ·obtain ⟨s,b,l,f⟩ := O20.upd r 22 [71,69,84] (by decide)
   go_simp
   refine hKK _ _ (n.ins f (by omega) (by omega)) fun hHeld => ?_
   clear hKK KK; refine tQ 6 ?_
   refine zB (l' := (L2 63)) (by kernel_rfl) ?_
   exact H_F00 d _ hHeld (zL h f (by omega)) a l
  ·go_simp
   refine (y _ _ h (v.kept h)).mono ?_; rintro e z ⟨rfl,i⟩
   go_simp
   refine hKK _ _ (n.kept i) fun hHeld => ?_
   clear hKK KK; refine zB (l' := (L2 539)) (by kernel_rfl) ?_
   exact H_D013_1 d _ hHeld (za h i) a (O20.kept r i)
 case pD013_1 =>
  intro d j n h a r; refine wpAnyH_ready (rs := [3]) (by kernel_rfl) (by simp) ?_; refine (AllReadyH.cons rfl (fun KK hKK => ?_) AllReadyH.nil)
  ·obtain ⟨s,b,l,f⟩ := O20.upd r 22 [71,69,84] (by decide)
   go_simp
   refine hKK _ _ (n.ins f (by omega) (by omega)) fun hHeld => ?_
   clear hKK KK; refine tQ 6 ?_
   refine zB (l' := (L2 575)) (by kernel_rfl) ?_
   exact H_F01 d _ hHeld (zL h f (by omega)) a l
 case pD012_0 =>
  intro d j n h a r; refine wpAnyH_ready (rs := [5,16]) (by kernel_rfl) (by simp) ?_; refine (AllReadyH.cons rfl (fun KK hKK => ?_) (AllReadyH.cons rfl (fun KK hKK => ?_) AllReadyH.nil))
  ·obtain ⟨s,b,l,f⟩ := O20.upd r 23 [65,83,83,69,82,84] (by decide)
   go_simp
   refine hKK _ _ (n.ins f (by omega) (by omega)) fun hHeld => ?_
   clear hKK KK; refine tQ 6 ?_
   refine zB (l' := (L2 63)) (by kernel_rfl) ?_
   exact H_F00 d _ hHeld (zL h f (by omega)) a l
  ·go_simp
   refine (y _ _ h (v.kept h)).mono ?_; rintro e z ⟨rfl,i⟩
   go_simp
   refine hKK _ _ (n.kept i) fun hHeld => ?_
   clear hKK KK; refine zB (l' := (L2 527)) (by kernel_rfl) ?_
   exact H_D012_1 d _ hHeld (za h i) a (O20.kept r i)
 case pD012_1 =>
  intro d j n h a r; refine wpAnyH_ready (rs := [5]) (by kernel_rfl) (by simp) ?_; refine (AllReadyH.cons rfl (fun KK hKK => ?_) AllReadyH.nil)
  ·obtain ⟨s,b,l,f⟩ := O20.upd r 23 [65,83,83,69,82,84] (by decide)
   go_simp
   refine hKK _ _ (n.ins f (by omega) (by omega)) fun hHeld => ?_
   clear hKK KK; refine tQ 6 ?_
   refine zB (l' := (L2 575)) (by kernel_rfl) ?_
   exact H_F01 d _ hHeld (zL h f (by omega)) a l
 case pF00 =>
  intro d j n h a r; refine wpAnyH_ready (rs := [9,16]) (by kernel_rfl) (by simp) ?_; refine (AllReadyH.cons rfl (fun KK hKK => ?_) (AllReadyH.cons rfl (fun KK hKK => ?_) AllReadyH.nil))
  ·have b := (C j d) r
   go_simp
   refine hKK _ _ n fun hHeld => ?_
   clear hKK KK b; refine tQ 10 ?_
   refine tQ 11 ?_
   refine zB (l' := (L2 511)) (by kernel_rfl) ?_
   exact H_F10 d _ hHeld h a
  ·go_simp
   refine (y _ _ h (v.kept h)).mono ?_; rintro e z ⟨rfl,i⟩
   go_simp
   refine hKK _ _ (n.kept i) fun hHeld => ?_
   clear hKK KK; refine zB (l' := (L2 575)) (by kernel_rfl) ?_
   exact H_F01 d _ hHeld (za h i) a (O20.kept r i)
 case pF01 =>
  intro d j n h a r; refine wpAnyH_ready (rs := [9]) (by kernel_rfl) (by simp) ?_; refine (AllReadyH.cons rfl (fun KK hKK => ?_) AllReadyH.nil)
  ·have b := (C j d) r
   go_simp
   refine hKK _ _ n fun hHeld => ?_
   clear hKK KK b; refine tQ 10 ?_
   refine tQ 11 ?_
   refine zB (l' := (L2 1023)) (by kernel_rfl) ?_
   exact H_F11 d _ hHeld h a
 case pF10 =>
  intro d j n h a; refine wpAnyH_ready (rs := [16]) (by kernel_rfl) (by simp) ?_; refine (AllReadyH.cons rfl (fun KK hKK => ?_) AllReadyH.nil)
  ·go_simp
   refine (y _ _ h (v.kept h)).mono ?_; rintro e z ⟨rfl,i⟩
   go_simp
   refine hKK _ _ (n.kept i) fun hHeld => ?_
   clear hKK KK; refine zB (l' := (L2 1023)) (by kernel_rfl) ?_
   exact H_F11 d _ hHeld (za h i) a
 case pF11 =>
  intro d j n h a; have hHeld := n; refine tQ 17 ?_; refine tQ 18 ?_; refine tQ 19 ?_; refine wpAnyH_done (by kernel_rfl) ?_ _; clear hHeld; go_wp2_with fail
  go_ret
  refine ⟨(show Ending.returned (.string (((((⟨List.toArray P⟩ : ByteArray) ++ (⟨List.toArray V⟩ : ByteArray)) ++ (⟨List.toArray [40]⟩ : ByteArray)) ++ (⟨List.toArray U⟩ : ByteArray)) ++ (⟨List.toArray [41]⟩ : ByteArray))) = _ from zU ?_),h⟩
  repeat rw [zC]
  try simp only [List.append_assoc]
  try rfl
end Go.Proofs.YtifapidjkelnfaaGreatDoor
