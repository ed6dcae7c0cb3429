/- The law TopPrint: its one call answers true,whatever the raw numbers. -/
import Derived.Test.YtfjgelmllcnokaaGreatDoorG12
import Derived.Test.YtfjgelmllcnokaaGreatDoorG04
import Derived.Test.YtfjgelmllcnokaaGreatDoorG20
import Derived.Test.YtfjgelmllcnokaaGreatDoorG21
import Derived.Test.YtfjgelmllcnokaaGreatDoorG33
import Derived.Test.YtfjgelmllcnokaaGreatDoorG43
import Derived.Test.YtfjgelmllcnokaaGreatDoorG49
import Derived.Test.YtfjgelmllcnokaaGreatDoorG52
namespace Go.Proofs.YtfjgelmllcnokaaGreatDoor
open Go.RowKit
set_option maxHeartbeats 4000000
set_option maxRecDepth 1000000
mutual
theorem Same.symm {t u : T} (h : Same t u) : Same u t := by
 cases h with
 | mk h => exact .mk h.symm
theorem SameL.symm {l m : List T} (h : SameL l m) : SameL m l := by
 cases h with
 | nil => exact .nil
 | cons h hl => exact .cons h.symm hl.symm
end
def oG : W8 := [77,79,68,85,76,69,32,77,59,32,66,69,71,73,78,32,79,85,84,40,49,41,32,69,78,68,32,77,46]
def bq : Bool := match jm oG with
 | .ok l => (match vr (kD 29 l) 0 with | .ok (x,_) => x.name == [77] | .error _ => false)
 | .error _ => false
theorem zb5 : bq = true := by kernel_rfl
theorem iN {w w' : World} {e : Ending} (h : ParsePost oG w e w') : ∃ x v,e = .returned (.tuple #[v,.nilIface]) /\ x.name = [77] /\ TR w' w.heap.size w'.heap.size x v := by
 have d := zb5
 unfold bq at d
 have b : oG.length = 29 := rfl
 obtain ⟨_,h | h | h | h⟩ := h
 ·exact absurd h.1 (by rw [b]; omega)
 ·obtain ⟨_,_,_,q,f,_⟩ := h
  rw [f] at d; cases d
 ·obtain ⟨_,l,x,q,f,g,_⟩ := h
  rw [b] at g; rw [f] at d; simp only [g] at d; cases d
 ·obtain ⟨_,l,x,_,v,f,g,rfl,i⟩ := h
  rw [b] at g; rw [f] at d; simp only [g] at d
  exact ⟨x,v,rfl,by simpa using d,i⟩
theorem ij {w w' : World} (hg : w.grownBy w' none) : Below w.heap.size w w' := ⟨hg.os,hg.tape,hg.output,hg.size,fun i hi => hg.block i hi (by simp)⟩
theorem nd {w w' : World} (hb : Below w.heap.size w w') : w.grownBy w' none := ⟨hb.os,hb.tape,hb.output,hb.size,fun i hi _ => hb.block i hi⟩
structure Env (w : World) : Prop where
 tab : Lib.TabIs Tryz.prog w "strings.asciiSpace" .u8 Lib.asciiSpaceTab
 pow : PT w
 err : HasErr w
theorem Env.kept {w w' : World} (h : Env w) (hg : w.grownBy w' none) : Env w' := ⟨ki h.tab (ij hg),h.pow.kept hg,h.err.grown hg (fun k h => by cases h)⟩
theorem zac (t : T) (sv : Value) (w : World) (hfit : Fits t) (ha : AT w t.subs sv) (hw : jY .module t = true) (hcount : zr t <= 10000) (hc4 : 4000 < zr t) (htab : Lib.TabIs Tryz.prog w "strings.asciiSpace" .u8 Lib.asciiSpaceTab) :
  Calls Tryz.prog 7 #[yl t sv] w (Sy w (.tuple #[.string ⟨#[]⟩,bZ 3])) := by
 have g : Hid (∀ w',w.grownBy w' none -> Calls Tryz.prog 17 #[yl t sv] w' fun e w'' => w'.grownBy w'' none /\ e = .returned (.tuple #[.int .i64 (zr t),.bool true])) := fun w' hg => (td t sv w' hfit (ha.kept hg) hcount (ki htab (ij hg))).mono (fun e w'' h => ⟨h.1,by rcases h.2 with d | d; exact d.2; rw [hw] at d; cases d.1⟩)
 obtain ⟨a,n,c,rfl,_,_,i⟩ := ha.any; obtain ⟨b,x,m,p,l⟩ := t; clear ha hfit htab i hw
 change Calls Tryz.prog 7 #[.agg #[.int .i64 b,.string ⟨x.toArray⟩,.int .i64 m,.int .i64 p,.slice a n c]] w _
 generalize j : zr (.mk b x m p l) = C at *
 clear j; have r : Hid (Box (w.alloc (.cells #[.int .i64 b,.string ⟨x.toArray⟩,.int .i64 m,.int .i64 p,.slice a n c] 28)) w.heap.size (.mk b x m p l) (.slice a n c)) := Box.new w (.mk b x m p l) (.slice a n c) 28
 go_enter Tryz.func7,Tryz.ntmps7
 go_wp2_with fail; go_at_call 17; refine (g.out _ gan).mono ?_; rintro e s ⟨f,rfl⟩; have o := za (zb gan f); clear f
 have u : (4000 : Int) < (C : Int) := by omega
 go_wp2_with fail
 exact bodyPost_ret (v := .tuple #[.string ⟨#[]⟩,bZ 3]) (by simp [results,Tryz.results7,go_sem]) rfl ⟨rfl,o.out⟩
theorem pB {t : T} (hG : Good t) (sv : Value) (w : World) (ha : AT w t.subs sv) (hE : Env w) :
  Calls Tryz.prog 7 #[yl t sv] w (Sy w (if zr t <= 4000 /\ (zP 8900 t).length <= 4000 then .tuple #[.string ⟨(zP 8900 t).toArray⟩,.nilIface] else .tuple #[.string ⟨#[]⟩,bZ 3])) := by
 have d := hG.count
 by_cases h : zr t <= 4000
 ·have := zdk t sv w 8900 (by omega) hG.wf.2.fits ha h (by have := hG.depth; omega) hE.tab hE.pow (fun _ => hG.len)
  unfold zbq at this
  rw [if_pos hG.well] at this
  by_cases b : 4000 < (zP 8900 t).length
  ·rw [if_pos b] at this
   rw [if_neg (by omega)]
   exact this
  ·rw [if_neg b] at this
   rw [if_pos ⟨h,by omega⟩]
   exact this
 ·rw [if_neg (by omega)]
  exact zac t sv w hG.wf.2.fits ha hG.well (by omega) (by omega) hE.tab
theorem ak {X : W8} {l : List (List UInt8 × List UInt8)} {u : T} {j : Nat} (h1 : jm X = .ok l) (h2 : vr (kD X.length l) 0 = .ok (u,j)) (hX : X.length <= 4000) {w w' : World} {e : Ending} (h : ParsePost X w e w') : ∃ v,e = .returned (.tuple #[v,.nilIface]) /\ TR w' w.heap.size w'.heap.size u v := by
 obtain ⟨_,h | h | h | h⟩ := h
 ·exact absurd h.1 (by omega)
 ·obtain ⟨_,_,_,q,b,_⟩ := h
  rw [h1] at b; cases b
 ·obtain ⟨_,l,x,q,b,d,_⟩ := h
  rw [h1] at b; cases b; rw [h2] at d; cases d
 ·obtain ⟨_,l,x,j,v,b,d,rfl,f⟩ := h
  rw [h1] at b; cases b; rw [h2] at d; cases d
  exact ⟨v,rfl,f⟩
theorem aF {x : W8} (hg : Gd x 20) {w w' : World} {e : Ending} (h : ParsePost x w e w') : (∃ y z,e = .returned (.tuple #[.agg kV,.iface y z])) \/
  ∃ t v,e = .returned (.tuple #[v,.nilIface]) /\ TR w' w.heap.size w'.heap.size t v /\ Good t /\ ∃ l2,jm (zP 8900 t) = .ok l2 /\ ∀ L' : List Tok,L'.map Prod.fst = l2.map Prod.fst -> ∃ u j,vr L' 0 = .ok (u,j) /\ Same t u /\ zP 8900 u = zP 8900 t /\ ((zP 8900 t).length <= 4000 -> Good u) := by
 obtain ⟨_,h | h | h | h⟩ := h
 ·exact .inl ⟨_,_,h.2⟩
 ·obtain ⟨_,_,_,q,f,d,_⟩ := h
  exact .inl ⟨_,_,d⟩
 ·obtain ⟨_,l,x,q,f,d,g,_⟩ := h
  exact .inl ⟨_,_,g⟩
 ·obtain ⟨i,l,x,j,v,f,d,g,m⟩ := h
  obtain ⟨a,b⟩ := zd0 hg i f d
  exact .inr ⟨x,v,g,m,a,b⟩
theorem zdd {w : World} {S : Nat -> Prop} {ts : List T} {v : Value} (h : LR w S ts v) : LR w (fun _ => True) ts v := h.mono (fun _ _ => trivial)
theorem zam (a : Option Addr) (n c : Nat) (k h : Int) (w : World) (hn : 256 < n) (hm : n <= maxLen) :
  Calls Tryz.prog 3 #[.slice a n c,.int .i64 k,.int .i64 h] w fun e w' => e = .returned (.bool true) /\ w.grownBy w' none := by
 unfold maxLen at hm
 go_enter Tryz.func3,Tryz.ntmps3
 go_wp2
 go_ret
 exact ⟨rfl,zl w none⟩
theorem ze9 (a : Option Addr) (n c : Nat) (k h : Int) (w : World) (hk1 : -9223372036854775808 <= k) (hk2 : k <= 9223372036854775807) (h1 : -9223372036854775808 <= h) (h2 : h <= 9223372036854775807) (hE : Env w) (hn : n <= 256)
  (hr : ∀ k : Nat,RawV (w.alloc (.cells #[.slice a n c,.int .i64 k] 42)) w.heap.size (.slice a n c)) :
  Calls Tryz.prog 3 #[.slice a n c,.int .i64 k,.int .i64 h] w fun e w' => e = .returned (.bool true) /\ w.grownBy w' none := by
 have HP := za (hO k 100 w hk1 hk2 (by omega) (by omega)); have r := kh (c := k) (n := 100) (by omega)
 generalize kI k 100 = q at HP r
 obtain ⟨m,rfl⟩ := Int.eq_ofNat_of_zero_le r.1; have HX := za (aJ a n c m h w (by omega) h1 h2 (hr m)); have HK := za (fun w' => hO h 2 w' h1 h2 (by omega) (by omega)); have hq := kh (c := h) (n := 2) (by omega)
 generalize kI h 2 = q2 at HK hq
 obtain ⟨m2,rfl⟩ := Int.eq_ofNat_of_zero_le hq.1; have d := za hE; clear hr hE r
 go_enter Tryz.func3,Tryz.ntmps3
 go_wp2_with fail; go_at_call 5; refine HP.out.mono ?_; rintro e w1 ⟨rfl,hw⟩; have hw := hw.symm; subst hw; go_wp2_with fail; go_at_call 4; refine HX.out.mono ?_; rintro e w2 ⟨g,v0,v1,rfl,c0,c1,M0,M1,g2⟩; have G2 := za g2
 have H : ∃ x : W8,w2.cell? ⟨g,m2,none⟩ = some (.string ⟨x.toArray⟩) /\ Gd x 20 /\ x.length <= 100000 := by
  have a0 : m2 = 0 \/ m2 = 1 := by omega
  rcases a0 with rfl | rfl
  ·obtain ⟨x,rfl,H⟩ := M0; exact ⟨x,c0,H⟩
  ·obtain ⟨x,rfl,H⟩ := M1; exact ⟨x,c1,H⟩
 obtain ⟨x,cx,gx,_⟩ := H; have CX := za cx; have GX := za gx; clear g2 HP HX M0 M1 c0 c1 cx gx v0 v1; have E2 := za (d.out.kept G2.out); go_wp2_with fail; go_at_call 6; refine (dx ⟨oG.toArray⟩ w2 (by decide) E2.out.tab oS).mono ?_; intro e w3 s; have g3 := nd s.1; obtain ⟨x3,_,rfl,a1,U⟩ := iN s; have G3 := za (zb G2.out g3); have C3 := za (yI g3 CX.out); have E3 := za (d.out.kept G3.out); obtain ⟨_,rfl,U⟩ := U; obtain ⟨_,_,rfl⟩ := U.form; obtain ⟨k3,y3,_,_,_⟩ := x3; obtain rfl : y3 = [77] := a1; clear U g3 s E2 G2 CX; simp only [T.kind,T.name,T.num,T.at',T.subs]; have a2 : g < w3.heap.size := ze C3.out; go_wp2_with fail; go_at_call 5; refine (HK.out _).mono ?_; rintro e w4 ⟨rfl,I⟩
 have g4 : w3.grownBy w4 none := by rw [I]; exact zf (zl _ _) _
 have V := za (zb G3.out g4); have C4 := za (yI g4 C3.out); have E4 := za (d.out.kept V.out); clear I g4 C3 E3 G3 HK a2; have c4 := C4.out; go_wp2_with fail; go_at_call 6; refine (dx ⟨x.toArray⟩ w4 (by simp [ByteArray.size]; unfold maxLen; omega) E4.out.tab oS).mono ?_; intro e Y j; have g5 := nd j.1; have J := za (zb V.out g5); have E5 := za (d.out.kept J.out)
 rcases aF GX.out j with ⟨y,z,rfl⟩ | ⟨t,v,rfl,tr,hG,l2,A,f⟩
 ·clear j g5 C4 c4 V E4
  simp only [kV]; go_wp2_with fail
  go_ret
  exact ⟨rfl,zf J.out _⟩
 clear j g5 C4 c4 V E4; obtain ⟨i,rfl,Z⟩ := tr; have L5 := za (zdd Z)
 have K : Hid (∀ w',Y.grownBy w' none -> Calls Tryz.prog 7 #[yl t i] w' (Sy w' (if zr t <= 4000 /\ (zP 8900 t).length <= 4000 then .tuple #[.string ⟨(zP 8900 t).toArray⟩,.nilIface] else .tuple #[.string ⟨#[]⟩,bZ 3]))) := fun w' hg => pB hG i w' ((mj Z (fun u hu => hG.wf.2.sub hu)).kept hg) (E5.out.kept hg)
 obtain ⟨L,M,rfl⟩ := Z.form; clear Z hG
 by_cases b : zr t <= 4000 /\ (zP 8900 t).length <= 4000
 ·simp only [if_pos b] at K
  obtain ⟨u,_,k1,k2,k3,k4⟩ := f _ (lE (zP 8900 t).length l2); have B := k4 b.2
  have HB : Hid (∀ w' e w'',ParsePost (zP 8900 t) w' e w'' -> ∃ v,e = .returned (.tuple #[v,.nilIface]) /\ TR w'' w'.heap.size w''.heap.size u v) := fun w' e w'' h => ak A k1 b.2 h
  have N : Hid (∀ w' i,AT w' u.subs i -> Env w' -> Calls Tryz.prog 7 #[yl u i] w' (Sy w' (.tuple #[.string ⟨(zP 8900 t).toArray⟩,.nilIface]))) := fun w' i ha he => by
   have := pB B i w' ha he; rwa [k3,if_pos ⟨by rw [<- sV k2]; exact b.1,b.2⟩] at this
  have HF : Hid (∀ v ∈ u.subs,FA v) := fun v hv => B.wf.2.sub hv
  have HS := za k2.symm; have hX := b.2; have a4 : zP 8900 t ≠ [] := dR _ _; clear b f A k1 k2 k3 k4 B
  generalize zP 8900 t = X at *
  generalize l : t.subs.length = tn at *
  have O : Hid (∀ w' i,LR w' (fun _ => True) u.subs i -> LR w' (fun _ => True) t.subs (.slice L tn M) -> Calls Tryz.prog 9 #[yl u i,yl t (.slice L tn M)] w' fun e w'' => e = .returned (.bool true) /\ w'.grownBy w'' none) := fun w' i l1 l2 => nI u t HS.out w' i _ l1 l2
  clear HS l; obtain ⟨tk,ty,tm,tp,tl⟩ := t; simp only [T.kind,T.name,T.num,T.at']; have B5 : Hid (Box (Y.alloc (.cells #[.int .i64 tk,.string ⟨ty.toArray⟩,.int .i64 tm,.int .i64 tp,.slice L tn M] 28)) Y.heap.size (.mk tk ty tm tp tl) (.slice L tn M)) := Box.new Y (.mk tk ty tm tp tl) (.slice L tn M) 28; go_wp2_with fail; go_at_call 7; refine (K.out _ (zf (zl _ _) _)).mono ?_; rintro e w6 ⟨rfl,C⟩; have E := za (zb J.out (zb (zf (zl _ _) _) C)); have E6 := za (d.out.kept E.out); have B6 := za (B5.out.kept C); have L6 := za (L5.out.kept (zb gan C) (fun _ hk => by cases hk)); clear C B5 L5 J E5 K; go_wp2_with fail; go_at_call 6; refine (dx ⟨X.toArray⟩ w6 (by simp [ByteArray.size]; unfold maxLen; omega) E6.out.tab oS).mono ?_; intro e w7 D; have g7 := nd D.1; have R := za (zb E.out g7); have E7 := za (d.out.kept R.out); have B7 := za (B6.out.kept g7); have L7 := za (L6.out.kept g7 (fun _ hk => by cases hk)); obtain ⟨_,rfl,a3⟩ := HB.out _ _ _ D; obtain ⟨_,rfl,o⟩ := a3; have M7 := za (zdd o); have A7 := za (mj o HF.out); obtain ⟨ua,uc,rfl⟩ := o.form; clear o D g7 E E6 B6 L6 HB HF
  generalize l : u.subs.length = un at *
  clear l; obtain ⟨uk,uy,um,up,ul⟩ := u; simp only [T.kind,T.name,T.num,T.at']; have D7 : Hid (Box (w7.alloc (.cells #[.int .i64 uk,.string ⟨uy.toArray⟩,.int .i64 um,.int .i64 up,.slice ua un uc] 28)) w7.heap.size (.mk uk uy um up ul) (.slice ua un uc)) := Box.new w7 (.mk uk uy um up ul) (.slice ua un uc) 28; go_wp2_with fail; go_at_call 7; refine (N.out _ _ (A7.out.kept gan) (E7.out.kept gan)).mono ?_; rintro e w8 ⟨rfl,F⟩; have G8 := za (zb R.out (zb (zf (zl _ _) _) F)); have B8 := za (B7.out.kept (zb gan F)); have D8 := za (D7.out.kept F); have L8 := za (L7.out.kept (zb gan F) (fun _ hk => by cases hk)); have M8 := za (M7.out.kept (zb gan F) (fun _ hk => by cases hk)); clear F R E7 B7 L7 A7 M7 D7 N; obtain ⟨b0,b1,b2,b3,b4⟩ := B8.out; obtain ⟨d0,d1,d2,d3,d4⟩ := D8.out; go_wp2_with fail; go_at_call 9; refine (O.out w8 _ M8.out L8.out).mono ?_; rintro e w9 ⟨rfl,g9⟩; have G9 := za (zb G8.out g9); clear g9 b0 b1 b2 b3 b4 d0 d1 d2 d3 d4 B8 D8 L8 M8 O G8; go_wp2_with fail
  go_ret
  exact ⟨rfl,G9.out⟩
 ·simp only [if_neg b] at K
  clear f A b
  generalize l : t.subs.length = tn at *
  obtain ⟨tk,ty,tm,tp,tl⟩ := t; simp only [T.kind,T.name,T.num,T.at']; go_wp2_with fail; go_at_call 7; refine (K.out _ (zf (zl _ _) _)).mono ?_; rintro e w6 ⟨rfl,C⟩; have E := za (zb J.out (zb (zf (zl _ _) _) C)); have E6 := za (d.out.kept E.out); clear C; go_wp2_with fail; go_at_call 8; refine (cR 3 w6 E6.out.err).mono ?_; rintro e w7 ⟨rfl,b7⟩; have R := za (zb E.out (nd b7)); clear b7; go_wp2_with fail
  go_ret
  exact ⟨rfl,R.out⟩
end Go.Proofs.YtfjgelmllcnokaaGreatDoor
