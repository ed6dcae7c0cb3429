/- The program's writer: names,types. -/
import Derived.Test.YtfjgelmllcnokaaGreatDoorG22
import Derived.Test.YtfjgelmllcnokaaGreatDoorG04
import Derived.Test.YtfjgelmllcnokaaGreatDoorG07
namespace Go.Proofs.YtfjgelmllcnokaaGreatDoor
open Go.RowKit Go.Maps Go.WideMaps Go.WideElems
set_option maxHeartbeats 4000000
set_option maxRecDepth 1000000
theorem uU (w0 : World) (wb : Nat) (w : World) (S : List UInt8) (L : Nat) (kd : Int) (x : List UInt8) (m p : Int) (ts : List T) (sv : Value) (h : Wr w0 wb w S L) (ha : AT w0 (T.mk kd x m p ts).subs sv) (hlen : S.length + (yK (.mk kd x m p ts)).length <= 1000000000) :
  Calls Tryz.prog 39 #[ptr wb,yl (.mk kd x m p ts) sv] w (WP w0 wb w S L (yK (.mk kd x m p ts))) := by
 have K := za ha; have b := za h; have F := h.lt; obtain ⟨a,n,c,rfl,_,_,A⟩ := ha.any
 change ts.length = n at A
 subst A; clear h ha
 change Calls Tryz.prog 39 #[ptr wb,.agg #[.int .i64 kd,.string ⟨x.toArray⟩,.int .i64 m,.int .i64 p,.slice a ts.length c]] w _
 by_cases B : m = 1
 ·subst B
  have g : Hid (yK (.mk kd x 1 p ts) = x ++ [42]) := rfl
  rw [g.out] at hlen; simp only [la,lc,ln] at hlen
  go_enter Tryz.func39,Tryz.ntmps39
  go_wp2_with fail; go_at_call 40; refine (ye w0 wb _ _ L x _ _ (by simp) (b.out.grown gan) (by first | omega | (simp only [la,lc,ln,zo]; omega))).mono ?_; rintro e H ⟨rfl,i,d⟩; have j := za i; have y := za ((WK.grown b.out gan).trans d); have f := za ((FB.newX b.out kd x 1 p ts (.slice a ts.length c) 28 grn).step ((WK.grown (b.out.grown gan) grn).trans d)); obtain ⟨l,o,r,s,t⟩ := f.out.box.p; have u := f.out.fr.lt
  clear i d; go_wp2_with fail; go_at_call 40; refine (ye w0 wb _ _ L [42] _ _ (by simp) (j.out.grown grn) (by first | omega | (simp only [la,lc,ln]; omega))).mono ?_; rintro e M ⟨rfl,C,z⟩; have I := za C; have J := km y j z; have D := bm f j z; cases D.out.box.q; have E := D.out.fr.lt
  clear C z; go_wp2_with fail
  go_end0
  rw [g.out]; refine ⟨rfl,?_,J.out⟩; have v := I.out
  try simp only [List.append_assoc] at v ⊢
  exact v
 ·have g : Hid (yK (.mk kd x m p ts) = x) := by show _ = _; simp [yK,T.num,T.name,B]
  rw [g.out] at hlen
  go_enter Tryz.func39,Tryz.ntmps39
  go_wp2_with fail; go_at_call 40; refine (ye w0 wb _ _ L x _ _ (by simp) (b.out.grown gan) (by first | omega | (simp only [la,lc,ln,zo]; omega))).mono ?_; rintro e H ⟨rfl,i,d⟩; have j := za i; have y := za ((WK.grown b.out gan).trans d); have f := za ((FB.newX b.out kd x m p ts (.slice a ts.length c) 28 grn).step ((WK.grown (b.out.grown gan) grn).trans d)); obtain ⟨l,o,r,s,t⟩ := f.out.box.p; have u := f.out.fr.lt
  clear i d; go_wp2_with fail
  go_end0
  rw [g.out]; refine ⟨rfl,?_,y.out⟩; have v := j.out
  try simp only [List.append_assoc,List.nil_append,List.append_nil] at v ⊢
  exact v
def uB (ts : List T) : List UInt8 := zZ (fun u => u.name ++ [46]) ts
theorem bW {ts : List T} {i : Nat} {u : T} (h : ts[i]? = some u) : uB (ts.take (i + 1)) = uB (ts.take i) ++ (u.name ++ [46]) := by
 unfold uB
 rw [List.take_add_one,h,xu]
 simp [zZ]
theorem zeb (ts : List T) (i : Nat) : (uB (ts.take i)).length <= (uB ts).length := by
 have h : uB (ts.take i ++ ts.drop i) = uB (ts.take i) ++ uB (ts.drop i) := xu _ _ _; rw [List.take_append_drop] at h; rw [h,List.length_append]
 omega
theorem iP (w0 : World) (wb : Nat) (w : World) (S : List UInt8) (L : Nat) (kd : Int) (x : List UInt8) (m p : Int) (ts : List T) (sv : Value) (h : Wr w0 wb w S L) (ha : AT w0 (T.mk kd x m p ts).subs sv) (hlen : S.length + (uB ts ++ x).length <= 1000000000) :
  Calls Tryz.prog 90 #[ptr wb,yl (.mk kd x m p ts) sv] w (WP w0 wb w S L (uB ts ++ x)) := by
 have D := za ha; have l := za h; have E := h.lt; obtain ⟨a,n,c,rfl,_,_,t⟩ := ha.any
 change ts.length = n at t
 subst t; clear h ha
 change Calls Tryz.prog 90 #[ptr wb,.agg #[.int .i64 kd,.string ⟨x.toArray⟩,.int .i64 m,.int .i64 p,.slice a ts.length c]] w _
 simp only [List.length_append] at hlen
 go_enter Tryz.func90,Tryz.ntmps90
 go_wp2_with fail
 go_loopw [9] (fun iv wr => ∃ i : Nat,i <= ts.length /\ iv = .int .i64 ↑i /\ Hid (Wr w0 wb wr (S ++ uB (ts.take i)) L) /\ Hid (WK wb w wr) /\ Hid (FB wb wr w.heap.size (.mk kd x m p ts) (.slice a ts.length c))) (fun iv _ => ts.length - (intOf iv).toNat)
 case atStart => exact ⟨0,Nat.zero_le _,rfl,by show Wr _ _ _ _ _; simpa [uB,zZ] using l.out.grown gan,WK.grown l.out gan,FB.new l.out (.mk kd x m p ts) (.slice a ts.length c) 28 grn⟩
 case round =>
  obtain ⟨i,_,rfl,b,v,y⟩ := hrel; cases y.out.box.q
  by_cases o : i < ts.length
  ·obtain ⟨u,r⟩ : ∃ u,ts[i]? = some u := ⟨_,List.getElem?_eq_getElem o⟩
   obtain ⟨_,_,_,F,z,H,A⟩ := D.out.node i u r; cases F; obtain ⟨I,J,rfl,_,_⟩ := A.form; obtain ⟨_,_,_,_,_⟩ := z.kept b.out.gb; have B := za (bW r); have f := zeb ts (i + 1); rw [B.out] at f; simp only [la,lc,ln] at f; clear r H A z; have C := FB.new b.out u (.slice I u.subs.length J) 28 grn; have R := za C; clear C; go_wp2_with fail; go_at_call 40; refine (dE w0 wb _ _ L u.name [46] _ _ (by simp) (b.out.grown gan) (by simp only [la,lc,ln]; omega)).mono ?_; rintro e s ⟨rfl,g,d⟩
   have j : Hid (Wr w0 wb s (S ++ uB (ts.take (i + 1))) L) := by show Wr _ _ _ _ _; rw [B.out]; simpa only [List.append_assoc] using g
   have K := za (v.out.trans ((WK.grown b.out gan).trans d)); have M := za (y.out.step ((WK.grown b.out gan).trans d)); clear g d; go_wp2_with fail
   exact ⟨⟨i + 1,by omega,by go_num,j,K,M⟩,by simp [intOf]; omega⟩
  ·have j : Hid (Wr w0 wb wr (S ++ uB ts) L) := by
    have := b.out; rw [List.take_of_length_le (by omega)] at this
    exact this
   go_wp2_with fail; go_at_call 40; refine (ye w0 wb _ _ L x _ _ (by simp) (j.out.grown grn) (by simp only [List.length_append]; omega)).mono ?_; rintro e s ⟨rfl,g,d⟩
   have N : Hid (Wr w0 wb s (S ++ (uB ts ++ x)) L) := by show Wr _ _ _ _ _; simpa only [List.append_assoc] using g
   have O := za (v.out.trans ((WK.grown j.out grn).trans d)); clear g d; go_wp2_with fail
   go_end0
   exact ⟨rfl,N.out,O.out⟩
theorem zez {t : T} (h : TN t) : zB t = uB t.subs ++ t.name := by
 cases h with
 | plain x p h => rfl
 | dot x p y q h hy => simp [zB,uB,zZ,T.subs,T.name]
theorem xI (w0 : World) (wb : Nat) (w : World) (S : List UInt8) (L : Nat) (t : T) (sv : Value) (h : Wr w0 wb w S L) (ha : AT w0 t.subs sv) (ht : TN t) (hlen : S.length + (zB t).length <= 1000000000) :
  Calls Tryz.prog 90 #[ptr wb,yl t sv] w (WP w0 wb w S L (zB t)) := by
 have e := zez ht; obtain ⟨b,x,m,p,d⟩ := t; rw [e] at hlen ⊢
 exact iP w0 wb w S L b x m p d sv h ha hlen
end Go.Proofs.YtfjgelmllcnokaaGreatDoor
