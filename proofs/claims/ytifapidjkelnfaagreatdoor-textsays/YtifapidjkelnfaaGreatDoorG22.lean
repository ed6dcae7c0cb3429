/- The document's texts: lists of arguments,operators,calls. -/
import Derived.Test.YtifapidjkelnfaaGreatDoorG16
import Derived.Test.YtifapidjkelnfaaGreatDoorG02
import Derived.Test.YtifapidjkelnfaaGreatDoorG21
namespace Go.Proofs.YtifapidjkelnfaaGreatDoor
open Go.RowKit
set_option maxHeartbeats 4000000
set_option maxRecDepth 1000000
theorem zY {A : ByteArray} {b : Bs} (h : A = ⟨b.toArray⟩) : Value.string A = .string ⟨b.toArray⟩ := by rw [h]
theorem kF (l : List T) (sl : Value) (tx : T -> Bs) (w : World) (ha : AT w l sl) (he : ∀ v ∈ l,ETx w v (tx v)) (hlen : (zE [44,32] (l.map tx)).length <= 900000) :
  Calls Tryz.prog 102 #[sl] w (Sy w (.string ⟨([40] ++ (zE [44,32] (l.map tx) ++ [41])).toArray⟩)) := by
 have A := zb ha; have B := zb he; obtain ⟨_,_,rfl,_,j⟩ := ha.form
 unfold maxLen at j
 clear ha he
 go_enter Tryz.func102,Tryz.ntmps102
 go_wp2_with fail
 go_loopw [3,4] (fun sv iv wr => ∃ (i : Nat) (Y : Bs),i <= l.length /\ iv = .int .i64 ↑i /\ sv = .string ⟨Y.toArray⟩ /\ Hid (Y = [40] ++ zE [44,32] ((l.map tx).take i)) /\ Hid (w.grownBy wr none)) (fun _ iv _ => l.length - (intOf iv).toNat)
 case atStart => exact ⟨0,[40],Nat.zero_le _,rfl,rfl,by show _ = _; simp [zE],zj w none⟩
 case round =>
  obtain ⟨i,Y,_,rfl,rfl,g,a⟩ := hrel
  have I : Y.length <= 900001 := by
   rw [g.out]; have := vM [44,32] (l.map tx) i; simp only [la,lc,ln]
   omega
  by_cases k : i < l.length
  ·obtain ⟨u,h⟩ : ∃ u,l[i]? = some u := ⟨_,List.getElem?_eq_getElem k⟩
   obtain ⟨_,_,_,C,t,D,x⟩ := A.node i u h; cases C; obtain ⟨_,_,_,_,_⟩ := t.kept a; have y := zb x
   have b : (l.map tx)[i]? = some (tx u) := by rw [List.getElem?_map,h]; rfl
   have m := zb (vt [44,32] (l.map tx) i (tx u) b); obtain ⟨_,d⟩ := id B u (List.mem_of_getElem? h); have z := zb d; have n := vM [44,32] (l.map tx) (i + 1); rw [m.out] at n; clear h b D x t d
   have E : Y.length + 2 + (tx u).length <= 2000000 := by omega
   by_cases h0 : 0 < i
   ·have r : (0 : Int) < (i : Int) := by omega
    go_wp2_with fail; go_at_call 68; refine (z _ _ a (y.kept a)).mono ?_; rintro e G ⟨rfl,f⟩; have s := za a f; clear f; go_wp2_with fail; refine ⟨⟨i + 1,Y ++ [44,32] ++ tx u,by omega,by go_num,zY (by repeat rw [zC]),?_,s⟩,by simp [intOf]; omega⟩
    show _ = _
    rw [m.out,g.out,if_neg (show ¬ i = 0 by omega)]; simp only [List.append_assoc]
   ·have r : ¬ (0 : Int) < (i : Int) := by omega
    go_wp2_with fail; go_at_call 68; refine (z _ _ a (y.kept a)).mono ?_; rintro e G ⟨rfl,f⟩; have s := za a f; clear f; go_wp2_with fail; refine ⟨⟨i + 1,Y ++ tx u,by omega,by go_num,zY (by repeat rw [zC]),?_,s⟩,by simp [intOf]; omega⟩
    show _ = _
    rw [m.out,g.out,if_pos (show i = 0 by omega)]; simp only [List.append_assoc,List.nil_append]
  ·have H : Hid (Y = [40] ++ zE [44,32] (l.map tx)) := by
    have := g; rw [List.take_of_length_le (by simp; omega)] at this
    exact this
   go_wp2_with fail
   go_ret
   refine ⟨zU ?_,a⟩; rw [show (⟨#[41]⟩ : ByteArray) = ⟨List.toArray [41]⟩ from rfl,zC,H.out]; simp only [List.append_assoc]
   rfl
theorem zar (x : Bs) (m p : Int) (u : T) (v : T) (sv : Value) (w : World) (ha : AT w (T.mk 36 x m p [u,v]).subs sv) (U V : Bs) (r1 r2 : Int) (hx : 0 <= zo x) (hr1 : r1 = max (zo x) 1) (hr2 : r2 = zo x + 1) (hu : LTx w u r1 U) (hv : LTx w v r2 V) :
  Calls Tryz.prog 68 #[.agg #[.int .i64 36,.string ⟨x.toArray⟩,.int .i64 m,.int .i64 p,sv]] w (Sy w (.string ⟨(U ++ ([32] ++ (x ++ ([32] ++ V)))).toArray⟩)) := by
 obtain ⟨g,o,c,u',I,v',J,rfl,hn,hc,Y,K,fu,Z,n6,fv,av⟩ := ha.two rfl
 have L : u = u' /\ v = v' := by simpa [T.subs] using Y
 obtain ⟨rfl,rfl⟩ := L; have l := zb K; have n := zb n6; have M := zb Z; have N := zb av; have a0 := zc K.c0; obtain ⟨_,_,_,_,_⟩ := K; obtain ⟨_,_,_,_,_⟩ := n6; clear ha Y fu Z fv av; have O : Hid (Box (w.alloc (.cells #[.int .i64 36,.string ⟨x.toArray⟩,.int .i64 m,.int .i64 p,.slice (some ⟨g,o,none⟩) 2 c] 24)) w.heap.size (.mk 36 x m p [u,v]) (.slice (some ⟨g,o,none⟩) 2 c)) := Box.new w (.mk 36 x m p [u,v]) (.slice (some ⟨g,o,none⟩) 2 c) 24; obtain ⟨_,C⟩ := hu; have Q := zb C; clear C; obtain ⟨_,D⟩ := hv; have R := zb D; clear D; have lX := tz hx
 have r := fun w => zb (xI ⟨x.toArray⟩ w)
 have X := qR hx
 change ∀ w,Hid (Calls _ _ _ w (Sy w (.int .i64 (zo x)))) at r
 generalize zo x = lv at *
 rcases X with rfl | rfl | rfl
 ·obtain rfl : r1 = 1 := by rw [hr1]; decide
  obtain rfl : r2 = 1 := by rw [hr2]; decide
  clear hr1 hr2
  go_enter Tryz.func68,Tryz.ntmps68
  go_wp2_with fail; go_at_call 54; refine ((r _)).mono ?_; rintro e w1 ⟨rfl,a⟩; have f := za (zf grn _) a; have i := O.kept (za grn a); obtain ⟨s,t,y,z,A⟩ := i.p
  clear a
  go_wp2_with fail; refine wp_region_held_drew (S := (fun w' => w'.cell? ⟨w.heap.size,4,none⟩ = some (.slice (some ⟨g,o,none⟩) 2 c) /\ w'.cell? ⟨w.heap.size,1,none⟩ = some (.string ⟨x.toArray⟩) /\ Node5 w' g o u I /\ Node5 w' g (o + 5) v J)) (by kernel_rfl) ?_ (fun hHeld => ?_)
  ·exact ⟨zg (ze grn) i.c4,zg (ze grn) i.c1,l.kept (ze f),n.kept (ze f)⟩
  refine tQ 0 ?_; refine tQ 1 ?_; refine tQ 2 ?_; refine tQ 3 ?_; refine tQ 4 ?_; refine tQ 7 ?_; refine tQ 8 ?_; refine tQ 11 ?_; refine tQ 12 ?_; refine tQ 13 ?_; refine tQ 14 ?_; refine tQ 15 ?_; refine rd 5 rfl fun KK hKK => ?_
  go_simp
  go_at_call 103; refine (Q _ _ (ze f) (M.kept (ze f))).mono ?_; rintro e w2 ⟨rfl,b⟩; have h := za (ze f) b; have j := i.kept (za (ze grn) b); clear b
  go_simp
  refine hKK _ _ ⟨j.c4,j.c1,l.kept h,n.kept h⟩ fun hHeld => ?_
  clear hKK KK; refine tQ 6 ?_; refine tQ 9 ?_; refine tQ 10 ?_; refine rd 16 rfl fun KK hKK => ?_
  go_simp
  go_at_call 103; refine (R _ _ h (N.kept h)).mono ?_; rintro e w3 ⟨rfl,d⟩; have k := za h d; have B := j.kept (za grn d); clear d
  go_simp
  refine hKK _ _ ⟨B.c4,B.c1,l.kept k,n.kept k⟩ fun hHeld => ?_
  clear hKK KK; refine tQ 17 ?_; refine tQ 18 ?_; refine wpAnyH_done (by kernel_rfl) ?_ _; clear hHeld; go_wp2_with fail
  go_ret
  refine ⟨(show Ending.returned (.string (((((⟨List.toArray U⟩ : ByteArray) ++ (⟨List.toArray [32]⟩ : ByteArray)) ++ (⟨List.toArray x⟩ : ByteArray)) ++ (⟨List.toArray [32]⟩ : ByteArray)) ++ (⟨List.toArray V⟩ : ByteArray))) = _ from zU ?_),k⟩
  repeat rw [zC]
  try simp only [List.append_assoc]
  try rfl
 ·obtain rfl : r1 = 1 := by rw [hr1]; decide
  obtain rfl : r2 = 2 := by rw [hr2]; decide
  clear hr1 hr2
  go_enter Tryz.func68,Tryz.ntmps68
  go_wp2_with fail; go_at_call 54; refine ((r _)).mono ?_; rintro e w1 ⟨rfl,a⟩; have f := za (zf grn _) a; have i := O.kept (za grn a); obtain ⟨s,t,y,z,A⟩ := i.p
  clear a
  go_wp2_with fail; refine wp_region_held_drew (S := (fun w' => w'.cell? ⟨w.heap.size,4,none⟩ = some (.slice (some ⟨g,o,none⟩) 2 c) /\ w'.cell? ⟨w.heap.size,1,none⟩ = some (.string ⟨x.toArray⟩) /\ Node5 w' g o u I /\ Node5 w' g (o + 5) v J)) (by kernel_rfl) ?_ (fun hHeld => ?_)
  ·exact ⟨zg (ze grn) i.c4,zg (ze grn) i.c1,l.kept (ze f),n.kept (ze f)⟩
  refine tQ 0 ?_; refine tQ 1 ?_; refine tQ 2 ?_; refine tQ 3 ?_; refine tQ 4 ?_; refine tQ 7 ?_; refine tQ 8 ?_; refine tQ 11 ?_; refine tQ 12 ?_; refine tQ 13 ?_; refine tQ 14 ?_; refine tQ 15 ?_; refine rd 5 rfl fun KK hKK => ?_
  go_simp
  go_at_call 103; refine (Q _ _ (ze f) (M.kept (ze f))).mono ?_; rintro e w2 ⟨rfl,b⟩; have h := za (ze f) b; have j := i.kept (za (ze grn) b); clear b
  go_simp
  refine hKK _ _ ⟨j.c4,j.c1,l.kept h,n.kept h⟩ fun hHeld => ?_
  clear hKK KK; refine tQ 6 ?_; refine tQ 9 ?_; refine tQ 10 ?_; refine rd 16 rfl fun KK hKK => ?_
  go_simp
  go_at_call 103; refine (R _ _ h (N.kept h)).mono ?_; rintro e w3 ⟨rfl,d⟩; have k := za h d; have B := j.kept (za grn d); clear d
  go_simp
  refine hKK _ _ ⟨B.c4,B.c1,l.kept k,n.kept k⟩ fun hHeld => ?_
  clear hKK KK; refine tQ 17 ?_; refine tQ 18 ?_; refine wpAnyH_done (by kernel_rfl) ?_ _; clear hHeld; go_wp2_with fail
  go_ret
  refine ⟨(show Ending.returned (.string (((((⟨List.toArray U⟩ : ByteArray) ++ (⟨List.toArray [32]⟩ : ByteArray)) ++ (⟨List.toArray x⟩ : ByteArray)) ++ (⟨List.toArray [32]⟩ : ByteArray)) ++ (⟨List.toArray V⟩ : ByteArray))) = _ from zU ?_),k⟩
  repeat rw [zC]
  try simp only [List.append_assoc]
  try rfl
 ·obtain rfl : r1 = 2 := by rw [hr1]; decide
  obtain rfl : r2 = 3 := by rw [hr2]; decide
  clear hr1 hr2
  go_enter Tryz.func68,Tryz.ntmps68
  go_wp2_with fail; go_at_call 54; refine ((r _)).mono ?_; rintro e w1 ⟨rfl,a⟩; have f := za (zf grn _) a; have i := O.kept (za grn a); obtain ⟨s,t,y,z,A⟩ := i.p
  clear a
  go_wp2_with fail; refine wp_region_held_drew (S := (fun w' => w'.cell? ⟨w.heap.size,4,none⟩ = some (.slice (some ⟨g,o,none⟩) 2 c) /\ w'.cell? ⟨w.heap.size,1,none⟩ = some (.string ⟨x.toArray⟩) /\ Node5 w' g o u I /\ Node5 w' g (o + 5) v J)) (by kernel_rfl) ?_ (fun hHeld => ?_)
  ·exact ⟨zg (ze grn) i.c4,zg (ze grn) i.c1,l.kept (ze f),n.kept (ze f)⟩
  refine tQ 0 ?_; refine tQ 1 ?_; refine tQ 2 ?_; refine tQ 3 ?_; refine tQ 4 ?_; refine tQ 7 ?_; refine tQ 8 ?_; refine tQ 11 ?_; refine tQ 12 ?_; refine tQ 13 ?_; refine tQ 14 ?_; refine tQ 15 ?_; refine rd 5 rfl fun KK hKK => ?_
  go_simp
  go_at_call 103; refine (Q _ _ (ze f) (M.kept (ze f))).mono ?_; rintro e w2 ⟨rfl,b⟩; have h := za (ze f) b; have j := i.kept (za (ze grn) b); clear b
  go_simp
  refine hKK _ _ ⟨j.c4,j.c1,l.kept h,n.kept h⟩ fun hHeld => ?_
  clear hKK KK; refine tQ 6 ?_; refine tQ 9 ?_; refine tQ 10 ?_; refine rd 16 rfl fun KK hKK => ?_
  go_simp
  go_at_call 103; refine (R _ _ h (N.kept h)).mono ?_; rintro e w3 ⟨rfl,d⟩; have k := za h d; have B := j.kept (za grn d); clear d
  go_simp
  refine hKK _ _ ⟨B.c4,B.c1,l.kept k,n.kept k⟩ fun hHeld => ?_
  clear hKK KK; refine tQ 17 ?_; refine tQ 18 ?_; refine wpAnyH_done (by kernel_rfl) ?_ _; clear hHeld; go_wp2_with fail
  go_ret
  refine ⟨(show Ending.returned (.string (((((⟨List.toArray U⟩ : ByteArray) ++ (⟨List.toArray [32]⟩ : ByteArray)) ++ (⟨List.toArray x⟩ : ByteArray)) ++ (⟨List.toArray [32]⟩ : ByteArray)) ++ (⟨List.toArray V⟩ : ByteArray))) = _ from zU ?_),k⟩
  repeat rw [zC]
  try simp only [List.append_assoc]
  try rfl
theorem zat (x : Bs) (m p : Int) (u : T) (us : List T) (sv : Value) (w : World) (ha : AT w (T.mk 33 x m p (u :: us)).subs sv) (U : Bs) (tx : T -> Bs) (hu : ETx w u U) (he : ∀ v ∈ us,ETx w v (tx v)) (hlen : (zE [44,32] (us.map tx)).length <= 900000) :
  Calls Tryz.prog 68 #[.agg #[.int .i64 33,.string ⟨x.toArray⟩,.int .i64 m,.int .i64 p,sv]] w (Sy w (.string ⟨(U ++ ([40] ++ (zE [44,32] (us.map tx) ++ [41]))).toArray⟩)) := by
 obtain ⟨g,o,c,z,rfl,_,_,s,E,A,B⟩ := AT.cons ha; have j := zb s; have C := zb A; have F := zb B; have G := zc s.c0
 have k : Hid (∀ w' sl,w.grownBy w' none -> AT w' us sl -> Calls Tryz.prog 102 #[sl] w' (Sy w' (.string ⟨([40] ++ (zE [44,32] (us.map tx) ++ [41])).toArray⟩))) := fun w' sl hg hal => kF us sl tx w' hal (fun v hv => ⟨(he v hv).1,fun w'' s2 a ha2 => (he v hv).2 w'' s2 (za hg a) ha2⟩) hlen
 have L : ([40] ++ (zE [44,32] (us.map tx) ++ [41])).length <= 900002 := by simp only [la,lc,ln]; omega
 generalize [40] ++ (zE [44,32] (us.map tx) ++ [41]) = Z at *
 obtain ⟨_,_,_,_,_⟩ := s; obtain ⟨_,l⟩ := hu; have D := zb l; clear ha E A B he l hlen
 rcases Nat.lt_or_ge 1 c with t | t
 ·have f := zb F
  have H : (1 : Int) <= (us.length : Int) + 1 := by omega
  have I : ¬ c = 1 := by omega
  have h : Hid (Box (w.alloc (.cells #[.int .i64 33,.string ⟨x.toArray⟩,.int .i64 m,.int .i64 p,.slice (some ⟨g,o,none⟩) (us.length + 1) c] 24)) w.heap.size (.mk 33 x m p (u :: us)) (.slice (some ⟨g,o,none⟩) (us.length + 1) c)) := Box.new w (.mk 33 x m p (u :: us)) (.slice (some ⟨g,o,none⟩) (us.length + 1) c) 24
  go_enter Tryz.func68,Tryz.ntmps68
  go_wp2_with fail; refine wp_region_held_drew (S := (fun w' => w'.cell? ⟨w.heap.size,4,none⟩ = some (.slice (some ⟨g,o,none⟩) (us.length + 1) c) /\ w'.cell? ⟨w.heap.size,1,none⟩ = some (.string ⟨x.toArray⟩) /\ Node5 w' g o u z)) (by kernel_rfl) ?_ (fun hHeld => ?_)
  ·exact ⟨zg (ze grn) h.c4,zg (ze grn) h.c1,j.kept (ze gan)⟩
  refine tQ 0 ?_; refine tQ 1 ?_; refine tQ 2 ?_; refine tQ 3 ?_; refine tQ 5 ?_; refine tQ 6 ?_; refine tQ 7 ?_; refine rd 4 rfl fun KK hKK => ?_
  go_simp
  go_at_call 68; refine (D _ _ (ze (zf grn _)) (C.kept (ze (zf grn _)))).mono ?_; rintro e J ⟨rfl,b⟩; have d := za (ze (zf grn _)) b; have i := h.kept (za (ze grn) b); clear b
  go_simp
  refine hKK _ _ ⟨i.c4,i.c1,j.kept d⟩ fun hHeld => ?_
  clear hKK KK; refine rd 8 rfl fun KK hKK => ?_
  go_simp
  go_at_call 102; refine (k _ _ d (f.kept d)).mono ?_; rintro e K ⟨rfl,a⟩; have n := za d a; have r := i.kept (za grn a); clear a
  go_simp
  refine hKK _ _ ⟨r.c4,r.c1,j.kept n⟩ fun hHeld => ?_
  clear hKK KK; refine tQ 9 ?_; refine tQ 10 ?_; refine wpAnyH_done (by kernel_rfl) ?_ _; clear hHeld; go_wp2_with fail
  go_ret
  refine ⟨(show Ending.returned (.string ((⟨List.toArray U⟩ : ByteArray) ++ (⟨List.toArray Z⟩ : ByteArray))) = _ from zU ?_),n⟩
  repeat rw [zC]
  try simp only [List.append_assoc]
  try rfl
 ·obtain rfl : c = 1 := by omega
  obtain rfl : us = [] := List.eq_nil_of_length_eq_zero (by omega); have f : Hid (AT w [] (.slice (some ⟨g,o,none⟩) 0 0)) := AT.nil _ _ (Nat.zero_le _); have h : Hid (Box (w.alloc (.cells #[.int .i64 33,.string ⟨x.toArray⟩,.int .i64 m,.int .i64 p,.slice (some ⟨g,o,none⟩) 1 1] 24)) w.heap.size (.mk 33 x m p [u]) (.slice (some ⟨g,o,none⟩) 1 1)) := Box.new w (.mk 33 x m p [u]) (.slice (some ⟨g,o,none⟩) 1 1) 24
  go_enter Tryz.func68,Tryz.ntmps68
  go_wp2_with fail; refine wp_region_held_drew (S := (fun w' => w'.cell? ⟨w.heap.size,4,none⟩ = some (.slice (some ⟨g,o,none⟩) 1 1) /\ w'.cell? ⟨w.heap.size,1,none⟩ = some (.string ⟨x.toArray⟩) /\ Node5 w' g o u z)) (by kernel_rfl) ?_ (fun hHeld => ?_)
  ·exact ⟨zg (ze grn) h.c4,zg (ze grn) h.c1,j.kept (ze gan)⟩
  refine tQ 0 ?_; refine tQ 1 ?_; refine tQ 2 ?_; refine tQ 3 ?_; refine tQ 5 ?_; refine tQ 6 ?_; refine tQ 7 ?_; refine rd 4 rfl fun KK hKK => ?_
  go_simp
  go_at_call 68; refine (D _ _ (ze (zf grn _)) (C.kept (ze (zf grn _)))).mono ?_; rintro e J ⟨rfl,b⟩; have d := za (ze (zf grn _)) b; have i := h.kept (za (ze grn) b); clear b
  go_simp
  refine hKK _ _ ⟨i.c4,i.c1,j.kept d⟩ fun hHeld => ?_
  clear hKK KK; refine rd 8 rfl fun KK hKK => ?_
  go_simp
  go_at_call 102; refine (k _ _ d (f.kept d)).mono ?_; rintro e K ⟨rfl,a⟩; have n := za d a; have r := i.kept (za grn a); clear a
  go_simp
  refine hKK _ _ ⟨r.c4,r.c1,j.kept n⟩ fun hHeld => ?_
  clear hKK KK; refine tQ 9 ?_; refine tQ 10 ?_; refine wpAnyH_done (by kernel_rfl) ?_ _; clear hHeld; go_wp2_with fail
  go_ret
  refine ⟨(show Ending.returned (.string ((⟨List.toArray U⟩ : ByteArray) ++ (⟨List.toArray Z⟩ : ByteArray))) = _ from zU ?_),n⟩
  repeat rw [zC]
  try simp only [List.append_assoc]
  try rfl
theorem vY {t : T} (h : TN t) (w : World) : NTx w t (zz t) := by
 have a := xe h; refine ⟨by omega,fun w' sv _ ha => ?_⟩; cases h with
 | plain x p hx => exact jK _ sv w' (yi hx) (fun u hu => by cases hu) ha
 | dot x p y q hx hy => exact jK _ sv w' (yi hx) (fun u hu => (List.mem_singleton.1 (show u ∈ [T.mk 24 y 0 q []] from hu)).symm ▸ yi hy) ha
theorem qZ {t : T} {E : Bs} {w : World} (r : Int) (h : ETx w t E) (hl : E.length <= 900000) : LTx w t r (vD t r E) := by
 refine ⟨?_,fun w' sv hg ha => tT t sv r E w' (vV ha) h.1 (fun w'' hg2 => h.2 w'' sv (za hg hg2) (ha.kept hg2))⟩
 unfold vD
 split
 ·simp; omega
 ·exact h.1
theorem xT {l : List T} {u : T} (h : u ∈ l) : zn u <= zx l := by
 induction l with
 | nil => cases h
 | cons t l ih =>
  rw [zx]
  rcases List.mem_cons.1 h with rfl | h
  ·omega
  ·have := ih h; omega
theorem rD : ∀ (f : Nat) (t : T),zS t <= f -> Well .expression t -> zn t <= 3000 -> ∀ w,ETx w t (zl f t) := by
 intro f
 induction f with
 | zero => intro t h; have := uf t; omega
 | succ f ih =>
  intro t r h d w; have i := yU (f + 1) t h
  have a : ∀ u,u ∈ t.subs -> Well .expression u -> ∀ w,ETx w u (zl f u) := fun u hu hw => ih u (by have := yp hu; omega) hw (by
   obtain ⟨k,x,m,p,l⟩ := t
   have g : zn (T.mk k x m p l) = 1 + zx l := by rw [zn]
   have j := xT (show u ∈ l from hu)
   omega)
  have b : ∀ u,u ∈ t.subs -> Well .expression u -> (zl f u).length <= 900000 := fun u hu hw => by
   have n := yU f u hw; obtain ⟨k,x,m,p,l⟩ := t
   have g : zn (T.mk k x m p l) = 1 + zx l := by rw [zn]
   have j := xT (show u ∈ l from hu)
   omega
  refine ⟨by omega,fun w' sv hg ha => ?_⟩; have H := dU h; clear h; cases H with
  | ref x p hx => rw [bo]; exact zab x 0 p sv w' (vV ha)
  | dot x p u hx hu => rw [bW]; exact aN x 0 p u _ sv w' (yi hx) ha (a u (by simp [T.subs]) (ye hu) w')
  | index p u v hu hv => rw [bk]; exact zau [] 0 p u v sv w' ha _ _ (a u (by simp [T.subs]) (ye hu) w') (a v (by simp [T.subs]) hv w')
  | deref p u hu => rw [bi]; exact aX [] 0 p u sv w' ha _ (a u (by simp [T.subs]) (ye hu) w')
  | guard p u v hu hv => rw [bq]; exact aQ [] 0 p u v sv w' ha _ _ (a u (by simp [T.subs]) (ye hu) w') (vY hv w')
  | number m p h0 g => rw [bT]; exact aG [] m p sv w' (vV ha) h0 g
  | word k p hk2 =>
   rw [bO f [] 0 p k hk2]
   rcases hk2 with rfl | rfl | rfl
   ·exact zax [] 0 p sv w' (vV ha)
   ·exact zaq [] 0 p sv w' (vV ha)
   ·exact zad [] 0 p sv w' (vV ha)
  | call p u us hu hs =>
   rw [bI]; have j := vq [44,32] (zl f) 40 us (fun v hv => by have := yU f v (hs v hv); simp; omega)
   have g : zn (T.mk 33 [] 0 p (u :: us)) = 1 + zx (u :: us) := by rw [zn]
   have n : zx (u :: us) = zn u + zx us := by rw [zx]
   exact zat [] 0 p u us sv w' ha _ (zl f) (a u (by simp [T.subs]) (ye hu) w') (fun v hv => a v (by simp [T.subs,hv]) (hs v hv) w') (by omega)
  | one k p u hk2 hu =>
   rcases hk2 with rfl | rfl
   ·rw [cW]; exact aR [] 0 p u sv w' ha _ (qZ 3 (a u (by simp [T.subs]) hu w') (b u (by simp [T.subs]) hu))
   ·rw [am]; exact zac [] 0 p u sv w' ha _ (qZ 2 (a u (by simp [T.subs]) hu w') (b u (by simp [T.subs]) hu))
  | is p u v hu hv => rw [bv]; exact zao [] 0 p u v sv w' ha _ _ (qZ 1 (a u (by simp [T.subs]) hu w') (b u (by simp [T.subs]) hu)) (vY hv w')
  | op x p u v hx hu hv =>
   rw [bD f x 0 p u v hx]
   exact zar x 0 p u v sv w' ha _ _ _ _ hx rfl rfl (qZ _ (a u (by simp [T.subs]) hu w') (b u (by simp [T.subs]) hu)) (qZ _ (a v (by simp [T.subs]) hv w') (b v (by simp [T.subs]) hv))
def STx (w : World) (t : T) (P E : Bs) : Prop := E.length <= 5000000 /\ ∀ w' sv,w.grownBy w' none -> AT w' t.subs sv -> Calls Tryz.prog 42 #[zq t sv,.string ⟨P.toArray⟩] w' (Sy w' (.string ⟨E.toArray⟩))
theorem kX {w : World} {t : T} {A B E : Bs} (h : STx w t (A ++ B) E) : ∀ w' sv,w.grownBy w' none -> AT w' t.subs sv -> Calls Tryz.prog 42 #[zq t sv,.string ((⟨A.toArray⟩ : ByteArray) ++ ⟨B.toArray⟩)] w' (Sy w' (.string ⟨E.toArray⟩)) := by
 intro w' sv a b; rw [zC]
 exact h.2 w' sv a b
theorem zav (x : Bs) (m p : Int) (u : T) (v : T) (P : Bs) (sv : Value) (w : World) (ha : AT w (T.mk 14 x m p [u,v]).subs sv) (lP : P.length <= 1000) (U V : Bs) (hu : ETx w u U) (hv : ETx w v V) :
  Calls Tryz.prog 71 #[.agg #[.int .i64 14,.string ⟨x.toArray⟩,.int .i64 m,.int .i64 p,sv],.string ⟨P.toArray⟩] w (Sy w (.string ⟨(P ++ (U ++ ([32,58,61,32] ++ V))).toArray⟩)) := by
 obtain ⟨g,o,c,z,A,B,C,rfl,O,Q,l,f,D,n,r,E,s⟩ := ha.two rfl
 have h : u = z /\ v = B := by simpa [T.subs] using l
 obtain ⟨rfl,rfl⟩ := h; have i := zb f; have j := zb r; have F := zb n; have G := zb s; have H := zc f.c0; obtain ⟨_,_,_,_,_⟩ := f; obtain ⟨_,_,_,_,_⟩ := r; clear ha l D n E s; have t : Hid (Box (w.alloc (.cells #[.int .i64 14,.string ⟨x.toArray⟩,.int .i64 m,.int .i64 p,.slice (some ⟨g,o,none⟩) 2 c] 24)) w.heap.size (.mk 14 x m p [u,v]) (.slice (some ⟨g,o,none⟩) 2 c)) := Box.new w (.mk 14 x m p [u,v]) (.slice (some ⟨g,o,none⟩) 2 c) 24
 have X := hu.1; have I := zb hu.2; clear hu; have Y := hv.1; have J := zb hv.2; clear hv
 go_enter Tryz.func71,Tryz.ntmps71
 go_wp2_with fail; refine wp_region_held_drew (S := (fun w' => w'.cell? ⟨w.heap.size,4,none⟩ = some (.slice (some ⟨g,o,none⟩) 2 c) /\ Node5 w' g o u A /\ Node5 w' g (o + 5) v C)) (by kernel_rfl) ?_ (fun hHeld => ?_)
 ·exact ⟨zg (ze grn) t.c4,i.kept (ze gan),j.kept (ze gan)⟩
 refine tQ 0 ?_; refine tQ 1 ?_; refine tQ 2 ?_; refine tQ 3 ?_; refine tQ 4 ?_; refine tQ 8 ?_; refine tQ 9 ?_; refine tQ 10 ?_; refine tQ 11 ?_; refine rd 5 rfl fun KK hKK => ?_
 go_simp
 go_at_call 68; refine (I _ _ (ze (zf grn _)) (F.kept (ze (zf grn _)))).mono ?_; rintro e Z ⟨rfl,a⟩; have d := za (ze (zf grn _)) a; have y := t.kept (za (ze grn) a); clear a
 go_simp
 refine hKK _ _ ⟨y.c4,i.kept d,j.kept d⟩ fun hHeld => ?_
 clear hKK KK; refine tQ 6 ?_; refine tQ 7 ?_; refine rd 12 rfl fun KK hKK => ?_
 go_simp
 go_at_call 68; refine (J _ _ d (G.kept d)).mono ?_; rintro e w2 ⟨rfl,b⟩; have k := za d b; have N := y.kept (za grn b); clear b
 go_simp
 refine hKK _ _ ⟨N.c4,i.kept k,j.kept k⟩ fun hHeld => ?_
 clear hKK KK; refine tQ 13 ?_; refine tQ 14 ?_; refine wpAnyH_done (by kernel_rfl) ?_ _; clear hHeld; go_wp2_with fail
 go_ret
 refine ⟨(show Ending.returned (.string ((((⟨List.toArray P⟩ : ByteArray) ++ (⟨List.toArray U⟩ : ByteArray)) ++ (⟨List.toArray [32,58,61,32]⟩ : ByteArray)) ++ (⟨List.toArray V⟩ : ByteArray))) = _ from zU ?_),k⟩
 repeat rw [zC]
 try simp only [List.append_assoc]
 try rfl
theorem za0 (x : Bs) (m p : Int) (u : T) (v : T) (P : Bs) (sv : Value) (w : World) (ha : AT w (T.mk 17 x m p [u,v]).subs sv) (lP : P.length <= 1000) (U V : Bs) (hu : ETx w u U) (hv : STx w v (P ++ [32,32]) V) :
  Calls Tryz.prog 71 #[.agg #[.int .i64 17,.string ⟨x.toArray⟩,.int .i64 m,.int .i64 p,sv],.string ⟨P.toArray⟩] w (Sy w (.string ⟨(P ++ ([87,72,73,76,69,32] ++ (U ++ ([32,68,79,10] ++ (V ++ (P ++ [69,78,68])))))).toArray⟩)) := by
 obtain ⟨g,o,c,z,A,B,C,rfl,X,Y,l,f,D,n,r,E,s⟩ := ha.two rfl
 have h : u = z /\ v = B := by simpa [T.subs] using l
 obtain ⟨rfl,rfl⟩ := h; have i := zb f; have j := zb r; have F := zb n; have G := zb s; have H := zc f.c0; obtain ⟨_,_,_,_,_⟩ := f; obtain ⟨_,_,_,_,_⟩ := r; clear ha l D n E s; have t : Hid (Box (w.alloc (.cells #[.int .i64 17,.string ⟨x.toArray⟩,.int .i64 m,.int .i64 p,.slice (some ⟨g,o,none⟩) 2 c] 24)) w.heap.size (.mk 17 x m p [u,v]) (.slice (some ⟨g,o,none⟩) 2 c)) := Box.new w (.mk 17 x m p [u,v]) (.slice (some ⟨g,o,none⟩) 2 c) 24
 have lU := hu.1; have I := zb hu.2; clear hu; have lV := hv.1; have J := zb (kX hv); clear hv
 go_enter Tryz.func71,Tryz.ntmps71
 go_wp2_with fail; refine wp_region_held_drew (S := (fun w' => w'.cell? ⟨w.heap.size,4,none⟩ = some (.slice (some ⟨g,o,none⟩) 2 c) /\ Node5 w' g o u A /\ Node5 w' g (o + 5) v C)) (by kernel_rfl) ?_ (fun hHeld => ?_)
 ·exact ⟨zg (ze grn) t.c4,i.kept (ze gan),j.kept (ze gan)⟩
 refine tQ 0 ?_; refine tQ 1 ?_; refine tQ 2 ?_; refine tQ 3 ?_; refine tQ 4 ?_; refine tQ 5 ?_; refine tQ 9 ?_; refine tQ 10 ?_; refine tQ 11 ?_; refine tQ 12 ?_; refine tQ 13 ?_; refine tQ 16 ?_
 refine rd 6 rfl fun KK hKK => ?_
 go_simp
 go_at_call 68; refine (I _ _ (ze (zf grn _)) (F.kept (ze (zf grn _)))).mono ?_; rintro e w1 ⟨rfl,a⟩; have d := za (ze (zf grn _)) a; have y := t.kept (za (ze grn) a); clear a
 go_simp
 refine hKK _ _ ⟨y.c4,i.kept d,j.kept d⟩ fun hHeld => ?_
 clear hKK KK; refine tQ 7 ?_; refine tQ 8 ?_; refine rd 14 rfl fun KK hKK => ?_
 go_simp
 go_at_call 42; refine (J _ _ d (G.kept d)).mono ?_; rintro e w2 ⟨rfl,b⟩; have k := za d b; have R := y.kept (za grn b); clear b
 go_simp
 refine hKK _ _ ⟨R.c4,i.kept k,j.kept k⟩ fun hHeld => ?_
 clear hKK KK; refine tQ 15 ?_; refine tQ 17 ?_; refine tQ 18 ?_; refine tQ 19 ?_; refine wpAnyH_done (by kernel_rfl) ?_ _; clear hHeld; go_wp2_with fail
 go_ret
 refine ⟨(show Ending.returned (.string (((((((⟨List.toArray P⟩ : ByteArray) ++ (⟨List.toArray [87,72,73,76,69,32]⟩ : ByteArray)) ++ (⟨List.toArray U⟩ : ByteArray)) ++ (⟨List.toArray [32,68,79,10]⟩ : ByteArray)) ++ (⟨List.toArray V⟩ : ByteArray)) ++ (⟨List.toArray P⟩ : ByteArray)) ++ (⟨List.toArray [69,78,68]⟩ : ByteArray))) = _ from zU ?_),k⟩
 repeat rw [zC]
 try simp only [List.append_assoc]
 try rfl
theorem aB (x : Bs) (m p : Int) (u : T) (v : T) (P : Bs) (sv : Value) (w : World) (ha : AT w (T.mk 18 x m p [u,v]).subs sv) (lP : P.length <= 1000) (U V : Bs) (hu : STx w u (P ++ [32,32]) U) (hv : ETx w v V) :
  Calls Tryz.prog 71 #[.agg #[.int .i64 18,.string ⟨x.toArray⟩,.int .i64 m,.int .i64 p,sv],.string ⟨P.toArray⟩] w (Sy w (.string ⟨(P ++ ([82,69,80,69,65,84,10] ++ (U ++ (P ++ ([85,78,84,73,76,32] ++ V))))).toArray⟩)) := by
 obtain ⟨g,o,c,z,A,B,C,rfl,R,X,l,f,D,n,r,E,s⟩ := ha.two rfl
 have h : u = z /\ v = B := by simpa [T.subs] using l
 obtain ⟨rfl,rfl⟩ := h; have i := zb f; have j := zb r; have F := zb n; have G := zb s; have H := zc f.c0; obtain ⟨_,_,_,_,_⟩ := f; obtain ⟨_,_,_,_,_⟩ := r; clear ha l D n E s; have t : Hid (Box (w.alloc (.cells #[.int .i64 18,.string ⟨x.toArray⟩,.int .i64 m,.int .i64 p,.slice (some ⟨g,o,none⟩) 2 c] 24)) w.heap.size (.mk 18 x m p [u,v]) (.slice (some ⟨g,o,none⟩) 2 c)) := Box.new w (.mk 18 x m p [u,v]) (.slice (some ⟨g,o,none⟩) 2 c) 24
 have Z := hu.1; have I := zb (kX hu); clear hu; have lV := hv.1; have J := zb hv.2; clear hv
 go_enter Tryz.func71,Tryz.ntmps71
 go_wp2_with fail; refine wp_region_held_drew (S := (fun w' => w'.cell? ⟨w.heap.size,4,none⟩ = some (.slice (some ⟨g,o,none⟩) 2 c) /\ Node5 w' g o u A /\ Node5 w' g (o + 5) v C)) (by kernel_rfl) ?_ (fun hHeld => ?_)
 ·exact ⟨zg (ze grn) t.c4,i.kept (ze gan),j.kept (ze gan)⟩
 refine tQ 0 ?_; refine tQ 1 ?_; refine tQ 2 ?_; refine tQ 3 ?_; refine tQ 4 ?_; refine tQ 5 ?_; refine tQ 6 ?_; refine tQ 9 ?_; refine tQ 12 ?_; refine tQ 13 ?_; refine tQ 14 ?_; refine tQ 15 ?_
 refine rd 7 rfl fun KK hKK => ?_
 go_simp
 go_at_call 42; refine (I _ _ (ze (zf grn _)) (F.kept (ze (zf grn _)))).mono ?_; rintro e w1 ⟨rfl,a⟩; have d := za (ze (zf grn _)) a; have y := t.kept (za (ze grn) a); clear a
 go_simp
 refine hKK _ _ ⟨y.c4,i.kept d,j.kept d⟩ fun hHeld => ?_
 clear hKK KK; refine tQ 8 ?_; refine tQ 10 ?_; refine tQ 11 ?_; refine rd 16 rfl fun KK hKK => ?_
 go_simp
 go_at_call 68; refine (J _ _ d (G.kept d)).mono ?_; rintro e w2 ⟨rfl,b⟩; have k := za d b; have Q := y.kept (za grn b); clear b
 go_simp
 refine hKK _ _ ⟨Q.c4,i.kept k,j.kept k⟩ fun hHeld => ?_
 clear hKK KK; refine tQ 17 ?_; refine tQ 18 ?_; refine wpAnyH_done (by kernel_rfl) ?_ _; clear hHeld; go_wp2_with fail
 go_ret
 refine ⟨(show Ending.returned (.string ((((((⟨List.toArray P⟩ : ByteArray) ++ (⟨List.toArray [82,69,80,69,65,84,10]⟩ : ByteArray)) ++ (⟨List.toArray U⟩ : ByteArray)) ++ (⟨List.toArray P⟩ : ByteArray)) ++ (⟨List.toArray [85,78,84,73,76,32]⟩ : ByteArray)) ++ (⟨List.toArray V⟩ : ByteArray))) = _ from zU ?_),k⟩
 repeat rw [zC]
 try simp only [List.append_assoc]
 try rfl
theorem bN (x : Bs) (m p : Int) (u : T) (P : Bs) (sv : Value) (w : World) (ha : AT w (T.mk 15 x m p [u]).subs sv) (lP : P.length <= 1000) (U : Bs) (hu : ETx w u U) :
  Calls Tryz.prog 71 #[.agg #[.int .i64 15,.string ⟨x.toArray⟩,.int .i64 m,.int .i64 p,sv],.string ⟨P.toArray⟩] w (Sy w (.string ⟨(P ++ U).toArray⟩)) := by
 obtain ⟨g,o,c,h,v,rfl,y,z,d,b,i,f⟩ := ha.one rfl
 obtain rfl : u = h := by simpa [T.subs] using d
 have A := zb b; have j := zb f; have k := zc b.c0; obtain ⟨_,_,_,_,_⟩ := b; clear ha d i f; have l : Hid (Box (w.alloc (.cells #[.int .i64 15,.string ⟨x.toArray⟩,.int .i64 m,.int .i64 p,.slice (some ⟨g,o,none⟩) 1 c] 24)) w.heap.size (.mk 15 x m p [u]) (.slice (some ⟨g,o,none⟩) 1 c)) := Box.new w (.mk 15 x m p [u]) (.slice (some ⟨g,o,none⟩) 1 c) 24
 have C := hu.1; have n := zb hu.2; clear hu
 go_enter Tryz.func71,Tryz.ntmps71
 go_wp2_with fail; go_at_call 68; refine (n _ _ (zf grn _) (j.kept (zf grn _))).mono ?_; rintro e D ⟨rfl,a⟩; have s := za (zf grn _) a; have t := l.kept (za grn a); obtain ⟨_,_,_,_,_⟩ := id t; clear a; go_wp2_with fail
 go_ret
 refine ⟨(show Ending.returned (.string ((⟨List.toArray P⟩ : ByteArray) ++ (⟨List.toArray U⟩ : ByteArray))) = _ from zU ?_),s⟩
 repeat rw [zC]
 try simp only [List.append_assoc]
 try rfl
theorem ae (x : Bs) (m p : Int) (P : Bs) (sv : Value) (w : World) (ha : AT w (T.mk 19 x m p []).subs sv) (lP : P.length <= 1000) :
  Calls Tryz.prog 71 #[.agg #[.int .i64 19,.string ⟨x.toArray⟩,.int .i64 m,.int .i64 p,sv],.string ⟨P.toArray⟩] w (Sy w (.string ⟨(P ++ [82,69,84,85,82,78]).toArray⟩)) := by
 obtain ⟨a,c,rfl,_,b⟩ := ha.zero rfl; clear ha b; have f : Hid (Box (w.alloc (.cells #[.int .i64 19,.string ⟨x.toArray⟩,.int .i64 m,.int .i64 p,.slice a 0 c] 24)) w.heap.size (.mk 19 x m p []) (.slice a 0 c)) := Box.new w (.mk 19 x m p []) (.slice a 0 c) 24
 go_enter Tryz.func71,Tryz.ntmps71
 go_wp2_with fail
 go_ret
 refine ⟨(show Ending.returned (.string ((⟨List.toArray P⟩ : ByteArray) ++ (⟨List.toArray [82,69,84,85,82,78]⟩ : ByteArray))) = _ from zU ?_),(zf grn _)⟩
 repeat rw [zC]
 try simp only [List.append_assoc]
 try rfl
theorem bM (x : Bs) (m p : Int) (u : T) (P : Bs) (sv : Value) (w : World) (ha : AT w (T.mk 19 x m p [u]).subs sv) (lP : P.length <= 1000) (U : Bs) (hu : ETx w u U) :
  Calls Tryz.prog 71 #[.agg #[.int .i64 19,.string ⟨x.toArray⟩,.int .i64 m,.int .i64 p,sv],.string ⟨P.toArray⟩] w (Sy w (.string ⟨(P ++ ([82,69,84,85,82,78,32] ++ U)).toArray⟩)) := by
 obtain ⟨g,o,c,h,y,rfl,z,A,d,b,i,f⟩ := ha.one rfl
 obtain rfl : u = h := by simpa [T.subs] using d
 have B := zb b; have j := zb f; have k := zc b.c0; obtain ⟨_,_,_,_,_⟩ := b; clear ha d i f; have l : Hid (Box (w.alloc (.cells #[.int .i64 19,.string ⟨x.toArray⟩,.int .i64 m,.int .i64 p,.slice (some ⟨g,o,none⟩) 1 c] 24)) w.heap.size (.mk 19 x m p [u]) (.slice (some ⟨g,o,none⟩) 1 c)) := Box.new w (.mk 19 x m p [u]) (.slice (some ⟨g,o,none⟩) 1 c) 24
 have D := hu.1; have n := zb hu.2; clear hu
 go_enter Tryz.func71,Tryz.ntmps71
 go_wp2_with fail; go_at_call 68; refine (n _ _ (zf grn _) (j.kept (zf grn _))).mono ?_; rintro e E ⟨rfl,a⟩; have t := za (zf grn _) a; have v := l.kept (za grn a); obtain ⟨_,_,_,_,_⟩ := id v; clear a; go_wp2_with fail
 go_ret
 refine ⟨(show Ending.returned (.string (((⟨List.toArray P⟩ : ByteArray) ++ (⟨List.toArray [82,69,84,85,82,78,32]⟩ : ByteArray)) ++ (⟨List.toArray U⟩ : ByteArray))) = _ from zU ?_),t⟩
 repeat rw [zC]
 try simp only [List.append_assoc]
 try rfl
def CTx (w : World) (t : T) (P E : Bs) : Prop := E.length <= 5000000 /\ ∀ w' sv,w.grownBy w' none -> AT w' t.subs sv -> Calls Tryz.prog 71 #[zq t sv,.string ⟨P.toArray⟩] w' (Sy w' (.string ⟨E.toArray⟩))
def x6 (tx : T -> Bs) (l : List T) : Bs := zu (fun t => tx t ++ ([59] ++ [10])) l
theorem dw {tx : T -> Bs} {l : List T} {i : Nat} {u : T} (h : l[i]? = some u) : x6 tx (l.take (i + 1)) = x6 tx (l.take i) ++ (tx u ++ ([59] ++ [10])) := by
 unfold x6
 rw [List.take_add_one,h,yf]
 simp [zu]
theorem pG (tx : T -> Bs) (l : List T) (i : Nat) : (x6 tx (l.take i)).length <= (x6 tx l).length := by
 have h : x6 tx (l.take i ++ l.drop i) = x6 tx (l.take i) ++ x6 tx (l.drop i) := yf _ _ _; rw [List.take_append_drop] at h; rw [h,List.length_append]
 omega
def vx (tx : T -> Bs) : List T -> Bs
 | [] => []
 | [t] => tx t ++ [10]
 | t :: l => tx t ++ ([59] ++ ([10] ++ vx tx l))
theorem kH (tx : T -> Bs) : ∀ (l : List T) (t : T),vx tx (l ++ [t]) = (if l.isEmpty then [] else x6 tx l) ++ (tx t ++ [10])
 | [],t => rfl
 | [a],t => by simp [vx,x6,zu]
 | a :: b :: l,t => by
  have ih := kH tx (b :: l) t
  have e : vx tx (a :: (b :: l ++ [t])) = tx a ++ ([59] ++ ([10] ++ vx tx (b :: l ++ [t]))) := rfl
  rw [List.cons_append,e,ih]
  simp [x6,zu]
theorem fj (kd : Int) (x : Bs) (m p : Int) (l : List T) (P : Bs) (sv : Value) (tx : T -> Bs) (w : World) (ha : AT w (T.mk kd x m p l).subs sv) (he : ∀ v ∈ l,CTx w v P (tx v)) (hlen : (x6 tx l).length <= 4000000) :
  Calls Tryz.prog 42 #[.agg #[.int .i64 kd,.string ⟨x.toArray⟩,.int .i64 m,.int .i64 p,sv],.string ⟨P.toArray⟩] w (Sy w (.string ⟨(vx tx l).toArray⟩)) := by
 have I := zb ha; have J := zb he; obtain ⟨a,n,c,rfl,_,_,B⟩ := ha.any
 change l.length = n at B
 subst B; have K : Hid (Box (w.alloc (.cells #[.int .i64 kd,.string ⟨x.toArray⟩,.int .i64 m,.int .i64 p,.slice a l.length c] 24)) w.heap.size (.mk kd x m p l) (.slice a l.length c)) := Box.new w (.mk kd x m p l) (.slice a l.length c) 24; clear ha he
 go_enter Tryz.func42,Tryz.ntmps42
 go_wp2_with fail
 go_loopw [5,6] (fun sv iv wr => ∃ (i : Nat) (Y : Bs),i <= l.length /\ iv = .int .i64 ↑i /\ sv = .string ⟨Y.toArray⟩ /\ Hid (if i < l.length then Y = x6 tx (l.take i) else Y = vx tx l) /\ Hid (w.grownBy wr none) /\ Hid (Box wr w.heap.size (.mk kd x m p l) (.slice a l.length c))) (fun _ iv _ => l.length - (intOf iv).toNat)
 case atStart =>
  refine ⟨0,[],Nat.zero_le _,rfl,rfl,?_,zf grn _,K⟩
  show if _ then _ else _
  split
  ·rfl
  ·obtain rfl : l = [] := List.eq_nil_of_length_eq_zero (by omega)
   rfl
 case round =>
  obtain ⟨i,Y,_,rfl,rfl,s,d,t⟩ := hrel; obtain ⟨_,_,_,_,_⟩ := id t
  by_cases f : i < l.length
  ·have g : Hid (Y = x6 tx (l.take i)) := by have := s; rw [if_pos f] at this; exact this
   have hY : Y.length <= 4000000 := by
    rw [g.out]; have := pG tx l i
    omega
   obtain ⟨u,j⟩ : ∃ u,l[i]? = some u := ⟨_,List.getElem?_eq_getElem f⟩; obtain ⟨_,_,_,y,C,L,D⟩ := I.node i u j; cases y; obtain ⟨_,_,_,_,_⟩ := C.kept d; have E := zb D; have z := zb j; obtain ⟨_,k⟩ := id J u (List.mem_of_getElem? j); have F := zb k; have M := zb (dw (tx := tx) j); clear j L D C k s
   by_cases b : i + 1 < l.length
   ·have N : (i : Int) < (l.length : Int) - 1 := by omega
    go_wp2_with fail; go_at_call 71; refine (F _ _ d (E.kept d)).mono ?_; rintro e O ⟨rfl,h⟩; have A := za d h; have r := t.kept (za grn h); obtain ⟨Q,y,R,U,V⟩ := id r; clear h; go_wp2_with fail; refine ⟨⟨i + 1,Y ++ tx u ++ [59] ++ [10],by omega,by go_num,zY (by repeat rw [zC]),?_,A,r⟩,by simp [intOf]; omega⟩
    show if _ then _ else _
    rw [if_pos b,M.out,g.out]; simp only [List.append_assoc]
   ·have N : ¬ (i : Int) < (l.length : Int) - 1 := by omega
    go_wp2_with fail; go_at_call 71; refine (F _ _ d (E.kept d)).mono ?_; rintro e O ⟨rfl,h⟩; have A := za d h; have r := t.kept (za grn h); obtain ⟨Q,y,R,U,V⟩ := id r; clear h; go_wp2_with fail; refine ⟨⟨i + 1,Y ++ tx u ++ [10],by omega,by go_num,zY (by repeat rw [zC]),?_,A,r⟩,by simp [intOf]; omega⟩
    show if _ then _ else _
    rw [if_neg b,g.out]
    have X : l = l.take i ++ [u] := by
     have G := List.take_add_one (l := l) (i := i); rw [z.out,List.take_of_length_le (by omega)] at G
     simpa using G
    have H := kH tx (l.take i) u; rw [<- X] at H; rw [H]
    split
    ·rename_i hE
     rw [List.isEmpty_iff] at hE; rw [hE]
     simp [x6,zu]
    ·simp only [List.append_assoc]
  ·have Z : Hid (Y = vx tx l) := by have := s; rw [if_neg f] at this; exact this
   clear s; go_wp2_with fail
   go_ret
   exact ⟨zU (by rw [Z.out]),d⟩
theorem ak (x : Bs) (m p : Int) (u : T) (us : List T) (P : Bs) (sv : Value) (w : World) (ha : AT w (T.mk 15 x m p (u :: us)).subs sv) (lP : P.length <= 1000) (U : Bs) (tx : T -> Bs) (hu : ETx w u U) (he : ∀ v ∈ us,ETx w v (tx v)) (hus : 0 < us.length) (hlen : (zE [44,32] (us.map tx)).length <= 900000) :
  Calls Tryz.prog 71 #[.agg #[.int .i64 15,.string ⟨x.toArray⟩,.int .i64 m,.int .i64 p,sv],.string ⟨P.toArray⟩] w (Sy w (.string ⟨(P ++ (U ++ ([40] ++ (zE [44,32] (us.map tx) ++ [41])))).toArray⟩)) := by
 obtain ⟨g,o,c,_,rfl,_,_,f,n,j,k⟩ := AT.cons ha; have I := zb f; have r := zb j; have s := zb k; have t := zc f.c0
 have h : Hid (∀ w' sl,w.grownBy w' none -> AT w' us sl -> Calls Tryz.prog 102 #[sl] w' (Sy w' (.string ⟨([40] ++ (zE [44,32] (us.map tx) ++ [41])).toArray⟩))) := fun w' sl hg hal => kF us sl tx w' hal (fun v hv => ⟨(he v hv).1,fun w'' s2 a ha2 => (he v hv).2 w'' s2 (za hg a) ha2⟩) hlen
 have J : ([40] ++ (zE [44,32] (us.map tx) ++ [41])).length <= 900002 := by simp only [la,lc,ln]; omega
 generalize [40] ++ (zE [44,32] (us.map tx) ++ [41]) = Z at *
 obtain ⟨_,_,_,_,_⟩ := f; obtain ⟨_,d⟩ := hu; have y := zb d; clear ha n j k he d hlen
 have z : (1 : Int) <= (us.length : Int) + 1 := by omega
 have A : ¬ c = 1 := by omega
 have B : (1 : Int) < (us.length : Int) + 1 := by omega
 have C : 1 < c := by omega
 have F : Hid (Box (w.alloc (.cells #[.int .i64 15,.string ⟨x.toArray⟩,.int .i64 m,.int .i64 p,.slice (some ⟨g,o,none⟩) (us.length + 1) c] 24)) w.heap.size (.mk 15 x m p (u :: us)) (.slice (some ⟨g,o,none⟩) (us.length + 1) c)) := Box.new w (.mk 15 x m p (u :: us)) (.slice (some ⟨g,o,none⟩) (us.length + 1) c) 24
 go_enter Tryz.func71,Tryz.ntmps71
 go_wp2_with fail; go_at_call 68; refine (y _ _ (zf grn _) (r.kept (zf grn _))).mono ?_; rintro e L ⟨rfl,b⟩; have i := za (zf grn _) b; have l := F.kept (za grn b); obtain ⟨_,_,_,_,_⟩ := id l; clear b; go_wp2_with fail; go_at_call 102; refine (h _ _ i (s.kept i)).mono ?_; rintro e M ⟨rfl,a⟩; have G := za i a; have H := l.kept (za grn a); obtain ⟨_,_,_,_,_⟩ := id H; clear a; go_wp2_with fail
 go_ret
 refine ⟨(show Ending.returned (.string (((⟨List.toArray P⟩ : ByteArray) ++ (⟨List.toArray U⟩ : ByteArray)) ++ (⟨List.toArray Z⟩ : ByteArray))) = _ from zU ?_),G⟩
 repeat rw [zC]
 try simp only [List.append_assoc]
 try rfl
theorem ty9 (m : Int) (p : Int) (u : T) (sv : Value) (w : World) (ha : AT w (T.mk 9 [] m p [u]).subs sv) (h0 : 0 <= m) (h1 : m <= 2147483647) (V : Bs) (hv : NTx w u V) :
  Calls Tryz.prog 69 #[.agg #[.int .i64 9,.string ⟨List.toArray []⟩,.int .i64 m,.int .i64 p,sv]] w (Sy w (.string ⟨([65,82,82,65,89,32] ++ (vC m ++ ([32,79,70,32] ++ V))).toArray⟩)) := by
 obtain ⟨g,o,c,t,v,rfl,G,H,l,h,x,n⟩ := ha.one rfl
 obtain rfl : u = t := by simpa [T.subs] using l
 have i := zb h; have y := zb n; have z := zc h.c0; obtain ⟨_,_,_,_,_⟩ := h; clear ha l x n; have j : Hid (Box (w.alloc (.cells #[.int .i64 9,.string ⟨List.toArray []⟩,.int .i64 m,.int .i64 p,.slice (some ⟨g,o,none⟩) 1 c] 24)) w.heap.size (.mk 9 [] m p [u]) (.slice (some ⟨g,o,none⟩) 1 c)) := Box.new w (.mk 9 [] m p [u]) (.slice (some ⟨g,o,none⟩) 1 c) 24; obtain ⟨_,d⟩ := hv; have B := zb d; clear d; have I := jQ m
 have C := fun w' => zb (ru m h0 h1 w')
 generalize vC m = A at *
 go_enter Tryz.func69,Tryz.ntmps69
 go_wp2_with fail; refine wp_region_held_drew (S := (fun w' => w'.cell? ⟨w.heap.size,4,none⟩ = some (.slice (some ⟨g,o,none⟩) 1 c) /\ w'.cell? ⟨w.heap.size,2,none⟩ = some (.int .i64 m) /\ Node5 w' g o u v)) (by kernel_rfl) ?_ (fun hHeld => ?_)
 ·exact ⟨zg (ze grn) j.c4,zg (ze grn) j.c2,i.kept (ze gan)⟩
 refine tQ 0 ?_; refine tQ 1 ?_; refine tQ 5 ?_; refine tQ 6 ?_; refine tQ 7 ?_; refine tQ 8 ?_; refine rd 2 rfl fun KK hKK => ?_
 go_simp
 go_at_call 101; refine ((C _)).mono ?_; rintro e J ⟨rfl,a⟩; have f := za (ze (zf grn _)) a; have k := j.kept (za (ze grn) a); clear a
 go_simp
 refine hKK _ _ ⟨k.c4,k.c2,i.kept f⟩ fun hHeld => ?_
 clear hKK KK; refine tQ 3 ?_; refine tQ 4 ?_; refine rd 9 rfl fun KK hKK => ?_
 go_simp
 go_at_call 70; refine (B _ _ f (y.kept f)).mono ?_; rintro e K ⟨rfl,b⟩; have r := za f b; have s := k.kept (za grn b); clear b
 go_simp
 refine hKK _ _ ⟨s.c4,s.c2,i.kept r⟩ fun hHeld => ?_
 clear hKK KK; refine tQ 10 ?_; refine tQ 11 ?_; refine wpAnyH_done (by kernel_rfl) ?_ _; clear hHeld; go_wp2_with fail
 go_ret
 refine ⟨(show Ending.returned (.string ((((⟨List.toArray [65,82,82,65,89,32]⟩ : ByteArray) ++ (⟨List.toArray A⟩ : ByteArray)) ++ (⟨List.toArray [32,79,70,32]⟩ : ByteArray)) ++ (⟨List.toArray V⟩ : ByteArray))) = _ from zU ?_),r⟩
 repeat rw [zC]
 try simp only [List.append_assoc]
 try rfl
theorem aF (p : Int) (u : T) (sv : Value) (w : World) (ha : AT w (T.mk 12 [] 0 p [u]).subs sv) (V : Bs) (hv : NTx w u V) :
  Calls Tryz.prog 69 #[.agg #[.int .i64 12,.string ⟨List.toArray []⟩,.int .i64 0,.int .i64 p,sv]] w (Sy w (.string ⟨([80,79,73,78,84,69,82,32,84,79,32] ++ V).toArray⟩)) := by
 obtain ⟨g,o,c,i,s,rfl,t,v,f,d,j,h⟩ := ha.one rfl
 obtain rfl : u = i := by simpa [T.subs] using f
 have x := zb d; have k := zb h; have l := zc d.c0; obtain ⟨_,_,_,_,_⟩ := d; clear ha f j h; have y : Hid (Box (w.alloc (.cells #[.int .i64 12,.string ⟨List.toArray []⟩,.int .i64 0,.int .i64 p,.slice (some ⟨g,o,none⟩) 1 c] 24)) w.heap.size (.mk 12 [] 0 p [u]) (.slice (some ⟨g,o,none⟩) 1 c)) := Box.new w (.mk 12 [] 0 p [u]) (.slice (some ⟨g,o,none⟩) 1 c) 24; obtain ⟨_,a⟩ := hv; have m := zb a; clear a
 go_enter Tryz.func69,Tryz.ntmps69
 go_wp2_with fail; go_at_call 70; refine (m _ _ (zf grn _) (k.kept (zf grn _))).mono ?_; rintro e z ⟨rfl,b⟩; have r := za (zf grn _) b; clear b; go_wp2_with fail
 go_ret
 refine ⟨(show Ending.returned (.string ((⟨List.toArray [80,79,73,78,84,69,82,32,84,79,32]⟩ : ByteArray) ++ (⟨List.toArray V⟩ : ByteArray))) = _ from zU ?_),r⟩
 repeat rw [zC]
 try simp only [List.append_assoc]
 try rfl
end Go.Proofs.YtifapidjkelnfaaGreatDoor
