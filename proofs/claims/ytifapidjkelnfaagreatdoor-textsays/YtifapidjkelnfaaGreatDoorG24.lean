/- The document's texts: declarations. -/
import Derived.Test.YtifapidjkelnfaaGreatDoorG22
import Derived.Test.YtifapidjkelnfaaGreatDoorG02
namespace Go.Proofs.YtifapidjkelnfaaGreatDoor
open Go.RowKit
set_option maxHeartbeats 4000000
set_option maxRecDepth 1000000
theorem vv {tx : T -> Bs} {l : List T} {i : Nat} {u : T} (h : l[i]? = some u) : zu tx (l.take (i + 1)) = zu tx (l.take i) ++ tx u := by
 rw [List.take_add_one,h,yf]
 simp [zu]
theorem ux (tx : T -> Bs) (l : List T) (i : Nat) : (zu tx (l.take i)).length <= (zu tx l).length := by
 have h : zu tx (l.take i ++ l.drop i) = zu tx (l.take i) ++ zu tx (l.drop i) := yf _ _ _; rw [List.take_append_drop] at h; rw [h,List.length_append]
 omega
theorem tr (word : Bs) (K : Int) (l : List T) (sl : Value) (ty : T -> Bs) (w : World) (ha : AT w l sl) (hK : K = 4) (hk : ∀ t ∈ l,∃ x m p u,t = .mk K x m p [u] /\ x.length <= 12) (he : ∀ x m p u,T.mk K x m p [u] ∈ l -> (ty u).length <= 4000000 /\ ∀ w' sv,w.grownBy w' none -> AT w' u.subs sv -> Calls Tryz.prog 68 #[zq u sv] w' (Sy w' (.string ⟨(ty u).toArray⟩))) (hw : word.length <= 10) (hlen : (zu (fun t => [32,32] ++ (zv t ++ ([32,61,32] ++ (ty (zI t 0) ++ [59,10])))) l).length <= 4000000) :
  Calls Tryz.prog 40 #[.string ⟨word.toArray⟩,sl] w (Sy w (.string ⟨(if l.isEmpty then [] else word ++ ([10] ++ zu (fun t => [32,32] ++ (zv t ++ ([32,61,32] ++ (ty (zI t 0) ++ [59,10])))) l)).toArray⟩)) := by
 subst hK; have Z := zb ha; have HE := zb he; have HK := zb hk; obtain ⟨_,sc,rfl,_,B⟩ := ha.form
 unfold maxLen at B
 clear ha he hk
 by_cases C : l = []
 ·subst C
  go_enter Tryz.func40,Tryz.ntmps40
  go_wp2_with fail
  go_ret
  exact ⟨rfl,zj w none⟩
 have HI : Hid (l.isEmpty = false) := by show _ = _; cases l; exact absurd rfl C; rfl
 rw [HI.out,if_neg (by simp)]
 have a0 : ((l.length : Int) == 0) = false := by
  rw [beq_eq_false_iff_ne]; cases l
  ·exact absurd rfl C
  ·simp; omega
 generalize h : (fun t => [32,32] ++ (zv t ++ ([32,61,32] ++ (ty (zI t 0) ++ [59,10])))) = line at hlen ⊢
 go_enter Tryz.func40,Tryz.ntmps40
 go_wp2_with fail
 go_loopw [5,6] (fun sv iv wr => ∃ (i : Nat) (Y : Bs),i <= l.length /\ iv = .int .i64 ↑i /\ sv = .string ⟨Y.toArray⟩ /\ Hid (Y = word ++ ([10] ++ zu line (l.take i))) /\ Hid (w.grownBy wr none)) (fun _ iv _ => l.length - (intOf iv).toNat)
 case atStart => exact ⟨0,word ++ [10],Nat.zero_le _,rfl,zY (zC word [10]),by show _ = _; simp [zu],zj w none⟩
 case round =>
  obtain ⟨i,Y,_,rfl,rfl,D,j⟩ := hrel
  have hY : Y.length <= 4000011 := by
   rw [D.out]; have := ux line l i; simp only [la,lc,ln]
   omega
  by_cases E : i < l.length
  ·obtain ⟨t,v⟩ : ∃ t,l[i]? = some t := ⟨_,List.getElem?_eq_getElem E⟩
   have b := List.mem_of_getElem? v; obtain ⟨x,m,p,u,rfl,hx⟩ := id HK t b; obtain ⟨k,n,_,e1,F,ft,O⟩ := Z.node i _ v; cases e1; obtain ⟨G,H,c2,u',su,rfl,a1,a2,r,Q,fu,I⟩ := O.one rfl
   obtain rfl : u = u' := by simpa [T.subs] using r
   obtain ⟨y,z,rfl,_,_⟩ := I.form; have a := F.kept j; obtain ⟨c0,c1,J,c3,c4⟩ := F.kept j
   change _ = some (Value.int .i64 4) at c0
   change _ = some (Value.string ⟨List.toArray x⟩) at c1
   change _ = some (Value.int .i64 m) at J
   change _ = some (Value.int .i64 p) at c3
   obtain ⟨d0,_,_,_,_⟩ := Q.kept j; have AU := zb I; have d := zc c0; have f := zc d0; obtain ⟨_,R⟩ := id HE x m p u b; have HV := zb R; have HT := zb (vv (tx := line) v)
   have lA : (zv (.mk 4 x m p [u])).length <= 13 := by unfold zv; split <;> simp [T.name] <;> omega
   have L : ∀ w',Hid (Calls Tryz.prog 67 #[.agg #[.int .i64 4,.string ⟨x.toArray⟩,.int .i64 m,.int .i64 p,.slice (some ⟨G,H,none⟩) 1 c2]] w' (Sy w' (.string ⟨(zv (.mk 4 x m p [u])).toArray⟩))) := fun w' => xl (.mk 4 x m p [u]) (.slice (some ⟨G,H,none⟩) 1 c2) w' hx ⟨_,_,_,rfl⟩
   have M : Hid (line (.mk 4 x m p [u]) = [32,32] ++ (zv (.mk 4 x m p [u]) ++ ([32,61,32] ++ (ty u ++ [59,10])))) := by show _ = _; rw [<- h]; rfl
   generalize zv (.mk 4 x m p [u]) = A at *
   generalize ty u = V at *
   have U : Hid (Box (wr.alloc (.cells #[.int .i64 u.kind,.string ⟨u.name.toArray⟩,.int .i64 u.num,.int .i64 u.at',.slice y u.subs.length z] 24)) wr.heap.size u (.slice y u.subs.length z)) := Box.new wr u (.slice y u.subs.length z) 24; clear v b ft O r fu I Q F R h
   go_wp2_with fail; refine wp_region_held_drew (S := (fun w' => (w'.cell? ⟨k,n + i * 5,none⟩ = some (.int .i64 4) /\ w'.cell? ⟨k,n + i * 5 + 1,none⟩ = some (.string ⟨x.toArray⟩) /\ w'.cell? ⟨k,n + i * 5 + 2,none⟩ = some (.int .i64 m) /\ w'.cell? ⟨k,n + i * 5 + 3,none⟩ = some (.int .i64 p) /\ w'.cell? ⟨k,n + i * 5 + 4,none⟩ = some (.slice (some ⟨G,H,none⟩) 1 c2)) /\ Box w' wr.heap.size u (.slice y u.subs.length z))) (by kernel_rfl) ?_ (fun hHeld => ?_)
   ·exact ⟨⟨(a.kept (ze gan)).c0,(a.kept (ze gan)).c1,(a.kept (ze gan)).c2,(a.kept (ze gan)).c3,(a.kept (ze gan)).c4⟩,U.kept (ze grn)⟩
   refine tQ 0 ?_; refine tQ 1 ?_; refine tQ 2 ?_; refine tQ 3 ?_; refine tQ 4 ?_; refine tQ 5 ?_; refine tQ 9 ?_; refine rd 6 rfl fun KK hKK => ?_
   go_simp
   go_at_call 67; refine ((L _)).mono ?_; rintro e w1 ⟨rfl,d⟩; have N := za (ze (zf j _)) d; have X := U.kept (za (ze grn) d); have g := za (ze gan) d; clear d
   go_simp
   refine hKK _ _ ⟨⟨(a.kept g).c0,(a.kept g).c1,(a.kept g).c2,(a.kept g).c3,(a.kept g).c4⟩,X⟩ fun hHeld => ?_
   clear hKK KK; refine tQ 7 ?_; refine tQ 8 ?_; refine rd 10 rfl fun KK hKK => ?_
   go_simp
   go_at_call 68; refine (HV _ _ N (AU.kept N)).mono ?_; rintro e w2 ⟨rfl,f⟩; have G2 := za N f; have B2 := X.kept (za grn f); have s := za g f; clear f
   go_simp
   refine hKK _ _ ⟨⟨(a.kept s).c0,(a.kept s).c1,(a.kept s).c2,(a.kept s).c3,(a.kept s).c4⟩,B2⟩ fun hHeld => ?_
   clear hKK KK; refine tQ 11 ?_; refine tQ 12 ?_; refine tQ 13 ?_; refine wpAnyH_done (by kernel_rfl) ?_ _; clear hHeld; go_wp2_with fail; refine ⟨⟨i + 1,Y ++ [32,32] ++ A ++ [32,61,32] ++ V ++ [59,10],by omega,by go_num,zY (by repeat rw [zC]),?_,G2⟩,by simp [intOf]; omega⟩
   show _ = _
   rw [HT.out,M.out,D.out]; simp only [List.append_assoc]
  ·have HX : Hid (Y = word ++ ([10] ++ zu line l)) := by
    have := D; rw [List.take_of_length_le (by omega)] at this
    exact this
   go_wp2_with fail
   go_ret
   exact ⟨zU (by rw [HX.out]; rfl),j⟩
theorem sA (word : Bs) (K : Int) (l : List T) (sl : Value) (ty : T -> Bs) (w : World) (ha : AT w l sl) (hK : K = 5) (hk : ∀ t ∈ l,∃ x m p u,t = .mk K x m p [u] /\ x.length <= 12) (he : ∀ x m p u,T.mk K x m p [u] ∈ l -> (ty u).length <= 4000000 /\ ∀ w' sv,w.grownBy w' none -> AT w' u.subs sv -> Calls Tryz.prog 69 #[zq u sv] w' (Sy w' (.string ⟨(ty u).toArray⟩))) (hw : word.length <= 10) (hlen : (zu (fun t => [32,32] ++ (zv t ++ ([32,61,32] ++ (ty (zI t 0) ++ [59,10])))) l).length <= 4000000) :
  Calls Tryz.prog 40 #[.string ⟨word.toArray⟩,sl] w (Sy w (.string ⟨(if l.isEmpty then [] else word ++ ([10] ++ zu (fun t => [32,32] ++ (zv t ++ ([32,61,32] ++ (ty (zI t 0) ++ [59,10])))) l)).toArray⟩)) := by
 subst hK; have Z := zb ha; have HE := zb he; have HK := zb hk; obtain ⟨_,sc,rfl,_,B⟩ := ha.form
 unfold maxLen at B
 clear ha he hk
 by_cases C : l = []
 ·subst C
  go_enter Tryz.func40,Tryz.ntmps40
  go_wp2_with fail
  go_ret
  exact ⟨rfl,zj w none⟩
 have HI : Hid (l.isEmpty = false) := by show _ = _; cases l; exact absurd rfl C; rfl
 rw [HI.out,if_neg (by simp)]
 have a0 : ((l.length : Int) == 0) = false := by
  rw [beq_eq_false_iff_ne]; cases l
  ·exact absurd rfl C
  ·simp; omega
 generalize h : (fun t => [32,32] ++ (zv t ++ ([32,61,32] ++ (ty (zI t 0) ++ [59,10])))) = line at hlen ⊢
 go_enter Tryz.func40,Tryz.ntmps40
 go_wp2_with fail
 go_loopw [5,6] (fun sv iv wr => ∃ (i : Nat) (Y : Bs),i <= l.length /\ iv = .int .i64 ↑i /\ sv = .string ⟨Y.toArray⟩ /\ Hid (Y = word ++ ([10] ++ zu line (l.take i))) /\ Hid (w.grownBy wr none)) (fun _ iv _ => l.length - (intOf iv).toNat)
 case atStart => exact ⟨0,word ++ [10],Nat.zero_le _,rfl,zY (zC word [10]),by show _ = _; simp [zu],zj w none⟩
 case round =>
  obtain ⟨i,Y,_,rfl,rfl,D,j⟩ := hrel
  have hY : Y.length <= 4000011 := by
   rw [D.out]; have := ux line l i; simp only [la,lc,ln]
   omega
  by_cases E : i < l.length
  ·obtain ⟨t,v⟩ : ∃ t,l[i]? = some t := ⟨_,List.getElem?_eq_getElem E⟩
   have b := List.mem_of_getElem? v; obtain ⟨x,m,p,u,rfl,hx⟩ := id HK t b; obtain ⟨k,n,_,e1,F,ft,O⟩ := Z.node i _ v; cases e1; obtain ⟨G,H,c2,u',su,rfl,a1,a2,r,Q,fu,I⟩ := O.one rfl
   obtain rfl : u = u' := by simpa [T.subs] using r
   obtain ⟨y,z,rfl,_,_⟩ := I.form; have a := F.kept j; obtain ⟨c0,c1,J,c3,c4⟩ := F.kept j
   change _ = some (Value.int .i64 5) at c0
   change _ = some (Value.string ⟨List.toArray x⟩) at c1
   change _ = some (Value.int .i64 m) at J
   change _ = some (Value.int .i64 p) at c3
   obtain ⟨d0,_,_,_,_⟩ := Q.kept j; have AU := zb I; have d := zc c0; have f := zc d0; obtain ⟨_,R⟩ := id HE x m p u b; have HV := zb R; have HT := zb (vv (tx := line) v)
   have lA : (zv (.mk 5 x m p [u])).length <= 13 := by unfold zv; split <;> simp [T.name] <;> omega
   have L : ∀ w',Hid (Calls Tryz.prog 67 #[.agg #[.int .i64 5,.string ⟨x.toArray⟩,.int .i64 m,.int .i64 p,.slice (some ⟨G,H,none⟩) 1 c2]] w' (Sy w' (.string ⟨(zv (.mk 5 x m p [u])).toArray⟩))) := fun w' => xl (.mk 5 x m p [u]) (.slice (some ⟨G,H,none⟩) 1 c2) w' hx ⟨_,_,_,rfl⟩
   have M : Hid (line (.mk 5 x m p [u]) = [32,32] ++ (zv (.mk 5 x m p [u]) ++ ([32,61,32] ++ (ty u ++ [59,10])))) := by show _ = _; rw [<- h]; rfl
   generalize zv (.mk 5 x m p [u]) = A at *
   generalize ty u = V at *
   have U : Hid (Box (wr.alloc (.cells #[.int .i64 u.kind,.string ⟨u.name.toArray⟩,.int .i64 u.num,.int .i64 u.at',.slice y u.subs.length z] 24)) wr.heap.size u (.slice y u.subs.length z)) := Box.new wr u (.slice y u.subs.length z) 24; clear v b ft O r fu I Q F R h
   go_wp2_with fail; refine wp_region_held_drew (S := (fun w' => (w'.cell? ⟨k,n + i * 5,none⟩ = some (.int .i64 5) /\ w'.cell? ⟨k,n + i * 5 + 1,none⟩ = some (.string ⟨x.toArray⟩) /\ w'.cell? ⟨k,n + i * 5 + 2,none⟩ = some (.int .i64 m) /\ w'.cell? ⟨k,n + i * 5 + 3,none⟩ = some (.int .i64 p) /\ w'.cell? ⟨k,n + i * 5 + 4,none⟩ = some (.slice (some ⟨G,H,none⟩) 1 c2)) /\ Box w' wr.heap.size u (.slice y u.subs.length z))) (by kernel_rfl) ?_ (fun hHeld => ?_)
   ·exact ⟨⟨(a.kept (ze gan)).c0,(a.kept (ze gan)).c1,(a.kept (ze gan)).c2,(a.kept (ze gan)).c3,(a.kept (ze gan)).c4⟩,U.kept (ze grn)⟩
   refine tQ 0 ?_; refine tQ 1 ?_; refine tQ 2 ?_; refine tQ 3 ?_; refine tQ 4 ?_; refine tQ 5 ?_; refine tQ 9 ?_; refine rd 6 rfl fun KK hKK => ?_
   go_simp
   go_at_call 67; refine ((L _)).mono ?_; rintro e w1 ⟨rfl,d⟩; have N := za (ze (zf j _)) d; have X := U.kept (za (ze grn) d); have g := za (ze gan) d; clear d
   go_simp
   refine hKK _ _ ⟨⟨(a.kept g).c0,(a.kept g).c1,(a.kept g).c2,(a.kept g).c3,(a.kept g).c4⟩,X⟩ fun hHeld => ?_
   clear hKK KK; refine tQ 7 ?_; refine tQ 8 ?_; refine rd 10 rfl fun KK hKK => ?_
   go_simp
   go_at_call 69; refine (HV _ _ N (AU.kept N)).mono ?_; rintro e w2 ⟨rfl,f⟩; have G2 := za N f; have B2 := X.kept (za grn f); have s := za g f; clear f
   go_simp
   refine hKK _ _ ⟨⟨(a.kept s).c0,(a.kept s).c1,(a.kept s).c2,(a.kept s).c3,(a.kept s).c4⟩,B2⟩ fun hHeld => ?_
   clear hKK KK; refine tQ 11 ?_; refine tQ 12 ?_; refine tQ 13 ?_; refine wpAnyH_done (by kernel_rfl) ?_ _; clear hHeld; go_wp2_with fail; refine ⟨⟨i + 1,Y ++ [32,32] ++ A ++ [32,61,32] ++ V ++ [59,10],by omega,by go_num,zY (by repeat rw [zC]),?_,G2⟩,by simp [intOf]; omega⟩
   show _ = _
   rw [HT.out,M.out,D.out]; simp only [List.append_assoc]
  ·have HX : Hid (Y = word ++ ([10] ++ zu line l)) := by
    have := D; rw [List.take_of_length_le (by omega)] at this
    exact this
   go_wp2_with fail
   go_ret
   exact ⟨zU (by rw [HX.out]; rfl),j⟩
theorem tJ (word : Bs) (K : Int) (l : List T) (sl : Value) (ty : T -> Bs) (w : World) (ha : AT w l sl) (hK : K = 6) (hk : ∀ t ∈ l,∃ x m p u,t = .mk K x m p [u] /\ x.length <= 12) (he : ∀ x m p u,T.mk K x m p [u] ∈ l -> (ty u).length <= 4000000 /\ ∀ w' sv,w.grownBy w' none -> AT w' u.subs sv -> Calls Tryz.prog 70 #[zq u sv] w' (Sy w' (.string ⟨(ty u).toArray⟩))) (hw : word.length <= 10) (hlen : (zu (fun t => [32,32] ++ (zv t ++ ([58,32] ++ (ty (zI t 0) ++ [59,10])))) l).length <= 4000000) :
  Calls Tryz.prog 40 #[.string ⟨word.toArray⟩,sl] w (Sy w (.string ⟨(if l.isEmpty then [] else word ++ ([10] ++ zu (fun t => [32,32] ++ (zv t ++ ([58,32] ++ (ty (zI t 0) ++ [59,10])))) l)).toArray⟩)) := by
 subst hK; have Z := zb ha; have HE := zb he; have HK := zb hk; obtain ⟨_,sc,rfl,_,B⟩ := ha.form
 unfold maxLen at B
 clear ha he hk
 by_cases C : l = []
 ·subst C
  go_enter Tryz.func40,Tryz.ntmps40
  go_wp2_with fail
  go_ret
  exact ⟨rfl,zj w none⟩
 have HI : Hid (l.isEmpty = false) := by show _ = _; cases l; exact absurd rfl C; rfl
 rw [HI.out,if_neg (by simp)]
 have a0 : ((l.length : Int) == 0) = false := by
  rw [beq_eq_false_iff_ne]; cases l
  ·exact absurd rfl C
  ·simp; omega
 generalize h : (fun t => [32,32] ++ (zv t ++ ([58,32] ++ (ty (zI t 0) ++ [59,10])))) = line at hlen ⊢
 go_enter Tryz.func40,Tryz.ntmps40
 go_wp2_with fail
 go_loopw [5,6] (fun sv iv wr => ∃ (i : Nat) (Y : Bs),i <= l.length /\ iv = .int .i64 ↑i /\ sv = .string ⟨Y.toArray⟩ /\ Hid (Y = word ++ ([10] ++ zu line (l.take i))) /\ Hid (w.grownBy wr none)) (fun _ iv _ => l.length - (intOf iv).toNat)
 case atStart => exact ⟨0,word ++ [10],Nat.zero_le _,rfl,zY (zC word [10]),by show _ = _; simp [zu],zj w none⟩
 case round =>
  obtain ⟨i,Y,_,rfl,rfl,D,j⟩ := hrel
  have hY : Y.length <= 4000011 := by
   rw [D.out]; have := ux line l i; simp only [la,lc,ln]
   omega
  by_cases E : i < l.length
  ·obtain ⟨t,v⟩ : ∃ t,l[i]? = some t := ⟨_,List.getElem?_eq_getElem E⟩
   have b := List.mem_of_getElem? v; obtain ⟨x,m,p,u,rfl,hx⟩ := id HK t b; obtain ⟨k,n,_,e1,F,ft,O⟩ := Z.node i _ v; cases e1; obtain ⟨G,H,c2,u',su,rfl,a1,a2,r,Q,fu,I⟩ := O.one rfl
   obtain rfl : u = u' := by simpa [T.subs] using r
   obtain ⟨y,z,rfl,_,_⟩ := I.form; have a := F.kept j; obtain ⟨c0,c1,J,c3,c4⟩ := F.kept j
   change _ = some (Value.int .i64 6) at c0
   change _ = some (Value.string ⟨List.toArray x⟩) at c1
   change _ = some (Value.int .i64 m) at J
   change _ = some (Value.int .i64 p) at c3
   obtain ⟨d0,_,_,_,_⟩ := Q.kept j; have AU := zb I; have d := zc c0; have f := zc d0; obtain ⟨_,R⟩ := id HE x m p u b; have HV := zb R; have HT := zb (vv (tx := line) v)
   have lA : (zv (.mk 6 x m p [u])).length <= 13 := by unfold zv; split <;> simp [T.name] <;> omega
   have L : ∀ w',Hid (Calls Tryz.prog 67 #[.agg #[.int .i64 6,.string ⟨x.toArray⟩,.int .i64 m,.int .i64 p,.slice (some ⟨G,H,none⟩) 1 c2]] w' (Sy w' (.string ⟨(zv (.mk 6 x m p [u])).toArray⟩))) := fun w' => xl (.mk 6 x m p [u]) (.slice (some ⟨G,H,none⟩) 1 c2) w' hx ⟨_,_,_,rfl⟩
   have M : Hid (line (.mk 6 x m p [u]) = [32,32] ++ (zv (.mk 6 x m p [u]) ++ ([58,32] ++ (ty u ++ [59,10])))) := by show _ = _; rw [<- h]; rfl
   generalize zv (.mk 6 x m p [u]) = A at *
   generalize ty u = V at *
   have U : Hid (Box (wr.alloc (.cells #[.int .i64 u.kind,.string ⟨u.name.toArray⟩,.int .i64 u.num,.int .i64 u.at',.slice y u.subs.length z] 24)) wr.heap.size u (.slice y u.subs.length z)) := Box.new wr u (.slice y u.subs.length z) 24; clear v b ft O r fu I Q F R h
   go_wp2_with fail; refine wp_region_held_drew (S := (fun w' => (w'.cell? ⟨k,n + i * 5,none⟩ = some (.int .i64 6) /\ w'.cell? ⟨k,n + i * 5 + 1,none⟩ = some (.string ⟨x.toArray⟩) /\ w'.cell? ⟨k,n + i * 5 + 2,none⟩ = some (.int .i64 m) /\ w'.cell? ⟨k,n + i * 5 + 3,none⟩ = some (.int .i64 p) /\ w'.cell? ⟨k,n + i * 5 + 4,none⟩ = some (.slice (some ⟨G,H,none⟩) 1 c2)) /\ Box w' wr.heap.size u (.slice y u.subs.length z))) (by kernel_rfl) ?_ (fun hHeld => ?_)
   ·exact ⟨⟨(a.kept (ze gan)).c0,(a.kept (ze gan)).c1,(a.kept (ze gan)).c2,(a.kept (ze gan)).c3,(a.kept (ze gan)).c4⟩,U.kept (ze grn)⟩
   refine tQ 0 ?_; refine tQ 1 ?_; refine tQ 2 ?_; refine tQ 3 ?_; refine tQ 4 ?_; refine tQ 5 ?_; refine tQ 9 ?_; refine rd 6 rfl fun KK hKK => ?_
   go_simp
   go_at_call 67; refine ((L _)).mono ?_; rintro e w1 ⟨rfl,d⟩; have N := za (ze (zf j _)) d; have X := U.kept (za (ze grn) d); have g := za (ze gan) d; clear d
   go_simp
   refine hKK _ _ ⟨⟨(a.kept g).c0,(a.kept g).c1,(a.kept g).c2,(a.kept g).c3,(a.kept g).c4⟩,X⟩ fun hHeld => ?_
   clear hKK KK; refine tQ 7 ?_; refine tQ 8 ?_; refine rd 10 rfl fun KK hKK => ?_
   go_simp
   go_at_call 70; refine (HV _ _ N (AU.kept N)).mono ?_; rintro e w2 ⟨rfl,f⟩; have G2 := za N f; have B2 := X.kept (za grn f); have s := za g f; clear f
   go_simp
   refine hKK _ _ ⟨⟨(a.kept s).c0,(a.kept s).c1,(a.kept s).c2,(a.kept s).c3,(a.kept s).c4⟩,B2⟩ fun hHeld => ?_
   clear hKK KK; refine tQ 11 ?_; refine tQ 12 ?_; refine tQ 13 ?_; refine wpAnyH_done (by kernel_rfl) ?_ _; clear hHeld; go_wp2_with fail; refine ⟨⟨i + 1,Y ++ [32,32] ++ A ++ [58,32] ++ V ++ [59,10],by omega,by go_num,zY (by repeat rw [zC]),?_,G2⟩,by simp [intOf]; omega⟩
   show _ = _
   rw [HT.out,M.out,D.out]; simp only [List.append_assoc]
  ·have HX : Hid (Y = word ++ ([10] ++ zu line l)) := by
    have := D; rw [List.take_of_length_le (by omega)] at this
    exact this
   go_wp2_with fail
   go_ret
   exact ⟨zU (by rw [HX.out]; rfl),j⟩
theorem cY (p : Int) (u : T) (us : List T) (sv : Value) (w : World) (ha : AT w (T.mk 10 [] 0 p (u :: us)).subs sv) (fld : T -> Bs) (hfld : ∀ t,fld t = zv t ++ ([58,32] ++ (zz (zI t 0) ++ [59,32]))) (hkb : (u.kind != 0) = false) (hk : ∀ t ∈ us,∃ x m q z,t = .mk 11 x m q [z] /\ x.length <= 12 /\ NTx w z (zz z)) (hlen : (zu fld us).length <= 4000000) :
  Calls Tryz.prog 69 #[.agg #[.int .i64 10,.string ⟨List.toArray []⟩,.int .i64 0,.int .i64 p,sv]] w (Sy w (.string ⟨(([82,69,67,79,82,68,32]) ++ (zu fld us ++ [69,78,68])).toArray⟩)) := by
 have U := zb ha; have V := zb hk; obtain ⟨g,o,c,_,rfl,_,_,l,X,K,Z⟩ := AT.cons ha; have NU := zb l; have AU := zb K; have a0 := zc l.c0; obtain ⟨_,_,_,_,_⟩ := l; have B0 : Hid (Box (w.alloc (.cells #[.int .i64 10,.string ⟨List.toArray []⟩,.int .i64 0,.int .i64 p,.slice (some ⟨g,o,none⟩) (us.length + 1) c] 24)) w.heap.size (.mk 10 [] 0 p (u :: us)) (.slice (some ⟨g,o,none⟩) (us.length + 1) c)) := Box.new w (.mk 10 [] 0 p (u :: us)) (.slice (some ⟨g,o,none⟩) (us.length + 1) c) 24; have HF := zb hfld; clear ha hk X K Z hfld
 skip
 go_enter Tryz.func69,Tryz.ntmps69
 go_wp2_with fail
 go_loopw [3,4] (fun sv iv wr => ∃ (i : Nat) (Y : Bs),1 <= i /\ i <= us.length + 1 /\ iv = .int .i64 ↑i /\ sv = .string ⟨Y.toArray⟩ /\ Hid (Y = ([82,69,67,79,82,68,32]) ++ zu fld (us.take (i - 1))) /\ Hid (w.grownBy wr none) /\ Hid (Box wr w.heap.size (.mk 10 [] 0 p (u :: us)) (.slice (some ⟨g,o,none⟩) (us.length + 1) c))) (fun _ iv _ => us.length + 1 - (intOf iv).toNat)
 case atStart => exact ⟨1,[82,69,67,79,82,68,32],Nat.le_refl _,by omega,rfl,rfl,by show _ = _; simp [zu],zf grn _,B0⟩
 case round =>
  obtain ⟨i,Y,_,_,rfl,rfl,D,v,E⟩ := hrel; obtain ⟨b0,_,_,_,_⟩ := id E; have bl := zc b0
  have hY : Y.length <= 6000000 := by
   rw [D.out]; have := ux fld us (i - 1); simp only [la,lc,ln]
   omega
  by_cases F : i < us.length + 1
  ·obtain ⟨t,G⟩ : ∃ t,(u :: us)[i]? = some t := ⟨_,List.getElem?_eq_getElem (by simpa using F)⟩
   have h : us[i - 1]? = some t := by
    obtain ⟨k,rfl⟩ : ∃ k,i = k + 1 := ⟨i - 1,by omega⟩
    simpa using G
   have f := List.mem_of_getElem? h; obtain ⟨x,m,q,z,rfl,hx,_,r⟩ := id V t f; obtain ⟨_,_,_,e1,l,ft,L⟩ := U.node i _ G; cases e1; obtain ⟨y,B,c2,z',sz,rfl,a1,a2,s,M,fz,O⟩ := L.one rfl
   obtain rfl : z = z' := by simpa [T.subs] using s
   have a := l.kept v; have C := M.kept v; have AZ := zb O; have HZ := zb r; have HT := zb (vv (tx := fld) h)
   have lA : (zv (.mk 11 x m q [z])).length <= 13 := by unfold zv; split <;> simp [T.name] <;> omega
   have H : ∀ w',Hid (Calls Tryz.prog 67 #[.agg #[.int .i64 11,.string ⟨x.toArray⟩,.int .i64 m,.int .i64 q,.slice (some ⟨y,B,none⟩) 1 c2]] w' (Sy w' (.string ⟨(zv (.mk 11 x m q [z])).toArray⟩))) := fun w' => xl (.mk 11 x m q [z]) (.slice (some ⟨y,B,none⟩) 1 c2) w' hx ⟨_,_,_,rfl⟩
   have I : Hid (fld (.mk 11 x m q [z]) = zv (.mk 11 x m q [z]) ++ ([58,32] ++ (zz z ++ [59,32]))) := HF _
   generalize zv (.mk 11 x m q [z]) = A at *
   generalize zz z = N at *
   have a3 := zc a.c0; have a4 := zc C.c0; clear G h f ft L s fz O M l r
   go_wp2_with fail; refine wp_region_held_drew (S := (fun w' => w'.cell? ⟨w.heap.size,4,none⟩ = some (.slice (some ⟨g,o,none⟩) (us.length + 1) c) /\ (w'.cell? ⟨g,o + i * 5,none⟩ = some (.int .i64 11) /\ w'.cell? ⟨g,o + i * 5 + 1,none⟩ = some (.string ⟨x.toArray⟩) /\ w'.cell? ⟨g,o + i * 5 + 2,none⟩ = some (.int .i64 m) /\ w'.cell? ⟨g,o + i * 5 + 3,none⟩ = some (.int .i64 q) /\ w'.cell? ⟨g,o + i * 5 + 4,none⟩ = some (.slice (some ⟨y,B,none⟩) 1 c2)) /\ Node5 w' y B z sz)) (by kernel_rfl) ?_ (fun hHeld => ?_)
   ·exact ⟨zg (ze grn) E.c4,⟨(a.kept (ze grn)).c0,(a.kept (ze grn)).c1,(a.kept (ze grn)).c2,(a.kept (ze grn)).c3,(a.kept (ze grn)).c4⟩,C.kept (ze grn)⟩
   refine tQ 0 ?_; refine tQ 1 ?_; refine tQ 2 ?_; refine tQ 3 ?_; refine tQ 4 ?_; refine tQ 5 ?_; refine tQ 9 ?_; refine tQ 10 ?_; refine tQ 11 ?_; refine tQ 12 ?_; refine tQ 13 ?_; refine tQ 14 ?_
   refine tQ 15 ?_; refine tQ 16 ?_; refine rd 6 rfl fun KK hKK => ?_
   go_simp
   go_at_call 67; refine ((H _)).mono ?_; rintro e w1 ⟨rfl,b⟩; have J := za (ze v) b; have Q := E.kept (za (ze grn) b); have j := za (ze grn) b; clear b
   go_simp
   refine hKK _ _ ⟨Q.c4,⟨(a.kept j).c0,(a.kept j).c1,(a.kept j).c2,(a.kept j).c3,(a.kept j).c4⟩,C.kept j⟩ fun hHeld => ?_
   clear hKK KK; refine tQ 7 ?_; refine tQ 8 ?_; refine rd 17 rfl fun KK hKK => ?_
   go_simp
   go_at_call 70; refine (HZ _ _ J (AZ.kept J)).mono ?_; rintro e w2 ⟨rfl,d⟩; have G2 := za J d; have R := Q.kept (za grn d); have n := za j d; clear d
   go_simp
   refine hKK _ _ ⟨R.c4,⟨(a.kept n).c0,(a.kept n).c1,(a.kept n).c2,(a.kept n).c3,(a.kept n).c4⟩,C.kept n⟩ fun hHeld => ?_
   clear hKK KK; refine tQ 18 ?_; refine tQ 19 ?_; refine tQ 20 ?_; refine wpAnyH_done (by kernel_rfl) ?_ _; clear hHeld; go_wp2_with fail; refine ⟨⟨i + 1,Y ++ A ++ [58,32] ++ N ++ [59,32],by omega,by omega,by go_num,zY (by repeat rw [zC]),?_,G2,R⟩,by simp [intOf]; omega⟩
   show _ = _
   rw [show i + 1 - 1 = i - 1 + 1 by omega,HT.out,I.out,D.out]; simp only [List.append_assoc]
  ·have HX : Hid (Y = ([82,69,67,79,82,68,32]) ++ zu fld us) := by
    have := D; rw [List.take_of_length_le (by omega)] at this
    exact this
   go_wp2_with fail
   go_ret
   refine ⟨zU ?_,v⟩; rw [show (⟨#[69,78,68]⟩ : ByteArray) = ⟨List.toArray [69,78,68]⟩ from rfl,zC,HX.out]
   try simp only [List.append_assoc]
   try rfl
theorem bR (p : Int) (u : T) (us : List T) (sv : Value) (w : World) (ha : AT w (T.mk 10 [] 0 p (u :: us)).subs sv) (fld : T -> Bs) (hfld : ∀ t,fld t = zv t ++ ([58,32] ++ (zz (zI t 0) ++ [59,32]))) (V : Bs) (hkb : (u.kind != 0) = true) (hv : NTx w u V) (hk : ∀ t ∈ us,∃ x m q z,t = .mk 11 x m q [z] /\ x.length <= 12 /\ NTx w z (zz z)) (hlen : (zu fld us).length <= 4000000) :
  Calls Tryz.prog 69 #[.agg #[.int .i64 10,.string ⟨List.toArray []⟩,.int .i64 0,.int .i64 p,sv]] w (Sy w (.string ⟨(([82,69,67,79,82,68,32] ++ [40] ++ V ++ [41,32]) ++ (zu fld us ++ [69,78,68])).toArray⟩)) := by
 have HA := zb ha; have HK := zb hk; obtain ⟨g,o,c,_,rfl,_,_,n,fu,M,ar⟩ := AT.cons ha; have NU := zb n; have AU := zb M; have a0 := zc n.c0; obtain ⟨_,_,_,_,_⟩ := n; have B0 : Hid (Box (w.alloc (.cells #[.int .i64 10,.string ⟨List.toArray []⟩,.int .i64 0,.int .i64 p,.slice (some ⟨g,o,none⟩) (us.length + 1) c] 24)) w.heap.size (.mk 10 [] 0 p (u :: us)) (.slice (some ⟨g,o,none⟩) (us.length + 1) c)) := Box.new w (.mk 10 [] 0 p (u :: us)) (.slice (some ⟨g,o,none⟩) (us.length + 1) c) 24; have HF := zb hfld; clear ha hk fu M ar hfld; obtain ⟨_,s⟩ := hv; have HV := zb s; clear s
 go_enter Tryz.func69,Tryz.ntmps69
 go_wp2_with fail; go_at_call 70; refine (HV _ _ gan (AU.kept gan)).mono ?_; rintro e v1 ⟨rfl,h⟩; have GV := za gan h; have O := B0.kept (za grn h); obtain ⟨_,_,_,_,_⟩ := id O; clear h; go_wp2_with fail
 go_loopw [3,4] (fun sv iv wr => ∃ (i : Nat) (Y : Bs),1 <= i /\ i <= us.length + 1 /\ iv = .int .i64 ↑i /\ sv = .string ⟨Y.toArray⟩ /\ Hid (Y = ([82,69,67,79,82,68,32] ++ [40] ++ V ++ [41,32]) ++ zu fld (us.take (i - 1))) /\ Hid (w.grownBy wr none) /\ Hid (Box wr w.heap.size (.mk 10 [] 0 p (u :: us)) (.slice (some ⟨g,o,none⟩) (us.length + 1) c))) (fun _ iv _ => us.length + 1 - (intOf iv).toNat)
 case atStart => exact ⟨1,[82,69,67,79,82,68,32] ++ [40] ++ V ++ [41,32],Nat.le_refl _,by omega,rfl,zY (by repeat rw [zC]),by show _ = _; simp [zu],GV,O⟩
 case round =>
  obtain ⟨i,Y,_,_,rfl,rfl,F,B,G⟩ := hrel; obtain ⟨b0,_,_,_,_⟩ := id G; have bl := zc b0
  have hY : Y.length <= 6000000 := by
   rw [F.out]; have := ux fld us (i - 1); simp only [la,lc,ln]
   omega
  by_cases H : i < us.length + 1
  ·obtain ⟨t,I⟩ : ∃ t,(u :: us)[i]? = some t := ⟨_,List.getElem?_eq_getElem (by simpa using H)⟩
   have j : us[i - 1]? = some t := by
    obtain ⟨k,rfl⟩ : ∃ k,i = k + 1 := ⟨i - 1,by omega⟩
    simpa using I
   have f := List.mem_of_getElem? j; obtain ⟨x,m,q,z,rfl,hx,_,v⟩ := id HK t f; obtain ⟨_,_,_,e1,n,ft,Q⟩ := HA.node i _ I; cases e1; obtain ⟨C,D,c2,z',sz,rfl,a1,a2,y,R,fz,U⟩ := Q.one rfl
   obtain rfl : z = z' := by simpa [T.subs] using y
   have a := n.kept B; have E := R.kept B; have AZ := zb U; have HZ := zb v; have HT := zb (vv (tx := fld) j)
   have lA : (zv (.mk 11 x m q [z])).length <= 13 := by unfold zv; split <;> simp [T.name] <;> omega
   have J : ∀ w',Hid (Calls Tryz.prog 67 #[.agg #[.int .i64 11,.string ⟨x.toArray⟩,.int .i64 m,.int .i64 q,.slice (some ⟨C,D,none⟩) 1 c2]] w' (Sy w' (.string ⟨(zv (.mk 11 x m q [z])).toArray⟩))) := fun w' => xl (.mk 11 x m q [z]) (.slice (some ⟨C,D,none⟩) 1 c2) w' hx ⟨_,_,_,rfl⟩
   have K : Hid (fld (.mk 11 x m q [z]) = zv (.mk 11 x m q [z]) ++ ([58,32] ++ (zz z ++ [59,32]))) := HF _
   generalize zv (.mk 11 x m q [z]) = A at *
   generalize zz z = N at *
   have a3 := zc a.c0; have a4 := zc E.c0; clear I j f ft Q y fz U R n v
   go_wp2_with fail; refine wp_region_held_drew (S := (fun w' => w'.cell? ⟨w.heap.size,4,none⟩ = some (.slice (some ⟨g,o,none⟩) (us.length + 1) c) /\ (w'.cell? ⟨g,o + i * 5,none⟩ = some (.int .i64 11) /\ w'.cell? ⟨g,o + i * 5 + 1,none⟩ = some (.string ⟨x.toArray⟩) /\ w'.cell? ⟨g,o + i * 5 + 2,none⟩ = some (.int .i64 m) /\ w'.cell? ⟨g,o + i * 5 + 3,none⟩ = some (.int .i64 q) /\ w'.cell? ⟨g,o + i * 5 + 4,none⟩ = some (.slice (some ⟨C,D,none⟩) 1 c2)) /\ Node5 w' C D z sz)) (by kernel_rfl) ?_ (fun hHeld => ?_)
   ·exact ⟨zg (ze grn) G.c4,⟨(a.kept (ze grn)).c0,(a.kept (ze grn)).c1,(a.kept (ze grn)).c2,(a.kept (ze grn)).c3,(a.kept (ze grn)).c4⟩,E.kept (ze grn)⟩
   refine tQ 0 ?_; refine tQ 1 ?_; refine tQ 2 ?_; refine tQ 3 ?_; refine tQ 4 ?_; refine tQ 5 ?_; refine tQ 9 ?_; refine tQ 10 ?_; refine tQ 11 ?_; refine tQ 12 ?_; refine tQ 13 ?_; refine tQ 14 ?_
   refine tQ 15 ?_; refine tQ 16 ?_; refine rd 6 rfl fun KK hKK => ?_
   go_simp
   go_at_call 67; refine ((J _)).mono ?_; rintro e w1 ⟨rfl,b⟩; have L := za (ze B) b; have X := G.kept (za (ze grn) b); have l := za (ze grn) b; clear b
   go_simp
   refine hKK _ _ ⟨X.c4,⟨(a.kept l).c0,(a.kept l).c1,(a.kept l).c2,(a.kept l).c3,(a.kept l).c4⟩,E.kept l⟩ fun hHeld => ?_
   clear hKK KK; refine tQ 7 ?_; refine tQ 8 ?_; refine rd 17 rfl fun KK hKK => ?_
   go_simp
   go_at_call 70; refine (HZ _ _ L (AZ.kept L)).mono ?_; rintro e w2 ⟨rfl,d⟩; have G2 := za L d; have Z := X.kept (za grn d); have r := za l d; clear d
   go_simp
   refine hKK _ _ ⟨Z.c4,⟨(a.kept r).c0,(a.kept r).c1,(a.kept r).c2,(a.kept r).c3,(a.kept r).c4⟩,E.kept r⟩ fun hHeld => ?_
   clear hKK KK; refine tQ 18 ?_; refine tQ 19 ?_; refine tQ 20 ?_; refine wpAnyH_done (by kernel_rfl) ?_ _; clear hHeld; go_wp2_with fail; refine ⟨⟨i + 1,Y ++ A ++ [58,32] ++ N ++ [59,32],by omega,by omega,by go_num,zY (by repeat rw [zC]),?_,G2,Z⟩,by simp [intOf]; omega⟩
   show _ = _
   rw [show i + 1 - 1 = i - 1 + 1 by omega,HT.out,K.out,F.out]; simp only [List.append_assoc]
  ·have HX : Hid (Y = ([82,69,67,79,82,68,32] ++ [40] ++ V ++ [41,32]) ++ zu fld us) := by
    have := F; rw [List.take_of_length_le (by omega)] at this
    exact this
   go_wp2_with fail
   go_ret
   refine ⟨zU ?_,B⟩; rw [show (⟨#[69,78,68]⟩ : ByteArray) = ⟨List.toArray [69,78,68]⟩ from rfl,zC,HX.out]
   try simp only [List.append_assoc]
   try rfl
end Go.Proofs.YtifapidjkelnfaaGreatDoor
