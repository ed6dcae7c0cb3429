/- The document's texts: procedures. -/
import Derived.Test.YtifapidjkelnfaaGreatDoorG26
import Derived.Test.YtifapidjkelnfaaGreatDoorG02
namespace Go.Proofs.YtifapidjkelnfaaGreatDoor
open Go.RowKit
set_option maxHeartbeats 4000000
set_option maxRecDepth 1000000
theorem cZ (x : Bs) (m p q : Int) (us : List T) (rs vs bs : T) (sv : Value) (w : World) (ha : AT w (T.mk 7 x m p [.mk 1 [] 0 q us,rs,vs,bs]).subs sv) (hx : x.length <= 12) (D B : Bs) (lD : D.length <= 4000000) (hD : ∀ w' sl,w.grownBy w' none -> AT w' vs.subs sl -> Calls Tryz.prog 40 #[.string ⟨List.toArray [86,65,82]⟩,sl] w' (Sy w' (.string ⟨D.toArray⟩))) (hB : STx w bs [32,32] B) (hus : us = []) (hr : (rs.kind != 0) = false) :
  Calls Tryz.prog 41 #[.agg #[.int .i64 7,.string ⟨x.toArray⟩,.int .i64 m,.int .i64 p,sv]] w (Sy w (.string ⟨([80,82,79,67,69,68,85,82,69,32] ++ (zv (.mk 7 x m p [.mk 1 [] 0 q us,rs,vs,bs]) ++ ([59,10] ++ (D ++ ([66,69,71,73,78,10] ++ (B ++ ([69,78,68,32] ++ (x ++ [59,10])))))))).toArray⟩)) := by
 have U := zb hD; obtain ⟨_,i⟩ := hB; have V := zb i; obtain ⟨_,c,rfl,C,d⟩ := ha.form
 have X : c <= 9223372036854775807 := by unfold maxLen at d; omega
 have Y : 4 <= c := C; obtain ⟨g,o,E,Z,n,-,k⟩ := ha.node 0 _ rfl; subst Z; obtain ⟨F,G,s1,j,H,-,I⟩ := ha.node 1 _ rfl; cases j; obtain ⟨F,G,J,j,K,-,L⟩ := ha.node 2 _ rfl; cases j; obtain ⟨F,G,M,j,N,-,O⟩ := ha.node 3 _ rfl; cases j; have M0 : Hid (Node5 w g o (.mk 1 [] 0 q us) E) := n; have M1 : Hid (Node5 w g (o + 5) rs s1) := H; have M2 : Hid (Node5 w g (o + 10) vs J) := K; have M3 : Hid (Node5 w g (o + 15) bs M) := N; have A1 := zb I; have A2 := zb L; have A3 := zb O; have a4 : g < w.heap.size := zc n.c0
 change AT w us E at k
 have A0 := zb k; obtain ⟨_,_,rfl,_,r⟩ := k.form
 unfold maxLen at r
 have B0 : Hid (Box (w.alloc (.cells #[.int .i64 7,.string ⟨x.toArray⟩,.int .i64 m,.int .i64 p,.slice (some ⟨g,o,none⟩) 4 c] 24)) w.heap.size (.mk 7 x m p [.mk 1 [] 0 q us,rs,vs,bs]) (.slice (some ⟨g,o,none⟩) 4 c)) := Box.new w (.mk 7 x m p [.mk 1 [] 0 q us,rs,vs,bs]) (.slice (some ⟨g,o,none⟩) 4 c) 24
 have lA : (zv (.mk 7 x m p [.mk 1 [] 0 q us,rs,vs,bs])).length <= 13 := by unfold zv; split <;> simp [T.name] <;> omega
 have s : ∀ w',Hid (Calls Tryz.prog 67 #[.agg #[.int .i64 7,.string ⟨x.toArray⟩,.int .i64 m,.int .i64 p,.slice (some ⟨g,o,none⟩) 4 c]] w' (Sy w' (.string ⟨(zv (.mk 7 x m p [.mk 1 [] 0 q us,rs,vs,bs])).toArray⟩))) := fun w' => xl (.mk 7 x m p [.mk 1 [] 0 q us,rs,vs,bs]) (.slice (some ⟨g,o,none⟩) 4 c) w' hx ⟨_,_,_,rfl⟩
 generalize zv (.mk 7 x m p [.mk 1 [] 0 q us,rs,vs,bs]) = A at *
 clear ha hD i d C n H K N k I L O
 change Calls Tryz.prog 41 #[.agg #[.int .i64 7,.string ⟨x.toArray⟩,.int .i64 m,.int .i64 p,.slice (some ⟨g,o,none⟩) 4 c]] w _
 subst hus
 have a5 : ¬ (0 : Int) < (([] : List T).length : Int) := by simp
 go_enter Tryz.func41,Tryz.ntmps41
 go_wp2_with fail; go_at_call 67; refine ((s _)).mono ?_; rintro e v1 ⟨rfl,f⟩; have h := za gan f; have l := B0.kept (za grn f); obtain ⟨_,_,_,_,_⟩ := id l; obtain ⟨_,_,_,_,_⟩ := M0.kept h; obtain ⟨_,_,_,_,_⟩ := M1.kept h; clear f; have t := M2.kept h; have u := M3.kept h
 go_wp2_with fail; refine wp_region_held_drew (S := (fun w' => w'.cell? ⟨w.heap.size,4,none⟩ = some (.slice (some ⟨g,o,none⟩) 4 c) /\ w'.cell? ⟨w.heap.size,1,none⟩ = some (.string ⟨x.toArray⟩) /\ w'.cell? ⟨g,o + 14,none⟩ = some J /\ Node5 w' g (o + 15) bs M)) (by kernel_rfl) ?_ (fun hHeld => ?_)
 ·exact ⟨zg (ze grn) l.c4,zg (ze grn) l.c1,zg (ze grn) t.c4,u.kept (ze grn)⟩
 refine tQ 0 ?_; refine tQ 1 ?_; refine tQ 2 ?_; refine tQ 3 ?_; refine tQ 4 ?_; refine tQ 5 ?_; refine tQ 6 ?_; refine tQ 10 ?_; refine tQ 11 ?_; refine tQ 12 ?_; refine tQ 13 ?_; refine tQ 17 ?_; refine tQ 18 ?_; refine rd 7 rfl fun KK hKK => ?_
 go_simp
 go_at_call 40; refine (U _ _ (ze h) (A2.kept (ze h))).mono ?_; rintro e w1 ⟨rfl,a⟩; have v := za (ze h) a; have y := l.kept (za (ze grn) a); have z := za (ze grn) a; clear a
 go_simp
 refine hKK _ _ ⟨y.c4,y.c1,zg z t.c4,u.kept z⟩ fun hHeld => ?_
 clear hKK KK; refine tQ 8 ?_; refine tQ 9 ?_; refine rd 14 rfl fun KK hKK => ?_
 go_simp
 go_at_call 42; refine (V _ _ v (A3.kept v)).mono ?_; rintro e w2 ⟨rfl,b⟩; have G2 := za v b; have Q := y.kept (za grn b); have R := za z b; clear b
 go_simp
 refine hKK _ _ ⟨Q.c4,Q.c1,zg R t.c4,u.kept R⟩ fun hHeld => ?_
 clear hKK KK; refine tQ 15 ?_; refine tQ 16 ?_; refine tQ 19 ?_; refine tQ 20 ?_; refine tQ 21 ?_; refine wpAnyH_done (by kernel_rfl) ?_ _; clear hHeld; go_wp2_with fail
 go_ret
 refine ⟨(show Ending.returned (.string (((((((((⟨List.toArray [80,82,79,67,69,68,85,82,69,32]⟩ : ByteArray) ++ (⟨List.toArray A⟩ : ByteArray)) ++ (⟨List.toArray [59,10]⟩ : ByteArray)) ++ (⟨List.toArray D⟩ : ByteArray)) ++ (⟨List.toArray [66,69,71,73,78,10]⟩ : ByteArray)) ++ (⟨List.toArray B⟩ : ByteArray)) ++ (⟨List.toArray [69,78,68,32]⟩ : ByteArray)) ++ (⟨List.toArray x⟩ : ByteArray)) ++ (⟨List.toArray [59,10]⟩ : ByteArray))) = _ from zU ?_),G2⟩
 repeat rw [zC]
 simp only [List.append_assoc]
 try rfl
theorem bV (x : Bs) (m p q : Int) (us : List T) (rs vs bs : T) (sv : Value) (w : World) (ha : AT w (T.mk 7 x m p [.mk 1 [] 0 q us,rs,vs,bs]).subs sv) (hx : x.length <= 12) (D B : Bs) (lD : D.length <= 4000000) (hD : ∀ w' sl,w.grownBy w' none -> AT w' vs.subs sl -> Calls Tryz.prog 40 #[.string ⟨List.toArray [86,65,82]⟩,sl] w' (Sy w' (.string ⟨D.toArray⟩))) (hB : STx w bs [32,32] B) (hus : 0 < us.length) (hr : (rs.kind != 0) = false) (hk : ∀ t ∈ us,∃ y n q z,t = .mk 8 y n q [z] /\ y.length <= 12 /\ NTx w z (zz z)) (hlen : (zE [59,32] (us.map zR)).length <= 4000000) :
  Calls Tryz.prog 41 #[.agg #[.int .i64 7,.string ⟨x.toArray⟩,.int .i64 m,.int .i64 p,sv]] w (Sy w (.string ⟨([80,82,79,67,69,68,85,82,69,32] ++ (zv (.mk 7 x m p [.mk 1 [] 0 q us,rs,vs,bs]) ++ ([40] ++ (zE [59,32] (us.map zR) ++ ([41] ++ ([59,10] ++ (D ++ ([66,69,71,73,78,10] ++ (B ++ ([69,78,68,32] ++ (x ++ [59,10]))))))))))).toArray⟩)) := by
 have HD := zb hD; obtain ⟨_,R⟩ := hB; have HB := zb R; obtain ⟨_,c,rfl,hn,E⟩ := ha.form
 have b4 : c <= 9223372036854775807 := by unfold maxLen at E; omega
 have b5 : 4 <= c := hn; obtain ⟨g,o,s0,e0,n0,-,Z⟩ := ha.node 0 _ rfl; subst e0; obtain ⟨g',o',s1,L,n1,-,a1⟩ := ha.node 1 _ rfl; cases L; obtain ⟨g',o',s2,L,n2,-,a2⟩ := ha.node 2 _ rfl; cases L; obtain ⟨g',o',s3,L,n3,-,a3⟩ := ha.node 3 _ rfl; cases L; have M0 : Hid (Node5 w g o (.mk 1 [] 0 q us) s0) := n0; have M1 : Hid (Node5 w g (o + 5) rs s1) := n1; have M2 : Hid (Node5 w g (o + 10) vs s2) := n2; have M3 : Hid (Node5 w g (o + 15) bs s3) := n3; have A1 := zb a1; have A2 := zb a2; have A3 := zb a3; have b6 : g < w.heap.size := zc n0.c0
 change AT w us s0 at Z
 have A0 := zb Z; obtain ⟨_,sc,rfl,_,a4⟩ := Z.form
 unfold maxLen at a4
 have B0 : Hid (Box (w.alloc (.cells #[.int .i64 7,.string ⟨x.toArray⟩,.int .i64 m,.int .i64 p,.slice (some ⟨g,o,none⟩) 4 c] 24)) w.heap.size (.mk 7 x m p [.mk 1 [] 0 q us,rs,vs,bs]) (.slice (some ⟨g,o,none⟩) 4 c)) := Box.new w (.mk 7 x m p [.mk 1 [] 0 q us,rs,vs,bs]) (.slice (some ⟨g,o,none⟩) 4 c) 24
 have lA : (zv (.mk 7 x m p [.mk 1 [] 0 q us,rs,vs,bs])).length <= 13 := by unfold zv; split <;> simp [T.name] <;> omega
 have a5 : ∀ w',Hid (Calls Tryz.prog 67 #[.agg #[.int .i64 7,.string ⟨x.toArray⟩,.int .i64 m,.int .i64 p,.slice (some ⟨g,o,none⟩) 4 c]] w' (Sy w' (.string ⟨(zv (.mk 7 x m p [.mk 1 [] 0 q us,rs,vs,bs])).toArray⟩))) := fun w' => xl (.mk 7 x m p [.mk 1 [] 0 q us,rs,vs,bs]) (.slice (some ⟨g,o,none⟩) 4 c) w' hx ⟨_,_,_,rfl⟩
 generalize zv (.mk 7 x m p [.mk 1 [] 0 q us,rs,vs,bs]) = A at *
 clear ha hD R E hn n0 n1 n2 n3 Z a1 a2 a3
 change Calls Tryz.prog 41 #[.agg #[.int .i64 7,.string ⟨x.toArray⟩,.int .i64 m,.int .i64 p,.slice (some ⟨g,o,none⟩) 4 c]] w _
 have b7 : (0 : Int) < (us.length : Int) := by omega
 have HK := zb hk; clear hk
 go_enter Tryz.func41,Tryz.ntmps41
 go_wp2_with fail; go_at_call 67; refine ((a5 _)).mono ?_; rintro e v1 ⟨rfl,M⟩; have GV := za gan M; have BV := B0.kept (za grn M); obtain ⟨a6,a7,a8,a9,b1⟩ := id BV; obtain ⟨p0,p1,p2,p3,p4⟩ := M0.kept GV; obtain ⟨r0,r1,r2,r3,r4⟩ := M1.kept GV; clear M; go_wp2_with fail
 go_loopw [3,5] (fun sv iv wr => ∃ (i : Nat) (Y : Bs),i <= us.length /\ iv = .int .i64 ↑i /\ sv = .string ⟨Y.toArray⟩ /\ Hid (Y = [80,82,79,67,69,68,85,82,69,32] ++ A ++ [40] ++ zE [59,32] ((us.map zR).take i)) /\ Hid (w.grownBy wr none) /\ Hid (Box wr w.heap.size (.mk 7 x m p [.mk 1 [] 0 q us,rs,vs,bs]) (.slice (some ⟨g,o,none⟩) 4 c))) (fun _ iv _ => us.length - (intOf iv).toNat)
 case atStart => exact ⟨0,[80,82,79,67,69,68,85,82,69,32] ++ A ++ [40],Nat.zero_le _,rfl,zY (by repeat rw [zC]),by show _ = _; simp [zE],GV,BV⟩
 case round =>
  clear a6 a7 a8 a9 b1 p0 p1 p2 p3 p4 r0 r1 r2 r3 r4; obtain ⟨i,Y,_,rfl,rfl,O,b,F⟩ := hrel; obtain ⟨b0,_,_,_,_⟩ := id F; have bl := zc b0
  have hY : Y.length <= 5000000 := by
   rw [O.out]; have := vM [59,32] (us.map zR) i; simp only [la,lc,ln]
   omega
  by_cases b2 : i < us.length
  ·obtain ⟨t,ht⟩ : ∃ t,us[i]? = some t := ⟨_,List.getElem?_eq_getElem b2⟩
   have G := List.mem_of_getElem? ht; obtain ⟨y,n,q1,z,rfl,_,_,U⟩ := id HK t G; obtain ⟨H,I,_,L,n5,ft,aT⟩ := A0.node i _ ht; cases L; obtain ⟨J,K,c2,z',sz,rfl,b8,b9,V,m5,fz,az⟩ := aT.one rfl
   obtain rfl : z = z' := by simpa [T.subs] using V
   have f := n5.kept b; have l := m5.kept b; have AZ := zb az; have HZ := zb U
   have X : (us.map zR)[i]? = some (zR (.mk 8 y n q1 [z])) := by rw [List.getElem?_map,ht]; rfl
   have HT := zb (vt [59,32] (us.map zR) i _ X)
   have r : Hid (zR (.mk 8 y n q1 [z]) = (if n = 1 then [86,65,82,32] else []) ++ (y ++ ([58,32] ++ zz z))) := rfl
   generalize zz z = N at *
   have c3 := zc f.c0; have c5 := zc l.c0; cases f.q
   clear ht X G ft aT V fz az m5 n5 U
   by_cases h0 : 0 < i
   ·have b3 : (0 : Int) < (i : Int) := by omega
    by_cases h1 : n = 1
    ·have Q : (n == 1) = true := by rw [h1]; rfl
     have h := zb h1; clear h1
     go_wp2_with fail; refine wp_region_held_drew (S := (fun w' => w'.cell? ⟨H,I + i * 5 + 1,none⟩ = some (.string ⟨y.toArray⟩) /\ w'.cell? ⟨H,I + i * 5 + 4,none⟩ = some (.slice (some ⟨J,K,none⟩) 1 c2) /\ Node5 w' J K z sz)) (by kernel_rfl) ?_ (fun hHeld => ?_)
     ·exact ⟨zg (ze grn) f.c1,zg (ze grn) f.c4,l.kept (ze grn)⟩
     refine tQ 0 ?_; refine tQ 1 ?_; refine tQ 2 ?_; refine tQ 3 ?_; refine tQ 4 ?_; refine tQ 5 ?_; refine tQ 6 ?_; refine tQ 7 ?_; refine tQ 8 ?_; refine tQ 9 ?_; refine tQ 10 ?_; refine tQ 11 ?_; refine tQ 12 ?_; refine tQ 13 ?_; refine tQ 14 ?_; refine rd 15 rfl fun KK hKK => ?_
     go_simp
     go_at_call 70; refine (HZ _ _ (ze b) (AZ.kept (ze b))).mono ?_; rintro e w1 ⟨rfl,a⟩; have j := za (ze b) a; have k := F.kept (za (ze grn) a); have d := za (ze grn) a; clear a
     go_simp
     refine hKK _ _ ⟨zg d f.c1,zg d f.c4,l.kept d⟩ fun hHeld => ?_
     clear hKK KK; refine tQ 16 ?_; refine tQ 17 ?_; refine wpAnyH_done (by kernel_rfl) ?_ _; clear hHeld; go_wp2_with fail; refine ⟨⟨i + 1,Y ++ [59,32] ++ [86,65,82,32] ++ y ++ [58,32] ++ N,by omega,by go_num,zY (by repeat rw [zC]),?_,j,k⟩,by simp [intOf]; omega⟩
     show _ = _
     rw [HT.out,r.out,O.out,if_neg (show ¬ i = 0 by omega),if_pos h.out]; simp only [List.append_assoc]
    ·have Q : (n == 1) = false := bn h1
     have h := zb h1; clear h1
     go_wp2_with fail; refine wp_region_held_drew (S := (fun w' => w'.cell? ⟨H,I + i * 5 + 1,none⟩ = some (.string ⟨y.toArray⟩) /\ w'.cell? ⟨H,I + i * 5 + 4,none⟩ = some (.slice (some ⟨J,K,none⟩) 1 c2) /\ Node5 w' J K z sz)) (by kernel_rfl) ?_ (fun hHeld => ?_)
     ·exact ⟨zg (ze grn) f.c1,zg (ze grn) f.c4,l.kept (ze grn)⟩
     refine tQ 0 ?_; refine tQ 1 ?_; refine tQ 2 ?_; refine tQ 3 ?_; refine tQ 4 ?_; refine tQ 5 ?_; refine tQ 6 ?_; refine tQ 7 ?_; refine tQ 8 ?_; refine tQ 9 ?_; refine tQ 10 ?_; refine tQ 11 ?_; refine tQ 12 ?_; refine tQ 13 ?_; refine tQ 14 ?_; refine rd 15 rfl fun KK hKK => ?_
     go_simp
     go_at_call 70; refine (HZ _ _ (ze b) (AZ.kept (ze b))).mono ?_; rintro e w1 ⟨rfl,a⟩; have j := za (ze b) a; have k := F.kept (za (ze grn) a); have d := za (ze grn) a; clear a
     go_simp
     refine hKK _ _ ⟨zg d f.c1,zg d f.c4,l.kept d⟩ fun hHeld => ?_
     clear hKK KK; refine tQ 16 ?_; refine tQ 17 ?_; refine wpAnyH_done (by kernel_rfl) ?_ _; clear hHeld; go_wp2_with fail; refine ⟨⟨i + 1,Y ++ [59,32] ++ y ++ [58,32] ++ N,by omega,by go_num,zY (by repeat rw [zC]),?_,j,k⟩,by simp [intOf]; omega⟩
     show _ = _
     rw [HT.out,r.out,O.out,if_neg (show ¬ i = 0 by omega),if_neg h.out]; simp only [List.append_assoc,List.nil_append]
   ·have b3 : ¬ (0 : Int) < (i : Int) := by omega
    by_cases h1 : n = 1
    ·have Q : (n == 1) = true := by rw [h1]; rfl
     have h := zb h1; clear h1
     go_wp2_with fail; refine wp_region_held_drew (S := (fun w' => w'.cell? ⟨H,I + i * 5 + 1,none⟩ = some (.string ⟨y.toArray⟩) /\ w'.cell? ⟨H,I + i * 5 + 4,none⟩ = some (.slice (some ⟨J,K,none⟩) 1 c2) /\ Node5 w' J K z sz)) (by kernel_rfl) ?_ (fun hHeld => ?_)
     ·exact ⟨zg (ze grn) f.c1,zg (ze grn) f.c4,l.kept (ze grn)⟩
     refine tQ 0 ?_; refine tQ 1 ?_; refine tQ 2 ?_; refine tQ 3 ?_; refine tQ 4 ?_; refine tQ 5 ?_; refine tQ 6 ?_; refine tQ 7 ?_; refine tQ 8 ?_; refine tQ 9 ?_; refine tQ 10 ?_; refine tQ 11 ?_
     refine tQ 12 ?_; refine tQ 13 ?_; refine tQ 14 ?_; refine rd 15 rfl fun KK hKK => ?_
     go_simp
     go_at_call 70; refine (HZ _ _ (ze b) (AZ.kept (ze b))).mono ?_; rintro e w1 ⟨rfl,a⟩; have j := za (ze b) a; have k := F.kept (za (ze grn) a); have d := za (ze grn) a; clear a
     go_simp
     refine hKK _ _ ⟨zg d f.c1,zg d f.c4,l.kept d⟩ fun hHeld => ?_
     clear hKK KK; refine tQ 16 ?_; refine tQ 17 ?_; refine wpAnyH_done (by kernel_rfl) ?_ _; clear hHeld; go_wp2_with fail; refine ⟨⟨i + 1,Y ++ [86,65,82,32] ++ y ++ [58,32] ++ N,by omega,by go_num,zY (by repeat rw [zC]),?_,j,k⟩,by simp [intOf]; omega⟩
     show _ = _
     rw [HT.out,r.out,O.out,if_pos (show i = 0 by omega),if_pos h.out]; simp only [List.append_assoc,List.nil_append]
    ·have Q : (n == 1) = false := bn h1
     have h := zb h1; clear h1
     go_wp2_with fail; refine wp_region_held_drew (S := (fun w' => w'.cell? ⟨H,I + i * 5 + 1,none⟩ = some (.string ⟨y.toArray⟩) /\ w'.cell? ⟨H,I + i * 5 + 4,none⟩ = some (.slice (some ⟨J,K,none⟩) 1 c2) /\ Node5 w' J K z sz)) (by kernel_rfl) ?_ (fun hHeld => ?_)
     ·exact ⟨zg (ze grn) f.c1,zg (ze grn) f.c4,l.kept (ze grn)⟩
     refine tQ 0 ?_; refine tQ 1 ?_; refine tQ 2 ?_; refine tQ 3 ?_; refine tQ 4 ?_; refine tQ 5 ?_; refine tQ 6 ?_; refine tQ 7 ?_; refine tQ 8 ?_; refine tQ 9 ?_; refine tQ 10 ?_; refine tQ 11 ?_; refine tQ 12 ?_; refine tQ 13 ?_; refine tQ 14 ?_; refine rd 15 rfl fun KK hKK => ?_
     go_simp
     go_at_call 70; refine (HZ _ _ (ze b) (AZ.kept (ze b))).mono ?_; rintro e w1 ⟨rfl,a⟩; have j := za (ze b) a; have k := F.kept (za (ze grn) a); have d := za (ze grn) a; clear a
     go_simp
     refine hKK _ _ ⟨zg d f.c1,zg d f.c4,l.kept d⟩ fun hHeld => ?_
     clear hKK KK; refine tQ 16 ?_; refine tQ 17 ?_; refine wpAnyH_done (by kernel_rfl) ?_ _; clear hHeld; go_wp2_with fail; refine ⟨⟨i + 1,Y ++ y ++ [58,32] ++ N,by omega,by go_num,zY (by repeat rw [zC]),?_,j,k⟩,by simp [intOf]; omega⟩
     show _ = _
     rw [HT.out,r.out,O.out,if_pos (show i = 0 by omega),if_neg h.out]; simp only [List.append_assoc,List.nil_append]
  ·have HX : Hid (Y = [80,82,79,67,69,68,85,82,69,32] ++ A ++ [40] ++ zE [59,32] (us.map zR)) := by
    have := O; rw [List.take_of_length_le (by simp; omega)] at this
    exact this
   clear O; obtain ⟨r0,r1,r2,r3,r4⟩ := M1.kept b; have N2 := M2.kept b; have N3 := M3.kept b
   go_wp2_with fail; refine wp_region_held_drew (S := (fun w' => w'.cell? ⟨w.heap.size,4,none⟩ = some (.slice (some ⟨g,o,none⟩) 4 c) /\ w'.cell? ⟨w.heap.size,1,none⟩ = some (.string ⟨x.toArray⟩) /\ w'.cell? ⟨g,o + 14,none⟩ = some s2 /\ Node5 w' g (o + 15) bs s3)) (by kernel_rfl) ?_ (fun hHeld => ?_)
   ·exact ⟨zg (ze grn) F.c4,zg (ze grn) F.c1,zg (ze grn) N2.c4,N3.kept (ze grn)⟩
   refine tQ 0 ?_; refine tQ 1 ?_; refine tQ 2 ?_; refine tQ 3 ?_; refine tQ 4 ?_; refine tQ 5 ?_; refine tQ 6 ?_; refine tQ 10 ?_; refine tQ 11 ?_; refine tQ 12 ?_; refine tQ 13 ?_; refine tQ 17 ?_; refine tQ 18 ?_; refine rd 7 rfl fun KK hKK => ?_
   go_simp
   go_at_call 40; refine (HD _ _ (ze b) (A2.kept (ze b))).mono ?_; rintro e w1 ⟨rfl,a⟩; have j := za (ze b) a; have k := F.kept (za (ze grn) a); have d := za (ze grn) a; clear a
   go_simp
   refine hKK _ _ ⟨k.c4,k.c1,zg d N2.c4,N3.kept d⟩ fun hHeld => ?_
   clear hKK KK; refine tQ 8 ?_; refine tQ 9 ?_; refine rd 14 rfl fun KK hKK => ?_
   go_simp
   go_at_call 42; refine (HB _ _ j (A3.kept j)).mono ?_; rintro e w2 ⟨rfl,C⟩; have G2 := za j C; have B2 := k.kept (za grn C); have R2 := za d C; clear C
   go_simp
   refine hKK _ _ ⟨B2.c4,B2.c1,zg R2 N2.c4,N3.kept R2⟩ fun hHeld => ?_
   clear hKK KK; refine tQ 15 ?_; refine tQ 16 ?_; refine tQ 19 ?_; refine tQ 20 ?_; refine tQ 21 ?_; refine wpAnyH_done (by kernel_rfl) ?_ _; clear hHeld; go_wp2_with fail
   go_ret
   refine ⟨(show Ending.returned (.string (((((((((⟨List.toArray Y⟩ : ByteArray) ++ (⟨List.toArray [41]⟩ : ByteArray)) ++ (⟨List.toArray [59,10]⟩ : ByteArray)) ++ (⟨List.toArray D⟩ : ByteArray)) ++ (⟨List.toArray [66,69,71,73,78,10]⟩ : ByteArray)) ++ (⟨List.toArray B⟩ : ByteArray)) ++ (⟨List.toArray [69,78,68,32]⟩ : ByteArray)) ++ (⟨List.toArray x⟩ : ByteArray)) ++ (⟨List.toArray [59,10]⟩ : ByteArray))) = _ from zU ?_),G2⟩
   repeat rw [zC]
   rw [HX.out]; simp only [List.append_assoc]
   try rfl
theorem cV (x : Bs) (m p q : Int) (us : List T) (rs vs bs : T) (sv : Value) (w : World) (ha : AT w (T.mk 7 x m p [.mk 1 [] 0 q us,rs,vs,bs]).subs sv) (hx : x.length <= 12) (D B : Bs) (lD : D.length <= 4000000) (hD : ∀ w' sl,w.grownBy w' none -> AT w' vs.subs sl -> Calls Tryz.prog 40 #[.string ⟨List.toArray [86,65,82]⟩,sl] w' (Sy w' (.string ⟨D.toArray⟩))) (hB : STx w bs [32,32] B) (hus : 0 < us.length) (hr : (rs.kind != 0) = true) (R : Bs) (hR : NTx w rs R) (hk : ∀ t ∈ us,∃ y n q z,t = .mk 8 y n q [z] /\ y.length <= 12 /\ NTx w z (zz z)) (hlen : (zE [59,32] (us.map zR)).length <= 4000000) :
  Calls Tryz.prog 41 #[.agg #[.int .i64 7,.string ⟨x.toArray⟩,.int .i64 m,.int .i64 p,sv]] w (Sy w (.string ⟨([80,82,79,67,69,68,85,82,69,32] ++ (zv (.mk 7 x m p [.mk 1 [] 0 q us,rs,vs,bs]) ++ ([40] ++ (zE [59,32] (us.map zR) ++ ([41] ++ ([58,32] ++ (R ++ ([59,10] ++ (D ++ ([66,69,71,73,78,10] ++ (B ++ ([69,78,68,32] ++ (x ++ [59,10]))))))))))))).toArray⟩)) := by
 have HD := zb hD; obtain ⟨_,V⟩ := hB; have HB := zb V; obtain ⟨_,c,rfl,hn,E⟩ := ha.form
 have b6 : c <= 9223372036854775807 := by unfold maxLen at E; omega
 have b7 : 4 <= c := hn; obtain ⟨g,o,s0,e0,n0,-,a0⟩ := ha.node 0 _ rfl; subst e0; obtain ⟨g',o',s1,K,n1,-,a1⟩ := ha.node 1 _ rfl; cases K; obtain ⟨g',o',s2,K,n2,-,a2⟩ := ha.node 2 _ rfl; cases K; obtain ⟨g',o',s3,K,n3,-,a3⟩ := ha.node 3 _ rfl; cases K; have M0 : Hid (Node5 w g o (.mk 1 [] 0 q us) s0) := n0; have M1 : Hid (Node5 w g (o + 5) rs s1) := n1; have M2 : Hid (Node5 w g (o + 10) vs s2) := n2; have M3 : Hid (Node5 w g (o + 15) bs s3) := n3; have A1 := zb a1; have A2 := zb a2; have A3 := zb a3; have b8 : g < w.heap.size := zc n0.c0
 change AT w us s0 at a0
 have A0 := zb a0; obtain ⟨_,sc,rfl,_,a6⟩ := a0.form
 unfold maxLen at a6
 have B0 : Hid (Box (w.alloc (.cells #[.int .i64 7,.string ⟨x.toArray⟩,.int .i64 m,.int .i64 p,.slice (some ⟨g,o,none⟩) 4 c] 24)) w.heap.size (.mk 7 x m p [.mk 1 [] 0 q us,rs,vs,bs]) (.slice (some ⟨g,o,none⟩) 4 c)) := Box.new w (.mk 7 x m p [.mk 1 [] 0 q us,rs,vs,bs]) (.slice (some ⟨g,o,none⟩) 4 c) 24
 have lA : (zv (.mk 7 x m p [.mk 1 [] 0 q us,rs,vs,bs])).length <= 13 := by unfold zv; split <;> simp [T.name] <;> omega
 have a7 : ∀ w',Hid (Calls Tryz.prog 67 #[.agg #[.int .i64 7,.string ⟨x.toArray⟩,.int .i64 m,.int .i64 p,.slice (some ⟨g,o,none⟩) 4 c]] w' (Sy w' (.string ⟨(zv (.mk 7 x m p [.mk 1 [] 0 q us,rs,vs,bs])).toArray⟩))) := fun w' => xl (.mk 7 x m p [.mk 1 [] 0 q us,rs,vs,bs]) (.slice (some ⟨g,o,none⟩) 4 c) w' hx ⟨_,_,_,rfl⟩
 generalize zv (.mk 7 x m p [.mk 1 [] 0 q us,rs,vs,bs]) = A at *
 clear ha hD V E hn n0 n1 n2 n3 a0 a1 a2 a3
 change Calls Tryz.prog 41 #[.agg #[.int .i64 7,.string ⟨x.toArray⟩,.int .i64 m,.int .i64 p,.slice (some ⟨g,o,none⟩) 4 c]] w _
 have b9 : (0 : Int) < (us.length : Int) := by omega
 obtain ⟨_,X⟩ := hR; have HR := zb X; clear X; have HK := zb hk; clear hk
 go_enter Tryz.func41,Tryz.ntmps41
 go_wp2_with fail; go_at_call 67; refine ((a7 _)).mono ?_; rintro e v1 ⟨rfl,L⟩; have GV := za gan L; have BV := B0.kept (za grn L); obtain ⟨a8,a9,b1,b2,b3⟩ := id BV; obtain ⟨p0,p1,p2,p3,p4⟩ := M0.kept GV; obtain ⟨r0,r1,r2,r3,r4⟩ := M1.kept GV; clear L; go_wp2_with fail
 go_loopw [3,5] (fun sv iv wr => ∃ (i : Nat) (Y : Bs),i <= us.length /\ iv = .int .i64 ↑i /\ sv = .string ⟨Y.toArray⟩ /\ Hid (Y = [80,82,79,67,69,68,85,82,69,32] ++ A ++ [40] ++ zE [59,32] ((us.map zR).take i)) /\ Hid (w.grownBy wr none) /\ Hid (Box wr w.heap.size (.mk 7 x m p [.mk 1 [] 0 q us,rs,vs,bs]) (.slice (some ⟨g,o,none⟩) 4 c))) (fun _ iv _ => us.length - (intOf iv).toNat)
 case atStart => exact ⟨0,[80,82,79,67,69,68,85,82,69,32] ++ A ++ [40],Nat.zero_le _,rfl,zY (by repeat rw [zC]),by show _ = _; simp [zE],GV,BV⟩
 case round =>
  clear a8 a9 b1 b2 b3 p0 p1 p2 p3 p4 r0 r1 r2 r3 r4; obtain ⟨i,Y,_,rfl,rfl,M,d,U⟩ := hrel; obtain ⟨b0,_,_,_,_⟩ := id U; have bl := zc b0
  have hY : Y.length <= 5000000 := by
   rw [M.out]; have := vM [59,32] (us.map zR) i; simp only [la,lc,ln]
   omega
  by_cases b4 : i < us.length
  ·obtain ⟨t,ht⟩ : ∃ t,us[i]? = some t := ⟨_,List.getElem?_eq_getElem b4⟩
   have F := List.mem_of_getElem? ht; obtain ⟨y,n,q1,z,rfl,_,_,Z⟩ := id HK t F; obtain ⟨G,H,_,K,n5,ft,aT⟩ := A0.node i _ ht; cases K; obtain ⟨I,J,c2,z',sz,rfl,c3,c5,a4,m5,fz,az⟩ := aT.one rfl
   obtain rfl : z = z' := by simpa [T.subs] using a4
   have f := n5.kept d; have l := m5.kept d; have AZ := zb az; have HZ := zb Z
   have a5 : (us.map zR)[i]? = some (zR (.mk 8 y n q1 [z])) := by rw [List.getElem?_map,ht]; rfl
   have HT := zb (vt [59,32] (us.map zR) i _ a5)
   have r : Hid (zR (.mk 8 y n q1 [z]) = (if n = 1 then [86,65,82,32] else []) ++ (y ++ ([58,32] ++ zz z))) := rfl
   generalize zz z = N at *
   have c6 := zc f.c0; have c7 := zc l.c0; cases f.q
   clear ht a5 F ft aT a4 fz az m5 n5 Z
   by_cases h0 : 0 < i
   ·have b5 : (0 : Int) < (i : Int) := by omega
    by_cases h1 : n = 1
    ·have O : (n == 1) = true := by rw [h1]; rfl
     have h := zb h1; clear h1
     go_wp2_with fail; refine wp_region_held_drew (S := (fun w' => w'.cell? ⟨G,H + i * 5 + 1,none⟩ = some (.string ⟨y.toArray⟩) /\ w'.cell? ⟨G,H + i * 5 + 4,none⟩ = some (.slice (some ⟨I,J,none⟩) 1 c2) /\ Node5 w' I J z sz)) (by kernel_rfl) ?_ (fun hHeld => ?_)
     ·exact ⟨zg (ze grn) f.c1,zg (ze grn) f.c4,l.kept (ze grn)⟩
     refine tQ 0 ?_; refine tQ 1 ?_; refine tQ 2 ?_; refine tQ 3 ?_; refine tQ 4 ?_; refine tQ 5 ?_; refine tQ 6 ?_; refine tQ 7 ?_; refine tQ 8 ?_; refine tQ 9 ?_; refine tQ 10 ?_; refine tQ 11 ?_; refine tQ 12 ?_; refine tQ 13 ?_; refine tQ 14 ?_; refine rd 15 rfl fun KK hKK => ?_
     go_simp
     go_at_call 70; refine (HZ _ _ (ze d) (AZ.kept (ze d))).mono ?_; rintro e w1 ⟨rfl,a⟩; have j := za (ze d) a; have k := U.kept (za (ze grn) a); have b := za (ze grn) a; clear a
     go_simp
     refine hKK _ _ ⟨zg b f.c1,zg b f.c4,l.kept b⟩ fun hHeld => ?_
     clear hKK KK; refine tQ 16 ?_; refine tQ 17 ?_; refine wpAnyH_done (by kernel_rfl) ?_ _; clear hHeld; go_wp2_with fail; refine ⟨⟨i + 1,Y ++ [59,32] ++ [86,65,82,32] ++ y ++ [58,32] ++ N,by omega,by go_num,zY (by repeat rw [zC]),?_,j,k⟩,by simp [intOf]; omega⟩
     show _ = _
     rw [HT.out,r.out,M.out,if_neg (show ¬ i = 0 by omega),if_pos h.out]; simp only [List.append_assoc]
    ·have O : (n == 1) = false := bn h1
     have h := zb h1; clear h1
     go_wp2_with fail; refine wp_region_held_drew (S := (fun w' => w'.cell? ⟨G,H + i * 5 + 1,none⟩ = some (.string ⟨y.toArray⟩) /\ w'.cell? ⟨G,H + i * 5 + 4,none⟩ = some (.slice (some ⟨I,J,none⟩) 1 c2) /\ Node5 w' I J z sz)) (by kernel_rfl) ?_ (fun hHeld => ?_)
     ·exact ⟨zg (ze grn) f.c1,zg (ze grn) f.c4,l.kept (ze grn)⟩
     refine tQ 0 ?_; refine tQ 1 ?_; refine tQ 2 ?_; refine tQ 3 ?_; refine tQ 4 ?_; refine tQ 5 ?_; refine tQ 6 ?_; refine tQ 7 ?_; refine tQ 8 ?_; refine tQ 9 ?_; refine tQ 10 ?_; refine tQ 11 ?_; refine tQ 12 ?_; refine tQ 13 ?_; refine tQ 14 ?_; refine rd 15 rfl fun KK hKK => ?_
     go_simp
     go_at_call 70; refine (HZ _ _ (ze d) (AZ.kept (ze d))).mono ?_; rintro e w1 ⟨rfl,a⟩; have j := za (ze d) a; have k := U.kept (za (ze grn) a); have b := za (ze grn) a; clear a
     go_simp
     refine hKK _ _ ⟨zg b f.c1,zg b f.c4,l.kept b⟩ fun hHeld => ?_
     clear hKK KK; refine tQ 16 ?_; refine tQ 17 ?_; refine wpAnyH_done (by kernel_rfl) ?_ _; clear hHeld; go_wp2_with fail; refine ⟨⟨i + 1,Y ++ [59,32] ++ y ++ [58,32] ++ N,by omega,by go_num,zY (by repeat rw [zC]),?_,j,k⟩,by simp [intOf]; omega⟩
     show _ = _
     rw [HT.out,r.out,M.out,if_neg (show ¬ i = 0 by omega),if_neg h.out]; simp only [List.append_assoc,List.nil_append]
   ·have b5 : ¬ (0 : Int) < (i : Int) := by omega
    by_cases h1 : n = 1
    ·have O : (n == 1) = true := by rw [h1]; rfl
     have h := zb h1; clear h1
     go_wp2_with fail; refine wp_region_held_drew (S := (fun w' => w'.cell? ⟨G,H + i * 5 + 1,none⟩ = some (.string ⟨y.toArray⟩) /\ w'.cell? ⟨G,H + i * 5 + 4,none⟩ = some (.slice (some ⟨I,J,none⟩) 1 c2) /\ Node5 w' I J z sz)) (by kernel_rfl) ?_ (fun hHeld => ?_)
     ·exact ⟨zg (ze grn) f.c1,zg (ze grn) f.c4,l.kept (ze grn)⟩
     refine tQ 0 ?_; refine tQ 1 ?_; refine tQ 2 ?_; refine tQ 3 ?_; refine tQ 4 ?_; refine tQ 5 ?_; refine tQ 6 ?_; refine tQ 7 ?_; refine tQ 8 ?_; refine tQ 9 ?_; refine tQ 10 ?_; refine tQ 11 ?_
     refine tQ 12 ?_; refine tQ 13 ?_; refine tQ 14 ?_; refine rd 15 rfl fun KK hKK => ?_
     go_simp
     go_at_call 70; refine (HZ _ _ (ze d) (AZ.kept (ze d))).mono ?_; rintro e w1 ⟨rfl,a⟩; have j := za (ze d) a; have k := U.kept (za (ze grn) a); have b := za (ze grn) a; clear a
     go_simp
     refine hKK _ _ ⟨zg b f.c1,zg b f.c4,l.kept b⟩ fun hHeld => ?_
     clear hKK KK; refine tQ 16 ?_; refine tQ 17 ?_; refine wpAnyH_done (by kernel_rfl) ?_ _; clear hHeld; go_wp2_with fail; refine ⟨⟨i + 1,Y ++ [86,65,82,32] ++ y ++ [58,32] ++ N,by omega,by go_num,zY (by repeat rw [zC]),?_,j,k⟩,by simp [intOf]; omega⟩
     show _ = _
     rw [HT.out,r.out,M.out,if_pos (show i = 0 by omega),if_pos h.out]; simp only [List.append_assoc,List.nil_append]
    ·have O : (n == 1) = false := bn h1
     have h := zb h1; clear h1
     go_wp2_with fail; refine wp_region_held_drew (S := (fun w' => w'.cell? ⟨G,H + i * 5 + 1,none⟩ = some (.string ⟨y.toArray⟩) /\ w'.cell? ⟨G,H + i * 5 + 4,none⟩ = some (.slice (some ⟨I,J,none⟩) 1 c2) /\ Node5 w' I J z sz)) (by kernel_rfl) ?_ (fun hHeld => ?_)
     ·exact ⟨zg (ze grn) f.c1,zg (ze grn) f.c4,l.kept (ze grn)⟩
     refine tQ 0 ?_; refine tQ 1 ?_; refine tQ 2 ?_; refine tQ 3 ?_; refine tQ 4 ?_; refine tQ 5 ?_; refine tQ 6 ?_; refine tQ 7 ?_; refine tQ 8 ?_; refine tQ 9 ?_; refine tQ 10 ?_; refine tQ 11 ?_; refine tQ 12 ?_; refine tQ 13 ?_; refine tQ 14 ?_; refine rd 15 rfl fun KK hKK => ?_
     go_simp
     go_at_call 70; refine (HZ _ _ (ze d) (AZ.kept (ze d))).mono ?_; rintro e w1 ⟨rfl,a⟩; have j := za (ze d) a; have k := U.kept (za (ze grn) a); have b := za (ze grn) a; clear a
     go_simp
     refine hKK _ _ ⟨zg b f.c1,zg b f.c4,l.kept b⟩ fun hHeld => ?_
     clear hKK KK; refine tQ 16 ?_; refine tQ 17 ?_; refine wpAnyH_done (by kernel_rfl) ?_ _; clear hHeld; go_wp2_with fail; refine ⟨⟨i + 1,Y ++ y ++ [58,32] ++ N,by omega,by go_num,zY (by repeat rw [zC]),?_,j,k⟩,by simp [intOf]; omega⟩
     show _ = _
     rw [HT.out,r.out,M.out,if_pos (show i = 0 by omega),if_neg h.out]; simp only [List.append_assoc,List.nil_append]
  ·have HX : Hid (Y = [80,82,79,67,69,68,85,82,69,32] ++ A ++ [40] ++ zE [59,32] (us.map zR)) := by
    have := M; rw [List.take_of_length_le (by simp; omega)] at this
    exact this
   clear M; obtain ⟨r0,r1,r2,r3,r4⟩ := M1.kept d
   go_wp2_with fail; go_at_call 70; refine (HR _ _ d (A1.kept d)).mono ?_; rintro e v2 ⟨rfl,Q⟩; have GW := za d Q; have BW := U.kept (za grn Q); obtain ⟨_,_,_,_,_⟩ := id BW; clear Q; have N2 := M2.kept GW; have N3 := M3.kept GW
   go_wp2_with fail; refine wp_region_held_drew (S := (fun w' => w'.cell? ⟨w.heap.size,4,none⟩ = some (.slice (some ⟨g,o,none⟩) 4 c) /\ w'.cell? ⟨w.heap.size,1,none⟩ = some (.string ⟨x.toArray⟩) /\ w'.cell? ⟨g,o + 14,none⟩ = some s2 /\ Node5 w' g (o + 15) bs s3)) (by kernel_rfl) ?_ (fun hHeld => ?_)
   ·exact ⟨zg (ze grn) BW.c4,zg (ze grn) BW.c1,zg (ze grn) N2.c4,N3.kept (ze grn)⟩
   refine tQ 0 ?_; refine tQ 1 ?_; refine tQ 2 ?_; refine tQ 3 ?_; refine tQ 4 ?_; refine tQ 5 ?_; refine tQ 6 ?_; refine tQ 10 ?_; refine tQ 11 ?_; refine tQ 12 ?_; refine tQ 13 ?_; refine tQ 17 ?_; refine tQ 18 ?_; refine rd 7 rfl fun KK hKK => ?_
   go_simp
   go_at_call 40; refine (HD _ _ (ze GW) (A2.kept (ze GW))).mono ?_; rintro e w1 ⟨rfl,a⟩; have j := za (ze GW) a; have k := BW.kept (za (ze grn) a); have b := za (ze grn) a; clear a
   go_simp
   refine hKK _ _ ⟨k.c4,k.c1,zg b N2.c4,N3.kept b⟩ fun hHeld => ?_
   clear hKK KK; refine tQ 8 ?_; refine tQ 9 ?_; refine rd 14 rfl fun KK hKK => ?_
   go_simp
   go_at_call 42; refine (HB _ _ j (A3.kept j)).mono ?_; rintro e w2 ⟨rfl,C⟩; have G2 := za j C; have B2 := k.kept (za grn C); have R2 := za b C; clear C
   go_simp
   refine hKK _ _ ⟨B2.c4,B2.c1,zg R2 N2.c4,N3.kept R2⟩ fun hHeld => ?_
   clear hKK KK; refine tQ 15 ?_; refine tQ 16 ?_; refine tQ 19 ?_; refine tQ 20 ?_; refine tQ 21 ?_; refine wpAnyH_done (by kernel_rfl) ?_ _; clear hHeld; go_wp2_with fail
   go_ret
   refine ⟨(show Ending.returned (.string (((((((((((⟨List.toArray Y⟩ : ByteArray) ++ (⟨List.toArray [41]⟩ : ByteArray)) ++ (⟨List.toArray [58,32]⟩ : ByteArray)) ++ (⟨List.toArray R⟩ : ByteArray)) ++ (⟨List.toArray [59,10]⟩ : ByteArray)) ++ (⟨List.toArray D⟩ : ByteArray)) ++ (⟨List.toArray [66,69,71,73,78,10]⟩ : ByteArray)) ++ (⟨List.toArray B⟩ : ByteArray)) ++ (⟨List.toArray [69,78,68,32]⟩ : ByteArray)) ++ (⟨List.toArray x⟩ : ByteArray)) ++ (⟨List.toArray [59,10]⟩ : ByteArray))) = _ from zU ?_),G2⟩
   repeat rw [zC]
   rw [HX.out]; simp only [List.append_assoc]
   try rfl
theorem cr (x : Bs) (m p q : Int) (us : List T) (rs vs bs : T) (sv : Value) (w : World) (ha : AT w (T.mk 7 x m p [.mk 1 [] 0 q us,rs,vs,bs]).subs sv) (hx : x.length <= 12) (D B : Bs) (lD : D.length <= 4000000) (hD : ∀ w' sl,w.grownBy w' none -> AT w' vs.subs sl -> Calls Tryz.prog 40 #[.string ⟨List.toArray [86,65,82]⟩,sl] w' (Sy w' (.string ⟨D.toArray⟩))) (hB : STx w bs [32,32] B) (hus : ¬ 0 < us.length) (hr : (rs.kind != 0) = true) (R : Bs) (hR : NTx w rs R) (hk : ∀ t ∈ us,∃ y n q z,t = .mk 8 y n q [z] /\ y.length <= 12 /\ NTx w z (zz z)) (hlen : (zE [59,32] (us.map zR)).length <= 4000000) :
  Calls Tryz.prog 41 #[.agg #[.int .i64 7,.string ⟨x.toArray⟩,.int .i64 m,.int .i64 p,sv]] w (Sy w (.string ⟨([80,82,79,67,69,68,85,82,69,32] ++ (zv (.mk 7 x m p [.mk 1 [] 0 q us,rs,vs,bs]) ++ ([40] ++ (zE [59,32] (us.map zR) ++ ([41] ++ ([58,32] ++ (R ++ ([59,10] ++ (D ++ ([66,69,71,73,78,10] ++ (B ++ ([69,78,68,32] ++ (x ++ [59,10]))))))))))))).toArray⟩)) := by
 have HD := zb hD; obtain ⟨_,j⟩ := hB; have HB := zb j; obtain ⟨_,c,rfl,X,d⟩ := ha.form
 have a4 : c <= 9223372036854775807 := by unfold maxLen at d; omega
 have a5 : 4 <= c := X; obtain ⟨g,o,Z,e0,C,-,s⟩ := ha.node 0 _ rfl; subst e0; obtain ⟨g',o',s1,k,n1,-,a1⟩ := ha.node 1 _ rfl; cases k; obtain ⟨g',o',s2,k,n2,-,a2⟩ := ha.node 2 _ rfl; cases k; obtain ⟨g',o',s3,k,n3,-,a3⟩ := ha.node 3 _ rfl; cases k; have M0 : Hid (Node5 w g o (.mk 1 [] 0 q us) Z) := C; have M1 : Hid (Node5 w g (o + 5) rs s1) := n1; have M2 : Hid (Node5 w g (o + 10) vs s2) := n2; have M3 : Hid (Node5 w g (o + 15) bs s3) := n3; have A1 := zb a1; have A2 := zb a2; have A3 := zb a3; have a6 : g < w.heap.size := zc C.c0
 change AT w us Z at s
 have A0 := zb s; obtain ⟨_,_,rfl,_,E⟩ := s.form
 unfold maxLen at E
 have B0 : Hid (Box (w.alloc (.cells #[.int .i64 7,.string ⟨x.toArray⟩,.int .i64 m,.int .i64 p,.slice (some ⟨g,o,none⟩) 4 c] 24)) w.heap.size (.mk 7 x m p [.mk 1 [] 0 q us,rs,vs,bs]) (.slice (some ⟨g,o,none⟩) 4 c)) := Box.new w (.mk 7 x m p [.mk 1 [] 0 q us,rs,vs,bs]) (.slice (some ⟨g,o,none⟩) 4 c) 24
 have lA : (zv (.mk 7 x m p [.mk 1 [] 0 q us,rs,vs,bs])).length <= 13 := by unfold zv; split <;> simp [T.name] <;> omega
 have F : ∀ w',Hid (Calls Tryz.prog 67 #[.agg #[.int .i64 7,.string ⟨x.toArray⟩,.int .i64 m,.int .i64 p,.slice (some ⟨g,o,none⟩) 4 c]] w' (Sy w' (.string ⟨(zv (.mk 7 x m p [.mk 1 [] 0 q us,rs,vs,bs])).toArray⟩))) := fun w' => xl (.mk 7 x m p [.mk 1 [] 0 q us,rs,vs,bs]) (.slice (some ⟨g,o,none⟩) 4 c) w' hx ⟨_,_,_,rfl⟩
 generalize zv (.mk 7 x m p [.mk 1 [] 0 q us,rs,vs,bs]) = A at *
 clear ha hD j d X C n1 n2 n3 s a1 a2 a3
 change Calls Tryz.prog 41 #[.agg #[.int .i64 7,.string ⟨x.toArray⟩,.int .i64 m,.int .i64 p,.slice (some ⟨g,o,none⟩) 4 c]] w _
 have a7 : ¬ (0 : Int) < (us.length : Int) := by omega
 obtain ⟨_,l⟩ := hR; have HR := zb l; clear l; have HK := zb hk; clear hk
 go_enter Tryz.func41,Tryz.ntmps41
 go_wp2_with fail; go_at_call 67; refine ((F _)).mono ?_; rintro e v1 ⟨rfl,f⟩; have G := za gan f; have BV := B0.kept (za grn f); obtain ⟨H,I,J,K,L⟩ := id BV; obtain ⟨p0,p1,p2,p3,p4⟩ := M0.kept G; obtain ⟨r0,r1,r2,r3,r4⟩ := M1.kept G; clear f; go_wp2_with fail
 go_loopw [3,5] (fun sv iv wr => ∃ (i : Nat) (Y : Bs),i <= us.length /\ iv = .int .i64 ↑i /\ sv = .string ⟨Y.toArray⟩ /\ Hid (Y = [80,82,79,67,69,68,85,82,69,32] ++ A ++ [40] ++ zE [59,32] ((us.map zR).take i)) /\ Hid (w.grownBy wr none) /\ Hid (Box wr w.heap.size (.mk 7 x m p [.mk 1 [] 0 q us,rs,vs,bs]) (.slice (some ⟨g,o,none⟩) 4 c))) (fun _ iv _ => us.length - (intOf iv).toNat)
 case atStart => exact ⟨0,[80,82,79,67,69,68,85,82,69,32] ++ A ++ [40],Nat.zero_le _,rfl,zY (by repeat rw [zC]),by show _ = _; simp [zE],G,BV⟩
 case round =>
  clear H I J K L p0 p1 p2 p3 p4 r0 r1 r2 r3 r4; obtain ⟨i,Y,_,rfl,rfl,M,u,BR⟩ := hrel; obtain ⟨b0,_,_,_,_⟩ := id BR; have bl := zc b0
  have hY : Y.length <= 5000000 := by
   rw [M.out]; have := vM [59,32] (us.map zR) i; simp only [la,lc,ln]
   omega
  by_cases a8 : i < us.length
  ·omega
  ·have HX : Hid (Y = [80,82,79,67,69,68,85,82,69,32] ++ A ++ [40] ++ zE [59,32] (us.map zR)) := by
    have := M; rw [List.take_of_length_le (by simp; omega)] at this
    exact this
   clear M; obtain ⟨r0,r1,r2,r3,r4⟩ := M1.kept u
   go_wp2_with fail; go_at_call 70; refine (HR _ _ u (A1.kept u)).mono ?_; rintro e v2 ⟨rfl,h⟩; have r := za u h; have v := BR.kept (za grn h); obtain ⟨_,_,_,_,_⟩ := id v; clear h; have N := M2.kept r; have O := M3.kept r
   go_wp2_with fail; refine wp_region_held_drew (S := (fun w' => w'.cell? ⟨w.heap.size,4,none⟩ = some (.slice (some ⟨g,o,none⟩) 4 c) /\ w'.cell? ⟨w.heap.size,1,none⟩ = some (.string ⟨x.toArray⟩) /\ w'.cell? ⟨g,o + 14,none⟩ = some s2 /\ Node5 w' g (o + 15) bs s3)) (by kernel_rfl) ?_ (fun hHeld => ?_)
   ·exact ⟨zg (ze grn) v.c4,zg (ze grn) v.c1,zg (ze grn) N.c4,O.kept (ze grn)⟩
   refine tQ 0 ?_; refine tQ 1 ?_; refine tQ 2 ?_; refine tQ 3 ?_; refine tQ 4 ?_; refine tQ 5 ?_; refine tQ 6 ?_; refine tQ 10 ?_; refine tQ 11 ?_; refine tQ 12 ?_; refine tQ 13 ?_; refine tQ 17 ?_; refine tQ 18 ?_; refine rd 7 rfl fun KK hKK => ?_
   go_simp
   go_at_call 40; refine (HD _ _ (ze r) (A2.kept (ze r))).mono ?_; rintro e w1 ⟨rfl,a⟩; have Q := za (ze r) a; have U := v.kept (za (ze grn) a); have V := za (ze grn) a; clear a
   go_simp
   refine hKK _ _ ⟨U.c4,U.c1,zg V N.c4,O.kept V⟩ fun hHeld => ?_
   clear hKK KK; refine tQ 8 ?_; refine tQ 9 ?_; refine rd 14 rfl fun KK hKK => ?_
   go_simp
   go_at_call 42; refine (HB _ _ Q (A3.kept Q)).mono ?_; rintro e w2 ⟨rfl,b⟩; have G2 := za Q b; have B2 := U.kept (za grn b); have R2 := za V b; clear b
   go_simp
   refine hKK _ _ ⟨B2.c4,B2.c1,zg R2 N.c4,O.kept R2⟩ fun hHeld => ?_
   clear hKK KK; refine tQ 15 ?_; refine tQ 16 ?_; refine tQ 19 ?_; refine tQ 20 ?_; refine tQ 21 ?_; refine wpAnyH_done (by kernel_rfl) ?_ _; clear hHeld; go_wp2_with fail
   go_ret
   refine ⟨(show Ending.returned (.string (((((((((((⟨List.toArray Y⟩ : ByteArray) ++ (⟨List.toArray [41]⟩ : ByteArray)) ++ (⟨List.toArray [58,32]⟩ : ByteArray)) ++ (⟨List.toArray R⟩ : ByteArray)) ++ (⟨List.toArray [59,10]⟩ : ByteArray)) ++ (⟨List.toArray D⟩ : ByteArray)) ++ (⟨List.toArray [66,69,71,73,78,10]⟩ : ByteArray)) ++ (⟨List.toArray B⟩ : ByteArray)) ++ (⟨List.toArray [69,78,68,32]⟩ : ByteArray)) ++ (⟨List.toArray x⟩ : ByteArray)) ++ (⟨List.toArray [59,10]⟩ : ByteArray))) = _ from zU ?_),G2⟩
   repeat rw [zC]
   rw [HX.out]; simp only [List.append_assoc]
   try rfl
structure Wds (w : World) (b : Nat) : Prop where
 c0 : w.cell? ⟨b,0,none⟩ = some (.string ⟨List.toArray [67,79,78,83,84]⟩)
 c1 : w.cell? ⟨b,1,none⟩ = some (.string ⟨List.toArray [84,89,80,69]⟩)
 c2 : w.cell? ⟨b,2,none⟩ = some (.string ⟨List.toArray [86,65,82]⟩)
theorem Wds.new (w : World) (ty : TypeId) : Wds (w.alloc (.cells #[.string ⟨#[67,79,78,83,84]⟩,.string ⟨#[84,89,80,69]⟩,.string ⟨#[86,65,82]⟩] ty)) w.heap.size :=
 ⟨by rw [World.cell?_alloc_at _ _ _ _ rfl]; rfl,by rw [World.cell?_alloc_at _ _ _ _ rfl]; rfl,by rw [World.cell?_alloc_at _ _ _ _ rfl]; rfl⟩
theorem Wds.kept {w w' : World} {b : Nat} (h : Wds w b) (hg : w.grownBy w' none) : Wds w' b := ⟨zg hg h.c0,zg hg h.c1,zg hg h.c2⟩
theorem oL (x : Bs) (p q q5 : Int) (us l5 : List T) (cs ts vs bs : T) (sv : Value) (w : World) (ha : AT w (T.mk 2 x 0 p [.mk 1 [] 0 q us,cs,ts,vs,.mk 1 [] 0 q5 l5,bs]).subs sv) (hx : x.length <= 12) (C K V B : Bs) (lC : C.length <= 4000000) (lK : K.length <= 4000000) (lV : V.length <= 4000000) (hC : ∀ w' sl,w.grownBy w' none -> AT w' cs.subs sl -> Calls Tryz.prog 40 #[.string ⟨List.toArray [67,79,78,83,84]⟩,sl] w' (Sy w' (.string ⟨C.toArray⟩))) (hK : ∀ w' sl,w.grownBy w' none -> AT w' ts.subs sl -> Calls Tryz.prog 40 #[.string ⟨List.toArray [84,89,80,69]⟩,sl] w' (Sy w' (.string ⟨K.toArray⟩))) (hV : ∀ w' sl,w.grownBy w' none -> AT w' vs.subs sl -> Calls Tryz.prog 40 #[.string ⟨List.toArray [86,65,82]⟩,sl] w' (Sy w' (.string ⟨V.toArray⟩))) (hB : STx w bs [32,32] B) (tx : T -> Bs) (hP : ∀ t ∈ l5,(tx t).length <= 4000000 /\ ∀ w' st,w.grownBy w' none -> AT w' t.subs st -> Calls Tryz.prog 41 #[zq t st] w' (Sy w' (.string ⟨(tx t).toArray⟩))) (hlen5 : (zu tx l5).length <= 4000000) (E : Bs) (hE : E = if bs.subs.isEmpty then [] else [66,69,71,73,78,10] ++ B) (hus : 0 < us.length) (hk : ∀ t ∈ us,t.name.length <= 12) (hlen : (zE [44,32] (us.map T.name)).length <= 4000000) :
  Calls Tryz.prog 15 #[.agg #[.int .i64 2,.string ⟨x.toArray⟩,.int .i64 0,.int .i64 p,sv]] w (Sy w (.string ⟨([77,79,68,85,76,69,32] ++ x ++ [59,10] ++ [73,77,80,79,82,84,32] ++ zE [44,32] (us.map T.name) ++ [59,10] ++ C ++ K ++ V ++ zu tx l5 ++ E ++ [69,78,68,32] ++ x ++ [46,10]).toArray⟩)) := by
 have HC := zb hC; have HK := zb hK; have HV := zb hV; have HP := zb hP; have F := zb hE; clear hE; obtain ⟨_,G⟩ := hB; have HB := zb G; obtain ⟨_,c,rfl,hn,u⟩ := ha.form
 have c6 : c <= 9223372036854775807 := by unfold maxLen at u; omega
 have c7 : 6 <= c := hn; obtain ⟨g,o,s0,e0,n0,-,a0⟩ := ha.node 0 _ rfl; subst e0; obtain ⟨g',o',s1,k,n1,-,a1⟩ := ha.node 1 _ rfl; cases k; obtain ⟨g',o',s2,k,n2,-,a2⟩ := ha.node 2 _ rfl; cases k; obtain ⟨g',o',s3,k,n3,-,a3⟩ := ha.node 3 _ rfl; cases k; obtain ⟨g',o',s4,k,n4,-,a4⟩ := ha.node 4 _ rfl; cases k; obtain ⟨g',o',s5,k,v,-,a5⟩ := ha.node 5 _ rfl; cases k; have M0 : Hid (Node5 w g o (.mk 1 [] 0 q us) s0) := n0; have M1 : Hid (Node5 w g (o + 5) cs s1) := n1; have M2 : Hid (Node5 w g (o + 10) ts s2) := n2; have M3 : Hid (Node5 w g (o + 15) vs s3) := n3; have M4 : Hid (Node5 w g (o + 20) (.mk 1 [] 0 q5 l5) s4) := n4; have M5 : Hid (Node5 w g (o + 25) bs s5) := v; have A1 := zb a1; have A2 := zb a2; have A3 := zb a3; have A5 := zb a5; have c8 : g < w.heap.size := zc n0.c0
 change AT w us s0 at a0
 have A0 := zb a0; obtain ⟨_,_,rfl,_,a6⟩ := a0.form
 unfold maxLen at a6
 change AT w l5 s4 at a4
 have A4 := zb a4; obtain ⟨_,_,rfl,_,a7⟩ := a4.form
 unfold maxLen at a7
 obtain ⟨_,_,rfl,_,a8⟩ := a5.form
 unfold maxLen at a8
 have B0 : Hid (Box (w.alloc (.cells #[.int .i64 2,.string ⟨x.toArray⟩,.int .i64 0,.int .i64 p,.slice (some ⟨g,o,none⟩) 6 c] 24)) w.heap.size (.mk 2 x 0 p [.mk 1 [] 0 q us,cs,ts,vs,.mk 1 [] 0 q5 l5,bs]) (.slice (some ⟨g,o,none⟩) 6 c)) := Box.new w (.mk 2 x 0 p [.mk 1 [] 0 q us,cs,ts,vs,.mk 1 [] 0 q5 l5,bs]) (.slice (some ⟨g,o,none⟩) 6 c) 24; clear ha hC hK hV hP G u hn n0 n1 n2 n3 n4 v a0 a1 a2 a3 a4 a5; obtain ⟨p0,p1,p2,p3,p4⟩ := id M0
 change Calls Tryz.prog 15 #[.agg #[.int .i64 2,.string ⟨x.toArray⟩,.int .i64 0,.int .i64 p,.slice (some ⟨g,o,none⟩) 6 c]] w _
 go_enter Tryz.func15,Tryz.ntmps15
 go_wp2_with fail
 go_loopw [3,5] (fun sv iv wr => ∃ (i : Nat) (Y : Bs),i <= us.length /\ iv = .int .i64 ↑i /\ sv = .string ⟨Y.toArray⟩ /\ Hid (Y = [77,79,68,85,76,69,32] ++ x ++ [59,10] ++ (if i = 0 then [] else [73,77,80,79,82,84,32] ++ zE [44,32] ((us.map T.name).take i))) /\ Hid (w.grownBy wr none) /\ Hid (Box wr w.heap.size (.mk 2 x 0 p [.mk 1 [] 0 q us,cs,ts,vs,.mk 1 [] 0 q5 l5,bs]) (.slice (some ⟨g,o,none⟩) 6 c))) (fun _ iv _ => us.length - (intOf iv).toNat)
 case atStart => exact ⟨0,[77,79,68,85,76,69,32] ++ x ++ [59,10],Nat.zero_le _,rfl,zY (by repeat rw [zC]),by show _ = _; simp,zf grn _,B0⟩
 case round =>
  clear p0 p1 p2 p3 p4; obtain ⟨wu,a9⟩ : ∃ z,z = wr := ⟨_,rfl⟩; subst a9; obtain ⟨i,Y,_,rfl,rfl,H,G0,BR⟩ := hrel; obtain ⟨D,b1,b2,b3,b4⟩ := id BR; have bl := zc D
  have hY : Y.length <= 5000000 := by
   rw [H.out]; have := vM [44,32] (us.map T.name) i
   split <;> simp only [la,lc,ln] <;> omega
  by_cases b5 : i < us.length
  ·obtain ⟨t,r⟩ : ∃ t,us[i]? = some t := ⟨_,List.getElem?_eq_getElem b5⟩
   have c5 := hk t (List.mem_of_getElem? r); obtain ⟨gg,oo,st,k,v,-,-⟩ := A0.node i _ r; cases k; obtain ⟨t0,t1,t2,t3,t4⟩ := v.kept G0
   have I : (us.map T.name)[i]? = some t.name := by rw [List.getElem?_map,r]; rfl
   have HT := zb (vt [44,32] (us.map T.name) i _ I); have J := zb H; clear r I v H
   rcases Nat.eq_zero_or_pos i with hz | hz
   ·have h0 : ((i : Int) == 0) = true := by rw [hz]; rfl
    have s := zb hz; clear hz; go_wp2_with fail; refine ⟨⟨i + 1,Y ++ [73,77,80,79,82,84,32] ++ t.name,by omega,by go_num,zY (by repeat rw [zC]),?_,G0,BR⟩,by simp [intOf]; omega⟩
    show _ = _
    rw [HT.out,J.out,if_pos s.out,if_pos s.out,if_neg (by omega),s.out]
    simp [zE]
   ·have h0 : ((i : Int) == 0) = false := bn (by omega)
    go_wp2_with fail; refine ⟨⟨i + 1,Y ++ [44,32] ++ t.name,by omega,by go_num,zY (by repeat rw [zC]),?_,G0,BR⟩,by simp [intOf]; omega⟩
    show _ = _
    rw [HT.out,J.out,if_neg (show ¬ i = 0 by omega),if_neg (show ¬ i = 0 by omega),if_neg (show ¬ i + 1 = 0 by omega)]; simp only [List.append_assoc]
  ·have HX : Hid (Y = [77,79,68,85,76,69,32] ++ x ++ [59,10] ++ [73,77,80,79,82,84,32] ++ zE [44,32] (us.map T.name)) := by
    have := H; rw [List.take_of_length_le (by simp; omega),if_neg (by omega)] at this
    show _ = _
    rw [this]; simp only [List.append_assoc]
   have c9 : (0 : Int) < (us.length : Int) := by omega
   clear H; go_wp2_with fail
   go_loopw [3,7] (fun sv iv wx => ∃ (Z : Bs),sv = .string ⟨Z.toArray⟩ /\ Hid ((iv = .int .i64 0 /\ Z = Y ++ [59,10]) \/ (iv = .int .i64 1 /\ Z = Y ++ [59,10] ++ C) \/ (iv = .int .i64 2 /\ Z = Y ++ [59,10] ++ C ++ K) \/ (iv = .int .i64 3 /\ Z = Y ++ [59,10] ++ C ++ K ++ V)) /\ Hid (w.grownBy wx none) /\ Hid (Box wx w.heap.size (.mk 2 x 0 p [.mk 1 [] 0 q us,cs,ts,vs,.mk 1 [] 0 q5 l5,bs]) (.slice (some ⟨g,o,none⟩) 6 c)) /\ Hid (Wds wx wu.heap.size)) (fun _ iv _ => 3 - (intOf iv).toNat)
   case atStart => exact ⟨Y ++ [59,10],zY (by repeat rw [zC]),Or.inl ⟨rfl,rfl⟩,zf G0 _,BR.kept gan,Wds.new _ _⟩
   case round =>
    clear D b1 b2 b3 b4; obtain ⟨wx,b6⟩ : ∃ z,z = wr := ⟨_,rfl⟩; subst b6; obtain ⟨Z,rfl,s,h,y,m⟩ := hrel; obtain ⟨D,b1,b2,b3,b4⟩ := id y; obtain ⟨d0,d1,d2⟩ := id m; have d3 := zc D; have d4 := zc d0
    rcases id s with ⟨rfl,d⟩ | ⟨rfl,d⟩ | ⟨rfl,d⟩ | ⟨rfl,d⟩
    ·have lZ : Z.length <= 30000000 := by rw [d]; (try simp only [la,lc,ln]); omega
     have b := zb d; clear d s
     have L : IntKind.i64.wrap 1 = 1 := by kernel_rfl
     have N1 := M1.kept h
     go_wp2_with fail; refine wp_region_held_drew (S := (fun w' => w'.cell? ⟨w.heap.size,4,none⟩ = some (.slice (some ⟨g,o,none⟩) 6 c) /\ w'.cell? ⟨wu.heap.size,0,none⟩ = some (.string ⟨List.toArray [67,79,78,83,84]⟩) /\ w'.cell? ⟨g,o + 9,none⟩ = some s1)) (by kernel_rfl) ?_ (fun hHeld => ?_)
     ·exact ⟨zg (ze grn) y.c4,zg (ze grn) m.c0,zg (ze grn) N1.c4⟩
     refine tQ 0 ?_; refine tQ 1 ?_; refine tQ 2 ?_; refine tQ 3 ?_; refine tQ 4 ?_; refine tQ 5 ?_; refine tQ 6 ?_; refine tQ 7 ?_; refine tQ 8 ?_; refine tQ 9 ?_; refine tQ 10 ?_; refine tQ 11 ?_; refine rd 12 rfl fun KK hKK => ?_
     go_simp
     go_at_call 40; refine (HC _ _ (ze h) (A1.kept (ze h))).mono ?_; rintro e w1 ⟨rfl,a⟩; have N := za (ze h) a; have A := y.kept (za (ze grn) a); have l := za (ze grn) a; clear a
     go_simp
     refine hKK _ _ ⟨A.c4,zg l m.c0,zg l N1.c4⟩ fun hHeld => ?_
     clear hKK KK; refine tQ 13 ?_; refine tQ 14 ?_; refine wpAnyH_done (by kernel_rfl) ?_ _; clear hHeld; go_wp2_with fail; refine ⟨⟨Z ++ C,zY (by repeat rw [zC]),Or.inr (Or.inl ⟨rfl,?_⟩),N,A,m.kept l⟩,by simp [intOf]⟩; rw [b.out]
    ·have lZ : Z.length <= 30000000 := by rw [d]; (try simp only [la,lc,ln]); omega
     have b := zb d; clear d s
     have L : IntKind.i64.wrap 2 = 2 := by kernel_rfl
     have N2 := M2.kept h
     go_wp2_with fail; refine wp_region_held_drew (S := (fun w' => w'.cell? ⟨w.heap.size,4,none⟩ = some (.slice (some ⟨g,o,none⟩) 6 c) /\ w'.cell? ⟨wu.heap.size,1,none⟩ = some (.string ⟨List.toArray [84,89,80,69]⟩) /\ w'.cell? ⟨g,o + 14,none⟩ = some s2)) (by kernel_rfl) ?_ (fun hHeld => ?_)
     ·exact ⟨zg (ze grn) y.c4,zg (ze grn) m.c1,zg (ze grn) N2.c4⟩
     refine tQ 0 ?_; refine tQ 1 ?_; refine tQ 2 ?_; refine tQ 3 ?_; refine tQ 4 ?_; refine tQ 5 ?_; refine tQ 6 ?_; refine tQ 7 ?_; refine tQ 8 ?_; refine tQ 9 ?_; refine tQ 10 ?_; refine tQ 11 ?_; refine rd 12 rfl fun KK hKK => ?_
     go_simp
     go_at_call 40; refine (HK _ _ (ze h) (A2.kept (ze h))).mono ?_; rintro e w1 ⟨rfl,a⟩; have N := za (ze h) a; have A := y.kept (za (ze grn) a); have l := za (ze grn) a; clear a
     go_simp
     refine hKK _ _ ⟨A.c4,zg l m.c1,zg l N2.c4⟩ fun hHeld => ?_
     clear hKK KK; refine tQ 13 ?_; refine tQ 14 ?_; refine wpAnyH_done (by kernel_rfl) ?_ _; clear hHeld; go_wp2_with fail; refine ⟨⟨Z ++ K,zY (by repeat rw [zC]),Or.inr (Or.inr (Or.inl ⟨rfl,?_⟩)),N,A,m.kept l⟩,by simp [intOf]⟩; rw [b.out]
    ·have lZ : Z.length <= 30000000 := by rw [d]; (try simp only [la,lc,ln]); omega
     have b := zb d; clear d s
     have L : IntKind.i64.wrap 3 = 3 := by kernel_rfl
     have N3 := M3.kept h
     go_wp2_with fail; refine wp_region_held_drew (S := (fun w' => w'.cell? ⟨w.heap.size,4,none⟩ = some (.slice (some ⟨g,o,none⟩) 6 c) /\ w'.cell? ⟨wu.heap.size,2,none⟩ = some (.string ⟨List.toArray [86,65,82]⟩) /\ w'.cell? ⟨g,o + 19,none⟩ = some s3)) (by kernel_rfl) ?_ (fun hHeld => ?_)
     ·exact ⟨zg (ze grn) y.c4,zg (ze grn) m.c2,zg (ze grn) N3.c4⟩
     refine tQ 0 ?_; refine tQ 1 ?_; refine tQ 2 ?_; refine tQ 3 ?_; refine tQ 4 ?_; refine tQ 5 ?_; refine tQ 6 ?_; refine tQ 7 ?_; refine tQ 8 ?_; refine tQ 9 ?_; refine tQ 10 ?_; refine tQ 11 ?_; refine rd 12 rfl fun KK hKK => ?_
     go_simp
     go_at_call 40; refine (HV _ _ (ze h) (A3.kept (ze h))).mono ?_; rintro e w1 ⟨rfl,a⟩; have N := za (ze h) a; have A := y.kept (za (ze grn) a); have l := za (ze grn) a; clear a
     go_simp
     refine hKK _ _ ⟨A.c4,zg l m.c2,zg l N3.c4⟩ fun hHeld => ?_
     clear hKK KK; refine tQ 13 ?_; refine tQ 14 ?_; refine wpAnyH_done (by kernel_rfl) ?_ _; clear hHeld; go_wp2_with fail; refine ⟨⟨Z ++ V,zY (by repeat rw [zC]),Or.inr (Or.inr (Or.inr ⟨rfl,?_⟩)),N,A,m.kept l⟩,by simp [intOf]⟩; rw [b.out]
    ·have lZ : Z.length <= 30000000 := by rw [d]; (try simp only [la,lc,ln]); omega
     have b := zb d; clear d s d0 d1 d2; obtain ⟨p0,p1,p2,p3,p4⟩ := M4.kept h; go_wp2_with fail
     go_loopw [3,8] (fun sv iv wz => ∃ (j : Nat) (U : Bs),j <= l5.length /\ iv = .int .i64 ↑j /\ sv = .string ⟨U.toArray⟩ /\ Hid (U = Z ++ zu tx (l5.take j)) /\ Hid (w.grownBy wz none) /\ Hid (Box wz w.heap.size (.mk 2 x 0 p [.mk 1 [] 0 q us,cs,ts,vs,.mk 1 [] 0 q5 l5,bs]) (.slice (some ⟨g,o,none⟩) 6 c))) (fun _ iv _ => l5.length - (intOf iv).toNat)
     case atStart => exact ⟨0,Z,Nat.zero_le _,rfl,rfl,by show _ = _; simp [zu],h,y⟩
     case round =>
      clear D b1 b2 b3 b4 p0 p1 p2 p3 p4; obtain ⟨wz,b7⟩ : ∃ z,z = wr := ⟨_,rfl⟩; subst b7; obtain ⟨j,U,_,rfl,rfl,HU,n,BZ⟩ := hrel; obtain ⟨D,b1,b2,b3,b4⟩ := BZ.p
      obtain ⟨p0,p1,p2,p3,p4⟩ := M4.kept n; have d5 := zc D
      have hU : U.length <= 40000000 := by
       rw [HU.out]; have := ux tx l5 j; simp only [List.length_append]
       omega
      by_cases O : j < l5.length
      ·obtain ⟨t,r⟩ : ∃ t,l5[j]? = some t := ⟨_,List.getElem?_eq_getElem O⟩
       obtain ⟨_,Q⟩ := id HP t (List.mem_of_getElem? r); have b8 := zb Q; obtain ⟨gg,oo,st,k,v,-,R⟩ := A4.node j _ r; cases k; have b9 := zb R; have HF := zb (vv (tx := tx) r); obtain ⟨t0,t1,t2,t3,t4⟩ := v.kept n; clear r v R Q
       go_wp2_with fail; go_at_call 41; refine (b8 _ _ n (b9.kept n)).mono ?_; rintro e w9 ⟨rfl,f⟩; have G9 := za n f; have B9 := BZ.kept (za grn f); clear f; go_wp2_with fail; refine ⟨⟨j + 1,U ++ tx t,by omega,by go_num,zY (by repeat rw [zC]),?_,G9,B9⟩,by simp [intOf]; omega⟩
       show _ = _
       rw [HF.out,HU.out]; simp only [List.append_assoc]
      ·have X : Hid (U = Z ++ zu tx l5) := by
        have := HU; rw [List.take_of_length_le (by omega)] at this
        exact this
       clear HU; obtain ⟨_,_,_,_,_⟩ := M5.kept n
       rcases Nat.eq_zero_or_pos bs.subs.length with hb | hb
       ·have c3 : ¬ (0 : Int) < (bs.subs.length : Int) := by omega
        have HE : Hid (bs.subs.isEmpty = true) := by show _ = _; rw [List.isEmpty_iff]; exact List.eq_nil_of_length_eq_zero hb
        go_wp2_with fail
        go_ret
        refine ⟨zU ?_,n⟩; rw [show (⟨#[69,78,68,32]⟩ : ByteArray) = ⟨List.toArray [69,78,68,32]⟩ from rfl,show (⟨#[46,10]⟩ : ByteArray) = ⟨List.toArray [46,10]⟩ from rfl]
        repeat rw [zC]
        rw [X.out,b.out,HX.out,F.out,if_pos HE.out]; simp only [List.append_assoc,List.nil_append]
        rfl
       ·have c3 : (0 : Int) < (bs.subs.length : Int) := by omega
        have HE : Hid (¬ bs.subs.isEmpty = true) := by show ¬ _; rw [List.isEmpty_iff]; intro h9; rw [h9] at hb; simp at hb
        go_wp2_with fail; go_at_call 42; refine (HB _ _ n (A5.kept n)).mono ?_; rintro e w9 ⟨rfl,f⟩; have G9 := za n f; have B9 := BZ.kept (za grn f); cases B9.q
        clear f; go_wp2_with fail
        go_ret
        refine ⟨zU ?_,G9⟩; rw [show (⟨#[69,78,68,32]⟩ : ByteArray) = ⟨List.toArray [69,78,68,32]⟩ from rfl,show (⟨#[46,10]⟩ : ByteArray) = ⟨List.toArray [46,10]⟩ from rfl,show (⟨#[66,69,71,73,78,10]⟩ : ByteArray) = ⟨List.toArray [66,69,71,73,78,10]⟩ from rfl]
        repeat rw [zC]
        rw [X.out,b.out,HX.out,F.out,if_neg HE.out]; simp only [List.append_assoc]
        rfl
theorem oF (x : Bs) (p q q5 : Int) (us l5 : List T) (cs ts vs bs : T) (sv : Value) (w : World) (ha : AT w (T.mk 2 x 0 p [.mk 1 [] 0 q us,cs,ts,vs,.mk 1 [] 0 q5 l5,bs]).subs sv) (hx : x.length <= 12) (C K V B : Bs) (lC : C.length <= 4000000) (lK : K.length <= 4000000) (lV : V.length <= 4000000) (hC : ∀ w' sl,w.grownBy w' none -> AT w' cs.subs sl -> Calls Tryz.prog 40 #[.string ⟨List.toArray [67,79,78,83,84]⟩,sl] w' (Sy w' (.string ⟨C.toArray⟩))) (hK : ∀ w' sl,w.grownBy w' none -> AT w' ts.subs sl -> Calls Tryz.prog 40 #[.string ⟨List.toArray [84,89,80,69]⟩,sl] w' (Sy w' (.string ⟨K.toArray⟩))) (hV : ∀ w' sl,w.grownBy w' none -> AT w' vs.subs sl -> Calls Tryz.prog 40 #[.string ⟨List.toArray [86,65,82]⟩,sl] w' (Sy w' (.string ⟨V.toArray⟩))) (hB : STx w bs [32,32] B) (tx : T -> Bs) (hP : ∀ t ∈ l5,(tx t).length <= 4000000 /\ ∀ w' st,w.grownBy w' none -> AT w' t.subs st -> Calls Tryz.prog 41 #[zq t st] w' (Sy w' (.string ⟨(tx t).toArray⟩))) (hlen5 : (zu tx l5).length <= 4000000) (E : Bs) (hE : E = if bs.subs.isEmpty then [] else [66,69,71,73,78,10] ++ B) (hus : ¬ 0 < us.length) :
  Calls Tryz.prog 15 #[.agg #[.int .i64 2,.string ⟨x.toArray⟩,.int .i64 0,.int .i64 p,sv]] w (Sy w (.string ⟨([77,79,68,85,76,69,32] ++ x ++ [59,10] ++ C ++ K ++ V ++ zu tx l5 ++ E ++ [69,78,68,32] ++ x ++ [46,10]).toArray⟩)) := by
 have HC := zb hC; have HK := zb hK; have HV := zb hV; have HP := zb hP; have y := zb hE; clear hE; obtain ⟨_,A⟩ := hB; have HB := zb A; obtain ⟨_,c,rfl,hn,r⟩ := ha.form
 have c3 : c <= 9223372036854775807 := by unfold maxLen at r; omega
 have c5 : 6 <= c := hn; obtain ⟨g,o,s0,e0,n0,-,O⟩ := ha.node 0 _ rfl; subst e0; obtain ⟨Q,R,s1,k,n1,-,a1⟩ := ha.node 1 _ rfl; cases k; obtain ⟨Q,R,s2,k,n2,-,a2⟩ := ha.node 2 _ rfl; cases k; obtain ⟨Q,R,s3,k,n3,-,a3⟩ := ha.node 3 _ rfl; cases k; obtain ⟨Q,R,s4,k,n4,-,X⟩ := ha.node 4 _ rfl; cases k; obtain ⟨Q,R,s5,k,D,-,a5⟩ := ha.node 5 _ rfl; cases k; have M0 : Hid (Node5 w g o (.mk 1 [] 0 q us) s0) := n0; have M1 : Hid (Node5 w g (o + 5) cs s1) := n1; have M2 : Hid (Node5 w g (o + 10) ts s2) := n2; have M3 : Hid (Node5 w g (o + 15) vs s3) := n3; have M4 : Hid (Node5 w g (o + 20) (.mk 1 [] 0 q5 l5) s4) := n4; have M5 : Hid (Node5 w g (o + 25) bs s5) := D; have A1 := zb a1; have A2 := zb a2; have A3 := zb a3; have A5 := zb a5; have c6 : g < w.heap.size := zc n0.c0
 change AT w us s0 at O
 have A0 := zb O; obtain ⟨_,_,rfl,_,a6⟩ := O.form
 unfold maxLen at a6
 change AT w l5 s4 at X
 have A4 := zb X; obtain ⟨_,_,rfl,_,a7⟩ := X.form
 unfold maxLen at a7
 obtain ⟨_,_,rfl,_,a8⟩ := a5.form
 unfold maxLen at a8
 have B0 : Hid (Box (w.alloc (.cells #[.int .i64 2,.string ⟨x.toArray⟩,.int .i64 0,.int .i64 p,.slice (some ⟨g,o,none⟩) 6 c] 24)) w.heap.size (.mk 2 x 0 p [.mk 1 [] 0 q us,cs,ts,vs,.mk 1 [] 0 q5 l5,bs]) (.slice (some ⟨g,o,none⟩) 6 c)) := Box.new w (.mk 2 x 0 p [.mk 1 [] 0 q us,cs,ts,vs,.mk 1 [] 0 q5 l5,bs]) (.slice (some ⟨g,o,none⟩) 6 c) 24; clear ha hC hK hV hP A r hn n0 n1 n2 n3 n4 D O a1 a2 a3 X a5; obtain ⟨p0,p1,p2,p3,p4⟩ := id M0
 change Calls Tryz.prog 15 #[.agg #[.int .i64 2,.string ⟨x.toArray⟩,.int .i64 0,.int .i64 p,.slice (some ⟨g,o,none⟩) 6 c]] w _
 go_enter Tryz.func15,Tryz.ntmps15
 go_wp2_with fail
 go_loopw [3,5] (fun sv iv wr => ∃ (i : Nat) (Y : Bs),i <= us.length /\ iv = .int .i64 ↑i /\ sv = .string ⟨Y.toArray⟩ /\ Hid (Y = [77,79,68,85,76,69,32] ++ x ++ [59,10] ++ (if i = 0 then [] else [73,77,80,79,82,84,32] ++ zE [44,32] ((us.map T.name).take i))) /\ Hid (w.grownBy wr none) /\ Hid (Box wr w.heap.size (.mk 2 x 0 p [.mk 1 [] 0 q us,cs,ts,vs,.mk 1 [] 0 q5 l5,bs]) (.slice (some ⟨g,o,none⟩) 6 c))) (fun _ iv _ => us.length - (intOf iv).toNat)
 case atStart => exact ⟨0,[77,79,68,85,76,69,32] ++ x ++ [59,10],Nat.zero_le _,rfl,zY (by repeat rw [zC]),by show _ = _; simp,zf grn _,B0⟩
 case round =>
  clear p0 p1 p2 p3 p4; obtain ⟨wu,a9⟩ : ∃ z,z = wr := ⟨_,rfl⟩; subst a9; obtain ⟨i,Y,_,rfl,rfl,HY,G0,BR⟩ := hrel; obtain ⟨v,b1,b2,b3,b4⟩ := id BR; have bl := zc v
  by_cases c7 : i < us.length
  ·omega
  ·have HX : Hid (Y = [77,79,68,85,76,69,32] ++ x ++ [59,10]) := by
    have := HY; rw [if_pos (by omega),List.append_nil] at this
    exact this
   have hY : Y.length <= 5000000 := by
    rw [HX.out]; simp only [la,lc,ln]
    omega
   have c8 : ¬ (0 : Int) < (us.length : Int) := by omega
   clear HY; go_wp2_with fail
   go_loopw [3,7] (fun sv iv wx => ∃ (Z : Bs),sv = .string ⟨Z.toArray⟩ /\ Hid ((iv = .int .i64 0 /\ Z = Y) \/ (iv = .int .i64 1 /\ Z = Y ++ C) \/ (iv = .int .i64 2 /\ Z = Y ++ C ++ K) \/ (iv = .int .i64 3 /\ Z = Y ++ C ++ K ++ V)) /\ Hid (w.grownBy wx none) /\ Hid (Box wx w.heap.size (.mk 2 x 0 p [.mk 1 [] 0 q us,cs,ts,vs,.mk 1 [] 0 q5 l5,bs]) (.slice (some ⟨g,o,none⟩) 6 c)) /\ Hid (Wds wx wu.heap.size)) (fun _ iv _ => 3 - (intOf iv).toNat)
   case atStart => exact ⟨Y,rfl,Or.inl ⟨rfl,rfl⟩,zf G0 _,BR.kept gan,Wds.new _ _⟩
   case round =>
    clear v b1 b2 b3 b4; obtain ⟨wx,b5⟩ : ∃ z,z = wr := ⟨_,rfl⟩; subst b5; obtain ⟨Z,rfl,F,h,s,m⟩ := hrel; obtain ⟨v,b1,b2,b3,b4⟩ := id s; obtain ⟨d0,d1,d2⟩ := id m; have c9 := zc v; have d3 := zc d0
    rcases id F with ⟨rfl,d⟩ | ⟨rfl,d⟩ | ⟨rfl,d⟩ | ⟨rfl,d⟩
    ·have lZ : Z.length <= 30000000 := by rw [d]; (try simp only [la,lc,ln]); omega
     have b := zb d; clear d F
     have G : IntKind.i64.wrap 1 = 1 := by kernel_rfl
     have N1 := M1.kept h
     go_wp2_with fail; refine wp_region_held_drew (S := (fun w' => w'.cell? ⟨w.heap.size,4,none⟩ = some (.slice (some ⟨g,o,none⟩) 6 c) /\ w'.cell? ⟨wu.heap.size,0,none⟩ = some (.string ⟨List.toArray [67,79,78,83,84]⟩) /\ w'.cell? ⟨g,o + 9,none⟩ = some s1)) (by kernel_rfl) ?_ (fun hHeld => ?_)
     ·exact ⟨zg (ze grn) s.c4,zg (ze grn) m.c0,zg (ze grn) N1.c4⟩
     refine tQ 0 ?_; refine tQ 1 ?_; refine tQ 2 ?_; refine tQ 3 ?_; refine tQ 4 ?_; refine tQ 5 ?_; refine tQ 6 ?_; refine tQ 7 ?_; refine tQ 8 ?_; refine tQ 9 ?_; refine tQ 10 ?_; refine tQ 11 ?_; refine rd 12 rfl fun KK hKK => ?_
     go_simp
     go_at_call 40; refine (HC _ _ (ze h) (A1.kept (ze h))).mono ?_; rintro e w1 ⟨rfl,a⟩; have I := za (ze h) a; have u := s.kept (za (ze grn) a); have l := za (ze grn) a; clear a
     go_simp
     refine hKK _ _ ⟨u.c4,zg l m.c0,zg l N1.c4⟩ fun hHeld => ?_
     clear hKK KK; refine tQ 13 ?_; refine tQ 14 ?_; refine wpAnyH_done (by kernel_rfl) ?_ _; clear hHeld; go_wp2_with fail; refine ⟨⟨Z ++ C,zY (by repeat rw [zC]),Or.inr (Or.inl ⟨rfl,?_⟩),I,u,m.kept l⟩,by simp [intOf]⟩; rw [b.out]
    ·have lZ : Z.length <= 30000000 := by rw [d]; (try simp only [List.length_append]); omega
     have b := zb d; clear d F
     have G : IntKind.i64.wrap 2 = 2 := by kernel_rfl
     have N2 := M2.kept h
     go_wp2_with fail; refine wp_region_held_drew (S := (fun w' => w'.cell? ⟨w.heap.size,4,none⟩ = some (.slice (some ⟨g,o,none⟩) 6 c) /\ w'.cell? ⟨wu.heap.size,1,none⟩ = some (.string ⟨List.toArray [84,89,80,69]⟩) /\ w'.cell? ⟨g,o + 14,none⟩ = some s2)) (by kernel_rfl) ?_ (fun hHeld => ?_)
     ·exact ⟨zg (ze grn) s.c4,zg (ze grn) m.c1,zg (ze grn) N2.c4⟩
     refine tQ 0 ?_; refine tQ 1 ?_; refine tQ 2 ?_; refine tQ 3 ?_; refine tQ 4 ?_; refine tQ 5 ?_; refine tQ 6 ?_; refine tQ 7 ?_; refine tQ 8 ?_; refine tQ 9 ?_; refine tQ 10 ?_; refine tQ 11 ?_; refine rd 12 rfl fun KK hKK => ?_
     go_simp
     go_at_call 40; refine (HK _ _ (ze h) (A2.kept (ze h))).mono ?_; rintro e w1 ⟨rfl,a⟩; have I := za (ze h) a; have u := s.kept (za (ze grn) a); have l := za (ze grn) a; clear a
     go_simp
     refine hKK _ _ ⟨u.c4,zg l m.c1,zg l N2.c4⟩ fun hHeld => ?_
     clear hKK KK; refine tQ 13 ?_; refine tQ 14 ?_; refine wpAnyH_done (by kernel_rfl) ?_ _; clear hHeld; go_wp2_with fail; refine ⟨⟨Z ++ K,zY (by repeat rw [zC]),Or.inr (Or.inr (Or.inl ⟨rfl,?_⟩)),I,u,m.kept l⟩,by simp [intOf]⟩; rw [b.out]
    ·have lZ : Z.length <= 30000000 := by rw [d]; (try simp only [List.length_append]); omega
     have b := zb d; clear d F
     have G : IntKind.i64.wrap 3 = 3 := by kernel_rfl
     have N3 := M3.kept h
     go_wp2_with fail; refine wp_region_held_drew (S := (fun w' => w'.cell? ⟨w.heap.size,4,none⟩ = some (.slice (some ⟨g,o,none⟩) 6 c) /\ w'.cell? ⟨wu.heap.size,2,none⟩ = some (.string ⟨List.toArray [86,65,82]⟩) /\ w'.cell? ⟨g,o + 19,none⟩ = some s3)) (by kernel_rfl) ?_ (fun hHeld => ?_)
     ·exact ⟨zg (ze grn) s.c4,zg (ze grn) m.c2,zg (ze grn) N3.c4⟩
     refine tQ 0 ?_; refine tQ 1 ?_; refine tQ 2 ?_; refine tQ 3 ?_; refine tQ 4 ?_; refine tQ 5 ?_; refine tQ 6 ?_; refine tQ 7 ?_; refine tQ 8 ?_; refine tQ 9 ?_; refine tQ 10 ?_; refine tQ 11 ?_; refine rd 12 rfl fun KK hKK => ?_
     go_simp
     go_at_call 40; refine (HV _ _ (ze h) (A3.kept (ze h))).mono ?_; rintro e w1 ⟨rfl,a⟩; have I := za (ze h) a; have u := s.kept (za (ze grn) a); have l := za (ze grn) a; clear a
     go_simp
     refine hKK _ _ ⟨u.c4,zg l m.c2,zg l N3.c4⟩ fun hHeld => ?_
     clear hKK KK; refine tQ 13 ?_; refine tQ 14 ?_; refine wpAnyH_done (by kernel_rfl) ?_ _; clear hHeld; go_wp2_with fail; refine ⟨⟨Z ++ V,zY (by repeat rw [zC]),Or.inr (Or.inr (Or.inr ⟨rfl,?_⟩)),I,u,m.kept l⟩,by simp [intOf]⟩; rw [b.out]
    ·have lZ : Z.length <= 30000000 := by rw [d]; (try simp only [List.length_append]); omega
     have b := zb d; clear d F d0 d1 d2; obtain ⟨p0,p1,p2,p3,p4⟩ := M4.kept h; go_wp2_with fail
     go_loopw [3,8] (fun sv iv wz => ∃ (j : Nat) (U : Bs),j <= l5.length /\ iv = .int .i64 ↑j /\ sv = .string ⟨U.toArray⟩ /\ Hid (U = Z ++ zu tx (l5.take j)) /\ Hid (w.grownBy wz none) /\ Hid (Box wz w.heap.size (.mk 2 x 0 p [.mk 1 [] 0 q us,cs,ts,vs,.mk 1 [] 0 q5 l5,bs]) (.slice (some ⟨g,o,none⟩) 6 c))) (fun _ iv _ => l5.length - (intOf iv).toNat)
     case atStart => exact ⟨0,Z,Nat.zero_le _,rfl,rfl,by show _ = _; simp [zu],h,s⟩
     case round =>
      clear v b1 b2 b3 b4 p0 p1 p2 p3 p4; obtain ⟨wz,b6⟩ : ∃ z,z = wr := ⟨_,rfl⟩; subst b6; obtain ⟨j,U,_,rfl,rfl,HU,n,BZ⟩ := hrel; obtain ⟨v,b1,b2,b3,b4⟩ := BZ.p
      obtain ⟨p0,p1,p2,p3,p4⟩ := M4.kept n; have d4 := zc v
      have hU : U.length <= 40000000 := by
       rw [HU.out]; have := ux tx l5 j; simp only [List.length_append]
       omega
      by_cases J : j < l5.length
      ·obtain ⟨t,ht⟩ : ∃ t,l5[j]? = some t := ⟨_,List.getElem?_eq_getElem J⟩
       obtain ⟨_,L⟩ := id HP t (List.mem_of_getElem? ht); have b7 := zb L; obtain ⟨gg,oo,st,k,D,-,M⟩ := A4.node j _ ht; cases k; have b8 := zb M; have HF := zb (vv (tx := tx) ht); obtain ⟨_,_,_,_,_⟩ := D.kept n; clear ht D M L
       go_wp2_with fail; go_at_call 41; refine (b7 _ _ n (b8.kept n)).mono ?_; rintro e w9 ⟨rfl,f⟩; have G9 := za n f; have B9 := BZ.kept (za grn f); clear f; go_wp2_with fail; refine ⟨⟨j + 1,U ++ tx t,by omega,by go_num,zY (by repeat rw [zC]),?_,G9,B9⟩,by simp [intOf]; omega⟩
       show _ = _
       rw [HF.out,HU.out]; simp only [List.append_assoc]
      ·have N : Hid (U = Z ++ zu tx l5) := by
        have := HU; rw [List.take_of_length_le (by omega)] at this
        exact this
       clear HU; obtain ⟨_,_,_,_,_⟩ := M5.kept n
       rcases Nat.eq_zero_or_pos bs.subs.length with hb | hb
       ·have b9 : ¬ (0 : Int) < (bs.subs.length : Int) := by omega
        have HE : Hid (bs.subs.isEmpty = true) := by show _ = _; rw [List.isEmpty_iff]; exact List.eq_nil_of_length_eq_zero hb
        go_wp2_with fail
        go_ret
        refine ⟨zU ?_,n⟩; rw [show (⟨#[69,78,68,32]⟩ : ByteArray) = ⟨List.toArray [69,78,68,32]⟩ from rfl,show (⟨#[46,10]⟩ : ByteArray) = ⟨List.toArray [46,10]⟩ from rfl]
        repeat rw [zC]
        rw [N.out,b.out,HX.out,y.out,if_pos HE.out]; simp only [List.append_assoc,List.nil_append]
        rfl
       ·have b9 : (0 : Int) < (bs.subs.length : Int) := by omega
        have HE : Hid (¬ bs.subs.isEmpty = true) := by show ¬ _; rw [List.isEmpty_iff]; intro h9; rw [h9] at hb; simp at hb
        go_wp2_with fail; go_at_call 42; refine (HB _ _ n (A5.kept n)).mono ?_; rintro e w9 ⟨rfl,f⟩; have G9 := za n f; have B9 := BZ.kept (za grn f); cases B9.q
        clear f; go_wp2_with fail
        go_ret
        refine ⟨zU ?_,G9⟩; rw [show (⟨#[69,78,68,32]⟩ : ByteArray) = ⟨List.toArray [69,78,68,32]⟩ from rfl,show (⟨#[46,10]⟩ : ByteArray) = ⟨List.toArray [46,10]⟩ from rfl,show (⟨#[66,69,71,73,78,10]⟩ : ByteArray) = ⟨List.toArray [66,69,71,73,78,10]⟩ from rfl]
        repeat rw [zC]
        rw [N.out,b.out,HX.out,y.out,if_neg HE.out]; simp only [List.append_assoc]
        rfl
end Go.Proofs.YtifapidjkelnfaaGreatDoor
