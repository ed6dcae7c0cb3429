/- The document's texts: expressions,kind by kind. -/
import Derived.Test.YtifapidjkelnfaaGreatDoorG02
import Derived.Deep.RegionHeld
namespace Go.Proofs.YtifapidjkelnfaaGreatDoor
open Go.RowKit
set_option maxHeartbeats 4000000
set_option maxRecDepth 1000000
def NTx (w : World) (t : T) (E : Bs) : Prop := E.length <= 1000000 /\ ∀ w' sv,w.grownBy w' none -> AT w' t.subs sv -> Calls Tryz.prog 70 #[zq t sv] w' (Sy w' (.string ⟨E.toArray⟩))
def LTx (w : World) (t : T) (r : Int) (E : Bs) : Prop := E.length <= 1000000 /\ ∀ w' sv,w.grownBy w' none -> AT w' t.subs sv -> Calls Tryz.prog 103 #[zq t sv,.int .i64 r] w' (Sy w' (.string ⟨E.toArray⟩))
theorem tQ {P : Program} {ops : Array Oper} {Q : Exit -> Act -> World -> Prop} {md : Region.Mode} {S : World -> Prop} {oi : Oper} {fuel : Nat} {listed : Array Bool} {a a' : Act} {w : World} {v : Value} (i : Nat) (h : wpAnyH P md ops Q S fuel (listed.setIfInBounds i true) a' w) (hi : ops[i]? = some oi := by first | (simp only [List.getElem?_toArray,List.getElem?_cons_succ,List.getElem?_cons_zero]; with_reducible rfl) | rfl) (hy : ∀ w,S w -> (execOp a.eval oi).run P w = .ok (.value v) w := by intro _ h; first | (go_simp; with_reducible rfl) | (go_simp; rw [if_neg] <;> first | with_reducible rfl | omega) | (simp only [Node5.e] at h; go_simp; with_reducible rfl) | (obtain ⟨_,_,_⟩ := h; go_simp; with_reducible rfl) | (obtain ⟨_,_,⟨_,_,_,_,_⟩⟩ := h; go_simp; with_reducible rfl) | (obtain ⟨⟨_,_,_,_,_⟩,⟨_,_,_,_,_⟩⟩ := h; go_simp; with_reducible rfl) | (obtain ⟨_,⟨_,_,_,_,_⟩,⟨_,_,_,_,_⟩⟩ := h; go_simp; with_reducible rfl) | (obtain ⟨⟨_,_,_,_,_,_⟩,⟨_,_,_,_,_⟩⟩ := h; go_simp; with_reducible rfl) | (obtain ⟨_,_,_,_,_,_⟩ := h; go_simp; with_reducible rfl)) (ha : a.put oi.dst v = a' := by simp only [Act.put,List.setIfInBounds_toArray]; with_reducible rfl) (hS : S w := by assumption)
    (hs : Region.noSelect ops = true := by kernel_rfl) (hf : Region.free md ops listed i = true := by kernel_rfl) (hr : (Region.ready md ops listed).contains i = true := by kernel_rfl) (hQ : ∀ c a w,Q (.panic c) (a.put oi.dst v) w -> Q (.panic c) a w := by exact fun _ _ _ h => h) (hw : Region.wanted oi (yielded ops a.tmps) = true := by kernel_rfl) :
    wpAnyH P md ops Q S (fuel + 1) listed a w := wpAnyH_take hi hs hf hr hQ (Or.inl ⟨hw,hy⟩) hS (ha ▸ h)
theorem zau (x : Bs) (m p : Int) (u : T) (v : T) (sv : Value) (w : World) (ha : AT w (T.mk 26 x m p [u,v]).subs sv) (U V : Bs) (hu : ETx w u U) (hv : ETx w v V) :
  Calls Tryz.prog 68 #[.agg #[.int .i64 26,.string ⟨x.toArray⟩,.int .i64 m,.int .i64 p,sv]] w (Sy w (.string ⟨(U ++ ([91] ++ (V ++ [93]))).toArray⟩)) := by
 obtain ⟨g,o,c,C,D,E,F,rfl,R,X,t,i,G,y,z,H,A⟩ := ha.two rfl
 have j : u = C /\ v = E := by simpa [T.subs] using t
 obtain ⟨rfl,rfl⟩ := j; have k := zb i; have l := zb z; have I := zb y; have J := zb A; have K := zc i.c0; obtain ⟨_,_,_,_,_⟩ := i; obtain ⟨_,_,_,_,_⟩ := z; clear ha t G y H A; have n : Hid (Box (w.alloc (.cells #[.int .i64 26,.string ⟨x.toArray⟩,.int .i64 m,.int .i64 p,.slice (some ⟨g,o,none⟩) 2 c] 24)) w.heap.size (.mk 26 x m p [u,v]) (.slice (some ⟨g,o,none⟩) 2 c)) := Box.new w (.mk 26 x m p [u,v]) (.slice (some ⟨g,o,none⟩) 2 c) 24; obtain ⟨_,d⟩ := hu; have L := zb d; clear d; obtain ⟨_,f⟩ := hv; have M := zb f; clear f
 go_enter Tryz.func68,Tryz.ntmps68
 go_wp2_with fail; refine wp_region_held_drew (S := (fun w' => w'.cell? ⟨w.heap.size,4,none⟩ = some (.slice (some ⟨g,o,none⟩) 2 c) /\ w'.cell? ⟨w.heap.size,1,none⟩ = some (.string ⟨x.toArray⟩) /\ Node5 w' g o u D /\ Node5 w' g (o + 5) v F)) (by kernel_rfl) ?_ (fun hHeld => ?_)
 ·exact ⟨zg (ze grn) n.c4,zg (ze grn) n.c1,k.kept (ze gan),l.kept (ze gan)⟩
 refine tQ 0 ?_; refine tQ 1 ?_; refine tQ 2 ?_; refine tQ 3 ?_; refine tQ 6 ?_; refine tQ 7 ?_; refine tQ 8 ?_; refine tQ 9 ?_; refine rd 4 rfl fun KK hKK => ?_
 go_simp
 go_at_call 68; refine (L _ _ (ze (zf grn _)) (I.kept (ze (zf grn _)))).mono ?_; rintro e Y ⟨rfl,a⟩; have h := za (ze (zf grn _)) a; have r := n.kept (za (ze grn) a); clear a
 go_simp
 refine hKK _ _ ⟨r.c4,r.c1,k.kept h,l.kept h⟩ fun hHeld => ?_
 clear hKK KK; refine tQ 5 ?_; refine rd 10 rfl fun KK hKK => ?_
 go_simp
 go_at_call 68; refine (M _ _ h (J.kept h)).mono ?_; rintro e Z ⟨rfl,b⟩; have s := za h b; have B := r.kept (za grn b); clear b
 go_simp
 refine hKK _ _ ⟨B.c4,B.c1,k.kept s,l.kept s⟩ fun hHeld => ?_
 clear hKK KK; refine tQ 11 ?_; refine tQ 12 ?_; refine tQ 13 ?_; refine wpAnyH_done (by kernel_rfl) ?_ _; clear hHeld; go_wp2_with fail
 go_ret
 refine ⟨(show Ending.returned (.string ((((⟨List.toArray U⟩ : ByteArray) ++ (⟨List.toArray [91]⟩ : ByteArray)) ++ (⟨List.toArray V⟩ : ByteArray)) ++ (⟨List.toArray [93]⟩ : ByteArray))) = _ from zU ?_),s⟩
 repeat rw [zC]
 try simp only [List.append_assoc]
 try rfl
theorem aX (x : Bs) (m p : Int) (u : T) (sv : Value) (w : World) (ha : AT w (T.mk 27 x m p [u]).subs sv) (U : Bs) (hu : ETx w u U) :
  Calls Tryz.prog 68 #[.agg #[.int .i64 27,.string ⟨x.toArray⟩,.int .i64 m,.int .i64 p,sv]] w (Sy w (.string ⟨(U ++ [94]).toArray⟩)) := by
 obtain ⟨g,o,c,i,t,rfl,v,y,f,d,j,h⟩ := ha.one rfl
 obtain rfl : u = i := by simpa [T.subs] using f
 have z := zb d; have k := zb h; have l := zc d.c0; obtain ⟨_,_,_,_,_⟩ := d; clear ha f j h; have A : Hid (Box (w.alloc (.cells #[.int .i64 27,.string ⟨x.toArray⟩,.int .i64 m,.int .i64 p,.slice (some ⟨g,o,none⟩) 1 c] 24)) w.heap.size (.mk 27 x m p [u]) (.slice (some ⟨g,o,none⟩) 1 c)) := Box.new w (.mk 27 x m p [u]) (.slice (some ⟨g,o,none⟩) 1 c) 24; obtain ⟨_,a⟩ := hu; have n := zb a; clear a
 go_enter Tryz.func68,Tryz.ntmps68
 go_wp2_with fail; go_at_call 68; refine (n _ _ (zf grn _) (k.kept (zf grn _))).mono ?_; rintro e B ⟨rfl,b⟩; have s := za (zf grn _) b; clear b; go_wp2_with fail
 go_ret
 refine ⟨(show Ending.returned (.string ((⟨List.toArray U⟩ : ByteArray) ++ (⟨List.toArray [94]⟩ : ByteArray))) = _ from zU ?_),s⟩
 repeat rw [zC]
 try simp only [List.append_assoc]
 try rfl
theorem aQ (x : Bs) (m p : Int) (u : T) (v : T) (sv : Value) (w : World) (ha : AT w (T.mk 28 x m p [u,v]).subs sv) (U V : Bs) (hu : ETx w u U) (hv : NTx w v V) :
  Calls Tryz.prog 68 #[.agg #[.int .i64 28,.string ⟨x.toArray⟩,.int .i64 m,.int .i64 p,sv]] w (Sy w (.string ⟨(U ++ ([123] ++ (V ++ [125]))).toArray⟩)) := by
 obtain ⟨g,o,c,C,D,E,F,rfl,R,X,t,i,G,y,z,H,A⟩ := ha.two rfl
 have j : u = C /\ v = E := by simpa [T.subs] using t
 obtain ⟨rfl,rfl⟩ := j; have k := zb i; have l := zb z; have I := zb y; have J := zb A; have K := zc i.c0; obtain ⟨_,_,_,_,_⟩ := i; obtain ⟨_,_,_,_,_⟩ := z; clear ha t G y H A; have n : Hid (Box (w.alloc (.cells #[.int .i64 28,.string ⟨x.toArray⟩,.int .i64 m,.int .i64 p,.slice (some ⟨g,o,none⟩) 2 c] 24)) w.heap.size (.mk 28 x m p [u,v]) (.slice (some ⟨g,o,none⟩) 2 c)) := Box.new w (.mk 28 x m p [u,v]) (.slice (some ⟨g,o,none⟩) 2 c) 24; obtain ⟨_,d⟩ := hu; have L := zb d; clear d; obtain ⟨_,f⟩ := hv; have M := zb f; clear f
 go_enter Tryz.func68,Tryz.ntmps68
 go_wp2_with fail; refine wp_region_held_drew (S := (fun w' => w'.cell? ⟨w.heap.size,4,none⟩ = some (.slice (some ⟨g,o,none⟩) 2 c) /\ w'.cell? ⟨w.heap.size,1,none⟩ = some (.string ⟨x.toArray⟩) /\ Node5 w' g o u D /\ Node5 w' g (o + 5) v F)) (by kernel_rfl) ?_ (fun hHeld => ?_)
 ·exact ⟨zg (ze grn) n.c4,zg (ze grn) n.c1,k.kept (ze gan),l.kept (ze gan)⟩
 refine tQ 0 ?_; refine tQ 1 ?_; refine tQ 2 ?_; refine tQ 3 ?_; refine tQ 6 ?_; refine tQ 7 ?_; refine tQ 8 ?_; refine tQ 9 ?_; refine rd 4 rfl fun KK hKK => ?_
 go_simp
 go_at_call 68; refine (L _ _ (ze (zf grn _)) (I.kept (ze (zf grn _)))).mono ?_; rintro e Y ⟨rfl,a⟩; have h := za (ze (zf grn _)) a; have r := n.kept (za (ze grn) a); clear a
 go_simp
 refine hKK _ _ ⟨r.c4,r.c1,k.kept h,l.kept h⟩ fun hHeld => ?_
 clear hKK KK; refine tQ 5 ?_; refine rd 10 rfl fun KK hKK => ?_
 go_simp
 go_at_call 70; refine (M _ _ h (J.kept h)).mono ?_; rintro e Z ⟨rfl,b⟩; have s := za h b; have B := r.kept (za grn b); clear b
 go_simp
 refine hKK _ _ ⟨B.c4,B.c1,k.kept s,l.kept s⟩ fun hHeld => ?_
 clear hKK KK; refine tQ 11 ?_; refine tQ 12 ?_; refine tQ 13 ?_; refine wpAnyH_done (by kernel_rfl) ?_ _; clear hHeld; go_wp2_with fail
 go_ret
 refine ⟨(show Ending.returned (.string ((((⟨List.toArray U⟩ : ByteArray) ++ (⟨List.toArray [123]⟩ : ByteArray)) ++ (⟨List.toArray V⟩ : ByteArray)) ++ (⟨List.toArray [125]⟩ : ByteArray))) = _ from zU ?_),s⟩
 repeat rw [zC]
 try simp only [List.append_assoc]
 try rfl
theorem aR (x : Bs) (m p : Int) (u : T) (sv : Value) (w : World) (ha : AT w (T.mk 34 x m p [u]).subs sv) (U : Bs) (hu : LTx w u 3 U) :
  Calls Tryz.prog 68 #[.agg #[.int .i64 34,.string ⟨x.toArray⟩,.int .i64 m,.int .i64 p,sv]] w (Sy w (.string ⟨([126] ++ U).toArray⟩)) := by
 obtain ⟨g,o,c,i,t,rfl,v,y,f,d,j,h⟩ := ha.one rfl
 obtain rfl : u = i := by simpa [T.subs] using f
 have z := zb d; have k := zb h; have l := zc d.c0; obtain ⟨_,_,_,_,_⟩ := d; clear ha f j h; have A : Hid (Box (w.alloc (.cells #[.int .i64 34,.string ⟨x.toArray⟩,.int .i64 m,.int .i64 p,.slice (some ⟨g,o,none⟩) 1 c] 24)) w.heap.size (.mk 34 x m p [u]) (.slice (some ⟨g,o,none⟩) 1 c)) := Box.new w (.mk 34 x m p [u]) (.slice (some ⟨g,o,none⟩) 1 c) 24; obtain ⟨_,a⟩ := hu; have n := zb a; clear a
 go_enter Tryz.func68,Tryz.ntmps68
 go_wp2_with fail; go_at_call 103; refine (n _ _ (zf grn _) (k.kept (zf grn _))).mono ?_; rintro e B ⟨rfl,b⟩; have s := za (zf grn _) b; clear b; go_wp2_with fail
 go_ret
 refine ⟨(show Ending.returned (.string ((⟨List.toArray [126]⟩ : ByteArray) ++ (⟨List.toArray U⟩ : ByteArray))) = _ from zU ?_),s⟩
 repeat rw [zC]
 try simp only [List.append_assoc]
 try rfl
theorem zac (x : Bs) (m p : Int) (u : T) (sv : Value) (w : World) (ha : AT w (T.mk 35 x m p [u]).subs sv) (U : Bs) (hu : LTx w u 2 U) :
  Calls Tryz.prog 68 #[.agg #[.int .i64 35,.string ⟨x.toArray⟩,.int .i64 m,.int .i64 p,sv]] w (Sy w (.string ⟨([45] ++ U).toArray⟩)) := by
 obtain ⟨g,o,c,i,t,rfl,v,y,f,d,j,h⟩ := ha.one rfl
 obtain rfl : u = i := by simpa [T.subs] using f
 have z := zb d; have k := zb h; have l := zc d.c0; obtain ⟨_,_,_,_,_⟩ := d; clear ha f j h; have A : Hid (Box (w.alloc (.cells #[.int .i64 35,.string ⟨x.toArray⟩,.int .i64 m,.int .i64 p,.slice (some ⟨g,o,none⟩) 1 c] 24)) w.heap.size (.mk 35 x m p [u]) (.slice (some ⟨g,o,none⟩) 1 c)) := Box.new w (.mk 35 x m p [u]) (.slice (some ⟨g,o,none⟩) 1 c) 24; obtain ⟨_,a⟩ := hu; have n := zb a; clear a
 go_enter Tryz.func68,Tryz.ntmps68
 go_wp2_with fail; go_at_call 103; refine (n _ _ (zf grn _) (k.kept (zf grn _))).mono ?_; rintro e B ⟨rfl,b⟩; have s := za (zf grn _) b; clear b; go_wp2_with fail
 go_ret
 refine ⟨(show Ending.returned (.string ((⟨List.toArray [45]⟩ : ByteArray) ++ (⟨List.toArray U⟩ : ByteArray))) = _ from zU ?_),s⟩
 repeat rw [zC]
 try simp only [List.append_assoc]
 try rfl
theorem zao (x : Bs) (m p : Int) (u : T) (v : T) (sv : Value) (w : World) (ha : AT w (T.mk 37 x m p [u,v]).subs sv) (U V : Bs) (hu : LTx w u 1 U) (hv : NTx w v V) :
  Calls Tryz.prog 68 #[.agg #[.int .i64 37,.string ⟨x.toArray⟩,.int .i64 m,.int .i64 p,sv]] w (Sy w (.string ⟨(U ++ ([32,73,83,32] ++ V)).toArray⟩)) := by
 obtain ⟨g,o,c,C,D,E,F,rfl,Q,R,t,i,G,y,z,H,A⟩ := ha.two rfl
 have j : u = C /\ v = E := by simpa [T.subs] using t
 obtain ⟨rfl,rfl⟩ := j; have k := zb i; have l := zb z; have I := zb y; have J := zb A; have K := zc i.c0; obtain ⟨_,_,_,_,_⟩ := i; obtain ⟨_,_,_,_,_⟩ := z; clear ha t G y H A; have n : Hid (Box (w.alloc (.cells #[.int .i64 37,.string ⟨x.toArray⟩,.int .i64 m,.int .i64 p,.slice (some ⟨g,o,none⟩) 2 c] 24)) w.heap.size (.mk 37 x m p [u,v]) (.slice (some ⟨g,o,none⟩) 2 c)) := Box.new w (.mk 37 x m p [u,v]) (.slice (some ⟨g,o,none⟩) 2 c) 24; obtain ⟨_,d⟩ := hu; have L := zb d; clear d; obtain ⟨_,f⟩ := hv; have M := zb f; clear f
 go_enter Tryz.func68,Tryz.ntmps68
 go_wp2_with fail; refine wp_region_held_drew (S := (fun w' => w'.cell? ⟨w.heap.size,4,none⟩ = some (.slice (some ⟨g,o,none⟩) 2 c) /\ w'.cell? ⟨w.heap.size,1,none⟩ = some (.string ⟨x.toArray⟩) /\ Node5 w' g o u D /\ Node5 w' g (o + 5) v F)) (by kernel_rfl) ?_ (fun hHeld => ?_)
 ·exact ⟨zg (ze grn) n.c4,zg (ze grn) n.c1,k.kept (ze gan),l.kept (ze gan)⟩
 refine tQ 0 ?_; refine tQ 1 ?_; refine tQ 2 ?_; refine tQ 3 ?_; refine tQ 6 ?_; refine tQ 7 ?_; refine tQ 8 ?_; refine tQ 9 ?_; refine rd 4 rfl fun KK hKK => ?_
 go_simp
 go_at_call 103; refine (L _ _ (ze (zf grn _)) (I.kept (ze (zf grn _)))).mono ?_; rintro e X ⟨rfl,a⟩; have h := za (ze (zf grn _)) a; have r := n.kept (za (ze grn) a); clear a
 go_simp
 refine hKK _ _ ⟨r.c4,r.c1,k.kept h,l.kept h⟩ fun hHeld => ?_
 clear hKK KK; refine tQ 5 ?_; refine rd 10 rfl fun KK hKK => ?_
 go_simp
 go_at_call 70; refine (M _ _ h (J.kept h)).mono ?_; rintro e Y ⟨rfl,b⟩; have s := za h b; have B := r.kept (za grn b); clear b
 go_simp
 refine hKK _ _ ⟨B.c4,B.c1,k.kept s,l.kept s⟩ fun hHeld => ?_
 clear hKK KK; refine tQ 11 ?_; refine tQ 12 ?_; refine wpAnyH_done (by kernel_rfl) ?_ _; clear hHeld; go_wp2_with fail
 go_ret
 refine ⟨(show Ending.returned (.string (((⟨List.toArray U⟩ : ByteArray) ++ (⟨List.toArray [32,73,83,32]⟩ : ByteArray)) ++ (⟨List.toArray V⟩ : ByteArray))) = _ from zU ?_),s⟩
 repeat rw [zC]
 try simp only [List.append_assoc]
 try rfl
end Go.Proofs.YtifapidjkelnfaaGreatDoor
