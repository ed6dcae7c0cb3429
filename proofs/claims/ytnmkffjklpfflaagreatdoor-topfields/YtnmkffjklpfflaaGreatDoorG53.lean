/- Texts made of raw numbers: whatever they are,they are not long; and how the second one begins. -/
import Derived.Test.YtnmkffjklpfflaaGreatDoorG08
import Derived.Test.YtnmkffjklpfflaaGreatDoorG52
import Derived.Test.YtnmkffjklpfflaaGreatDoorG06
namespace Go.Proofs.YtnmkffjklpfflaaGreatDoor
open Go.RowKit
set_option maxHeartbeats 8000000
set_option maxRecDepth 1000000
theorem lsz (l : List UInt8) : (ByteArray.mk l.toArray).size = l.length := by simp [ByteArray.size]
def Mw (w0 : World) (b : Nat) (lv : Value) (w : World) (k N K : Nat) (e : Ending) (w' : World) : Prop := ∃ s k',e = .returned (.string s) /\ s.size <= N /\ k' <= k + K /\ Src w0 b lv w' k' /\ w.grownBy w' (some b)
def Mk (f : Nat) (w0 : World) (b : Nat) (lv : Value) (d : Int) (N K : Nat) : Prop := ∀ (w : World) (k : Nat),Src w0 b lv w k -> k + K <= 90000 -> Calls Tryz.prog f #[sp b,.int .i64 d] w (Mw w0 b lv w k N K)
def za6 : Value -> Bool
 | .string s => decide (s.size <= 40)
 | _ => false
theorem kj {vs : List Value} (h : vs.all za6 = true) : ∀ v ∈ vs,∃ s,v = .string s /\ s.size <= 40 := fun v hv => by
 have h9 := List.all_eq_true.1 h v hv
 unfold za6 at h9
 split at h9
 ·exact ⟨_,rfl,by simpa using h9⟩
 ·cases h9
def gt : Value -> W8
 | .string s => s.data.toList
 | _ => []
theorem ul {w0 : World} {b : Nat} {lv : Value} (hr : RawV w0 b lv) {w : World} {k M : Nat} (h : Src w0 b lv w k) (hk : k < 90000) (t : Nat) (vs : List Value) (hv : ∀ v ∈ vs,∃ s,v = .string s /\ s.size <= M) {n : Nat} (hn : n = vs.length) (hl : 0 < n) (hl2 : n <= 100) :
  Calls Tryz.prog 33 #[sp b,.slice (some ⟨w.heap.size,0,none⟩) n n] (w.alloc (.cells vs.toArray t)) (Mw w0 b lv w k M 1) := by
 subst hn
 have e : vs = (vs.map gt).map cJ := by
  rw [List.map_map]
  conv => lhs; rw [<- List.map_id vs]
  refine List.map_congr_left fun v c => ?_
  obtain ⟨s,rfl,-⟩ := hv v c
  simp [gt,cJ]
 have f := zad hr h hk (vs.map gt) t vs e (by simpa using hl) (by simpa using hl2); rw [List.length_map] at f; refine f.mono ?_; rintro e o ⟨x,g,rfl,i,d,j,l⟩; obtain ⟨v,c,rfl⟩ := List.mem_map.1 i; obtain ⟨s,rfl,m⟩ := hv v c
 exact ⟨s,g,by simp [gt],m,d,j,l⟩
theorem iw {w0 : World} {b : Nat} {lv : Value} (hr : RawV w0 b lv) (d : Int) : Mk 48 w0 b lv d 40 1 := by
 intro w k c l
 replace c := zc c
 have f : Hid (w.grownBy w (some b)) := zj w _
 go_enter Tryz.func48,Tryz.ntmps48
 go_wp2_with fail
 repeat (go_at_call 33; refine (ul (M := 40) hr c.out (by omega) _ _ (kj rfl) (by rfl) (by decide) (by decide)).mono ?_; rintro e i ⟨m,n,rfl,o,j,g,h⟩; replace c := zc g; replace f : Hid (w.grownBy i (some b)) := za f.out h; clear g h; go_wp2_with fail)
 go_ret; exact ⟨_,_,rfl,by first | omega | (simp only [ByteArray.size_append,lsz,List.length_cons,List.length_nil]; omega),by omega,c.out,f.out⟩
theorem pP {w0 : World} {b : Nat} {lv : Value} (hr : RawV w0 b lv) : Mk 34 w0 b lv 0 40 1 := by
 intro w k c j
 replace c := zc c
 have d : Hid (w.grownBy w (some b)) := zj w _
 go_enter Tryz.func34,Tryz.ntmps34
 go_wp2_with fail
 repeat (go_at_call 33; refine (ul (M := 40) hr c.out (by omega) _ _ (kj rfl) (by rfl) (by decide) (by decide)).mono ?_; rintro e h ⟨l,m,rfl,n,i,f,g⟩; replace c := zc f; replace d : Hid (w.grownBy h (some b)) := za d.out g; clear f g; go_wp2_with fail)
 go_ret; exact ⟨_,_,rfl,by first | omega | (simp only [ByteArray.size_append,lsz,List.length_cons,List.length_nil]; omega),by omega,c.out,d.out⟩
theorem ry {w0 : World} {b : Nat} {lv : Value} (hr : RawV w0 b lv) : Mk 35 w0 b lv 0 40 1 := by
 intro w k c j
 replace c := zc c
 have d : Hid (w.grownBy w (some b)) := zj w _
 go_enter Tryz.func35,Tryz.ntmps35
 go_wp2_with fail
 repeat (go_at_call 33; refine (ul (M := 40) hr c.out (by omega) _ _ (kj rfl) (by rfl) (by decide) (by decide)).mono ?_; rintro e h ⟨l,m,rfl,n,i,f,g⟩; replace c := zc f; replace d : Hid (w.grownBy h (some b)) := za d.out g; clear f g; go_wp2_with fail)
 go_ret; exact ⟨_,_,rfl,by first | omega | (simp only [ByteArray.size_append,lsz,List.length_cons,List.length_nil]; omega),by omega,c.out,d.out⟩
theorem nT {w0 : World} {b : Nat} {lv : Value} (hr : RawV w0 b lv) {d N K : Nat} (hN : N <= 1000) (hN0 : 40 <= N) (hK : K <= 100) (hK1 : 1 <= K) (hd : d <= 10) (H : ∀ v : Int,v = d \/ v = 0 -> Mk 34 w0 b lv v N K) : Mk 34 w0 b lv ((d + 1 : Nat) : Int) (2 * N + 100) (2 * K + 2) := by
 intro w k g t; have n := zc (uy hr w k 12 g (by omega) (by omega) (by omega)); clear g; rw [show ((d + 1 : Nat) : Int) = (d : Int) + 1 by omega]
 go_enter Tryz.func34,Tryz.ntmps34
 go_wp2_with fail; go_at_call 24; refine n.out.mono ?_; rintro e h ⟨⟨r,j,rfl⟩,c,f⟩; have g := zc c; have i : Hid (w.grownBy h (some b)) := f; clear c f n
 have m : r = 0 \/ r = 1 \/ r = 2 \/ r = 3 \/ r = 4 \/ r = 5 \/ r = 6 \/ r = 7 \/ r = 8 \/ r = 9 \/ r = 10 \/ r = 11 := by omega
 clear j
 rcases m with rfl | rfl | rfl | rfl | rfl | rfl | rfl | rfl | rfl | rfl | rfl | rfl
 all_goals (go_wp2_with fail; (repeat (first | (go_at_call 34; refine (H _ (by omega) _ _ g.out (by omega)).mono ?_; rintro e h ⟨o,q,rfl,s,l,c,f⟩; replace g := zc c; replace i : Hid (w.grownBy h (some b)) := za i.out f; clear c f; go_wp2_with fail) | (go_at_call 48; refine ((fun v (_ : 0 = 0) => iw hr v) _ (by omega) _ _ g.out (by omega)).mono ?_; rintro e h ⟨o,q,rfl,s,l,c,f⟩; replace g := zc c; replace i : Hid (w.grownBy h (some b)) := za i.out f; clear c f; go_wp2_with fail) | (go_at_call 33; refine (ul (M := 40) hr g.out (by omega) _ _ (kj rfl) (by rfl) (by decide) (by decide)).mono ?_; rintro e h ⟨o,q,rfl,s,l,c,f⟩; replace g := zc c; replace i : Hid (w.grownBy h (some b)) := za i.out f; clear c f; go_wp2_with fail))); go_ret; exact ⟨_,_,rfl,by first | omega | (simp only [ByteArray.size_append,lsz,List.length_cons,List.length_nil]; omega),by omega,g.out,i.out⟩)
theorem nJ {w0 : World} {b : Nat} {lv : Value} (hr : RawV w0 b lv) {d N K : Nat} (hN : N <= 1000) (hN0 : 40 <= N) (hK : K <= 100) (hK1 : 1 <= K) (hd : d <= 10) (H : ∀ v : Int,v = d \/ v = 0 -> Mk 35 w0 b lv v N K) (HW : ∀ v : Int,v = d \/ v = 0 -> Mk 34 w0 b lv v N K) : Mk 35 w0 b lv ((d + 1 : Nat) : Int) (2 * N + 100) (2 * K + 2) := by
 intro w k g t; have s := zc (uy hr w k 8 g (by omega) (by omega) (by omega)); clear g; rw [show ((d + 1 : Nat) : Int) = (d : Int) + 1 by omega]
 go_enter Tryz.func35,Tryz.ntmps35
 go_wp2_with fail; go_at_call 24; refine s.out.mono ?_; rintro e h ⟨⟨r,l,rfl⟩,c,f⟩; have g := zc c; have i : Hid (w.grownBy h (some b)) := f; clear c f s
 have m : r = 0 \/ r = 1 \/ r = 2 \/ r = 3 \/ r = 4 \/ r = 5 \/ r = 6 \/ r = 7 := by omega
 clear l
 rcases m with rfl | rfl | rfl | rfl | rfl | rfl | rfl | rfl
 all_goals (go_wp2_with fail; (repeat (first | (go_at_call 35; refine (H _ (by omega) _ _ g.out (by omega)).mono ?_; rintro e h ⟨n,o,rfl,q,j,c,f⟩; replace g := zc c; replace i : Hid (w.grownBy h (some b)) := za i.out f; clear c f; go_wp2_with fail) | (go_at_call 34; refine (HW _ (by omega) _ _ g.out (by omega)).mono ?_; rintro e h ⟨n,o,rfl,q,j,c,f⟩; replace g := zc c; replace i : Hid (w.grownBy h (some b)) := za i.out f; clear c f; go_wp2_with fail) | (go_at_call 48; refine ((fun v (_ : 0 = 0) => iw hr v) _ (by omega) _ _ g.out (by omega)).mono ?_; rintro e h ⟨n,o,rfl,q,j,c,f⟩; replace g := zc c; replace i : Hid (w.grownBy h (some b)) := za i.out f; clear c f; go_wp2_with fail) | (go_at_call 33; refine (ul (M := 40) hr g.out (by omega) _ _ (kj rfl) (by rfl) (by decide) (by decide)).mono ?_; rintro e h ⟨n,o,rfl,q,j,c,f⟩; replace g := zc c; replace i : Hid (w.grownBy h (some b)) := za i.out f; clear c f; go_wp2_with fail))); go_ret; exact ⟨_,_,rfl,by first | omega | (simp only [ByteArray.size_append,lsz,List.length_cons,List.length_nil]; omega),by omega,g.out,i.out⟩)
theorem bV {w0 : World} {b : Nat} {lv : Value} (hr : RawV w0 b lv) (W : ∀ v : Int,v = 1 \/ v = 2 -> Mk 34 w0 b lv v 1500 10) (T : ∀ v : Int,v = 1 \/ v = 2 -> Mk 35 w0 b lv v 1500 10) : Mk 23 w0 b lv 0 4000 30 := by
 intro w k f s; have m := zc (uy hr w k 19 f (by omega) (by omega) (by omega)); clear f
 skip
 go_enter Tryz.func23,Tryz.ntmps23
 go_wp2_with fail; go_at_call 24; refine m.out.mono ?_; rintro e g ⟨⟨r,i,rfl⟩,c,d⟩; have f := zc c; have h : Hid (w.grownBy g (some b)) := d; clear c d m
 have l : r = 0 \/ r = 1 \/ r = 2 \/ r = 3 \/ r = 4 \/ r = 5 \/ r = 6 \/ r = 7 \/ r = 8 \/ r = 9 \/ r = 10 \/ r = 11 \/ r = 12 \/ r = 13 \/ r = 14 \/ r = 15 \/ r = 16 \/ r = 17 \/ r = 18 := by omega
 clear i
 rcases l with rfl | rfl | rfl | rfl | rfl | rfl | rfl | rfl | rfl | rfl | rfl | rfl | rfl | rfl | rfl | rfl | rfl | rfl | rfl
 all_goals (go_wp2_with fail; (repeat (first | (go_at_call 34; refine (W _ (by omega) _ _ f.out (by omega)).mono ?_; rintro e g ⟨n,o,rfl,q,j,c,d⟩; replace f := zc c; replace h : Hid (w.grownBy g (some b)) := za h.out d; clear c d; go_wp2_with fail) | (go_at_call 35; refine (T _ (by omega) _ _ f.out (by omega)).mono ?_; rintro e g ⟨n,o,rfl,q,j,c,d⟩; replace f := zc c; replace h : Hid (w.grownBy g (some b)) := za h.out d; clear c d; go_wp2_with fail) | (go_at_call 33; refine (ul (M := 40) hr f.out (by omega) _ _ (kj rfl) (by rfl) (by decide) (by decide)).mono ?_; rintro e g ⟨n,o,rfl,q,j,c,d⟩; replace f := zc c; replace h : Hid (w.grownBy g (some b)) := za h.out d; clear c d; go_wp2_with fail))); go_ret; exact ⟨_,_,rfl,by first | omega | (simp only [ByteArray.size_append,lsz,List.length_cons,List.length_nil]; omega),by omega,f.out,h.out⟩)
theorem lA {w0 : World} {b : Nat} {lv : Value} (hr : RawV w0 b lv) (W : ∀ v : Int,v = 1 \/ v = 2 -> Mk 34 w0 b lv v 1500 10) (T : ∀ v : Int,v = 1 \/ v = 2 -> Mk 35 w0 b lv v 1500 10) {d N K : Nat} (hd : d <= 10) (hN : N <= 100000) (hK : K <= 10000) (H : ∀ v : Int,v = d -> Mk 15 w0 b lv v N K) : Mk 23 w0 b lv ((d + 1 : Nat) : Int) (2 * N + 4000) (3 * K + 30) := by
 intro w k g t; have s := zc (uy hr w k 19 g (by omega) (by omega) (by omega)); clear g; rw [show ((d + 1 : Nat) : Int) = (d : Int) + 1 by omega]
 go_enter Tryz.func23,Tryz.ntmps23
 go_wp2_with fail; go_at_call 24; refine s.out.mono ?_; rintro e h ⟨⟨r,l,rfl⟩,c,f⟩; have g := zc c; have i : Hid (w.grownBy h (some b)) := f; clear c f s
 have q : r = 0 \/ r = 1 \/ r = 2 \/ r = 3 \/ r = 4 \/ r = 5 \/ r = 6 \/ r = 7 \/ r = 8 \/ r = 9 \/ r = 10 \/ r = 11 \/ r = 12 \/ r = 13 \/ r = 14 \/ r = 15 \/ r = 16 \/ r = 17 \/ r = 18 := by omega
 clear l
 rcases q with rfl | rfl | rfl | rfl | rfl | rfl | rfl | rfl | rfl | rfl | rfl | rfl | rfl | rfl | rfl | rfl | rfl | rfl | rfl
 all_goals (go_wp2_with fail; (repeat (first | (go_at_call 34; refine (W _ (by omega) _ _ g.out (by omega)).mono ?_; rintro e h ⟨m,n,rfl,o,j,c,f⟩; replace g := zc c; replace i : Hid (w.grownBy h (some b)) := za i.out f; clear c f; go_wp2_with fail) | (go_at_call 35; refine (T _ (by omega) _ _ g.out (by omega)).mono ?_; rintro e h ⟨m,n,rfl,o,j,c,f⟩; replace g := zc c; replace i : Hid (w.grownBy h (some b)) := za i.out f; clear c f; go_wp2_with fail) | (go_at_call 15; refine (H _ (by omega) _ _ g.out (by omega)).mono ?_; rintro e h ⟨m,n,rfl,o,j,c,f⟩; replace g := zc c; replace i : Hid (w.grownBy h (some b)) := za i.out f; clear c f; go_wp2_with fail) | (go_at_call 33; refine (ul (M := 40) hr g.out (by omega) _ _ (kj rfl) (by rfl) (by decide) (by decide)).mono ?_; rintro e h ⟨m,n,rfl,o,j,c,f⟩; replace g := zc c; replace i : Hid (w.grownBy h (some b)) := za i.out f; clear c f; go_wp2_with fail) | (go_at_call 33; refine (ul (M := N + 2000) hr g.out (by omega) _ _ (fun v hv => by simp only [List.mem_cons,List.not_mem_nil,or_false] at hv; rcases hv with rfl | rfl | rfl <;> exact ⟨_,rfl,by simp only [ByteArray.size_append,lsz,List.length_cons,List.length_nil]; omega⟩) (by rfl) (by decide) (by decide)).mono ?_; rintro e h ⟨m,n,rfl,o,j,c,f⟩; replace g := zc c; replace i : Hid (w.grownBy h (some b)) := za i.out f; clear c f; go_wp2_with fail))); go_ret; exact ⟨_,_,rfl,by first | omega | (simp only [ByteArray.size_append,lsz,List.length_cons,List.length_nil]; omega),by omega,g.out,i.out⟩)
set_option maxHeartbeats 4000000
theorem tY {w0 : World} {b : Nat} {lv : Value} (hr : RawV w0 b lv) {d : Int} {N K : Nat} (hN : N <= 1000000) (hK : K <= 9000) (H : Mk 23 w0 b lv d N K) : Mk 15 w0 b lv d (3 * N + 10) (3 * K + 1) := by
 intro w k h hk; have B := zc h; clear h; have g := zc H; clear H; have C := zc hr; clear hr
 go_enter Tryz.func15,Tryz.ntmps15
 go_wp2_with fail; go_at_call 23; refine (g.out _ _ B.out (by omega)).mono ?_; rintro e D ⟨E,j,rfl,l1,F,l,m⟩; have G := zc l; have I := zc m; clear l m; go_wp2_with fail; go_at_call 24; refine (uy C.out D j 3 G.out (by omega) (by omega) (by omega)).mono ?_; rintro e J ⟨⟨r,L,rfl⟩,n,o⟩; have M := zc n; have O : Hid (w.grownBy J (some b)) := za I.out o; clear n o; go_wp2_with fail
 go_loopw [5,6] (fun tv iv wr => ∃ (i c : Nat) (x : ByteArray),i <= 2 /\ iv = .int .i64 ↑i /\ tv = .string x /\ (i = 2 -> x.size <= N /\ c <= k + K + 1) /\ (i = 1 -> x.size <= 2 * N + 2 /\ c <= k + 2 * K + 1) /\ (i = 0 -> x.size <= 3 * N + 4 /\ c <= k + 3 * K + 1) /\ Hid (Src w0 b lv wr c) /\ Hid (w.grownBy wr (some b))) (fun _ iv _ => (intOf iv).toNat)
 case atStart => exact ⟨r,j + 1,E,by omega,rfl,rfl,by omega,by omega,by omega,M,O⟩
 case round =>
  obtain ⟨i,c,x,_,rfl,rfl,Q,R,q,s,t⟩ := hrel
  have hx : x.size <= 3000010 := by omega
  by_cases U : 0 < i
  ·have f : c + K <= 90000 := by omega
   go_wp2_with fail; go_at_call 23; refine (g.out _ _ s.out f).mono ?_; rintro e V ⟨x3,X,rfl,l3,Y,u,v⟩; have Z := zc u; have G3 : Hid (w.grownBy V (some b)) := za t.out v; clear u v; go_wp2_with fail; refine ⟨⟨i - 1,X,_,by omega,by go_num,rfl,?_,?_,?_,Z,G3⟩,by simp [intOf]; omega⟩
   all_goals (intro h9; simp only [ByteArray.size_append,lsz,List.length_cons,List.length_nil]; omega)
  ·have z : i = 0 := by omega
   have A := zc (q z); clear q R Q; subst z; go_wp2_with fail
   go_ret
   exact ⟨x,c,rfl,by have := A.out; omega,by have := A.out; omega,s.out,t.out⟩
structure LevW (w0 : World) (b : Nat) (lv : Value) : Prop where
 one : Mk 15 w0 b lv 1 84070 910
 two : Mk 15 w0 b lv 2 516430 8281
theorem Mk.le {f : Nat} {w0 : World} {b : Nat} {lv : Value} {d : Int} {N K M J : Nat} (h : Mk f w0 b lv d N K) (hN : N <= M) (hK : K <= J) : Mk f w0 b lv d M J := fun w k s hk => (h w k s (by omega)).mono fun e w' ⟨x,k',h1,h2,h3,h4⟩ => ⟨x,k',h1,by omega,by omega,h4⟩
theorem cz {w0 : World} {b : Nat} {lv : Value} (hr : RawV w0 b lv) : LevW w0 b lv := by
 have f : ∀ v : Int,v = (0 : Nat) \/ v = 0 -> Mk 34 w0 b lv v 40 1 := fun v hv => (show v = 0 by omega) ▸ pP hr
 have h : ∀ v : Int,v = (0 : Nat) \/ v = 0 -> Mk 35 w0 b lv v 40 1 := fun v hv => (show v = 0 by omega) ▸ ry hr
 have W1 := nT hr (d := 0) (by omega) (by omega) (by omega) (by omega) (by omega) f; have T1 := nJ hr (d := 0) (by omega) (by omega) (by omega) (by omega) (by omega) h f
 have c : ∀ v : Int,v = (1 : Nat) \/ v = 0 -> Mk 34 w0 b lv v 180 4 := fun v hv => by
  rcases hv with rfl | rfl
  ·exact W1.le (by omega) (by omega)
  ·exact (pP hr).le (by omega) (by omega)
 have e : ∀ v : Int,v = (1 : Nat) \/ v = 0 -> Mk 35 w0 b lv v 180 4 := fun v hv => by
  rcases hv with rfl | rfl
  ·exact T1.le (by omega) (by omega)
  ·exact (ry hr).le (by omega) (by omega)
 have i := nT hr (d := 1) (by omega) (by omega) (by omega) (by omega) (by omega) c; have j := nJ hr (d := 1) (by omega) (by omega) (by omega) (by omega) (by omega) e c
 have W : ∀ v : Int,v = 1 \/ v = 2 -> Mk 34 w0 b lv v 1500 10 := fun v hv => by
  rcases hv with rfl | rfl
  ·exact W1.le (by omega) (by omega)
  ·exact i.le (by omega) (by omega)
 have T : ∀ v : Int,v = 1 \/ v = 2 -> Mk 35 w0 b lv v 1500 10 := fun v hv => by
  rcases hv with rfl | rfl
  ·exact T1.le (by omega) (by omega)
  ·exact j.le (by omega) (by omega)
 have k := tY hr (N := 4000) (K := 30) (by omega) (by omega) (bV hr W T); have g := tY hr (N := 28020) (K := 303) (by omega) (by omega) (lA hr W T (d := 0) (N := 12010) (K := 91) (by omega) (by omega) (by omega) (fun v hv => by subst hv; exact k)); have l := tY hr (N := 172140) (K := 2760) (by omega) (by omega) (lA hr W T (d := 1) (N := 84070) (K := 910) (by omega) (by omega) (by omega) (fun v hv => by subst hv; exact g))
 exact ⟨g.le (by omega) (by omega),l.le (by omega) (by omega)⟩
theorem gG (n : Nat) (hn : n < 10) (w : World) : Calls Tryz.prog 14 #[.int .i64 n] w (Sy w (.string ⟨#[UInt8.ofNat (48 + n)]⟩)) := by
 have := bf n (by omega) w; rwa [jd hn] at this
def Beg (Y : ByteArray) : Prop := ∃ r,Y.data.toList = li ++ 32 :: r
theorem Beg.app {Y : ByteArray} (h : Beg Y) (z : ByteArray) : Beg (Y ++ z) := by
 obtain ⟨r,h⟩ := h
 exact ⟨r ++ z.data.toList,by rw [ByteArray.data_append,Array.toList_append,h,List.append_assoc]; rfl⟩
theorem aE {A : ByteArray} (h : (A.data.toList.take 259 == li ++ [32]) = true) : Beg A := by
 refine ⟨A.data.toList.drop 259,?_⟩
 have b : A.data.toList.take 259 = li ++ [32] := by simpa using h
 conv => lhs; rw [<- List.take_append_drop 259 A.data.toList,b]
 simp
theorem mT (h : Int) (w : World) (h1 : -9223372036854775808 <= h) (h2 : h <= 9223372036854775807) :
  Calls Tryz.prog 12 #[.int .i64 h] w fun e w' => ∃ s,e = .returned (.string s) /\ LibOK s (tV s) /\ w.grownBy w' none := by
 have b := zc (kK h 5 w h1 h2 (by omega) (by omega)); have d := uF (c := h) (n := 5) (by omega)
 generalize ux h 5 = q at b d
 obtain ⟨n,rfl⟩ := Int.eq_ofNat_of_zero_le d.1
 have k : n < 5 := by omega
 have f := zc (gG n (by omega) w); clear d
 go_enter Tryz.func12,Tryz.ntmps12
 go_wp2_with fail; go_at_call 6; refine b.out.mono ?_; rintro e l ⟨rfl,rfl⟩; go_wp2_with fail; go_at_call 14; refine f.out.mono ?_; rintro e m ⟨rfl,g⟩; have i := zc g; clear g b f; go_wp2_with fail
 go_ret
 have j : n = 0 \/ n = 1 \/ n = 2 \/ n = 3 \/ n = 4 := by omega
 rcases j with rfl | rfl | rfl | rfl | rfl
 all_goals exact ⟨_,rfl,zai (by kernel_rfl) (fun q p x5 l5 m6 => by kernel_rfl),i.out⟩
theorem bL {w w' : World} {b : Nat} (h : w.grownBy w' (some b)) (hb : w.heap.size <= b) : w.grownBy w' none :=
 ⟨h.os,h.tape,h.output,h.size,fun i hi _ => h.block i hi (by simp; omega)⟩
theorem pT {w w' : World} (h : w.grownBy w' none) (b : Nat) : w.grownBy w' (some b) := ⟨h.os,h.tape,h.output,h.size,fun i hi _ => h.block i hi (by simp)⟩
theorem fE {w w1 w2 : World} (h : w.grownBy w1 none) (h2 : w1.grownBy w2 (some w.heap.size)) : w.grownBy w2 none := bL (za (pT h _) h2) (Nat.le_refl _)
theorem Src.keptW {w0 : World} {b : Nat} {lv : Value} {w w' : World} {k : Nat} (h : Src w0 b lv w k) (hg : w.grownBy w' none) : Src w0 b lv w' k :=
 ⟨za h.gb (pT hg b),ze hg h.c0,ze hg h.c1,fun o => ye hg (a := ⟨b,o,none⟩) (show b < w.heap.size from World.block_lt_of_cell? w _ h.c0) (h.fz o) (by simp),h.le⟩
theorem zbd (w : World) (lv : Value) (k : Nat) (t : Nat) (hk : k <= 90000) : Src (w.alloc (.cells #[lv,.int .i64 k] t)) w.heap.size lv (w.alloc (.cells #[lv,.int .i64 k] t)) k :=
 ⟨zj _ _,by rw [World.cell?_alloc_at _ _ _ _ rfl]; rfl,by rw [World.cell?_alloc_at _ _ _ _ rfl]; rfl,fun o => World.frozen?_alloc_at _ _ _ _ rfl,hk⟩
theorem bi (a : Option Addr) (n c k : Nat) (h : Int) (w : World) (hk : k <= 100) (h1 : -9223372036854775808 <= h) (h2 : h <= 9223372036854775807) (hr : RawV (w.alloc (.cells #[.slice a n c,.int .i64 k] 43)) w.heap.size (.slice a n c)) :
  Calls Tryz.prog 5 #[.slice a n c,.int .i64 k,.int .i64 h] w fun e w' => ∃ g s1 s2,e = .returned (.slice (some ⟨g,0,none⟩) 2 2) /\ w'.cell? ⟨g,0,none⟩ = some (.string s1) /\ w'.cell? ⟨g,1,none⟩ = some (.string s2) /\ LibOK s1 (tV s1) /\ Beg s2 /\ s2.size <= 5000000 /\ w.grownBy w' none := by
 have j := zc (cz hr); have M := zc (zbd w (.slice a n c) k 43 (by omega)); have O := zc (fun w' => mT h w' h1 h2); have s := zc (fun (n : Nat) (hn : n < 10) w' => gG n hn w'); have Q : w.heap.size < (w.alloc (.cells #[.slice a n c,.int .i64 k] 43)).heap.size := World.block_lt_of_cell? _ _ M.out.c0; clear hr
 go_enter Tryz.func5,Tryz.ntmps5
 go_wp2_with fail
 go_loopw [8,9] (fun tv iv wr => ∃ (i t : Nat) (Y : ByteArray),i <= 2 /\ iv = .int .i64 ↑i /\ tv = .string Y /\ Hid (Beg Y) /\ Y.size <= 1000 + i * 700000 /\ t <= k + i * 9200 /\ Hid (Src (w.alloc (.cells #[.slice a n c,.int .i64 k] 43)) w.heap.size (.slice a n c) wr t) /\ Hid (w.grownBy wr none)) (fun _ iv _ => 2 - (intOf iv).toNat)
 case atStart => exact ⟨0,k,_,by omega,rfl,rfl,aE (by kernel_rfl),Nat.le_of_ble_eq_true (by kernel_rfl),by omega,M,zh grn _⟩
 case round =>
  obtain ⟨i,t,Y,_,rfl,rfl,u,_,_,v,x⟩ := hrel
  have R : Y.size <= 2000000 := by omega
  by_cases U : i < 2
  ·have z : i = 0 \/ i = 1 := by omega
   rcases z with rfl | rfl
   ·go_wp2_with fail
    go_at_call 14; refine (s.out 0 (by omega) _).mono ?_; rintro e A ⟨rfl,b⟩; have B := zc (v.out.keptW b); have l := zc (za x.out b); clear b; go_wp2_with fail; go_at_call 15; refine (j.out.two _ _ B.out (by omega)).mono ?_; rintro e m ⟨V,X,rfl,Z,C,s2,d⟩; have D := zc s2; have o : Hid (w.grownBy m none) := fE l.out d; clear s2 d; go_wp2_with fail; go_at_call 15; refine (j.out.one _ _ D.out (by omega)).mono ?_; rintro e E ⟨x3,F,rfl,l3,G,q,r⟩; have H := zc q; have I : Hid (w.grownBy E none) := fE o.out r; clear q r; go_wp2_with fail; go_at_call 14; refine (s.out 0 (by omega) _).mono ?_; rintro e w4 ⟨rfl,f⟩; have J := zc (H.out.keptW f); have K := zc (za I.out f); clear f; go_wp2_with fail; refine ⟨⟨1,F,_,by omega,by go_num,rfl,by repeat (first | exact u.out | refine Beg.app ?_ _),?_,by omega,J,K⟩,by simp [intOf]⟩; simp only [ByteArray.size_append,lsz,List.length_cons,List.length_nil]; omega
   ·go_wp2_with fail
    go_at_call 14; refine (s.out 1 (by omega) _).mono ?_; rintro e A ⟨rfl,b⟩; have B := zc (v.out.keptW b); have l := zc (za x.out b); clear b; go_wp2_with fail; go_at_call 15; refine (j.out.two _ _ B.out (by omega)).mono ?_; rintro e m ⟨V,X,rfl,Z,C,s2,d⟩; have D := zc s2; have o : Hid (w.grownBy m none) := fE l.out d; clear s2 d; go_wp2_with fail; go_at_call 15; refine (j.out.one _ _ D.out (by omega)).mono ?_; rintro e E ⟨x3,F,rfl,l3,G,q,r⟩; have H := zc q; have I : Hid (w.grownBy E none) := fE o.out r; clear q r; go_wp2_with fail; go_at_call 14; refine (s.out 1 (by omega) _).mono ?_; rintro e w4 ⟨rfl,f⟩; have J := zc (H.out.keptW f); have K := zc (za I.out f); clear f; go_wp2_with fail; refine ⟨⟨2,F,_,by omega,by go_num,rfl,by repeat (first | exact u.out | refine Beg.app ?_ _),?_,by omega,J,K⟩,by simp [intOf]⟩; simp only [ByteArray.size_append,lsz,List.length_cons,List.length_nil]; omega
  ·have L : i = 2 := by omega
   subst L; go_wp2_with fail; go_at_call 15; refine (j.out.one _ _ v.out (by omega)).mono ?_; rintro e A ⟨x1,k1,rfl,l1,a0,s1,b⟩; have l : Hid (w.grownBy A none) := fE x.out b; clear s1 b; go_wp2_with fail; go_at_call 12; refine (O.out _).mono ?_; rintro e m ⟨y,rfl,N,d⟩; have HY := zc N; have o := zc (za l.out d); clear d N; go_wp2_with fail
   go_ret
   refine ⟨m.heap.size,y,_,rfl,?_,by rw [World.cell?_alloc_at _ _ _ _ rfl]; rfl,HY.out,by repeat (first | exact u.out | refine Beg.app ?_ _),?_,zh o.out _⟩
   ·rw [World.cell?_alloc_at _ _ _ _ rfl]; rfl
   ·simp only [ByteArray.size_append,lsz,List.length_cons,List.length_nil]; omega
theorem bv {L : List Tok} (h : L.map Prod.fst = (ou []).map Prod.fst) : ∃ q,L = vN q := by
 refine ⟨fun i => (L[i]?.getD ([],0)).2,List.ext_getElem? fun i => ?_⟩
 unfold vN
 rw [<- h,List.getElem?_map,List.getElem?_zipIdx,List.getElem?_map]; cases b : L[i]? with
 | none => rfl
 | some x => simp [b]
theorem iR (r : List UInt8) : (ou r).map Prod.fst = (ou []).map Prod.fst := by
 unfold ou
 rw [List.map_map,List.map_map]
 rfl
theorem rJ (n : Nat) (l : List (List UInt8 × List UInt8)) : (xG n l).map Prod.fst = l.map Prod.fst := by
 unfold xG
 rw [List.map_map]
 rfl
theorem tn {t : List UInt8} {r : List UInt8} (ht : t = li ++ 32 :: r) (h4 : t.length <= 4000) {l : List (List UInt8 × List UInt8)} {n : T} {j : Nat} (hl : xS t = .ok l) (hw : xE (xG t.length l) 0 = .ok (n,j)) :
  ∃ q p x5 l5 m6,n = kE q p x5 l5 m6 /\ (∀ t ∈ l5,PW t /\ FA t) /\ l5.length <= 4020 /\ vR m6.subs = true /\ FA m6 := by
 have b := dR _ _ _ hl; have c : NumL (xG t.length l) := cL hl (rJ _ _); have d := hl; rw [ht,ig] at d; obtain ⟨f,g⟩ := rN _ _ _ d; obtain ⟨q,h⟩ := bv (L := xG t.length (ou (32 :: r))) (by rw [rJ,iR])
 have i : xG t.length l = vN q ++ xG t.length f := by
  rw [g,<- h]
  unfold xG
  rw [List.map_append]
 have e : (xG t.length l).length <= 4010 := by rw [vU]; omega
 rw [i] at hw c e; obtain ⟨p,x5,l5,m6,k⟩ := oU c e hw
 exact ⟨q,p,x5,l5,m6,k⟩
theorem i7 (q : Nat -> Int) : fitF 60 (bM q) = true /\ fitF 60 (cY q) = true /\ fitF 60 (tyT q) = true /\ fitF 60 (vaT q) = true := ⟨by kernel_rfl,by kernel_rfl,by kernel_rfl,by kernel_rfl⟩
section
variable {s1 s2 : ByteArray} {S1 S2 : KS} {w : World}
theorem nS (hl : LibOK s1 S1) (q : Nat -> Int) (p x5 : Int) (l5 : List T) (m6 : T) : ∃ S6,(S1.addMd { md0 with name := ug }).bodyH 1 (kE q p x5 l5 m6) = some S6 /\ dc 1 (some S6) = true /\ S6.mds.length = 2 /\ S6.factB = true := by
 have h := hl.main q p x5 l5 m6; cases b : (S1.addMd { md0 with name := ug }).bodyH 1 (kE q p x5 l5 m6) with
 | none => rw [b] at h; cases h
 | some S6 =>
  rw [b] at h; simp only [co,Bool.and_eq_true,decide_eq_true_eq] at h
  exact ⟨S6,rfl,h.1.1,h.1.2,h.2⟩
theorem mA (hl : LibOK s1 S1) {q : Nat -> Int} {p x5 : Int} {l5 : List T} {m6 : T} (h1 : ∀ t ∈ l5,PW t /\ FA t) (h2 : l5.length <= 4020) (h3 : vR m6.subs = true) (h4 : FA m6) : TextOK S1 (kE q p x5 l5 m6) := by
 obtain ⟨d,e,f,g⟩ := i7 q; obtain ⟨h,i,j,-,-⟩ := nS hl q p x5 l5 m6; refine ⟨fun t ht => ?_,⟨by show ug.length <= maxLen; decide,by show _ <= (2 : Int); decide,by show (2 : Int) <= _; decide,by show _ <= (0 : Int); decide,by show (0 : Int) <= _; decide⟩,hl.no,hl.ok1,?_,fun t ht => (h1 t ht).1,h3⟩
 ·have c : t ∈ [bM q,cY q,tyT q,vaT q,.mk 1 [] 0 x5 l5,m6] := ht
  simp only [List.mem_cons,List.not_mem_nil,or_false] at c
  rcases c with b | b | b | b | b | b <;> rw [b]
  ·exact ⟨60,d⟩
  ·exact ⟨60,e⟩
  ·exact ⟨60,f⟩
  ·exact ⟨60,g⟩
  ·exact FA.fitF (.mk (by simp) (by omega) (by omega) fun u hu => (h1 u hu).2)
  ·exact FA.fitF h4
 ·rw [hl.m1]
  obtain ⟨_,k,l,m,o,r,s,v⟩ := tO (n := l5.length) j (by omega); cases k
  exact ⟨h,i,l,m,o,r,s,v⟩
theorem aH (hl : LibOK s1 S1) (hb : Beg s2) (hz : s2.size <= 5000000) {g c : Nat} (c1 : w.cell? ⟨g,0,none⟩ = some (.string s1)) (c2 : w.cell? ⟨g,1,none⟩ = some (.string s2)) (h1 : 2 <= c) (h2 : c <= maxLen) (tab : Lib.TabIs Tryz.prog w "strings.asciiSpace" .u8 Lib.asciiSpaceTab) (err : HasErr w) : Two2 s1 s2 S1 w g 0 c := by
 obtain ⟨_,b⟩ := hb; refine ⟨Nat.le_trans hl.n1 (by decide),Nat.le_trans hz (by decide),fun _ => hl.t1,hl.e1,hl.m1,fun h4 l n j k1 k2 => ?_,c1,c2,h1,h2,tab,err⟩; obtain ⟨_,_,_,_,_,rfl,d,e,f,h⟩ := tn b h4 k1 k2
 exact mA hl d e f h
theorem mV {S6 S' : KS} {m : Nat} {n : T} (hk : S6.okB = true) (hm : m < S6.mds.length) (h : S6.bodyT m n = some S') : Gro m S6 S' := by
 obtain ⟨_,d,b⟩ := Option.bind_eq_some_iff.1 h; have c := fX hk hm d
 unfold KS.actsO at b
 split at b
 ·obtain ⟨u,-,b⟩ := Option.bind_eq_some_iff.1 b
  rw [<- Option.some.inj b]
  exact c.trans (pY c.ok (by rw [c.mds]; exact hm) _)
 ·cases b
theorem ll {S : KS} {x : List (Nm × Nat)} (h : S.factB = true) : KS.factB { S with mods := x } = true := by
 simp only [KS.factB,Bool.and_eq_true,List.all_eq_true] at h ⊢
 exact ⟨⟨⟨qk (S := S) rfl (fun _ e => e) h.1.1.1,qk (S := S) rfl (fun _ e => e) h.1.1.2⟩,qk (S := S) rfl (fun _ e => e) h.1.2⟩,fun j hj => ch (S := S) (S' := { S with mods := x }) rfl (fun _ e => e) (h.2 j hj)⟩
theorem lU (hl : LibOK s1 S1) (hb : Beg s2) (h : S1.addE s2.data.toList = some S2) : S2.factB = true /\ S2.tysB = true /\ S2.mds.length = 2 := by
 obtain ⟨_,i⟩ := hb
 unfold KS.addE at h
 split at h
 ·cases h
 rename_i h4
 split at h
 ·cases h
 rename_i l k1
 split at h
 ·cases h
 rename_i n j k2
 obtain ⟨q,p,b,c,d,rfl,_,_,_,_⟩ := tn i (by omega) k1 k2; obtain ⟨k,hb,m,f,o⟩ := nS hl q p b c d; rw [hl.m1] at h; rw [show (S1.addMd { md0 with name := (kE q p b c d).name }).bodyH 1 (kE q p b c d) = some k from hb,Option.bind_some] at h; obtain ⟨r,s,t⟩ := Option.bind_eq_some_iff.1 h; obtain ⟨B,u,v,e,x,-⟩ := tO (n := 0) m (by omega); cases u; have g := mV e x s; have z := bd e f g o; have A := g.full e v; rw [<- Option.some.inj t]
 exact ⟨ll z,A.ty,by show r.mds.length = 2; rw [g.mds,f]⟩
end
set_option maxHeartbeats 8000000
section
variable {w w' : World} {S1 S2 : KS} {s1 s2 : ByteArray} {g o c : Nat}
theorem aO (h : Two2 s1 s2 S1 w g o c) (hA : S1.addE s2.data.toList = some S2) (hm : S2.mds.length = 2) {k : Nat} (hk : k < 2) {x : Nm} (hx : x.length <= 100) {wd : Int} {pts : List Int} (hl : pts.length <= 1000) (hb : S2.ofB k x wd pts = true) :
  Calls Tryz.prog 8 #[.slice (some ⟨g,o,none⟩) 2 c,.int .i64 k,.string ⟨x.toArray⟩] w (fun e w' => w.grownBy w' none /\ ∃ v,e = .returned (.tuple #[.int .i64 wd,v,.nilIface]) /\ w'.ownsRow 0 3 1 v pts.length (pts.map (Value.int .i64))) := by
 unfold KS.ofB at hb
 cases b : S2.typeOf k x with
 | none => rw [b] at hb; cases hb
 | some i =>
  rw [b] at hb; simp only [Bool.and_eq_true,decide_eq_true_eq] at hb; obtain ⟨⟨⟨j,l⟩,m⟩,d⟩ := hb; have f := zbf h hA hk (by omega) x (Nat.le_trans hx (by decide)) b j l (by rw [d]; exact hl); rw [m,d] at f
  exact f
theorem cI (h : Two2 s1 s2 S1 w g o c) (hA : S1.addE s2.data.toList = some S2) (hm : S2.mds.length = 2) (hT : S2.tysB = true) {k : Nat} (hk : k < 2) {x y : Nm} (hx : x.length <= 100) {a wd : Int} (hb : S2.fdB k x y a wd = true) :
  Calls Tryz.prog 10 #[.slice (some ⟨g,o,none⟩) 2 c,.int .i64 k,.string ⟨x.toArray⟩,.string ⟨y.toArray⟩] w (fun e w' => w.grownBy w' none /\ e = .returned (.tuple #[.int .i64 a,.int .i64 wd,.nilIface])) := by
 unfold KS.fdB at hb
 cases f : S2.typeOf k x with
 | none => rw [f] at hb; cases hb
 | some i =>
  rw [f] at hb; simp only [Bool.and_eq_true,decide_eq_true_eq] at hb; obtain ⟨⟨l,m⟩,b⟩ := hb
  split at b
  ·cases b
  ·rename_i d q hf
   simp only [Bool.and_eq_true,decide_eq_true_eq] at b; have j := cQ h hA hT hk (by omega) x y (Nat.le_trans hx (by decide)) f l m hf b.1.2; rw [b.1.1,b.2] at j
   exact j
theorem lV {l : List Int} {a1 a2 : Option Addr} {n c1 c2 : Nat} (hn : n = l.length) (_hc1 : n <= c1) (_hc2 : c1 <= maxLen) (hc3 : n <= c2) (hc4 : c2 <= maxLen) (h1 : ∀ j u,l[j]? = some u -> ∃ g,a1 = some ⟨g,0,none⟩ /\ w.cell? ⟨g,j,none⟩ = some (.int .i64 u)) (h2 : ∀ j u,l[j]? = some u -> ∃ g,a2 = some ⟨g,0,none⟩ /\ w.cell? ⟨g,j,none⟩ = some (.int .i64 u)) :
  Calls Tryz.prog 9 #[.slice a1 n c1,.slice a2 n c2] w (fun e w' => e = .returned (.bool true) /\ w.grownBy w' none) := by
 have i := zc h1; have k := zc h2
 unfold maxLen at _hc2 hc4
 clear h1 h2
 go_enter Tryz.func9,Tryz.ntmps9
 go_wp2_with fail
 go_loopw [5] (fun iv wr => ∃ j : Nat,j <= n /\ iv = .int .i64 ↑j /\ Hid (w.grownBy wr none)) (fun iv _ => n - (intOf iv).toNat)
 case atStart => exact ⟨0,Nat.zero_le _,rfl,zj w none⟩
 case round =>
  obtain ⟨j,_,rfl,b⟩ := hrel
  by_cases m : j < n
  ·obtain ⟨u,d⟩ : ∃ u,l[j]? = some u := ⟨_,List.getElem?_eq_getElem (by omega)⟩
   obtain ⟨_,rfl,f⟩ := i.out j u d; obtain ⟨_,rfl,h⟩ := k.out j u d
   replace f := ze b.out f
   replace h := ze b.out h
   clear d; go_wp2_with fail
   go_region
   all_goals go_wp2_with fail
   all_goals go_roundw
   case rel => exact ⟨j + 1,by omega,by go_num,zf b.out⟩
   case measure => first | omega | (simp only [intOf]; omega) | (simp; omega)
  ·go_wp2
   go_ret
   exact ⟨rfl,b.out⟩
theorem oo (a : Option Addr) (n c : Nat) (k h : Int) (w : World) (hn : 256 < n) (hm : n <= maxLen) :
  Calls Tryz.prog 3 #[.slice a n c,.int .i64 k,.int .i64 h] w fun e w' => e = .returned (.bool true) /\ w.grownBy w' none := by
 unfold maxLen at hm
 go_enter Tryz.func3,Tryz.ntmps3
 go_wp2
 go_ret
 exact ⟨rfl,zj w none⟩
theorem nA (a : Option Addr) (n c : Nat) (k h : Int) (w : World) (hk1 : -9223372036854775808 <= k) (hk2 : k <= 9223372036854775807) (h1 : -9223372036854775808 <= h) (h2 : h <= 9223372036854775807) (htab : Lib.TabIs Tryz.prog w "strings.asciiSpace" .u8 Lib.asciiSpaceTab) (herr : HasErr w) (hn : n <= 256)
  (hr : ∀ k : Nat,RawV (w.alloc (.cells #[.slice a n c,.int .i64 k] 43)) w.heap.size (.slice a n c)) :
  Calls Tryz.prog 3 #[.slice a n c,.int .i64 k,.int .i64 h] w fun e w' => e = .returned (.bool true) /\ w.grownBy w' none := by
 have HP := zc (kK k 100 w hk1 hk2 (by omega) (by omega)); have I := uF (c := k) (n := 100) (by omega)
 generalize ux k 100 = q at HP I
 obtain ⟨m,rfl⟩ := Int.eq_ofNat_of_zero_le I.1; have HX := zc (bi a n c m h w (by omega) h1 h2 (hr m)); have HT := zc htab; have HE := zc herr; clear hr htab herr I
 go_enter Tryz.func3,Tryz.ntmps3
 go_wp2_with fail; go_at_call 6; refine HP.out.mono ?_; rintro e w1 ⟨rfl,hw⟩; have hw := hw.symm; subst hw; go_wp2_with fail; go_at_call 5; refine HX.out.mono ?_; rintro e w2 ⟨g,s1,s2,rfl,c0,c1,hL,hB,hz,d⟩; have GW := zc d; have H : Hid (Two2 s1 s2 (tV s1) w2 g 0 2) := aH hL hB hz c0 c1 (by omega) (by decide) (uH HT.out ⟨d.os,d.tape,d.output,d.size,fun i hi => d.block i hi (by simp)⟩) (HE.out.grown d (fun k e => by cases e)); have HF := zc (fun S2 => lU (S2 := S2) hL hB); have HC := zc (cZ H.out); clear HP HX c0 c1 hL hB d; go_wp2_with fail; go_at_call 7; refine HC.out.mono ?_; rintro e w3 ⟨f,⟨-,q,rfl⟩ | ⟨⟨S2,hA⟩,rfl⟩⟩
 ·have G3 := zc (za GW.out f)
  clear f; go_wp2
  go_ret
  exact ⟨rfl,G3.out⟩
 have G3 := zc f; have HA := zc hA; obtain ⟨N,hT,hm⟩ := HF.out S2 hA; simp only [KS.factB,Bool.and_eq_true,List.all_eq_true] at N; have a0 := zc N.1.1.1; have a3 := zc N.1.1.2; have a4 := zc N.1.2; have FF := zc N.2; have a5 := zc hT; clear f hA N hT HC HF; go_wp2_with fail; have a6 := zc (aO (H.out.up G3.out) HA.out hm (k := 0) (by omega) (x := [78,111,100,101]) (by decide) (wd := 2) (pts := [1]) (by decide) a0.out); go_at_call 8; refine a6.out.mono ?_; rintro e w4 ⟨b,v4,rfl,B⟩; have G4 := zc (za G3.out b); obtain ⟨b4,a7,rfl,O,Q,C⟩ := jt B; have a8 := zc C; clear b B C; go_wp2_with fail; have a9 := zc (aO (H.out.up G4.out) HA.out hm (k := 0) (by omega) (x := [66,105,103]) (by decide) (wd := 4) (pts := [1]) (by decide) a3.out); go_at_call 8; refine a9.out.mono ?_; rintro e w5 ⟨b,v5,rfl,D⟩; have E5 := zc b; have G5 := zc (za G4.out b); obtain ⟨b5,b7,rfl,R,U,E⟩ := jt D; have b8 := zc E; clear b D E; go_wp2_with fail; have b9 := zc (aO (H.out.up G5.out) HA.out hm (k := 1) (by omega) (x := [82,101,99]) (by decide) (wd := 4) (pts := [1,3]) (by decide) a4.out); go_at_call 8; refine b9.out.mono ?_; rintro e V ⟨b,v6,rfl,F⟩; have E6 := zc b; have G6 := zc (za G5.out b); obtain ⟨b6,c3,rfl,X,Y,G⟩ := jt F; have c4 := zc G; clear b F G; go_wp2_with fail; obtain ⟨y6,r⟩ : ∃ z,z = V.alloc (.cells #[.int .i64 1] 3) := ⟨_,rfl⟩
 have J : Hid (V.grownBy y6 none) := by rw [r]; exact zh grn _
 have c5 : Hid (Bk y6 V.heap.size [.int .i64 1]) := by rw [r]; exact Bk.new V _ _ rfl
 rw [<- r]; clear r
 have c6 := zc (lV (w := y6) (l := [1]) (a1 := b4) (a2 := some ⟨V.heap.size,0,none⟩) (n := 1) (c1 := a7) (c2 := 1) rfl O Q (by decide) (by decide) (fun t u hu => by
  obtain ⟨z,Z,e2⟩ := a8.out t (.int .i64 u) (by rw [List.getElem?_map,hu]; rfl)
  exact ⟨z,Z,ze (za (za E5.out E6.out) J.out) e2⟩) (fun t u hu => ⟨_,rfl,c5.out.c t _ (by
  match t,hu with
  | 0,hu => cases hu; rfl)⟩))
 go_at_call 9; refine c6.out.mono ?_; rintro e w7 ⟨rfl,b⟩; have G7 := zc (za (za G6.out J.out) b); have D7 := zc (za J.out b); clear b; go_wp2_with fail; obtain ⟨y7,s⟩ : ∃ z,z = w7.alloc (.cells #[.int .i64 1] 3) := ⟨_,rfl⟩
 have K : Hid (w7.grownBy y7 none) := by rw [s]; exact zh grn _
 have c7 : Hid (Bk y7 w7.heap.size [.int .i64 1]) := by rw [s]; exact Bk.new w7 _ _ rfl
 rw [<- s]; clear s
 have c8 := zc (lV (w := y7) (l := [1]) (a1 := b5) (a2 := some ⟨w7.heap.size,0,none⟩) (n := 1) (c1 := b7) (c2 := 1) rfl R U (by decide) (by decide) (fun t u hu => by
  obtain ⟨z,Z,e2⟩ := b8.out t (.int .i64 u) (by rw [List.getElem?_map,hu]; rfl)
  exact ⟨z,Z,ze (za (za E6.out D7.out) K.out) e2⟩) (fun t u hu => ⟨_,rfl,c7.out.c t _ (by
  match t,hu with
  | 0,hu => cases hu; rfl)⟩))
 go_at_call 9; refine c8.out.mono ?_; rintro e w8 ⟨rfl,b⟩; have G8 := zc (za (za G7.out K.out) b); have D8 := zc (za K.out b); clear b; go_wp2_with fail; obtain ⟨y8,v⟩ : ∃ z,z = w8.alloc (.cells #[.int .i64 1,.int .i64 3] 3) := ⟨_,rfl⟩
 have L : Hid (w8.grownBy y8 none) := by rw [v]; exact zh grn _
 have c9 : Hid (Bk y8 w8.heap.size [.int .i64 1,.int .i64 3]) := by rw [v]; exact Bk.new w8 _ _ rfl
 rw [<- v]; clear v
 have d0 := zc (lV (w := y8) (l := [1,3]) (a1 := b6) (a2 := some ⟨w8.heap.size,0,none⟩) (n := 2) (c1 := c3) (c2 := 2) rfl X Y (by decide) (by decide) (fun t u hu => by
  obtain ⟨z,Z,e2⟩ := c4.out t (.int .i64 u) (by rw [List.getElem?_map,hu]; rfl)
  exact ⟨z,Z,ze (za (za D7.out D8.out) L.out) e2⟩) (fun t u hu => ⟨_,rfl,c9.out.c t _ (by
  match t,hu with
  | 0,hu => cases hu; rfl
  | 1,hu => cases hu; rfl)⟩))
 go_at_call 9; refine d0.out.mono ?_; rintro e w9 ⟨rfl,b⟩; have G9 := zc (za (za G8.out L.out) b); have D9 := zc (za L.out b); clear b; go_wp2_with fail; obtain ⟨x9,A⟩ : ∃ z,z = w9.alloc (.cells #[.string ⟨#[118,97,108]⟩,.string ⟨#[110,101,120,116]⟩,.string ⟨#[109,111,114,101]⟩,.string ⟨#[111,110]⟩] 9) := ⟨_,rfl⟩
 have GN : Hid (w2.grownBy x9 none) := by rw [A]; exact zh G9.out _
 have BN : Hid (Bk x9 w9.heap.size [.string ⟨#[118,97,108]⟩,.string ⟨#[110,101,120,116]⟩,.string ⟨#[109,111,114,101]⟩,.string ⟨#[111,110]⟩]) := by rw [A]; exact Bk.new w9 _ _ rfl
 rw [<- A]; clear A
 go_loopw [18,19] (fun ev iv wr => ∃ j : Nat,j <= 4 /\ iv = .int .i64 ↑j /\ ev = .int .i64 ↑j /\ Hid (x9.grownBy wr none)) (fun _ iv _ => 4 - (intOf iv).toNat)
 case atStart => exact ⟨0,by omega,rfl,rfl,zj _ none⟩
 case round =>
  obtain ⟨j,_,rfl,rfl,M⟩ := hrel
  by_cases d1 : j < 4
  ·have hd := FF.out j (List.mem_range.2 d1)
   have d2 : Hid (∀ y,cq[j]?.getD [] = y -> Calls Tryz.prog 10 #[.slice (some ⟨g,0,none⟩) 2 2,.int .i64 0,.string ⟨#[66,105,103]⟩,.string ⟨y.toArray⟩] wr (fun e w' => wr.grownBy w' none /\ e = .returned (.tuple #[.int .i64 j,.int .i64 1,.nilIface]))) := fun y hy => cI (H.out.up (za GN.out M.out)) HA.out hm a5.out (k := 0) (by omega) (x := [66,105,103]) (by decide) (hy ▸ hd)
   have b0 := ze M.out (BN.out.c 0 _ rfl); have b1 := ze M.out (BN.out.c 1 _ rfl); have b2 := ze M.out (BN.out.c 2 _ rfl); have b3 := ze M.out (BN.out.c 3 _ rfl); clear hd
   have d3 : j = 0 \/ j = 1 \/ j = 2 \/ j = 3 := by omega
   rcases d3 with rfl | rfl | rfl | rfl
   all_goals (go_wp2_with fail; go_at_call 10; refine (d2.out _ rfl).mono ?_; rintro e wz ⟨b,rfl⟩; have GZ := zc (za M.out b); clear b b0 b1 b2 b3; go_wp2_with fail; go_roundw)
   all_goals first | exact ⟨1,by omega,rfl,rfl,GZ⟩ | exact ⟨2,by omega,rfl,rfl,GZ⟩ | exact ⟨3,by omega,rfl,rfl,GZ⟩ | exact ⟨4,by omega,rfl,rfl,GZ⟩ | (simp [intOf])
  ·obtain rfl : j = 4 := by omega
   go_wp2
   go_ret
   exact ⟨rfl,za (za GW.out GN.out) M.out⟩
end
end Go.Proofs.YtnmkffjklpfflaaGreatDoor
