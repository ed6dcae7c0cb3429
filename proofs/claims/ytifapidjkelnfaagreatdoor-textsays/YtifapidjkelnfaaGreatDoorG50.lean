/- The program's levels: close,of the last one. -/
import Derived.Test.YtifapidjkelnfaaGreatDoorG48
import Derived.Test.YtifapidjkelnfaaGreatDoorG49
import Derived.Test.YtifapidjkelnfaaGreatDoorG02
import Derived.Deep.RegionHeld
namespace Go.Proofs.YtifapidjkelnfaaGreatDoor
open Go.RowKit
set_option maxHeartbeats 2000000
set_option maxRecDepth 100000
theorem tX (w0 : World) (fb : Nat) (w : World) (t : T) (i : Nat) (acc : List T) (v : Value) (h : VS w0 fb w [⟨t,i,acc⟩] v) (hg : GT (.mk t.kind t.name t.num t.at' acc)) :
  Calls Tryz.prog 52 #[.pointer (some ⟨fb,0,none⟩)] w fun e w' => ∃ sv',e = .returned (.tuple #[zq (yo (.mk t.kind t.name t.num t.at' acc)) sv',.bool true]) /\ LR w' (fun k => w0.heap.size <= k) (yo (.mk t.kind t.name t.num t.at' acc)).subs sv' /\ w0.grownBy w' none := by
 obtain ⟨g,c,sv,_,_,_,rfl,j,_,_,_,y,G,H,z,n,f⟩ := VS.pop (l := []) h; have I := h.c0; have Y := h.z0; have Z := h.lt; have J := zc y.c0; obtain ⟨_,_,rfl⟩ := f.form; obtain ⟨_,_,rfl,_,_⟩ := z.form; obtain ⟨k,x,m,p,_⟩ := t; obtain ⟨A,B,C,D,K⟩ := y; simp only [List.length_nil,Nat.zero_mul,Nat.zero_add] at A B C D K G j n f I ⊢
 change w.cell? ⟨g,0,none⟩ = some (.int .i64 k) at A
 change w.cell? ⟨g,1,none⟩ = some (.string ⟨x.toArray⟩) at B
 change w.cell? ⟨g,2,none⟩ = some (.int .i64 m) at C
 change w.cell? ⟨g,3,none⟩ = some (.int .i64 p) at D
 have L := zb n
 have M := fun (w' : World) (h9 : (w.setCell ⟨fb,0,none⟩ (.slice (some ⟨g,0,none⟩) 0 c)).grownBy w' none) => zb (jT (.mk k x m p acc) _ _ w' (f.kept h9 (fun _ a => by cases a)) hg)
 change Calls _ _ _ _ (fun e w' => ∃ sv',e = .returned (.tuple #[zq (yo (.mk k x m p acc)) sv',.bool true]) /\ LR w' (fun k => w0.heap.size <= k) (yo (.mk k x m p acc)).subs sv' /\ w0.grownBy w' none)
 clear h H z f n hg
 generalize yo (.mk k x m p acc) = X at *
 obtain ⟨_,_,_,_,N⟩ := X
 go_enter Tryz.func52,Tryz.ntmps52
 go_wp2_with fail; go_at_call 90; refine ((M _ (zf (zf (zj (w.setCell ⟨fb,0,none⟩ (.slice (some ⟨g,0,none⟩) 0 c)) none) _) _))).mono ?_; rintro e E ⟨sx,rfl,r,d⟩; have s := d.size
 simp at s
 have O := zb r; obtain ⟨Q,R,rfl⟩ := r.form; have u : Hid (RB E w.heap.size) := ((RB.new' (by simp)).alloc _).kept d (by simp); have F : Hid (RB E (w.heap.size + 1)) := (RB.new' (by simp)).kept d (by simp); have U := za (zf (zf L.gb _) _) d
 have V : w0.heap.size <= w.heap.size := by omega
 obtain ⟨_,_,_,_,_,_,_,_,_,_,_⟩ := id u; obtain ⟨_,_,_,_,_,_,_,_,_,_,_⟩ := id F; have rl := u.lt; have nl := F.lt; clear r d; go_wp2_with fail; refine xC Tryz.results52 rfl rfl (RB.five (((((u.put _ _ _).put _ _ _).put _ _ _).put _ _ _).put _ _ _)) rfl ?_; refine ⟨.slice Q N.length R,rfl,?_,(yC (yC U (by omega)) (by omega))⟩; refine ((O.kept (xw (w.heap.size + 1)) (fun b hb a => ?_)).kept (xw w.heap.size) (fun b hb a => ?_)).mono (fun k a => ?_)
 ·cases hb
  rcases a with a | a
  ·have := a.2; omega
  ·simp at a; omega
 ·cases hb
  rcases a with a | a
  ·have := a.2; omega
  ·simp at a; omega
 ·rcases a with a | a
  ·exact a.1.1
  ·simp at a; omega
theorem sj (w0 : World) (fb : Nat) (w : World) (l : List Lv) (t : T) (i : Nat) (acc : List T) (v : Value) (h : VS w0 fb w (l ++ [⟨t,i,acc⟩]) v) (hl0 : 0 < l.length) (hg : GT (.mk t.kind t.name t.num t.at' acc)) (hid : xP (yo (.mk t.kind t.name t.num t.at' acc)) = true) :
  Calls Tryz.prog 52 #[.pointer (some ⟨fb,0,none⟩)] w fun e w' => ∃ v',e = .returned (.tuple #[ja,.bool false]) /\ VS w0 fb w' l v' := by
 obtain ⟨g,c,_,_,r,s,rfl,_,_,_,_,F,_,R,G,H,u⟩ := VS.pop h; have fc := h.c0; have fz := h.z0; have fl := h.lt; have U := zc F.c0; obtain ⟨_,_,rfl⟩ := u.form; obtain ⟨_,_,rfl,_,_⟩ := G.form; obtain ⟨k,x,m,p,_⟩ := t; obtain ⟨V,Y,Z,k3,_⟩ := F
 change w.cell? ⟨g,l.length * 7,none⟩ = some (.int .i64 k) at V
 change w.cell? ⟨g,l.length * 7 + 1,none⟩ = some (.string ⟨x.toArray⟩) at Y
 change w.cell? ⟨g,l.length * 7 + 2,none⟩ = some (.int .i64 m) at Z
 change w.cell? ⟨g,l.length * 7 + 3,none⟩ = some (.int .i64 p) at k3
 have HM := zb H; have n := (jM hg).1
 change GT (yo (.mk k x m p acc)) at n
 change xP (yo (.mk k x m p acc)) = true at hid
 have HP := fun (w' : World) (h9 : (w.setCell ⟨fb,0,none⟩ (.slice (some ⟨g,0,none⟩) l.length c)).grownBy w' none) => zb (jT (.mk k x m p acc) _ _ w' (u.kept h9 (fun _ f => by cases f)) hg)
 have a0 : ((l.length : Int) == 0) = false := bn (by omega)
 clear h R G u H hg
 generalize yo (.mk k x m p acc) = X at *
 have I := fun (y : Value) (S : Nat -> Prop) (w' : World) (h9 : LR w' S X.subs y) => zb (dv X y S w' h9 n)
 rw [hid] at I; obtain ⟨_,_,_,_,_⟩ := X
 go_enter Tryz.func52,Tryz.ntmps52
 go_wp2_with fail; go_at_call 90; refine ((HP _ (zf (zf (zj (w.setCell ⟨fb,0,none⟩ (.slice (some ⟨g,0,none⟩) l.length c)) none) _) _))).mono ?_; rintro e z ⟨y,rfl,A,a⟩; have B := a.size
 simp at B
 have L1 := zb A; obtain ⟨_,_,rfl⟩ := A.form; have C : Hid (RB z w.heap.size) := ((RB.new' (by simp)).alloc _).kept a (by simp); have J : Hid (RB z (w.heap.size + 1)) := (RB.new' (by simp)).kept a (by simp); obtain ⟨D,d⟩ : ∃ q,q = w.setCell ⟨fb,0,none⟩ (.slice (some ⟨g,0,none⟩) l.length c) := ⟨_,rfl⟩
 have a1 : D.heap.size = w.heap.size := by rw [d]; simp [World.setCell]
 have V1 : Hid (VM w0 fb w.heap.size D l (.slice (some ⟨g,0,none⟩) l.length c) r s) := by rw [d]; exact HM
 have G1 : Hid (D.grownBy z none) := by rw [d]; exact za (zf gan _) a
 clear d
 have a2 : w0.heap.size <= w.heap.size := by omega
 obtain ⟨_,_,_,_,_,K,L,M,N,O,Q⟩ := id C; obtain ⟨_,_,_,_,_,_,_,_,_,_,_⟩ := id J; have rl := C.lt; have nl := J.lt; clear A a; go_wp2_with fail; go_at_call 91
 refine ((I _ _ _ (L1.kept (xw (w.heap.size + 1)) (fun b hb f => by
  cases hb
  rcases f with f | f
  ·have := f.2; omega
  ·simp at f; omega)))).mono ?_
 rintro e w2 ⟨rfl,j⟩; have G2 := za (yC G1 (by omega)) j; have E := zb ((((((C.put _ _ _).put _ _ _).put _ _ _).put _ _ _).put _ _ _).kept j (by simp)); clear j K L M N O Q; obtain ⟨_,_,_,_,_,K,L,M,N,O,Q⟩ := id E; have a3 := E.lt; go_wp2_with fail; refine xC Tryz.results52 rfl rfl (RB.five E) rfl ?_
 exact ⟨_,rfl,(V1.grown (yC G2 (by omega))).vs⟩
theorem rM (ts : List T) (svs : List Value) (z X : T) (sz sx : Value) (h : svs.length = ts.length) : ((((((xg (ts ++ [z]) (svs ++ [sz])).set (ts.length * 5) (.int .i64 X.kind)).set (ts.length * 5 + 1) (.string ⟨X.name.toArray⟩)).set (ts.length * 5 + 2) (.int .i64 X.num)).set (ts.length * 5 + 3) (.int .i64 X.at')).set (ts.length * 5 + 4) sx) = xg (ts ++ [X]) (svs ++ [sx]) := by
 rw [vj _ _ _ _ h,vj _ _ _ _ h]; have a := yH ts svs h; rw [List.set_append_right _ _ (by omega),List.set_append_right _ _ (by omega),List.set_append_right _ _ (by omega),List.set_append_right _ _ (by omega),List.set_append_right _ _ (by omega),a]
 simp [xg,uy]
theorem LR.setLast {w : World} {S S2 S' : Nat -> Prop} {ts : List T} {z X : T} {g n c : Nat} {sx : Value} (h : LR w S (ts ++ [z]) (.slice (some ⟨g,0,none⟩) n c)) (hx : LR w S2 X.subs sx) (hd : ∀ k,S2 k -> k ≠ g) (h1 : ∀ k,S k -> S' k) (h2 : ∀ k,S2 k -> S' k) :
  LR (((((w.setCell ⟨g,ts.length * 5,none⟩ (.int .i64 X.kind)).setCell ⟨g,ts.length * 5 + 1,none⟩ (.string ⟨X.name.toArray⟩)).setCell ⟨g,ts.length * 5 + 2,none⟩ (.int .i64 X.num)).setCell ⟨g,ts.length * 5 + 3,none⟩ (.int .i64 X.at')).setCell ⟨g,ts.length * 5 + 4,none⟩ sx) S' (ts ++ [X]) (.slice (some ⟨g,0,none⟩) n c) := by
 obtain ⟨d,hl,own,s,f⟩ := h.own; rw [List.length_append,List.length_singleton] at hl own; obtain ⟨j,x,rfl,a⟩ := yK d _ hl
 have y : n = ts.length + 1 := by
  rcases own.2 with ⟨e,_⟩ | ⟨_,_,_,e,_⟩
  ·cases e
  ·cases e; rfl
 subst y; have u := ((((((own.stored (ts.length * 5) (.int .i64 X.kind)).1).stored (ts.length * 5 + 1) (.string ⟨X.name.toArray⟩)).1).stored (ts.length * 5 + 2) (.int .i64 X.num)).1.stored (ts.length * 5 + 3) (.int .i64 X.at')).1.stored (ts.length * 5 + 4) sx; rw [rM ts j z X x sx a] at u; have l : w.grownBy (((((w.setCell ⟨g,ts.length * 5,none⟩ (.int .i64 X.kind)).setCell ⟨g,ts.length * 5 + 1,none⟩ (.string ⟨X.name.toArray⟩)).setCell ⟨g,ts.length * 5 + 2,none⟩ (.int .i64 X.num)).setCell ⟨g,ts.length * 5 + 3,none⟩ (.int .i64 X.at')).setCell ⟨g,ts.length * 5 + 4,none⟩ sx) (some g) := z6 (z6 (z6 (z6 (z6 gr _ _) _ _) _ _) _ _) _ _; refine .mk _ _ _ (j ++ [sx]) (by simp [a]) (by rw [List.length_append,List.length_singleton]; exact u.1) (fun b hb => h1 b (s b hb)) (fun i t sv e1 e2 => ?_)
 rcases Nat.lt_or_ge i ts.length with r | r
 ·rw [List.getElem?_append_left r] at e1
  rw [List.getElem?_append_left (by omega)] at e2; have := f i t sv (by rw [List.getElem?_append_left r]; exact e1) (by rw [List.getElem?_append_left (by omega)]; exact e2)
  exact (this.kept l (fun b hb hk => hk.2 (by cases hb; rfl))).mono (fun k hk => ⟨h1 k hk.1,hk.2⟩)
 ·rw [List.getElem?_append_right r] at e1
  rw [List.getElem?_append_right (by omega)] at e2
  have m : i - ts.length = 0 := by
   rcases Nat.eq_zero_or_pos (i - ts.length) with v | v
   ·exact v
   ·rw [List.getElem?_eq_none (by simp; omega)] at e1; cases e1
  rw [m] at e1; rw [a,m] at e2; cases e1; cases e2
  exact (hx.kept l (fun b hb hk => by cases hb; exact hd g hk rfl)).mono (fun k hk => ⟨h2 k hk,fun e => by cases e; exact hd g hk rfl⟩)
theorem tP (l : List Lv) (svs pvs : List Value) (x y : Lv) (sv pv pv' : Value) (h1 : svs.length = l.length) (h2 : pvs.length = l.length) (ht : x.t = y.t) (hi : x.i = y.i) : (y8 (l ++ [x]) (svs ++ [sv]) (pvs ++ [pv])).set (l.length * 7 + 6) pv' = y8 (l ++ [y]) (svs ++ [sv]) (pvs ++ [pv']) := by
 rw [xm _ _ _ _ _ _ h1 h2,xm _ _ _ _ _ _ h1 h2]; have a := xq l svs pvs h1 h2; rw [List.set_append_right _ _ (by omega),a]
 simp [y8,ht,hi]
theorem VM.put {w0 : World} {fb m : Nat} {w w1 : World} {l : List Lv} {t : T} {i : Nat} {acc acc2 : List T} {g n c : Nat} {sv pv pv2 : Value} {svs pvs : List Value} (h : VM w0 fb m w (l ++ [⟨t,i,acc⟩]) (.slice (some ⟨g,0,none⟩) n c) (svs ++ [sv]) (pvs ++ [pv])) (hl1 : svs.length = l.length) (hl2 : pvs.length = l.length)
  (hg : w.grownBy w1 pv.ownBlock) (hr : LR w1 (Apart w0 fb g pvs) acc2 pv2) (hat : pv2.ownBlock = pv.ownBlock \/ ∀ b,pv2.ownBlock = some b -> m <= b) : VS w0 fb (w1.setCell ⟨g,l.length * 7 + 6,none⟩ pv2) (l ++ [⟨t,i,acc2⟩]) (.slice (some ⟨g,0,none⟩) n c) := by
 obtain ⟨F,G,H⟩ := h.hp l.length ⟨t,i,acc⟩ sv pv (by simp) (by rw [<- hl1]; simp) (by rw [<- hl2]; simp)
 have v : ∀ b,pv.ownBlock = some b -> Zone w0 fb (.slice (some ⟨g,0,none⟩) n c) (pvs ++ [pv]) l.length b /\ b < m := by
  obtain ⟨_,_,_,C,_⟩ := H.own
  exact C
 have y : g ≠ fb := fun e => h.rne (by rw [e]; rfl)
 have D : w0.heap.size <= g /\ g < m := h.hvr g rfl; have d : w1.grownBy (w1.setCell ⟨g,l.length * 7 + 6,none⟩ pv2) (some g) := z6 gr _ _
 have I : n = l.length + 1 := by
  rcases h.own.2 with ⟨e,_⟩ | ⟨_,_,_,e,_⟩
  ·cases e
  ·cases e; simp
 subst I
 have z : some fb ≠ pv.ownBlock := fun e => (v fb e.symm).1.2.1 rfl
 have J : some g ≠ pv.ownBlock := fun e => (v g e.symm).1.2.2.1 rfl
 have f := h.own.kept hg (.inr (fun e => J (by rw [<- e]; rfl))); rw [List.length_append,List.length_singleton] at f; refine ⟨y7 (qq h.gb hg (fun b hb => (v b hb).1.1)) D.1 _ _,h.flo,zO d (zO hg h.c0 z) (by simpa using fun e => y e.symm),yx d (Nat.lt_of_lt_of_le (zc h.c0) hg.size) (yx hg (zc h.c0) h.z0 z) (by simpa using fun e => y e.symm),h.rne,svs ++ [sv],pvs ++ [pv2],by simp [hl1],by simp [hl2],?_,fun j lv sv' pv' e1 e2 e3 => ?_⟩
 ·have A := (f.stored (l.length * 7 + 6) pv2).1
  rw [tP l svs pvs ⟨t,i,acc⟩ ⟨t,i,acc2⟩ sv pv pv2 hl1 hl2 rfl rfl] at A; rw [List.length_append,List.length_singleton]
  exact A
 ·have inr : ∀ (j : Nat) (q a : Value),j < pvs.length -> ((pvs ++ [a])[j]? = some q ↔ pvs[j]? = some q) := fun j q a x => by rw [List.getElem?_append_left x]
  rcases Nat.lt_or_ge j l.length with x | x
  ·rw [List.getElem?_append_left x] at e1
   rw [List.getElem?_append_left (by omega)] at e2 e3; obtain ⟨K,L,M⟩ := h.hp j lv sv' pv' (by rw [List.getElem?_append_left x]; exact e1) (by rw [List.getElem?_append_left (by omega)]; exact e2) (by rw [List.getElem?_append_left (by omega)]; exact e3); refine ⟨K,L,?_⟩
   have r : (pvs ++ [pv])[l.length]? = some pv := by rw [<- hl2]; simp
   have N := M.kept hg (fun b hb hk => hk.1.2.2.2 l.length pv r (by omega) hb); have O := N.kept d (fun b hb hk => hk.1.2.2.1 (by cases hb; rfl)); refine O.mono (fun k hk => ⟨hk.1.1,hk.1.2.1,hk.1.2.2.1,fun j' q hq hjj => ?_⟩)
   rcases Nat.lt_or_ge j' pvs.length with s | s
   ·rw [inr j' q pv2 s] at hq
    exact hk.1.2.2.2 j' q ((inr j' q pv s).2 hq) hjj
   ·rw [List.getElem?_append_right s] at hq
    have B : j' - pvs.length = 0 := by
     rcases Nat.eq_zero_or_pos (j' - pvs.length) with u | u
     ·exact u
     ·rw [List.getElem?_eq_none (by simp; omega)] at hq; cases hq
    rw [B] at hq; cases hq; intro e
    rcases hat with E | E
    ·exact hk.1.2.2.2 l.length pv r (by omega) (E ▸ e)
    ·have := E k e; have := hk.2; omega
  ·rw [List.getElem?_append_right x] at e1
   rw [List.getElem?_append_right (by omega)] at e2 e3
   have B : j - l.length = 0 := by
    rcases Nat.eq_zero_or_pos (j - l.length) with u | u
    ·exact u
    ·rw [List.getElem?_eq_none (by simp; omega)] at e1; cases e1
   rw [B] at e1; rw [hl1,B] at e2; rw [hl2,B] at e3; cases e1; cases e2; cases e3; refine ⟨F,G,(hr.kept d (fun b hb hk => by cases hb; exact hk.2.2.1 rfl)).mono (fun k hk => ⟨hk.1,hk.2.1,fun e => hk.2.2.1 (by cases e; rfl),fun j' q hq hjj => ?_⟩)⟩
   rcases Nat.lt_or_ge j' pvs.length with s | s
   ·rw [inr j' q pv2 s] at hq
    exact hk.2.2.2 j' q hq
   ·rw [List.getElem?_append_right s] at hq
    have Q : j' - pvs.length = 0 := by
     rcases Nat.eq_zero_or_pos (j' - pvs.length) with u | u
     ·exact u
     ·rw [List.getElem?_eq_none (by simp; omega)] at hq; cases hq
    omega
theorem xO (w : World) (a b : Addr) (u v : Value) (h : a.block ≠ b.block) : (w.setCell a u).setCell b v = (w.setCell b v).setCell a u := by
  simp only [World.setCell]
  congr 1
  apply Array.ext
  · simp
  · intro i g j
    simp only [Array.getElem_modify]
    by_cases f : a.block = i
    · by_cases d : b.block = i
      · exact absurd (f.trans d.symm) h
      · simp [f,d]
    · by_cases d : b.block = i <;> simp [f,d]
theorem VM.new {w0 : World} {fb m : Nat} {w : World} {l : List Lv} {g n c : Nat} {svs pvs pvs' : List Value} (h : VM w0 fb m w l (.slice (some ⟨g,0,none⟩) n c) svs (pvs ++ pvs')) {k : Nat} (hk : m <= k) : Apart w0 fb g pvs k := by
  have d := h.hvr g rfl; have f := h.hfm; have i := h.flo; refine ⟨by omega,by omega,by omega,fun j q hq e => ?_⟩
  have b : j < pvs.length := by
    rcases Nat.lt_or_ge j pvs.length with a | a
    · exact a
    · rw [List.getElem?_eq_none a] at hq; cases hq
  have := h.hpm j q (by rw [List.getElem?_append_left b]; exact hq) k e
  omega
theorem VM.last {w0 : World} {fb m : Nat} {w : World} {l : List Lv} {t : T} {i : Nat} {acc : List T} {g n c : Nat} {sv pv : Value} {svs pvs : List Value} (h : VM w0 fb m w (l ++ [⟨t,i,acc⟩]) (.slice (some ⟨g,0,none⟩) n c) (svs ++ [sv]) (pvs ++ [pv])) (hl1 : svs.length = l.length) (hl2 : pvs.length = l.length) : LR w (fun k => Apart w0 fb g pvs k /\ k < m) acc pv /\ ∀ b,pv.ownBlock = some b -> b < m := by
  obtain ⟨_,_,d⟩ := h.hp l.length ⟨t,i,acc⟩ sv pv (by simp) (by rw [<- hl1]; simp) (by rw [<- hl2]; simp); refine ⟨d.mono (fun k hk => ⟨⟨hk.1.1,hk.1.2.1,fun e => hk.1.2.2.1 (by rw [e]; rfl),fun j q hq => ?_⟩,hk.2⟩),fun b hb => h.hpm l.length pv (by rw [<- hl2]; simp) b hb⟩
  have f : j < pvs.length := by
    rcases Nat.lt_or_ge j pvs.length with a | a
    · exact a
    · rw [List.getElem?_eq_none a] at hq; cases hq
  exact hk.1.2.2.2 j q (by rw [List.getElem?_append_left f]; exact hq) (by omega)
def jA : T := .mk 0 [] 0 0 []
theorem gA {ops : Array Oper} {o : Oper} {a : Act} {w : World} {K : Act -> World -> Prop} {Q : Exit -> Act -> World -> Prop} {E : Prop} (hgd : o.guard = none) (s x : Operand)
    (ho : o.op = .call { callee := .builtin .append,args := #[s,x],argTypes := #[22,22] })
    {S S2 : Nat -> Prop} (S' : Nat -> Prop) {g m c : Nat} {ts us : List T} {v : Value} (hs : a.eval s = v) (hx : a.eval x = .slice (some ⟨g,0,none⟩) m c) (hl : LR w S ts v) (hu : LR w S2 us (.slice (some ⟨g,0,none⟩) m c))
    (hd : ∀ k,S2 k -> v.ownBlock ≠ some k) (h1 : ∀ k,S k -> S' k) (h2 : ∀ k,S2 k -> S' k) (h3 : S' w.heap.size) (hlen : ts.length + us.length <= 20000)
    (k : ∀ v' w',LR w' S' (ts ++ us) v' -> w.grownBy w' v.ownBlock -> (v'.ownBlock = v.ownBlock \/ v'.ownBlock = some w.heap.size) -> K (a.put o.dst v') w') :
    if Region.wanted o (yielded ops a.tmps) = true then Oper.wp Tryz.prog o a w K Q else E := by
  have H : Region.wanted o (yielded ops a.tmps) = true := by simp [Region.wanted,hgd]
  rw [if_pos H]; obtain ⟨I,r,y,z,A⟩ := info_parts Tryz.infoNode; obtain ⟨B,C,own,D,h⟩ := hl.own; obtain ⟨j,f,b,_,d⟩ := hu.own
  have J : m = us.length := by
    rcases b.2 with ⟨F,_⟩ | ⟨_,_,_,F,_⟩
    · cases F
    · cases F; rfl
  subst J; obtain ⟨v',w',L,l,G,_,n⟩ := run_append_own_at (P := Tryz.prog) w 0 22 o.type 24 I _ 5 64 Tryz.underlying22 r y z A rfl (by decide) v ts.length (xg ts B) own ⟨g,0,none⟩ us.length c (xg us j)
    (yH _ _ f) (b.cells rfl) (fun u hu' => ju us j f (fun i t sv ht hsv => (d i t sv ht hsv).form) u hu') (by unfold maxLen; omega) (by omega) (Nat.zero_le _)
  unfold Oper.wp execOp
  simp only [ho,resolve,invoke,builtin,Sem.run_bind,Sem.run_pure,Result.andThen_ok,List.map_toArray,List.map_cons,List.map_nil,hs,hx,L]
  exact k v' w' (LR.appendS D C h f (fun i t sv ht hsv => (d i t sv ht hsv).mono (fun k hk => hk.1)) hd h1 h2 h3 l G rfl n) G n
def vP (w : World) (g o : Nat) (X : T) (sx : Value) : World := ((((w.setCell ⟨g,o,none⟩ (.int .i64 X.kind)).setCell ⟨g,o + 1,none⟩ (.string ⟨X.name.toArray⟩)).setCell ⟨g,o + 2,none⟩ (.int .i64 X.num)).setCell ⟨g,o + 3,none⟩ (.int .i64 X.at')).setCell ⟨g,o + 4,none⟩ sx
theorem uD (w : World) (g o : Nat) (X : T) (sx : Value) (a : Addr) (u : Value) (h : a.block ≠ g) : vP (w.setCell a u) g o X sx = (vP w g o X sx).setCell a u := by
  unfold vP
  rw [xO w a _ u _ h,xO _ a _ u _ h,xO _ a _ u _ h,xO _ a _ u _ h,xO _ a _ u _ h]
theorem VM.close {w0 : World} {fb m : Nat} {ws w5 : World} {l : List Lv} {t : T} {i : Nat} {acc : List T} {g n c g5 n5 c5 : Nat} {sv pv : Value} {svs pvs : List Value} {X : T} {sx : Value} {S1 S2 : Nat -> Prop}
    (h : VM w0 fb m ws (l ++ [⟨t,i,acc⟩]) (.slice (some ⟨g,0,none⟩) n c) (svs ++ [sv]) (pvs ++ [pv])) (hl1 : svs.length = l.length) (hl2 : pvs.length = l.length)
    (g5b : ws.grownBy w5 pv.ownBlock) (hr : LR w5 S1 (acc ++ [jA]) (.slice (some ⟨g5,0,none⟩) n5 c5)) (hs1 : ∀ k,S1 k -> Apart w0 fb g pvs k)
    (hat : pv.ownBlock = some g5 \/ ws.heap.size <= g5) (hd : ∀ k,S2 k -> k ≠ g5)
    (hx : LR w5 S2 X.subs sx) (hs2 : ∀ k,S2 k -> Apart w0 fb g pvs k) :
    VS w0 fb ((vP w5 g5 (acc.length * 5) X sx).setCell ⟨g,l.length * 7 + 6,none⟩ (.slice (some ⟨g5,0,none⟩) n5 c5)) (l ++ [⟨t,i,acc ++ [X]⟩]) (.slice (some ⟨g,0,none⟩) n c) := by
  have a := h.hm; have d := LR.setLast (S' := Apart w0 fb g pvs) hr hx hd hs1 hs2; refine VM.put (w1 := vP w5 g5 (acc.length * 5) X sx) h hl1 hl2 ?_ d ?_
  · unfold vP
    rcases hat with e | hb
    · rw [e] at g5b ⊢
      exact z6 (z6 (z6 (z6 (z6 g5b _ _) _ _) _ _) _ _) _ _
    · exact y7 (y7 (y7 (y7 (y7 g5b hb _ _) hb _ _) hb _ _) hb _ _) hb _ _
  · rcases hat with e | hb
    · exact .inl e.symm
    · exact .inr (fun b hb' => by have : g5 = b := by simpa [Value.ownBlock] using hb'
                                  omega)
def vL (w : World) (g5 o : Nat) (X : T) (sx : Value) (a : Addr) (v : Value) : World := (vP w g5 o X sx).setCell a v
theorem vE (w : World) (g5 o : Nat) (X : T) (sx : Value) (a : Addr) (v : Value) (b : Addr) (u : Value) (h1 : b.block ≠ g5) (h2 : b.block ≠ a.block) : (vL w g5 o X sx a v).setCell b u = vL (w.setCell b u) g5 o X sx a v := by
  unfold vL
  rw [xO _ a b v u (fun e => h2 e.symm),uD w g5 o X sx b u h1]
theorem kz (w : World) (g5 o : Nat) (X : T) (sx : Value) (a : Addr) (v : Value) (rb : Nat) (z0 z1 z2 z3 z4 : Value) (h1 : rb ≠ g5) (h2 : rb ≠ a.block) : put5 (vL w g5 o X sx a v) rb z0 z1 z2 z3 z4 = vL (put5 w rb z0 z1 z2 z3 z4) g5 o X sx a v := by
  unfold put5
  rw [vE _ _ _ _ _ _ _ ⟨rb,0,none⟩ z0 h1 h2,vE _ _ _ _ _ _ _ ⟨rb,1,none⟩ z1 h1 h2,vE _ _ _ _ _ _ _ ⟨rb,2,none⟩ z2 h1 h2,vE _ _ _ _ _ _ _ ⟨rb,3,none⟩ z3 h1 h2,vE _ _ _ _ _ _ _ ⟨rb,4,none⟩ z4 h1 h2]
theorem rT (w0 : World) (fb : Nat) (w : World) (l9 : List Lv) (t9 : T) (i9 : Nat) (acc9 : List T) (t : T) (i : Nat) (acc : List T) (v : Value) (h : VS w0 fb w ((l9 ++ [⟨t9,i9,acc9⟩]) ++ [⟨t,i,acc⟩]) v) (hacc : acc9.length <= 3000) (hg : GT (.mk t.kind t.name t.num t.at' acc)) (hid : xP (yo (.mk t.kind t.name t.num t.at' acc)) = false) :
  Calls Tryz.prog 52 #[.pointer (some ⟨fb,0,none⟩)] w fun e w' => ∃ v',e = .returned (.tuple #[ja,.bool false]) /\ VS w0 fb w' (l9 ++ [⟨t9,i9,acc9 ++ [yo (.mk t.kind t.name t.num t.at' acc)]⟩]) v' := by
 obtain ⟨l,hl⟩ : ∃ q,q = l9 ++ [(⟨t9,i9,acc9⟩ : Lv)] := ⟨_,rfl⟩; rw [<- hl] at h
 have a9 : Hid (l.length = l9.length + 1) := by show _ = _; rw [hl]; simp
 have c7 := zb hl; clear hl; obtain ⟨g,c,sv,_,b9,pvs,rfl,_,_,_,_,n5,_,hf,ha,hm,hl⟩ := VS.pop h; have fc := h.c0; have fz := h.z0; have fl := h.lt; have d9 := zc n5.c0; obtain ⟨_,_,rfl⟩ := hl.form; obtain ⟨_,_,rfl,_,_⟩ := ha.form; obtain ⟨k,x,m,p,_⟩ := t; obtain ⟨k0,k1,k2,k3,_⟩ := n5
 change w.cell? ⟨g,l.length * 7,none⟩ = some (.int .i64 k) at k0
 change w.cell? ⟨g,l.length * 7 + 1,none⟩ = some (.string ⟨x.toArray⟩) at k1
 change w.cell? ⟨g,l.length * 7 + 2,none⟩ = some (.int .i64 m) at k2
 change w.cell? ⟨g,l.length * 7 + 3,none⟩ = some (.int .i64 p) at k3
 have HM := zb hm; have c1 := (jM hg).1
 change GT (yo (.mk k x m p acc)) at c1
 change xP (yo (.mk k x m p acc)) = false at hid
 change Calls _ _ _ _ (fun e w' => ∃ v',e = .returned (.tuple #[ja,.bool false]) /\ VS w0 fb w' (l9 ++ [⟨t9,i9,acc9 ++ [yo (.mk k x m p acc)]⟩]) v')
 have HP := fun (w' : World) (N : (w.setCell ⟨fb,0,none⟩ (.slice (some ⟨g,0,none⟩) l.length c)).grownBy w' none) => zb (jT (.mk k x m p acc) _ _ w' (hl.kept N (fun _ a => by cases a)) hg)
 have f0 : ((l.length : Int) == 0) = false := by rw [beq_eq_false_iff_ne]; have := a9.out; omega
 clear h hf ha hl hm hg
 generalize yo (.mk k x m p acc) = X at *
 have HI := fun (sx : Value) (S : Nat -> Prop) (w' : World) (N : LR w' S X.subs sx) => zb (dv X sx S w' N c1)
 rw [hid] at HI; obtain ⟨I,J,K,L,y⟩ := X
 go_enter Tryz.func52,Tryz.ntmps52
 go_wp2_with fail; go_at_call 90; refine ((HP _ (zf (zf (zj (w.setCell ⟨fb,0,none⟩ (.slice (some ⟨g,0,none⟩) l.length c)) none) _) _)).out).mono ?_; rintro e w1 ⟨sx,rfl,l1,a0⟩; have c8 := a0.size
 simp at c8
 have L1 := zb l1; obtain ⟨Y,Z,rfl⟩ := l1.form; have R1 : Hid (RB w1 w.heap.size) := ((RB.new' (by simp)).alloc _).kept a0 (by simp); have N1 : Hid (RB w1 (w.heap.size + 1)) := (RB.new' (by simp)).kept a0 (by simp); obtain ⟨ws,b0⟩ : ∃ q,q = w.setCell ⟨fb,0,none⟩ (.slice (some ⟨g,0,none⟩) l.length c) := ⟨_,rfl⟩
 have f1 : ws.heap.size = w.heap.size := by rw [b0]; simp [World.setCell]
 have H : Hid (VM w0 fb w.heap.size ws l (.slice (some ⟨g,0,none⟩) l.length c) b9 pvs) := by rw [b0]; exact HM.out
 have G1 : Hid (ws.grownBy w1 none) := by rw [b0]; exact za (zf gan _) a0
 clear b0
 have f2 : w0.heap.size <= w.heap.size := by omega
 obtain ⟨_,_,_,_,_,r0,r1,r2,r3,r4,rz⟩ := R1.out; obtain ⟨_,_,_,_,_,_,_,_,_,_,_⟩ := N1.out; have rl := R1.out.lt; have nl := N1.out.lt; clear l1 a0; go_wp2_with fail; go_at_call 91
 refine ((HI _ _ _ (L1.out.kept (xw (w.heap.size + 1)) (fun b hb a => by
  cases hb
  rcases a with a | a
  ·have := a.2; omega
  ·simp at a; omega))).out).mono ?_
 rintro e s ⟨rfl,a5⟩; have G2 := zb (za (yC G1.out (by omega)) a5); have R2 := zb ((((((R1.out.put _ _ _).put _ _ _).put _ _ _).put _ _ _).put _ _ _).kept a5 (by simp)); have N2 := zb ((RB.five N1.out (u0 := .int .i64 I) (u1 := .string ⟨J.toArray⟩) (u2 := .int .i64 K) (u3 := .int .i64 L) (u4 := .slice Y y.length Z)).kept a5 (by simp))
 have L2 := zb ((L1.out.kept (xw (w.heap.size + 1)) (fun b hb a => by
  cases hb
  rcases a with a | a
  ·have := a.2; omega
  ·simp at a; omega)).kept a5 (fun _ a => by cases a))
 clear a5 r0 r1 r2 r3 r4 rz; obtain ⟨_,_,_,_,_,r0,r1,r2,r3,r4,rz⟩ := R2.out; have f3 := R2.out.lt; obtain ⟨c2,d0,rfl,O⟩ := yK b9 l9.length (by rw [H.out.h1,a9.out]); obtain ⟨d,b1,rfl,Q⟩ := yK pvs l9.length (by rw [H.out.h2,a9.out]); have d1 := c7.out; subst d1
 have c9 : ws.cell? ⟨g,l9.length * 7 + 6,none⟩ = some b1 := by
  have ho := H.out.own; rw [List.length_append,List.length_singleton] at ho
  exact (ho.cellAt (l9.length * 7 + 6) (by omega)).trans (vQ l9 c2 d ⟨t9,i9,acc9⟩ d0 b1 O Q 6)
 have b2 := zg G2.out c9; have b3 := (H.out.grown G2.out).c0; rw [List.length_append,List.length_singleton] at b3
 have f4 : l9.length <= 9223372036854775807 := by have := a9.out; omega
 go_wp2_with fail
 have LX : Hid (LR s (fun k => (Apart w0 fb g (d ++ [b1]) k /\ k ≠ w.heap.size) /\ k < s.heap.size) y (.slice Y y.length Z)) := L2.out.bounded.mono (fun k a => ⟨by
  rcases a.1 with h | h
  ·exact ⟨h.1,by have := h.2; omega⟩
  ·have N : w.heap.size + 2 <= k := by simpa using h
   exact ⟨VM.new (pvs' := []) (by rw [List.append_nil]; exact H.out) (by omega),by omega⟩,a.2⟩)
 obtain ⟨b4,c3⟩ := VM.last H.out O Q; have LA := zb b4; have LP := zb c3; obtain ⟨R,U,rfl⟩ := b4.form; have f5 := (H.out.hvr g rfl).2
 have c4 : ∀ o,s.frozen? ⟨g,o,none⟩ = false := fun o => (H.out.grown G2.out).own.frozenAt o
 have c6 : ∀ b,(Value.slice R acc9.length U).ownBlock = some b -> b ≠ g /\ b < w.heap.size := fun b hb => by
  obtain ⟨_,_,_,d2,_⟩ := LA.out.own; have h8 := d2 b hb
  exact ⟨h8.1.2.2.1,h8.2⟩
 have u := zb c6; clear c6; clear b4 c3 L1 L2 HP HI HM; refine wp_region_held_drew (S := (fun w' => NB w' (w.heap.size + 1) (.int .i64 I) (.string ⟨J.toArray⟩) (.int .i64 K) (.int .i64 L) (.slice Y y.length Z))) (by kernel_rfl) ?_ (fun hHeld => ?_)
 ·exact N2.out.drew
 refine tk 0 (.pointer (some ⟨g,l9.length * 7,none⟩)) rfl (fun _ _ => by go_simp) hHeld ?_; simp only [Act.put,List.setIfInBounds_toArray]; refine tk 1 (.pointer (some ⟨g,l9.length * 7,none⟩)) rfl (fun _ _ => by go_simp) hHeld ?_; simp only [Act.put]; refine tk 2 (.pointer (some ⟨g,l9.length * 7 + 6,none⟩)) rfl (fun _ _ => by go_simp) hHeld ?_; simp only [Act.put]; refine tk 4 (.agg #[.int .i64 I,.string ⟨J.toArray⟩,.int .i64 K,.int .i64 L,.slice Y y.length Z]) rfl (fun _ ⟨_,_,_,_,_,_⟩ => by go_simp) hHeld ?_; simp only [Act.put]; refine wpAnyH_ready (rs := [3,6]) (by kernel_rfl) (by simp) ?_; refine AllReadyH.cons rfl (fun KK hKK => ?_) (AllReadyH.cons rfl (fun KK hKK => ?_) AllReadyH.nil)
 ·go_simp
  refine hKK.out _ _ hHeld fun hHeld => ?_
  clear hKK KK; refine tk 5 (.int .i64 (acc9.length : Int)) rfl (fun _ _ => by go_simp) hHeld ?_; simp only [Act.put,List.setIfInBounds_toArray]; refine rd 6 rfl fun KK hKK => ?_
  go_simp
  refine hKK.out _ _ ((N2.out.alloc _).drew) fun hHeld => ?_
  clear hKK KK; refine rd 7 rfl fun KK hKK => ?_; obtain ⟨wa,z⟩ : ∃ q,q = (s.alloc (.cells #[.int .i64 0,.string ⟨#[]⟩,.int .i64 0,.int .i64 0,.slice none 0 0] 24)).drew := ⟨_,rfl⟩; rw [<- z] at hHeld ⊢
  have GW : Hid (s.grownBy wa none) := by rw [z]; exact ze gan
  have b5 : wa.heap.size = s.heap.size + 1 := by rw [z]; simp [World.drew]
  have UA : Hid (LR wa (fun k => s.heap.size <= k) [jA] (.slice (some ⟨s.heap.size,0,none⟩) 1 1)) := by rw [z]; exact ((LR.build1 s (lo := s.heap.size) (t := jA) (sv := .slice none 0 0) (LR.nil s _) rfl rfl (Nat.le_refl _)).mono (fun k a => a.1)).kept (ze grn) (fun _ a => by cases a)
  clear z; have V := zb (za G2.out GW.out); refine gA (S' := fun k => Apart w0 fb g d k /\ k ≠ w.heap.size) (ts := acc9) (us := [jA]) (v := .slice R acc9.length U) (g := s.heap.size) (m := 1) (c := 1) rfl (.tmp 57) (.tmp 60) rfl (by simp [Act.eval]) (by simp [Act.eval]) (LA.out.kept V.out (fun _ a => by cases a)) UA.out (fun k a e => by have := (u.out k e).2; omega) (fun k a => ⟨a.1,by have := a.2; omega⟩) (fun k a => ⟨VM.new H.out (by omega),by omega⟩) ⟨VM.new H.out (by omega),by omega⟩ (by simp; omega) ?_; intro v5 B C A F; obtain ⟨n,c5,d3,e5,G,b6,b7,⟨z0,z1,z2,z3,z4⟩,-⟩ := C.nodeS acc9.length jA (by simp)
  have d4 : ∀ o,B.frozen? ⟨n,o,none⟩ = false := fun o => by
   obtain ⟨_,_,own,_⟩ := C.own; rw [e5] at own
   exact own.frozenAt o
  rw [List.length_append,List.length_singleton] at e5 G; subst e5
  have r : (Value.slice R acc9.length U).ownBlock = some n \/ s.heap.size + 1 = n := by
   rcases F with e | e
   ·exact .inl e.symm
   ·right
    have : n = wa.heap.size := by simpa [Value.ownBlock] using e
    omega
  have a6 : n < w.heap.size \/ s.heap.size < n := by
   rcases r with e | e
   ·exact .inl (u.out n e).2
   ·right; omega
  have f : n ≠ w.heap.size + 1 := by omega
  have b8 : n ≠ w.heap.size := by omega
  have a7 : n ≠ g := by
   rcases r with e | e
   ·exact (u.out n e).1
   ·omega
  have G5 : Hid (ws.grownBy B (Value.slice R acc9.length U).ownBlock) := za ⟨V.out.os,V.out.tape,V.out.output,V.out.size,fun k a _ => V.out.block k a (by simp)⟩ A
  have M : ∀ b,w.heap.size <= b -> some b ≠ (Value.slice R acc9.length U).ownBlock := fun b hb e => by have := (u.out b e.symm).2; omega
  have d5 : B.cell? ⟨g,l9.length * 7 + 6,none⟩ = some (.slice R acc9.length U) := zO G5.out c9 (fun e => (u.out g e.symm).1 rfl)
  have d6 : ∀ o,B.frozen? ⟨g,o,none⟩ = false := fun o => yx G5.out (by show g < _; omega) (H.out.own.frozenAt o) (fun e => (u.out g e.symm).1 rfl)
  have R5 : Hid (RB B w.heap.size) := (R2.out.kept GW.out (by simp)).kept A (M _ (Nat.le_refl _)); have N5 : Hid (NB B (w.heap.size + 1) (.int .i64 I) (.string ⟨J.toArray⟩) (.int .i64 K) (.int .i64 L) (.slice Y y.length Z)) := hHeld.kept A (M _ (by omega))
  have VF : Hid (∀ y0 y1 y2 y3 y4,VS w0 fb (put5 (vL B n (acc9.length * 5) (.mk I J K L y) (.slice Y y.length Z) ⟨g,l9.length * 7 + 6,none⟩ (.slice (some ⟨n,0,none⟩) (acc9.length + 1) c5)) w.heap.size y0 y1 y2 y3 y4) (l9 ++ [⟨t9,i9,acc9 ++ [(.mk I J K L y)]⟩]) (.slice (some ⟨g,0,none⟩) (l9 ++ [(⟨t9,i9,acc9⟩ : Lv)]).length c)) := fun y0 y1 y2 y3 y4 => by
   rw [kz _ _ _ _ _ _ _ _ _ _ _ _ _ (fun e => b8 e.symm) (by show w.heap.size ≠ g; omega)]; refine VM.close (S1 := fun k => Apart w0 fb g d k /\ k ≠ w.heap.size) (S2 := fun k => (Apart w0 fb g (d ++ [.slice R acc9.length U]) k /\ k ≠ w.heap.size) /\ k < s.heap.size) H.out O Q (rC G5.out (by omega) _ _ _ _ _) (C.kept (xw w.heap.size) (fun b hb a => a.2 (by cases hb; rfl))) (fun k a => a.1) (r.imp id (fun e => by omega)) ?_ ?_ ?_
   ·intro k a e
    rw [e] at a
    rcases r with e | e
    ·exact a.1.1.2.2.2 d.length _ (by simp) e
    ·have := a.2; omega
   ·refine ((LX.out.kept GW.out (fun _ a => by cases a)).kept A (fun b hb a => a.1.1.2.2.2 d.length _ (by simp) hb)).kept (xw w.heap.size) (fun b hb a => a.1.2 (by cases hb; rfl))
   ·intro k a
    obtain ⟨a1,a2,a3,a4⟩ := a.1.1; refine ⟨a1,a2,a3,fun j q hq => a4 j q ?_⟩
    have hj : j < d.length := by
     rcases Nat.lt_or_ge j d.length with N | N
     ·exact N
     ·rw [List.getElem?_eq_none N] at hq; cases hq
    rw [List.getElem?_append_left hj]; exact hq
  have VG : Hid (∀ y0 y1 y2 y3 y4,VS w0 fb (put5 (vP (B.setCell ⟨g,l9.length * 7 + 6,none⟩ (.slice (some ⟨n,0,none⟩) (acc9.length + 1) c5)) n (acc9.length * 5) (.mk I J K L y) (.slice Y y.length Z)) w.heap.size y0 y1 y2 y3 y4) (l9 ++ [⟨t9,i9,acc9 ++ [.mk I J K L y]⟩]) (.slice (some ⟨g,0,none⟩) (l9 ++ [(⟨t9,i9,acc9⟩ : Lv)]).length c)) := fun y0 y1 y2 y3 y4 => by
   have h8 := VF.out y0 y1 y2 y3 y4; rw [vL,<- uD B n (acc9.length * 5) (.mk I J K L y) (.slice Y y.length Z) ⟨g,l9.length * 7 + 6,none⟩ (.slice (some ⟨n,0,none⟩) (acc9.length + 1) c5) (fun e => a7 e.symm)] at h8
   exact h8
  have D := VF.out; have E := VG.out; simp only [put5,vL,vP,T.kind,T.name,T.num,T.at'] at D E; have D := zb D; have E := zb E; clear VF VG
  have a8 : g ≠ w.heap.size + 1 := by omega
  have d7 : g ≠ w.heap.size := by omega
  obtain ⟨_,_,_,_,_,r0,r1,r2,r3,r4,rz⟩ := R5.out; have d8 := R5.out.lt; refine hKK.out _ _ N5.out fun hHeld => ?_
  clear hKK KK A C M F r a6 b5 G b6 b7 c9 b2 c4 b3; refine tk 8 (.pointer (some ⟨n,acc9.length * 5,none⟩)) rfl (fun w9 _ => by go_simp; intro N; omega) hHeld ?_; simp only [Act.put,List.setIfInBounds_toArray]; refine tk 10 (.pointer (some ⟨g,l9.length * 7,none⟩)) rfl (fun _ _ => by go_simp) hHeld ?_; simp only [Act.put]; refine tk 11 (.pointer (some ⟨g,l9.length * 7 + 6,none⟩)) rfl (fun _ _ => by go_simp) hHeld ?_; simp only [Act.put]; refine wpAnyH_ready (rs := [9,12]) (by kernel_rfl) (by simp) ?_; refine AllReadyH.cons rfl (fun KK hKK => ?_) (AllReadyH.cons rfl (fun KK hKK => ?_) AllReadyH.nil)
  ·go_simp
   refine hKK.out _ _ (((((hHeld.far f _ _).far f _ _).far f _ _).far f _ _).far f _ _) fun hHeld => ?_
   clear hKK KK; refine rd 12 rfl fun KK hKK => ?_
   go_simp
   refine hKK.out _ _ (hHeld.far a8 _ _) fun hHeld => ?_
   clear hKK KK; refine wpAnyH_done (by kernel_rfl) ?_ _; clear hHeld; go_wp2_with fail; refine xC Tryz.results52 rfl rfl (RB.five ((((((R5.out.put _ _ _).put _ _ _).put _ _ _).put _ _ _).put _ _ _).put _ _ _)) rfl ?_
   exact ⟨_,rfl,D.out _ _ _ _ _⟩
  ·go_simp
   refine hKK.out _ _ (hHeld.far a8 _ _) fun hHeld => ?_
   clear hKK KK; refine rd 9 rfl fun KK hKK => ?_
   go_simp
   refine hKK.out _ _ (((((hHeld.far f _ _).far f _ _).far f _ _).far f _ _).far f _ _) fun hHeld => ?_
   clear hKK KK; refine wpAnyH_done (by kernel_rfl) ?_ _; clear hHeld; go_wp2_with fail; refine xC Tryz.results52 rfl rfl (RB.five ((((((R5.out.put _ _ _).put _ _ _).put _ _ _).put _ _ _).put _ _ _).put _ _ _)) rfl ?_
   exact ⟨_,rfl,E.out _ _ _ _ _⟩
 ·go_simp
  refine hKK.out _ _ ((N2.out.alloc _).drew) fun hHeld => ?_
  clear hKK KK
  have f6 := fun o => zg (zf grn o) b2
  refine rd 3 rfl fun KK hKK => ?_
  go_simp
  refine hKK.out _ _ hHeld fun hHeld => ?_
  clear hKK KK; refine tk 5 (.int .i64 (acc9.length : Int)) rfl (fun _ _ => by go_simp) hHeld ?_; simp only [Act.put,List.setIfInBounds_toArray]; refine rd 7 rfl fun KK hKK => ?_; obtain ⟨wa,z⟩ : ∃ q,q = (s.alloc (.cells #[.int .i64 0,.string ⟨#[]⟩,.int .i64 0,.int .i64 0,.slice none 0 0] 24)).drew := ⟨_,rfl⟩; rw [<- z] at hHeld ⊢
  have GW : Hid (s.grownBy wa none) := by rw [z]; exact ze gan
  have b5 : wa.heap.size = s.heap.size + 1 := by rw [z]; simp [World.drew]
  have UA : Hid (LR wa (fun k => s.heap.size <= k) [jA] (.slice (some ⟨s.heap.size,0,none⟩) 1 1)) := by rw [z]; exact ((LR.build1 s (lo := s.heap.size) (t := jA) (sv := .slice none 0 0) (LR.nil s _) rfl rfl (Nat.le_refl _)).mono (fun k a => a.1)).kept (ze grn) (fun _ a => by cases a)
  clear z; have V := zb (za G2.out GW.out); refine gA (S' := fun k => Apart w0 fb g d k /\ k ≠ w.heap.size) (ts := acc9) (us := [jA]) (v := .slice R acc9.length U) (g := s.heap.size) (m := 1) (c := 1) rfl (.tmp 57) (.tmp 60) rfl (by simp [Act.eval]) (by simp [Act.eval]) (LA.out.kept V.out (fun _ a => by cases a)) UA.out (fun k a e => by have := (u.out k e).2; omega) (fun k a => ⟨a.1,by have := a.2; omega⟩) (fun k a => ⟨VM.new H.out (by omega),by omega⟩) ⟨VM.new H.out (by omega),by omega⟩ (by simp; omega) ?_; intro v5 B C A F; obtain ⟨n,c5,d3,e5,G,b6,b7,⟨z0,z1,z2,z3,z4⟩,-⟩ := C.nodeS acc9.length jA (by simp)
  have d4 : ∀ o,B.frozen? ⟨n,o,none⟩ = false := fun o => by
   obtain ⟨_,_,own,_⟩ := C.own; rw [e5] at own
   exact own.frozenAt o
  rw [List.length_append,List.length_singleton] at e5 G; subst e5
  have r : (Value.slice R acc9.length U).ownBlock = some n \/ s.heap.size + 1 = n := by
   rcases F with e | e
   ·exact .inl e.symm
   ·right
    have : n = wa.heap.size := by simpa [Value.ownBlock] using e
    omega
  have a6 : n < w.heap.size \/ s.heap.size < n := by
   rcases r with e | e
   ·exact .inl (u.out n e).2
   ·right; omega
  have f : n ≠ w.heap.size + 1 := by omega
  have b8 : n ≠ w.heap.size := by omega
  have a7 : n ≠ g := by
   rcases r with e | e
   ·exact (u.out n e).1
   ·omega
  have G5 : Hid (ws.grownBy B (Value.slice R acc9.length U).ownBlock) := za ⟨V.out.os,V.out.tape,V.out.output,V.out.size,fun k a _ => V.out.block k a (by simp)⟩ A
  have M : ∀ b,w.heap.size <= b -> some b ≠ (Value.slice R acc9.length U).ownBlock := fun b hb e => by have := (u.out b e.symm).2; omega
  have d5 : B.cell? ⟨g,l9.length * 7 + 6,none⟩ = some (.slice R acc9.length U) := zO G5.out c9 (fun e => (u.out g e.symm).1 rfl)
  have d6 : ∀ o,B.frozen? ⟨g,o,none⟩ = false := fun o => yx G5.out (by show g < _; omega) (H.out.own.frozenAt o) (fun e => (u.out g e.symm).1 rfl)
  have R5 : Hid (RB B w.heap.size) := (R2.out.kept GW.out (by simp)).kept A (M _ (Nat.le_refl _)); have N5 : Hid (NB B (w.heap.size + 1) (.int .i64 I) (.string ⟨J.toArray⟩) (.int .i64 K) (.int .i64 L) (.slice Y y.length Z)) := hHeld.kept A (M _ (by omega))
  have VF : Hid (∀ y0 y1 y2 y3 y4,VS w0 fb (put5 (vL B n (acc9.length * 5) (.mk I J K L y) (.slice Y y.length Z) ⟨g,l9.length * 7 + 6,none⟩ (.slice (some ⟨n,0,none⟩) (acc9.length + 1) c5)) w.heap.size y0 y1 y2 y3 y4) (l9 ++ [⟨t9,i9,acc9 ++ [(.mk I J K L y)]⟩]) (.slice (some ⟨g,0,none⟩) (l9 ++ [(⟨t9,i9,acc9⟩ : Lv)]).length c)) := fun y0 y1 y2 y3 y4 => by
   rw [kz _ _ _ _ _ _ _ _ _ _ _ _ _ (fun e => b8 e.symm) (by show w.heap.size ≠ g; omega)]; refine VM.close (S1 := fun k => Apart w0 fb g d k /\ k ≠ w.heap.size) (S2 := fun k => (Apart w0 fb g (d ++ [.slice R acc9.length U]) k /\ k ≠ w.heap.size) /\ k < s.heap.size) H.out O Q (rC G5.out (by omega) _ _ _ _ _) (C.kept (xw w.heap.size) (fun b hb a => a.2 (by cases hb; rfl))) (fun k a => a.1) (r.imp id (fun e => by omega)) ?_ ?_ ?_
   ·intro k a e
    rw [e] at a
    rcases r with e | e
    ·exact a.1.1.2.2.2 d.length _ (by simp) e
    ·have := a.2; omega
   ·refine ((LX.out.kept GW.out (fun _ a => by cases a)).kept A (fun b hb a => a.1.1.2.2.2 d.length _ (by simp) hb)).kept (xw w.heap.size) (fun b hb a => a.1.2 (by cases hb; rfl))
   ·intro k a
    obtain ⟨a1,a2,a3,a4⟩ := a.1.1; refine ⟨a1,a2,a3,fun j q hq => a4 j q ?_⟩
    have hj : j < d.length := by
     rcases Nat.lt_or_ge j d.length with N | N
     ·exact N
     ·rw [List.getElem?_eq_none N] at hq; cases hq
    rw [List.getElem?_append_left hj]; exact hq
  have VG : Hid (∀ y0 y1 y2 y3 y4,VS w0 fb (put5 (vP (B.setCell ⟨g,l9.length * 7 + 6,none⟩ (.slice (some ⟨n,0,none⟩) (acc9.length + 1) c5)) n (acc9.length * 5) (.mk I J K L y) (.slice Y y.length Z)) w.heap.size y0 y1 y2 y3 y4) (l9 ++ [⟨t9,i9,acc9 ++ [.mk I J K L y]⟩]) (.slice (some ⟨g,0,none⟩) (l9 ++ [(⟨t9,i9,acc9⟩ : Lv)]).length c)) := fun y0 y1 y2 y3 y4 => by
   have h8 := VF.out y0 y1 y2 y3 y4; rw [vL,<- uD B n (acc9.length * 5) (.mk I J K L y) (.slice Y y.length Z) ⟨g,l9.length * 7 + 6,none⟩ (.slice (some ⟨n,0,none⟩) (acc9.length + 1) c5) (fun e => a7 e.symm)] at h8
   exact h8
  have D := VF.out; have E := VG.out; simp only [put5,vL,vP,T.kind,T.name,T.num,T.at'] at D E; have D := zb D; have E := zb E; clear VF VG
  have a8 : g ≠ w.heap.size + 1 := by omega
  have d7 : g ≠ w.heap.size := by omega
  obtain ⟨_,_,_,_,_,r0,r1,r2,r3,r4,rz⟩ := R5.out; have d8 := R5.out.lt; refine hKK.out _ _ N5.out fun hHeld => ?_
  clear hKK KK A C M F r a6 b5 G b6 b7 c9 b2 c4 b3; refine tk 8 (.pointer (some ⟨n,acc9.length * 5,none⟩)) rfl (fun w9 _ => by go_simp; intro N; omega) hHeld ?_; simp only [Act.put]; refine tk 10 (.pointer (some ⟨g,l9.length * 7,none⟩)) rfl (fun _ _ => by go_simp) hHeld ?_; simp only [Act.put]; refine tk 11 (.pointer (some ⟨g,l9.length * 7 + 6,none⟩)) rfl (fun _ _ => by go_simp) hHeld ?_; simp only [Act.put]; refine wpAnyH_ready (rs := [9,12]) (by kernel_rfl) (by simp) ?_; refine AllReadyH.cons rfl (fun KK hKK => ?_) (AllReadyH.cons rfl (fun KK hKK => ?_) AllReadyH.nil)
  ·go_simp
   refine hKK.out _ _ (((((hHeld.far f _ _).far f _ _).far f _ _).far f _ _).far f _ _) fun hHeld => ?_
   clear hKK KK; refine rd 12 rfl fun KK hKK => ?_
   go_simp
   refine hKK.out _ _ (hHeld.far a8 _ _) fun hHeld => ?_
   clear hKK KK; refine wpAnyH_done (by kernel_rfl) ?_ _; clear hHeld; go_wp2_with fail; refine xC Tryz.results52 rfl rfl (RB.five ((((((R5.out.put _ _ _).put _ _ _).put _ _ _).put _ _ _).put _ _ _).put _ _ _)) rfl ?_
   exact ⟨_,rfl,D.out _ _ _ _ _⟩
  ·go_simp
   refine hKK.out _ _ (hHeld.far a8 _ _) fun hHeld => ?_
   clear hKK KK; refine rd 9 rfl fun KK hKK => ?_
   go_simp
   refine hKK.out _ _ (((((hHeld.far f _ _).far f _ _).far f _ _).far f _ _).far f _ _) fun hHeld => ?_
   clear hKK KK; refine wpAnyH_done (by kernel_rfl) ?_ _; clear hHeld; go_wp2_with fail; refine xC Tryz.results52 rfl rfl (RB.five ((((((R5.out.put _ _ _).put _ _ _).put _ _ _).put _ _ _).put _ _ _).put _ _ _)) rfl ?_
   exact ⟨_,rfl,E.out _ _ _ _ _⟩
theorem oU {P : Nat -> Prop} (h : ∃ n,P n) : ∃ n,P n /\ ∀ m,P m -> n <= m := by
 obtain ⟨n,f⟩ := h
 induction n using Nat.strongRecOn with
 | _ n ih =>
  by_cases d : ∃ m,m < n /\ P m
  ·obtain ⟨m,a,g⟩ := d
   exact ih m a g
  ·refine ⟨n,f,fun m a => ?_⟩
   rcases Nat.lt_or_ge m n with b | b
   ·exact absurd ⟨m,b,a⟩ d
   ·exact b
open Classical in
noncomputable def kq (J : Nat -> World -> Prop) (w : World) : Nat := if h : ∃ n,J n w then Classical.choose (oU h) else 0
theorem oV {J : Nat -> World -> Prop} {w : World} {n : Nat} (h : J n w) : J (kq J w) w := by
 have a : ∃ n,J n w := ⟨n,h⟩
 unfold kq
 rw [dif_pos a]
 exact (Classical.choose_spec (oU a)).1
theorem dO {J : Nat -> World -> Prop} {w : World} {n : Nat} (h : J n w) : kq J w <= n := by
 have a : ∃ n,J n w := ⟨n,h⟩
 unfold kq
 rw [dif_pos a]
 exact (Classical.choose_spec (oU a)).2 n h
theorem oC (l : List Lv) : l.length <= xG l := by
 induction l with
 | nil => simp [xG]
 | cons v l ih => simp only [xG,Lv.left,List.length_cons]; omega
theorem Stk.accs {r : T} {l : List Lv} (h : Stk r l) : ∀ v ∈ l,v.acc.length <= v.t.subs.length := by
 have b : ∀ (ts : List T) (i : Nat),(ym (ts.take i)).length <= ts.length := fun ts i => by
  have d := dJ (ts.take i); rw [List.length_take] at d
  omega
 induction h with
 | one i hi => intro v a; rw [List.mem_singleton] at a; subst a; exact b _ _
 | more l t i u j h hu hj ih =>
  intro v a
  rcases List.mem_append.1 a with a | a
  ·rcases List.mem_append.1 a with a | a
   ·exact ih v (List.mem_append.2 (Or.inl a))
   ·rw [List.mem_singleton] at a
    subst a
    exact b _ _
  ·rw [List.mem_singleton] at a
   subst a
   exact b _ _
theorem Stk.snoc {r : T} {l : List Lv} (h : Stk r l) : ∃ l' x,l = l' ++ [x] := by
 cases h with
 | one i hi => exact ⟨[],_,rfl⟩
 | more l t i u j h hu hj => exact ⟨_,_,rfl⟩
theorem jo (t : T) : zn t = 1 + zx t.subs := by obtain ⟨_,_,_,_,_⟩ := t; rw [zn]; rfl
theorem fq (t : T) : t.subs.length <= zn t := by
 have := jo t; have := qP t.subs
 omega
theorem Stk.small {r : T} {l : List Lv} (h : Stk r l) (hc : zn r <= 3000) : ∀ v ∈ l,zn v.t <= 3000 :=
 h.all (P := fun t => zn t <= 3000) hc (fun t u h1 h2 => by
  have h3 := jo t; have h4 := gv h2
  show zn u <= 3000
  have h5 : zn t <= 3000 := h1
  omega)
theorem VS.init {w0 w : World} {ty : TypeId} {fb : Nat} (hg : w0.grownBy w none) (hfb : fb = w.heap.size) : VS w0 fb (w.alloc (.cells #[.slice none 0 0] ty)) [] (.slice none 0 0) := by
 subst hfb
 exact {
  gb := zf hg _
  flo := hg.size
  c0 := by rw [World.cell?_alloc_at _ _ _ _ rfl]; rfl
  z0 := World.frozen?_alloc_at _ _ _ _ rfl
  rne := by simp [Value.ownBlock]
  row := ⟨[],[],rfl,rfl,⟨rfl,.inl ⟨rfl,rfl⟩⟩,fun i lv sv pv h _ _ => by simp at h⟩ }
theorem pH (r : T) (hr : GT r) (hc : zn r <= 3000) (w0 : World) (fb : Nat) (w : World) (l : List Lv) (x : Lv) (v : Value) (h : VS w0 fb w (l ++ [x]) v) (hs : Stk r (l ++ [x])) (hi : x.i = x.t.subs.length) :
  Calls Tryz.prog 52 #[.pointer (some ⟨fb,0,none⟩)] w fun e w' => (∃ sv',e = .returned (.tuple #[zq (yh r) sv',.bool true]) /\ LR w' (fun k => w0.heap.size <= k) (yh r).subs sv' /\ w0.grownBy w' none) \/
   (∃ l2 v2,e = .returned (.tuple #[ja,.bool false]) /\ VS w0 fb w' l2 v2 /\ Stk r l2 /\ xG l2 < xG (l ++ [x])) := by
 have g : GT x.node := hs.gtNode hr hi
 rcases List.eq_nil_or_concat l with rfl | ⟨A,m,rfl⟩
 ·have e := Stk.root (v := x) hs hi
  obtain ⟨t,i,b⟩ := x; refine (tX w0 fb w t i b v h g).mono ?_; rintro B w' ⟨sv',rfl,j,C⟩; refine .inl ⟨sv',?_,?_,C⟩
  ·rw [<- e]; rfl
  ·rw [<- e]; exact j
 ·rw [List.concat_eq_append] at h hs ⊢
  have d := Stk.close hs hi; have u := (hs.small hc) m (by simp); have y := hs.accs m (by simp); have z := fq m.t; obtain ⟨t,i,b⟩ := x; obtain ⟨n,s,a⟩ := m; simp only at u y z; cases f : xP (yo (Lv.node ⟨t,i,b⟩))
  ·rw [f] at d
   refine (rT w0 fb w A n s a t i b v h (by omega) g f).mono ?_; rintro B w' ⟨v',rfl,j⟩
   exact .inr ⟨_,v',rfl,j,d,hM (v' := ⟨n,s,a⟩)⟩
  ·rw [f] at d
   refine (sj w0 fb w (A ++ [⟨n,s,a⟩]) t i b v h (by simp) g f).mono ?_; rintro B w' ⟨v',rfl,j⟩
   exact .inr ⟨_,v',rfl,j,d,hM (v' := ⟨n,s,a⟩)⟩
end Go.Proofs.YtifapidjkelnfaaGreatDoor
