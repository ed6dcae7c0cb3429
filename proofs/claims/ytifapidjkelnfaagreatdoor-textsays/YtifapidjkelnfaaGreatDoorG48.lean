/- The program's levels in memory. -/
import Derived.Test.YtifapidjkelnfaaGreatDoorG47
import Derived.Test.YtifapidjkelnfaaGreatDoorG02
import Derived.Test.YtifapidjkelnfaaGreatDoorG40
import Derived.Laws.OwnMore
import Derived.Laws.MakeOwn
namespace Go.Proofs.YtifapidjkelnfaaGreatDoor
open Go.RowKit
def y8 : List Lv -> List Value -> List Value -> List Value
 | v :: l,sv :: svs,pv :: pvs => [.int .i64 v.t.kind,.string ⟨v.t.name.toArray⟩,.int .i64 v.t.num,.int .i64 v.t.at',sv,.int .i64 v.i,pv] ++ y8 l svs pvs
 | _,_,_ => []
theorem xq : ∀ (l : List Lv) (svs pvs : List Value),svs.length = l.length -> pvs.length = l.length -> (y8 l svs pvs).length = l.length * 7
 | [],[],[],_,_ => rfl
 | v :: l,sv :: svs,pv :: pvs,h1,h2 => by
  have ih := xq l svs pvs (by simpa using h1) (by simpa using h2); simp only [y8,List.length_append,ih,List.length_cons,List.length_nil]
  omega
theorem xm : ∀ (l : List Lv) (svs pvs : List Value) (m : List Lv) (svs' pvs' : List Value),svs.length = l.length -> pvs.length = l.length -> y8 (l ++ m) (svs ++ svs') (pvs ++ pvs') = y8 l svs pvs ++ y8 m svs' pvs'
 | [],[],[],_,_,_,_,_ => rfl
 | v :: l,sv :: svs,pv :: pvs,m,svs',pvs',h1,h2 => by
  have ih := xm l svs pvs m svs' pvs' (by simpa using h1) (by simpa using h2); simp only [y8,List.cons_append,ih,List.append_assoc]
theorem vQ (l : List Lv) (svs pvs : List Value) (v : Lv) (sv pv : Value) (h1 : svs.length = l.length) (h2 : pvs.length = l.length) (j : Nat) : (y8 (l ++ [v]) (svs ++ [sv]) (pvs ++ [pv]))[l.length * 7 + j]? = [Value.int .i64 v.t.kind,.string ⟨v.t.name.toArray⟩,.int .i64 v.t.num,.int .i64 v.t.at',sv,.int .i64 v.i,pv][j]? := by
 rw [xm _ _ _ _ _ _ h1 h2,List.getElem?_append_right (by rw [xq _ _ _ h1 h2]; omega),xq _ _ _ h1 h2]
 simp [y8]
def Zone (w0 : World) (fb : Nat) (v : Value) (pvs : List Value) (i : Nat) : Nat -> Prop := fun k => w0.heap.size <= k /\ k ≠ fb /\ v.ownBlock ≠ some k /\ ∀ (j : Nat) (pv : Value),pvs[j]? = some pv -> j ≠ i -> pv.ownBlock ≠ some k
structure VS (w0 : World) (fb : Nat) (w : World) (l : List Lv) (v : Value) : Prop where
 gb : w0.grownBy w none
 flo : w0.heap.size <= fb
 c0 : w.cell? ⟨fb,0,none⟩ = some v
 z0 : w.frozen? ⟨fb,0,none⟩ = false
 rne : v.ownBlock ≠ some fb
 row : ∃ svs pvs,svs.length = l.length /\ pvs.length = l.length /\ w.ownsRow w0.heap.size 116 7 v l.length (y8 l svs pvs) /\
  ∀ (i : Nat) (lv : Lv) (sv pv : Value),l[i]? = some lv -> svs[i]? = some sv -> pvs[i]? = some pv -> Fits lv.t /\ AT w0 lv.t.subs sv /\ LR w (Zone w0 fb v pvs i) lv.acc pv
section
variable {w0 : World} {fb : Nat} {w w' : World} {l : List Lv} {v : Value}
theorem VS.lt (h : VS w0 fb w l v) : fb < w.heap.size := zc h.c0
theorem VS.grown (h : VS w0 fb w l v) (hg : w.grownBy w' none) : VS w0 fb w' l v where
 gb := za h.gb hg
 flo := h.flo
 c0 := zg hg h.c0
 z0 := yx hg h.lt h.z0 (by simp)
 rne := h.rne
 row := by
  obtain ⟨a,d,g,j,f,k⟩ := h.row; refine ⟨a,d,g,j,f.kept hg ?_,fun i lv sv pv e1 e2 e3 => ?_⟩
  ·cases s : v.ownBlock with
   | none => exact .inl rfl
   | some b => exact .inr (by simp)
  ·obtain ⟨m,n,r⟩ := k i lv sv pv e1 e2 e3
   exact ⟨m,n,r.kept hg (fun _ hk => by cases hk)⟩
theorem VS.last {t : T} {i : Nat} {acc : List T} (h : VS w0 fb w (l ++ [⟨t,i,acc⟩]) v) : ∃ g c sv pv,v = .slice (some ⟨g,0,none⟩) (l.length + 1) c /\ l.length + 1 <= c /\ c <= 9223372036854775807 /\ g ≠ fb /\
  Node5 w g (l.length * 7) t sv /\ w.cell? ⟨g,l.length * 7 + 5,none⟩ = some (.int .i64 i) /\ w.cell? ⟨g,l.length * 7 + 6,none⟩ = some pv /\ Fits t /\ AT w0 t.subs sv /\ LR w (fun k => w0.heap.size <= k /\ k ≠ fb /\ k ≠ g) acc pv /\ (∀ o,w.frozen? ⟨g,o,none⟩ = false) := by
 obtain ⟨d,f,h1,h2,b,z⟩ := h.row; rw [List.length_append,List.length_singleton] at h1 h2 b; obtain ⟨r,sv,rfl,m⟩ := yK d _ h1; obtain ⟨s,pv,rfl,n⟩ := yK f _ h2
 rcases id b.2 with ⟨_,G⟩ | ⟨g,c,A,rfl,H,I,u,x,B,C⟩
 ·omega
 have a : ∀ j,j < 7 -> w.cell? ⟨g,l.length * 7 + j,none⟩ = [Value.int .i64 t.kind,.string ⟨t.name.toArray⟩,.int .i64 t.num,.int .i64 t.at',sv,.int .i64 i,pv][j]? := fun j hj => (b.cellAt (l.length * 7 + j) (by omega)).trans (vQ l r s ⟨t,i,acc⟩ sv pv m n j)
 obtain ⟨D,E,F⟩ := z l.length ⟨t,i,acc⟩ sv pv (by simp) (by rw [<- m]; simp) (by rw [<- n]; simp)
 have y : g ≠ fb := fun e => h.rne (by rw [e]; rfl)
 unfold maxLen at x
 refine ⟨g,c,sv,pv,rfl,u,by omega,y,⟨a 0 (by omega),a 1 (by omega),a 2 (by omega),a 3 (by omega),a 4 (by omega)⟩,a 5 (by omega),a 6 (by omega),D,E,F.mono (fun k hk => ⟨hk.1,hk.2.1,fun e => hk.2.2.1 (by rw [e]; rfl)⟩),fun o => ?_⟩
 exact b.frozenAt o
theorem sR (l : List Lv) (svs pvs : List Value) (x y : Lv) (sv pv : Value) (h1 : svs.length = l.length) (h2 : pvs.length = l.length) (ht : x.t = y.t) : (y8 (l ++ [x]) (svs ++ [sv]) (pvs ++ [pv])).set (l.length * 7 + 5) (.int .i64 y.i) = y8 (l ++ [y]) (svs ++ [sv]) (pvs ++ [pv]) := by
 rw [xm _ _ _ _ _ _ h1 h2,xm _ _ _ _ _ _ h1 h2]; have a := xq l svs pvs h1 h2; rw [List.set_append_right _ _ (by omega),a]
 simp [y8,ht]
theorem VS.bump {t : T} {i : Nat} {acc : List T} {g c n : Nat} (h : VS w0 fb w (l ++ [⟨t,i,acc⟩]) (.slice (some ⟨g,0,none⟩) n c)) : VS w0 fb (w.setCell ⟨g,l.length * 7 + 5,none⟩ (.int .i64 ((i + 1 : Nat) : Int))) (l ++ [⟨t,i + 1,acc⟩]) (.slice (some ⟨g,0,none⟩) n c) := by
 obtain ⟨k,m,h1,h2,d,J⟩ := h.row; have A := h1; have B := h2; rw [List.length_append,List.length_singleton] at h1 h2; obtain ⟨r,sv,rfl,C⟩ := yK k _ h1; obtain ⟨s,pv,rfl,D⟩ := yK m _ h2
 have u : g ≠ fb := fun e => h.rne (by rw [e]; rfl)
 have E : w0.heap.size <= g := (d.lt g rfl).1; have f : w.grownBy (w.setCell ⟨g,l.length * 7 + 5,none⟩ (.int .i64 ((i + 1 : Nat) : Int))) (some g) := z6 gr _ _
 have K : n = l.length + 1 := by
  rcases d.2 with ⟨e,_⟩ | ⟨_,_,_,e,_⟩
  ·cases e
  ·cases e; simp
 subst K; refine ⟨y7 h.gb E _ _,h.flo,zO f h.c0 (by simpa using fun e => u e.symm),yx f h.lt h.z0 (by simpa using fun e => u e.symm),h.rne,r ++ [sv],s ++ [pv],by simpa using A,by simpa using B,?_,fun j lv sv' pv' e1 e2 e3 => ?_⟩
 ·rw [List.length_append,List.length_singleton] at d ⊢
  have x := (d.stored (l.length * 7 + 5) (.int .i64 ((i + 1 : Nat) : Int))).1; rw [sR l r s ⟨t,i,acc⟩ ⟨t,i + 1,acc⟩ sv pv C D rfl] at x
  exact x
 ·have F : ∃ a,(l ++ [⟨t,i,acc⟩])[j]? = some a /\ a.t = lv.t /\ a.acc = lv.acc := by
   rcases Nat.lt_or_ge j l.length with y | y
   ·rw [List.getElem?_append_left y] at e1
    exact ⟨lv,by rw [List.getElem?_append_left y]; exact e1,rfl,rfl⟩
   ·rw [List.getElem?_append_right y] at e1
    refine ⟨⟨t,i,acc⟩,?_,?_⟩
    ·rw [List.getElem?_append_right y]
     have : j - l.length = 0 := by
      rcases Nat.eq_zero_or_pos (j - l.length) with z | z
      ·exact z
      ·rw [List.getElem?_eq_none (by simp; omega)] at e1; cases e1
     rw [this]; rfl
    ·have : j - l.length = 0 := by
      rcases Nat.eq_zero_or_pos (j - l.length) with z | z
      ·exact z
      ·rw [List.getElem?_eq_none (by simp; omega)] at e1; cases e1
     rw [this] at e1; cases e1
     exact ⟨rfl,rfl⟩
  obtain ⟨a,L,M,N⟩ := F; obtain ⟨G,H,I⟩ := J j a sv' pv' L e2 e3; rw [M] at G H; rw [N] at I
  exact ⟨G,H,I.kept f (fun b hb hz => hz.2.2.1 (by rw [<- hb]; rfl))⟩
end
set_option maxHeartbeats 2000000
set_option maxRecDepth 100000
def ja : Value := .agg #[.int .i64 0,.string ⟨#[]⟩,.int .i64 0,.int .i64 0,.slice none 0 0]
theorem xC {fn : Func} {p q : Tmp} {R : Ending -> World -> Prop} {a : Act} {w : World} {b : Nat} {v0 v1 v2 v3 v4 u : Value} (h : fn.results = #[.cell p 24,.tmp q]) (hp : a.tmps[p]?.getD undef = .pointer (some ⟨b,0,none⟩)) (hq : a.tmps[q]?.getD undef = u) (hn : NB w b v0 v1 v2 v3 v4) (hd : a.defers = [])
  (hR : R (.returned (.tuple #[.agg #[v0,v1,v2,v3,v4],u])) w) : bodyPost Tryz.prog fn R .ret a w :=
 bodyPost_ret (by simp [results,h,hp,hq,go_sem,hn.c0,hn.c1,hn.c2,hn.c3,hn.c4]) hd hR
theorem lj (w0 : World) (fb : Nat) (w : World) (l : List Lv) (t : T) (acc : List T) (v : Value) (h : VS w0 fb w (l ++ [⟨t,t.subs.length,acc⟩]) v) :
  Calls Tryz.prog 51 #[.pointer (some ⟨fb,0,none⟩)] w (Sy w (.tuple #[ja,.bool false])) := by
 obtain ⟨_,_,_,_,rfl,_,_,_,b,_,_,f,d,g,_⟩ := h.last; obtain ⟨_,_,rfl,_,a⟩ := d.form
 unfold maxLen at a
 have j := zb h; have k := h.c0; have m := h.lt; have i := zc b.c0; obtain ⟨_,_,_,_,_⟩ := b; clear h f d g
 go_enter Tryz.func51,Tryz.ntmps51
 go_wp2_with fail
 go_region
 go_wp2_with fail
 go_region
 go_wp2_with fail; refine xC Tryz.results51 rfl rfl (NB.drew (NB.drew (NB.new' (by simp)))) rfl ⟨rfl,(ze (ze gan))⟩
theorem nA (w0 : World) (fb : Nat) (w : World) (l : List Lv) (t u : T) (i : Nat) (acc : List T) (v : Value) (h : VS w0 fb w (l ++ [⟨t,i,acc⟩]) v) (hu : t.subs[i]? = some u) :
  Calls Tryz.prog 51 #[.pointer (some ⟨fb,0,none⟩)] w fun e w' => ∃ su,e = .returned (.tuple #[zq u su,.bool true]) /\ Fits u /\ AT w0 u.subs su /\ VS w0 fb w' (l ++ [⟨t,i + 1,acc⟩]) v := by
 have a2 : i < t.subs.length := by
  rcases Nat.lt_or_ge i t.subs.length with n | n
  ·exact n
  ·rw [List.getElem?_eq_none n] at hu; cases hu
 obtain ⟨g,c,_,_,rfl,_,_,_,H,I,c6,hf,r,hl,hz⟩ := h.last; obtain ⟨_,s,rfl,_,x⟩ := r.form
 unfold maxLen at x
 obtain ⟨f,k,su,e1,m,J,y⟩ := r.node i u hu; cases e1; obtain ⟨z,A,rfl,_,_⟩ := y.form; obtain ⟨K,m1,m2,m3,m4⟩ := m.kept h.gb; have a3 : f < w0.heap.size := zc m.c0; have B := zb m; have L := zc K
 have a4 : w0.heap.size <= g := by
  obtain ⟨_,_,_,_,C,_⟩ := h.row
  exact (C.lt g rfl).1
 have a5 : f ≠ g := by omega
 have j := h.bump; rw [show ((i + 1 : Nat) : Int) = (i : Int) + 1 from rfl] at j; have M := zb j; clear j; have D := zb h; have fc := h.c0; have fl := h.lt; have a6 := zc H.c0; have FU := zb J; have AU := zb y
 have a7 : (i == t.subs.length) = false := bn (by omega)
 have a8 : ((i : Int) == (t.subs.length : Int)) = false := bn (by omega)
 obtain ⟨k0,k1,k2,k3,N⟩ := H; clear h hf r hl m J y hu
 go_enter Tryz.func51,Tryz.ntmps51
 go_wp2_with fail
 go_region
 go_wp2_with fail
 go_region
 go_wp2_with fail; obtain ⟨d,a⟩ : ∃ q,q = w.setCell ⟨g,l.length * 7 + 5,none⟩ (.int .i64 ((i : Int) + 1)) := ⟨_,rfl⟩; rw [<- a]
 have O : Hid (VS w0 fb d (l ++ [⟨t,i + 1,acc⟩]) (.slice (some ⟨g,0,none⟩) (l.length + 1) c)) := by rw [a]; exact M
 have E : d.heap.size = w.heap.size := by rw [a]; simp [World.setCell]
 have S0 : Hid (d.cell? ⟨g,l.length * 7 + 4,none⟩ = some (.slice (some ⟨f,k,none⟩) t.subs.length s)) := by
  show _ = _
  rw [a,World.cell?_setCell_other _ _ _ _ (by simp)]
  exact N
 have S5 : Hid (d.cell? ⟨g,l.length * 7 + 5,none⟩ = some (.int .i64 ((i : Int) + 1))) := by
  show _ = _
  rw [a]
  exact World.cell?_setCell_same _ _ _ I
 clear a M D fc k0 k1 k2 k3 N I c6 hz K m1 m2 m3 m4
 have NU := fun (w' : World) (hg : d.grownBy w' none) => B.kept (za O.gb hg)
 obtain ⟨Q,b⟩ : ∃ q,q = (d.alloc (.cells #[.int .i64 0,.string ⟨#[]⟩,.int .i64 0,.int .i64 0,.slice none 0 0] 24)).drew.drew := ⟨_,rfl⟩; rw [<- b]
 have F : Hid (d.grownBy Q none) := by rw [b]; exact ze (ze gan)
 have G : Hid (RB Q w.heap.size) := by rw [b]; exact ((RB.new' E.symm).drew).drew
 clear b
 have R : Hid (∀ w',d.grownBy w' none -> w'.cell? ⟨g,l.length * 7 + 4,none⟩ = some (.slice (some ⟨f,k,none⟩) t.subs.length s) /\ w'.cell? ⟨g,l.length * 7 + 5,none⟩ = some (.int .i64 ((i : Int) + 1)) /\ Node5 w' f (k + i * 5) u (.slice z u.subs.length A)) := fun w' hg => ⟨zg hg S0,zg hg S5,NU w' hg⟩
 obtain ⟨_,_,_,_,_,_,_,_,_,_,_⟩ := id G; have rl := G.lt
 have U : (i : Int) + 1 - 1 = (i : Int) := by omega
 have V : (i : Int) < (t.subs.length : Int) := by omega
 have X : (i : Int) + 1 - 1 < (t.subs.length : Int) := by omega
 have a9 : ¬ ((i : Int) + 1 - 1 < 0) := by omega
 have Y : (0 : Int) <= (i : Int) + 1 - 1 := by omega
 have b0 : IntKind.i64.wrap ((i : Int) + 1 - 1) = (i : Int) := by rw [IntKind.wrap_i64]; omega
 have Z : IntKind.i64.wrap (i : Int) = (i : Int) := by rw [IntKind.wrap_i64]; omega
 have a1 : wrap64 ((i : Int) + 1 - 1) = (i : Int) := by unfold wrap64; omega
 refine wp_region_held_drew (S := (fun w' => w'.cell? ⟨g,l.length * 7 + 4,none⟩ = some (.slice (some ⟨f,k,none⟩) t.subs.length s) /\ w'.cell? ⟨g,l.length * 7 + 5,none⟩ = some (.int .i64 ((i : Int) + 1)) /\ Node5 w' f (k + i * 5) u (.slice z u.subs.length A))) (by kernel_rfl) ?_ (fun hHeld => ?_)
 ·exact R _ (ze F)
 refine tq 0 ?_; refine tq 1 ?_; refine tq 2 ?_; refine tq 3 ?_; refine tq 4 ?_; refine tq 5 ?_; refine tq 6 ?_; refine tq 7 ?_; refine tq 8 ?_; refine tq 9 ?_; refine tq 10 ?_; refine tq 11 ?_; refine rd 12 rfl fun KK hKK => ?_
 go_simp
 refine hKK _ _ (R _ (ze (yC F (by omega)))) fun hHeld => ?_
 clear hKK KK; refine tq 13 ?_; refine wpAnyH_done (by kernel_rfl) ?_ _; clear hHeld; go_wp2_with fail; refine xC Tryz.results51 rfl rfl (NB.drew (RB.five G)) rfl ?_
 exact ⟨.slice z u.subs.length A,rfl,FU,AU,O.grown (ze (yC F (by omega)))⟩
theorem VS.push {w0 : World} {fb m : Nat} {w w1 : World} {l : List Lv} {v v' : Value} {t : T} {sv pv : Value} {svs pvs : List Value} (gb : w0.grownBy w none) (flo : w0.heap.size <= fb) (c0 : w.cell? ⟨fb,0,none⟩ = some v) (z0 : w.frozen? ⟨fb,0,none⟩ = false) (rne : v.ownBlock ≠ some fb)
  (h1 : svs.length = l.length) (h2 : pvs.length = l.length) (hm : m <= w.heap.size)
  (hp : ∀ (i : Nat) (lv : Lv) (sv pv : Value),l[i]? = some lv -> svs[i]? = some sv -> pvs[i]? = some pv -> Fits lv.t /\ AT w0 lv.t.subs sv /\ LR w (fun k => Zone w0 fb v pvs i k /\ k < m) lv.acc pv)
  (hvr : ∀ b,v.ownBlock = some b -> w0.heap.size <= b /\ b < m) (hfm : fb < m) (hpm : ∀ (j : Nat) (q : Value),pvs[j]? = some q -> ∀ b,q.ownBlock = some b -> b < m)
  (hf : Fits t) (ha : AT w0 t.subs sv) (hr : LR w (fun k => m <= k /\ k < w.heap.size) [] pv)
  (own : w1.ownsRow w0.heap.size 116 7 v' (l.length + 1) (y8 l svs pvs ++ y8 [⟨t,0,[]⟩] [sv] [pv])) (hg : w.grownBy w1 v.ownBlock)
  (hat : v'.ownBlock = v.ownBlock \/ v'.ownBlock = some w.heap.size) : VS w0 fb (w1.setCell ⟨fb,0,none⟩ v') (l ++ [⟨t,0,[]⟩]) v' := by
 have z : fb < w.heap.size := zc c0
 have G : w0.heap.size <= m := by omega
 have u : v'.ownBlock ≠ some fb := by
  rcases hat with e | e
  ·rw [e]; exact rne
  ·rw [e]; simp; omega
 have f : w1.grownBy (w1.setCell ⟨fb,0,none⟩ v') (some fb) := z6 gr _ _; have H : w0.grownBy w1 none := qq gb hg (fun b hb => (hvr b hb).1)
 have A : ∀ b,pv.ownBlock = some b -> m <= b /\ b < w.heap.size := by
  obtain ⟨_,_,_,B,_⟩ := hr.own
  exact B
 have x : ∀ k,k < m -> v.ownBlock ≠ some k -> v'.ownBlock ≠ some k := fun k a hv e => by
  rcases hat with r | r
  ·exact hv (r ▸ e)
  ·rw [r] at e; cases e; omega
 refine ⟨y7 H flo _ _,flo,World.cell?_setCell_same _ _ _ (zO hg c0 (fun e => rne e.symm)),by rw [World.frozen?_setCell]; exact yx hg z z0 (fun e => rne e.symm),u,svs ++ [sv],pvs ++ [pv],by simp [h1],by simp [h2],?_,fun i lv sv' pv' e1 e2 e3 => ?_⟩
 ·rw [xm _ _ _ _ _ _ h1 h2,List.length_append,List.length_singleton]
  exact own.kept f (by
   cases hv : v'.ownBlock with
   | none => exact .inl rfl
   | some b => exact .inr (fun e => u (hv.trans e)))
 ·have g : ∀ (i : Nat) (k : Nat),k < m -> (∀ (j : Nat) (q : Value),pvs[j]? = some q -> j ≠ i -> q.ownBlock ≠ some k) -> ∀ (j : Nat) (q : Value),(pvs ++ [pv])[j]? = some q -> j ≠ i -> q.ownBlock ≠ some k := by
   intro i k a h j q d y
   rcases Nat.lt_or_ge j pvs.length with s | s
   ·rw [List.getElem?_append_left s] at d
    exact h j q d y
   ·rw [List.getElem?_append_right s] at d
    have : j - pvs.length = 0 := by
     rcases Nat.eq_zero_or_pos (j - pvs.length) with n | n
     ·exact n
     ·rw [List.getElem?_eq_none (by simp; omega)] at d; cases d
    rw [this] at d; cases d; intro e; have := (A k e).1
    omega
  rcases Nat.lt_or_ge i l.length with C | C
  ·rw [List.getElem?_append_left C] at e1
   rw [List.getElem?_append_left (by omega)] at e2 e3; obtain ⟨I,J,K⟩ := hp i lv sv' pv' e1 e2 e3; refine ⟨I,J,?_⟩; have D := K.kept hg (fun b hb h => h.1.2.2.1 hb); have E := D.kept f (fun b hb h => by cases hb; exact h.1.2.1 rfl)
   exact E.mono (fun k a => ⟨a.1.1,a.1.2.1,x k a.2 a.1.2.2.1,g i k a.2 a.1.2.2.2⟩)
  ·rw [List.getElem?_append_right C] at e1
   rw [List.getElem?_append_right (by omega)] at e2 e3
   have F : i = l.length := by
    rcases Nat.lt_or_ge (i - l.length) 1 with n | n
    ·omega
    ·rw [List.getElem?_eq_none (by simpa using n)] at e1; cases e1
   subst F; rw [h1,Nat.sub_self] at e2; rw [h2,Nat.sub_self] at e3; rw [Nat.sub_self] at e1; cases e1; cases e2; cases e3; refine ⟨hf,ha,?_⟩; have D := hr.kept hg (fun b hb h => by have := (hvr b hb).2; have := h.1; omega); have E := D.kept f (fun b hb h => by cases hb; have := h.1; omega); refine E.mono (fun k a => ⟨by omega,by have := a.1; omega,fun e => ?_,fun j q d y e => ?_⟩)
   ·rcases hat with r | r
    ·have := (hvr k (r ▸ e)).2; have := a.1; omega
    ·rw [r] at e; cases e; have := a.2; omega
   ·rcases Nat.lt_or_ge j pvs.length with s | s
    ·rw [List.getElem?_append_left s] at d
     have := hpm j q d k e; have := a.1
     omega
    ·rw [List.getElem?_append_right s] at d
     have : j - pvs.length = 0 := by
      rcases Nat.eq_zero_or_pos (j - pvs.length) with n | n
      ·exact n
      ·rw [List.getElem?_eq_none (by simp; omega)] at d; cases d
     omega
theorem Tryz.infoLevel : (Tryz.prog.info? 116).map (fun i => (i.zero,i.size,i.bytes)) = some (some (.agg #[.int .i64 0,.string ⟨#[]⟩,.int .i64 0,.int .i64 0,.slice none 0 0,.int .i64 0,.slice none 0 0]),7,96) := by kernel_rfl
theorem pU {ops : Array Oper} {o : Oper} {a : Act} {w : World} {K : Act -> World -> Prop} {Q : Exit -> Act -> World -> Prop} {E : Prop} (hgd : o.guard = none) (s x : Operand)
  (ho : o.op = .call { callee := .builtin .append,args := #[s,x],argTypes := #[82,82] })
  {w0 : World} {l : List Lv} {v : Value} {g : Nat} {t : T} {sv pv : Value} {svs pvs : List Value} (hs : a.eval s = v) (hx : a.eval x = .slice (some ⟨g,0,none⟩) 1 1) (own : w.ownsRow w0.heap.size 116 7 v l.length (y8 l svs pvs)) (hlen : l.length <= 20000) (hsz : w0.heap.size <= w.heap.size)
  (h1 : sv.oneCell' = true) (h2 : pv.oneCell' = true)
  (hc : ∀ (j : Nat) (u : Value),(y8 [⟨t,0,[]⟩] [sv] [pv])[j]? = some u -> w.cell? ⟨g,j,none⟩ = some u)
  (k : ∀ g' c' w1,w1.ownsRow w0.heap.size 116 7 (.slice (some ⟨g',0,none⟩) (l.length + 1) c') (l.length + 1) (y8 l svs pvs ++ y8 [⟨t,0,[]⟩] [sv] [pv]) -> w.grownBy w1 v.ownBlock ->
   ((Value.slice (some ⟨g',0,none⟩) (l.length + 1) c').ownBlock = v.ownBlock \/ (Value.slice (some ⟨g',0,none⟩) (l.length + 1) c').ownBlock = some w.heap.size) -> K (a.put o.dst (.slice (some ⟨g',0,none⟩) (l.length + 1) c')) w1) :
  if Region.wanted o (yielded ops a.tmps) = true then Oper.wp Tryz.prog o a w K Q else E := by
 have y : Region.wanted o (yielded ops a.tmps) = true := by simp [Region.wanted,hgd]
 rw [if_pos y]; obtain ⟨z,f,i,m,n⟩ := info_parts Tryz.infoLevel; obtain ⟨A,B,d,b,C,_,r⟩ := run_append_own_at (P := Tryz.prog) w w0.heap.size 82 o.type 116 z _ 7 96 Tryz.underlying82 f i m n rfl (by decide) v l.length (y8 l svs pvs) own ⟨g,0,none⟩ 1 1 (y8 [⟨t,0,[]⟩] [sv] [pv])
  rfl (fun j u hu => by
   have := hc j u hu
   unfold Addr.add
   split
   ·rename_i h9; subst h9; exact this
   ·simpa using this) (fun u hu => by
   simp [y8] at hu
   rcases hu with rfl | rfl | rfl | rfl | rfl | rfl | rfl
   ·rfl
   ·rfl
   ·rfl
   ·rfl
   ·exact h1
   ·rfl
   ·exact h2) (by unfold maxLen; omega) (by omega) hsz
 obtain ⟨g',c',rfl⟩ : ∃ g' c',A = .slice (some ⟨g',0,none⟩) (l.length + 1) c' := by
  rcases b.2 with ⟨_,h⟩ | ⟨g',c',_,h,_⟩
  ·omega
  ·exact ⟨g',c',h⟩
 unfold Oper.wp execOp
 simp only [ho,resolve,invoke,builtin,Sem.run_bind,Sem.run_pure,Result.andThen_ok,List.map_toArray,List.map_cons,List.map_nil,hs,hx,d]
 exact k g' c' B b C r
set_option maxRecDepth 1000000
structure VM (w0 : World) (fb m : Nat) (w : World) (l : List Lv) (v : Value) (svs pvs : List Value) : Prop where
 gb : w0.grownBy w none
 flo : w0.heap.size <= fb
 c0 : w.cell? ⟨fb,0,none⟩ = some v
 z0 : w.frozen? ⟨fb,0,none⟩ = false
 rne : v.ownBlock ≠ some fb
 h1 : svs.length = l.length
 h2 : pvs.length = l.length
 hm : m <= w.heap.size
 own : w.ownsRow w0.heap.size 116 7 v l.length (y8 l svs pvs)
 hp : ∀ (i : Nat) (lv : Lv) (sv pv : Value),l[i]? = some lv -> svs[i]? = some sv -> pvs[i]? = some pv -> Fits lv.t /\ AT w0 lv.t.subs sv /\ LR w (fun k => Zone w0 fb v pvs i k /\ k < m) lv.acc pv
 hvr : ∀ b,v.ownBlock = some b -> w0.heap.size <= b /\ b < m
 hfm : fb < m
 hpm : ∀ (j : Nat) (q : Value),pvs[j]? = some q -> ∀ b,q.ownBlock = some b -> b < m
theorem VS.vm {w0 : World} {fb : Nat} {we : World} {l : List Lv} {v : Value} (h : VS w0 fb we l v) : ∃ svs pvs,∀ w,we.grownBy w none -> VM w0 fb we.heap.size w l v svs pvs := by
 have r := h; obtain ⟨svs,pvs,t,u,own,s⟩ := h.row; refine ⟨svs,pvs,fun w hg => ?_⟩; have a := r.grown hg; refine ⟨a.gb,a.flo,a.c0,a.z0,a.rne,t,u,hg.size,own.kept hg ?_,fun i d f pv e1 e2 e3 => ?_,fun b hb => own.lt b hb,r.lt,fun j q hq b hb => ?_⟩
 ·cases A : v.ownBlock with
  | none => exact .inl rfl
  | some b => exact .inr (by simp)
 ·obtain ⟨x,y,g⟩ := s i d f pv e1 e2 e3
  exact ⟨x,y,g.bounded.kept hg (fun _ a => by cases a)⟩
 ·have B : j < pvs.length := by
   rcases Nat.lt_or_ge j pvs.length with k | k
   ·exact k
   ·rw [List.getElem?_eq_none k] at hq; cases hq
  obtain ⟨d,m⟩ : ∃ d,l[j]? = some d := ⟨_,List.getElem?_eq_getElem (by omega)⟩; obtain ⟨f,n⟩ : ∃ f,svs[j]? = some f := ⟨_,List.getElem?_eq_getElem (by omega)⟩; obtain ⟨_,_,g⟩ := s j d f q m n hq; obtain ⟨_,_,z,_⟩ := g.own
  exact (z.lt b hb).2
theorem pw {ops : Array Oper} {o : Oper} {a : Act} {w : World} {K : Act -> World -> Prop} {Q : Exit -> Act -> World -> Prop} {E : Prop} (hgd : o.guard = none) (s x : Operand)
  (ho : o.op = .call { callee := .builtin .append,args := #[s,x],argTypes := #[82,82] })
  {w0 : World} {fb m : Nat} {l : List Lv} {v : Value} {g : Nat} {t : T} {sv pv : Value} {svs pvs : List Value} (hs : a.eval s = v) (hx : a.eval x = .slice (some ⟨g,0,none⟩) 1 1) (hl : VM w0 fb m w l v svs pvs) (hlen : l.length <= 20000)
  (hf : Fits t) (ha : AT w0 t.subs sv) (hr : LR w (fun k => m <= k /\ k < w.heap.size) [] pv)
  (hc : ∀ (j : Nat) (u : Value),(y8 [⟨t,0,[]⟩] [sv] [pv])[j]? = some u -> w.cell? ⟨g,j,none⟩ = some u)
  (k : ∀ g' c' w1,VS w0 fb (w1.setCell ⟨fb,0,none⟩ (.slice (some ⟨g',0,none⟩) (l.length + 1) c')) (l ++ [⟨t,0,[]⟩]) (.slice (some ⟨g',0,none⟩) (l.length + 1) c') -> w1.cell? ⟨fb,0,none⟩ = some v -> w1.frozen? ⟨fb,0,none⟩ = false -> K (a.put o.dst (.slice (some ⟨g',0,none⟩) (l.length + 1) c')) w1) :
  if Region.wanted o (yielded ops a.tmps) = true then Oper.wp Tryz.prog o a w K Q else E := by
 have b : sv.oneCell' = true := by obtain ⟨d,f,h,_,_⟩ := ha.form; rw [h]; rfl
 have i : pv.oneCell' = true := by obtain ⟨d,f,rfl⟩ := hr.form; rfl
 refine pU hgd s x ho hs hx hl.own hlen hl.gb.size b i hc (fun g' c' w1 hown hg hat => k g' c' w1 ?_ ?_ ?_)
 ·exact VS.push hl.gb hl.flo hl.c0 hl.z0 hl.rne hl.h1 hl.h2 hl.hm hl.hp hl.hvr hl.hfm hl.hpm hf ha hr hown hg hat
 ·exact zO hg hl.c0 (fun e => hl.rne e.symm)
 ·exact yx hg (zc hl.c0) hl.z0 (fun e => hl.rne e.symm)
theorem dL (w : World) (ty : TypeId) (kd : Int) (x : Bs) (m p : Int) (ls : List T) {sv pv : Value} : ∀ (j : Nat) (u : Value),(y8 [⟨T.mk kd x m p ls,0,[]⟩] [sv] [pv])[j]? = some u -> (w.alloc (.cells #[.int .i64 kd,.string ⟨x.toArray⟩,.int .i64 m,.int .i64 p,sv,.int .i64 0,pv] ty)).cell? ⟨w.heap.size,j,none⟩ = some u := by
 intro j u a; rw [World.cell?_alloc_at _ _ _ _ rfl]
 simpa [y8,T.kind,T.name,T.num,T.at'] using a
theorem lp (w : World) (cur : Array Value) (cap m : Nat) (hm : cap <= maxLen) (hs : cur.size = cap * 5) (h : m <= w.heap.size) : LR (w.alloc (.cells cur 24)) (fun k => m <= k /\ k < w.heap.size + 1) [] (.slice (some ⟨w.heap.size,0,none⟩) 0 cap) :=
 .mk _ _ _ [] rfl (World.ownsRow_made w cur cap (Nat.zero_le _) hm hs) (fun b hb => by cases hb; exact ⟨h,Nat.lt_succ_self _⟩) (fun i t sv h1 => by simp at h1)
theorem nO (w : World) (cur : Array Value) (cap m g : Nat) (hm : cap <= maxLen) (hs : cur.size = cap * 5) (h : m <= w.heap.size) (hg : g = w.heap.size) : LR (w.alloc (.cells cur 24)) (fun k => m <= k /\ k < w.heap.size + 1) [] (.slice (some ⟨g,0,none⟩) 0 cap) := by
 subst hg
 exact lp w cur cap m hm hs h
theorem dN (w0 : World) (fb : Nat) (w : World) (l : List Lv) (v : Value) (t : T) (sv : Value) (h : VS w0 fb w l v) (hlen : l.length <= 20000) (hf : Fits t) (ha : AT w0 t.subs sv) (hls : t.subs.length <= 3000) :
    Calls Tryz.prog 50 #[.pointer (some ⟨fb,0,none⟩),zq t sv] w fun e w' => ∃ v',e = .returned (.tuple #[]) /\ VS w0 fb w' (l ++ [⟨t,0,[]⟩]) v' := by
  obtain ⟨u,j,rfl,n,r⟩ := ha.form
  unfold maxLen at r
  obtain ⟨_,_,b⟩ := h.vm; have z := zb b; have A := zb hf; have B := zb ha; have c0 := h.c0; have z0 := h.z0; have C := h.lt; clear h hf ha b; obtain ⟨y,x,m,p,a⟩ := t
  change a.length <= j at n
  change a.length <= 3000 at hls
  obtain ⟨D,d,f,g,i⟩ := info_parts Tryz.infoNode
  have E : ∀ w',(Instr.makeSlice 22 (.int .i64 0) (.int .i64 (a.length : Int))).run Tryz.prog w' = .ok (.slice (some ⟨w'.heap.size,0,none⟩) 0 a.length) (w'.alloc (.cells (madeCells #[.int .i64 0,.string ⟨#[]⟩,.int .i64 0,.int .i64 0,.slice none 0 0] (a.length * 5)) 24)) := fun w' => by
    have := run_make (P := Tryz.prog) (w := w') 22 24 D _ Tryz.underlying22 d f .i64 .i64 0 (a.length : Int) (by omega) (by omega) (by rw [i]; omega) (by omega); rw [g] at this
    simpa [Value.cells] using this
  have s : (madeCells #[.int .i64 0,.string ⟨#[]⟩,.int .i64 0,.int .i64 0,.slice none 0 0] (a.length * 5)).size = a.length * 5 := by simp [madeCells]
  clear d f g i
  generalize madeCells #[.int .i64 0,.string ⟨#[]⟩,.int .i64 0,.int .i64 0,.slice none 0 0] (a.length * 5) = mc at *
  change Calls Tryz.prog 50 #[.pointer (some ⟨fb,0,none⟩),.agg #[.int .i64 y,.string ⟨x.toArray⟩,.int .i64 m,.int .i64 p,.slice u a.length j]] w _
  have G := fun o => zg (World.grownBy_alloc w o none) c0
  have H := fun o o2 => zg (zf (World.grownBy_alloc w o none) o2) c0
  have I := fun o o2 o3 => zg (zf (zf (World.grownBy_alloc w o none) o2) o3) c0
  go_enter Tryz.func50,Tryz.ntmps50
  go_wp2_with fail
  go_region_law (focus (
    refine pw rfl (.tmp 8) (.tmp 15) rfl (w0 := w0) (fb := fb) (l := l) (v := v) (t := .mk y x m p a) (sv := .slice u a.length j) (by simp [Act.eval]) (by simp [Act.eval]) (z _ (ze (zf (zf gan _) _))) hlen A B ?_ (dL _ _ _ _ _ _ _) ?_
    · exact ((nO _ mc a.length w.heap.size (w.heap.size + 1) (by unfold maxLen; omega) s (by simp) (by simp)).kept (ze gan) (fun _ hk => by cases hk)).mono (fun k hk => ⟨hk.1,by have := hk.2; simp at this ⊢; omega⟩)
    intro J K L F M N))
  all_goals
    go_wp2
    go_end0
    exact ⟨_,rfl,F⟩
theorem VM.vs {w0 : World} {fb m : Nat} {w : World} {l : List Lv} {v : Value} {svs pvs : List Value} (h : VM w0 fb m w l v svs pvs) : VS w0 fb w l v :=
 ⟨h.gb,h.flo,h.c0,h.z0,h.rne,svs,pvs,h.h1,h.h2,h.own,fun i lv sv pv e1 e2 e3 => ⟨(h.hp i lv sv pv e1 e2 e3).1,(h.hp i lv sv pv e1 e2 e3).2.1,(h.hp i lv sv pv e1 e2 e3).2.2.mono (fun _ hk => hk.1)⟩⟩
theorem VM.grown {w0 : World} {fb m : Nat} {w w' : World} {l : List Lv} {v : Value} {svs pvs : List Value} (h : VM w0 fb m w l v svs pvs) (hg : w.grownBy w' none) : VM w0 fb m w' l v svs pvs := by
 refine ⟨za h.gb hg,h.flo,zg hg h.c0,yx hg (zc h.c0) h.z0 (by simp),h.rne,h.h1,h.h2,Nat.le_trans h.hm hg.size,h.own.kept hg ?_,fun i lv sv pv e1 e2 e3 => ?_,h.hvr,h.hfm,h.hpm⟩
 ·cases g : v.ownBlock with
  | none => exact .inl rfl
  | some b => exact .inr (by simp)
 ·obtain ⟨a,d,f⟩ := h.hp i lv sv pv e1 e2 e3
  exact ⟨a,d,f.kept hg (fun _ hk => by cases hk)⟩
def Apart (w0 : World) (fb g : Nat) (pvs : List Value) : Nat -> Prop := fun k => w0.heap.size <= k /\ k ≠ fb /\ k ≠ g /\ ∀ (j : Nat) (q : Value),pvs[j]? = some q -> q.ownBlock ≠ some k
theorem VS.pop {w0 : World} {fb : Nat} {w : World} {l : List Lv} {v : Value} {t : T} {i : Nat} {acc : List T} (h : VS w0 fb w (l ++ [⟨t,i,acc⟩]) v) : ∃ g c sv pv svs pvs,v = .slice (some ⟨g,0,none⟩) (l.length + 1) c /\ l.length + 1 <= c /\ c <= 9223372036854775807 /\ g ≠ fb /\ w0.heap.size <= g /\
  Node5 w g (l.length * 7) t sv /\ w.cell? ⟨g,l.length * 7 + 6,none⟩ = some pv /\ Fits t /\ AT w0 t.subs sv /\
  VM w0 fb w.heap.size (w.setCell ⟨fb,0,none⟩ (.slice (some ⟨g,0,none⟩) l.length c)) l (.slice (some ⟨g,0,none⟩) l.length c) svs pvs /\
  LR (w.setCell ⟨fb,0,none⟩ (.slice (some ⟨g,0,none⟩) l.length c)) (fun k => Apart w0 fb g pvs k /\ k < w.heap.size) acc pv := by
 obtain ⟨y,z,h1,h2,own,R⟩ := h.row; rw [List.length_append,List.length_singleton] at h1 h2 own; obtain ⟨svs,sv,rfl,d⟩ := yK y _ h1; obtain ⟨pvs,pv,rfl,f⟩ := yK z _ h2; have U := own
 rcases id own.2 with ⟨_,u⟩ | ⟨g,c,F,rfl,G,hh,H,I,J,K⟩
 ·omega
 have m : ∀ j,j < 7 -> w.cell? ⟨g,l.length * 7 + j,none⟩ = [Value.int .i64 t.kind,.string ⟨t.name.toArray⟩,.int .i64 t.num,.int .i64 t.at',sv,.int .i64 i,pv][j]? := fun j L => (own.cellAt (l.length * 7 + j) (by omega)).trans (vQ l svs pvs ⟨t,i,acc⟩ sv pv d f j)
 obtain ⟨q1,q2,q3⟩ := R l.length ⟨t,i,acc⟩ sv pv (by simp) (by rw [<- d]; simp) (by rw [<- f]; simp)
 have x : g ≠ fb := fun e => h.rne (by rw [e]; rfl)
 have n : w.grownBy (w.setCell ⟨fb,0,none⟩ (.slice (some ⟨g,0,none⟩) l.length c)) (some fb) := z6 gr _ _; have M : g < w.heap.size := (own.lt g rfl).2
 have s : ∀ (j : Nat) (q : Value),pvs[j]? = some q -> j ≠ l.length /\ (pvs ++ [pv])[j]? = some q := by
  intro j q hq
  have L : j < pvs.length := by
   rcases Nat.lt_or_ge j pvs.length with u | u
   ·exact u
   ·rw [List.getElem?_eq_none u] at hq; cases hq
  exact ⟨by omega,by rw [List.getElem?_append_left L]; exact hq⟩
 have A : ∀ (j : Nat) (q : Value),pvs[j]? = some q -> ∃ lv sv,l[j]? = some lv /\ svs[j]? = some sv /\ Fits lv.t /\ AT w0 lv.t.subs sv /\ LR w (Zone w0 fb (.slice (some ⟨g,0,none⟩) (l.length + 1) c) (pvs ++ [pv]) j) lv.acc q := by
  intro j q hq
  have L : j < pvs.length := by
   rcases Nat.lt_or_ge j pvs.length with u | u
   ·exact u
   ·rw [List.getElem?_eq_none u] at hq; cases hq
  obtain ⟨lv,B⟩ : ∃ lv,l[j]? = some lv := ⟨_,List.getElem?_eq_getElem (by omega)⟩; obtain ⟨r,C⟩ : ∃ r,svs[j]? = some r := ⟨_,List.getElem?_eq_getElem (by omega)⟩; have := R j lv r q (by rw [List.getElem?_append_left (by omega)]; exact B) (by rw [List.getElem?_append_left (by omega)]; exact C) (s j q hq).2
  exact ⟨lv,r,B,C,this⟩
 unfold maxLen at I
 refine ⟨g,c,sv,pv,svs,pvs,rfl,H,by omega,x,G,⟨m 0 (by omega),m 1 (by omega),m 2 (by omega),m 3 (by omega),m 4 (by omega)⟩,m 6 (by omega),q1,q2,⟨?_,h.flo,?_,?_,?_,d,f,?_,?_,?_,?_,h.lt,?_⟩,?_⟩
 ·exact y7 h.gb h.flo _ _
 ·exact World.cell?_setCell_same _ _ _ h.c0
 ·rw [World.frozen?_setCell]; exact h.z0
 ·intro e; cases e; exact x rfl
 ·simp [World.setCell]
 ·have o2 : w.ownsRow w0.heap.size 116 7 (.slice (some ⟨g,0,none⟩) l.length c) l.length (y8 l svs pvs) := by
   refine ⟨xq l svs pvs d f,.inr ⟨g,c,F,rfl,G,hh,by omega,by unfold maxLen; omega,J,?_⟩⟩; have D := congrArg (List.take (l.length * 7)) K
   have E : ∀ X : List Value,List.take (l.length * 7) (y8 l svs pvs ++ X) = y8 l svs pvs := fun X => by
    rw [<- xq l svs pvs d f,List.take_append_of_le_length (Nat.le_refl _),List.take_length]
   rw [List.take_take,Nat.min_eq_left (by omega),xm _ _ _ _ _ _ d f,E] at D
   exact D
  exact o2.kept n (.inr (fun e => by cases e; exact x rfl))
 ·intro j lv r q D E e3
  obtain ⟨N,O,V,Y,Z,r2,Q⟩ := A j q e3; rw [V] at D; rw [Y] at E; cases D; cases E; refine ⟨Z,r2,((Q.bounded).kept n (fun b a hz => by cases a; exact hz.1.2.1 rfl)).mono (fun k hk => ⟨⟨hk.1.1,hk.1.2.1,hk.1.2.2.1,fun j' q' hq' hjj => hk.1.2.2.2 j' q' (s j' q' hq').2 hjj⟩,hk.2⟩)⟩
 ·intro b a
  cases a
  exact ⟨G,M⟩
 ·intro j q hq b a
  obtain ⟨N,O,V,Y,Z,r2,Q⟩ := A j q hq; obtain ⟨_,_,qo,_⟩ := Q.own
  exact (qo.lt b a).2
 ·exact (q3.bounded.kept n (fun b a hz => by cases a; exact hz.1.2.1 rfl)).mono (fun k hk => ⟨⟨hk.1.1,hk.1.2.1,fun e => hk.1.2.2.1 (by rw [e]; rfl),fun j q hq => hk.1.2.2.2 j q (s j q hq).2 (s j q hq).1⟩,hk.2⟩)
end Go.Proofs.YtifapidjkelnfaaGreatDoor
