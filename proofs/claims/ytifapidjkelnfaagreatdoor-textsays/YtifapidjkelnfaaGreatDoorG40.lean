/- The program's judge of shapes: IF; every act. -/
import Derived.Test.YtifapidjkelnfaaGreatDoorG39
import Derived.Test.YtifapidjkelnfaaGreatDoorG02
import Derived.Test.YtifapidjkelnfaaGreatDoorG36
import Derived.Test.YtifapidjkelnfaaGreatDoorG01
import Derived.Shelf.Abstract
import Derived.Laws.EntriesVeiled
namespace Go.Proofs.YtifapidjkelnfaaGreatDoor
open Go.RowKit Go.Maps Go.WideMaps Go.WideElems
set_option maxHeartbeats 2000000
set_option maxRecDepth 1000000
theorem qk : ∀ ts : List T,(yW ts).length = ts.length
 | [] => rfl
 | [_] => rfl
 | _ :: _ :: ts => by simp only [yW,List.length_cons,qk ts]
theorem de : ∀ (ts : List T) (i : Nat) (u : T),ts[i]? = some u -> (yW ts)[i]? = some (u,if i % 2 = 0 /\ i + 1 < ts.length then .expression else .list .act)
 | [],i,u,h => by simp at h
 | [y],0,u,h => by simp at h; subst h; rfl
 | [y],i + 1,u,h => by simp at h
 | y :: z :: ts,0,u,h => by simp at h; subst h; simp [yW]
 | y :: z :: ts,1,u,h => by simp at h; subst h; simp [yW]
 | y :: z :: ts,i + 2,u,h => by
  have ih := de ts i u (by simpa using h); simp only [yW,List.getElem?_cons_succ,ih,List.length_cons]
  by_cases h1 : i % 2 = 0 /\ i + 1 < ts.length
  ·rw [if_pos h1,if_pos ⟨by omega,by omega⟩]
  ·rw [if_neg h1,if_neg (by omega)]
theorem ph : JC 152 .act 16 := by
 intro s g t y w l v x m p d sv h a1 I G
 have U := zb h; have HF := zb I; have HA := zb G; have a3 := h.lt
 have HV : Hid (∀ b,v.ownBlock = some b -> b < w.heap.size) := fun b hb => (h.room hb).2
 obtain ⟨a,n,c,rfl,_,_,hl⟩ := G.any
 change d.length = n at hl
 subst hl
 have V : Hid (zw .act (.mk 16 x m p d) = zt (x.isEmpty && decide (2 <= d.length) && decide ((d.length : Int) % 2 = m)) (yW d)) := rfl
 cases hx : x.isEmpty
 ·skip
  have J : Hid (zw .act (.mk 16 x m p d) = none) := V.trans (zm (by rw [hx]; rfl)); clear h I G
  go_enter Tryz.func152,Tryz.ntmps152
  go_wp2_with fail
  go_ret
  exact .inl ⟨J,rfl,za U.gb gan⟩
 ·by_cases h1 : 2 <= d.length
  ·by_cases K : (d.length : Int) % 2 = m
   ·have HY : Hid (zw .act (.mk 16 x m p d) = some (yW d)) := V.trans (zH (by rw [hx]; simp [h1,K]))
    have Y : ((d.length : Int) % 2 != m) = false := by simp [K]
    clear K; clear h I G
    go_enter Tryz.func152,Tryz.ntmps152
    go_wp2_with fail; go_at_call 107; refine (xz g _ v .act _ (by simp; omega) (fun b hb => by have := id HV b hb; simp; omega) (.meth .act _ rfl)).mono ?_; rintro e X ⟨g1,a4,a5,rfl,r1,D⟩; have L := za gan D; have R1 := zb r1; have H := zb ((Box.new w (.mk 16 x m p d) (.slice a d.length c) 24).kept D); obtain ⟨b0,_,_,_,_⟩ := id H; have a2 := zc b0; clear D r1; go_wp2_with fail
    go_loopw [33] (fun iv wr => ∃ (i : Nat) (z : Value),i <= d.length /\ iv = .int .i64 ↑i /\ Hid (JS s g t y wr (l ++ (yW d).take i) z) /\ Hid (JK g v X wr z)) (fun iv _ => d.length - (intOf iv).toNat)
    case atStart => exact ⟨0,v,Nat.zero_le _,rfl,by show JS _ _ _ _ _ _ _; simpa using U.grown L,JK.refl _ _ _⟩
    case round =>
     obtain ⟨i,z,_,rfl,M,k⟩ := hrel; have f : free g v w.heap.size := ⟨by omega,fun e => by have := id HV _ e; omega⟩; have X1 : Box wr w.heap.size (.mk 16 x m p d) (.slice a d.length c) := ⟨k.kb.cell H.c0 f,k.kb.cell H.c1 f,k.kb.cell H.c2 f,k.kb.cell H.c3 f,k.kb.cell H.c4 f⟩; obtain ⟨d0,_,_,_,_⟩ := X1; have a6 := zc d0
     by_cases Z : i < d.length
     ·obtain ⟨u,hu⟩ : ∃ u,d[i]? = some u := ⟨_,List.getElem?_eq_getElem Z⟩
      have j := de d i u hu; obtain ⟨_,_,_,e1,n5,fu,au⟩ := HA.node i u hu; cases e1; obtain ⟨_,_,rfl,_,_⟩ := au.form; obtain ⟨_,_,_,_,_⟩ := n5.kept M.gb; have HU := zb fu; have AU := zb au
      have E : (l ++ (yW d).take i).length <= 20000 := by simp [qk]; omega
      clear hu fu au n5
      by_cases N : (i : Int) % 2 = 0
      ·have a0 : ((i : Int) % 2 == 0) = true := by simp [N]
       by_cases hq : i + 1 < d.length
       ·have O : Hid (i % 2 = 0 /\ i + 1 < d.length) := ⟨by omega,hq⟩
        clear N
        have Q : Hid (l ++ (yW d).take i ++ [(u,.expression)] = l ++ (yW d).take (i + 1)) := by
         show _ = _
         rw [List.take_add_one,j,if_pos O.out]
         simp
        clear j; go_wp2_with fail; go_at_call 74; refine (vW s g t y _ _ z u .expression _ _ (M.grown gan) E HU AU (.meth .expression _ rfl)).mono ?_; rintro e A ⟨r,rfl,B,C⟩; have F : Hid (JS s g t y A (l ++ (yW d).take (i + 1)) r) := id Q ▸ B; have R : Hid (JK g v X A r) := k.trans ((JK.grown gan).trans C); clear B C; go_wp2_with fail
        exact ⟨⟨i + 1,r,by omega,by go_num,F,R⟩,by simp [intOf]; omega⟩
       ·have O : Hid (¬ (i % 2 = 0 /\ i + 1 < d.length)) := fun h => hq h.2
        have a7 : decide ((i : Int) + 1 < (d.length : Int)) = false := by simp; omega
        clear N
        have Q : Hid (l ++ (yW d).take i ++ [(u,(.list .act))] = l ++ (yW d).take (i + 1)) := by
         show _ = _
         rw [List.take_add_one,j,if_neg O.out]
         simp
        clear j; go_wp2_with fail; go_at_call 74; refine (vW s g t y _ _ z u (.list .act) _ _ (M.grown gan) E HU AU ((R1.step k).grown gan)).mono ?_; rintro e A ⟨r,rfl,B,C⟩; have F : Hid (JS s g t y A (l ++ (yW d).take (i + 1)) r) := id Q ▸ B; have R : Hid (JK g v X A r) := k.trans ((JK.grown gan).trans C); clear B C; go_wp2_with fail
        exact ⟨⟨i + 1,r,by omega,by go_num,F,R⟩,by simp [intOf]; omega⟩
      ·have a0 : ((i : Int) % 2 == 0) = false := by simp [N]
       have O : Hid (¬ (i % 2 = 0 /\ i + 1 < d.length)) := fun h => by have := h.1; omega
       clear N
       have Q : Hid (l ++ (yW d).take i ++ [(u,(.list .act))] = l ++ (yW d).take (i + 1)) := by
        show _ = _
        rw [List.take_add_one,j,if_neg O.out]
        simp
       clear j; go_wp2_with fail; go_at_call 74; refine (vW s g t y _ _ z u (.list .act) _ _ (M.grown gan) E HU AU ((R1.step k).grown gan)).mono ?_; rintro e A ⟨r,rfl,B,C⟩; have F : Hid (JS s g t y A (l ++ (yW d).take (i + 1)) r) := id Q ▸ B; have R : Hid (JK g v X A r) := k.trans ((JK.grown gan).trans C); clear B C; go_wp2_with fail
       exact ⟨⟨i + 1,r,by omega,by go_num,F,R⟩,by simp [intOf]; omega⟩
     ·have F : Hid (JS s g t y wr (l ++ yW d) z) := by
       have := id M; rw [List.take_of_length_le (by rw [qk]; omega)] at this
       exact this
      go_wp2_with fail
      go_ret
      exact .inr ⟨_,z,HY,rfl,F,(JK.grown L).trans k⟩
   ·skip
    have J : Hid (zw .act (.mk 16 x m p d) = none) := V.trans (zm (by simp [K]))
    have Y : ((d.length : Int) % 2 != m) = true := by simpa using K
    clear h I G
    go_enter Tryz.func152,Tryz.ntmps152
    go_wp2_with fail
    go_ret
    exact .inl ⟨J,rfl,za U.gb gan⟩
  ·skip
   have J : Hid (zw .act (.mk 16 x m p d) = none) := V.trans (zm (by simp [h1])); clear h I G
   go_enter Tryz.func152,Tryz.ntmps152
   go_wp2_with fail
   go_ret
   exact .inl ⟨J,rfl,za U.gb gan⟩
theorem cf : JC 114 .act 16 := by
 intro i j k r w l v x m p f D h a s g
 have u := zb h; have y := zb s; have z := zb g; have A := h.lt
 have E : Hid (∀ b,v.ownBlock = some b -> b < w.heap.size) := fun b hb => (h.room hb).2
 obtain ⟨_,n,_,rfl,_,_,t⟩ := g.any
 change f.length = n at t
 subst t; clear h s g
 go_enter Tryz.func114,Tryz.ntmps114
 go_wp2_with fail; go_at_call 152; refine (ph i j k r _ l v x m p f _ (u.grown gan) a y z).mono ?_; intro e B d; obtain ⟨b,rfl,d⟩ := d.ret; have C : Hid (JR i j k r l v w .act (.mk 16 x m p f) (.returned (.bool b)) B) := d.up gan rfl; clear d; go_wp2_with fail
 go_ret
 exact C
theorem nK : RuleSays 114 .act := by
 intro d f g i w l v t j h a k n; obtain ⟨r,x,m,p,b⟩ := t
 change l.length + b.length <= 20000 at a
 by_cases s : r = 14
 ·subst s; exact iu d f g i w l v x m p b j h a k n
 by_cases u : r = 15
 ·subst u; exact cg d f g i w l v x m p b j h a k n
 by_cases y : r = 16
 ·subst y; exact cf d f g i w l v x m p b j h a k n
 by_cases z : r = 17
 ·subst z; exact iy d f g i w l v x m p b j h a k n
 by_cases A : r = 18
 ·subst A; exact ce d f g i w l v x m p b j h a k n
 by_cases B : r = 19
 ·subst B; exact cN d f g i w l v x m p b j h a k n
 by_cases C : r = 20
 ·subst C; exact iE d f g i w l v x m p b j h a k n
 by_cases D : r = 21
 ·subst D; exact iC d f g i w l v x m p b j h a k n
 by_cases E : r = 22
 ·subst E; exact iB d f g i w l v x m p b j h a k n
 by_cases F : r = 23
 ·subst F; exact io d f g i w l v x m p b j h a k n
 exact ow d f g i w l v r x m p b j h a k n s u y z A B C D E F
structure Two : Prop where
 module : RuleSays 75 .module
 procedure : RuleSays 113 .procedure
theorem pV (H : Two) (w0 : World) (jb lb ob : Nat) (w : World) (l : List (T × Rule)) (v : Value) (t : T) (sv : Value) (r : Rule) (g : Nat) (fa ca : Array Value) (h : JS w0 jb lb ob w l v) (hlen : l.length + t.subs.length <= 20000) (hf : Fits t) (ha : AT w0 t.subs sv) (hr : RV w jb (free jb v) r (.func (.func g) fa ca)) :
  Calls Tryz.prog g (fa ++ #[zq t sv] ++ ca) w (JR w0 jb lb ob l v w r t) := by
 cases hr with
 | meth r g hg =>
  cases r <;> simp only [qK,Option.some.injEq,reduceCtorEq] at hg <;> subst hg
  ·exact H.module w0 jb lb ob w l v t sv h hlen hf ha
  ·exact hZ w0 jb lb ob w l v t sv h hlen hf ha
  ·exact H.procedure w0 jb lb ob w l v t sv h hlen hf ha
  ·exact kT w0 jb lb ob w l v t sv h hlen hf ha
  ·exact uY w0 jb lb ob w l v t sv h hlen hf ha
  ·exact uT w0 jb lb ob w l v t sv h hlen hf ha
  ·exact dG w0 jb lb ob w l v t sv h hlen hf ha
  ·exact nK w0 jb lb ob w l v t sv h hlen hf ha
  ·exact kV w0 jb lb ob w l v t sv h hlen hf ha
  ·exact uB w0 jb lb ob w l v t sv h hlen hf ha
 | list r rv b1 b2 s1 s2 c1 c2 hq => exact rQ w0 jb lb ob w l v t sv r rv b1 b2 h hlen hf ha c1 c2 hq
 | declared k m r rv b1 b2 b3 b4 s1 s2 s3 s4 c1 c2 c3 c4 hq => exact gk w0 jb lb ob w l v t sv k m r rv b1 b2 b3 b4 h hlen hf ha c1 c2 c3 c4 hq
theorem th {w : World} {jb : Nat} {S : Nat -> Prop} {r : Rule} {g : Nat} {fa ca : Array Value} (hr : RV w jb S r (.func (.func g) fa ca)) : ∀ (args : Array Value) (w : World),(callFunc g args).run Tryz.prog w = .ok (.enter g args) w := by
 cases hr with
 | meth r g hg =>
  cases r <;> simp only [qK,Option.some.injEq,reduceCtorEq] at hg <;> subst hg
  ·exact enters_of Tryz.func75 (by kernel_rfl) rfl
  ·exact enters_of Tryz.func108 (by kernel_rfl) rfl
  ·exact enters_of Tryz.func113 (by kernel_rfl) rfl
  ·exact enters_of Tryz.func111 (by kernel_rfl) rfl
  ·exact enters_of Tryz.func112 (by kernel_rfl) rfl
  ·exact enters_of Tryz.func150 (by kernel_rfl) rfl
  ·exact enters_of Tryz.func151 (by kernel_rfl) rfl
  ·exact enters_of Tryz.func114 (by kernel_rfl) rfl
  ·exact enters_of Tryz.func110 (by kernel_rfl) rfl
  ·exact enters_of Tryz.func149 (by kernel_rfl) rfl
 | list r rv b1 b2 s1 s2 c1 c2 hq => exact enters_of Tryz.func144 (by kernel_rfl) rfl
 | declared k m r rv b1 b2 b3 b4 s1 s2 s3 s4 c1 c2 c3 c4 hq => exact enters_of Tryz.func147 (by kernel_rfl) rfl
theorem qN (l : List (T × Rule)) (svs rvs : List Value) (p : T × Rule) (sv rv : Value) (h1 : svs.length = l.length) (h2 : rvs.length = l.length) (j : Nat) : (vi (l ++ [p]) (svs ++ [sv]) (rvs ++ [rv]))[l.length * 6 + j]? = [Value.int .i64 p.1.kind,.string ⟨p.1.name.toArray⟩,.int .i64 p.1.num,.int .i64 p.1.at',sv,rv][j]? := by
 rw [vI _ _ _ _ _ _ h1 h2,List.getElem?_append_right (by rw [xK _ _ _ h1 h2]; omega),xK _ _ _ h1 h2]
 simp [vi]
theorem yK {α : Type} : ∀ (l : List α) (n : Nat),l.length = n + 1 -> ∃ l' a,l = l' ++ [a] /\ l'.length = n := by
 intro l n h; refine ⟨l.take n,l[n]'(by omega),?_,by simp; omega⟩; rw [<- List.take_succ_eq_append_getElem (by omega),List.take_of_length_le (by omega)]
theorem JS.pop {w0 : World} {jb lb ob : Nat} {w : World} {l : List (T × Rule)} {v : Value} {t : T} {r : Rule} (h : JS w0 jb lb ob w (l ++ [(t,r)]) v) : ∃ g c sv rv,v = .slice (some ⟨g,0,none⟩) (l.length + 1) c /\ l.length + 1 <= c /\ c <= 9223372036854775807 /\
  w.cell? ⟨g,l.length * 6,none⟩ = some (.int .i64 t.kind) /\ w.cell? ⟨g,l.length * 6 + 1,none⟩ = some (.string ⟨t.name.toArray⟩) /\ w.cell? ⟨g,l.length * 6 + 2,none⟩ = some (.int .i64 t.num) /\ w.cell? ⟨g,l.length * 6 + 3,none⟩ = some (.int .i64 t.at') /\ w.cell? ⟨g,l.length * 6 + 4,none⟩ = some sv /\ w.cell? ⟨g,l.length * 6 + 5,none⟩ = some rv /\
  Fits t /\ AT w0 t.subs sv /\ RV w jb (free jb v) r rv /\ g ≠ jb /\
  JS w0 jb lb ob (w.setCell ⟨jb,2,none⟩ (.slice (some ⟨g,0,none⟩) l.length c)) l (.slice (some ⟨g,0,none⟩) l.length c) /\ RV (w.setCell ⟨jb,2,none⟩ (.slice (some ⟨g,0,none⟩) l.length c)) jb (free jb (.slice (some ⟨g,0,none⟩) l.length c)) r rv := by
 obtain ⟨x,y,h1,h2,m,H⟩ := h.row; rw [List.length_append,List.length_singleton] at h1 h2 m; obtain ⟨n,sv,rfl,b⟩ := yK x _ h1; obtain ⟨s,rv,rfl,d⟩ := yK y _ h2
 rcases id m.2 with ⟨_,C⟩ | ⟨g,c,z,rfl,J,K,D,E,F,G⟩
 ·omega
 have f : ∀ j,j < 6 -> w.cell? ⟨g,l.length * 6 + j,none⟩ = [Value.int .i64 t.kind,.string ⟨t.name.toArray⟩,.int .i64 t.num,.int .i64 t.at',sv,rv][j]? := fun j hj => (m.cellAt (l.length * 6 + j) (by omega)).trans (qN l n s (t,r) sv rv b d j)
 obtain ⟨L,M,I⟩ := H l.length (t,r) sv rv (by simp) (by rw [<- b]; simp) (by rw [<- d]; simp)
 have u : g ≠ jb := fun e => h.rne (by rw [e]; rfl)
 have a : KB (fun k => k ≠ jb) w (w.setCell ⟨jb,2,none⟩ (.slice (some ⟨g,0,none⟩) l.length c)) := ⟨rfl,rfl,rfl,by simp [World.setCell],fun k _ hk => Below.heap_setCell _ _ _ _ (by simpa using hk)⟩
 have A : ∀ k,k < w.heap.size -> free jb (.slice (some ⟨g,0,none⟩) (l.length + 1) c) k -> free jb (.slice (some ⟨g,0,none⟩) l.length c) k := fun k _ hk => hk
 have B : KB (free jb (.slice (some ⟨g,0,none⟩) (l.length + 1) c)) w (w.setCell ⟨jb,2,none⟩ (.slice (some ⟨g,0,none⟩) l.length c)) := ⟨a.os,a.tape,a.output,a.size,fun k hk hs => a.block k hk hs.1⟩
 unfold maxLen at E
 refine ⟨g,c,sv,rv,rfl,D,by omega,f 0 (by omega),f 1 (by omega),f 2 (by omega),f 3 (by omega),f 4 (by omega),f 5 (by omega),L,M,I,u,?_,I.kept B A⟩
 exact {
  gb := ⟨a.os.trans h.gb.os,a.tape.trans h.gb.tape,a.output.trans h.gb.output,Nat.le_trans h.gb.size a.size,fun k hk _ => (a.block k (Nat.lt_of_lt_of_le hk h.gb.size) (by have := h.jlo; omega)).trans (h.gb.block k hk (by simp))⟩
  jlo := h.jlo
  c0 := by rw [World.cell?_setCell_other _ _ _ _ (by simp)]; exact h.c0
  c1 := by rw [World.cell?_setCell_other _ _ _ _ (by simp)]; exact h.c1
  c2 := World.cell?_setCell_same _ _ _ h.c2
  z2 := by rw [World.frozen?_setCell]; exact h.z2
  lex := yc h.lex (a.block _ (World.ownsMap.lt h.lex) h.lne)
  ops := yc h.ops (a.block _ (World.ownsMap.lt h.ops) h.one)
  lne := h.lne
  one := h.one
  rne := fun e => u (by simpa [Value.ownBlock] using e)
  row := by
   refine ⟨n,s,b,d,⟨xK _ _ _ b d,.inr ⟨g,c,z,rfl,J,(a.block g (World.block_lt_of_cell? w ⟨g,_,none⟩ (f 0 (by omega))) u).trans K,by omega,by unfold maxLen; omega,F,?_⟩⟩,fun i p sv' rv' e1 e2 e3 => ?_⟩
   ·have N : vi l n s = (z.toList.take ((l.length + 1) * 6)).take (l.length * 6) := by
     rw [G,vI _ _ _ _ _ _ b d,List.take_append_of_le_length (by rw [xK _ _ _ b d]; omega),List.take_of_length_le (by rw [xK _ _ _ b d]; omega)]
    rw [N,List.take_take]
    congr 1
    omega
   ·have O : i < l.length := by
     rcases Nat.lt_or_ge i l.length with C | C
     ·exact C
     ·rw [List.getElem?_eq_none C] at e1; cases e1
    obtain ⟨Q,z2,R⟩ := H i p sv' rv' (by rw [List.getElem?_append_left O]; exact e1) (by rw [List.getElem?_append_left (by omega)]; exact e2) (by rw [List.getElem?_append_left (by omega)]; exact e3)
    exact ⟨Q,z2,R.kept B A⟩ }
set_option maxHeartbeats 4000000
theorem df : WellAll [] := fun p hp => by cases hp
theorem nG (t : T) : Well .module t ↔ WellAll [(t,.module)] := ⟨fun h p hp => by cases List.mem_singleton.1 hp; exact h,fun h => h (t,.module) (List.mem_singleton.2 rfl)⟩
theorem JS.init {w w2 : World} {lb ob : Nat} (hg : w.grownBy w2 none) (hl : IsLex w2 lb) (ho : IsOps w2 ob) :
  JS w w2.heap.size lb ob (w2.alloc (.cells #[.map (some lb),.map (some ob),.slice none 0 0] 98)) [] (.slice none 0 0) := by
 have a := zf (zj w2 none) (.cells #[.map (some lb),.map (some ob),.slice none 0 0] 98)
 exact {
  gb := zf hg _
  jlo := hg.size
  c0 := by rw [World.cell?_alloc_at _ _ _ _ rfl]; rfl
  c1 := by rw [World.cell?_alloc_at _ _ _ _ rfl]; rfl
  c2 := by rw [World.cell?_alloc_at _ _ _ _ rfl]; rfl
  z2 := World.frozen?_alloc_at _ _ _ _ rfl
  lex := yc hl (a.block _ (World.ownsMap.lt hl) (by simp))
  ops := yc ho (a.block _ (World.ownsMap.lt ho) (by simp))
  lne := by have := World.ownsMap.lt hl; omega
  one := by have := World.ownsMap.lt ho; omega
  rne := by simp [Value.ownBlock]
  row := ⟨[],[],rfl,rfl,⟨rfl,.inl ⟨rfl,rfl⟩⟩,fun i p sv rv h _ _ => by simp at h⟩ }
theorem JS.none {w0 : World} {jb lb ob : Nat} {w : World} {v : Value} (h : JS w0 jb lb ob w [] v) : ∃ a c,v = .slice a 0 c /\ c <= 9223372036854775807 := by
 obtain ⟨_,_,_,_,b,_⟩ := h.row
 rcases b.2 with ⟨rfl,_⟩ | ⟨g,c,_,rfl,_,_,_,d,_⟩
 ·exact ⟨_,_,rfl,by omega⟩
 ·unfold maxLen at d; exact ⟨_,_,rfl,by omega⟩
theorem t8 (H : Two) (w0 : World) (jb lb ob : Nat) (w : World) (l : List (T × Rule)) (v : Value) (t : T) (sv : Value) (r : Rule) (g : Nat) (fa ca : Array Value) (h : JS w0 jb lb ob w l v) (hlen : l.length + t.subs.length <= 20000) (hf : Fits t) (ha : AT w0 t.subs sv) (hr : RV w jb (free jb v) r (.func (.func g) fa ca)) :
  Calls Tryz.prog g (fa.push (zq t sv) ++ ca) w (JR w0 jb lb ob l v w r t) := by
 have a := pV H w0 jb lb ob w l v t sv r g fa ca h hlen hf ha hr; rwa [show fa ++ #[zq t sv] = fa.push (zq t sv) by simp] at a
theorem tB (H : Two) (t : T) (sv : Value) (w : World) (hf : Fits t) (ha : AT w t.subs sv) (hcount : zn t <= 10000) (htab : Lib.TabIs Tryz.prog w "strings.asciiSpace" .u8 Lib.asciiSpaceTab) :
  Calls Tryz.prog 43 #[zq t sv] w fun e w' => w.grownBy w' none /\ ((zh .module t = true /\ e = .returned (.tuple #[.int .i64 (zn t),.bool true])) \/ (zh .module t = false /\ e = .returned (.tuple #[.int .i64 0,.bool false]))) := by
 have HH := zb H; have HF := zb hf; have HA := zb ha; have HT := zb htab; obtain ⟨f,x,m,p,d⟩ := t; obtain ⟨a,n,c,rfl,_,_,Q⟩ := ha.any
 change d.length = n at Q
 subst Q; clear H hf ha htab
 change Calls Tryz.prog 43 #[.agg #[.int .i64 f,.string ⟨x.toArray⟩,.int .i64 m,.int .i64 p,.slice a d.length c]] w _
 go_enter Tryz.func43,Tryz.ntmps43
 go_wp2_with fail; go_at_call 72; refine (fU _ (va HT.out (((Below.refl _ _).alloc (Nat.le_refl _) _)))).mono ?_; rintro e w1 ⟨rfl,s,h⟩; have G1 := zb (za gan (uA h none)); have B1 := zb ((Box.new w (.mk f x m p d) (.slice a d.length c) 24).kept (uA h none)); have R := zb s; clear s h; go_wp2_with fail; go_at_call 73; refine (jd _).mono ?_; rintro e A ⟨rfl,v,g⟩; have G2 := zb (za G1.out g); have B2 := zb (B1.out.kept g); have X2 := zb v
 have L2 : Hid (IsLex A (w.heap.size + 1 + 1)) := by
  have h9 := yc R.out (g.block _ (World.ownsMap.lt R.out) (by simp)); rwa [World.size_alloc] at h9
 obtain ⟨U,b1,b2,b3,b4⟩ := B2.out; have a1 := zc U; clear v g; go_wp2_with fail; go_at_call 74; refine (vW w A.heap.size _ _ _ [] (.slice none 0 0) (.mk f x m p d) .module _ _ (JS.init G2.out L2.out X2.out) (by simp) HF.out HA.out (.meth .module _ rfl)).mono ?_; rintro e w3 ⟨v3,rfl,V,-⟩; have J3 := zb V; clear V U b1 b2 b3 b4
 have B : 0 + yY [((T.mk f x m p d),Rule.module)] = zn (T.mk f x m p d) := by unfold yY; simp [zx]
 go_wp2_with fail
 go_loopw [2] (fun cv wr => ∃ (b : Nat) (l : List (T × Rule)) (X : Value),cv = .int .i64 ↑b /\ Hid (JS w A.heap.size (w.heap.size + 1 + 1) w1.heap.size wr l X) /\ Hid (b + yY l = zn (T.mk f x m p d)) /\ Hid (Well .module (.mk f x m p d) ↔ WellAll l)) (fun cv _ => 10001 - (intOf cv).toNat)
 case atStart => exact ⟨0,_,v3,rfl,J3,B,nG _⟩
 case round =>
  obtain ⟨b,l,X,rfl,k,C,D⟩ := hrel; have d2 := k.out.c2; have dz := k.out.z2; have a2 := k.out.lt
  rcases Nat.eq_zero_or_pos l.length with i | i
  ·obtain rfl := List.eq_nil_of_length_eq_zero i
   obtain ⟨_,_,rfl,_⟩ := k.out.none; have E : Hid (zh .module (.mk f x m p d) = true) := xf.2 (D.out.2 df)
   have HC : Hid (b = zn (T.mk f x m p d)) := by
    show _ = _
    have := C.out
    simpa [yY,zx] using this
   go_wp2_with fail
   go_ret2
   exact ⟨k.out.gb,.inl ⟨E.out,by rw [HC.out]; rfl⟩⟩
  ·obtain ⟨l,⟨u,r⟩,rfl,F⟩ := yK l (l.length - 1) (by omega)
   obtain ⟨_,_,_,_,rfl,_,g,k0,_,_,_,_,_,Y,G,I,_,Z,rc⟩ := k.out.pop; have JC := zb Z; clear Z; obtain ⟨_,_,rfl,_,_⟩ := G.form; obtain ⟨gn,fa,ca,rfl⟩ := I.form; have a0 := th I; have J : b + yY (l ++ [(u,r)]) = zn (T.mk f x m p d) := C.out; have K := qJ (l ++ [(u,r)]); have L := pJ u
   have M : zn u <= yY (l ++ [(u,r)]) := by rw [vy]; have : yY [(u,r)] = zn u := (by unfold yY; simp [zx]); omega
   have N : yY (l ++ [(u,r)]) = yY l + zn u := by rw [vy]; have : yY [(u,r)] = zn u := (by unfold yY; simp [zx]); omega
   have O := qJ l
   have y : Hid (l.length + u.subs.length <= 20000) := by show _ <= _; omega
   have a3 : b + 1 <= 10000 := by omega
   have FU := zb Y; have AU := zb G; have RC := zb rc
   have a4 : l.length <= 10000 := by omega
   have a5 := zc k0; clear J K L M N O Y G I rc i F; simp only [] at *; go_wp2_with fail; refine (t8 HH.out w A.heap.size _ _ _ l _ u _ r gn fa ca (JC.out.grown gan) y.out FU.out AU.out (RC.out.grown gan)).mono ?_; rintro e w9 (⟨z,rfl,g9⟩ | ⟨q,v9,j,rfl,j9,-⟩)
   ·have E : Hid (zh .module (.mk f x m p d) = false) := by
     show _ = _
     rw [Bool.eq_false_iff,ne_eq,xf,D.out]
     exact WellAll.stop z
    have G9 := zb g9; clear z g9; go_wp2_with fail
    go_ret2
    exact ⟨G9.out,.inr ⟨E.out,rfl⟩⟩
   ·have J9 := zb j9
    have C9 : Hid (b + 1 + yY (l ++ q) = zn (T.mk f x m p d)) := by
     show _ = _
     have h8 := C.out; rw [sU j] at h8
     omega
    have W9 : Hid (Well .module (.mk f x m p d) ↔ WellAll (l ++ q)) := D.out.trans (WellAll.step j); clear j9 j; go_wp2_with fail
    exact ⟨⟨b + 1,_,v9,by go_num,J9,C9,W9⟩,by simp [intOf]; omega⟩
end Go.Proofs.YtifapidjkelnfaaGreatDoor
