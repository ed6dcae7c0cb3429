/- The program's judge of shapes: IF; every act. -/
import Derived.Test.YtfjgelmllcnokaaGreatDoorG26
import Derived.Test.YtfjgelmllcnokaaGreatDoorG04
namespace Go.Proofs.YtfjgelmllcnokaaGreatDoor
open Go.RowKit Go.Maps Go.WideMaps Go.WideElems
set_option maxHeartbeats 2000000
set_option maxRecDepth 1000000
theorem sB : ∀ ts : List T,(xY ts).length = ts.length
 | [] => rfl
 | [_] => rfl
 | _ :: _ :: ts => by simp only [xY,List.length_cons,sB ts]
theorem mW : ∀ (ts : List T) (i : Nat) (u : T),ts[i]? = some u -> (xY ts)[i]? = some (u,if i % 2 = 0 /\ i + 1 < ts.length then .expression else .list .act)
 | [],i,u,h => by simp at h
 | [y],0,u,h => by simp at h; subst h; rfl
 | [y],i + 1,u,h => by simp at h
 | y :: z :: ts,0,u,h => by simp at h; subst h; simp [xY]
 | y :: z :: ts,1,u,h => by simp at h; subst h; simp [xY]
 | y :: z :: ts,i + 2,u,h => by
  have ih := mW ts i u (by simpa using h); simp only [xY,List.getElem?_cons_succ,ih,List.length_cons]
  by_cases h1 : i % 2 = 0 /\ i + 1 < ts.length
  ·rw [if_pos h1,if_pos ⟨by omega,by omega⟩]
  ·rw [if_neg h1,if_neg (by omega)]
theorem ae : JC 136 .act 16 := by
 intro s g t y w l v x m p d sv h a3 J H
 have X := za h; have HF := za J; have HA := za H; have a5 := h.lt
 have HV : Hid (∀ b,v.ownBlock = some b -> b < w.heap.size) := fun b hb => (h.room hb).2
 obtain ⟨a,n,c,rfl,_,_,hl⟩ := H.any
 change d.length = n at hl
 subst hl
 have Y : Hid (zw .act (.mk 16 x m p d) = zq (x.isEmpty && decide (2 <= d.length) && decide ((d.length : Int) % 2 = m)) (xY d)) := rfl
 cases hx : x.isEmpty
 ·skip
  have K : Hid (zw .act (.mk 16 x m p d) = none) := Y.out.trans (zm (by rw [hx]; rfl)); clear h J H
  go_enter Tryz.func136,Tryz.ntmps136
  go_wp2_with fail
  go_ret
  exact .inl ⟨K.out,rfl,zb X.out.gb gan⟩
 ·by_cases h1 : 2 <= d.length
  ·by_cases L : (d.length : Int) % 2 = m
   ·have HY : Hid (zw .act (.mk 16 x m p d) = some (xY d)) := Y.out.trans (zN (by rw [hx]; simp [h1,L]))
    have a0 : ((d.length : Int) % 2 != m) = false := by simp [L]
    clear L; clear h J H
    go_enter Tryz.func136,Tryz.ntmps136
    go_wp2_with fail; go_at_call 73; refine (ug g _ v .act _ (by simp; omega) (fun b hb => by have := HV.out b hb; simp; omega) (.meth .act _ rfl)).mono ?_; rintro e Z ⟨g1,a6,a7,rfl,r1,D⟩; have M := za (zb gan D); have R1 := za r1; have I := za ((Box.new w (.mk 16 x m p d) (.slice a d.length c) 28).kept D); obtain ⟨b0,_,_,_,_⟩ := I.out; have a4 := ze b0; clear D r1; go_wp2_with fail
    go_loopw [33] (fun iv wr => ∃ (i : Nat) (z : Value),i <= d.length /\ iv = .int .i64 ↑i /\ Hid (JS s g t y wr (l ++ (xY d).take i) z) /\ Hid (JK g v Z wr z)) (fun iv _ => d.length - (intOf iv).toNat)
    case atStart => exact ⟨0,v,Nat.zero_le _,rfl,by show JS _ _ _ _ _ _ _; simpa using X.out.grown M.out,JK.refl _ _ _⟩
    case round =>
     obtain ⟨i,z,_,rfl,N,o⟩ := hrel; have f : free g v w.heap.size := ⟨by omega,fun e => by have := HV.out _ e; omega⟩; have X1 : Box wr w.heap.size (.mk 16 x m p d) (.slice a d.length c) := ⟨o.out.kb.cell I.out.c0 f,o.out.kb.cell I.out.c1 f,o.out.kb.cell I.out.c2 f,o.out.kb.cell I.out.c3 f,o.out.kb.cell I.out.c4 f⟩; obtain ⟨d0,_,_,_,_⟩ := X1; have a8 := ze d0
     by_cases a1 : i < d.length
     ·obtain ⟨u,hu⟩ : ∃ u,d[i]? = some u := ⟨_,List.getElem?_eq_getElem a1⟩
      have j := mW d i u hu; obtain ⟨_,_,_,e1,n5,fu,au⟩ := HA.out.node i u hu; cases e1; obtain ⟨_,_,rfl,_,_⟩ := au.form; obtain ⟨_,_,_,_,_⟩ := n5.kept N.out.gb; have HU := za fu; have AU := za au
      have E : (l ++ (xY d).take i).length <= 20000 := by simp [sB]; omega
      clear hu fu au n5
      by_cases O : (i : Int) % 2 = 0
      ·have a2 : ((i : Int) % 2 == 0) = true := by simp [O]
       by_cases hq : i + 1 < d.length
       ·have R : Hid (i % 2 = 0 /\ i + 1 < d.length) := ⟨by omega,hq⟩
        clear O
        have U : Hid (l ++ (xY d).take i ++ [(u,.expression)] = l ++ (xY d).take (i + 1)) := by
         show _ = _
         rw [List.take_add_one,j,if_pos R.out]
         simp
        clear j; go_wp2_with fail; go_at_call 32; refine (kH s g t y _ _ z u .expression _ _ (N.out.grown gan) E HU.out AU.out (.meth .expression _ rfl)).mono ?_; rintro e A ⟨r,rfl,B,C⟩; have F : Hid (JS s g t y A (l ++ (xY d).take (i + 1)) r) := U.out ▸ B; have V : Hid (JK g v Z A r) := o.out.trans ((JK.grown gan).trans C); clear B C; go_wp2_with fail
        exact ⟨⟨i + 1,r,by omega,by go_num,F,V⟩,by simp [intOf]; omega⟩
       ·have R : Hid (¬ (i % 2 = 0 /\ i + 1 < d.length)) := fun h => hq h.2
        have a9 : decide ((i : Int) + 1 < (d.length : Int)) = false := by simp; omega
        clear O
        have U : Hid (l ++ (xY d).take i ++ [(u,(.list .act))] = l ++ (xY d).take (i + 1)) := by
         show _ = _
         rw [List.take_add_one,j,if_neg R.out]
         simp
        clear j; go_wp2_with fail; go_at_call 32; refine (kH s g t y _ _ z u (.list .act) _ _ (N.out.grown gan) E HU.out AU.out ((R1.out.step o.out).grown gan)).mono ?_; rintro e A ⟨r,rfl,B,C⟩; have F : Hid (JS s g t y A (l ++ (xY d).take (i + 1)) r) := U.out ▸ B; have V : Hid (JK g v Z A r) := o.out.trans ((JK.grown gan).trans C); clear B C; go_wp2_with fail
        exact ⟨⟨i + 1,r,by omega,by go_num,F,V⟩,by simp [intOf]; omega⟩
      ·have a2 : ((i : Int) % 2 == 0) = false := by simp [O]
       have R : Hid (¬ (i % 2 = 0 /\ i + 1 < d.length)) := fun h => by have := h.1; omega
       clear O
       have U : Hid (l ++ (xY d).take i ++ [(u,(.list .act))] = l ++ (xY d).take (i + 1)) := by
        show _ = _
        rw [List.take_add_one,j,if_neg R.out]
        simp
       clear j; go_wp2_with fail; go_at_call 32; refine (kH s g t y _ _ z u (.list .act) _ _ (N.out.grown gan) E HU.out AU.out ((R1.out.step o.out).grown gan)).mono ?_; rintro e A ⟨r,rfl,B,C⟩; have F : Hid (JS s g t y A (l ++ (xY d).take (i + 1)) r) := U.out ▸ B; have V : Hid (JK g v Z A r) := o.out.trans ((JK.grown gan).trans C); clear B C; go_wp2_with fail
       exact ⟨⟨i + 1,r,by omega,by go_num,F,V⟩,by simp [intOf]; omega⟩
     ·have F : Hid (JS s g t y wr (l ++ xY d) z) := by
       have := N.out; rw [List.take_of_length_le (by rw [sB]; omega)] at this
       exact this
      go_wp2_with fail
      go_ret
      exact .inr ⟨_,z,HY.out,rfl,F.out,(JK.grown M.out).trans o.out⟩
   ·skip
    have K : Hid (zw .act (.mk 16 x m p d) = none) := Y.out.trans (zm (by simp [L]))
    have a0 : ((d.length : Int) % 2 != m) = true := by simpa using L
    clear h J H
    go_enter Tryz.func136,Tryz.ntmps136
    go_wp2_with fail
    go_ret
    exact .inl ⟨K.out,rfl,zb X.out.gb gan⟩
  ·skip
   have K : Hid (zw .act (.mk 16 x m p d) = none) := Y.out.trans (zm (by simp [h1])); clear h J H
   go_enter Tryz.func136,Tryz.ntmps136
   go_wp2_with fail
   go_ret
   exact .inl ⟨K.out,rfl,zb X.out.gb gan⟩
theorem zhs : JC 80 .act 16 := by
 intro j o r s w l v x m p g E h d t i
 have y := za h; have z := za t; have A := za i; have B := h.lt
 have F : Hid (∀ b,v.ownBlock = some b -> b < w.heap.size) := fun b hb => (h.room hb).2
 obtain ⟨_,n,_,rfl,_,_,u⟩ := i.any
 change g.length = n at u
 subst u; clear h t i
 go_enter Tryz.func80,Tryz.ntmps80
 go_wp2_with fail; go_at_call 136; refine (ae j o r s _ l v x m p g _ (y.out.grown gan) d z.out A.out).mono ?_; intro e C f; obtain ⟨b,rfl,f⟩ := f.ret; have D : Hid (JR j o r s l v w .act (.mk 16 x m p g) (.returned (.bool b)) C) := f.up gan rfl; clear f; go_wp2_with fail
 go_ret
 exact D.out
theorem zcl : RuleSays 80 .act := by
 intro e f g i w l v t j h b n o; obtain ⟨r,x,m,p,d⟩ := t
 change l.length + d.length <= 20000 at b
 by_cases s : r = 14
 ·subst s; exact zgp e f g i w l v x m p d j h b n o
 by_cases u : r = 15
 ·subst u; exact zg6 e f g i w l v x m p d j h b n o
 by_cases y : r = 16
 ·subst y; exact zhs e f g i w l v x m p d j h b n o
 by_cases z : r = 17
 ·subst z; exact zgq e f g i w l v x m p d j h b n o
 by_cases A : r = 18
 ·subst A; exact zhe e f g i w l v x m p d j h b n o
 by_cases B : r = 19
 ·subst B; exact zf3 e f g i w l v x m p d j h b n o
 by_cases C : r = 20
 ·subst C; exact zhc e f g i w l v x m p d j h b n o
 by_cases D : r = 21
 ·subst D; exact zgk e f g i w l v x m p d j h b n o
 by_cases E : r = 22
 ·subst E; exact zgz e f g i w l v x m p d j h b n o
 by_cases F : r = 23
 ·subst F; exact zg2 e f g i w l v x m p d j h b n o
 exact zc2 e f g i w l v r x m p d j h b n o s u y z A B C D E F
end Go.Proofs.YtfjgelmllcnokaaGreatDoor
