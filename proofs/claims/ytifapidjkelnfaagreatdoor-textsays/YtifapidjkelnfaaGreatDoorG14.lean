/- The document's words of a text,told loosely. -/
import Derived.Test.YtifapidjkelnfaaGreatDoorG01
import Derived.Test.YtifapidjkelnfaaGreatDoorG02
namespace Go.Proofs.YtifapidjkelnfaaGreatDoor
open Go.RowKit
theorem Tryz.infoTok : (Tryz.prog.info? 56).map (fun i => (i.zero,i.size,i.bytes)) = some (some (.agg #[.string ⟨#[]⟩,.int .i64 0]),2,24) := by kernel_rfl
def uX : List (Bs × Int) -> List Value
 | [] => []
 | x :: l => .string ⟨x.1.toArray⟩ :: .int .i64 x.2 :: uX l
theorem kg : ∀ l m,uX (l ++ m) = uX l ++ uX m
 | [],_ => rfl
 | x :: l,m => by simp [uX,kg l m]
theorem gP : ∀ (l : List (Bs × Int)) (j : Nat) (h : j < l.length),(uX l)[j * 2]? = some (.string ⟨l[j].1.toArray⟩) /\ (uX l)[j * 2 + 1]? = some (.int .i64 l[j].2)
 | x :: l,0,_ => ⟨rfl,rfl⟩
 | x :: l,j + 1,h => by
  have := gP l j (by simpa using h); rw [show (j + 1) * 2 = j * 2 + 2 from by omega]
  exact this
structure KWK (w : World) (s : ByteArray) (v : Value) (wr : World) (k : Nat) (acc : List (Bs × Int)) : Prop where
 le : k <= s.size
 own : wr.ownsRow (w.heap.size + 1) 56 2 v acc.length (uX acc)
 below : Below (w.heap.size + 1) (w.alloc (.cells #[.int .i64 0,.int .i64 0,.int .i64 0] 27)) wr
 count : acc.length <= k
 word : ∀ x,x ∈ acc -> x.1 ≠ [] /\ x.1.length <= 4000
def KWd (w : World) (e : Ending) (w' : World) : Prop := Below w.heap.size w w' /\ ∃ v E t a,e = .returned (.tuple #[v,.agg #[.int .i64 E,.int .i64 t,.int .i64 a]]) /\
 (E = 0 -> ∃ (acc : List (Bs × Int)) (p : Int),w'.ownsRow (w.heap.size + 1) 56 2 v (acc.length + 1) (uX (acc ++ [([],p)])) /\ acc.length <= 4000 /\ ∀ x,x ∈ acc -> x.1 ≠ [] /\ x.1.length <= 4000)
theorem KWK.bw {w : World} {s : ByteArray} {v : Value} {wr : World} {k : Nat} {acc : List (Bs × Int)} (h : KWK w s v wr k acc) : Below w.heap.size w wr := ((Below.refl w.heap.size w).alloc (Nat.le_refl _) _).trans (h.below.mono (by omega))
theorem KWK.add {w : World} {s : ByteArray} {v v' : Value} {wr w3 : World} {k : Nat} {acc : List (Bs × Int)} {o : Obj} (h : KWK w s v wr k acc) (n : Nat) (hn : 1 <= n) (hk : k + n <= s.size) (hs : s.size <= 4000)
  (ho : w3.ownsRow (w.heap.size + 1) 56 2 v' (acc.length + 1) (uX acc ++ [.string (s.extract k (k + n)),.int .i64 k])) (hg : (wr.alloc o).grownBy w3 v.ownBlock) : ∃ acc',KWK w s v' w3 (k + n) acc' := by
 have hz := h.below.size; simp only [World.size_alloc] at hz; have hc := h.count
 have e : (s.extract k (k + n)).data.toList.length = n := by rw [Lib.extract_data,List.length_take,List.length_drop,<- xt]; omega
 refine ⟨acc ++ [((s.extract k (k + n)).data.toList,(k : Int))],hk,?_,(h.below.alloc (by omega) _).grown hg (by simp; omega) (fun j hj => (h.own.lt j hj).1),by simp; omega,fun x hx => ?_⟩
 ·rw [kg,List.length_append]
  exact ho
 ·rcases List.mem_append.1 hx with hx | hx
  ·exact h.word x hx
  ·obtain rfl := List.mem_singleton.1 hx
   exact ⟨fun e' => by rw [show (s.extract k (k + n)).data.toList = [] from e'] at e; simp at e; omega,by show List.length _ <= _; rw [e]; omega⟩
theorem uI {wr : World} {a : Act} {B : Nat} {v x0 x1 x2 x y z : Value} {R : Ending -> World -> Prop} (c0 : wr.cell? ⟨B,0,none⟩ = some x0) (c1 : wr.cell? ⟨B,1,none⟩ = some x1) (c2 : wr.cell? ⟨B,2,none⟩ = some x2) (hp : a.tmps[3]?.getD undef = .pointer (some ⟨B,0,none⟩)) (h2 : a.tmps[2]?.getD undef = v) (hd : a.defers = [])
  (hR : R (.returned (.tuple #[v,.agg #[x,y,z]])) (((wr.setCell ⟨B,0,none⟩ x).setCell ⟨B,1,none⟩ y).setCell ⟨B,2,none⟩ z)) : bodyPost Tryz.prog Tryz.f7 R .ret a (((wr.setCell ⟨B,0,none⟩ x).setCell ⟨B,1,none⟩ y).setCell ⟨B,2,none⟩ z) := by
 have k0 : (((wr.setCell ⟨B,0,none⟩ x).setCell ⟨B,1,none⟩ y).setCell ⟨B,2,none⟩ z).cell? ⟨B,0,none⟩ = some x := by rw [World.cell?_setCell_other _ _ _ _ (by simp),World.cell?_setCell_other _ _ _ _ (by simp)]; exact World.cell?_setCell_same _ _ _ c0
 have k1 : (((wr.setCell ⟨B,0,none⟩ x).setCell ⟨B,1,none⟩ y).setCell ⟨B,2,none⟩ z).cell? ⟨B,1,none⟩ = some y := by rw [World.cell?_setCell_other _ _ _ _ (by simp)]; exact World.cell?_setCell_same _ _ _ ((World.cell?_setCell_other _ _ _ _ (by simp)).trans c1)
 have k2 : (((wr.setCell ⟨B,0,none⟩ x).setCell ⟨B,1,none⟩ y).setCell ⟨B,2,none⟩ z).cell? ⟨B,2,none⟩ = some z := World.cell?_setCell_same _ _ _ ((World.cell?_setCell_other _ _ _ _ (by simp)).trans ((World.cell?_setCell_other _ _ _ _ (by simp)).trans c2))
 exact bodyPost_ret (by simp [results,Tryz.results7,go_sem,hp,h2,k0,k1,k2]) hd hR
set_option maxHeartbeats 400000 in
theorem ns (n : Int) (w : World) : Calls Tryz.prog 18 #[.int .i64 n] w fun e w' => e = .returned (.agg #[.int .i64 n,.int .i64 (-1),.int .i64 (-1)]) /\ Below w.heap.size w w' := by
 go_enter Tryz.func18,Tryz.ntmps18
 go_wp2
 exact bodyPost_ret (by simp [results,Tryz.results18,go_sem]) rfl ⟨rfl,(Below.refl _ _).alloc (Nat.le_refl _) _⟩
set_option maxHeartbeats 400000 in
theorem jR (w : World) : Calls Tryz.prog 8 #[] w fun e w' => e = .returned (.agg #[.int .i64 0,.int .i64 (-1),.int .i64 (-1)]) /\ Below w.heap.size w w' := by
 go_enter Tryz.func8,Tryz.ntmps8
 go_wp2
 exact bodyPost_ret (by simp [results,Tryz.results8,go_sem]) rfl ⟨rfl,(Below.refl _ _).alloc (Nat.le_refl _) _⟩
theorem sF {w wr : World} (h : Below (w.heap.size + 1) (w.alloc (.cells #[.int .i64 0,.int .i64 0,.int .i64 0] 27)) wr) :
  wr.cell? ⟨w.heap.size,0,none⟩ = some (.int .i64 0) /\ wr.cell? ⟨w.heap.size,1,none⟩ = some (.int .i64 0) /\ wr.cell? ⟨w.heap.size,2,none⟩ = some (.int .i64 0) /\ ∀ o,wr.frozen? ⟨w.heap.size,o,none⟩ = false :=
 ⟨by rw [h.cell (by simp)]; simp,by rw [h.cell (by simp),World.cell?_alloc_at _ _ _ _ rfl]; rfl,by rw [h.cell (by simp),World.cell?_alloc_at _ _ _ _ rfl]; rfl,fun o => by rw [h.frozen (by simp)]; exact World.frozen?_alloc_at _ _ _ _ rfl⟩
set_option maxRecDepth 1000000 in
set_option maxHeartbeats 8000000 in
theorem sY (s : ByteArray) (w : World) (hs : s.size <= maxLen) : Calls Tryz.prog 7 #[.string s] w (KWd w) := by
  obtain ⟨i0,hi,hz0,hz1,hz2⟩ := info_parts Tryz.infoTok
  unfold maxLen at hs
  go_enter Tryz.func7,Tryz.ntmps7
  by_cases hl : 4000 < s.size
  · go_wp2_with fail
    refine (ns 3 _).mono ?_; rintro e w1 ⟨rfl,hb⟩; have hB := (Below.refl w.heap.size w).alloc (Nat.le_refl _) (.cells #[.int .i64 0,.int .i64 0,.int .i64 0] 27); obtain ⟨c0,c1,c2,z⟩ := sF (w := w) (wr := w1) (by simpa using hb); have HB := hB.trans (hb.mono (by simp)); clear hb hB; go_wp2
    exact uI c0 c1 c2 rfl rfl rfl ⟨((HB.setCell (by simp) _).setCell (by simp) _).setCell (by simp) _,_,_,_,_,rfl,fun e => absurd e (by decide)⟩
  · have HW0 : Hid (KWK w s (.slice none 0 0) (w.alloc (.cells #[.int .i64 0,.int .i64 0,.int .i64 0] 27)) 0 []) := ⟨Nat.zero_le _,World.ownsRow_nil _ _ _ _,Below.refl _ _,by simp,fun x h => by cases h⟩
    go_wp2
    go_loopw [4,5] (fun v iv wr => ∃ (k : Nat) (acc : List (Bs × Int)),iv = .int .i64 k /\ Hid (KWK w s v wr k acc)) (fun _ iv _ => s.size - (intOf iv).toNat)
    case atStart => exact ⟨0,[],rfl,HW0⟩
    case round =>
      obtain ⟨k,acc,rfl,HI⟩ := hrel; have hbw := HI.below; obtain ⟨c0,c1,c2,z⟩ := sF hbw; have hk := HI.le; have hwz := hbw.size; simp only [World.size_alloc] at hwz; have hcnt := HI.count; clear hbw HW0
      by_cases hlt : k < s.size
      · cases hlet : zK (s[k]'hlt).toNat
        · cases hdig : yq (s[k]'hlt).toNat
          · as_aux_lemma =>
            go_wp2_with (first
              | (go_at_call 23; refine (xn _ _).mono ?_; rintro e w' ⟨rfl,rfl⟩; simp only [hlet])
              | (go_at_call 24; refine (xU _ _).mono ?_; rintro e w' ⟨rfl,rfl⟩; simp only [hdig])
              | (go_at_call 26; refine (fp _ _).mono ?_; rintro e w' ⟨⟨b,rfl⟩,rfl⟩; cases b)
              | (go_at_call 22; refine (dc s k _ (by omega) (by omega)).mono ?_; rintro e w' ⟨rfl | ⟨k',rfl,h1,h2⟩,rfl⟩)
              | (at_builtin; refine wpList_append_own _ rfl _ _ 32 rfl (w.heap.size + 1) 56 i0 (.agg #[.string ⟨#[]⟩,.int .i64 0]) 2 24 Tryz.underlying32 hi hz0 hz1 hz2 rfl (by decide) _ _ _ rfl (HI.own.alloc _) _ 1 1 [.string _,.int .i64 _] rfl rfl (cell_two_new _ _ _ _) (fun x hx => by simp at hx; rcases hx with rfl | rfl <;> rfl) (by unfold maxLen; omega) (by omega) (by simp; omega) ?_; intro v' w3 ho hg hnil))
            all_goals first
              | exact ⟨⟨k + 1,acc,by go_num,(⟨by omega,HI.own,HI.below,by omega,HI.word⟩ : KWK _ _ _ _ _ _)⟩,by simp [intOf]; omega⟩
              | exact ⟨⟨k',acc,rfl,(⟨by omega,HI.own,HI.below,by omega,HI.word⟩ : KWK _ _ _ _ _ _)⟩,by simp [intOf]; omega⟩
              | exact uI c0 c1 c2 rfl rfl rfl ⟨((HI.bw.setCell (by simp) _).setCell (by simp) _).setCell (by simp) _,_,_,_,_,rfl,fun e => absurd e (by decide)⟩
              | (obtain ⟨acc',h'⟩ := HI.add 1 (by omega) (by omega) (by omega) ho hg; exact ⟨⟨k + 1,acc',by go_num,h'⟩,by simp [intOf]; omega⟩)
              | (obtain ⟨acc',h'⟩ := HI.add 2 (by omega) (by omega) (by omega) ho hg; exact ⟨⟨k + 2,acc',by go_num,h'⟩,by simp [intOf]; omega⟩)
          · as_aux_lemma =>
            have t32 : (((s[k]'hlt).toNat : Int) == 32) = false := by rw [beq_eq_false_iff_ne]; simp [yq] at hdig; omega
            have t9 : (((s[k]'hlt).toNat : Int) == 9) = false := by rw [beq_eq_false_iff_ne]; simp [yq] at hdig; omega
            have t10 : (((s[k]'hlt).toNat : Int) == 10) = false := by rw [beq_eq_false_iff_ne]; simp [yq] at hdig; omega
            have t13 : (((s[k]'hlt).toNat : Int) == 13) = false := by rw [beq_eq_false_iff_ne]; simp [yq] at hdig; omega
            have t40 : (((s[k]'hlt).toNat : Int) == 40) = false := by rw [beq_eq_false_iff_ne]; simp [yq] at hdig; omega
            go_wp2_with (first | (go_at_call 23; refine (xn _ _).mono ?_; rintro e w' ⟨rfl,rfl⟩; simp only [hlet]) | (go_at_call 24; refine (xU _ _).mono ?_; rintro e w' ⟨rfl,rfl⟩; simp only [hdig]))
            go_loop [8] (fun nv => ∃ n : Nat,nv = .int .i64 n /\ 1 <= n /\ k + n <= s.size) (fun nv => s.size - (intOf nv).toNat)
            case atStart => exact ⟨1,rfl,Nat.le_refl _,by omega⟩
            case round =>
              obtain ⟨n,rfl,hn1,hn2⟩ := hrel; have HX : Hid ((s.extract k (k + n)).size = n) := zb (by rw [xt,Lib.extract_data,List.length_take,List.length_drop,<- xt]; omega)
              by_cases hn : k + n < s.size
              all_goals
                go_wp2_with (first
                  | (go_at_call 23; refine (kJ _ _).mono ?_; rintro e w' ⟨⟨b,rfl⟩,rfl⟩; cases b)
                  | (go_at_call 24; refine (jn _ _).mono ?_; rintro e w' ⟨⟨b,rfl⟩,rfl⟩; cases b)
                  | (go_at_call 25; refine (kB _ _ (by rw [HX.out]; omega)).mono ?_; rintro e w' ⟨⟨b,rfl⟩,rfl⟩; cases b)
                  | (at_builtin; refine wpList_append_own _ rfl _ _ 32 rfl (w.heap.size + 1) 56 i0 (.agg #[.string ⟨#[]⟩,.int .i64 0]) 2 24 Tryz.underlying32 hi hz0 hz1 hz2 rfl (by decide) _ _ _ rfl (HI.own.alloc _) _ 1 1 [.string _,.int .i64 _] rfl rfl (cell_two_new _ _ _ _) (fun x hx => by simp at hx; rcases hx with rfl | rfl <;> rfl) (by unfold maxLen; omega) (by omega) (by simp; omega) ?_; intro v' w3 ho hg hnil))
                all_goals first
                  | exact ⟨⟨n + 1,by go_num,by omega,by omega⟩,by simp [intOf]; omega⟩
                  | (obtain ⟨acc',h'⟩ := HI.add n (by omega) (by omega) (by omega) ho hg; exact ⟨⟨k + n,acc',by go_num,h'⟩,by simp [intOf]; omega⟩)
                  | exact uI c0 c1 c2 rfl rfl rfl ⟨((HI.bw.setCell (by simp) _).setCell (by simp) _).setCell (by simp) _,_,_,_,_,rfl,fun e => absurd e (by decide)⟩
        · as_aux_lemma =>
          have t32 : (((s[k]'hlt).toNat : Int) == 32) = false := by rw [beq_eq_false_iff_ne]; simp [zK] at hlet; omega
          have t9 : (((s[k]'hlt).toNat : Int) == 9) = false := by rw [beq_eq_false_iff_ne]; simp [zK] at hlet; omega
          have t10 : (((s[k]'hlt).toNat : Int) == 10) = false := by rw [beq_eq_false_iff_ne]; simp [zK] at hlet; omega
          have t13 : (((s[k]'hlt).toNat : Int) == 13) = false := by rw [beq_eq_false_iff_ne]; simp [zK] at hlet; omega
          have t40 : (((s[k]'hlt).toNat : Int) == 40) = false := by rw [beq_eq_false_iff_ne]; simp [zK] at hlet; omega
          go_wp2_with (first | (go_at_call 23; refine (xn _ _).mono ?_; rintro e w' ⟨rfl,rfl⟩; simp only [hlet]) | (go_at_call 24; refine (xU _ _).mono ?_; rintro e w' ⟨rfl,rfl⟩; simp only [hdig]))
          go_loop [8] (fun nv => ∃ n : Nat,nv = .int .i64 n /\ 1 <= n /\ k + n <= s.size) (fun nv => s.size - (intOf nv).toNat)
          case atStart => exact ⟨1,rfl,Nat.le_refl _,by omega⟩
          case round =>
            obtain ⟨n,rfl,hn1,hn2⟩ := hrel; have HX : Hid ((s.extract k (k + n)).size = n) := zb (by rw [xt,Lib.extract_data,List.length_take,List.length_drop,<- xt]; omega)
            by_cases hn : k + n < s.size
            all_goals
              go_wp2_with (first
                | (go_at_call 23; refine (kJ _ _).mono ?_; rintro e w' ⟨⟨b,rfl⟩,rfl⟩; cases b)
                | (go_at_call 24; refine (jn _ _).mono ?_; rintro e w' ⟨⟨b,rfl⟩,rfl⟩; cases b)
                | (go_at_call 25; refine (kB _ _ (by rw [HX.out]; omega)).mono ?_; rintro e w' ⟨⟨b,rfl⟩,rfl⟩; cases b)
                | (at_builtin; refine wpList_append_own _ rfl _ _ 32 rfl (w.heap.size + 1) 56 i0 (.agg #[.string ⟨#[]⟩,.int .i64 0]) 2 24 Tryz.underlying32 hi hz0 hz1 hz2 rfl (by decide) _ _ _ rfl (HI.own.alloc _) _ 1 1 [.string _,.int .i64 _] rfl rfl (cell_two_new _ _ _ _) (fun x hx => by simp at hx; rcases hx with rfl | rfl <;> rfl) (by unfold maxLen; omega) (by omega) (by simp; omega) ?_; intro v' w3 ho hg hnil))
              all_goals first
                | exact ⟨⟨n + 1,by go_num,by omega,by omega⟩,by simp [intOf]; omega⟩
                | (obtain ⟨acc',h'⟩ := HI.add n (by omega) (by omega) (by omega) ho hg; exact ⟨⟨k + n,acc',by go_num,h'⟩,by simp [intOf]; omega⟩)
                | exact uI c0 c1 c2 rfl rfl rfl ⟨((HI.bw.setCell (by simp) _).setCell (by simp) _).setCell (by simp) _,_,_,_,_,rfl,fun e => absurd e (by decide)⟩
      · obtain rfl : k = s.size := by omega
        go_wp2_with (at_builtin; refine wpList_append_own _ rfl _ _ 32 rfl (w.heap.size + 1) 56 i0 (.agg #[.string ⟨#[]⟩,.int .i64 0]) 2 24 Tryz.underlying32 hi hz0 hz1 hz2 rfl (by decide) _ _ _ rfl (HI.own.alloc _) _ 1 1 [.string _,.int .i64 _] rfl rfl (cell_two_new _ _ _ _) (fun x hx => by simp at hx; rcases hx with rfl | rfl <;> rfl) (by unfold maxLen; omega) (by omega) (by simp; omega) ?_; intro v' w3 ho hg hnil)
        go_at_call 8; refine (jR _).mono ?_; rintro e w4 ⟨rfl,hb4⟩; have h3 := (HI.below.alloc (by omega) _).grown hg (by simp; omega) (fun j hj => (HI.own.lt j hj).1); have sz3 := h3.size; simp only [World.size_alloc] at sz3; have h4 := h3.trans (hb4.mono (by omega)); obtain ⟨c0,c1,c2,z⟩ := sF h4; have HB := zb (((Below.refl w.heap.size w).alloc (Nat.le_refl _) _).trans (h4.mono (by omega))); have HO := ho.kept (w' := w4) (row := none) ⟨hb4.os,hb4.tape,hb4.output,hb4.size,fun i hi _ => hb4.block i hi⟩ (by cases v'.ownBlock <;> simp); have HW := zb HI.word; clear h3 h4 hb4 ho hg HI; go_wp2; refine uI c0 c1 c2 rfl rfl rfl ⟨((HB.setCell (by simp) _).setCell (by simp) _).setCell (by simp) _,_,_,_,_,rfl,fun _ => ⟨acc,s.size,?_,by omega,HW⟩⟩; rw [kg]; have hne : v'.ownBlock = none \/ v'.ownBlock ≠ some w.heap.size := .inr (fun e => by have := (HO.lt _ e).1; omega)
        exact ((HO.kept (z6 (zj w4 (some w.heap.size)) 0 _) hne).kept (z6 (zj _ (some w.heap.size)) 1 _) hne).kept (z6 (zj _ (some w.heap.size)) 2 _) hne
end Go.Proofs.YtifapidjkelnfaaGreatDoor
