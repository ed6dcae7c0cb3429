/- The program's Text: every tree. -/
import Derived.Test.YtapfecciakijhaaGreatDoorG35
import Derived.Test.YtapfecciakijhaaGreatDoorG44
namespace Go.Proofs.YtapfecciakijhaaGreatDoor
open Go.RowKit Go.Maps Go.WideMaps Go.WideElems
set_option maxHeartbeats 4000000
set_option maxRecDepth 1000000

theorem module_any (w0 : World) (wb : Nat) (hp : PT w0) (f : Nat) (hf : f < 900) (w : World) (S : List UInt8) (t : T) (sv : Value) (h : Wr w0 wb w S 0) (ha : AT w0 t.subs sv) (ht : Well .module t) (hd : depthT t ≤ f) (hlen : S.length + (moduleTx f t).length ≤ 1000000000) :
    Calls Tryz.prog 24 #[ptr wb, nodeV t sv] w (WP w0 wb w S 0 (moduleTx f t)) := by
  obtain ⟨x, p, is, cs, ts, vs, ps, bs, rfl, -, his, hcs, hts, hvs, hps, hbs⟩ := mod_of ht; obtain ⟨q0, il, rfl, -⟩ := list_of his; obtain ⟨q1,cl,rfl,hcl⟩ := list_of hcs; obtain ⟨q2,tl,rfl,htl⟩ := list_of hts; obtain ⟨q3,vl,rfl,hvl⟩ := list_of hvs; obtain ⟨q4,pl,rfl,hpl⟩ := list_of hps; obtain ⟨q5,al,rfl,hal⟩ := list_of hbs
  have dep : ∀ (q : Int) (l : List T), T.mk 1 [] 0 q l ∈ (T.mk 2 x 0 p [.mk 1 [] 0 q0 il, .mk 1 [] 0 q1 cl, .mk 1 [] 0 q2 tl, .mk 1 [] 0 q3 vl, .mk 1 [] 0 q4 pl, .mk 1 [] 0 q5 al]).subs → ∀ u ∈ l, depthT u ≤ f := by
    intro q l hm u hu; have h1 := depth_sub (t := .mk 1 [] 0 q l) (u := u) hu; have h2 := depth_sub hm
    omega
  by_cases hb : al = []
  · subst hb
    have e : moduleTx f (.mk 2 x 0 p [.mk 1 [] 0 q0 il, .mk 1 [] 0 q1 cl, .mk 1 [] 0 q2 tl, .mk 1 [] 0 q3 vl, .mk 1 [] 0 q4 pl, .mk 1 [] 0 q5 []]) = ([77, 79, 68, 85, 76, 69, 32] ++ (x ++ ([59] ++ ([10] ++ (importsTx il ++ (sectTx [67, 79, 78, 83, 84] (constTx f) cl ++ (sectTx [84, 89, 80, 69] namedTx tl ++ sectTx VARw typedTx vl))))))) ++ (procsTx f pl ++ (([69, 78, 68, 32] ++ (x ++ ([46] ++ [10]))))) := by
      simp [moduleTx, subT, T.subs, T.name, procsTx]
    rw [e] at hlen ⊢
    exact module_none w0 wb hp f (by omega) w S x 0 p q0 q1 q2 q3 q4 q5 il cl tl vl pl [] sv h ha [] hcl (dep q1 cl (by simp [T.subs])) htl hvl hpl (dep q4 pl (by simp [T.subs])) hlen
  · have e : moduleTx f (.mk 2 x 0 p [.mk 1 [] 0 q0 il, .mk 1 [] 0 q1 cl, .mk 1 [] 0 q2 tl, .mk 1 [] 0 q3 vl, .mk 1 [] 0 q4 pl, .mk 1 [] 0 q5 al]) = ([77, 79, 68, 85, 76, 69, 32] ++ (x ++ ([59] ++ ([10] ++ (importsTx il ++ (sectTx [67, 79, 78, 83, 84] (constTx f) cl ++ (sectTx [84, 89, 80, 69] namedTx tl ++ sectTx VARw typedTx vl))))))) ++ (procsTx f pl ++ ([66, 69, 71, 73, 78] ++ ([10] ++ (actsTx f 0 al ++ ([69, 78, 68, 32] ++ (x ++ ([46] ++ [10]))))))) := by
      simp [moduleTx, subT, T.subs, T.name, procsTx, hb]
    rw [e] at hlen ⊢
    exact module_acts w0 wb hp f (by omega) w S x 0 p q0 q1 q2 q3 q4 q5 il cl tl vl pl al sv h ha _ hcl (dep q1 cl (by simp [T.subs])) htl hvl hpl (dep q4 pl (by simp [T.subs])) (acts_any w0 wb hp f 0 al (by omega) (dep q5 al (by simp [T.subs])) hal) hb hlen

abbrev errV (n : Int) : Value := .iface 26 (.int .i64 n)
/-- What Text answers: a text, or a number. -/
noncomputable def textV (t : T) (f : Nat) : Value :=
  if wellB .module t = true then (if 4000 < (moduleTx f t).length then .tuple #[.string ⟨#[]⟩, errV 3] else .tuple #[.string ⟨(moduleTx f t).toArray⟩, .nilIface]) else .tuple #[.string ⟨#[]⟩, errV 10]
theorem moduleTx_ne (f : Nat) (t : T) : moduleTx f t ≠ [] := by simp [moduleTx]
theorem text_any (t : T) (sv : Value) (w : World) (f : Nat) (hf : f < 900) (hfit : Fits t) (ha : AT w t.subs sv) (hcount : countT t ≤ 3000) (hd : depthT t ≤ f) (htab : Lib.TabIs Tryz.prog w "strings.asciiSpace" .u8 Lib.asciiSpaceTab) (hp : PT w) (hlen : wellB .module t = true → (moduleTx f t).length ≤ 900000000) :
    Calls Tryz.prog 8 #[nodeV t sv] w (Sy w (textV t f)) := by
  have HT : Hid (∀ w', w.grownBy w' none → Calls Tryz.prog 22 #[nodeV t sv] w' fun e w'' => w'.grownBy w'' none ∧ ((wellB .module t = true ∧ e = .returned (.tuple #[.int .i64 (countT t), .bool true])) ∨ (wellB .module t = false ∧ e = .returned (.tuple #[.int .i64 0, .bool false])))) := fun w' hg => formed_says t sv w' hfit (ha.kept hg) (by omega) (tab_below htab ⟨hg.os, hg.tape, hg.output, hg.size, fun i hi => hg.block i hi (by simp)⟩)
  have HM : Hid (∀ w1 wb w', w.grownBy w1 none → wellB .module t = true → Wr w1 wb w' [] 0 → Calls Tryz.prog 24 #[ptr wb, nodeV t sv] w' (WP w1 wb w' [] 0 (moduleTx f t))) := fun w1 wb w' hg hw hr => module_any w1 wb (hp.kept hg) f hf w' [] t sv hr (ha.kept hg) (wellB_true.1 hw) hd (by have := hlen hw; simp only [List.length_nil]; omega)
  have HL := hide hlen; have HNE := hide (moduleTx_ne f t)
  unfold textV
  obtain ⟨a,n,c,rfl,_,_,hl⟩ := ha.any; obtain ⟨kd,x,m,p,l⟩ := t; clear ha hfit htab hp hlen hd hl
  change Calls Tryz.prog 8 #[.agg #[.int .i64 kd, .string ⟨x.toArray⟩, .int .i64 m, .int .i64 p, .slice a n c]] w _
  generalize HX : moduleTx f (.mk kd x m p l) = X at *
  generalize HC : countT (.mk kd x m p l) = C at *
  generalize HB : wellB .module (.mk kd x m p l) = B at *
  clear HX HC HB; have B0 : Hid (Box (w.alloc (.cells #[.int .i64 kd, .string ⟨x.toArray⟩, .int .i64 m, .int .i64 p, .slice a n c] 24)) w.heap.size (.mk kd x m p l) (.slice a n c)) := Box.new w (.mk kd x m p l) (.slice a n c) 24; cases B
  · go_enter Tryz.func8, Tryz.ntmps8
    go_wp2_with fail; go_at_call 22; refine (HT.out _ (by exact gb_alloc (gb_refl w none) _)).mono ?_; rintro e w1 ⟨g1, ⟨h9, -⟩ | ⟨-, rfl⟩⟩
    · cases h9
    · have G1 := hide (gb_trans (by exact gb_alloc (gb_refl w none) _) g1)
      clear g1; go_wp2_with fail
      go_ret2
      exact ⟨rfl, G1.out⟩
  · by_cases hX : 4000 < X.length
    · rw [if_pos rfl, if_pos hX]
      go_enter Tryz.func8, Tryz.ntmps8
      go_wp2_with fail; go_at_call 22; refine (HT.out _ (by exact gb_alloc (gb_refl w none) _)).mono ?_; rintro e w1 ⟨g1, ⟨-, rfl⟩ | ⟨h9, -⟩⟩
      · have G1 := hide (gb_trans (by exact gb_alloc (gb_refl w none) _) g1)
        have B1 := hide (B0.out.kept (gb_trans (gb_refl _ none) g1)); clear g1
        have hC : ¬ (4000 : Int) < (C : Int) := by omega
        go_wp2_with fail; go_at_call 23; refine (newWriter_any w1).mono ?_; rintro e w2 ⟨wb, rfl, r2⟩; have R2 := hide r2; have G2 : Hid (w1.grownBy w2 none) := r2.gb; obtain ⟨b0,b1,b2,b3,b4⟩ := (B1.out.kept G2.out).p
        have hwl := r2.lt; clear r2; go_wp2_with fail; go_at_call 24; refine (HM.out w1 wb _ G1.out (by first | trivial | rfl) (R2.out.grown (gb_refl w2 none))).mono ?_; rintro e w3 ⟨rfl, r3, -⟩; rw [List.nil_append] at r3; have R3 := hide r3; clear r3; go_wp2_with fail; go_at_call 25; refine (len_any w1 wb w3 X 0 R3.out).mono ?_; rintro e w4 ⟨rfl, rfl⟩
        have hXi : (4000 : Int) < (X.length : Int) := by omega
        go_wp2_with fail
        go_ret2
        exact ⟨rfl, gb_trans G1.out R3.out.gb⟩
      · cases h9
    · rw [if_pos rfl, if_neg hX]
      go_enter Tryz.func8, Tryz.ntmps8
      go_wp2_with fail; go_at_call 22; refine (HT.out _ (by exact gb_alloc (gb_refl w none) _)).mono ?_; rintro e w1 ⟨g1, ⟨-, rfl⟩ | ⟨h9, -⟩⟩
      · have G1 := hide (gb_trans (by exact gb_alloc (gb_refl w none) _) g1)
        have B1 := hide (B0.out.kept (gb_trans (gb_refl _ none) g1)); clear g1
        have hC : ¬ (4000 : Int) < (C : Int) := by omega
        go_wp2_with fail; go_at_call 23; refine (newWriter_any w1).mono ?_; rintro e w2 ⟨wb, rfl, r2⟩; have R2 := hide r2; have G2 : Hid (w1.grownBy w2 none) := r2.gb; obtain ⟨b0,b1,b2,b3,b4⟩ := (B1.out.kept G2.out).p
        have hwl := r2.lt; clear r2; go_wp2_with fail; go_at_call 24; refine (HM.out w1 wb _ G1.out (by first | trivial | rfl) (R2.out.grown (gb_refl w2 none))).mono ?_; rintro e w3 ⟨rfl, r3, -⟩; rw [List.nil_append] at r3; have R3 := hide r3; clear r3; go_wp2_with fail; go_at_call 25; refine (len_any w1 wb w3 X 0 R3.out).mono ?_; rintro e w4 ⟨rfl, rfl⟩
        have hXi : ¬ (4000 : Int) < (X.length : Int) := by omega
        go_wp2_with fail; go_at_call 26; refine (string_any w1 wb _ X 0 R3.out HNE.out).mono ?_; rintro e w5 ⟨rfl, g5⟩; have G5 := hide g5; clear g5; go_wp2_with fail
        go_ret2
        exact ⟨rfl, gb_trans G1.out G5.out⟩
      · cases h9
end Go.Proofs.YtapfecciakijhaaGreatDoor
