/- 'append' of lists of trees, at a step of a region that draws its order. -/
import Derived.Test.YtbphiiaoncakfaaGreatDoorG08
import Derived.Deep.RegionLaw
namespace Go.Proofs.YtbphiiaoncakfaaGreatDoor
open Go.RowKit

section
variable {w w' : World} {S S2 S' : Nat → Prop} {ts us : List T} {v v' : Value} {svs uvs : List Value} {row : Option Nat}
theorem LR.appendS (h : ∀ b, v.ownBlock = some b → S b) (hl : svs.length = ts.length)
    (hs : ∀ (i : Nat) (t : T) (sv : Value), ts[i]? = some t → svs[i]? = some sv → LR w (fun k => S k ∧ v.ownBlock ≠ some k) t.subs sv)
    (hu : uvs.length = us.length) (hus : ∀ (i : Nat) (t : T) (sv : Value), us[i]? = some t → uvs[i]? = some sv → LR w S2 t.subs sv)
    (hd : ∀ k, S2 k → v.ownBlock ≠ some k) (h1 : ∀ k, S k → S' k) (h2 : ∀ k, S2 k → S' k) (h3 : S' w.heap.size)
    (own : w'.ownsRow 0 25 5 v' (ts.length + us.length) (flatN ts svs ++ flatN us uvs)) (hg : w.grownBy w' row) (hrow : row = v.ownBlock)
    (hat : v'.ownBlock = v.ownBlock ∨ v'.ownBlock = some w.heap.size) : LR w' S' (ts ++ us) v' := by
  subst hrow
  have key : ∀ (l : List T) (sv : Value), LR w (fun k => S' k ∧ v.ownBlock ≠ some k) l sv → LR w' (fun k => S' k ∧ v'.ownBlock ≠ some k) l sv := by
    intro l sv hlr; refine (hlr.bounded.kept hg (fun b hb hs' => hs'.1.2 hb)).mono (fun k hk => ⟨hk.1.1, fun e => ?_⟩)
    rcases hat with hat | hat
    · exact hk.1.2 (hat ▸ e)
    · have h6 := hk.2
      rw [hat] at e; cases e
      omega
  refine .mk _ _ _ (svs ++ uvs) (by simp [hl, hu]) (by rw [flatN_append _ _ _ _ hl, List.length_append]; exact own) (fun b hb => ?_) (fun i t sv h1' h2' => key _ _ ?_)
  · rcases hat with hat | hat
    · exact h1 b (h b (hat ▸ hb))
    · rw [hat] at hb
      cases hb
      exact h3
  · rcases Nat.lt_or_ge i ts.length with hi' | hi'
    · rw [List.getElem?_append_left hi'] at h1'
      rw [List.getElem?_append_left (by omega)] at h2'
      exact (hs i t sv h1' h2').mono (fun k hk => ⟨h1 k hk.1, hk.2⟩)
    · rw [List.getElem?_append_right hi'] at h1'
      rw [List.getElem?_append_right (by omega), hl] at h2'
      exact (hus _ t sv h1' h2').mono (fun k hk => ⟨h2 k hk, hd k hk⟩)
end

/-- 'append' of a list that is not nil, at a step of a region that draws its order. -/
theorem step_appS {ops : Array Oper} {o : Oper} {a : Act} {w : World} {K : Act → World → Prop} {Q : Exit → Act → World → Prop} {E : Prop} (hgd : o.guard = none) (s x : Operand)
    (ho : o.op = .call { callee := .builtin .append, args := #[s, x], argTypes := #[23, 23] })
    {S S2 : Nat → Prop} (S' : Nat → Prop) {g m c : Nat} {ts us : List T} {v : Value} (hs : a.eval s = v) (hx : a.eval x = .slice (some ⟨g, 0, none⟩) m c) (hl : LR w S ts v) (hu : LR w S2 us (.slice (some ⟨g, 0, none⟩) m c))
    (hd : ∀ k, S2 k → v.ownBlock ≠ some k) (h1 : ∀ k, S k → S' k) (h2 : ∀ k, S2 k → S' k) (h3 : S' w.heap.size) (hlen : ts.length + us.length ≤ 20000)
    (k : ∀ v' w', LR w' S' (ts ++ us) v' → w.grownBy w' v.ownBlock → K (a.put o.dst v') w') :
    if Region.wanted o (yielded ops a.tmps) = true then Oper.wp Tryz.prog o a w K Q else E := by
  have hw : Region.wanted o (yielded ops a.tmps) = true := by simp [Region.wanted, hgd]
  rw [if_pos hw]; obtain ⟨i0, hi0, hz0, hz1, hz2⟩ := info_parts Tryz.infoNode; obtain ⟨svs, hl1, own, hin, hsub⟩ := hl.own; obtain ⟨uvs, hu1, uown, uin, usub⟩ := hu.own
  have hm : m = us.length := by
    rcases uown.2 with ⟨h0, _⟩ | ⟨_, _, _, h0, _⟩
    · cases h0
    · cases h0; rfl
  subst hm; obtain ⟨v', w', hr, hown, hg, _, hat⟩ := run_append_own_at (P := Tryz.prog) w 0 23 o.type 25 i0 _ 5 64 Tryz.underlying23 hi0 hz0 hz1 hz2 rfl (by decide) v ts.length (flatN ts svs) own ⟨g, 0, none⟩ us.length c (flatN us uvs)
    (flatN_length _ _ hu1) (uown.cells rfl) (fun u hu' => flat_one us uvs hu1 (fun i t sv ht hsv => (usub i t sv ht hsv).form) u hu') (by unfold maxLen; omega) (by omega) (Nat.zero_le _)
  unfold Oper.wp execOp
  simp only [ho, resolve, invoke, builtin, Sem.run_bind, Sem.run_pure, Result.andThen_ok, List.map_toArray, List.map_cons, List.map_nil, hs, hx, hr]
  exact k v' w' (LR.appendS hin hl1 hsub hu1 (fun i t sv ht hsv => (usub i t sv ht hsv).mono (fun k hk => hk.1)) hd h1 h2 h3 hown hg rfl hat) hg

/-- 'append' of nil to a row. -/
theorem step_appNil {ops : Array Oper} {o : Oper} {a : Act} {w : World} {K : Act → World → Prop} {Q : Exit → Act → World → Prop} {E : Prop} (hgd : o.guard = none) (s x : Operand)
    (ho : o.op = .call { callee := .builtin .append, args := #[s, x], argTypes := #[23, 23] })
    {g n c : Nat} (hs : a.eval s = .slice (some ⟨g, 0, none⟩) n c) (hx : a.eval x = .slice none 0 0) (hn : n ≤ c)
    (k : K (a.put o.dst (.slice (some ⟨g, 0, none⟩) n c)) w) :
    if Region.wanted o (yielded ops a.tmps) = true then Oper.wp Tryz.prog o a w K Q else E := by
  have hw : Region.wanted o (yielded ops a.tmps) = true := by simp [Region.wanted, hgd]
  rw [if_pos hw]; obtain ⟨i0, hi0, hz0, hz1, hz2⟩ := info_parts Tryz.infoNode
  have hr : (Builtin.append_ #[23, 23] o.type #[.slice (some ⟨g, 0, none⟩) n c, .slice none 0 0]).run Tryz.prog w = .ok (.slice (some ⟨g, 0, none⟩) n c) w := by
    simp [Builtin.append_, run_underlying Tryz.underlying23, sizeOf, typeInfo, hi0, Builtin.lenOf, Builtin.firstCells, loadCells, hn]
    rfl
  unfold Oper.wp execOp
  simp only [ho, resolve, invoke, builtin, Sem.run_bind, Sem.run_pure, Result.andThen_ok, List.map_toArray, List.map_cons, List.map_nil, hs, hx, hr]
  exact k
end Go.Proofs.YtbphiiaoncakfaaGreatDoor

/- Acts, one behind the other. -/
namespace Go.Proofs.YtbphiiaoncakfaaGreatDoor
open Go.RowKit

theorem actLoop_none {L : List Tok} {E A : P T} {f j : Nat} {acc : List T} (h : nothingB (wd L j) = true) (hf : 0 < f) : actLoop L E A f acc j = ((hasP L s_semi).bind fun b => if b = true then actLoop L E A (f - 1) acc else P.ret acc) j := by
  obtain ⟨f', rfl⟩ : ∃ f', f = f' + 1 := ⟨f - 1, by omega⟩; rw [actLoop]
  dsimp only
  rw [if_pos h]
  rfl
theorem bind_assocP {α β γ : Type} (p : P α) (k : α → P β) (m : β → P γ) : (p.bind k).bind m = p.bind fun a => (k a).bind m := by
  funext i
  unfold P.bind
  cases p i <;> rfl
theorem actLoop_some {L : List Tok} {E A : P T} {f j : Nat} {acc : List T} (h : nothingB (wd L j) = false) (hf : 0 < f) : actLoop L E A f acc j = ((actP L E A).bind fun t => (hasP L s_semi).bind fun b => if b = true then actLoop L E A (f - 1) (acc ++ [t]) else P.ret (acc ++ [t])) j := by
  obtain ⟨f', rfl⟩ : ∃ f', f = f' + 1 := ⟨f - 1, by omega⟩; rw [actLoop]
  dsimp only
  rw [if_neg (by rw [h]; decide), bind_assocP]
  rfl

set_option maxRecDepth 100000 in
set_option maxHeartbeats 2000000 in
theorem pactList_any (c : PC) (w : World) (i d : Nat) (E A : P T) (h : PS c w i d)
    (hA : ∀ (w : World) (i : Nat), PS c w i d → nothingB (wd c.L i) = false → Calls Tryz.prog 130 #[.pointer (some ⟨c.pb, 0, none⟩)] w (Steps c w i d (fun w' t v => TR w' w.heap.size w'.heap.size t v) (actP c.L E A i))) :
    Calls Tryz.prog 118 #[.pointer (some ⟨c.pb, 0, none⟩)] w (Steps c w i d (fun w' t v => TR w' w.heap.size w'.heap.size t v) (actListP c.L E A i)) := by
  have HP := hide h; have HL := hide h.low; have hb := h.lt; have hfew := h.good.few; have HA := hide hA; clear h hA
  go_enter Tryz.func118, Tryz.ntmps118
  go_wp2_with fail; go_at_call 51; refine (pnode_any c _ i d 1 (by exact PS.alloc HP.out _)).mono ?_; rintro e w1 ⟨rfl, hg1⟩; have p1 : PS c w1 i d := PS.kept (by exact PS.alloc HP.out _) hg1; have G1 : w.grownBy w1 (some c.pb) := gb_trans (by exact gb_alloc (gb_refl w (some c.pb)) _) (gb_some hg1 (some c.pb)); have s1 := hg1.size
  simp at s1
  have r1 : RB w1 w.heap.size := RB.kept (RB.new' (by simp)) hg1 (by simp); have S0 := hide (SI.mk (c := c) (w := w) (i := i) (d := d) (r := actLoop c.L E A (c.L.length + 1) [] i) (q := actLoop c.L E A) (f := c.L.length + 1) (j := i) (acc := []) (lo := w1.heap.size + 1) (wr := w1.alloc (.cells #[.int .i64 1, .string ⟨#[]⟩, .int .i64 0, .int .i64 (pos c.L i), .slice none 0 0] 25)) (v := .slice none 0 0) (LR.nil _ _) (by exact PS.alloc p1 _) (by exact gb_alloc G1 _) rfl (by omega) (by simp) (Nat.le_refl _) (by omega) (by simp)); have N0 := hide (NB.new' (w := w1) (v0 := .int .i64 1) (v1 := .string ⟨#[]⟩) (v2 := .int .i64 0) (v3 := .int .i64 (pos c.L i)) (v4 := .slice none 0 0) (t := 25) rfl); have R0 := hide (r1.alloc (.cells #[.int .i64 1, .string ⟨#[]⟩, .int .i64 0, .int .i64 (pos c.L i), .slice none 0 0] 25)); clear p1 G1 hg1 r1; go_wp2_with fail
  go_loopw [] (fun wr => ∃ (acc : List T) (v : Value) (j f lo : Nat), NB wr w1.heap.size (.int .i64 1) (.string ⟨#[]⟩) (.int .i64 0) (.int .i64 (pos c.L i)) v ∧ RB wr w.heap.size ∧ w1.heap.size + 1 ≤ lo ∧ Hid (SI c w i d (actLoop c.L E A (c.L.length + 1) [] i) (actLoop c.L E A) v wr acc j f lo)) (fun wr => c.L.length - atOf wr c.pb)
  case atStart => exact ⟨[], _, i, _, _, N0.out, R0.out, Nat.le_refl _, S0⟩
  case round =>
    obtain ⟨acc, v, j, f, lo, hnb, hrb, hlo3, HS⟩ := hrel; clear S0 N0 R0; have hI := HS.out; have hps := hI.ps; have hlo := hI.low; have hlo2 := hI.low2; have hlen := hI.len; have hfu := hI.fuel; have hij := hI.le; have hjl := hI.ps.il; obtain ⟨ad, cp, rfl⟩ := hI.lr.form; have HLR := hide hI.lr; have HG := hide hI.gb; have HSM := hide hI.same; have HPS := hide hps; have HNB := hide hnb; have HRB := hide hrb; clear hI HS hps hnb hrb; go_wp2_with fail; go_at_call 129; refine (pnothingIsNext_any c _ j d HPS.out).mono ?_; rintro e w2 ⟨rfl, hg2⟩; have s2 := hg2.size; have p2 : PS c w2 j d := HPS.out.kept hg2; have G2 : w.grownBy w2 (some c.pb) := gb_trans HG.out (gb_some hg2 _); have nb2 := HNB.out.kept hg2 (by simp); have rb2 := HRB.out.kept hg2 (by simp); have lr2 := HLR.out.grown hg2; have n_lt2 := nb2.lt; have r_lt2 := rb2.lt; cases hnt : nothingB (wd c.L j)
    · have HR2 : Hid (actLoop c.L E A (c.L.length + 1) [] i = _) := HSM.out.trans (actLoop_some hnt (by omega))
      obtain ⟨x0, x1, x2, x3, x4, xz⟩ := id nb2; go_wp2_with fail
      go_region_law (first
        | (go_simp
           go_at_call 130; refine (HA.out _ j (by exact PS.drew p2) hnt).mono ?_; rintro e w4 (⟨x4, hr4, ht4, hg4⟩ | ⟨⟨k4, n4, m4, q4, l4⟩, j4, v4, hr4, rfl, ⟨sv4, rfl, lr4⟩, hg4, p4, hi4⟩)
           focus
             have HT := ht4; obtain ⟨q, rfl, -⟩ := ht4
             exact ⟨rfl, Steps.err (P.bind_err (HR2.out.trans (P.bind_err hr4))) HT (by exact gb_drew G2) hg4⟩
           simp only [T.kind, T.name, T.num, T.at', T.subs] at lr4 ⊢; obtain ⟨ad4, cp4, rfl⟩ := lr4.form; have s4 := hg4.size
           try simp at s4
           have nb4 : NB w4 w1.heap.size (.int .i64 1) (.string ⟨#[]⟩) (.int .i64 0) (.int .i64 (pos c.L i)) (.slice ad acc.length cp) := NB.kept (by exact NB.drew nb2) hg4 (by simp; omega); have rb4 : RB w4 w.heap.size := RB.kept (by exact RB.drew rb2) hg4 (by simp; omega); have G4 : w.grownBy w4 (some c.pb) := gb_trans (by exact gb_drew G2) hg4; have lq4 : LR w4 (In lo wr.heap.size) acc (.slice ad acc.length cp) := LR.call (by exact LR.drew lr2) hg4 (by omega); have lr4 := LR.wide lr4 (lo' := w2.heap.size) (by simp) (Nat.le_refl _); have n_lt4 := nb4.lt; have r_lt4 := rb4.lt
           obtain ⟨z0, z1, z2, z3, z4, zz⟩ := id nb4)
        | (refine step_appS (v := .slice ad acc.length cp) rfl _ _ rfl (In lo (w4.heap.size + 2)) rfl rfl (LR.alloc lq4 _) (LR.build1 w4 (cs := #[.int .i64 k4, .string ⟨n4.toArray⟩, .int .i64 m4, .int .i64 q4, .slice ad4 l4.length cp4]) (t := T.mk k4 n4 m4 q4 l4) (sv := .slice ad4 l4.length cp4) lr4 rfl rfl (by omega))
             (fun k hk e => by have h1 := lq4.rows k e; have h2 : w2.heap.size ≤ k := hk.1; omega) (fun k hk => ⟨hk.1, by have h : k < wr.heap.size := hk.2; omega⟩) (fun k hk => ⟨by have h : w2.heap.size ≤ k := hk.1; omega, by have h : k < w4.heap.size + 1 := hk.2; omega⟩) ⟨by simp; omega, by simp⟩ (by simp; omega) ?_
           intro v5 w5 lr5 hg5; obtain ⟨ad5, cp5, e5⟩ := lr5.form; rw [List.length_append, List.length_singleton] at e5; subst e5; have hrow := lq4.rows; have s5 := hg5.size
           try simp at s5
           have nb5 : NB w5 w1.heap.size (.int .i64 1) (.string ⟨#[]⟩) (.int .i64 0) (.int .i64 (pos c.L i)) (.slice ad acc.length cp) := NB.kept (nb4.alloc _) hg5 (fun e => by have := hrow _ e.symm; omega); have rb5 : RB w5 w.heap.size := RB.kept (rb4.alloc _) hg5 (fun e => by have := hrow _ e.symm; omega); have p5 : PS c w5 j4 d := PS.own (p4.alloc _) HL.out hg5 (fun b hb => by have := hrow b hb; omega); have G5 : w.grownBy w5 (some c.pb) := gb_own (gb_alloc G4 _) hg5 (fun b hb => by have := hrow b hb; omega); have hi5 : w4.heap.size + 2 ≤ w5.heap.size ∨ True := .inr trivial; have n_lt5 := nb5.lt; have r_lt5 := rb5.lt
           obtain ⟨z0, z1, z2, z3, z4, zz⟩ := id nb5))
      all_goals
        have HR4 : actLoop c.L E A (c.L.length + 1) [] i = _ := HR2.out.trans (P.bind_ok hr4); have lr5 : LR w5 (In lo w5.heap.size) (acc ++ [T.mk k4 n4 m4 q4 l4]) (.slice ad5 (acc.length + 1) cp5) := lr5.bounded.mono (fun k hk => ⟨hk.1.1, hk.2⟩); have hjl4 := p4.il; go_wp2_with fail; go_at_call 85; refine (phas_any c _ j4 d s_semi _ rfl (by decide) (by exact PS.put p5 HL.out (by omega) _ _)).mono ?_; rintro e w6 ⟨b6, j6, hr6, rfl, hg6, p6, hi6⟩; have HR6 : actLoop c.L E A (c.L.length + 1) [] i = _ := HR4.trans (P.bind_ok hr6); have s6 := hg6.size
        try simp at s6
        have G6 : w.grownBy w6 (some c.pb) := gb_trans (by exact gb_put G5 (by omega) _ _) hg6; have nb6 : NB w6 w1.heap.size (.int .i64 1) (.string ⟨#[]⟩) (.int .i64 0) (.int .i64 (pos c.L i)) (.slice ad5 (acc.length + 1) cp5) := NB.kept (by exact NB.s4 nb5 _) hg6 (by simp; omega); have rb6 : RB w6 w.heap.size := RB.kept (by exact RB.put rb5 _ _ _) hg6 (by simp; omega); have lr6 : LR w6 (In lo w5.heap.size) (acc ++ [T.mk k4 n4 m4 q4 l4]) (.slice ad5 (acc.length + 1) cp5) := LR.call (by exact LR.put lr5 (by omega) _ _) hg6 (by omega); have n_lt6 := nb6.lt; have r_lt6 := rb6.lt; obtain ⟨x0, x1, x2, x3, x4, xz⟩ := id nb6; obtain ⟨_, _, _, _, _, y0, y1, y2, y3, y4, yz⟩ := id rb6; cases b6
        · have hj6 := hasP_no hr6
          go_wp2; refine node_ret Tryz.results118 rfl (RB.five ?_) rfl ?_
          · exact rb6
          refine Steps.ok (a := T.mk 1 [] 0 (pos c.L i) (acc ++ [T.mk k4 n4 m4 q4 l4])) (P.bind_ok (p := actLoop c.L E A (c.L.length + 1) []) HR6) ⟨_, rfl, ?_⟩ ?_ ?_ (by omega)
          · refine LR.wide (lo := lo) (hi := w5.heap.size) (ts := acc ++ [T.mk k4 n4 m4 q4 l4]) ?_ (by omega) (by first | omega | (simp <;> omega))
            exact LR.p5 lr6 (by omega)
          · exact gb_p5 G6 (by omega)
          · exact PS.p5 p6 HL.out (by omega)
        · have hj6 := hasP_yes hr6
          go_wp2; refine ⟨⟨acc ++ [T.mk k4 n4 m4 q4 l4], _, j6, f - 1, lo, nb6, rb6, hlo3, SI.mk (lr6.wide (Nat.le_refl _) (by omega)) p6 G6 HR6 (by omega) (by (try simp only [List.length_append, List.length_singleton]); omega) (by omega) hlo (by omega)⟩, ?_⟩; rw [p6.atOf, HPS.out.atOf]
          omega
    · have HR2 : actLoop c.L E A (c.L.length + 1) [] i = _ := HSM.out.trans (actLoop_none hnt (by omega))
      go_wp2_with fail; go_at_call 85; refine (phas_any c _ j d s_semi _ rfl (by decide) p2).mono ?_; rintro e w6 ⟨b6, j6, hr6, rfl, hg6, p6, hi6⟩; have HR6 : actLoop c.L E A (c.L.length + 1) [] i = _ := HR2.trans (P.bind_ok hr6); have s6 := hg6.size
      try simp at s6
      have G6 : w.grownBy w6 (some c.pb) := gb_trans G2 hg6; have nb6 : NB w6 w1.heap.size (.int .i64 1) (.string ⟨#[]⟩) (.int .i64 0) (.int .i64 (pos c.L i)) (.slice ad acc.length cp) := NB.kept nb2 hg6 (by simp; omega); have rb6 : RB w6 w.heap.size := RB.kept rb2 hg6 (by simp; omega); have lr6 : LR w6 (In lo wr.heap.size) (acc) (.slice ad acc.length cp) := LR.call lr2 hg6 (by omega); have n_lt6 := nb6.lt; have r_lt6 := rb6.lt; obtain ⟨x0, x1, x2, x3, x4, xz⟩ := id nb6; obtain ⟨_, _, _, _, _, y0, y1, y2, y3, y4, yz⟩ := id rb6; cases b6
      · have hj6 := hasP_no hr6
        go_wp2; refine node_ret Tryz.results118 rfl (RB.five ?_) rfl ?_
        · exact rb6
        refine Steps.ok (a := T.mk 1 [] 0 (pos c.L i) (acc)) (P.bind_ok (p := actLoop c.L E A (c.L.length + 1) []) HR6) ⟨_, rfl, ?_⟩ ?_ ?_ (by omega)
        · refine LR.wide (lo := lo) (hi := wr.heap.size) (ts := acc) ?_ (by omega) (by first | omega | (simp <;> omega))
          exact LR.p5 lr6 (by omega)
        · exact gb_p5 G6 (by omega)
        · exact PS.p5 p6 HL.out (by omega)
      · have hj6 := hasP_yes hr6
        go_wp2; refine ⟨⟨acc, _, j6, f - 1, lo, nb6, rb6, hlo3, SI.mk (lr6.wide (Nat.le_refl _) (by omega)) p6 G6 HR6 (by omega) (by (try simp only [List.length_append, List.length_singleton]); omega) (by omega) hlo (by omega)⟩, ?_⟩; rw [p6.atOf, HPS.out.atOf]
        omega
end Go.Proofs.YtbphiiaoncakfaaGreatDoor
