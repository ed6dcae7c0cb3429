/- The program's writer: ranks, operands. -/
import Derived.Test.YtapfecciakijhaaGreatDoorG11
import Derived.Test.YtapfecciakijhaaGreatDoorG13
namespace Go.Proofs.YtapfecciakijhaaGreatDoor
open Go.RowKit Go.Maps Go.WideMaps Go.WideElems
set_option maxHeartbeats 4000000
set_option maxRecDepth 1000000

theorem ops_rank (w : World) (ob : Nat) (x : List UInt8) (h : IsOps w ob) (hx : 0 ≤ levelOf x) : (Instr.lookup 56 (.map (some ob)) (.string ⟨x.toArray⟩) false).run Tryz.prog w = .ok (.int .i64 (levelOf x)) w := by
  obtain ⟨c, hrun, hat, -⟩ := World.ownsMap.lookup_int h lawStr Tryz.underlying56 Tryz.underlying109 (zeroRank w) (keyOf_string_mk (P := Tryz.prog) Tryz.underlying9 (s := ⟨x.toArray⟩) (by have := lv_len hx; simp [ByteArray.size]; unfold maxLen; omega))
  unfold mapOf at hat
  have h9 := at_mapFrom x (.lit (.int .i64 0)) opsL (.map []) ⟨_, rfl⟩; rw [found_ops, if_pos hx] at h9; simp only at h9; rw [h9] at hat
  injection hat with h8
  injection h8 with _ h8
  rw [hrun, h8]
theorem lawInt : Keyed Tryz.prog 3 := int_keyed Tryz.underlying3
theorem zeroWord (w : World) : (zeroValue 116).run Tryz.prog w = .ok (.agg #[.string ⟨#[]⟩]) w := by kernel_rfl
def kwTx (k : Int) : List UInt8 := if k = 30 then [84, 82, 85, 69] else if k = 31 then [70, 65, 76, 83, 69] else if k = 32 then [78, 73, 76] else wordTx k
theorem wds_look (w : World) (db : Nat) (k : Int) (h : IsWds w db) (hk : k = 30 ∨ k = 31 ∨ k = 32 ∨ k = 20 ∨ k = 21 ∨ k = 22 ∨ k = 23) : (Instr.lookup 57 (.map (some db)) (.int .i64 k) false).run Tryz.prog w = .ok (.agg #[.string ⟨(kwTx k).toArray⟩]) w := by
  have hkey : keyOf Tryz.prog 3 (.int .i64 k) = some (.int .i64 k) := keyOf_int_mk (P := Tryz.prog) Tryz.underlying3 (by rcases hk with rfl | rfl | rfl | rfl | rfl | rfl | rfl <;> decide); obtain ⟨_,_,hrun,hv⟩ := World.ownsMap.lookup h lawInt Tryz.underlying57 (zeroWord w) (zd := .lit (.string [])) (zp := []) rfl hkey
  have e : mapWds.atKey (.int .i64 k) (.lit (.string [])) = .lit (.string (kwTx k)) := by
    rcases hk with rfl | rfl | rfl | rfl | rfl | rfl | rfl <;> rfl
  rw [e] at hv; rw [hrun, wordR_inv hv]
theorem Wr.maps {w0 : World} {wb : Nat} {w : World} {S : List UInt8} {L : Nat} (h : Wr w0 wb w S L) : ∃ ob db, w.cell? ⟨wb, 3, none⟩ = some (.map (some ob)) ∧ w.cell? ⟨wb, 4, none⟩ = some (.map (some db)) ∧ IsOps w ob ∧ IsWds w db := by
  obtain ⟨_,_,ob,db,_,hb,_,_,ho,hd,_,_⟩ := h.st
  exact ⟨ob, db, by rw [Lib.cell_of_heap hb]; rfl, by rw [Lib.cell_of_heap hb]; rfl, ho, hd⟩

theorem rankOf_any (w0 : World) (wb : Nat) (w : World) (S : List UInt8) (L : Nat) (t : T) (sv : Value) (h : Wr w0 wb w S L) (ha : ∃ a n c, sv = .slice a n c) (hx : t.kind = 36 → 0 ≤ levelOf t.name) :
    Calls Tryz.prog 126 #[ptr wb, nodeV t sv] w (Sy w (.int .i64 (rankT t))) := by
  have hwl := h.lt; obtain ⟨ob, db, mc, -, ho, -⟩ := h.maps; obtain ⟨a,n,c,rfl⟩ := ha; obtain ⟨kd,x,m,p,l⟩ := t
  change Calls Tryz.prog 126 #[ptr wb, .agg #[.int .i64 kd, .string ⟨x.toArray⟩, .int .i64 m, .int .i64 p, .slice a n c]] w _
  have HO := hide ho; clear h ho
  by_cases h36 : kd = 36
  · subst h36
    have hlv : 0 ≤ levelOf x := hx rfl; rw [show rankT (.mk 36 x m p l) = levelOf x from rfl]; have hlk := ops_rank ((w.alloc (.cells #[.int .i64 36, .string ⟨x.toArray⟩, .int .i64 m, .int .i64 p, .slice a n c] 24)).drew) ob x (map_block HO.out ((gb_drew (gb_alloc (gb_refl w none) _)).block _ (World.ownsMap.lt HO.out) (by simp))) hlv; clear hx
    generalize levelOf x = lv at *
    go_enter Tryz.func126, Tryz.ntmps126
    go_wp2_with fail
    go_region
    all_goals
      go_wp2_with fail
      go_ret
      exact ⟨rfl, (by exact gb_drew (gb_alloc (gb_refl w none) _))⟩
  · by_cases h37 : kd = 37
    · subst h37
      go_enter Tryz.func126, Tryz.ntmps126
      go_wp2_with fail
      go_ret
      exact ⟨rfl, gb_alloc (gb_refl w none) _⟩
    · by_cases h35 : kd = 35
      · subst h35
        go_enter Tryz.func126, Tryz.ntmps126
        go_wp2_with fail
        go_ret
        exact ⟨rfl, gb_alloc (gb_refl w none) _⟩
      · have HE : Hid (rankT (.mk kd x m p l) = 3) := by show _ = _; simp [rankT, T.kind, h36, h37, h35]
        rw [HE.out]
        go_enter Tryz.func126, Tryz.ntmps126
        go_wp2_with fail
        go_ret
        exact ⟨rfl, gb_alloc (gb_refl w none) _⟩

/-- The writer writes an expression's text, wherever its parts lie. -/
def EXW (w0 : World) (wb : Nat) (t : T) (E : List UInt8) : Prop := ∀ (w : World) (S : List UInt8) (L : Nat) (sv : Value), Wr w0 wb w S L → AT w0 t.subs sv → S.length + E.length ≤ 1000000000 → Calls Tryz.prog 57 #[ptr wb, nodeV t sv] w (WP w0 wb w S L E)
theorem well_rank {t : T} (h : Well .expression t) : t.kind = 36 → 0 ≤ levelOf t.name := by
  intro hk; have := ex_of h; cases this with
  | op x p u v hx hu hv => exact hx
  | one k p u hk2 hu => rcases hk2 with e | e <;> (subst e; cases hk)
  | word k p hk2 => rcases hk2 with e | e | e <;> (subst e; cases hk)
  | _ => cases hk

theorem operand_of (w0 : World) (wb : Nat) (w : World) (S : List UInt8) (L : Nat) (t : T) (sv : Value) (r : Int) (E : List UInt8) (h : Wr w0 wb w S L) (ha : AT w0 t.subs sv) (ht : Well .expression t) (he : EXW w0 wb t E) (hlen : S.length + (atTx t r E).length ≤ 1000000000) :
    Calls Tryz.prog 95 #[ptr wb, nodeV t sv, .int .i64 r] w (WP w0 wb w S L (atTx t r E)) := by
  have HR := fun w' S' (h' : Wr w0 wb w' S' L) => hide (rankOf_any w0 wb w' S' L t sv h' (at_form ha) (well_rank ht))
  have HA := hide ha; have HE := hide he; have HW := hide h; have hwl := h.lt
  unfold atTx at hlen ⊢
  obtain ⟨a,n,c,rfl,_,_,hl⟩ := ha.any; obtain ⟨kd,x,m,p,l⟩ := t; clear h ha he ht hl
  change Calls Tryz.prog 95 #[ptr wb, .agg #[.int .i64 kd, .string ⟨x.toArray⟩, .int .i64 m, .int .i64 p, .slice a n c], .int .i64 r] w _
  generalize rankT (.mk kd x m p l) = R at HR hlen ⊢
  by_cases hR : R < r
  · rw [if_pos hR] at hlen ⊢
    simp only [List.length_append, List.length_cons, List.length_nil] at hlen
    go_enter Tryz.func95, Tryz.ntmps95
    go_wp2_with fail; go_at_call 126; refine ((HR _ _ (HW.out.grown (by exact gb_alloc (gb_refl w none) _))).out).mono ?_; rintro e w1 ⟨rfl, g1⟩; have j1 := HW.out.grown (gb_trans (by exact gb_alloc (gb_refl w none) _) g1); have k1 := WK.grown HW.out (gb_trans (by exact gb_alloc (gb_refl w none) _) g1); have W1 := hide j1; have K1 := hide (k1); have B1 := hide ((FB.newX HW.out kd x m p l (.slice a n c) 24 (gb_refl w none)).step (WK.grown (HW.out.grown (gb_alloc (gb_refl w none) _)) (gb_trans (gb_refl _ none) g1))); obtain ⟨b0_1,b1_1,b2_1,b3_1,b4_1⟩ := B1.out.box.p; have bl_1 := B1.out.fr.lt
    clear j1 k1; go_wp2_with fail; go_at_call 56; refine (write1 w0 wb _ _ L [40] _ _ (by simp) (W1.out.grown (gb_refl w1 none)) (by first | omega | (simp only [List.length_cons, List.length_nil]; omega))).mono ?_; rintro e w2 ⟨rfl, j2, k2⟩; have W2 := hide j2; have K2 := hide (K1.out.trans ((WK.grown W1.out (gb_refl w1 none)).trans k2)); have B2 := hide (B1.out.step ((WK.grown W1.out (gb_refl w1 none)).trans k2)); obtain ⟨b0_2,b1_2,b2_2,b3_2,b4_2⟩ := B2.out.box.p; have bl_2 := B2.out.fr.lt
    clear j2 k2; go_wp2_with fail; go_at_call 57; refine (HE.out _ _ L _ (W2.out.grown (gb_refl w2 none)) HA.out (by first | omega | (simp only [List.length_append, List.length_cons, List.length_nil]; omega))).mono ?_; rintro e w3 ⟨rfl, j3, k3⟩; have W3 := hide j3; have K3 := hide (K2.out.trans ((WK.grown W2.out (gb_refl w2 none)).trans k3)); have B3 := hide (B2.out.step ((WK.grown W2.out (gb_refl w2 none)).trans k3)); obtain ⟨_,_,_,_,_⟩ := B3.out.box.p; have bl_3 := B3.out.fr.lt
    clear j3 k3; go_wp2_with fail; go_at_call 56; refine (write1 w0 wb _ _ L [41] _ _ (by simp) (W3.out.grown (gb_refl w3 none)) (by first | omega | (simp only [List.length_append, List.length_cons, List.length_nil]; omega))).mono ?_; rintro e w4 ⟨rfl, j4, k4⟩; have W4 := hide j4; have K4 := hide (K3.out.trans ((WK.grown W3.out (gb_refl w3 none)).trans k4)); have B4 := hide (B3.out.step ((WK.grown W3.out (gb_refl w3 none)).trans k4)); obtain ⟨_,_,_,_,_⟩ := B4.out.box.p; have bl_4 := B4.out.fr.lt
    clear j4 k4; go_wp2_with fail
    go_end0
    refine ⟨rfl, ?_, K4.out⟩; have J9 := W4.out
    try simp only [List.append_assoc, List.nil_append, List.cons_append] at J9 ⊢
    exact J9
  · rw [if_neg hR] at hlen ⊢
    go_enter Tryz.func95, Tryz.ntmps95
    go_wp2_with fail; go_at_call 126; refine ((HR _ _ (HW.out.grown (by exact gb_alloc (gb_refl w none) _))).out).mono ?_; rintro e w1 ⟨rfl, g1⟩; have j1 := HW.out.grown (gb_trans (by exact gb_alloc (gb_refl w none) _) g1); have k1 := WK.grown HW.out (gb_trans (by exact gb_alloc (gb_refl w none) _) g1); have W1 := hide j1; have K1 := hide (k1); have B1 := hide ((FB.newX HW.out kd x m p l (.slice a n c) 24 (gb_refl w none)).step (WK.grown (HW.out.grown (gb_alloc (gb_refl w none) _)) (gb_trans (gb_refl _ none) g1))); obtain ⟨b0_1,b1_1,b2_1,b3_1,b4_1⟩ := B1.out.box.p; have bl_1 := B1.out.fr.lt
    clear j1 k1; go_wp2_with fail; go_at_call 57; refine (HE.out _ _ L _ (W1.out.grown (gb_refl w1 none)) HA.out (by first | omega | (simp only [List.length_append, List.length_cons, List.length_nil, padTx_len]; omega))).mono ?_; rintro e w2 ⟨rfl, j2, k2⟩; have W2 := hide j2; have K2 := hide (K1.out.trans ((WK.grown W1.out (gb_refl w1 none)).trans k2)); have B2 := hide (B1.out.step ((WK.grown W1.out (gb_refl w1 none)).trans k2)); obtain ⟨b0_2,b1_2,b2_2,b3_2,b4_2⟩ := B2.out.box.p; have bl_2 := B2.out.fr.lt
    clear j2 k2; go_wp2_with fail
    go_end0
    refine ⟨rfl, ?_, K2.out⟩; have J9 := W2.out
    try simp only [List.append_assoc, List.nil_append, List.append_nil, List.cons_append] at J9 ⊢
    exact J9
end Go.Proofs.YtapfecciakijhaaGreatDoor

/- The program's writer: designators and expressions, kind by kind. -/
namespace Go.Proofs.YtapfecciakijhaaGreatDoor
open Go.RowKit Go.Maps Go.WideMaps Go.WideElems
set_option maxHeartbeats 4000000
set_option maxRecDepth 1000000

/-- The writer writes a designator's text, wherever its parts lie. -/
def DEW (w0 : World) (wb : Nat) (t : T) (E : List UInt8) : Prop := ∀ (w : World) (S : List UInt8) (L : Nat) (sv : Value), Wr w0 wb w S L → AT w0 t.subs sv → S.length + E.length ≤ 1000000000 → Calls Tryz.prog 98 #[ptr wb, nodeV t sv] w (WP w0 wb w S L E)

theorem de24 (w0 : World) (wb : Nat) (w : World) (S : List UInt8) (L : Nat) (x : List UInt8) (m : Int) (p : Int) (sv : Value) (h : Wr w0 wb w S L) (ha : AT w0 (T.mk 24 x m p []).subs sv) (hlen : S.length + (x).length ≤ 1000000000) :
    Calls Tryz.prog 98 #[ptr wb, .agg #[.int .i64 24, .string ⟨List.toArray x⟩, .int .i64 m, .int .i64 p, sv]] w (WP w0 wb w S L (x)) := by
  have HW := hide h; have hwl := h.lt; have HL := hide hlen; have HA := hide ha; obtain ⟨a,c,rfl,_,hl⟩ := ha.zero rfl; clear h ha hl
  try simp only [List.length_append, List.length_cons, List.length_nil, padTx_len] at hlen
  go_enter Tryz.func98, Tryz.ntmps98
  go_wp2_with fail; go_at_call 56; refine (write1 w0 wb _ _ L x _ _ (by simp) (HW.out.grown (by exact gb_alloc (gb_refl w none) _)) (by first | omega | (simp only [List.length_append, List.length_cons, List.length_nil, padTx_len]; omega))).mono ?_; rintro e w1 ⟨rfl, j1, k1⟩; have W1 := hide j1; have K1 := hide ((WK.grown HW.out (by exact gb_alloc (gb_refl w none) _)).trans k1); have B1 := hide ((FB.newX HW.out 24 x m p [] (.slice a 0 c) 24 (gb_refl w none)).step ((WK.grown (HW.out.grown (gb_alloc (gb_refl w none) _)) (gb_refl _ none)).trans k1)); obtain ⟨_,_,_,_,_⟩ := B1.out.box.p; have bl_1 := B1.out.fr.lt
  clear j1 k1; go_wp2_with fail
  go_end0
  refine ⟨rfl, ?_, K1.out⟩; have J9 := W1.out
  try simp only [List.append_assoc, List.nil_append, List.append_nil] at J9 ⊢
  exact J9
theorem de25 (w0 : World) (wb : Nat) (w : World) (S : List UInt8) (L : Nat) (x : List UInt8) (m : Int) (p : Int) (u : T) (sv : Value) (h : Wr w0 wb w S L) (ha : AT w0 (T.mk 25 x m p [u]).subs sv) (U : List UInt8) (hd : DEW w0 wb u U) (hlen : S.length + (U ++ ([46] ++ x)).length ≤ 1000000000) :
    Calls Tryz.prog 98 #[ptr wb, .agg #[.int .i64 25, .string ⟨List.toArray x⟩, .int .i64 m, .int .i64 p, sv]] w (WP w0 wb w S L (U ++ ([46] ++ x))) := by
  have HW := hide h; have hwl := h.lt; have HL := hide hlen; have HA := hide ha; obtain ⟨g, o, c, u', su, rfl, hn, hc, hl, n5, fu, au⟩ := ha.one rfl
  obtain rfl : u = u' := by simpa [T.subs] using hl
  have NU := hide n5; have AU := hide au; obtain ⟨nu0,_,_,_,_⟩ := n5.kept h.gb; have hgl := block_lt nu0; clear h ha hl fu au n5
  try simp only [List.length_append, List.length_cons, List.length_nil] at hlen
  have HD := hide hd; clear hd
  go_enter Tryz.func98, Tryz.ntmps98
  go_wp2_with fail; go_at_call 98; refine (HD.out _ _ L _ (HW.out.grown (by exact gb_alloc (gb_refl w none) _)) AU.out (by first | omega | (simp only [List.length_append, List.length_cons, List.length_nil, padTx_len]; omega))).mono ?_; rintro e w1 ⟨rfl, j1, k1⟩; have W1 := hide j1; have K1 := hide ((WK.grown HW.out (by exact gb_alloc (gb_refl w none) _)).trans k1); have B1 := hide ((FB.newX HW.out 25 x m p [u] (.slice (some ⟨g, o, none⟩) 1 c) 24 (gb_refl w none)).step ((WK.grown (HW.out.grown (gb_alloc (gb_refl w none) _)) (gb_refl _ none)).trans k1)); obtain ⟨_,_,_,_,_⟩ := B1.out.box.p; have bl_1 := B1.out.fr.lt
  obtain ⟨nu0_1,_,_,_,_⟩ := NU.out.kept W1.out.gb; have nul_1 := block_lt nu0_1; clear j1 k1; go_wp2_with fail; go_at_call 56; refine (write2 w0 wb _ _ L [46] x _ _ (by simp) (W1.out.grown (gb_refl w1 none)) (by first | omega | (simp only [List.length_append, List.length_cons, List.length_nil]; omega))).mono ?_; rintro e w2 ⟨rfl, j2, k2⟩; have W2 := hide j2; have K2 := hide (K1.out.trans ((WK.grown W1.out (gb_refl w1 none)).trans k2)); have B2 := hide (B1.out.step ((WK.grown W1.out (gb_refl w1 none)).trans k2)); obtain ⟨_,_,_,_,_⟩ := B2.out.box.p; have bl_2 := B2.out.fr.lt
  obtain ⟨nu0_2,_,_,_,_⟩ := NU.out.kept W2.out.gb; have nul_2 := block_lt nu0_2; clear j2 k2; go_wp2_with fail
  go_end0
  refine ⟨rfl, ?_, K2.out⟩; have J9 := W2.out
  try simp only [List.append_assoc] at J9 ⊢
  exact J9
theorem de26 (w0 : World) (wb : Nat) (w : World) (S : List UInt8) (L : Nat) (x : List UInt8) (m : Int) (p : Int) (u : T) (v : T) (sv : Value) (h : Wr w0 wb w S L) (ha : AT w0 (T.mk 26 x m p [u, v]).subs sv) (U V : List UInt8) (hd : DEW w0 wb u U) (he : EXW w0 wb v V) (hlen : S.length + (U ++ ([91] ++ (V ++ [93]))).length ≤ 1000000000) :
    Calls Tryz.prog 98 #[ptr wb, .agg #[.int .i64 26, .string ⟨List.toArray x⟩, .int .i64 m, .int .i64 p, sv]] w (WP w0 wb w S L (U ++ ([91] ++ (V ++ [93])))) := by
  have HW := hide h; have hwl := h.lt; have HL := hide hlen; have HA := hide ha; obtain ⟨g, o, c, u', su, v', sw, rfl, hn, hc, hl, n5, fu, au, n6, fv, av⟩ := ha.two rfl
  have hl2 : u = u' ∧ v = v' := by simpa [T.subs] using hl
  obtain ⟨rfl,rfl⟩ := hl2; have NU := hide n5; have AU := hide au; have NV := hide n6; have AV := hide av; obtain ⟨nu0,_,_,_,_⟩ := n5.kept h.gb; obtain ⟨_,_,_,_,_⟩ := n6.kept h.gb; have hgl := block_lt nu0; clear h ha hl fu au n5 fv av n6
  try simp only [List.length_append, List.length_cons, List.length_nil] at hlen
  have HD := hide hd; clear hd; have HE := hide he; clear he
  go_enter Tryz.func98, Tryz.ntmps98
  go_wp2_with fail; go_at_call 98; refine (HD.out _ _ L _ (HW.out.grown (by exact gb_alloc (gb_refl w none) _)) AU.out (by first | omega | (simp only [List.length_append, List.length_cons, List.length_nil, padTx_len]; omega))).mono ?_; rintro e w1 ⟨rfl, j1, k1⟩; have W1 := hide j1; have K1 := hide ((WK.grown HW.out (by exact gb_alloc (gb_refl w none) _)).trans k1); have B1 := hide ((FB.newX HW.out 26 x m p [u, v] (.slice (some ⟨g, o, none⟩) 2 c) 24 (gb_refl w none)).step ((WK.grown (HW.out.grown (gb_alloc (gb_refl w none) _)) (gb_refl _ none)).trans k1)); obtain ⟨_,_,_,_,_⟩ := B1.out.box.p; have bl_1 := B1.out.fr.lt
  obtain ⟨nu0_1,_,_,_,_⟩ := NU.out.kept W1.out.gb; have nul_1 := block_lt nu0_1; obtain ⟨nv0_1,_,_,_,_⟩ := NV.out.kept W1.out.gb; have nvl_1 := block_lt nv0_1; clear j1 k1; go_wp2_with fail; go_at_call 56; refine (write1 w0 wb _ _ L [91] _ _ (by simp) (W1.out.grown (gb_refl w1 none)) (by first | omega | (simp only [List.length_append, List.length_cons, List.length_nil]; omega))).mono ?_; rintro e w2 ⟨rfl, j2, k2⟩; have W2 := hide j2; have K2 := hide (K1.out.trans ((WK.grown W1.out (gb_refl w1 none)).trans k2)); have B2 := hide (B1.out.step ((WK.grown W1.out (gb_refl w1 none)).trans k2)); obtain ⟨_,_,_,_,_⟩ := B2.out.box.p; have bl_2 := B2.out.fr.lt
  obtain ⟨nu0_2,_,_,_,_⟩ := NU.out.kept W2.out.gb; have nul_2 := block_lt nu0_2; obtain ⟨nv0_2,_,_,_,_⟩ := NV.out.kept W2.out.gb; have nvl_2 := block_lt nv0_2; clear j2 k2; go_wp2_with fail; go_at_call 57; refine (HE.out _ _ L _ (W2.out.grown (gb_refl w2 none)) AV.out (by first | omega | (simp only [List.length_append, List.length_cons, List.length_nil]; omega))).mono ?_; rintro e w3 ⟨rfl, j3, k3⟩; have W3 := hide j3; have K3 := hide (K2.out.trans ((WK.grown W2.out (gb_refl w2 none)).trans k3)); have B3 := hide (B2.out.step ((WK.grown W2.out (gb_refl w2 none)).trans k3)); obtain ⟨_,_,_,_,_⟩ := B3.out.box.p; have bl_3 := B3.out.fr.lt
  obtain ⟨nu0_3,_,_,_,_⟩ := NU.out.kept W3.out.gb; have nul_3 := block_lt nu0_3; obtain ⟨nv0_3,_,_,_,_⟩ := NV.out.kept W3.out.gb; have nvl_3 := block_lt nv0_3; clear j3 k3; go_wp2_with fail; go_at_call 56; refine (write1 w0 wb _ _ L [93] _ _ (by simp) (W3.out.grown (gb_refl w3 none)) (by first | omega | (simp only [List.length_append, List.length_cons, List.length_nil]; omega))).mono ?_; rintro e w4 ⟨rfl, j4, k4⟩; have W4 := hide j4; have K4 := hide (K3.out.trans ((WK.grown W3.out (gb_refl w3 none)).trans k4)); have B4 := hide (B3.out.step ((WK.grown W3.out (gb_refl w3 none)).trans k4)); obtain ⟨_,_,_,_,_⟩ := B4.out.box.p; have bl_4 := B4.out.fr.lt
  obtain ⟨nu0_4,_,_,_,_⟩ := NU.out.kept W4.out.gb; have nul_4 := block_lt nu0_4; obtain ⟨nv0_4,_,_,_,_⟩ := NV.out.kept W4.out.gb; have nvl_4 := block_lt nv0_4; clear j4 k4; go_wp2_with fail
  go_end0
  refine ⟨rfl, ?_, K4.out⟩; have J9 := W4.out
  try simp only [List.append_assoc] at J9 ⊢
  exact J9
theorem de27 (w0 : World) (wb : Nat) (w : World) (S : List UInt8) (L : Nat) (x : List UInt8) (m : Int) (p : Int) (u : T) (sv : Value) (h : Wr w0 wb w S L) (ha : AT w0 (T.mk 27 x m p [u]).subs sv) (U : List UInt8) (hd : DEW w0 wb u U) (hlen : S.length + (U ++ [94]).length ≤ 1000000000) :
    Calls Tryz.prog 98 #[ptr wb, .agg #[.int .i64 27, .string ⟨List.toArray x⟩, .int .i64 m, .int .i64 p, sv]] w (WP w0 wb w S L (U ++ [94])) := by
  have HW := hide h; have hwl := h.lt; have HL := hide hlen; have HA := hide ha; obtain ⟨g, o, c, u', su, rfl, hn, hc, hl, n5, fu, au⟩ := ha.one rfl
  obtain rfl : u = u' := by simpa [T.subs] using hl
  have NU := hide n5; have AU := hide au; obtain ⟨nu0,_,_,_,_⟩ := n5.kept h.gb; have hgl := block_lt nu0; clear h ha hl fu au n5
  try simp only [List.length_append, List.length_cons, List.length_nil] at hlen
  have HD := hide hd; clear hd
  go_enter Tryz.func98, Tryz.ntmps98
  go_wp2_with fail; go_at_call 98; refine (HD.out _ _ L _ (HW.out.grown (by exact gb_alloc (gb_refl w none) _)) AU.out (by first | omega | (simp only [List.length_append, List.length_cons, List.length_nil, padTx_len]; omega))).mono ?_; rintro e w1 ⟨rfl, j1, k1⟩; have W1 := hide j1; have K1 := hide ((WK.grown HW.out (by exact gb_alloc (gb_refl w none) _)).trans k1); have B1 := hide ((FB.newX HW.out 27 x m p [u] (.slice (some ⟨g, o, none⟩) 1 c) 24 (gb_refl w none)).step ((WK.grown (HW.out.grown (gb_alloc (gb_refl w none) _)) (gb_refl _ none)).trans k1)); obtain ⟨_,_,_,_,_⟩ := B1.out.box.p; have bl_1 := B1.out.fr.lt
  obtain ⟨nu0_1,_,_,_,_⟩ := NU.out.kept W1.out.gb; have nul_1 := block_lt nu0_1; clear j1 k1; go_wp2_with fail; go_at_call 56; refine (write1 w0 wb _ _ L [94] _ _ (by simp) (W1.out.grown (gb_refl w1 none)) (by first | omega | (simp only [List.length_append, List.length_cons, List.length_nil]; omega))).mono ?_; rintro e w2 ⟨rfl, j2, k2⟩; have W2 := hide j2; have K2 := hide (K1.out.trans ((WK.grown W1.out (gb_refl w1 none)).trans k2)); have B2 := hide (B1.out.step ((WK.grown W1.out (gb_refl w1 none)).trans k2)); obtain ⟨_,_,_,_,_⟩ := B2.out.box.p; have bl_2 := B2.out.fr.lt
  obtain ⟨nu0_2,_,_,_,_⟩ := NU.out.kept W2.out.gb; have nul_2 := block_lt nu0_2; clear j2 k2; go_wp2_with fail
  go_end0
  refine ⟨rfl, ?_, K2.out⟩; have J9 := W2.out
  try simp only [List.append_assoc] at J9 ⊢
  exact J9
theorem de28 (w0 : World) (wb : Nat) (w : World) (S : List UInt8) (L : Nat) (x : List UInt8) (m : Int) (p : Int) (u : T) (v : T) (sv : Value) (h : Wr w0 wb w S L) (ha : AT w0 (T.mk 28 x m p [u, v]).subs sv) (U : List UInt8) (hd : DEW w0 wb u U) (ht : TN v) (hlen : S.length + (U ++ ([123] ++ (nameTx v ++ [125]))).length ≤ 1000000000) :
    Calls Tryz.prog 98 #[ptr wb, .agg #[.int .i64 28, .string ⟨List.toArray x⟩, .int .i64 m, .int .i64 p, sv]] w (WP w0 wb w S L (U ++ ([123] ++ (nameTx v ++ [125])))) := by
  have HW := hide h; have hwl := h.lt; have HL := hide hlen; have HA := hide ha; obtain ⟨g, o, c, u', su, v', sw, rfl, hn, hc, hl, n5, fu, au, n6, fv, av⟩ := ha.two rfl
  have hl2 : u = u' ∧ v = v' := by simpa [T.subs] using hl
  obtain ⟨rfl,rfl⟩ := hl2; have NU := hide n5; have AU := hide au; have NV := hide n6; have AV := hide av; obtain ⟨nu0,_,_,_,_⟩ := n5.kept h.gb; obtain ⟨_,_,_,_,_⟩ := n6.kept h.gb; have hgl := block_lt nu0; clear h ha hl fu au n5 fv av n6
  try simp only [List.length_append, List.length_cons, List.length_nil] at hlen
  have HD := hide hd; clear hd
  go_enter Tryz.func98, Tryz.ntmps98
  go_wp2_with fail; go_at_call 98; refine (HD.out _ _ L _ (HW.out.grown (by exact gb_alloc (gb_refl w none) _)) AU.out (by first | omega | (simp only [List.length_append, List.length_cons, List.length_nil, padTx_len]; omega))).mono ?_; rintro e w1 ⟨rfl, j1, k1⟩; have W1 := hide j1; have K1 := hide ((WK.grown HW.out (by exact gb_alloc (gb_refl w none) _)).trans k1); have B1 := hide ((FB.newX HW.out 28 x m p [u, v] (.slice (some ⟨g, o, none⟩) 2 c) 24 (gb_refl w none)).step ((WK.grown (HW.out.grown (gb_alloc (gb_refl w none) _)) (gb_refl _ none)).trans k1)); obtain ⟨_,_,_,_,_⟩ := B1.out.box.p; have bl_1 := B1.out.fr.lt
  obtain ⟨nu0_1,_,_,_,_⟩ := NU.out.kept W1.out.gb; have nul_1 := block_lt nu0_1; obtain ⟨nv0_1,_,_,_,_⟩ := NV.out.kept W1.out.gb; have nvl_1 := block_lt nv0_1; clear j1 k1; go_wp2_with fail; go_at_call 56; refine (write1 w0 wb _ _ L [123] _ _ (by simp) (W1.out.grown (gb_refl w1 none)) (by first | omega | (simp only [List.length_append, List.length_cons, List.length_nil]; omega))).mono ?_; rintro e w2 ⟨rfl, j2, k2⟩; have W2 := hide j2; have K2 := hide (K1.out.trans ((WK.grown W1.out (gb_refl w1 none)).trans k2)); have B2 := hide (B1.out.step ((WK.grown W1.out (gb_refl w1 none)).trans k2)); obtain ⟨_,_,_,_,_⟩ := B2.out.box.p; have bl_2 := B2.out.fr.lt
  obtain ⟨nu0_2,_,_,_,_⟩ := NU.out.kept W2.out.gb; have nul_2 := block_lt nu0_2; obtain ⟨nv0_2,_,_,_,_⟩ := NV.out.kept W2.out.gb; have nvl_2 := block_lt nv0_2; clear j2 k2; go_wp2_with fail; go_at_call 96; refine (typeName_any w0 wb _ _ L v _ (W2.out.grown (gb_refl w2 none)) AV.out ht (by first | omega | (simp only [List.length_append, List.length_cons, List.length_nil]; omega))).mono ?_; rintro e w3 ⟨rfl, j3, k3⟩; have W3 := hide j3; have K3 := hide (K2.out.trans ((WK.grown W2.out (gb_refl w2 none)).trans k3)); have B3 := hide (B2.out.step ((WK.grown W2.out (gb_refl w2 none)).trans k3)); obtain ⟨_,_,_,_,_⟩ := B3.out.box.p; have bl_3 := B3.out.fr.lt
  obtain ⟨nu0_3,_,_,_,_⟩ := NU.out.kept W3.out.gb; have nul_3 := block_lt nu0_3; obtain ⟨nv0_3,_,_,_,_⟩ := NV.out.kept W3.out.gb; have nvl_3 := block_lt nv0_3; clear j3 k3; go_wp2_with fail; go_at_call 56; refine (write1 w0 wb _ _ L [125] _ _ (by simp) (W3.out.grown (gb_refl w3 none)) (by first | omega | (simp only [List.length_append, List.length_cons, List.length_nil]; omega))).mono ?_; rintro e w4 ⟨rfl, j4, k4⟩; have W4 := hide j4; have K4 := hide (K3.out.trans ((WK.grown W3.out (gb_refl w3 none)).trans k4)); have B4 := hide (B3.out.step ((WK.grown W3.out (gb_refl w3 none)).trans k4)); obtain ⟨_,_,_,_,_⟩ := B4.out.box.p; have bl_4 := B4.out.fr.lt
  obtain ⟨nu0_4,_,_,_,_⟩ := NU.out.kept W4.out.gb; have nul_4 := block_lt nu0_4; obtain ⟨nv0_4,_,_,_,_⟩ := NV.out.kept W4.out.gb; have nvl_4 := block_lt nv0_4; clear j4 k4; go_wp2_with fail
  go_end0
  refine ⟨rfl, ?_, K4.out⟩; have J9 := W4.out
  try simp only [List.append_assoc] at J9 ⊢
  exact J9
theorem xd24 (w0 : World) (wb : Nat) (w : World) (S : List UInt8) (L : Nat) (x : List UInt8) (m : Int) (p : Int) (sv : Value) (h : Wr w0 wb w S L) (ha : AT w0 (T.mk 24 x m p []).subs sv) (X : List UInt8) (hd : DEW w0 wb (.mk 24 x m p []) X) (hlen : S.length + (X).length ≤ 1000000000) :
    Calls Tryz.prog 57 #[ptr wb, .agg #[.int .i64 24, .string ⟨List.toArray x⟩, .int .i64 m, .int .i64 p, sv]] w (WP w0 wb w S L (X)) := by
  have HW := hide h; have hwl := h.lt; have HL := hide hlen; have HA := hide ha; obtain ⟨a,c,rfl,_,hl⟩ := ha.zero rfl; clear h ha hl
  try simp only [List.length_append, List.length_cons, List.length_nil, padTx_len] at hlen
  have HD := hide hd; clear hd
  go_enter Tryz.func57, Tryz.ntmps57
  go_wp2_with fail; go_at_call 98; refine (HD.out _ _ L _ (HW.out.grown (by exact gb_alloc (gb_refl w none) _)) HA.out HL.out).mono ?_; rintro e w1 ⟨rfl, j1, k1⟩; have W1 := hide j1; have K1 := hide ((WK.grown HW.out (by exact gb_alloc (gb_refl w none) _)).trans k1); have B1 := hide ((FB.newX HW.out 24 x m p [] (.slice a 0 c) 24 (gb_refl w none)).step ((WK.grown (HW.out.grown (gb_alloc (gb_refl w none) _)) (gb_refl _ none)).trans k1)); obtain ⟨_,_,_,_,_⟩ := B1.out.box.p; have bl_1 := B1.out.fr.lt
  clear j1 k1; go_wp2_with fail
  go_end0
  refine ⟨rfl, ?_, K1.out⟩; have J9 := W1.out
  try simp only [List.append_assoc, List.nil_append, List.append_nil] at J9 ⊢
  exact J9
theorem xd25 (w0 : World) (wb : Nat) (w : World) (S : List UInt8) (L : Nat) (x : List UInt8) (m : Int) (p : Int) (u : T) (sv : Value) (h : Wr w0 wb w S L) (ha : AT w0 (T.mk 25 x m p [u]).subs sv) (X : List UInt8) (hd : DEW w0 wb (.mk 25 x m p [u]) X) (hlen : S.length + (X).length ≤ 1000000000) :
    Calls Tryz.prog 57 #[ptr wb, .agg #[.int .i64 25, .string ⟨List.toArray x⟩, .int .i64 m, .int .i64 p, sv]] w (WP w0 wb w S L (X)) := by
  have HW := hide h; have hwl := h.lt; have HL := hide hlen; have HA := hide ha; obtain ⟨g, o, c, u', su, rfl, hn, hc, hl, n5, fu, au⟩ := ha.one rfl
  obtain rfl : u = u' := by simpa [T.subs] using hl
  have NU := hide n5; have AU := hide au; obtain ⟨nu0,_,_,_,_⟩ := n5.kept h.gb; have hgl := block_lt nu0; clear h ha hl fu au n5
  try simp only [List.length_append, List.length_cons, List.length_nil, padTx_len] at hlen
  have HD := hide hd; clear hd
  go_enter Tryz.func57, Tryz.ntmps57
  go_wp2_with fail; go_at_call 98; refine (HD.out _ _ L _ (HW.out.grown (by exact gb_alloc (gb_refl w none) _)) HA.out HL.out).mono ?_; rintro e w1 ⟨rfl, j1, k1⟩; have W1 := hide j1; have K1 := hide ((WK.grown HW.out (by exact gb_alloc (gb_refl w none) _)).trans k1); have B1 := hide ((FB.newX HW.out 25 x m p [u] (.slice (some ⟨g, o, none⟩) 1 c) 24 (gb_refl w none)).step ((WK.grown (HW.out.grown (gb_alloc (gb_refl w none) _)) (gb_refl _ none)).trans k1)); obtain ⟨_,_,_,_,_⟩ := B1.out.box.p; have bl_1 := B1.out.fr.lt
  obtain ⟨nu0_1,_,_,_,_⟩ := NU.out.kept W1.out.gb; have nul_1 := block_lt nu0_1; clear j1 k1; go_wp2_with fail
  go_end0
  refine ⟨rfl, ?_, K1.out⟩; have J9 := W1.out
  try simp only [List.append_assoc, List.nil_append, List.append_nil] at J9 ⊢
  exact J9
theorem xd26 (w0 : World) (wb : Nat) (w : World) (S : List UInt8) (L : Nat) (x : List UInt8) (m : Int) (p : Int) (u : T) (v : T) (sv : Value) (h : Wr w0 wb w S L) (ha : AT w0 (T.mk 26 x m p [u, v]).subs sv) (X : List UInt8) (hd : DEW w0 wb (.mk 26 x m p [u, v]) X) (hlen : S.length + (X).length ≤ 1000000000) :
    Calls Tryz.prog 57 #[ptr wb, .agg #[.int .i64 26, .string ⟨List.toArray x⟩, .int .i64 m, .int .i64 p, sv]] w (WP w0 wb w S L (X)) := by
  have HW := hide h; have hwl := h.lt; have HL := hide hlen; have HA := hide ha; obtain ⟨g, o, c, u', su, v', sw, rfl, hn, hc, hl, n5, fu, au, n6, fv, av⟩ := ha.two rfl
  have hl2 : u = u' ∧ v = v' := by simpa [T.subs] using hl
  obtain ⟨rfl,rfl⟩ := hl2; have NU := hide n5; have AU := hide au; have NV := hide n6; have AV := hide av; obtain ⟨nu0,_,_,_,_⟩ := n5.kept h.gb; obtain ⟨_,_,_,_,_⟩ := n6.kept h.gb; have hgl := block_lt nu0; clear h ha hl fu au n5 fv av n6
  try simp only [List.length_append, List.length_cons, List.length_nil, padTx_len] at hlen
  have HD := hide hd; clear hd
  go_enter Tryz.func57, Tryz.ntmps57
  go_wp2_with fail; go_at_call 98; refine (HD.out _ _ L _ (HW.out.grown (by exact gb_alloc (gb_refl w none) _)) HA.out HL.out).mono ?_; rintro e w1 ⟨rfl, j1, k1⟩; have W1 := hide j1; have K1 := hide ((WK.grown HW.out (by exact gb_alloc (gb_refl w none) _)).trans k1); have B1 := hide ((FB.newX HW.out 26 x m p [u, v] (.slice (some ⟨g, o, none⟩) 2 c) 24 (gb_refl w none)).step ((WK.grown (HW.out.grown (gb_alloc (gb_refl w none) _)) (gb_refl _ none)).trans k1)); obtain ⟨_,_,_,_,_⟩ := B1.out.box.p; have bl_1 := B1.out.fr.lt
  obtain ⟨nu0_1,_,_,_,_⟩ := NU.out.kept W1.out.gb; have nul_1 := block_lt nu0_1; obtain ⟨nv0_1,_,_,_,_⟩ := NV.out.kept W1.out.gb; have nvl_1 := block_lt nv0_1; clear j1 k1; go_wp2_with fail
  go_end0
  refine ⟨rfl, ?_, K1.out⟩; have J9 := W1.out
  try simp only [List.append_assoc, List.nil_append, List.append_nil] at J9 ⊢
  exact J9
theorem xd27 (w0 : World) (wb : Nat) (w : World) (S : List UInt8) (L : Nat) (x : List UInt8) (m : Int) (p : Int) (u : T) (sv : Value) (h : Wr w0 wb w S L) (ha : AT w0 (T.mk 27 x m p [u]).subs sv) (X : List UInt8) (hd : DEW w0 wb (.mk 27 x m p [u]) X) (hlen : S.length + (X).length ≤ 1000000000) :
    Calls Tryz.prog 57 #[ptr wb, .agg #[.int .i64 27, .string ⟨List.toArray x⟩, .int .i64 m, .int .i64 p, sv]] w (WP w0 wb w S L (X)) := by
  have HW := hide h; have hwl := h.lt; have HL := hide hlen; have HA := hide ha; obtain ⟨g, o, c, u', su, rfl, hn, hc, hl, n5, fu, au⟩ := ha.one rfl
  obtain rfl : u = u' := by simpa [T.subs] using hl
  have NU := hide n5; have AU := hide au; obtain ⟨nu0,_,_,_,_⟩ := n5.kept h.gb; have hgl := block_lt nu0; clear h ha hl fu au n5
  try simp only [List.length_append, List.length_cons, List.length_nil, padTx_len] at hlen
  have HD := hide hd; clear hd
  go_enter Tryz.func57, Tryz.ntmps57
  go_wp2_with fail; go_at_call 98; refine (HD.out _ _ L _ (HW.out.grown (by exact gb_alloc (gb_refl w none) _)) HA.out HL.out).mono ?_; rintro e w1 ⟨rfl, j1, k1⟩; have W1 := hide j1; have K1 := hide ((WK.grown HW.out (by exact gb_alloc (gb_refl w none) _)).trans k1); have B1 := hide ((FB.newX HW.out 27 x m p [u] (.slice (some ⟨g, o, none⟩) 1 c) 24 (gb_refl w none)).step ((WK.grown (HW.out.grown (gb_alloc (gb_refl w none) _)) (gb_refl _ none)).trans k1)); obtain ⟨_,_,_,_,_⟩ := B1.out.box.p; have bl_1 := B1.out.fr.lt
  obtain ⟨nu0_1,_,_,_,_⟩ := NU.out.kept W1.out.gb; have nul_1 := block_lt nu0_1; clear j1 k1; go_wp2_with fail
  go_end0
  refine ⟨rfl, ?_, K1.out⟩; have J9 := W1.out
  try simp only [List.append_assoc, List.nil_append, List.append_nil] at J9 ⊢
  exact J9
theorem xd28 (w0 : World) (wb : Nat) (w : World) (S : List UInt8) (L : Nat) (x : List UInt8) (m : Int) (p : Int) (u : T) (v : T) (sv : Value) (h : Wr w0 wb w S L) (ha : AT w0 (T.mk 28 x m p [u, v]).subs sv) (X : List UInt8) (hd : DEW w0 wb (.mk 28 x m p [u, v]) X) (hlen : S.length + (X).length ≤ 1000000000) :
    Calls Tryz.prog 57 #[ptr wb, .agg #[.int .i64 28, .string ⟨List.toArray x⟩, .int .i64 m, .int .i64 p, sv]] w (WP w0 wb w S L (X)) := by
  have HW := hide h; have hwl := h.lt; have HL := hide hlen; have HA := hide ha; obtain ⟨g, o, c, u', su, v', sw, rfl, hn, hc, hl, n5, fu, au, n6, fv, av⟩ := ha.two rfl
  have hl2 : u = u' ∧ v = v' := by simpa [T.subs] using hl
  obtain ⟨rfl,rfl⟩ := hl2; have NU := hide n5; have AU := hide au; have NV := hide n6; have AV := hide av; obtain ⟨nu0,_,_,_,_⟩ := n5.kept h.gb; obtain ⟨_,_,_,_,_⟩ := n6.kept h.gb; have hgl := block_lt nu0; clear h ha hl fu au n5 fv av n6
  try simp only [List.length_append, List.length_cons, List.length_nil, padTx_len] at hlen
  have HD := hide hd; clear hd
  go_enter Tryz.func57, Tryz.ntmps57
  go_wp2_with fail; go_at_call 98; refine (HD.out _ _ L _ (HW.out.grown (by exact gb_alloc (gb_refl w none) _)) HA.out HL.out).mono ?_; rintro e w1 ⟨rfl, j1, k1⟩; have W1 := hide j1; have K1 := hide ((WK.grown HW.out (by exact gb_alloc (gb_refl w none) _)).trans k1); have B1 := hide ((FB.newX HW.out 28 x m p [u, v] (.slice (some ⟨g, o, none⟩) 2 c) 24 (gb_refl w none)).step ((WK.grown (HW.out.grown (gb_alloc (gb_refl w none) _)) (gb_refl _ none)).trans k1)); obtain ⟨_,_,_,_,_⟩ := B1.out.box.p; have bl_1 := B1.out.fr.lt
  obtain ⟨nu0_1,_,_,_,_⟩ := NU.out.kept W1.out.gb; have nul_1 := block_lt nu0_1; obtain ⟨nv0_1,_,_,_,_⟩ := NV.out.kept W1.out.gb; have nvl_1 := block_lt nv0_1; clear j1 k1; go_wp2_with fail
  go_end0
  refine ⟨rfl, ?_, K1.out⟩; have J9 := W1.out
  try simp only [List.append_assoc, List.nil_append, List.append_nil] at J9 ⊢
  exact J9
theorem xe29 (w0 : World) (wb : Nat) (w : World) (S : List UInt8) (L : Nat) (x : List UInt8) (m : Int) (p : Int) (sv : Value) (h : Wr w0 wb w S L) (ha : AT w0 (T.mk 29 x m p []).subs sv) (h0 : 0 ≤ m) (h1 : m ≤ 2147483647) (hp : PT w0) (hlen : S.length + (numTx m).length ≤ 1000000000) :
    Calls Tryz.prog 57 #[ptr wb, .agg #[.int .i64 29, .string ⟨List.toArray x⟩, .int .i64 m, .int .i64 p, sv]] w (WP w0 wb w S L (numTx m)) := by
  have HW := hide h; have hwl := h.lt; have HL := hide hlen; have HA := hide ha; obtain ⟨a,c,rfl,_,hl⟩ := ha.zero rfl; clear h ha hl
  try simp only [List.length_append, List.length_cons, List.length_nil, padTx_len] at hlen
  have HP := hide hp; clear hp
  go_enter Tryz.func57, Tryz.ntmps57
  go_wp2_with fail; go_at_call 93; refine (itoa_any m h0 h1 _ (HP.out.kept (HW.out.grown (by exact gb_alloc (gb_refl w none) _)).gb)).mono ?_; rintro e w1 ⟨rfl, g1⟩; have j1 := HW.out.grown (gb_trans (by exact gb_alloc (gb_refl w none) _) g1); have k1 := WK.grown HW.out (gb_trans (by exact gb_alloc (gb_refl w none) _) g1); have W1 := hide j1; have K1 := hide (k1); have B1 := hide ((FB.newX HW.out 29 x m p [] (.slice a 0 c) 24 (gb_refl w none)).step (WK.grown (HW.out.grown (gb_alloc (gb_refl w none) _)) (gb_trans (gb_refl _ none) g1))); obtain ⟨_,_,_,_,_⟩ := B1.out.box.p; have bl_1 := B1.out.fr.lt
  clear j1 k1; go_wp2_with fail; go_at_call 56; refine (write1 w0 wb _ _ L (numTx m) _ _ (by simp) (W1.out.grown (gb_refl w1 none)) (by first | omega | (simp only [List.length_append, List.length_cons, List.length_nil, padTx_len]; omega))).mono ?_; rintro e w2 ⟨rfl, j2, k2⟩; have W2 := hide j2; have K2 := hide (K1.out.trans ((WK.grown W1.out (gb_refl w1 none)).trans k2)); have B2 := hide (B1.out.step ((WK.grown W1.out (gb_refl w1 none)).trans k2)); obtain ⟨_,_,_,_,_⟩ := B2.out.box.p; have bl_2 := B2.out.fr.lt
  clear j2 k2; go_wp2_with fail
  go_end0
  refine ⟨rfl, ?_, K2.out⟩; have J9 := W2.out
  try simp only [List.append_assoc, List.nil_append, List.append_nil] at J9 ⊢
  exact J9
theorem xe34 (w0 : World) (wb : Nat) (w : World) (S : List UInt8) (L : Nat) (x : List UInt8) (m : Int) (p : Int) (u : T) (sv : Value) (h : Wr w0 wb w S L) (ha : AT w0 (T.mk 34 x m p [u]).subs sv) (U : List UInt8) (hu : Well .expression u) (he : EXW w0 wb u U) (hlen : S.length + ([126] ++ atTx u 3 U).length ≤ 1000000000) :
    Calls Tryz.prog 57 #[ptr wb, .agg #[.int .i64 34, .string ⟨List.toArray x⟩, .int .i64 m, .int .i64 p, sv]] w (WP w0 wb w S L ([126] ++ atTx u 3 U)) := by
  have HW := hide h; have hwl := h.lt; have HL := hide hlen; have HA := hide ha; obtain ⟨g, o, c, u', su, rfl, hn, hc, hl, n5, fu, au⟩ := ha.one rfl
  obtain rfl : u = u' := by simpa [T.subs] using hl
  have NU := hide n5; have AU := hide au; obtain ⟨nu0,_,_,_,_⟩ := n5.kept h.gb; have hgl := block_lt nu0; clear h ha hl fu au n5
  try simp only [List.length_append, List.length_cons, List.length_nil] at hlen
  have HE := hide he; clear he
  go_enter Tryz.func57, Tryz.ntmps57
  go_wp2_with fail; go_at_call 56; refine (write1 w0 wb _ _ L [126] _ _ (by simp) (HW.out.grown (by exact gb_alloc (gb_refl w none) _)) (by first | omega | (simp only [List.length_cons, List.length_nil]; omega))).mono ?_; rintro e w1 ⟨rfl, j1, k1⟩; have W1 := hide j1; have K1 := hide ((WK.grown HW.out (by exact gb_alloc (gb_refl w none) _)).trans k1); have B1 := hide ((FB.newX HW.out 34 x m p [u] (.slice (some ⟨g, o, none⟩) 1 c) 24 (gb_refl w none)).step ((WK.grown (HW.out.grown (gb_alloc (gb_refl w none) _)) (gb_refl _ none)).trans k1)); obtain ⟨_,_,_,_,_⟩ := B1.out.box.p; have bl_1 := B1.out.fr.lt
  obtain ⟨nu0_1,_,_,_,_⟩ := NU.out.kept W1.out.gb; have nul_1 := block_lt nu0_1; clear j1 k1; go_wp2_with fail; go_at_call 95; refine (operand_of w0 wb _ _ L u _ 3 U (W1.out.grown (gb_refl w1 none)) AU.out hu HE.out (by first | omega | (simp only [List.length_append, List.length_cons, List.length_nil]; omega))).mono ?_; rintro e w2 ⟨rfl, j2, k2⟩; have W2 := hide j2; have K2 := hide (K1.out.trans ((WK.grown W1.out (gb_refl w1 none)).trans k2)); have B2 := hide (B1.out.step ((WK.grown W1.out (gb_refl w1 none)).trans k2)); obtain ⟨_,_,_,_,_⟩ := B2.out.box.p; have bl_2 := B2.out.fr.lt
  obtain ⟨nu0_2,_,_,_,_⟩ := NU.out.kept W2.out.gb; have nul_2 := block_lt nu0_2; clear j2 k2; go_wp2_with fail
  go_end0
  refine ⟨rfl, ?_, K2.out⟩; have J9 := W2.out
  try simp only [List.append_assoc] at J9 ⊢
  exact J9
theorem xe35 (w0 : World) (wb : Nat) (w : World) (S : List UInt8) (L : Nat) (x : List UInt8) (m : Int) (p : Int) (u : T) (sv : Value) (h : Wr w0 wb w S L) (ha : AT w0 (T.mk 35 x m p [u]).subs sv) (U : List UInt8) (hu : Well .expression u) (he : EXW w0 wb u U) (hlen : S.length + ([45] ++ atTx u 2 U).length ≤ 1000000000) :
    Calls Tryz.prog 57 #[ptr wb, .agg #[.int .i64 35, .string ⟨List.toArray x⟩, .int .i64 m, .int .i64 p, sv]] w (WP w0 wb w S L ([45] ++ atTx u 2 U)) := by
  have HW := hide h; have hwl := h.lt; have HL := hide hlen; have HA := hide ha; obtain ⟨g, o, c, u', su, rfl, hn, hc, hl, n5, fu, au⟩ := ha.one rfl
  obtain rfl : u = u' := by simpa [T.subs] using hl
  have NU := hide n5; have AU := hide au; obtain ⟨nu0,_,_,_,_⟩ := n5.kept h.gb; have hgl := block_lt nu0; clear h ha hl fu au n5
  try simp only [List.length_append, List.length_cons, List.length_nil] at hlen
  have HE := hide he; clear he
  go_enter Tryz.func57, Tryz.ntmps57
  go_wp2_with fail; go_at_call 56; refine (write1 w0 wb _ _ L [45] _ _ (by simp) (HW.out.grown (by exact gb_alloc (gb_refl w none) _)) (by first | omega | (simp only [List.length_cons, List.length_nil]; omega))).mono ?_; rintro e w1 ⟨rfl, j1, k1⟩; have W1 := hide j1; have K1 := hide ((WK.grown HW.out (by exact gb_alloc (gb_refl w none) _)).trans k1); have B1 := hide ((FB.newX HW.out 35 x m p [u] (.slice (some ⟨g, o, none⟩) 1 c) 24 (gb_refl w none)).step ((WK.grown (HW.out.grown (gb_alloc (gb_refl w none) _)) (gb_refl _ none)).trans k1)); obtain ⟨_,_,_,_,_⟩ := B1.out.box.p; have bl_1 := B1.out.fr.lt
  obtain ⟨nu0_1,_,_,_,_⟩ := NU.out.kept W1.out.gb; have nul_1 := block_lt nu0_1; clear j1 k1; go_wp2_with fail; go_at_call 95; refine (operand_of w0 wb _ _ L u _ 2 U (W1.out.grown (gb_refl w1 none)) AU.out hu HE.out (by first | omega | (simp only [List.length_append, List.length_cons, List.length_nil]; omega))).mono ?_; rintro e w2 ⟨rfl, j2, k2⟩; have W2 := hide j2; have K2 := hide (K1.out.trans ((WK.grown W1.out (gb_refl w1 none)).trans k2)); have B2 := hide (B1.out.step ((WK.grown W1.out (gb_refl w1 none)).trans k2)); obtain ⟨_,_,_,_,_⟩ := B2.out.box.p; have bl_2 := B2.out.fr.lt
  obtain ⟨nu0_2,_,_,_,_⟩ := NU.out.kept W2.out.gb; have nul_2 := block_lt nu0_2; clear j2 k2; go_wp2_with fail
  go_end0
  refine ⟨rfl, ?_, K2.out⟩; have J9 := W2.out
  try simp only [List.append_assoc] at J9 ⊢
  exact J9
theorem xe37 (w0 : World) (wb : Nat) (w : World) (S : List UInt8) (L : Nat) (x : List UInt8) (m : Int) (p : Int) (u : T) (v : T) (sv : Value) (h : Wr w0 wb w S L) (ha : AT w0 (T.mk 37 x m p [u, v]).subs sv) (U : List UInt8) (hu : Well .expression u) (he : EXW w0 wb u U) (ht : TN v) (hlen : S.length + (atTx u 1 U ++ ([32, 73, 83, 32] ++ nameTx v)).length ≤ 1000000000) :
    Calls Tryz.prog 57 #[ptr wb, .agg #[.int .i64 37, .string ⟨List.toArray x⟩, .int .i64 m, .int .i64 p, sv]] w (WP w0 wb w S L (atTx u 1 U ++ ([32, 73, 83, 32] ++ nameTx v))) := by
  have HW := hide h; have hwl := h.lt; have HL := hide hlen; have HA := hide ha; obtain ⟨g, o, c, u', su, v', sw, rfl, hn, hc, hl, n5, fu, au, n6, fv, av⟩ := ha.two rfl
  have hl2 : u = u' ∧ v = v' := by simpa [T.subs] using hl
  obtain ⟨rfl,rfl⟩ := hl2; have NU := hide n5; have AU := hide au; have NV := hide n6; have AV := hide av; obtain ⟨nu0,_,_,_,_⟩ := n5.kept h.gb; obtain ⟨_,_,_,_,_⟩ := n6.kept h.gb; have hgl := block_lt nu0; clear h ha hl fu au n5 fv av n6
  try simp only [List.length_append, List.length_cons, List.length_nil] at hlen
  have HE := hide he; clear he
  go_enter Tryz.func57, Tryz.ntmps57
  go_wp2_with fail; go_at_call 95; refine (operand_of w0 wb _ _ L u _ 1 U (HW.out.grown (by exact gb_alloc (gb_refl w none) _)) AU.out hu HE.out (by first | omega | (simp only [List.length_append, List.length_cons, List.length_nil, padTx_len]; omega))).mono ?_; rintro e w1 ⟨rfl, j1, k1⟩; have W1 := hide j1; have K1 := hide ((WK.grown HW.out (by exact gb_alloc (gb_refl w none) _)).trans k1); have B1 := hide ((FB.newX HW.out 37 x m p [u, v] (.slice (some ⟨g, o, none⟩) 2 c) 24 (gb_refl w none)).step ((WK.grown (HW.out.grown (gb_alloc (gb_refl w none) _)) (gb_refl _ none)).trans k1)); obtain ⟨_,_,_,_,_⟩ := B1.out.box.p; have bl_1 := B1.out.fr.lt
  obtain ⟨nu0_1,_,_,_,_⟩ := NU.out.kept W1.out.gb; have nul_1 := block_lt nu0_1; obtain ⟨nv0_1,_,_,_,_⟩ := NV.out.kept W1.out.gb; have nvl_1 := block_lt nv0_1; clear j1 k1; go_wp2_with fail; go_at_call 56; refine (write1 w0 wb _ _ L [32, 73, 83, 32] _ _ (by simp) (W1.out.grown (gb_refl w1 none)) (by first | omega | (simp only [List.length_append, List.length_cons, List.length_nil]; omega))).mono ?_; rintro e w2 ⟨rfl, j2, k2⟩; have W2 := hide j2; have K2 := hide (K1.out.trans ((WK.grown W1.out (gb_refl w1 none)).trans k2)); have B2 := hide (B1.out.step ((WK.grown W1.out (gb_refl w1 none)).trans k2)); obtain ⟨_,_,_,_,_⟩ := B2.out.box.p; have bl_2 := B2.out.fr.lt
  obtain ⟨nu0_2,_,_,_,_⟩ := NU.out.kept W2.out.gb; have nul_2 := block_lt nu0_2; obtain ⟨nv0_2,_,_,_,_⟩ := NV.out.kept W2.out.gb; have nvl_2 := block_lt nv0_2; clear j2 k2; go_wp2_with fail; go_at_call 96; refine (typeName_any w0 wb _ _ L v _ (W2.out.grown (gb_refl w2 none)) AV.out ht (by first | omega | (simp only [List.length_append, List.length_cons, List.length_nil]; omega))).mono ?_; rintro e w3 ⟨rfl, j3, k3⟩; have W3 := hide j3; have K3 := hide (K2.out.trans ((WK.grown W2.out (gb_refl w2 none)).trans k3)); have B3 := hide (B2.out.step ((WK.grown W2.out (gb_refl w2 none)).trans k3)); obtain ⟨_,_,_,_,_⟩ := B3.out.box.p; have bl_3 := B3.out.fr.lt
  obtain ⟨nu0_3,_,_,_,_⟩ := NU.out.kept W3.out.gb; have nul_3 := block_lt nu0_3; obtain ⟨nv0_3,_,_,_,_⟩ := NV.out.kept W3.out.gb; have nvl_3 := block_lt nv0_3; clear j3 k3; go_wp2_with fail
  go_end0
  refine ⟨rfl, ?_, K3.out⟩; have J9 := W3.out
  try simp only [List.append_assoc] at J9 ⊢
  exact J9
end Go.Proofs.YtapfecciakijhaaGreatDoor

/- The program's writer: expressions: words, operators, calls. -/
namespace Go.Proofs.YtapfecciakijhaaGreatDoor
open Go.RowKit Go.Maps Go.WideMaps Go.WideElems
set_option maxHeartbeats 4000000
set_option maxRecDepth 1000000

theorem write1d (w0 : World) (wb : Nat) (W : World) (S : List UInt8) (L : Nat) (s : List UInt8) (ty : TypeId) (b : Nat) (hb : b = W.heap.size) (h : Wr w0 wb W S L) (hlen : S.length + s.length ≤ 1000000000) :
    Calls Tryz.prog 56 #[ptr wb, .slice (some ⟨b, 0, none⟩) 1 1] (W.alloc (.cells #[.string ⟨s.toArray⟩] ty)).drew fun e w' => e = .returned (.tuple #[]) ∧ Wr w0 wb w' (S ++ s) L ∧ WK wb W w' := by
  subst hb; have hg1 := gb_alloc (gb_refl W none) (.cells #[.string ⟨s.toArray⟩] ty); have hg2 := gb_drew hg1; refine (write_any w0 wb _ S L [s] _ 1 (h.grown hg2) ((SL.new h [s] _ ty rfl (by simp)).step (WK.grown (h.grown hg1) (gb_drew (gb_refl _ none)))) (by simpa using hlen) (by simp)).mono ?_; rintro e w' ⟨rfl, q, r⟩
  exact ⟨rfl, by simpa using q, (WK.grown h hg2).trans r⟩
theorem field_word (X : List UInt8) (W : World) : (Instr.field 116 (.agg #[.string ⟨X.toArray⟩]) 0).run Tryz.prog W = .ok (.string ⟨X.toArray⟩) W := by kernel_rfl
theorem xe30 (w0 : World) (wb : Nat) (w : World) (S : List UInt8) (L : Nat) (k : Int) (x : List UInt8) (m p : Int) (sv : Value) (h : Wr w0 wb w S L) (ha : ∃ a n c, sv = .slice a n c) (hk : k = 30 ∨ k = 31 ∨ k = 32) (hlen : S.length + (kwTx k).length ≤ 1000000000) :
    Calls Tryz.prog 57 #[ptr wb, .agg #[.int .i64 k, .string ⟨List.toArray x⟩, .int .i64 m, .int .i64 p, sv]] w (WP w0 wb w S L (kwTx k)) := by
  have HW := hide h; have hwl := h.lt; obtain ⟨a,n,c,rfl⟩ := ha; obtain ⟨ob, db, -, mc, -, hd⟩ := h.maps; have hlk := wds_look ((w.alloc (.cells #[.int .i64 k, .string ⟨x.toArray⟩, .int .i64 m, .int .i64 p, .slice a n c] 24)).drew) db k (map_block hd ((gb_drew (gb_alloc (gb_refl w none) _)).block _ (World.ownsMap.lt hd) (by simp))) (by rcases hk with e | e | e <;> simp [e]); clear h hd
  rcases hk with rfl | rfl | rfl
  all_goals
    generalize kwTx _ = X at *
    have hfd := field_word X
    go_enter Tryz.func57, Tryz.ntmps57
    go_wp2_with fail
    go_region_with
      (go_at_call 56
       refine (write1d w0 wb _ _ L X _ _ (by simp) (HW.out.grown (by exact gb_alloc (gb_refl w none) _)) (by omega)).mono ?_; rintro e w1 ⟨rfl, j1, k1⟩; have W1 := hide j1; have K1 := hide ((WK.grown HW.out (by exact gb_alloc (gb_refl w none) _)).trans k1)
       clear j1 k1)
    all_goals
      go_wp2_with fail
      go_end0
      exact ⟨rfl, W1.out, K1.out⟩
theorem lv_three {x : List UInt8} (h : 0 ≤ levelOf x) : levelOf x = 0 ∨ levelOf x = 1 ∨ levelOf x = 2 := by
  unfold levelOf at h ⊢
  by_cases h1 : inB relL x = true
  · rw [if_pos h1]; exact .inl rfl
  rw [if_neg h1] at h ⊢
  by_cases h2 : inB sumL x = true
  · rw [if_pos h2]; exact .inr (.inl rfl)
  rw [if_neg h2] at h ⊢
  by_cases h3 : inB proL x = true
  · rw [if_pos h3]; exact .inr (.inr rfl)
  rw [if_neg h3] at h
  omega
theorem operation_w (w0 : World) (wb : Nat) (w : World) (S : List UInt8) (L : Nat) (x : List UInt8) (m : Int) (p : Int) (u : T) (v : T) (sv : Value) (h : Wr w0 wb w S L) (ha : AT w0 (T.mk 36 x m p [u, v]).subs sv) (U V : List UInt8) (r1 r2 : Int) (hx : 0 ≤ levelOf x) (h1 : r1 = max (levelOf x) 1) (h2 : r2 = levelOf x + 1) (hu : Well .expression u) (hv : Well .expression v) (he : EXW w0 wb u U) (hf : EXW w0 wb v V) (hlen : S.length + (atTx u r1 U ++ ([32] ++ (x ++ ([32] ++ atTx v r2 V)))).length ≤ 1000000000) :
    Calls Tryz.prog 97 #[ptr wb, .agg #[.int .i64 36, .string ⟨List.toArray x⟩, .int .i64 m, .int .i64 p, sv]] w (WP w0 wb w S L (atTx u r1 U ++ ([32] ++ (x ++ ([32] ++ atTx v r2 V))))) := by
  have HW := hide h; have hwl := h.lt; have HL := hide hlen; have HA := hide ha; obtain ⟨ob, db, mc, -, ho, -⟩ := h.maps; have HO := hide ho; clear ho; obtain ⟨g, o, c, u', su, v', sw, rfl, hn, hc, hl, n5, fu, au, n6, fv, av⟩ := ha.two rfl
  have hl2 : u = u' ∧ v = v' := by simpa [T.subs] using hl
  obtain ⟨rfl,rfl⟩ := hl2; have NU := hide n5; have AU := hide au; have NV := hide n6; have AV := hide av; obtain ⟨nu0,_,_,_,_⟩ := n5.kept h.gb; obtain ⟨_,_,_,_,_⟩ := n6.kept h.gb; have hgl := block_lt nu0; clear h ha hl fu au n5 fv av n6
  try simp only [List.length_append, List.length_cons, List.length_nil] at hlen
  have HE := hide he; have HF := hide hf; clear he hf; have hlk := ops_rank ((w.alloc (.cells #[.int .i64 36, .string ⟨x.toArray⟩, .int .i64 m, .int .i64 p, .slice (some ⟨g, o, none⟩) 2 c] 24)).drew) ob x (map_block HO.out ((gb_drew (gb_alloc (gb_refl w none) _)).block _ (World.ownsMap.lt HO.out) (by simp))) hx; have hlv := lv_three hx
  generalize levelOf x = lv at *
  rcases hlv with rfl | rfl | rfl
  · obtain rfl : r1 = 1 := by rw [h1]; decide
    obtain rfl : r2 = 1 := by rw [h2]; decide
    clear h1 h2
    go_enter Tryz.func97, Tryz.ntmps97
    go_wp2_with fail
    go_region
    all_goals
      go_wp2_with fail; go_at_call 95; refine (operand_of w0 wb _ _ L u _ 1 U (HW.out.grown (by exact gb_drew (gb_alloc (gb_refl w none) _))) AU.out hu HE.out (by first | omega | (simp only [List.length_append, List.length_cons, List.length_nil, padTx_len]; omega))).mono ?_; rintro e w1 ⟨rfl, j1, k1⟩; have W1 := hide j1; have K1 := hide ((WK.grown HW.out (by exact gb_drew (gb_alloc (gb_refl w none) _))).trans k1); have B1 := hide ((FB.newX HW.out 36 x m p [u, v] (.slice (some ⟨g, o, none⟩) 2 c) 24 (gb_refl w none)).step ((WK.grown (HW.out.grown (gb_alloc (gb_refl w none) _)) (by exact gb_drew (gb_refl _ none))).trans k1)); obtain ⟨b0_1,b1_1,b2_1,b3_1,b4_1⟩ := B1.out.box.p; have bl_1 := B1.out.fr.lt
      obtain ⟨nu0_1,nu1_1,nu2_1,nu3_1,nu4_1⟩ := NU.out.kept W1.out.gb; have nul_1 := block_lt nu0_1; obtain ⟨nv0_1,nv1_1,nv2_1,nv3_1,nv4_1⟩ := NV.out.kept W1.out.gb; have nvl_1 := block_lt nv0_1; clear j1 k1; go_wp2_with fail; go_at_call 56; refine (write3 w0 wb _ _ L [32] x [32] _ _ (by simp) (W1.out.grown (gb_refl w1 none)) (by first | omega | (simp only [List.length_append, List.length_cons, List.length_nil]; omega))).mono ?_; rintro e w2 ⟨rfl, j2, k2⟩; have W2 := hide j2; have K2 := hide (K1.out.trans ((WK.grown W1.out (gb_refl w1 none)).trans k2)); have B2 := hide (B1.out.step ((WK.grown W1.out (gb_refl w1 none)).trans k2)); obtain ⟨b0_2,b1_2,b2_2,b3_2,b4_2⟩ := B2.out.box.p; have bl_2 := B2.out.fr.lt
      obtain ⟨nu0_2,nu1_2,nu2_2,nu3_2,nu4_2⟩ := NU.out.kept W2.out.gb; have nul_2 := block_lt nu0_2; obtain ⟨nv0_2,nv1_2,nv2_2,nv3_2,nv4_2⟩ := NV.out.kept W2.out.gb; have nvl_2 := block_lt nv0_2; clear j2 k2; go_wp2_with fail; go_at_call 95; refine (operand_of w0 wb _ _ L v _ 1 V (W2.out.grown (gb_refl w2 none)) AV.out hv HF.out (by first | omega | (simp only [List.length_append, List.length_cons, List.length_nil]; omega))).mono ?_; rintro e w3 ⟨rfl, j3, k3⟩; have W3 := hide j3; have K3 := hide (K2.out.trans ((WK.grown W2.out (gb_refl w2 none)).trans k3)); have B3 := hide (B2.out.step ((WK.grown W2.out (gb_refl w2 none)).trans k3)); obtain ⟨b0_3,b1_3,b2_3,b3_3,b4_3⟩ := B3.out.box.p; have bl_3 := B3.out.fr.lt
      obtain ⟨nu0_3,nu1_3,nu2_3,nu3_3,nu4_3⟩ := NU.out.kept W3.out.gb; have nul_3 := block_lt nu0_3; obtain ⟨nv0_3,nv1_3,nv2_3,nv3_3,nv4_3⟩ := NV.out.kept W3.out.gb; have nvl_3 := block_lt nv0_3; clear j3 k3; go_wp2_with fail
      go_end0
      refine ⟨rfl, ?_, K3.out⟩; have J9 := W3.out
      try simp only [List.append_assoc] at J9 ⊢
      exact J9
  · obtain rfl : r1 = 1 := by rw [h1]; decide
    obtain rfl : r2 = 2 := by rw [h2]; decide
    clear h1 h2
    go_enter Tryz.func97, Tryz.ntmps97
    go_wp2_with fail
    go_region
    all_goals
      go_wp2_with fail; go_at_call 95; refine (operand_of w0 wb _ _ L u _ 1 U (HW.out.grown (by exact gb_drew (gb_alloc (gb_refl w none) _))) AU.out hu HE.out (by first | omega | (simp only [List.length_append, List.length_cons, List.length_nil, padTx_len]; omega))).mono ?_; rintro e w1 ⟨rfl, j1, k1⟩; have W1 := hide j1; have K1 := hide ((WK.grown HW.out (by exact gb_drew (gb_alloc (gb_refl w none) _))).trans k1); have B1 := hide ((FB.newX HW.out 36 x m p [u, v] (.slice (some ⟨g, o, none⟩) 2 c) 24 (gb_refl w none)).step ((WK.grown (HW.out.grown (gb_alloc (gb_refl w none) _)) (by exact gb_drew (gb_refl _ none))).trans k1)); obtain ⟨b0_1,b1_1,b2_1,b3_1,b4_1⟩ := B1.out.box.p; have bl_1 := B1.out.fr.lt
      obtain ⟨nu0_1,nu1_1,nu2_1,nu3_1,nu4_1⟩ := NU.out.kept W1.out.gb; have nul_1 := block_lt nu0_1; obtain ⟨nv0_1,nv1_1,nv2_1,nv3_1,nv4_1⟩ := NV.out.kept W1.out.gb; have nvl_1 := block_lt nv0_1; clear j1 k1; go_wp2_with fail; go_at_call 56; refine (write3 w0 wb _ _ L [32] x [32] _ _ (by simp) (W1.out.grown (gb_refl w1 none)) (by first | omega | (simp only [List.length_append, List.length_cons, List.length_nil]; omega))).mono ?_; rintro e w2 ⟨rfl, j2, k2⟩; have W2 := hide j2; have K2 := hide (K1.out.trans ((WK.grown W1.out (gb_refl w1 none)).trans k2)); have B2 := hide (B1.out.step ((WK.grown W1.out (gb_refl w1 none)).trans k2)); obtain ⟨b0_2,b1_2,b2_2,b3_2,b4_2⟩ := B2.out.box.p; have bl_2 := B2.out.fr.lt
      obtain ⟨nu0_2,nu1_2,nu2_2,nu3_2,nu4_2⟩ := NU.out.kept W2.out.gb; have nul_2 := block_lt nu0_2; obtain ⟨nv0_2,nv1_2,nv2_2,nv3_2,nv4_2⟩ := NV.out.kept W2.out.gb; have nvl_2 := block_lt nv0_2; clear j2 k2; go_wp2_with fail; go_at_call 95; refine (operand_of w0 wb _ _ L v _ 2 V (W2.out.grown (gb_refl w2 none)) AV.out hv HF.out (by first | omega | (simp only [List.length_append, List.length_cons, List.length_nil]; omega))).mono ?_; rintro e w3 ⟨rfl, j3, k3⟩; have W3 := hide j3; have K3 := hide (K2.out.trans ((WK.grown W2.out (gb_refl w2 none)).trans k3)); have B3 := hide (B2.out.step ((WK.grown W2.out (gb_refl w2 none)).trans k3)); obtain ⟨b0_3,b1_3,b2_3,b3_3,b4_3⟩ := B3.out.box.p; have bl_3 := B3.out.fr.lt
      obtain ⟨nu0_3,nu1_3,nu2_3,nu3_3,nu4_3⟩ := NU.out.kept W3.out.gb; have nul_3 := block_lt nu0_3; obtain ⟨nv0_3,nv1_3,nv2_3,nv3_3,nv4_3⟩ := NV.out.kept W3.out.gb; have nvl_3 := block_lt nv0_3; clear j3 k3; go_wp2_with fail
      go_end0
      refine ⟨rfl, ?_, K3.out⟩; have J9 := W3.out
      try simp only [List.append_assoc] at J9 ⊢
      exact J9
  · obtain rfl : r1 = 2 := by rw [h1]; decide
    obtain rfl : r2 = 3 := by rw [h2]; decide
    clear h1 h2
    go_enter Tryz.func97, Tryz.ntmps97
    go_wp2_with fail
    go_region
    all_goals
      go_wp2_with fail; go_at_call 95; refine (operand_of w0 wb _ _ L u _ 2 U (HW.out.grown (by exact gb_drew (gb_alloc (gb_refl w none) _))) AU.out hu HE.out (by first | omega | (simp only [List.length_append, List.length_cons, List.length_nil, padTx_len]; omega))).mono ?_; rintro e w1 ⟨rfl, j1, k1⟩; have W1 := hide j1; have K1 := hide ((WK.grown HW.out (by exact gb_drew (gb_alloc (gb_refl w none) _))).trans k1); have B1 := hide ((FB.newX HW.out 36 x m p [u, v] (.slice (some ⟨g, o, none⟩) 2 c) 24 (gb_refl w none)).step ((WK.grown (HW.out.grown (gb_alloc (gb_refl w none) _)) (by exact gb_drew (gb_refl _ none))).trans k1)); obtain ⟨b0_1,b1_1,b2_1,b3_1,b4_1⟩ := B1.out.box.p; have bl_1 := B1.out.fr.lt
      obtain ⟨nu0_1,nu1_1,nu2_1,nu3_1,nu4_1⟩ := NU.out.kept W1.out.gb; have nul_1 := block_lt nu0_1; obtain ⟨nv0_1,nv1_1,nv2_1,nv3_1,nv4_1⟩ := NV.out.kept W1.out.gb; have nvl_1 := block_lt nv0_1; clear j1 k1; go_wp2_with fail; go_at_call 56; refine (write3 w0 wb _ _ L [32] x [32] _ _ (by simp) (W1.out.grown (gb_refl w1 none)) (by first | omega | (simp only [List.length_append, List.length_cons, List.length_nil]; omega))).mono ?_; rintro e w2 ⟨rfl, j2, k2⟩; have W2 := hide j2; have K2 := hide (K1.out.trans ((WK.grown W1.out (gb_refl w1 none)).trans k2)); have B2 := hide (B1.out.step ((WK.grown W1.out (gb_refl w1 none)).trans k2)); obtain ⟨b0_2,b1_2,b2_2,b3_2,b4_2⟩ := B2.out.box.p; have bl_2 := B2.out.fr.lt
      obtain ⟨nu0_2,nu1_2,nu2_2,nu3_2,nu4_2⟩ := NU.out.kept W2.out.gb; have nul_2 := block_lt nu0_2; obtain ⟨nv0_2,nv1_2,nv2_2,nv3_2,nv4_2⟩ := NV.out.kept W2.out.gb; have nvl_2 := block_lt nv0_2; clear j2 k2; go_wp2_with fail; go_at_call 95; refine (operand_of w0 wb _ _ L v _ 3 V (W2.out.grown (gb_refl w2 none)) AV.out hv HF.out (by first | omega | (simp only [List.length_append, List.length_cons, List.length_nil]; omega))).mono ?_; rintro e w3 ⟨rfl, j3, k3⟩; have W3 := hide j3; have K3 := hide (K2.out.trans ((WK.grown W2.out (gb_refl w2 none)).trans k3)); have B3 := hide (B2.out.step ((WK.grown W2.out (gb_refl w2 none)).trans k3)); obtain ⟨b0_3,b1_3,b2_3,b3_3,b4_3⟩ := B3.out.box.p; have bl_3 := B3.out.fr.lt
      obtain ⟨nu0_3,nu1_3,nu2_3,nu3_3,nu4_3⟩ := NU.out.kept W3.out.gb; have nul_3 := block_lt nu0_3; obtain ⟨nv0_3,nv1_3,nv2_3,nv3_3,nv4_3⟩ := NV.out.kept W3.out.gb; have nvl_3 := block_lt nv0_3; clear j3 k3; go_wp2_with fail
      go_end0
      refine ⟨rfl, ?_, K3.out⟩; have J9 := W3.out
      try simp only [List.append_assoc] at J9 ⊢
      exact J9
theorem xe36 (w0 : World) (wb : Nat) (w : World) (S : List UInt8) (L : Nat) (x : List UInt8) (m : Int) (p : Int) (u : T) (v : T) (sv : Value) (h : Wr w0 wb w S L) (ha : AT w0 (T.mk 36 x m p [u, v]).subs sv) (X : List UInt8) (ho : ∀ (w : World) (S : List UInt8) (L : Nat) (sv : Value), Wr w0 wb w S L → AT w0 (T.mk 36 x m p [u, v]).subs sv → S.length + X.length ≤ 1000000000 → Calls Tryz.prog 97 #[ptr wb, nodeV (.mk 36 x m p [u, v]) sv] w (WP w0 wb w S L X)) (hlen : S.length + (X).length ≤ 1000000000) :
    Calls Tryz.prog 57 #[ptr wb, .agg #[.int .i64 36, .string ⟨List.toArray x⟩, .int .i64 m, .int .i64 p, sv]] w (WP w0 wb w S L (X)) := by
  have HW := hide h; have hwl := h.lt; have HL := hide hlen; have HA := hide ha; obtain ⟨g, o, c, u', su, v', sw, rfl, hn, hc, hl, n5, fu, au, n6, fv, av⟩ := ha.two rfl
  have hl2 : u = u' ∧ v = v' := by simpa [T.subs] using hl
  obtain ⟨rfl,rfl⟩ := hl2; have NU := hide n5; have AU := hide au; have NV := hide n6; have AV := hide av; obtain ⟨nu0,_,_,_,_⟩ := n5.kept h.gb; obtain ⟨_,_,_,_,_⟩ := n6.kept h.gb; have hgl := block_lt nu0; clear h ha hl fu au n5 fv av n6
  try simp only [List.length_append, List.length_cons, List.length_nil, padTx_len] at hlen
  have HO := hide ho; clear ho
  go_enter Tryz.func57, Tryz.ntmps57
  go_wp2_with fail; go_at_call 97; refine (HO.out _ _ L _ (HW.out.grown (by exact gb_alloc (gb_refl w none) _)) HA.out HL.out).mono ?_; rintro e w1 ⟨rfl, j1, k1⟩; have W1 := hide j1; have K1 := hide ((WK.grown HW.out (by exact gb_alloc (gb_refl w none) _)).trans k1); have B1 := hide ((FB.newX HW.out 36 x m p [u, v] (.slice (some ⟨g, o, none⟩) 2 c) 24 (gb_refl w none)).step ((WK.grown (HW.out.grown (gb_alloc (gb_refl w none) _)) (gb_refl _ none)).trans k1)); obtain ⟨_,_,_,_,_⟩ := B1.out.box.p; have bl_1 := B1.out.fr.lt
  obtain ⟨nu0_1,_,_,_,_⟩ := NU.out.kept W1.out.gb; have nul_1 := block_lt nu0_1; obtain ⟨nv0_1,_,_,_,_⟩ := NV.out.kept W1.out.gb; have nvl_1 := block_lt nv0_1; clear j1 k1; go_wp2_with fail
  go_end0
  refine ⟨rfl, ?_, K1.out⟩; have J9 := W1.out
  try simp only [List.append_assoc, List.nil_append, List.append_nil] at J9 ⊢
  exact J9
theorem en_expression : EN 57 := enters_of Tryz.func57 (by kernel_rfl) rfl
theorem EW.expr {w0 : World} {wb : Nat} {us : List T} {tx : T → List UInt8} (H : ∀ v ∈ us, EXW w0 wb v (tx v)) (w : World) (L : Nat) : EW w0 wb w L 57 #[ptr wb] #[] us tx := fun t sv w1 S hm ha hw _ hl => H t hm w1 S L sv hw ha hl
theorem arguments_any (w0 : World) (wb : Nat) (w : World) (S : List UInt8) (L : Nat) (us : List T) (sl : Value) (tx : T → List UInt8) (h : Wr w0 wb w S L) (ha : AT w0 us sl) (he : ∀ v ∈ us, EXW w0 wb v (tx v)) (hlen : S.length + ([40] ++ (sepTx [44, 32] (us.map tx) ++ [41])).length ≤ 1000000000) :
    Calls Tryz.prog 94 #[ptr wb, sl] w (WP w0 wb w S L ([40] ++ (sepTx [44, 32] (us.map tx) ++ [41]))) := by
  have HW := hide h; have hwl := h.lt; have HA := hide ha; have HE := hide he; obtain ⟨_,_,rfl,_,hs2⟩ := ha.form
  unfold maxLen at hs2
  clear h ha he; simp only [List.length_append, List.length_cons, List.length_nil] at hlen
  go_enter Tryz.func94, Tryz.ntmps94
  go_wp2_with fail; go_at_call 56; refine (write1 w0 wb _ _ L [40] _ _ (by simp) (HW.out.grown (gb_refl w none)) (by first | omega | (simp only [List.length_cons, List.length_nil]; omega))).mono ?_; rintro e w1 ⟨rfl, j1, k1⟩; have W1 := hide j1; have K1 := hide ((WK.grown HW.out (gb_refl w none)).trans k1); clear j1 k1; go_wp2_with fail; go_at_call 89; refine (several_any w0 wb _ _ L us _ [44, 32] _ _ _ tx (W1.out.grown (gb_refl w1 none)) HA.out (EW.expr HE.out _ L) en_expression (by first | omega | (simp only [List.length_append, List.length_cons, List.length_nil]; omega))).mono ?_; rintro e w2 ⟨rfl, j2, k2⟩; have W2 := hide j2; have K2 := hide (K1.out.trans ((WK.grown W1.out (gb_refl w1 none)).trans k2)); clear j2 k2; go_wp2_with fail; go_at_call 56; refine (write1 w0 wb _ _ L [41] _ _ (by simp) (W2.out.grown (gb_refl w2 none)) (by first | omega | (simp only [List.length_append, List.length_cons, List.length_nil]; omega))).mono ?_; rintro e w3 ⟨rfl, j3, k3⟩; have W3 := hide j3; have K3 := hide (K2.out.trans ((WK.grown W2.out (gb_refl w2 none)).trans k3)); clear j3 k3; go_wp2_with fail
  go_end0
  refine ⟨rfl, ?_, K3.out⟩; have J9 := W3.out
  try simp only [List.append_assoc] at J9 ⊢
  exact J9
theorem xe33 (w0 : World) (wb : Nat) (w : World) (S : List UInt8) (L : Nat) (x : List UInt8) (m p : Int) (u : T) (us : List T) (sv : Value) (h : Wr w0 wb w S L) (ha : AT w0 (T.mk 33 x m p (u :: us)).subs sv) (U : List UInt8) (tx : T → List UInt8) (hu : EXW w0 wb u U) (he : ∀ v ∈ us, EXW w0 wb v (tx v)) (hlen : S.length + (U ++ ([40] ++ (sepTx [44, 32] (us.map tx) ++ [41]))).length ≤ 1000000000) :
    Calls Tryz.prog 57 #[ptr wb, .agg #[.int .i64 33, .string ⟨List.toArray x⟩, .int .i64 m, .int .i64 p, sv]] w (WP w0 wb w S L (U ++ ([40] ++ (sepTx [44, 32] (us.map tx) ++ [41])))) := by
  have HW := hide h; have hwl := h.lt; have HU := hide hu; have HE := hide he; obtain ⟨g,o,c,_,rfl,_,_,n5,fu,au,ar⟩ := AT.cons ha; have NU := hide n5; have AU := hide au; obtain ⟨nu0,_,_,_,_⟩ := n5.kept h.gb; have hgl := block_lt nu0; have AR := hide ar; clear h ha hu he fu au n5 ar
  try simp only [List.length_append, List.length_cons, List.length_nil] at hlen
  rcases Nat.lt_or_ge 1 c with hc1 | hc1
  · have AR2 := hide AR.out
    go_enter Tryz.func57, Tryz.ntmps57
    go_wp2_with fail; go_at_call 57; refine (HU.out _ _ L _ (HW.out.grown (by exact gb_alloc (gb_refl w none) _)) AU.out (by first | omega | (simp only [List.length_append, List.length_cons, List.length_nil, padTx_len]; omega))).mono ?_; rintro e w1 ⟨rfl, j1, k1⟩; have W1 := hide j1; have K1 := hide ((WK.grown HW.out (by exact gb_alloc (gb_refl w none) _)).trans k1); have B1 := hide ((FB.newX HW.out 33 x m p (u :: us) (.slice (some ⟨g, o, none⟩) (us.length + 1) c) 24 (gb_refl w none)).step ((WK.grown (HW.out.grown (gb_alloc (gb_refl w none) _)) (gb_refl _ none)).trans k1)); obtain ⟨b0_1,b1_1,b2_1,b3_1,b4_1⟩ := B1.out.box.p; have bl_1 := B1.out.fr.lt
    obtain ⟨nu0_1,nu1_1,nu2_1,nu3_1,nu4_1⟩ := NU.out.kept W1.out.gb; have nul_1 := block_lt nu0_1; clear j1 k1; go_wp2_with fail; go_at_call 94; refine (arguments_any w0 wb _ _ L us _ tx (W1.out.grown (gb_refl w1 none)) AR2.out HE.out (by first | omega | (simp only [List.length_append, List.length_cons, List.length_nil]; omega))).mono ?_; rintro e w2 ⟨rfl, j2, k2⟩; have W2 := hide j2; have K2 := hide (K1.out.trans ((WK.grown W1.out (gb_refl w1 none)).trans k2)); have B2 := hide (B1.out.step ((WK.grown W1.out (gb_refl w1 none)).trans k2)); obtain ⟨b0_2,b1_2,b2_2,b3_2,b4_2⟩ := B2.out.box.p; have bl_2 := B2.out.fr.lt
    obtain ⟨nu0_2,nu1_2,nu2_2,nu3_2,nu4_2⟩ := NU.out.kept W2.out.gb; have nul_2 := block_lt nu0_2; clear j2 k2; go_wp2_with fail
    go_end0
    refine ⟨rfl, ?_, K2.out⟩; have J9 := W2.out
    try simp only [List.append_assoc] at J9 ⊢
    exact J9
  · obtain rfl : c = 1 := by omega
    obtain rfl : us = [] := List.eq_nil_of_length_eq_zero (by omega); have AR2 : Hid (AT w0 [] (.slice (some ⟨g, o, none⟩) 0 0)) := AT.nil _ _ (Nat.zero_le _)
    go_enter Tryz.func57, Tryz.ntmps57
    go_wp2_with fail; go_at_call 57; refine (HU.out _ _ L _ (HW.out.grown (by exact gb_alloc (gb_refl w none) _)) AU.out (by first | omega | (simp only [List.length_append, List.length_cons, List.length_nil, padTx_len]; omega))).mono ?_; rintro e w1 ⟨rfl, j1, k1⟩; have W1 := hide j1; have K1 := hide ((WK.grown HW.out (by exact gb_alloc (gb_refl w none) _)).trans k1); have B1 := hide ((FB.newX HW.out 33 x m p [u] (.slice (some ⟨g, o, none⟩) 1 1) 24 (gb_refl w none)).step ((WK.grown (HW.out.grown (gb_alloc (gb_refl w none) _)) (gb_refl _ none)).trans k1)); obtain ⟨b0_1,b1_1,b2_1,b3_1,b4_1⟩ := B1.out.box.p; have bl_1 := B1.out.fr.lt
    obtain ⟨nu0_1,nu1_1,nu2_1,nu3_1,nu4_1⟩ := NU.out.kept W1.out.gb; have nul_1 := block_lt nu0_1; clear j1 k1; go_wp2_with fail; go_at_call 94; refine (arguments_any w0 wb _ _ L [] _ tx (W1.out.grown (gb_refl w1 none)) AR2.out HE.out (by first | omega | (simp only [List.length_append, List.length_cons, List.length_nil]; omega))).mono ?_; rintro e w2 ⟨rfl, j2, k2⟩; have W2 := hide j2; have K2 := hide (K1.out.trans ((WK.grown W1.out (gb_refl w1 none)).trans k2)); have B2 := hide (B1.out.step ((WK.grown W1.out (gb_refl w1 none)).trans k2)); obtain ⟨b0_2,b1_2,b2_2,b3_2,b4_2⟩ := B2.out.box.p; have bl_2 := B2.out.fr.lt
    obtain ⟨nu0_2,nu1_2,nu2_2,nu3_2,nu4_2⟩ := NU.out.kept W2.out.gb; have nul_2 := block_lt nu0_2; clear j2 k2; go_wp2_with fail
    go_end0
    refine ⟨rfl, ?_, K2.out⟩; have J9 := W2.out
    try simp only [List.append_assoc] at J9 ⊢
    exact J9
end Go.Proofs.YtapfecciakijhaaGreatDoor
