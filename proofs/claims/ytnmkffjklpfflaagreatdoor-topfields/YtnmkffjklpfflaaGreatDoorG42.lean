/- parse.Parse: the tree of a text, or what is wrong; what is thrown is caught. -/
import Derived.Test.YtnmkffjklpfflaaGreatDoorG35
import Derived.Test.YtnmkffjklpfflaaGreatDoorG41
namespace Go.Proofs.YtnmkffjklpfflaaGreatDoor
open Go.RowKit
set_option maxHeartbeats 1000000
set_option maxRecDepth 100000
abbrev kx : Array Value := #[.int .i64 0, .string ⟨#[]⟩, .int .i64 0, .int .i64 0, .slice none 0 0]
theorem qv (b0 : Nat) (p1 q : Addr) (v1 : Value) (older : List PanicEntry) (w : World) (hne : b0 ≠ p1.block) (h0 : RB w b0) (h1 : w.cell? p1 = some v1) (z1 : w.frozen? p1 = false) :
    CallsD Tryz.prog 50 #[pq b0, .pointer (some p1)] (.panicking ({ v := .iface 103 (.pointer (some q)), recovered := false } :: older)) w fun e u' w' =>
      e = .returned (.tuple #[]) /\ u' = .panicking ({ v := .iface 103 (.pointer (some q)), recovered := true } :: older) /\ w' = (put5 w b0 (.int .i64 0) (.string ⟨#[]⟩) (.int .i64 0) (.int .i64 0) (.slice none 0 0)).setCell p1 (.iface 103 (.pointer (some q))) := by
  refine callsD_of_wpS Tryz.func50 rfl fun c₀ cs hu => ?_
  have hta := jC (.pointer (some q)); obtain ⟨_,_,_,_,_,x0,x1,x2,x3,x4,xz⟩ := h0
  have hc1 : (put5 w b0 (.int .i64 0) (.string ⟨#[]⟩) (.int .i64 0) (.int .i64 0) (.slice none 0 0)).cell? p1 = some v1 := by
    unfold put5
    rw [World.cell?_setCell_other _ _ _ _ (by intro e; exact hne (congrArg Addr.block e)), World.cell?_setCell_other _ _ _ _ (by intro e; exact hne (congrArg Addr.block e)), World.cell?_setCell_other _ _ _ _ (by intro e; exact hne (congrArg Addr.block e)), World.cell?_setCell_other _ _ _ _ (by intro e; exact hne (congrArg Addr.block e)), World.cell?_setCell_other _ _ _ _ (by intro e; exact hne (congrArg Addr.block e))]
    exact h1
  unfold put5 at hc1 ⊢
  apply wpS_seq
  apply wpS_region
  simp [wpOpsS, go_sem, recoverD, hu, Tryz.ntmps50, Exit.thenS, hta]
  apply wpS_seq
  apply wpS_region
  simp [wpOpsS, go_sem, Array.replicate, Exit.thenS]
  refine wpS_cond (t := true) (by simp [Act.eval]) ?_; simp only [if_true]
  apply wpS_region
  simp [wpOpsS, go_sem, x0, x1, x2, x3, x4, xz, hc1, z1, bodyPostS, results, Tryz.results50]
theorem pz (p0 p1 : Addr) (w : World) :
    CallsD Tryz.prog 50 #[.pointer (some p0), .pointer (some p1)] .returning w fun e u' w' => e = .returned (.tuple #[]) /\ u' = .returning /\ w' = w := by
  refine callsD_of_wpS Tryz.func50 rfl fun c₀ cs hu => ?_
  have hta := qi
  apply wpS_seq
  apply wpS_region
  simp [wpOpsS, go_sem, recoverD, hu, Tryz.ntmps50, Exit.thenS, hta]
  apply wpS_seq
  apply wpS_region
  simp [wpOpsS, go_sem, Array.replicate, Exit.thenS]
  refine wpS_cond (t := false) (by simp [Act.eval]) ?_; simp only [Bool.false_eq_true, if_false]; refine wpS_of_wp (wp_skip ?_); cases c₀
  simp_all [bodyPostS, results, Tryz.results50]
/-- A fault in memory: in text 0, at a place, with a number. -/
def FaultAt (w : World) (q : Nat) (at' n : Int) : Prop :=
  w.cell? ⟨q, 0, none⟩ = some (.int .i64 0) /\ w.cell? ⟨q, 1, none⟩ = some (.int .i64 at') /\ w.cell? ⟨q, 2, none⟩ = some (.iface 56 (.int .i64 n))
/-- What parse.Parse answers, and what memory it leaves. -/
def ParsePost (t : List UInt8) (w : World) (e : Ending) (w' : World) : Prop :=
  Below w.heap.size w w' /\
  ((4000 < t.length /\ e = .returned (.tuple #[.agg kx, .iface 56 (.int .i64 3)])) \/
   (t.length <= 4000 /\ ∃ n f q, xS t = .error (n, f) /\ e = .returned (.tuple #[.agg kx, .iface 103 (pq q)]) /\ FaultAt w' q ((t.length - f.length : Nat) : Int) n) \/
   (t.length <= 4000 /\ ∃ l x q, xS t = .ok l /\ xE (xG t.length l) 0 = .error x /\ e = .returned (.tuple #[.agg kx, .iface 103 (pq q)]) /\ FaultAt w' q x.2 x.1) \/
   (t.length <= 4000 /\ ∃ l x j v, xS t = .ok l /\ xE (xG t.length l) 0 = .ok (x, j) /\ e = .returned (.tuple #[v, .nilIface]) /\ TR w' w.heap.size w'.heap.size x v))
theorem gF {W : World} {b : Nat} {v0 v1 v2 v3 v4 ev : Value} {tmps : Array Value} (hn : NB W b v0 v1 v2 v3 v4) (he : W.cell? ⟨b + 1, 0, none⟩ = some ev) (t2 : tmps[2]?.getD undef = pq b) (t3 : tmps[3]?.getD undef = pq (b + 1)) :
    (results Tryz.f37 tmps).run Tryz.prog W = .ok (.tuple #[.agg #[v0, v1, v2, v3, v4], ev]) W := by
  simp [results, Tryz.results37, t2, t3, go_sem, hn.c0, hn.c1, hn.c2, hn.c3, hn.c4, he]
theorem tU {W : World} {b : Nat} {v0 v1 v2 v3 v4 ev x : Value} (hr : RB W b) (he : W.cell? ⟨b + 1, 0, none⟩ = some x) :
    NB ((((((W.setCell ⟨b, 0, none⟩ v0).setCell ⟨b, 1, none⟩ v1).setCell ⟨b, 2, none⟩ v2).setCell ⟨b, 3, none⟩ v3).setCell ⟨b, 4, none⟩ v4).setCell ⟨b + 1, 0, none⟩ ev) b v0 v1 v2 v3 v4 /\
    ((((((W.setCell ⟨b, 0, none⟩ v0).setCell ⟨b, 1, none⟩ v1).setCell ⟨b, 2, none⟩ v2).setCell ⟨b, 3, none⟩ v3).setCell ⟨b, 4, none⟩ v4).setCell ⟨b + 1, 0, none⟩ ev).cell? ⟨b + 1, 0, none⟩ = some ev := by
  refine ⟨NB.far (RB.five hr) (by omega) _ _, World.cell?_setCell_same _ _ (u := x) _ ?_⟩; rw [World.cell?_setCell_other _ _ _ _ (by simp), World.cell?_setCell_other _ _ _ _ (by simp), World.cell?_setCell_other _ _ _ _ (by simp), World.cell?_setCell_other _ _ _ _ (by simp), World.cell?_setCell_other _ _ _ _ (by simp)]
  exact he
theorem pD {W : World} {b : Nat} {v0 v1 v2 v3 v4 ev : Value} {k : Nat} (h1 : k ≠ b) (h2 : k ≠ b + 1) :
    ((((((W.setCell ⟨b, 0, none⟩ v0).setCell ⟨b, 1, none⟩ v1).setCell ⟨b, 2, none⟩ v2).setCell ⟨b, 3, none⟩ v3).setCell ⟨b, 4, none⟩ v4).setCell ⟨b + 1, 0, none⟩ ev).heap[k]? = W.heap[k]? := by
  rw [Below.heap_setCell _ _ _ _ (by simp; omega), Below.heap_setCell _ _ _ _ (by simp; omega), Below.heap_setCell _ _ _ _ (by simp; omega), Below.heap_setCell _ _ _ _ (by simp; omega), Below.heap_setCell _ _ _ _ (by simp; omega), Below.heap_setCell _ _ _ _ (by simp; omega)]
theorem qj {w W : World} {b : Nat} {v0 v1 v2 v3 v4 ev : Value} (h : Below b w W) :
    Below b w ((((((W.setCell ⟨b, 0, none⟩ v0).setCell ⟨b, 1, none⟩ v1).setCell ⟨b, 2, none⟩ v2).setCell ⟨b, 3, none⟩ v3).setCell ⟨b, 4, none⟩ v4).setCell ⟨b + 1, 0, none⟩ ev) :=
  (((((h.setCell (by simp) _).setCell (by simp) _).setCell (by simp) _).setCell (by simp) _).setCell (by simp) _).setCell (by simp) _
theorem lh (W : World) (k : Nat) : W.drew.heap[k]? = W.heap[k]? := rfl
theorem mv {w : World} {a : Addr} {v : Value} (h : w.cell? a = some v) (o : Obj) : (w.alloc o).cell? a = some v := zE (World.grownBy_alloc w o none) h (by simp)
theorem mZ (s : ByteArray) (w : World) (hs : s.size <= maxLen) (htab : Lib.TabIs Tryz.prog w "strings.asciiSpace" .u8 Lib.asciiSpaceTab)
    (hWh : ∀ c : PC, PartOK c 0 52 (xE c.L)) :
    Calls Tryz.prog 37 #[.string s] w (ParsePost s.data.toList w) := by
  have hmf : ∀ (fn : Fn) (first cap : Array Value) (w : World), (Instr.makeFunc fn first cap).run Tryz.prog w = .ok (.func fn first cap) w := fun _ _ _ _ => rfl
  have HT := zc htab; have HW := zc hWh; have hn := zD s; clear htab hWh
  go_enter_defers Tryz.func37, Tryz.ntmps37
  go_wp2_with fail; go_at_call 49; refine (oI s _ hs).mono ?_; rintro e w1 ⟨hlong, hok, herr, hb1⟩; have hg1 := qU hb1 none; have n1 : NB w1 w.heap.size (.int .i64 0) (.string ⟨#[]⟩) (.int .i64 0) (.int .i64 0) (.slice none 0 0) := NB.kept (by exact NB.alloc (NB.new' (by simp)) _) hg1 (by simp); have r1 : RB w1 w.heap.size := n1.rb; have e1 : w1.cell? ⟨w.heap.size + 1, 0, none⟩ = some .nilIface := zE hg1 (by simp) (by simp); have z1 : w1.frozen? ⟨w.heap.size + 1, 0, none⟩ = false := ye hg1 (by simp) (by simp) (by simp); have hbb : Below w.heap.size w w1 := (((Below.refl _ _).alloc (Nat.le_refl _) _).alloc (by simp) _).trans (hb1.mono (by simp; omega)); have sz1 := hb1.size
  simp at sz1
  have hlow := hb1.size
  rcases (show (4000 < s.size \/ ∃ x, xS s.data.toList = .error x /\ s.size <= 4000) \/ ∃ l, xS s.data.toList = .ok l /\ s.size <= 4000 by
    by_cases hl : 4000 < s.size
    · exact .inl (.inl hl)
    · cases ht : xS s.data.toList with
      | error x => exact .inl (.inr ⟨x, rfl, by omega⟩)
      | ok l => exact .inr ⟨l, rfl, by omega⟩) with hbad | ⟨l, ht, hl⟩
  · obtain ⟨ty, ev, rfl, HQ⟩ : ∃ ty ev, e = .returned (.tuple #[.slice none 0 0, .iface ty ev]) /\ Hid (∀ w', Below w.heap.size w w' -> (∀ k, k ≠ w.heap.size -> k ≠ w.heap.size + 1 -> k < w1.heap.size -> w'.heap[k]? = w1.heap[k]?) -> ParsePost s.data.toList w (.returned (.tuple #[.agg kx, .iface ty ev])) w') := by
      rcases hbad with hl | ⟨⟨n, f⟩, ht, hl⟩
      · exact ⟨_, _, hlong (by omega), fun w' hb _ => ⟨hb, .inl ⟨by omega, rfl⟩⟩⟩
      · obtain ⟨q,he,q0,q1,q2⟩ := herr (by omega) n f ht
        refine ⟨_, _, he, fun w' hb hk => ⟨hb, .inr (.inl ⟨by omega, n, f, q, ht, rfl, ?_⟩)⟩⟩; have hq := zw q0; simp only at hq
        have hq2 : q ≠ w.heap.size := by
          intro e; subst e; have := n1.c1; rw [q1] at this; cases this
        have hq3 : q ≠ w.heap.size + 1 := by
          intro e; subst e; rw [q0] at e1; cases e1
        have hqk := hk q hq2 hq3 hq
        exact ⟨by rw [World.cell?_of_block (w := w1) hqk]; exact q0, by rw [World.cell?_of_block (w := w1) hqk, <- hn] ; rw [<- hn] at q1; exact q1, by rw [World.cell?_of_block (w := w1) hqk]; exact q2⟩
    clear hok herr hlong hbad; obtain ⟨_,_,_,_,_,x0,x1,x2,x3,x4,xz⟩ := id r1; go_wp2
    go_region
    all_goals
      go_wp2
    simp only [bodyPostD, Leaves]; refine ⟨_, gF (b := w.heap.size) (v0 := .int .i64 0) (v1 := .string ⟨#[]⟩) (v2 := .int .i64 0) (v3 := .int .i64 0) (v4 := .slice none 0 0) (ev := .iface ty ev) ?_ ?_ rfl rfl, ?_⟩
    · with_reducible refine NB.drew ?_
      with_reducible exact (tU (RB.put r1 _ _ _) (World.cell?_setCell_same _ _ _ e1)).1
    · refine zE (zf (zj _ none)) ?_ (by simp)
      with_reducible exact (tU (RB.put r1 _ _ _) (World.cell?_setCell_same _ _ _ e1)).2
    · have hbE := qj (v0 := .int .i64 0) (v1 := .string ⟨#[]⟩) (v2 := .int .i64 0) (v3 := .int .i64 0) (v4 := .slice none 0 0) (ev := .iface ty ev) (show Below w.heap.size w (w1.setCell ⟨w.heap.size + 1, 0, none⟩ (.iface ty ev)) from hbb.setCell (by simp) _)
      refine HQ.out _ (hbE.grown (zf (zj _ none)) hbE.size (fun k hk => by cases hk)) (fun k h1 h2 h3 => ?_); rw [lh, pD h1 h2, Below.heap_setCell _ _ _ _ (by simp; omega)]
  · have hne := (fZ _ _ _ (Nat.lt_succ_self _) ht).1
    have hGL : GoodL (xG s.size l) := by rw [hn]; exact zbc ht (by omega)
    obtain ⟨v,rfl,hown⟩ := hok (by omega) l ht; clear hlong herr; obtain ⟨gg,cap,rfl⟩ := lf hown hne; have hgl := hown.lt gg (by simp [Value.ownBlock])
    simp at hgl
    have ho2 := hown.kept (zT (zj w1 (some (w.heap.size + 1))) 0 .nilIface) (.inr (by simp [Value.ownBlock]; omega)); have hb2 : Below w.heap.size w (w1.setCell ⟨w.heap.size + 1, 0, none⟩ .nilIface) := hbb.setCell (by simp) _; have HT2 := zc (uH HT.out hb2); have r2 : RB (w1.setCell ⟨w.heap.size + 1, 0, none⟩ .nilIface) w.heap.size := RB.put r1 _ _ _; have e2 : (w1.setCell ⟨w.heap.size + 1, 0, none⟩ .nilIface).cell? ⟨w.heap.size + 1, 0, none⟩ = some .nilIface := World.cell?_setCell_same _ _ _ e1
    have z2 : (w1.setCell ⟨w.heap.size + 1, 0, none⟩ .nilIface).frozen? ⟨w.heap.size + 1, 0, none⟩ = false := by rw [World.frozen?_setCell]; exact z1
    clear hok hown; obtain ⟨_,_,_,_,_,x0,x1,x2,x3,x4,xz⟩ := id r1; go_wp2_with fail; go_at_call 51; refine (pR _ HT2.out).mono ?_; rintro e w3 ⟨rfl, hlx, hb3⟩; have hg3 := qU hb3 none; have r3 : RB w3 w.heap.size := r2.kept hg3 (by simp); have e3 := zE hg3 e2 (by simp); have z3 : w3.frozen? ⟨w.heap.size + 1, 0, none⟩ = false := ye hg3 (by simp; omega) z2 (by simp); have ho3 := ho2.kept hg3 (.inr (by simp [Value.ownBlock])); have hbb3 : Below w.heap.size w w3 := hb2.trans (hb3.mono (by simp; omega)); have sz3 := hb3.size; have hlt := World.ownsMap.lt hlx
    simp at sz3 hlt
    clear x0 x1 x2 x3 x4 xz r1 e1 z1; obtain ⟨_,_,_,_,_,x0,x1,x2,x3,x4,xz⟩ := id r3; obtain ⟨c, hc⟩ : ∃ c : PC, c = ⟨w3.heap.size, gg, cap, w1.heap.size + 1, xG s.size l⟩ := ⟨_, rfl⟩
    have hps : PS c (w3.alloc (.cells #[.slice (some ⟨gg, 0, none⟩) l.length cap, .int .i64 0, .int .i64 0, .map (some (w1.heap.size + 1))] 126)) 0 0 := by
      subst hc; have ho4 := ho3.alloc (.cells #[.slice (some ⟨gg, 0, none⟩) l.length cap, .int .i64 0, .int .i64 0, .map (some (w1.heap.size + 1))] 126); refine ⟨?_, ?_, ?_, ?_, ?_, ?_, ?_, ?_, ?_, ?_, ?_, hGL, by omega⟩
      · rw [World.cell?_alloc_at _ _ _ _ rfl, vU]; rfl
      · rw [World.cell?_alloc_at _ _ _ _ rfl]; rfl
      · rw [World.cell?_alloc_at _ _ _ _ rfl]; rfl
      · rw [World.cell?_alloc_at _ _ _ _ rfl]; rfl
      · exact World.frozen?_alloc_at _ _ _ _ rfl
      · exact World.frozen?_alloc_at _ _ _ _ rfl
      · intro j hj
        rw [vU] at hj; have hf := oO (n := s.data.toList.length) (l := l) hj; rw [ri _ _ _ hj, ie _ _ _ hj]; refine ⟨(ho4.cellAt (j * 2) (by omega)).trans hf.1, (ho4.cellAt (j * 2 + 1) (by omega)).trans (by rw [hn]; exact hf.2)⟩
      · have hx : IsLex w3 (w1.heap.size + 1) := by simpa [IsLex] using hlx
        exact hx.below ((Below.refl _ _).alloc (Nat.le_refl _) _)
      · show gg ≠ w3.heap.size
        omega
      · show w1.heap.size + 1 ≠ w3.heap.size
        omega
      · show 0 < _
        rw [vU]
        omega
    have hcb : c.pb = w3.heap.size := by rw [hc]
    have hcL : c.L = xG s.size l := by rw [hc]
    go_wp2_with fail; go_at_call 52; rw [<- hcb]; refine (HW.out c _ 0 hps).mono ?_; rw [hcb]; rintro e w5 (⟨x, hr, ht5, hg5⟩ | ⟨a, j, v, hr, rfl, htr, hg5, p5, hi5⟩)
    · rw [hcb] at hg5
      have sz5 := hg5.size
      simp at sz5
      have r5 : RB w5 w.heap.size := (r3.alloc _).kept hg5 (by simp; omega); have e5 := zE hg5 (mv e3 _) (by simp; omega); have z5 : w5.frozen? ⟨w.heap.size + 1, 0, none⟩ = false := ye hg5 (by simp; omega) (by rw [World.frozen?_alloc_old _ _ _ (by simp; omega)]; exact z3) (by simp; omega); have hb5 : Below w.heap.size w w5 := (hbb3.alloc (by omega) _).grown hg5 (by simp; omega) (fun k hk => by cases hk; omega); obtain ⟨q,rfl,hq,q0,q1,q2⟩ := ht5
      simp at hq
      show Leaves _ _ _ _ _ _ _
      refine leaves_cons (f := 50) (args := #[pq w.heap.size, pq (w.heap.size + 1)]) (by simp) (by simp [go_sem]) ?_; refine (qv w.heap.size ⟨w.heap.size + 1, 0, none⟩ ⟨q, 0, none⟩ _ [] _ (by simp) r5 e5 z5).mono ?_; rintro e u' w6 ⟨rfl, rfl, hw6⟩
      show ∃ v, _ /\ _
      unfold put5 at hw6
      have hN := tU (v0 := .int .i64 0) (v1 := .string ⟨#[]⟩) (v2 := .int .i64 0) (v3 := .int .i64 0) (v4 := .slice none 0 0) (ev := .iface 103 (pq q)) r5 e5; have hB := qj (v0 := .int .i64 0) (v1 := .string ⟨#[]⟩) (v2 := .int .i64 0) (v3 := .int .i64 0) (v4 := .slice none 0 0) (ev := .iface 103 (pq q)) hb5; have hqk := pD (W := w5) (b := w.heap.size) (k := q) (v0 := .int .i64 0) (v1 := .string ⟨#[]⟩) (v2 := .int .i64 0) (v3 := .int .i64 0) (v4 := .slice none 0 0) (ev := .iface 103 (pq q)) (by omega) (by omega); rw [<- hw6] at hN hB hqk; clear hw6; refine ⟨_, gF (b := w.heap.size) hN.1 hN.2 rfl rfl, hB, .inr (.inr (.inl ⟨by omega, l, x, q, ht, by rw [<- hn, <- hcL]; exact hr, rfl, ?_⟩))⟩
      exact ⟨by rw [World.cell?_of_block (w := w5) hqk]; exact q0, by rw [World.cell?_of_block (w := w5) hqk]; exact q1, by rw [World.cell?_of_block (w := w5) hqk]; exact q2⟩
    · rw [hcb] at hg5
      have sz5 := hg5.size
      simp at sz5
      have r5 : RB w5 w.heap.size := (r3.alloc _).kept hg5 (by simp; omega); have e5 := zE hg5 (mv e3 _) (by simp; omega); have z5 : w5.frozen? ⟨w.heap.size + 1, 0, none⟩ = false := ye hg5 (by simp; omega) (by rw [World.frozen?_alloc_old _ _ _ (by simp; omega)]; exact z3) (by simp; omega); have hb5 : Below w.heap.size w w5 := (hbb3.alloc (by omega) _).grown hg5 (by simp; omega) (fun k hk => by cases hk; omega); obtain ⟨_,rfl,hlr⟩ := htr; obtain ⟨ad,cp,rfl⟩ := hlr.form; clear x0 x1 x2 x3 x4 xz; obtain ⟨_,_,_,_,_,x0,x1,x2,x3,x4,xz⟩ := id r5; go_wp2; refine leaves_cons (f := 50) (args := #[pq w.heap.size, pq (w.heap.size + 1)]) (by simp) (by simp [go_sem]) ?_; refine (pz _ _ _).mono ?_; rintro e u' w6 ⟨rfl, rfl, hw6⟩; simp only [Leaves, settle]; have hN := tU (v0 := .int .i64 a.kind) (v1 := .string ⟨a.name.toArray⟩) (v2 := .int .i64 a.num) (v3 := .int .i64 a.at') (v4 := .slice ad a.subs.length cp) (ev := .nilIface) r5 e5; have hB := qj (v0 := .int .i64 a.kind) (v1 := .string ⟨a.name.toArray⟩) (v2 := .int .i64 a.num) (v3 := .int .i64 a.at') (v4 := .slice ad a.subs.length cp) (ev := .nilIface) hb5
      have hL : LR w6 (In (w3.heap.size + 1) w5.heap.size) a.subs (.slice ad a.subs.length cp) := by
        rw [hw6]
        have h9 : LR w5 (In (w3.heap.size + 1) w5.heap.size) a.subs (.slice ad a.subs.length cp) := by simpa using hlr
        exact LR.put (LR.p5 h9 (by omega)) (by omega) _ _
      have hZ : w6.heap.size = w5.heap.size := by rw [hw6]; simp [World.setCell]
      rw [<- hw6] at hN hB; clear hw6; refine ⟨_, gF (b := w.heap.size) hN.1 hN.2 rfl rfl, hB, .inr (.inr (.inr ⟨by omega, l, a, j, _, ht, by rw [<- hn, <- hcL]; exact hr, rfl, _, rfl, hL.wide (by omega) (by omega)⟩))⟩
end Go.Proofs.YtnmkffjklpfflaaGreatDoor
