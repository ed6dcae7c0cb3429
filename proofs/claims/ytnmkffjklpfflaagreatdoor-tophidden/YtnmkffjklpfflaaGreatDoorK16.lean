/- parse.Parse: the tree of a text, or what is wrong; what is thrown is caught. -/
import Derived.Test.YtnmkffjklpfflaaGreatDoorG39
import Derived.Test.YtnmkffjklpfflaaGreatDoorG41
import Derived.Test.YtnmkffjklpfflaaGreatDoorK15
namespace Go.Proofs.YtnmkffjklpfflaaGreatDoor
open Go.RowKit
set_option maxHeartbeats 1000000
set_option maxRecDepth 100000
abbrev jY : Array Value := #[.int .i64 0, .string ⟨#[]⟩, .int .i64 0, .int .i64 0, .slice none 0 0]
theorem kI (b0 : Nat) (p1 q : Addr) (v1 : Value) (older : List PanicEntry) (w : World) (hne : b0 ≠ p1.block) (h0 : RB w b0) (h1 : w.cell? p1 = some v1) (z1 : w.frozen? p1 = false) :
    CallsD Tryz.prog 50 #[.pointer (some ⟨b0, 0, none⟩), .pointer (some p1)] (.panicking ({ v := .iface 103 (.pointer (some q)), recovered := false } :: older)) w fun e u' w' =>
      e = .returned (.tuple #[]) /\ u' = .panicking ({ v := .iface 103 (.pointer (some q)), recovered := true } :: older) /\ w' = (put5 w b0 (.int .i64 0) (.string ⟨#[]⟩) (.int .i64 0) (.int .i64 0) (.slice none 0 0)).setCell p1 (.iface 103 (.pointer (some q))) := by
  refine callsD_of_wpS Tryz.func50 rfl fun c₀ cs hu => ?_
  have hta := kW (.pointer (some q)); obtain ⟨_,_,_,_,_,x0,x1,x2,x3,x4,xz⟩ := h0
  have hc1 : (put5 w b0 (.int .i64 0) (.string ⟨#[]⟩) (.int .i64 0) (.int .i64 0) (.slice none 0 0)).cell? p1 = some v1 := by
    unfold put5
    rw [World.cell?_setCell_other _ _ _ _ (by intro e; exact hne (congrArg Addr.block e)), World.cell?_setCell_other _ _ _ _ (by intro e; exact hne (congrArg Addr.block e)), World.cell?_setCell_other _ _ _ _ (by intro e; exact hne (congrArg Addr.block e)), World.cell?_setCell_other _ _ _ _ (by intro e; exact hne (congrArg Addr.block e)), World.cell?_setCell_other _ _ _ _ (by intro e; exact hne (congrArg Addr.block e))]
    exact h1
  unfold put5 at hc1 ⊢
  apply wpS_seq
  apply wpS_region
  simp [wpOpsS, go_sem, recoverD, hu, Tryz.ntmps50, Exit.thenS, hta]
  apply wpS_seq
  apply wpS_region
  simp [wpOpsS, go_sem, Array.replicate, Exit.thenS]
  refine wpS_cond (t := true) (by simp [Act.eval]) ?_; simp only [if_true]
  apply wpS_region
  simp [wpOpsS, go_sem, x0, x1, x2, x3, x4, xz, hc1, z1, bodyPostS, results, Tryz.results50]
theorem dY (p0 p1 : Addr) (w : World) :
    CallsD Tryz.prog 50 #[.pointer (some p0), .pointer (some p1)] .returning w fun e u' w' => e = .returned (.tuple #[]) /\ u' = .returning /\ w' = w := by
  refine callsD_of_wpS Tryz.func50 rfl fun c₀ cs hu => ?_
  have hta := kN
  apply wpS_seq
  apply wpS_region
  simp [wpOpsS, go_sem, recoverD, hu, Tryz.ntmps50, Exit.thenS, hta]
  apply wpS_seq
  apply wpS_region
  simp [wpOpsS, go_sem, Array.replicate, Exit.thenS]
  refine wpS_cond (t := false) (by simp [Act.eval]) ?_; simp only [Bool.false_eq_true, if_false]; refine wpS_of_wp (wp_skip ?_); cases c₀
  simp_all [bodyPostS, results, Tryz.results50]
/-- A fault in memory: in text 0, at a place, with a number. -/
def FaultAt (w : World) (q : Nat) (at' n : Int) : Prop :=
  w.cell? ⟨q, 0, none⟩ = some (.int .i64 0) /\ w.cell? ⟨q, 1, none⟩ = some (.int .i64 at') /\ w.cell? ⟨q, 2, none⟩ = some (.iface 56 (.int .i64 n))
/-- What parse.Parse answers, and what memory it leaves. -/
def ParsePost (t : List UInt8) (w : World) (e : Ending) (w' : World) : Prop :=
  Below w.heap.size w w' /\
  ((4000 < t.length /\ e = .returned (.tuple #[.agg jY, .iface 56 (.int .i64 3)])) \/
   (t.length <= 4000 /\ ∃ n f q, vD t = .error (n, f) /\ e = .returned (.tuple #[.agg jY, .iface 103 (.pointer (some ⟨q, 0, none⟩))]) /\ FaultAt w' q ((t.length - f.length : Nat) : Int) n) \/
   (t.length <= 4000 /\ ∃ l x q, vD t = .ok l /\ vB (um t.length l) 0 = .error x /\ e = .returned (.tuple #[.agg jY, .iface 103 (.pointer (some ⟨q, 0, none⟩))]) /\ FaultAt w' q x.2 x.1) \/
   (t.length <= 4000 /\ ∃ l x j v, vD t = .ok l /\ vB (um t.length l) 0 = .ok (x, j) /\ e = .returned (.tuple #[v, .nilIface]) /\ TR w' w.heap.size w'.heap.size x v))
theorem gS {W : World} {b : Nat} {v0 v1 v2 v3 v4 ev : Value} {tmps : Array Value} (hn : NB W b v0 v1 v2 v3 v4) (he : W.cell? ⟨b + 1, 0, none⟩ = some ev) (t2 : tmps[2]?.getD undef = .pointer (some ⟨b, 0, none⟩)) (t3 : tmps[3]?.getD undef = .pointer (some ⟨b + 1, 0, none⟩)) :
    (results Tryz.f37 tmps).run Tryz.prog W = .ok (.tuple #[.agg #[v0, v1, v2, v3, v4], ev]) W := by
  simp [results, Tryz.results37, t2, t3, go_sem, hn.c0, hn.c1, hn.c2, hn.c3, hn.c4, he]
theorem dP {W : World} {b : Nat} {v0 v1 v2 v3 v4 ev x : Value} (hr : RB W b) (he : W.cell? ⟨b + 1, 0, none⟩ = some x) :
    NB ((((((W.setCell ⟨b, 0, none⟩ v0).setCell ⟨b, 1, none⟩ v1).setCell ⟨b, 2, none⟩ v2).setCell ⟨b, 3, none⟩ v3).setCell ⟨b, 4, none⟩ v4).setCell ⟨b + 1, 0, none⟩ ev) b v0 v1 v2 v3 v4 /\
    ((((((W.setCell ⟨b, 0, none⟩ v0).setCell ⟨b, 1, none⟩ v1).setCell ⟨b, 2, none⟩ v2).setCell ⟨b, 3, none⟩ v3).setCell ⟨b, 4, none⟩ v4).setCell ⟨b + 1, 0, none⟩ ev).cell? ⟨b + 1, 0, none⟩ = some ev := by
  refine ⟨NB.far (RB.five hr) (by omega) _ _, World.cell?_setCell_same _ _ (u := x) _ ?_⟩; rw [World.cell?_setCell_other _ _ _ _ (by simp), World.cell?_setCell_other _ _ _ _ (by simp), World.cell?_setCell_other _ _ _ _ (by simp), World.cell?_setCell_other _ _ _ _ (by simp), World.cell?_setCell_other _ _ _ _ (by simp)]
  exact he
theorem tC {W : World} {b : Nat} {v0 v1 v2 v3 v4 ev : Value} {k : Nat} (h1 : k ≠ b) (h2 : k ≠ b + 1) :
    ((((((W.setCell ⟨b, 0, none⟩ v0).setCell ⟨b, 1, none⟩ v1).setCell ⟨b, 2, none⟩ v2).setCell ⟨b, 3, none⟩ v3).setCell ⟨b, 4, none⟩ v4).setCell ⟨b + 1, 0, none⟩ ev).heap[k]? = W.heap[k]? := by
  rw [Below.heap_setCell _ _ _ _ (by simp; omega), Below.heap_setCell _ _ _ _ (by simp; omega), Below.heap_setCell _ _ _ _ (by simp; omega), Below.heap_setCell _ _ _ _ (by simp; omega), Below.heap_setCell _ _ _ _ (by simp; omega), Below.heap_setCell _ _ _ _ (by simp; omega)]
theorem kC {w W : World} {b : Nat} {v0 v1 v2 v3 v4 ev : Value} (h : Below b w W) :
    Below b w ((((((W.setCell ⟨b, 0, none⟩ v0).setCell ⟨b, 1, none⟩ v1).setCell ⟨b, 2, none⟩ v2).setCell ⟨b, 3, none⟩ v3).setCell ⟨b, 4, none⟩ v4).setCell ⟨b + 1, 0, none⟩ ev) :=
  (((((h.setCell (by simp) _).setCell (by simp) _).setCell (by simp) _).setCell (by simp) _).setCell (by simp) _).setCell (by simp) _
theorem pJ (W : World) (k : Nat) : W.drew.heap[k]? = W.heap[k]? := rfl
theorem rP {w : World} {a : Addr} {v : Value} (h : w.cell? a = some v) (o : Obj) : (w.alloc o).cell? a = some v := zC (World.grownBy_alloc w o none) h (by simp)
theorem pT (s : ByteArray) (w : World) (hs : s.size <= maxLen) (htab : Lib.TabIs Tryz.prog w "strings.asciiSpace" .u8 Lib.asciiSpaceTab)
    (hWh : ∀ c : PC, PartOK c 0 52 (vB c.L)) :
    Calls Tryz.prog 37 #[.string s] w (ParsePost s.data.toList w) := by
  have hmf : ∀ (fn : Fn) (first cap : Array Value) (w : World), (Instr.makeFunc fn first cap).run Tryz.prog w = .ok (.func fn first cap) w := fun _ _ _ _ => rfl
  have HT := ze htab; have HW := ze hWh; have hn := zB s; clear htab hWh
  go_enter_defers Tryz.func37, Tryz.ntmps37
  go_wp2_with fail; go_at_call 49; refine (rr s _ hs).mono ?_; rintro e w1 ⟨hlong, hok, herr, hb1⟩; have hg1 := rF hb1 none; have n1 : NB w1 w.heap.size (.int .i64 0) (.string ⟨#[]⟩) (.int .i64 0) (.int .i64 0) (.slice none 0 0) := NB.kept (by exact NB.alloc (NB.new' (by simp)) _) hg1 (by simp); have r1 : RB w1 w.heap.size := n1.rb; have e1 : w1.cell? ⟨w.heap.size + 1, 0, none⟩ = some .nilIface := zC hg1 (by simp) (by simp); have z1 : w1.frozen? ⟨w.heap.size + 1, 0, none⟩ = false := zV hg1 (by simp) (by simp) (by simp); have hbb : Below w.heap.size w w1 := (((Below.refl _ _).alloc (Nat.le_refl _) _).alloc (by simp) _).trans (hb1.mono (by simp; omega)); have sz1 := hb1.size
  simp at sz1
  have hlow := hb1.size
  rcases (show (4000 < s.size \/ ∃ x, vD s.data.toList = .error x /\ s.size <= 4000) \/ ∃ l, vD s.data.toList = .ok l /\ s.size <= 4000 by
    by_cases hl : 4000 < s.size
    · exact .inl (.inl hl)
    · cases ht : vD s.data.toList with
      | error x => exact .inl (.inr ⟨x, rfl, by omega⟩)
      | ok l => exact .inr ⟨l, rfl, by omega⟩) with hbad | ⟨l, ht, hl⟩
  · obtain ⟨ty, ev, rfl, HQ⟩ : ∃ ty ev, e = .returned (.tuple #[.slice none 0 0, .iface ty ev]) /\ Hid (∀ w', Below w.heap.size w w' -> (∀ k, k ≠ w.heap.size -> k ≠ w.heap.size + 1 -> k < w1.heap.size -> w'.heap[k]? = w1.heap[k]?) -> ParsePost s.data.toList w (.returned (.tuple #[.agg jY, .iface ty ev])) w') := by
      rcases hbad with hl | ⟨⟨n, f⟩, ht, hl⟩
      · exact ⟨_, _, hlong (by omega), fun w' hb _ => ⟨hb, .inl ⟨by omega, rfl⟩⟩⟩
      · obtain ⟨q,he,q0,q1,q2⟩ := herr (by omega) n f ht
        refine ⟨_, _, he, fun w' hb hk => ⟨hb, .inr (.inl ⟨by omega, n, f, q, ht, rfl, ?_⟩)⟩⟩; have hq := zw q0; simp only at hq
        have hq2 : q ≠ w.heap.size := by
          intro e; subst e; have := n1.c1; rw [q1] at this; cases this
        have hq3 : q ≠ w.heap.size + 1 := by
          intro e; subst e; rw [q0] at e1; cases e1
        have hqk := hk q hq2 hq3 hq
        exact ⟨by rw [World.cell?_of_block (w := w1) hqk]; exact q0, by rw [World.cell?_of_block (w := w1) hqk, <- hn] ; rw [<- hn] at q1; exact q1, by rw [World.cell?_of_block (w := w1) hqk]; exact q2⟩
    clear hok herr hlong hbad; obtain ⟨_,_,_,_,_,x0,x1,x2,x3,x4,xz⟩ := id r1; go_wp2
    go_region
    all_goals
      go_wp2
    simp only [bodyPostD, Leaves]; refine ⟨_, gS (b := w.heap.size) (v0 := .int .i64 0) (v1 := .string ⟨#[]⟩) (v2 := .int .i64 0) (v3 := .int .i64 0) (v4 := .slice none 0 0) (ev := .iface ty ev) ?_ ?_ rfl rfl, ?_⟩
    · with_reducible refine NB.drew ?_
      with_reducible exact (dP (RB.put r1 _ _ _) (World.cell?_setCell_same _ _ _ e1)).1
    · refine zC (zh (zc _ none)) ?_ (by simp)
      with_reducible exact (dP (RB.put r1 _ _ _) (World.cell?_setCell_same _ _ _ e1)).2
    · have hbE := kC (v0 := .int .i64 0) (v1 := .string ⟨#[]⟩) (v2 := .int .i64 0) (v3 := .int .i64 0) (v4 := .slice none 0 0) (ev := .iface ty ev) (show Below w.heap.size w (w1.setCell ⟨w.heap.size + 1, 0, none⟩ (.iface ty ev)) from hbb.setCell (by simp) _)
      refine HQ.out _ (hbE.grown (zh (zc _ none)) hbE.size (fun k hk => by cases hk)) (fun k h1 h2 h3 => ?_); rw [pJ, tC h1 h2, Below.heap_setCell _ _ _ _ (by simp; omega)]
  · have hne := (gl _ _ _ (Nat.lt_succ_self _) ht).1
    have hGL : GoodL (um s.size l) := by rw [hn]; exact lz ht (by omega)
    obtain ⟨v,rfl,hown⟩ := hok (by omega) l ht; clear hlong herr; obtain ⟨gg,cap,rfl⟩ := pB hown hne; have hgl := hown.lt gg (by simp [Value.ownBlock])
    simp at hgl
    have ho2 := hown.kept (zR (zc w1 (some (w.heap.size + 1))) 0 .nilIface) (.inr (by simp [Value.ownBlock]; omega)); have hb2 : Below w.heap.size w (w1.setCell ⟨w.heap.size + 1, 0, none⟩ .nilIface) := hbb.setCell (by simp) _; have HT2 := ze (ui HT.out hb2); have r2 : RB (w1.setCell ⟨w.heap.size + 1, 0, none⟩ .nilIface) w.heap.size := RB.put r1 _ _ _; have e2 : (w1.setCell ⟨w.heap.size + 1, 0, none⟩ .nilIface).cell? ⟨w.heap.size + 1, 0, none⟩ = some .nilIface := World.cell?_setCell_same _ _ _ e1
    have z2 : (w1.setCell ⟨w.heap.size + 1, 0, none⟩ .nilIface).frozen? ⟨w.heap.size + 1, 0, none⟩ = false := by rw [World.frozen?_setCell]; exact z1
    clear hok hown; obtain ⟨_,_,_,_,_,x0,x1,x2,x3,x4,xz⟩ := id r1; go_wp2_with fail; go_at_call 51; refine (sa _ HT2.out).mono ?_; rintro e w3 ⟨rfl, hlx, hb3⟩; have hg3 := rF hb3 none; have r3 : RB w3 w.heap.size := r2.kept hg3 (by simp); have e3 := zC hg3 e2 (by simp); have z3 : w3.frozen? ⟨w.heap.size + 1, 0, none⟩ = false := zV hg3 (by simp; omega) z2 (by simp); have ho3 := ho2.kept hg3 (.inr (by simp [Value.ownBlock])); have hbb3 : Below w.heap.size w w3 := hb2.trans (hb3.mono (by simp; omega)); have sz3 := hb3.size; have hlt := World.ownsMap.lt hlx
    simp at sz3 hlt
    clear x0 x1 x2 x3 x4 xz r1 e1 z1; obtain ⟨_,_,_,_,_,x0,x1,x2,x3,x4,xz⟩ := id r3; obtain ⟨c, hc⟩ : ∃ c : PC, c = ⟨w3.heap.size, gg, cap, w1.heap.size + 1, um s.size l⟩ := ⟨_, rfl⟩
    have hps : PS c (w3.alloc (.cells #[.slice (some ⟨gg, 0, none⟩) l.length cap, .int .i64 0, .int .i64 0, .map (some (w1.heap.size + 1))] 126)) 0 0 := by
      subst hc; have ho4 := ho3.alloc (.cells #[.slice (some ⟨gg, 0, none⟩) l.length cap, .int .i64 0, .int .i64 0, .map (some (w1.heap.size + 1))] 126); refine ⟨?_, ?_, ?_, ?_, ?_, ?_, ?_, ?_, ?_, ?_, ?_, hGL, by omega⟩
      · rw [World.cell?_alloc_at _ _ _ _ rfl, ud]; rfl
      · rw [World.cell?_alloc_at _ _ _ _ rfl]; rfl
      · rw [World.cell?_alloc_at _ _ _ _ rfl]; rfl
      · rw [World.cell?_alloc_at _ _ _ _ rfl]; rfl
      · exact World.frozen?_alloc_at _ _ _ _ rfl
      · exact World.frozen?_alloc_at _ _ _ _ rfl
      · intro j hj
        rw [ud] at hj; have hf := sO (n := s.data.toList.length) (l := l) hj; rw [dL _ _ _ hj, nd _ _ _ hj]; refine ⟨(ho4.cellAt (j * 2) (by omega)).trans hf.1, (ho4.cellAt (j * 2 + 1) (by omega)).trans (by rw [hn]; exact hf.2)⟩
      · have hx : IsLex w3 (w1.heap.size + 1) := by simpa [IsLex] using hlx
        exact hx.below ((Below.refl _ _).alloc (Nat.le_refl _) _)
      · show gg ≠ w3.heap.size
        omega
      · show w1.heap.size + 1 ≠ w3.heap.size
        omega
      · show 0 < _
        rw [ud]
        omega
    have hcb : c.pb = w3.heap.size := by rw [hc]
    have hcL : c.L = um s.size l := by rw [hc]
    go_wp2_with fail; go_at_call 52; rw [<- hcb]; refine (HW.out c _ 0 hps).mono ?_; rw [hcb]; rintro e w5 (⟨x, hr, ht5, hg5⟩ | ⟨a, j, v, hr, rfl, htr, hg5, p5, hi5⟩)
    · rw [hcb] at hg5
      have sz5 := hg5.size
      simp at sz5
      have r5 : RB w5 w.heap.size := (r3.alloc _).kept hg5 (by simp; omega); have e5 := zC hg5 (rP e3 _) (by simp; omega); have z5 : w5.frozen? ⟨w.heap.size + 1, 0, none⟩ = false := zV hg5 (by simp; omega) (by rw [World.frozen?_alloc_old _ _ _ (by simp; omega)]; exact z3) (by simp; omega); have hb5 : Below w.heap.size w w5 := (hbb3.alloc (by omega) _).grown hg5 (by simp; omega) (fun k hk => by cases hk; omega); obtain ⟨q,rfl,hq,q0,q1,q2⟩ := ht5
      simp at hq
      show Leaves _ _ _ _ _ _ _
      refine leaves_cons (f := 50) (args := #[.pointer (some ⟨w.heap.size, 0, none⟩), .pointer (some ⟨w.heap.size + 1, 0, none⟩)]) (by simp) (by simp [go_sem]) ?_; refine (kI w.heap.size ⟨w.heap.size + 1, 0, none⟩ ⟨q, 0, none⟩ _ [] _ (by simp) r5 e5 z5).mono ?_; rintro e u' w6 ⟨rfl, rfl, hw6⟩
      show ∃ v, _ /\ _
      unfold put5 at hw6
      have hN := dP (v0 := .int .i64 0) (v1 := .string ⟨#[]⟩) (v2 := .int .i64 0) (v3 := .int .i64 0) (v4 := .slice none 0 0) (ev := .iface 103 (.pointer (some ⟨q, 0, none⟩))) r5 e5; have hB := kC (v0 := .int .i64 0) (v1 := .string ⟨#[]⟩) (v2 := .int .i64 0) (v3 := .int .i64 0) (v4 := .slice none 0 0) (ev := .iface 103 (.pointer (some ⟨q, 0, none⟩))) hb5; have hqk := tC (W := w5) (b := w.heap.size) (k := q) (v0 := .int .i64 0) (v1 := .string ⟨#[]⟩) (v2 := .int .i64 0) (v3 := .int .i64 0) (v4 := .slice none 0 0) (ev := .iface 103 (.pointer (some ⟨q, 0, none⟩))) (by omega) (by omega); rw [<- hw6] at hN hB hqk; clear hw6; refine ⟨_, gS (b := w.heap.size) hN.1 hN.2 rfl rfl, hB, .inr (.inr (.inl ⟨by omega, l, x, q, ht, by rw [<- hn, <- hcL]; exact hr, rfl, ?_⟩))⟩
      exact ⟨by rw [World.cell?_of_block (w := w5) hqk]; exact q0, by rw [World.cell?_of_block (w := w5) hqk]; exact q1, by rw [World.cell?_of_block (w := w5) hqk]; exact q2⟩
    · rw [hcb] at hg5
      have sz5 := hg5.size
      simp at sz5
      have r5 : RB w5 w.heap.size := (r3.alloc _).kept hg5 (by simp; omega); have e5 := zC hg5 (rP e3 _) (by simp; omega); have z5 : w5.frozen? ⟨w.heap.size + 1, 0, none⟩ = false := zV hg5 (by simp; omega) (by rw [World.frozen?_alloc_old _ _ _ (by simp; omega)]; exact z3) (by simp; omega); have hb5 : Below w.heap.size w w5 := (hbb3.alloc (by omega) _).grown hg5 (by simp; omega) (fun k hk => by cases hk; omega); obtain ⟨_,rfl,hlr⟩ := htr; obtain ⟨ad,cp,rfl⟩ := hlr.form; clear x0 x1 x2 x3 x4 xz; obtain ⟨_,_,_,_,_,x0,x1,x2,x3,x4,xz⟩ := id r5; go_wp2; refine leaves_cons (f := 50) (args := #[.pointer (some ⟨w.heap.size, 0, none⟩), .pointer (some ⟨w.heap.size + 1, 0, none⟩)]) (by simp) (by simp [go_sem]) ?_; refine (dY _ _ _).mono ?_; rintro e u' w6 ⟨rfl, rfl, hw6⟩; simp only [Leaves, settle]; have hN := dP (v0 := .int .i64 a.kind) (v1 := .string ⟨a.name.toArray⟩) (v2 := .int .i64 a.num) (v3 := .int .i64 a.at') (v4 := .slice ad a.subs.length cp) (ev := .nilIface) r5 e5; have hB := kC (v0 := .int .i64 a.kind) (v1 := .string ⟨a.name.toArray⟩) (v2 := .int .i64 a.num) (v3 := .int .i64 a.at') (v4 := .slice ad a.subs.length cp) (ev := .nilIface) hb5
      have hL : LR w6 (In (w3.heap.size + 1) w5.heap.size) a.subs (.slice ad a.subs.length cp) := by
        rw [hw6]
        have h9 : LR w5 (In (w3.heap.size + 1) w5.heap.size) a.subs (.slice ad a.subs.length cp) := by simpa using hlr
        exact LR.put (LR.p5 h9 (by omega)) (by omega) _ _
      have hZ : w6.heap.size = w5.heap.size := by rw [hw6]; simp [World.setCell]
      rw [<- hw6] at hN hB; clear hw6; refine ⟨_, gS (b := w.heap.size) hN.1 hN.2 rfl rfl, hB, .inr (.inr (.inr ⟨by omega, l, a, j, _, ht, by rw [<- hn, <- hcL]; exact hr, rfl, _, rfl, hL.wide (by omega) (by omega)⟩))⟩
set_option maxHeartbeats 4000000
section
variable {ρ : Lay} {w w' w1 : World} {S : KS} {b : Nat} {c : KSc}
theorem uX {fn : Func} {t t' : Array Value} {R : Ending -> World -> Prop} (h : results fn t = results fn t') : ∀ (ds : List Deferred) (u : FrameMode) (w : World),Leaves Tryz.prog fn t R ds u w -> Leaves Tryz.prog fn t' R ds u w
 | [],u,w,h9 => by
  cases u with
  | run => exact h9
  | returning =>
   simp only [Leaves] at h9 ⊢; rw [<- h]
   exact h9
  | panicking c => exact h9
 | d :: ds,u,w,h9 => by
  simp only [Leaves] at h9 ⊢; obtain ⟨h1,fv,cap,f,args,h2,h3,h4⟩ := h9; refine ⟨h1,fv,cap,f,args,h2,h3,h4.mono ?_⟩; intro e u' w' h5; cases e with
  | returned v => exact uX h ds _ _ h5
  | panicked c => exact uX h ds _ _ h5
  | outgrown => exact h5
theorem ja {R : Ending -> World -> Prop} {c : List PanicEntry} {a : Act} {v : Value} {d : Nat} (h4 : d ≠ 4) (h5 : d ≠ 5) (h : bodyPostD Tryz.prog Tryz.f26 R (.panic c) (a.put (some d) v) w) : bodyPostD Tryz.prog Tryz.f26 R (.panic c) a w := by
 unfold bodyPostD at h ⊢
 simp only [Act.put] at h; refine uX ?_ _ _ _ h
 simp [results,Tryz.results26,Array.getElem?_setIfInBounds,h4,h5]
theorem oM {W : World} {b : Nat} {v ev : Value} {tmps : Array Value} (he : W.cell? ⟨b,0,none⟩ = some ev) (t4 : tmps[4]?.getD undef = v) (t5 : tmps[5]?.getD undef = .pointer (some ⟨b,0,none⟩)) :
  (results Tryz.f26 tmps).run Tryz.prog W = .ok (.tuple #[v,ev]) W := by
 simp [results,Tryz.results26,t4,t5,go_sem,he]
theorem pX {S' : KS} (h : KM ρ w S) (hk : S.okB = true) (s : ByteArray) {l : List (List UInt8 × List UInt8)} {n : T} {j : Nat} (hs : s.size <= 4000) (ht : vD s.data.toList = .ok l) (hw : vB (um s.data.toList.length l) 0 = .ok (n,j)) (hfit : ∀ t ∈ n.subs,∃ f,fz f t = true) (hfn : Fits n) (hC : S.wholeD n = some S') (_hml : S.mods.length <= 1000) (hmls : ∀ S1,(S.addMd { md0 with name := n.name }).bodyD S.mds.length n = some S1 -> S1.mods.length <= 1000)
  (htab : Lib.TabIs Tryz.prog w "strings.asciiSpace" .u8 Lib.asciiSpaceTab) :
  Calls Tryz.prog 26 #[.pointer (some ⟨ρ.wd,0,none⟩),.string s] w (fun e w' => ∃ ρ',e = .returned (.tuple #[.pointer (some ⟨ρ'.md S.mds.length,0,none⟩),.nilIface]) /\ Stp False ρ w S ρ' w' S') := by
 have f4 : ∀ (fn : Fn) (first cap : Array Value) (w : World),(Instr.makeFunc fn first cap).run Tryz.prog w = .ok (.func fn first cap) w := fun _ _ _ _ => rfl
 have HM := ze h; have HB := ze hk; obtain ⟨a3,Q,S1,Y,a4,R⟩ := fS hC; have c0 := ze a3; have U := ze Q; have c2 := ze Y; have a5 := ze a4; have V := ze R; have a6 := ze (hmls S1 Y); have c3 := ze hfit; have a7 := ze hfn; have c4 := zB s
 have c5 : Hid (∀ w1,w.grownBy w1 none -> Calls Tryz.prog 37 #[.string s] w1 fun e m => w1.grownBy m none /\ ∃ J K,e = .returned (.tuple #[zn n (.slice J n.subs.length K),.nilIface]) /\ LR m (In w1.heap.size m.heap.size) n.subs (.slice J n.subs.length K)) := fun w1 G => by
  have hB : Below w.heap.size w w1 := ⟨G.os,G.tape,G.output,G.size,fun i hi => G.block i hi (by simp)⟩; refine (pT s w1 (by unfold maxLen; omega) (ui htab hB) mc).mono ?_; rintro e m ⟨c6,⟨L,-⟩ | ⟨-,a,f,q,L,-⟩ | ⟨-,l',x,q,L,h2,-⟩ | ⟨-,l',x,j',v,L,h2,rfl,c7⟩⟩
  ·omega
  ·rw [ht] at L; cases L
  ·rw [ht] at L
   cases L; rw [hw] at h2; cases h2
  ·rw [ht] at L
   cases L; rw [hw] at h2; cases h2; obtain ⟨_,rfl,B⟩ := c7; obtain ⟨J,K,rfl⟩ := B.form
   exact ⟨rF c6 none,J,K,rfl,B⟩
 clear h hk hs ht hw hfit hfn hC a3 Q Y a4 R hmls htab c4
 go_enter_defers Tryz.func26,Tryz.ntmps26
 go_wp2_with fail; obtain ⟨w1,C⟩ : ∃ z,z = w.alloc (.cells #[.nilIface] 27) := ⟨_,rfl⟩; rw [<- C]
 have G1 : Hid (w.grownBy w1 none) := by rw [C]; exact zf (zc w none) _
 have c8 : Hid (Bk w1 w.heap.size [.nilIface]) := by rw [C]; exact Bk.new w _ _ rfl
 have f5 : w.heap.size < w1.heap.size := by rw [C]; simp
 clear C; go_at_call 37; refine (c5.out _ G1.out).mono ?_; rintro e m ⟨M,J,K,rfl,B⟩; have G2 := ze M; have c9 := ze B; have Z := ze (c8.out.kept M (by simp)); have f6 := M.size; have e0 := Z.out.c 0 _ rfl; have ez := Z.out.z
 have f7 : w.heap.size < m.heap.size := by omega
 clear M B; go_wp2_with fail; obtain ⟨w3,r⟩ : ∃ z,z = (m.setCell ⟨w.heap.size,0,none⟩ .nilIface).alloc (.cells #[.int .i64 n.kind,.string ⟨n.name.toArray⟩,.int .i64 n.num,.int .i64 n.at',.slice J n.subs.length K] 100) := ⟨_,rfl⟩; rw [<- r]
 have S3 : Hid (Sm m w3 (fun g => g ≠ w.heap.size)) := by rw [r]; exact ((Sm.refl m _).put (fun k => k rfl) _ _).trans (Sm.of_none (zf (zc _ none) _) _)
 have G3 : Hid (w.grownBy w3 none) := (((Sm.of_none (za G1.out G2.out) (fun _ => True)).comp S3.out (fun g hg _ => by omega))).gb
 have d0 : Hid (Box w3 m.heap.size n (.slice J n.subs.length K)) := by
  have k := Box.new (m.setCell ⟨w.heap.size,0,none⟩ .nilIface) n (.slice J n.subs.length K) 100; rw [show (m.setCell ⟨w.heap.size,0,none⟩ .nilIface).heap.size = m.heap.size by simp [World.setCell]] at k; rw [r]
  exact k
 have d1 : Hid (Bk w3 w.heap.size [.nilIface]) := by rw [r]; exact (Z.out.set 0 _).kept (zf (zc _ none) _) (by simp)
 have f8 : m.heap.size < w3.heap.size := by rw [r]; simp [World.setCell]
 clear r e0 ez; obtain ⟨ρt,u⟩ : ∃ z,z = ρ.paint (fun g => if w1.heap.size <= g /\ g < m.heap.size then some .tr else none) := ⟨_,rfl⟩
 have a8 : Hid (Stp True ρ w S ρt w3 S) := by
  rw [u]
  exact ((Stp.refl HM.out HB.out).behind G3.out).paint (fun g hg => if_neg (by omega)) (fun g hg => if_neg (by omega))
 have a9 : ρt.wd = ρ.wd := by rw [u]; rfl
 have d2 : Hid (AF ρt.tr w3 n.subs (.slice J n.subs.length K)) := by
  refine ((oD c9.out c3.out).sm S3.out (fun g hg => ?_)).weak (fun g hg => ?_)
  ·have k : w1.heap.size <= g := hg.1
   omega
  ·have k : w1.heap.size <= g /\ g < m.heap.size := hg
   show ρt.col g = _
   rw [u,xJ (HM.out.fr g (by omega)),if_pos k]
 have d3 : ρt.col w.heap.size = none := by rw [u,xJ (HM.out.fr _ (Nat.le_refl _)),if_neg (by omega)]
 have d4 : ρt.col m.heap.size = none := by rw [u,xJ (HM.out.fr _ (by omega)),if_neg (by omega)]
 clear u; have b0 := ze (qh a8.out.km HB.out n.name U.out); rw [a9] at b0; go_at_call 39; refine b0.out.mono ?_; rintro e w4 ⟨ρ4,b,rfl,N,f9,D,b1⟩; have b2 := ze D; have d5 := ze b1; have d6 := ze (d2.out.step D); have b3 := ze (d0.out.kept N); have d7 := ze (d1.out.kept N (by simp)); have X : ρ4.col w.heap.size = none := (D.col _ (by omega)).trans d3; have b4 : ρ4.col m.heap.size = none := (D.col _ (by omega)).trans d4; obtain ⟨q0,q1,q2,q3,q4⟩ := b3.out; have g0 := N.size; clear D b1 N; go_wp2_with fail; have d8 := ze (sQ d5.out n (.slice J n.subs.length K) a7.out U.out d6.out c0.out c2.out); go_at_call 40; refine d8.out.mono ?_; rintro e E ⟨rfl,ρ5,A,F⟩; have b5 := ze A; have a0 := ze F; have d9 := ze (Box.step b3.out b4 A); have f0 := ze (d7.out.sm A.sm (.inl X)); have b6 : ρ5.wd = ρ.wd := A.agr.wd.trans (b2.out.agr.wd.trans a9)
 have m4 : Hid (E.cell? ⟨ρ.wd,4,none⟩ = some (.map (some ρ5.mo))) := by rw [<- b6]; exact F.ck.km.wd.c 4 _ rfl
 have c1 : Hid (E.cell? ⟨b,1,none⟩ = some (.pointer (some ⟨ρ5.md S.mds.length,0,none⟩))) := F.ck.s1; have H : ρ5.col w.heap.size = none := (A.col _ (by omega)).trans X; obtain ⟨w6,b7,b8,b9⟩ := MapAt.put (w := E.drew) (F.ck.km.mo.kept (zh (zc E none)) (by simp)) Tryz.underlying96 n.name a7.out.name (ρ5.md S.mds.length) (by simp [Lay.mds,maxLen]; have := a6.out; omega); have f1 : Hid ((Instr.mapUpdate 96 (.map (some ρ5.mo)) (.string ⟨n.name.toArray⟩) (.pointer (some ⟨ρ5.md S.mds.length,0,none⟩))).run Tryz.prog E.drew = .ok () w6) := b7; have f2 := ze b8; have O : Hid (Sm E w6 (fun g => g ≠ ρ5.mo)) := (Sm.of_none (zh (zc E none)) _).trans ((Sm.grown b9).mono (fun g _ k e => k (Option.some.inj e))); clear A F b7 b8 b9 q0 q1 q2 q3 q4; go_wp2_with fail; refine yn [11] (S := fun w9 => E.grownBy w9 none) (by kernel_rfl) ?_ (fun hHeld => ?_)
 ·exact zh (zc E none)
 refine zk 0 (some 24) (.pointer (some ⟨ρ.wd,0,none⟩)) rfl rfl (fun w9 _ => by go_simp) hHeld ?_ (hQ := fun _ _ _ h => ja (d := 24) (by decide) (by decide) h); simp only [qA,qB,qC,qD]; refine zk 1 (some 25) (.pointer (some ⟨ρ.wd,0,none⟩)) rfl rfl (fun w9 _ => by go_simp) hHeld ?_ (hQ := fun _ _ _ h => ja (d := 25) (by decide) (by decide) h); simp only [qA,qB,qC,qD]; refine zk 2 (some 26) (.pointer (some ⟨ρ.wd,4,none⟩)) rfl rfl (fun w9 _ => by go_simp) hHeld ?_ (hQ := fun _ _ _ h => ja (d := 26) (by decide) (by decide) h); simp only [qA,qB,qC,qD]; refine zk 3 (some 27) (.map (some ρ5.mo)) rfl rfl (fun w9 hS => by have q1 := zi hS m4.out; go_simp) hHeld ?_ (hQ := fun _ _ _ h => ja (d := 27) (by decide) (by decide) h); simp only [qA,qB,qC,qD]; refine zk 4 (some 28) (.pointer (some ⟨m.heap.size,1,none⟩)) rfl rfl (fun w9 _ => by go_simp) hHeld ?_ (hQ := fun _ _ _ h => ja (d := 28) (by decide) (by decide) h); simp only [qA,qB,qC,qD]; refine zk 5 (some 29) (.string ⟨n.name.toArray⟩) rfl rfl (fun w9 hS => by obtain ⟨q0,q1,q2,q3,q4⟩ := Box.kept d9.out hS; go_simp) hHeld ?_ (hQ := fun _ _ _ h => ja (d := 29) (by decide) (by decide) h); simp only [qA,qB,qC,qD]; refine zk 6 (some 30) (.pointer (some ⟨b,0,none⟩)) rfl rfl (fun w9 _ => by go_simp) hHeld ?_ (hQ := fun _ _ _ h => ja (d := 30) (by decide) (by decide) h); simp only [qA,qB,qC,qD]; refine zk 7 (some 31) (.pointer (some ⟨b,0,none⟩)) rfl rfl (fun w9 _ => by go_simp) hHeld ?_ (hQ := fun _ _ _ h => ja (d := 31) (by decide) (by decide) h); simp only [qA,qB,qC,qD]; refine zk 8 (some 32) (.pointer (some ⟨b,0,none⟩)) rfl rfl (fun w9 _ => by go_simp) hHeld ?_ (hQ := fun _ _ _ h => ja (d := 32) (by decide) (by decide) h); simp only [qA,qB,qC,qD]; refine zk 9 (some 33) (.pointer (some ⟨b,1,none⟩)) rfl rfl (fun w9 _ => by go_simp) hHeld ?_ (hQ := fun _ _ _ h => ja (d := 33) (by decide) (by decide) h); simp only [qA,qB,qC,qD]; refine zk 10 (some 34) (.pointer (some ⟨ρ5.md S.mds.length,0,none⟩)) rfl rfl (fun w9 hS => by have q1 := zi hS c1.out; go_simp) hHeld ?_ (hQ := fun _ _ _ h => ja (d := 34) (by decide) (by decide) h); simp only [qA,qB,qC,qD]; have q1 := f1.out; refine zl 11 (by kernel_rfl) rfl rfl (fun KK hKK => ?_)
 go_simp
 refine hKK.out _ _ ?_; clear hKK KK q1; refine zd (by kernel_rfl) ?_ _; clear hHeld
 have K6 : Hid (KM ρ5 w6 S') := by
  show KM ρ5 w6 S'
  rw [show S' = _ from a5.out]
  exact a0.out.ck.km.setMods (KS.okIn b5.out.ok) O.out f2.out
 have I := a0.out.ck.km.moc; have a1 := ze (f0.out.sm O.out (fun e => by rw [e,I] at H; cases H))
 have f3 : b ≠ ρ5.mo := fun e => by have k := a0.out.col; rw [e,I] at k; cases k
 have g1 : w6.cell? ⟨b,1,none⟩ = some (.pointer (some ⟨ρ5.md S.mds.length,0,none⟩)) := O.out.cell c1.out f3; have e6 := a1.out.c 0 _ rfl; have ez := a1.out.z
 have g2 : ¬ b = w.heap.size := by omega
 go_wp2; refine leaves_cons (f := 38) (args := #[.pointer (some ⟨w.heap.size,0,none⟩)]) (by simp) (by simp [go_sem]) ?_; refine (tK _ _).mono ?_; rintro e u' w7 ⟨rfl,rfl,a2⟩; simp only [Leaves,settle]
 have S7 : Sm w6 w7 (fun g => g ≠ w.heap.size) := by rw [a2]; exact (Sm.refl w6 _).put (fun k => k rfl) _ _
 have e7 : w7.cell? ⟨w.heap.size,0,none⟩ = some .nilIface := by rw [a2]; exact (a1.out.set 0 _).c 0 _ rfl
 clear a2; have o : Stp False ρ w S ρ5 E S1 := ((a8.out.less).trans b2.out.less).trans b5.out; have K7 : KM ρ5 w7 S' := K6.out.sm (KS.okIn V.out) S7 (fun g lb hg e => by rw [e,H] at hg; cases hg); have SA : Sm E w7 (fun g => g ≠ ρ5.mo /\ g ≠ w.heap.size) := (O.out.mono (fun g _ k => k.1)).trans (S7.mono (fun g _ k => k.2)); have eS : S' = { S1 with mods := (n.name,S.mds.length) :: S1.mods } := a5.out; refine ⟨_,oM e7 rfl rfl,ρ5,rfl,⟨K7,V.out,o.agr,o.col,o.sm.comp SA (fun g hg hp => ⟨fun e => ?_,by omega⟩),?_,?_,?_,?_⟩⟩
 ·have k := o.col g hg
  rw [e,I] at k
  rcases hp with h8 | h8 | ⟨-,h8⟩
  ·rw [e,<- k] at h8; cases h8
  ·rw [e,<- k] at h8; cases h8
  ·exact h8
 ·rw [eS]; exact o.tys
 ·rw [eS]; exact o.ths
 ·rw [eS]; exact o.prs
 ·rw [eS]; exact o.mds
end
structure Right (s : ByteArray) (S' : KS) : Prop where
 len : s.size <= 4000
 say : ∃ l n j,vD s.data.toList = .ok l /\ vB (um s.data.toList.length l) 0 = .ok (n,j) /\ (∀ t ∈ n.subs,∃ f,fz f t = true) /\ Fits n /\ ks0.wholeD n = some S' /\ ∀ S1,(ks0.addMd { md0 with name := n.name }).bodyD ks0.mds.length n = some S1 -> S1.mods.length <= 1000
section
variable {w w' : World}
theorem dw {s : ByteArray} {S' : KS} (hr : Right s S') {g o c : Nat} (hc : w.cell? ⟨g,o,none⟩ = some (.string s)) (_h1 : 1 <= c) (_h2 : c <= maxLen) (htab : Lib.TabIs Tryz.prog w "strings.asciiSpace" .u8 Lib.asciiSpaceTab) :
  Calls Tryz.prog 16 #[.slice (some ⟨g,o,none⟩) 1 c] w (fun e w' => w.grownBy w' none /\ ∃ ρ g2 c2,e = .returned (.tuple #[.slice (some ⟨g2,0,none⟩) 1 c2,.nilIface]) /\ 1 <= c2 /\ c2 <= maxLen /\ w'.cell? ⟨g2,0,none⟩ = some (.pointer (some ⟨ρ.md 0,0,none⟩)) /\ KM ρ w' S' /\ S'.okB = true) := by
 obtain ⟨d,_,_,_,L,M,t,u,N,f⟩ := hr; have O := ze hc; have Q : g < w.heap.size := zw hc
 have v : Hid (∀ (ρ : Lay) (m : World),KM ρ m ks0 -> w.grownBy m none -> Calls Tryz.prog 26 #[.pointer (some ⟨ρ.wd,0,none⟩),.string s] m (fun e w' => ∃ ρ',e = .returned (.tuple #[.pointer (some ⟨ρ'.md 0,0,none⟩),.nilIface]) /\ Stp False ρ m ks0 ρ' w' S')) := fun ρ m hk G =>
  pX hk mY s d L M t u N (by decide) f (ui htab ⟨G.os,G.tape,G.output,G.size,fun i hi => G.block i hi (by simp)⟩)
 clear hc d L M t u N f htab
 go_enter Tryz.func16,Tryz.ntmps16
 go_wp2_with fail; go_at_call 25; refine (gY).mono ?_; rintro e m ⟨ρ,rfl,km,h,x⟩; have F := ze km; have H := ze h; have I := ze x; clear km h x; go_wp2_with fail
 go_loopw [17,5] (fun iv hw5 wr => (iv = .int .i64 0 /\ hw5 = .slice none 0 0 /\ wr = m) \/ (∃ (ρr : Lay) (g2 c2 : Nat),iv = .int .i64 1 /\ hw5 = .slice (some ⟨g2,0,none⟩) 1 c2 /\ Hid (1 <= c2 /\ c2 <= maxLen) /\ Hid (wr.cell? ⟨g2,0,none⟩ = some (.pointer (some ⟨ρr.md 0,0,none⟩))) /\ Hid (KM ρr wr S') /\ Hid (S'.okB = true) /\ Hid (w.grownBy wr none))) (fun iv _ _ => 1 - (intOf iv).toNat)
 case atStart => exact .inl ⟨rfl,rfl,rfl⟩
 case round =>
  rcases hrel with ⟨rfl,rfl,rfl⟩ | ⟨ρr,g2,c2,rfl,rfl,z,R,U,V,X⟩
  ·have Y := zi I.out O.out
   go_wp2_with fail; go_at_call 26; refine (v.out ρ _ F.out I.out).mono ?_; rintro e n ⟨ρ2,rfl,A⟩; have q := ze A; clear A Y; have Z : Hid ((n.alloc (.cells #[.pointer (some ⟨ρ2.md 0,0,none⟩)] 51)).cell? ⟨n.heap.size,0,none⟩ = some (.pointer (some ⟨ρ2.md 0,0,none⟩))) := Bk.c (vs := [.pointer (some ⟨ρ2.md 0,0,none⟩)]) (Bk.new n _ _ rfl) 0 _ rfl; have R4 : Hid ((n.alloc (.cells #[.pointer (some ⟨ρ2.md 0,0,none⟩)] 51)).ownsRow 0 51 1 (.slice none 0 0) 0 []) := World.ownsRow_nil _ _ _ _
   go_wp2_with (at_builtin; refine rH 44 51 Tryz.underlying44 Tryz.infoModuleP rfl _ _ rfl rfl rfl R4.out Z.out (by omega) ?_; intro v4 w4 j B C)
   obtain ⟨_,J,rfl,k,l,D⟩ := tG j; obtain ⟨g4,rfl,b⟩ := D 0 _ rfl; have r := ze b; have G4 := ze B; have K : Hid (1 <= J /\ J <= maxLen) := ⟨k,l⟩; clear j B C D b k l
   go_roundw
   case rel =>
    have E : n.grownBy w4 none := za (zf (zc n none) _) G4.out; refine .inr ⟨ρ2,g4,J,rfl,rfl,K,r,q.out.km.up E,q.out.ok,?_⟩; have h9 : Sm w n (fun _ => True) := (Sm.of_none I.out _).comp q.out.sm (fun g hg _ => .inl (H.out g hg))
    exact za h9.gb E
   case measure => simp [intOf]
  ·go_wp2
   go_ret2
   exact ⟨X.out,ρr,g2,c2,rfl,z.out.1,z.out.2,R.out,U.out,V.out⟩
theorem fh {s : ByteArray} {S' : KS} (hr : Right s S') {g o c : Nat} (hc : w.cell? ⟨g,o,none⟩ = some (.string s)) (h1 : 1 <= c) (h2 : c <= maxLen) (htab : Lib.TabIs Tryz.prog w "strings.asciiSpace" .u8 Lib.asciiSpaceTab) :
  Calls Tryz.prog 20 #[.slice (some ⟨g,o,none⟩) 1 c,.int .i64 0] w (fun e w' => w.grownBy w' none /\ ∃ ρ,e = .returned (.tuple #[.pointer (some ⟨ρ.md 0,0,none⟩),.nilIface]) /\ KM ρ w' S' /\ S'.okB = true) := by
 have i := ze (dw hr hc h1 h2 htab); clear hr hc htab
 go_enter Tryz.func20,Tryz.ntmps20
 go_wp2_with fail; go_at_call 16; refine i.out.mono ?_; rintro e q ⟨b,ρ,r,t,rfl,j,k,d,f,h⟩; have l := ze b; have m := ze f; have n := ze h; clear b f h; go_wp2
 go_ret2
 exact ⟨l.out,ρ,rfl,m.out,n.out⟩
end
end Go.Proofs.YtnmkffjklpfflaaGreatDoor
