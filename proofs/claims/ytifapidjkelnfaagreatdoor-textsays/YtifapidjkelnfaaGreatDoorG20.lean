/- The program's judge of shapes: loops and records,whose rules are made while they are handed on. -/
import Derived.Test.YtifapidjkelnfaaGreatDoorG02
import Derived.Deep.RegionHeld
namespace Go.Proofs.YtifapidjkelnfaaGreatDoor
open Go.RowKit Go.Maps Go.WideMaps Go.WideElems
set_option maxHeartbeats 2000000
set_option maxRecDepth 1000000
theorem Box.all5 {w : World} {b : Nat} {k : Int} {x : Bs} {m p : Int} {ts : List T} {sv : Value} (h : Box w b (.mk k x m p ts) sv) : w.cell? ⟨b,0,none⟩ = some (.int .i64 k) /\ w.cell? ⟨b,1,none⟩ = some (.string ⟨x.toArray⟩) /\ w.cell? ⟨b,2,none⟩ = some (.int .i64 m) /\ w.cell? ⟨b,3,none⟩ = some (.int .i64 p) /\ w.cell? ⟨b,4,none⟩ = some sv :=
 ⟨h.c0,h.c1,h.c2,h.c3,h.c4⟩
theorem Box.past {w w' : World} {b jb : Nat} {v : Value} {t : T} {sv : Value} {x : Bool} {A B : Prop} {C : Value -> Prop} (h : Box w b t sv) (hs : free jb v b) (h9 : (x = false /\ A /\ w.grownBy w' none) \/ (x = true /\ B /\ ∃ v',C v' /\ JK jb v w w' v')) : Box w' b t sv := by
 rcases h9 with ⟨_,_,d⟩ | ⟨_,_,v',_,a⟩
 ·exact h.kept d
 ·exact ⟨a.kb.cell h.c0 hs,a.kb.cell h.c1 hs,a.kb.cell h.c2 hs,a.kb.cell h.c3 hs,a.kb.cell h.c4 hs⟩
theorem uN (w0 : World) (jb lb ob : Nat) (w : World) (l : List (T × Rule)) (v : Value) (t : T) (sv : Value) (rs : List Rule) (sl : Value) (h : JS w0 jb lb ob w l v) (hlen : l.length + t.subs.length <= 20000) (hrs : rs.length <= 100) (ha : AT w0 t.subs sv) (hr : RL w jb v rs sl) :
  Calls Tryz.prog 106 #[ptr jb,zq t sv,sl] w fun e w' => ∃ b : Bool,e = .returned (.bool b) /\ ((b = false /\ t.subs.length ≠ rs.length /\ w.grownBy w' none) \/ (b = true /\ t.subs.length = rs.length /\ ∃ v',JS w0 jb lb ob w' (l ++ zJ t.subs rs) v' /\ JK jb v w w' v')) :=
 (ya w0 jb lb ob w l v t sv rs sl h hlen hrs ha hr).mono (fun e w' hh => by
  rcases hh with ⟨h1,h2,h3⟩ | ⟨h1,v',h2,h3,h4⟩
  ·exact ⟨false,h2,.inl ⟨rfl,h1,h3⟩⟩
  ·exact ⟨true,h2,.inr ⟨rfl,h1,v',h3,h4⟩⟩)
theorem pI (w0 : World) (jb lb ob : Nat) (w : World) (l : List (T × Rule)) (v : Value) (t : T) (sv : Value) (r q : Rule) (rv qv : Value) (h : JS w0 jb lb ob w l v) (hlen : l.length + t.subs.length <= 20000) (ha : AT w0 t.subs sv) (hr : RV w jb (free jb v) r rv) (hq : RV w jb (free jb v) q qv) :
  Calls Tryz.prog 148 #[ptr jb,zq t sv,rv,qv] w fun e w' => ∃ b : Bool,e = .returned (.bool b) /\ ((b = false /\ t.subs = [] /\ w.grownBy w' none) \/ (b = true /\ 0 < t.subs.length /\ ∃ v',JS w0 jb lb ob w' (l ++ yQ t r q) v' /\ JK jb v w w' v')) :=
 (jW w0 jb lb ob w l v t sv r q rv qv h hlen ha hr hq).mono (fun e w' hh => by
  rcases hh with ⟨h1,h2,h3⟩ | ⟨h1,v',h2,h3,h4⟩
  ·exact ⟨false,h2,.inl ⟨rfl,h1,h3⟩⟩
  ·exact ⟨true,h2,.inr ⟨rfl,h1,v',h3,h4⟩⟩)
theorem iy : JC 114 .act 17 := by
  intro w0 y lb ob w l v x m p d sv h r I z
  have A := zb h; have HF := zb I; have HA := zb z; have a0 := h.lt
  have B : Hid (∀ b,v.ownBlock = some b -> b < w.heap.size) := fun b hb => (h.room hb).2
  obtain ⟨a,n,c,rfl,_,_,J⟩ := z.any
  change d.length = n at J
  subst J
  have C : Hid (zw .act (.mk 17 x m p d) = zt (zk (.mk 17 x m p d) 17 false 0 2) (zJ d [.expression,.list .act])) := rfl
  clear h I z
  go_enter Tryz.func114,Tryz.ntmps114
  go_wp2_with fail; go_at_call 145; refine (zG (.mk 17 x m p d) _ 0 _ ⟨_,_,_,rfl⟩).mono ?_; rintro e w1 ⟨rfl,f⟩; have i := za gan f; have D := zb ((Box.new w (.mk 17 x m p d) (.slice a d.length c) 24).kept f); obtain ⟨K,L,M,N,O⟩ := D.p
  cases E : ((T.mk 17 x m p d).name.isEmpty && zM (.mk 17 x m p d) 0)
  · clear f; go_wp2_with fail
    go_ret
    exact .inl ⟨C.trans (zm (by rw [zi (t := (.mk 17 x m p d)) (k := 17) rfl,E]; rfl)),rfl,za A.gb i⟩
  · clear f; have Q := i.size; go_wp2_with fail
    go_region_held (fun w' => w'.cell? ⟨w.heap.size,0,none⟩ = some (.int .i64 17) /\ w'.cell? ⟨w.heap.size,1,none⟩ = some (.string ⟨x.toArray⟩) /\ w'.cell? ⟨w.heap.size,2,none⟩ = some (.int .i64 m) /\ w'.cell? ⟨w.heap.size,3,none⟩ = some (.int .i64 p) /\ w'.cell? ⟨w.heap.size,4,none⟩ = some (.slice a d.length c)) (first | exact B9.all5 | exact (F.kept (by first | with_reducible exact zj w2 none | with_reducible exact zf grn _)).all5 | exact (D.kept (ze grn)).all5) (first
      | (go_at_call 107
         refine (xz y _ v .act _ (by first | omega | (simp; omega)) (fun b hb => by have := id B b hb; first | omega | (simp; omega)) (.meth .act _ rfl)).mono ?_; rintro e w2 ⟨g2,a1,a2,rfl,R,j⟩; have g := za (ze i) j; have R2 := zb R; have F := D.kept (za (ze grn) j); obtain ⟨s,_,_,_,_⟩ := id F; have U := g.size; have V := zc s
         clear j R)
      | (go_at_call 106
         refine (uN w0 y lb ob _ l v (.mk 17 x m p d) _ [.expression,.list .act] _ (A.grown (zf g _)) r (by decide) HA (RL.new2 _ _ (.meth .expression _ rfl) (R2.grown gan) (by first | omega | (simp; omega)) (fun b hb => by have := id B b hb; first | omega | (simp; omega)))).mono ?_; rintro e w9 ⟨b9,rfl,G⟩
         have B9 := zb (Box.past (F.kept gan) ⟨by omega,fun e => by have := id B _ e; omega⟩ G)))
    all_goals
      have X := zb G; clear G
      rcases id X with ⟨rfl,H,hg⟩ | ⟨rfl,u,Y,Z,k9⟩
      · go_wp2_with fail
        go_ret
        exact .inl ⟨C.trans (zm (by rw [zi (t := (.mk 17 x m p d)) (k := 17) rfl,E]; exact (Bool.true_and _).trans (yT (n := 2) H))),rfl,za A.gb (za (zf g _) hg)⟩
      · have J9 := zb Z
        have K9 : Hid (JK y v w w9 Y) := (JK.grown (zf g _)).trans k9; clear Z k9 X; go_wp2_with fail
        go_ret
        exact .inr ⟨_,Y,C.trans (zH (by rw [zi (t := (.mk 17 x m p d)) (k := 17) rfl,E]; exact (Bool.true_and _).trans (yy (n := 2) u))),rfl,J9,K9⟩
theorem ce : JC 114 .act 18 := by
  intro w0 y lb ob w l v x m p d sv h r I z
  have A := zb h; have HF := zb I; have HA := zb z; have a0 := h.lt
  have B : Hid (∀ b,v.ownBlock = some b -> b < w.heap.size) := fun b hb => (h.room hb).2
  obtain ⟨a,n,c,rfl,_,_,J⟩ := z.any
  change d.length = n at J
  subst J
  have C : Hid (zw .act (.mk 18 x m p d) = zt (zk (.mk 18 x m p d) 18 false 0 2) (zJ d [.list .act,.expression])) := rfl
  clear h I z
  go_enter Tryz.func114,Tryz.ntmps114
  go_wp2_with fail; go_at_call 145; refine (zG (.mk 18 x m p d) _ 0 _ ⟨_,_,_,rfl⟩).mono ?_; rintro e w1 ⟨rfl,f⟩; have i := za gan f; have D := zb ((Box.new w (.mk 18 x m p d) (.slice a d.length c) 24).kept f); obtain ⟨K,L,M,N,O⟩ := D.p
  cases E : ((T.mk 18 x m p d).name.isEmpty && zM (.mk 18 x m p d) 0)
  · clear f; go_wp2_with fail
    go_ret
    exact .inl ⟨C.trans (zm (by rw [zi (t := (.mk 18 x m p d)) (k := 18) rfl,E]; rfl)),rfl,za A.gb i⟩
  · clear f; have Q := i.size; go_wp2_with fail
    go_region_held (fun w' => w'.cell? ⟨w.heap.size,0,none⟩ = some (.int .i64 18) /\ w'.cell? ⟨w.heap.size,1,none⟩ = some (.string ⟨x.toArray⟩) /\ w'.cell? ⟨w.heap.size,2,none⟩ = some (.int .i64 m) /\ w'.cell? ⟨w.heap.size,3,none⟩ = some (.int .i64 p) /\ w'.cell? ⟨w.heap.size,4,none⟩ = some (.slice a d.length c)) (first | exact B9.all5 | exact (F.kept (by first | with_reducible exact zj w2 none | with_reducible exact zf grn _)).all5 | exact (D.kept (ze grn)).all5) (first
      | (go_at_call 107
         refine (xz y _ v .act _ (by first | omega | (simp; omega)) (fun b hb => by have := id B b hb; first | omega | (simp; omega)) (.meth .act _ rfl)).mono ?_; rintro e w2 ⟨g2,a1,a2,rfl,R,j⟩; have g := za (ze i) j; have R2 := zb R; have F := D.kept (za (ze grn) j); obtain ⟨s,_,_,_,_⟩ := id F; have U := g.size; have V := zc s
         clear j R)
      | (go_at_call 106
         refine (uN w0 y lb ob _ l v (.mk 18 x m p d) _ [.list .act,.expression] _ (A.grown (zf g _)) r (by decide) HA (RL.new2 _ _ (R2.grown gan) (.meth .expression _ rfl) (by first | omega | (simp; omega)) (fun b hb => by have := id B b hb; first | omega | (simp; omega)))).mono ?_; rintro e w9 ⟨b9,rfl,G⟩
         have B9 := zb (Box.past (F.kept gan) ⟨by omega,fun e => by have := id B _ e; omega⟩ G)))
    all_goals
      have X := zb G; clear G
      rcases id X with ⟨rfl,H,hg⟩ | ⟨rfl,u,Y,Z,k9⟩
      · go_wp2_with fail
        go_ret
        exact .inl ⟨C.trans (zm (by rw [zi (t := (.mk 18 x m p d)) (k := 18) rfl,E]; exact (Bool.true_and _).trans (yT (n := 2) H))),rfl,za A.gb (za (zf g _) hg)⟩
      · have J9 := zb Z
        have K9 : Hid (JK y v w w9 Y) := (JK.grown (zf g _)).trans k9; clear Z k9 X; go_wp2_with fail
        go_ret
        exact .inr ⟨_,Y,C.trans (zH (by rw [zi (t := (.mk 18 x m p d)) (k := 18) rfl,E]; exact (Bool.true_and _).trans (yy (n := 2) u))),rfl,J9,K9⟩
theorem bB : JC 111 .typeItself 10 := by
  intro w0 J lb ob w l v x m p d sv h r L G
  have M := zb h; have HF := zb L; have HA := zb G; have a0 := h.lt
  have R : Hid (∀ b,v.ownBlock = some b -> b < w.heap.size) := fun b hb => (h.room hb).2
  obtain ⟨a,n,c,rfl,_,_,U⟩ := G.any
  change d.length = n at U
  subst U
  have N : Hid (zw .typeItself (.mk 10 x m p d) = zt (zk (.mk 10 x m p d) 10 false 0 (-1) && decide (0 < d.length)) (yQ (.mk 10 x m p d) .typeNameOrNone (.declared 11 1 .typeName))) := rfl
  cases H : ((T.mk 10 x m p d).name.isEmpty && zM (.mk 10 x m p d) 0)
  · have HN : Hid (zw .typeItself (.mk 10 x m p d) = none) := N.trans (zm (by rw [zi (t := (.mk 10 x m p d)) (k := 10) rfl,H]; rfl))
    clear h L G
    go_enter Tryz.func111,Tryz.ntmps111
    go_wp2_with fail; have I : Hid (Box (w.alloc (.cells #[.int .i64 10,.string ⟨x.toArray⟩,.int .i64 m,.int .i64 p,.slice a d.length c] 24)) w.heap.size (.mk 10 x m p d) (.slice a d.length c)) := Box.new w (.mk 10 x m p d) (.slice a d.length c) 24; refine wp_region_any (by kernel_rfl) ?_
    change wpAny _ _ _ _ _ _ _ (World.drew _)
    refine wpAny_ready (rs := [0]) (by kernel_rfl) (by simp) ?_; refine AllReady.cons rfl (fun K hK => ?_) AllReady.nil
    go_simp
    refine hK _ _ ?_; clear hK K; refine wpAny_ready (rs := [1]) (by kernel_rfl) (by simp) ?_; refine AllReady.cons rfl (fun K hK => ?_) AllReady.nil
    go_simp
    go_at_call 145; refine (zG (.mk 10 x m p d) _ 0 _ ⟨_,_,_,rfl⟩).mono ?_; rintro e w1 ⟨rfl,f⟩; rw [H]; have g := za (ze gan) f; have s := I.kept (za (ze (zj (w.alloc _) none)) f); obtain ⟨u,y,z,A,B⟩ := s.p
    have C := g.size; clear f; refine hK _ _ ?_; clear hK K; refine wpAny_ready (rs := [2]) (by kernel_rfl) (by simp) ?_; refine AllReady.cons rfl (fun K hK => ?_) AllReady.nil
    go_simp
    refine hK _ _ ?_; clear hK K; refine nt 3 rfl ?_; simp only [Act.put,List.setIfInBounds_toArray]; refine nt 4 rfl ?_; simp only [Act.put]; refine nt 5 rfl ?_; simp only [Act.put]; refine nt 6 rfl ?_; simp only [Act.put]; refine nt 7 rfl ?_; simp only [Act.put]; refine nt 8 rfl ?_; simp only [Act.put]; refine nt 9 rfl ?_; simp only [Act.put]; refine nt 10 rfl ?_; simp only [Act.put]; refine nt 11 rfl ?_; simp only [Act.put]; refine wpAny_ready (rs := [12]) (by kernel_rfl) (by simp) ?_; refine AllReady.cons rfl (fun K hK => ?_) AllReady.nil
    go_simp
    refine hK _ _ ?_; clear hK K; refine wpAny_ready (rs := [13]) (by kernel_rfl) (by simp) ?_; refine AllReady.cons rfl (fun K hK => ?_) AllReady.nil
    go_simp
    refine hK _ _ ?_; clear hK K; refine wpAny_done (by kernel_rfl) ?_ _; go_wp2_with fail
    go_ret
    exact .inl ⟨HN,rfl,za M.gb g⟩
  · clear h L G
    go_enter Tryz.func111,Tryz.ntmps111
    go_wp2_with fail; have I : Hid (Box (w.alloc (.cells #[.int .i64 10,.string ⟨x.toArray⟩,.int .i64 m,.int .i64 p,.slice a d.length c] 24)) w.heap.size (.mk 10 x m p d) (.slice a d.length c)) := Box.new w (.mk 10 x m p d) (.slice a d.length c) 24
    go_region_held (fun w' => w'.cell? ⟨w.heap.size,0,none⟩ = some (.int .i64 10) /\ w'.cell? ⟨w.heap.size,1,none⟩ = some (.string ⟨x.toArray⟩) /\ w'.cell? ⟨w.heap.size,2,none⟩ = some (.int .i64 m) /\ w'.cell? ⟨w.heap.size,3,none⟩ = some (.int .i64 p) /\ w'.cell? ⟨w.heap.size,4,none⟩ = some (.slice a d.length c)) (first | exact B9.all5 | exact (O.kept grn).all5 | exact (s.kept grn).all5 | exact (I.kept (ze (zj (w.alloc _) none))).all5) (first
      | (go_at_call 145
         refine (zG (.mk 10 x m p d) _ 0 _ ⟨_,_,_,rfl⟩).mono ?_; rintro e w1 ⟨rfl,f⟩; rw [H]; have g := za (ze gan) f; have s := I.kept (za (ze (zj (w.alloc _) none)) f); obtain ⟨u,y,z,A,B⟩ := s.p
         have C := g.size
         clear f)
      | (go_at_call 109
         refine (xM J _ v 11 1 .typeName _ (by first | omega | (simp; omega)) (fun b hb => by have := id R b hb; first | omega | (simp; omega)) (.meth .typeName _ rfl)).mono ?_; rintro e w2 ⟨g2,a1,a2,rfl,V,j⟩; have i := za g j; have R2 := zb V; have O := s.kept (za grn j); obtain ⟨D,_,_,_,_⟩ := id O; have X := i.size; have Y := zc D
         clear j V)
      | (go_at_call 148
         refine (pI w0 J lb ob _ l v (.mk 10 x m p d) _ .typeNameOrNone (.declared 11 1 .typeName) _ _ (M.grown i) r HA (.meth .typeNameOrNone _ rfl) (R2.grown grn)).mono ?_; rintro e w9 ⟨b9,rfl,Q⟩
         have B9 := zb (Box.past (O.kept grn) ⟨by omega,fun e => by have := id R _ e; omega⟩ Q)))
    all_goals
      have Z := zb Q; clear Q
      rcases id Z with ⟨rfl,E,hg⟩ | ⟨rfl,F,v9,j9,k9⟩
      · go_wp2_with fail
        go_ret
        exact .inl ⟨N.trans (zm (by change d = [] at E; subst E; simp)),rfl,za M.gb (za i hg)⟩
      · have J9 := zb j9
        have K9 : Hid (JK J v w w9 v9) := (JK.grown i).trans k9; clear j9 k9 Z; go_wp2_with fail
        go_ret
        exact .inr ⟨_,v9,N.trans (zH (by rw [zi (t := (.mk 10 x m p d)) (k := 10) rfl,H]; simpa [T.subs] using F)),rfl,J9,K9⟩
theorem mF (x : Bs) : has (ro gW) (.string x) = decide (0 <= zo x) := by
 unfold ro
 rw [kD x gW (.map []) ⟨_,rfl⟩,gL]
 by_cases h : 0 <= zo x
 ·simp [h]
 ·simp [h]; rfl
theorem ov (w : World) (ob : Nat) (x : Bs) (h : IsOps w ob) (hx : x.length <= maxLen) : ∃ c : Int,(Instr.lookup 76 (.map (some ob)) (.string ⟨x.toArray⟩) true).run Tryz.prog w = .ok (.tuple #[.int .i64 c,.bool (decide (0 <= zo x))]) w := by
 obtain ⟨_,_,b,d⟩ := World.ownsMap.look_ok h xY Tryz.underlying76 (du w) (plainElem_int (H := Unit) Tryz.underlying129 (a := 0) (by decide)) (keyOf_string_mk (P := Tryz.prog) Tryz.underlying9 (s := ⟨x.toArray⟩) (jY hx)); obtain ⟨c,rfl,_,_⟩ := plainElem_int_inv Tryz.underlying129 d; refine ⟨c,?_⟩; rw [<- mF x]
 exact b
theorem cq : JC 110 .expression 36 := by
 intro R A U H w l v x m p d sv h j k r
 have y := zb h; have HF := zb k; have V := zb r; have X := h.lt
 have Y : Hid (∀ b,v.ownBlock = some b -> b < w.heap.size) := fun b hb => (h.room hb).2
 obtain ⟨a,n,c,rfl,I,_,J⟩ := r.any
 change d.length = n at J
 subst J
 have z : Hid (zw .expression (.mk 36 x m p d) = zt (decide (0 <= zo x) && m == 0 && d.length == 2) (zJ d [.expression,.expression])) := rfl
 have c1 := h.c1; obtain ⟨_,i⟩ := ov ((w.alloc (.cells #[.int .i64 36,.string ⟨x.toArray⟩,.int .i64 m,.int .i64 p,.slice a d.length c] 24)).drew) H x (h.grown (ze gan)).ops k.name; cases s : decide (0 <= zo x)
 ·have B : Hid (zw .expression (.mk 36 x m p d) = none) := z.trans (zm (by rw [s]; rfl))
  rw [s] at i; clear h k r
  go_enter Tryz.func110,Tryz.ntmps110
  go_wp2_with fail
  go_region
  all_goals
   go_wp2_with fail
   go_ret
   exact .inl ⟨B,rfl,za y.gb (ze gan)⟩
 ·cases t : zM (.mk 36 x m p d) 0
  ·have B : Hid (zw .expression (.mk 36 x m p d) = none) := z.trans (zm (by
    have C : ¬ m = 0 := by intro e; subst e; simp [zM,T.num] at t
    simp [C]))
   rw [s] at i; clear h k r
   go_enter Tryz.func110,Tryz.ntmps110
   go_wp2_with fail
   go_region
   all_goals
    go_wp2_with fail; go_at_call 143; refine (uv (.mk 36 x m p d) _ 0 _ ⟨_,_,_,rfl⟩).mono ?_; rintro e K ⟨rfl,g⟩; rw [t]; have f := za (ze gan) g; go_wp2_with fail
    go_ret
    exact .inl ⟨B,rfl,za y.gb f⟩
  ·have L : m = 0 := by unfold zM at t; have C := of_decide_eq_true t; simp only [T.num] at C; omega
   have M : Hid (∀ n : Nat,d.length = n -> (decide (0 <= zo x) && m == 0 && d.length == 2) = decide (n = 2)) := fun n I => by subst L I; have D := of_decide_eq_true s; rw [Bool.eq_iff_iff]; simp [D]
   clear L; rw [s] at i; clear h k r
   go_enter Tryz.func110,Tryz.ntmps110
   go_wp2_with fail
   go_region
   all_goals
    go_wp2_with fail; go_at_call 143; refine (uv (.mk 36 x m p d) _ 0 _ ⟨_,_,_,rfl⟩).mono ?_; rintro e K ⟨rfl,g⟩; rw [t]; have f := za (ze gan) g; have Z := zb ((Box.new w (.mk 36 x m p d) (.slice a d.length c) 24).kept (za (ze grn) g)); cases Z.q
    have a0 := f.size
    have E : A < K.heap.size := by omega
    clear g; go_wp2_with fail; go_at_call 106; refine (ya R A U H _ l v (.mk 36 x m p d) _ [.expression,.expression] _ (y.grown (zf f _)) j (by decide) V (RL.new2 _ _ (.meth .expression _ rfl) (.meth .expression _ rfl) (by simpa using E) (fun b hb => by have := id Y b hb; omega))).mono ?_; rintro e w2 (⟨F,rfl,G⟩ | ⟨u,N,rfl,O,Q⟩)
    ·go_wp2_with fail
     go_ret
     exact .inl ⟨z.trans (zm ((M _ rfl).trans (by simpa [T.subs] using F))),rfl,za y.gb (za (zf f _) G)⟩
    have J2 := zb O; have K2 : Hid (JK A v w w2 N) := (JK.grown (zf f _)).trans Q; clear O Q; go_wp2_with fail
    go_ret
    exact .inr ⟨_,N,z.trans (zH ((M _ rfl).trans (by simpa [T.subs] using u))),rfl,J2,K2⟩
end Go.Proofs.YtifapidjkelnfaaGreatDoor
