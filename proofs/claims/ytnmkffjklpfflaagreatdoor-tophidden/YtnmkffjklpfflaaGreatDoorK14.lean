/- Procedures: what their heads and their variables leave of the tables. -/
import Derived.Test.YtnmkffjklpfflaaGreatDoorK08
import Derived.Test.YtnmkffjklpfflaaGreatDoorK11
import Derived.Test.YtnmkffjklpfflaaGreatDoorK13
namespace Go.Proofs.YtnmkffjklpfflaaGreatDoor
open Go.RowKit
theorem Tryz.infoProcP : (Tryz.prog.info? 88).map (fun i => (i.zero,i.size,i.bytes)) = some (some (.pointer none),1,8) := by kernel_rfl
theorem rH {ops : Array Oper} {rest : List Oper} {o : Oper} {a : Act} {w : World} {Q : Exit -> Act -> World -> Prop} (t e : TypeId) (ht : Tryz.prog.underlying t = some (.slice e)) (hin : (Tryz.prog.info? e).map (fun i => (i.zero,i.size,i.bytes)) = some (some (.pointer none),1,8)) (hgd : o.guard = none) (s x : Operand)
  (ho : o.op = .call { callee := .builtin .append,args := #[s,x],argTypes := #[t,t] }) {g n : Nat} {v : Value} {q : Option Addr} {cs : List Value} (hs : a.eval s = v) (hx : a.eval x = .slice (some ⟨g,0,none⟩) 1 1) (hl : w.ownsRow 0 e 1 v n cs) (hc : w.cell? ⟨g,0,none⟩ = some (.pointer q)) (hn : n <= 1000000)
  (k : ∀ v' w',w'.ownsRow 0 e 1 v' (n + 1) (cs ++ [.pointer q]) -> w.grownBy w' v.ownBlock -> (v'.ownBlock = v.ownBlock \/ v'.ownBlock = some w.heap.size) -> wpList Tryz.prog ops Q rest (a.put o.dst v') w') : wpList Tryz.prog ops Q (o :: rest) a w := by
 obtain ⟨h,b,c,d,f⟩ := info_parts hin
 refine wpList_append_own_at w hgd s x t ho 0 e h _ 1 8 ht b c d f rfl (by decide) v n cs hs hl ⟨g,0,none⟩ 1 1 [.pointer q] hx rfl (fun j u hj => by
   match j,hj with
   | 0,hj => simp at hj; subst hj; simpa [Addr.add] using hc) (fun u hu => by simp at hu; subst hu; rfl) (by unfold maxLen; omega) (by omega) (Nat.zero_le _) (fun v' w' h1 h2 _ h3 => k v' w' h1 h2 h3)
theorem tG {w : World} {e : TypeId} {k n : Nat} {v : Value} {cs : List Value} (h : w.ownsRow 0 e k v n cs) : ∃ a cp,v = .slice a n cp /\ n <= cp /\ cp <= maxLen /\ ∀ j u,cs[j]? = some u -> ∃ g,a = some ⟨g,0,none⟩ /\ w.cell? ⟨g,j,none⟩ = some u :=
 RowAt.read (ρ := ⟨0,0,0,fun _ => 0,fun _ => 0,fun _ => 0,fun _ => 0,fun _ => 0,fun _ => 0,fun _ => some .wd⟩) (lb := .wd) ⟨h,fun _ _ => rfl⟩
theorem sq {m p : Nat} {l : List T} {j : Nat} {v : T} {S S' : KS} (hv : l[j]? = some v) (h : uB m (p + j) (l.drop j) S = some S') : ∃ S1,S.procC m (p + j) v = some S1 /\ uB m (p + (j + 1)) (l.drop (j + 1)) S1 = some S' := by
 obtain ⟨b,rfl⟩ := List.getElem?_eq_some_iff.1 hv; rw [List.drop_eq_getElem_cons b] at h
 unfold uB at h
 exact Option.bind_eq_some_iff.1 h
theorem rn {m p : Nat} {l : List T} {j : Nat} {S S' : KS} (hj : l.length <= j) (h : uB m p (l.drop j) S = some S') : S' = S := by
 rw [List.drop_eq_nil_of_le hj] at h
 exact (Option.some.inj h).symm
section
variable {S S' : KS}
theorem pj {m : Nat} {n : T} {t : KTh} (h : S.declC m n t = some S') : S'.prs = S.prs := by
 obtain ⟨-,-,rfl,-⟩ := jP h
 rfl
theorem nL {m p : Nat} {n : T} (h : S.parC m p n = some S') : S'.prs.length = S.prs.length := by
 obtain ⟨d,e,t,-,b,-,c,rfl,-⟩ := rR h; obtain ⟨-,-,rfl,-⟩ := xI b; obtain ⟨rfl,-⟩ := yg c
 simp [KS.setPr,KS.setTh,KS.addTh]
theorem tm {m p : Nat} : ∀ (l : List T) (S S' : KS),yw (KS.parC m p) l S = some S' -> S'.prs.length = S.prs.length
 | [],S,S',h => by rw [<- Option.some.inj h]
 | x :: r,S,S',h => by
  obtain ⟨S1,h1,h2⟩ := Option.bind_eq_some_iff.1 h; rw [tm r S1 S' h2,nL h1]
theorem po {m : Nat} {n : T} (h : S.headC m n = some S') : S'.prs.length = S.prs.length + 1 := by
 obtain ⟨f,g,i,rfl,-,b,c,d⟩ := tu h; have e := tm _ _ _ c; rw [pj b] at e
 rcases d with ⟨-,rfl⟩ | ⟨-,j,-,rfl,-⟩
 ·rw [e]; simp [KS.addPr]
 ·simp [KS.setPr,e,KS.addPr]
theorem tD {m p : Nat} : ∀ (l : List T) (S : KS) (k : Int) (q : KS × Int),p < S.prs.length -> vP (KS.innVarC m p) l S k = some q -> (q.1.pr p).result = (S.pr p).result /\ p < q.1.prs.length
 | [],S,k,q,hp,h => by rw [<- Option.some.inj h]; exact ⟨rfl,hp⟩
 | x :: r,S,k,q,hp,h => by
  obtain ⟨⟨_,_⟩,h1,h2⟩ := Option.bind_eq_some_iff.1 h; obtain ⟨j,-,h3⟩ := Option.bind_eq_some_iff.1 h1; obtain ⟨_,h4,h5⟩ := Option.bind_eq_some_iff.1 h3
  split at h5
  ·cases h5
   obtain ⟨-,-,rfl,-⟩ := xI h4
   have hp2 : p < ((S.addTh { th0 with first := k,ty := some j,kind := 3,name := x.name }).setPr p { S.pr p with inner := (x.name,S.ths.length) :: (S.pr p).inner }).prs.length := by simpa [KS.setPr,KS.addTh] using hp
   obtain ⟨e1,e2⟩ := tD r _ _ q hp2 h2; refine ⟨e1.trans ?_,e2⟩; rw [show ((S.addTh _).setPr p _).pr p = _ from yZ _ _ _ hp]
  ·cases h5
end
set_option maxHeartbeats 4000000
set_option maxRecDepth 100000
section
variable {ρ : Lay} {w w' w1 : World} {S : KS} {b : Nat} {c : KSc}
theorem qp {m : Nat} {rv : Value} (h : CB ρ w S b ⟨m,none⟩ rv) (hk : S.okB = true) {S7 S8 : KS} {l : List T} {sv : Value} (ha : AF ρ.tr w l sv) (hl9 : l.length <= 1000) (hsh : ∀ n ∈ l,4 <= n.subs.length) (hs : yw (KS.headC m) l S = some S7) (hs' : uB m S.prs.length l S7 = some S8) :
  Calls Tryz.prog 58 #[.pointer (some ⟨b,0,none⟩),sv] w (fun e w' => e = .returned (.tuple #[]) /\ ∃ ρ',Stp False ρ w S ρ' w' S8 /\ CB ρ' w' S8 b ⟨m,none⟩ (.pointer none)) := by
 have HK := ze h; have HB := ze hk; have HL := ze ha; have HS := ze hs; have g4 := ze hs'; have g5 := ze hsh; obtain ⟨_,_,rfl,_,l2⟩ := ha.at.form
 unfold maxLen at l2
 obtain ⟨C,c8⟩ : ∃ z,z = S.prs.length := ⟨_,rfl⟩; rw [<- c8] at g4; have l3 := ze c8; clear h hk ha hs hs' hsh c8
 go_enter Tryz.func58,Tryz.ntmps58
 go_wp2_with fail
 go_loopw [12,4] (fun iv hw4 wr => ∃ (j : Nat) (ρr : Lay) (s : KS) (ci : Option Nat) (hv : Value),j <= l.length /\ iv = .int .i64 ↑j /\ hw4 = hv /\ Hid (yw (KS.headC m) (l.drop j) s = some S7) /\ Hid (Stp False ρ w S ρr wr s) /\ Hid (CB ρr wr s b ⟨m,ci⟩ rv) /\ Hid (wr.ownsRow 0 88 1 hv j ((List.range j).map fun i => Value.pointer (some ⟨ρr.pr (C + i),0,none⟩))) /\ Hid (∀ g,hv.ownBlock = some g -> ρr.col g = none /\ w.heap.size <= g) /\ Hid (s.prs.length = C + j)) (fun iv _ _ => l.length - (intOf iv).toNat)
 case atStart => exact ⟨0,ρ,S,none,_,Nat.zero_le _,rfl,rfl,HS.out,Stp.refl HK.out.ck.km HB.out,HK.out,World.ownsRow_nil _ _ _ _,nofun,l3.out.symm⟩
 case round =>
  obtain ⟨j,ρr,s,ci,hv,hj,rfl,e4,HE,E,f,a7,RC,c9⟩ := hrel
  replace e4 := e4.symm
  subst e4
  by_cases R : j < l.length
  ·obtain ⟨v,G⟩ : ∃ v,l[j]? = some v := ⟨_,List.getElem?_eq_getElem R⟩
   obtain ⟨D,U,V⟩ := xH G HE.out; have d5 := ze V; have HH := ze U; obtain ⟨g,o,sw,e1,l4,M,fv,av⟩ := (HL.out.step E.out).node G; subst e1; have g6 := g5.out v (List.mem_of_getElem? G); have FV := ze fv; have AV := ze av; obtain ⟨va,vc,rfl,g7,g8⟩ := av.at.form; have d0 := M.c0; have d1 := M.c1; have d2 := M.c2; have d3 := M.c3; have d4 := M.c4; have l5 : g < wr.heap.size := zw d0; clear M fv av G; clear U V; go_wp2_with fail; obtain ⟨t,x⟩ : ∃ z,z = wr.alloc (.cells #[.int .i64 v.kind,.string ⟨v.name.toArray⟩,.int .i64 v.num,.int .i64 v.at',.slice va v.subs.length vc] 100) := ⟨_,rfl⟩; rw [<- x]
   have N : Hid (wr.grownBy t none) := by rw [x]; exact zf (zc wr none) _
   have g9 : Hid (Box t wr.heap.size v (.slice va v.subs.length vc)) := by rw [x]; exact Box.new wr v _ _
   have l6 : wr.heap.size < t.heap.size := by rw [x]; simp
   clear x d0 d1 d2 d3 d4; have d6 := ze (pu (f.out.up N.out) v (.slice va v.subs.length vc) FV.out E.out.ok (AV.out.kept N.out (fun _ e => by cases e)) g6 HH.out); go_at_call 75; refine d6.out.mono ?_; rintro e I ⟨ρ3,h0,h1,rfl⟩; have A : Hid (Stp False ρr wr s ρ3 I D) := h0.ahead N.out; have B := ze h1; have a8 : s.prs.length = C + j := c9.out; rw [a8]
   have l7 : Hid (D.prs.length = C + (j + 1)) := by show _ = _; rw [po HH.out,a8]; rfl
   have R3 : Hid (I.ownsRow 0 88 1 hv j ((List.range j).map fun i => Value.pointer (some ⟨ρ3.pr (C + i),0,none⟩))) := by
    have d := zZ a7.out A.out.sm (fun g H => .inl (RC.out g H).1); rw [List.map_congr_left (g := fun i => Value.pointer (some ⟨ρr.pr (C + i),0,none⟩)) (fun i hi => by rw [A.out.agr.pr (C + i) (by rw [a8]; have := List.mem_range.1 hi; omega)])]
    exact d
   have R4 := ze (zZ R3.out (Sm.of_none (zf (zc I none) (.cells #[.pointer (some ⟨ρ3.pr (C + j),0,none⟩)] 88)) (fun _ => True)) (fun _ _ => trivial)); have C4 : Hid ((I.alloc (.cells #[.pointer (some ⟨ρ3.pr (C + j),0,none⟩)] 88)).cell? ⟨I.heap.size,0,none⟩ = some (.pointer (some ⟨ρ3.pr (C + j),0,none⟩))) := Bk.c (vs := [.pointer (some ⟨ρ3.pr (C + j),0,none⟩)]) (Bk.new I _ _ rfl) 0 _ rfl; clear h0 h1 a8
   go_wp2_with (at_builtin; refine rH 149 88 Tryz.underlying149 Tryz.infoProcP rfl _ _ rfl rfl rfl R4.out C4.out (by omega) ?_; intro v4 X b5 h2 b6)
   have O4 := ze b5; have G4 := ze h2; have A4 := ze b6; clear b5 h2 b6
   go_roundw
   case rel =>
    have h3 : ∀ g,hv.ownBlock = some g -> ρ3.col g = none := fun g H => (A.out.col g (dR a7.out H)).trans (RC.out g H).1
    have S4 : Sm I X (fun g => some g ≠ hv.ownBlock) := (Sm.of_none (zf (zc I none) _) _).gbn G4.out (fun g H d => d H.symm)
    have h4 : ∀ g lb,ρ3.col g = some lb -> some g ≠ hv.ownBlock := fun g lb H e => by rw [h3 g e.symm] at H; cases H
    have K4 : KM ρ3 X D := B.out.ck.km.sm (KS.okIn A.out.ok) S4 h4; have d7 : CB ρ3 X D b ⟨m,some s.prs.length⟩ rv := CB.of A.out.ok K4 (B.out.bk.sm S4 (h4 _ _ B.out.col)) B.out.col B.out.ck.hc B.out.ck.hi
    have Y : Stp False ρ w S ρ3 X D := by
     have d := E.out.trans A.out; refine ⟨K4,d.ok,d.agr,d.col,?_,d.tys,d.ths,d.prs,d.mds⟩
     exact d.sm.comp S4 (fun g H _ e => by have := (RC.out g e.symm).2; omega)
    refine ⟨j + 1,ρ3,D,_,v4,by omega,by go_num,rfl,d5,Y,d7,?_,?_,l7⟩
    ·rw [List.range_succ,List.map_append]
     exact O4.out
    ·intro g H
     rcases A4.out with d | d
     ·exact ⟨h3 g (d ▸ H),(RC.out g (d ▸ H)).2⟩
     ·rw [d] at H
      cases H; refine ⟨B.out.ck.km.fr _ (by simp),?_⟩; have h8 := E.out.sm.size; have h7 := A.out.sm.size
      simp
      omega
   case measure => first | omega | (simp only [intOf]; omega) | (simp; omega)
  ·have hE := vt (by omega) HE.out
   subst hE
   obtain rfl : j = l.length := by omega
   obtain ⟨w7,l8⟩ : ∃ z,z = wr := ⟨_,rfl⟩; obtain ⟨ρ7,l9⟩ : ∃ z,z = ρr := ⟨_,rfl⟩; subst l8 l9; obtain ⟨m0,_,rfl,_,m1,h5⟩ := tG a7.out
   have RD : Hid (∀ i,i < l.length -> ∃ g,m0 = some ⟨g,0,none⟩ /\ ρ7.col g = none /\ w7.cell? ⟨g,i,none⟩ = some (.pointer (some ⟨ρ7.pr (C + i),0,none⟩))) := fun i hi => by
    obtain ⟨g,e,d⟩ := h5 i (.pointer (some ⟨ρ7.pr (C + i),0,none⟩)) (by simp [hi]); subst e
    exact ⟨g,rfl,(RC.out g rfl).1,d⟩
   have h6 := c9; have d8 := E; have j0 := f
   unfold maxLen at m1
   clear E HE f a7 RC c9 h5 R hj; go_wp2_with fail
   go_loopw [25] (fun iv wr => ∃ (j : Nat) (ρr : Lay) (s : KS) (ci : Option Nat) (rv : Value),j <= l.length /\ iv = .int .i64 ↑j /\ Hid (uB m (C + j) (l.drop j) s = some S8) /\ Hid (Stp False ρ7 w7 S7 ρr wr s) /\ Hid (CB ρr wr s b ⟨m,ci⟩ rv)) (fun iv _ => l.length - (intOf iv).toNat)
   case atStart => exact ⟨0,ρ7,S7,_,_,Nat.zero_le _,rfl,g4.out,Stp.refl j0.out.ck.km d8.out.ok,j0.out⟩
   case round =>
    obtain ⟨j,ρr,s,m2,m3,hj,rfl,HE,E,f⟩ := hrel
    by_cases R : j < l.length
    ·obtain ⟨v,G⟩ : ∃ v,l[j]? = some v := ⟨_,List.getElem?_eq_getElem R⟩
     obtain ⟨D,U,V⟩ := sq G HE.out; have d5 := ze V; obtain ⟨q,_,j1,d9,f0,j2,b7,b8,Z,b9,m5⟩ := ny U; subst m5; obtain ⟨g,o,sw,e1,l4,M,fv,av⟩ := (HL.out.step (d8.out.trans E.out)).node G; subst e1; have g6 := g5.out v (List.mem_of_getElem? G); have FV := ze fv; have AV := ze av; obtain ⟨va,vc,rfl,g7,g8⟩ := av.at.form; have d0 := M.c0; have d1 := M.c1; have d2 := M.c2; have d3 := M.c3; have d4 := M.c4; have l5 : g < wr.heap.size := zw d0; clear M fv av G; obtain ⟨u2,f1⟩ : ∃ u,v.subs[2]? = some u := ⟨_,List.getElem?_eq_getElem (by omega)⟩; rw [xR f1] at f0; obtain ⟨g2,o2,e2,m6,a0⟩ := AV.out.nodes (by omega); subst e2; obtain ⟨s2,n2,-,a2⟩ := a0 2 u2 f1; obtain ⟨f2,c2,rfl,-,-⟩ := a2.at.form; have N2 := ze n2; have A2 := ze a2
     have n8 : ¬ ((v.subs.length : Int) <= 2) := by omega
     have j3 := ze j1; have f3 := ze f0; have a9 := ze j2; have c5 := ze b7; have j4 := ze b8; have a1 := ze Z; have c6 := ze b9; obtain ⟨j5,e7,j6,j7⟩ := RD.out j R; subst e7
     have a3 : C + j < S7.prs.length := by have d : S7.prs.length = C + l.length := h6.out; omega
     have J : C + j < s.prs.length := Nat.lt_of_lt_of_le a3 E.out.prs; obtain ⟨k,a4⟩ : ∃ z,z = C + j := ⟨_,rfl⟩; have a5 : wr.cell? ⟨j5,j,none⟩ = some (.pointer (some ⟨ρ7.pr (C + j),0,none⟩)) := E.out.sm.cell j7 (.inl j6); have n6 : j5 < wr.heap.size := zw a5; obtain ⟨F,f4⟩ : ∃ z,z = ρ7.pr (C + j) := ⟨_,rfl⟩; have b0 : ρr.pr (C + j) = F := (E.out.agr.pr _ a3).trans f4.symm; rw [<- f4] at a5; rw [<- a4] at J b0 d9 j3 f3 a9 a1 c6; have n7 := ze a4; clear U V n2 a2 a0 f1 j1 f0 j2 b7 b8 Z b9 a3 f4 j7 a4; go_wp2_with fail; obtain ⟨t,x⟩ : ∃ z,z = wr.alloc (.cells #[.int .i64 v.kind,.string ⟨v.name.toArray⟩,.int .i64 v.num,.int .i64 v.at',.slice (some ⟨g2,o2,none⟩) v.subs.length vc] 100) := ⟨_,rfl⟩; rw [<- x]
     have N : Hid (wr.grownBy t none) := by rw [x]; exact zf (zc wr none) _
     have g9 : Hid (Box t wr.heap.size v (.slice (some ⟨g2,o2,none⟩) v.subs.length vc)) := by rw [x]; exact Box.new wr v _ _
     have l6 : wr.heap.size < t.heap.size := by rw [x]; simp
     clear x d0 d1 d2 d3 d4 a5; have r : Hid (CB ρr t s b ⟨m,m2⟩ m3) := f.out.up N.out; obtain ⟨n9,o0,O,-,-⟩ := (r.out.ck.km.pr k J).bk; rw [b0] at O; have p0 : Hid (t.cell? ⟨F,0,none⟩ = some (.pointer (some ⟨ρr.wd,0,none⟩))) := O.c 0 _ rfl
     have p1 : Hid (t.cell? ⟨F,1,none⟩ = some (.pointer (some ⟨ρr.md m,0,none⟩))) := by rw [<- d9]; exact O.c 1 _ rfl
     have p2 : Hid (t.cell? ⟨F,2,none⟩ = some (.map (some (ρr.inn k)))) := O.c 2 _ rfl; obtain ⟨rp,f5⟩ : ∃ z,Value.pointer z = ρr.tyP (s.pr k).result := ⟨_,rfl⟩
     have p6 : Hid (t.cell? ⟨F,6,none⟩ = some (.pointer rp)) := by rw [f5]; exact O.c 6 _ rfl
     have m7 := ze f5
     have f6 : ρr.col F = some (.pr k) := by have d := (r.out.ck.km.pr k J).col; rwa [b0] at d
     have b1 : F ≠ b := fun e => by rw [e,r.out.col] at f6; cases f6
     have m8 : ρr.col wr.heap.size = none := f.out.ck.km.fr _ (Nat.le_refl _); clear O d9 f5; have G2 : Hid (t.grownBy t none) := zc t none
     skip
     refine wp_region_held_drew (S := fun w9 => Sm t w9 (fun g => g ≠ b)) (by kernel_rfl) ?_ (fun hHeld => ?_)
     ·exact (Sm.refl t _).drew
     refine kQ 0 34 (.pointer (some ⟨b,0,none⟩)) hHeld ?_; simp only [qA,qB,qC,qD]; refine kQ 1 35 (.pointer (some ⟨b,0,none⟩)) hHeld ?_; simp only [qA,qB,qC,qD]; refine kQ 2 36 (.pointer (some ⟨F,0,none⟩)) hHeld ?_; simp only [qA,qB,qC,qD]; refine kQ 3 37 (.pointer (some ⟨F,0,none⟩)) hHeld ?_; simp only [qA,qB,qC,qD]; refine kQ 4 38 (.pointer (some ⟨F,0,none⟩)) hHeld ?_; simp only [qA,qB,qC,qD]; refine kQ 5 39 (.pointer (some ⟨F,0,none⟩)) hHeld ?_; simp only [qA,qB,qC,qD]; refine dk 6 (some 40) (.agg #[.pointer (some ⟨ρr.wd,0,none⟩),.pointer (some ⟨ρr.md m,0,none⟩),.map (some (ρr.inn k))]) rfl rfl (fun w9 hS => by have q0 := hS.cell p0.out b1; have q1 := hS.cell p1.out b1; have q2 := hS.cell p2.out b1; go_simp) hHeld ?_; simp only [qA,qB,qC,qD]; refine kQ 7 41 (.pointer (some ⟨F,0,none⟩)) hHeld ?_; simp only [qA,qB,qC,qD]; refine kQ 8 42 (.pointer (some ⟨F,0,none⟩)) hHeld ?_; simp only [qA,qB,qC,qD]; refine kQ 9 43 (.pointer (some ⟨F,6,none⟩)) hHeld ?_; simp only [qA,qB,qC,qD]; refine dk 10 (some 44) (.pointer rp) rfl rfl (fun w9 hS => by have q1 := hS.cell p6.out b1; go_simp) hHeld ?_; simp only [qA,qB,qC,qD]; refine kQ 11 45 (.pointer (some ⟨b,0,none⟩)) hHeld ?_; simp only [qA,qB,qC,qD]; refine kQ 12 46 (.pointer (some ⟨b,0,none⟩)) hHeld ?_; simp only [qA,qB,qC,qD]; have q0 := r.out.bk.c 0 _ rfl; have q1 := r.out.bk.c 1 _ rfl; have q2 := r.out.bk.c 2 _ rfl; have qz := r.out.bk.z; refine rd 13 rfl fun KK hKK => ?_
     go_simp
     refine hKK.out _ _ (((((Sm.refl t _).put (fun d => d rfl) _ _).put (fun d => d rfl) _ _).put (fun d => d rfl) _ _).drew) fun hHeld => ?_
     clear hKK KK q0 q1 q2; refine kQ 14 47 (.pointer (some ⟨b,0,none⟩)) hHeld ?_; simp only [qA,qB,qC,qD]; refine kQ 15 48 (.pointer (some ⟨b,3,none⟩)) hHeld ?_; simp only [qA,qB,qC,qD]; have q3 := r.out.bk.c 3 _ rfl; refine rd 16 rfl fun KK hKK => ?_
     go_simp
     refine hKK.out _ _ ((((((Sm.refl t _).put (fun d => d rfl) _ _).put (fun d => d rfl) _ _).put (fun d => d rfl) _ _).put (fun d => d rfl) _ _).drew) fun hHeld => ?_
     clear hKK KK; clear q3 qz; refine wpAnyH_done (by kernel_rfl) ?_ _; clear hHeld; obtain ⟨I,b2⟩ : ∃ z,z = ((((t.setCell ⟨b,0,none⟩ (.pointer (some ⟨ρr.wd,0,none⟩))).setCell ⟨b,1,none⟩ (.pointer (some ⟨ρr.md m,0,none⟩))).setCell ⟨b,2,none⟩ (.map (some (ρr.inn k)))).setCell ⟨b,3,none⟩ (.pointer rp)).drew := ⟨_,rfl⟩; rw [<- b2]
     have S3 : Hid (Sm t I (fun g => g ≠ b)) := by rw [b2]; exact (((((Sm.refl t _).put (fun d => d rfl) _ _).put (fun d => d rfl) _ _).put (fun d => d rfl) _ _).put (fun d => d rfl) _ _).drew
     have m9 : Hid (Bk I b [.pointer (some ⟨ρr.wd,0,none⟩),.pointer (some ⟨ρr.md m,0,none⟩),.map (some (ρr.inn k)),.pointer rp]) := by rw [b2]; exact ((((r.out.bk.set 0 _).set 1 _).set 2 _).set 3 _).drew
     clear b2; have A : Hid (Stp False ρr t s ρr I s) := Stp.own r.out.ck.km E.out.ok r.out.col S3.out; have B : Hid (CB ρr I s b ⟨m,some k⟩ (.pointer rp)) := CB.of E.out.ok A.out.km m9.out r.out.col r.out.ck.hc (fun p hp => by cases hp; exact J); have f7 : Hid (Stp False ρr wr s ρr I s) := A.out.ahead N.out; have B3 := ze (Box.step g9.out m8 A.out); have x4 := B3.out.c4; have j8 : ρr.tr g2 := m6; have N3 : Hid (Node5 I g2 (o2 + 10) u2 (.slice f2 u2.subs.length c2)) := N2.out.step j8 f7.out; have m4 : I.cell? ⟨g2,o2 + 14,none⟩ = some (.slice f2 u2.subs.length c2) := N3.out.c4; have A3 : Hid (AF ρr.tr I u2.subs (.slice f2 u2.subs.length c2)) := A2.out.step f7.out; have j9 := ze (jt B.out.ck E.out.ok B.out.col A3.out j3.out f3.out); go_wp2_with fail; go_at_call 76; refine j9.out.mono ?_; rintro e X ⟨rfl,ρ4,K⟩; have f8 := ze K; have d7 : Hid (CB ρ4 X q.1 b ⟨m,some k⟩ (.pointer rp)) := B.out.step K; have L : k < q.1.prs.length := Nat.lt_of_lt_of_le J K.prs; have a6 : ρ4.pr k = F := (K.agr.pr k J).trans b0; obtain ⟨n0,k0,Q,f9,k1,k2⟩ := (K.km.pr k L).bk; rw [a6] at Q; have n1 := ze Q; have k3 := ze f9; have n3 := ze k1; have k4 := ze k2; have e4 := Q.c 4 _ rfl; have e3 : X.cell? ⟨F,3,none⟩ = some n0 := Q.c 3 _ rfl; have ez := Q.z; have k5 : ρ4.col F = some (.pr k) := K.agr.col _ _ f6; obtain ⟨k6,k7,k8,-,-⟩ := f9.at.form; subst k8; clear K Q f9 k1 k2 x4 m4; go_wp2_with fail; obtain ⟨w5,g0⟩ : ∃ z,z = X.setCell ⟨F,4,none⟩ (.int .i64 q.2) := ⟨_,rfl⟩
     try rw [<- g0]
     have n4 : ∀ g,k0.ownBlock = some g -> g ≠ F := fun g H e => by have d := k4.out g H; rw [e,k5] at d; cases d
     obtain ⟨ρ5,k9⟩ : ∃ z,z = ρ4.gr k0.ownBlock (.pa k) := ⟨_,rfl⟩
     have g1 : Hid (Stp True ρ4 X q.1 ρ5 w5 D) := by
      have d := c5.out; rw [k9,g0]; rw [show D = _ from a9.out] at d ⊢; refine Stp.prq f8.out.km f8.out.ok L ?_ ?_ k3.out rfl ?_ (fun g H => .inl (k4.out g H)) d
      ·rw [a6]
       exact (Sm.refl X _).put (fun d => d.1 rfl) _ _
      ·rw [a6]
       exact n1.out.set 4 _
      ·exact zZ n3.out ((Sm.refl X (fun g => g ≠ F)).put (fun d => d rfl) _ _) n4
     have b3 : Hid (CB ρ5 w5 D b ⟨m,some k⟩ (.pointer rp)) := d7.out.step g1.out; have Y : Hid (Stp True ρr I s ρ5 w5 D) := f8.out.trans g1.out
     have c7 : Hid ((D.pr k).result = (s.pr k).result) := by
      show _ = _
      rw [show D = _ from a9.out,show (q.1.setPr k _).pr k = _ from yZ _ _ _ L]
      exact (tD _ _ _ _ J f3.out).1
     have l0 : ∀ q,(s.pr k).result = some q -> q < s.tys.length := (KS.okIn E.out.ok).prRes k J
     have c3 : Hid (w5.cell? ⟨b,3,none⟩ = some (ρ5.tyP (D.pr k).result)) := by
      show _ = _
      rw [show (D.pr k).result = _ from c7.out,uR Y.out.agr l0,<- show Value.pointer rp = _ from m7.out]
      exact b3.out.bk.c 3 _ rfl
     have b4 := KS.full c5.out j4.out
     have A5 : Hid (AT w5 (D.pr k).acts (.slice k6 (q.1.pr k).acts.length k7)) := by
      have d := (k3.out.step g1.out).at; rw [show D = _ from a9.out,show (q.1.setPr k _).pr k = _ from yZ _ _ _ L]
      exact d
     have g3 := ze (gj (CAll.of b3.out.ck b4.1 b4.2.1 b4.2.2 30) (res := (D.pr k).result) (fun q2 d => Nat.lt_of_lt_of_le (l0 q2 ((show (D.pr k).result = _ from c7.out) ▸ d)) Y.out.tys) 30 (D.pr k).acts (fT a1.out) w5 (.slice k6 (q.1.pr k).acts.length k7) b3.out.ck c3.out A5.out); clear b4 g0 e4 e3 ez k9; go_at_call 59; refine g3.out.mono ?_; rw [c6.out]; rintro e w6 ⟨l1,rfl⟩; have G6 := ze l1; clear l1; go_wp2_with fail
     go_roundw
     case rel => exact ⟨j + 1,ρ5,D,_,_,by omega,by go_num,d5,E.out.trans ((f7.out.trans Y.out.less).behind G6.out),b3.out.up G6.out⟩
     case measure => first | omega | (simp only [intOf]; omega) | (simp; omega)
    ·have hE := rn (by omega) HE.out
     subst hE; obtain ⟨o1,o3,o4,mb,-⟩ := (f.out.ck.km.md m f.out.ck.hc).bk; have o5 : wr.cell? ⟨ρr.md m,0,none⟩ = some (.pointer (some ⟨ρr.wd,0,none⟩)) := mb.c 0 _ rfl; have o6 : wr.cell? ⟨ρr.md m,1,none⟩ = some (.pointer (some ⟨ρr.md m,0,none⟩)) := mb.c 1 _ rfl; have o7 : wr.cell? ⟨ρr.md m,2,none⟩ = some (.map none) := mb.c 2 _ rfl; have q0 := f.out.bk.c 0 _ rfl; have q1 := f.out.bk.c 1 _ rfl; have q2 := f.out.bk.c 2 _ rfl; have q3 := f.out.bk.c 3 _ rfl; have qz := f.out.bk.z; clear mb; go_wp2; refine bodyPost_end (results_none rfl _ _ _) rfl ?_
     exact ⟨rfl,ρr,(d8.out.trans E.out).trans (Stp.own f.out.ck.km E.out.ok f.out.col ((((((Sm.refl wr _).put (fun d => d rfl) _ _).put (fun d => d rfl) _ _).put (fun d => d rfl) _ _).put (fun d => d rfl) _ _))),CB.of E.out.ok (Stp.own f.out.ck.km E.out.ok f.out.col ((((((Sm.refl wr _).put (fun d => d rfl) _ _).put (fun d => d rfl) _ _).put (fun d => d rfl) _ _).put (fun d => d rfl) _ _))).km ((((f.out.bk.set 0 _).set 1 _).set 2 _).set 3 _) f.out.col f.out.ck.hc (fun p hp => by cases hp)⟩
end
def sL (n : T) : Bool := decide (6 <= n.subs.length) && (sub n 0).subs.isEmpty && ((sub n 2).subs.all fun t => decide (1 <= t.subs.length) && decide (1 <= (sub t 0).subs.length)) && ((sub n 4).subs.all fun t => decide (4 <= t.subs.length)) && decide ((sub n 4).subs.length <= 1000)
def KS.bodyD (m : Nat) (S : KS) (n : T) : Option KS := if sL n = false then none else (yw (KS.constC m) (sub n 1).subs S).bind fun S3 =>
  (yw (KS.typeC m) (sub n 2).subs S3).bind fun S4 => (yw (KS.filledC m) (sub n 2).subs S4).bind fun S5 => (vP (KS.varC m) (sub n 3).subs S5 0).bind fun q =>
  (ve (q.1.setMd m { q.1.md m with words := q.2 })).bind fun S6 => (yw (KS.headC m) (sub n 4).subs S6).bind fun S7 => (uB m S6.prs.length (sub n 4).subs S7).bind fun S8 =>
  (ve (S8.setMd m { S8.md m with acts := (sub n 5).subs })).bind fun S9 => S9.actsO ⟨m,none⟩ none (sub n 5).subs
def KS.wholeD (S : KS) (n : T) : Option KS := match lk S.mods n.name with
 | some _ => none
 | none => (ve (S.addMd { md0 with name := n.name })).bind fun S1 => (S1.bodyD S.mds.length n).bind fun S10 => ve { S10 with mods := (n.name,S.mds.length) :: S10.mods }
theorem oA {m : Nat} {S S' : KS} {n : T} (h : S.bodyD m n = some S') : 6 <= n.subs.length /\ (sub n 0).subs = [] /\ (∀ t ∈ (sub n 2).subs,1 <= t.subs.length /\ 1 <= (sub t 0).subs.length) /\ (∀ t ∈ (sub n 4).subs,4 <= t.subs.length) /\ (sub n 4).subs.length <= 1000 /\
  ∃ S3 S4 S5 q S6 S7 S8,yw (KS.constC m) (sub n 1).subs S = some S3 /\ yw (KS.typeC m) (sub n 2).subs S3 = some S4 /\ yw (KS.filledC m) (sub n 2).subs S4 = some S5 /\ vP (KS.varC m) (sub n 3).subs S5 0 = some q /\ ve (q.1.setMd m { q.1.md m with words := q.2 }) = some S6 /\
   yw (KS.headC m) (sub n 4).subs S6 = some S7 /\ uB m S6.prs.length (sub n 4).subs S7 = some S8 /\ S' = S8.setMd m { S8.md m with acts := (sub n 5).subs } /\ S'.okB = true /\ S'.fullB = true /\ rG (sub n 5).subs = true /\ S'.actsF ⟨m,none⟩ (S'.level ⟨m,none⟩ 30) none 30 (sub n 5).subs = .ok () := by
 unfold KS.bodyD at h
 split at h
 ·cases h
 ·rename_i hs
  have b : sL n = true := by simpa using hs
  simp only [sL,Bool.and_eq_true,decide_eq_true_eq,List.all_eq_true,List.isEmpty_iff] at b; obtain ⟨⟨⟨⟨g,j⟩,l⟩,o⟩,r⟩ := b; refine ⟨g,j,l,o,r,?_⟩; obtain ⟨S3,s,h⟩ := Option.bind_eq_some_iff.1 h; obtain ⟨S4,u,h⟩ := Option.bind_eq_some_iff.1 h; obtain ⟨S5,v,h⟩ := Option.bind_eq_some_iff.1 h; obtain ⟨q,x,h⟩ := Option.bind_eq_some_iff.1 h; obtain ⟨S6,z,h⟩ := Option.bind_eq_some_iff.1 h; obtain ⟨S7,A,h⟩ := Option.bind_eq_some_iff.1 h; obtain ⟨S8,B,h⟩ := Option.bind_eq_some_iff.1 h; obtain ⟨_,c,h⟩ := Option.bind_eq_some_iff.1 h; obtain ⟨rfl,d⟩ := yg c
  unfold KS.actsO at h
  split at h
  ·rename_i h12
   obtain ⟨_,e,f⟩ := Option.bind_eq_some_iff.1 h; obtain rfl := Option.some.inj f
   exact ⟨S3,S4,S5,q,S6,S7,S8,s,u,v,x,z,A,B,rfl,d,h12.1,h12.2,jq e⟩
  ·cases h
section
variable {ρ ρ' : Lay} {w w' : World} {S S' : KS} {k : Prop} {i : Nat}
theorem Stp.acts (h : KM ρ w S) (hk : S.okB = true) (hl : i < S.mds.length) {av : Value} {l : List T} (hs : Sm w w' (fun g => g ≠ ρ.md i)) (hb : ∀ av0 iv dv,Bk w (ρ.md i) (mdV ρ i (S.md i) av0 iv dv) -> Bk w' (ρ.md i) (mdV ρ i { S.md i with acts := l } av iv dv)) (ha : AF ρ.tr w l av) (hk' : (S.setMd i { S.md i with acts := l }).okB = true) : Stp k ρ w S ρ w' (S.setMd i { S.md i with acts := l }) := by
 have M := h.md i hl
 have N : ∀ lb : Lb,lb ≠ .md i -> ∀ g,ρ.col g = some lb -> g ≠ ρ.md i := fun lb hlb g hg e => hlb (by rw [e,M.col] at hg; exact (Option.some.inj hg).symm)
 obtain ⟨av0,iv,dv,f,_,c,d⟩ := M.bk
 refine ⟨h.setMd (KS.okIn hk) (Agr.refl _ _) hl (hs.mono (fun g _ hg e => hg.1 (by rw [e]; exact M.col))) (fun b hb => h.fr b (Nat.le_trans hs.size hb)) ⟨⟨av,iv,dv,hb _ _ _ f,ha.sm hs (N _ nofun),⟨zZ c.1 hs (fun g hg => N (.im i) nofun g (c.2 g hg)),c.2⟩,zZ d.1 hs (fun g hg => N (.de i) nofun g (d.2 g hg)),d.2⟩,M.mp.sm hs (N (.nm i) nofun _ M.coln),M.col,M.coln⟩,
  hk',Agr.refl _ _,fun _ _ => rfl,hs.mono (fun g _ hg => hg.ne M.col nofun nofun),Nat.le_refl _,Nat.le_refl _,Nat.le_refl _,by simp [KS.setMd]⟩
end
section
variable {ρ : Lay} {w w' w1 : World} {S : KS} {b : Nat} {c : KSc}
theorem sQ {mm : Nat} (h : CB ρ w S b ⟨mm,none⟩ (.pointer none)) (n : T) (sv : Value) (hf : Fits n) (hk : S.okB = true) {S' : KS} (ha : AF ρ.tr w n.subs sv) (hno : lk S.mods n.name = none) (hC : S.bodyD mm n = some S') :
  Calls Tryz.prog 40 #[.pointer (some ⟨b,0,none⟩),zn n sv] w (fun e w' => e = .returned (.tuple #[]) /\ ∃ ρ',Stp False ρ w S ρ' w' S' /\ CB ρ' w' S' b ⟨mm,none⟩ (.pointer none)) := by
 have HK := ze h; have HB := ze hk; have hx := hf.name; obtain ⟨Y,Z,a6,a7,c8,S3,_,S5,_,S6,_,S8,h3,h4,h5,h6,h7,h8,k,a8,c9,d0,a9,b0⟩ := oA hC; obtain ⟨_,E,rfl,_,_⟩ := ha.at.form; obtain ⟨g,o,rfl,q,d⟩ := ha.nodes (by omega); obtain ⟨u0,b1⟩ : ∃ u,n.subs[0]? = some u := ⟨_,List.getElem?_eq_getElem (by omega)⟩; obtain ⟨s0,n0,-,a0⟩ := d 0 u0 b1; obtain ⟨d1,c0,rfl,-,-⟩ := a0.at.form; have f9 : Hid (Node5 w g (o + 0) u0 (.slice d1 u0.subs.length c0)) := n0; have g0 := ze a0; obtain ⟨u1,b2⟩ : ∃ u,n.subs[1]? = some u := ⟨_,List.getElem?_eq_getElem (by omega)⟩; obtain ⟨s1,n1,-,a1⟩ := d 1 u1 b2; obtain ⟨d2,c1,rfl,-,-⟩ := a1.at.form; have g1 : Hid (Node5 w g (o + 5) u1 (.slice d2 u1.subs.length c1)) := n1; have g2 := ze a1; obtain ⟨u2,b3⟩ : ∃ u,n.subs[2]? = some u := ⟨_,List.getElem?_eq_getElem (by omega)⟩; obtain ⟨s2,n2,-,a2⟩ := d 2 u2 b3; obtain ⟨d3,c2,rfl,-,-⟩ := a2.at.form; have g3 : Hid (Node5 w g (o + 10) u2 (.slice d3 u2.subs.length c2)) := n2; have g4 := ze a2; obtain ⟨u3,b4⟩ : ∃ u,n.subs[3]? = some u := ⟨_,List.getElem?_eq_getElem (by omega)⟩; obtain ⟨s3,n3,-,a3⟩ := d 3 u3 b4; obtain ⟨d4,c3,rfl,-,-⟩ := a3.at.form; have g5 : Hid (Node5 w g (o + 15) u3 (.slice d4 u3.subs.length c3)) := n3; have g6 := ze a3; obtain ⟨u4,b5⟩ : ∃ u,n.subs[4]? = some u := ⟨_,List.getElem?_eq_getElem (by omega)⟩; obtain ⟨s4,n4,-,a4⟩ := d 4 u4 b5; obtain ⟨d5,c4,rfl,-,-⟩ := a4.at.form; have g7 : Hid (Node5 w g (o + 20) u4 (.slice d5 u4.subs.length c4)) := n4; have g8 := ze a4; obtain ⟨j,b6⟩ : ∃ u,n.subs[5]? = some u := ⟨_,List.getElem?_eq_getElem (by omega)⟩; obtain ⟨s5,n5,-,a5⟩ := d 5 j b6; obtain ⟨f,U,rfl,-,-⟩ := a5.at.form; have g9 : Hid (Node5 w g (o + 25) j (.slice f j.subs.length U)) := n5; have h0 := ze a5; rw [xR b1] at Z; rw [xR b2] at h3; rw [xR b3] at a6 h4 h5; rw [xR b4] at h6; rw [xR b5] at a7 c8 h8 k; rw [xR b6] at a8 a9 b0; have H3 := ze h3; have H4 := ze h4; have H5 := ze h5; have H6 := ze h6; have H7 := ze h7; have H8 := ze h8; have H9 := ze k; have h1 := ze a8; have d6 := ze c9; have h2 := ze d0; have j0 := ze a9; have j1 := ze b0; have j2 := ze Z; have j3 := ze a6; have j4 := ze a7; have j5 : Hid (w.cell? ⟨b,0,none⟩ = some (.pointer (some ⟨ρ.wd,0,none⟩))) := h.ck.s0; have j6 : Hid (w.cell? ⟨ρ.wd,4,none⟩ = some (.map (some ρ.mo))) := h.ck.km.wd.c 4 _ rfl
 have j7 : Hid (∀ w9,w.grownBy w9 none -> (Instr.lookup 96 (.map (some ρ.mo)) (.string ⟨n.name.toArray⟩) false).run Tryz.prog w9 = .ok (.pointer none) w9) := fun w9 G => by
  have k := ((h.ck.km.up G).mo).look Tryz.underlying96 (pI w9) n.name hx; rw [show lk (ρ.mds S.mods) n.name = none by unfold Lay.mds; rw [dp,hno]; rfl] at k
  exact k
 clear h hk hf ha hC hno d n0 n1 n2 n3 n4 n5 a0 a1 a2 a3 a4 a5 b1 b2 b3 b4 b5 b6 h3 h4 h5 h6 h7 h8 k a8 c9 d0 a9 b0 Z a6 a7; obtain ⟨H,x,m,p,l⟩ := n
 change Calls Tryz.prog 40 #[.pointer (some ⟨b,0,none⟩),.agg #[.int .i64 H,.string ⟨x.toArray⟩,.int .i64 m,.int .i64 p,.slice (some ⟨g,o,none⟩) l.length E]] w _
 obtain ⟨w0,I⟩ : ∃ z,z = w.alloc (.cells #[.int .i64 H,.string ⟨x.toArray⟩,.int .i64 m,.int .i64 p,.slice (some ⟨g,o,none⟩) l.length E] 100) := ⟨_,rfl⟩
 have G0 : Hid (w.grownBy w0 none) := by rw [I]; exact zf (zc w none) _
 have B0 : Hid (Box w0 w.heap.size (.mk H x m p l) (.slice (some ⟨g,o,none⟩) l.length E)) := by rw [I]; exact Box.new w (.mk H x m p l) (.slice (some ⟨g,o,none⟩) l.length E) _
 change 6 <= l.length at Y
 have d7 : Hid (∀ w9,w.grownBy w9 none -> (Instr.lookup 96 (.map (some ρ.mo)) (.string ⟨x.toArray⟩) false).run Tryz.prog w9 = .ok (.pointer none) w9) := j7.out
 have k9 : ¬ ((l.length : Int) <= 0) := by omega
 have l0 : ¬ ((l.length : Int) <= 1) := by omega
 have l1 : ¬ ((l.length : Int) <= 2) := by omega
 have l2 : ¬ ((l.length : Int) <= 3) := by omega
 have l3 : ¬ ((l.length : Int) <= 4) := by omega
 have l4 : ¬ ((l.length : Int) <= 5) := by omega
 have l5 : ¬ l = [] := fun e => by rw [e] at Y; simp at Y
 go_enter Tryz.func40,Tryz.ntmps40
 go_wp2_with fail; rw [<- I]; clear I; refine wp_region_held_drew (S := fun w9 => w0.grownBy w9 none) (by kernel_rfl) ?_ (fun hHeld => ?_)
 ·exact zh (zc w0 none)
 refine kQ 0 4 (.pointer (some ⟨b,0,none⟩)) hHeld ?_; simp only [qA,qB,qC,qD]; refine kQ 1 5 (.pointer (some ⟨b,0,none⟩)) hHeld ?_; simp only [qA,qB,qC,qD]; refine kQ 2 6 (.pointer (some ⟨b,0,none⟩)) hHeld ?_; simp only [qA,qB,qC,qD]; refine kQ 3 7 (.pointer (some ⟨b,0,none⟩)) hHeld ?_; simp only [qA,qB,qC,qD]; refine dk 4 (some 8) (.pointer (some ⟨ρ.wd,0,none⟩)) rfl rfl (fun w9 hS => by have q1 := zi (za G0.out hS) j5.out; go_simp) hHeld ?_; simp only [qA,qB,qC,qD]; refine kQ 5 9 (.pointer (some ⟨ρ.wd,0,none⟩)) hHeld ?_; simp only [qA,qB,qC,qD]; refine kQ 6 10 (.pointer (some ⟨ρ.wd,4,none⟩)) hHeld ?_; simp only [qA,qB,qC,qD]; refine dk 7 (some 11) (.map (some ρ.mo)) rfl rfl (fun w9 hS => by have q1 := zi (za G0.out hS) j6.out; go_simp) hHeld ?_; simp only [qA,qB,qC,qD]; refine kQ 8 12 (.pointer (some ⟨w.heap.size,1,none⟩)) hHeld ?_; simp only [qA,qB,qC,qD]; refine dk 9 (some 13) (.string ⟨x.toArray⟩) rfl rfl (fun w9 hS => by obtain ⟨q0,q1,q2,q3,q4⟩ := (Box.kept B0.out hS).plain; go_simp) hHeld ?_; simp only [qA,qB,qC,qD]; refine dk 10 (some 14) (.pointer none) rfl rfl (fun w9 hS => by have q1 := d7.out w9 (za G0.out hS); go_simp) hHeld ?_; simp only [qA,qB,qC,qD]; refine kQ 11 15 (.bool false) hHeld ?_; simp only [qA,qB,qC,qD]; refine wpAnyH_done (by kernel_rfl) ?_ _; clear hHeld; obtain ⟨w1,J⟩ : ∃ z,z = w0.drew := ⟨_,rfl⟩; rw [<- J]
 have G1 : Hid (w.grownBy w1 none) := by rw [J]; exact zh G0.out
 have B1 : Hid (Box w1 w.heap.size (.mk H x m p l) (.slice (some ⟨g,o,none⟩) l.length E)) := by rw [J]; exact B0.out.kept (zh (zc w0 none))
 clear J; have j8 : ρ.col w.heap.size = none := HK.out.ck.km.fr _ (Nat.le_refl _); have b7 : Hid (CB ρ w1 S b ⟨mm,none⟩ (.pointer none)) := HK.out.up G1.out; have r : Hid (Stp False ρ w S ρ w1 S) := (Stp.refl HK.out.ck.km HB.out).behind G1.out; have K := B1.out.c4; have N1 := ze (f9.out.step q r.out); have F : w1.cell? ⟨g,o + 4,none⟩ = some (.slice d1 u0.subs.length c0) := N1.out.c4; have A1 := ze (g0.out.step r.out)
 have V : u0.subs.length = 0 := by rw [show u0.subs = _ from j2.out]; rfl
 rw [V] at F; clear V; go_wp2_with fail; go_at_call 54; refine (fB).mono ?_; rintro e w2 ⟨rfl,d8⟩; rw [d8]; clear d8 w2 K F; have d9 := j8; have f0 : w.heap.size < w1.heap.size := zw B1.out.c0; have K := B1.out.c4; have N1 := ze (g1.out.step q r.out); have F : w1.cell? ⟨g,o + 9,none⟩ = some (.slice d2 u1.subs.length c1) := N1.out.c4; have A1 := ze (g2.out.step r.out); have j9 := ze (qU b7.out.ck HB.out b7.out.col A1.out H3.out); go_wp2_with fail; go_at_call 55; refine j9.out.mono ?_; rintro e w2 ⟨rfl,ρ2,s⟩; have t := ze s; clear s K F; have L : Hid (Stp False ρ w S ρ2 w2 S3) := r.out.trans t.out.less; have B2 : Hid (Box w2 w.heap.size (.mk H x m p l) (.slice (some ⟨g,o,none⟩) l.length E)) := Box.step B1.out d9 t.out; have f1 : ρ2.col w.heap.size = none := (t.out.col _ f0).trans d9; have f2 : w.heap.size < w2.heap.size := Nat.lt_of_lt_of_le f0 t.out.sm.size; have b8 := ze (b7.out.step t.out); have K := B2.out.c4; have N2 := ze (g3.out.step q L.out); have F : w2.cell? ⟨g,o + 14,none⟩ = some (.slice d3 u2.subs.length c2) := N2.out.c4; have A2 := ze (g4.out.step L.out); have k0 := ze (sM b8.out.ck L.out.ok b8.out.col A2.out j3.out H4.out H5.out); go_wp2_with fail; go_at_call 56; refine k0.out.mono ?_; rintro e w3 ⟨rfl,ρ3,s⟩; have v := ze s; clear s K F; have M : Hid (Stp False ρ w S ρ3 w3 S5) := L.out.trans v.out.less; have B3 : Hid (Box w3 w.heap.size (.mk H x m p l) (.slice (some ⟨g,o,none⟩) l.length E)) := Box.step B2.out f1 v.out; have f3 : ρ3.col w.heap.size = none := (v.out.col _ f2).trans f1; have f4 : w.heap.size < w3.heap.size := Nat.lt_of_lt_of_le f2 v.out.sm.size; have b9 := ze (b8.out.step v.out); have K := B3.out.c4; have N3 := ze (g5.out.step q M.out); have F : w3.cell? ⟨g,o + 19,none⟩ = some (.slice d4 u3.subs.length c3) := N3.out.c4; have A3 := ze (g6.out.step M.out); have k1 := ze (gQ b9.out.ck M.out.ok b9.out.col A3.out H6.out H7.out); go_wp2_with fail; go_at_call 57; refine k1.out.mono ?_; rintro e w4 ⟨rfl,ρ4,s⟩; have A := ze s; clear s K F; have N : Hid (Stp False ρ w S ρ4 w4 S6) := M.out.trans A.out.less; have B4 : Hid (Box w4 w.heap.size (.mk H x m p l) (.slice (some ⟨g,o,none⟩) l.length E)) := Box.step B3.out f3 A.out; have f5 : ρ4.col w.heap.size = none := (A.out.col _ f4).trans f3; have f6 : w.heap.size < w4.heap.size := Nat.lt_of_lt_of_le f4 A.out.sm.size; have k2 := ze (b9.out.step A.out); have K := B4.out.c4; have N4 := ze (g7.out.step q N.out); have F : w4.cell? ⟨g,o + 24,none⟩ = some (.slice d5 u4.subs.length c4) := N4.out.c4; have A4 := ze (g8.out.step N.out); have k3 := ze (qp k2.out N.out.ok A4.out c8 j4.out H8.out H9.out); go_wp2_with fail; go_at_call 58; refine k3.out.mono ?_; rintro e B ⟨rfl,ρ5,s,cb⟩; have O := ze s
 clear s K F; have Q : Hid (Stp False ρ w S ρ5 B S8) := N.out.trans O.out; have B5 : Hid (Box B w.heap.size (.mk H x m p l) (.slice (some ⟨g,o,none⟩) l.length E)) := Box.step B4.out f5 O.out; have l6 : ρ5.col w.heap.size = none := (O.out.col _ f6).trans f5; have l7 : w.heap.size < B.heap.size := Nat.lt_of_lt_of_le f6 O.out.sm.size; have i := ze cb; clear cb; obtain ⟨l8,k4,k5,mb,-⟩ := (i.out.ck.km.md mm i.out.ck.hc).bk; have MB := ze mb; have l9 := (i.out.ck.km.md mm i.out.ck.hc).col; have N5 := ze (g9.out.step q Q.out); have A5 : Hid (AF ρ5.tr B j.subs (.slice f j.subs.length U)) := h0.out.step Q.out; have k6 : Hid (B.cell? ⟨b,1,none⟩ = some (.pointer (some ⟨ρ5.md mm,0,none⟩))) := i.out.ck.s1; clear mb; go_wp2_with fail; refine yn [13] (S := fun w9 => B.grownBy w9 none) (by kernel_rfl) ?_ (fun hHeld => ?_)
 ·exact zh (zc B none)
 refine zk 0 (some 53) (.pointer (some ⟨b,0,none⟩)) rfl rfl (fun w9 _ => by go_simp) hHeld ?_; simp only [qA,qB,qC,qD]; refine zk 1 (some 54) (.pointer (some ⟨b,0,none⟩)) rfl rfl (fun w9 _ => by go_simp) hHeld ?_; simp only [qA,qB,qC,qD]; refine zk 2 (some 55) (.pointer (some ⟨b,0,none⟩)) rfl rfl (fun w9 _ => by go_simp) hHeld ?_; simp only [qA,qB,qC,qD]; refine zk 3 (some 56) (.pointer (some ⟨b,1,none⟩)) rfl rfl (fun w9 _ => by go_simp) hHeld ?_; simp only [qA,qB,qC,qD]; refine zk 4 (some 57) (.pointer (some ⟨ρ5.md mm,0,none⟩)) rfl rfl (fun w9 hS => by have q1 := zi hS k6.out; go_simp) hHeld ?_; simp only [qA,qB,qC,qD]; refine zk 5 (some 58) (.pointer (some ⟨w.heap.size,4,none⟩)) rfl rfl (fun w9 _ => by go_simp) hHeld ?_; simp only [qA,qB,qC,qD]; refine zk 6 (some 59) (.slice (some ⟨g,o,none⟩) l.length E) rfl rfl (fun w9 hS => by obtain ⟨q0,q1,q2,q3,q4⟩ := (Box.kept B5.out hS).plain; go_simp) hHeld ?_; simp only [qA,qB,qC,qD]; refine zk 7 (some 60) (.pointer (some ⟨g,o + 25,none⟩)) rfl rfl (fun w9 _ => by go_simp) hHeld ?_; simp only [qA,qB,qC,qD]; refine zk 8 (some 61) (.pointer (some ⟨g,o + 29,none⟩)) rfl rfl (fun w9 _ => by go_simp) hHeld ?_; simp only [qA,qB,qC,qD]; refine zk 9 (some 62) (.slice f j.subs.length U) rfl rfl (fun w9 hS => by have q1 := zi hS N5.out.c4; go_simp) hHeld ?_; simp only [qA,qB,qC,qD]; refine zr 10 (by kernel_rfl) rfl (fun KK hKK => ?_)
 go_simp
 refine hKK.out _ _ hHeld (fun hHeld => ?_); clear hKK KK; refine zr 11 (by kernel_rfl) rfl (fun KK hKK => ?_)
 go_simp
 refine hKK.out _ _ hHeld (fun hHeld => ?_); clear hKK KK; refine zr 12 (by kernel_rfl) rfl (fun KK hKK => ?_)
 go_simp
 refine hKK.out _ _ hHeld (fun hHeld => ?_); clear hKK KK; have e3 := MB.out.c 3 _ rfl; have ez := MB.out.z; refine zl 13 (by kernel_rfl) rfl rfl (fun KK hKK => ?_)
 go_simp
 refine hKK.out _ _ ?_; clear hKK KK; clear e3 ez; refine zd (by kernel_rfl) ?_ _; clear hHeld; obtain ⟨X,C⟩ : ∃ z,z = (B.setCell ⟨ρ5.md mm,3,none⟩ (.slice f j.subs.length U)).drew := ⟨_,rfl⟩; rw [<- C]
 have S6 : Hid (Sm B X (fun g => g ≠ ρ5.md mm)) := by rw [C]; exact ((Sm.refl B _).put (fun k => k rfl) _ _).drew
 have k7 : Hid (Bk X (ρ5.md mm) (mdV ρ5 mm { S8.md mm with acts := j.subs } (.slice f j.subs.length U) k4 k5)) := by rw [C]; exact (MB.out.set 3 _).drew
 have c6 : Hid (Stp True ρ5 B S8 ρ5 X S') := by
  have k := d6.out; rw [show S' = _ from h1.out] at k ⊢; refine Stp.acts i.out.ck.km Q.out.ok i.out.ck.hc S6.out (fun av0 iv dv hB => ?_) A5.out k; rw [C]
  exact (hB.set 3 _).drew
 clear C; have D : Hid (CB ρ5 X S' b ⟨mm,none⟩ (.pointer none)) := i.out.step c6.out; have A6 : Hid (AT X j.subs (.slice f j.subs.length U)) := (A5.out.step c6.out).at; have f7 : X.cell? ⟨b,1,none⟩ = some (.pointer (some ⟨ρ5.md mm,0,none⟩)) := D.out.ck.s1; have k8 : X.cell? ⟨ρ5.md mm,3,none⟩ = some (.slice f j.subs.length U) := k7.out.c 3 _ rfl; have R := KS.full d6.out h2.out; have c7 := ze (gj (CAll.of D.out.ck R.1 R.2.1 R.2.2 30) (res := none) (fun q2 k => by cases k) 30 j.subs (fT j0.out) X (.slice f j.subs.length U) D.out.ck (D.out.bk.c 3 _ rfl) A6.out); clear R; go_wp2_with fail; go_at_call 59; refine c7.out.mono ?_; rw [j1.out]; rintro e w7 ⟨f8,rfl⟩; have G7 := ze f8; clear f8 f7 k8; go_wp2; refine bodyPost_end (results_none rfl _ _ _) rfl ?_
 exact ⟨rfl,ρ5,(Q.out.trans c6.out.less).behind G7.out,D.out.up G7.out⟩
end
end Go.Proofs.YtnmkffjklpfflaaGreatDoor
