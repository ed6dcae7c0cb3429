/- A module is put behind the others. -/
import Derived.Test.YtnmkffjklpfflaaGreatDoorG40
import Derived.Test.YtnmkffjklpfflaaGreatDoorG42
namespace Go.Proofs.YtnmkffjklpfflaaGreatDoor
open Go.RowKit
set_option maxHeartbeats 4000000
set_option maxRecDepth 100000
section
variable {ρ : Lay} {w w' w1 : World} {S : KS} {b : Nat} {c : KSc}
theorem uX {fn : Func} {t t' : Array Value} {R : Ending -> World -> Prop} (h : results fn t = results fn t') : ∀ (ds : List Deferred) (u : FrameMode) (w : World),Leaves Tryz.prog fn t R ds u w -> Leaves Tryz.prog fn t' R ds u w
 | [],u,w,h9 => by
  cases u with
  | run => exact h9
  | returning =>
   simp only [Leaves] at h9 ⊢; rw [<- h]
   exact h9
  | panicking c => exact h9
 | d :: ds,u,w,h9 => by
  simp only [Leaves] at h9 ⊢; obtain ⟨h1,fv,cap,f,args,h2,h3,h4⟩ := h9; refine ⟨h1,fv,cap,f,args,h2,h3,h4.mono ?_⟩; intro e u' w' h5; cases e with
  | returned v => exact uX h ds _ _ h5
  | panicked c => exact uX h ds _ _ h5
  | outgrown => exact h5
theorem ja {R : Ending -> World -> Prop} {c : List PanicEntry} {a : Act} {v : Value} {d : Nat} (h4 : d ≠ 4) (h5 : d ≠ 5) (h : bodyPostD Tryz.prog Tryz.f26 R (.panic c) (a.put (some d) v) w) : bodyPostD Tryz.prog Tryz.f26 R (.panic c) a w := by
 unfold bodyPostD at h ⊢
 simp only [Act.put] at h; refine uX ?_ _ _ _ h
 simp [results,Tryz.results26,Array.getElem?_setIfInBounds,h4,h5]
theorem oM {W : World} {b : Nat} {v ev : Value} {tmps : Array Value} (he : W.cell? ⟨b,0,none⟩ = some ev) (t4 : tmps[4]?.getD undef = v) (t5 : tmps[5]?.getD undef = .pointer (some ⟨b,0,none⟩)) :
  (results Tryz.f26 tmps).run Tryz.prog W = .ok (.tuple #[v,ev]) W := by
 simp [results,Tryz.results26,t4,t5,go_sem,he]
theorem pX {S' : KS} (h : KM ρ w S) (hk : S.okB = true) (s : ByteArray) {l : List (List UInt8 × List UInt8)} {n : T} {j : Nat} (hs : s.size <= 4000) (ht : vD s.data.toList = .ok l) (hw : vB (um s.data.toList.length l) 0 = .ok (n,j)) (hfit : ∀ t ∈ n.subs,∃ f,fz f t = true) (hfn : Fits n) (hC : S.wholeD n = some S') (_hml : S.mods.length <= 1000) (hmls : ∀ S1,(S.addMd { md0 with name := n.name }).bodyD S.mds.length n = some S1 -> S1.mods.length <= 1000)
  (htab : Lib.TabIs Tryz.prog w "strings.asciiSpace" .u8 Lib.asciiSpaceTab) :
  Calls Tryz.prog 26 #[.pointer (some ⟨ρ.wd,0,none⟩),.string s] w (fun e w' => ∃ ρ',e = .returned (.tuple #[.pointer (some ⟨ρ'.md S.mds.length,0,none⟩),.nilIface]) /\ Stp False ρ w S ρ' w' S') := by
 have f4 : ∀ (fn : Fn) (first cap : Array Value) (w : World),(Instr.makeFunc fn first cap).run Tryz.prog w = .ok (.func fn first cap) w := fun _ _ _ _ => rfl
 have HM := ze h; have HB := ze hk; obtain ⟨a3,Q,S1,Y,a4,R⟩ := fS hC; have c0 := ze a3; have U := ze Q; have c2 := ze Y; have a5 := ze a4; have V := ze R; have a6 := ze (hmls S1 Y); have c3 := ze hfit; have a7 := ze hfn; have c4 := zB s
 have c5 : Hid (∀ w1,w.grownBy w1 none -> Calls Tryz.prog 37 #[.string s] w1 fun e m => w1.grownBy m none /\ ∃ J K,e = .returned (.tuple #[zn n (.slice J n.subs.length K),.nilIface]) /\ LR m (In w1.heap.size m.heap.size) n.subs (.slice J n.subs.length K)) := fun w1 G => by
  have hB : Below w.heap.size w w1 := ⟨G.os,G.tape,G.output,G.size,fun i hi => G.block i hi (by simp)⟩; refine (pT s w1 (by unfold maxLen; omega) (ui htab hB) mc).mono ?_; rintro e m ⟨c6,⟨L,-⟩ | ⟨-,a,f,q,L,-⟩ | ⟨-,l',x,q,L,h2,-⟩ | ⟨-,l',x,j',v,L,h2,rfl,c7⟩⟩
  ·omega
  ·rw [ht] at L; cases L
  ·rw [ht] at L
   cases L; rw [hw] at h2; cases h2
  ·rw [ht] at L
   cases L; rw [hw] at h2; cases h2; obtain ⟨_,rfl,B⟩ := c7; obtain ⟨J,K,rfl⟩ := B.form
   exact ⟨rF c6 none,J,K,rfl,B⟩
 clear h hk hs ht hw hfit hfn hC a3 Q Y a4 R hmls htab c4
 go_enter_defers Tryz.func26,Tryz.ntmps26
 go_wp2_with fail; obtain ⟨w1,C⟩ : ∃ z,z = w.alloc (.cells #[.nilIface] 27) := ⟨_,rfl⟩; rw [<- C]
 have G1 : Hid (w.grownBy w1 none) := by rw [C]; exact zf (zc w none) _
 have c8 : Hid (Bk w1 w.heap.size [.nilIface]) := by rw [C]; exact Bk.new w _ _ rfl
 have f5 : w.heap.size < w1.heap.size := by rw [C]; simp
 clear C; go_at_call 37; refine (c5.out _ G1.out).mono ?_; rintro e m ⟨M,J,K,rfl,B⟩; have G2 := ze M; have c9 := ze B; have Z := ze (c8.out.kept M (by simp)); have f6 := M.size; have e0 := Z.out.c 0 _ rfl; have ez := Z.out.z
 have f7 : w.heap.size < m.heap.size := by omega
 clear M B; go_wp2_with fail; obtain ⟨w3,r⟩ : ∃ z,z = (m.setCell ⟨w.heap.size,0,none⟩ .nilIface).alloc (.cells #[.int .i64 n.kind,.string ⟨n.name.toArray⟩,.int .i64 n.num,.int .i64 n.at',.slice J n.subs.length K] 100) := ⟨_,rfl⟩; rw [<- r]
 have S3 : Hid (Sm m w3 (fun g => g ≠ w.heap.size)) := by rw [r]; exact ((Sm.refl m _).put (fun k => k rfl) _ _).trans (Sm.of_none (zf (zc _ none) _) _)
 have G3 : Hid (w.grownBy w3 none) := (((Sm.of_none (za G1.out G2.out) (fun _ => True)).comp S3.out (fun g hg _ => by omega))).gb
 have d0 : Hid (Box w3 m.heap.size n (.slice J n.subs.length K)) := by
  have k := Box.new (m.setCell ⟨w.heap.size,0,none⟩ .nilIface) n (.slice J n.subs.length K) 100; rw [show (m.setCell ⟨w.heap.size,0,none⟩ .nilIface).heap.size = m.heap.size by simp [World.setCell]] at k; rw [r]
  exact k
 have d1 : Hid (Bk w3 w.heap.size [.nilIface]) := by rw [r]; exact (Z.out.set 0 _).kept (zf (zc _ none) _) (by simp)
 have f8 : m.heap.size < w3.heap.size := by rw [r]; simp [World.setCell]
 clear r e0 ez; obtain ⟨ρt,u⟩ : ∃ z,z = ρ.paint (fun g => if w1.heap.size <= g /\ g < m.heap.size then some .tr else none) := ⟨_,rfl⟩
 have a8 : Hid (Stp True ρ w S ρt w3 S) := by
  rw [u]
  exact ((Stp.refl HM.out HB.out).behind G3.out).paint (fun g hg => if_neg (by omega)) (fun g hg => if_neg (by omega))
 have a9 : ρt.wd = ρ.wd := by rw [u]; rfl
 have d2 : Hid (AF ρt.tr w3 n.subs (.slice J n.subs.length K)) := by
  refine ((oD c9.out c3.out).sm S3.out (fun g hg => ?_)).weak (fun g hg => ?_)
  ·have k : w1.heap.size <= g := hg.1
   omega
  ·have k : w1.heap.size <= g /\ g < m.heap.size := hg
   show ρt.col g = _
   rw [u,xJ (HM.out.fr g (by omega)),if_pos k]
 have d3 : ρt.col w.heap.size = none := by rw [u,xJ (HM.out.fr _ (Nat.le_refl _)),if_neg (by omega)]
 have d4 : ρt.col m.heap.size = none := by rw [u,xJ (HM.out.fr _ (by omega)),if_neg (by omega)]
 clear u; have b0 := ze (qh a8.out.km HB.out n.name U.out); rw [a9] at b0; go_at_call 39; refine b0.out.mono ?_; rintro e w4 ⟨ρ4,b,rfl,N,f9,D,b1⟩; have b2 := ze D; have d5 := ze b1; have d6 := ze (d2.out.step D); have b3 := ze (d0.out.kept N); have d7 := ze (d1.out.kept N (by simp)); have X : ρ4.col w.heap.size = none := (D.col _ (by omega)).trans d3; have b4 : ρ4.col m.heap.size = none := (D.col _ (by omega)).trans d4; obtain ⟨q0,q1,q2,q3,q4⟩ := b3.out; have g0 := N.size; clear D b1 N; go_wp2_with fail; have d8 := ze (sQ d5.out n (.slice J n.subs.length K) a7.out U.out d6.out c0.out c2.out); go_at_call 40; refine d8.out.mono ?_; rintro e E ⟨rfl,ρ5,A,F⟩; have b5 := ze A; have a0 := ze F; have d9 := ze (Box.step b3.out b4 A); have f0 := ze (d7.out.sm A.sm (.inl X)); have b6 : ρ5.wd = ρ.wd := A.agr.wd.trans (b2.out.agr.wd.trans a9)
 have m4 : Hid (E.cell? ⟨ρ.wd,4,none⟩ = some (.map (some ρ5.mo))) := by rw [<- b6]; exact F.ck.km.wd.c 4 _ rfl
 have c1 : Hid (E.cell? ⟨b,1,none⟩ = some (.pointer (some ⟨ρ5.md S.mds.length,0,none⟩))) := F.ck.s1; have H : ρ5.col w.heap.size = none := (A.col _ (by omega)).trans X; obtain ⟨w6,b7,b8,b9⟩ := MapAt.put (w := E.drew) (F.ck.km.mo.kept (zh (zc E none)) (by simp)) Tryz.underlying96 n.name a7.out.name (ρ5.md S.mds.length) (by simp [Lay.mds,maxLen]; have := a6.out; omega); have f1 : Hid ((Instr.mapUpdate 96 (.map (some ρ5.mo)) (.string ⟨n.name.toArray⟩) (.pointer (some ⟨ρ5.md S.mds.length,0,none⟩))).run Tryz.prog E.drew = .ok () w6) := b7; have f2 := ze b8; have O : Hid (Sm E w6 (fun g => g ≠ ρ5.mo)) := (Sm.of_none (zh (zc E none)) _).trans ((Sm.grown b9).mono (fun g _ k e => k (Option.some.inj e))); clear A F b7 b8 b9 q0 q1 q2 q3 q4; go_wp2_with fail; refine yn [11] (S := fun w9 => E.grownBy w9 none) (by kernel_rfl) ?_ (fun hHeld => ?_)
 ·exact zh (zc E none)
 refine zk 0 (some 24) (.pointer (some ⟨ρ.wd,0,none⟩)) rfl rfl (fun w9 _ => by go_simp) hHeld ?_ (hQ := fun _ _ _ h => ja (d := 24) (by decide) (by decide) h); simp only [qA,qB,qC,qD]; refine zk 1 (some 25) (.pointer (some ⟨ρ.wd,0,none⟩)) rfl rfl (fun w9 _ => by go_simp) hHeld ?_ (hQ := fun _ _ _ h => ja (d := 25) (by decide) (by decide) h); simp only [qA,qB,qC,qD]; refine zk 2 (some 26) (.pointer (some ⟨ρ.wd,4,none⟩)) rfl rfl (fun w9 _ => by go_simp) hHeld ?_ (hQ := fun _ _ _ h => ja (d := 26) (by decide) (by decide) h); simp only [qA,qB,qC,qD]; refine zk 3 (some 27) (.map (some ρ5.mo)) rfl rfl (fun w9 hS => by have q1 := zi hS m4.out; go_simp) hHeld ?_ (hQ := fun _ _ _ h => ja (d := 27) (by decide) (by decide) h); simp only [qA,qB,qC,qD]; refine zk 4 (some 28) (.pointer (some ⟨m.heap.size,1,none⟩)) rfl rfl (fun w9 _ => by go_simp) hHeld ?_ (hQ := fun _ _ _ h => ja (d := 28) (by decide) (by decide) h); simp only [qA,qB,qC,qD]; refine zk 5 (some 29) (.string ⟨n.name.toArray⟩) rfl rfl (fun w9 hS => by obtain ⟨q0,q1,q2,q3,q4⟩ := Box.kept d9.out hS; go_simp) hHeld ?_ (hQ := fun _ _ _ h => ja (d := 29) (by decide) (by decide) h); simp only [qA,qB,qC,qD]; refine zk 6 (some 30) (.pointer (some ⟨b,0,none⟩)) rfl rfl (fun w9 _ => by go_simp) hHeld ?_ (hQ := fun _ _ _ h => ja (d := 30) (by decide) (by decide) h); simp only [qA,qB,qC,qD]; refine zk 7 (some 31) (.pointer (some ⟨b,0,none⟩)) rfl rfl (fun w9 _ => by go_simp) hHeld ?_ (hQ := fun _ _ _ h => ja (d := 31) (by decide) (by decide) h); simp only [qA,qB,qC,qD]; refine zk 8 (some 32) (.pointer (some ⟨b,0,none⟩)) rfl rfl (fun w9 _ => by go_simp) hHeld ?_ (hQ := fun _ _ _ h => ja (d := 32) (by decide) (by decide) h); simp only [qA,qB,qC,qD]; refine zk 9 (some 33) (.pointer (some ⟨b,1,none⟩)) rfl rfl (fun w9 _ => by go_simp) hHeld ?_ (hQ := fun _ _ _ h => ja (d := 33) (by decide) (by decide) h); simp only [qA,qB,qC,qD]; refine zk 10 (some 34) (.pointer (some ⟨ρ5.md S.mds.length,0,none⟩)) rfl rfl (fun w9 hS => by have q1 := zi hS c1.out; go_simp) hHeld ?_ (hQ := fun _ _ _ h => ja (d := 34) (by decide) (by decide) h); simp only [qA,qB,qC,qD]; have q1 := f1.out; refine zl 11 (by kernel_rfl) rfl rfl (fun KK hKK => ?_)
 go_simp
 refine hKK.out _ _ ?_; clear hKK KK q1; refine zd (by kernel_rfl) ?_ _; clear hHeld
 have K6 : Hid (KM ρ5 w6 S') := by
  show KM ρ5 w6 S'
  rw [show S' = _ from a5.out]
  exact a0.out.ck.km.setMods (KS.okIn b5.out.ok) O.out f2.out
 have I := a0.out.ck.km.moc; have a1 := ze (f0.out.sm O.out (fun e => by rw [e,I] at H; cases H))
 have f3 : b ≠ ρ5.mo := fun e => by have k := a0.out.col; rw [e,I] at k; cases k
 have g1 : w6.cell? ⟨b,1,none⟩ = some (.pointer (some ⟨ρ5.md S.mds.length,0,none⟩)) := O.out.cell c1.out f3; have e6 := a1.out.c 0 _ rfl; have ez := a1.out.z
 have g2 : ¬ b = w.heap.size := by omega
 go_wp2; refine leaves_cons (f := 38) (args := #[.pointer (some ⟨w.heap.size,0,none⟩)]) (by simp) (by simp [go_sem]) ?_; refine (tK _ _).mono ?_; rintro e u' w7 ⟨rfl,rfl,a2⟩; simp only [Leaves,settle]
 have S7 : Sm w6 w7 (fun g => g ≠ w.heap.size) := by rw [a2]; exact (Sm.refl w6 _).put (fun k => k rfl) _ _
 have e7 : w7.cell? ⟨w.heap.size,0,none⟩ = some .nilIface := by rw [a2]; exact (a1.out.set 0 _).c 0 _ rfl
 clear a2; have o : Stp False ρ w S ρ5 E S1 := ((a8.out.less).trans b2.out.less).trans b5.out; have K7 : KM ρ5 w7 S' := K6.out.sm (KS.okIn V.out) S7 (fun g lb hg e => by rw [e,H] at hg; cases hg); have SA : Sm E w7 (fun g => g ≠ ρ5.mo /\ g ≠ w.heap.size) := (O.out.mono (fun g _ k => k.1)).trans (S7.mono (fun g _ k => k.2)); have eS : S' = { S1 with mods := (n.name,S.mds.length) :: S1.mods } := a5.out; refine ⟨_,oM e7 rfl rfl,ρ5,rfl,⟨K7,V.out,o.agr,o.col,o.sm.comp SA (fun g hg hp => ⟨fun e => ?_,by omega⟩),?_,?_,?_,?_⟩⟩
 ·have k := o.col g hg
  rw [e,I] at k
  rcases hp with h8 | h8 | ⟨-,h8⟩
  ·rw [e,<- k] at h8; cases h8
  ·rw [e,<- k] at h8; cases h8
  ·exact h8
 ·rw [eS]; exact o.tys
 ·rw [eS]; exact o.ths
 ·rw [eS]; exact o.prs
 ·rw [eS]; exact o.mds
end
structure Right (s : ByteArray) (S' : KS) : Prop where
 len : s.size <= 4000
 say : ∃ l n j,vD s.data.toList = .ok l /\ vB (um s.data.toList.length l) 0 = .ok (n,j) /\ (∀ t ∈ n.subs,∃ f,fz f t = true) /\ Fits n /\ ks0.wholeD n = some S' /\ ∀ S1,(ks0.addMd { md0 with name := n.name }).bodyD ks0.mds.length n = some S1 -> S1.mods.length <= 1000
section
variable {w w' : World}
theorem dw {s : ByteArray} {S' : KS} (hr : Right s S') {g o c : Nat} (hc : w.cell? ⟨g,o,none⟩ = some (.string s)) (_h1 : 1 <= c) (_h2 : c <= maxLen) (htab : Lib.TabIs Tryz.prog w "strings.asciiSpace" .u8 Lib.asciiSpaceTab) :
  Calls Tryz.prog 16 #[.slice (some ⟨g,o,none⟩) 1 c] w (fun e w' => w.grownBy w' none /\ ∃ ρ g2 c2,e = .returned (.tuple #[.slice (some ⟨g2,0,none⟩) 1 c2,.nilIface]) /\ 1 <= c2 /\ c2 <= maxLen /\ w'.cell? ⟨g2,0,none⟩ = some (.pointer (some ⟨ρ.md 0,0,none⟩)) /\ KM ρ w' S' /\ S'.okB = true) := by
 obtain ⟨d,_,_,_,L,M,t,u,N,f⟩ := hr; have O := ze hc; have Q : g < w.heap.size := zw hc
 have v : Hid (∀ (ρ : Lay) (m : World),KM ρ m ks0 -> w.grownBy m none -> Calls Tryz.prog 26 #[.pointer (some ⟨ρ.wd,0,none⟩),.string s] m (fun e w' => ∃ ρ',e = .returned (.tuple #[.pointer (some ⟨ρ'.md 0,0,none⟩),.nilIface]) /\ Stp False ρ m ks0 ρ' w' S')) := fun ρ m hk G =>
  pX hk mY s d L M t u N (by decide) f (ui htab ⟨G.os,G.tape,G.output,G.size,fun i hi => G.block i hi (by simp)⟩)
 clear hc d L M t u N f htab
 go_enter Tryz.func16,Tryz.ntmps16
 go_wp2_with fail; go_at_call 25; refine (gY).mono ?_; rintro e m ⟨ρ,rfl,km,h,x⟩; have F := ze km; have H := ze h; have I := ze x; clear km h x; go_wp2_with fail
 go_loopw [17,5] (fun iv hw5 wr => (iv = .int .i64 0 /\ hw5 = .slice none 0 0 /\ wr = m) \/ (∃ (ρr : Lay) (g2 c2 : Nat),iv = .int .i64 1 /\ hw5 = .slice (some ⟨g2,0,none⟩) 1 c2 /\ Hid (1 <= c2 /\ c2 <= maxLen) /\ Hid (wr.cell? ⟨g2,0,none⟩ = some (.pointer (some ⟨ρr.md 0,0,none⟩))) /\ Hid (KM ρr wr S') /\ Hid (S'.okB = true) /\ Hid (w.grownBy wr none))) (fun iv _ _ => 1 - (intOf iv).toNat)
 case atStart => exact .inl ⟨rfl,rfl,rfl⟩
 case round =>
  rcases hrel with ⟨rfl,rfl,rfl⟩ | ⟨ρr,g2,c2,rfl,rfl,z,R,U,V,X⟩
  ·have Y := zi I.out O.out
   go_wp2_with fail; go_at_call 26; refine (v.out ρ _ F.out I.out).mono ?_; rintro e n ⟨ρ2,rfl,A⟩; have q := ze A; clear A Y; have Z : Hid ((n.alloc (.cells #[.pointer (some ⟨ρ2.md 0,0,none⟩)] 51)).cell? ⟨n.heap.size,0,none⟩ = some (.pointer (some ⟨ρ2.md 0,0,none⟩))) := Bk.c (vs := [.pointer (some ⟨ρ2.md 0,0,none⟩)]) (Bk.new n _ _ rfl) 0 _ rfl; have R4 : Hid ((n.alloc (.cells #[.pointer (some ⟨ρ2.md 0,0,none⟩)] 51)).ownsRow 0 51 1 (.slice none 0 0) 0 []) := World.ownsRow_nil _ _ _ _
   go_wp2_with (at_builtin; refine rH 44 51 Tryz.underlying44 Tryz.infoModuleP rfl _ _ rfl rfl rfl R4.out Z.out (by omega) ?_; intro v4 w4 j B C)
   obtain ⟨_,J,rfl,k,l,D⟩ := tG j; obtain ⟨g4,rfl,b⟩ := D 0 _ rfl; have r := ze b; have G4 := ze B; have K : Hid (1 <= J /\ J <= maxLen) := ⟨k,l⟩; clear j B C D b k l
   go_roundw
   case rel =>
    have E : n.grownBy w4 none := za (zf (zc n none) _) G4.out; refine .inr ⟨ρ2,g4,J,rfl,rfl,K,r,q.out.km.up E,q.out.ok,?_⟩; have h9 : Sm w n (fun _ => True) := (Sm.of_none I.out _).comp q.out.sm (fun g hg _ => .inl (H.out g hg))
    exact za h9.gb E
   case measure => simp [intOf]
  ·go_wp2
   go_ret2
   exact ⟨X.out,ρr,g2,c2,rfl,z.out.1,z.out.2,R.out,U.out,V.out⟩
theorem fh {s : ByteArray} {S' : KS} (hr : Right s S') {g o c : Nat} (hc : w.cell? ⟨g,o,none⟩ = some (.string s)) (h1 : 1 <= c) (h2 : c <= maxLen) (htab : Lib.TabIs Tryz.prog w "strings.asciiSpace" .u8 Lib.asciiSpaceTab) :
  Calls Tryz.prog 20 #[.slice (some ⟨g,o,none⟩) 1 c,.int .i64 0] w (fun e w' => w.grownBy w' none /\ ∃ ρ,e = .returned (.tuple #[.pointer (some ⟨ρ.md 0,0,none⟩),.nilIface]) /\ KM ρ w' S' /\ S'.okB = true) := by
 have i := ze (dw hr hc h1 h2 htab); clear hr hc htab
 go_enter Tryz.func20,Tryz.ntmps20
 go_wp2_with fail; go_at_call 16; refine i.out.mono ?_; rintro e q ⟨b,ρ,r,t,rfl,j,k,d,f,h⟩; have l := ze b; have m := ze f; have n := ze h; clear b f h; go_wp2
 go_ret2
 exact ⟨l.out,ρ,rfl,m.out,n.out⟩
end
end Go.Proofs.YtnmkffjklpfflaaGreatDoor
