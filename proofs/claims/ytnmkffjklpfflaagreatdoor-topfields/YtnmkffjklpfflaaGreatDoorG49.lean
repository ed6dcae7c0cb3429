/- A module is put behind the others,both ways. -/
import Derived.Test.YtnmkffjklpfflaaGreatDoorG43
import Derived.Test.YtnmkffjklpfflaaGreatDoorG48
namespace Go.Proofs.YtnmkffjklpfflaaGreatDoor
open Go.RowKit
set_option maxHeartbeats 4000000
set_option maxRecDepth 100000
section
variable {ρ : Lay} {w w' w1 : World} {S : KS} {b : Nat} {c : KSc}
def KS.addE (S : KS) (t : List UInt8) : Option KS := if 4000 < t.length then none else match xS t with
 | .error _ => none
 | .ok l => match xE (xG t.length l) 0 with
  | .error _ => none
  | .ok (n,_) => ((S.addMd { md0 with name := n.name }).bodyH S.mds.length n).bind fun S6 => (S6.bodyT S.mds.length n).bind fun S1 => some { S1 with mods := (n.name,S.mds.length) :: S1.mods }
structure TextOK (S : KS) (n : T) : Prop where
 fit : ∀ t ∈ n.subs,∃ f,fitF f t = true
 fits : Fits n
 no : lk S.mods n.name = none
 ok1 : (S.addMd { md0 with name := n.name }).okB = true
 ex : ∃ S6,(S.addMd { md0 with name := n.name }).bodyH S.mds.length n = some S6 /\ FuP S6 /\ S6.okB = true /\ S.mds.length < S6.mds.length /\ (S6.md S.mds.length).names.length + (sub n 4).subs.length <= 100000 /\ (S6.md S.mds.length).decl.length + (sub n 4).subs.length <= 100000 /\ S6.mods.length <= 1000
 pw : ∀ t ∈ (sub n 4).subs,PW t
 ac : vR (sub n 5).subs = true
def ErrV (w : World) (v : Value) : Prop := v = .iface 56 (.int .i64 3) \/ ∃ q k n,v = .iface 103 (pq q) /\ FaultAt w q k n
theorem qG (p1 q : Addr) (v1 : Value) (older : List PanicEntry) (w : World) (h1 : w.cell? p1 = some v1) (z1 : w.frozen? p1 = false) :
  CallsD Tryz.prog 38 #[.pointer (some p1)] (.panicking ({ v := .iface 103 (.pointer (some q)),recovered := false } :: older)) w fun e u' w' =>
   e = .returned (.tuple #[]) /\ u' = .panicking ({ v := .iface 103 (.pointer (some q)),recovered := true } :: older) /\ w' = w.setCell p1 (.iface 103 (.pointer (some q))) := by
 refine callsD_of_wpS Tryz.func38 rfl fun c₀ cs hu => ?_
 have d := jC (.pointer (some q))
 apply wpS_seq
 apply wpS_region
 simp [wpOpsS,go_sem,recoverD,hu,Tryz.ntmps38,Exit.thenS,d]
 apply wpS_seq
 apply wpS_region
 simp [wpOpsS,go_sem,Array.replicate,Exit.thenS]
 refine wpS_cond (t := true) (by simp [Act.eval]) ?_; simp only [if_true]
 apply wpS_region
 simp [wpOpsS,go_sem,h1,z1,bodyPostS,results,Tryz.results38]
theorem ao (h : KM ρ w S) (hk : S.okB = true) (s : ByteArray) (hs : s.size <= maxLen) (hT : s.data.toList.length <= 4000 -> ∀ l n j,xS s.data.toList = .ok l -> xE (xG s.data.toList.length l) 0 = .ok (n,j) -> TextOK S n)
  (htab : Lib.TabIs Tryz.prog w "strings.asciiSpace" .u8 Lib.asciiSpaceTab) :
  Calls Tryz.prog 26 #[pq ρ.wd,.string s] w (fun e w' => (S.addE s.data.toList = none /\ ∃ x y,e = .returned (.tuple #[.pointer none,.iface x y]) /\ ErrV w' (.iface x y) /\ Sm w w' (Kp ρ False)) \/ ∃ S',S.addE s.data.toList = some S' /\ ∃ ρ',e = .returned (.tuple #[pq (ρ'.md S.mds.length),.nilIface]) /\ Stp False ρ w S ρ' w' S') := by
 have h4 : ∀ (fn : Fn) (first cap : Array Value) (w : World),(Instr.makeFunc fn first cap).run Tryz.prog w = .ok (.func fn first cap) w := fun _ _ _ _ => rfl
 have HM := zc h; have HB := zc hk; have d7 := zD s; obtain ⟨R,D⟩ : ∃ z,z = S.addE s.data.toList := ⟨_,rfl⟩; rw [<- D]
 unfold KS.addE at D
 have d8 : Hid (∀ w1,w.grownBy w1 none -> Calls Tryz.prog 37 #[.string s] w1 fun e m => w1.grownBy m none /\ ((R = none /\ ∃ x y,e = .returned (.tuple #[.agg #[.int .i64 0,.string ⟨#[]⟩,.int .i64 0,.int .i64 0,.slice none 0 0],.iface x y]) /\ ErrV m (.iface x y)) \/ ∃ n sa sc,TextOK S n /\ R = (((S.addMd { md0 with name := n.name }).bodyH S.mds.length n).bind fun S6 => (S6.bodyT S.mds.length n).bind fun E => some { E with mods := (n.name,S.mds.length) :: E.mods }) /\ e = .returned (.tuple #[zo n (.slice sa n.subs.length sc),.nilIface]) /\ LR m (In w1.heap.size m.heap.size) n.subs (.slice sa n.subs.length sc))) := fun w1 G => by
  have hB : Below w.heap.size w w1 := ⟨G.os,G.tape,G.output,G.size,fun i hi => G.block i hi (by simp)⟩; refine (mZ s w1 hs (uH htab hB) bh).mono ?_; rintro e m ⟨a1,⟨h1,rfl⟩ | ⟨h0,a,f,q,h1,rfl,hF⟩ | ⟨h0,l',x,q,h1,h2,rfl,hF⟩ | ⟨h0,l',x,j',v,h1,h2,rfl,d9⟩⟩
  ·rw [if_pos h1] at D
   exact ⟨qU a1 none,.inl ⟨D,_,_,rfl,.inl rfl⟩⟩
  ·rw [if_neg (by omega),h1] at D
   exact ⟨qU a1 none,.inl ⟨D,_,_,rfl,.inr ⟨_,_,_,rfl,hF⟩⟩⟩
  ·rw [if_neg (by omega),h1] at D
   simp only [h2] at D
   exact ⟨qU a1 none,.inl ⟨D,_,_,rfl,.inr ⟨_,_,_,rfl,hF⟩⟩⟩
  ·rw [if_neg (by omega),h1] at D
   simp only [h2] at D; obtain ⟨_,rfl,J⟩ := d9; obtain ⟨sa,sc,rfl⟩ := J.form
   exact ⟨qU a1 none,.inr ⟨x,sa,sc,hT h0 l' x j' h1 h2,D,rfl,J⟩⟩
 clear h hk hs hT htab d7 D
 go_enter_defers Tryz.func26,Tryz.ntmps26
 go_wp2_with fail; obtain ⟨w1,K⟩ : ∃ z,z = w.alloc (.cells #[.nilIface] 27) := ⟨_,rfl⟩; rw [<- K]
 have G1 : Hid (w.grownBy w1 none) := by rw [K]; exact zh grn _
 have b7 : Hid (Bk w1 w.heap.size [.nilIface]) := by rw [K]; exact Bk.new w _ _ rfl
 have h5 : w.heap.size < w1.heap.size := by rw [K]; simp
 clear K; go_at_call 37; refine (d8.out _ G1.out).mono ?_; rintro e m ⟨r,⟨f0,x,y,rfl,b8⟩ | ⟨n,sa,sc,a9,b9,rfl,J⟩⟩
 ·have t := zc (b7.out.kept r (by simp))
  have e0 := t.out.c 0 _ rfl; have ez := t.out.z; have h7 := r.size
  have f1 : w.heap.size < m.heap.size := by omega
  have GA := zc (za G1.out r); have f2 := zc b8; clear r b8; go_wp2_with fail; obtain ⟨L,o⟩ : ∃ z,z = (m.setCell ⟨w.heap.size,0,none⟩ (.iface x y)).alloc (.cells #[.int .i64 0,.string ⟨#[]⟩,.int .i64 0,.int .i64 0,.slice none 0 0] 100) := ⟨_,rfl⟩
  try rw [<- o]
  have M : Bk L w.heap.size [.iface x y] := by rw [o]; exact (t.out.set 0 _).kept gan (by simp)
  have e3 := M.c 0 _ rfl; have z3 := M.z
  have S3 : Sm m L (fun g => g ≠ w.heap.size) := by rw [o]; exact ((Sm.refl m _).put (fun k => k rfl) _ _).trans (Sm.of_none gan _)
  clear o e0 ez
  go_region
  go_wp2
  show Leaves _ _ _ _ _ _ _
  simp only [Leaves]; have S4 : Sm m (L.setCell ⟨w.heap.size,0,none⟩ (.iface x y)).drew (fun g => g ≠ w.heap.size) := (S3.put (fun k => k rfl) _ _).drew; refine ⟨_,gY ((M.set 0 (.iface x y)).drew.c 0 _ rfl) rfl rfl,.inl ⟨f0,x,y,rfl,?_,(Sm.of_none GA.out _).comp S4 (fun g hg _ => by omega)⟩⟩
  rcases f2.out with k | ⟨q,kk,nn,k,h0,h1,h2⟩
  ·exact .inl k
  ·have C : q ≠ w.heap.size := fun e => by
    have N := t.out.c 0 _ rfl; rw [e,N] at h0; cases h0
   exact .inr ⟨q,kk,nn,k,S4.cell h0 C,S4.cell h1 C,S4.cell h2 C⟩
 obtain ⟨S6,b0,c0,a7,F,f3,f4,c2⟩ := a9.ex; have A := zc a9; have f5 := zc b0; have f6 := zc c0; have c3 := zc a7
 have c4 : Hid (R = (S6.bodyT S.mds.length n).bind fun E => some { E with mods := (n.name,S.mds.length) :: E.mods }) := by show _ = _; rw [b9,b0]; rfl
 have G2 := zc r; clear a9 b0 c0 a7 b9; have f7 := zc J; have t := zc (b7.out.kept r (by simp)); have j0 := r.size; have e0 := t.out.c 0 _ rfl; have ez := t.out.z
 have f1 : w.heap.size < m.heap.size := by omega
 clear r J; go_wp2_with fail; obtain ⟨L,o⟩ : ∃ z,z = (m.setCell ⟨w.heap.size,0,none⟩ .nilIface).alloc (.cells #[.int .i64 n.kind,.string ⟨n.name.toArray⟩,.int .i64 n.num,.int .i64 n.at',.slice sa n.subs.length sc] 100) := ⟨_,rfl⟩; rw [<- o]
 have S3 : Hid (Sm m L (fun g => g ≠ w.heap.size)) := by rw [o]; exact ((Sm.refl m _).put (fun k => k rfl) _ _).trans (Sm.of_none gan _)
 have G3 : Hid (w.grownBy L none) := (((Sm.of_none (za G1.out G2.out) (fun _ => True)).comp S3.out (fun g hg _ => by omega))).gb
 have f8 : Hid (Box L m.heap.size n (.slice sa n.subs.length sc)) := by
  have k := Box.new (m.setCell ⟨w.heap.size,0,none⟩ .nilIface) n (.slice sa n.subs.length sc) 100; rw [show (m.setCell ⟨w.heap.size,0,none⟩ .nilIface).heap.size = m.heap.size by simp [World.setCell]] at k; rw [o]
  exact k
 have M : Hid (Bk L w.heap.size [.nilIface]) := by rw [o]; exact (t.out.set 0 _).kept gan (by simp)
 have j1 : m.heap.size < L.heap.size := by rw [o]; simp [World.setCell]
 clear o e0 ez; obtain ⟨ρt,H⟩ : ∃ z,z = ρ.paint (fun g => if w1.heap.size <= g /\ g < m.heap.size then some .tr else none) := ⟨_,rfl⟩
 have b1 : Hid (Stp True ρ w S ρt L S) := by
  rw [H]
  exact ((Stp.refl HM.out HB.out).behind G3.out).paint (fun g hg => if_neg (by omega)) (fun g hg => if_neg (by omega))
 have c5 : ρt.wd = ρ.wd := by rw [H]; rfl
 have f9 : Hid (AF ρt.tr L n.subs (.slice sa n.subs.length sc)) := by
  refine ((cj f7.out A.out.fit).sm S3.out (fun g hg => ?_)).weak (fun g hg => ?_)
  ·have k : w1.heap.size <= g := hg.1
   omega
  ·have k : w1.heap.size <= g /\ g < m.heap.size := hg
   show ρt.col g = _
   rw [H,vn (HM.out.fr g (by omega)),if_pos k]
 have g0 : ρt.col w.heap.size = none := by rw [H,vn (HM.out.fr _ (Nat.le_refl _)),if_neg (by omega)]
 have g1 : ρt.col m.heap.size = none := by rw [H,vn (HM.out.fr _ (by omega)),if_neg (by omega)]
 clear H; have c6 := zc (ge b1.out.km HB.out n.name A.out.ok1); rw [c5] at c6; go_at_call 39; refine c6.out.mono ?_; rintro e w4 ⟨ρ4,b,rfl,a2,j2,O,c7⟩; have b2 := zc O; have g2 := zc c7; have g3 := zc (f9.out.step O); have c8 := zc (f8.out.kept a2); have c9 := zc (M.out.kept a2 (by simp)); have Q : ρ4.col w.heap.size = none := (O.col _ (by omega)).trans g0; have d0 : ρ4.col m.heap.size = none := (O.col _ (by omega)).trans g1; obtain ⟨q0,q1,q2,q3,q4⟩ := c8.out; have j3 := a2.size; clear O c7 a2; go_wp2_with fail; have g4 := zc ((bn g2.out n (.slice sa n.subs.length sc) A.out.fits A.out.ok1 g3.out A.out.no f5.out f6.out A.out.pw A.out.ac f3 f4).mono (fun _ _ k => k.or)); go_at_call 40; refine g4.out.mono ?_; rintro e U (⟨V,h6⟩ | ⟨E,V,rfl,ρ5,I,X⟩)
 ·have g5 : Sm w U (Kp ρ False) := ((h6.step b2.out).step b1.out).2
  have Y := c9.out.sm h6.2 (.inl Q); have e5 := Y.c 0 _ rfl; have z5 := Y.z; obtain ⟨⟨kk,nn,q,rfl,hq,q0,q1,q2⟩,-⟩ := h6
  show Leaves _ _ _ _ _ _ _
  refine leaves_cons (f := 38) (args := #[pq w.heap.size]) (by simp) (by simp [go_sem]) ?_; refine (qG ⟨w.heap.size,0,none⟩ ⟨q,0,none⟩ _ [] _ e5 (z5 _)).mono ?_; rintro e u' w6 ⟨rfl,rfl,b3⟩
  show ∃ v,_ /\ _
  have C : q ≠ w.heap.size := by omega
  have a3 : Sm U w6 (fun g => g ≠ w.heap.size) := by rw [b3]; exact (Sm.refl U _).put (fun k => k rfl) _ _
  have e6 : w6.cell? ⟨w.heap.size,0,none⟩ = some (.iface 103 (pq q)) := by rw [b3]; exact (Y.set 0 _).c 0 _ rfl
  clear b3; refine ⟨_,gY e6 rfl rfl,.inl ⟨by rw [c4.out,V]; rfl,_,_,rfl,.inr ⟨q,kk,nn,rfl,a3.cell q0 C,a3.cell q1 C,a3.cell q2 C⟩,g5.comp a3 (fun g hg _ => by omega)⟩⟩
 have a4 : Gro S.mds.length S6 E := by
  obtain ⟨_,N,k⟩ := Option.bind_eq_some_iff.1 V; have k8 := fX c3.out F N
  unfold KS.actsO at k
  split at k
  ·obtain ⟨u,-,k⟩ := Option.bind_eq_some_iff.1 k
   rw [<- Option.some.inj k]
   exact k8.trans (pY k8.ok (by rw [k8.mds]; exact F) _)
  ·cases k
 obtain ⟨S',a5⟩ : ∃ z,z = { E with mods := (n.name,S.mds.length) :: E.mods } := ⟨_,rfl⟩; have d1 := zc a5
 have a8 : Hid (S'.okB = true) := by show _ = _; rw [a5]; exact bt a4.ok (by rw [a4.mds]; exact F)
 have g6 : Hid (R = some S') := by show _ = _; rw [c4.out,V,a5]; rfl
 have d2 : Hid (E.mods.length <= 1000) := by show _ <= _; rw [a4.mods]; exact c2
 clear a4 a5 V; have d3 := zc I; have b4 := zc X; have g7 := zc (Box.step c8.out d0 I); have Y := zc (c9.out.sm I.sm (.inl Q)); have d4 : ρ5.wd = ρ.wd := I.agr.wd.trans (b2.out.agr.wd.trans c5)
 have m4 : Hid (U.cell? ⟨ρ.wd,4,none⟩ = some (.map (some ρ5.mo))) := by rw [<- d4]; exact X.ck.km.wd.c 4 _ rfl
 have c1 : Hid (U.cell? ⟨b,1,none⟩ = some (pq (ρ5.md S.mds.length))) := X.ck.s1; have Z : ρ5.col w.heap.size = none := (I.col _ (by omega)).trans Q; obtain ⟨w6,d5,F,d6⟩ := MapAt.put (w := U.drew) (X.ck.km.mo.kept (zf grn) (by simp)) Tryz.underlying96 n.name A.out.fits.name (ρ5.md S.mds.length) (by simp [Lay.mds,maxLen]; have := d2.out; omega); have g8 : Hid ((Instr.mapUpdate 96 (.map (some ρ5.mo)) (.string ⟨n.name.toArray⟩) (pq (ρ5.md S.mds.length))).run Tryz.prog U.drew = .ok () w6) := d5; have g9 := zc F; have a6 : Hid (Sm U w6 (fun g => g ≠ ρ5.mo)) := (Sm.of_none (zf grn) _).trans ((Sm.grown d6).mono (fun g _ k e => k (Option.some.inj e))); clear I X d5 F d6 q0 q1 q2 q3 q4; go_wp2_with fail; refine yk [11] (S := fun w9 => U.grownBy w9 none) (by kernel_rfl) ?_ (fun hHeld => ?_)
 ·exact zf grn
 refine zk 0 (some 24) (pq ρ.wd) rfl rfl (fun w9 _ => by go_simp) hHeld ?_ (hQ := fun _ _ _ h => jE (d := 24) (by decide) (by decide) h); refine zk 1 (some 25) (pq ρ.wd) rfl rfl (fun w9 _ => by go_simp) hHeld ?_ (hQ := fun _ _ _ h => jE (d := 25) (by decide) (by decide) h); refine zk 2 (some 26) (.pointer (some ⟨ρ.wd,4,none⟩)) rfl rfl (fun w9 _ => by go_simp) hHeld ?_ (hQ := fun _ _ _ h => jE (d := 26) (by decide) (by decide) h); refine zk 3 (some 27) (.map (some ρ5.mo)) rfl rfl (fun w9 hS => by have q1 := ze hS m4.out; go_simp) hHeld ?_ (hQ := fun _ _ _ h => jE (d := 27) (by decide) (by decide) h); refine zk 4 (some 28) (.pointer (some ⟨m.heap.size,1,none⟩)) rfl rfl (fun w9 _ => by go_simp) hHeld ?_ (hQ := fun _ _ _ h => jE (d := 28) (by decide) (by decide) h); refine zk 5 (some 29) (.string ⟨n.name.toArray⟩) rfl rfl (fun w9 hS => by obtain ⟨q0,q1,q2,q3,q4⟩ := Box.kept g7.out hS; go_simp) hHeld ?_ (hQ := fun _ _ _ h => jE (d := 29) (by decide) (by decide) h); refine zk 6 (some 30) (pq b) rfl rfl (fun w9 _ => by go_simp) hHeld ?_ (hQ := fun _ _ _ h => jE (d := 30) (by decide) (by decide) h); refine zk 7 (some 31) (pq b) rfl rfl (fun w9 _ => by go_simp) hHeld ?_ (hQ := fun _ _ _ h => jE (d := 31) (by decide) (by decide) h); refine zk 8 (some 32) (pq b) rfl rfl (fun w9 _ => by go_simp) hHeld ?_ (hQ := fun _ _ _ h => jE (d := 32) (by decide) (by decide) h); refine zk 9 (some 33) (.pointer (some ⟨b,1,none⟩)) rfl rfl (fun w9 _ => by go_simp) hHeld ?_ (hQ := fun _ _ _ h => jE (d := 33) (by decide) (by decide) h); refine zk 10 (some 34) (pq (ρ5.md S.mds.length)) rfl rfl (fun w9 hS => by have q1 := ze hS c1.out; go_simp) hHeld ?_ (hQ := fun _ _ _ h => jE (d := 34) (by decide) (by decide) h); simp only [qA,qB,qC,qD]; have q1 := g8.out; refine zl 11 (by kernel_rfl) rfl rfl (fun KK hKK => ?_)
 go_simp
 refine hKK.out _ _ ?_; clear hKK KK q1; refine zd (by kernel_rfl) ?_ _; clear hHeld
 have K6 : Hid (KM ρ5 w6 S') := by
  show KM ρ5 w6 S'
  rw [show S' = _ from d1.out]
  exact b4.out.ck.km.setMods (KS.okIn d3.out.ok) a6.out g9.out
 have a0 := b4.out.ck.km.moc; have b5 := zc (Y.out.sm a6.out (fun e => by rw [e,a0] at Z; cases Z))
 have h3 : b ≠ ρ5.mo := fun e => by have k := b4.out.col; rw [e,a0] at k; cases k
 have j4 : w6.cell? ⟨b,1,none⟩ = some (pq (ρ5.md S.mds.length)) := a6.out.cell c1.out h3; have e6 := b5.out.c 0 _ rfl; have ez := b5.out.z
 have j5 : ¬ b = w.heap.size := by omega
 go_wp2; refine leaves_cons (f := 38) (args := #[pq w.heap.size]) (by simp) (by simp [go_sem]) ?_; refine (pL _ _).mono ?_; rintro e u' w7 ⟨rfl,rfl,b6⟩; simp only [Leaves,settle]
 have S7 : Sm w6 w7 (fun g => g ≠ w.heap.size) := by rw [b6]; exact (Sm.refl w6 _).put (fun k => k rfl) _ _
 have e7 : w7.cell? ⟨w.heap.size,0,none⟩ = some .nilIface := by rw [b6]; exact (b5.out.set 0 _).c 0 _ rfl
 clear b6; have B : Stp False ρ w S ρ5 U E := ((b1.out.less).trans b2.out.less).trans d3.out; have K7 : KM ρ5 w7 S' := K6.out.sm (KS.okIn a8.out) S7 (fun g lb hg e => by rw [e,Z] at hg; cases hg); have SA : Sm U w7 (fun g => g ≠ ρ5.mo /\ g ≠ w.heap.size) := (a6.out.mono (fun g _ k => k.1)).trans (S7.mono (fun g _ k => k.2)); have eS : S' = { E with mods := (n.name,S.mds.length) :: E.mods } := d1.out; refine ⟨_,gY e7 rfl rfl,.inr ⟨S',g6.out,ρ5,rfl,⟨K7,a8.out,B.agr,B.col,B.sm.comp SA (fun g hg hp => ⟨fun e => ?_,by omega⟩),?_,?_,?_,?_⟩⟩⟩
 ·have k := B.col g hg
  rw [e,a0] at k
  rcases hp with N | N | ⟨-,N⟩
  ·rw [e,<- k] at N; cases N
  ·rw [e,<- k] at N; cases N
  ·exact N
 ·rw [eS]; exact B.tys
 ·rw [eS]; exact B.ths
 ·rw [eS]; exact B.prs
 ·rw [eS]; exact B.mds
end
end Go.Proofs.YtnmkffjklpfflaaGreatDoor
