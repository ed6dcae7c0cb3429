/- What is imported: the rule that is handed on. -/
import Derived.Test.YtnmkffjklpfflaaGreatDoorG18
namespace Go.Proofs.YtnmkffjklpfflaaGreatDoor
open Go.RowKit
set_option maxHeartbeats 1000000
set_option maxRecDepth 100000
theorem tJ (c : PC) (w : World) (i d : Nat) (b : Nat) (h : PS c w i d) (hc : w.cell? ⟨b,0,none⟩ = some (.pointer (some ⟨c.pb,0,none⟩))) :
  Calls Tryz.prog 141 #[.pointer (some ⟨b,0,none⟩)] w (Steps c w i d (fun w' t v => TR w' w.heap.size w'.heap.size t v) (vh c.L 3 i)) := by
 have z := ze h; have A := ze h.low; have N := h.lt; have B := zw hc; clear h
 go_enter Tryz.func141,Tryz.ntmps141
 go_wp2_with fail; go_at_call 142; refine (vF c _ i d 3 (PS.alloc z.out _)).mono ?_; rintro e l (⟨O,j,m,f⟩ | ⟨⟨C,D,E,F,n⟩,Q,R,j,rfl,⟨G,rfl,g⟩,f,H,I⟩)
 ·obtain ⟨q,rfl,-⟩ := id m; exact ⟨rfl,Steps.err j m (zf (zc w (some c.pb)) _) f⟩
 have o : vh c.L 3 i = _ := j; simp only [T.kind,T.name,T.num,T.at',T.subs] at g ⊢; obtain ⟨r,s,rfl⟩ := g.form; obtain ⟨J,u,g⟩ : ∃ b,b = _ /\ LR l (In b l.heap.size) n (.slice r n.length s) := ⟨_,rfl,g⟩
 try simp at u
 have K : w.grownBy l (some c.pb) := za (zf (zc w (some c.pb)) _) f; have M := f.size
 try simp at M
 have k : RB l w.heap.size := RB.keep (RB.new' (by simp)) f (by omega); have x := k.lt; obtain ⟨_,_,_,_,_,_,_,_,_,_,_⟩ := id k; go_wp2; refine zj Tryz.results141 rfl (RB.five ?_) rfl ?_
 ·exact k
 refine Steps.ok (a := (T.mk C D E F n)) o ⟨_,rfl,?_⟩ ?_ ?_ (by omega)
 ·refine LR.wide (lo := J) (hi := l.heap.size) (ts := n) ?_ (by omega) (by first | omega | (simp <;> omega))
  exact LR.p5 g (by omega)
 ·exact zy K (by omega)
 ·exact PS.p5 H A.out (by omega)
theorem rB (c : PC) (d b : Nat) (hb : b ≠ c.pb) : Part c d (fun w => w.cell? ⟨b,0,none⟩ = some (.pointer (some ⟨c.pb,0,none⟩))) 141 (#[] ++ #[.pointer (some ⟨b,0,none⟩)]) (vh c.L 3) :=
 ⟨fun w i hp hc => by simpa using tJ c w i d b hp hc,fun w w' h hg => zC hg h (by simpa using hb),enters_of Tryz.func141 (by kernel_rfl) rfl⟩
theorem dg (c : PC) (w : World) (i d : Nat) (h : PS c w i d) :
  Calls Tryz.prog 90 #[.pointer (some ⟨c.pb,0,none⟩)] w (Steps c w i d (fun w' t v => TR w' w.heap.size w'.heap.size t v) (uT c.L i)) := by
 have HP := ze h; have Q := ze h.low; have hb := h.lt; clear h
 have l : (w.alloc (.cells #[.pointer (some ⟨c.pb,0,none⟩)] 142)).cell? ⟨w.heap.size,0,none⟩ = some (.pointer (some ⟨c.pb,0,none⟩)) := by simp
 have b8 : (w.alloc (.cells #[.pointer (some ⟨c.pb,0,none⟩)] 142)).heap.size = w.heap.size + 1 := by simp
 go_enter Tryz.func90,Tryz.ntmps90
 go_wp2_with fail; go_at_call 87; refine (zI c _ i d 1 (PS.alloc (PS.alloc HP.out _) _)).mono ?_; rintro e r ⟨rfl,j⟩; have p1 : PS c r i d := PS.kept (PS.alloc (PS.alloc HP.out _) _) j; have G1 : w.grownBy r (some c.pb) := za (zf (zf (zc w (some c.pb)) _) _) (zv j (some c.pb)); have s1 := j.size
 try simp at s1
 have H1 : (w.alloc (.cells #[.pointer (some ⟨c.pb,0,none⟩)] 142)).grownBy r (some c.pb) := za (zf (zc (w.alloc (.cells #[.pointer (some ⟨c.pb,0,none⟩)] 142)) (some c.pb)) _) (zv j (some c.pb)); have R := zC H1 l (by simp; omega); have U := zw R; simp only [] at U; have s : RB r (w.heap.size + 1) := RB.kept (RB.new' (by simp)) j (by simp); have V := s.lt; obtain ⟨_,_,_,_,_,_,_,_,_,_,_⟩ := id s; go_wp2_with fail; go_at_call 137; refine (yb c _ i d rD _ rfl (by decide) (PS.alloc p1 _)).mono ?_; rintro e O ⟨b2,j2,X,rfl,k,p2,b9⟩; have u : uT c.L i = _ := P.bind_ok X; have Y : w.grownBy O (some c.pb) := za (zf G1 _) k; have s2 := k.size
 try simp at s2
 have H2 : (w.alloc (.cells #[.pointer (some ⟨c.pb,0,none⟩)] 142)).grownBy O (some c.pb) := za (zf H1 _) k; have H := zC H2 l (by simp; omega); have Z := zw H; simp only [] at Z; have m : RB O (w.heap.size + 1) := RB.keep (RB.alloc s _) k (by omega); have x : NB O r.heap.size (.int .i64 1) (.string ⟨#[]⟩) (.int .i64 0) (.int .i64 (pos c.L i)) (.slice none 0 0) := NB.keep (NB.new' (by simp)) k (by omega); have a0 := m.lt; have a1 := x.lt; obtain ⟨_,_,_,_,_,_,_,_,_,_,_⟩ := id m; obtain ⟨_,_,_,_,_,_⟩ := id x; cases b2
 ·go_wp2
  refine zj Tryz.results90 rfl (RB.five ?_) rfl ?_
  ·exact m
  refine Steps.ok (a := (T.mk 1 [] 0 (pos c.L i) [])) u ⟨_,rfl,?_⟩ ?_ ?_ (by omega)
  ·exact LR.nil _ _
  ·exact zy Y (by omega)
  ·exact PS.p5 p2 Q.out (by omega)
 ·go_wp2_with fail
  go_at_call 140; refine (jU c _ j2 d (fun w' => w'.cell? ⟨w.heap.size,0,none⟩ = some (.pointer (some ⟨c.pb,0,none⟩))) 141 #[] #[.pointer (some ⟨w.heap.size,0,none⟩)] (vh c.L 3) qx _ rfl (by decide) p2 H (rB c d w.heap.size (by omega))).mono ?_; rintro e o (⟨x3,z,I,g⟩ | ⟨A,j3,v3,z,rfl,⟨n,b7⟩,g,p3,c0⟩)
  ·obtain ⟨q,rfl,-⟩ := id I; exact ⟨rfl,Steps.err (u.trans (P.bind_err z)) I Y g⟩
  have J : uT c.L i = _ := u.trans (P.bind_ok z); obtain ⟨B,C,rfl⟩ := n.form; obtain ⟨b3,a2,n⟩ : ∃ b,b = _ /\ LR o (In b o.heap.size) A (.slice B A.length C) := ⟨_,rfl,n⟩
  try simp at a2
  have G3 : w.grownBy o (some c.pb) := za Y g; have s3 := g.size
  try simp at s3
  have H3 : (w.alloc (.cells #[.pointer (some ⟨c.pb,0,none⟩)] 142)).grownBy o (some c.pb) := za H2 g; have a5 := zC H3 l (by simp; omega); have a6 := zw a5; simp only [] at a6; have D : RB o (w.heap.size + 1) := RB.keep m g (by omega); have E : NB o r.heap.size (.int .i64 1) (.string ⟨#[]⟩) (.int .i64 0) (.int .i64 (pos c.L i)) (.slice none 0 0) := NB.keep x g (by omega); have a7 := D.lt; have a8 := E.lt; obtain ⟨_,_,_,_,_,_,_,_,_,_,_⟩ := id D; obtain ⟨_,_,_,_,_,_⟩ := id E; go_wp2_with fail; go_at_call 88; refine (zx c _ j3 d yy _ rfl (by decide) (PS.put p3 Q.out (by omega) _ _)).mono ?_; rintro e K (⟨x4,F,M,f⟩ | ⟨a4,j4,v4,F,rfl,-,f,p4,c1⟩)
  ·obtain ⟨q,rfl,-⟩ := id M; exact ⟨rfl,Steps.err (J.trans (P.bind_err F)) M (zq G3 (by omega) _ _) f⟩
  have a9 : uT c.L i = _ := J.trans (P.bind_ok F); have G4 : w.grownBy K (some c.pb) := za (zq G3 (by omega) _ _) f; have s4 := f.size
  try simp at s4
  have H4 : (w.alloc (.cells #[.pointer (some ⟨c.pb,0,none⟩)] 142)).grownBy K (some c.pb) := za (zq H3 (by omega) _ _) f; have b0 := zC H4 l (by simp; omega); have b1 := zw b0; simp only [] at b1; have G : RB K (w.heap.size + 1) := RB.keep (RB.put D _ _ _) f (by omega); have N : NB K r.heap.size (.int .i64 1) (.string ⟨#[]⟩) (.int .i64 0) (.int .i64 (pos c.L i)) (.slice B A.length C) := NB.keep (NB.s4 E _) f (by omega); have b4 : LR K (In b3 o.heap.size) A (.slice B A.length C) := LR.call (LR.put n (by omega) _ _) f (by omega); have b5 := G.lt; have b6 := N.lt; obtain ⟨_,_,_,_,_,_,_,_,_,_,_⟩ := id G; obtain ⟨_,_,_,_,_,_⟩ := id N; go_wp2; refine zj Tryz.results90 rfl (RB.five ?_) rfl ?_
  ·exact G
  refine Steps.ok (a := (T.mk 1 [] 0 (pos c.L i) A)) a9 ⟨_,rfl,?_⟩ ?_ ?_ (by omega)
  ·refine LR.wide (lo := b3) (hi := o.heap.size) (ts := A) ?_ (by omega) (by first | omega | (simp <;> omega))
   exact LR.p5 b4 (by omega)
  ·exact zy G4 (by omega)
  ·exact PS.p5 p4 Q.out (by omega)
end Go.Proofs.YtnmkffjklpfflaaGreatDoor
