/- What is imported: the rule that is handed on. -/
import Derived.Test.YtfjgelmllcnokaaGreatDoorG10
import Derived.Test.YtfjgelmllcnokaaGreatDoorG04
namespace Go.Proofs.YtfjgelmllcnokaaGreatDoor
open Go.RowKit
set_option maxHeartbeats 1000000
set_option maxRecDepth 100000
theorem nN (c : PC) (w : World) (i d : Nat) (b : Nat) (h : PS c w i d) (hc : w.cell? ⟨b,0,none⟩ = some (.pointer (some ⟨c.pb,0,none⟩))) :
  Calls Tryz.prog 117 #[.pointer (some ⟨b,0,none⟩)] w (Steps c w i d (fun w' t v => TR w' w.heap.size w'.heap.size t v) (vj c.L 3 i)) := by
 have s := za h; have u := za h.low; have N := h.lt; have x := ze hc; clear h
 go_enter Tryz.func117,Tryz.ntmps117
 go_wp2_with fail; go_at_call 118; refine (kz c _ i d 3 (PS.alloc s.out _)).mono ?_; rintro e y (⟨O,j,m,f⟩ | ⟨⟨z,A,B,C,D⟩,R,U,j,rfl,⟨E,rfl,g⟩,f,F,H⟩)
 ·obtain ⟨q,rfl,-⟩ := id m; exact ⟨rfl,Steps.err j m ga f⟩
 have n : vj c.L 3 i = _ := j; simp only [T.kind,T.name,T.num,T.at',T.subs] at g ⊢; obtain ⟨I,J,rfl⟩ := g.form; obtain ⟨V,o,g⟩ := g.nm
 try simp at o
 have K := zb ga f; have M := f.size
 try simp at M
 have l : RB y w.heap.size := RB.k (RB.new' (by simp)) f; have r := l.lt; obtain ⟨_,_,_,_,_,_,_,_,_,_,_⟩ := id l; go_wp2; refine zn Tryz.results117 rfl (RB.five ?_) rfl ?_
 ·exact l
 refine Steps.ok (a := (T.mk z A B C D)) n ⟨_,rfl,?_⟩ ?_ ?_ (by omega)
 ·exact (LR.p5 g (by omega)).wd
 ·exact zS K (by omega)
 ·exact PS.p5 F u.out (by omega)
theorem cA (c : PC) (d b : Nat) (hb : b ≠ c.pb) : Part c d (fun w => w.cell? ⟨b,0,none⟩ = some (.pointer (some ⟨c.pb,0,none⟩))) 117 (#[] ++ #[.pointer (some ⟨b,0,none⟩)]) (vj c.L 3) :=
 ⟨fun w i hp hc => by simpa using nN c w i d b hp hc,fun w w' h hg => zY hg h (by simpa using hb),enters_of Tryz.func117 (by kernel_rfl) rfl⟩
theorem oO (c : PC) (w : World) (i d : Nat) (h : PS c w i d) :
  Calls Tryz.prog 62 #[.pointer (some ⟨c.pb,0,none⟩)] w (Steps c w i d (fun w' t v => TR w' w.heap.size w'.heap.size t v) (qb c.L i)) := by
 have HP := za h; have O := za h.low; have hb := h.lt; clear h
 have l : (w.alloc (.cells #[.pointer (some ⟨c.pb,0,none⟩)] 82)).cell? ⟨w.heap.size,0,none⟩ = some (.pointer (some ⟨c.pb,0,none⟩)) := by simp
 have b8 : (w.alloc (.cells #[.pointer (some ⟨c.pb,0,none⟩)] 82)).heap.size = w.heap.size + 1 := by simp
 go_enter Tryz.func62,Tryz.ntmps62
 go_wp2_with fail; go_at_call 59; refine (yA c _ i d 1 (PS.alloc (PS.alloc HP.out _) _)).mono ?_; rintro e B ⟨rfl,g⟩; have p1 : PS c B i d := PS.kept (PS.alloc (PS.alloc HP.out _) _) g; have G1 : w.grownBy B (some c.pb) := zb (zf ga _) (zJ g (some c.pb)); have s1 := g.size
 try simp at s1
 have H1 : (w.alloc (.cells #[.pointer (some ⟨c.pb,0,none⟩)] 82)).grownBy B (some c.pb) := zb (zf (zl (w.alloc (.cells #[.pointer (some ⟨c.pb,0,none⟩)] 82)) (some c.pb)) _) (zJ g (some c.pb)); have R := zY H1 l (by simp; omega); have U := ze R; simp only [] at U; have o : RB B (w.heap.size + 1) := RB.kept (RB.new' (by simp)) g (by simp); have V := o.lt; obtain ⟨_,_,_,_,_,_,_,_,_,_,_⟩ := id o; go_wp2_with fail; go_at_call 113; refine (xB c _ i d uJ _ rfl (by decide) (PS.alloc p1 _)).mono ?_; rintro e M ⟨b2,j2,X,rfl,j,p2,b9⟩; have r : qb c.L i = _ := P.bind_ok X; have Y : w.grownBy M (some c.pb) := zb (zf G1 _) j; have s2 := j.size
 try simp at s2
 have H2 : (w.alloc (.cells #[.pointer (some ⟨c.pb,0,none⟩)] 82)).grownBy M (some c.pb) := zb (zf H1 _) j; have C := zY H2 l (by simp; omega); have Z := ze C; simp only [] at Z; have m : RB M (w.heap.size + 1) := RB.k (RB.alloc o _) j; have s : NB M B.heap.size (.int .i64 1) (.string ⟨#[]⟩) (.int .i64 0) (.int .i64 (pos c.L i)) (.slice none 0 0) := NB.k (NB.new' (by simp)) j; have a0 := m.lt; have a1 := s.lt; obtain ⟨_,_,_,_,_,_,_,_,_,_,_⟩ := id m; obtain ⟨_,_,_,_,_,_⟩ := id s; cases b2
 ·go_wp2
  refine zn Tryz.results62 rfl (RB.five ?_) rfl ?_
  ·exact m
  refine Steps.ok (a := (T.mk 1 [] 0 (pos c.L i) [])) r ⟨_,rfl,?_⟩ ?_ ?_ (by omega)
  ·exact LR.nil _ _
  ·exact zS Y (by omega)
  ·exact PS.p5 p2 O.out (by omega)
 ·go_wp2_with fail
  go_at_call 116; refine (fH c _ j2 d (fun w' => w'.cell? ⟨w.heap.size,0,none⟩ = some (.pointer (some ⟨c.pb,0,none⟩))) 117 #[] #[.pointer (some ⟨w.heap.size,0,none⟩)] (vj c.L 3) yq _ rfl (by decide) p2 C (cA c d w.heap.size (by omega))).mono ?_; rintro e w3 (⟨x3,u,D,f⟩ | ⟨N,j3,v3,u,rfl,⟨n,b7⟩,f,p3,c0⟩)
  ·obtain ⟨q,rfl,-⟩ := id D; exact ⟨rfl,Steps.err (r.trans (P.bind_err u)) D Y f⟩
  have E := r.trans (P.bind_ok u); obtain ⟨F,H,rfl⟩ := n.form; obtain ⟨b3,a2,n⟩ := n.nm
  try simp at a2
  have G3 := zb Y f; have s3 := f.size
  try simp at s3
  have H3 : (w.alloc (.cells #[.pointer (some ⟨c.pb,0,none⟩)] 82)).grownBy w3 (some c.pb) := zb H2 f; have a5 := zY H3 l (by simp; omega); have a6 := ze a5; simp only [] at a6; have x := RB.k m f; have y := NB.k s f; have a7 := x.lt; have a8 := y.lt; obtain ⟨_,_,_,_,_,_,_,_,_,_,_⟩ := id x; obtain ⟨_,_,_,_,_,_⟩ := id y; go_wp2_with fail; go_at_call 60; refine (zI c _ j3 d zE _ rfl (by decide) (PS.put p3 O.out (by omega) _ _)).mono ?_; rintro e I (⟨x4,z,J,b⟩ | ⟨a4,j4,v4,z,rfl,-,b,p4,c1⟩)
  ·obtain ⟨q,rfl,-⟩ := id J; exact ⟨rfl,Steps.err (E.trans (P.bind_err z)) J (zC G3 (by omega) _ _) b⟩
  have a9 := E.trans (P.bind_ok z); have G4 : w.grownBy I (some c.pb) := zb (zC G3 (by omega) _ _) b; have s4 := b.size
  try simp at s4
  have H4 : (w.alloc (.cells #[.pointer (some ⟨c.pb,0,none⟩)] 82)).grownBy I (some c.pb) := zb (zC H3 (by omega) _ _) b; have b0 := zY H4 l (by simp; omega); have b1 := ze b0; simp only [] at b1; have A : RB I (w.heap.size + 1) := RB.k (RB.put x _ _ _) b; have K : NB I B.heap.size (.int .i64 1) (.string ⟨#[]⟩) (.int .i64 0) (.int .i64 (pos c.L i)) (.slice F N.length H) := NB.k (NB.s4 y _) b; have b4 : LR I (In b3 w3.heap.size) N (.slice F N.length H) := LR.c (LR.put n (by omega) _ _) b; have b5 := A.lt; have b6 := K.lt; obtain ⟨_,_,_,_,_,_,_,_,_,_,_⟩ := id A; obtain ⟨_,_,_,_,_,_⟩ := id K; go_wp2; refine zn Tryz.results62 rfl (RB.five ?_) rfl ?_
  ·exact A
  refine Steps.ok (a := (T.mk 1 [] 0 (pos c.L i) N)) a9 ⟨_,rfl,?_⟩ ?_ ?_ (by omega)
  ·exact (LR.p5 b4 (by omega)).wd
  ·exact zS G4 (by omega)
  ·exact PS.p5 p4 O.out (by omega)
end Go.Proofs.YtfjgelmllcnokaaGreatDoor
