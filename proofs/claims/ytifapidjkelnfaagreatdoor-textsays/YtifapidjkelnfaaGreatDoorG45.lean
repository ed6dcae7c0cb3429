/- The document's shapes: designators,expressions,kind by kind. -/
import Derived.Test.YtifapidjkelnfaaGreatDoorG02
namespace Go.Proofs.YtifapidjkelnfaaGreatDoor
open Go.RowKit
set_option maxHeartbeats 4000000
set_option maxRecDepth 1000000
theorem ct (x : Bs) (m p : Int) (l : List T) (sv : Value) (w : World) (hk : KW w) (hf : Fits (.mk 29 x m p l)) (ha : AT w (T.mk 29 x m p l).subs sv) :
  Calls Tryz.prog 63 #[.agg #[.int .i64 29,.string ⟨x.toArray⟩,.int .i64 m,.int .i64 p,sv]] w (Sy w (.bool (zh .expression (.mk 29 x m p l)))) := by
 have f := zb (zs (r := .expression) (t := (.mk 29 x m p l)) (c := zk (.mk 29 x m p l) 29 false vg 0) (l := []) rfl); have k := zb hk; have s := zb hf; have g := zb ha; obtain ⟨a,n,c,rfl,-⟩ := ha.any; clear hk hf ha
 go_enter Tryz.func63,Tryz.ntmps63
 go_wp2_with fail; go_at_call 37; refine (zA (.mk 29 x m p l) _ 29 vg 0 false _ (k.kept gan) s (g.kept gan)).mono ?_; rintro e v ⟨rfl,b⟩; have h := za gan b; have i := zb ((Box.new w (.mk 29 x m p l) (.slice a n c) 24).kept b); cases d : zk (.mk 29 x m p l) 29 false vg 0
 ·obtain ⟨_,_,_,_,_⟩ := id i
  go_wp2_with fail
  go_ret
  exact ⟨by rw [f.out,d]; rfl,h⟩
 ·obtain ⟨_,_,u,_,j⟩ := g.zero (z8 (n := 0) d)
  cases u
  change l = [] at j
  subst j; obtain ⟨_,_,_,_,_⟩ := id i; go_wp2_with fail
  go_ret
  exact ⟨by rw [f.out,d]; rfl,h⟩
theorem co (x : Bs) (m p : Int) (l : List T) (sv : Value) (w : World) (hk : KW w) (hf : Fits (.mk 30 x m p l)) (ha : AT w (T.mk 30 x m p l).subs sv) :
  Calls Tryz.prog 63 #[.agg #[.int .i64 30,.string ⟨x.toArray⟩,.int .i64 m,.int .i64 p,sv]] w (Sy w (.bool (zh .expression (.mk 30 x m p l)))) := by
 have f := zb (zs (r := .expression) (t := (.mk 30 x m p l)) (c := zk (.mk 30 x m p l) 30 false 0 0) (l := []) rfl); have k := zb hk; have s := zb hf; have g := zb ha; obtain ⟨a,n,c,rfl,-⟩ := ha.any; clear hk hf ha
 go_enter Tryz.func63,Tryz.ntmps63
 go_wp2_with fail; go_at_call 37; refine (zA (.mk 30 x m p l) _ 30 0 0 false _ (k.kept gan) s (g.kept gan)).mono ?_; rintro e v ⟨rfl,b⟩; have h := za gan b; have i := zb ((Box.new w (.mk 30 x m p l) (.slice a n c) 24).kept b); cases d : zk (.mk 30 x m p l) 30 false 0 0
 ·obtain ⟨_,_,_,_,_⟩ := id i
  go_wp2_with fail
  go_ret
  exact ⟨by rw [f.out,d]; rfl,h⟩
 ·obtain ⟨_,_,u,_,j⟩ := g.zero (z8 (n := 0) d)
  cases u
  change l = [] at j
  subst j; obtain ⟨_,_,_,_,_⟩ := id i; go_wp2_with fail
  go_ret
  exact ⟨by rw [f.out,d]; rfl,h⟩
theorem cR (x : Bs) (m p : Int) (l : List T) (sv : Value) (w : World) (hk : KW w) (hf : Fits (.mk 31 x m p l)) (ha : AT w (T.mk 31 x m p l).subs sv) :
  Calls Tryz.prog 63 #[.agg #[.int .i64 31,.string ⟨x.toArray⟩,.int .i64 m,.int .i64 p,sv]] w (Sy w (.bool (zh .expression (.mk 31 x m p l)))) := by
 have f := zb (zs (r := .expression) (t := (.mk 31 x m p l)) (c := zk (.mk 31 x m p l) 31 false 0 0) (l := []) rfl); have k := zb hk; have s := zb hf; have g := zb ha; obtain ⟨a,n,c,rfl,-⟩ := ha.any; clear hk hf ha
 go_enter Tryz.func63,Tryz.ntmps63
 go_wp2_with fail; go_at_call 37; refine (zA (.mk 31 x m p l) _ 31 0 0 false _ (k.kept gan) s (g.kept gan)).mono ?_; rintro e v ⟨rfl,b⟩; have h := za gan b; have i := zb ((Box.new w (.mk 31 x m p l) (.slice a n c) 24).kept b); cases d : zk (.mk 31 x m p l) 31 false 0 0
 ·obtain ⟨_,_,_,_,_⟩ := id i
  go_wp2_with fail
  go_ret
  exact ⟨by rw [f.out,d]; rfl,h⟩
 ·obtain ⟨_,_,u,_,j⟩ := g.zero (z8 (n := 0) d)
  cases u
  change l = [] at j
  subst j; obtain ⟨_,_,_,_,_⟩ := id i; go_wp2_with fail
  go_ret
  exact ⟨by rw [f.out,d]; rfl,h⟩
theorem iP (x : Bs) (m p : Int) (l : List T) (sv : Value) (w : World) (hk : KW w) (hf : Fits (.mk 32 x m p l)) (ha : AT w (T.mk 32 x m p l).subs sv) :
  Calls Tryz.prog 63 #[.agg #[.int .i64 32,.string ⟨x.toArray⟩,.int .i64 m,.int .i64 p,sv]] w (Sy w (.bool (zh .expression (.mk 32 x m p l)))) := by
 have f := zb (zs (r := .expression) (t := (.mk 32 x m p l)) (c := zk (.mk 32 x m p l) 32 false 0 0) (l := []) rfl); have k := zb hk; have s := zb hf; have g := zb ha; obtain ⟨a,n,c,rfl,-⟩ := ha.any; clear hk hf ha
 go_enter Tryz.func63,Tryz.ntmps63
 go_wp2_with fail; go_at_call 37; refine (zA (.mk 32 x m p l) _ 32 0 0 false _ (k.kept gan) s (g.kept gan)).mono ?_; rintro e v ⟨rfl,b⟩; have h := za gan b; have i := zb ((Box.new w (.mk 32 x m p l) (.slice a n c) 24).kept b); cases d : zk (.mk 32 x m p l) 32 false 0 0
 ·obtain ⟨_,_,_,_,_⟩ := id i
  go_wp2_with fail
  go_ret
  exact ⟨by rw [f.out,d]; rfl,h⟩
 ·obtain ⟨_,_,u,_,j⟩ := g.zero (z8 (n := 0) d)
  cases u
  change l = [] at j
  subst j; obtain ⟨_,_,_,_,_⟩ := id i; go_wp2_with fail
  go_ret
  exact ⟨by rw [f.out,d]; rfl,h⟩
theorem cB (x : Bs) (m p : Int) (l : List T) (sv : Value) (w : World) (hk : KW w) (hf : Fits (.mk 34 x m p l)) (ha : AT w (T.mk 34 x m p l).subs sv) (IH : ∀ u,u ∈ l -> ShOK u) :
  Calls Tryz.prog 63 #[.agg #[.int .i64 34,.string ⟨x.toArray⟩,.int .i64 m,.int .i64 p,sv]] w (Sy w (.bool (zh .expression (.mk 34 x m p l)))) := by
 have i := zb (zs (r := .expression) (t := (.mk 34 x m p l)) (c := zk (.mk 34 x m p l) 34 false 0 1) (l := zJ l [.expression]) rfl); have j := zb hk; have C := zb hf; have k := zb ha; have D := zb IH; obtain ⟨a,n,c,rfl,-⟩ := ha.any; clear hk hf ha IH
 go_enter Tryz.func63,Tryz.ntmps63
 go_wp2_with fail; go_at_call 37; refine (zA (.mk 34 x m p l) _ 34 0 1 false _ (j.kept gan) C (k.kept gan)).mono ?_; rintro e K ⟨rfl,b⟩; have d := za gan b; have g := zb ((Box.new w (.mk 34 x m p l) (.slice a n c) 24).kept b); cases h : zk (.mk 34 x m p l) 34 false 0 1
 ·obtain ⟨_,_,_,_,_⟩ := id g
  go_wp2_with fail
  go_ret
  exact ⟨by rw [i.out,h]; rfl,d⟩
 ·obtain ⟨_,_,c,u,_,E,_,_,s,v,y,z⟩ := k.one (z8 (n := 1) h)
  cases E
  change l = [u] at s
  subst s; have A := zb v; have F := zb y; have G := zb z; have H := zb (D u (by simp)); clear y z v; obtain ⟨_,_,_,_,_⟩ := id g; obtain ⟨_,_,_,_,_⟩ := A.kept d; go_wp2_with fail; go_at_call 63; refine (H.expr _ _ (j.kept d) F (G.kept d)).mono ?_; rintro e L ⟨rfl,f⟩; have B := za d f; have I := g.kept f; cases J : zh .expression u
  all_goals
   obtain ⟨_,_,_,_,_⟩ := id I; obtain ⟨_,_,_,_,_⟩ := A.kept B; go_wp2_with fail
   go_ret
   exact ⟨by rw [i.out,h]; simp [zJ,J],B⟩
theorem iV (x : Bs) (m p : Int) (l : List T) (sv : Value) (w : World) (hk : KW w) (hf : Fits (.mk 35 x m p l)) (ha : AT w (T.mk 35 x m p l).subs sv) (IH : ∀ u,u ∈ l -> ShOK u) :
  Calls Tryz.prog 63 #[.agg #[.int .i64 35,.string ⟨x.toArray⟩,.int .i64 m,.int .i64 p,sv]] w (Sy w (.bool (zh .expression (.mk 35 x m p l)))) := by
 have i := zb (zs (r := .expression) (t := (.mk 35 x m p l)) (c := zk (.mk 35 x m p l) 35 false 0 1) (l := zJ l [.expression]) rfl); have j := zb hk; have C := zb hf; have k := zb ha; have D := zb IH; obtain ⟨a,n,c,rfl,-⟩ := ha.any; clear hk hf ha IH
 go_enter Tryz.func63,Tryz.ntmps63
 go_wp2_with fail; go_at_call 37; refine (zA (.mk 35 x m p l) _ 35 0 1 false _ (j.kept gan) C (k.kept gan)).mono ?_; rintro e K ⟨rfl,b⟩; have d := za gan b; have g := zb ((Box.new w (.mk 35 x m p l) (.slice a n c) 24).kept b); cases h : zk (.mk 35 x m p l) 35 false 0 1
 ·obtain ⟨_,_,_,_,_⟩ := id g
  go_wp2_with fail
  go_ret
  exact ⟨by rw [i.out,h]; rfl,d⟩
 ·obtain ⟨_,_,c,u,_,E,_,_,s,v,y,z⟩ := k.one (z8 (n := 1) h)
  cases E
  change l = [u] at s
  subst s; have A := zb v; have F := zb y; have G := zb z; have H := zb (D u (by simp)); clear y z v; obtain ⟨_,_,_,_,_⟩ := id g; obtain ⟨_,_,_,_,_⟩ := A.kept d; go_wp2_with fail; go_at_call 63; refine (H.expr _ _ (j.kept d) F (G.kept d)).mono ?_; rintro e L ⟨rfl,f⟩; have B := za d f; have I := g.kept f; cases J : zh .expression u
  all_goals
   obtain ⟨_,_,_,_,_⟩ := id I; obtain ⟨_,_,_,_,_⟩ := A.kept B; go_wp2_with fail
   go_ret
   exact ⟨by rw [i.out,h]; simp [zJ,J],B⟩
theorem cm (x : Bs) (m p : Int) (l : List T) (sv : Value) (w : World) (hk : KW w) (hf : Fits (.mk 37 x m p l)) (ha : AT w (T.mk 37 x m p l).subs sv) (IH : ∀ u,u ∈ l -> ShOK u) :
  Calls Tryz.prog 63 #[.agg #[.int .i64 37,.string ⟨x.toArray⟩,.int .i64 m,.int .i64 p,sv]] w (Sy w (.bool (zh .expression (.mk 37 x m p l)))) := by
 have s := zb (zs (r := .expression) (t := (.mk 37 x m p l)) (c := zk (.mk 37 x m p l) 37 false 0 2) (l := zJ l [.expression,.typeName]) rfl); have y := zb hk; have M := zb hf; have C := zb ha; have D := zb IH; obtain ⟨a,n,c,rfl,-⟩ := ha.any; clear hk hf ha IH
 go_enter Tryz.func63,Tryz.ntmps63
 go_wp2_with fail; go_at_call 37; refine (zA (.mk 37 x m p l) _ 37 0 2 false _ (y.kept gan) M (C.kept gan)).mono ?_; rintro e Z ⟨rfl,f⟩; have d := za gan f; have z := zb ((Box.new w (.mk 37 x m p l) (.slice a n c) 24).kept f); cases i : zk (.mk 37 x m p l) 37 false 0 2
 ·obtain ⟨_,_,_,_,_⟩ := id z
  go_wp2_with fail
  go_ret
  exact ⟨by rw [s.out,i]; rfl,d⟩
 ·obtain ⟨_,_,c,u,_,v,_,N,_,_,E,F,G,H,I,J,K⟩ := C.two (z8 (n := 2) i)
  cases N
  change l = [u,v] at E
  subst E; have j := zb F; have O := zb G; have Q := zb H; have k := zb I; have R := zb J; have U := zb K; have V := zb (D u (by simp)); have IV := zb (D v (by simp)); clear G H F J K I; obtain ⟨_,_,_,_,_⟩ := id z; obtain ⟨_,_,_,_,_⟩ := j.kept d; obtain ⟨_,_,_,_,_⟩ := k.kept d; go_wp2_with fail; go_at_call 63; refine (V.expr _ _ (y.kept d) O (Q.kept d)).mono ?_; rintro e w2 ⟨rfl,g⟩; have b := za d g; have A := z.kept g; cases L : zh .expression u
  ·obtain ⟨_,_,_,_,_⟩ := id A
   obtain ⟨_,_,_,_,_⟩ := j.kept b; obtain ⟨_,_,_,_,_⟩ := k.kept b; go_wp2_with fail
   go_ret
   exact ⟨by rw [s.out,i]; simp [zJ,L],b⟩
  ·obtain ⟨_,_,_,_,_⟩ := id A
   obtain ⟨_,_,_,_,_⟩ := j.kept b; obtain ⟨_,_,_,_,_⟩ := k.kept b; go_wp2_with fail; go_at_call 65; refine (yF _ _ _ (y.kept b) R (U.kept b)).mono ?_; rintro e w3 ⟨rfl,h⟩; have B := za b h; have X := A.kept h; cases Y : zh .typeName v
   all_goals
    obtain ⟨_,_,_,_,_⟩ := id X; obtain ⟨_,_,_,_,_⟩ := j.kept B; obtain ⟨_,_,_,_,_⟩ := k.kept B; go_wp2_with fail
    go_ret
    exact ⟨by rw [s.out,i]; simp [zJ,L,Y],B⟩
theorem iX (x : Bs) (m p : Int) (l : List T) (sv : Value) (w : World) (hk : KW w) (hf : Fits (.mk 33 x m p l)) (ha : AT w (T.mk 33 x m p l).subs sv) (IH : ∀ u,u ∈ l -> ShOK u) :
  Calls Tryz.prog 63 #[.agg #[.int .i64 33,.string ⟨x.toArray⟩,.int .i64 m,.int .i64 p,sv]] w (Sy w (.bool (zh .expression (.mk 33 x m p l)))) := by
 have k := zb (zs (r := .expression) (t := (.mk 33 x m p l)) (c := zk (.mk 33 x m p l) 33 false 0 (-1) && decide (0 < l.length)) (l := yQ (.mk 33 x m p l) .designator .expression) rfl); have y := zb hk; have U := zb hf; have D := zb ha; have J := zb IH; obtain ⟨a,n,c,rfl,-⟩ := ha.any; clear hk hf ha IH
 go_enter Tryz.func63,Tryz.ntmps63
 go_wp2_with fail; go_at_call 37; refine (zA (.mk 33 x m p l) _ 33 0 (-1) false _ (y.kept gan) U (D.kept gan)).mono ?_; rintro e w1 ⟨rfl,z⟩; have h := za gan z; have A := zb ((Box.new w (.mk 33 x m p l) (.slice a n c) 24).kept z); cases s : zk (.mk 33 x m p l) 33 false 0 (-1)
 ·obtain ⟨_,_,_,_,_⟩ := id A
  go_wp2_with fail
  go_ret
  exact ⟨by rw [k.out,s]; rfl,h⟩
 ·cases l with
  | nil =>
   obtain ⟨_,_,E,V,_⟩ := D.zero rfl; cases E; obtain ⟨_,_,_,_,_⟩ := id A; go_wp2_with fail
   go_ret
   exact ⟨by rw [k.out,s]; rfl,h⟩
  | cons u r =>
   obtain ⟨g,o,c,_,E,_,V,K,L,M,F⟩ := AT.cons D; cases E; have i := zb K; have N := zb L; have O := zb M; have Q := zb (J u (by simp)); have R := zb (fun v (hv : v ∈ r) => J v (List.mem_cons_of_mem _ hv)); clear L M K; obtain ⟨_,_,_,_,_⟩ := id A; obtain ⟨_,_,_,_,_⟩ := i.kept h
   rcases Nat.lt_or_ge 1 c with G | G
   ·have H := zb F
    clear F; go_wp2_with fail; go_at_call 99; refine (Q.desig _ _ (y.kept h) N (O.kept h)).mono ?_; rintro e X ⟨rfl,d⟩; have b := za h d; have j := A.kept d; cases B : zh .designator u
    ·obtain ⟨_,_,_,_,_⟩ := id j
     obtain ⟨_,_,_,_,_⟩ := i.kept b; go_wp2_with fail
     go_ret
     exact ⟨by rw [k.out,s]; simp [yQ,yE,T.subs,List.all_map,Function.comp_def,B],b⟩
    ·obtain ⟨_,_,_,_,_⟩ := id j
     obtain ⟨_,_,_,_,_⟩ := i.kept b; go_wp2_with fail; go_at_call 100; refine (yL _ _ _ (y.kept b) R (H.kept b)).mono ?_; rintro e Y ⟨rfl,f⟩; have C := za b f; have I := j.kept f; cases Z : r.all (zh .expression)
     all_goals
      obtain ⟨_,_,_,_,_⟩ := id I; obtain ⟨_,_,_,_,_⟩ := i.kept C; go_wp2_with fail
      go_ret
      exact ⟨by rw [k.out,s]; simp [yQ,yE,T.subs,List.all_map,Function.comp_def,B,Z],C⟩
   ·obtain rfl : c = 1 := by omega
    obtain rfl : r = [] := List.eq_nil_of_length_eq_zero (by omega); have H : Hid (AT w [] (.slice (some ⟨g,o,none⟩) 0 0)) := AT.nil _ _ (Nat.zero_le _); clear F; go_wp2_with fail; go_at_call 99; refine (Q.desig _ _ (y.kept h) N (O.kept h)).mono ?_; rintro e X ⟨rfl,d⟩; have b := za h d; have j := A.kept d; cases B : zh .designator u
    ·obtain ⟨_,_,_,_,_⟩ := id j
     obtain ⟨_,_,_,_,_⟩ := i.kept b; go_wp2_with fail
     go_ret
     exact ⟨by rw [k.out,s]; simp [yQ,yE,T.subs,B],b⟩
    ·obtain ⟨_,_,_,_,_⟩ := id j
     obtain ⟨_,_,_,_,_⟩ := i.kept b; go_wp2_with fail; go_at_call 100; refine (yL _ _ _ (y.kept b) R (H.kept b)).mono ?_; rintro e Y ⟨rfl,f⟩; have C := za b f; have I := j.kept f; obtain ⟨_,_,_,_,_⟩ := id I; obtain ⟨_,_,_,_,_⟩ := i.kept C; go_wp2_with fail
     go_ret
     exact ⟨by rw [k.out,s]; simp [yQ,yE,T.subs,B],C⟩
set_option maxHeartbeats 1000000
theorem ix (x : Bs) (m p : Int) (l : List T) (sv : Value) (w : World) (hk : KW w) (ha : AT w (T.mk 36 x m p l).subs sv) (IH : ∀ u,u ∈ l -> ShOK u) :
  Calls Tryz.prog 63 #[.agg #[.int .i64 36,.string ⟨x.toArray⟩,.int .i64 m,.int .i64 p,sv]] w (Sy w (.bool (zh .expression (.mk 36 x m p l)))) := by
 have z := zs (r := .expression) (t := (.mk 36 x m p l)) (c := decide (0 <= zo x) && m == 0 && l.length == 2) (l := zJ l [.expression,.expression]) rfl; have K := zb hk; have L := zb ha; obtain ⟨a,n,c,rfl,_,_,M⟩ := ha.any
 change l.length = n at M
 subst M; have N := zb IH; clear hk ha IH
 have U : Hid ((⟨x.toArray⟩ : ByteArray).data.toList = x) := rfl
 by_cases O : 0 <= zo x
 ·by_cases Q : m = 0
  ·subst Q
   by_cases H : l.length = 2
   ·obtain ⟨u,v,rfl⟩ : ∃ u v,l = [u,v] := by
     match l,H with
     | [u,v],_ => exact ⟨u,v,rfl⟩
    have d : zh .expression (.mk 36 x 0 p [u,v]) = [u,v].all (zh .expression) := by
     rw [z]
     simp [zJ,O]
    clear H; cases F : [u,v].all (zh .expression)
    ·rw [d,F]
     clear z d
     go_enter Tryz.func63,Tryz.ntmps63
     go_wp2_with fail; go_at_call 54; refine (xI ⟨x.toArray⟩ _).mono ?_; rintro e G ⟨rfl,b⟩; have k := za gan b; have s := zb ((Box.new w (.mk 36 x 0 p [u,v]) (.slice a 2 c) 24).kept b); obtain ⟨f,g,h,i,j⟩ := id s; go_wp2_with fail; go_at_call 100; refine (yL [u,v] _ _ (K.kept k) N (L.kept k)).mono ?_; rintro e R ⟨rfl,y⟩; rw [F]; have I := za k y; have J := s.kept y; obtain ⟨A,B,C,D,E⟩ := id J; go_wp2_with fail
     go_ret
     exact ⟨rfl,I⟩
    ·rw [d,F]
     clear z d
     go_enter Tryz.func63,Tryz.ntmps63
     go_wp2_with fail; go_at_call 54; refine (xI ⟨x.toArray⟩ _).mono ?_; rintro e G ⟨rfl,b⟩; have k := za gan b; have s := zb ((Box.new w (.mk 36 x 0 p [u,v]) (.slice a 2 c) 24).kept b); obtain ⟨f,g,h,i,j⟩ := id s; go_wp2_with fail; go_at_call 100; refine (yL [u,v] _ _ (K.kept k) N (L.kept k)).mono ?_; rintro e R ⟨rfl,y⟩; rw [F]; have I := za k y; have J := s.kept y; obtain ⟨A,B,C,D,E⟩ := id J; go_wp2_with fail
     go_ret
     exact ⟨rfl,I⟩
   ·skip
    rw [show zh .expression (.mk 36 x 0 p l) = false by rw [z]; simp [H]]; clear z
    go_enter Tryz.func63,Tryz.ntmps63
    go_wp2_with fail; go_at_call 54; refine (xI ⟨x.toArray⟩ _).mono ?_; rintro e G ⟨rfl,b⟩; have k := za gan b; have s := zb ((Box.new w (.mk 36 x 0 p l) (.slice a l.length c) 24).kept b); obtain ⟨f,g,h,i,j⟩ := id s; go_wp2_with fail
    go_ret
    exact ⟨rfl,k⟩
  ·skip
   rw [show zh .expression (.mk 36 x m p l) = false by rw [z]; simp [Q]]; clear z
   go_enter Tryz.func63,Tryz.ntmps63
   go_wp2_with fail; go_at_call 54; refine (xI ⟨x.toArray⟩ _).mono ?_; rintro e G ⟨rfl,b⟩; have k := za gan b; have s := zb ((Box.new w (.mk 36 x m p l) (.slice a l.length c) 24).kept b); obtain ⟨f,g,h,i,j⟩ := id s; go_wp2_with fail
   go_ret
   exact ⟨rfl,k⟩
 ·skip
  rw [show zh .expression (.mk 36 x m p l) = false by rw [z]; simp [O]]; clear z
  go_enter Tryz.func63,Tryz.ntmps63
  go_wp2_with fail; go_at_call 54; refine (xI ⟨x.toArray⟩ _).mono ?_; rintro e G ⟨rfl,b⟩; have k := za gan b; have s := zb ((Box.new w (.mk 36 x m p l) (.slice a l.length c) 24).kept b); obtain ⟨f,g,h,i,j⟩ := id s; go_wp2_with fail
  go_ret
  exact ⟨rfl,k⟩
theorem kQ {r q : Rule} {t : T} (h : zw r t = zw q t) : zh r t = zh q t := by
 unfold zh
 congr 1
 rw [eq_iff_iff,Well.iff,Well.iff,h]
theorem pj (kd : Int) (x : Bs) (m p : Int) (l : List T) (sv : Value) (w : World) (ha : AT w (T.mk kd x m p l).subs sv) (h24 : ¬ kd = 24) (h25 : ¬ kd = 25) (h26 : ¬ kd = 26) (h27 : ¬ kd = 27) (h28 : ¬ kd = 28) :
  Calls Tryz.prog 99 #[.agg #[.int .i64 kd,.string ⟨x.toArray⟩,.int .i64 m,.int .i64 p,sv]] w (Sy w (.bool (zh .designator (.mk kd x m p l)))) := by
 rw [ur (show zw .designator (.mk kd x m p l) = none by simp [zw,yJ,T.kind,h24,h25,h26,h27,h28])]; obtain ⟨_,_,_,rfl,_,_,_⟩ := ha.any; clear ha
 go_enter Tryz.func99,Tryz.ntmps99
 go_wp2_with fail
 go_ret
 exact ⟨rfl,zf grn _⟩
theorem nR (kd : Int) (x : Bs) (m p : Int) (l : List T) (sv : Value) (w : World) (hk : KW w) (hf : Fits (.mk kd x m p l)) (ha : AT w (T.mk kd x m p l).subs sv) (h29 : ¬ kd = 29) (h30 : ¬ kd = 30) (h31 : ¬ kd = 31) (h32 : ¬ kd = 32) (h33 : ¬ kd = 33) (h34 : ¬ kd = 34) (h35 : ¬ kd = 35) (h36 : ¬ kd = 36) (h37 : ¬ kd = 37)
  (hd : ∀ (sv : Value) (w : World),KW w -> Fits (.mk kd x m p l) -> AT w (T.mk kd x m p l).subs sv -> Calls Tryz.prog 99 #[zq (.mk kd x m p l) sv] w (Sy w (.bool (zh .designator (.mk kd x m p l))))) :
  Calls Tryz.prog 63 #[.agg #[.int .i64 kd,.string ⟨x.toArray⟩,.int .i64 m,.int .i64 p,sv]] w (Sy w (.bool (zh .expression (.mk kd x m p l)))) := by
 rw [kQ (show zw .expression (.mk kd x m p l) = zw .designator (.mk kd x m p l) by simp [zw,yR,T.kind,h29,h30,h31,h32,h33,h34,h35,h36,h37])]; have d := zb hk; have f := zb hf; have g := zb ha; have h := zb hd; obtain ⟨a,n,c,rfl,_,_,_⟩ := ha.any; clear ha hk hf hd
 go_enter Tryz.func63,Tryz.ntmps63
 go_wp2_with fail; go_at_call 99; refine (h _ _ (d.kept gan) f (g.kept gan)).mono ?_; rintro e k ⟨rfl,b⟩; have i := za gan b; have j := zb ((Box.new w (.mk kd x m p l) (.slice a n c) 24).kept b); obtain ⟨_,_,_,_,_⟩ := id j; go_wp2_with fail
 go_ret
 exact ⟨rfl,i⟩
theorem lB (t : T) (IH : ∀ u,u ∈ t.subs -> ShOK u) : ShOK t := by
 obtain ⟨a,x,m,p,l⟩ := t
 change ∀ u,u ∈ l -> ShOK u at IH
 have E : ∀ (b : Value) (w : World),KW w -> Fits (.mk a x m p l) -> AT w (T.mk a x m p l).subs b -> Calls Tryz.prog 99 #[zq (.mk a x m p l) b] w (Sy w (.bool (zh .designator (.mk a x m p l)))) := by
  intro b w f g d
  by_cases h : a = 24
  ·subst h; exact lH x m p l b w f g d
  by_cases i : a = 25
  ·subst i; exact lq x m p l b w f g d IH
  by_cases j : a = 26
  ·subst j; exact lf x m p l b w f g d IH
  by_cases k : a = 27
  ·subst k; exact lL x m p l b w f g d IH
  by_cases n : a = 28
  ·subst n; exact my x m p l b w f g d IH
  exact pj a x m p l b w d h i j k n
 refine ⟨E,fun b w f g d => ?_⟩
 by_cases r : a = 29
 ·subst r; exact ct x m p l b w f g d
 by_cases s : a = 30
 ·subst s; exact co x m p l b w f g d
 by_cases v : a = 31
 ·subst v; exact cR x m p l b w f g d
 by_cases y : a = 32
 ·subst y; exact iP x m p l b w f g d
 by_cases z : a = 33
 ·subst z; exact iX x m p l b w f g d IH
 by_cases A : a = 34
 ·subst A; exact cB x m p l b w f g d IH
 by_cases B : a = 35
 ·subst B; exact iV x m p l b w f g d IH
 by_cases C : a = 36
 ·subst C; exact ix x m p l b w f d IH
 by_cases D : a = 37
 ·subst D; exact cm x m p l b w f g d IH
 exact nR a x m p l b w f g d r s v y z A B C D E
theorem yG (t : T) : ShOK t := lB t (fun u _hu => yG u)
 termination_by SizeOf.sizeOf t
 decreasing_by
  obtain ⟨_,_,_,_,l⟩ := t; have h9 := List.sizeOf_lt_of_mem (show u ∈ l from _hu); simp only [T.mk.sizeOf_spec]
  omega
set_option maxHeartbeats 4000000
structure AcOK (u : T) : Prop where
 stmt : ∀ (sv : Value) (w : World),KW w -> Fits u -> AT w u.subs sv -> Calls Tryz.prog 66 #[zq u sv] w (Sy w (.bool (zh .act u)))
 stmts : ∀ (sv : Value) (w : World),KW w -> Fits u -> AT w u.subs sv -> Calls Tryz.prog 39 #[zq u sv] w (Sy w (.bool (zh (.list .act) u)))
theorem cF (x : Bs) (m p : Int) (l : List T) (sv : Value) (w : World) (hk : KW w) (hf : Fits (.mk 14 x m p l)) (ha : AT w (T.mk 14 x m p l).subs sv) (IH : ∀ u,u ∈ l -> AcOK u) :
  Calls Tryz.prog 66 #[.agg #[.int .i64 14,.string ⟨x.toArray⟩,.int .i64 m,.int .i64 p,sv]] w (Sy w (.bool (zh .act (.mk 14 x m p l)))) := by
 have s := zb (zs (r := .act) (t := (.mk 14 x m p l)) (c := zk (.mk 14 x m p l) 14 false 0 2) (l := zJ l [.designator,.expression]) rfl); have y := zb hk; have L := zb hf; have C := zb ha; have X := zb IH; obtain ⟨a,n,c,rfl,-⟩ := ha.any; clear hk hf ha IH
 go_enter Tryz.func66,Tryz.ntmps66
 go_wp2_with fail; go_at_call 37; refine (zA (.mk 14 x m p l) _ 14 0 2 false _ (y.kept gan) L (C.kept gan)).mono ?_; rintro e Y ⟨rfl,f⟩; have d := za gan f; have z := zb ((Box.new w (.mk 14 x m p l) (.slice a n c) 24).kept f); cases i : zk (.mk 14 x m p l) 14 false 0 2
 ·obtain ⟨_,_,_,_,_⟩ := id z
  go_wp2_with fail
  go_ret
  exact ⟨by rw [s.out,i]; rfl,d⟩
 ·obtain ⟨_,_,c,u,_,v,_,M,_,_,D,E,F,G,H,I,J⟩ := C.two (z8 (n := 2) i)
  cases M
  change l = [u,v] at D
  subst D; have j := zb E; have N := zb F; have O := zb G; have k := zb H; have Q := zb I; have R := zb J; clear F G E I J H; obtain ⟨_,_,_,_,_⟩ := id z; obtain ⟨_,_,_,_,_⟩ := j.kept d; obtain ⟨_,_,_,_,_⟩ := k.kept d; go_wp2_with fail; go_at_call 99; refine ((yG _).desig _ _ (y.kept d) N (O.kept d)).mono ?_; rintro e Z ⟨rfl,g⟩; have b := za d g; have A := z.kept g; cases K : zh .designator u
  ·obtain ⟨_,_,_,_,_⟩ := id A
   obtain ⟨_,_,_,_,_⟩ := j.kept b; obtain ⟨_,_,_,_,_⟩ := k.kept b; go_wp2_with fail
   go_ret
   exact ⟨by rw [s.out,i]; simp [zJ,K],b⟩
  ·obtain ⟨_,_,_,_,_⟩ := id A
   obtain ⟨_,_,_,_,_⟩ := j.kept b; obtain ⟨_,_,_,_,_⟩ := k.kept b; go_wp2_with fail; go_at_call 63; refine ((yG _).expr _ _ (y.kept b) Q (R.kept b)).mono ?_; rintro e w3 ⟨rfl,h⟩; have B := za b h; have U := A.kept h; cases V : zh .expression v
   all_goals
    obtain ⟨_,_,_,_,_⟩ := id U; obtain ⟨_,_,_,_,_⟩ := j.kept B; obtain ⟨_,_,_,_,_⟩ := k.kept B; go_wp2_with fail
    go_ret
    exact ⟨by rw [s.out,i]; simp [zJ,K,V],B⟩
theorem ir (x : Bs) (m p : Int) (l : List T) (sv : Value) (w : World) (hk : KW w) (hf : Fits (.mk 17 x m p l)) (ha : AT w (T.mk 17 x m p l).subs sv) (IH : ∀ u,u ∈ l -> AcOK u) :
  Calls Tryz.prog 66 #[.agg #[.int .i64 17,.string ⟨x.toArray⟩,.int .i64 m,.int .i64 p,sv]] w (Sy w (.bool (zh .act (.mk 17 x m p l)))) := by
 have s := zb (zs (r := .act) (t := (.mk 17 x m p l)) (c := zk (.mk 17 x m p l) 17 false 0 2) (l := zJ l [.expression,(.list .act)]) rfl); have y := zb hk; have M := zb hf; have C := zb ha; have D := zb IH; obtain ⟨a,n,c,rfl,-⟩ := ha.any; clear hk hf ha IH
 go_enter Tryz.func66,Tryz.ntmps66
 go_wp2_with fail; go_at_call 37; refine (zA (.mk 17 x m p l) _ 17 0 2 false _ (y.kept gan) M (C.kept gan)).mono ?_; rintro e Z ⟨rfl,f⟩; have d := za gan f; have z := zb ((Box.new w (.mk 17 x m p l) (.slice a n c) 24).kept f); cases i : zk (.mk 17 x m p l) 17 false 0 2
 ·obtain ⟨_,_,_,_,_⟩ := id z
  go_wp2_with fail
  go_ret
  exact ⟨by rw [s.out,i]; rfl,d⟩
 ·obtain ⟨_,_,c,u,_,v,_,N,_,_,E,F,G,H,I,J,K⟩ := C.two (z8 (n := 2) i)
  cases N
  change l = [u,v] at E
  subst E; have j := zb F; have O := zb G; have Q := zb H; have k := zb I; have R := zb J; have U := zb K; have IU := zb (D u (by simp)); have V := zb (D v (by simp)); clear G H F J K I; obtain ⟨_,_,_,_,_⟩ := id z; obtain ⟨_,_,_,_,_⟩ := j.kept d; obtain ⟨_,_,_,_,_⟩ := k.kept d; go_wp2_with fail; go_at_call 63; refine ((yG _).expr _ _ (y.kept d) O (Q.kept d)).mono ?_; rintro e w2 ⟨rfl,g⟩; have b := za d g; have A := z.kept g; cases L : zh .expression u
  ·obtain ⟨_,_,_,_,_⟩ := id A
   obtain ⟨_,_,_,_,_⟩ := j.kept b; obtain ⟨_,_,_,_,_⟩ := k.kept b; go_wp2_with fail
   go_ret
   exact ⟨by rw [s.out,i]; simp [zJ,L],b⟩
  ·obtain ⟨_,_,_,_,_⟩ := id A
   obtain ⟨_,_,_,_,_⟩ := j.kept b; obtain ⟨_,_,_,_,_⟩ := k.kept b; go_wp2_with fail; go_at_call 39; refine (V.stmts _ _ (y.kept b) R (U.kept b)).mono ?_; rintro e w3 ⟨rfl,h⟩; have B := za b h; have X := A.kept h; cases Y : zh (.list .act) v
   all_goals
    obtain ⟨_,_,_,_,_⟩ := id X; obtain ⟨_,_,_,_,_⟩ := j.kept B; obtain ⟨_,_,_,_,_⟩ := k.kept B; go_wp2_with fail
    go_ret
    exact ⟨by rw [s.out,i]; simp [zJ,L,Y],B⟩
theorem iq (x : Bs) (m p : Int) (l : List T) (sv : Value) (w : World) (hk : KW w) (hf : Fits (.mk 18 x m p l)) (ha : AT w (T.mk 18 x m p l).subs sv) (IH : ∀ u,u ∈ l -> AcOK u) :
  Calls Tryz.prog 66 #[.agg #[.int .i64 18,.string ⟨x.toArray⟩,.int .i64 m,.int .i64 p,sv]] w (Sy w (.bool (zh .act (.mk 18 x m p l)))) := by
 have s := zb (zs (r := .act) (t := (.mk 18 x m p l)) (c := zk (.mk 18 x m p l) 18 false 0 2) (l := zJ l [(.list .act),.expression]) rfl); have y := zb hk; have M := zb hf; have C := zb ha; have D := zb IH; obtain ⟨a,n,c,rfl,-⟩ := ha.any; clear hk hf ha IH
 go_enter Tryz.func66,Tryz.ntmps66
 go_wp2_with fail; go_at_call 37; refine (zA (.mk 18 x m p l) _ 18 0 2 false _ (y.kept gan) M (C.kept gan)).mono ?_; rintro e Z ⟨rfl,f⟩; have d := za gan f; have z := zb ((Box.new w (.mk 18 x m p l) (.slice a n c) 24).kept f); cases i : zk (.mk 18 x m p l) 18 false 0 2
 ·obtain ⟨_,_,_,_,_⟩ := id z
  go_wp2_with fail
  go_ret
  exact ⟨by rw [s.out,i]; rfl,d⟩
 ·obtain ⟨_,_,c,u,_,v,_,N,_,_,E,F,G,H,I,J,K⟩ := C.two (z8 (n := 2) i)
  cases N
  change l = [u,v] at E
  subst E; have j := zb F; have O := zb G; have Q := zb H; have k := zb I; have R := zb J; have U := zb K; have V := zb (D u (by simp)); have IV := zb (D v (by simp)); clear G H F J K I; obtain ⟨_,_,_,_,_⟩ := id z; obtain ⟨_,_,_,_,_⟩ := j.kept d; obtain ⟨_,_,_,_,_⟩ := k.kept d; go_wp2_with fail; go_at_call 39; refine (V.stmts _ _ (y.kept d) O (Q.kept d)).mono ?_; rintro e w2 ⟨rfl,g⟩; have b := za d g; have A := z.kept g; cases L : zh (.list .act) u
  ·obtain ⟨_,_,_,_,_⟩ := id A
   obtain ⟨_,_,_,_,_⟩ := j.kept b; obtain ⟨_,_,_,_,_⟩ := k.kept b; go_wp2_with fail
   go_ret
   exact ⟨by rw [s.out,i]; simp [zJ,L],b⟩
  ·obtain ⟨_,_,_,_,_⟩ := id A
   obtain ⟨_,_,_,_,_⟩ := j.kept b; obtain ⟨_,_,_,_,_⟩ := k.kept b; go_wp2_with fail; go_at_call 63; refine ((yG _).expr _ _ (y.kept b) R (U.kept b)).mono ?_; rintro e w3 ⟨rfl,h⟩; have B := za b h; have X := A.kept h; cases Y : zh .expression v
   all_goals
    obtain ⟨_,_,_,_,_⟩ := id X; obtain ⟨_,_,_,_,_⟩ := j.kept B; obtain ⟨_,_,_,_,_⟩ := k.kept B; go_wp2_with fail
    go_ret
    exact ⟨by rw [s.out,i]; simp [zJ,L,Y],B⟩
theorem iT (x : Bs) (m p : Int) (l : List T) (sv : Value) (w : World) (hk : KW w) (hf : Fits (.mk 20 x m p l)) (ha : AT w (T.mk 20 x m p l).subs sv) (IH : ∀ u,u ∈ l -> AcOK u) :
  Calls Tryz.prog 66 #[.agg #[.int .i64 20,.string ⟨x.toArray⟩,.int .i64 m,.int .i64 p,sv]] w (Sy w (.bool (zh .act (.mk 20 x m p l)))) := by
 have i := zb (zs (r := .act) (t := (.mk 20 x m p l)) (c := zk (.mk 20 x m p l) 20 false 0 1) (l := zJ l [.designator]) rfl); have j := zb hk; have C := zb hf; have k := zb ha; have I := zb IH; obtain ⟨a,n,c,rfl,-⟩ := ha.any; clear hk hf ha IH
 go_enter Tryz.func66,Tryz.ntmps66
 go_wp2_with fail; go_at_call 37; refine (zA (.mk 20 x m p l) _ 20 0 1 false _ (j.kept gan) C (k.kept gan)).mono ?_; rintro e J ⟨rfl,b⟩; have d := za gan b; have g := zb ((Box.new w (.mk 20 x m p l) (.slice a n c) 24).kept b); cases h : zk (.mk 20 x m p l) 20 false 0 1
 ·obtain ⟨_,_,_,_,_⟩ := id g
  go_wp2_with fail
  go_ret
  exact ⟨by rw [i.out,h]; rfl,d⟩
 ·obtain ⟨_,_,c,u,_,D,_,_,s,v,y,z⟩ := k.one (z8 (n := 1) h)
  cases D
  change l = [u] at s
  subst s; have A := zb v; have E := zb y; have F := zb z; clear y z v; obtain ⟨_,_,_,_,_⟩ := id g; obtain ⟨_,_,_,_,_⟩ := A.kept d; go_wp2_with fail; go_at_call 99; refine ((yG _).desig _ _ (j.kept d) E (F.kept d)).mono ?_; rintro e K ⟨rfl,f⟩; have B := za d f; have G := g.kept f; cases H : zh .designator u
  all_goals
   obtain ⟨_,_,_,_,_⟩ := id G; obtain ⟨_,_,_,_,_⟩ := A.kept B; go_wp2_with fail
   go_ret
   exact ⟨by rw [i.out,h]; simp [zJ,H],B⟩
theorem cL (x : Bs) (m p : Int) (l : List T) (sv : Value) (w : World) (hk : KW w) (hf : Fits (.mk 22 x m p l)) (ha : AT w (T.mk 22 x m p l).subs sv) (IH : ∀ u,u ∈ l -> AcOK u) :
  Calls Tryz.prog 66 #[.agg #[.int .i64 22,.string ⟨x.toArray⟩,.int .i64 m,.int .i64 p,sv]] w (Sy w (.bool (zh .act (.mk 22 x m p l)))) := by
 have i := zb (zs (r := .act) (t := (.mk 22 x m p l)) (c := zk (.mk 22 x m p l) 22 false 0 1) (l := zJ l [.designator]) rfl); have j := zb hk; have C := zb hf; have k := zb ha; have I := zb IH; obtain ⟨a,n,c,rfl,-⟩ := ha.any; clear hk hf ha IH
 go_enter Tryz.func66,Tryz.ntmps66
 go_wp2_with fail; go_at_call 37; refine (zA (.mk 22 x m p l) _ 22 0 1 false _ (j.kept gan) C (k.kept gan)).mono ?_; rintro e J ⟨rfl,b⟩; have d := za gan b; have g := zb ((Box.new w (.mk 22 x m p l) (.slice a n c) 24).kept b); cases h : zk (.mk 22 x m p l) 22 false 0 1
 ·obtain ⟨_,_,_,_,_⟩ := id g
  go_wp2_with fail
  go_ret
  exact ⟨by rw [i.out,h]; rfl,d⟩
 ·obtain ⟨_,_,c,u,_,D,_,_,s,v,y,z⟩ := k.one (z8 (n := 1) h)
  cases D
  change l = [u] at s
  subst s; have A := zb v; have E := zb y; have F := zb z; clear y z v; obtain ⟨_,_,_,_,_⟩ := id g; obtain ⟨_,_,_,_,_⟩ := A.kept d; go_wp2_with fail; go_at_call 99; refine ((yG _).desig _ _ (j.kept d) E (F.kept d)).mono ?_; rintro e K ⟨rfl,f⟩; have B := za d f; have G := g.kept f; cases H : zh .designator u
  all_goals
   obtain ⟨_,_,_,_,_⟩ := id G; obtain ⟨_,_,_,_,_⟩ := A.kept B; go_wp2_with fail
   go_ret
   exact ⟨by rw [i.out,h]; simp [zJ,H],B⟩
theorem cQ (x : Bs) (m p : Int) (l : List T) (sv : Value) (w : World) (hk : KW w) (hf : Fits (.mk 21 x m p l)) (ha : AT w (T.mk 21 x m p l).subs sv) (IH : ∀ u,u ∈ l -> AcOK u) :
  Calls Tryz.prog 66 #[.agg #[.int .i64 21,.string ⟨x.toArray⟩,.int .i64 m,.int .i64 p,sv]] w (Sy w (.bool (zh .act (.mk 21 x m p l)))) := by
 have i := zb (zs (r := .act) (t := (.mk 21 x m p l)) (c := zk (.mk 21 x m p l) 21 false 0 1) (l := zJ l [.expression]) rfl); have j := zb hk; have C := zb hf; have k := zb ha; have I := zb IH; obtain ⟨a,n,c,rfl,-⟩ := ha.any; clear hk hf ha IH
 go_enter Tryz.func66,Tryz.ntmps66
 go_wp2_with fail; go_at_call 37; refine (zA (.mk 21 x m p l) _ 21 0 1 false _ (j.kept gan) C (k.kept gan)).mono ?_; rintro e J ⟨rfl,b⟩; have d := za gan b; have g := zb ((Box.new w (.mk 21 x m p l) (.slice a n c) 24).kept b); cases h : zk (.mk 21 x m p l) 21 false 0 1
 ·obtain ⟨_,_,_,_,_⟩ := id g
  go_wp2_with fail
  go_ret
  exact ⟨by rw [i.out,h]; rfl,d⟩
 ·obtain ⟨_,_,c,u,_,D,_,_,s,v,y,z⟩ := k.one (z8 (n := 1) h)
  cases D
  change l = [u] at s
  subst s; have A := zb v; have E := zb y; have F := zb z; clear y z v; obtain ⟨_,_,_,_,_⟩ := id g; obtain ⟨_,_,_,_,_⟩ := A.kept d; go_wp2_with fail; go_at_call 63; refine ((yG _).expr _ _ (j.kept d) E (F.kept d)).mono ?_; rintro e K ⟨rfl,f⟩; have B := za d f; have G := g.kept f; cases H : zh .expression u
  all_goals
   obtain ⟨_,_,_,_,_⟩ := id G; obtain ⟨_,_,_,_,_⟩ := A.kept B; go_wp2_with fail
   go_ret
   exact ⟨by rw [i.out,h]; simp [zJ,H],B⟩
theorem iD (x : Bs) (m p : Int) (l : List T) (sv : Value) (w : World) (hk : KW w) (hf : Fits (.mk 23 x m p l)) (ha : AT w (T.mk 23 x m p l).subs sv) (IH : ∀ u,u ∈ l -> AcOK u) :
  Calls Tryz.prog 66 #[.agg #[.int .i64 23,.string ⟨x.toArray⟩,.int .i64 m,.int .i64 p,sv]] w (Sy w (.bool (zh .act (.mk 23 x m p l)))) := by
 have i := zb (zs (r := .act) (t := (.mk 23 x m p l)) (c := zk (.mk 23 x m p l) 23 false 0 1) (l := zJ l [.expression]) rfl); have j := zb hk; have C := zb hf; have k := zb ha; have I := zb IH; obtain ⟨a,n,c,rfl,-⟩ := ha.any; clear hk hf ha IH
 go_enter Tryz.func66,Tryz.ntmps66
 go_wp2_with fail; go_at_call 37; refine (zA (.mk 23 x m p l) _ 23 0 1 false _ (j.kept gan) C (k.kept gan)).mono ?_; rintro e J ⟨rfl,b⟩; have d := za gan b; have g := zb ((Box.new w (.mk 23 x m p l) (.slice a n c) 24).kept b); cases h : zk (.mk 23 x m p l) 23 false 0 1
 ·obtain ⟨_,_,_,_,_⟩ := id g
  go_wp2_with fail
  go_ret
  exact ⟨by rw [i.out,h]; rfl,d⟩
 ·obtain ⟨_,_,c,u,_,D,_,_,s,v,y,z⟩ := k.one (z8 (n := 1) h)
  cases D
  change l = [u] at s
  subst s; have A := zb v; have E := zb y; have F := zb z; clear y z v; obtain ⟨_,_,_,_,_⟩ := id g; obtain ⟨_,_,_,_,_⟩ := A.kept d; go_wp2_with fail; go_at_call 63; refine ((yG _).expr _ _ (j.kept d) E (F.kept d)).mono ?_; rintro e K ⟨rfl,f⟩; have B := za d f; have G := g.kept f; cases H : zh .expression u
  all_goals
   obtain ⟨_,_,_,_,_⟩ := id G; obtain ⟨_,_,_,_,_⟩ := A.kept B; go_wp2_with fail
   go_ret
   exact ⟨by rw [i.out,h]; simp [zJ,H],B⟩
theorem iF (x : Bs) (m p : Int) (l : List T) (sv : Value) (w : World) (hk : KW w) (hf : Fits (.mk 15 x m p l)) (ha : AT w (T.mk 15 x m p l).subs sv) (IH : ∀ u,u ∈ l -> AcOK u) :
  Calls Tryz.prog 66 #[.agg #[.int .i64 15,.string ⟨x.toArray⟩,.int .i64 m,.int .i64 p,sv]] w (Sy w (.bool (zh .act (.mk 15 x m p l)))) := by
 have k := zb (zs (r := .act) (t := (.mk 15 x m p l)) (c := zk (.mk 15 x m p l) 15 false 0 (-1) && decide (0 < l.length)) (l := yQ (.mk 15 x m p l) .designator .expression) rfl); have y := zb hk; have Q := zb hf; have D := zb ha; have J := zb IH; obtain ⟨a,n,c,rfl,-⟩ := ha.any; clear hk hf ha IH
 go_enter Tryz.func66,Tryz.ntmps66
 go_wp2_with fail; go_at_call 37; refine (zA (.mk 15 x m p l) _ 15 0 (-1) false _ (y.kept gan) Q (D.kept gan)).mono ?_; rintro e Y ⟨rfl,z⟩; have h := za gan z; have A := zb ((Box.new w (.mk 15 x m p l) (.slice a n c) 24).kept z); cases s : zk (.mk 15 x m p l) 15 false 0 (-1)
 ·obtain ⟨_,_,_,_,_⟩ := id A
  go_wp2_with fail
  go_ret
  exact ⟨by rw [k.out,s]; rfl,h⟩
 ·cases l with
  | nil =>
   obtain ⟨_,_,E,R,_⟩ := D.zero rfl; cases E; obtain ⟨_,_,_,_,_⟩ := id A; go_wp2_with fail
   go_ret
   exact ⟨by rw [k.out,s]; rfl,h⟩
  | cons u r =>
   obtain ⟨g,o,c,_,E,_,R,K,L,M,F⟩ := AT.cons D; cases E; have i := zb K; have N := zb L; have O := zb M; have Z := zb (J u (by simp)); have IR := zb (fun v (hv : v ∈ r) => J v (List.mem_cons_of_mem _ hv)); clear L M K; obtain ⟨_,_,_,_,_⟩ := id A; obtain ⟨_,_,_,_,_⟩ := i.kept h
   rcases Nat.lt_or_ge 1 c with G | G
   ·have H := zb F
    clear F; go_wp2_with fail; go_at_call 99; refine ((yG _).desig _ _ (y.kept h) N (O.kept h)).mono ?_; rintro e U ⟨rfl,d⟩; have b := za h d; have j := A.kept d; cases B : zh .designator u
    ·obtain ⟨_,_,_,_,_⟩ := id j
     obtain ⟨_,_,_,_,_⟩ := i.kept b; go_wp2_with fail
     go_ret
     exact ⟨by rw [k.out,s]; simp [yQ,yE,T.subs,List.all_map,Function.comp_def,B],b⟩
    ·obtain ⟨_,_,_,_,_⟩ := id j
     obtain ⟨_,_,_,_,_⟩ := i.kept b; go_wp2_with fail; go_at_call 100; refine (yL _ _ _ (y.kept b) (fun v _ => yG v) (H.kept b)).mono ?_; rintro e V ⟨rfl,f⟩; have C := za b f; have I := j.kept f; cases X : r.all (zh .expression)
     all_goals
      obtain ⟨_,_,_,_,_⟩ := id I; obtain ⟨_,_,_,_,_⟩ := i.kept C; go_wp2_with fail
      go_ret
      exact ⟨by rw [k.out,s]; simp [yQ,yE,T.subs,List.all_map,Function.comp_def,B,X],C⟩
   ·obtain rfl : c = 1 := by omega
    obtain rfl : r = [] := List.eq_nil_of_length_eq_zero (by omega); have H : Hid (AT w [] (.slice (some ⟨g,o,none⟩) 0 0)) := AT.nil _ _ (Nat.zero_le _); clear F; go_wp2_with fail; go_at_call 99; refine ((yG _).desig _ _ (y.kept h) N (O.kept h)).mono ?_; rintro e U ⟨rfl,d⟩; have b := za h d; have j := A.kept d; cases B : zh .designator u
    ·obtain ⟨_,_,_,_,_⟩ := id j
     obtain ⟨_,_,_,_,_⟩ := i.kept b; go_wp2_with fail
     go_ret
     exact ⟨by rw [k.out,s]; simp [yQ,yE,T.subs,B],b⟩
    ·obtain ⟨_,_,_,_,_⟩ := id j
     obtain ⟨_,_,_,_,_⟩ := i.kept b; go_wp2_with fail; go_at_call 100; refine (yL _ _ _ (y.kept b) (fun v _ => yG v) (H.kept b)).mono ?_; rintro e V ⟨rfl,f⟩; have C := za b f; have I := j.kept f; obtain ⟨_,_,_,_,_⟩ := id I; obtain ⟨_,_,_,_,_⟩ := i.kept C; go_wp2_with fail
     go_ret
     exact ⟨by rw [k.out,s]; simp [yQ,yE,T.subs,B],C⟩
theorem cJ (x : Bs) (m p : Int) (l : List T) (sv : Value) (w : World) (hk : KW w) (hf : Fits (.mk 19 x m p l)) (ha : AT w (T.mk 19 x m p l).subs sv) :
  Calls Tryz.prog 66 #[.agg #[.int .i64 19,.string ⟨x.toArray⟩,.int .i64 m,.int .i64 p,sv]] w (Sy w (.bool (zh .act (.mk 19 x m p l)))) := by
 have y := zs (r := .act) (t := (.mk 19 x m p l)) (c := zk (.mk 19 x m p l) 19 false 0 (-1) && decide (l.length <= 1)) (l := yE l .expression) rfl; have z := zb hk; have H := zb hf; have A := zb ha; obtain ⟨a,n,c,rfl,_,_,N⟩ := ha.any
 change l.length = n at N
 subst N; clear hk ha hf; cases B : zk (.mk 19 x m p l) 19 false 0 (-1)
 ·rw [show zh .act (.mk 19 x m p l) = false by rw [y,B]; rfl]
  clear y
  go_enter Tryz.func66,Tryz.ntmps66
  go_wp2_with fail; go_at_call 37; refine (zA (.mk 19 x m p l) _ 19 0 (-1) false _ (z.kept gan) H (A.kept gan)).mono ?_; rintro e K ⟨rfl,b⟩; rw [B]; have f := za gan b; have u := zb ((Box.new w (.mk 19 x m p l) (.slice a l.length c) 24).kept b); obtain ⟨g,h,i,j,k⟩ := id u; go_wp2_with fail
  go_ret
  exact ⟨rfl,f⟩
 ·by_cases I : l.length <= 1
  ·have d : zh .act (.mk 19 x m p l) = l.all (zh .expression) := by rw [y,B]; simp [I,yE,List.all_map,Function.comp_def]
   have I : l.length < 2 := by omega
   cases J : l.all (zh .expression)
   ·rw [d,J]
    clear y d
    go_enter Tryz.func66,Tryz.ntmps66
    go_wp2_with fail; go_at_call 37; refine (zA (.mk 19 x m p l) _ 19 0 (-1) false _ (z.kept gan) H (A.kept gan)).mono ?_; rintro e K ⟨rfl,b⟩; rw [B]; have f := za gan b; have u := zb ((Box.new w (.mk 19 x m p l) (.slice a l.length c) 24).kept b); obtain ⟨g,h,i,j,k⟩ := id u; go_wp2_with fail; go_at_call 100; refine (yL l _ _ (z.kept f) (fun v _ => yG v) (A.kept f)).mono ?_; rintro e O ⟨rfl,s⟩; rw [J]; have L := za f s; have M := u.kept s; obtain ⟨C,D,E,F,G⟩ := id M; go_wp2_with fail
    go_ret
    exact ⟨rfl,L⟩
   ·rw [d,J]
    clear y d
    go_enter Tryz.func66,Tryz.ntmps66
    go_wp2_with fail; go_at_call 37; refine (zA (.mk 19 x m p l) _ 19 0 (-1) false _ (z.kept gan) H (A.kept gan)).mono ?_; rintro e K ⟨rfl,b⟩; rw [B]; have f := za gan b; have u := zb ((Box.new w (.mk 19 x m p l) (.slice a l.length c) 24).kept b); obtain ⟨g,h,i,j,k⟩ := id u; go_wp2_with fail; go_at_call 100; refine (yL l _ _ (z.kept f) (fun v _ => yG v) (A.kept f)).mono ?_; rintro e O ⟨rfl,s⟩; rw [J]; have L := za f s; have M := u.kept s; obtain ⟨C,D,E,F,G⟩ := id M; go_wp2_with fail
    go_ret
    exact ⟨rfl,L⟩
  ·rw [show zh .act (.mk 19 x m p l) = false by rw [y]; simp [I]]
   clear y
   have I : 2 <= l.length := by omega
   go_enter Tryz.func66,Tryz.ntmps66
   go_wp2_with fail; go_at_call 37; refine (zA (.mk 19 x m p l) _ 19 0 (-1) false _ (z.kept gan) H (A.kept gan)).mono ?_; rintro e K ⟨rfl,b⟩; rw [B]; have f := za gan b; have u := zb ((Box.new w (.mk 19 x m p l) (.slice a l.length c) 24).kept b); obtain ⟨g,h,i,j,k⟩ := id u; go_wp2_with fail
   go_ret
   exact ⟨rfl,f⟩
theorem mg (kd : Int) (x : Bs) (m p : Int) (l : List T) (sv : Value) (w : World) (ha : AT w (T.mk kd x m p l).subs sv) (h14 : ¬ kd = 14) (h15 : ¬ kd = 15) (h16 : ¬ kd = 16) (h17 : ¬ kd = 17) (h18 : ¬ kd = 18) (h19 : ¬ kd = 19) (h20 : ¬ kd = 20) (h21 : ¬ kd = 21) (h22 : ¬ kd = 22) (h23 : ¬ kd = 23) :
  Calls Tryz.prog 66 #[.agg #[.int .i64 kd,.string ⟨x.toArray⟩,.int .i64 m,.int .i64 p,sv]] w (Sy w (.bool (zh .act (.mk kd x m p l)))) := by
 rw [ur (show zw .act (.mk kd x m p l) = none by simp [zw,sX,T.kind,h14,h15,h16,h17,h18,h19,h20,h21,h22,h23])]; obtain ⟨_,_,_,rfl,_,_,_⟩ := ha.any; clear ha
 go_enter Tryz.func66,Tryz.ntmps66
 go_wp2_with fail
 go_ret
 exact ⟨rfl,zf grn _⟩
set_option maxHeartbeats 1000000
theorem uL {l : List T} {j : Nat} {u : T} {f : T -> Bool} (hu : l[j]? = some u) (hb : (l.take j).all f = true) : (l.take (j + 1)).all f = f u := by
 have a : l.take (j + 1) = l.take j ++ [u] := by rw [List.take_add_one,hu]; rfl
 rw [a,List.all_append,hb]; simp
theorem xA {l : List T} {j : Nat} {f : T -> Bool} (h : (l.take (j + 1)).all f = false) : l.all f = false := by
 rw [<- List.take_append_drop (j + 1) l,List.all_append,h]; rfl
theorem uM {l : List T} {j : Nat} {f : T -> Bool} (hj : ¬ j < l.length) (h : (l.take j).all f = true) : l.all f = true := by
 rwa [List.take_of_length_le (by omega)] at h
theorem si (t : T) (sv : Value) (w : World) (hk : KW w) (hf : Fits t) (ha : AT w t.subs sv) (IH : ∀ u,u ∈ t.subs -> AcOK u) :
  Calls Tryz.prog 39 #[zq t sv] w (Sy w (.bool (zh (.list .act) t))) := by
 have k := zs (r := .list .act) (t := t) (c := zk t 1 false 0 (-1)) (l := yE t.subs .act) rfl; have s := zb hk; have F := zb hf; have A := zb ha; have Q := zb IH; obtain ⟨f,x,m,p,l⟩ := t; obtain ⟨a,n,c,rfl,_,_,G⟩ := ha.any
 change l.length = n at G
 subst G; clear hk ha hf IH
 change Calls Tryz.prog 39 #[.agg #[.int .i64 f,.string ⟨x.toArray⟩,.int .i64 m,.int .i64 p,.slice a l.length c]] w _
 cases v : zk (.mk f x m p l) 1 false 0 (-1)
 ·rw [show zh (.list .act) (.mk f x m p l) = false by rw [k,v]; rfl]
  clear k
  go_enter Tryz.func39,Tryz.ntmps39
  go_wp2_with fail; go_at_call 37; refine (zA (.mk f x m p l) _ 1 0 (-1) false _ (s.kept gan) F (A.kept gan)).mono ?_; rintro e R ⟨rfl,b⟩; rw [v]; have B := za gan b; go_wp2_with fail
  go_ret
  exact ⟨rfl,B⟩
 ·have U : Hid (zh (.list .act) (.mk f x m p l) = l.all (zh .act)) := by show _ = _; rw [k,v]; simp [yE,T.subs,List.all_map,Function.comp_def]
  clear k; rw [U.out]
  go_enter Tryz.func39,Tryz.ntmps39
  go_wp2_with fail; go_at_call 37; refine (zA (.mk f x m p l) _ 1 0 (-1) false _ (s.kept gan) F (A.kept gan)).mono ?_; rintro e R ⟨rfl,b⟩; rw [v]; have B := za gan b; have V := zb ((Box.new w (.mk f x m p l) (.slice a l.length c) 24).kept b); clear b; go_wp2_with fail
  go_loopw [3] (fun iv wr => ∃ j : Nat,j <= l.length /\ iv = .int .i64 j /\ Hid ((l.take j).all (zh .act) = true) /\ Hid (w.grownBy wr none) /\ Hid (Box wr w.heap.size (.mk f x m p l) (.slice a l.length c))) (fun iv _ => l.length - (intOf iv).toNat)
  case atStart => exact ⟨0,Nat.zero_le _,rfl,by show _ = _; simp,B,V⟩
  case round =>
   obtain ⟨j,_,rfl,HB,h,H⟩ := hrel; obtain ⟨_,_,_,_,_⟩ := id H
   by_cases i : j < l.length
   ·obtain ⟨u,y⟩ : ∃ u,l[j]? = some u := ⟨_,List.getElem?_eq_getElem i⟩
    have g : u ∈ l := List.mem_of_getElem? y; obtain ⟨_,_,I,X,Y,J,K⟩ := (A.kept h).node j u y; subst X; have L := zb (uL y HB); have M := zb (Q u g); have N := zb J; have O := zb K; obtain ⟨_,_,_,_,_⟩ := Y; clear y g J K; cases z : zh .act u
    ·have C : Hid (l.all (zh .act) = false) := xA (L.trans z)
     go_wp2_with fail; go_at_call 66; refine (M.stmt I _ (s.kept h) N O).mono ?_; rintro e Z ⟨rfl,d⟩; rw [z]; have D := za h d; go_wp2_with fail
     go_ret
     exact ⟨by rw [C.out]; rfl,D⟩
    ·go_wp2_with fail
     go_at_call 66; refine (M.stmt I _ (s.kept h) N O).mono ?_; rintro e Z ⟨rfl,d⟩; rw [z]; have D := za h d; have B2 := H.kept d; have E : Hid ((l.take (j + 1)).all (zh .act) = true) := L.trans z; go_wp2_with fail
     exact ⟨⟨j + 1,by omega,by go_num,E,D,B2⟩,by simp [intOf]; omega⟩
   ·have C := zb (uM i HB)
    go_wp2_with fail
    go_ret
    exact ⟨by rw [C.out]; rfl,h⟩
noncomputable def yb : Bool -> List T -> Bool
 | _,[] => true
 | false,[x] => zh (.list .act) x
 | false,x :: y :: r => zh .expression x && yb true (y :: r)
 | true,x :: r => zh (.list .act) x && yb false r
theorem jC {l : List T} {j : Nat} {u : T} (hu : l[j]? = some u) : l.drop j = u :: l.drop (j + 1) := by
 obtain ⟨h,rfl⟩ := List.getElem?_eq_some_iff.1 hu
 exact List.drop_eq_getElem_cons h
theorem fZ : ∀ l : List T,((yW l).all fun p => zh p.2 p.1) = yb false l
 | [] => by simp [yW,yb]
 | [x] => by simp [yW,yb]
 | x :: y :: l => by
  have ih := fZ l; simp only [yW,List.all_cons,ih,yb]
theorem mJ {l : List T} {j : Nat} {u : T} (hu : l[j]? = some u) : yb true (l.drop j) = (zh (.list .act) u && yb false (l.drop (j + 1))) := by
 rw [jC hu,yb]
theorem nI {l : List T} {j : Nat} {u : T} (hu : l[j]? = some u) (h : j + 1 = l.length) : yb false (l.drop j) = zh (.list .act) u := by
 rw [jC hu,List.drop_eq_nil_of_le (by omega),yb]
theorem oJ {l : List T} {j : Nat} {u : T} (hu : l[j]? = some u) (h : j + 1 < l.length) : yb false (l.drop j) = (zh .expression u && yb true (l.drop (j + 1))) := by
 rw [jC hu,jC (List.getElem?_eq_getElem h),yb]
theorem cT (x : Bs) (m p : Int) (l : List T) (sv : Value) (w : World) (hk : KW w) (hf : Fits (.mk 16 x m p l)) (ha : AT w (T.mk 16 x m p l).subs sv) (IH : ∀ u,u ∈ l -> AcOK u) :
  Calls Tryz.prog 66 #[.agg #[.int .i64 16,.string ⟨x.toArray⟩,.int .i64 m,.int .i64 p,sv]] w (Sy w (.bool (zh .act (.mk 16 x m p l)))) := by
 have C := zs (r := .act) (t := (.mk 16 x m p l)) (c := x.isEmpty && decide (2 <= l.length) && decide ((l.length : Int) % 2 = m)) (l := yW l) rfl; have A := zb hk; have Y := zb hf; have N := zb ha; have HI := zb IH; obtain ⟨a,n,c,rfl,_,_,hl⟩ := ha.any
 change l.length = n at hl
 subst hl; clear hk ha hf IH; cases B : zk (.mk 16 x m p l) 16 false 1 (-1)
 ·have O : (x.isEmpty && decide (2 <= l.length) && decide ((l.length : Int) % 2 = m)) = false := by
   cases Q : (x.isEmpty && decide (2 <= l.length) && decide ((l.length : Int) % 2 = m))
   ·rfl
   ·exfalso
    simp only [Bool.and_eq_true,decide_eq_true_eq] at Q
    unfold zk at B
    simp only [T.kind,T.num,T.name,Q.1.1] at B
    simp at B
    omega
  rw [show zh .act (.mk 16 x m p l) = false by rw [C,O]; rfl]; clear C O
  go_enter Tryz.func66,Tryz.ntmps66
  go_wp2_with fail; go_at_call 37; refine (zA (.mk 16 x m p l) _ 16 1 (-1) false _ (A.kept gan) Y (N.kept gan)).mono ?_; rintro e w1 ⟨rfl,d⟩; rw [B]; have G := za gan d; have D := zb ((Box.new w (.mk 16 x m p l) (.slice a l.length c) 24).kept d); obtain ⟨f,g,h,i,k⟩ := id D; go_wp2_with fail
  go_ret
  exact ⟨rfl,G⟩
 ·have hx : x.isEmpty = true := by
   unfold zk at B
   simp [T.name] at B
   simp [B]
  by_cases Q : 2 <= l.length
  ·by_cases Z : (l.length : Int) % 2 = m
   ·have HV : Hid (zh .act (.mk 16 x m p l) = yb false l) := by show _ = _; rw [C,<- fZ]; simp [hx,Q,Z]
    rw [HV.out]; clear C hx
    go_enter Tryz.func66,Tryz.ntmps66
    go_wp2_with fail; go_at_call 37; refine (zA (.mk 16 x m p l) _ 16 1 (-1) false _ (A.kept gan) Y (N.kept gan)).mono ?_; rintro e w1 ⟨rfl,d⟩; rw [B]; have G := za gan d; have D := zb ((Box.new w (.mk 16 x m p l) (.slice a l.length c) 24).kept d); obtain ⟨f,g,h,i,k⟩ := D.p; clear d
    go_wp2_with fail
    go_loopw [4] (fun iv wr => ∃ j : Nat,j <= l.length /\ iv = .int .i64 j /\ Hid (yb false l = yb (decide (j % 2 = 1)) (l.drop j)) /\ Hid (w.grownBy wr none) /\ Hid (Box wr w.heap.size (.mk 16 x m p l) (.slice a l.length c))) (fun iv _ => l.length - (intOf iv).toNat)
    case atStart => exact ⟨0,Nat.zero_le _,rfl,by show _ = _; simp,G,D⟩
    case round =>
     obtain ⟨j,_,rfl,H,s,HX⟩ := hrel; clear f g h i k; cases HX.q
     by_cases a0 : j < l.length
     ·obtain ⟨u,hu⟩ : ∃ u,l[j]? = some u := ⟨_,List.getElem?_eq_getElem a0⟩
      have E : u ∈ l := List.mem_of_getElem? hu; obtain ⟨_,_,K,e1,n5,fu,au⟩ := (N.kept s).node j u hu; subst e1; have IU := zb (HI u E); have L := zb fu; have M := zb au; have I := zb hu; obtain ⟨_,_,_,_,_⟩ := n5; clear hu E fu au
      by_cases R : (j : Int) % 2 = 1
      ·have a1 : ((j : Int) % 2 == 1) = true := by simp [R]
       have F : Hid (yb (decide (j % 2 = 1)) (l.drop j) = (zh (.list .act) u && yb false (l.drop (j + 1)))) := by show _ = _; rw [show decide (j % 2 = 1) = true by simp; omega]; exact mJ I
       have U : Hid (decide ((j + 1) % 2 = 1) = false) := by show _ = _; simp; omega
       clear R; cases v : zh (.list .act) u
       ·have J : Hid (yb false l = false) := by show _ = _; rw [H.out,F.out,v]; rfl
        go_wp2_with fail; go_at_call 39; refine (IU.stmts K _ (A.kept s) L M).mono ?_; rintro e V ⟨rfl,b⟩; rw [v]; have y := za s b; go_wp2_with fail
        go_ret
        exact ⟨by rw [J.out]; rfl,y⟩
       ·have z : Hid (yb false l = yb (decide ((j + 1) % 2 = 1)) (l.drop (j + 1))) := by
         show _ = _
         rw [H.out,F.out,v,show decide ((j + 1) % 2 = 1) = false from U.out]
         rfl
        go_wp2_with fail; go_at_call 39; refine (IU.stmts K _ (A.kept s) L M).mono ?_; rintro e V ⟨rfl,b⟩; rw [v]; have y := za s b; have X := HX.kept b; go_wp2_with fail
        exact ⟨⟨j + 1,by omega,by go_num,z,y,X⟩,by simp [intOf]; omega⟩
      ·have a1 : ((j : Int) % 2 == 1) = false := by simp [R]
       by_cases hq : (j : Int) = (l.length : Int) - 1
       ·have a2 : ((j : Int) == (l.length : Int) - 1) = true := by simp [hq]
        have F : Hid (yb (decide (j % 2 = 1)) (l.drop j) = zh (.list .act) u) := by show _ = _; rw [show decide (j % 2 = 1) = false by simp; omega]; exact nI I (by omega)
        obtain rfl : m = 1 := by omega
        have U : Hid (decide ((j + 1) % 2 = 1) = true) := by show _ = _; simp; omega
        have HJ : Hid (l.length <= j + 1) := by show _ <= _; omega
        clear hq R; cases v : zh (.list .act) u
        ·have J : Hid (yb false l = false) := by show _ = _; rw [H.out,F.out,v]
         go_wp2_with fail; go_at_call 39; refine (IU.stmts K _ (A.kept s) L M).mono ?_; rintro e V ⟨rfl,b⟩; rw [v]; have y := za s b; go_wp2_with fail
         go_ret
         exact ⟨by rw [J.out]; rfl,y⟩
        ·have z : Hid (yb false l = yb (decide ((j + 1) % 2 = 1)) (l.drop (j + 1))) := by
          show _ = _
          rw [H.out,F.out,v,show decide ((j + 1) % 2 = 1) = true from U.out]; rw [List.drop_eq_nil_of_le HJ.out]; simp [yb]
         go_wp2_with fail; go_at_call 39; refine (IU.stmts K _ (A.kept s) L M).mono ?_; rintro e V ⟨rfl,b⟩; rw [v]; have y := za s b; have X := HX.kept b; go_wp2_with fail
         exact ⟨⟨j + 1,by omega,by go_num,z,y,X⟩,by simp [intOf]; omega⟩
       ·have a2 : ((j : Int) == (l.length : Int) - 1) = false := by simp [hq]
        have F : Hid (yb (decide (j % 2 = 1)) (l.drop j) = (zh .expression u && yb true (l.drop (j + 1)))) := by show _ = _; rw [show decide (j % 2 = 1) = false by simp; omega]; exact oJ I (by omega)
        have U : Hid (decide ((j + 1) % 2 = 1) = true) := by show _ = _; simp; omega
        clear R hq; cases v : zh .expression u
        ·have J : Hid (yb false l = false) := by show _ = _; rw [H.out,F.out,v]; rfl
         go_wp2_with fail; go_at_call 63; refine ((yG u).expr K _ (A.kept s) L M).mono ?_; rintro e V ⟨rfl,b⟩; rw [v]; have y := za s b; go_wp2_with fail
         go_ret
         exact ⟨by rw [J.out]; rfl,y⟩
        ·have z : Hid (yb false l = yb (decide ((j + 1) % 2 = 1)) (l.drop (j + 1))) := by
          show _ = _
          rw [H.out,F.out,v,show decide ((j + 1) % 2 = 1) = true from U.out]
          rfl
         go_wp2_with fail; go_at_call 63; refine ((yG u).expr K _ (A.kept s) L M).mono ?_; rintro e V ⟨rfl,b⟩; rw [v]; have y := za s b; have X := HX.kept b; go_wp2_with fail
         exact ⟨⟨j + 1,by omega,by go_num,z,y,X⟩,by simp [intOf]; omega⟩
     ·have J : Hid (yb false l = true) := by show _ = _; rw [H.out,List.drop_eq_nil_of_le (by omega)]; simp [yb]
      go_wp2_with fail
      go_ret
      exact ⟨by rw [J.out]; rfl,s⟩
   ·rw [show zh .act (.mk 16 x m p l) = false by rw [C]; simp [Z]]
    have a3 : ((l.length : Int) % 2 != m) = true := by simpa using Z
    clear C Z
    go_enter Tryz.func66,Tryz.ntmps66
    go_wp2_with fail; go_at_call 37; refine (zA (.mk 16 x m p l) _ 16 1 (-1) false _ (A.kept gan) Y (N.kept gan)).mono ?_; rintro e w1 ⟨rfl,d⟩; rw [B]; have G := za gan d; have D := zb ((Box.new w (.mk 16 x m p l) (.slice a l.length c) 24).kept d); obtain ⟨f,g,h,i,k⟩ := D.p
    go_wp2_with fail
    go_ret
    exact ⟨rfl,G⟩
  ·rw [show zh .act (.mk 16 x m p l) = false by rw [C]; simp [Q]]
   clear C
   go_enter Tryz.func66,Tryz.ntmps66
   go_wp2_with fail; go_at_call 37; refine (zA (.mk 16 x m p l) _ 16 1 (-1) false _ (A.kept gan) Y (N.kept gan)).mono ?_; rintro e w1 ⟨rfl,d⟩; rw [B]; have G := za gan d; have D := zb ((Box.new w (.mk 16 x m p l) (.slice a l.length c) 24).kept d); obtain ⟨f,g,h,i,k⟩ := id D; go_wp2_with fail
   go_ret
   exact ⟨rfl,G⟩
theorem lz (t : T) (IH : ∀ u,u ∈ t.subs -> AcOK u) : AcOK t := by
 refine ⟨?_,fun a w d f b => si t a w d f b IH⟩; intro a w d f b; obtain ⟨g,x,m,p,l⟩ := t
 change ∀ u,u ∈ l -> AcOK u at IH
 by_cases h : g = 14
 ·subst h; exact cF x m p l a w d f b IH
 by_cases i : g = 15
 ·subst i; exact iF x m p l a w d f b IH
 by_cases j : g = 16
 ·subst j; exact cT x m p l a w d f b IH
 by_cases k : g = 17
 ·subst k; exact ir x m p l a w d f b IH
 by_cases n : g = 18
 ·subst n; exact iq x m p l a w d f b IH
 by_cases r : g = 19
 ·subst r; exact cJ x m p l a w d f b
 by_cases s : g = 20
 ·subst s; exact iT x m p l a w d f b IH
 by_cases v : g = 21
 ·subst v; exact cQ x m p l a w d f b IH
 by_cases y : g = 22
 ·subst y; exact cL x m p l a w d f b IH
 by_cases z : g = 23
 ·subst z; exact iD x m p l a w d f b IH
 exact mg g x m p l a w b h i j k n r s v y z
theorem fC (t : T) : AcOK t := lz t (fun u _hu => fC u)
 termination_by SizeOf.sizeOf t
 decreasing_by
  obtain ⟨_,_,_,_,l⟩ := t; have h9 := List.sizeOf_lt_of_mem (show u ∈ l from _hu); simp only [T.mk.sizeOf_spec]
  omega
set_option maxHeartbeats 4000000
theorem bP (x : Bs) (m p : Int) (l : List T) (sv : Value) (w : World) (hk : KW w) (hf : Fits (.mk 3 x m p l)) (ha : AT w (T.mk 3 x m p l).subs sv) :
  Calls Tryz.prog 38 #[.agg #[.int .i64 3,.string ⟨x.toArray⟩,.int .i64 m,.int .i64 p,sv]] w (Sy w (.bool (zh .imported (.mk 3 x m p l)))) := by
 have f := zb (zs (r := .imported) (t := (.mk 3 x m p l)) (c := zk (.mk 3 x m p l) 3 true 0 0) (l := []) rfl); have k := zb hk; have s := zb hf; have g := zb ha; obtain ⟨a,n,c,rfl,-⟩ := ha.any; clear hk hf ha
 go_enter Tryz.func38,Tryz.ntmps38
 go_wp2_with fail; go_at_call 37; refine (zA (.mk 3 x m p l) _ 3 0 0 true _ (k.kept gan) s (g.kept gan)).mono ?_; rintro e v ⟨rfl,b⟩; have h := za gan b; have i := zb ((Box.new w (.mk 3 x m p l) (.slice a n c) 24).kept b); cases d : zk (.mk 3 x m p l) 3 true 0 0
 ·obtain ⟨_,_,_,_,_⟩ := id i
  go_wp2_with fail
  go_ret
  exact ⟨by rw [f.out,d]; rfl,h⟩
 ·obtain ⟨_,_,u,_,j⟩ := g.zero (z8 (n := 0) d)
  cases u
  change l = [] at j
  subst j; obtain ⟨_,_,_,_,_⟩ := id i; go_wp2_with fail
  go_ret
  exact ⟨by rw [f.out,d]; rfl,h⟩
theorem af (x : Bs) (m p : Int) (l : List T) (sv : Value) (w : World) (hk : KW w) (hf : Fits (.mk 4 x m p l)) (ha : AT w (T.mk 4 x m p l).subs sv) (IH : ∀ u,u ∈ l -> ShOK u) :
  Calls Tryz.prog 38 #[.agg #[.int .i64 4,.string ⟨x.toArray⟩,.int .i64 m,.int .i64 p,sv]] w (Sy w (.bool (zh (.declared 4 1 .expression) (.mk 4 x m p l)))) := by
 have i := zb (zs (r := (.declared 4 1 .expression)) (t := (.mk 4 x m p l)) (c := zk (.mk 4 x m p l) 4 true 1 1) (l := zJ l [.expression]) rfl); have j := zb hk; have C := zb hf; have k := zb ha; have I := zb IH; obtain ⟨a,n,c,rfl,-⟩ := ha.any; clear hk hf ha IH
 go_enter Tryz.func38,Tryz.ntmps38
 go_wp2_with fail; go_at_call 37; refine (zA (.mk 4 x m p l) _ 4 1 1 true _ (j.kept gan) C (k.kept gan)).mono ?_; rintro e J ⟨rfl,b⟩; have d := za gan b; have g := zb ((Box.new w (.mk 4 x m p l) (.slice a n c) 24).kept b); cases h : zk (.mk 4 x m p l) 4 true 1 1
 ·obtain ⟨_,_,_,_,_⟩ := id g
  go_wp2_with fail
  go_ret
  exact ⟨by rw [i.out,h]; rfl,d⟩
 ·obtain ⟨_,_,c,u,_,D,_,_,s,v,y,z⟩ := k.one (z8 (n := 1) h)
  cases D
  change l = [u] at s
  subst s; have A := zb v; have E := zb y; have F := zb z; clear y z v; obtain ⟨_,_,_,_,_⟩ := id g; obtain ⟨_,_,_,_,_⟩ := A.kept d; go_wp2_with fail; go_at_call 63; refine ((yG _).expr _ _ (j.kept d) E (F.kept d)).mono ?_; rintro e K ⟨rfl,f⟩; have B := za d f; have G := g.kept f; cases H : zh .expression u
  all_goals
   obtain ⟨_,_,_,_,_⟩ := id G; obtain ⟨_,_,_,_,_⟩ := A.kept B; go_wp2_with fail
   go_ret
   exact ⟨by rw [i.out,h]; simp [zJ,H],B⟩
theorem oP (x : Bs) (m p : Int) (l : List T) (sv : Value) (w : World) (hk : KW w) (hf : Fits (.mk 6 x m p l)) (ha : AT w (T.mk 6 x m p l).subs sv) (IH : ∀ u,u ∈ l -> ShOK u) :
  Calls Tryz.prog 38 #[.agg #[.int .i64 6,.string ⟨x.toArray⟩,.int .i64 m,.int .i64 p,sv]] w (Sy w (.bool (zh (.declared 6 1 .typeName) (.mk 6 x m p l)))) := by
 have i := zb (zs (r := (.declared 6 1 .typeName)) (t := (.mk 6 x m p l)) (c := zk (.mk 6 x m p l) 6 true 1 1) (l := zJ l [.typeName]) rfl); have j := zb hk; have C := zb hf; have k := zb ha; have I := zb IH; obtain ⟨a,n,c,rfl,-⟩ := ha.any; clear hk hf ha IH
 go_enter Tryz.func38,Tryz.ntmps38
 go_wp2_with fail; go_at_call 37; refine (zA (.mk 6 x m p l) _ 6 1 1 true _ (j.kept gan) C (k.kept gan)).mono ?_; rintro e J ⟨rfl,b⟩; have d := za gan b; have g := zb ((Box.new w (.mk 6 x m p l) (.slice a n c) 24).kept b); cases h : zk (.mk 6 x m p l) 6 true 1 1
 ·obtain ⟨_,_,_,_,_⟩ := id g
  go_wp2_with fail
  go_ret
  exact ⟨by rw [i.out,h]; rfl,d⟩
 ·obtain ⟨_,_,c,u,_,D,_,_,s,v,y,z⟩ := k.one (z8 (n := 1) h)
  cases D
  change l = [u] at s
  subst s; have A := zb v; have E := zb y; have F := zb z; clear y z v; obtain ⟨_,_,_,_,_⟩ := id g; obtain ⟨_,_,_,_,_⟩ := A.kept d; go_wp2_with fail; go_at_call 65; refine (yF _ _ _ (j.kept d) E (F.kept d)).mono ?_; rintro e K ⟨rfl,f⟩; have B := za d f; have G := g.kept f; cases H : zh .typeName u
  all_goals
   obtain ⟨_,_,_,_,_⟩ := id G; obtain ⟨_,_,_,_,_⟩ := A.kept B; go_wp2_with fail
   go_ret
   exact ⟨by rw [i.out,h]; simp [zJ,H],B⟩
theorem lS (x : Bs) (m p : Int) (l : List T) (sv : Value) (w : World) (hk : KW w) (hf : Fits (.mk 8 x m p l)) (ha : AT w (T.mk 8 x m p l).subs sv) (IH : ∀ u,u ∈ l -> ShOK u) :
  Calls Tryz.prog 38 #[.agg #[.int .i64 8,.string ⟨x.toArray⟩,.int .i64 m,.int .i64 p,sv]] w (Sy w (.bool (zh (.declared 8 1 .typeName) (.mk 8 x m p l)))) := by
 have i := zb (zs (r := (.declared 8 1 .typeName)) (t := (.mk 8 x m p l)) (c := zk (.mk 8 x m p l) 8 true 1 1) (l := zJ l [.typeName]) rfl); have j := zb hk; have C := zb hf; have k := zb ha; have I := zb IH; obtain ⟨a,n,c,rfl,-⟩ := ha.any; clear hk hf ha IH
 go_enter Tryz.func38,Tryz.ntmps38
 go_wp2_with fail; go_at_call 37; refine (zA (.mk 8 x m p l) _ 8 1 1 true _ (j.kept gan) C (k.kept gan)).mono ?_; rintro e J ⟨rfl,b⟩; have d := za gan b; have g := zb ((Box.new w (.mk 8 x m p l) (.slice a n c) 24).kept b); cases h : zk (.mk 8 x m p l) 8 true 1 1
 ·obtain ⟨_,_,_,_,_⟩ := id g
  go_wp2_with fail
  go_ret
  exact ⟨by rw [i.out,h]; rfl,d⟩
 ·obtain ⟨_,_,c,u,_,D,_,_,s,v,y,z⟩ := k.one (z8 (n := 1) h)
  cases D
  change l = [u] at s
  subst s; have A := zb v; have E := zb y; have F := zb z; clear y z v; obtain ⟨_,_,_,_,_⟩ := id g; obtain ⟨_,_,_,_,_⟩ := A.kept d; go_wp2_with fail; go_at_call 65; refine (yF _ _ _ (j.kept d) E (F.kept d)).mono ?_; rintro e K ⟨rfl,f⟩; have B := za d f; have G := g.kept f; cases H : zh .typeName u
  all_goals
   obtain ⟨_,_,_,_,_⟩ := id G; obtain ⟨_,_,_,_,_⟩ := A.kept B; go_wp2_with fail
   go_ret
   exact ⟨by rw [i.out,h]; simp [zJ,H],B⟩
theorem nH (x : Bs) (m p : Int) (l : List T) (sv : Value) (w : World) (hk : KW w) (hf : Fits (.mk 11 x m p l)) (ha : AT w (T.mk 11 x m p l).subs sv) (IH : ∀ u,u ∈ l -> ShOK u) :
  Calls Tryz.prog 38 #[.agg #[.int .i64 11,.string ⟨x.toArray⟩,.int .i64 m,.int .i64 p,sv]] w (Sy w (.bool (zh (.declared 11 1 .typeName) (.mk 11 x m p l)))) := by
 have i := zb (zs (r := (.declared 11 1 .typeName)) (t := (.mk 11 x m p l)) (c := zk (.mk 11 x m p l) 11 true 1 1) (l := zJ l [.typeName]) rfl); have j := zb hk; have C := zb hf; have k := zb ha; have I := zb IH; obtain ⟨a,n,c,rfl,-⟩ := ha.any; clear hk hf ha IH
 go_enter Tryz.func38,Tryz.ntmps38
 go_wp2_with fail; go_at_call 37; refine (zA (.mk 11 x m p l) _ 11 1 1 true _ (j.kept gan) C (k.kept gan)).mono ?_; rintro e J ⟨rfl,b⟩; have d := za gan b; have g := zb ((Box.new w (.mk 11 x m p l) (.slice a n c) 24).kept b); cases h : zk (.mk 11 x m p l) 11 true 1 1
 ·obtain ⟨_,_,_,_,_⟩ := id g
  go_wp2_with fail
  go_ret
  exact ⟨by rw [i.out,h]; rfl,d⟩
 ·obtain ⟨_,_,c,u,_,D,_,_,s,v,y,z⟩ := k.one (z8 (n := 1) h)
  cases D
  change l = [u] at s
  subst s; have A := zb v; have E := zb y; have F := zb z; clear y z v; obtain ⟨_,_,_,_,_⟩ := id g; obtain ⟨_,_,_,_,_⟩ := A.kept d; go_wp2_with fail; go_at_call 65; refine (yF _ _ _ (j.kept d) E (F.kept d)).mono ?_; rintro e K ⟨rfl,f⟩; have B := za d f; have G := g.kept f; cases H : zh .typeName u
  all_goals
   obtain ⟨_,_,_,_,_⟩ := id G; obtain ⟨_,_,_,_,_⟩ := A.kept B; go_wp2_with fail
   go_ret
   exact ⟨by rw [i.out,h]; simp [zJ,H],B⟩
theorem cU (x : Bs) (m p : Int) (l : List T) (sv : Value) (w : World) (hk : KW w) (hf : Fits (.mk 9 x m p l)) (ha : AT w (T.mk 9 x m p l).subs sv) (IH : ∀ u,u ∈ l -> ShOK u) :
  Calls Tryz.prog 64 #[.agg #[.int .i64 9,.string ⟨x.toArray⟩,.int .i64 m,.int .i64 p,sv]] w (Sy w (.bool (zh .typeItself (.mk 9 x m p l)))) := by
 have i := zb (zs (r := .typeItself) (t := (.mk 9 x m p l)) (c := zk (.mk 9 x m p l) 9 false vg 1) (l := zJ l [.typeName]) rfl); have j := zb hk; have C := zb hf; have k := zb ha; have I := zb IH; obtain ⟨a,n,c,rfl,-⟩ := ha.any; clear hk hf ha IH
 go_enter Tryz.func64,Tryz.ntmps64
 go_wp2_with fail; go_at_call 37; refine (zA (.mk 9 x m p l) _ 9 vg 1 false _ (j.kept gan) C (k.kept gan)).mono ?_; rintro e J ⟨rfl,b⟩; have d := za gan b; have g := zb ((Box.new w (.mk 9 x m p l) (.slice a n c) 24).kept b); cases h : zk (.mk 9 x m p l) 9 false vg 1
 ·obtain ⟨_,_,_,_,_⟩ := id g
  go_wp2_with fail
  go_ret
  exact ⟨by rw [i.out,h]; rfl,d⟩
 ·obtain ⟨_,_,c,u,_,D,_,_,s,v,y,z⟩ := k.one (z8 (n := 1) h)
  cases D
  change l = [u] at s
  subst s; have A := zb v; have E := zb y; have F := zb z; clear y z v; obtain ⟨_,_,_,_,_⟩ := id g; obtain ⟨_,_,_,_,_⟩ := A.kept d; go_wp2_with fail; go_at_call 65; refine (yF _ _ _ (j.kept d) E (F.kept d)).mono ?_; rintro e K ⟨rfl,f⟩; have B := za d f; have G := g.kept f; cases H : zh .typeName u
  all_goals
   obtain ⟨_,_,_,_,_⟩ := id G; obtain ⟨_,_,_,_,_⟩ := A.kept B; go_wp2_with fail
   go_ret
   exact ⟨by rw [i.out,h]; simp [zJ,H],B⟩
theorem ip (x : Bs) (m p : Int) (l : List T) (sv : Value) (w : World) (hk : KW w) (hf : Fits (.mk 12 x m p l)) (ha : AT w (T.mk 12 x m p l).subs sv) (IH : ∀ u,u ∈ l -> ShOK u) :
  Calls Tryz.prog 64 #[.agg #[.int .i64 12,.string ⟨x.toArray⟩,.int .i64 m,.int .i64 p,sv]] w (Sy w (.bool (zh .typeItself (.mk 12 x m p l)))) := by
 have i := zb (zs (r := .typeItself) (t := (.mk 12 x m p l)) (c := zk (.mk 12 x m p l) 12 false 0 1) (l := zJ l [.typeName]) rfl); have j := zb hk; have C := zb hf; have k := zb ha; have I := zb IH; obtain ⟨a,n,c,rfl,-⟩ := ha.any; clear hk hf ha IH
 go_enter Tryz.func64,Tryz.ntmps64
 go_wp2_with fail; go_at_call 37; refine (zA (.mk 12 x m p l) _ 12 0 1 false _ (j.kept gan) C (k.kept gan)).mono ?_; rintro e J ⟨rfl,b⟩; have d := za gan b; have g := zb ((Box.new w (.mk 12 x m p l) (.slice a n c) 24).kept b); cases h : zk (.mk 12 x m p l) 12 false 0 1
 ·obtain ⟨_,_,_,_,_⟩ := id g
  go_wp2_with fail
  go_ret
  exact ⟨by rw [i.out,h]; rfl,d⟩
 ·obtain ⟨_,_,c,u,_,D,_,_,s,v,y,z⟩ := k.one (z8 (n := 1) h)
  cases D
  change l = [u] at s
  subst s; have A := zb v; have E := zb y; have F := zb z; clear y z v; obtain ⟨_,_,_,_,_⟩ := id g; obtain ⟨_,_,_,_,_⟩ := A.kept d; go_wp2_with fail; go_at_call 65; refine (yF _ _ _ (j.kept d) E (F.kept d)).mono ?_; rintro e K ⟨rfl,f⟩; have B := za d f; have G := g.kept f; cases H : zh .typeName u
  all_goals
   obtain ⟨_,_,_,_,_⟩ := id G; obtain ⟨_,_,_,_,_⟩ := A.kept B; go_wp2_with fail
   go_ret
   exact ⟨by rw [i.out,h]; simp [zJ,H],B⟩
theorem uz (u : T) : zh .typeNameOrNone u = (zk u 0 false 0 0 || zh .typeName u) := by
 by_cases h : u.kind = 0
 ·have e : zh .typeName u = false := by rw [jf]; simp [zk,h]
  rw [e,zs (show zw .typeNameOrNone u = zt (zk u 0 false 0 0) [] by simp [zw,h])]
  simp
 ·have e : zk u 0 false 0 0 = false := by simp [zk,h]
  rw [e,kQ (show zw .typeNameOrNone u = zw .typeName u by simp [zw,h])]
  simp
theorem cy (x : Bs) (m p : Int) (l : List T) (sv : Value) (w : World) (hk : KW w) (hf : Fits (.mk 10 x m p l)) (ha : AT w (T.mk 10 x m p l).subs sv) :
  Calls Tryz.prog 64 #[.agg #[.int .i64 10,.string ⟨x.toArray⟩,.int .i64 m,.int .i64 p,sv]] w (Sy w (.bool (zh .typeItself (.mk 10 x m p l)))) := by
 have f := zs (r := .typeItself) (t := (.mk 10 x m p l)) (c := zk (.mk 10 x m p l) 10 false 0 (-1) && decide (0 < l.length)) (l := yQ (.mk 10 x m p l) .typeNameOrNone (.declared 11 1 .typeName)) rfl; have D := zb hk; have G := zb hf; have E := zb ha; cases h : zk (.mk 10 x m p l) 10 false 0 (-1)
 ·rw [show zh .typeItself (.mk 10 x m p l) = false by rw [f,h]; rfl]
  obtain ⟨a,n,c,rfl,hn,hc,_⟩ := ha.any; clear f hk hf ha
  go_enter Tryz.func64,Tryz.ntmps64
  go_wp2_with fail; go_at_call 37; refine (zA (.mk 10 x m p l) _ 10 0 (-1) false _ (D.kept gan) G (E.kept gan)).mono ?_; rintro e w1 ⟨rfl,b⟩; rw [h]; have k := za gan b; have H := zb ((Box.new w (.mk 10 x m p l) (.slice a n c) 24).kept b); obtain ⟨s,y,z,A,B⟩ := id H; go_wp2_with fail
  go_ret
  exact ⟨rfl,k⟩
 ·match l,ha,f,h,G,E with
  | [],ha,f,h,G,E =>
   rw [show zh .typeItself (.mk 10 x m p []) = false by rw [f,h]; rfl]; obtain ⟨a,c,rfl,hc,_⟩ := ha.zero rfl; clear f hk hf ha
   go_enter Tryz.func64,Tryz.ntmps64
   go_wp2_with fail; go_at_call 37; refine (zA (.mk 10 x m p []) _ 10 0 (-1) false _ (D.kept gan) G (E.kept gan)).mono ?_; rintro e w1 ⟨rfl,b⟩; rw [h]; have k := za gan b; have H := zb ((Box.new w (.mk 10 x m p []) (.slice a 0 c) 24).kept b); obtain ⟨s,y,z,A,B⟩ := id H; go_wp2_with fail
   go_ret
   exact ⟨rfl,k⟩
  | u :: r,ha,f,h,G,E =>
   obtain ⟨g,o,c,su,rfl,hn,hc,V,I,J,ar⟩ := AT.cons ha; have X := zb V; have K := zb I; have L := zb J
   have a1 : ((r.length : Int) + 1 == 0) = false := bn (by omega)
   have HV : Hid (zh .typeItself (.mk 10 x m p (u :: r)) = ((zk u 0 false 0 0 || zh .typeName u) && r.all (zh (.declared 11 1 .typeName)))) := by
    show _ = _
    rw [f,h,<- uz]; simp [yQ,T.subs,yE,List.all_map,Function.comp_def]
   clear hk hf ha I J ar V f
   go_enter Tryz.func64,Tryz.ntmps64
   go_wp2_with fail; go_at_call 37; refine (zA (.mk 10 x m p (u :: r)) _ 10 0 (-1) false _ (D.kept gan) G (E.kept gan)).mono ?_; rintro e w1 ⟨rfl,b⟩; rw [h]; have k := za gan b; have H := zb ((Box.new w (.mk 10 x m p (u :: r)) (.slice (some ⟨g,o,none⟩) (r.length + 1) c) 24).kept b); obtain ⟨s,y,z,A,B⟩ := id H; obtain ⟨_,_,_,_,_⟩ := X.kept k; go_wp2_with fail; go_at_call 37; refine (zA u _ 0 0 0 false _ (D.kept k) K (L.kept k)).mono ?_; rintro e w2 ⟨rfl,M⟩; have N := za k M; have B2 := H.kept M; obtain ⟨_,_,_,_,_⟩ := id B2; obtain ⟨_,_,_,_,_⟩ := X.kept N; cases h1 : zk u 0 false 0 0
   case' false =>
    go_wp2_with fail; go_at_call 65; refine (yF u _ _ (D.kept N) K (L.kept N)).mono ?_; rintro e w3 ⟨rfl,O⟩; have G3 := za N O; have B3 := B2.kept O; obtain ⟨_,_,_,_,_⟩ := id B3; obtain ⟨_,_,_,_,_⟩ := X.kept G3; cases h2 : zh .typeName u
    case' false =>
     go_wp2_with fail
     go_ret
     exact ⟨by rw [HV.out,h1,h2]; rfl,G3⟩
    have Y : Hid (zh .typeItself (.mk 10 x m p (u :: r)) = r.all (zh (.declared 11 1 .typeName))) := by show _ = _; rw [HV.out,h1,h2]; rfl
    have GZ := G3; have BZ := B3
   case' true =>
    have Y : Hid (zh .typeItself (.mk 10 x m p (u :: r)) = r.all (zh (.declared 11 1 .typeName))) := by show _ = _; rw [HV.out,h1]; rfl
    have GZ := N; have BZ := B2
   all_goals
    go_wp2_with fail
    go_loopw [3] (fun iv wr => ∃ i : Nat,i <= r.length /\ iv = .int .i64 ↑(i + 1 : Nat) /\ Hid ((r.take i).all (zh (.declared 11 1 .typeName)) = true) /\ Hid (w.grownBy wr none) /\ Hid (Box wr w.heap.size (.mk 10 x m p (u :: r)) (.slice (some ⟨g,o,none⟩) (r.length + 1) c))) (fun iv _ => r.length + 1 - (intOf iv).toNat)
    case atStart => exact ⟨0,Nat.zero_le _,rfl,by show _ = _; simp,GZ,BZ⟩
    case round =>
     obtain ⟨Q,_,rfl,R,d,U⟩ := hrel; obtain ⟨_,_,_,_,_⟩ := id U; obtain ⟨_,_,_,_,_⟩ := X.kept d
     by_cases C : Q < r.length
     ·obtain ⟨u,Z⟩ : ∃ u,r[Q]? = some u := ⟨_,List.getElem?_eq_getElem C⟩
      obtain ⟨_,_,su,e1,V,I,J⟩ := (E.kept d).node (Q + 1) u (by first | exact Z | simpa [T.subs] using Z); cases e1; have HT := zb (uL Z R); have K := zb I; have L := zb J; clear Z; obtain ⟨ku,xu,mu,pu,lu⟩ := u; cases V.q
      clear I J
      by_cases hk : ku = 11
      ·subst hk
       cases hv : (zh (.declared 11 1 .typeName)) (.mk 11 xu mu pu lu)
       ·skip
        have F : Hid (r.all (zh (.declared 11 1 .typeName)) = false) := xA (HT.trans hv); go_wp2_with fail; go_at_call 38; refine (nH xu mu pu lu _ _ (D.kept d) K L (fun v _ => yG v)).mono ?_; rintro e w9 ⟨rfl,j⟩; rw [hv]; have G9 := za d j; go_wp2_with fail
        go_ret
        exact ⟨by rw [Y.out,F.out]; rfl,G9⟩
       ·skip
        go_wp2_with fail; go_at_call 38; refine (nH xu mu pu lu _ _ (D.kept d) K L (fun v _ => yG v)).mono ?_; rintro e w9 ⟨rfl,j⟩; rw [hv]; have G9 := za d j; have B9 := U.kept j; have a0 : Hid ((r.take (Q + 1)).all (zh (.declared 11 1 .typeName)) = true) := HT.trans hv; go_wp2_with fail
        exact ⟨⟨Q + 1,by omega,by go_num,a0,G9,B9⟩,by simp [intOf]; omega⟩
      ·have a2 : (ku != 11) = true := by simpa using hk
       have F : Hid (r.all (zh (.declared 11 1 .typeName)) = false) := xA (HT.trans (by rw [zs (show zw (.declared 11 1 .typeName) (.mk ku xu mu pu lu) = zt _ _ from rfl)]; simp [zk,T.kind,hk])); go_wp2_with fail
       go_ret
       exact ⟨by rw [Y.out,F.out]; rfl,d⟩
     ·have HQ := zb (uM C R)
      go_wp2_with fail
      go_ret
      exact ⟨by rw [Y.out,HQ.out]; rfl,d⟩
theorem nw (kd : Int) (x : Bs) (m p : Int) (l : List T) (sv : Value) (w : World) (hk : KW w) (hf : Fits (.mk kd x m p l)) (ha : AT w (T.mk kd x m p l).subs sv) (h9 : ¬ kd = 9) (h10 : ¬ kd = 10) (h12 : ¬ kd = 12) :
  Calls Tryz.prog 64 #[.agg #[.int .i64 kd,.string ⟨x.toArray⟩,.int .i64 m,.int .i64 p,sv]] w (Sy w (.bool (zh .typeItself (.mk kd x m p l)))) := by
 rw [ur (show zw .typeItself (.mk kd x m p l) = none by simp [zw,T.kind,h9,h10,h12])]
 have d : zk (.mk kd x m p l) 10 false 0 (-1) = false := by simp [zk,T.kind,h10]
 have f := zb hk; have g := zb hf; have h := zb ha; obtain ⟨a,n,c,rfl,_,_,_⟩ := ha.any; clear hk hf ha
 go_enter Tryz.func64,Tryz.ntmps64
 go_wp2_with fail; go_at_call 37; refine (zA (.mk kd x m p l) _ 10 0 (-1) false _ (f.kept gan) g (h.kept gan)).mono ?_; rintro e k ⟨rfl,b⟩; rw [d]; have i := za gan b; have j := zb ((Box.new w (.mk kd x m p l) (.slice a n c) 24).kept b); obtain ⟨_,_,_,_,_⟩ := id j; go_wp2_with fail
 go_ret
 exact ⟨rfl,i⟩
theorem qD (t : T) (sv : Value) (w : World) (hk : KW w) (hf : Fits t) (ha : AT w t.subs sv) :
  Calls Tryz.prog 64 #[zq t sv] w (Sy w (.bool (zh .typeItself t))) := by
 obtain ⟨d,x,m,p,l⟩ := t
 by_cases f : d = 9
 ·subst f; exact cU x m p l sv w hk hf ha (fun v _ => yG v)
 by_cases a : d = 10
 ·subst a; exact cy x m p l sv w hk hf ha
 by_cases b : d = 12
 ·subst b; exact ip x m p l sv w hk hf ha (fun v _ => yG v)
 exact nw d x m p l sv w hk hf ha f a b
theorem AT.n4 {w : World} {t : T} {sv : Value} (h : AT w t.subs sv) (e : t.subs.length = 4) : ∃ g o c y0 s0 y1 s1 y2 s2 y3 s3,sv = .slice (some ⟨g,o,none⟩) 4 c /\ 4 <= c /\ c <= 9223372036854775807 /\ t.subs = [y0,y1,y2,y3] /\ (Node5 w g o y0 s0 /\ Fits y0 /\ AT w y0.subs s0) /\ (Node5 w g (o + 5) y1 s1 /\ Fits y1 /\ AT w y1.subs s1) /\ (Node5 w g (o + 10) y2 s2 /\ Fits y2 /\ AT w y2.subs s2) /\ (Node5 w g (o + 15) y3 s3 /\ Fits y3 /\ AT w y3.subs s3) := by
 obtain ⟨_,c,rfl,b,d⟩ := h.form
 unfold maxLen at d
 obtain ⟨y0,y1,y2,y3,a⟩ : ∃ y0 y1 y2 y3,t.subs = [y0,y1,y2,y3] := by
  match hs : t.subs,e with
  | [y0,y1,y2,y3],_ => exact ⟨y0,y1,y2,y3,rfl⟩
 obtain ⟨g,o,s0,rfl,f,i,j⟩ := h.node 0 y0 (by rw [a]; rfl); obtain ⟨_,_,s1,k,l,m,n⟩ := h.node 1 y1 (by rw [a]; rfl); cases k; obtain ⟨_,_,s2,r,s,u,v⟩ := h.node 2 y2 (by rw [a]; rfl); cases r; obtain ⟨_,_,s3,x,y,z,A⟩ := h.node 3 y3 (by rw [a]; rfl); cases x; rw [e] at b ⊢
 exact ⟨g,o,c,y0,s0,y1,s1,y2,s2,y3,s3,rfl,b,by omega,a,⟨by simpa using f,i,j⟩,⟨by simpa using l,m,n⟩,⟨by simpa using s,u,v⟩,⟨by simpa using y,z,A⟩⟩
theorem AT.n6 {w : World} {t : T} {sv : Value} (h : AT w t.subs sv) (e : t.subs.length = 6) : ∃ g o c y0 s0 y1 s1 y2 s2 y3 s3 y4 s4 y5 s5,sv = .slice (some ⟨g,o,none⟩) 6 c /\ 6 <= c /\ c <= 9223372036854775807 /\ t.subs = [y0,y1,y2,y3,y4,y5] /\ (Node5 w g o y0 s0 /\ Fits y0 /\ AT w y0.subs s0) /\ (Node5 w g (o + 5) y1 s1 /\ Fits y1 /\ AT w y1.subs s1) /\ (Node5 w g (o + 10) y2 s2 /\ Fits y2 /\ AT w y2.subs s2) /\ (Node5 w g (o + 15) y3 s3 /\ Fits y3 /\ AT w y3.subs s3) /\ (Node5 w g (o + 20) y4 s4 /\ Fits y4 /\ AT w y4.subs s4) /\ (Node5 w g (o + 25) y5 s5 /\ Fits y5 /\ AT w y5.subs s5) := by
 obtain ⟨_,c,rfl,b,d⟩ := h.form
 unfold maxLen at d
 obtain ⟨y0,y1,y2,y3,y4,y5,a⟩ : ∃ y0 y1 y2 y3 y4 y5,t.subs = [y0,y1,y2,y3,y4,y5] := by
  match hs : t.subs,e with
  | [y0,y1,y2,y3,y4,y5],_ => exact ⟨y0,y1,y2,y3,y4,y5,rfl⟩
 obtain ⟨g,o,s0,rfl,f,i,j⟩ := h.node 0 y0 (by rw [a]; rfl); obtain ⟨_,_,s1,k,l,m,n⟩ := h.node 1 y1 (by rw [a]; rfl); cases k; obtain ⟨_,_,s2,r,s,u,v⟩ := h.node 2 y2 (by rw [a]; rfl); cases r; obtain ⟨_,_,s3,x,y,z,A⟩ := h.node 3 y3 (by rw [a]; rfl); cases x; obtain ⟨_,_,s4,B,C,D,E⟩ := h.node 4 y4 (by rw [a]; rfl); cases B; obtain ⟨_,_,s5,F,G,H,I⟩ := h.node 5 y5 (by rw [a]; rfl); cases F; rw [e] at b ⊢
 exact ⟨g,o,c,y0,s0,y1,s1,y2,s2,y3,s3,y4,s4,y5,s5,rfl,b,by omega,a,⟨by simpa using f,i,j⟩,⟨by simpa using l,m,n⟩,⟨by simpa using s,u,v⟩,⟨by simpa using y,z,A⟩,⟨by simpa using C,D,E⟩,⟨by simpa using G,H,I⟩⟩
theorem bf (x : Bs) (m p : Int) (l : List T) (sv : Value) (w : World) (hk : KW w) (hf : Fits (.mk 5 x m p l)) (ha : AT w (T.mk 5 x m p l).subs sv) (IH : ∀ u,u ∈ l -> ShOK u) :
  Calls Tryz.prog 38 #[.agg #[.int .i64 5,.string ⟨x.toArray⟩,.int .i64 m,.int .i64 p,sv]] w (Sy w (.bool (zh (.declared 5 1 .typeItself) (.mk 5 x m p l)))) := by
 have i := zb (zs (r := (.declared 5 1 .typeItself)) (t := (.mk 5 x m p l)) (c := zk (.mk 5 x m p l) 5 true 1 1) (l := zJ l [.typeItself]) rfl); have j := zb hk; have C := zb hf; have k := zb ha; have I := zb IH; obtain ⟨a,n,c,rfl,-⟩ := ha.any; clear hk hf ha IH
 go_enter Tryz.func38,Tryz.ntmps38
 go_wp2_with fail; go_at_call 37; refine (zA (.mk 5 x m p l) _ 5 1 1 true _ (j.kept gan) C (k.kept gan)).mono ?_; rintro e J ⟨rfl,b⟩; have d := za gan b; have g := zb ((Box.new w (.mk 5 x m p l) (.slice a n c) 24).kept b); cases h : zk (.mk 5 x m p l) 5 true 1 1
 ·obtain ⟨_,_,_,_,_⟩ := id g
  go_wp2_with fail
  go_ret
  exact ⟨by rw [i.out,h]; rfl,d⟩
 ·obtain ⟨_,_,c,u,_,D,_,_,s,v,y,z⟩ := k.one (z8 (n := 1) h)
  cases D
  change l = [u] at s
  subst s; have A := zb v; have E := zb y; have F := zb z; clear y z v; obtain ⟨_,_,_,_,_⟩ := id g; obtain ⟨_,_,_,_,_⟩ := A.kept d; go_wp2_with fail; go_at_call 64; refine (qD _ _ _ (j.kept d) E (F.kept d)).mono ?_; rintro e K ⟨rfl,f⟩; have B := za d f; have G := g.kept f; cases H : zh .typeItself u
  all_goals
   obtain ⟨_,_,_,_,_⟩ := id G; obtain ⟨_,_,_,_,_⟩ := A.kept B; go_wp2_with fail
   go_ret
   exact ⟨by rw [i.out,h]; simp [zJ,H],B⟩
theorem vK (r : Rule) (t : T) : zh (.list r) t = (zk t 1 false 0 (-1) && t.subs.all (zh r)) := by
 rw [zs (show zw (.list r) t = zt (zk t 1 false 0 (-1)) (yE t.subs r) from rfl)]
 simp [yE,List.all_map,Function.comp_def]
theorem gT (xu : Bs) (pu : Int) (lu : List T) : zh (.declared 6 0 .typeName) (.mk 6 xu 0 pu lu) = zh (.declared 6 1 .typeName) (.mk 6 xu 0 pu lu) := by
 rw [zs (show zw (.declared 6 0 .typeName) (.mk 6 xu 0 pu lu) = zt _ _ from rfl),zs (show zw (.declared 6 1 .typeName) (.mk 6 xu 0 pu lu) = zt _ _ from rfl)]
 simp [zk,T.num]
theorem bX (x : Bs) (m p : Int) (l : List T) (sv : Value) (w : World) (hk : KW w) (hf : Fits (.mk 7 x m p l)) (ha : AT w (T.mk 7 x m p l).subs sv) :
  Calls Tryz.prog 38 #[.agg #[.int .i64 7,.string ⟨x.toArray⟩,.int .i64 m,.int .i64 p,sv]] w (Sy w (.bool (zh .procedure (.mk 7 x m p l)))) := by
 have HE := zs (r := .procedure) (t := (.mk 7 x m p l)) (c := zk (.mk 7 x m p l) 7 true 1 4) (l := zJ l [.list (.declared 8 1 .typeName),.typeNameOrNone,.list (.declared 6 0 .typeName),.list .act]) rfl; have s := zb hk; have HF := zb hf; have HA := zb ha; cases h0 : zk (.mk 7 x m p l) 7 true 1 4
 ·rw [show zh .procedure (.mk 7 x m p l) = false by rw [HE,h0]; rfl]
  obtain ⟨a,n,c,rfl,hn,hc,hl⟩ := ha.any; clear HE hk hf ha
  go_enter Tryz.func38,Tryz.ntmps38
  go_wp2_with fail; go_at_call 37; refine (zA (.mk 7 x m p l) _ 7 1 4 true _ (s.kept gan) HF (HA.kept gan)).mono ?_; rintro e w1 ⟨rfl,A⟩; rw [h0]; have H := za gan A; have B1 := zb ((Box.new w (.mk 7 x m p l) (.slice a n c) 24).kept A); obtain ⟨c2,c3,c4,c5,c6⟩ := id B1; go_wp2_with fail
  go_ret
  exact ⟨rfl,H⟩
 ·obtain ⟨g,o,c,y,_,j,_,z,_,B,_,rfl,hn,hc,hl,⟨n0,f0,a0⟩,⟨n1,f1,a1⟩,⟨n2,f2,a2⟩,⟨n3,f3,a3⟩⟩ := ha.n4 (z8 (n := 4) h0)
  change l = [y,j,z,B] at hl
  subst hl
  have HV : Hid (zh .procedure (.mk 7 x m p [y,j,z,B]) = ((zk y 1 false 0 (-1) && y.subs.all (zh (.declared 8 1 .typeName))) && (zk j 0 false 0 0 || zh .typeName j) && (zk z 1 false 0 (-1) && z.subs.all (zh (.declared 6 0 .typeName))) && zh (.list .act) B)) := by
   show _ = _
   rw [HE,h0,<- uz,<- vK,<- vK]; simp [zJ,Bool.and_assoc]
  obtain ⟨_,_,_,rfl,_,_,f9⟩ := a0.any; obtain ⟨_,_,_,rfl,_,_,g0⟩ := a2.any; have I := zb n0; have J := zb n1; have K := zb n2; have L := zb n3; have A0 := zb a0; have A1 := zb a1; have A2 := zb a2; have A3 := zb a3; have F0 := zb f0; have F1 := zb f1; have F2 := zb f2; have F3 := zb f3
  generalize g1 : y.subs = L0 at *
  generalize g2 : z.subs = L2 at *
  subst f9 g0; clear hk hf ha HE n0 n1 n2 n3 a0 a1 a2 a3 f0 f1 f2 f3
  go_enter Tryz.func38,Tryz.ntmps38
  go_wp2_with fail; go_at_call 37; refine (zA (.mk 7 x m p [y,j,z,B]) _ 7 1 4 true _ (s.kept gan) HF (HA.kept gan)).mono ?_; rintro e w1 ⟨rfl,A⟩; rw [h0]; have H := za gan A; have B1 := zb ((Box.new w (.mk 7 x m p [y,j,z,B]) (.slice (some ⟨g,o,none⟩) 4 c) 24).kept A); obtain ⟨c2,c3,c4,c5,c6⟩ := id B1; obtain ⟨_,_,_,_,_⟩ := I.kept H; obtain ⟨_,_,_,_,_⟩ := J.kept H; obtain ⟨_,_,_,_,_⟩ := K.kept H; obtain ⟨_,_,_,_,_⟩ := L.kept H; go_wp2_with fail; go_at_call 37; refine (zA y _ 1 0 (-1) false _ (s.kept H) F0 (g1 ▸ (A0.kept H))).mono ?_; rintro e w2 ⟨rfl,c7⟩; have G2 := za H c7; have B2 := B1.kept c7; obtain ⟨_,_,_,_,_⟩ := id B2; obtain ⟨_,_,_,_,_⟩ := I.kept G2; obtain ⟨_,_,_,_,_⟩ := J.kept G2; obtain ⟨_,_,_,_,_⟩ := K.kept G2; obtain ⟨_,_,_,_,_⟩ := L.kept G2; cases h1 : zk y 1 false 0 (-1)
  ·go_wp2_with fail
   go_ret
   exact ⟨by rw [HV.out,h1]; rfl,G2⟩
  ·go_wp2_with fail
   go_at_call 37; refine (zA z _ 1 0 (-1) false _ (s.kept G2) F2 (g2 ▸ (A2.kept G2))).mono ?_; rintro e w3 ⟨rfl,c8⟩; have G3 := za G2 c8; have B3 := B2.kept c8; obtain ⟨_,_,_,_,_⟩ := id B3; obtain ⟨_,_,_,_,_⟩ := I.kept G3; obtain ⟨_,_,_,_,_⟩ := J.kept G3; obtain ⟨_,_,_,_,_⟩ := K.kept G3; obtain ⟨_,_,_,_,_⟩ := L.kept G3; cases h2 : zk z 1 false 0 (-1)
   ·go_wp2_with fail
    go_ret
    exact ⟨by rw [HV.out,h1,h2]; simp,G3⟩
   ·have HW : Hid (zh .procedure (.mk 7 x m p [y,j,z,B]) = (L0.all (zh (.declared 8 1 .typeName)) && (zk j 0 false 0 0 || zh .typeName j) && L2.all (zh (.declared 6 0 .typeName)) && zh (.list .act) B)) := by show _ = _; rw [HV.out,h1,h2]; simp
    clear h0 h1 h2; go_wp2_with fail
    go_loopw [3] (fun iv wr => ∃ i : Nat,i <= L0.length /\ iv = .int .i64 ↑i /\ Hid ((L0.take i).all (zh (.declared 8 1 .typeName)) = true) /\ Hid (w.grownBy wr none) /\ Hid (Box wr w.heap.size (.mk 7 x m p [y,j,z,B]) (.slice (some ⟨g,o,none⟩) 4 c))) (fun iv _ => L0.length + 0 - (intOf iv).toNat)
    case atStart => exact ⟨0,Nat.zero_le _,rfl,by show _ = _; simp,G3,B3⟩
    case round =>
     obtain ⟨i4,_,rfl,c9,d,b9⟩ := hrel; obtain ⟨_,_,_,_,_⟩ := id b9; obtain ⟨_,_,_,_,_⟩ := I.kept d; obtain ⟨_,_,_,_,_⟩ := J.kept d; obtain ⟨_,_,_,_,_⟩ := K.kept d; obtain ⟨_,_,_,_,_⟩ := L.kept d
     by_cases b7 : i4 < L0.length
     ·obtain ⟨u,M⟩ : ∃ u,L0[i4]? = some u := ⟨_,List.getElem?_eq_getElem b7⟩
      obtain ⟨gg,oo,su,e1,n5,fu,au⟩ := (A0.kept d).node i4 u (by first | exact M | simpa [T.subs] using M); cases e1; have HT := zb (uL M c9); have HU := zb fu; have AU := zb au; clear M; obtain ⟨ku,D,N,E,F⟩ := u; obtain ⟨d0,d1,d2,d3,d4⟩ := n5.p
      clear fu au
      by_cases hk : ku = 8
      ·subst hk
       cases O : (zh (.declared 8 1 .typeName)) (.mk 8 D N E F)
       ·have f : Hid (L0.all (zh (.declared 8 1 .typeName)) = false) := xA (HT.trans O)
        go_wp2_with fail; go_at_call 38; refine (lS D N E F _ _ (s.kept d) HU AU (fun v _ => yG v)).mono ?_; rintro e w9 ⟨rfl,h⟩; rw [O]; have G9 := za d h; go_wp2_with fail
        go_ret
        exact ⟨by rw [HW.out,f.out]; rfl,G9⟩
       ·go_wp2_with fail
        go_at_call 38; refine (lS D N E F _ _ (s.kept d) HU AU (fun v _ => yG v)).mono ?_; rintro e w9 ⟨rfl,h⟩; rw [O]; have G9 := za d h; have B9 := b9.kept h; have c0 : Hid ((L0.take (i4 + 1)).all (zh (.declared 8 1 .typeName)) = true) := HT.trans O; go_wp2_with fail
        exact ⟨⟨i4 + 1,by omega,by go_num,c0,G9,B9⟩,by simp [intOf]; omega⟩
      ·have g3 : (ku != 8) = true := by simpa using hk
       have f : Hid (L0.all (zh (.declared 8 1 .typeName)) = false) := xA (HT.trans (by rw [zs (show zw (.declared 8 1 .typeName) (.mk ku D N E F) = zt _ _ from rfl)]; simp [zk,T.kind,hk])); go_wp2_with fail
       go_ret
       exact ⟨by rw [HW.out,f.out]; rfl,d⟩
     ·have d5 := zb (uM b7 c9)
      go_wp2_with fail
      go_loopw [4] (fun iv wr => ∃ i : Nat,i <= L2.length /\ iv = .int .i64 ↑i /\ Hid ((L2.take i).all (zh (.declared 6 0 .typeName)) = true) /\ Hid (w.grownBy wr none) /\ Hid (Box wr w.heap.size (.mk 7 x m p [y,j,z,B]) (.slice (some ⟨g,o,none⟩) 4 c))) (fun iv _ => L2.length + 0 - (intOf iv).toNat)
      case atStart => exact ⟨0,Nat.zero_le _,rfl,by show _ = _; simp,d,b9⟩
      case round =>
       obtain ⟨i5,_,rfl,d6,b,c1⟩ := hrel; obtain ⟨_,_,_,_,_⟩ := id c1; obtain ⟨_,_,_,_,_⟩ := I.kept b; obtain ⟨_,_,_,_,_⟩ := J.kept b; obtain ⟨_,_,_,_,_⟩ := K.kept b; obtain ⟨_,_,_,_,_⟩ := L.kept b; have g4 := b.size
       by_cases b8 : i5 < L2.length
       ·obtain ⟨u,M⟩ : ∃ u,L2[i5]? = some u := ⟨_,List.getElem?_eq_getElem b8⟩
        obtain ⟨gg,oo,su,e1,n5,fu,au⟩ := (A2.kept b).node i5 u (by first | exact M | simpa [T.subs] using M); cases e1; obtain ⟨_,_,rfl,_,_⟩ := au.form; have HT := zb (uL M d6); have HU := zb fu; have AU := zb au; clear M; obtain ⟨ku,D,N,E,F⟩ := u; obtain ⟨d0,d1,d2,d3,d4⟩ := n5.p
        clear fu au
        by_cases hk : ku = 6
        ·subst hk
         by_cases hz : N = 0
         ·subst hz
          cases O : (zh (.declared 6 0 .typeName)) (.mk 6 D 0 E F)
          ·have f : Hid (L2.all (zh (.declared 6 0 .typeName)) = false) := xA (HT.trans O)
           go_wp2_with fail; go_at_call 38; refine (oP D 0 E F _ _ (s.kept (zf b _)) HU (AU.kept gan) (fun v _ => yG v)).mono ?_; rintro e w9 ⟨rfl,h⟩; rw [<- gT,O]; have G9 := za (zf b _) h; go_wp2_with fail
           go_ret
           exact ⟨by rw [HW.out,f.out]; simp,G9⟩
          ·go_wp2_with fail
           go_at_call 38; refine (oP D 0 E F _ _ (s.kept (zf b _)) HU (AU.kept gan) (fun v _ => yG v)).mono ?_; rintro e w9 ⟨rfl,h⟩; rw [<- gT,O]; have G9 := za (zf b _) h; have B9 := c1.kept (za gan h); have c0 : Hid ((L2.take (i5 + 1)).all (zh (.declared 6 0 .typeName)) = true) := HT.trans O; go_wp2_with fail
           exact ⟨⟨i5 + 1,by omega,by go_num,c0,G9,B9⟩,by simp [intOf]; omega⟩
         ·have g5 : (N != 0) = true := by simpa using hz
          have f : Hid (L2.all (zh (.declared 6 0 .typeName)) = false) := xA (HT.trans (by rw [zs (show zw (.declared 6 0 .typeName) (.mk 6 D N E F) = zt _ _ from rfl)]; simp [zk,T.num,T.kind]; intro h1 h2; omega)); go_wp2_with fail
          go_ret
          exact ⟨by rw [HW.out,f.out]; simp,(zf b _)⟩
        ·have g3 : (ku != 6) = true := by simpa using hk
         have f : Hid (L2.all (zh (.declared 6 0 .typeName)) = false) := xA (HT.trans (by rw [zs (show zw (.declared 6 0 .typeName) (.mk ku D N E F) = zt _ _ from rfl)]; simp [zk,T.kind,hk])); go_wp2_with fail
         go_ret
         exact ⟨by rw [HW.out,f.out]; simp,(zf b _)⟩
       ·have d7 := zb (uM b8 d6)
        go_wp2_with fail; go_at_call 37; refine (zA j _ 0 0 0 false _ (s.kept b) F1 (A1.kept b)).mono ?_; rintro e w6 ⟨rfl,d8⟩; have G := za b d8; have B6 := c1.kept d8; obtain ⟨_,_,_,_,_⟩ := id B6; obtain ⟨_,_,_,_,_⟩ := I.kept G; obtain ⟨_,_,_,_,_⟩ := J.kept G; obtain ⟨_,_,_,_,_⟩ := K.kept G; obtain ⟨_,_,_,_,_⟩ := L.kept G; cases h3 : zk j 0 false 0 0
        ·go_wp2_with fail
         go_at_call 65; refine (yF j _ _ (s.kept G) F1 (A1.kept G)).mono ?_; rintro e w7 ⟨rfl,C⟩; have k := za G C; have B7 := B6.kept C; obtain ⟨d9,f4,f5,f6,f7⟩ := id B7; obtain ⟨Q,R,U,V,X⟩ := I.kept k; obtain ⟨Y,Z,a4,a5,a6⟩ := J.kept k; obtain ⟨a7,a8,a9,b0,b1⟩ := K.kept k; obtain ⟨b2,b3,b4,b5,b6⟩ := L.kept k; cases h4 : zh .typeName j
         ·go_wp2_with fail
          go_ret
          exact ⟨by rw [HW.out,h3,h4]; simp,k⟩
         ·go_wp2_with fail
          go_at_call 39; refine ((fC B).stmts _ _ (s.kept k) F3 (A3.kept k)).mono ?_; rintro e w8 ⟨rfl,f8⟩; have G8 := za k f8; have B8 := B7.kept f8; obtain ⟨_,_,_,_,_⟩ := id B8; obtain ⟨_,_,_,_,_⟩ := I.kept G8; obtain ⟨_,_,_,_,_⟩ := J.kept G8; obtain ⟨_,_,_,_,_⟩ := K.kept G8; obtain ⟨_,_,_,_,_⟩ := L.kept G8; go_wp2_with fail
          go_ret
          exact ⟨by rw [HW.out,h3,h4,d5.out,d7.out]; rfl,G8⟩
        ·go_wp2_with fail
         go_at_call 39; refine ((fC B).stmts _ _ (s.kept G) F3 (A3.kept G)).mono ?_; rintro e w7 ⟨rfl,C⟩; have k := za G C; have B7 := B6.kept C; obtain ⟨d9,f4,f5,f6,f7⟩ := id B7; obtain ⟨Q,R,U,V,X⟩ := I.kept k; obtain ⟨Y,Z,a4,a5,a6⟩ := J.kept k; obtain ⟨a7,a8,a9,b0,b1⟩ := K.kept k; obtain ⟨b2,b3,b4,b5,b6⟩ := L.kept k; go_wp2_with fail
         go_ret
         exact ⟨by rw [HW.out,h3,d5.out,d7.out]; rfl,k⟩
def vU : Nat -> Rule
 | 0 => .imported
 | 1 => .declared 4 1 .expression
 | 2 => .declared 5 1 .typeItself
 | 3 => .declared 6 1 .typeName
 | _ => .procedure
def jt : Nat -> Int
 | 0 => 3
 | 1 => 4
 | 2 => 5
 | 3 => 6
 | _ => 7
theorem dC (j : Nat) (hj : j < 5) (x : Bs) (m p : Int) (l : List T) (sv : Value) (w : World) (hk : KW w) (hf : Fits (.mk (jt j) x m p l)) (ha : AT w (T.mk (jt j) x m p l).subs sv) :
  Calls Tryz.prog 38 #[.agg #[.int .i64 (jt j),.string ⟨x.toArray⟩,.int .i64 m,.int .i64 p,sv]] w (Sy w (.bool (zh (vU j) (.mk (jt j) x m p l)))) := by
 match j,hj,hf,ha with
 | 0,_,hf,ha => exact bP x m p l sv w hk hf ha
 | 1,_,hf,ha => exact af x m p l sv w hk hf ha (fun v _ => yG v)
 | 2,_,hf,ha => exact bf x m p l sv w hk hf ha (fun v _ => yG v)
 | 3,_,hf,ha => exact oP x m p l sv w hk hf ha (fun v _ => yG v)
 | 4,_,hf,ha => exact bX x m p l sv w hk hf ha
theorem pg (j : Nat) (hj : j < 5) (k : Int) (x : Bs) (m p : Int) (l : List T) (h : ¬ k = jt j) : zh (vU j) (.mk k x m p l) = false := by
 match j,hj,h with
 | 0,_,h =>
  show zh .imported _ = false
  rw [zs (show zw .imported (.mk k x m p l) = zt _ _ from rfl)]; have a : ¬ k = 3 := h
  simp [zk,T.kind,a]
 | 1,_,h =>
  show zh (.declared 4 1 .expression) _ = false
  rw [zs (show zw (.declared 4 1 .expression) (.mk k x m p l) = zt _ _ from rfl)]; have a : ¬ k = 4 := h
  simp [zk,T.kind,a]
 | 2,_,h =>
  show zh (.declared 5 1 .typeItself) _ = false
  rw [zs (show zw (.declared 5 1 .typeItself) (.mk k x m p l) = zt _ _ from rfl)]; have a : ¬ k = 5 := h
  simp [zk,T.kind,a]
 | 3,_,h =>
  show zh (.declared 6 1 .typeName) _ = false
  rw [zs (show zw (.declared 6 1 .typeName) (.mk k x m p l) = zt _ _ from rfl)]; have a : ¬ k = 6 := h
  simp [zk,T.kind,a]
 | 4,_,h =>
  show zh .procedure _ = false
  rw [zs (show zw .procedure (.mk k x m p l) = zt _ _ from rfl)]; have a : ¬ k = 7 := h
  simp [zk,T.kind,a]
def upTo (ys : List T) (j : Nat) : Prop := ∀ k y,k < j -> ys[k]? = some y -> zh (.list (vU k)) y = true
theorem upTo.step {ys : List T} {j : Nat} {y : T} (h : upTo ys j) (hy : ys[j]? = some y) (h2 : zh (.list (vU j)) y = true) : upTo ys (j + 1) := by
 intro k z d a
 rcases Nat.lt_or_ge k j with b | b
 ·exact h k z b a
 ·obtain rfl : k = j := by omega
  rw [hy] at a; cases a
  exact h2
theorem kC (k m p : Int) (x : Bs) (y0 y1 y2 y3 y4 y5 : T) (h0 : zk (.mk k x m p [y0,y1,y2,y3,y4,y5]) 2 true 0 6 = true) :
  zh .module (.mk k x m p [y0,y1,y2,y3,y4,y5]) = (zh (.list (vU 0)) y0 && zh (.list (vU 1)) y1 && zh (.list (vU 2)) y2 && zh (.list (vU 3)) y3 && zh (.list (vU 4)) y4 && zh (.list .act) y5) := by
 rw [zs (r := .module) (t := .mk k x m p [y0,y1,y2,y3,y4,y5]) (c := zk (.mk k x m p [y0,y1,y2,y3,y4,y5]) 2 true 0 6) (l := zJ [y0,y1,y2,y3,y4,y5] [.list .imported,.list (.declared 4 1 .expression),.list (.declared 5 1 .typeItself),.list (.declared 6 1 .typeName),.list .procedure,.list .act]) rfl,h0]
 simp [zJ,vU,Bool.and_assoc]
theorem jX {k m p : Int} {x : Bs} {y0 y1 y2 y3 y4 y5 : T} (h0 : zk (.mk k x m p [y0,y1,y2,y3,y4,y5]) 2 true 0 6 = true) {j : Nat} {y : T} (hj : j < 5) (hy : [y0,y1,y2,y3,y4,y5][j]? = some y) (h : zh (.list (vU j)) y = false) : zh .module (.mk k x m p [y0,y1,y2,y3,y4,y5]) = false := by
 rw [kC k m p x y0 y1 y2 y3 y4 y5 h0]
 match j,hj,hy,h with
 | 0,_,hy,h => simp at hy; subst hy; rw [h]; simp
 | 1,_,hy,h => simp at hy; subst hy; rw [h]; simp
 | 2,_,hy,h => simp at hy; subst hy; rw [h]; simp
 | 3,_,hy,h => simp at hy; subst hy; rw [h]; simp
 | 4,_,hy,h => simp at hy; subst hy; rw [h]; simp
theorem tR {k m p : Int} {x : Bs} {y0 y1 y2 y3 y4 y5 : T} (h0 : zk (.mk k x m p [y0,y1,y2,y3,y4,y5]) 2 true 0 6 = true) (h : upTo [y0,y1,y2,y3,y4,y5] 5) : zh .module (.mk k x m p [y0,y1,y2,y3,y4,y5]) = zh (.list .act) y5 := by
 rw [kC k m p x y0 y1 y2 y3 y4 y5 h0,h 0 y0 (by omega) rfl,h 1 y1 (by omega) rfl,h 2 y2 (by omega) rfl,h 3 y3 (by omega) rfl,h 4 y4 (by omega) rfl]
 rfl
def Kinds (w : World) (b : Nat) : Prop := ∀ k : Nat,k < 5 -> w.cell? ⟨b,k,none⟩ = some (.int .i64 (jt k))
theorem Kinds.new (w : World) (t : TypeId) : Kinds (w.alloc (.cells #[.int .i64 3,.int .i64 4,.int .i64 5,.int .i64 6,.int .i64 7] t)) w.heap.size := by
 intro k a; rw [World.cell?_alloc_at _ _ _ _ rfl]
 match k,a with
 | 0,_ => rfl
 | 1,_ => rfl
 | 2,_ => rfl
 | 3,_ => rfl
 | 4,_ => rfl
theorem Kinds.kept {w w' : World} {b : Nat} (h : Kinds w b) (hg : w.grownBy w' none) : Kinds w' b := fun k hk => zg hg (h k hk)
theorem qY (t : T) (sv : Value) (w : World) (hk : KW w) (hf : Fits t) (ha : AT w t.subs sv) :
    Calls Tryz.prog 14 #[zq t sv] w (Sy w (.bool (zh .module t))) := by
  have H := zb hk; have HF := zb hf; have HA := zb ha; obtain ⟨f,x,m,p,l⟩ := t; cases M : zk (.mk f x m p l) 2 true 0 6
  · rw [show zh .module (.mk f x m p l) = false by rw [zs (r := .module) (t := .mk f x m p l) (c := zk (.mk f x m p l) 2 true 0 6) rfl,M]; rfl]
    obtain ⟨a,n,c,rfl,hn,hc,hl⟩ := ha.any; clear hk hf ha
    change Calls Tryz.prog 14 #[.agg #[.int .i64 f,.string ⟨x.toArray⟩,.int .i64 m,.int .i64 p,.slice a n c]] w _
    go_enter Tryz.func14,Tryz.ntmps14
    go_wp2_with fail; go_at_call 37; refine (zA (.mk f x m p l) _ 2 0 6 true _ (H.kept gan) HF (HA.kept gan)).mono ?_; rintro e w1 ⟨rfl,v⟩; rw [M]; have G1 := za gan v; go_wp2_with fail
    go_ret
    exact ⟨rfl,G1⟩
  · obtain ⟨g,o,c,A,s0,B,s1,C,s2,D,s3,E,s4,s,s5,rfl,hn,hc,hl,-,-,-,-,-,⟨U,f5,a5⟩⟩ := ha.n6 (z8 (n := 6) M)
    change l = [A,B,C,D,E,s] at hl
    subst hl; have V := zb M; have N5 := zb U; have F5 := zb f5; have A5 := zb a5; clear hk hf ha U f5 a5
    change Calls Tryz.prog 14 #[.agg #[.int .i64 f,.string ⟨x.toArray⟩,.int .i64 m,.int .i64 p,.slice (some ⟨g,o,none⟩) 6 c]] w _
    go_enter Tryz.func14,Tryz.ntmps14
    go_wp2_with fail; go_at_call 37; refine (zA (.mk f x m p [A,B,C,D,E,s]) _ 2 0 6 true _ (H.kept gan) HF (HA.kept gan)).mono ?_; rintro e w1 ⟨rfl,v⟩; rw [M]; have G1 := za gan v; have B1 := zb ((Box.new w (.mk f x m p [A,B,C,D,E,s]) (.slice (some ⟨g,o,none⟩) 6 c) 24).kept v); clear M v; go_wp2_with fail
    go_loopw [4] (fun iv wr => ∃ j : Nat,j <= 5 /\ iv = .int .i64 ↑j /\ Hid (upTo [A,B,C,D,E,s] j) /\ Hid (w.grownBy wr none) /\ Hid (Box wr w.heap.size (.mk f x m p [A,B,C,D,E,s]) (.slice (some ⟨g,o,none⟩) 6 c)) /\ Hid (Kinds wr w1.heap.size)) (fun iv _ => 5 - (intOf iv).toNat)
    case atStart => exact ⟨0,by omega,rfl,fun k y h _ => by omega,zf G1 _,B1.kept (zf (zj _ _) _),Kinds.new _ _⟩
    case round =>
      obtain ⟨j,_,rfl,HU,F,HX,HD⟩ := hrel; obtain ⟨_,_,_,_,_⟩ := id HX
      by_cases d : j < 5
      · obtain ⟨y,hy⟩ : ∃ y,[A,B,C,D,E,s][j]? = some y := ⟨_,List.getElem?_eq_getElem (by simp; omega)⟩
        obtain ⟨gg,oo,_,X,n,fy,ay⟩ := (HA.kept F).node j y hy; cases X; obtain ⟨aa,cc,rfl,_,a0⟩ := ay.form
        unfold maxLen at a0
        have Y := zb hy; have FY := zb fy; have AY := zb ay; obtain ⟨_,_,_,_,_⟩ := n; clear hy fy ay; cases N : zk y 1 false 0 (-1)
        · have O : Hid (zh .module (.mk f x m p [A,B,C,D,E,s]) = false) := jX V d Y (by rw [vK,N]; rfl)
          go_wp2_with fail; go_at_call 37; refine (zA y _ 1 0 (-1) false _ (H.kept (zf F _)) FY (AY.kept gan)).mono ?_; rintro e w2 ⟨rfl,b⟩; rw [N]; have Z := za (zf F _) b; go_wp2_with fail
          go_ret
          exact ⟨by rw [O.out]; rfl,Z⟩
        · go_wp2_with fail
          go_at_call 37; refine (zA y _ 1 0 (-1) false _ (H.kept (zf F _)) FY (AY.kept gan)).mono ?_; rintro e w2 ⟨rfl,b⟩; rw [N]; have Z := za (zf F _) b; have GR := za gan b; have a1 := HX.kept GR; have a2 := zb ((Box.new wr y (.slice aa y.subs.length cc) 24).kept b); have a3 := HD.kept GR; clear b; go_wp2_with fail; obtain ⟨wo,a4⟩ : ∃ z,z = wr := ⟨_,rfl⟩; subst a4
          go_loopw [6] (fun kv wq => ∃ i : Nat,i <= y.subs.length /\ kv = .int .i64 ↑i /\ Hid ((y.subs.take i).all (zh (vU j)) = true) /\ Hid (wo.grownBy wq none) /\ Hid (Box wq w.heap.size (.mk f x m p [A,B,C,D,E,s]) (.slice (some ⟨g,o,none⟩) 6 c)) /\ Hid (Box wq wo.heap.size y (.slice aa y.subs.length cc)) /\ Hid (Kinds wq w1.heap.size)) (fun kv _ => y.subs.length - (intOf kv).toNat)
          case atStart => exact ⟨0,Nat.zero_le _,rfl,by show _ = _; simp,GR,a1,a2,a3⟩
          case round =>
            obtain ⟨i,_,rfl,HB,O,I,Q,J⟩ := hrel; obtain ⟨_,_,_,_,_⟩ := id I; obtain ⟨_,_,_,_,_⟩ := id Q; have kc := id J j d; have R := za F O
            by_cases G : i < y.subs.length
            · obtain ⟨u,hu⟩ : ∃ u,y.subs[i]? = some u := ⟨_,List.getElem?_eq_getElem G⟩
              obtain ⟨gg,oo,_,X,U,fu,au⟩ := (AY.kept O).node i u hu; cases X; have HT := zb (uL hu HB); have FU := zb fu; have AU := zb au; clear hu; obtain ⟨ku,xu,mu,pu,lu⟩ := u; obtain ⟨_,X,_,_,_⟩ := U.p
              clear fu au
              by_cases hk : ku = jt j
              · subst hk
                cases hv : zh (vU j) (.mk (jt j) xu mu pu lu)
                · have K : Hid (zh .module (.mk f x m p [A,B,C,D,E,s]) = false) := jX V d Y (by rw [vK,N,xA (HT.out.trans hv)]; rfl)
                  go_wp2_with fail
                  go_region_with (go_at_call 38
                                  refine (dC j d xu mu pu lu _ _ (H.kept (ze R)) FU (AU.kept (ze grn))).mono ?_; rintro e w9 ⟨rfl,L⟩
                                  rw [hv])
                  all_goals
                    have G9 := za (ze R) L; go_wp2_with fail
                    go_ret
                    exact ⟨by rw [K.out]; rfl,G9⟩
                · have a6 : Hid ((y.subs.take (i + 1)).all (zh (vU j)) = true) := HT.trans hv
                  go_wp2_with fail
                  go_region_with (go_at_call 38
                                  refine (dC j d xu mu pu lu _ _ (H.kept (ze R)) FU (AU.kept (ze grn))).mono ?_; rintro e w9 ⟨rfl,L⟩
                                  rw [hv])
                  all_goals
                    have GQ := za (ze grn) L; have G9 := za O GQ; have X9 := I.kept GQ; have Y9 := Q.kept GQ; have D9 := J.kept GQ; go_wp2_with fail
                    exact ⟨⟨i + 1,by omega,by go_num,a6,G9,X9,Y9,D9⟩,by simp [intOf]; omega⟩
              · have a8 : (ku != jt j) = true := by simpa using hk
                have K : Hid (zh .module (.mk f x m p [A,B,C,D,E,s]) = false) := jX V d Y (by rw [vK,N,xA (HT.out.trans (pg j d ku xu mu pu lu hk))]; rfl); go_wp2_with fail
                go_quiet (fail)
                go_wp2_with fail
                go_ret
                exact ⟨by rw [K.out]; rfl,(yl R _)⟩
            · have a7 : Hid (upTo [A,B,C,D,E,s] (j + 1)) := HU.step Y (by rw [vK,N,uM G HB.out]; rfl)
              go_wp2_with fail
              exact ⟨⟨j + 1,by omega,by go_num,a7,R,I,J⟩,by simp [intOf]; omega⟩
      · obtain rfl : j = 5 := by omega
        have HV := zb (tR V HU); obtain ⟨_,_,_,_,_⟩ := N5.kept F; go_wp2_with fail; go_at_call 39; refine ((fC s).stmts _ _ (H.kept F) F5 (A5.kept F)).mono ?_; rintro e w2 ⟨rfl,b⟩; have Z := za F b; go_wp2_with fail
        go_ret
        exact ⟨by rw [HV.out]; rfl,Z⟩
end Go.Proofs.YtifapidjkelnfaaGreatDoor
