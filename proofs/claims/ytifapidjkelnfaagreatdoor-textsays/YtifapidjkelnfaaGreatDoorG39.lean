/- The program's judge of shapes: acts,kind by kind. -/
import Derived.Test.YtifapidjkelnfaaGreatDoorG02
namespace Go.Proofs.YtifapidjkelnfaaGreatDoor
open Go.RowKit Go.Maps Go.WideMaps Go.WideElems
set_option maxHeartbeats 2000000
set_option maxRecDepth 1000000
theorem iu : JC 114 .act 14 := by
 intro N r O Q w l v x m p d sv h i D s
 have u := zb h; have HF := zb D; have R := zb s; have U := h.lt
 have V : Hid (∀ b,v.ownBlock = some b -> b < w.heap.size) := fun b hb => (h.room hb).2
 obtain ⟨a,n,c,rfl,_,_,E⟩ := s.any
 change d.length = n at E
 subst E
 have y : Hid (zw .act (.mk 14 x m p d) = zt (zk (.mk 14 x m p d) 14 false 0 2) (zJ d [.designator,.expression])) := rfl
 clear h D s
 go_enter Tryz.func114,Tryz.ntmps114
 go_wp2_with fail; go_at_call 145; refine (zG (.mk 14 x m p d) _ 0 _ ⟨_,_,_,rfl⟩).mono ?_; rintro e X ⟨rfl,g⟩; have f := za gan g; have Y := zb ((Box.new w (.mk 14 x m p d) (.slice a d.length c) 24).kept g); obtain ⟨F,G,H,I,J⟩ := Y.p
 cases z : ((T.mk 14 x m p d).name.isEmpty && zM (.mk 14 x m p d) 0)
 ·clear g; go_wp2_with fail
  go_ret
  exact .inl ⟨y.trans (zm (by rw [zi (t := (.mk 14 x m p d)) (k := 14) rfl,z]; rfl)),rfl,za u.gb f⟩
 ·clear g; have Z := f.size
  have A : r < X.heap.size := by omega
  go_wp2_with fail; go_at_call 106; refine (ya N r O Q _ l v (.mk 14 x m p d) _ [.designator,.expression] _ (u.grown (zf f _)) i (by decide) R (RL.new2 _ _ (.meth .designator _ rfl) (.meth .expression _ rfl) (by simpa using A) (fun b hb => by have := id V b hb; omega))).mono ?_; rintro e w2 (⟨B,rfl,C⟩ | ⟨j,K,rfl,L,M⟩)
  ·go_wp2_with fail
   go_ret
   exact .inl ⟨y.trans (zm (by rw [zi (t := (.mk 14 x m p d)) (k := 14) rfl,z]; exact (Bool.true_and _).trans (yT (n := 2) B))),rfl,za u.gb (za (zf f _) C)⟩
  have J2 := zb L; have K2 : Hid (JK r v w w2 K) := (JK.grown (zf f _)).trans M; clear L M; go_wp2_with fail
  go_ret
  exact .inr ⟨_,K,y.trans (zH (by rw [zi (t := (.mk 14 x m p d)) (k := 14) rfl,z]; exact (Bool.true_and _).trans (yy (n := 2) j))),rfl,J2,K2⟩
theorem cg : JC 114 .act 15 := by
 intro M s N O w l v x m p d sv h i B u
 have y := zb h; have HF := zb B; have Q := zb u; have R := h.lt
 have HV : Hid (∀ b,v.ownBlock = some b -> b < w.heap.size) := fun b hb => (h.room hb).2
 obtain ⟨a,n,c,rfl,_,_,C⟩ := u.any
 change d.length = n at C
 subst C
 have z : Hid (zw .act (.mk 15 x m p d) = zt (zk (.mk 15 x m p d) 15 false 0 (-1) && decide (0 < d.length)) (yQ (.mk 15 x m p d) .designator .expression)) := rfl
 clear h B u
 go_enter Tryz.func114,Tryz.ntmps114
 go_wp2_with fail; go_at_call 145; refine (zG (.mk 15 x m p d) _ 0 _ ⟨_,_,_,rfl⟩).mono ?_; rintro e U ⟨rfl,g⟩; have f := za gan g; have V := zb ((Box.new w (.mk 15 x m p d) (.slice a d.length c) 24).kept g); obtain ⟨D,E,F,G,H⟩ := V.p
 cases I : ((T.mk 15 x m p d).name.isEmpty && zM (.mk 15 x m p d) 0)
 ·clear g; go_wp2_with fail
  go_ret
  exact .inl ⟨z.trans (zm (by rw [zi (t := (.mk 15 x m p d)) (k := 15) rfl,I]; rfl)),rfl,za y.gb f⟩
 ·clear g; have X := f.size
  have Y : s < U.heap.size := by omega
  go_wp2_with fail; go_at_call 148; refine (jW M s N O _ l v (.mk 15 x m p d) _ .designator .expression _ _ (y.grown f) i Q (.meth .designator _ rfl) (.meth .expression _ rfl)).mono ?_; rintro e Z (⟨j,rfl,A⟩ | ⟨r,J,rfl,K,L⟩)
  ·go_wp2_with fail
   go_ret
   exact .inl ⟨z.trans (zm (by change d = [] at j; subst j; simp)),rfl,za y.gb (za f A)⟩
  have J2 := zb K; have K2 : Hid (JK s v w Z J) := (JK.grown f).trans L; clear K L; go_wp2_with fail
  go_ret
  exact .inr ⟨_,J,z.trans (zH (by rw [zi (t := (.mk 15 x m p d)) (k := 15) rfl,I]; simpa [T.subs] using r)),rfl,J2,K2⟩
theorem cN : JC 114 .act 19 := by
 intro N G O Q w l v x m p d sv h y C z
 have D := zb h; have HF := zb C; have R := zb z; have U := h.lt
 have HV : Hid (∀ b,v.ownBlock = some b -> b < w.heap.size) := fun b hb => (h.room hb).2
 obtain ⟨a,n,c,rfl,_,_,H⟩ := z.any
 change d.length = n at H
 subst H
 have E : Hid (zw .act (.mk 19 x m p d) = zt (zk (.mk 19 x m p d) 19 false 0 (-1) && decide (d.length <= 1)) (yE d .expression)) := rfl
 cases A : ((T.mk 19 x m p d).name.isEmpty && zM (.mk 19 x m p d) 0)
 ·have F : Hid (zw .act (.mk 19 x m p d) = none) := E.trans (zm (by rw [zi (t := (.mk 19 x m p d)) (k := 19) rfl,A]; rfl))
  clear h C z
  go_enter Tryz.func114,Tryz.ntmps114
  go_wp2_with fail; go_at_call 145; refine (zG (.mk 19 x m p d) _ 0 _ ⟨_,_,_,rfl⟩).mono ?_; rintro e I ⟨rfl,f⟩; rw [A]; have g := za gan f; have B := zb ((Box.new w (.mk 19 x m p d) (.slice a d.length c) 24).kept f); obtain ⟨i,j,r,s,u⟩ := B.p
  clear f; go_wp2_with fail
  go_ret
  exact .inl ⟨F,rfl,za D.gb g⟩
 ·skip
  by_cases J : d.length <= 1
  ·have V : Hid (zw .act (.mk 19 x m p d) = some (yE d .expression)) := E.trans (zH (by rw [zi (t := (.mk 19 x m p d)) (k := 19) rfl,A]; simp [J]))
   clear h C z
   go_enter Tryz.func114,Tryz.ntmps114
   go_wp2_with fail; go_at_call 145; refine (zG (.mk 19 x m p d) _ 0 _ ⟨_,_,_,rfl⟩).mono ?_; rintro e I ⟨rfl,f⟩; rw [A]; have g := za gan f; have B := zb ((Box.new w (.mk 19 x m p d) (.slice a d.length c) 24).kept f); obtain ⟨i,j,r,s,u⟩ := B.p
   clear f; go_wp2_with fail; go_at_call 146; refine (uE N G O Q _ l v d _ .expression _ (D.grown g) y R (.meth .expression _ rfl)).mono ?_; rintro e X ⟨K,rfl,L,M⟩; have Y := zb L; have Z : Hid (JK G v w X K) := (JK.grown g).trans M; clear L M; go_wp2_with fail
   go_ret
   exact .inr ⟨_,K,V,rfl,Y,Z⟩
  ·have F : Hid (zw .act (.mk 19 x m p d) = none) := E.trans (zm (by simp [J]))
   have a0 : decide ((d.length : Int) <= 1) = false := by simp; omega
   clear h C z
   go_enter Tryz.func114,Tryz.ntmps114
   go_wp2_with fail; go_at_call 145; refine (zG (.mk 19 x m p d) _ 0 _ ⟨_,_,_,rfl⟩).mono ?_; rintro e I ⟨rfl,f⟩; rw [A]; have g := za gan f; have B := zb ((Box.new w (.mk 19 x m p d) (.slice a d.length c) 24).kept f); obtain ⟨i,j,r,s,u⟩ := B.p
   clear f; go_wp2_with fail
   go_ret
   exact .inl ⟨F,rfl,za D.gb g⟩
theorem iE : JC 114 .act 20 := by
 intro N r O Q w l v x m p d sv h i D s
 have u := zb h; have HF := zb D; have R := zb s; have U := h.lt
 have V : Hid (∀ b,v.ownBlock = some b -> b < w.heap.size) := fun b hb => (h.room hb).2
 obtain ⟨a,n,c,rfl,_,_,E⟩ := s.any
 change d.length = n at E
 subst E
 have y : Hid (zw .act (.mk 20 x m p d) = zt (zk (.mk 20 x m p d) 20 false 0 1) (zJ d [.designator])) := rfl
 clear h D s
 go_enter Tryz.func114,Tryz.ntmps114
 go_wp2_with fail; go_at_call 145; refine (zG (.mk 20 x m p d) _ 0 _ ⟨_,_,_,rfl⟩).mono ?_; rintro e X ⟨rfl,g⟩; have f := za gan g; have Y := zb ((Box.new w (.mk 20 x m p d) (.slice a d.length c) 24).kept g); obtain ⟨F,G,H,I,J⟩ := Y.p
 cases z : ((T.mk 20 x m p d).name.isEmpty && zM (.mk 20 x m p d) 0)
 ·clear g; go_wp2_with fail
  go_ret
  exact .inl ⟨y.trans (zm (by rw [zi (t := (.mk 20 x m p d)) (k := 20) rfl,z]; rfl)),rfl,za u.gb f⟩
 ·clear g; have Z := f.size
  have A : r < X.heap.size := by omega
  go_wp2_with fail; go_at_call 106; refine (ya N r O Q _ l v (.mk 20 x m p d) _ [.designator] _ (u.grown (zf f _)) i (by decide) R (RL.new1 _ _ (.meth .designator _ rfl) (by simpa using A) (fun b hb => by have := id V b hb; omega))).mono ?_; rintro e w2 (⟨B,rfl,C⟩ | ⟨j,K,rfl,L,M⟩)
  ·go_wp2_with fail
   go_ret
   exact .inl ⟨y.trans (zm (by rw [zi (t := (.mk 20 x m p d)) (k := 20) rfl,z]; exact (Bool.true_and _).trans (yT (n := 1) B))),rfl,za u.gb (za (zf f _) C)⟩
  have J2 := zb L; have K2 : Hid (JK r v w w2 K) := (JK.grown (zf f _)).trans M; clear L M; go_wp2_with fail
  go_ret
  exact .inr ⟨_,K,y.trans (zH (by rw [zi (t := (.mk 20 x m p d)) (k := 20) rfl,z]; exact (Bool.true_and _).trans (yy (n := 1) j))),rfl,J2,K2⟩
theorem iB : JC 114 .act 22 := by
 intro N r O Q w l v x m p d sv h i D s
 have u := zb h; have HF := zb D; have R := zb s; have U := h.lt
 have V : Hid (∀ b,v.ownBlock = some b -> b < w.heap.size) := fun b hb => (h.room hb).2
 obtain ⟨a,n,c,rfl,_,_,E⟩ := s.any
 change d.length = n at E
 subst E
 have y : Hid (zw .act (.mk 22 x m p d) = zt (zk (.mk 22 x m p d) 22 false 0 1) (zJ d [.designator])) := rfl
 clear h D s
 go_enter Tryz.func114,Tryz.ntmps114
 go_wp2_with fail; go_at_call 145; refine (zG (.mk 22 x m p d) _ 0 _ ⟨_,_,_,rfl⟩).mono ?_; rintro e X ⟨rfl,g⟩; have f := za gan g; have Y := zb ((Box.new w (.mk 22 x m p d) (.slice a d.length c) 24).kept g); obtain ⟨F,G,H,I,J⟩ := Y.p
 cases z : ((T.mk 22 x m p d).name.isEmpty && zM (.mk 22 x m p d) 0)
 ·clear g; go_wp2_with fail
  go_ret
  exact .inl ⟨y.trans (zm (by rw [zi (t := (.mk 22 x m p d)) (k := 22) rfl,z]; rfl)),rfl,za u.gb f⟩
 ·clear g; have Z := f.size
  have A : r < X.heap.size := by omega
  go_wp2_with fail; go_at_call 106; refine (ya N r O Q _ l v (.mk 22 x m p d) _ [.designator] _ (u.grown (zf f _)) i (by decide) R (RL.new1 _ _ (.meth .designator _ rfl) (by simpa using A) (fun b hb => by have := id V b hb; omega))).mono ?_; rintro e w2 (⟨B,rfl,C⟩ | ⟨j,K,rfl,L,M⟩)
  ·go_wp2_with fail
   go_ret
   exact .inl ⟨y.trans (zm (by rw [zi (t := (.mk 22 x m p d)) (k := 22) rfl,z]; exact (Bool.true_and _).trans (yT (n := 1) B))),rfl,za u.gb (za (zf f _) C)⟩
  have J2 := zb L; have K2 : Hid (JK r v w w2 K) := (JK.grown (zf f _)).trans M; clear L M; go_wp2_with fail
  go_ret
  exact .inr ⟨_,K,y.trans (zH (by rw [zi (t := (.mk 22 x m p d)) (k := 22) rfl,z]; exact (Bool.true_and _).trans (yy (n := 1) j))),rfl,J2,K2⟩
theorem iC : JC 114 .act 21 := by
 intro N r O Q w l v x m p d sv h i D s
 have u := zb h; have HF := zb D; have R := zb s; have U := h.lt
 have V : Hid (∀ b,v.ownBlock = some b -> b < w.heap.size) := fun b hb => (h.room hb).2
 obtain ⟨a,n,c,rfl,_,_,E⟩ := s.any
 change d.length = n at E
 subst E
 have y : Hid (zw .act (.mk 21 x m p d) = zt (zk (.mk 21 x m p d) 21 false 0 1) (zJ d [.expression])) := rfl
 clear h D s
 go_enter Tryz.func114,Tryz.ntmps114
 go_wp2_with fail; go_at_call 145; refine (zG (.mk 21 x m p d) _ 0 _ ⟨_,_,_,rfl⟩).mono ?_; rintro e X ⟨rfl,g⟩; have f := za gan g; have Y := zb ((Box.new w (.mk 21 x m p d) (.slice a d.length c) 24).kept g); obtain ⟨F,G,H,I,J⟩ := Y.p
 cases z : ((T.mk 21 x m p d).name.isEmpty && zM (.mk 21 x m p d) 0)
 ·clear g; go_wp2_with fail
  go_ret
  exact .inl ⟨y.trans (zm (by rw [zi (t := (.mk 21 x m p d)) (k := 21) rfl,z]; rfl)),rfl,za u.gb f⟩
 ·clear g; have Z := f.size
  have A : r < X.heap.size := by omega
  go_wp2_with fail; go_at_call 106; refine (ya N r O Q _ l v (.mk 21 x m p d) _ [.expression] _ (u.grown (zf f _)) i (by decide) R (RL.new1 _ _ (.meth .expression _ rfl) (by simpa using A) (fun b hb => by have := id V b hb; omega))).mono ?_; rintro e w2 (⟨B,rfl,C⟩ | ⟨j,K,rfl,L,M⟩)
  ·go_wp2_with fail
   go_ret
   exact .inl ⟨y.trans (zm (by rw [zi (t := (.mk 21 x m p d)) (k := 21) rfl,z]; exact (Bool.true_and _).trans (yT (n := 1) B))),rfl,za u.gb (za (zf f _) C)⟩
  have J2 := zb L; have K2 : Hid (JK r v w w2 K) := (JK.grown (zf f _)).trans M; clear L M; go_wp2_with fail
  go_ret
  exact .inr ⟨_,K,y.trans (zH (by rw [zi (t := (.mk 21 x m p d)) (k := 21) rfl,z]; exact (Bool.true_and _).trans (yy (n := 1) j))),rfl,J2,K2⟩
theorem io : JC 114 .act 23 := by
 intro N r O Q w l v x m p d sv h i D s
 have u := zb h; have HF := zb D; have R := zb s; have U := h.lt
 have V : Hid (∀ b,v.ownBlock = some b -> b < w.heap.size) := fun b hb => (h.room hb).2
 obtain ⟨a,n,c,rfl,_,_,E⟩ := s.any
 change d.length = n at E
 subst E
 have y : Hid (zw .act (.mk 23 x m p d) = zt (zk (.mk 23 x m p d) 23 false 0 1) (zJ d [.expression])) := rfl
 clear h D s
 go_enter Tryz.func114,Tryz.ntmps114
 go_wp2_with fail; go_at_call 145; refine (zG (.mk 23 x m p d) _ 0 _ ⟨_,_,_,rfl⟩).mono ?_; rintro e X ⟨rfl,g⟩; have f := za gan g; have Y := zb ((Box.new w (.mk 23 x m p d) (.slice a d.length c) 24).kept g); obtain ⟨F,G,H,I,J⟩ := Y.p
 cases z : ((T.mk 23 x m p d).name.isEmpty && zM (.mk 23 x m p d) 0)
 ·clear g; go_wp2_with fail
  go_ret
  exact .inl ⟨y.trans (zm (by rw [zi (t := (.mk 23 x m p d)) (k := 23) rfl,z]; rfl)),rfl,za u.gb f⟩
 ·clear g; have Z := f.size
  have A : r < X.heap.size := by omega
  go_wp2_with fail; go_at_call 106; refine (ya N r O Q _ l v (.mk 23 x m p d) _ [.expression] _ (u.grown (zf f _)) i (by decide) R (RL.new1 _ _ (.meth .expression _ rfl) (by simpa using A) (fun b hb => by have := id V b hb; omega))).mono ?_; rintro e w2 (⟨B,rfl,C⟩ | ⟨j,K,rfl,L,M⟩)
  ·go_wp2_with fail
   go_ret
   exact .inl ⟨y.trans (zm (by rw [zi (t := (.mk 23 x m p d)) (k := 23) rfl,z]; exact (Bool.true_and _).trans (yT (n := 1) B))),rfl,za u.gb (za (zf f _) C)⟩
  have J2 := zb L; have K2 : Hid (JK r v w w2 K) := (JK.grown (zf f _)).trans M; clear L M; go_wp2_with fail
  go_ret
  exact .inr ⟨_,K,y.trans (zH (by rw [zi (t := (.mk 23 x m p d)) (k := 23) rfl,z]; exact (Bool.true_and _).trans (yy (n := 1) j))),rfl,J2,K2⟩
theorem ow (w0 : World) (jb lb ob : Nat) (w : World) (l : List (T × Rule)) (v : Value) (kd : Int) (x : Bs) (m p : Int) (ts : List T) (sv : Value) (h : JS w0 jb lb ob w l v) (_hlen : l.length + ts.length <= 20000) (hf : Fits (.mk kd x m p ts)) (ha : AT w0 (T.mk kd x m p ts).subs sv) (h14 : ¬ kd = 14) (h15 : ¬ kd = 15) (h16 : ¬ kd = 16) (h17 : ¬ kd = 17) (h18 : ¬ kd = 18) (h19 : ¬ kd = 19) (h20 : ¬ kd = 20) (h21 : ¬ kd = 21) (h22 : ¬ kd = 22) (h23 : ¬ kd = 23) :
  Calls Tryz.prog 114 #[ptr jb,.agg #[.int .i64 kd,.string ⟨x.toArray⟩,.int .i64 m,.int .i64 p,sv]] w (JR w0 jb lb ob l v w .act (.mk kd x m p ts)) := by
 have t := zb h; have C := zb hf; have D := zb ha; have A := h.lt
 have E : Hid (∀ b,v.ownBlock = some b -> b < w.heap.size) := fun b hb => (h.room hb).2
 obtain ⟨a,n,c,rfl,_,_,u⟩ := ha.any
 change ts.length = n at u
 subst u
 have y : Hid (zw .act (.mk kd x m p ts) = none) := by show _ = _; simp [zw,sX,T.kind,h14,h15,h16,h17,h18,h19,h20,h21,h22,h23]
 cases z : ((T.mk kd x m p ts).name.isEmpty && zM (.mk kd x m p ts) 0)
 ·skip
  clear h hf ha
  go_enter Tryz.func114,Tryz.ntmps114
  go_wp2_with fail; go_at_call 145; refine (zG (.mk kd x m p ts) _ 0 _ ⟨_,_,_,rfl⟩).mono ?_; rintro e B ⟨rfl,d⟩; rw [z]; have f := za gan d; have s := zb ((Box.new w (.mk kd x m p ts) (.slice a ts.length c) 24).kept d); obtain ⟨g,i,j,k,r⟩ := s.p
  clear d; go_wp2_with fail
  go_ret
  exact .inl ⟨y,rfl,za t.gb f⟩
 ·skip
  clear h hf ha
  go_enter Tryz.func114,Tryz.ntmps114
  go_wp2_with fail; go_at_call 145; refine (zG (.mk kd x m p ts) _ 0 _ ⟨_,_,_,rfl⟩).mono ?_; rintro e B ⟨rfl,d⟩; rw [z]; have f := za gan d; have s := zb ((Box.new w (.mk kd x m p ts) (.slice a ts.length c) 24).kept d); obtain ⟨g,i,j,k,r⟩ := s.p
  clear d; go_wp2_with fail
  go_ret
  exact .inl ⟨y,rfl,za t.gb f⟩
end Go.Proofs.YtifapidjkelnfaaGreatDoor
