/- The program's judge of shapes: rules,kind by kind. -/
import Derived.Test.YtifapidjkelnfaaGreatDoorG02
namespace Go.Proofs.YtifapidjkelnfaaGreatDoor
open Go.RowKit Go.Maps Go.WideMaps Go.WideElems
set_option maxHeartbeats 2000000
set_option maxRecDepth 1000000
theorem cO : JC 110 .expression 29 := by
 intro M r N O w l v x m p d sv h i C s
 have u := zb h; have HF := zb C; have Q := zb s; have R := h.lt
 have HV : Hid (∀ b,v.ownBlock = some b -> b < w.heap.size) := fun b hb => (h.room hb).2
 obtain ⟨a,n,c,rfl,_,_,D⟩ := s.any
 change d.length = n at D
 subst D
 have y : Hid (zw .expression (.mk 29 x m p d) = zt (zk (.mk 29 x m p d) 29 false vg 0) (zJ d [])) := by rw [vO]; rfl
 clear h C s
 go_enter Tryz.func110,Tryz.ntmps110
 go_wp2_with fail; go_at_call 145; refine (zG (.mk 29 x m p d) _ vg _ ⟨_,_,_,rfl⟩).mono ?_; rintro e U ⟨rfl,g⟩; have f := za gan g; have V := zb ((Box.new w (.mk 29 x m p d) (.slice a d.length c) 24).kept g); obtain ⟨E,F,G,H,I⟩ := V.p
 cases z : ((T.mk 29 x m p d).name.isEmpty && zM (.mk 29 x m p d) vg)
 ·clear g; go_wp2_with fail
  go_ret
  exact .inl ⟨y.trans (zm (by rw [zi (t := (.mk 29 x m p d)) (k := 29) rfl,z]; rfl)),rfl,za u.gb f⟩
 ·clear g; have X := f.size
  have Y : r < U.heap.size := by omega
  go_wp2_with fail; go_at_call 106; refine (ya M r N O _ l v (.mk 29 x m p d) _ [] _ (u.grown f) i (by decide) Q (.inl ⟨rfl,rfl⟩)).mono ?_; rintro e Z (⟨A,rfl,B⟩ | ⟨j,J,rfl,K,L⟩)
  ·go_wp2_with fail
   go_ret
   exact .inl ⟨y.trans (zm (by rw [zi (t := (.mk 29 x m p d)) (k := 29) rfl,z]; exact (Bool.true_and _).trans (yT (n := 0) A))),rfl,za u.gb (za f B)⟩
  have J2 := zb K; have K2 : Hid (JK r v w Z J) := (JK.grown f).trans L; clear K L; go_wp2_with fail
  go_ret
  exact .inr ⟨_,J,y.trans (zH (by rw [zi (t := (.mk 29 x m p d)) (k := 29) rfl,z]; exact (Bool.true_and _).trans (yy (n := 0) j))),rfl,J2,K2⟩
theorem iQ : JC 110 .expression 30 := by
 intro M r N O w l v x m p d sv h i C s
 have u := zb h; have HF := zb C; have Q := zb s; have R := h.lt
 have HV : Hid (∀ b,v.ownBlock = some b -> b < w.heap.size) := fun b hb => (h.room hb).2
 obtain ⟨a,n,c,rfl,_,_,D⟩ := s.any
 change d.length = n at D
 subst D
 have y : Hid (zw .expression (.mk 30 x m p d) = zt (zk (.mk 30 x m p d) 30 false 0 0) (zJ d [])) := by rw [vO]; rfl
 clear h C s
 go_enter Tryz.func110,Tryz.ntmps110
 go_wp2_with fail; go_at_call 145; refine (zG (.mk 30 x m p d) _ 0 _ ⟨_,_,_,rfl⟩).mono ?_; rintro e U ⟨rfl,g⟩; have f := za gan g; have V := zb ((Box.new w (.mk 30 x m p d) (.slice a d.length c) 24).kept g); obtain ⟨E,F,G,H,I⟩ := V.p
 cases z : ((T.mk 30 x m p d).name.isEmpty && zM (.mk 30 x m p d) 0)
 ·clear g; go_wp2_with fail
  go_ret
  exact .inl ⟨y.trans (zm (by rw [zi (t := (.mk 30 x m p d)) (k := 30) rfl,z]; rfl)),rfl,za u.gb f⟩
 ·clear g; have X := f.size
  have Y : r < U.heap.size := by omega
  go_wp2_with fail; go_at_call 106; refine (ya M r N O _ l v (.mk 30 x m p d) _ [] _ (u.grown f) i (by decide) Q (.inl ⟨rfl,rfl⟩)).mono ?_; rintro e Z (⟨A,rfl,B⟩ | ⟨j,J,rfl,K,L⟩)
  ·go_wp2_with fail
   go_ret
   exact .inl ⟨y.trans (zm (by rw [zi (t := (.mk 30 x m p d)) (k := 30) rfl,z]; exact (Bool.true_and _).trans (yT (n := 0) A))),rfl,za u.gb (za f B)⟩
  have J2 := zb K; have K2 : Hid (JK r v w Z J) := (JK.grown f).trans L; clear K L; go_wp2_with fail
  go_ret
  exact .inr ⟨_,J,y.trans (zH (by rw [zi (t := (.mk 30 x m p d)) (k := 30) rfl,z]; exact (Bool.true_and _).trans (yy (n := 0) j))),rfl,J2,K2⟩
theorem ij : JC 110 .expression 31 := by
 intro M r N O w l v x m p d sv h i C s
 have u := zb h; have HF := zb C; have Q := zb s; have R := h.lt
 have HV : Hid (∀ b,v.ownBlock = some b -> b < w.heap.size) := fun b hb => (h.room hb).2
 obtain ⟨a,n,c,rfl,_,_,D⟩ := s.any
 change d.length = n at D
 subst D
 have y : Hid (zw .expression (.mk 31 x m p d) = zt (zk (.mk 31 x m p d) 31 false 0 0) (zJ d [])) := by rw [vO]; rfl
 clear h C s
 go_enter Tryz.func110,Tryz.ntmps110
 go_wp2_with fail; go_at_call 145; refine (zG (.mk 31 x m p d) _ 0 _ ⟨_,_,_,rfl⟩).mono ?_; rintro e U ⟨rfl,g⟩; have f := za gan g; have V := zb ((Box.new w (.mk 31 x m p d) (.slice a d.length c) 24).kept g); obtain ⟨E,F,G,H,I⟩ := V.p
 cases z : ((T.mk 31 x m p d).name.isEmpty && zM (.mk 31 x m p d) 0)
 ·clear g; go_wp2_with fail
  go_ret
  exact .inl ⟨y.trans (zm (by rw [zi (t := (.mk 31 x m p d)) (k := 31) rfl,z]; rfl)),rfl,za u.gb f⟩
 ·clear g; have X := f.size
  have Y : r < U.heap.size := by omega
  go_wp2_with fail; go_at_call 106; refine (ya M r N O _ l v (.mk 31 x m p d) _ [] _ (u.grown f) i (by decide) Q (.inl ⟨rfl,rfl⟩)).mono ?_; rintro e Z (⟨A,rfl,B⟩ | ⟨j,J,rfl,K,L⟩)
  ·go_wp2_with fail
   go_ret
   exact .inl ⟨y.trans (zm (by rw [zi (t := (.mk 31 x m p d)) (k := 31) rfl,z]; exact (Bool.true_and _).trans (yT (n := 0) A))),rfl,za u.gb (za f B)⟩
  have J2 := zb K; have K2 : Hid (JK r v w Z J) := (JK.grown f).trans L; clear K L; go_wp2_with fail
  go_ret
  exact .inr ⟨_,J,y.trans (zH (by rw [zi (t := (.mk 31 x m p d)) (k := 31) rfl,z]; exact (Bool.true_and _).trans (yy (n := 0) j))),rfl,J2,K2⟩
theorem iI : JC 110 .expression 32 := by
 intro M r N O w l v x m p d sv h i C s
 have u := zb h; have HF := zb C; have Q := zb s; have R := h.lt
 have HV : Hid (∀ b,v.ownBlock = some b -> b < w.heap.size) := fun b hb => (h.room hb).2
 obtain ⟨a,n,c,rfl,_,_,D⟩ := s.any
 change d.length = n at D
 subst D
 have y : Hid (zw .expression (.mk 32 x m p d) = zt (zk (.mk 32 x m p d) 32 false 0 0) (zJ d [])) := by rw [vO]; rfl
 clear h C s
 go_enter Tryz.func110,Tryz.ntmps110
 go_wp2_with fail; go_at_call 145; refine (zG (.mk 32 x m p d) _ 0 _ ⟨_,_,_,rfl⟩).mono ?_; rintro e U ⟨rfl,g⟩; have f := za gan g; have V := zb ((Box.new w (.mk 32 x m p d) (.slice a d.length c) 24).kept g); obtain ⟨E,F,G,H,I⟩ := V.p
 cases z : ((T.mk 32 x m p d).name.isEmpty && zM (.mk 32 x m p d) 0)
 ·clear g; go_wp2_with fail
  go_ret
  exact .inl ⟨y.trans (zm (by rw [zi (t := (.mk 32 x m p d)) (k := 32) rfl,z]; rfl)),rfl,za u.gb f⟩
 ·clear g; have X := f.size
  have Y : r < U.heap.size := by omega
  go_wp2_with fail; go_at_call 106; refine (ya M r N O _ l v (.mk 32 x m p d) _ [] _ (u.grown f) i (by decide) Q (.inl ⟨rfl,rfl⟩)).mono ?_; rintro e Z (⟨A,rfl,B⟩ | ⟨j,J,rfl,K,L⟩)
  ·go_wp2_with fail
   go_ret
   exact .inl ⟨y.trans (zm (by rw [zi (t := (.mk 32 x m p d)) (k := 32) rfl,z]; exact (Bool.true_and _).trans (yT (n := 0) A))),rfl,za u.gb (za f B)⟩
  have J2 := zb K; have K2 : Hid (JK r v w Z J) := (JK.grown f).trans L; clear K L; go_wp2_with fail
  go_ret
  exact .inr ⟨_,J,y.trans (zH (by rw [zi (t := (.mk 32 x m p d)) (k := 32) rfl,z]; exact (Bool.true_and _).trans (yy (n := 0) j))),rfl,J2,K2⟩
theorem iZ : JC 110 .expression 33 := by
 intro M s N O w l v x m p d sv h i B u
 have y := zb h; have HF := zb B; have Q := zb u; have R := h.lt
 have HV : Hid (∀ b,v.ownBlock = some b -> b < w.heap.size) := fun b hb => (h.room hb).2
 obtain ⟨a,n,c,rfl,_,_,C⟩ := u.any
 change d.length = n at C
 subst C
 have z : Hid (zw .expression (.mk 33 x m p d) = zt (zk (.mk 33 x m p d) 33 false 0 (-1) && decide (0 < d.length)) (yQ (.mk 33 x m p d) .designator .expression)) := rfl
 clear h B u
 go_enter Tryz.func110,Tryz.ntmps110
 go_wp2_with fail; go_at_call 145; refine (zG (.mk 33 x m p d) _ 0 _ ⟨_,_,_,rfl⟩).mono ?_; rintro e U ⟨rfl,g⟩; have f := za gan g; have V := zb ((Box.new w (.mk 33 x m p d) (.slice a d.length c) 24).kept g); obtain ⟨D,E,F,G,H⟩ := V.p
 cases I : ((T.mk 33 x m p d).name.isEmpty && zM (.mk 33 x m p d) 0)
 ·clear g; go_wp2_with fail
  go_ret
  exact .inl ⟨z.trans (zm (by rw [zi (t := (.mk 33 x m p d)) (k := 33) rfl,I]; rfl)),rfl,za y.gb f⟩
 ·clear g; have X := f.size
  have Y : s < U.heap.size := by omega
  go_wp2_with fail; go_at_call 148; refine (jW M s N O _ l v (.mk 33 x m p d) _ .designator .expression _ _ (y.grown f) i Q (.meth .designator _ rfl) (.meth .expression _ rfl)).mono ?_; rintro e Z (⟨j,rfl,A⟩ | ⟨r,J,rfl,K,L⟩)
  ·go_wp2_with fail
   go_ret
   exact .inl ⟨z.trans (zm (by change d = [] at j; subst j; simp)),rfl,za y.gb (za f A)⟩
  have J2 := zb K; have K2 : Hid (JK s v w Z J) := (JK.grown f).trans L; clear K L; go_wp2_with fail
  go_ret
  exact .inr ⟨_,J,z.trans (zH (by rw [zi (t := (.mk 33 x m p d)) (k := 33) rfl,I]; simpa [T.subs] using r)),rfl,J2,K2⟩
theorem ik : JC 110 .expression 34 := by
 intro N r O Q w l v x m p d sv h i D s
 have u := zb h; have HF := zb D; have R := zb s; have U := h.lt
 have V : Hid (∀ b,v.ownBlock = some b -> b < w.heap.size) := fun b hb => (h.room hb).2
 obtain ⟨a,n,c,rfl,_,_,E⟩ := s.any
 change d.length = n at E
 subst E
 have y : Hid (zw .expression (.mk 34 x m p d) = zt (zk (.mk 34 x m p d) 34 false 0 1) (zJ d [.expression])) := rfl
 clear h D s
 go_enter Tryz.func110,Tryz.ntmps110
 go_wp2_with fail; go_at_call 145; refine (zG (.mk 34 x m p d) _ 0 _ ⟨_,_,_,rfl⟩).mono ?_; rintro e X ⟨rfl,g⟩; have f := za gan g; have Y := zb ((Box.new w (.mk 34 x m p d) (.slice a d.length c) 24).kept g); obtain ⟨F,G,H,I,J⟩ := Y.p
 cases z : ((T.mk 34 x m p d).name.isEmpty && zM (.mk 34 x m p d) 0)
 ·clear g; go_wp2_with fail
  go_ret
  exact .inl ⟨y.trans (zm (by rw [zi (t := (.mk 34 x m p d)) (k := 34) rfl,z]; rfl)),rfl,za u.gb f⟩
 ·clear g; have Z := f.size
  have A : r < X.heap.size := by omega
  go_wp2_with fail; go_at_call 106; refine (ya N r O Q _ l v (.mk 34 x m p d) _ [.expression] _ (u.grown (zf f _)) i (by decide) R (RL.new1 _ _ (.meth .expression _ rfl) (by simpa using A) (fun b hb => by have := id V b hb; omega))).mono ?_; rintro e w2 (⟨B,rfl,C⟩ | ⟨j,K,rfl,L,M⟩)
  ·go_wp2_with fail
   go_ret
   exact .inl ⟨y.trans (zm (by rw [zi (t := (.mk 34 x m p d)) (k := 34) rfl,z]; exact (Bool.true_and _).trans (yT (n := 1) B))),rfl,za u.gb (za (zf f _) C)⟩
  have J2 := zb L; have K2 : Hid (JK r v w w2 K) := (JK.grown (zf f _)).trans M; clear L M; go_wp2_with fail
  go_ret
  exact .inr ⟨_,K,y.trans (zH (by rw [zi (t := (.mk 34 x m p d)) (k := 34) rfl,z]; exact (Bool.true_and _).trans (yy (n := 1) j))),rfl,J2,K2⟩
theorem im : JC 110 .expression 35 := by
 intro N r O Q w l v x m p d sv h i D s
 have u := zb h; have HF := zb D; have R := zb s; have U := h.lt
 have V : Hid (∀ b,v.ownBlock = some b -> b < w.heap.size) := fun b hb => (h.room hb).2
 obtain ⟨a,n,c,rfl,_,_,E⟩ := s.any
 change d.length = n at E
 subst E
 have y : Hid (zw .expression (.mk 35 x m p d) = zt (zk (.mk 35 x m p d) 35 false 0 1) (zJ d [.expression])) := rfl
 clear h D s
 go_enter Tryz.func110,Tryz.ntmps110
 go_wp2_with fail; go_at_call 145; refine (zG (.mk 35 x m p d) _ 0 _ ⟨_,_,_,rfl⟩).mono ?_; rintro e X ⟨rfl,g⟩; have f := za gan g; have Y := zb ((Box.new w (.mk 35 x m p d) (.slice a d.length c) 24).kept g); obtain ⟨F,G,H,I,J⟩ := Y.p
 cases z : ((T.mk 35 x m p d).name.isEmpty && zM (.mk 35 x m p d) 0)
 ·clear g; go_wp2_with fail
  go_ret
  exact .inl ⟨y.trans (zm (by rw [zi (t := (.mk 35 x m p d)) (k := 35) rfl,z]; rfl)),rfl,za u.gb f⟩
 ·clear g; have Z := f.size
  have A : r < X.heap.size := by omega
  go_wp2_with fail; go_at_call 106; refine (ya N r O Q _ l v (.mk 35 x m p d) _ [.expression] _ (u.grown (zf f _)) i (by decide) R (RL.new1 _ _ (.meth .expression _ rfl) (by simpa using A) (fun b hb => by have := id V b hb; omega))).mono ?_; rintro e w2 (⟨B,rfl,C⟩ | ⟨j,K,rfl,L,M⟩)
  ·go_wp2_with fail
   go_ret
   exact .inl ⟨y.trans (zm (by rw [zi (t := (.mk 35 x m p d)) (k := 35) rfl,z]; exact (Bool.true_and _).trans (yT (n := 1) B))),rfl,za u.gb (za (zf f _) C)⟩
  have J2 := zb L; have K2 : Hid (JK r v w w2 K) := (JK.grown (zf f _)).trans M; clear L M; go_wp2_with fail
  go_ret
  exact .inr ⟨_,K,y.trans (zH (by rw [zi (t := (.mk 35 x m p d)) (k := 35) rfl,z]; exact (Bool.true_and _).trans (yy (n := 1) j))),rfl,J2,K2⟩
theorem iN : JC 110 .expression 37 := by
 intro N r O Q w l v x m p d sv h i D s
 have u := zb h; have HF := zb D; have R := zb s; have U := h.lt
 have V : Hid (∀ b,v.ownBlock = some b -> b < w.heap.size) := fun b hb => (h.room hb).2
 obtain ⟨a,n,c,rfl,_,_,E⟩ := s.any
 change d.length = n at E
 subst E
 have y : Hid (zw .expression (.mk 37 x m p d) = zt (zk (.mk 37 x m p d) 37 false 0 2) (zJ d [.expression,.typeName])) := rfl
 clear h D s
 go_enter Tryz.func110,Tryz.ntmps110
 go_wp2_with fail; go_at_call 145; refine (zG (.mk 37 x m p d) _ 0 _ ⟨_,_,_,rfl⟩).mono ?_; rintro e X ⟨rfl,g⟩; have f := za gan g; have Y := zb ((Box.new w (.mk 37 x m p d) (.slice a d.length c) 24).kept g); obtain ⟨F,G,H,I,J⟩ := Y.p
 cases z : ((T.mk 37 x m p d).name.isEmpty && zM (.mk 37 x m p d) 0)
 ·clear g; go_wp2_with fail
  go_ret
  exact .inl ⟨y.trans (zm (by rw [zi (t := (.mk 37 x m p d)) (k := 37) rfl,z]; rfl)),rfl,za u.gb f⟩
 ·clear g; have Z := f.size
  have A : r < X.heap.size := by omega
  go_wp2_with fail; go_at_call 106; refine (ya N r O Q _ l v (.mk 37 x m p d) _ [.expression,.typeName] _ (u.grown (zf f _)) i (by decide) R (RL.new2 _ _ (.meth .expression _ rfl) (.meth .typeName _ rfl) (by simpa using A) (fun b hb => by have := id V b hb; omega))).mono ?_; rintro e w2 (⟨B,rfl,C⟩ | ⟨j,K,rfl,L,M⟩)
  ·go_wp2_with fail
   go_ret
   exact .inl ⟨y.trans (zm (by rw [zi (t := (.mk 37 x m p d)) (k := 37) rfl,z]; exact (Bool.true_and _).trans (yT (n := 2) B))),rfl,za u.gb (za (zf f _) C)⟩
  have J2 := zb L; have K2 : Hid (JK r v w w2 K) := (JK.grown (zf f _)).trans M; clear L M; go_wp2_with fail
  go_ret
  exact .inr ⟨_,K,y.trans (zH (by rw [zi (t := (.mk 37 x m p d)) (k := 37) rfl,z]; exact (Bool.true_and _).trans (yy (n := 2) j))),rfl,J2,K2⟩
theorem aK : JC 111 .typeItself 9 := by
 intro N r O Q w l v x m p d sv h i D s
 have u := zb h; have HF := zb D; have R := zb s; have U := h.lt
 have V : Hid (∀ b,v.ownBlock = some b -> b < w.heap.size) := fun b hb => (h.room hb).2
 obtain ⟨a,n,c,rfl,_,_,E⟩ := s.any
 change d.length = n at E
 subst E
 have y : Hid (zw .typeItself (.mk 9 x m p d) = zt (zk (.mk 9 x m p d) 9 false vg 1) (zJ d [.typeName])) := rfl
 clear h D s
 go_enter Tryz.func111,Tryz.ntmps111
 go_wp2_with fail; go_at_call 145; refine (zG (.mk 9 x m p d) _ vg _ ⟨_,_,_,rfl⟩).mono ?_; rintro e X ⟨rfl,g⟩; have f := za gan g; have Y := zb ((Box.new w (.mk 9 x m p d) (.slice a d.length c) 24).kept g); obtain ⟨F,G,H,I,J⟩ := Y.p
 cases z : ((T.mk 9 x m p d).name.isEmpty && zM (.mk 9 x m p d) vg)
 ·clear g; go_wp2_with fail
  go_ret
  exact .inl ⟨y.trans (zm (by rw [zi (t := (.mk 9 x m p d)) (k := 9) rfl,z]; rfl)),rfl,za u.gb f⟩
 ·clear g; have Z := f.size
  have A : r < X.heap.size := by omega
  go_wp2_with fail; go_at_call 106; refine (ya N r O Q _ l v (.mk 9 x m p d) _ [.typeName] _ (u.grown (zf f _)) i (by decide) R (RL.new1 _ _ (.meth .typeName _ rfl) (by simpa using A) (fun b hb => by have := id V b hb; omega))).mono ?_; rintro e w2 (⟨B,rfl,C⟩ | ⟨j,K,rfl,L,M⟩)
  ·go_wp2_with fail
   go_ret
   exact .inl ⟨y.trans (zm (by rw [zi (t := (.mk 9 x m p d)) (k := 9) rfl,z]; exact (Bool.true_and _).trans (yT (n := 1) B))),rfl,za u.gb (za (zf f _) C)⟩
  have J2 := zb L; have K2 : Hid (JK r v w w2 K) := (JK.grown (zf f _)).trans M; clear L M; go_wp2_with fail
  go_ret
  exact .inr ⟨_,K,y.trans (zH (by rw [zi (t := (.mk 9 x m p d)) (k := 9) rfl,z]; exact (Bool.true_and _).trans (yy (n := 1) j))),rfl,J2,K2⟩
theorem bQ : JC 111 .typeItself 12 := by
 intro N r O Q w l v x m p d sv h i D s
 have u := zb h; have HF := zb D; have R := zb s; have U := h.lt
 have V : Hid (∀ b,v.ownBlock = some b -> b < w.heap.size) := fun b hb => (h.room hb).2
 obtain ⟨a,n,c,rfl,_,_,E⟩ := s.any
 change d.length = n at E
 subst E
 have y : Hid (zw .typeItself (.mk 12 x m p d) = zt (zk (.mk 12 x m p d) 12 false 0 1) (zJ d [.typeName])) := rfl
 clear h D s
 go_enter Tryz.func111,Tryz.ntmps111
 go_wp2_with fail; go_at_call 145; refine (zG (.mk 12 x m p d) _ 0 _ ⟨_,_,_,rfl⟩).mono ?_; rintro e X ⟨rfl,g⟩; have f := za gan g; have Y := zb ((Box.new w (.mk 12 x m p d) (.slice a d.length c) 24).kept g); obtain ⟨F,G,H,I,J⟩ := Y.p
 cases z : ((T.mk 12 x m p d).name.isEmpty && zM (.mk 12 x m p d) 0)
 ·clear g; go_wp2_with fail
  go_ret
  exact .inl ⟨y.trans (zm (by rw [zi (t := (.mk 12 x m p d)) (k := 12) rfl,z]; rfl)),rfl,za u.gb f⟩
 ·clear g; have Z := f.size
  have A : r < X.heap.size := by omega
  go_wp2_with fail; go_at_call 106; refine (ya N r O Q _ l v (.mk 12 x m p d) _ [.typeName] _ (u.grown (zf f _)) i (by decide) R (RL.new1 _ _ (.meth .typeName _ rfl) (by simpa using A) (fun b hb => by have := id V b hb; omega))).mono ?_; rintro e w2 (⟨B,rfl,C⟩ | ⟨j,K,rfl,L,M⟩)
  ·go_wp2_with fail
   go_ret
   exact .inl ⟨y.trans (zm (by rw [zi (t := (.mk 12 x m p d)) (k := 12) rfl,z]; exact (Bool.true_and _).trans (yT (n := 1) B))),rfl,za u.gb (za (zf f _) C)⟩
  have J2 := zb L; have K2 : Hid (JK r v w w2 K) := (JK.grown (zf f _)).trans M; clear L M; go_wp2_with fail
  go_ret
  exact .inr ⟨_,K,y.trans (zH (by rw [zi (t := (.mk 12 x m p d)) (k := 12) rfl,z]; exact (Bool.true_and _).trans (yy (n := 1) j))),rfl,J2,K2⟩
theorem zaw : JC 150 .typeNameOrNone 0 := by
 intro M r N O w l v x m p d sv h i C s
 have u := zb h; have HF := zb C; have Q := zb s; have R := h.lt
 have HV : Hid (∀ b,v.ownBlock = some b -> b < w.heap.size) := fun b hb => (h.room hb).2
 obtain ⟨a,n,c,rfl,_,_,D⟩ := s.any
 change d.length = n at D
 subst D
 have y : Hid (zw .typeNameOrNone (.mk 0 x m p d) = zt (zk (.mk 0 x m p d) 0 false 0 0) (zJ d [])) := by rw [vO]; rfl
 clear h C s
 go_enter Tryz.func150,Tryz.ntmps150
 go_wp2_with fail; go_at_call 145; refine (zG (.mk 0 x m p d) _ 0 _ ⟨_,_,_,rfl⟩).mono ?_; rintro e U ⟨rfl,g⟩; have f := za gan g; have V := zb ((Box.new w (.mk 0 x m p d) (.slice a d.length c) 24).kept g); obtain ⟨E,F,G,H,I⟩ := V.p
 cases z : ((T.mk 0 x m p d).name.isEmpty && zM (.mk 0 x m p d) 0)
 ·clear g; go_wp2_with fail
  go_ret
  exact .inl ⟨y.trans (zm (by rw [zi (t := (.mk 0 x m p d)) (k := 0) rfl,z]; rfl)),rfl,za u.gb f⟩
 ·clear g; have X := f.size
  have Y : r < U.heap.size := by omega
  go_wp2_with fail; go_at_call 106; refine (ya M r N O _ l v (.mk 0 x m p d) _ [] _ (u.grown f) i (by decide) Q (.inl ⟨rfl,rfl⟩)).mono ?_; rintro e Z (⟨A,rfl,B⟩ | ⟨j,J,rfl,K,L⟩)
  ·go_wp2_with fail
   go_ret
   exact .inl ⟨y.trans (zm (by rw [zi (t := (.mk 0 x m p d)) (k := 0) rfl,z]; exact (Bool.true_and _).trans (yT (n := 0) A))),rfl,za u.gb (za f B)⟩
  have J2 := zb K; have K2 : Hid (JK r v w Z J) := (JK.grown f).trans L; clear K L; go_wp2_with fail
  go_ret
  exact .inr ⟨_,J,y.trans (zH (by rw [zi (t := (.mk 0 x m p d)) (k := 0) rfl,z]; exact (Bool.true_and _).trans (yy (n := 0) j))),rfl,J2,K2⟩
end Go.Proofs.YtifapidjkelnfaaGreatDoor
