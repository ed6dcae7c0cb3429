/- The law PrintSays: its one call answers true,whatever the tree,and memory that was there stays as it was. -/
import Derived.Test.YtifapidjkelnfaaGreatDoorG30
import Derived.Test.YtifapidjkelnfaaGreatDoorG02
import Derived.Test.YtifapidjkelnfaaGreatDoorG42
import Derived.Test.YtifapidjkelnfaaGreatDoorG44
import Derived.Test.YtifapidjkelnfaaGreatDoorG45
namespace Go.Proofs.YtifapidjkelnfaaGreatDoor
open Go.RowKit
set_option maxHeartbeats 2000000
set_option maxRecDepth 100000
theorem xQ {w w' : World} (hg : w.grownBy w' none) : Below w.heap.size w w' := ⟨hg.os,hg.tape,hg.output,hg.size,fun i hi => hg.block i hi (by simp)⟩
theorem uF {w w' : World} (hb : Below w.heap.size w w') : w.grownBy w' none := ⟨hb.os,hb.tape,hb.output,hb.size,fun i hi _ => hb.block i hi⟩
theorem jz (n : Int) (w : World) : Calls Tryz.prog 18 #[.int .i64 n] w (Sy w (.agg #[.int .i64 n,.int .i64 (-1),.int .i64 (-1)])) := by
 go_enter Tryz.func18,Tryz.ntmps18
 go_wp2; refine bodyPost_ret (v := .agg #[.int .i64 n,.int .i64 (-1),.int .i64 (-1)]) (by simp [results,Tryz.results18,go_sem]) rfl ⟨rfl,gan⟩
theorem xZ {t : T} (h : vS t = false) : zn t <= 3000 /\ zS t <= 60 := by
 unfold vS at h
 rw [decide_eq_false_iff_not] at h
 omega
theorem pY (t : T) (sv : Value) (w : World) (hfit : Fits t) (ha : AT w t.subs sv) (hk : KW w) (htab : Lib.TabIs Tryz.prog w "strings.asciiSpace" .u8 Lib.asciiSpaceTab) (hp : PT w) (he : HasErr w) :
  Calls Tryz.prog 5 #[zq t sv] w fun e w' => e = .returned (.bool true) /\ Below w.heap.size w w' := by
 have I : Hid (∀ w',w.grownBy w' none -> Calls Tryz.prog 13 #[zq t sv] w' (Sy w' (.bool (vS t)))) := fun w' hg => dS t sv w' (ha.kept hg)
 have J : Hid (∀ w',w.grownBy w' none -> Calls Tryz.prog 14 #[zq t sv] w' (Sy w' (.bool (zh .module t)))) := fun w' hg => qY t sv w' (hk.kept hg) hfit (ha.kept hg)
 have K : Hid (∀ w',w.grownBy w' none -> vS t = false -> zh .module t = true -> Calls Tryz.prog 15 #[zq t sv] w' (Sy w' (.string ⟨(yw 60 t).toArray⟩))) := fun w' hg h1 h2 => tg 60 (by omega) (xf.1 h2) (xZ h1).2 (xZ h1).1 w' sv (ha.kept hg)
 have C : Hid (vS t = false -> zh .module t = true -> (yw 60 t).length <= 9000000) := fun h1 h2 => by have := tV 60 (by omega) (xf.1 h2); have := (xZ h1).1; omega
 have u : Hid (∀ w',w.grownBy w' none -> vS t = false -> Calls Tryz.prog 16 #[zq t sv] w' (Sy w' (jF t 60))) := fun w' hg h1 => nC t sv w' 60 (by omega) hfit (ha.kept hg) (xZ h1).1 (xZ h1).2 (va htab (xQ hg)) (hp.kept hg) (fun h2 => by have := id C h1 h2; omega)
 have D : Hid (∀ w',w.grownBy w' none -> HasErr w') := fun w' hg => he.grown hg (fun k h => by cases h)
 obtain ⟨i,x,m,p,l⟩ := t; obtain ⟨a,n,c,rfl,_,_,_⟩ := ha.any; have B0 : Hid (Box (w.alloc (.cells #[.int .i64 i,.string ⟨x.toArray⟩,.int .i64 m,.int .i64 p,.slice a n c] 24)) w.heap.size (.mk i x m p l) (.slice a n c)) := Box.new w (.mk i x m p l) (.slice a n c) 24; clear hfit ha hk htab hp he
 go_enter Tryz.func5,Tryz.ntmps5
 go_wp2_with fail; go_at_call 13; refine (I _ gan).mono ?_; rintro e w1 ⟨rfl,v⟩; have L := za gan v; have O := B0.kept v; obtain ⟨Q,R,U,V,X⟩ := id O; clear v; cases d : vS (.mk i x m p l)
 case true =>
  go_wp2
  go_ret
  exact ⟨rfl,xQ L⟩
 case false =>
 go_wp2_with fail; go_at_call 14; refine (J _ L).mono ?_; rintro e w2 ⟨rfl,y⟩; have H := za L y; have Z := O.kept (za grn y); obtain ⟨c0,c1,c2,c3,c4⟩ := id Z; clear y Q R U V X; cases b : zh .module (.mk i x m p l)
 case false =>
  have E : jF (.mk i x m p l) 60 = .tuple #[.string ⟨#[]⟩,mt 10] := by unfold jF; rw [if_neg (by rw [b]; simp)]
  go_wp2_with fail; go_at_call 16; refine (u _ H d).mono ?_; rintro e w3 ⟨F,g⟩; rw [E] at F; subst F; have z := za H g; clear g; go_wp2_with fail; go_at_call 18; refine (jz 10 _).mono ?_; rintro e w4 ⟨rfl,f⟩; have A := za z f; clear f; go_wp2_with fail; go_at_call 17; refine (hH 10 _ (D _ A)).mono ?_; rintro e w5 ⟨rfl,G⟩; have B := za A (uF G); clear G; go_wp2
  go_ret
  exact ⟨rfl,xQ B⟩
 case true =>
 have a0 := id C d b; go_wp2_with fail; go_at_call 15; refine (K _ H d b).mono ?_; rintro e w3 ⟨rfl,g⟩; have z := za H g; have B3 := Z.kept (za grn g); obtain ⟨Q,R,U,V,X⟩ := id B3; clear g c0 c1 c2 c3 c4
 by_cases h4 : 4000 < (yw 60 (.mk i x m p l)).length
 ·have E : jF (.mk i x m p l) 60 = .tuple #[.string ⟨#[]⟩,mt 3] := by unfold jF; rw [if_pos b,if_pos h4]
  generalize yw 60 (.mk i x m p l) = Y at *
  have M : (4000 : Int) < (Y.length : Int) := by omega
  go_wp2_with fail; go_at_call 16; refine (u _ z d).mono ?_; rintro e w4 ⟨j,f⟩; rw [E] at j; subst j; have A := za z f; clear f; go_wp2_with fail; go_at_call 18; refine (jz 3 _).mono ?_; rintro e w5 ⟨rfl,r⟩; have B := za A r; clear r; go_wp2_with fail; go_at_call 17; refine (hH 3 _ (D _ B)).mono ?_; rintro e w6 ⟨rfl,s⟩; have N := za B (uF s); clear s; go_wp2
  go_ret
  exact ⟨rfl,xQ N⟩
 ·have E : jF (.mk i x m p l) 60 = .tuple #[.string ⟨(yw 60 (.mk i x m p l)).toArray⟩,.nilIface] := by unfold jF; rw [if_pos b,if_neg h4]
  generalize yw 60 (.mk i x m p l) = Y at *
  have M : ¬ (4000 : Int) < (Y.length : Int) := by omega
  go_wp2_with fail; go_at_call 16; refine (u _ z d).mono ?_; rintro e w4 ⟨j,f⟩; rw [E] at j; subst j; have A := za z f; clear f; go_wp2_with fail; go_at_call 18; refine (jz 0 _).mono ?_; rintro e w5 ⟨rfl,r⟩; have B := za A r; clear r; go_wp2_with fail; go_at_call 17; refine (iR _).mono ?_; rintro e w6 ⟨rfl,s⟩; have N := za B (uF s); clear s; go_wp2
  go_ret
  exact ⟨rfl,xQ N⟩
end Go.Proofs.YtifapidjkelnfaaGreatDoor
