/- What comes of a made text: its tree,what is written of it,and what is read of that. -/
import Derived.Test.YtfjgelmllcnokaaGreatDoorG09
import Derived.Test.YtfjgelmllcnokaaGreatDoorG11
import Derived.Test.YtfjgelmllcnokaaGreatDoorG06
import Derived.Test.YtfjgelmllcnokaaGreatDoorG03
namespace Go.Proofs.YtfjgelmllcnokaaGreatDoor
mutual
theorem zc6 {t u : T} (h : Same t u) : yW t = yW u := by
 cases h with
 | mk h => rw [yW,yW,dr h]
theorem dr {l m : List T} (h : SameL l m) : jp l = jp m := by
 cases h with
 | nil => rfl
 | cons h hl => rw [jp,jp,zc6 h,dr hl]
end
mutual
theorem sV {t u : T} (h : Same t u) : zr t = zr u := by
 cases h with
 | mk h => rw [zr,zr,dP h]
theorem dP {l m : List T} (h : SameL l m) : zu l = zu m := by
 cases h with
 | nil => rfl
 | cons h hl => rw [zu,zu,sV h,dP hl]
end
mutual
theorem bJ {t u : T} (h : Same t u) (hs : smT t) : smT u := by
 cases h with
 | mk h =>
  rw [smT] at hs ⊢; rw [<- dr h]
  exact ⟨hs.1,fun hk => mD h (hs.2 hk)⟩
theorem mD {l m : List T} (h : SameL l m) (hs : smL l) : smL m := by
 cases h with
 | nil => exact hs
 | cons h hl => rw [smL] at hs ⊢; exact ⟨bJ h hs.1,mD hl hs.2⟩
end
theorem lE (n : Nat) (l : List (List UInt8 × List UInt8)) : (kD n l).map Prod.fst = l.map Prod.fst := by
 unfold kD
 rw [List.map_map]
 rfl
structure Good (t : T) : Prop where
 wf : WF .module t
 count : zr t <= 8002
 sm : smT t
theorem Good.depth {t : T} (h : Good t) : zA t <= 8002 := Nat.le_trans (lZ t) h.count
theorem Good.len {t : T} (h : Good t) : (zP 8900 t).length <= 900000000 := by
 have := co 8900 (by omega) h.wf.1; have := h.count
 omega
theorem Good.well {t : T} (h : Good t) : jY .module t = true := qx.2 h.wf.1
theorem zd0 {x : W8} (hg : Gd x 20) (hx : x.length <= 4000) {l : List (List UInt8 × List UInt8)} (hl : jm x = .ok l) {t : T} {j : Nat} (hw : vr (kD x.length l) 0 = .ok (t,j)) :
  Good t /\ ∃ l2,jm (zP 8900 t) = .ok l2 /\ ∀ L' : List Tok,L'.map Prod.fst = l2.map Prod.fst -> ∃ u j,vr L' 0 = .ok (u,j) /\ Same t u /\ zP 8900 u = zP 8900 t /\ ((zP 8900 t).length <= 4000 -> Good u) := by
 obtain ⟨F,o,z⟩ := hg.seg; rw [hl] at o; cases o; have r := lE x.length l; have s := z _ r; have e := bw hl r; have b := lh s e hw; have g := ns e hw b; have A := (qY _ _ _ (Nat.lt_succ_self _) hl).2; have h := mz hw; rw [kt] at h; have v : Good t := ⟨zfr g,by omega,b⟩; obtain ⟨l2,i,B⟩ := cg s e hw (f := 8900) (by have := v.depth; omega); refine ⟨v,l2,i,fun L' hL => ?_⟩; obtain ⟨u,j,m,w,C⟩ := B L' hL; refine ⟨u,j,m,w,C,fun h4 => ?_⟩; have n := bw i hL; have d := bJ w b; have D := mz m
 have y : L'.length = l2.length := by have := congrArg List.length hL; simpa using this
 have E := (qY _ _ _ (Nat.lt_succ_self _) i).2
 exact ⟨zfr (ns n m d),by omega,d⟩
end Go.Proofs.YtfjgelmllcnokaaGreatDoor
