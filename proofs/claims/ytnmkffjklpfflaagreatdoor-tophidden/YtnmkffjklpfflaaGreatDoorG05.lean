/- What a lexicon says of a name; the two faces Kept and Name. -/
import Derived.Test.YtnmkffjklpfflaaGreatDoorG03
namespace Go.Proofs.YtnmkffjklpfflaaGreatDoor
open Go.RowKit Go.Maps Go.WideMaps Go.WideElems
set_option maxHeartbeats 1000000
set_option maxRecDepth 1000000
theorem td (b : Nat) (s : ByteArray) (w : World) (hs : s.size <= maxLen) (hx : IsLex w b) :
  Calls Tryz.prog 171 #[.agg #[.map (some b)],.string s] w fun e w' => e = .returned (.bool (yv s.data.toList)) /\ Below w.heap.size w w' := by
 by_cases h0 : s.size = 0
 ·have hemp : s.toList.isEmpty = true := by rw [gP]; simp [h0]
  have HN := ze (tX s h0); clear h0 hx
  go_enter Tryz.func171,Tryz.ntmps171
  go_wp2
  go_ret
  exact ⟨by rw [HN.out]; rfl,(Below.refl _ _).alloc (Nat.le_refl _) _⟩
 ·have hemp : s.toList.isEmpty = false := by rw [gP]; simp [h0]
  by_cases h12 : 12 < s.size
  ·have HN := ze (rm s h12)
   clear h0 hx
   unfold maxLen at hs
   go_enter Tryz.func171,Tryz.ntmps171
   go_wp2
   go_ret
   exact ⟨by rw [HN.out]; rfl,(Below.refl _ _).alloc (Nat.le_refl _) _⟩
  ·have h1 : 1 <= s.size := by omega
   have h13 : s.size <= 12 := by omega
   have HX := ze hx; clear h0 h12 hx
   go_enter Tryz.func171,Tryz.ntmps171
   go_wp2
   go_loopw [6] (fun _ wr => ∃ k : Nat,wr = (w.alloc (.cells #[.map (some b)] 123)).iter s k /\ k <= s.size /\ Hid (0 < k -> ∀ h : 0 < s.size,zE (s[0]'h).toNat = true) /\ Hid (∀ (j : Nat) (h : j < s.size),j < k -> lod (s[j]'h).toNat = true)) (fun _ wr => s.size - wr.iterPos (w.alloc (.cells #[.map (some b)] 123)).heap.size)
   case atStart => exact ⟨0,rfl,Nat.zero_le _,fun h => by omega,fun j h hj => by omega⟩
   case round =>
    obtain ⟨k,rfl,_,HL,HB⟩ := hrel
    have hsz : (w.alloc (.cells #[.map (some b)] 123)).heap.size = w.heap.size + 1 := by simp
    by_cases hlt : k < s.size
    ·have hnx : ∀ ty,(Instr.next (.pointer (some ⟨(w.alloc (.cells #[.map (some b)] 123)).heap.size,0,none⟩)) true ty).run Tryz.prog ((w.alloc (.cells #[.map (some b)] 123)).iter s k) = _ := fun ty => run_next_any (w.alloc (.cells #[.map (some b)] 123)) s k ty hlt
     rw [hsz] at hnx
     have hlast : ∀ w',Below w.heap.size w ((w.alloc (.cells #[.map (some b)] 123)).iter s w') := fun w' => ((Below.refl _ _).alloc (Nat.le_refl _) _).alloc (by simp) _
     have HLa := ze hlast; clear hlast hsz
     have hdec : zE (Utf8.decode s k).1 = zE (s[k]'hlt).toNat /\ zA (Utf8.decode s k).1 = zA (s[k]'hlt).toNat := by
      by_cases ha : (s[k]'hlt).toNat < 128
      ·rw [decode_ascii s k hlt ha]; exact ⟨rfl,rfl⟩
      ·have hd := (decode_high s k hlt (by omega)).1
       have f1 : ∀ n : Int,128 <= n -> zE n = false := fun n hn => by simp [zE]; omega
       exact ⟨by rw [f1 _ (by omega),f1 _ (by omega)],by rw [vE (by omega),vE (by omega)]⟩
     cases hl : zE (s[k]'hlt).toNat
     ·have hl' := hdec.1.trans hl
      by_cases hk0 : k = 0
      ·subst hk0
       have HN := ze (kL s hlt hl); clear hl hdec
       go_wp2_with (go_at_call 128; refine (yh _ _).mono ?_; rintro e w' ⟨rfl,rfl⟩; simp only [hl'])
       go_ret
       exact ⟨by rw [HN.out]; rfl,HLa.out _⟩
      ·have hz : ((k : Int) == 0) = false := by simp; omega
       cases hd : zA (s[k]'hlt).toNat
       ·have hd' := hdec.2.trans hd
        have HN := ze (fi s k hlt (by simp [lod,hl,hd])); clear hl hd hdec
        go_wp2_with (first | (go_at_call 128; refine (yh _ _).mono ?_; rintro e w' ⟨rfl,rfl⟩; simp only [hl']) | (go_at_call 132; refine (yo _ _).mono ?_; rintro e w' ⟨rfl,rfl⟩; simp only [hd']))
        go_ret
        exact ⟨by rw [HN.out]; rfl,HLa.out _⟩
       ·have hd' := hdec.2.trans hd
        have HN : Hid (lod (s[k]'hlt).toNat = true) := by unfold lod; rw [hl,hd]; rfl
        have ha : (s[k]'hlt).toNat < 128 := by
         rcases Nat.lt_or_ge (s[k]'hlt).toNat 128 with h | h
         ·exact h
         ·rw [vE (by omega)] at hd; cases hd
        rw [decode_ascii s k hlt ha] at hnx hl' hd'; clear hl hd hdec
        go_wp2_with (first | (go_at_call 128; refine (yh _ _).mono ?_; rintro e w' ⟨rfl,rfl⟩; simp only [hl']) | (go_at_call 132; refine (yo _ _).mono ?_; rintro e w' ⟨rfl,rfl⟩; simp only [hd']))
        go_roundw
        case rel => exact ⟨k + 1,rfl,by omega,fun _ h => HL.out (by omega) h,fun j h hj => by
         rcases Nat.lt_or_ge j k with h1 | h1
         ·exact HB.out j h h1
         ·obtain rfl : j = k := by omega
          exact HN.out⟩
        case measure => simp only [World.iterPos_iter]; omega
     ·have hl' := hdec.1.trans hl
      have HN : Hid (lod (s[k]'hlt).toNat = true) := by unfold lod; rw [hl]; rfl
      have HL2 : Hid (zE (s[k]'hlt).toNat = true) := hl
      have ha : (s[k]'hlt).toNat < 128 := by
       rcases Nat.lt_or_ge (s[k]'hlt).toNat 128 with h | h
       ·exact h
       ·have : zE (s[k]'hlt).toNat = false := by simp [zE]; omega
        rw [this] at hl; cases hl
      rw [decode_ascii s k hlt ha] at hnx hl'; clear hl hdec
      go_wp2_with (go_at_call 128; refine (yh _ _).mono ?_; rintro e w' ⟨rfl,rfl⟩; simp only [hl'])
      go_roundw
      case rel => exact ⟨k + 1,rfl,by omega,fun _ h => by
       rcases Nat.eq_zero_or_pos k with h0 | h0
       ·subst h0; exact HL2.out
       ·exact HL.out h0 h,fun j h hj => by
       rcases Nat.lt_or_ge j k with h1 | h1
       ·exact HB.out j h h1
       ·obtain rfl : j = k := by omega
        exact HN.out⟩
      case measure => simp only [World.iterPos_iter]; omega
    ·have hnx : ∀ ty,(Instr.next (.pointer (some ⟨(w.alloc (.cells #[.map (some b)] 123)).heap.size,0,none⟩)) true ty).run Tryz.prog ((w.alloc (.cells #[.map (some b)] 123)).iter s k) = _ := fun ty => run_next_end (w.alloc (.cells #[.map (some b)] 123)) s k ty hlt
     rw [hsz] at hnx; have HN := ze (pk s (by omega) h13 (HL.out (by omega) (by omega)) (fun j h => HB.out j h (by omega))); have hb : Below w.heap.size w ((w.alloc (.cells #[.map (some b)] 123)).iter s k) := ((Below.refl _ _).alloc (Nat.le_refl _) _).alloc (by simp) _
     have c0 : ((w.alloc (.cells #[.map (some b)] 123)).iter s k).cell? ⟨w.heap.size,0,none⟩ = some (.map (some b)) := by
      show (World.alloc _ _).cell? _ = _
      rw [World.cell?_alloc_lt _ _ _ (by simp)]; simp
     have HX2 : Hid (IsLex ((w.alloc (.cells #[.map (some b)] 123)).iter s k) b) := HX.out.below hb; have HBB := ze hb; clear hb hsz HX HL HB
     go_wp2_with (go_at_call 198; refine (tA b s _ hs HX2.out).mono ?_; rintro e w1 ⟨rfl,hb1⟩)
     go_ret
     exact ⟨by rw [HN.out]; rfl,HBB.out.trans (hb1.mono HBB.out.size)⟩
end Go.Proofs.YtnmkffjklpfflaaGreatDoor
