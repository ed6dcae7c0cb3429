/- The words of a text,as plain functions on lists of bytes: what is skipped,which word comes next,all words; and small facts on them. -/
import Derived.Test.YtfjgelmllcnokaaGreatDoorRows
import Derived.WalkKit
import Derived.WalkSpells
import Derived.WalkLawsBesides
import Derived.BigQuiet
import Derived.Deep.QuietTactic
import Derived.Lib.Strings
import Derived.Lib.IndexBytes
import Derived.Lib.Bytealg
import Derived.Laws.RangeString
import Derived.Laws.RangeAny
import Derived.Defers
import Derived.Recover
namespace Go.Proofs.YtfjgelmllcnokaaGreatDoor
open Go.RowKit
def zH (n : Int) : Bool := decide ((97 <= n /\ n <= 122) \/ (65 <= n /\ n <= 90))
def zs (n : Int) : Bool := decide (48 <= n /\ n <= 57)
def xR (n : Int) : Bool := decide (n = 32 \/ n = 9 \/ n = 13 \/ n = 10)
def lod (n : Int) : Bool := zH n || zs n
def yr (r : List UInt8) (a b : UInt8) : Bool := r.take 2 == [a,b]
def cmt : Nat -> List UInt8 -> Option (List UInt8)
 | _,[] => none
 | _,[_] => none
 | d,a :: b :: r => if a = 40 /\ b = 42 then cmt (d + 1) r else if a = 42 /\ b = 41 then (if d <= 1 then some r else cmt (d - 1) r) else cmt d (b :: r)
def ut : Nat -> List UInt8 -> Except (List UInt8) (List UInt8)
 | 0,r => .ok r
 | _ + 1,[] => .ok []
 | n + 1,c :: r => if xR c.toNat then ut n r else if yr (c :: r) 40 42 then (match cmt 0 (c :: r) with | none => .error (c :: r) | some r' => ut n r') else .ok (c :: r)
def skp (r : List UInt8) : Except (List UInt8) (List UInt8) := ut r.length r
def yi (p : Int -> Bool) (r : List UInt8) : List UInt8 := r.takeWhile (fun c => p c.toNat)
def zX : Int -> List UInt8 -> Option Int
 | v,[] => some v
 | v,c :: r => if (2147483647 - ((c.toNat : Int) - 48)) / 10 < v then none else zX (v * 10 + ((c.toNat : Int) - 48)) r
def kN : List UInt8 := [61,35,60,62,43,45,42,38,126,40,41,91,93,123,125,44,59,58,46,94]
def xn (r : List UInt8) : List UInt8 :=
 if yr r 58 61 || yr r 60 61 || yr r 62 61 then r.take 2
 else if r.take 1 ≠ [] /\ kN.contains (r.headD 0) then r.take 1 else []
def ve (r : List UInt8) : Except Nat (List UInt8) :=
 if zH (r.headD 0).toNat then (if 12 < (yi lod r).length then .error 3 else .ok (yi lod r))
 else if zs (r.headD 0).toNat then (match zX 0 (yi zs r) with | none => .error 3 | some _ => .ok (yi zs r))
 else if xn r = [] then .error 1 else .ok (xn r)
def jv : Nat -> List UInt8 -> Except (Nat × List UInt8) (List (List UInt8 × List UInt8))
 | 0,_ => .ok []
 | n + 1,r => match skp r with
  | .error f => .error (2,f)
  | .ok [] => .ok [([],[])]
  | .ok (c :: r') => match ve (c :: r') with
   | .error e => .error (e,c :: r')
   | .ok w => match jv n ((c :: r').drop w.length) with
    | .error x => .error x
    | .ok l => .ok ((w,c :: r') :: l)
def jm (r : List UInt8) : Except (Nat × List UInt8) (List (List UInt8 × List UInt8)) := jv (r.length + 1) r
theorem ze7 (d : Nat) : cmt d [] = none := by simp [cmt]
theorem tK (d : Nat) (a b : UInt8) (r : List UInt8) : cmt d (a :: b :: r) = if a = 40 /\ b = 42 then cmt (d + 1) r else if a = 42 /\ b = 41 then (if d <= 1 then some r else cmt (d - 1) r) else cmt d (b :: r) := by
 rw [cmt]
theorem qs : ∀ (n d : Nat) (r r' : List UInt8),r.length <= n -> cmt d r = some r' -> ∃ p : List UInt8,r = p ++ r' /\ 2 <= p.length
 | 0,d,r,r',hn,h => by
  cases r with
  | nil => simp [cmt] at h
  | cons a r => simp at hn
 | n + 1,d,[],r',hn,h => by simp [cmt] at h
 | n + 1,d,[a],r',hn,h => by simp [cmt] at h
 | n + 1,d,a :: b :: r,r',hn,h => by
  rw [tK] at h; simp only [List.length_cons] at hn
  split at h
  ·obtain ⟨p,hp,_⟩ := qs n _ r r' (by omega) h
   exact ⟨a :: b :: p,by simp [hp],by simp⟩
  ·split at h
   ·split at h
    ·simp only [Option.some.injEq] at h
     exact ⟨[a,b],by simp [h],by simp⟩
    ·obtain ⟨p,hp,_⟩ := qs n _ r r' (by omega) h
     exact ⟨a :: b :: p,by simp [hp],by simp⟩
   ·obtain ⟨p,hp,_⟩ := qs n _ (b :: r) r' (by simp; omega) h
    exact ⟨a :: p,by simp [hp],by simp; omega⟩
theorem kL {d : Nat} {r r' : List UInt8} (h : cmt d r = some r') : ∃ p : List UInt8,r = p ++ r' /\ 2 <= p.length := qs r.length d r r' (Nat.le_refl _) h
theorem sr : ∀ (n m : Nat) (r : List UInt8),r.length <= n -> r.length <= m -> ut n r = ut m r
 | 0,m,[],_,_ => by cases m <;> simp [ut]
 | n + 1,m,[],_,_ => by cases m <;> simp [ut]
 | 0,m,c :: r,h,_ => by simp at h
 | n + 1,0,c :: r,_,h => by simp at h
 | n + 1,m + 1,c :: r,h1,h2 => by
  simp only [List.length_cons] at h1 h2; rw [ut,ut]
  split
  ·exact sr n m r (by omega) (by omega)
  ·split
   ·split
    ·rfl
    ·rename_i r' hc
     obtain ⟨p,hp,_⟩ := kL hc
     have hlen : (c :: r).length = p.length + r'.length := by rw [hp]; simp
     simp only [List.length_cons] at hlen
     exact sr n m r' (by omega) (by omega)
   ·rfl
theorem pA {c : UInt8} {r : List UInt8} (h : xR c.toNat = true) : skp (c :: r) = skp r := by
 show ut (r.length + 1) (c :: r) = ut r.length r
 rw [ut,if_pos h]
theorem zdr {c : UInt8} {r : List UInt8} (h : xR c.toNat = false) (hs : yr (c :: r) 40 42 = true) (hc : cmt 0 (c :: r) = none) : skp (c :: r) = .error (c :: r) := by
 show ut (r.length + 1) (c :: r) = _
 rw [ut,if_neg (by simp [h]),if_pos hs,hc]
theorem zbn {c : UInt8} {r r' : List UInt8} (h : xR c.toNat = false) (hs : yr (c :: r) 40 42 = true) (hc : cmt 0 (c :: r) = some r') : skp (c :: r) = skp r' := by
 show ut (r.length + 1) (c :: r) = ut r'.length r'
 rw [ut,if_neg (by simp [h]),if_pos hs,hc]; obtain ⟨p,d,_⟩ := kL hc
 have b : (c :: r).length = p.length + r'.length := by rw [d]; simp
 simp only [List.length_cons] at b
 exact sr _ _ r' (by omega) (by omega)
theorem ia {c : UInt8} {r : List UInt8} (h : xR c.toNat = false) (hs : yr (c :: r) 40 42 = false) : skp (c :: r) = .ok (c :: r) := by
 show ut (r.length + 1) (c :: r) = _
 rw [ut,if_neg (by simp [h]),if_neg (by simp [hs])]
theorem qE : ∀ (n : Nat) (r r' : List UInt8),ut n r = .ok r' -> ∃ p : List UInt8,r = p ++ r'
 | 0,r,r',h => ⟨[],by simp [ut] at h; simp [h]⟩
 | n + 1,[],r',h => ⟨[],by simp [ut] at h; simp [h]⟩
 | n + 1,c :: r,r',h => by
  rw [ut] at h
  split at h
  ·obtain ⟨p,hp⟩ := qE n r r' h
   exact ⟨c :: p,by simp [hp]⟩
  ·split at h
   ·split at h
    ·simp at h
    ·rename_i r1 hc
     obtain ⟨p,hp,_⟩ := kL hc; obtain ⟨p2,hp2⟩ := qE n r1 r' h
     exact ⟨p ++ p2,by rw [hp,hp2]; simp⟩
   ·simp only [Except.ok.injEq] at h
    exact ⟨[],by simp [h]⟩
theorem qq {r r' : List UInt8} (h : skp r = .ok r') : ∃ p : List UInt8,r = p ++ r' := qE _ r r' h
set_option maxHeartbeats 400000
theorem xU (r : Int) (w : World) :
    Calls Tryz.prog 104 #[.int .i32 r] w fun e w' => e = .returned (.bool (zH r)) /\ w' = w := by
  by_cases h1 : 97 <= r
  · by_cases h2 : r <= 122
    · have hl : zH r = true := by simp [zH]; omega
      rw [hl]
      go_enter Tryz.func104,Tryz.ntmps104
      go_wp2
      go_ret
      first | exact ⟨rfl,rfl⟩ | (refine ⟨?_,rfl⟩; simp; omega)
    · have hl : zH r = false := by simp [zH]; omega
      rw [hl]
      go_enter Tryz.func104,Tryz.ntmps104
      go_wp2
      go_ret
      first | exact ⟨rfl,rfl⟩ | (refine ⟨?_,rfl⟩; simp; omega)
  · by_cases h3 : 65 <= r
    · by_cases h4 : r <= 90
      · have hl : zH r = true := by simp [zH]; omega
        rw [hl]
        go_enter Tryz.func104,Tryz.ntmps104
        go_wp2
        go_ret
        first | exact ⟨rfl,rfl⟩ | (refine ⟨?_,rfl⟩; simp; omega)
      · have hl : zH r = false := by simp [zH]; omega
        rw [hl]
        go_enter Tryz.func104,Tryz.ntmps104
        go_wp2
        go_ret
        first | exact ⟨rfl,rfl⟩ | (refine ⟨?_,rfl⟩; simp; omega)
    · have hl : zH r = false := by simp [zH]; omega
      rw [hl]
      go_enter Tryz.func104,Tryz.ntmps104
      go_wp2
      go_ret
      first | exact ⟨rfl,rfl⟩ | (refine ⟨?_,rfl⟩; simp; omega)
theorem vg (r : Int) (w : World) :
    Calls Tryz.prog 108 #[.int .i32 r] w fun e w' => e = .returned (.bool (zs r)) /\ w' = w := by
  by_cases h1 : 48 <= r
  · by_cases h2 : r <= 57
    · have hl : zs r = true := by simp [zs]; omega
      rw [hl]
      go_enter Tryz.func108,Tryz.ntmps108
      go_wp2
      go_ret
      first | exact ⟨rfl,rfl⟩ | (refine ⟨?_,rfl⟩; simp; omega)
    · have hl : zs r = false := by simp [zs]; omega
      rw [hl]
      go_enter Tryz.func108,Tryz.ntmps108
      go_wp2
      go_ret
      first | exact ⟨rfl,rfl⟩ | (refine ⟨?_,rfl⟩; simp; omega)
  · have hl : zs r = false := by simp [zs]; omega
    rw [hl]
    go_enter Tryz.func108,Tryz.ntmps108
    go_wp2
    go_ret
    first | exact ⟨rfl,rfl⟩ | (refine ⟨?_,rfl⟩; simp; omega)
theorem bM (r : Int) (w : World) :
    Calls Tryz.prog 106 #[.int .i32 r] w fun e w' => e = .returned (.bool (lod r)) /\ w' = w := by
  show Calls Tryz.prog 106 #[.int .i32 r] w fun e w' => e = .returned (.bool (zH r || zs r)) /\ w' = w
  cases hl : zH r
  · go_enter Tryz.func106,Tryz.ntmps106
    go_wp2_with (first | (go_at_call 104; refine (xU _ _).mono ?_; rintro e w' ⟨rfl,rfl⟩; simp only [hl]) | (go_at_call 108; refine (vg _ _).mono ?_; rintro e w' ⟨rfl,rfl⟩))
    go_ret
    exact ⟨by simp,rfl⟩
  · go_enter Tryz.func106,Tryz.ntmps106
    go_wp2_with (first | (go_at_call 104; refine (xU _ _).mono ?_; rintro e w' ⟨rfl,rfl⟩; simp only [hl]) | (go_at_call 108; refine (vg _ _).mono ?_; rintro e w' ⟨rfl,rfl⟩))
    go_ret
    exact ⟨by simp,rfl⟩
theorem gv (r : Int) (w : World) :
    Calls Tryz.prog 100 #[.int .u8 r] w fun e w' => e = .returned (.bool (xR r)) /\ w' = w := by
  by_cases h1 : r = 32
  · subst h1
    go_enter Tryz.func100,Tryz.ntmps100
    go_wp2
    go_ret
    exact ⟨rfl,rfl⟩
  · have e1 : (r == 32) = false := by simp [h1]
    by_cases h2 : r = 9
    · subst h2
      go_enter Tryz.func100,Tryz.ntmps100
      go_wp2
      go_ret
      exact ⟨rfl,rfl⟩
    · have e2 : (r == 9) = false := by simp [h2]
      by_cases h3 : r = 13
      · subst h3
        go_enter Tryz.func100,Tryz.ntmps100
        go_wp2
        go_ret
        exact ⟨rfl,rfl⟩
      · have e3 : (r == 13) = false := by simp [h3]
        have hb : xR r = (r == 10) := by simp [xR,h1,h2,h3]; rfl
        rw [hb]; clear hb h1 h2 h3
        go_enter Tryz.func100,Tryz.ntmps100
        go_wp2
        go_ret
        exact ⟨rfl,rfl⟩
theorem jG (s : ByteArray) : s.toList = s.data.toList := Lib.toList_data s
theorem vn (s : ByteArray) (k : Nat) : (s.extract k s.size).data.toList = s.data.toList.drop k := Lib.extract_to_end s k
theorem qH (s : ByteArray) (k : Nat) : (s.extract 0 k).data.toList = s.data.toList.take k := by rw [Lib.extract_data]; simp
theorem zT (s : ByteArray) : s.size = s.data.toList.length := Lib.size_eq s
theorem gW (s : ByteArray) (a b : UInt8) (w : World) (hs : s.size <= maxLen) :
    Calls Tryz.prog 101 #[.string s,.string ⟨#[a,b]⟩] w fun e w' => e = .returned (.bool (yr s.data.toList a b)) /\ w' = w := by
  unfold maxLen at hs
  by_cases h2 : 2 <= s.size
  · go_enter Tryz.func101,Tryz.ntmps101
    go_wp2
    go_ret
    exact ⟨by simp [yr,jG],rfl⟩
  · have hf : yr s.data.toList a b = false := by
      unfold yr
      rw [beq_eq_false_iff_ne]; intro h; have := congrArg List.length h; rw [zT] at h2; simp only [List.length_take,List.length_cons,List.length_nil] at this
      omega
    rw [hf]
    have h3 : s.size < 2 := by omega
    clear h2 hf
    go_enter Tryz.func101,Tryz.ntmps101
    go_wp2
    go_ret
    exact ⟨rfl,rfl⟩
theorem vP (b : Nat) (s : ByteArray) (k : Nat) (w : World) (_hs : s.size <= maxLen) (hk : k <= s.size)
    (c0 : w.cell? ⟨b,0,none⟩ = some (.string s)) (c1 : w.cell? ⟨b,1,none⟩ = some (.int .i64 k)) :
    Calls Tryz.prog 102 #[.pointer (some ⟨b,0,none⟩)] w fun e w' => e = .returned (.string (s.extract k s.size)) /\ ∃ n,w' = w.drewN n := by
  unfold maxLen at _hs
  go_enter Tryz.func102,Tryz.ntmps102
  go_wp2
  go_quiet (fail)
  go_wp2
  go_ret
  exact ⟨rfl,_,rfl⟩
set_option maxHeartbeats 1000000
set_option maxRecDepth 1000000
theorem za {p : Prop} (h : p) : Hid p := h
theorem jC {p : Prop} (h : Hid p) : p := h
theorem vz (w : World) (s : ByteArray) (k : Nat) : w.grownBy (w.iter s k) none := World.grownBy_alloc w _ none
theorem mn {n : Int} (h : 128 <= n) : lod n = false := by simp [lod,zH,zs]; omega
theorem kr {n : Int} (h : 128 <= n) : zs n = false := by simp [zs]; omega
theorem gm (p : UInt8 -> Bool) : ∀ (l : List UInt8) (k : Nat),k <= l.length -> (∀ j (h : j < l.length),j < k -> p l[j] = true) -> (∀ h : k < l.length,p l[k] = false) -> l.takeWhile p = l.take k
 | [],k,_,_,_ => by simp
 | a :: l,0,_,_,h2 => by
  have := h2 (by simp); simp only [List.getElem_cons_zero] at this
  simp [List.takeWhile,this]
 | a :: l,k + 1,hk,h1,h2 => by
  have ha := h1 0 (by simp) (by omega); simp only [List.getElem_cons_zero] at ha; simp only [List.takeWhile,ha,List.take_succ_cons]; rw [gm p l k (by simpa using hk) (fun j h hj => h1 (j + 1) (by simpa using h) (by omega)) (fun h => h2 (by simpa using h))]
theorem qV {p : Int -> Bool} (s : ByteArray) (k : Nat) (hk : k <= s.size) (h1 : ∀ (j : Nat) (h : j < s.size),j < k -> p (s[j]'h).toNat = true) (h2 : ∀ h : k < s.size,p (s[k]'h).toNat = false) : yi p s.data.toList = s.data.toList.take k := by
 refine gm _ _ _ (by rw [<- zT]; exact hk) (fun j h hj => ?_) (fun h => ?_)
 ·exact h1 j (by rw [zT]; exact h) hj
 ·exact h2 (by rw [zT]; exact h)
theorem fA {p : Int -> Bool} (s : ByteArray) (k : Nat) (hk : k <= s.size) (h1 : ∀ (j : Nat) (h : j < s.size),j < k -> p (s[j]'h).toNat = true) (h2 : ¬ k < s.size) : yi p s.data.toList = s.data.toList := by
 rw [qV s k hk h1 (fun h => absurd h h2),List.take_of_length_le]; rw [<- zT]; omega
theorem nD (s : ByteArray) (c : UInt8) (w : World) :
  Calls Tryz.prog 145 #[.string s,.int .u8 c.toNat] w fun e w' => e = .returned (.int .i64 (Lib.indexByte s.data.toList c)) /\ w' = w := by
 have hx := @run_callFunc_extern Tryz.prog 175 _ _ Tryz.func175 (by kernel_rfl) (by kernel_rfl) (by kernel_rfl) rfl
 have hy := fun w => Lib.run_indexByteString (P := Tryz.prog) s c.toNat w
 simp only [Int.toNat_natCast,Nat.toUInt8_eq,UInt8.ofNat_toNat] at hy
 go_enter Tryz.func145,Tryz.ntmps145
 go_wp2
 go_ret
 exact ⟨rfl,rfl⟩
theorem gI (p : Value) (k n : Int) (w : World) :
  Calls Tryz.prog 107 #[p,.int .i64 k,.int .i64 n] w fun e w' => e = .panicked [{ v := .iface 47 (.pointer (some ⟨w.heap.size,0,none⟩)),recovered := false }] /\ w' = w.alloc (.cells #[.int .i64 0,.int .i64 k,.iface 35 (.int .i64 n)] 74) := by
 go_enter Tryz.func107,Tryz.ntmps107
 go_wp2
 exact ⟨rfl,rfl,rfl⟩
theorem mo (s : ByteArray) (w : World) (_hs : s.size <= maxLen) :
  Calls Tryz.prog 105 #[.string s,.func (.func 106) #[] #[]] w fun e w' => ∃ x : ByteArray,e = .returned (.string x) /\ x.data.toList = yi lod s.data.toList /\ w.grownBy w' none := by
 unfold maxLen at _hs
 go_enter Tryz.func105,Tryz.ntmps105
 go_wp2
 go_loopw [6] (fun _ wr => ∃ k : Nat,wr = w.iter s k /\ k <= s.size /\ ∀ (j : Nat) (h : j < s.size),j < k -> lod (s[j]'h).toNat = true) (fun _ wr => s.size - wr.iterPos w.heap.size)
 case atStart => exact ⟨0,rfl,Nat.zero_le _,fun j h hj => by omega⟩
 case round =>
  obtain ⟨k,rfl,hk,HB⟩ := hrel; have HB' := za HB; clear HB
  by_cases hlt : k < s.size
  ·have hnx : ∀ ty,(Instr.next (.pointer (some ⟨w.heap.size,0,none⟩)) true ty).run Tryz.prog (w.iter s k) = _ := fun ty => run_next_any w s k ty hlt
   cases hp : lod (s[k]'hlt).toNat
   ·have hno : lod (Utf8.decode s k).1 = false := by
     by_cases ha : (s[k]'hlt).toNat < 128
     ·rw [decode_ascii s k hlt ha]; exact hp
     ·exact mn (by have := (decode_high s k hlt (by omega)).1; omega)
    have Hp := za hp; clear hp
    go_wp2_with (go_at_call 106; refine (bM _ _).mono ?_; rintro e w' ⟨rfl,rfl⟩; simp only [hno])
    go_ret
    exact ⟨_,rfl,by rw [qH]; exact (qV s k hk (jC HB') (fun h => jC Hp)).symm,vz w s _⟩
   ·have ha : (s[k]'hlt).toNat < 128 := by
     rcases Nat.lt_or_ge (s[k]'hlt).toNat 128 with h | h
     ·exact h
     ·rw [mn (by omega)] at hp; cases hp
    rw [decode_ascii s k hlt ha] at hnx; have hyes : lod ((s[k]'hlt).toNat : Nat) = true := hp; have Hp := za hp; clear hp
    go_wp2_with (go_at_call 106; refine (bM _ _).mono ?_; rintro e w' ⟨rfl,rfl⟩; simp only [hyes])
    go_roundw
    case rel => exact ⟨k + 1,rfl,by omega,fun j h hj => by
     rcases Nat.lt_or_ge j k with h1 | h1
     ·exact jC HB' j h h1
     ·obtain rfl : j = k := by omega
      exact jC Hp⟩
    case measure => simp; omega
  ·have hnx : ∀ ty,(Instr.next (.pointer (some ⟨w.heap.size,0,none⟩)) true ty).run Tryz.prog (w.iter s k) = _ := fun ty => run_next_end w s k ty hlt
   go_wp2
   go_ret
   exact ⟨_,rfl,(fA s k hk (jC HB') hlt).symm,vz w s _⟩
theorem rq (s : ByteArray) (w : World) (_hs : s.size <= maxLen) :
  Calls Tryz.prog 105 #[.string s,.func (.func 108) #[] #[]] w fun e w' => ∃ x : ByteArray,e = .returned (.string x) /\ x.data.toList = yi zs s.data.toList /\ w.grownBy w' none := by
 unfold maxLen at _hs
 go_enter Tryz.func105,Tryz.ntmps105
 go_wp2
 go_loopw [6] (fun _ wr => ∃ k : Nat,wr = w.iter s k /\ k <= s.size /\ ∀ (j : Nat) (h : j < s.size),j < k -> zs (s[j]'h).toNat = true) (fun _ wr => s.size - wr.iterPos w.heap.size)
 case atStart => exact ⟨0,rfl,Nat.zero_le _,fun j h hj => by omega⟩
 case round =>
  obtain ⟨k,rfl,hk,HB⟩ := hrel; have HB' := za HB; clear HB
  by_cases hlt : k < s.size
  ·have hnx : ∀ ty,(Instr.next (.pointer (some ⟨w.heap.size,0,none⟩)) true ty).run Tryz.prog (w.iter s k) = _ := fun ty => run_next_any w s k ty hlt
   cases hp : zs (s[k]'hlt).toNat
   ·have hno : zs (Utf8.decode s k).1 = false := by
     by_cases ha : (s[k]'hlt).toNat < 128
     ·rw [decode_ascii s k hlt ha]; exact hp
     ·exact kr (by have := (decode_high s k hlt (by omega)).1; omega)
    have Hp := za hp; clear hp
    go_wp2_with (go_at_call 108; refine (vg _ _).mono ?_; rintro e w' ⟨rfl,rfl⟩; simp only [hno])
    go_ret
    exact ⟨_,rfl,by rw [qH]; exact (qV s k hk (jC HB') (fun h => jC Hp)).symm,vz w s _⟩
   ·have ha : (s[k]'hlt).toNat < 128 := by
     rcases Nat.lt_or_ge (s[k]'hlt).toNat 128 with h | h
     ·exact h
     ·rw [kr (by omega)] at hp; cases hp
    rw [decode_ascii s k hlt ha] at hnx; have hyes : zs ((s[k]'hlt).toNat : Nat) = true := hp; have Hp := za hp; clear hp
    go_wp2_with (go_at_call 108; refine (vg _ _).mono ?_; rintro e w' ⟨rfl,rfl⟩; simp only [hyes])
    go_roundw
    case rel => exact ⟨k + 1,rfl,by omega,fun j h hj => by
     rcases Nat.lt_or_ge j k with h1 | h1
     ·exact jC HB' j h h1
     ·obtain rfl : j = k := by omega
      exact jC Hp⟩
    case measure => simp; omega
  ·have hnx : ∀ ty,(Instr.next (.pointer (some ⟨w.heap.size,0,none⟩)) true ty).run Tryz.prog (w.iter s k) = _ := fun ty => run_next_end w s k ty hlt
   go_wp2
   go_ret
   exact ⟨_,rfl,(fA s k hk (jC HB') hlt).symm,vz w s _⟩
theorem fE (s : ByteArray) (k : Nat) (h : k < s.size) : s.data.toList.drop k = s[k] :: s.data.toList.drop (k + 1) := by
 rw [List.drop_eq_getElem_cons (by rw [<- zT]; exact h)]; rfl
theorem pd {v : Int} {c : UInt8} {l : List UInt8} (h : (2147483647 - ((c.toNat : Int) - 48)) / 10 < v) : zX v (c :: l) = none := by
 rw [zX,if_pos h]
theorem oX {v : Int} {c : UInt8} {l : List UInt8} (h : ¬ (2147483647 - ((c.toNat : Int) - 48)) / 10 < v) : zX v (c :: l) = zX (v * 10 + ((c.toNat : Int) - 48)) l := by
 rw [zX,if_neg h]
def fF : Option Int -> Ending
 | none => .returned (.tuple #[.int .i64 0,.bool false])
 | some v => .returned (.tuple #[.int .i64 v,.bool true])
theorem dG (s : ByteArray) (w : World) (_hs : s.size <= maxLen) (hne : s.data.toList.isEmpty = false)
  (hd : ∀ (j : Nat) (h : j < s.size),zs (s[j]'h).toNat = true) :
  Calls Tryz.prog 109 #[.string s] w fun e w' => e = fF (zX 0 s.data.toList) /\ w.grownBy w' none := by
 unfold maxLen at _hs
 have HD := za hd; have HE := za hne
 have hemp : (s.toList == []) = false := by rw [jG]; cases h : s.data.toList with | nil => rw [h] at hne; cases hne | cons a l => rfl
 clear hd hne
 go_enter Tryz.func109,Tryz.ntmps109
 go_wp2
 go_loopw [2] (fun v wr => ∃ (k : Nat) (n : Int),wr = w.iter s k /\ k <= s.size /\ v = .int .i64 n /\ 0 <= n /\ n <= 2147483647 /\ Hid (zX n (s.data.toList.drop k) = zX 0 s.data.toList)) (fun _ wr => s.size - wr.iterPos w.heap.size)
 case atStart => exact ⟨0,0,rfl,Nat.zero_le _,rfl,by omega,by omega,rfl⟩
 case round =>
  obtain ⟨k,n,rfl,_,rfl,_,_,HB⟩ := hrel
  by_cases hlt : k < s.size
  ·have hdk := jC HD k hlt
   have hb1 : 48 <= ((s[k]'hlt).toNat : Int) := by simp [zs] at hdk; omega
   have hb2 : ((s[k]'hlt).toNat : Int) <= 57 := by simp [zs] at hdk; omega
   have hnx : ∀ ty,(Instr.next (.pointer (some ⟨w.heap.size,0,none⟩)) true ty).run Tryz.prog (w.iter s k) = _ := fun ty => run_next_ascii w s k ty hlt (by omega)
   have HX := HB.out; rw [fE s k hlt] at HX
   by_cases hv : (2147483647 - (((s[k]'hlt).toNat : Int) - 48)) / 10 < n
   ·rw [pd hv] at HX
    have H2 := za HX; clear HX HB HD HE
    go_wp2_with (go_at_call 108; refine (vg _ _).mono ?_; rintro e w' ⟨rfl,rfl⟩; simp only [hdk])
    go_ret2
    exact ⟨by rw [<- H2.out]; rfl,vz w s _⟩
   ·rw [oX hv] at HX
    have H2 := za HX; clear HX HB
    go_wp2_with (go_at_call 108; refine (vg _ _).mono ?_; rintro e w' ⟨rfl,rfl⟩; simp only [hdk])
    go_roundw
    case rel => exact ⟨k + 1,n * 10 + (((s[k]'hlt).toNat : Int) - 48),rfl,by omega,rfl,by omega,by omega,H2⟩
    case measure => simp; omega
  ·have hnx : ∀ ty,(Instr.next (.pointer (some ⟨w.heap.size,0,none⟩)) true ty).run Tryz.prog (w.iter s k) = _ := fun ty => run_next_end w s k ty hlt
   have HX := HB.out; rw [List.drop_eq_nil_of_le (by rw [<- zT]; omega)] at HX; have H2 := za HX; clear HX HB HD HE; go_wp2
   go_ret2
   exact ⟨by rw [<- H2.out]; rfl,vz w s _⟩
theorem gB (s : ByteArray) (a b : UInt8) : ((s.extract 0 2).toList == [a,b]) = yr s.data.toList a b := by
 rw [jG,qH]; rfl
theorem oN (l : List UInt8) (c : UInt8) : -1 <= Lib.indexByte l c := by
 induction l with
 | nil => simp [Lib.indexByte]
 | cons a l ih =>
  rw [Lib.indexByte]
  split
  ·omega
  ·split
   ·omega
   ·omega
theorem jL (l : List UInt8) (c : UInt8) : (0 <= Lib.indexByte l c) ↔ l.contains c = true := by
 induction l with
 | nil => simp [Lib.indexByte]
 | cons a l ih =>
  have hg := oN l c; rw [Lib.indexByte,List.contains_cons]
  by_cases h : a = c
  ·subst h; simp
  ·have h1 : (a == c) = false := by simpa using h
   have h2 : (c == a) = false := by simpa using fun e => h e.symm
   rw [h1,h2]; simp only [Bool.false_eq_true,if_false,Bool.false_or]; rw [<- ih]
   by_cases hi : Lib.indexByte l c = -1
   ·simp [hi]
   ·have : (Lib.indexByte l c == -1) = false := by simpa using hi
    rw [this]; simp only [Bool.false_eq_true,if_false]
    omega
theorem qD : (⟨#[61,35,60,62,43,45,42,38,126,40,41,91,93,123,125,44,59,58,46,94]⟩ : ByteArray).data.toList = kN := rfl
theorem gE (s : ByteArray) (h : 0 < s.size) : s.data.toList.headD 0 = s[0] /\ s.data.toList.take 1 = [s[0]] := by
 have := fE s 0 h; simp only [List.drop_zero] at this; rw [this]; simp
theorem oA {l : List UInt8} {a b : UInt8} (h : l.length < 2) : yr l a b = false := by
 unfold yr
 rw [beq_eq_false_iff_ne]; intro e; have := congrArg List.length e; simp only [List.length_take,List.length_cons,List.length_nil] at this
 omega
theorem mJ (s : ByteArray) (w : World) (hs : s.size <= maxLen) (h0 : 0 < s.size) :
  Calls Tryz.prog 110 #[.string s] w fun e w' => ∃ x : ByteArray,e = .returned (.string x) /\ x.data.toList = xn s.data.toList /\ w' = w := by
 unfold maxLen at hs
 obtain ⟨hh,ht⟩ := gE s h0
 have key : (yr s.data.toList 58 61 || yr s.data.toList 60 61 || yr s.data.toList 62 61) = false -> (xn s.data.toList = if kN.contains s[0] then [s[0]] else []) := by
  intro h
  unfold xn
  rw [h,hh,ht]
  simp
 have hone : (s.extract 0 1).data.toList = [s[0]] := by rw [qH,ht]
 by_cases h2 : 1 < s.size
 ·cases e1 : yr s.data.toList 58 61
  ·cases e2 : yr s.data.toList 60 61
   ·cases e3 : yr s.data.toList 62 61
    ·have key2 := key (by simp [e1,e2,e3])
     rw [<- gB] at e1 e2 e3; cases hc : kN.contains s[0]
     ·have key2 : xn s.data.toList = [] := by rw [key2,hc]; rfl
      have hn : ¬ (0 : Int) <= Lib.indexByte kN s[0] := by rw [jL,hc]; simp
      have K := za key2; clear key key2 hh ht hone hc
      go_enter Tryz.func110,Tryz.ntmps110
      go_wp2_with (go_at_call 145; refine (nD _ _ _).mono ?_; rintro e w' ⟨rfl,rfl⟩; rw [qD])
      go_ret
      exact ⟨_,rfl,by rw [K.out],rfl⟩
     ·have key2 : xn s.data.toList = [s[0]] := by rw [key2,hc]; rfl
      have hn : (0 : Int) <= Lib.indexByte kN s[0] := by rw [jL,hc]
      have K := za key2; have K1 := za hone; clear key key2 hh ht hone hc
      go_enter Tryz.func110,Tryz.ntmps110
      go_wp2_with (go_at_call 145; refine (nD _ _ _).mono ?_; rintro e w' ⟨rfl,rfl⟩; rw [qD])
      go_ret
      exact ⟨_,rfl,by rw [K.out]; exact K1.out,rfl⟩
    ·have K : Hid (xn s.data.toList = s.data.toList.take 2) := by unfold xn; rw [if_pos (by simp [e1,e2,e3])]; rfl
     rw [<- gB] at e1 e2 e3; clear key hh ht hone
     go_enter Tryz.func110,Tryz.ntmps110
     go_wp2
     go_ret
     exact ⟨_,rfl,by rw [K.out]; exact qH _ _,rfl⟩
   ·have K : Hid (xn s.data.toList = s.data.toList.take 2) := by unfold xn; rw [if_pos (by simp [e1,e2])]; rfl
    rw [<- gB] at e1 e2; clear key hh ht hone
    go_enter Tryz.func110,Tryz.ntmps110
    go_wp2
    go_ret
    exact ⟨_,rfl,by rw [K.out]; exact qH _ _,rfl⟩
  ·have K : Hid (xn s.data.toList = s.data.toList.take 2) := by unfold xn; rw [if_pos (by simp [e1])]; rfl
   rw [<- gB] at e1; clear key hh ht hone
   go_enter Tryz.func110,Tryz.ntmps110
   go_wp2
   go_ret
   exact ⟨_,rfl,by rw [K.out]; exact qH _ _,rfl⟩
 ·have hl : s.data.toList.length < 2 := by rw [<- zT]; omega
  have key2 := key (by simp [oA hl]); cases hc : kN.contains s[0]
  ·have key2 : xn s.data.toList = [] := by rw [key2,hc]; rfl
   have hn : ¬ (0 : Int) <= Lib.indexByte kN s[0] := by rw [jL,hc]; simp
   have K := za key2; clear key key2 hh ht hone hc hl
   go_enter Tryz.func110,Tryz.ntmps110
   go_wp2_with (go_at_call 145; refine (nD _ _ _).mono ?_; rintro e w' ⟨rfl,rfl⟩; rw [qD])
   go_ret
   exact ⟨_,rfl,by rw [K.out],rfl⟩
  ·have key2 : xn s.data.toList = [s[0]] := by rw [key2,hc]; rfl
   have hn : (0 : Int) <= Lib.indexByte kN s[0] := by rw [jL,hc]
   have K := za key2; have K1 := za hone; clear key key2 hh ht hone hc hl
   go_enter Tryz.func110,Tryz.ntmps110
   go_wp2_with (go_at_call 145; refine (nD _ _ _).mono ?_; rintro e w' ⟨rfl,rfl⟩; rw [qD])
   go_ret
   exact ⟨_,rfl,by rw [K.out]; exact K1.out,rfl⟩
structure Sc (w : World) (b : Nat) (s : ByteArray) (k : Nat) : Prop where
  c0 : w.cell? ⟨b,0,none⟩ = some (.string s)
  c1 : w.cell? ⟨b,1,none⟩ = some (.int .i64 k)
  f1 : w.frozen? ⟨b,1,none⟩ = false
def atOf (w : World) (b : Nat) : Nat := match w.cell? ⟨b,1,none⟩ with | some v => (intOf v).toNat | none => 0
theorem Sc.atOf {w : World} {b : Nat} {s : ByteArray} {k : Nat} (h : Sc w b s k) : atOf w b = k := by
  unfold Proofs.YtfjgelmllcnokaaGreatDoor.atOf; rw [h.c1]; rfl
theorem Sc.drewN {w : World} {b : Nat} {s : ByteArray} {k : Nat} (h : Sc w b s k) (n : Nat) : Sc (w.drewN n) b s k := ⟨by simpa using h.c0,by simpa using h.c1,by simpa using h.f1⟩
theorem Sc.set {w : World} {b : Nat} {s : ByteArray} {k : Nat} (h : Sc w b s k) (k' : Nat) : Sc (w.setCell ⟨b,1,none⟩ (.int .i64 k')) b s k' :=
  ⟨by rw [World.cell?_setCell_other _ _ _ _ (by simp)]; exact h.c0,World.cell?_setCell_same _ _ _ h.c1,by rw [World.frozen?_setCell]; exact h.f1⟩
theorem Sc.setI {w : World} {b : Nat} {s : ByteArray} {k : Nat} (h : Sc w b s k) (v : Int) (k' : Nat) (hv : v = k') : Sc (w.setCell ⟨b,1,none⟩ (.int .i64 v)) b s k' := by
  subst hv; exact h.set k'
theorem Sc.lt {w : World} {b : Nat} {s : ByteArray} {k : Nat} (h : Sc w b s k) : b < w.heap.size := by
  rcases Nat.lt_or_ge b w.heap.size with h' | h'
  · exact h'
  · have := h.c0
    simp [World.cell?,Array.getElem?_eq_none h'] at this
theorem Sc.kept {w w' : World} {b : Nat} {s : ByteArray} {k : Nat} {row : Option Nat} (h : Sc w b s k) (hg : w.grownBy w' row) (hr : row ≠ some b) : Sc w' b s k :=
  ⟨by rw [World.cell?_of_block (w := w) (hg.block b h.lt (fun e => hr e.symm))]; exact h.c0,
   by rw [World.cell?_of_block (w := w) (hg.block b h.lt (fun e => hr e.symm))]; exact h.c1,
   by rw [World.frozen?_of_block (w := w) (hg.block b h.lt (fun e => hr e.symm))]; exact h.f1⟩
theorem zl (w : World) (row : Option Nat) : w.grownBy w row := ⟨rfl,rfl,rfl,Nat.le_refl _,fun _ _ _ => rfl⟩
theorem zy {a w : World} {row : Option Nat} (h : a.grownBy w row) (n : Nat) : a.grownBy (w.drewN n) row := ⟨h.os,h.tape,h.output,h.size,h.block⟩
theorem zb {a b c : World} {row : Option Nat} (h : a.grownBy b row) (k : b.grownBy c row) : a.grownBy c row :=
  ⟨k.os.trans h.os,k.tape.trans h.tape,k.output.trans h.output,Nat.le_trans h.size k.size,fun i hi hr => (k.block i (Nat.lt_of_lt_of_le hi h.size) hr).trans (h.block i hi hr)⟩
theorem yU {a w : World} {b : Nat} (h : a.grownBy w (some b)) (o : Nat) (v : Value) : a.grownBy (w.setCell ⟨b,o,none⟩ v) (some b) :=
  zb h ⟨rfl,rfl,rfl,by simp [World.setCell],fun i _ hr => Below.heap_setCell _ _ _ _ (fun e => hr (by rw [e]))⟩
theorem zf {a w : World} {row : Option Nat} (h : a.grownBy w row) (o : Obj) : a.grownBy (w.alloc o) row := zb h (World.grownBy_alloc w o row)
theorem zJ {a w : World} (h : a.grownBy w none) (row : Option Nat) : a.grownBy w row := ⟨h.os,h.tape,h.output,h.size,fun i hi _ => h.block i hi (by simp)⟩
def Threw (w : World) (k n : Int) (e : Ending) (w' : World) : Prop :=
  ∃ q,e = .panicked [{ v := .iface 47 (.pointer (some ⟨q,0,none⟩)),recovered := false }] /\ w.heap.size <= q /\
    w'.cell? ⟨q,0,none⟩ = some (.int .i64 0) /\ w'.cell? ⟨q,1,none⟩ = some (.int .i64 k) /\ w'.cell? ⟨q,2,none⟩ = some (.iface 35 (.int .i64 n))
theorem dM {w wr : World} {nq : Nat} {k n : Int} (h : w.heap.size <= wr.heap.size) :
    Threw w k n (.panicked [{ v := .iface 47 (.pointer (some ⟨wr.heap.size,0,none⟩)),recovered := false }]) ((wr.drewN nq).alloc (.cells #[.int .i64 0,.int .i64 k,.iface 35 (.int .i64 n)] 74)) :=
  ⟨wr.heap.size,rfl,h,by rw [World.cell?_alloc_at _ _ _ _ (by simp)]; rfl,by rw [World.cell?_alloc_at _ _ _ _ (by simp)]; rfl,by rw [World.cell?_alloc_at _ _ _ _ (by simp)]; rfl⟩
theorem zem {d : Nat} {r : List UInt8} (h : yr r 40 42 = true) : cmt d r = cmt (d + 1) (r.drop 2) := by
  match r,h with
  | [],h => simp [yr] at h
  | [a],h => simp [yr] at h
  | a :: b :: r,h =>
    simp [yr] at h
    rw [tK,if_pos h]; rfl
theorem bH {d : Nat} {r : List UInt8} (h1 : yr r 40 42 = false) (h : yr r 42 41 = true) : cmt d r = if d <= 1 then some (r.drop 2) else cmt (d - 1) (r.drop 2) := by
  match r,h with
  | [],h => simp [yr] at h
  | [a],h => simp [yr] at h
  | a :: b :: r,h =>
    simp [yr] at h h1
    rw [tK,if_neg (by intro e; exact h1 e.1 e.2),if_pos h]; rfl
theorem zgr {d : Nat} {r : List UInt8} (h1 : yr r 40 42 = false) (h : yr r 42 41 = false) : cmt d r = cmt d (r.drop 1) := by
  match r with
  | [] => rfl
  | [a] => simp [cmt]
  | a :: b :: r =>
    simp [yr] at h h1
    rw [tK,if_neg (by intro e; exact h1 e.1 e.2),if_neg (by intro e; exact h e.1 e.2)]; rfl
theorem tX {r : List UInt8} {a b : UInt8} (h : yr r a b = true) : 2 <= r.length := by
  match r,h with
  | [],h => simp [yr] at h
  | [a],h => simp [yr] at h
  | a :: b :: r,h => simp
theorem dS (b : Nat) (s : ByteArray) (k0 : Nat) (w : World) (hs : s.size <= 1000000000) (hk0 : k0 <= s.size) (hsc : Sc w b s k0) (hst : yr (s.data.toList.drop k0) 40 42 = true) :
    Calls Tryz.prog 103 #[.pointer (some ⟨b,0,none⟩)] w fun e w' =>
      (∀ r',cmt 0 (s.data.toList.drop k0) = some r' -> e = .returned (.tuple #[]) /\ Sc w' b s (s.size - r'.length) /\ w.grownBy w' (some b)) /\
      (cmt 0 (s.data.toList.drop k0) = none -> Threw w k0 2 e w' /\ w.grownBy w' (some b)) := by
  have c0 := hsc.c0; have c1 := hsc.c1; have HST := za hst; clear hst
  go_enter Tryz.func103,Tryz.ntmps103
  go_wp2; clear c0 c1
  go_loopw [3] (fun d wr => ∃ dn k : Nat,d = .int .i64 dn /\ k <= s.size /\ Sc wr b s k /\ w.grownBy wr (some b) /\ Hid (cmt dn (s.data.toList.drop k) = cmt 0 (s.data.toList.drop k0)) /\ (dn = 0 -> k = k0) /\ dn <= k) (fun _ wr => s.size - atOf wr b)
  case atStart => exact ⟨0,k0,rfl,hk0,hsc,zl _ _,rfl,fun _ => rfl,Nat.zero_le _⟩
  case round =>
    obtain ⟨dn,k,rfl,hk,hsr,hgr,HC,HZ,_⟩ := hrel; have c0 := hsr.c0; have c1 := hsr.c1; have f1 := hsr.f1; have HZ' := za HZ; clear HZ
    have hxs : (s.extract k s.size).size <= maxLen := by unfold maxLen; rw [zT,vn,List.length_drop,<- zT]; omega
    have hsm : s.size <= maxLen := by unfold maxLen; omega
    have hea := hsr.atOf; have HSR := za hsr; have HGR := za hgr; clear hsr hgr
    by_cases hlt : k < s.size
    · cases h1 : yr (s.data.toList.drop k) 40 42
      · have hd1 : 1 <= dn := by
          rcases Nat.eq_zero_or_pos dn with h | h
          · rw [jC HZ' h,HST.out] at h1; cases h1
          · exact h
        cases h3 : yr (s.data.toList.drop k) 42 41
        · have HN : Hid (cmt dn (s.data.toList.drop (k + 1)) = cmt 0 (s.data.toList.drop k0)) := by
            rw [<- HC.out,zgr h1 h3,List.drop_drop]; rfl
          have hz : ((dn : Int) == 0) = false := by rw [beq_eq_false_iff_ne]; omega
          go_wp2_with fail
          go_quiet (fail)
          go_wp2_with (first | (go_at_call 102; refine (vP b s k _ hsm hk (by simpa using c0) (by simpa using c1)).mono ?_; rintro e w' ⟨rfl,nr,rfl⟩) | (go_at_call 101; refine (gW _ _ _ _ hxs).mono ?_; rintro e w' ⟨rfl,rfl⟩; simp only [vn,h1,h3]))
          all_goals
            have hS := fun n => (HSR.out.drewN n).setI ((k : Int) + 1) (k + 1) (by omega)
            exact ⟨⟨dn,k + 1,rfl,by omega,hS _,yU (zy HGR.out _) _ _,HN,fun e => by omega,by omega⟩,by rw [(hS _).atOf,hea]; omega⟩
        · have h2 := tX h3
          rw [List.length_drop,<- zT] at h2
          by_cases hd2 : dn = 1
          · have HN : Hid (cmt 0 (s.data.toList.drop k0) = some (s.data.toList.drop (k + 2))) := by
              rw [<- HC.out,bH h1 h3,if_pos (by omega),List.drop_drop]; rfl
            have hz : ((dn : Int) - 1 == 0) = true := by rw [beq_iff_eq]; omega
            clear hd2; go_wp2_with fail
            go_quiet (fail)
            go_wp2_with (first | (go_at_call 102; refine (vP b s k _ hsm hk (by simpa using c0) (by simpa using c1)).mono ?_; rintro e w' ⟨rfl,nr,rfl⟩) | (go_at_call 101; refine (gW _ _ _ _ hxs).mono ?_; rintro e w' ⟨rfl,rfl⟩; simp only [vn,h1,h3]))
            have hS := fun n => (HSR.out.drewN n).setI ((k : Int) + 2) (k + 2) (by omega)
            refine bodyPost_ret (results_none rfl _ _ _) rfl ⟨fun r' hr => ?_,fun hr => ?_⟩
            · rw [HN.out] at hr
              cases hr; refine ⟨rfl,?_,yU (zy HGR.out _) _ _⟩; rw [List.length_drop,<- zT,show s.size - (s.size - (k + 2)) = k + 2 from by omega]
              exact hS _
            · rw [HN.out] at hr; cases hr
          · have HN : Hid (cmt (dn - 1) (s.data.toList.drop (k + 2)) = cmt 0 (s.data.toList.drop k0)) := by
              rw [<- HC.out,bH h1 h3,if_neg (by omega),List.drop_drop]; rfl
            have hz : ((dn : Int) - 1 == 0) = false := by rw [beq_eq_false_iff_ne]; omega
            have hd3 : 2 <= dn := by omega
            clear hd2; go_wp2_with fail
            go_quiet (fail)
            go_wp2_with (first | (go_at_call 102; refine (vP b s k _ hsm hk (by simpa using c0) (by simpa using c1)).mono ?_; rintro e w' ⟨rfl,nr,rfl⟩) | (go_at_call 101; refine (gW _ _ _ _ hxs).mono ?_; rintro e w' ⟨rfl,rfl⟩; simp only [vn,h1,h3]))
            have hS := fun n => (HSR.out.drewN n).setI ((k : Int) + 2) (k + 2) (by omega)
            exact ⟨⟨dn - 1,k + 2,by rw [show ((dn : Int) - 1) = ((dn - 1 : Nat) : Int) from by omega],by omega,hS _,yU (zy HGR.out _) _ _,HN,fun e => by omega,by omega⟩,by rw [(hS _).atOf,hea]; omega⟩
      · have h2 := tX h1
        rw [List.length_drop,<- zT] at h2
        have HN : Hid (cmt (dn + 1) (s.data.toList.drop (k + 2)) = cmt 0 (s.data.toList.drop k0)) := by
          rw [<- HC.out,zem h1,List.drop_drop]; rfl
        have hz : ((dn : Int) + 1 == 0) = false := by rw [beq_eq_false_iff_ne]; omega
        go_wp2_with fail
        go_quiet (fail)
        go_wp2_with (first | (go_at_call 102; refine (vP b s k _ hsm hk (by simpa using c0) (by simpa using c1)).mono ?_; rintro e w' ⟨rfl,nr,rfl⟩) | (go_at_call 101; refine (gW _ _ _ _ hxs).mono ?_; rintro e w' ⟨rfl,rfl⟩; simp only [vn,h1]))
        have hS := fun n => (HSR.out.drewN n).setI ((k : Int) + 2) (k + 2) (by omega)
        exact ⟨⟨dn + 1,k + 2,by go_num,by omega,hS _,yU (zy HGR.out _) _ _,HN,fun e => by omega,by omega⟩,by rw [(hS _).atOf,hea]; omega⟩
    · have HN : Hid (cmt 0 (s.data.toList.drop k0) = none) := by
        rw [<- HC.out,List.drop_eq_nil_of_le (by rw [<- zT]; omega),ze7]; rfl
      go_wp2_with fail
      go_quiet (fail)
      go_wp2_with (go_at_call 107; refine (gI _ _ _ _).mono ?_; rintro e w' ⟨rfl,rfl⟩)
      refine ⟨rfl,fun r' hr => ?_,fun _ => ⟨dM HGR.out.size,zf (zy HGR.out _) _⟩⟩; rw [HN.out] at hr; cases hr
set_option maxHeartbeats 2000000
theorem zeo {r r' : List UInt8} (h : skp r = .ok r') : r'.length <= r.length := by
  obtain ⟨_,hp⟩ := qq h; rw [hp]; simp
theorem gp {l p r : List UInt8} {k : Nat} (h : l.drop k = p ++ r) (hk : k <= l.length) : l.drop (l.length - r.length) = r := by
  have hl : l.length = k + p.length + r.length := by
    have := congrArg List.length h; simp only [List.length_drop,List.length_append] at this
    omega
  rw [show l.length - r.length = k + p.length from by omega,<- List.drop_drop,h,List.drop_left]
theorem fB (b : Nat) (s : ByteArray) (k0 : Nat) (w : World) (hs : s.size <= 1000000000) (hk0 : k0 <= s.size) (hsc : Sc w b s k0) :
    Calls Tryz.prog 55 #[.pointer (some ⟨b,0,none⟩)] w fun e w' =>
      (∀ r',skp (s.data.toList.drop k0) = .ok r' -> e = .returned (.tuple #[]) /\ Sc w' b s (s.size - r'.length) /\ w.grownBy w' (some b)) /\
      (∀ f,skp (s.data.toList.drop k0) = .error f -> Threw w ((s.size - f.length : Nat) : Int) 2 e w' /\ w.grownBy w' (some b)) := by
  go_enter Tryz.func55,Tryz.ntmps55
  go_wp2
  go_loopw [12] (fun _ wr => ∃ k : Nat,k <= s.size /\ Sc wr b s k /\ w.grownBy wr (some b) /\ Hid (skp (s.data.toList.drop k) = skp (s.data.toList.drop k0))) (fun _ wr => s.size - atOf wr b)
  case atStart => exact ⟨k0,hk0,hsc,zl _ _,rfl⟩
  case round =>
    obtain ⟨k,hk,hsr,hgr,HC⟩ := hrel; have c0 := hsr.c0; have c1 := hsr.c1; have f1 := hsr.f1
    have hxs : (s.extract k s.size).size <= maxLen := by unfold maxLen; rw [zT,vn,List.length_drop,<- zT]; omega
    have hsm : s.size <= maxLen := by unfold maxLen; omega
    have hea := hsr.atOf; have HSR := za hsr; have HGR := za hgr; clear hsr hgr
    by_cases hlt : k < s.size
    · have hdr := fE s k hlt
      cases hb : xR (s[k]'hlt).toNat
      · cases h1 : yr (s.data.toList.drop k) 40 42
        · have HN : Hid (skp (s.data.toList.drop k0) = .ok (s.data.toList.drop k)) := by
            rw [<- HC.out]; rw [hdr] at h1 ⊢; exact ia hb h1
          clear hdr HC; go_wp2_with fail
          go_quiet (fail)
          obtain ⟨w1,hw1⟩ : ∃ w1,w1 = wr.drewN nq := ⟨_,rfl⟩; rw [<- hw1]
          have hs1 : Sc w1 b s k := by rw [hw1]; exact HSR.out.drewN nq
          have hg1 : w.grownBy w1 (some b) := by rw [hw1]; exact zy HGR.out nq
          clear c0 c1 f1; have c0 := hs1.c0; have c1 := hs1.c1; have f1 := hs1.f1; have HS1 := za hs1; have HG1 := za hg1; clear hw1 hs1 hg1 HSR HGR; go_wp2_with fail
          go_quiet ((go_at_call 100; exact Calls.quiet_of_same (gv _ _)))
          simp only [hb]
          go_wp2_with (first | (go_at_call 102; refine (vP b s k _ hsm hk (by simpa using c0) (by simpa using c1)).mono ?_; rintro e w' ⟨rfl,nr,rfl⟩) | (go_at_call 101; refine (gW _ _ _ _ hxs).mono ?_; rintro e w' ⟨rfl,rfl⟩; simp only [vn,h1]))
          refine bodyPost_ret (results_none rfl _ _ _) rfl ⟨fun r' hr => ?_,fun f hf => ?_⟩
          · rw [HN.out] at hr
            cases hr; refine ⟨rfl,?_,zy HG1.out _⟩; rw [List.length_drop,<- zT,show s.size - (s.size - k) = k from by omega]
            exact HS1.out.drewN _
          · rw [HN.out] at hf; cases hf
        · cases hcm : cmt 0 (s.data.toList.drop k) with
          | none =>
            have HN : Hid (skp (s.data.toList.drop k0) = .error (s.data.toList.drop k)) := by
              rw [<- HC.out]; rw [hdr] at h1 hcm ⊢; exact zdr hb h1 hcm
            have HM := za hcm; have H1 := za h1; clear hdr HC hcm; go_wp2_with fail
            go_quiet (fail)
            obtain ⟨w1,hw1⟩ : ∃ w1,w1 = wr.drewN nq := ⟨_,rfl⟩; rw [<- hw1]
            have hs1 : Sc w1 b s k := by rw [hw1]; exact HSR.out.drewN nq
            have hg1 : w.grownBy w1 (some b) := by rw [hw1]; exact zy HGR.out nq
            clear c0 c1 f1; have c0 := hs1.c0; have c1 := hs1.c1; have f1 := hs1.f1; have HS1 := za hs1; have HG1 := za hg1; clear hw1 hs1 hg1 HSR HGR; go_wp2_with fail
            go_quiet ((go_at_call 100; exact Calls.quiet_of_same (gv _ _)))
            simp only [hb]
            go_wp2_with (first | (go_at_call 102; refine (vP b s k _ hsm hk (by simpa using c0) (by simpa using c1)).mono ?_; rintro e w' ⟨rfl,nr,rfl⟩) | (go_at_call 101; refine (gW _ _ _ _ hxs).mono ?_; rintro e w' ⟨rfl,rfl⟩; simp only [vn,h1]) | (go_at_call 103; refine (dS b s k _ hs hk (HS1.out.drewN _) H1.out).mono ?_; rintro e w' ⟨hA,hB⟩; obtain ⟨⟨q,rfl,hq,q0,q1,q2⟩,hG2⟩ := hB HM.out))
            refine ⟨rfl,fun r' hr => ?_,fun f hf => ?_⟩
            · rw [HN.out] at hr; cases hr
            · rw [HN.out] at hf
              cases hf; refine ⟨⟨q,rfl,Nat.le_trans (zy HG1.out _).size hq,q0,?_,q2⟩,zb (zy HG1.out _) hG2⟩; rw [List.length_drop,<- zT,show s.size - (s.size - k) = k from by omega]
              exact q1
          | some r1 =>
            have HN : Hid (skp r1 = skp (s.data.toList.drop k0)) := by
              rw [<- HC.out]; rw [hdr] at h1 hcm ⊢; exact (zbn hb h1 hcm).symm
            obtain ⟨p,hp,_⟩ := kL hcm; have hd2 := gp hp (by rw [<- zT]; exact hk); rw [<- zT] at hd2
            have hl1 : s.size - k = p.length + r1.length := by rw [zT,<- List.length_drop,hp,List.length_append]
            have HM := za hcm; have H1 := za h1; have HD2 := za hd2; clear hdr HC hcm hp hd2; go_wp2_with fail
            go_quiet (fail)
            obtain ⟨w1,hw1⟩ : ∃ w1,w1 = wr.drewN nq := ⟨_,rfl⟩; rw [<- hw1]
            have hs1 : Sc w1 b s k := by rw [hw1]; exact HSR.out.drewN nq
            have hg1 : w.grownBy w1 (some b) := by rw [hw1]; exact zy HGR.out nq
            clear c0 c1 f1; have c0 := hs1.c0; have c1 := hs1.c1; have f1 := hs1.f1; have HS1 := za hs1; have HG1 := za hg1; clear hw1 hs1 hg1 HSR HGR; go_wp2_with fail
            go_quiet ((go_at_call 100; exact Calls.quiet_of_same (gv _ _)))
            simp only [hb]
            go_wp2_with (first | (go_at_call 102; refine (vP b s k _ hsm hk (by simpa using c0) (by simpa using c1)).mono ?_; rintro e w' ⟨rfl,nr,rfl⟩) | (go_at_call 101; refine (gW _ _ _ _ hxs).mono ?_; rintro e w' ⟨rfl,rfl⟩; simp only [vn,h1]) | (go_at_call 103; refine (dS b s k _ hs hk (HS1.out.drewN _) H1.out).mono ?_; rintro e w' ⟨hA,hB⟩; obtain ⟨rfl,hS2,hG2⟩ := hA _ HM.out))
            exact ⟨⟨s.size - r1.length,by omega,hS2,zb (zy HG1.out _) hG2,by rw [HD2.out]; exact HN⟩,by rw [hS2.atOf,hea]; omega⟩
      · have HN : Hid (skp (s.data.toList.drop (k + 1)) = skp (s.data.toList.drop k0)) := by
          rw [<- HC.out,hdr]; exact (pA hb).symm
        clear hdr HC; go_wp2_with fail
        go_quiet (fail)
        obtain ⟨w1,hw1⟩ : ∃ w1,w1 = wr.drewN nq := ⟨_,rfl⟩; rw [<- hw1]
        have hs1 : Sc w1 b s k := by rw [hw1]; exact HSR.out.drewN nq
        have hg1 : w.grownBy w1 (some b) := by rw [hw1]; exact zy HGR.out nq
        clear c0 c1 f1; have c0 := hs1.c0; have c1 := hs1.c1; have f1 := hs1.f1; have HS1 := za hs1; have HG1 := za hg1; clear hw1 hs1 hg1 HSR HGR; go_wp2_with fail
        go_quiet ((go_at_call 100; exact Calls.quiet_of_same (gv _ _)))
        simp only [hb]; go_wp2
        have hS := fun n => (HS1.out.drewN n).setI ((k : Int) + 1) (k + 1) (by omega)
        exact ⟨⟨k + 1,by omega,hS _,yU (zy HG1.out _) _ _,HN⟩,by rw [(hS _).atOf,hea]; omega⟩
    · have HN : Hid (skp (s.data.toList.drop k0) = .ok []) := by
        rw [<- HC.out,List.drop_eq_nil_of_le (by rw [<- zT]; omega)]; rfl
      clear HC; go_wp2_with fail
      go_quiet (fail)
      go_wp2
      first | go_end0 | refine bodyPost_end (results_none rfl _ _ _) rfl ?_
      refine ⟨fun r' hr => ?_,fun f hf => ?_⟩
      · rw [HN.out] at hr
        cases hr; refine ⟨rfl,?_,zy HGR.out _⟩
        have : s.size - ([] : List UInt8).length = k := by simp; omega
        rw [this]
        exact HSR.out.drewN _
      · rw [HN.out] at hf; cases hf
theorem sW (s : ByteArray) (k : Nat) (h : k < s.size) : (s.data.toList.drop k).headD 0 = s[k] := by rw [fE s k h]; rfl
theorem fj {p : Int -> Bool} {l : List UInt8} {c : UInt8} (h : c ∈ yi p l) : p c.toNat = true := by
 induction l with
 | nil => simp [yi] at h
 | cons a l ih =>
  unfold yi at h ih
  rw [List.takeWhile_cons] at h; cases hp : p a.toNat
  ·simp [hp] at h
  ·simp only [hp,if_true,List.mem_cons] at h
   rcases h with rfl | h
   ·exact hp
   ·exact ih h
theorem oy (x : ByteArray) (j : Nat) (h : j < x.size) : x[j] ∈ x.data.toList := by
 have : x[j] = x.data.toList[j]'(by rw [<- zT]; exact h) := rfl
 rw [this]; exact List.getElem_mem _
theorem bS {p : Int -> Bool} {l : List UInt8} {c : UInt8} (h : p c.toNat = true) : (yi p (c :: l)).isEmpty = false := by
 unfold yi; simp [h]
theorem rn (p : Int -> Bool) (l : List UInt8) : (yi p l).length <= l.length := by
 unfold yi
 induction l with
 | nil => simp
 | cons a l ih => rw [List.takeWhile_cons]; split <;> simp <;> omega
theorem sR {w wr : World} {k n : Int} (h : w.heap.size <= wr.heap.size) :
  Threw w k n (.panicked [{ v := .iface 47 (.pointer (some ⟨wr.heap.size,0,none⟩)),recovered := false }]) (wr.alloc (.cells #[.int .i64 0,.int .i64 k,.iface 35 (.int .i64 n)] 74)) :=
 ⟨wr.heap.size,rfl,h,by rw [World.cell?_alloc_at _ _ _ _ (by simp)]; rfl,by rw [World.cell?_alloc_at _ _ _ _ (by simp)]; rfl,by rw [World.cell?_alloc_at _ _ _ _ (by simp)]; rfl⟩
theorem mu (c : UInt8) : wrap32 (c.toNat : Int) = c.toNat := by
 have := c.toNat_lt; simp only [wrap32]
 omega
theorem zdi (s : ByteArray) (k : Nat) (h : k < s.size) (h0 : 0 < (s.extract k s.size).size) : (s.extract k s.size)[0] = s[k] := by
 have h1 := (gE (s.extract k s.size) h0).1; rw [vn,sW s k h] at h1
 exact h1.symm
theorem sN (b : Nat) (s : ByteArray) (k : Nat) (w : World) (hs : s.size <= 1000000000) (hk : k < s.size) (hsc : Sc w b s k) :
  Calls Tryz.prog 56 #[.pointer (some ⟨b,0,none⟩)] w fun e w' =>
   (∀ x,ve (s.data.toList.drop k) = .ok x -> ∃ y : ByteArray,e = .returned (.string y) /\ y.data.toList = x /\ w.grownBy w' none) /\
   (∀ n,ve (s.data.toList.drop k) = .error n -> Threw w k n e w' /\ w.grownBy w' none) := by
 have c0 := hsc.c0; have c1 := hsc.c1
 have hsm : s.size <= maxLen := by unfold maxLen; omega
 have hk' : k <= s.size := by omega
 have hxs : (s.extract k s.size).size = s.size - k := by rw [zT,vn,List.length_drop,<- zT]
 have hx0 : 0 < (s.extract k s.size).size := by omega
 have hxm : (s.extract k s.size).size <= maxLen := by unfold maxLen; omega
 have hget := zdi s k hk hx0; have hw : ve (s.data.toList.drop k) = if zH (s[k]'hk).toNat then (if 12 < (yi lod (s.data.toList.drop k)).length then .error 3 else .ok (yi lod (s.data.toList.drop k)))
   else if zs (s[k]'hk).toNat then (match zX 0 (yi zs (s.data.toList.drop k)) with | none => .error 3 | some _ => .ok (yi zs (s.data.toList.drop k)))
   else if xn (s.data.toList.drop k) = [] then .error 1 else .ok (xn (s.data.toList.drop k)) := by
  unfold ve; rw [sW s k hk]; first | done | rfl
 have hw32 := mu (s[k]'hk); have HSC := za hsc; clear hsc; cases hl : zH (s[k]'hk).toNat
 ·rw [hl,if_neg (by simp)] at hw
  cases hd : zs (s[k]'hk).toNat
  ·rw [hd,if_neg (by simp)] at hw
   cases hsg : (xn (s.data.toList.drop k)).isEmpty
   ·have hne : xn (s.data.toList.drop k) ≠ [] := by intro e; rw [e] at hsg; cases hsg
    rw [if_neg hne] at hw; have HW := za hw; have HG := za hsg; clear hw hxs hsg hne
    go_enter Tryz.func56,Tryz.ntmps56
    go_wp2_with (first | (go_at_call 102; refine (vP b s k _ hsm hk' c0 c1).mono ?_; rintro e w1 ⟨rfl,nr,rfl⟩) | (go_at_call 104; refine (xU _ _).mono ?_; rintro e w' ⟨rfl,rfl⟩; simp only [hl]) | (go_at_call 108; refine (vg _ _).mono ?_; rintro e w' ⟨rfl,rfl⟩; simp only [hd]))
    refine (mJ _ _ hxm hx0).mono ?_; rintro e w2 ⟨y,rfl,hy,rfl⟩
    have hemp : y.toList.isEmpty = false := by rw [jG,hy,vn]; exact HG.out
    have HY := za hy; clear hy; go_wp2
    go_ret
    refine ⟨fun x hx => ?_,fun n hn => ?_⟩
    ·rw [HW.out] at hx
     cases hx
     exact ⟨y,rfl,by rw [HY.out,vn],zy (zl _ _) _⟩
    ·rw [HW.out] at hn; cases hn
   ·have hne : xn (s.data.toList.drop k) = [] := by simpa using hsg
    rw [if_pos hne] at hw; have HW := za hw; have HG := za hsg; clear hw hxs hsg hne
    go_enter Tryz.func56,Tryz.ntmps56
    go_wp2_with (first | (go_at_call 102; refine (vP b s k _ hsm hk' c0 c1).mono ?_; rintro e w1 ⟨rfl,nr,rfl⟩) | (go_at_call 104; refine (xU _ _).mono ?_; rintro e w' ⟨rfl,rfl⟩; simp only [hl]) | (go_at_call 108; refine (vg _ _).mono ?_; rintro e w' ⟨rfl,rfl⟩; simp only [hd]))
    refine (mJ _ _ hxm hx0).mono ?_; rintro e w2 ⟨y,rfl,hy,rfl⟩
    have hemp : y.toList.isEmpty = true := by rw [jG,hy,vn]; exact HG.out
    clear hy
    go_wp2_with (go_at_call 107; refine (gI _ _ _ _).mono ?_; rintro e w' ⟨rfl,rfl⟩)
    refine ⟨rfl,fun x hx => ?_,fun n hn => ?_⟩
    ·rw [HW.out] at hx; cases hx
    ·rw [HW.out] at hn
     cases hn
     exact ⟨dM (Nat.le_refl _),zf (zy (zl _ _) _) _⟩
  ·rw [hd,if_pos rfl] at hw
   have hne : (yi zs (s.data.toList.drop k)).isEmpty = false := by rw [fE s k hk]; exact bS hd
   cases hv : zX 0 (yi zs (s.data.toList.drop k)) with
   | none =>
    rw [hv] at hw; have HW := za hw; have HV := za hv; have HN := za hne; clear hw hxs hv hne
    go_enter Tryz.func56,Tryz.ntmps56
    go_wp2_with (first | (go_at_call 102; refine (vP b s k _ hsm hk' c0 c1).mono ?_; rintro e w1 ⟨rfl,nr,rfl⟩) | (go_at_call 104; refine (xU _ _).mono ?_; rintro e w' ⟨rfl,rfl⟩; simp only [hl]) | (go_at_call 108; refine (vg _ _).mono ?_; rintro e w' ⟨rfl,rfl⟩; simp only [hd]))
    refine (rq _ _ hxm).mono ?_; rintro e w2 ⟨x,rfl,hx,hg⟩; rw [vn] at hx; have hs2 := (HSC.out.drewN nr).kept hg (by simp); have HG := za hg; have HX := za hx; have HS2 := za hs2; clear hx hg hs2 c0 c1; go_wp2_with fail; refine (dG x _ (by unfold maxLen; have := congrArg List.length HX.out; rw [<- zT] at this; have h2 := rn zs (s.data.toList.drop k); rw [List.length_drop,<- zT] at h2; omega) (by rw [HX.out]; exact HN.out) (fun j h => by have := oy x j h; rw [HX.out] at this; exact fj this)).mono ?_; rintro e w3 ⟨he,hg3⟩; rw [HX.out,HV.out] at he; simp only [fF] at he; subst he; have d1 := (HS2.out.kept hg3 (by simp)).c1; have HG3 := za hg3; clear hg3
    go_wp2_with (go_at_call 107; refine (gI _ _ _ _).mono ?_; rintro e w' ⟨rfl,rfl⟩)
    have hgg := zb (zb (zy (zl w none) nr) HG.out) HG3.out; refine ⟨rfl,fun x hx => ?_,fun n hn => ?_⟩
    ·rw [HW.out] at hx; cases hx
    ·rw [HW.out] at hn
     cases hn
     exact ⟨sR hgg.size,zf hgg _⟩
   | some v =>
    rw [hv] at hw; have HW := za hw; have HV := za hv; have HN := za hne; clear hw hxs hv hne
    go_enter Tryz.func56,Tryz.ntmps56
    go_wp2_with (first | (go_at_call 102; refine (vP b s k _ hsm hk' c0 c1).mono ?_; rintro e w1 ⟨rfl,nr,rfl⟩) | (go_at_call 104; refine (xU _ _).mono ?_; rintro e w' ⟨rfl,rfl⟩; simp only [hl]) | (go_at_call 108; refine (vg _ _).mono ?_; rintro e w' ⟨rfl,rfl⟩; simp only [hd]))
    refine (rq _ _ hxm).mono ?_; rintro e w2 ⟨x,rfl,hx,hg⟩; rw [vn] at hx; have HG := za hg; have HX := za hx; clear hx hg c0 c1; go_wp2_with fail; refine (dG x _ (by unfold maxLen; have := congrArg List.length HX.out; rw [<- zT] at this; have h2 := rn zs (s.data.toList.drop k); rw [List.length_drop,<- zT] at h2; omega) (by rw [HX.out]; exact HN.out) (fun j h => by have := oy x j h; rw [HX.out] at this; exact fj this)).mono ?_; rintro e w3 ⟨he,hg3⟩; rw [HX.out,HV.out] at he; simp only [fF] at he; subst he; have HG3 := za hg3; clear hg3; go_wp2
    go_ret
    have hgg := zb (zb (zy (zl w none) nr) HG.out) HG3.out; refine ⟨fun y hy => ?_,fun n hn => ?_⟩
    ·rw [HW.out] at hy
     cases hy
     exact ⟨x,rfl,HX.out,hgg⟩
    ·rw [HW.out] at hn; cases hn
 ·rw [hl,if_pos rfl] at hw
  obtain ⟨m,hm⟩ : ∃ m,m = (yi lod (s.data.toList.drop k)).length := ⟨_,rfl⟩; have HM := za hm; rw [<- hm] at hw; clear hm
  by_cases hlen : 12 < m
  ·rw [if_pos hlen] at hw
   have HW := za hw; clear hw hxs
   go_enter Tryz.func56,Tryz.ntmps56
   go_wp2_with (first | (go_at_call 102; refine (vP b s k _ hsm hk' c0 c1).mono ?_; rintro e w1 ⟨rfl,nr,rfl⟩) | (go_at_call 104; refine (xU _ _).mono ?_; rintro e w' ⟨rfl,rfl⟩; simp only [hl]))
   refine (mo _ _ hxm).mono ?_; rintro e w2 ⟨x,rfl,hx,hg⟩; rw [vn] at hx
   have hxl : x.size = m := by rw [zT,hx]; exact HM.out.symm
   have d1 := ((HSC.out.drewN nr).kept hg (by simp)).c1; have HG := za hg; clear hx hg c0 c1
   go_wp2_with (go_at_call 107; refine (gI _ _ _ _).mono ?_; rintro e w' ⟨rfl,rfl⟩)
   have hgg := zb (zy (zl w none) nr) HG.out; refine ⟨rfl,fun x hx => ?_,fun n hn => ?_⟩
   ·rw [HW.out] at hx; cases hx
   ·rw [HW.out] at hn
    cases hn
    exact ⟨sR hgg.size,zf hgg _⟩
  ·rw [if_neg hlen] at hw
   have HW := za hw; clear hw hxs
   go_enter Tryz.func56,Tryz.ntmps56
   go_wp2_with (first | (go_at_call 102; refine (vP b s k _ hsm hk' c0 c1).mono ?_; rintro e w1 ⟨rfl,nr,rfl⟩) | (go_at_call 104; refine (xU _ _).mono ?_; rintro e w' ⟨rfl,rfl⟩; simp only [hl]))
   refine (mo _ _ hxm).mono ?_; rintro e w2 ⟨x,rfl,hx,hg⟩; rw [vn] at hx
   have hxl : x.size = m := by rw [zT,hx]; exact HM.out.symm
   have HG := za hg; have HX := za hx; clear hx hg c0 c1; go_wp2
   go_ret
   have hgg := zb (zy (zl w none) nr) HG.out; refine ⟨fun y hy => ?_,fun n hn => ?_⟩
   ·rw [HW.out] at hy
    cases hy
    exact ⟨x,rfl,HX.out,hgg⟩
   ·rw [HW.out] at hn; cases hn
abbrev Toks := Except (Nat × List UInt8) (List (List UInt8 × List UInt8))
def pre (acc : List (List UInt8 × List UInt8)) : Toks -> Toks
 | .error x => .error x
 | .ok l => .ok (acc ++ l)
def pt (n : Nat) : List UInt8 -> Toks
 | [] => .ok [([],[])]
 | c :: r => match ve (c :: r) with
  | .error e => .error (e,c :: r)
  | .ok w => pre [(w,c :: r)] (jv n ((c :: r).drop w.length))
theorem kB (n : Nat) (r : List UInt8) : jv (n + 1) r = match skp r with | .error f => .error (2,f) | .ok r' => pt n r' := by
 rw [jv]; cases h : skp r with
 | error f => rfl
 | ok r' =>
  cases r' with
  | nil => rfl
  | cons c r' =>
   simp only [pt]; cases b : ve (c :: r') with
   | error e => rfl
   | ok w =>
    simp only
    cases jv n ((c :: r').drop w.length) <;> rfl
theorem zd5 (a b : List (List UInt8 × List UInt8)) (x : Toks) : pre a (pre b x) = pre (a ++ b) x := by
 cases x <;> simp [pre]
theorem zd6 (x : Toks) : pre [] x = x := by cases x <;> simp [pre]
theorem sF (p : Int -> Bool) (r : List UInt8) : r.take (yi p r).length = yi p r := by
 unfold yi
 induction r with
 | nil => rfl
 | cons a r ih =>
  rw [List.takeWhile_cons]
  split
  ·simp [ih]
  ·simp
theorem rm {p : Int -> Bool} {c : UInt8} {r : List UInt8} (h : p c.toNat = true) : 1 <= (yi p (c :: r)).length := by
 unfold yi
 rw [List.takeWhile_cons,if_pos h]; simp
theorem im (r : List UInt8) : r.take (xn r).length = xn r := by
 unfold xn
 split
 ·match r with
  | [] => rfl
  | [a] => rfl
  | a :: b :: r => rfl
 ·split
  ·match r with
   | [] => rfl
   | a :: r => rfl
  ·rfl
theorem kw {c : UInt8} {r w : List UInt8} (h : ve (c :: r) = .ok w) : (c :: r).take w.length = w /\ 1 <= w.length := by
 unfold ve at h
 have i : (c :: r).headD 0 = c := rfl
 rw [i] at h
 by_cases d : zH c.toNat = true
 ·rw [if_pos d] at h
  by_cases b : 12 < (yi lod (c :: r)).length
  ·rw [if_pos b] at h; cases h
  ·rw [if_neg b] at h
   cases h
   exact ⟨sF _ _,rm (by simp [lod,d])⟩
 ·rw [if_neg d] at h
  by_cases e : zs c.toNat = true
  ·rw [if_pos e] at h
   cases g : zX 0 (yi zs (c :: r)) with
   | none => rw [g] at h; cases h
   | some v =>
    rw [g] at h; cases h
    exact ⟨sF _ _,rm e⟩
  ·rw [if_neg e] at h
   by_cases f : xn (c :: r) = []
   ·rw [if_pos f] at h; cases h
   ·rw [if_neg f] at h
    cases h; refine ⟨im _,?_⟩; cases j : xn (c :: r) with
    | nil => exact absurd j f
    | cons a l => simp
theorem gU {c : UInt8} {r w : List UInt8} (h : ve (c :: r) = .ok w) : w.length <= (c :: r).length := by
 have b := (kw h).1; have := congrArg List.length b; rw [List.length_take] at this
 omega
def qN (n : Nat) (l : List (List UInt8 × List UInt8)) : List Value := l.flatMap fun x => [.string ⟨x.1.toArray⟩,.int .i64 ((n - x.2.length : Nat) : Int)]
theorem rR (n : Nat) (l : List (List UInt8 × List UInt8)) (x : List UInt8 × List UInt8) : qN n (l ++ [x]) = qN n l ++ [.string ⟨x.1.toArray⟩,.int .i64 ((n - x.2.length : Nat) : Int)] := by
  simp [qN]
theorem zix {y : ByteArray} {l : List UInt8} (h : y.data.toList = l) : y = ⟨l.toArray⟩ := by
  subst h; cases y; simp
theorem Tryz.infoTok : (Tryz.prog.info? 114).map (fun i => (i.zero,i.size,i.bytes)) = some (some (.agg #[.string ⟨#[]⟩,.int .i64 0]),2,24) := by kernel_rfl
theorem vY {a w w' : World} {b : Nat} {row : Option Nat} (h : a.grownBy w (some b)) (hg : w.grownBy w' row) (hr : ∀ j,row = some j -> a.heap.size <= j) : a.grownBy w' (some b) :=
  ⟨hg.os.trans h.os,hg.tape.trans h.tape,hg.output.trans h.output,Nat.le_trans h.size hg.size,fun i hi hne => (hg.block i (Nat.lt_of_lt_of_le hi h.size) (fun e => by have := hr i e.symm; omega)).trans (h.block i hi hne)⟩
theorem fi {w : World} {base : Nat} {e : TypeId} {size : Nat} {v : Value} {n : Nat} {xs : List Value} (h : w.ownsRow base e size v n xs) (m : Nat) : (w.drewN m).ownsRow base e size v n xs := h
theorem zb8 {w : World} {base : Nat} {e : TypeId} {v : Value} {acc : List (List UInt8 × List UInt8)} {x r : List UInt8} {n k : Nat} {y : ByteArray}
    (h : w.ownsRow base e 2 v (acc.length + 1) (qN n acc ++ [.string y,.int .i64 (k : Int)])) (hy : y.data.toList = x) (hk : n - r.length = k) :
    w.ownsRow base e 2 v (acc ++ [(x,r)]).length (qN n (acc ++ [(x,r)])) := by
  rw [rR,List.length_append]; simp only; rw [hk,<- zix hy]
  exact h
structure TI (w : World) (b : Nat) (s : ByteArray) (v : Value) (wr : World) (r : List UInt8) (acc : List (List UInt8 × List UInt8)) (n : Nat) : Prop where
  len : r.length <= s.size
  drop : s.data.toList.drop (s.size - r.length) = r
  sc : Sc wr b s (s.size - r.length)
  own : wr.ownsRow w.heap.size 114 2 v acc.length (qN s.size acc)
  gb : w.grownBy wr (some b)
  same : pre acc (pt n r) = jm s.data.toList
  fuel : r.length <= n
  count : acc.length + r.length <= s.size
theorem mH {s : ByteArray} {k : Nat} {r : List UInt8} (h : skp (s.data.toList.drop k) = .ok r) (hk : k <= s.size) : r.length <= s.size - k /\ s.data.toList.drop (s.size - r.length) = r := by
  obtain ⟨_,hp⟩ := qq h; refine ⟨?_,?_⟩
  · have := zeo h
    rw [List.length_drop,<- zT] at this; exact this
  · have := gp hp (by rw [<- zT]; exact hk)
    rw [<- zT] at this; exact this
theorem iR (b : Nat) (s : ByteArray) (w : World) (hs : s.size <= 1000000000) (hsc : Sc w b s 0) :
    Calls Tryz.prog 26 #[.pointer (some ⟨b,0,none⟩)] w fun e w' =>
      (∀ l,jm s.data.toList = .ok l -> ∃ v,e = .returned v /\ w'.ownsRow w.heap.size 114 2 v l.length (qN s.size l) /\ w.grownBy w' (some b)) /\
      (∀ n f,jm s.data.toList = .error (n,f) -> Threw w ((s.size - f.length : Nat) : Int) n e w' /\ w.grownBy w' (some b)) := by
  obtain ⟨i0,hi,hz0,hz1,hz2⟩ := info_parts Tryz.infoTok; have hbl := hsc.lt; have HSC := za hsc; clear hsc; have ht0 : jm s.data.toList = match skp s.data.toList with | .error f => .error (2,f) | .ok r' => pt s.data.toList.length r' := kB _ _; cases hk0 : skp s.data.toList with
  | error f0 =>
    rw [hk0] at ht0; have HT := za ht0; have HK := za hk0; clear ht0 hk0
    go_enter Tryz.func26,Tryz.ntmps26
    go_wp2_with fail; refine (fB b s 0 _ hs (Nat.zero_le _) HSC.out).mono ?_; rintro e w1 ⟨_,hB⟩; obtain ⟨⟨q,rfl,hq,q0,q1,q2⟩,hG⟩ := hB f0 (by rw [List.drop_zero]; exact HK.out); refine ⟨rfl,fun l hl => ?_,fun n f hf => ?_⟩
    · rw [HT.out] at hl; cases hl
    · rw [HT.out] at hf
      cases hf
      exact ⟨⟨q,rfl,hq,q0,q1,q2⟩,hG⟩
  | ok r0 =>
    rw [hk0] at ht0; have HT := za ht0; have HK := za hk0; clear ht0 hk0
    go_enter Tryz.func26,Tryz.ntmps26
    go_wp2_with fail; refine (fB b s 0 _ hs (Nat.zero_le _) HSC.out).mono ?_; rintro e w1 ⟨hA,hB⟩; clear hB; obtain ⟨rfl,hs1,hg1⟩ := hA r0 (by rw [List.drop_zero]; exact HK.out); obtain ⟨hr1,hr2⟩ := mH (s := s) (k := 0) (r := r0) (by rw [List.drop_zero]; exact HK.out) (Nat.zero_le _); have hT0 : TI w b s (.slice none 0 0) w1 r0 [] s.data.toList.length := ⟨by omega,hr2,hs1,World.ownsRow_nil _ _ _ _,hg1,by rw [zd6]; exact HT.out.symm,by rw [<- zT]; omega,by simp; omega⟩; clear hs1 hg1 hr1 hr2 HSC hA; go_wp2_with fail
    go_loopw [3] (fun v wr => ∃ r acc n,Hid (TI w b s v wr r acc n)) (fun _ wr => s.size - atOf wr b)
    case atStart => exact ⟨r0,[],_,hT0⟩
    case round =>
      obtain ⟨r,acc,n,HI⟩ := hrel; clear hT0; cases r with
      | nil =>
        have hI := HI.out; have c0 := hI.sc.c0; have c1 := hI.sc.c1; simp only [List.length_nil,Nat.sub_zero] at c1; have hown := hI.own; have hgr := hI.gb; have hcnt := hI.count; simp only [List.length_nil,Nat.add_zero] at hcnt
        have hT : Hid (jm s.data.toList = .ok (acc ++ [([],[])])) := by rw [<- hI.same]; rfl
        have hwz := hgr.size; clear hI HI HT HK; have HGR := za hgr; clear hgr; go_wp2_with fail
        go_quiet (fail)
        go_wp2_with (first | (at_builtin; refine wpList_append_own _ rfl _ _ 44 rfl w.heap.size 114 i0 (.agg #[.string ⟨#[]⟩,.int .i64 0]) 2 24 Tryz.underlying44 hi hz0 hz1 hz2 rfl (by decide) _ _ _ rfl ((fi hown nq).alloc _) ⟨wr.heap.size,0,none⟩ 1 1 [.string ⟨#[]⟩,.int .i64 (s.size : Int)] rfl rfl (cell_two_new _ _ _ _) (fun x hx => by simp at hx; rcases hx with rfl | rfl <;> rfl) (by unfold maxLen; omega) (by omega) (by simp; omega) ?_; intro v' w3 hown3 hg3 hnil))
        go_ret
        refine ⟨fun l hl => ?_,fun m f hf => ?_⟩
        · rw [hT.out] at hl
          cases hl; refine ⟨v',rfl,?_,vY (zf (zy HGR.out nq) _) hg3 (fun j hj => (hown.lt j hj).1)⟩; rw [rR,List.length_append]
          exact hown3
        · rw [hT.out] at hf; cases hf
      | cons c r =>
        have hI := HI.out; have hlen := hI.len; have hdrop := hI.drop; have hsk := hI.sc; have hown := hI.own; have hgr := hI.gb; have hcnt := hI.count; have hfu := hI.fuel; have hsame := hI.same; simp only [List.length_cons] at hlen hdrop hsk hcnt hfu; obtain ⟨k,hk⟩ : ∃ k,k = s.size - (r.length + 1) := ⟨_,rfl⟩; rw [<- hk] at hdrop hsk
        have hlt : k < s.size := by omega
        have hk1 : k + (r.length + 1) <= s.size := by omega
        have hk2 : s.size <= k + (r.length + 1) := by omega
        obtain ⟨m,rfl⟩ : ∃ m,n = m + 1 := ⟨n - 1,by omega⟩; have c0 := hsk.c0; have c1 := hsk.c1; have f1 := hsk.f1; have hea := hsk.atOf; have hwz := hgr.size; have HD := za hdrop; have HSK := za hsk; have HGR := za hgr; have HSA := za hsame; have HOW := za hown; clear hI HI HT HK hdrop hsk hgr hsame hown hk; cases hx : ve (c :: r) with
        | error m1 =>
          have hT : Hid (jm s.data.toList = .error (m1,c :: r)) := by
            rw [<- HSA.out,pt,hx]; rfl
          have HX := za hx; clear hx; go_wp2_with fail
          go_quiet (fail)
          go_wp2_with fail; refine (sN b s k _ hs hlt (HSK.out.drewN nq)).mono ?_; rintro e w1 ⟨hA,hB⟩; obtain ⟨⟨q,rfl,hq,q0,q1,q2⟩,hG⟩ := hB m1 (by rw [HD.out]; exact HX.out); refine ⟨rfl,fun l hl => ?_,fun n f hf => ?_⟩
          · rw [hT.out] at hl; cases hl
          · rw [hT.out] at hf
            cases hf; have hgg := zb (zy HGR.out nq) (zJ hG _); refine ⟨⟨q,rfl,Nat.le_trans (zy HGR.out nq).size hq,q0,?_,q2⟩,hgg⟩; rw [List.length_cons,show s.size - (r.length + 1) = k from by omega]
            exact q1
        | ok x =>
          obtain ⟨hpre,_⟩ := kw hx; have hxl := gU hx; simp only [List.length_cons] at hxl
          have hdk : s.data.toList.drop (k + x.length) = (c :: r).drop x.length := by rw [<- List.drop_drop,HD.out]
          have HDK := za hdk; have HX := za hx
          have hTA : pt (m + 1) (c :: r) = pre [(x,c :: r)] (jv (m + 1) ((c :: r).drop x.length)) := by rw [pt,hx]
          clear hpre hdk hx; cases hz : skp ((c :: r).drop x.length) with
          | error f2 =>
            have hT : Hid (jm s.data.toList = .error (2,f2)) := by
              rw [<- HSA.out,hTA,kB,hz]; rfl
            have HZ := za hz; clear hz hTA; go_wp2_with fail
            go_quiet (fail)
            go_wp2_with fail; refine (sN b s k _ hs hlt (HSK.out.drewN nq)).mono ?_; rintro e w1 ⟨hA,hB⟩; clear hB; obtain ⟨y,rfl,hy,hg1⟩ := hA x (by rw [HD.out]; exact HX.out)
            have hyl : y.size = x.length := by rw [zT,hy]
            have hs1 := (HSK.out.drewN nq).kept hg1 (by simp); have hown1 := (fi HOW.out nq).kept hg1 (by cases h : Value.ownBlock _ <;> simp); have hgw := zb (zy HGR.out nq) (zJ hg1 (some b)); have hw1z := hgw.size; have d0 := hs1.c0; have d1 := hs1.c1; have e1 := hs1.f1; have HY := za hy; have HYL := za hyl; have HS1 := za hs1; have HGW := za hgw
            have hyb : y.size <= s.size := by omega
            clear hA hy hyl hs1 hgw hg1 c0 c1 f1
            go_wp2_with (first | (at_builtin; refine wpList_append_own _ rfl _ _ 44 rfl w.heap.size 114 i0 (.agg #[.string ⟨#[]⟩,.int .i64 0]) 2 24 Tryz.underlying44 hi hz0 hz1 hz2 rfl (by decide) _ _ _ rfl (hown1.alloc _) ⟨w1.heap.size,0,none⟩ 1 1 [.string y,.int .i64 (k : Int)] rfl rfl (cell_two_new _ _ _ _) (fun x hx => by simp at hx; rcases hx with rfl | rfl <;> rfl) (by unfold maxLen; omega) (by omega) (by simp; omega) ?_; intro v' w3 hown3 hg3 hnil; have hs3 := (HS1.out.kept (World.grownBy_alloc _ _ none) (by simp)).kept hg3 (fun e => by have := (hown1.lt b e).1; omega); have k0 := hs3.c0; have k1 := hs3.c1; have k2 := hs3.f1; have HG3 := za (vY (zf HGW.out _) hg3 (fun j hj => (hown1.lt j hj).1)); have HS3 := za hs3; have HO3 := za hown3; clear hs3 hown3 hg3 hnil))
            refine (fB b s (k + x.length) _ hs (by omega) (HS3.out.setI ((k : Int) + (y.size : Int)) (k + x.length) (by have := HYL.out; omega))).mono ?_; rintro e w5 ⟨hA,hB⟩; obtain ⟨⟨q,rfl,hq,q0,q1,q2⟩,hG⟩ := hB f2 (by rw [HDK.out]; exact HZ.out); have hgg := zb (yU HG3.out 1 (.int .i64 ((k : Int) + (y.size : Int)))) hG; refine ⟨rfl,fun l hl => ?_,fun n f hf => ?_⟩
            · rw [hT.out] at hl; cases hl
            · rw [hT.out] at hf
              cases hf
              exact ⟨⟨q,rfl,Nat.le_trans (yU HG3.out 1 (.int .i64 ((k : Int) + (y.size : Int)))).size hq,q0,q1,q2⟩,hgg⟩
          | ok r2 =>
            obtain ⟨hr1,hr2⟩ := mH (s := s) (k := k + x.length) (r := r2) (by rw [HDK.out]; exact hz) (by omega)
            have hT : Hid (pre (acc ++ [(x,c :: r)]) (pt m r2) = jm s.data.toList) := by
              rw [<- HSA.out,hTA,kB,hz,zd5]; rfl
            have HZ := za hz; have HR2 := za hr2; clear hz hTA hr2; go_wp2_with fail
            go_quiet (fail)
            go_wp2_with fail; refine (sN b s k _ hs hlt (HSK.out.drewN nq)).mono ?_; rintro e w1 ⟨hA,hB⟩; clear hB; obtain ⟨y,rfl,hy,hg1⟩ := hA x (by rw [HD.out]; exact HX.out)
            have hyl : y.size = x.length := by rw [zT,hy]
            have hs1 := (HSK.out.drewN nq).kept hg1 (by simp); have hown1 := (fi HOW.out nq).kept hg1 (by cases h : Value.ownBlock _ <;> simp); have hgw := zb (zy HGR.out nq) (zJ hg1 (some b)); have hw1z := hgw.size; have d0 := hs1.c0; have d1 := hs1.c1; have e1 := hs1.f1; have HY := za hy; have HYL := za hyl; have HS1 := za hs1; have HGW := za hgw
            have hyb : y.size <= s.size := by omega
            clear hA hy hyl hs1 hgw hg1 c0 c1 f1
            go_wp2_with (first | (at_builtin; refine wpList_append_own _ rfl _ _ 44 rfl w.heap.size 114 i0 (.agg #[.string ⟨#[]⟩,.int .i64 0]) 2 24 Tryz.underlying44 hi hz0 hz1 hz2 rfl (by decide) _ _ _ rfl (hown1.alloc _) ⟨w1.heap.size,0,none⟩ 1 1 [.string y,.int .i64 (k : Int)] rfl rfl (cell_two_new _ _ _ _) (fun x hx => by simp at hx; rcases hx with rfl | rfl <;> rfl) (by unfold maxLen; omega) (by omega) (by simp; omega) ?_; intro v' w3 hown3 hg3 hnil; have hs3 := (HS1.out.kept (World.grownBy_alloc _ _ none) (by simp)).kept hg3 (fun e => by have := (hown1.lt b e).1; omega); have k0 := hs3.c0; have k1 := hs3.c1; have k2 := hs3.f1; have HG3 := za (vY (zf HGW.out _) hg3 (fun j hj => (hown1.lt j hj).1)); have HS3 := za hs3; have HO3 := za hown3; clear hs3 hown3 hg3 hnil))
            refine (fB b s (k + x.length) _ hs (by omega) (HS3.out.setI ((k : Int) + (y.size : Int)) (k + x.length) (by have := HYL.out; omega))).mono ?_; rintro e w5 ⟨hA,hB⟩; clear hB; obtain ⟨rfl,hs5,hg5⟩ := hA r2 (by rw [HDK.out]; exact HZ.out); have hgg := zb (yU HG3.out 1 (.int .i64 ((k : Int) + (y.size : Int)))) hg5; have hnb : v'.ownBlock = none \/ v'.ownBlock ≠ some b := .inr (fun e => by have := (HO3.out.lt b e).1; omega); have ho5 := (HO3.out.kept (yU (zl w3 (some b)) 1 (.int .i64 ((k : Int) + (y.size : Int)))) hnb).kept hg5 hnb; have HG5 := za hgg; have HO5 := za ho5; have HS5 := za hs5; clear hA hgg ho5 hs5 hg5 hnb k0 k1 k2 d0 d1 e1; go_wp2; refine ⟨⟨r2,acc ++ [(x,c :: r)],m,⟨by omega,HR2.out,HS5.out,?_,HG5.out,hT.out,by omega,by simp; omega⟩⟩,by rw [HS5.out.atOf,hea]; omega⟩
            exact zb8 HO5.out HY.out (by rw [List.length_cons]; omega)
set_option maxHeartbeats 1000000
theorem dT (v : Value) (x : TypeId) (w : World) : (Instr.typeAssert (.iface 47 v) x 47 true).run Tryz.prog w = .ok (.tuple #[v,.bool true]) w := by kernel_rfl
theorem oj (x : TypeId) (w : World) : (Instr.typeAssert .nilIface x 47 true).run Tryz.prog w = .ok (.tuple #[.pointer none,.bool false]) w := by kernel_rfl
theorem tB (p0 p1 q : Addr) (v0 v1 : Value) (older : List PanicEntry) (w : World) (hne : p0 ≠ p1) (h0 : w.cell? p0 = some v0) (h1 : w.cell? p1 = some v1) (z0 : w.frozen? p0 = false) (z1 : w.frozen? p1 = false) :
  CallsD Tryz.prog 25 #[.pointer (some p0),.pointer (some p1)] (.panicking ({ v := .iface 47 (.pointer (some q)),recovered := false } :: older)) w fun e u' w' =>
   e = .returned (.tuple #[]) /\ u' = .panicking ({ v := .iface 47 (.pointer (some q)),recovered := true } :: older) /\ w' = (w.setCell p0 (.slice none 0 0)).setCell p1 (.iface 47 (.pointer (some q))) := by
 refine callsD_of_wpS Tryz.func25 rfl fun c₀ cs hu => ?_
 have b := dT (.pointer (some q))
 have d : (w.setCell p0 (.slice none 0 0)).cell? p1 = some v1 := by rw [World.cell?_setCell_other _ _ _ _ hne]; exact h1
 apply wpS_seq
 apply wpS_region
 simp [wpOpsS,go_sem,recoverD,hu,Tryz.ntmps25,Exit.thenS,b]
 apply wpS_seq
 apply wpS_region
 simp [wpOpsS,go_sem,Array.replicate,Exit.thenS]
 refine wpS_cond (t := true) (by simp [Act.eval]) ?_; simp only [if_true]
 apply wpS_region
 simp [wpOpsS,go_sem,h0,z0,d,z1,bodyPostS,results,Tryz.results25]
theorem cG (p0 p1 : Addr) (w : World) :
  CallsD Tryz.prog 25 #[.pointer (some p0),.pointer (some p1)] .returning w fun e u' w' => e = .returned (.tuple #[]) /\ u' = .returning /\ w' = w := by
 refine callsD_of_wpS Tryz.func25 rfl fun c₀ cs hu => ?_
 have b := oj
 apply wpS_seq
 apply wpS_region
 simp [wpOpsS,go_sem,recoverD,hu,Tryz.ntmps25,Exit.thenS,b]
 apply wpS_seq
 apply wpS_region
 simp [wpOpsS,go_sem,Array.replicate,Exit.thenS]
 refine wpS_cond (t := false) (by simp [Act.eval]) ?_; simp only [Bool.false_eq_true,if_false]; refine wpS_of_wp (wp_skip ?_); cases c₀
 simp_all [bodyPostS,results,Tryz.results25]
def TokensPost (t : List UInt8) (w : World) (e : Ending) (w' : World) : Prop :=
 (4000 < t.length -> e = .returned (.tuple #[.slice none 0 0,.iface 35 (.int .i64 3)])) /\
 (t.length <= 4000 -> ∀ l,jm t = .ok l -> ∃ v,e = .returned (.tuple #[v,.nilIface]) /\ w'.ownsRow w.heap.size 114 2 v l.length (qN t.length l)) /\
 (t.length <= 4000 -> ∀ n f,jm t = .error (n,f) -> ∃ q,e = .returned (.tuple #[.slice none 0 0,.iface 47 (.pointer (some ⟨q,0,none⟩))]) /\
  w'.cell? ⟨q,0,none⟩ = some (.int .i64 0) /\ w'.cell? ⟨q,1,none⟩ = some (.int .i64 ((t.length - f.length : Nat) : Int)) /\ w'.cell? ⟨q,2,none⟩ = some (.iface 35 (.int .i64 n))) /\
 Below w.heap.size w w'
theorem mt (s : ByteArray) (w : World) (hs : s.size <= maxLen) (hl : 4000 < s.size) :
  Calls Tryz.prog 13 #[.string s] w fun e w' => TokensPost s.data.toList w e w' := by
 unfold maxLen at hs
 go_enter_defers Tryz.func13,Tryz.ntmps13
 go_wp2; simp only [bodyPostD,Leaves]; refine ⟨.tuple #[.slice none 0 0,.iface 35 (.int .i64 3)],by simp [results,Tryz.results13,go_sem],fun _ => rfl,fun h => ?_,fun h => ?_,((Below.refl _ _).alloc (Nat.le_refl _) _).alloc (by simp) _⟩
 ·rw [<- zT] at h; omega
 ·rw [<- zT] at h; omega
theorem zbt {w : World} {base base' : Nat} {e : TypeId} {size : Nat} {v : Value} {n : Nat} {xs : List Value} (h : w.ownsRow base e size v n xs) (hb : base' <= base) : w.ownsRow base' e size v n xs := by
 obtain ⟨j,d⟩ := h; refine ⟨j,?_⟩
 rcases d with d | ⟨g,f,i,a,b,c⟩
 ·exact .inl d
 ·exact .inr ⟨g,f,i,a,Nat.le_trans hb b,c⟩
theorem zY {w w' : World} {row : Option Nat} (hg : w.grownBy w' row) {a : Addr} {v : Value} (h : w.cell? a = some v) (hne : some a.block ≠ row) : w'.cell? a = some v := by
 have b : a.block < w.heap.size := by
  rcases Nat.lt_or_ge a.block w.heap.size with d | d
  ·exact d
  ·simp [World.cell?,Array.getElem?_eq_none d] at h
 rw [World.cell?_of_block (w := w) (hg.block _ b hne)]; exact h
theorem yY {w w' : World} {row : Option Nat} (hg : w.grownBy w' row) {a : Addr} {x : Bool} (hlt : a.block < w.heap.size) (h : w.frozen? a = x) (hne : some a.block ≠ row) : w'.frozen? a = x := by
 rw [World.frozen?_of_block (w := w) (hg.block _ hlt hne)]; exact h
theorem oQ (s : ByteArray) (w : World) (hl : s.size <= 4000) :
  Calls Tryz.prog 13 #[.string s] w fun e w' => TokensPost s.data.toList w e w' := by
 have a3 : ∀ (fn : Fn) (first B : Array Value) (w : World),(Instr.makeFunc fn first B).run Tryz.prog w = .ok (.func fn first B) w := fun _ _ _ _ => rfl
 obtain ⟨W,m⟩ : ∃ W,W = ((w.alloc (.cells #[.slice none 0 0] 44)).alloc (.cells #[.nilIface] 30)).alloc (.cells #[.string s,.int .i64 0] 78) := ⟨_,rfl⟩
 have M : W.heap.size = w.heap.size + 3 := by rw [m]; simp
 have N : Sc W (w.heap.size + 1 + 1) s 0 := by
  rw [m]
  exact ⟨by rw [World.cell?_alloc_at _ _ _ _ (by simp)]; rfl,by rw [World.cell?_alloc_at _ _ _ _ (by simp)]; rfl,World.frozen?_alloc_at _ _ _ _ (by simp)⟩
 have a0 : W.cell? ⟨w.heap.size,0,none⟩ = some (.slice none 0 0) := by
  rw [m,World.cell?_alloc_lt _ _ _ (by simp; omega),World.cell?_alloc_lt _ _ _ (by simp)]; simp
 have a1 : W.cell? ⟨w.heap.size + 1,0,none⟩ = some .nilIface := by
  rw [m,World.cell?_alloc_lt _ _ _ (by simp)]; simp
 have b0 : W.frozen? ⟨w.heap.size,0,none⟩ = false := by
  rw [m,World.frozen?_alloc_old _ _ _ (by simp; omega),World.frozen?_alloc_old _ _ _ (by simp)]; simp
 have b1 : W.frozen? ⟨w.heap.size + 1,0,none⟩ = false := by
  rw [m,World.frozen?_alloc_old _ _ _ (by simp)]; simp
 have O : Below w.heap.size w W := by
  rw [m]; exact (((Below.refl _ _).alloc (Nat.le_refl _) _).alloc (by simp) _).alloc (by simp; omega) _
 have HW := za m; have R := za N; have C := za a0; have D := za a1; have E := za b0; have F := za b1; have H := za O; have I := za M; clear m N a0 a1 b0 b1 O M
 go_enter_defers Tryz.func13,Tryz.ntmps13
 go_wp2_with fail; rw [<- HW.out]; refine (iR _ s W (by omega) R.out).mono ?_; rintro e r ⟨Y,hB⟩; cases L : jm s.data.toList with
 | ok l =>
  clear hB; obtain ⟨v,hv,b,d⟩ := Y l L
  obtain ⟨u,y,z,rfl⟩ : ∃ a n c,v = .slice a n c := by
   rcases b.2 with ⟨h,_⟩ | ⟨g,B,a4,h,_⟩
   ·exact ⟨_,_,_,h⟩
   ·exact ⟨_,_,_,h⟩
  subst hv; have U := I.out; have V := zY d C.out (by simp; omega); have X := zY d D.out (by simp); have z0 := yY d (by simp; omega) E.out (by simp; omega); have z1 := yY d (by simp; omega) F.out (by simp); have t : Below w.heap.size w r := H.out.grown d (by omega) (fun k hk => by cases hk; omega)
  have J : ∀ j,j < w.heap.size + 3 -> (Value.slice u y z).ownBlock = none \/ (Value.slice u y z).ownBlock ≠ some j := fun j hj => .inr (fun e => by have := (b.lt j e).1; omega)
  have ho := ((b.kept (yU (zl r (some w.heap.size)) 0 (.slice u y z)) (J _ (by omega))).kept (yU (zl _ (some (w.heap.size + 1))) 0 .nilIface) (J _ (by omega))); have HO := za (zbt ho (show w.heap.size <= W.heap.size from by omega)); have HT := za L; have Z := za t; clear Y b d L t J ho U HW R C D E F H I; go_wp2; refine leaves_cons (f := 25) (args := #[.pointer (some ⟨w.heap.size,0,none⟩),.pointer (some ⟨w.heap.size + 1,0,none⟩)]) (by simp) (by simp [go_sem]) ?_; refine (cG _ _ _).mono ?_; rintro e u' A ⟨rfl,rfl,rfl⟩; simp only [Leaves,settle]; refine ⟨.tuple #[.slice u y z,.nilIface],?_,?_⟩
  ·have g0 : ((r.setCell ⟨w.heap.size,0,none⟩ (.slice u y z)).setCell ⟨w.heap.size + 1,0,none⟩ .nilIface).cell? ⟨w.heap.size,0,none⟩ = some (.slice u y z) := by
    rw [World.cell?_setCell_other _ _ _ _ (by simp)]; exact World.cell?_setCell_same _ _ _ V
   have g1 : ((r.setCell ⟨w.heap.size,0,none⟩ (.slice u y z)).setCell ⟨w.heap.size + 1,0,none⟩ .nilIface).cell? ⟨w.heap.size + 1,0,none⟩ = some .nilIface :=
    World.cell?_setCell_same _ _ _ (show (r.setCell ⟨w.heap.size,0,none⟩ (.slice u y z)).cell? ⟨w.heap.size + 1,0,none⟩ = some .nilIface by rw [World.cell?_setCell_other _ _ _ _ (by simp)]; exact X)
   simp [results,Tryz.results13,go_sem,g0,g1]
  ·refine ⟨fun h => ?_,fun _ l' hl' => ?_,fun _ n f hf => ?_,(Z.out.setCell (by simp) _).setCell (by simp) _⟩
   ·rw [<- zT] at h; omega
   ·rw [HT.out] at hl'
    cases hl'
    exact ⟨_,rfl,by rw [<- zT]; exact HO.out⟩
   ·rw [HT.out] at hf; cases hf
 | error x =>
  clear Y; obtain ⟨n,f⟩ := x; obtain ⟨⟨q,rfl,_,q0,q1,q2⟩,d⟩ := hB n f L; have U := I.out; have V := zY d C.out (by simp; omega); have X := zY d D.out (by simp); have z0 := yY d (by simp; omega) E.out (by simp; omega); have z1 := yY d (by simp; omega) F.out (by simp); have t : Below w.heap.size w r := H.out.grown d (by omega) (fun k hk => by cases hk; omega)
  show Leaves _ _ _ _ _ _ _
  refine leaves_cons (f := 25) (args := #[.pointer (some ⟨w.heap.size,0,none⟩),.pointer (some ⟨w.heap.size + 1,0,none⟩)]) (by simp) (by simp [go_sem]) ?_; refine (tB ⟨w.heap.size,0,none⟩ ⟨w.heap.size + 1,0,none⟩ ⟨q,0,none⟩ _ _ [] _ (by simp) V X z0 z1).mono ?_; rintro e u' A ⟨rfl,rfl,rfl⟩
  show ∃ v,_ /\ _
  obtain ⟨A,i⟩ : ∃ A,A = (r.setCell ⟨w.heap.size,0,none⟩ (.slice none 0 0)).setCell ⟨w.heap.size + 1,0,none⟩ (.iface 47 (.pointer (some ⟨q,0,none⟩))) := ⟨_,rfl⟩
  have g0 : A.cell? ⟨w.heap.size,0,none⟩ = some (.slice none 0 0) := by
   rw [i,World.cell?_setCell_other _ _ _ _ (by simp)]; exact World.cell?_setCell_same _ _ _ V
  have g1 : A.cell? ⟨w.heap.size + 1,0,none⟩ = some (.iface 47 (.pointer (some ⟨q,0,none⟩))) := by
   rw [i]
   exact World.cell?_setCell_same _ _ _ (show (r.setCell ⟨w.heap.size,0,none⟩ (.slice none 0 0)).cell? ⟨w.heap.size + 1,0,none⟩ = some .nilIface by rw [World.cell?_setCell_other _ _ _ _ (by simp)]; exact X)
  have K : ∀ (o : Nat) (x : Value),r.cell? ⟨q,o,none⟩ = some x -> A.cell? ⟨q,o,none⟩ = some x := fun o x hx => by
   rw [i,World.cell?_setCell_other _ _ _ _ (by intro e; have := congrArg Addr.block e; simp only at this; omega),World.cell?_setCell_other _ _ _ _ (by intro e; have := congrArg Addr.block e; simp only at this; omega)]; exact hx
  have a2 : Below w.heap.size w A := by rw [i]; exact (t.setCell (by simp) _).setCell (by simp) _
  rw [<- i]; refine ⟨.tuple #[.slice none 0 0,.iface 47 (.pointer (some ⟨q,0,none⟩))],?_,fun h => ?_,fun _ l' hl' => ?_,fun _ n' f' hf => ?_,a2⟩
  ·simp [results,Tryz.results13,go_sem,g0,g1]
  ·rw [<- zT] at h; omega
  ·rw [L] at hl'; cases hl'
  ·rw [L] at hf
   cases hf
   exact ⟨q,rfl,K _ _ q0,by rw [<- zT]; exact K _ _ q1,K _ _ q2⟩
theorem iu (s : ByteArray) (w : World) (hs : s.size <= maxLen) :
  Calls Tryz.prog 13 #[.string s] w fun e w' => TokensPost s.data.toList w e w' := by
 by_cases b : 4000 < s.size
 ·exact mt s w hs b
 ·exact oQ s w (by omega)
end Go.Proofs.YtfjgelmllcnokaaGreatDoor
